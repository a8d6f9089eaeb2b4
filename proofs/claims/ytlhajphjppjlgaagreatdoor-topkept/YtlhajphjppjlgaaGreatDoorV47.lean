/- Hc Hf -/
import Derived.Test.YtlhajphjppjlgaaGreatDoorV0
import Derived.Test.YtlhajphjppjlgaaGreatDoorV46
import Derived.Test.YtlhajphjppjlgaaGreatDoorT29
import Derived.Shelf.SlMaps.Clone
namespace Go.Proofs.YtlhajphjppjlgaaGreatDoor
open Go.RowKit
set_option maxRecDepth 20000
set_option linter.unusedSimpArgs false
theorem fsum_ok (F : Fr) (lw lb : Nat) (ws : List Wp) (body : List Int) : okK (fsum F lw lb ws body) := by
  unfold fsum; split
  · exact ⟨S.sumL_length _, sumL_inH _⟩
  · exact okK_zk
theorem lookN_fork {T : Sms} {a n : Nat} {prev sum : List Int} (h : lookN T a n prev sum = 11) : a < 8 := by
  unfold lookN at h
  split at h
  · omega
  · rename_i q
    have : ¬ 8 ≤ a := fun x => q (.inl x)
    omega
theorem lookN_cases (T : Sms) (a n : Nat) (prev sum : List Int) : lookN T a n prev sum = 0 ∨ lookN T a n prev sum = 11 ∨ (¬ lookN T a n prev sum = 0 ∧ ¬ lookN T a n prev sum = 11) := by omega
theorem okP_proofN {T : Sms} (hT : OkS T) (a n : Nat) (prev sum : List Int) (ha : a < 8) (hp : okK prev) (hs : okK sum) : okP (proofN T a n prev sum) := by
  have := hT.cnt_le a
  unfold proofN
  split
  · exact ⟨⟨by show (0 : Int) ≤ a; omega, by show (a : Int) ≤ 255; omega⟩, ⟨by show (0 : Int) ≤ n; omega, by show (n : Int) ≤ 4294967295; omega⟩, hT.at_ok _ _, hs⟩
  · exact ⟨⟨by show (0 : Int) ≤ a; omega, by show (a : Int) ≤ 255; omega⟩, ⟨by show (0 : Int) ≤ cnt T a; omega, by show (cnt T a : Int) ≤ 4294967295; omega⟩, hT.at_ok _ _, hp⟩
structure ChainTo (w w' : World) (base H b : Nat) (v v' : Value) (T : Sms) (P : List Pf) : Prop where
  at_ : ChainAt w' base H b v' T P
  turn : Turn (chainP H b v) w w'
  own : v'.ownBlock = v.ownBlock ∨ ∃ g, v'.ownBlock = some g ∧ w.heap.size ≤ g
theorem ChainTo.of_below {w w' : World} {base H b : Nat} {v : Value} {T : Sms} {P : List Pf} (h : ChainAt w base H b v T P) (hb : Below w.heap.size w w') : ChainTo w w' base H b v v T P := ⟨h.far hb, Turn.of_below hb, .inl rfl⟩
theorem ChainTo.below {w w' : World} {base H b : Nat} {v v' : Value} {T T' : Sms} {P P' : List Pf} (h : ChainTo w w' base H b v v' T' P') (hC : ChainAt w base H b v T P) (hB : base ≤ w.heap.size) : Below base w w' := h.turn.below hB fun k hk => (hC.inside k hk).2
section
variable (base H b : Nat) (v : Value) (T : Sms) (P : List Pf) (w : World) (F : Fr) (xw : Option Addr) (lw cw : Nat) (ws : List Wp) (xb : Option Addr) (lb cb : Nat) (body : List Int) (a n : Nat)
set_option maxHeartbeats 8000000 in
theorem chAdd_any (hC : ChainAt w base H b v T P) (hF : FrIn w F xw lw cw ws xb lb cb body) (hKT : S.KTab w) (ha : F.author = (a : Int)) (hn : F.number = (n : Int)) (hbase : base ≤ w.heap.size) :
    Calls Tryz.prog 8 #[.pointer (some ⟨H, 0, none⟩), .agg F.cells.toArray] w fun e w' => e = .returned (.int .i64 (lookN T a n F.prev (fsum F lw lb ws body))) ∧ ∃ v', ChainTo w w' base H b v v' (addSt T P a n F.prev (fsum F lw lb ws body)).1 (addSt T P a n F.prev (fsum F lw lb ws body)).2 := by
  obtain ⟨q0, -, -, -, q4, -⟩ := fr_parts F hF.prev hF.mac
  have hiF : (Tryz.prog.info? 32).map (·.size) = some F.cells.length := by rw [q0]; exact sizeFrame
  have hpl := hF.prev
  have hpok : okK F.prev := ⟨hF.prev, hF.inF.prev⟩
  have hsok := fsum_ok F lw lb ws body
  have hD0 := CellsAt.new w 32 F.cells
  have hB0 : Below w.heap.size w (w.alloc (.cells F.cells.toArray 32)) := (Below.refl _ _).alloc (Nat.le_refl _) _
  have hlook := look_any base H b v T P (w.alloc (.cells F.cells.toArray 32)) F xw lw cw ws xb lb cb body a n (hC.far hB0) (hF.below hB0) (hKT.below hB0) ha hn
  have rF := hD0.wholeM
  have HC := Veil.mk (fun W (hb : Below w.heap.size w W) => hC.far hb)
  have HIN : Veil (∀ k, chainP H b v k → k < w.heap.size) := ⟨fun k hk => (hC.inside k hk).1⟩
  have HLK : Veil (∀ W, Below w.heap.size w W → Calls Tryz.prog 27 #[.agg F.cells.toArray] W fun e w' => e = .returned (.agg (linkC ((a : Int), (n : Int), fsum F lw lb ws body)).toArray) ∧ Below W.heap.size W w') := ⟨fun W hb => by have := linkOf_any F xw lw cw ws xb lb cb body W (hF.below hb) (hKT.below hb); rw [ha, hn] at this; exact this⟩
  have HAG : Veil (∀ W, Below w.heap.size w W → a < 8 → Calls Tryz.prog 29 #[.pointer (some ⟨H, 0, none⟩), .agg F.cells.toArray] W fun e w' => e = .returned (.agg (proofC (proofN T a n F.prev (fsum F lw lb ws body))).toArray) ∧ Below W.heap.size W w') := ⟨fun W hb h8 => against_any base H b v T P W F xw lw cw ws xb lb cb body a n (hC.far hb) (hF.below hb) (hKT.below hb) ha hn h8⟩
  have hok := hC.ok
  have uF : Tryz.prog.underlying 32 = _ := Tryz.underlying32
  have uK : Tryz.prog.underlying 23 = _ := Tryz.underlying23
  have iP : (Tryz.prog.info? 23).map (·.size) = some (F.prev.map (Value.int .u8)).length := by rw [List.length_map, hpl]; exact sizeKeyH
  generalize fsum F lw lb ws body = SM at hsok hlook HLK HAG ⊢
  clear hF hKT ha hn hC
  rcases lookN_cases T a n F.prev SM with h0 | h11 | ⟨hn0, hn11⟩
  · obtain ⟨h8, hnc, hc, hpe⟩ := lookN_le T a n F.prev SM h0
    have HAS : Veil ((addSt T P a n F.prev SM) = (addS T a SM, P)) := ⟨by unfold addSt; rw [if_pos h0]⟩
    have HPUT : Veil (∀ W, ChainAt W base H b v T P → Calls Tryz.prog 26 #[.pointer (some ⟨H, 0, none⟩), .agg (linkC ((a : Int), (n : Int), SM)).toArray, .agg (row .u8 F.prev)] W fun e w' => (∃ r, e = .returned r) ∧ ChainAt w' base H b v (addS T a SM) P ∧ Turn (chainP H b v) W w') := ⟨fun W h => by have := chPut_any base H b v T P W a SM h8 hsok hc h; rw [← hnc, ← hpe] at this; exact this⟩
    rw [h0] at hlook ⊢
    clear h0 hpe hnc hc HAG
    generalize linkC ((a : Int), (n : Int), SM) = LK at HLK HPUT
    go_enter Tryz.func8, Tryz.ntmps8
    go_upto_region 4 with (first
      | (refine wpList_ldv rfl 32 _ rfl _ _ rfl F.cells rF Tryz.underlying32 rfl hiF ?_)
      | (go_at_call 25; refine hlook.mono ?_; rintro e w1 ⟨rfl, hb1⟩))
    have hD1 := hD0.farM hb1
    have hB1 := hB0.trans (hb1.mono hB0.size)
    refine wp_region_gateT (fun w' => w'.rangeAt w.heap.size 0 F.cells ∧ w'.rangeAt w.heap.size 4 (F.prev.map (Value.int .u8))) (fun _ => True) 5 (by kernel_rfl) ?_
    have HT : ∀ W', CellsAt W' w.heap.size 32 F.cells → (fun w' : World => w'.rangeAt w.heap.size 0 F.cells ∧ w'.rangeAt w.heap.size 4 (F.prev.map (Value.int .u8))) W' := fun W' h => ⟨h.wholeM, by have := h.range 4 32; rw [q4] at this; exact this⟩
    have hT := HT w1.drew (hD1.congr rfl)
    have hS := trivial
    have hlk := HLK.out w1.drew hB1.drew
    refine gh 0 ?_ rfl (by kernel_rfl) (fun _ _ _ h => h) hT hS ?_ ?_
    rotate_left
    · intro wx hSw; go_split_ands; go_simp; try with_reducible rfl
    simp only [Act.put, gA, gS, gZ, sI, sZ, sS]
    refine gh 3 ?_ rfl (by kernel_rfl) (fun _ _ _ h => h) hT hS ?_ ?_
    rotate_left
    · intro wx hSw; go_split_ands; go_simp; try with_reducible rfl
    simp only [Act.put, gA, gS, gZ, sI, sZ, sS]
    refine wpAnyT_load (i := 1) (dst := some 13) (ty := 32) (x := .tmp 3) (b := w.heap.size) (o := (0)) (cs := F.cells) (by kernel_rfl) (by kernel_rfl) (by kernel_rfl) (by kernel_rfl) (by kernel_rfl) (fun _ _ _ h => h) (by kernel_rfl) hT (fun _ => hS) (by kernel_rfl) (fun _ h => h.1) uF rfl hiF ?_
    simp only [Act.put, gA, gS, gZ, sI, sZ, sS]
    refine wpAnyT_load (i := 4) (dst := some 16) (ty := 23) (x := .tmp 15) (b := w.heap.size) (o := (4)) (cs := (F.prev.map (Value.int .u8))) (by kernel_rfl) (by kernel_rfl) (by kernel_rfl) (by kernel_rfl) (by kernel_rfl) (fun _ _ _ h => h) (by kernel_rfl) hT (fun _ => hS) (by kernel_rfl) (fun _ h => h.2) uK rfl iP ?_
    simp only [Act.put, gA, gS, gZ, sI, sZ, sS]
    refine wpAnyT_one (i := 2) rfl (by kernel_rfl) (by kernel_rfl) (fun K hK => ?_)
    refine wpx_call _ _ (by kernel_rfl) (hlk.mono ?_)
    rintro e w2 ⟨rfl, hb2⟩
    refine ⟨_, rfl, ?_⟩
    have hB2 := hB1.drew.trans (hb2.mono hB1.drew.size)
    have hD2 := (hD1.congr (w' := w1.drew) rfl).farM hb2
    have hput := HPUT.out w2 (HC.out w2 hB2)
    replace hT := HT w2 hD2
    refine hK.out _ _ hT (fun _ => hS) ?_
    clear hK K
    try simp only [Act.put, gA, gS, gZ, sI, sZ, sS]
    refine wpAnyT_one (i := 5) rfl (by kernel_rfl) (by kernel_rfl) (fun K hK => ?_)
    refine wpx_call _ _ (by kernel_rfl) (hput.mono ?_)
    rintro e w3 ⟨⟨r3, rfl⟩, hC3, hT3⟩
    refine ⟨_, rfl, ?_⟩
    have hD3 : CellsAt w3 w.heap.size 32 F.cells := hD2.congr (hT3.block _ hD2.lt (fun h => by have := HIN.out _ h; omega))
    replace hT := HT w3 hD3
    refine hK.out _ _ hT (fun _ => hS) ?_
    clear hK K
    try simp only [Act.put, gA, gS, gZ, sI, sZ, sS]
    refine wpAnyT_done (by kernel_rfl) ?_ _
    have HE : Veil (ChainAt w3 base H b v (addS T a SM) P ∧ Turn (chainP H b v) w w3) := ⟨hC3, (Turn.of_below hB2).trans hT3⟩
    clear hT HT hS hlk hput hC3 hT3 hD1 hD2 hD3 hB1 hB2 hb1 hb2 hlook HLK HPUT hD0 hB0 rF
    go_wp2
    go_ret
    exact ⟨rfl, v, by rw [HAS.out]; exact HE.out.1, HE.out.2, .inl rfl⟩
  · have h8 := lookN_fork h11
    have HAS : Veil ((addSt T P a n F.prev SM) = (T, noteP P (proofN T a n F.prev SM))) := ⟨by unfold addSt; rw [if_neg (by omega), if_pos h11]⟩
    have hPok := okP_proofN hok a n F.prev SM h8 hpok hsok
    rw [h11] at hlook ⊢
    clear HLK h11
    generalize proofN T a n F.prev SM = PN at HAG HAS hPok
    have hPl := proofC_len PN hPok.2.2.1.1 hPok.2.2.2.1
    have HAG2 : Veil (∀ W, Below w.heap.size w W → Calls Tryz.prog 29 #[.pointer (some ⟨H, 0, none⟩), .agg F.cells.toArray] W fun e w' => e = .returned (.agg (proofC PN).toArray) ∧ Below W.heap.size W w') := ⟨fun W hb => HAG.out W hb h8⟩
    have HNO : Veil (∀ W, Below w.heap.size w W → Calls Tryz.prog 28 #[.pointer (some ⟨H, 0, none⟩), .slice (some ⟨W.heap.size, 0, none⟩) 1 1] (W.alloc (.cells (proofC PN).toArray 47)) fun e w' => (∃ r, e = .returned r) ∧ ∃ v', ChainAt w' base H b v' T (noteP P PN) ∧ Turn (chainP H b v) (W.alloc (.cells (proofC PN).toArray 47)) w' ∧ (v'.ownBlock = v.ownBlock ∨ ∃ g, v'.ownBlock = some g ∧ (W.alloc (.cells (proofC PN).toArray 47)).heap.size ≤ g)) := ⟨fun W hb => by
      have hb' : Below W.heap.size W (W.alloc (.cells (proofC PN).toArray 47)) := (Below.refl _ _).alloc (Nat.le_refl _) _
      have := note_any base H b v T P (W.alloc (.cells (proofC PN).toArray 47)) W.heap.size (.slice (some ⟨W.heap.size, 0, none⟩) 1 1) [PN] ((HC.out W hb).far hb') (OwnI.one W 47 66 (proofC PN) hPl) (by simpa using hPok) (by simp) (fun g hg hp => by
        have h1 := HIN.out g hp
        have h2 := hb.size
        have h3 : W.heap.size = g := by simpa [Value.ownBlock] using hg
        omega) (by have := hb.size; simp; omega)
      exact this⟩
    clear HAG h8 hPok
    obtain ⟨PC, hPC⟩ : ∃ q, proofC PN = q := ⟨_, rfl⟩
    rw [hPC] at hPl HAG2 HNO
    clear hPC
    go_enter Tryz.func8, Tryz.ntmps8
    go_upto_region 6 with (first
      | (refine wpList_ldv rfl 32 _ rfl _ _ rfl F.cells rF Tryz.underlying32 rfl hiF ?_)
      | (go_at_call 25; refine hlook.mono ?_; rintro e w1 ⟨rfl, hb1⟩))
    have hD1 := hD0.farM hb1
    have hB1 := hB0.trans (hb1.mono hB0.size)
    have hag := HAG2.out w1 hB1
    have rF1 := hD1.wholeM
    clear hlook rF hD0 HAG2
    go_wp2_with (first
      | (refine wpList_ldv rfl 32 _ rfl _ _ rfl F.cells rF1 Tryz.underlying32 rfl hiF ?_)
      | (go_at_call 29; refine hag.mono ?_; rintro e w2 ⟨rfl, hb2⟩; have hB2 := hB1.trans (hb2.mono hB1.size); have hno := HNO.out w2 hB2)
      | (refine wpList_bs1 rfl 43 47 _ rfl PC rfl Tryz.underlying43 infoProof (by decide) (by decide) hPl ?_)
      | (go_at_call 28; refine hno.mono ?_; rintro e w3 ⟨⟨r3, rfl⟩, v3, hC3, hT3, hv3⟩))
    go_ret
    have hb3 : Below w2.heap.size w2 (w2.alloc (.cells PC.toArray 47)) := (Below.refl _ _).alloc (Nat.le_refl _) _
    refine ⟨rfl, v3, by rw [HAS.out]; exact hC3, (Turn.of_below (hB2.trans (hb3.mono hB2.size))).trans hT3, ?_⟩
    rcases hv3 with h | ⟨g, h, hg⟩
    · exact .inl h
    · exact .inr ⟨g, h, by have := hB2.size; simp at hg; omega⟩
  · have HAS : Veil ((addSt T P a n F.prev SM) = (T, P)) := ⟨by unfold addSt; rw [if_neg hn0, if_neg hn11]⟩
    generalize lookN T a n F.prev SM = LN at hlook hn0 hn11 ⊢
    have e0 : (LN == 0) = false := by simpa using hn0
    have e11 : (LN == 11) = false := by simpa using hn11
    clear HLK HAG
    go_enter Tryz.func8, Tryz.ntmps8
    go_wp2_with (first
      | (refine wpList_ldv rfl 32 _ rfl _ _ rfl F.cells rF Tryz.underlying32 rfl hiF ?_)
      | (go_at_call 25; refine hlook.mono ?_; rintro e w1 ⟨rfl, hb1⟩))
    go_ret
    have hB1 := hB0.trans (hb1.mono hB0.size)
    exact ⟨rfl, v, by rw [HAS.out]; exact HC.out _ hB1, Turn.of_below hB1, .inl rfl⟩
set_option maxHeartbeats 4000000 in
theorem chProofs_any (hC : ChainAt w base H b v T P) :
    Calls Tryz.prog 12 #[.pointer (some ⟨H, 0, none⟩)] w fun e w' => ∃ v', e = .returned v' ∧ OwnI w' w.heap.size 47 66 v' (P.map proofC) ∧ Below w.heap.size w w' := by
  have c265 := hC.box.cell 265
  rw [chainC_proofs hC.ok] at c265
  have hc := pClone_any base w v P hC.own (by have := hC.lenP; omega)
  obtain ⟨x, c, rfl⟩ := hC.own.isSlice
  generalize (P.map proofC).length = m at c265 hc
  clear hC
  go_enter Tryz.func12, Tryz.ntmps12
  go_wp2_with (go_at_call 33; refine hc.mono ?_; rintro e w1 ⟨v1, rfl, ho1, hb1⟩)
  go_ret
  exact ⟨_, rfl, ho1, hb1⟩
end
section
variable (base H b : Nat) (v : Value) (T : Sms) (P : List Pf) (w : World)
end
end Go.Proofs.YtlhajphjppjlgaaGreatDoor
