/- Fm3 Fm4 -/
import Derived.Test.YtfainlfiphdaeaaGreatDoorT36
import Derived.Test.YtfainlfiphdaeaaGreatDoorT08
namespace Go.Proofs.YtfainlfiphdaeaaGreatDoor
open Go.RowKit
set_option maxRecDepth 20000
set_option linter.unusedSimpArgs false
def ftagL (seed : List Int) (F : Fr) (ws : List Wp) (body : List Int) : List Int := S.tagL (macL seed F.author) (openL F ws ++ body)
theorem ftagL_length (seed : List Int) (F : Fr) (ws : List Wp) (body : List Int) : (ftagL seed F ws body).length = 32 := S.tagL_length _ _
theorem ownB_block {W : World} {base : Nat} {v : Value} {z : List Int} (h : OwnB W base v z) (k : Nat) (hk : v.ownBlock = some k) : base ≤ k := by
  rcases h.2 with ⟨rfl, _⟩ | ⟨g, cap, cur, rfl, h2, _⟩
  · cases hk
  · obtain rfl : g = k := by simpa [Value.ownBlock] using hk
    exact h2
structure FrOk (W : World) (F : Fr) (xw : Option Addr) (lw cw : Nat) (ws : List Wp) (xb : Option Addr) (lb cb : Nat) (body : List Int) : Prop where
  prev : F.prev.length = 32
  mac : F.mac.length = 32
  wraps : F.wraps = .slice xw lw cw
  body_ : F.body = .slice xb lb cb
  hw : WrapsAt W xw lw cw ws
  hb : Bytes W xb lb cb body
theorem FrOk.below {W W' : World} {F : Fr} {xw : Option Addr} {lw cw : Nat} {ws : List Wp} {xb : Option Addr} {lb cb : Nat} {body : List Int} (h : FrOk W F xw lw cw ws xb lb cb body) (hb : Below W.heap.size W W') : FrOk W' F xw lw cw ws xb lb cb body := ⟨h.prev, h.mac, h.wraps, h.body_, h.hw.below hb, h.hb.below hb⟩
section
variable (base H : Nat) (own : Int) (seed : List Int) (b : Nat) (M : Int → Int → Option (List Int)) (v : Value) (L : List (Int × Int)) (w : World)
set_option maxHeartbeats 8000000 in
theorem ftag_any (hR : RingAt w base H own seed b M v L) (hKT : S.KTab w) (F : Fr) (xw : Option Addr) (lw cw : Nat) (ws : List Wp) (xb : Option Addr) (lb cb : Nat) (body : List Int) (hF : FrOk w F xw lw cw ws xb lb cb body) (hl : lw ≤ 64) (hlb : lb ≤ 5000) :
    Calls Tryz.prog 56 #[.pointer (some ⟨H, 0, none⟩), .agg F.cells.toArray] w fun e w' => e = .returned (.agg (row .u8 (ftagL seed F ws body))) ∧ Below w.heap.size w w' := by
  obtain ⟨f70, f0, _, _, _, _, f37, _⟩ := fr_parts F hF.prev hF.mac
  rw [hF.body_] at f37
  have iF : (Tryz.prog.info? 43).map (·.size) = some F.cells.length := by rw [f70]; exact sizeFrame
  obtain ⟨Z, hZl, hZ⟩ : ∃ Z : List Int, Z.length = 32 ∧ Z = List.replicate 32 0 := ⟨_, rfl, rfl⟩
  have hzv : ∀ wx, (zeroValue 23).run Tryz.prog wx = .ok (.agg (row .u8 Z)) wx := fun wx => by rw [hZ]; kernel_rfl
  have hz1 : ¬ (row .u8 Z) = #[] := by intro h; have := congrArg Array.size h; rw [row_size] at this; simp at this; rw [this] at hZl; simp at hZl
  clear hZ
  have hA0 := (CellsAt.new w 43 F.cells).alloc (.cells (row .u8 Z) 23)
  have hZ0 := Holds.new (w.alloc (.cells F.cells.toArray 43)) .u8 23 Z
  rw [World.size_alloc] at hZ0
  have hB0 : Below w.heap.size w ((w.alloc (.cells F.cells.toArray 43)).alloc (.cells (row .u8 Z) 23)) := ((Below.refl _ _).alloc (Nat.le_refl _) _).alloc (by simp) _
  have HMK : Veil (∀ W, Below w.heap.size w W → Calls Tryz.prog 112 #[.pointer (some ⟨H, 0, none⟩), .int .u8 F.author] W fun e w' => e = .returned (.agg (row .u8 (macL seed F.author))) ∧ Below W.heap.size W w') := ⟨fun W hb => rMac_any base H own seed b M v L W F.author (hR.far hb) (hKT.below hb)⟩
  have HOP : Veil (∀ W, Below w.heap.size w W → Calls Tryz.prog 55 #[.agg F.cells.toArray] W fun e w' => ∃ v, e = .returned v ∧ OwnB w' W.heap.size v (openL F ws) ∧ Below W.heap.size W w') := ⟨fun W hb => Open_any F xw lw cw ws W hF.prev hF.mac hF.wraps (hF.hw.below hb) hl⟩
  have HBY : Veil (∀ W, Below w.heap.size w W → Bytes W xb lb cb body) := ⟨fun W hb => hF.hb.below hb⟩
  have hol : (openL F ws).length ≤ 4000 := by
    rw [openL_length F ws hF.prev hF.hw.ok]; have := hF.hw.len_eq; omega
  have HBL : Veil (body.length ≤ 5000) := ⟨by have := hF.hb.len_eq; omega⟩
  have hML : (macL seed F.author).length = 32 := derL_length _ _
  have HHM : Veil (∀ W g x n c, Below w.heap.size w W → Holds W g .u8 23 (macL seed F.author) → Bytes W x n c (openL F ws ++ body) → n ≤ 100000 → Calls Tryz.prog 113 #[.slice (some ⟨g, 0, none⟩) 32 32, .slice x n c] W fun e w' => e = .returned (.agg (row .u8 (ftagL seed F ws body))) ∧ Below W.heap.size W w') := ⟨fun W g x n c hb hk hby hn => S.hmac_any (some ⟨g, 0, none⟩) 32 32 (macL seed F.author) x n c _ W (hk.bytes (by rw [hML]) (by rw [hML]; omega)).toS (by omega) hby.toS (by omega) (hKT.below hb)⟩
  have hTl := ftagL_length seed F ws body
  have HTL : Veil (∀ q, ftagL seed F ws body = q → q = ftagL seed F ws body) := ⟨fun q h => h.symm⟩
  obtain ⟨TG, hTG⟩ : ∃ q, ftagL seed F ws body = q := ⟨_, rfl⟩
  rw [hTG] at HHM hTl ⊢
  obtain ⟨OL, hOL⟩ : ∃ q, openL F ws = q := ⟨_, rfl⟩
  rw [hOL] at HOP HHM hol
  obtain ⟨MK, hMK⟩ : ∃ q, macL seed F.author = q := ⟨_, rfl⟩
  rw [hMK] at HMK HHM hML
  have HF0 : Veil (∀ W, CellsAt W w.heap.size 43 F.cells → W.cell? ⟨w.heap.size, 0, none⟩ = some (.int .u8 F.author) ∧ W.rangeAt w.heap.size 0 F.cells ∧ W.cell? ⟨w.heap.size, 37, none⟩ = some (.slice xb lb cb)) := ⟨fun W h => ⟨(h.cell 0).trans f0, h.wholeM, (h.cell 37).trans f37⟩⟩
  generalize F.author = FA at HMK HF0
  generalize F.cells = FC at hA0 hZ0 hB0 HOP HF0 iF ⊢
  clear hTG hOL hMK hF hR hKT f70 f0 f37 HTL
  have uF := Tryz.underlying43
  go_enter Tryz.func56, Tryz.ntmps56
  go_upto_region 1 with fail
  refine forget (p := fun y => Code.wp _ _ _ _ y) (fun W => Below w.heap.size w W ∧ CellsAt W w.heap.size 43 FC ∧ Holds W (w.heap.size + 1) .u8 23 Z) ⟨hB0, hA0, hZ0⟩ ?_
  clear hB0 hA0 hZ0
  rintro W ⟨hB, hA, hZ⟩
  obtain ⟨c0, -, -⟩ := HF0.out W hA
  have hmk := HMK.out W hB
  go_upto_region 2 with (first
    | (go_at_call 112; refine hmk.mono ?_; rintro e w1 ⟨rfl, hb1⟩; have hk1 := Holds.new w1 .u8 23 Z; clear hmk)
    | (refine wpList_st rfl 23 _ _ rfl _ rfl rfl hk1 (by rw [hML]; exact sizeKeyD) (by rw [hZl, hML]) ?_))
  have hb2 : Below w1.heap.size w1 ((w1.alloc (.cells (row .u8 Z) 23)).setRow w1.heap.size (row .u8 MK)) := below_setRow ((Below.refl _ _).alloc (Nat.le_refl _) _) (Nat.le_refl _) _
  have hB1 := hB.trans (hb1.mono hB.size)
  refine forget (p := fun y => Code.wp _ _ _ _ y) (fun V => Below w.heap.size w V ∧ CellsAt V w.heap.size 43 FC ∧ Holds V (w.heap.size + 1) .u8 23 Z ∧ Holds V w1.heap.size .u8 23 MK) ⟨hB1.trans (hb2.mono hB1.size), (hA.farM hb1).farM hb2, (hZ.below hb1 hZ.lt).below hb2 (hZ.below hb1 hZ.lt).lt, hk1.setRow _⟩ ?_
  have hwZ := (hZ.below hb1 hZ.lt).lt
  clear hb2 hB1 hk1 hb1 c0 hB hA hZ HMK hzv hz1
  obtain ⟨g, hg⟩ : ∃ q, w1.heap.size = q := ⟨_, rfl⟩
  rw [hg] at hwZ ⊢
  clear hg
  clear w1 W
  rintro W ⟨hB, hA, hZ, hK⟩
  have hBd := hB.drew
  have hAd := hA.congr (w' := W.drew) rfl
  have hb0 : Below W.heap.size W W.drew := (Below.refl _ _).drew
  have hZd := hZ.below hb0 hZ.lt
  have hKd := hK.below hb0 hK.lt
  refine wp_region_gateT (fun w' => w'.rangeAt w.heap.size 0 FC ∧ w'.cell? ⟨w.heap.size, 37, none⟩ = some (.slice xb lb cb)) (fun _ => True) 99 (by kernel_rfl) ?_
  have hT : (fun w' : World => w'.rangeAt w.heap.size 0 FC ∧ w'.cell? ⟨w.heap.size, 37, none⟩ = some (.slice xb lb cb)) W.drew := (HF0.out _ hAd).2
  have hS := trivial
  refine wpAnyT_held (i := 0) (v := ?_) rfl (by kernel_rfl) (by kernel_rfl) (by kernel_rfl) (fun _ _ _ h => h) (by kernel_rfl) hT (fun _ => hS) (by kernel_rfl) ?_ ?_
  rotate_left
  · intro wx hSw; go_split_ands; go_simp; try with_reducible rfl
  simp only [Act.put, gA, gS, gZ, sI, sZ, sS]
  refine wpAnyT_held (i := 3) (v := ?_) rfl (by kernel_rfl) (by kernel_rfl) (by kernel_rfl) (fun _ _ _ h => h) (by kernel_rfl) hT (fun _ => hS) (by kernel_rfl) ?_ ?_
  rotate_left
  · intro wx hSw; go_split_ands; go_simp; try with_reducible rfl
  simp only [Act.put, gA, gS, gZ, sI, sZ, sS]
  refine wpAnyT_held (i := 4) (v := ?_) rfl (by kernel_rfl) (by kernel_rfl) (by kernel_rfl) (fun _ _ _ h => h) (by kernel_rfl) hT (fun _ => hS) (by kernel_rfl) ?_ ?_
  rotate_left
  · intro wx hSw; go_split_ands; go_simp; try with_reducible rfl
  simp only [Act.put, gA, gS, gZ, sI, sZ, sS]
  refine wpAnyT_load (i := 1) (dst := some 11) (ty := 43) (x := .tmp 3) (b := w.heap.size) (o := (0)) (cs := FC) (by kernel_rfl) (by kernel_rfl) (by kernel_rfl) (by kernel_rfl) (by kernel_rfl) (fun _ _ _ h => h) (by kernel_rfl) hT (fun _ => hS) (by kernel_rfl) (fun _ h => h.1) uF rfl iF ?_
  simp only [Act.put, gA, gS, gZ, sI, sZ, sS]
  refine wpAnyT_one (i := 2) rfl (by kernel_rfl) (by kernel_rfl) (fun K hK => ?_)
  refine wpx_call _ _ (by kernel_rfl) ((HOP.out W.drew hBd).mono ?_)
  rintro e w2 ⟨v2, rfl, ho2, hb2⟩
  refine ⟨_, rfl, ?_⟩
  have hB2 := hBd.trans (hb2.mono hBd.size)
  have hA2 := hAd.farM hb2
  have hZ2 := hZd.below hb2 hZd.lt
  have hK2 := hKd.below hb2 hKd.lt
  replace hT : (fun w' : World => w'.rangeAt w.heap.size 0 FC ∧ w'.cell? ⟨w.heap.size, 37, none⟩ = some (.slice xb lb cb)) w2 := (HF0.out _ hA2).2
  refine hK.out _ _ hT (fun _ => hS) ?_
  clear hK K
  try simp only [Act.put, gA, gS, gZ, sI, sZ, sS]
  refine wpAnyT_one (i := 5) rfl (by kernel_rfl) (by kernel_rfl) (fun K hK => ?_)
  refine wp_appA _ _ rfl W.drew.heap.size v2 OL rfl ho2 xb lb cb body rfl (HBY.out w2 hB2) (by omega) hb2.size ?_
  intro v3 w3 ho3 hg3
  have hb3 : Below W.drew.heap.size W.drew w3 := hb2.grown hg3 hb2.size (fun k hk => (ownB_block ho2 k hk))
  have hB3 := hBd.trans (hb3.mono hBd.size)
  have hA3 := hAd.farM hb3
  have hZ3 := hZd.below hb3 hZd.lt
  have hK3 := hKd.below hb3 hKd.lt
  obtain ⟨x3, n3, c3, rfl, hn3⟩ := ho3.isSlice
  replace hT : (fun w' : World => w'.rangeAt w.heap.size 0 FC ∧ w'.cell? ⟨w.heap.size, 37, none⟩ = some (.slice xb lb cb)) w3 := (HF0.out _ hA3).2
  have hhm := HHM.out w3 g x3 n3 c3 hB3 hK3 ho3.bytes.2 (by rw [hn3, List.length_append]; have := HBL.out; omega)
  refine hK.out _ _ hT (fun _ => hS) ?_
  clear hK K
  try simp only [Act.put, gA, gS, gZ, sI, sZ, sS]
  refine wpAnyT_one (i := 6) rfl (by kernel_rfl) (by kernel_rfl) (fun K hK => ?_)
  refine wpx_call _ _ (by kernel_rfl) (hhm.mono ?_)
  rintro e w4 ⟨rfl, hb4⟩
  refine ⟨_, rfl, ?_⟩
  have hB4 := hB3.trans (hb4.mono hB3.size)
  have hA4 := hA3.farM hb4
  have hZ4 := hZ3.below hb4 hZ3.lt
  replace hT : (fun w' : World => w'.rangeAt w.heap.size 0 FC ∧ w'.cell? ⟨w.heap.size, 37, none⟩ = some (.slice xb lb cb)) w4 := (HF0.out _ hA4).2
  refine hK.out _ _ hT (fun _ => hS) ?_
  clear hK K
  try simp only [Act.put, gA, gS, gZ, sI, sZ, sS]
  refine wpAnyT_one (i := 7) rfl (by kernel_rfl) (by kernel_rfl) (fun K hK => ?_)
  refine wp_stG 23 _ _ rfl (w.heap.size + 1) rfl rfl hZ4 (by rw [hTl]; exact sizeKeyD) (by rw [hZl, hTl]) ?_
  have hA5 : CellsAt (w4.setRow (w.heap.size + 1) (row .u8 TG)) w.heap.size 43 FC := hA4.setRowM _ (by omega)
  replace hT : (fun w' : World => w'.rangeAt w.heap.size 0 FC ∧ w'.cell? ⟨w.heap.size, 37, none⟩ = some (.slice xb lb cb)) (w4.setRow (w.heap.size + 1) (row .u8 TG)) := (HF0.out _ hA5).2
  refine hK.out _ _ hT (fun _ => hS) ?_
  clear hK K
  try simp only [Act.put, gA, gS, gZ, sI, sZ, sS]
  refine wpAnyT_done (by kernel_rfl) ?_ _
  have HE : Veil (Holds (w4.setRow (w.heap.size + 1) (row .u8 TG)) (w.heap.size + 1) .u8 23 TG ∧ Below w.heap.size w (w4.setRow (w.heap.size + 1) (row .u8 TG))) := ⟨hZ4.setRow _, below_setRow hB4 (by omega) _⟩
  clear hT hS hA5 hA4 hZ4 hB4 hb4 hhm ho3 hA3 hZ3 hK3 hB3 hb3 hg3 ho2 hb2 hB2 hA2 hZ2 hK2 hBd hAd hb0 hZd hKd hB hA hZ hK
  go_wp2
  refine bodyPost_ret (results_holds (Tryz.results56) _ rfl HE.out.1 Tryz.underlying23 sizeKeyD hTl) rfl ⟨rfl, HE.out.2⟩
end
end Go.Proofs.YtfainlfiphdaeaaGreatDoor
namespace Go.Proofs.YtfainlfiphdaeaaGreatDoor
open Go.RowKit
set_option maxRecDepth 20000
set_option linter.unusedSimpArgs false
def frZ1 : Fr := ⟨0, 0, 0, 0, List.replicate 32 0, .slice none 0 0, .slice none 0 0, List.replicate 32 0⟩
theorem stop_asserted (n : Int) (wx : World) : (Instr.typeAssert (.iface 140 (.agg #[.int .i64 n])) 20 140 true).run Tryz.prog wx = .ok (.tuple #[.agg #[.int .i64 n], .bool true]) wx := by kernel_rfl
set_option maxHeartbeats 4000000 in
theorem catchF_any (B : Nat) (v : Value) (n : Int) (w : World) (hB : Box w B 44 v) :
    CallsD Tryz.prog 99 #[.pointer (some ⟨B, 0, none⟩)] (.panicking [stopP n]) w fun e u' w' =>
      e = .returned (.tuple #[]) ∧ u' = .panicking [{ v := .iface 140 (.agg #[.int .i64 n]), recovered := true }] ∧ Box w' B 44 (.int .i64 n) ∧ (∀ k, k < w.heap.size → k ≠ B → w'.heap[k]? = w.heap[k]?) ∧ ∀ base, base ≤ B → base ≤ w.heap.size → Below base w w' := by
  have hta := stop_asserted n
  have hN1 := CellsAt.new w 140 [.int .i64 0]
  have hB1 := hB.alloc (.cells #[.int .i64 0] 140)
  have hB2 : Box ((w.alloc (.cells #[.int .i64 0] 140)).setRow w.heap.size #[.int .i64 n]) B 44 v := by
    have := hB.lt
    unfold Box at hB1 ⊢
    rw [setRow_other _ _ _ _ (by omega)]; exact hB1
  have hl := hB.lt
  have cN : ((w.alloc (.cells #[.int .i64 0] 140)).setRow w.heap.size #[.int .i64 n]).cell? ⟨w.heap.size, 0, none⟩ = some (.int .i64 n) := (hN1.setRow [.int .i64 n]).cell 0
  have cB := hB2.cell
  have fB := hB2.frozen
  have iS : (Tryz.prog.info? 140).map (·.size) = some ([.int .i64 n] : List Value).length := by kernel_rfl
  have h1S : ∀ v ∈ ([.int .i64 n] : List Value), v.oneCell' = true := by intro v hv; rw [List.mem_singleton.1 hv]; rfl
  have q2 := hB2.set (.int .i64 n)
  have q4 : ∀ k, k < w.heap.size → k ≠ B → (((w.alloc (.cells #[.int .i64 0] 140)).setRow w.heap.size #[.int .i64 n]).setCell ⟨B, 0, none⟩ (.int .i64 n)).heap[k]? = w.heap[k]? := fun k hk hne => by
    rw [heap_setCell_other _ ⟨B, 0, none⟩ k _ hne, setRow_other _ _ _ _ (by omega)]
    exact Below.heap_alloc w _ k hk
  have q3 : ∀ base, base ≤ B → base ≤ w.heap.size → Below base w (((w.alloc (.cells #[.int .i64 0] 140)).setRow w.heap.size #[.int .i64 n]).setCell ⟨B, 0, none⟩ (.int .i64 n)) := fun base h1 h2 => (below_setRow ((Below.refl _ _).alloc h2 _) h2 _).setCell h1 _
  clear hB hB1 hB2 hl
  refine callsD_of_wpS Tryz.func99 rfl fun c₀ cs hu => ?_
  apply wpS_seq
  apply wpS_region
  simp [wpOpsS, go_sem, recoverD, hu, stopP, Tryz.ntmps99, Exit.thenS]
  refine wpS_of_wp ?_
  change Code.wp _ _ _ { tmps := #[.pointer (some ⟨B, 0, none⟩), undef, undef, undef, .iface 140 (.agg #[.int .i64 n]), undef, undef, undef, undef, undef, undef, undef], defers := [] } _
  go_wp2_with (refine wpList_stv rfl 140 _ _ rfl _ rfl rfl hN1 iS rfl h1S ?_)
  simp [bodyPostS, results, Tryz.results99]
  exact ⟨q2, q4, q3⟩
set_option maxHeartbeats 2000000 in
theorem catchF_idle (B : Nat) (w : World) :
    CallsD Tryz.prog 99 #[.pointer (some ⟨B, 0, none⟩)] .returning w fun e u' w' => e = .returned (.tuple #[]) ∧ u' = .returning ∧ w' = w := by
  have hni := nilIface_eq
  refine callsD_of_wpS Tryz.func99 rfl fun c₀ cs hu => ?_
  apply wpS_seq
  apply wpS_region
  simp [wpOpsS, go_sem, recoverD, hu, Tryz.ntmps99, Exit.thenS]
  refine wpS_of_wp ?_
  change Code.wp _ _ _ { tmps := #[.pointer (some ⟨B, 0, none⟩), undef, undef, undef, .nilIface, undef, undef, undef, undef, undef, undef, undef], defers := [] } _
  go_wp2
  cases c₀
  simp_all [bodyPostS, results, Tryz.results99]
theorem resultsF {fn : Func} {p q : Tmp} (h : fn.results = #[.cell p 43, .cell q 44]) (tmps : Array Value) {w : World} {A B : Nat} {cs : List Value} {v : Int} (hp : tmps.getD p undef = .pointer (some ⟨A, 0, none⟩)) (hq : tmps.getD q undef = .pointer (some ⟨B, 0, none⟩)) (hA : CellsAt w A 43 cs) (hB : Box w B 44 (.int .i64 v)) (hi : (Tryz.prog.info? 43).map (·.size) = some cs.length) :
    (results fn tmps).run Tryz.prog w = .ok (.tuple #[.agg cs.toArray, .int .i64 v]) w := by
  have hp' : tmps[p]?.getD undef = .pointer (some ⟨A, 0, none⟩) := by simpa using hp
  have hq' : tmps[q]?.getD undef = .pointer (some ⟨B, 0, none⟩) := by simpa using hq
  have hc := hB.cell
  have hl := run_loadVar_row w A 43 43 cs.toArray (0, 0) _ hA Tryz.underlying43 rfl (by rw [hi]; simp)
  have hlB : (loadVar 44 ⟨B, 0, none⟩).run Tryz.prog w = .ok (.int .i64 v) w := by simp [go_sem, hc]
  simp [results, h, hp', hq', asAddr, hl, hlB]
set_option maxHeartbeats 4000000 in
theorem catchV_any (B : Nat) (v : Value) (n : Int) (w : World) (hB : Box w B 44 v) :
    CallsD Tryz.prog 123 #[.pointer (some ⟨B, 0, none⟩)] (.panicking [stopP n]) w fun e u' w' =>
      e = .returned (.tuple #[]) ∧ u' = .panicking [{ v := .iface 140 (.agg #[.int .i64 n]), recovered := true }] ∧ Box w' B 44 (.int .i64 n) ∧ (∀ k, k < w.heap.size → k ≠ B → w'.heap[k]? = w.heap[k]?) ∧ ∀ base, base ≤ B → base ≤ w.heap.size → Below base w w' := by
  have hta := stop_asserted n
  have hN1 := CellsAt.new w 140 [.int .i64 0]
  have hB1 := hB.alloc (.cells #[.int .i64 0] 140)
  have hB2 : Box ((w.alloc (.cells #[.int .i64 0] 140)).setRow w.heap.size #[.int .i64 n]) B 44 v := by
    have := hB.lt
    unfold Box at hB1 ⊢
    rw [setRow_other _ _ _ _ (by omega)]; exact hB1
  have hl := hB.lt
  have cN : ((w.alloc (.cells #[.int .i64 0] 140)).setRow w.heap.size #[.int .i64 n]).cell? ⟨w.heap.size, 0, none⟩ = some (.int .i64 n) := (hN1.setRow [.int .i64 n]).cell 0
  have cB := hB2.cell
  have fB := hB2.frozen
  have iS : (Tryz.prog.info? 140).map (·.size) = some ([.int .i64 n] : List Value).length := by kernel_rfl
  have h1S : ∀ v ∈ ([.int .i64 n] : List Value), v.oneCell' = true := by intro v hv; rw [List.mem_singleton.1 hv]; rfl
  have q2 := hB2.set (.int .i64 n)
  have q4 : ∀ k, k < w.heap.size → k ≠ B → (((w.alloc (.cells #[.int .i64 0] 140)).setRow w.heap.size #[.int .i64 n]).setCell ⟨B, 0, none⟩ (.int .i64 n)).heap[k]? = w.heap[k]? := fun k hk hne => by
    rw [heap_setCell_other _ ⟨B, 0, none⟩ k _ hne, setRow_other _ _ _ _ (by omega)]
    exact Below.heap_alloc w _ k hk
  have q3 : ∀ base, base ≤ B → base ≤ w.heap.size → Below base w (((w.alloc (.cells #[.int .i64 0] 140)).setRow w.heap.size #[.int .i64 n]).setCell ⟨B, 0, none⟩ (.int .i64 n)) := fun base h1 h2 => (below_setRow ((Below.refl _ _).alloc h2 _) h2 _).setCell h1 _
  clear hB hB1 hB2 hl
  refine callsD_of_wpS Tryz.func123 rfl fun c₀ cs hu => ?_
  apply wpS_seq
  apply wpS_region
  simp [wpOpsS, go_sem, recoverD, hu, stopP, Tryz.ntmps123, Exit.thenS]
  refine wpS_of_wp ?_
  change Code.wp _ _ _ { tmps := #[.pointer (some ⟨B, 0, none⟩), undef, undef, undef, .iface 140 (.agg #[.int .i64 n]), undef, undef, undef, undef, undef, undef, undef], defers := [] } _
  go_wp2_with (refine wpList_stv rfl 140 _ _ rfl _ rfl rfl hN1 iS rfl h1S ?_)
  simp [bodyPostS, results, Tryz.results123]
  exact ⟨q2, q4, q3⟩
set_option maxHeartbeats 2000000 in
theorem catchV_idle (B : Nat) (w : World) :
    CallsD Tryz.prog 123 #[.pointer (some ⟨B, 0, none⟩)] .returning w fun e u' w' => e = .returned (.tuple #[]) ∧ u' = .returning ∧ w' = w := by
  have hni := nilIface_eq
  refine callsD_of_wpS Tryz.func123 rfl fun c₀ cs hu => ?_
  apply wpS_seq
  apply wpS_region
  simp [wpOpsS, go_sem, recoverD, hu, Tryz.ntmps123, Exit.thenS]
  refine wpS_of_wp ?_
  change Code.wp _ _ _ { tmps := #[.pointer (some ⟨B, 0, none⟩), undef, undef, undef, .nilIface, undef, undef, undef, undef, undef, undef, undef], defers := [] } _
  go_wp2
  cases c₀
  simp_all [bodyPostS, results, Tryz.results123]
theorem resultsV {fn : Func} {p q : Tmp} (h : fn.results = #[.cell p 33, .cell q 44]) (tmps : Array Value) {w : World} {A B : Nat} {cs : List Value} {v : Int} (hp : tmps.getD p undef = .pointer (some ⟨A, 0, none⟩)) (hq : tmps.getD q undef = .pointer (some ⟨B, 0, none⟩)) (hA : CellsAt w A 33 cs) (hB : Box w B 44 (.int .i64 v)) (hi : (Tryz.prog.info? 33).map (·.size) = some cs.length) :
    (results fn tmps).run Tryz.prog w = .ok (.tuple #[.agg cs.toArray, .int .i64 v]) w := by
  have hp' : tmps[p]?.getD undef = .pointer (some ⟨A, 0, none⟩) := by simpa using hp
  have hq' : tmps[q]?.getD undef = .pointer (some ⟨B, 0, none⟩) := by simpa using hq
  have hc := hB.cell
  have hl := run_loadVar_row w A 33 33 cs.toArray (0, 0) _ hA Tryz.underlying33 rfl (by rw [hi]; simp)
  have hlB : (loadVar 44 ⟨B, 0, none⟩).run Tryz.prog w = .ok (.int .i64 v) w := by simp [go_sem, hc]
  simp [results, h, hp', hq', asAddr, hl, hlB]
set_option maxHeartbeats 4000000 in
theorem triedS_ok (c0 c1 c2 c3 c4 c5 : Value) (R : List Value → World → Prop) (w : World)
    (hs : ∀ W, Below w.heap.size w W → W.heap.size = w.heap.size + 2 → Calls Tryz.prog 42 #[c0, c1, c2, c3, c4, c5] W fun e w' => ∃ cs, e = .returned (.agg cs.toArray) ∧ R cs w' ∧ Below W.heap.size W w')
    (hR : ∀ cs w', R cs w' → cs.length = frZ1.cells.length ∧ ∀ v ∈ cs, v.oneCell' = true) :
    Calls Tryz.prog 41 #[.func (.func 42) #[] #[c0, c1, c2, c3, c4, c5]] w fun e w' => ∃ cs w1, e = .returned (.tuple #[.agg cs.toArray, .int .i64 0]) ∧ R cs w1 ∧ w.heap.size + 2 ≤ w1.heap.size ∧ w1.heap.size = w'.heap.size ∧ (∀ k, k ≠ w.heap.size → k ≠ w.heap.size + 1 → w'.heap[k]? = w1.heap[k]?) ∧ Below w.heap.size w w' := by
  have hmf := make_func
  obtain ⟨Z, hzv, hz1, hZ⟩ : ∃ Z : List Value, (∀ wx, (zeroValue 43).run Tryz.prog wx = .ok (.agg Z.toArray) wx) ∧ ¬ Z.toArray = #[] ∧ Z = frZ1.cells := ⟨frZ1.cells, fun wx => by kernel_rfl, by decide, rfl⟩
  rw [← hZ] at hR
  have hZl : (Tryz.prog.info? 43).map (·.size) = some Z.length := by rw [hZ]; kernel_rfl
  clear hZ
  have hA0 := (CellsAt.new w 43 Z).alloc (.cells #[.int .i64 0] 44)
  have hB0 : Box ((w.alloc (.cells Z.toArray 43)).alloc (.cells #[.int .i64 0] 44)) (w.heap.size + 1) 44 (.int .i64 0) := by
    have : Box ((w.alloc (.cells Z.toArray 43)).alloc (.cells #[.int .i64 0] 44)) (w.alloc (.cells Z.toArray 43)).heap.size 44 (.int .i64 0) := heap_alloc_new _ _
    rw [World.size_alloc] at this
    exact this
  have hW0 : Below w.heap.size w ((w.alloc (.cells Z.toArray 43)).alloc (.cells #[.int .i64 0] 44)) := ((Below.refl _ _).alloc (Nat.le_refl _) _).alloc (by simp) _
  have hs0 : ((w.alloc (.cells Z.toArray 43)).alloc (.cells #[.int .i64 0] 44)).heap.size = w.heap.size + 2 := by simp
  have HS := Veil.mk hs
  have HR := Veil.mk hR
  clear hs hR
  go_enter_defers Tryz.func41, Tryz.ntmps41
  go_upto_region 2 with fail
  refine forget (p := fun y => Code.wp _ _ _ _ y) (fun W0 => Below w.heap.size w W0 ∧ W0.heap.size = w.heap.size + 2 ∧ CellsAt W0 w.heap.size 43 Z ∧ Box W0 (w.heap.size + 1) 44 (.int .i64 0)) ⟨hW0, hs0, hA0, hB0⟩ ?_
  clear hW0 hs0 hA0 hB0 hmf hzv hz1
  rintro W0 ⟨hW0, hs0, hA0, hB0⟩
  have h1 := HS.out W0 hW0 hs0
  have HKP : Veil (∀ w1, Below W0.heap.size W0 w1 → CellsAt w1 w.heap.size 43 Z ∧ Box w1 (w.heap.size + 1) 44 (.int .i64 0) ∧ Below w.heap.size w w1 ∧ w.heap.size + 2 ≤ w1.heap.size) := ⟨fun w1 h => ⟨hA0.farM h, by unfold Box at hB0 ⊢; rw [h.block _ (by omega)]; exact hB0, hW0.trans (h.mono hW0.size), by have := h.size; omega⟩⟩
  have HSB : Veil (∀ (w1 : World) (cs : List Value), Box w1 (w.heap.size + 1) 44 (.int .i64 0) → Box (w1.setRow w.heap.size cs.toArray) (w.heap.size + 1) 44 (.int .i64 0)) := ⟨fun w1 cs h => by unfold Box at h ⊢; rw [setRow_other _ _ _ _ (by omega)]; exact h⟩
  have HIN : Veil (∀ cs : List Value, cs.length = Z.length → (Tryz.prog.info? 43).map (·.size) = some cs.length) := ⟨fun cs h => by rw [h]; exact hZl⟩
  clear hs0 hA0 hB0 hW0 HS hZl
  go_wp2_with (first
    | (go_at_call 42; refine h1.mono ?_; rintro e w1 ⟨cs, rfl, hr1, hb1⟩; obtain ⟨hA1, hB1, hW1, hs1⟩ := HKP.out w1 hb1; obtain ⟨hcl, hc1⟩ := HR.out cs w1 hr1; have hiC := HIN.out cs hcl; have hB2 := HSB.out w1 cs hB1; have cB := hB2.cell; have fB := hB2.frozen; have HR1 := Veil.mk hr1; clear h1 HKP HSB HIN hr1 hB1 hb1)
    | (refine wpList_stv rfl 43 _ _ rfl _ rfl rfl hA1 hiC hcl.symm hc1 ?_))
  refine leaves_cons (f := 99) (args := #[.pointer (some ⟨w.heap.size + 1, 0, none⟩)]) (by simp) (by simp [go_sem]) ?_
  refine (catchF_idle (w.heap.size + 1) _).mono ?_
  rintro e u' w'' ⟨rfl, rfl, rfl⟩
  have hA5 := (hA1.setRow cs).setOther2 ⟨w.heap.size + 1, 0, none⟩ (.int .i64 0) (by show w.heap.size ≠ w.heap.size + 1; omega)
  have hB5 := hB2.set (.int .i64 0)
  have hW5 : Below w.heap.size w ((w1.setRow w.heap.size cs.toArray).setCell ⟨w.heap.size + 1, 0, none⟩ (.int .i64 0)) := (below_setRow hW1 (Nat.le_refl _) _).setCell (by show w.heap.size ≤ w.heap.size + 1; omega) _
  exact ⟨_, resultsF Tryz.results41 _ rfl rfl hA5 hB5 hiC, cs, w1, rfl, HR1.out, hs1, by simp [World.setCell, World.setRow], fun k h1 h2 => by rw [heap_setCell_other _ ⟨w.heap.size + 1, 0, none⟩ k _ h2, setRow_other _ _ _ _ h1], hW5⟩
set_option maxHeartbeats 4000000 in
theorem triedS_bad (c0 c1 c2 c3 c4 c5 : Value) (n : Int) (w : World)
    (hs : ∀ W, Below w.heap.size w W → W.heap.size = w.heap.size + 2 → Calls Tryz.prog 42 #[c0, c1, c2, c3, c4, c5] W fun e w' => e = .panicked [stopP n] ∧ Below W.heap.size W w') :
    Calls Tryz.prog 41 #[.func (.func 42) #[] #[c0, c1, c2, c3, c4, c5]] w fun e w' => e = .returned (.tuple #[.agg frZ1.cells.toArray, .int .i64 n]) ∧ Below w.heap.size w w' := by
  have hmf := make_func
  obtain ⟨Z, hzv, hz1, hZ⟩ : ∃ Z : List Value, (∀ wx, (zeroValue 43).run Tryz.prog wx = .ok (.agg Z.toArray) wx) ∧ ¬ Z.toArray = #[] ∧ Z = frZ1.cells := ⟨frZ1.cells, fun wx => by kernel_rfl, by decide, rfl⟩
  rw [← hZ]
  have hZl : (Tryz.prog.info? 43).map (·.size) = some Z.length := by rw [hZ]; kernel_rfl
  clear hZ
  have hA0 := (CellsAt.new w 43 Z).alloc (.cells #[.int .i64 0] 44)
  have hB0 : Box ((w.alloc (.cells Z.toArray 43)).alloc (.cells #[.int .i64 0] 44)) (w.heap.size + 1) 44 (.int .i64 0) := by
    have : Box ((w.alloc (.cells Z.toArray 43)).alloc (.cells #[.int .i64 0] 44)) (w.alloc (.cells Z.toArray 43)).heap.size 44 (.int .i64 0) := heap_alloc_new _ _
    rw [World.size_alloc] at this
    exact this
  have hW0 : Below w.heap.size w ((w.alloc (.cells Z.toArray 43)).alloc (.cells #[.int .i64 0] 44)) := ((Below.refl _ _).alloc (Nat.le_refl _) _).alloc (by simp) _
  have hs0 : ((w.alloc (.cells Z.toArray 43)).alloc (.cells #[.int .i64 0] 44)).heap.size = w.heap.size + 2 := by simp
  have HS := Veil.mk hs
  clear hs
  go_enter_defers Tryz.func41, Tryz.ntmps41
  go_upto_region 2 with fail
  refine forget (p := fun y => Code.wp _ _ _ _ y) (fun W0 => Below w.heap.size w W0 ∧ W0.heap.size = w.heap.size + 2 ∧ CellsAt W0 w.heap.size 43 Z ∧ Box W0 (w.heap.size + 1) 44 (.int .i64 0)) ⟨hW0, hs0, hA0, hB0⟩ ?_
  clear hW0 hs0 hA0 hB0 hmf hzv hz1
  rintro W0 ⟨hW0, hs0, hA0, hB0⟩
  have h1 := HS.out W0 hW0 hs0
  have HKP : Veil (∀ w1, Below W0.heap.size W0 w1 → CellsAt w1 w.heap.size 43 Z ∧ Box w1 (w.heap.size + 1) 44 (.int .i64 0) ∧ Below w.heap.size w w1 ∧ w.heap.size + 2 ≤ w1.heap.size) := ⟨fun w1 h => ⟨hA0.farM h, by unfold Box at hB0 ⊢; rw [h.block _ (by omega)]; exact hB0, hW0.trans (h.mono hW0.size), by have := h.size; omega⟩⟩
  clear hs0 hA0 hB0 hW0 HS
  go_wp2_with (go_at_call 42; refine h1.mono ?_; rintro e w1 ⟨rfl, hb1⟩)
  obtain ⟨hA1, hB1, hW1, hs1⟩ := HKP.out w1 hb1
  refine leaves_cons (f := 99) (args := #[.pointer (some ⟨w.heap.size + 1, 0, none⟩)]) (by simp) (by simp [go_sem]) ?_
  refine (catchF_any (w.heap.size + 1) _ n w1 hB1).mono ?_
  rintro e u' w'' ⟨rfl, rfl, hB5, hk5, hbl⟩
  have hA5 : CellsAt w'' w.heap.size 43 Z := hA1.congr (hk5 _ (by omega) (by omega))
  exact ⟨_, resultsF Tryz.results41 _ rfl rfl hA5 hB5 hZl, rfl, hW1.trans (hbl w.heap.size (by omega) (by omega))⟩
set_option maxHeartbeats 4000000 in
theorem triedC_ok (c0 c1 : Value) (R : List Value → World → Prop) (w : World)
    (hs : ∀ W, Below w.heap.size w W → W.heap.size = w.heap.size + 2 → Calls Tryz.prog 75 #[c0, c1] W fun e w' => ∃ cs, e = .returned (.agg cs.toArray) ∧ R cs w' ∧ Below W.heap.size W w')
    (hR : ∀ cs w', R cs w' → cs.length = frZ1.cells.length ∧ ∀ v ∈ cs, v.oneCell' = true) :
    Calls Tryz.prog 41 #[.func (.func 75) #[] #[c0, c1]] w fun e w' => ∃ cs w1, e = .returned (.tuple #[.agg cs.toArray, .int .i64 0]) ∧ R cs w1 ∧ w.heap.size + 2 ≤ w1.heap.size ∧ w1.heap.size = w'.heap.size ∧ (∀ k, k ≠ w.heap.size → k ≠ w.heap.size + 1 → w'.heap[k]? = w1.heap[k]?) ∧ Below w.heap.size w w' := by
  have hmf := make_func
  obtain ⟨Z, hzv, hz1, hZ⟩ : ∃ Z : List Value, (∀ wx, (zeroValue 43).run Tryz.prog wx = .ok (.agg Z.toArray) wx) ∧ ¬ Z.toArray = #[] ∧ Z = frZ1.cells := ⟨frZ1.cells, fun wx => by kernel_rfl, by decide, rfl⟩
  rw [← hZ] at hR
  have hZl : (Tryz.prog.info? 43).map (·.size) = some Z.length := by rw [hZ]; kernel_rfl
  clear hZ
  have hA0 := (CellsAt.new w 43 Z).alloc (.cells #[.int .i64 0] 44)
  have hB0 : Box ((w.alloc (.cells Z.toArray 43)).alloc (.cells #[.int .i64 0] 44)) (w.heap.size + 1) 44 (.int .i64 0) := by
    have : Box ((w.alloc (.cells Z.toArray 43)).alloc (.cells #[.int .i64 0] 44)) (w.alloc (.cells Z.toArray 43)).heap.size 44 (.int .i64 0) := heap_alloc_new _ _
    rw [World.size_alloc] at this
    exact this
  have hW0 : Below w.heap.size w ((w.alloc (.cells Z.toArray 43)).alloc (.cells #[.int .i64 0] 44)) := ((Below.refl _ _).alloc (Nat.le_refl _) _).alloc (by simp) _
  have hs0 : ((w.alloc (.cells Z.toArray 43)).alloc (.cells #[.int .i64 0] 44)).heap.size = w.heap.size + 2 := by simp
  have HS := Veil.mk hs
  have HR := Veil.mk hR
  clear hs hR
  go_enter_defers Tryz.func41, Tryz.ntmps41
  go_upto_region 2 with fail
  refine forget (p := fun y => Code.wp _ _ _ _ y) (fun W0 => Below w.heap.size w W0 ∧ W0.heap.size = w.heap.size + 2 ∧ CellsAt W0 w.heap.size 43 Z ∧ Box W0 (w.heap.size + 1) 44 (.int .i64 0)) ⟨hW0, hs0, hA0, hB0⟩ ?_
  clear hW0 hs0 hA0 hB0 hmf hzv hz1
  rintro W0 ⟨hW0, hs0, hA0, hB0⟩
  have h1 := HS.out W0 hW0 hs0
  have HKP : Veil (∀ w1, Below W0.heap.size W0 w1 → CellsAt w1 w.heap.size 43 Z ∧ Box w1 (w.heap.size + 1) 44 (.int .i64 0) ∧ Below w.heap.size w w1 ∧ w.heap.size + 2 ≤ w1.heap.size) := ⟨fun w1 h => ⟨hA0.farM h, by unfold Box at hB0 ⊢; rw [h.block _ (by omega)]; exact hB0, hW0.trans (h.mono hW0.size), by have := h.size; omega⟩⟩
  have HSB : Veil (∀ (w1 : World) (cs : List Value), Box w1 (w.heap.size + 1) 44 (.int .i64 0) → Box (w1.setRow w.heap.size cs.toArray) (w.heap.size + 1) 44 (.int .i64 0)) := ⟨fun w1 cs h => by unfold Box at h ⊢; rw [setRow_other _ _ _ _ (by omega)]; exact h⟩
  have HIN : Veil (∀ cs : List Value, cs.length = Z.length → (Tryz.prog.info? 43).map (·.size) = some cs.length) := ⟨fun cs h => by rw [h]; exact hZl⟩
  clear hs0 hA0 hB0 hW0 HS hZl
  go_wp2_with (first
    | (go_at_call 75; refine h1.mono ?_; rintro e w1 ⟨cs, rfl, hr1, hb1⟩; obtain ⟨hA1, hB1, hW1, hs1⟩ := HKP.out w1 hb1; obtain ⟨hcl, hc1⟩ := HR.out cs w1 hr1; have hiC := HIN.out cs hcl; have hB2 := HSB.out w1 cs hB1; have cB := hB2.cell; have fB := hB2.frozen; have HR1 := Veil.mk hr1; clear h1 HKP HSB HIN hr1 hB1 hb1)
    | (refine wpList_stv rfl 43 _ _ rfl _ rfl rfl hA1 hiC hcl.symm hc1 ?_))
  refine leaves_cons (f := 99) (args := #[.pointer (some ⟨w.heap.size + 1, 0, none⟩)]) (by simp) (by simp [go_sem]) ?_
  refine (catchF_idle (w.heap.size + 1) _).mono ?_
  rintro e u' w'' ⟨rfl, rfl, rfl⟩
  have hA5 := (hA1.setRow cs).setOther2 ⟨w.heap.size + 1, 0, none⟩ (.int .i64 0) (by show w.heap.size ≠ w.heap.size + 1; omega)
  have hB5 := hB2.set (.int .i64 0)
  have hW5 : Below w.heap.size w ((w1.setRow w.heap.size cs.toArray).setCell ⟨w.heap.size + 1, 0, none⟩ (.int .i64 0)) := (below_setRow hW1 (Nat.le_refl _) _).setCell (by show w.heap.size ≤ w.heap.size + 1; omega) _
  exact ⟨_, resultsF Tryz.results41 _ rfl rfl hA5 hB5 hiC, cs, w1, rfl, HR1.out, hs1, by simp [World.setCell, World.setRow], fun k h1 h2 => by rw [heap_setCell_other _ ⟨w.heap.size + 1, 0, none⟩ k _ h2, setRow_other _ _ _ _ h1], hW5⟩
set_option maxHeartbeats 4000000 in
theorem triedC_bad (c0 c1 : Value) (n : Int) (w : World)
    (hs : ∀ W, Below w.heap.size w W → W.heap.size = w.heap.size + 2 → Calls Tryz.prog 75 #[c0, c1] W fun e w' => e = .panicked [stopP n] ∧ Below W.heap.size W w') :
    Calls Tryz.prog 41 #[.func (.func 75) #[] #[c0, c1]] w fun e w' => e = .returned (.tuple #[.agg frZ1.cells.toArray, .int .i64 n]) ∧ Below w.heap.size w w' := by
  have hmf := make_func
  obtain ⟨Z, hzv, hz1, hZ⟩ : ∃ Z : List Value, (∀ wx, (zeroValue 43).run Tryz.prog wx = .ok (.agg Z.toArray) wx) ∧ ¬ Z.toArray = #[] ∧ Z = frZ1.cells := ⟨frZ1.cells, fun wx => by kernel_rfl, by decide, rfl⟩
  rw [← hZ]
  have hZl : (Tryz.prog.info? 43).map (·.size) = some Z.length := by rw [hZ]; kernel_rfl
  clear hZ
  have hA0 := (CellsAt.new w 43 Z).alloc (.cells #[.int .i64 0] 44)
  have hB0 : Box ((w.alloc (.cells Z.toArray 43)).alloc (.cells #[.int .i64 0] 44)) (w.heap.size + 1) 44 (.int .i64 0) := by
    have : Box ((w.alloc (.cells Z.toArray 43)).alloc (.cells #[.int .i64 0] 44)) (w.alloc (.cells Z.toArray 43)).heap.size 44 (.int .i64 0) := heap_alloc_new _ _
    rw [World.size_alloc] at this
    exact this
  have hW0 : Below w.heap.size w ((w.alloc (.cells Z.toArray 43)).alloc (.cells #[.int .i64 0] 44)) := ((Below.refl _ _).alloc (Nat.le_refl _) _).alloc (by simp) _
  have hs0 : ((w.alloc (.cells Z.toArray 43)).alloc (.cells #[.int .i64 0] 44)).heap.size = w.heap.size + 2 := by simp
  have HS := Veil.mk hs
  clear hs
  go_enter_defers Tryz.func41, Tryz.ntmps41
  go_upto_region 2 with fail
  refine forget (p := fun y => Code.wp _ _ _ _ y) (fun W0 => Below w.heap.size w W0 ∧ W0.heap.size = w.heap.size + 2 ∧ CellsAt W0 w.heap.size 43 Z ∧ Box W0 (w.heap.size + 1) 44 (.int .i64 0)) ⟨hW0, hs0, hA0, hB0⟩ ?_
  clear hW0 hs0 hA0 hB0 hmf hzv hz1
  rintro W0 ⟨hW0, hs0, hA0, hB0⟩
  have h1 := HS.out W0 hW0 hs0
  have HKP : Veil (∀ w1, Below W0.heap.size W0 w1 → CellsAt w1 w.heap.size 43 Z ∧ Box w1 (w.heap.size + 1) 44 (.int .i64 0) ∧ Below w.heap.size w w1 ∧ w.heap.size + 2 ≤ w1.heap.size) := ⟨fun w1 h => ⟨hA0.farM h, by unfold Box at hB0 ⊢; rw [h.block _ (by omega)]; exact hB0, hW0.trans (h.mono hW0.size), by have := h.size; omega⟩⟩
  clear hs0 hA0 hB0 hW0 HS
  go_wp2_with (go_at_call 75; refine h1.mono ?_; rintro e w1 ⟨rfl, hb1⟩)
  obtain ⟨hA1, hB1, hW1, hs1⟩ := HKP.out w1 hb1
  refine leaves_cons (f := 99) (args := #[.pointer (some ⟨w.heap.size + 1, 0, none⟩)]) (by simp) (by simp [go_sem]) ?_
  refine (catchF_any (w.heap.size + 1) _ n w1 hB1).mono ?_
  rintro e u' w'' ⟨rfl, rfl, hB5, hk5, hbl⟩
  have hA5 : CellsAt w'' w.heap.size 43 Z := hA1.congr (hk5 _ (by omega) (by omega))
  exact ⟨_, resultsF Tryz.results41 _ rfl rfl hA5 hB5 hZl, rfl, hW1.trans (hbl w.heap.size (by omega) (by omega))⟩
set_option maxHeartbeats 4000000 in
theorem triedO_ok (c0 c1 : Value) (R : List Value → World → Prop) (w : World)
    (hs : ∀ W, Below w.heap.size w W → W.heap.size = w.heap.size + 2 → Calls Tryz.prog 66 #[c0, c1] W fun e w' => ∃ cs, e = .returned (.agg cs.toArray) ∧ R cs w' ∧ Below W.heap.size W w')
    (hR : ∀ cs w', R cs w' → cs.length = evZ.cells.length ∧ ∀ v ∈ cs, v.oneCell' = true) :
    Calls Tryz.prog 65 #[.func (.func 66) #[] #[c0, c1]] w fun e w' => ∃ cs w1, e = .returned (.tuple #[.agg cs.toArray, .int .i64 0]) ∧ R cs w1 ∧ w.heap.size + 2 ≤ w1.heap.size ∧ w1.heap.size = w'.heap.size ∧ (∀ k, k ≠ w.heap.size → k ≠ w.heap.size + 1 → w'.heap[k]? = w1.heap[k]?) ∧ Below w.heap.size w w' := by
  have hmf := make_func
  obtain ⟨Z, hzv, hz1, hZ⟩ : ∃ Z : List Value, (∀ wx, (zeroValue 33).run Tryz.prog wx = .ok (.agg Z.toArray) wx) ∧ ¬ Z.toArray = #[] ∧ Z = evZ.cells := ⟨evZ.cells, fun wx => by kernel_rfl, by decide, rfl⟩
  rw [← hZ] at hR
  have hZl : (Tryz.prog.info? 33).map (·.size) = some Z.length := by rw [hZ]; kernel_rfl
  clear hZ
  have hA0 := (CellsAt.new w 33 Z).alloc (.cells #[.int .i64 0] 44)
  have hB0 : Box ((w.alloc (.cells Z.toArray 33)).alloc (.cells #[.int .i64 0] 44)) (w.heap.size + 1) 44 (.int .i64 0) := by
    have : Box ((w.alloc (.cells Z.toArray 33)).alloc (.cells #[.int .i64 0] 44)) (w.alloc (.cells Z.toArray 33)).heap.size 44 (.int .i64 0) := heap_alloc_new _ _
    rw [World.size_alloc] at this
    exact this
  have hW0 : Below w.heap.size w ((w.alloc (.cells Z.toArray 33)).alloc (.cells #[.int .i64 0] 44)) := ((Below.refl _ _).alloc (Nat.le_refl _) _).alloc (by simp) _
  have hs0 : ((w.alloc (.cells Z.toArray 33)).alloc (.cells #[.int .i64 0] 44)).heap.size = w.heap.size + 2 := by simp
  have HS := Veil.mk hs
  have HR := Veil.mk hR
  clear hs hR
  go_enter_defers Tryz.func65, Tryz.ntmps65
  go_upto_region 2 with fail
  refine forget (p := fun y => Code.wp _ _ _ _ y) (fun W0 => Below w.heap.size w W0 ∧ W0.heap.size = w.heap.size + 2 ∧ CellsAt W0 w.heap.size 33 Z ∧ Box W0 (w.heap.size + 1) 44 (.int .i64 0)) ⟨hW0, hs0, hA0, hB0⟩ ?_
  clear hW0 hs0 hA0 hB0 hmf hzv hz1
  rintro W0 ⟨hW0, hs0, hA0, hB0⟩
  have h1 := HS.out W0 hW0 hs0
  have HKP : Veil (∀ w1, Below W0.heap.size W0 w1 → CellsAt w1 w.heap.size 33 Z ∧ Box w1 (w.heap.size + 1) 44 (.int .i64 0) ∧ Below w.heap.size w w1 ∧ w.heap.size + 2 ≤ w1.heap.size) := ⟨fun w1 h => ⟨hA0.farM h, by unfold Box at hB0 ⊢; rw [h.block _ (by omega)]; exact hB0, hW0.trans (h.mono hW0.size), by have := h.size; omega⟩⟩
  have HSB : Veil (∀ (w1 : World) (cs : List Value), Box w1 (w.heap.size + 1) 44 (.int .i64 0) → Box (w1.setRow w.heap.size cs.toArray) (w.heap.size + 1) 44 (.int .i64 0)) := ⟨fun w1 cs h => by unfold Box at h ⊢; rw [setRow_other _ _ _ _ (by omega)]; exact h⟩
  have HIN : Veil (∀ cs : List Value, cs.length = Z.length → (Tryz.prog.info? 33).map (·.size) = some cs.length) := ⟨fun cs h => by rw [h]; exact hZl⟩
  clear hs0 hA0 hB0 hW0 HS hZl
  go_wp2_with (first
    | (go_at_call 66; refine h1.mono ?_; rintro e w1 ⟨cs, rfl, hr1, hb1⟩; obtain ⟨hA1, hB1, hW1, hs1⟩ := HKP.out w1 hb1; obtain ⟨hcl, hc1⟩ := HR.out cs w1 hr1; have hiC := HIN.out cs hcl; have hB2 := HSB.out w1 cs hB1; have cB := hB2.cell; have fB := hB2.frozen; have HR1 := Veil.mk hr1; clear h1 HKP HSB HIN hr1 hB1 hb1)
    | (refine wpList_stv rfl 33 _ _ rfl _ rfl rfl hA1 hiC hcl.symm hc1 ?_))
  refine leaves_cons (f := 123) (args := #[.pointer (some ⟨w.heap.size + 1, 0, none⟩)]) (by simp) (by simp [go_sem]) ?_
  refine (catchV_idle (w.heap.size + 1) _).mono ?_
  rintro e u' w'' ⟨rfl, rfl, rfl⟩
  have hA5 := (hA1.setRow cs).setOther2 ⟨w.heap.size + 1, 0, none⟩ (.int .i64 0) (by show w.heap.size ≠ w.heap.size + 1; omega)
  have hB5 := hB2.set (.int .i64 0)
  have hW5 : Below w.heap.size w ((w1.setRow w.heap.size cs.toArray).setCell ⟨w.heap.size + 1, 0, none⟩ (.int .i64 0)) := (below_setRow hW1 (Nat.le_refl _) _).setCell (by show w.heap.size ≤ w.heap.size + 1; omega) _
  exact ⟨_, resultsV Tryz.results65 _ rfl rfl hA5 hB5 hiC, cs, w1, rfl, HR1.out, hs1, by simp [World.setCell, World.setRow], fun k h1 h2 => by rw [heap_setCell_other _ ⟨w.heap.size + 1, 0, none⟩ k _ h2, setRow_other _ _ _ _ h1], hW5⟩
set_option maxHeartbeats 4000000 in
theorem triedO_bad (c0 c1 : Value) (n : Int) (w : World)
    (hs : ∀ W, Below w.heap.size w W → W.heap.size = w.heap.size + 2 → Calls Tryz.prog 66 #[c0, c1] W fun e w' => e = .panicked [stopP n] ∧ Below W.heap.size W w') :
    Calls Tryz.prog 65 #[.func (.func 66) #[] #[c0, c1]] w fun e w' => e = .returned (.tuple #[.agg evZ.cells.toArray, .int .i64 n]) ∧ Below w.heap.size w w' := by
  have hmf := make_func
  obtain ⟨Z, hzv, hz1, hZ⟩ : ∃ Z : List Value, (∀ wx, (zeroValue 33).run Tryz.prog wx = .ok (.agg Z.toArray) wx) ∧ ¬ Z.toArray = #[] ∧ Z = evZ.cells := ⟨evZ.cells, fun wx => by kernel_rfl, by decide, rfl⟩
  rw [← hZ]
  have hZl : (Tryz.prog.info? 33).map (·.size) = some Z.length := by rw [hZ]; kernel_rfl
  clear hZ
  have hA0 := (CellsAt.new w 33 Z).alloc (.cells #[.int .i64 0] 44)
  have hB0 : Box ((w.alloc (.cells Z.toArray 33)).alloc (.cells #[.int .i64 0] 44)) (w.heap.size + 1) 44 (.int .i64 0) := by
    have : Box ((w.alloc (.cells Z.toArray 33)).alloc (.cells #[.int .i64 0] 44)) (w.alloc (.cells Z.toArray 33)).heap.size 44 (.int .i64 0) := heap_alloc_new _ _
    rw [World.size_alloc] at this
    exact this
  have hW0 : Below w.heap.size w ((w.alloc (.cells Z.toArray 33)).alloc (.cells #[.int .i64 0] 44)) := ((Below.refl _ _).alloc (Nat.le_refl _) _).alloc (by simp) _
  have hs0 : ((w.alloc (.cells Z.toArray 33)).alloc (.cells #[.int .i64 0] 44)).heap.size = w.heap.size + 2 := by simp
  have HS := Veil.mk hs
  clear hs
  go_enter_defers Tryz.func65, Tryz.ntmps65
  go_upto_region 2 with fail
  refine forget (p := fun y => Code.wp _ _ _ _ y) (fun W0 => Below w.heap.size w W0 ∧ W0.heap.size = w.heap.size + 2 ∧ CellsAt W0 w.heap.size 33 Z ∧ Box W0 (w.heap.size + 1) 44 (.int .i64 0)) ⟨hW0, hs0, hA0, hB0⟩ ?_
  clear hW0 hs0 hA0 hB0 hmf hzv hz1
  rintro W0 ⟨hW0, hs0, hA0, hB0⟩
  have h1 := HS.out W0 hW0 hs0
  have HKP : Veil (∀ w1, Below W0.heap.size W0 w1 → CellsAt w1 w.heap.size 33 Z ∧ Box w1 (w.heap.size + 1) 44 (.int .i64 0) ∧ Below w.heap.size w w1 ∧ w.heap.size + 2 ≤ w1.heap.size) := ⟨fun w1 h => ⟨hA0.farM h, by unfold Box at hB0 ⊢; rw [h.block _ (by omega)]; exact hB0, hW0.trans (h.mono hW0.size), by have := h.size; omega⟩⟩
  clear hs0 hA0 hB0 hW0 HS
  go_wp2_with (go_at_call 66; refine h1.mono ?_; rintro e w1 ⟨rfl, hb1⟩)
  obtain ⟨hA1, hB1, hW1, hs1⟩ := HKP.out w1 hb1
  refine leaves_cons (f := 123) (args := #[.pointer (some ⟨w.heap.size + 1, 0, none⟩)]) (by simp) (by simp [go_sem]) ?_
  refine (catchV_any (w.heap.size + 1) _ n w1 hB1).mono ?_
  rintro e u' w'' ⟨rfl, rfl, hB5, hk5, hbl⟩
  have hA5 : CellsAt w'' w.heap.size 33 Z := hA1.congr (hk5 _ (by omega) (by omega))
  exact ⟨_, resultsV Tryz.results65 _ rfl rfl hA5 hB5 hZl, rfl, hW1.trans (hbl w.heap.size (by omega) (by omega))⟩
end Go.Proofs.YtfainlfiphdaeaaGreatDoor
