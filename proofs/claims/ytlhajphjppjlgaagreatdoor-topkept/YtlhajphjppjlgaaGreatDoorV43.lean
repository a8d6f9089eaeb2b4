/- Hl -/
import Derived.Test.YtlhajphjppjlgaaGreatDoorV0
import Derived.Test.YtlhajphjppjlgaaGreatDoorV42
import Derived.Test.YtlhajphjppjlgaaGreatDoorT30
namespace Go.Proofs.YtlhajphjppjlgaaGreatDoor
open Go.RowKit
set_option maxRecDepth 20000
set_option linter.unusedSimpArgs false
theorem headC_parts (h : Int × List Int) (hl : h.2.length = 32) : (headC h)[0]? = some (.int .u32 h.1) ∧ ((headC h).drop 1).take 32 = h.2.map (Value.int .u8) := ⟨rfl, by show (h.2.map (Value.int .u8)).take 32 = _; exact List.take_of_length_le (by simp [hl])⟩
theorem ret_iC {a b : Int} (h : a = b) : Ending.returned (.int .i64 a) = .returned (.int .i64 b) := by rw [h]
section
variable (base H b : Nat) (v : Value) (T : Sms) (P : List Pf) (w : World) (F : Fr) (xw : Option Addr) (lw cw : Nat) (ws : List Wp) (xb : Option Addr) (lb cb : Nat) (body : List Int) (a n : Nat)
set_option maxHeartbeats 4000000 in
theorem look_range (hF : FrIn w F xw lw cw ws xb lb cb body) (ha : F.author = (a : Int)) (hn : F.number = (n : Int)) (bad : 8 ≤ a ∨ n = 0 ∨ 256 < n) :
    Calls Tryz.prog 25 #[.pointer (some ⟨H, 0, none⟩), .agg F.cells.toArray] w fun e w' => e = .returned (.int .i64 2) ∧ Below w.heap.size w w' := by
  obtain ⟨-, q1, q2, -⟩ := fr_parts F hF.prev hF.mac
  rw [ha] at q1
  rw [hn] at q2
  have hD0 := CellsAt.new w 32 F.cells
  have hB : Below w.heap.size w (w.alloc (.cells F.cells.toArray 32)) := (Below.refl _ _).alloc (Nat.le_refl _) _
  have c0 := hD0.cell 0
  have c1 := hD0.cell 1
  rw [q1] at c0
  rw [q2] at c1
  clear q1 q2 hF ha hn hD0
  by_cases h8 : 8 ≤ a
  · have h8' : (a : Int) ≥ 8 := by omega
    clear bad h8
    go_enter Tryz.func25, Tryz.ntmps25
    go_wp2
    go_ret
    exact ⟨rfl, hB⟩
  · have h8' : ¬ (a : Int) ≥ 8 := by omega
    by_cases h0 : n = 0
    · subst h0
      clear bad h8
      go_enter Tryz.func25, Tryz.ntmps25
      go_wp2
      go_ret
      exact ⟨rfl, hB⟩
    · have h0' : ((n : Int) == 0) = false := by simp; omega
      have h0'' : ¬ (n : Int) = 0 := by omega
      have h2 : (n : Int) > 256 := by omega
      clear bad h8 h0
      go_enter Tryz.func25, Tryz.ntmps25
      go_wp2
      go_ret
      exact ⟨rfl, hB⟩
set_option maxHeartbeats 8000000 in
theorem look_any (hC : ChainAt w base H b v T P) (hF : FrIn w F xw lw cw ws xb lb cb body) (hKT : S.KTab w) (ha : F.author = (a : Int)) (hn : F.number = (n : Int)) :
    Calls Tryz.prog 25 #[.pointer (some ⟨H, 0, none⟩), .agg F.cells.toArray] w fun e w' => e = .returned (.int .i64 (lookN T a n F.prev (fsum F lw lb ws body))) ∧ Below w.heap.size w w' := by
  by_cases bad : 8 ≤ a ∨ n = 0 ∨ 256 < n
  · have := look_range H w F xw lw cw ws xb lb cb body a n hF ha hn bad
    unfold lookN
    rw [if_pos bad]
    exact this
  obtain ⟨q0, q1, q2, -, q4, -⟩ := fr_parts F hF.prev hF.mac
  rw [ha] at q1
  rw [hn] at q2
  have hiF : (Tryz.prog.info? 32).map (·.size) = some F.cells.length := by rw [q0]; exact sizeFrame
  have hcl := hC.ok.cnt_le a
  have hlk := hC.ok.at_ok a (cnt T a)
  have hhl : (headC (headOf T a)).length = 33 := headC_len _ hlk.1
  have p0 : (headC (headOf T a))[0]? = some (.int .u32 (cnt T a : Int)) := (headC_parts (headOf T a) hlk.1).1
  have p1 : ((headC (headOf T a)).drop 1).take 32 = (atN T a (cnt T a)).map (Value.int .u8) := (headC_parts (headOf T a) hlk.1).2
  have hsum : okK (fsum F lw lb ws body) := by
    unfold fsum; split
    · exact ⟨S.sumL_length _, sumL_inH _⟩
    · exact okK_zk
  have HLK : Veil (∀ W, Below w.heap.size w W → Calls Tryz.prog 27 #[.agg F.cells.toArray] W fun e w' => e = .returned (.agg (linkC ((a : Int), (n : Int), fsum F lw lb ws body)).toArray) ∧ Below W.heap.size W w') := ⟨fun W hb => by have := linkOf_any F xw lw cw ws xb lb cb body W (hF.below hb) (hKT.below hb); rw [ha, hn] at this; exact this⟩
  have hlok : okL ((a : Int), (n : Int), fsum F lw lb ws body) := ⟨⟨by show (0 : Int) ≤ a; omega, by show (a : Int) ≤ 255; omega⟩, ⟨by show (0 : Int) ≤ n; omega, by show (n : Int) ≤ 4294967295; omega⟩, hsum⟩
  have HHS : Veil (∀ W, Below w.heap.size w W → Calls Tryz.prog 30 #[.pointer (some ⟨H, 0, none⟩), .agg (linkC ((a : Int), (n : Int), fsum F lw lb ws body)).toArray] W fun e w' => e = .returned (.bool (linkM T ((a : Int), (n : Int), fsum F lw lb ws body)).isSome) ∧ Below W.heap.size W w') := ⟨fun W hb => chHas_any base H b v T P W _ hlok (hC.far hb)⟩
  have HIS : Veil (n ≤ cnt T a → (linkM T ((a : Int), (n : Int), fsum F lw lb ws body)).isSome = decide (atN T a n = fsum F lw lb ws body)) := ⟨fun h => linkM_has a n _ (by omega) (by omega) h⟩
  have hpok : okK F.prev := ⟨hF.prev, hF.inF.prev⟩
  have HEQ : Veil (∀ wx, (binOp .eql 23 (.agg (row .u8 F.prev)) (.agg (row .u8 (atN T a (cnt T a))))).run Tryz.prog wx = .ok (.bool (decide (F.prev = atN T a (cnt T a)))) wx) := ⟨eqlKey _ _ hpok hlk⟩
  have HLN : Veil (lookN T a n F.prev (fsum F lw lb ws body) = if n ≤ cnt T a then (if atN T a n = fsum F lw lb ws body then 5 else 11) else if cnt T a + 1 < n then 6 else if F.prev = atN T a (cnt T a) then 0 else if cnt T a = 0 then 3 else 11) := ⟨by unfold lookN; rw [if_neg bad]⟩
  have rHW : ∀ W, ChainAt W base H b v T P → W.rangeAt H (a * 33) (headC (headOf T a)) := fun W h => by have := h.box.range (a * 33) 33; rw [chainC_head h.ok b v a (by omega)] at this; exact this
  have HRW := Veil.mk rHW
  generalize lookN T a n F.prev (fsum F lw lb ws body) = LN at HLN ⊢
  have hpl : F.prev.length = 32 := hF.prev
  have hll : (atN T a (cnt T a)).length = 32 := hlk.1
  have h1H := headC_one (headOf T a)
  generalize headC (headOf T a) = HDC at hhl p0 p1 rHW HRW h1H
  clear rHW
  generalize atN T a (cnt T a) = LST at p1 HEQ HLN hll
  generalize atN T a n = ATN at HIS HLN
  generalize (linkM T ((a : Int), (n : Int), fsum F lw lb ws body)).isSome = ISS at HHS HIS
  generalize linkC ((a : Int), (n : Int), fsum F lw lb ws body) = LKC at HLK HHS
  generalize fsum F lw lb ws body = SM at HIS HLN
  generalize cnt T a = C at hcl p0 HLN HIS
  have hD0 := CellsAt.new w 32 F.cells
  have hB0 : Below w.heap.size w (w.alloc (.cells F.cells.toArray 32)) := (Below.refl _ _).alloc (Nat.le_refl _) _
  have hC0 := hC.far hB0
  have c0 := hD0.cell 0
  have c1 := hD0.cell 1
  rw [q1] at c0
  rw [q2] at c1
  have h8 : ¬ (a : Int) ≥ 8 := by omega
  have h0 : ((n : Int) == 0) = false := by simp; omega
  have h0' : ¬ (n : Int) = 0 := by omega
  have h2 : ¬ (n : Int) > 256 := by omega
  have ha0 : (0 : Int) ≤ (a : Int) := by omega
  have ha8 : (a : Int) < 8 := by omega
  have uH : Tryz.prog.underlying 40 = _ := Tryz.underlying40
  have iH : (Tryz.prog.info? 40).map (·.size) = some HDC.length := by rw [hhl]; exact sizeHead1
  clear hF hKT hC ha hn bad q0
  go_enter Tryz.func25, Tryz.ntmps25
  go_upto_region 5 with fail
  refine forget (p := fun y => Code.wp _ _ _ _ y) (fun W => Below w.heap.size w W ∧ ChainAt W base H b v T P ∧ CellsAt W w.heap.size 32 F.cells) ⟨hB0, hC0, hD0⟩ ?_
  clear hB0 hC0 hD0 c0 c1
  rintro W ⟨hB, hC, hD0⟩
  refine wp_region_gate (fun w' => w'.cell? ⟨w.heap.size, 0, none⟩ = some (.int .u8 (a : Int)) ∧ w'.rangeAt H (a * 33) HDC) 8 (by kernel_rfl) ?_
  have HS : ∀ W' : World, ChainAt W' base H b v T P → CellsAt W' w.heap.size 32 F.cells → (fun w' : World => w'.cell? ⟨w.heap.size, 0, none⟩ = some (.int .u8 (a : Int)) ∧ w'.rangeAt H (a * 33) HDC) W' := fun W' h1 h2 => ⟨by rw [h2.cell]; exact q1, HRW.out W' h1⟩
  have hS := HS W.drew (hC.congr fun _ _ => rfl) (hD0.congr rfl)
  refine ga 0 ?_ rfl (by kernel_rfl) (fun _ _ _ h => h) hS ?_ ?_
  rotate_left
  · intro _; go_simp; try with_reducible rfl
  simp only [Act.put, gA, gS, gZ, sI, sZ, sS]
  refine ga 1 ?_ rfl (by kernel_rfl) (fun _ _ _ h => h) hS ?_ ?_
  rotate_left
  · intro _; go_simp; try with_reducible rfl
  simp only [Act.put, gA, gS, gZ, sI, sZ, sS]
  refine ga 3 ?_ rfl (by kernel_rfl) (fun _ _ _ h => h) hS ?_ ?_
  rotate_left
  · intro _; go_simp; try with_reducible rfl
  simp only [Act.put, gA, gS, gZ, sI, sZ, sS]
  refine ga 4 ?_ rfl (by kernel_rfl) (fun _ _ _ h => h) hS ?_ ?_
  rotate_left
  · intro _; go_simp; try with_reducible rfl
  simp only [Act.put, gA, gS, gZ, sI, sZ, sS]
  refine gr 2 ?_ rfl (by kernel_rfl) (fun _ _ _ h => h) hS ?_ ?_
  rotate_left
  · intro wx hSw; go_split_ands; go_simp; try with_reducible rfl
  simp only [Act.put, gA, gS, gZ, sI, sZ, sS]
  refine ga 5 ?_ rfl (by kernel_rfl) (fun _ _ _ h => h) hS ?_ ?_
  rotate_left
  · intro _; go_simp; try with_reducible rfl
  simp only [Act.put, gA, gS, gZ, sI, sZ, sS]
  refine wpAnyG_load (i := 6) (dst := some 27) (ty := 40) (x := .tmp 26) (b := H) (o := ((a * 33))) (cs := HDC) (by kernel_rfl) (by kernel_rfl) (by kernel_rfl) (by kernel_rfl) (by kernel_rfl) (fun _ _ _ h => h) (by kernel_rfl) (by kernel_rfl) (by kernel_rfl) hS (by kernel_rfl) (fun _ h => h.2) uH rfl iH ?_
  simp only [Act.put, gA, gS, gZ, sI, sZ, sS]
  refine wpAnyG_one (i := 7) rfl (by kernel_rfl) (by kernel_rfl) (fun K hK => ?_)
  go_simp
  have hb1 : Below W.heap.size W (W.alloc (.cells (headC (0, List.replicate 32 0)).toArray 40)).drew := ((Below.refl _ _).alloc (Nat.le_refl _) _).drew
  have hA1 : CellsAt (W.alloc (.cells (headC (0, List.replicate 32 0)).toArray 40)).drew W.heap.size 40 (headC (0, List.replicate 32 0)) := CellsAt.new W 40 _
  have hC1 := hC.far hb1
  have hD1 := hD0.farM hb1
  have hB1 := hB.trans (hb1.mono hB.size)
  have hDlt := hD0.lt
  replace hS := HS _ hC1 hD1
  refine hK.out _ _ (fun _ => hS) ?_
  clear hK K
  try simp only [Act.put, gA, gS, gZ, sI, sZ, sS]
  refine wpAnyG_one (i := 8) rfl (by kernel_rfl) (by kernel_rfl) (fun K hK => ?_)
  refine wp_stvE 40 _ _ rfl _ rfl (cs := HDC) rfl hA1 iH (by rw [hhl]; rfl) h1H ?_
  refine hK.out _ _ (fun h => absurd (show true = false from h) (by decide)) ?_
  clear hK K
  try simp only [Act.put, gA, gS, gZ, sI, sZ, sS]
  refine wpAnyG_done (by kernel_rfl) ?_ _
  have hA2 := hA1.setRow HDC
  have hD2 := hD1.setRowM HDC.toArray (show w.heap.size ≠ W.heap.size by omega)
  have hC2 : ChainAt ((W.alloc (.cells (headC (0, List.replicate 32 0)).toArray 40)).drew.setRow W.heap.size HDC.toArray) base H b v T P := hC1.congr fun g hg => setRow_other _ _ _ _ (by have := (hC.inside g hg).1; omega)
  have hB2 := below_setRow (g := W.heap.size) hB1 hB.size HDC.toArray
  refine forget (p := fun y => Exit.then _ _ _ _ y) (fun V => Below w.heap.size w V ∧ ChainAt V base H b v T P ∧ CellsAt V w.heap.size 32 F.cells ∧ CellsAt V W.heap.size 40 HDC) ⟨hB2, hC2, hD2, hA2⟩ ?_
  clear hA2 hD2 hC2 hB2 hS HS hC1 hD1 hB1 hb1 hA1 hC hD0 hB HRW uH iH
  obtain ⟨G, hG⟩ : ∃ q, W.heap.size = q := ⟨_, rfl⟩
  rw [hG] at hDlt ⊢
  clear hG
  clear W
  rintro V ⟨hB, hC, hD, hA⟩
  have c1 : V.cell? ⟨w.heap.size, 1, none⟩ = some (.int .u32 (n : Int)) := by rw [hD.cell]; exact q2
  have l0 : V.cell? ⟨G, 0, none⟩ = some (.int .u32 (C : Int)) := by rw [hA.cell]; exact p0
  have rP : V.rangeAt w.heap.size 4 (F.prev.map (Value.int .u8)) := by have := hD.range 4 32; rw [q4] at this; exact this
  have rL : V.rangeAt G 1 (LST.map (Value.int .u8)) := by have := hA.range 1 32; rw [p1] at this; exact this
  have rF := hD.wholeM
  have iP : (Tryz.prog.info? 23).map (·.size) = some (F.prev.map (Value.int .u8)).length := by rw [List.length_map, hpl]; exact sizeKeyH
  have iQ : (Tryz.prog.info? 23).map (·.size) = some (LST.map (Value.int .u8)).length := by rw [List.length_map, hll]; exact sizeKeyH
  by_cases hle : n ≤ C
  · have hlei : (n : Int) ≤ (C : Int) := by omega
    have hlk1 := HLK.out V hB
    have his := HIS.out hle
    have hhs := HHS.out
    rw [if_pos hle] at HLN
    by_cases e : ATN = SM
    · rw [if_pos e] at HLN
      rw [show ISS = true by rw [his]; simp [e]] at hhs
      have HHS2 := Veil.mk hhs
      clear hhs his HIS e HEQ HHS rP rL iP iQ hA hD hC q1 q2 q4 p0 p1
      go_wp2_with (first
        | (refine wpList_ldgv (by kernel_rfl) 32 _ rfl _ _ rfl F.cells rF Tryz.underlying32 rfl hiF ?_)
        | (go_at_call 27; refine hlk1.mono ?_; rintro e w1 ⟨rfl, hb1⟩; have hB1 := hB.trans (hb1.mono hB.size); have hh1 := HHS2.out w1 hB1)
        | (go_at_call 30; refine hh1.mono ?_; rintro e w2 ⟨rfl, hb2⟩))
      go_ret
      exact ⟨ret_iC HLN.out.symm, hB1.trans (hb2.mono hB1.size)⟩
    · rw [if_neg e] at HLN
      rw [show ISS = false by rw [his]; simp [e]] at hhs
      have HHS2 := Veil.mk hhs
      have HK : Veil (∀ W, Below V.heap.size V W → W.cell? ⟨w.heap.size, 1, none⟩ = some (.int .u32 (n : Int)) ∧ W.cell? ⟨G, 0, none⟩ = some (.int .u32 (C : Int))) := ⟨fun W hb => ⟨(hb.cell (p := ⟨w.heap.size, 1, none⟩) hD.lt).trans c1, (hb.cell (p := ⟨G, 0, none⟩) hA.lt).trans l0⟩⟩
      clear hhs his HIS e HEQ HHS rP rL iP iQ hA hD hC q1 q2 q4 p0 p1
      go_wp2_with (first
        | (refine wpList_ldgv (by kernel_rfl) 32 _ rfl _ _ rfl F.cells rF Tryz.underlying32 rfl hiF ?_)
        | (go_at_call 27; refine hlk1.mono ?_; rintro e w1 ⟨rfl, hb1⟩; have hB1 := hB.trans (hb1.mono hB.size); have hh1 := HHS2.out w1 hB1)
        | (go_at_call 30; refine hh1.mono ?_; rintro e w2 ⟨rfl, hb2⟩; have hk2 := HK.out w2 (hb1.trans (hb2.mono hb1.size)); obtain ⟨d1, d2⟩ := hk2))
      go_ret
      exact ⟨ret_iC HLN.out.symm, hB1.trans (hb2.mono hB1.size)⟩
  · have hlei : ¬ (n : Int) ≤ (C : Int) := by omega
    rw [if_neg hle] at HLN
    have hwr : IntKind.u32.wrap ((C : Int) + 1) = (C : Int) + 1 := by rw [IntKind.wrap_u32]; omega
    clear HIS HHS HLK rF hiF hA hD hC q1 q2 q4 p0 p1
    by_cases hg : C + 1 < n
    · have hgi : (n : Int) > (C : Int) + 1 := by omega
      rw [if_pos hg] at HLN
      clear HEQ rP rL
      go_wp2
      go_ret
      exact ⟨ret_iC HLN.out.symm, hB⟩
    · have hgi : ¬ (n : Int) > (C : Int) + 1 := by omega
      rw [if_neg hg] at HLN
      have heq : ∀ wx, (binOp .eql 23 (.agg (F.prev.map (Value.int .u8)).toArray) (.agg (LST.map (Value.int .u8)).toArray)).run Tryz.prog wx = .ok (.bool (decide (F.prev = LST))) wx := HEQ.out
      by_cases e : F.prev = LST
      · rw [if_pos e] at HLN
        rw [show decide (F.prev = LST) = true by simp [e]] at heq
        clear e HEQ
        go_wp2_with (first
          | (refine wpList_ldv rfl 23 _ rfl w.heap.size _ rfl (F.prev.map (Value.int .u8)) rP Tryz.underlying23 rfl iP ?_)
          | (refine wpList_ldv rfl 23 _ rfl G _ rfl (LST.map (Value.int .u8)) rL Tryz.underlying23 rfl iQ ?_))
        go_ret
        exact ⟨ret_iC HLN.out.symm, hB⟩
      · rw [if_neg e] at HLN
        rw [show decide (F.prev = LST) = false by simp [e]] at heq
        by_cases h00 : C = 0
        · rw [if_pos h00] at HLN
          subst h00
          clear e HEQ
          go_wp2_with (first
            | (refine wpList_ldv rfl 23 _ rfl w.heap.size _ rfl (F.prev.map (Value.int .u8)) rP Tryz.underlying23 rfl iP ?_)
            | (refine wpList_ldv rfl 23 _ rfl G _ rfl (LST.map (Value.int .u8)) rL Tryz.underlying23 rfl iQ ?_))
          go_ret
          exact ⟨ret_iC HLN.out.symm, hB⟩
        · have h00i : ((C : Int) == 0) = false := by simp; omega
          have h00j : ¬ (C : Int) = 0 := by omega
          rw [if_neg h00] at HLN
          clear e HEQ
          go_wp2_with (first
            | (refine wpList_ldv rfl 23 _ rfl w.heap.size _ rfl (F.prev.map (Value.int .u8)) rP Tryz.underlying23 rfl iP ?_)
            | (refine wpList_ldv rfl 23 _ rfl G _ rfl (LST.map (Value.int .u8)) rL Tryz.underlying23 rfl iQ ?_))
          go_ret
          exact ⟨ret_iC HLN.out.symm, hB⟩
end
end Go.Proofs.YtlhajphjppjlgaaGreatDoor
