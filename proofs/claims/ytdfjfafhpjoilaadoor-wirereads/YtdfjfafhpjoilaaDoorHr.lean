/- The reference of wire: 'ReadHeads'. -/
import Derived.Test.YtdfjfafhpjoilaaDoorRg
import Derived.Test.YtdfjfafhpjoilaaDoorKr
import Derived.Test.YtdfjfafhpjoilaaDoorBu
import Derived.Test.YtdfjfafhpjoilaaDoorEvm
import Derived.Test.YtdfjfafhpjoilaaDoorMGateGate2Gate5
namespace Go.Proofs.YtdfjfafhpjoilaaDoor
open Go.RowKit
set_option maxRecDepth 20000
set_option linter.unusedSimpArgs false

theorem run_cutLH2 (w : World) (x : Option Addr) (len cap l h : Nat) (h1 : l ≤ h) (hh : h ≤ cap) : (Instr.slice 22 (.slice x len cap) (some (.int .i64 (l : Int))) (some (.int .i64 (h : Int))) none).run Tryd.prog w = .ok (.slice (subA x cap l) (h - l) (cap - l)) w := by
  rw [run_slice_lh w 22 x len cap elemB .i64 .i64 (l : Int) (h : Int) (by omega) (by omega) (by omega), sizeU8]
  simp [sliced, subA, Result.andThen]
theorem wp_stmE {P : Program} {o : Oper} {a : Act} {w : World} {K : Act → World → Prop} {Q : Exit → Act → World → Prop} (ty : TypeId) (x y : Operand) (ho : o.op = .store ty x y)
    (g off : Nat) (hx : a.eval x = .pointer (some ⟨g, off, none⟩)) {t : TypeId} {old cs : List Value} (hy : a.eval y = .agg cs.toArray) (hg : CellsAt w g t old)
    (hi : (P.info? ty).map (·.size) = some cs.length) (hl : off + cs.length ≤ old.length) (h1 : ∀ v ∈ cs, v.oneCell' = true)
    (h : K (a.put o.dst undef) (w.setRow g (old.take off ++ cs ++ old.drop (off + cs.length)).toArray)) : o.wp P a w K Q := by
  unfold Oper.wp execOp
  simp only [ho, hx, hy, Instr.storeAt, Instr.sureAddr, Sem.run_bind, Sem.run_pure, Result.andThen_ok, run_storeVar_mid w g off ty t old cs hg hl hi h1]
  exact h
theorem execBuild {P : Program} {o : Oper} {ev : Operand → Value} {w : World} {v : Value} (t : TypeId) (parts : Array (Nat × Operand)) (ho : o.op = .build t parts) (vs : Array (Nat × Value)) (hv : (parts.map fun (i, x) => (i, ev x)) = vs) (h : (Instr.build t vs).run P w = .ok v w) :
    (execOp ev o).run P w = .ok (.value v) w := by
  unfold execOp
  simp only [ho, hv, Sem.run_bind, Sem.run_pure, Result.andThen_ok, h]
theorem at4_seg (z : List Int) (o : Nat) : at4 ((z.drop o).take 4) 0 = at4 z o := by
  have q : ∀ j, j < 4 → at1 ((z.drop o).take 4) j = at1 z (o + j) := fun j hj => by unfold at1; rw [List.getElem?_take_of_lt hj, List.getElem?_drop]
  unfold at4
  rw [q 0 (by omega), q (0 + 1) (by omega), q (0 + 2) (by omega), q (0 + 3) (by omega)]
  simp only [Nat.add_zero, Nat.zero_add]
theorem CellsAt.far6 {w w' : World} {g : Nat} {t : TypeId} {cs : List Value} (h : CellsAt w g t cs) (hb : Below w.heap.size w w') : CellsAt w' g t cs := by
  have hl := h.lt
  unfold CellsAt at h ⊢; rw [hb.block _ hl]; exact h
theorem CellsAt.setRowO6 {w : World} {g g' : Nat} {t : TypeId} {cs : List Value} (h : CellsAt w g t cs) (cs' : Array Value) (hne : g ≠ g') : CellsAt (w.setRow g' cs') g t cs := by
  unfold CellsAt at h ⊢; rw [setRow_other w g' g cs' hne]; exact h
theorem hds_put (a : List (Int × List Int)) (h h' : Int × List Int) (b : List (Int × List Int)) (i : Nat) (ha : hdOk a) (hi : a.length = i) (hh : h.2.length = 32) (hh' : h'.2.length = 32) :
    (hdsC (a ++ h :: b)).take (i * 33) ++ hdC h' ++ (hdsC (a ++ h :: b)).drop (i * 33 + (hdC h').length) = hdsC (a ++ h' :: b) := by
  have hl := hdsC_len a ha
  have e1 : i * 33 = (hdsC a).length := by rw [hl]; omega
  rw [hdsC_app, hdsC_app, hdsC_cons, hdsC_cons, e1, hdC_len h' hh', List.take_left, List.drop_length_add_append, List.drop_left' (hdC_len h hh)]
  simp

set_option maxHeartbeats 8000000 in
theorem refReadHeads_any (x : Option Addr) (n c : Nat) (z : List Int) (w : World) (hb : Bytes w x n c z) (hz : ∀ v ∈ z, b8 v) :
    Calls Tryd.prog 7 #[.slice x n c] w fun e w' => e = .returned (.tuple #[.agg (hdsC (rhB z)).toArray, .int .i64 (rhE z)]) ∧ Below w.heap.size w w' := by
  have hzl := hb.len_eq
  have hle := hb.le
  have hct := hb.top
  obtain ⟨Z, hzv, hz1, hZ⟩ := zeroHeads_has
  have HZ : Veil (Z = hdsC hdZ) := ⟨hZ⟩
  have HZL : Veil (Z.length = 264) := ⟨by rw [hZ, hdsC_len hdZ (hdOk_rep 8)]; rfl⟩
  have hiZ : (Tryd.prog.info? 36).map (·.size) = some Z.length := by rw [hZ]; exact sizeHeadsL hdZ (hdOk_rep 8) rfl
  have h1Z : ∀ v ∈ Z, v.oneCell' = true := by rw [hZ]; exact hdsC_one _
  have hG0 := (CellsAt.new w 36 Z).alloc (.cells Z.toArray 36)
  have hG1 : CellsAt ((w.alloc (.cells Z.toArray 36)).alloc (.cells Z.toArray 36)) (w.heap.size + 1) 36 Z := by
    have := CellsAt.new (w.alloc (.cells Z.toArray 36)) 36 Z
    rw [World.size_alloc] at this
    exact this
  have hB0 : Below w.heap.size w ((w.alloc (.cells Z.toArray 36)).alloc (.cells Z.toArray 36)) := ((Below.refl _ _).alloc (Nat.le_refl _) _).alloc (by simp) _
  obtain ⟨A, hA⟩ : ∃ q, w.heap.size + 1 = q := ⟨_, rfl⟩
  have hne : w.heap.size < A := by omega
  by_cases h288 : n = 288
  rotate_left
  · have HR : Veil (rhB z = hdZ ∧ rhE z = 3) := ⟨by unfold rhB rhE; rw [if_neg (by omega), if_neg (by omega)]; exact ⟨rfl, rfl⟩⟩
    have hnn : ((n : Int) == 288) = false := by simp; omega
    rw [HR.out.1, HR.out.2, ← HZ.out]
    clear hb hz hZ hzl HZ HR
    go_enter Tryd.func7, Tryd.ntmps7
    go_upto_region 2 with fail
    refine forget (p := fun y => Code.wp _ _ _ _ y) (fun W => Below w.heap.size w W ∧ CellsAt W w.heap.size 36 Z ∧ CellsAt W (w.heap.size + 1) 36 Z) ⟨hB0, hG0, hG1⟩ ?_
    rw [hA]
    clear hB0 hG0 hG1 hA
    rintro W ⟨hB0, hG0, hG1⟩
    have rZ := hG1.whole
    go_wp2_with (first
      | (refine wpList_ldv rfl 36 _ rfl _ _ rfl Z rZ Tryd.underlying36 rfl hiZ ?_)
      | (refine wpList_stv rfl 36 _ _ rfl _ rfl rfl hG0 hiZ rfl h1Z ?_))
    refine bodyPost_ret (results_hdt Tryd.results7 _ rfl rfl (hG0.setRow Z) hiZ) rfl ⟨rfl, ?_⟩
    exact below_setRow hB0 (Nat.le_refl _) _
  subst h288
  have HR : Veil (rhB z = headsN z 8 ∧ rhE z = 0) := ⟨by unfold rhB rhE; rw [if_pos (by omega), if_pos (by omega)]; exact ⟨rfl, rfl⟩⟩
  rw [HR.out.1, HR.out.2]
  have hfo := fun (j : Nat) (hj : j < 8) wx (h : Below w.heap.size w wx) => refNum_any (subA x c (36 * j)) (c - 36 * j) ((z.drop (36 * j)).take 4) wx (by have := (hb.below h).cut (36 * j) (36 * j + 4) (by omega) (by omega); rw [show 36 * j + 4 - 36 * j = 4 by omega] at this; exact this) (fun v hv => hz v (List.mem_of_mem_drop (List.mem_of_mem_take hv)))
  have hky := fun (j : Nat) (hj : j < 8) wx (h : Below w.heap.size w wx) => refKey_any (subA x c (36 * j + 4)) 32 (c - (36 * j + 4)) ((z.drop (36 * j + 4)).take 32) wx (by have := (hb.below h).cut (36 * j + 4) (36 * j + 36) (by omega) (by omega); rw [show 36 * j + 36 - (36 * j + 4) = 32 by omega] at this; exact this) (Nat.le_refl _)
  simp only [at4_seg, List.take_take, Nat.min_self] at hfo hky
  have HFO := Veil.mk hfo
  have HKY := Veil.mk hky
  have HS : Veil (∀ j, headsN z (j + 1) = headsN z j ++ [hdAt z j]) := ⟨headsN_succ z⟩
  have HL : Veil (∀ j, (headsN z j).length = j) := ⟨headsN_len z⟩
  have HO : Veil (∀ j, j ≤ 8 → hdOk (headsN z j)) := ⟨fun j hj => headsN_ok z j (by omega)⟩
  have HA : Veil (∀ j, hdAt z j = (at4 z (36 * j), (z.drop (36 * j + 4)).take 32)) := ⟨fun _ => rfl⟩
  have HSL : Veil (∀ j, j < 8 → ((z.drop (36 * j + 4)).take 32).length = 32) := ⟨fun j hj => by rw [List.length_take, List.length_drop]; omega⟩
  obtain ⟨HH, hHH⟩ : ∃ q, hdsC (headsN z 8) = q := ⟨_, rfl⟩
  have HHH : Veil (hdsC (headsN z 8) = HH) := ⟨hHH⟩
  rw [hHH]
  clear hb hz hZ hzl HR hfo hky hHH
  go_enter Tryd.func7, Tryd.ntmps7
  go_upto_region 2 with fail
  refine forget (p := fun y => Code.wp _ _ _ _ y) (fun W => Below w.heap.size w W ∧ CellsAt W w.heap.size 36 Z ∧ CellsAt W (w.heap.size + 1) 36 Z) ⟨hB0, hG0, hG1⟩ ?_
  rw [hA]
  clear hB0 hG0 hG1 hA
  rintro W ⟨hB0, hG0, hG1⟩
  go_wp2_with fail
  go_loopw [5] (fun q wr => ∃ j : Nat, j ≤ 8 ∧ q = .int .i64 j ∧ Below w.heap.size w wr ∧ CellsAt wr w.heap.size 36 Z ∧ CellsAt wr A 36 (hdsC (headsN z j ++ List.replicate (8 - j) (0, keyZ)))) (fun q _ => 8 - (intOf q).toNat)
  case atStart => exact ⟨0, by omega, rfl, hB0, hG0, by rw [HZ.out] at hG1; exact hG1⟩
  case round =>
    clear hB0 hG0 hG1 W
    obtain ⟨j, hj, rfl, hB0, hG0, hG1⟩ := hrel
    by_cases hlt8 : j < 8
    · have hf := HFO.out j hlt8
      have hk := HKY.out j hlt8
      have hrep : List.replicate (8 - j) ((0 : Int), keyZ) = (0, keyZ) :: List.replicate (8 - (j + 1)) (0, keyZ) := by
        rw [show 8 - j = (8 - (j + 1)) + 1 by omega, List.replicate_succ]
      rw [hrep] at hG1
      have HS1 := HS.out j
      rw [HA.out j] at HS1
      have HOj := HO.out j hj
      have HLj := HL.out j
      have hSL := HSL.out j hlt8
      obtain ⟨V, hV⟩ : ∃ q, at4 z (36 * j) = q := ⟨_, rfl⟩
      obtain ⟨S, hS⟩ : ∃ q, (z.drop (36 * j + 4)).take 32 = q := ⟨_, rfl⟩
      rw [hV, hS] at HS1
      rw [hV] at hf
      rw [hS] at hk hSL
      obtain ⟨P, hP⟩ : ∃ q, headsN z j = q := ⟨_, rfl⟩
      obtain ⟨B, hB⟩ : ∃ q, List.replicate (8 - (j + 1)) ((0 : Int), keyZ) = q := ⟨_, rfl⟩
      rw [hP, hB] at hG1
      rw [hP] at HS1 HOj HLj
      have hput := hds_put P (0, keyZ) (V, S) B j HOj HLj rfl hSL
      have HE : Veil (hdsC (headsN z (j + 1) ++ List.replicate (8 - (j + 1)) (0, keyZ)) = hdsC (P ++ (V, S) :: B)) := ⟨by rw [HS1, hB]; simp⟩
      have hlc : (hdsC (P ++ (0, keyZ) :: B)).length = 264 := by
        have hBl : B.length = 8 - (j + 1) := by rw [← hB, List.length_replicate]
        have hok : hdOk (P ++ (0, keyZ) :: B) := fun x hx => by
          rcases List.mem_append.1 hx with h | h
          · exact HOj x h
          · rcases List.mem_cons.1 h with rfl | h
            · rfl
            · rw [← hB] at h; exact hdOk_rep _ x h
        rw [hdsC_len _ hok, List.length_append, List.length_cons, HLj, hBl]; omega
      have hbd := fun wx => head_built V S hSL wx
      have hDl : (hdC (V, S)).length = 33 := hdC_len (V, S) hSL
      have h1D : ∀ v ∈ hdC (V, S), v.oneCell' = true := fun v hv => hdsC_one [(V, S)] v (by unfold hdsC; simpa using hv)
      obtain ⟨C0, hC0⟩ : ∃ q, hdsC (P ++ (0, keyZ) :: B) = q := ⟨_, rfl⟩
      obtain ⟨C2, hC2⟩ : ∃ q, hdsC (P ++ (V, S) :: B) = q := ⟨_, rfl⟩
      obtain ⟨D, hD⟩ : ∃ q, hdC (V, S) = q := ⟨_, rfl⟩
      rw [hC0] at hG1 hput hlc
      rw [hC2] at hput HE
      rw [hD] at hput hbd hDl h1D
      have iD : (Tryd.prog.info? 35).map (·.size) = some D.length := by rw [hDl]; kernel_rfl
      have hlD : j * 33 + D.length ≤ C0.length := by rw [hDl, hlc]; omega
      have HPUT := Veil.mk hput
      obtain ⟨KS, hKS⟩ : ∃ q, (byC S).toArray = q := ⟨_, rfl⟩
      rw [hKS] at hbd hk
      obtain ⟨p1, hp1⟩ : ∃ q : Nat, 36 * j = q := ⟨_, rfl⟩
      obtain ⟨p2, hp2⟩ : ∃ q : Nat, 36 * j + 4 = q := ⟨_, rfl⟩
      obtain ⟨p3, hp3⟩ : ∃ q : Nat, 36 * j + 36 = q := ⟨_, rfl⟩
      rw [hp1] at hf
      rw [hp2] at hk
      have e1 : IntKind.i64.wrap (36 * (j : Int)) = (p1 : Int) := by rw [IntKind.wrap_i64]; omega
      have e2 : IntKind.i64.wrap ((p1 : Int) + 4) = (p2 : Int) := by rw [IntKind.wrap_i64]; omega
      have e3 : IntKind.i64.wrap ((p1 : Int) + 36) = (p3 : Int) := by rw [IntKind.wrap_i64]; omega
      have hc1 : ∀ wx : World, (Instr.slice 22 (.slice x 288 c) (some (.int .i64 (p1 : Int))) (some (.int .i64 (p2 : Int))) none).run Tryd.prog wx = .ok (.slice (subA x c p1) 4 (c - p1)) wx := fun wx => by
        have := run_cutLH2 wx x 288 c p1 p2 (by omega) (by omega)
        rw [show p2 - p1 = 4 by omega] at this; exact this
      have hc2 : ∀ wx : World, (Instr.slice 22 (.slice x 288 c) (some (.int .i64 (p2 : Int))) (some (.int .i64 (p3 : Int))) none).run Tryd.prog wx = .ok (.slice (subA x c p2) 32 (c - p2)) wx := fun wx => by
        have := run_cutLH2 wx x 288 c p2 p3 (by omega) (by omega)
        rw [show p3 - p2 = 32 by omega] at this; exact this
      have hj0 : (0 : Int) ≤ (j : Int) := by omega
      have hj8 : (j : Int) < 8 := by omega
      obtain ⟨y1, hy1⟩ : ∃ q, subA x c p1 = q := ⟨_, rfl⟩
      obtain ⟨y2, hy2⟩ : ∃ q, subA x c p2 = q := ⟨_, rfl⟩
      rw [hy1] at hf hc1
      rw [hy2] at hk hc2
      clear hrep HS1 HOj HLj hV hS hP hB hput hlc hC0 hC2 hD hDl hKS hp1 hp2 hp3 hy1 hy2 hSL
      go_upto_region 7 with fail
      refine wp_region_gate (fun _ => True) 20 (by kernel_rfl) ?_
      obtain ⟨D0, hD0⟩ : ∃ q, wr.drew = q := ⟨_, rfl⟩
      have hb0 : Below wr.heap.size wr D0 := by rw [← hD0]; exact (Below.refl _ _).drew
      rw [hD0]
      have hB1 := hB0.trans (hb0.mono hB0.size)
      have hM0 := hG0.far6 hb0
      have hM1 := hG1.far6 hb0
      clear hD0 hb0 hB0 hG0 hG1
      have hS : True := trivial
      refine wpAnyG_any (i := 0) (v := ?_) rfl (by kernel_rfl) (by kernel_rfl) (by kernel_rfl) (fun _ _ _ h => h) (by kernel_rfl) (fun _ => hS) (by kernel_rfl) ?_ ?_
      rotate_left
      · intro _; go_simp; try with_reducible rfl
      simp only [Act.put, List.setIfInBounds_toArray, List.set_cons_zero, List.set_cons_succ]
      refine wpAnyG_any (i := 1) (v := ?_) rfl (by kernel_rfl) (by kernel_rfl) (by kernel_rfl) (fun _ _ _ h => h) (by kernel_rfl) (fun _ => hS) (by kernel_rfl) ?_ ?_
      rotate_left
      · intro _; go_simp; try with_reducible rfl
      simp only [Act.put, List.setIfInBounds_toArray, List.set_cons_zero, List.set_cons_succ]
      refine wpAnyG_any (i := 2) (v := ?_) rfl (by kernel_rfl) (by kernel_rfl) (by kernel_rfl) (fun _ _ _ h => h) (by kernel_rfl) (fun _ => hS) (by kernel_rfl) ?_ ?_
      rotate_left
      · intro _; go_simp; try with_reducible rfl
      simp only [Act.put, List.setIfInBounds_toArray, List.set_cons_zero, List.set_cons_succ]
      refine wpAnyG_any (i := 3) (v := ?_) rfl (by kernel_rfl) (by kernel_rfl) (by kernel_rfl) (fun _ _ _ h => h) (by kernel_rfl) (fun _ => hS) (by kernel_rfl) ?_ ?_
      rotate_left
      · intro _; go_simp; try with_reducible rfl
      simp only [Act.put, List.setIfInBounds_toArray, List.set_cons_zero, List.set_cons_succ]
      refine wpAnyG_any (i := 4) (v := ?_) rfl (by kernel_rfl) (by kernel_rfl) (by kernel_rfl) (fun _ _ _ h => h) (by kernel_rfl) (fun _ => hS) (by kernel_rfl) ?_ ?_
      rotate_left
      · intro _; go_simp; try with_reducible rfl
      simp only [Act.put, List.setIfInBounds_toArray, List.set_cons_zero, List.set_cons_succ]
      refine wpAnyG_any (i := 5) (v := ?_) rfl (by kernel_rfl) (by kernel_rfl) (by kernel_rfl) (fun _ _ _ h => h) (by kernel_rfl) (fun _ => hS) (by kernel_rfl) ?_ ?_
      rotate_left
      · intro _; go_simp; try with_reducible rfl
      simp only [Act.put, List.setIfInBounds_toArray, List.set_cons_zero, List.set_cons_succ]
      refine wpAnyG_any (i := 6) (v := ?_) rfl (by kernel_rfl) (by kernel_rfl) (by kernel_rfl) (fun _ _ _ h => h) (by kernel_rfl) (fun _ => hS) (by kernel_rfl) ?_ ?_
      rotate_left
      · intro _; go_simp; try with_reducible rfl
      simp only [Act.put, List.setIfInBounds_toArray, List.set_cons_zero, List.set_cons_succ]
      refine wpAnyG_any (i := 7) (v := ?_) rfl (by kernel_rfl) (by kernel_rfl) (by kernel_rfl) (fun _ _ _ h => h) (by kernel_rfl) (fun _ => hS) (by kernel_rfl) ?_ ?_
      rotate_left
      · intro _; go_simp; try with_reducible rfl
      simp only [Act.put, List.setIfInBounds_toArray, List.set_cons_zero, List.set_cons_succ]
      refine wpAnyG_any (i := 9) (v := ?_) rfl (by kernel_rfl) (by kernel_rfl) (by kernel_rfl) (fun _ _ _ h => h) (by kernel_rfl) (fun _ => hS) (by kernel_rfl) ?_ ?_
      rotate_left
      · intro _; go_simp; try with_reducible rfl
      simp only [Act.put, List.setIfInBounds_toArray, List.set_cons_zero, List.set_cons_succ]
      refine wpAnyG_any (i := 10) (v := ?_) rfl (by kernel_rfl) (by kernel_rfl) (by kernel_rfl) (fun _ _ _ h => h) (by kernel_rfl) (fun _ => hS) (by kernel_rfl) ?_ ?_
      rotate_left
      · intro _; go_simp; try with_reducible rfl
      simp only [Act.put, List.setIfInBounds_toArray, List.set_cons_zero, List.set_cons_succ]
      refine wpAnyG_any (i := 11) (v := ?_) rfl (by kernel_rfl) (by kernel_rfl) (by kernel_rfl) (fun _ _ _ h => h) (by kernel_rfl) (fun _ => hS) (by kernel_rfl) ?_ ?_
      rotate_left
      · intro _; go_simp; try with_reducible rfl
      simp only [Act.put, List.setIfInBounds_toArray, List.set_cons_zero, List.set_cons_succ]
      refine wpAnyG_any (i := 12) (v := ?_) rfl (by kernel_rfl) (by kernel_rfl) (by kernel_rfl) (fun _ _ _ h => h) (by kernel_rfl) (fun _ => hS) (by kernel_rfl) ?_ ?_
      rotate_left
      · intro _; go_simp; try with_reducible rfl
      simp only [Act.put, List.setIfInBounds_toArray, List.set_cons_zero, List.set_cons_succ]
      refine wpAnyG_any (i := 13) (v := ?_) rfl (by kernel_rfl) (by kernel_rfl) (by kernel_rfl) (fun _ _ _ h => h) (by kernel_rfl) (fun _ => hS) (by kernel_rfl) ?_ ?_
      rotate_left
      · intro _; go_simp; try with_reducible rfl
      simp only [Act.put, List.setIfInBounds_toArray, List.set_cons_zero, List.set_cons_succ]
      refine wpAnyG_any (i := 14) (v := ?_) rfl (by kernel_rfl) (by kernel_rfl) (by kernel_rfl) (fun _ _ _ h => h) (by kernel_rfl) (fun _ => hS) (by kernel_rfl) ?_ ?_
      rotate_left
      · intro _; go_simp; try with_reducible rfl
      simp only [Act.put, List.setIfInBounds_toArray, List.set_cons_zero, List.set_cons_succ]
      refine wpAnyG_any (i := 15) (v := ?_) rfl (by kernel_rfl) (by kernel_rfl) (by kernel_rfl) (fun _ _ _ h => h) (by kernel_rfl) (fun _ => hS) (by kernel_rfl) ?_ ?_
      rotate_left
      · intro _; go_simp; try with_reducible rfl
      simp only [Act.put, List.setIfInBounds_toArray, List.set_cons_zero, List.set_cons_succ]
      refine wpAnyG_any (i := 16) (v := ?_) rfl (by kernel_rfl) (by kernel_rfl) (by kernel_rfl) (fun _ _ _ h => h) (by kernel_rfl) (fun _ => hS) (by kernel_rfl) ?_ ?_
      rotate_left
      · intro _; go_simp; try with_reducible rfl
      simp only [Act.put, List.setIfInBounds_toArray, List.set_cons_zero, List.set_cons_succ]
      refine wpAnyG_one (i := 8) rfl (by kernel_rfl) (by kernel_rfl) (fun K hK => ?_)
      go_wp2_with (go_at_call 12; refine (hf _ hB1).mono ?_; rintro e w2 ⟨rfl, hb2⟩)
      have hB2 := hB1.trans (hb2.mono hB1.size)
      have hN0 := hM0.far6 hb2
      have hN1 := hM1.far6 hb2
      clear hB1 hM0 hM1 hb2
      refine hK.out _ _ (fun _ => hS) ?_
      clear hK K
      refine wpAnyG_one (i := 17) rfl (by kernel_rfl) (by kernel_rfl) (fun K hK => ?_)
      go_wp2_with (go_at_call 14; refine (hk _ hB2).mono ?_; rintro e w3 ⟨rfl, hb3⟩)
      have hB3 := hB2.trans (hb3.mono hB2.size)
      have hQ0 := hN0.far6 hb3
      have hQ1 := hN1.far6 hb3
      clear hB2 hN0 hN1 hb3
      refine hK.out _ _ (fun _ => hS) ?_
      clear hK K
      refine wpAnyG_any (i := 18) (v := .agg D.toArray) rfl (by kernel_rfl) (by kernel_rfl) (by kernel_rfl) (fun _ _ _ h => h) (by kernel_rfl) (fun _ => hS) (by kernel_rfl) (fun wx => execBuild _ _ rfl #[(0, .int .u32 V), (1, .agg KS)] (by first | kernel_rfl | rfl) (hbd wx)) ?_
      simp only [Act.put, List.setIfInBounds_toArray, List.set_cons_zero, List.set_cons_succ]
      refine wpAnyG_any (i := 19) (v := ?_) rfl (by kernel_rfl) (by kernel_rfl) (by kernel_rfl) (fun _ _ _ h => h) (by kernel_rfl) (fun _ => hS) (by kernel_rfl) ?_ ?_
      rotate_left
      · intro _; go_simp; try with_reducible rfl
      simp only [Act.put, List.setIfInBounds_toArray, List.set_cons_zero, List.set_cons_succ]
      refine wpAnyG_one (i := 20) rfl (by kernel_rfl) (by kernel_rfl) (fun K hK => ?_)
      refine wp_stmE 35 _ _ rfl _ (j * 33) rfl rfl hQ1 iD hlD h1D ?_
      refine hK.out _ _ (fun h => absurd (show true = false from h) (by decide)) ?_
      clear hK K
      refine wpAnyG_done (by kernel_rfl) ?_ _
      have hQ2 := hQ1.setRow (C0.take (j * 33) ++ D ++ C0.drop (j * 33 + D.length))
      rw [HPUT.out] at hQ2
      rw [HPUT.out]
      have hU0 := hQ0.setRowO6 (g' := A) C2.toArray (by omega)
      have hBU : Below w.heap.size w (w3.setRow A C2.toArray) := below_setRow hB3 (by omega) _
      simp only [Act.put, List.getElem_toArray, List.getElem_cons_succ, List.getElem_cons_zero, List.setIfInBounds_toArray, List.set_cons_zero, List.set_cons_succ]
      clear hQ0 hQ1 hB3 hS hf hk hbd hc1 hc2
      go_wp2_with fail
      go_roundw
      case rel => exact ⟨j + 1, by omega, by go_num, hBU, hU0, by rw [HE.out]; exact hQ2⟩
      case measure => simp [intOf]; omega
    · obtain rfl : j = 8 := by omega
      have hP8 : headsN z 8 ++ List.replicate (8 - 8) (0, keyZ) = headsN z 8 := by simp
      rw [hP8, HHH.out] at hG1
      have iH : (Tryd.prog.info? 36).map (·.size) = some HH.length := by rw [← HHH.out]; exact sizeHeadsL _ (HO.out 8 (by omega)) (HL.out 8)
      have hlH : Z.length = HH.length := by rw [← HHH.out, hdsC_len _ (HO.out 8 (by omega)), HL.out 8, HZL.out]
      have h1H : ∀ v ∈ HH, v.oneCell' = true := by rw [← HHH.out]; exact hdsC_one _
      have rH := hG1.whole
      clear hP8
      go_wp2_with (first
        | (refine wpList_ldv rfl 36 _ rfl _ _ rfl HH rH Tryd.underlying36 rfl iH ?_)
        | (refine wpList_stv rfl 36 _ _ rfl _ rfl rfl hG0 iH hlH h1H ?_))
      refine bodyPost_ret (results_hdt Tryd.results7 _ rfl rfl (hG0.setRow HH) iH) rfl ⟨rfl, ?_⟩
      exact below_setRow hB0 (Nat.le_refl _) _
end Go.Proofs.YtdfjfafhpjoilaaDoor
