/- Fg13 -/
import Derived.Test.YtnmjplngbleopaaF14
import Derived.Test.YtnmjplngbleopaaF03
namespace Go.Proofs.Ytnmjplngbleopaa
open Go.RowKit Go.Shelf
set_option maxRecDepth 20000
set_option linter.unusedSimpArgs false
theorem exec_lookF {P : Program} {ρ : Operand → Value} {o : Oper} {w : World} {t : TypeId} {m x : Operand} {b : Bool} (ho : o.op = .lookup t m x b) {mv xv v : Value} (hm : ρ m = mv) (hx : ρ x = xv) (hrun : (Instr.lookup t mv xv b).run P w = .ok v w) : (execOp ρ o).run P w = .ok (.value v) w := by
  unfold execOp
  simp only [ho, hm, hx, Sem.run_bind, hrun, Result.andThen_ok, Sem.run_pure]
def chr0 (N : List Nd) (x : Int × Int) : Int := (chrN N x).getD 0
theorem chrM_getD (N : List Nd) (x : Int × Int) : (chrM N x).getD (.int .u8 0) = .int .u8 (chr0 N x) := by
  unfold chrM chr0
  cases chrN N x <;> rfl
theorem chrM_some (N : List Nd) (x : Int × Int) : (chrM N x).isSome = (chrN N x).isSome := by unfold chrM; cases chrN N x <;> rfl
set_option maxHeartbeats 4000000 in
theorem hasT_any (base R bc bn : Nat) (N : List Nd) (V : (Int × Int) × Bool → Value) (x : Int × Int) (hx : okDF x) (w : World) (hT : TreeAt w base R bc bn N V) :
    Calls Try.prog 21 #[.pointer (some ⟨R, 0, none⟩), .agg (encF x).toArray] w fun e w' => e = .returned (.bool (chrN N x).isSome) ∧ Below w.heap.size w w' := by
  have hd0 := CellsAt.new w 32 (encF x)
  have hB : Below w.heap.size w (w.alloc (.cells (encF x).toArray 32)) := (Below.refl _ _).alloc (Nat.le_refl _) _
  have HLOOK : Veil (∀ wx, MapX Try.prog 32 encDF okDF wx bc N.length (chrM N) → (Instr.lookup 48 (.map (some bc)) (.agg (encF x).toArray) true).run Try.prog wx = .ok (.tuple #[.int .u8 (chr0 N x), .bool (chrN N x).isSome]) wx) := ⟨fun wx h => by
    have := h.g.look keyEncDF Try.underlying48 (z := .int .u8 0) (by kernel_rfl) x hx
    rw [chrM_getD, chrM_some] at this
    exact this⟩
  obtain ⟨CX, hCX⟩ : ∃ q, chr0 N x = q := ⟨_, rfl⟩
  obtain ⟨IS, hIS⟩ : ∃ q, (chrN N x).isSome = q := ⟨_, rfl⟩
  rw [hCX, hIS] at HLOOK
  rw [hIS]
  clear hCX hIS hx
  have uD := Try.underlying32
  have iD : (Try.prog.info? 32).map (·.size) = some (encF x).length := sizeDot
  obtain ⟨DX, hDX⟩ : ∃ q, encF x = q := ⟨_, rfl⟩
  rw [hDX] at HLOOK iD hd0 hB ⊢
  clear hDX
  go_enter Try.func21, Try.ntmps21
  go_upto_region 3 with fail
  refine forget (p := fun y => Code.wp _ _ _ _ y) (fun W => Below w.heap.size w W ∧ TreeAt W base R bc bn N V ∧ CellsAt W w.heap.size 32 DX) ⟨hB, hT.far hB, hd0⟩ ?_
  clear hB hd0 hT
  rintro W ⟨hB, hC, hd0⟩
  refine wp_region_gateT (fun w' => w'.cell? ⟨R, 0, none⟩ = some (.map (some bc)) ∧ w'.rangeAt w.heap.size 0 DX ∧ MapX Try.prog 32 encDF okDF w' bc N.length (chrM N)) (fun _ => True) 99 (by kernel_rfl) ?_
  have hT : (fun w' : World => w'.cell? ⟨R, 0, none⟩ = some (.map (some bc)) ∧ w'.rangeAt w.heap.size 0 DX ∧ MapX Try.prog 32 encDF okDF w' bc N.length (chrM N)) W.drew := ⟨(hC.box.congr (w' := W.drew) rfl).cell 0, (hd0.congr (w' := W.drew) rfl).wholeM, hC.chars.congr rfl⟩
  have hS : (fun _ : World => True) W.drew := trivial
  clear hC hd0
  refine wpAnyT_held (i := 0) (v := ?_) rfl (by kernel_rfl) (by kernel_rfl) (by kernel_rfl) (fun _ _ _ h => h) (by kernel_rfl) hT (fun _ => hS) (by kernel_rfl) ?_ ?_
  rotate_left
  · intro wx hSw; go_split_ands; go_simp; try with_reducible rfl
  simp only [Act.put, List.getElem_toArray, List.getElem_cons_succ, List.getElem_cons_zero, List.setIfInBounds_toArray, List.set_cons_zero, List.set_cons_succ]
  refine wpAnyT_held (i := 1) (v := ?_) rfl (by kernel_rfl) (by kernel_rfl) (by kernel_rfl) (fun _ _ _ h => h) (by kernel_rfl) hT (fun _ => hS) (by kernel_rfl) ?_ ?_
  rotate_left
  · intro wx hSw; go_split_ands; go_simp; try with_reducible rfl
  simp only [Act.put, List.getElem_toArray, List.getElem_cons_succ, List.getElem_cons_zero, List.setIfInBounds_toArray, List.set_cons_zero, List.set_cons_succ]
  refine wpAnyT_held (i := 2) (v := ?_) rfl (by kernel_rfl) (by kernel_rfl) (by kernel_rfl) (fun _ _ _ h => h) (by kernel_rfl) hT (fun _ => hS) (by kernel_rfl) ?_ ?_
  rotate_left
  · intro wx hSw; go_split_ands; go_simp; try with_reducible rfl
  simp only [Act.put, List.getElem_toArray, List.getElem_cons_succ, List.getElem_cons_zero, List.setIfInBounds_toArray, List.set_cons_zero, List.set_cons_succ]
  refine wpAnyT_held (i := 3) (v := ?_) rfl (by kernel_rfl) (by kernel_rfl) (by kernel_rfl) (fun _ _ _ h => h) (by kernel_rfl) hT (fun _ => hS) (by kernel_rfl) ?_ ?_
  rotate_left
  · intro wx hSw; go_split_ands; go_simp; try with_reducible rfl
  simp only [Act.put, List.getElem_toArray, List.getElem_cons_succ, List.getElem_cons_zero, List.setIfInBounds_toArray, List.set_cons_zero, List.set_cons_succ]
  refine wpAnyT_load (i := 4) (dst := some 14) (ty := 32) (x := .tmp 3) (b := w.heap.size) (o := (0)) (cs := DX) (by kernel_rfl) (by kernel_rfl) (by kernel_rfl) (by kernel_rfl) (by kernel_rfl) (fun _ _ _ h => h) (by kernel_rfl) hT (fun _ => hS) (by kernel_rfl) (fun _ h => h.2.1) uD rfl iD ?_
  simp only [Act.put, List.getElem_toArray, List.getElem_cons_succ, List.getElem_cons_zero, List.setIfInBounds_toArray, List.set_cons_zero, List.set_cons_succ]
  refine wpAnyT_held (i := 5) (v := .tuple #[.int .u8 CX, .bool IS]) rfl (by kernel_rfl) (by kernel_rfl) (by kernel_rfl) (fun _ _ _ h => h) (by kernel_rfl) hT (fun _ => hS) (by kernel_rfl) (fun wx h => exec_lookF rfl rfl rfl (HLOOK.out wx h.2.2)) ?_
  simp only [Act.put, List.getElem_toArray, List.getElem_cons_succ, List.getElem_cons_zero, List.setIfInBounds_toArray, List.set_cons_zero, List.set_cons_succ]
  refine wpAnyT_held (i := 6) (v := ?_) rfl (by kernel_rfl) (by kernel_rfl) (by kernel_rfl) (fun _ _ _ h => h) (by kernel_rfl) hT (fun _ => hS) (by kernel_rfl) ?_ ?_
  rotate_left
  · intro wx hSw; go_split_ands; go_simp; try with_reducible rfl
  simp only [Act.put, List.getElem_toArray, List.getElem_cons_succ, List.getElem_cons_zero, List.setIfInBounds_toArray, List.set_cons_zero, List.set_cons_succ]
  refine wpAnyT_held (i := 7) (v := ?_) rfl (by kernel_rfl) (by kernel_rfl) (by kernel_rfl) (fun _ _ _ h => h) (by kernel_rfl) hT (fun _ => hS) (by kernel_rfl) ?_ ?_
  rotate_left
  · intro wx hSw; go_split_ands; go_simp; try with_reducible rfl
  simp only [Act.put, List.getElem_toArray, List.getElem_cons_succ, List.getElem_cons_zero, List.setIfInBounds_toArray, List.set_cons_zero, List.set_cons_succ]
  refine wpAnyT_held (i := 8) (v := ?_) rfl (by kernel_rfl) (by kernel_rfl) (by kernel_rfl) (fun _ _ _ h => h) (by kernel_rfl) hT (fun _ => hS) (by kernel_rfl) ?_ ?_
  rotate_left
  · intro wx hSw; go_split_ands; go_simp; try with_reducible rfl
  simp only [Act.put, List.getElem_toArray, List.getElem_cons_succ, List.getElem_cons_zero, List.setIfInBounds_toArray, List.set_cons_zero, List.set_cons_succ]
  refine wpAnyT_held (i := 9) (v := ?_) rfl (by kernel_rfl) (by kernel_rfl) (by kernel_rfl) (fun _ _ _ h => h) (by kernel_rfl) hT (fun _ => hS) (by kernel_rfl) ?_ ?_
  rotate_left
  · intro wx hSw; go_split_ands; go_simp; try with_reducible rfl
  simp only [Act.put, List.getElem_toArray, List.getElem_cons_succ, List.getElem_cons_zero, List.setIfInBounds_toArray, List.set_cons_zero, List.set_cons_succ]
  refine wpAnyT_held (i := 10) (v := ?_) rfl (by kernel_rfl) (by kernel_rfl) (by kernel_rfl) (fun _ _ _ h => h) (by kernel_rfl) hT (fun _ => hS) (by kernel_rfl) ?_ ?_
  rotate_left
  · intro wx hSw; go_split_ands; go_simp; try with_reducible rfl
  simp only [Act.put, List.getElem_toArray, List.getElem_cons_succ, List.getElem_cons_zero, List.setIfInBounds_toArray, List.set_cons_zero, List.set_cons_succ]
  refine wpAnyT_done (by kernel_rfl) ?_ _
  clear hT hS
  go_wp2
  go_ret
  exact ⟨rfl, hB.drew⟩
set_option maxHeartbeats 4000000 in
theorem isRoot_any (x : Int × Int) (w : World) :
    Calls Try.prog 20 #[.agg (encF x).toArray] w fun e w' => e = .returned (.bool (decide (x = (0, 0)))) ∧ Below w.heap.size w w' := by
  obtain ⟨a, s⟩ := x
  have hB : Below w.heap.size w (w.alloc (.cells #[.int .u8 a, .int .u32 s] 32)) := (Below.refl _ _).alloc (Nat.le_refl _) _
  simp only [encF, dotC]
  by_cases h1 : a = 0
  · by_cases h2 : s = 0
    · subst h1 h2
      go_enter Try.func20, Try.ntmps20
      go_wp2
      go_ret
      exact ⟨rfl, hB⟩
    · subst h1
      have hd : decide (((0 : Int), s) = (0, 0)) = false := by simp [h2]
      rw [hd]
      go_enter Try.func20, Try.ntmps20
      go_wp2
      go_ret
      exact ⟨rfl, hB⟩
  · have hd : decide ((a, s) = (0, 0)) = false := by simp [h1]
    rw [hd]
    go_enter Try.func20, Try.ntmps20
    go_wp2
    go_ret
    exact ⟨rfl, hB⟩
end Go.Proofs.Ytnmjplngbleopaa
