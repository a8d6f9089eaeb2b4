/- chain: heads compared; deeds as cells; the calls on no chain. -/
import Derived.Test.YtgcidamdbidgiaaDoorHv
namespace Go.Proofs.YtgcidamdbidgiaaDoor
open Go.RowKit
set_option maxRecDepth 20000
set_option linter.unusedSimpArgs false

theorem headsC_inj : ∀ (l m : List (Int × List Int)), okHs l → okHs m → l.length = m.length → headsC l = headsC m → l = m
  | [], [], _, _, _, _ => rfl
  | [], _ :: _, _, _, h, _ => by simp at h
  | _ :: _, [], _, _, h, _ => by simp at h
  | a :: l, c :: m, h1, h2, h3, e => by
    rw [headsC_cons, headsC_cons] at e
    obtain ⟨e1, e2⟩ := List.append_inj e (by rw [headC_len a (h1 a (by simp)).2.1, headC_len c (h2 c (by simp)).2.1])
    rw [headC_inj e1, headsC_inj l m (fun x hx => h1 x (by simp [hx])) (fun x hx => h2 x (by simp [hx])) (by simpa using h3) e2]
def okHs8 (l : List (Int × List Int)) : Prop := okHs l ∧ l.length = 8
def encHs (l : List (Int × List Int)) : Value := .agg (headsC l).toArray
theorem flatHeads (d : Nat) (l : List (Int × List Int)) (hl : okHs8 l) : Flat Tryd.prog (d + 1 + 1 + 1 + 1) 41 (headsC l) :=
  flat_arr Tryd.underlying41 (c := 33) (by kernel_rfl) (by rw [headsC_len l hl.1, hl.2]; kernel_rfl) fun i hi => by
    have := headsC_part l hl.1 i (by rw [hl.2]; exact hi) []
    rw [List.append_nil] at this
    rw [this]
    exact flatHead d _ (hl.1 _ (List.getElem_mem _))
theorem keyEncHs : KeyEnc Tryd.prog 41 encHs okHs8 where
  keyed := Go.Maps.Keyed.of_law (deep_law (m := 5) (by omega) (by kernel_rfl) (by kernel_rfl) (by kernel_rfl))
  has := fun k h => by
    obtain ⟨m, hm⟩ := manyTypes
    exact key_of_flat (by kernel_rfl) (by kernel_rfl) (by rw [headsC_len k h.1, h.2]; kernel_rfl) (by rw [hm]; exact flatHeads _ k h)
  inj := fun x y hx hy e => headsC_inj x y hx.1 hy.1 (by rw [hx.2, hy.2]) (by unfold encHs at e; injection e with e; simpa using e)
theorem eqlHeads (x y : List (Int × List Int)) (hx : okHs8 x) (hy : okHs8 y) (w : World) : (binOp .eql 41 (.agg (headsC x).toArray) (.agg (headsC y).toArray)).run Tryd.prog w = .ok (.bool (decide (x = y))) w := keyEncHs.eql (m := 5) (by omega) (by kernel_rfl) (by kernel_rfl) x y hx hy rfl rfl w
theorem OkS.heads8 {T : Sms} (h : OkS T) : okHs8 (headsOf T) := ⟨h.heads_ok, headsOf_length T⟩
/-- A deed's cells. -/
def deedC (F : Fr) (fits cmp : Bool) (hs : List (Int × List Int)) : List Value := F.cells ++ ([.bool fits, .bool cmp] ++ headsC hs)
theorem deedC_parts (F : Fr) (fits cmp : Bool) (hs : List (Int × List Int)) (hF : F.cells.length = 70) (hh : okHs8 hs) : (deedC F fits cmp hs).length = 336 ∧ ((deedC F fits cmp hs).drop 0).take 70 = F.cells ∧ (deedC F fits cmp hs)[70]? = some (.bool fits) ∧ (deedC F fits cmp hs)[71]? = some (.bool cmp) ∧ ((deedC F fits cmp hs).drop 72).take 264 = headsC hs := by
  have hl : (headsC hs).length = 264 := by rw [headsC_len hs hh.1, hh.2]
  unfold deedC
  refine ⟨by simp [hF, hl], by rw [List.drop_zero]; exact List.take_left' hF, ?_, ?_, ?_⟩
  · rw [List.getElem?_append_right (by omega), hF]; rfl
  · rw [List.getElem?_append_right (by omega), hF]; rfl
  · rw [show 72 = F.cells.length + 2 by omega, List.drop_length_add_append]
    exact List.take_of_length_le (by simp [hl])
section
variable (w : World)
set_option maxHeartbeats 4000000 in
theorem look_nil (F : Fr) : Calls Tryd.prog 17 #[.pointer none, .agg F.cells.toArray] w fun e w' => e = .returned (.int .i64 1) ∧ Below w.heap.size w w' := by
  have hB : Below w.heap.size w (w.alloc (.cells F.cells.toArray 38)) := (Below.refl _ _).alloc (Nat.le_refl _) _
  go_enter Tryd.func17, Tryd.ntmps17
  go_wp2
  go_ret
  exact ⟨rfl, hB⟩
set_option maxHeartbeats 4000000 in
theorem add_nil (F : Fr) (hF : F.cells.length = 70) : Calls Tryd.prog 15 #[.pointer none, .agg F.cells.toArray] w fun e w' => e = .returned (.int .i64 1) ∧ Below w.heap.size w w' := by
  have hB : Below w.heap.size w (w.alloc (.cells F.cells.toArray 38)) := (Below.refl _ _).alloc (Nat.le_refl _) _
  have hl := look_nil (w.alloc (.cells F.cells.toArray 38)) F
  have rF := (CellsAt.new w 38 F.cells).wholeM
  have iF : (Tryd.prog.info? 38).map (·.size) = some F.cells.length := by rw [hF]; exact sizeFrame
  go_enter Tryd.func15, Tryd.ntmps15
  go_wp2_with (first
    | (refine wpList_ldv rfl 38 _ rfl _ _ rfl F.cells rF Tryd.underlying38 rfl iF ?_)
    | (go_at_call 17; refine hl.mono ?_; rintro e w1 ⟨rfl, hb1⟩))
  go_ret
  exact ⟨rfl, hB.trans (hb1.mono hB.size)⟩
set_option maxHeartbeats 4000000 in
theorem heads_nil : Calls Tryd.prog 14 #[.pointer none] w fun e w' => e = .returned (.agg (headsC (headsOf noS)).toArray) ∧ Below w.heap.size w w' := by
  obtain ⟨Z, hzv, hz1, hZ⟩ := zeroHeadsH
  have hZl : Z.length = 264 := by rw [hZ]; exact okS_no.headsLen
  have h1 : ∀ v ∈ Z, v.oneCell' = true := by rw [hZ]; exact headsC_one _
  have hB : Below w.heap.size w (w.alloc (.cells Z.toArray 41)) := (Below.refl _ _).alloc (Nat.le_refl _) _
  have hr0 := CellsAt.new w 41 Z
  have iH : (Tryd.prog.info? 41).map (·.size) = some Z.length := by rw [hZl]; exact sizeHeads
  have hbd : ∀ wx, (Instr.build 41 #[]).run Tryd.prog wx = .ok (.agg Z.toArray) wx := fun wx => by rw [hZ]; exact run_build wx _ _ _ (by kernel_rfl)
  have HBD := Veil.mk hbd
  rw [← hZ]
  clear hZ hbd
  go_enter Tryd.func14, Tryd.ntmps14
  go_wp2_with (first
    | (refine wpList_bldx rfl 41 _ rfl #[] (by first | rfl | kernel_rfl) _ (HBD.out _) ?_)
    | (refine wpList_stv rfl 41 _ _ rfl _ rfl rfl hr0 iH rfl h1 ?_))
  refine bodyPost_ret (results_cells (Tryd.results14) _ rfl (hr0.setRow Z) Tryd.underlying41 rfl iH) rfl ⟨rfl, ?_⟩
  exact below_setRow hB (Nat.le_refl _) _
set_option maxHeartbeats 4000000 in
theorem compare_nil (hs : List Value) : Calls Tryd.prog 20 #[.pointer none, .agg hs.toArray] w fun e w' => e = .returned (.slice none 0 0) ∧ Below w.heap.size w w' := by
  have hB : Below w.heap.size w (w.alloc (.cells hs.toArray 41)) := (Below.refl _ _).alloc (Nat.le_refl _) _
  go_enter Tryd.func20, Tryd.ntmps20
  go_wp2
  go_ret
  exact ⟨rfl, hB⟩
theorem proofs_nil : Calls Tryd.prog 18 #[.pointer none] w fun e w' => e = .returned (.slice none 0 0) ∧ w' = w := by
  go_enter Tryd.func18, Tryd.ntmps18
  go_wp2
  go_ret
  exact ⟨rfl, rfl⟩
theorem fork_nil : Calls Tryd.prog 21 #[.pointer none] w fun e w' => e = .returned (.pointer none) ∧ w' = w := by
  go_enter Tryd.func21, Tryd.ntmps21
  go_wp2
  go_ret
  exact ⟨rfl, rfl⟩
end
end Go.Proofs.YtgcidamdbidgiaaDoor
