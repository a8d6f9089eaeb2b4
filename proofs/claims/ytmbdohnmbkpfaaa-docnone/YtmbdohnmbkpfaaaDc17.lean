/- doc: what no document answers. -/
import Derived.Test.YtmbdohnmbkpfaaaDc12
namespace Go.Proofs.Ytmbdohnmbkpfaaa
open Go.RowKit Go.Shelf
set_option maxRecDepth 20000
set_option linter.unusedSimpArgs false
theorem zC_new (w : World) : CellsAt (w.alloc (.cells zC.toArray 30)) w.heap.size 30 zC ∧ Below w.heap.size w (w.alloc (.cells zC.toArray 30)) := ⟨CellsAt.new w 30 zC, (Below.refl _ _).alloc (Nat.le_refl _) _⟩
theorem zC_size : (Try.prog.info? 30).map (·.size) = some zC.length := by show _ = some 17; kernel_rfl
set_option maxHeartbeats 4000000 in
theorem dWrite_nil (a i c : Int) (w : World) : Calls Try.prog 4 #[.pointer none, .int .u8 a, .int .i64 i, .int .u8 c] w fun r w' => r = .returned (.tuple #[.agg zC.toArray, .int .i64 1]) ∧ Below w.heap.size w w' := by
  obtain ⟨hz, hB⟩ := zC_new w
  have hch := isChar_any c (w.alloc (.cells zC.toArray 30))
  have HFB : Veil (∀ f W, Calls Try.prog 16 #[.pointer none, .int .u8 a, .bool f, .int .u8 2] W fun r w' => r = .returned (.int .i64 1) ∧ w' = W) := ⟨fun f W => dforbid_nil a f 2 W⟩
  have iZ := zC_size
  have h1 := zC_one
  have uE := Try.underlying30
  unfold zC at *
  go_enter Try.func4, Try.ntmps4
  go_wp2_with (first
    | (go_at_call 17; refine hch.mono ?_; rintro y W1 ⟨rfl, rfl⟩; clear hch)
    | (go_at_call 16; refine (HFB.out _ _).mono ?_; rintro y W2 ⟨rfl, rfl⟩)
    | (refine wpList_stv rfl 30 _ _ rfl w.heap.size rfl rfl hz iZ rfl h1 ?_))
  exact bodyPost_ret (results_ct (Try.results4) _ rfl rfl (hz.setRow _) uE rfl iZ) rfl ⟨rfl, below_setRow hB (Nat.le_refl _) _⟩
set_option maxHeartbeats 4000000 in
theorem dErase_nil (a i : Int) (w : World) : Calls Try.prog 5 #[.pointer none, .int .u8 a, .int .i64 i] w fun r w' => r = .returned (.tuple #[.agg zC.toArray, .int .i64 1]) ∧ Below w.heap.size w w' := by
  obtain ⟨hz, hB⟩ := zC_new w
  have HFB : Veil (∀ f W, Calls Try.prog 16 #[.pointer none, .int .u8 a, .bool f, .int .u8 2] W fun r w' => r = .returned (.int .i64 1) ∧ w' = W) := ⟨fun f W => dforbid_nil a f 2 W⟩
  have iZ := zC_size
  have h1 := zC_one
  have uE := Try.underlying30
  unfold zC at *
  go_enter Try.func5, Try.ntmps5
  go_wp2_with (first
    | (go_at_call 16; refine (HFB.out _ _).mono ?_; rintro y W2 ⟨rfl, rfl⟩)
    | (refine wpList_stv rfl 30 _ _ rfl w.heap.size rfl rfl hz iZ rfl h1 ?_))
  exact bodyPost_ret (results_ct (Try.results5) _ rfl rfl (hz.setRow _) uE rfl iZ) rfl ⟨rfl, below_setRow hB (Nat.le_refl _) _⟩
set_option maxHeartbeats 4000000 in
theorem dTake_nil (a who : Int) (w : World) : Calls Try.prog 7 #[.pointer none, .int .u8 a, .int .u8 who] w fun r w' => r = .returned (.tuple #[.agg zC.toArray, .int .i64 1]) ∧ Below w.heap.size w w' := by
  obtain ⟨hz, hB⟩ := zC_new w
  have hch := isMember_any who (w.alloc (.cells zC.toArray 30))
  have HFB : Veil (∀ f W, Calls Try.prog 16 #[.pointer none, .int .u8 a, .bool f, .int .u8 3] W fun r w' => r = .returned (.int .i64 1) ∧ w' = W) := ⟨fun f W => dforbid_nil a f 3 W⟩
  have iZ := zC_size
  have h1 := zC_one
  have uE := Try.underlying30
  unfold zC at *
  go_enter Try.func7, Try.ntmps7
  go_wp2_with (first
    | (go_at_call 21; refine hch.mono ?_; rintro y W1 ⟨rfl, rfl⟩; clear hch)
    | (go_at_call 16; refine (HFB.out _ _).mono ?_; rintro y W2 ⟨rfl, rfl⟩)
    | (refine wpList_stv rfl 30 _ _ rfl w.heap.size rfl rfl hz iZ rfl h1 ?_))
  exact bodyPost_ret (results_ct (Try.results7) _ rfl rfl (hz.setRow _) uE rfl iZ) rfl ⟨rfl, below_setRow hB (Nat.le_refl _) _⟩
set_option maxHeartbeats 4000000 in
theorem dGive_nil (a who role : Int) (w : World) : Calls Try.prog 6 #[.pointer none, .int .u8 a, .int .u8 who, .int .u8 role] w fun r w' => r = .returned (.tuple #[.agg zC.toArray, .int .i64 1]) ∧ Below w.heap.size w w' := by
  obtain ⟨hz, hB⟩ := zC_new w
  have hch := isMember_any who (w.alloc (.cells zC.toArray 30))
  have hgv := isGiven_any role (w.alloc (.cells zC.toArray 30))
  generalize decide (who < 8) = MW at hch
  have HFB : Veil (∀ f W, Calls Try.prog 16 #[.pointer none, .int .u8 a, .bool f, .int .u8 3] W fun r w' => r = .returned (.int .i64 1) ∧ w' = W) := ⟨fun f W => dforbid_nil a f 3 W⟩
  have iZ := zC_size
  have h1 := zC_one
  have uE := Try.underlying30
  unfold zC at *
  go_enter Try.func6, Try.ntmps6
  cases MW
  all_goals
    go_wp2_with (first
      | (go_at_call 21; refine hch.mono ?_; rintro y W1 ⟨rfl, rfl⟩; clear hch)
      | (go_at_call 22; refine hgv.mono ?_; rintro y W1 ⟨rfl, rfl⟩; clear hgv)
      | (go_at_call 16; refine (HFB.out _ _).mono ?_; rintro y W2 ⟨rfl, rfl⟩)
      | (refine wpList_stv rfl 30 _ _ rfl w.heap.size rfl rfl hz iZ rfl h1 ?_))
  all_goals
    exact bodyPost_ret (results_ct (Try.results6) _ rfl rfl (hz.setRow _) uE rfl iZ) rfl ⟨rfl, below_setRow hB (Nat.le_refl _) _⟩
set_option maxHeartbeats 4000000 in
theorem dMembers_nil (w : World) : Calls Try.prog 12 #[.pointer none] w fun r w' => r = .returned (.agg (row .u8 [0, 0, 0, 0, 0, 0, 0, 0])) ∧ Below w.heap.size w w' := by
  have hr := Holds.new w .u8 45 [0, 0, 0, 0, 0, 0, 0, 0]
  have hB : Below w.heap.size w (w.alloc (.cells (row .u8 [0, 0, 0, 0, 0, 0, 0, 0]) 45)) := (Below.refl _ _).alloc (Nat.le_refl _) _
  go_enter Try.func12, Try.ntmps12
  go_wp2_with (refine wpList_st (l := [0, 0, 0, 0, 0, 0, 0, 0]) rfl 45 _ _ rfl w.heap.size rfl rfl hr sizeR8 rfl ?_)
  exact bodyPost_ret (results_holds (Try.results12) _ rfl (hr.setRow _) Try.underlying45 sizeR8 rfl) rfl ⟨rfl, below_setRow hB (Nat.le_refl _) _⟩
set_option maxHeartbeats 4000000 in
theorem dVector_nil (w : World) : Calls Try.prog 13 #[.pointer none] w fun r w' => r = .returned (.agg (row .u32 [0, 0, 0, 0, 0, 0, 0, 0])) ∧ Below w.heap.size w w' := by
  have hr := Holds.new w .u32 27 [0, 0, 0, 0, 0, 0, 0, 0]
  have i8 : (Try.prog.info? 27).map (·.size) = some 8 := by kernel_rfl
  have hB : Below w.heap.size w (w.alloc (.cells (row .u32 [0, 0, 0, 0, 0, 0, 0, 0]) 27)) := (Below.refl _ _).alloc (Nat.le_refl _) _
  go_enter Try.func13, Try.ntmps13
  go_wp2_with (refine wpList_st (l := [0, 0, 0, 0, 0, 0, 0, 0]) rfl 27 _ _ rfl w.heap.size rfl rfl hr i8 rfl ?_)
  exact bodyPost_ret (results_holds (Try.results13) _ rfl (hr.setRow _) Try.underlying27 i8 rfl) rfl ⟨rfl, below_setRow hB (Nat.le_refl _) _⟩
theorem dEvents_nil (w : World) : Calls Try.prog 14 #[.pointer none] w fun r w' => r = .returned (.slice none 0 0) ∧ w' = w := by
  go_enter Try.func14, Try.ntmps14
  go_wp2
  go_ret
  exact ⟨rfl, rfl⟩
theorem dFork_nil (w : World) : Calls Try.prog 15 #[.pointer none] w fun r w' => r = .returned (.pointer none) ∧ w' = w := by
  go_enter Try.func15, Try.ntmps15
  go_wp2
  go_ret
  exact ⟨rfl, rfl⟩
end Go.Proofs.Ytmbdohnmbkpfaaa

