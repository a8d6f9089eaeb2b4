/- CausalNone, walked: what a buffer that is no buffer answers. -/
import Derived.Test.YtmoabomoodddkaaBlv
import Derived.Test.YtmoabomoodddkaaCausalVectorsW
namespace Go.Proofs.Ytmoabomoodddkaa
open Go.RowKit Go.Shelf
set_option maxRecDepth 20000
set_option linter.unusedSimpArgs false
set_option maxHeartbeats 4000000 in
theorem refuse_nil (E : List Value) (w : World) :
    Calls Try.prog 42 #[.pointer none, .agg E.toArray] w fun r w' => r = .returned (.int .i64 1) ∧ Below w.heap.size w w' := by
  have hB0 : Below w.heap.size w (w.alloc (.cells E.toArray 37)) := (Below.refl _ _).alloc (Nat.le_refl _) _
  go_enter Try.func42, Try.ntmps42
  go_wp2
  go_ret
  exact ⟨rfl, hB0⟩
set_option maxHeartbeats 4000000 in
theorem put_nil (e : Ev) (w : World) (he : e.Ok) :
    Calls Try.prog 28 #[.pointer none, .agg e.cells.toArray] w fun r w' => r = .returned (.tuple #[.slice none 0 0, .int .i64 1]) ∧ Below w.heap.size w w' := by
  have hB0 : Below w.heap.size w (w.alloc (.cells e.cells.toArray 37)) := (Below.refl _ _).alloc (Nat.le_refl _) _
  have hx0 := CellsAt.new w 37 e.cells
  have iE : (Try.prog.info? 37).map (·.size) = some e.cells.length := by rw [ev_len e he.past]; kernel_rfl
  have uE := Try.underlying37
  have hr := refuse_nil e.cells (w.alloc (.cells e.cells.toArray 37))
  have hrE := hx0.wholeM
  generalize e.cells = E at hB0 hx0 iE hr hrE ⊢
  clear he hx0
  go_enter Try.func28, Try.ntmps28
  go_wp2_with (first
    | (refine wpList_ldv rfl 37 _ rfl w.heap.size 0 rfl E hrE uE rfl iE ?_)
    | (go_at_call 42; refine hr.mono ?_; rintro x W1 ⟨rfl, hb1⟩))
  go_ret2
  exact ⟨rfl, hB0.trans (hb1.mono hB0.size)⟩
set_option maxHeartbeats 4000000 in
theorem seen_nil (w : World) :
    Calls Try.prog 29 #[.pointer none] w fun r w' => r = .returned (.agg (([0, 0, 0, 0, 0, 0, 0, 0] : List Int).map (Value.int .u32)).toArray) ∧ Below w.heap.size w w' := by
  have hz0 := CellsAt.new w 24 [.int .u32 0, .int .u32 0, .int .u32 0, .int .u32 0, .int .u32 0, .int .u32 0, .int .u32 0, .int .u32 0]
  have iV : (Try.prog.info? 24).map (·.size) = some ([.int .u32 0, .int .u32 0, .int .u32 0, .int .u32 0, .int .u32 0, .int .u32 0, .int .u32 0, .int .u32 0] : List Value).length := by exact sizeV8c
  have uV := Try.underlying24
  have HB2 : Veil (Below w.heap.size w ((w.alloc (.cells #[.int .u32 0, .int .u32 0, .int .u32 0, .int .u32 0, .int .u32 0, .int .u32 0, .int .u32 0, .int .u32 0] 24)).setRow w.heap.size #[.int .u32 0, .int .u32 0, .int .u32 0, .int .u32 0, .int .u32 0, .int .u32 0, .int .u32 0, .int .u32 0])) := ⟨⟨rfl, rfl, rfl, by simp [World.setRow, World.putObj], fun k hk => (setRow_other _ _ _ _ (by omega)).trans (Below.heap_alloc w _ k hk)⟩⟩
  have HZ := Veil.mk (hz0.setRow [.int .u32 0, .int .u32 0, .int .u32 0, .int .u32 0, .int .u32 0, .int .u32 0, .int .u32 0, .int .u32 0])
  go_enter Try.func29, Try.ntmps29
  go_wp2_with (first
    | (refine wpList_stv (cs := [.int .u32 0, .int .u32 0, .int .u32 0, .int .u32 0, .int .u32 0, .int .u32 0, .int .u32 0, .int .u32 0]) rfl 24 _ _ rfl w.heap.size rfl rfl hz0 iV rfl (by decide) ?_))
  refine bodyPost_ret (results_cells (Try.results29) _ rfl HZ.out uV rfl iV) rfl ?_
  exact ⟨rfl, HB2.out⟩
theorem waiting_nil (w : World) :
    Calls Try.prog 30 #[.pointer none] w fun r w' => r = .returned (.slice none 0 0) ∧ w' = w := by
  go_enter Try.func30, Try.ntmps30
  go_wp2
  go_ret
  exact ⟨rfl, rfl⟩
theorem fork_nil (w : World) :
    Calls Try.prog 32 #[.pointer none] w fun r w' => r = .returned (.pointer none) ∧ w' = w := by
  go_enter Try.func32, Try.ntmps32
  go_wp2
  go_ret
  exact ⟨rfl, rfl⟩
set_option maxHeartbeats 8000000 in
theorem cno_walk (e : Ev) (w : World) (he : e.Ok) :
    Calls Try.prog 11 #[.agg e.cells.toArray] w fun r w' => r = .returned (.bool true) ∧ Below w.heap.size w w' := by
  have hB0 : Below w.heap.size w (w.alloc (.cells e.cells.toArray 37)) := (Below.refl _ _).alloc (Nat.le_refl _) _
  have hx0 := CellsAt.new w 37 e.cells
  have iE : (Try.prog.info? 37).map (·.size) = some e.cells.length := by rw [ev_len e he.past]; kernel_rfl
  have uE := Try.underlying37
  have hp := put_nil e (w.alloc (.cells e.cells.toArray 37)) he
  have hrE := hx0.wholeM
  have hlv := @clive_any
  have hsn := @seen_nil
  have heq : ∀ wx, (Op.equalIn 10000 24 (.agg #[.int .u32 0, .int .u32 0, .int .u32 0, .int .u32 0, .int .u32 0, .int .u32 0, .int .u32 0, .int .u32 0]) (.agg #[.int .u32 0, .int .u32 0, .int .u32 0, .int .u32 0, .int .u32 0, .int .u32 0, .int .u32 0, .int .u32 0])).run Try.prog wx = .ok true wx := fun wx => by
    have := run_equalIn_rows (P := Try.prog) wx 9998 .u32 [0, 0, 0, 0, 0, 0, 0, 0] [0, 0, 0, 0, 0, 0, 0, 0] Try.underlying24 Try.underlying22 (by kernel_rfl) (by kernel_rfl) rfl rfl
    exact this
  generalize e.cells = E at hB0 hx0 iE hp hrE ⊢
  clear he hx0
  go_enter Try.func11, Try.ntmps11
  go_wp2_with (first
    | (refine wpList_ldv rfl 37 _ rfl w.heap.size 0 rfl E hrE uE rfl iE ?_)
    | (go_at_call 28; refine hp.mono ?_; rintro x W1 ⟨rfl, hb1⟩)
    | (go_at_call 12; refine (hlv W1).mono ?_; rintro x W2 ⟨rfl, hb2⟩)
    | (go_at_call 29; refine (hsn W2).mono ?_; rintro x W3 ⟨rfl, hb3⟩)
    | (go_at_call 30; refine (waiting_nil W3).mono ?_; rintro x W4 ⟨rfl, rfl⟩)
    | (go_at_call 32; refine (fork_nil _).mono ?_; rintro x W5 ⟨rfl, rfl⟩))
  go_ret
  have h1 := hB0.trans (hb1.mono hB0.size)
  have h2 := h1.trans (hb2.mono h1.size)
  exact ⟨rfl, h2.trans (hb3.mono h2.size)⟩
end Go.Proofs.Ytmoabomoodddkaa
