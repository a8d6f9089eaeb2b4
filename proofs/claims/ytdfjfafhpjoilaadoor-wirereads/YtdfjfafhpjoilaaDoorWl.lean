/- 'live' of the statements on wire. -/
import Derived.Test.YtdfjfafhpjoilaaDoorWr6
import Derived.Test.YtdfjfafhpjoilaaDoorWb1
namespace Go.Proofs.YtdfjfafhpjoilaaDoor
open Go.RowKit
set_option maxRecDepth 20000
set_option linter.unusedSimpArgs false

def fr0 : Fr := ⟨3, 0, 0, 0, List.replicate 32 0, .slice none 0 0, .slice none 0 0, List.replicate 32 0⟩
def ev0 : Ev := ⟨0, 0, List.replicate 8 0, 0, 0, 0, false, 0, 0, 0⟩
theorem wraps_nil (w : World) : WrapsAt w none 0 0 [] := ⟨rfl, by omega, by omega, fun _ => rfl, (fun e he => by cases he), .inl rfl⟩
theorem frame0_length : (frameL fr0 [] []).length = 79 := by decide
theorem frame0_third : (frameL fr0 [] [])[2]?.getD 0 = 3 := by decide

def fr00 : Fr := ⟨0, 0, 0, 0, List.replicate 32 0, .slice none 0 0, .slice none 0 0, List.replicate 32 0⟩
theorem zeroFrame_info : (Tryd.prog.info? 30).map (fun i => i.zero) = some (some (.agg fr00.cells.toArray)) := by kernel_rfl
theorem zeroFrame (wx : World) : (zeroValue 30).run Tryd.prog wx = .ok (.agg fr00.cells.toArray) wx := by
  have h := zeroFrame_info
  cases hq : Tryd.prog.info? 30 with
  | none => simp [hq] at h
  | some i =>
    have hz : i.zero = some (.agg fr00.cells.toArray) := by simpa [hq] using h
    simp [zeroValue, typeInfo, hq, hz]
theorem zeroFrame_has : ∃ Z : Array Value, (∀ wx, (zeroValue 30).run Tryd.prog wx = .ok (.agg Z) wx) ∧ ¬ Z = #[] ∧ Z.setIfInBounds 0 (.int .u8 3) = fr0.cells.toArray ∧ Z = fr00.cells.toArray :=
  ⟨_, zeroFrame, by intro h; have := congrArg Array.size h; revert this; decide, by rfl, rfl⟩

set_option maxHeartbeats 4000000 in
theorem live6_any (w : World) (hT : BTab w) :
    Calls Tryd.prog 8 #[] w fun e w' => e = .returned (.bool true) ∧ Below w.heap.size w w' := by
  have hfr := Frame_any fr0 none 0 0 [] none 0 0 [] w rfl rfl rfl (wraps_nil w) rfl (bytes_nil w) (by omega) (by omega)
  have hfl := frame0_length
  have hf3 := frame0_third
  obtain ⟨FL, hFL⟩ : ∃ q, frameL fr0 [] [] = q := ⟨_, rfl⟩
  rw [hFL] at hfr hfl hf3
  clear hFL
  have hB1 := fun wx (h : Below w.heap.size w wx) => bucket_any 0 wx (hT.below h)
  have hB2 := fun wx (h : Below w.heap.size w wx) => bucket_any 127 wx (hT.below h)
  rw [show bucketN 0 = 128 by decide] at hB1
  rw [show bucketN 127 = 256 by decide] at hB2
  have hev := fun wx => Event_any ev0 wx rfl
  have hel := eventL_length ev0 rfl
  obtain ⟨EL, hEL⟩ : ∃ q, eventL ev0 = q := ⟨_, rfl⟩
  rw [hEL] at hev hel
  obtain ⟨Z, hzv, hz1, hz2, _⟩ := zeroFrame_has
  clear hEL hT
  go_enter Tryd.func8, Tryd.ntmps8
  go_upto_region 2 with (go_at_call 17; refine hfr.mono ?_; rintro e w1 ⟨v1, rfl, ho1, hb1⟩)
  obtain ⟨g, c, hv, hg⟩ := ho1.slice (by omega)
  rw [hfl] at hv
  subst hv
  have hy := ho1.bytes.2
  have c2 : w1.cell? ⟨g, 2, none⟩ = some (.int .u8 3) := by
    rcases hy.at_ with h0 | ⟨b, off, hx, hc⟩
    · omega
    · cases hx
      have := hc 2 (by omega)
      rw [hf3] at this
      exact this
  have hle := hy.le
  have htop := hy.top
  have hq1 := hB1 w1 hb1
  have hq2 := hB2 w1 hb1
  have hev1 := hev w1
  clear hfr hB1 hB2 hev hy ho1 hg hf3 hfl
  go_wp2_with (first
    | (go_at_call 18; refine hq1.mono ?_; rintro e w2 ⟨rfl, rfl⟩; clear hq1)
    | (go_at_call 18; refine hq2.mono ?_; rintro e w2 ⟨rfl, rfl⟩)
    | (go_at_call 19; refine hev1.mono ?_; rintro e w3 ⟨v3, rfl, ho3, hb3⟩; obtain ⟨x3, n3, c3, rfl, hn3⟩ := ho3.isSlice; rw [hel] at hn3; subst hn3))
  go_ret
  exact ⟨rfl, hb1.trans (hb3.mono hb1.size)⟩
end Go.Proofs.YtdfjfafhpjoilaaDoor
