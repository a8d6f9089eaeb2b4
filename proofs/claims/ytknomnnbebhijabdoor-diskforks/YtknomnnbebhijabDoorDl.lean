/- 'live' of the statements on disk: what must be whatever is asked. -/
import Derived.Test.YtknomnnbebhijabDoorDk9
import Derived.Test.YtknomnnbebhijabDoorDp
import Derived.Lib.SlBytesConst
namespace Go.Proofs.YtknomnnbebhijabDoor
open Go.RowKit Go.Shelf
set_option maxRecDepth 20000
set_option linter.unusedSimpArgs false

/-- Bytes of a literal text: their row is marked behind its end. -/
theorem bytes_marked (w : World) (l : List Int) (fr : Nat × Nat) (hl : l.length ≤ 4000000) : Bytes (w.alloc (.cells (row .u8 l) 5 fr)) (some ⟨w.heap.size, 0, none⟩) l.length l.length l :=
  ⟨rfl, Nat.le_refl _, by omega, (fun h => by cases h), .inr ⟨w.heap.size, 0, rfl, fun j hj => by
    rw [Nat.zero_add, cell_of_row _ w.heap.size j _ _ _ (heap_alloc_new w _), row_get .u8 l j hj]⟩⟩
theorem trim_short (z : List Int) (h : z.length < 10) : trimN z = 0 := trimN_none z (by unfold firstN; rw [if_pos h])
set_option maxHeartbeats 4000000 in
theorem dLive_any (w : World) (hKT : S.KTab w) :
    Calls Tryd.prog 6 #[] w fun e w' => e = .returned (.bool true) ∧ Below w.heap.size w w' := by
  have hN := dNew_any w
  go_enter Tryd.func6, Tryd.ntmps6
  go_upto_region 2 with (go_at_call 18; refine hN.mono ?_; rintro e w1 ⟨rfl, hD1, hs1, hB1⟩)
  clear hN hs1
  have hbA : Below w1.heap.size w1 (w1.alloc (.cells (row .u8 [97, 98, 99]) 5 (3, 4))) := (Below.refl _ _).alloc (Nat.le_refl _) _
  have hBA := hB1.trans (hbA.mono hB1.size)
  have hW := dWrite_any w.heap.size w.heap.size (.slice none 0 0) [] 0 _ (hD1.far hbA) (some ⟨w1.heap.size, 0, none⟩) 3 3 [97, 98, 99] (bytes_marked w1 [97, 98, 99] (3, 4) (by simp)) (fun v hv => by simp at hv; omega) (by omega) (by simp) (fun a _ _ h => by cases h) hBA.size (hKT.below hBA)
  have kc := fun (w : World) (C : Array Value) (n c : Nat) => Lib.run_convert_bytes_const (P := Tryd.prog) w 31 5 C n c Tryd.underlying31 Tryd.underlying5
  go_upto_region 3 with (go_at_call 12; refine hW.mono ?_; rintro e w2 ⟨rfl, v2, hd2⟩)
  have hB2 : Below w.heap.size w w2 := hBA.trans (hd2.turn.below hBA.size fun k hk => by
    rcases hk with rfl | hk
    · exact Nat.le_refl _
    · cases hk)
  have hD2 := hd2.disk
  rw [List.nil_append] at hD2
  have hrl : (recsL (recL [97, 98, 99])).length = 1 := by
    have := recsL_rec [97, 98, 99] [] (by decide)
    rw [List.append_nil] at this
    rw [this, recsL_none [] (by unfold firstN; rw [if_pos (by decide)])]
    rfl
  have hzl : (recL [97, 98, 99]).length = 13 := recL_length _
  obtain ⟨Z, hZ⟩ : ∃ q, recL [97, 98, 99] = q := ⟨_, rfl⟩
  rw [hZ] at hD2 hrl hzl
  clear hZ hW hbA hBA hd2 hD1 kc
  have hR := records_any _ _ _ _ _ w2 hD2 (hKT.below hB2)
  go_upto_region 4 with (go_at_call 16; refine hR.mono ?_; rintro e w3 ⟨v3, rfl, hr3, hb3⟩; obtain ⟨x3, c3, rfl⟩ := hr3.isSlice; rw [hrl])
  have hB3 := hB2.trans (hb3.mono hB2.size)
  have hD3 := hD2.far hb3
  clear hR hr3 hb3 hD2 hB2
  have hP : Calls Tryd.prog 14 #[.pointer (some ⟨w.heap.size, 0, none⟩), .int .i64 3] w3 fun e w' => e = .returned (.int .i64 0) ∧ ∃ v', DiskTo w3 w' w.heap.size w.heap.size v2 v' (Z.take (0 + min 3 (Z.length - 0))) (0 + min 3 (Z.length - 0)) := dPower_any _ _ _ _ _ w3 hD3 3 (by omega)
  have hD3b := hD3.inside
  go_upto_region 5 with (go_at_call 14; refine hP.mono ?_; rintro e w4 ⟨rfl, v4, hd4⟩)
  have hB4 : Below w.heap.size w w4 := hB3.trans (hd4.turn.below hB3.size fun k hk => (hD3b k hk).2)
  have hD4 := hd4.disk
  obtain ⟨Z4, hZ4⟩ : ∃ q, Z.take (0 + min 3 (Z.length - 0)) = q := ⟨_, rfl⟩
  have hZ4l : Z4.length < 10 := by rw [← hZ4, List.length_take]; omega
  rw [hZ4] at hD4
  clear hZ4 hP hd4 hD3 hD3b hB3
  have hT := dTrim_any _ _ _ _ _ w4 hD4 (hKT.below hB4)
  rw [trim_short Z4 hZ4l] at hT
  have hD4b := hD4.inside
  go_upto_region 6 with (go_at_call 15; refine hT.mono ?_; rintro e w5 ⟨rfl, v5, hd5⟩)
  have hB5 : Below w.heap.size w w5 := hB4.trans (hd5.turn.below hB4.size fun k hk => (hD4b k hk).2)
  have hBy := dBytes_any _ _ _ _ _ w5 hd5.disk
  clear hT hd5 hD4 hD4b hB4
  go_wp2_with (go_at_call 10; refine hBy.mono ?_; rintro e w6 ⟨v6, rfl, ho6, hb6⟩; obtain ⟨x6, n6, c6, rfl, hn6⟩ := ho6.isSlice; rw [List.take_zero, List.length_nil] at hn6; subst hn6)
  go_ret
  exact ⟨rfl, hB5.trans (hb6.mono hB5.size)⟩
end Go.Proofs.YtknomnnbebhijabDoor
