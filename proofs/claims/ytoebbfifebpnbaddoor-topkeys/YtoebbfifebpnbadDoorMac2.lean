/- 'begin', 'inner', 'outer': a hash that is begun with the key, turned. -/
import Derived.Test.YtoebbfifebpnbadDoorMac1
import Derived.Deep.RegionWith
namespace Go.Proofs.YtoebbfifebpnbadDoor
open Go.RowKit
set_option maxRecDepth 20000

theorem sizeFk : (Tryd.prog.info? 35).map (·.size) = some 64 := by kernel_rfl
/-- The first j of a list through f, the others as they are. -/
def mapK (f : Int → Int) (k : List Int) (j : Nat) : List Int := (k.take j).map f ++ k.drop j
theorem mapK_length (f : Int → Int) (k : List Int) (j : Nat) : (mapK f k j).length = k.length := by simp [mapK]; omega
theorem mapK_get (f : Int → Int) (k : List Int) (j : Nat) (h : j < k.length) : (mapK f k j)[j]?.getD 0 = k[j]?.getD 0 := by
  unfold mapK
  rw [List.getElem?_append_right (by simp; omega)]
  simp only [List.length_map, List.length_take, List.getElem?_drop]
  rw [show j + (j - min j k.length) = j by omega]
theorem mapK_set (f : Int → Int) (k : List Int) (j : Nat) (h : j < k.length) : (mapK f k j).set j (f (k[j]?.getD 0)) = mapK f k (j + 1) := by
  unfold mapK
  rw [List.drop_eq_getElem_cons h, List.set_append_right _ _ (by simp; omega), List.take_succ_eq_append_getElem h, List.getElem?_eq_getElem h]
  simp only [List.length_map, List.length_take, Option.getD_some, List.map_append, List.map_cons, List.map_nil, List.append_assoc, List.cons_append, List.nil_append]
  rw [show j - min j k.length = 0 by omega]
  rfl
def turnL (t : Int) (k : List Int) : List Int := k.map fun c => bits .xor .u8 c t
theorem turnL_length (t : Int) (k : List Int) : (turnL t k).length = k.length := by simp [turnL]

theorem begin_any (k : List Int) (t : Int) (w : World) (hk : k.length = 64) :
    Calls Tryd.prog 17 #[.agg (row .u8 k), .int .u8 t] w fun e w' => ∃ H v, e = .returned (.pointer (some ⟨H, 0, none⟩)) ∧ w.heap.size ≤ H ∧ Box w' H 47 v ∧ OwnB w' w.heap.size v (turnL t k) ∧ Below w.heap.size w w' := by
  go_enter Tryd.func17, Tryd.ntmps17
  go_wp2
  go_loopw [7] (fun i wr => ∃ j : Nat, j ≤ 64 ∧ i = .int .i64 j ∧ Below w.heap.size w wr ∧ Holds wr w.heap.size .u8 35 (mapK (fun c => bits .xor .u8 c t) k j)) (fun i _ => 64 - (intOf i).toNat)
  case atStart => exact ⟨0, by omega, rfl, (Below.refl _ _).alloc (Nat.le_refl _) _, Holds.new w .u8 35 k⟩
  case round =>
    obtain ⟨j, hj, rfl, hB, hH⟩ := hrel
    by_cases hlt : j < 64
    · have c1 := hH.cell j (by rw [mapK_length]; omega)
      rw [mapK_get _ _ _ (by omega)] at c1
      have f1 := hH.frozen j
      have hst := mapK_set (fun c => bits .xor .u8 c t) k j (by omega)
      obtain ⟨V, hV⟩ : ∃ V, k[j]?.getD 0 = V := ⟨_, rfl⟩
      rw [hV] at c1 hst
      have HST : Hid ((mapK (fun c => bits .xor .u8 c t) k j).set j (bits .xor .u8 V t) = mapK (fun c => bits .xor .u8 c t) k (j + 1)) := hst
      clear hst hV
      go_wp2
      go_roundw
      case rel => exact ⟨j + 1, by omega, by go_num, hB.setCell (Nat.le_refl _) _, by rw [← HST.out]; exact hH.set j _⟩
      case measure => simp [intOf]; omega
    · obtain rfl : j = 64 := by omega
      have hm : mapK (fun c => bits .xor .u8 c t) k 64 = turnL t k := by
        unfold mapK turnL; rw [List.take_of_length_le (by omega), List.drop_of_length_le (by omega), List.append_nil]
      rw [hm] at hH
      have hl : (turnL t k).length = 64 := by rw [turnL_length, hk]
      have hy := hH.bytes (n := 64) hl.symm (by omega)
      have hB5 : Below wr.heap.size wr (wr.alloc (.cells #[.slice none 0 0] 47)).drew := ((Below.refl _ _).alloc (Nat.le_refl _) _).drew
      have tk := take_any wr.heap.size w.heap.size (.slice none 0 0) [] (some ⟨w.heap.size, 0, none⟩) 64 64 (turnL t k) (wr.alloc (.cells #[.slice none 0 0] 47)).drew (World.alloc_heap_new wr _) (OwnB.nil _ _) (hy.below hB5) (by simp) hB.size
      have hBw : Below w.heap.size w (wr.alloc (.cells #[.slice none 0 0] 47)).drew := (hB.alloc hB.size _).drew
      have hsz := hB.size
      go_upto_region 7 with fail
      go_region_with (go_at_call 15; refine tk.mono ?_; rintro e w4 ⟨⟨r, rfl⟩, v4, hb4, ho4, hB4⟩)
      go_wp2
      go_ret
      exact ⟨_, v4, rfl, hsz, hb4, ho4, hBw.trans hB4⟩

theorem inner_any (k : List Int) (w : World) (hk : k.length = 64) :
    Calls Tryd.prog 11 #[.agg (row .u8 k)] w fun e w' => ∃ H v, e = .returned (.pointer (some ⟨H, 0, none⟩)) ∧ w.heap.size < H ∧ Box w' H 47 v ∧ OwnB w' (w.heap.size + 1) v (turnL 54 k) ∧ Below w.heap.size w w' := by
  have h0 : Holds (w.alloc (.cells (row .u8 k) 35)) w.heap.size .u8 35 k := Holds.new w .u8 35 k
  go_enter Tryd.func11, Tryd.ntmps11
  go_wp2_with (first
    | (refine wpList_ld rfl 35 _ rfl _ rfl h0 Tryd.underlying35 sizeFk hk ?_)
    | (go_at_call 17; refine (begin_any k 54 _ hk).mono ?_; rintro e w1 ⟨H, v, rfl, h1, h2, h3, h4⟩))
  go_ret
  exact ⟨H, v, rfl, by simp at h1; omega, h2, by simpa using h3, ((Below.refl _ _).alloc (Nat.le_refl _) _).trans (h4.mono (by simp))⟩
theorem outer_any (k : List Int) (w : World) (hk : k.length = 64) :
    Calls Tryd.prog 12 #[.agg (row .u8 k)] w fun e w' => ∃ H v, e = .returned (.pointer (some ⟨H, 0, none⟩)) ∧ w.heap.size < H ∧ Box w' H 47 v ∧ OwnB w' (w.heap.size + 1) v (turnL 92 k) ∧ Below w.heap.size w w' := by
  have h0 : Holds (w.alloc (.cells (row .u8 k) 35)) w.heap.size .u8 35 k := Holds.new w .u8 35 k
  go_enter Tryd.func12, Tryd.ntmps12
  go_wp2_with (first
    | (refine wpList_ld rfl 35 _ rfl _ rfl h0 Tryd.underlying35 sizeFk hk ?_)
    | (go_at_call 17; refine (begin_any k 92 _ hk).mono ?_; rintro e w1 ⟨H, v, rfl, h1, h2, h3, h4⟩))
  go_ret
  exact ⟨H, v, rfl, by simp at h1; omega, h2, by simpa using h3, ((Below.refl _ _).alloc (Nat.le_refl _) _).trans (h4.mono (by simp))⟩
end Go.Proofs.YtoebbfifebpnbadDoor
