/- The reference of wire: 'key'. -/
import Derived.Test.YtdfjfafhpjoilaaDoorRk
import Derived.Test.YtdfjfafhpjoilaaDoorRv2
namespace Go.Proofs.YtdfjfafhpjoilaaDoor
open Go.RowKit
set_option maxRecDepth 20000
set_option linter.unusedSimpArgs false

theorem take_set32 (z : List Int) (j : Nat) (hj : j < 32) (hl : 32 ≤ z.length) : (z.take j ++ List.replicate (32 - j) 0).set j (z[j]?.getD 0) = z.take (j + 1) ++ List.replicate (32 - (j + 1)) 0 := by
  have hjl : (z.take j).length = j := by rw [List.length_take]; omega
  rw [show 32 - j = (32 - (j + 1)) + 1 by omega, take_next z j (by omega)]
  have := set_next (z.take j) (32 - (j + 1)) (z[j]?.getD 0)
  rw [hjl] at this
  exact this
set_option maxHeartbeats 4000000 in
theorem refKey_any (x : Option Addr) (n c : Nat) (z : List Int) (w : World) (hb0 : Bytes w x n c z) (hn : 32 ≤ n) :
    Calls Tryd.prog 14 #[.slice x n c] w fun e w' => e = .returned (.agg (byC (z.take 32)).toArray) ∧ Below w.heap.size w w' := by
  have hzl := hb0.len_eq
  have hle := hb0.le
  have hct := hb0.top
  obtain ⟨b, off, rfl, hcl⟩ := bytes_cells hb0 (by omega)
  have hlb : b < w.heap.size := block_lt_of_cell (hcl 0 (by omega))
  have HKEEP : Veil (∀ w', Below w.heap.size w w' → ∀ j, j < n → w'.cell? ⟨b, off + j, none⟩ = some (.int .u8 (z[j]?.getD 0))) := ⟨fun w' h j hj => by rw [(bcell h).1 _ _ hlb]; exact hcl j hj⟩
  have HST : Veil (∀ j, j < 32 → (z.take j ++ List.replicate (32 - j) 0).set j (z[j]?.getD 0) = z.take (j + 1) ++ List.replicate (32 - (j + 1)) 0) := ⟨fun j hj => take_set32 z j hj (by omega)⟩
  have HZL : Veil (32 ≤ z.length) := ⟨by omega⟩
  have hR0 := (Holds.new w .u8 27 (List.replicate 32 0)).alloc (.cells (row .u8 (List.replicate 32 0)) 27)
  have hA0 : Holds ((w.alloc (.cells (row .u8 (List.replicate 32 0)) 27)).alloc (.cells (row .u8 (List.replicate 32 0)) 27)) (w.heap.size + 1) .u8 27 (List.replicate 32 0) := by
    have := Holds.new (w.alloc (.cells (row .u8 (List.replicate 32 0)) 27)) .u8 27 (List.replicate 32 0)
    rw [World.size_alloc] at this
    exact this
  have hB0 : Below w.heap.size w ((w.alloc (.cells (row .u8 (List.replicate 32 0)) 27)).alloc (.cells (row .u8 (List.replicate 32 0)) 27)) := ((Below.refl _ _).alloc (Nat.le_refl _) _).alloc (by simp) _
  have hOl : (z.take 32).length = 32 := by rw [List.length_take]; omega
  obtain ⟨O, hO⟩ : ∃ q, z.take 32 = q := ⟨_, rfl⟩
  rw [hO] at hOl
  rw [hO]
  have HO := Veil.mk hO
  clear hb0 hcl hlb hzl hO
  go_enter Tryd.func14, Tryd.ntmps14
  go_upto_region 2 with fail
  refine forget (p := fun y => Code.wp _ _ _ _ y) (fun W => Below w.heap.size w W ∧ Holds W w.heap.size .u8 27 (List.replicate 32 0) ∧ Holds W (w.heap.size + 1) .u8 27 (List.replicate 32 0)) ⟨hB0, hR0, hA0⟩ ?_
  obtain ⟨A, hA⟩ : ∃ q, w.heap.size + 1 = q := ⟨_, rfl⟩
  have hne : w.heap.size < A := by omega
  rw [hA]
  clear hB0 hR0 hA0 hA
  rintro W ⟨hB0, hR0, hA0⟩
  go_wp2_with fail
  go_loopw [4] (fun q wr => ∃ j : Nat, j ≤ 32 ∧ q = .int .i64 j ∧ Below w.heap.size w wr ∧ Holds wr w.heap.size .u8 27 (List.replicate 32 0) ∧ Holds wr A .u8 27 (z.take j ++ List.replicate (32 - j) 0)) (fun q _ => 32 - (intOf q).toNat)
  case atStart => exact ⟨0, by omega, rfl, hB0, hR0, hA0⟩
  case round =>
    clear hB0 hR0 hA0
    obtain ⟨j, hj, rfl, hB, hR, hA⟩ := hrel
    by_cases hlt : j < 32
    · have hst := HST.out j hlt
      have hAl : (z.take j ++ List.replicate (32 - j) 0).length = 32 := by have := HZL.out; rw [List.length_append, List.length_take, List.length_replicate]; omega
      have cg := HKEEP.out wr hB j (by omega)
      obtain ⟨u, hu⟩ : ∃ q, z[j]?.getD 0 = q := ⟨_, rfl⟩
      rw [hu] at hst cg
      obtain ⟨Z, hZ⟩ : ∃ q, z.take j ++ List.replicate (32 - j) 0 = q := ⟨_, rfl⟩
      rw [hZ] at hst hA hAl
      have HS1 : Veil (Z.set j u = z.take (j + 1) ++ List.replicate (32 - (j + 1)) 0) := ⟨hst⟩
      have ca := hA.cell j (by omega)
      have fa := hA.frozen j
      have hj0 : (0 : Int) ≤ (j : Int) := by omega
      have hj32 : (j : Int) < 32 := by omega
      have hjn : (j : Int) < (n : Int) := by omega
      clear hst hZ hu
      go_wp2
      go_roundw
      case rel => exact ⟨j + 1, by omega, by go_num, hB.setCell (by show w.heap.size ≤ A; omega) _, hR.setOther _ _ (by show w.heap.size ≠ A; omega), by rw [← HS1.out]; exact hA.set j _⟩
      case measure => simp [intOf]; omega
    · obtain rfl : j = 32 := by omega
      rw [Nat.sub_self, List.replicate_zero, List.append_nil, HO.out] at hA
      go_wp2_with (first
        | (refine wpList_ld rfl 27 _ rfl _ rfl hA Tryd.underlying27 sizeKey32 hOl ?_)
        | (refine wpList_st rfl 27 _ _ rfl _ rfl rfl hR (by rw [hOl]; exact sizeKey32) (by simp [hOl]) ?_))
      refine bodyPost_ret (results_holds (Tryd.results14) _ rfl (hR.setRow _) Tryd.underlying27 sizeKey32 hOl) rfl ⟨rfl, ?_⟩
      exact below_setRow hB (by omega) _
end Go.Proofs.YtdfjfafhpjoilaaDoor
