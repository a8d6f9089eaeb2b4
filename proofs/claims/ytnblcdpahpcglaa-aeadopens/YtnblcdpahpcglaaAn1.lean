/- 'fill', 'lengthOf': the noughts that bytes lack, and their number as bytes. -/
import Derived.Test.YtnblcdpahpcglaaAe0
import Derived.Test.YtnblcdpahpcglaaGc
namespace Go.Proofs.Ytnblcdpahpcglaa
open Go.RowKit
set_option maxRecDepth 20000
set_option linter.unusedSimpArgs false

theorem fillN_lt (n : Nat) : fillN n < 16 := by unfold fillN; omega
set_option maxHeartbeats 1000000 in
theorem afill_any (x : Option Addr) (len cap : Nat) (z : List Int) (w : World) (h : Bytes w x len cap z) :
    Calls Try.prog 39 #[.slice x len cap] w fun e w' => e = .returned (.slice (some ⟨w.heap.size, 0, none⟩) (fillN len) (fillN len)) ∧ Holds w' w.heap.size .u8 5 (zerosL (fillN len)) ∧ Below w.heap.size w w' := by
  have htop := h.top
  have hle := h.le
  obtain ⟨F, hF⟩ : ∃ q, fillN len = q := ⟨_, rfl⟩
  have hF16 : F < 16 := by rw [← hF]; exact fillN_lt len
  have hmk : ∀ wx : World, (Instr.makeSlice 24 (.int .i64 (F : Int)) (.int .i64 (F : Int))).run Try.prog wx = .ok (.slice (some ⟨wx.heap.size, 0, none⟩) F F) (wx.alloc (.cells (row .u8 (List.replicate F 0)) 5)) := fun wx => by
    have := run_make_row' (P := Try.prog) 24 5 (.int .u8 0) 1 Try.underlying24 infoU8 rfl .i64 .i64 F (by omega) (by omega) wx
    rw [made_row] at this
    exact this
  obtain ⟨r, hr⟩ : ∃ r : Nat, len % 16 = r := ⟨_, rfl⟩
  obtain ⟨s, hs⟩ : ∃ s : Nat, 16 - r = s := ⟨_, rfl⟩
  have h1 : (len : Int).tmod 16 = (r : Int) := by rw [Int.tmod_eq_emod_of_nonneg (by omega)]; omega
  have h2 : IntKind.i64.wrap (16 - (r : Int)) = (s : Int) := by rw [IntKind.wrap_i64]; omega
  have h3 : (s : Int).tmod 16 = (F : Int) := by
    rw [Int.tmod_eq_emod_of_nonneg (by omega)]
    unfold fillN at hF
    omega
  rw [hF]
  unfold zerosL
  clear hF hr hs
  go_enter Try.func39, Try.ntmps39
  go_wp2
  go_ret
  exact ⟨rfl, Holds.new w .u8 5 _, (Below.refl _ _).alloc (Nat.le_refl _) _⟩

/-- Byte number i of a length. -/
theorem le8_get (n i : Nat) (hi : i < 8) : (le8 n)[i]?.getD 0 = (n : Int) / 2 ^ (8 * i) % 256 := by
  have hic : i = 0 ∨ i = 1 ∨ i = 2 ∨ i = 3 ∨ i = 4 ∨ i = 5 ∨ i = 6 ∨ i = 7 := by omega
  unfold le8
  rcases hic with rfl | rfl | rfl | rfl | rfl | rfl | rfl | rfl
  all_goals
    simp only [leB, List.getElem?_cons_zero, List.getElem?_cons_succ, Option.getD_some]
    omega
theorem fillB_set (S : List Int) (j n : Nat) (hj : j < n) (hl : n ≤ S.length) : (S.take j ++ List.replicate (n - j) 0).set j (S[j]?.getD 0) = S.take (j + 1) ++ List.replicate (n - (j + 1)) 0 := by
  have h := set_next (S.take j) (n - (j + 1)) (S[j]?.getD 0)
  rw [List.length_take, Nat.min_eq_left (by omega), ← take_next S j (by omega), show n - (j + 1) + 1 = n - j by omega] at h
  exact h
theorem size8b : (Try.prog.info? 66).map (·.size) = some 8 := by kernel_rfl
set_option maxHeartbeats 1000000 in
theorem lengthOf_any (x : Option Addr) (len cap : Nat) (z : List Int) (w : World) (h : Bytes w x len cap z) :
    Calls Try.prog 38 #[.slice x len cap] w fun e w' => e = .returned (.agg (row .u8 (le8 len))) ∧ Below w.heap.size w w' := by
  have htop := h.top
  have hle := h.le
  have HG : Veil (∀ i, i < 8 → (le8 len)[i]?.getD 0 = (len : Int) / 2 ^ (8 * i) % 256) := ⟨le8_get len⟩
  have HF : Veil (∀ j, j < 8 → ((le8 len).take j ++ List.replicate (8 - j) 0).set j ((le8 len)[j]?.getD 0) = (le8 len).take (j + 1) ++ List.replicate (8 - (j + 1)) 0) := ⟨fun j hj => fillB_set _ j 8 hj (by rw [le8_length]; omega)⟩
  have hL := le8_length len
  obtain ⟨S, hS⟩ : ∃ q, le8 len = q := ⟨_, rfl⟩
  rw [hS] at HG HF hL ⊢
  have HFin : Veil (S.take 8 = S) := ⟨List.take_of_length_le (by omega)⟩
  have h64 : IntKind.u64.wrap (len : Int) = (len : Int) := by simp [IntKind.wrap, IntKind.bits, IntKind.signed]; omega
  clear hS h
  have hR0 := (Holds.new w .u8 66 (List.replicate 8 0)).alloc (.cells (row .u8 (List.replicate 8 0)) 66)
  have hA0 := Holds.new (w.alloc (.cells (row .u8 (List.replicate 8 0)) 66)) .u8 66 (List.replicate 8 0)
  rw [World.size_alloc] at hA0
  have hB0 : Below w.heap.size w ((w.alloc (.cells (row .u8 (List.replicate 8 0)) 66)).alloc (.cells (row .u8 (List.replicate 8 0)) 66)) := ((Below.refl _ _).alloc (Nat.le_refl _) _).alloc (by simp) _
  go_enter Try.func38, Try.ntmps38
  go_upto_region 2 with fail
  refine forget (p := fun y => Code.wp _ _ _ _ y) (fun W0 => Below w.heap.size w W0 ∧ Holds W0 w.heap.size .u8 66 (List.replicate 8 0) ∧ Holds W0 (w.heap.size + 1) .u8 66 (List.replicate 8 0)) ⟨hB0, hR0, hA0⟩ ?_
  clear hB0 hR0 hA0
  rintro W0 ⟨hB0, hR0, hA0⟩
  go_wp2_with fail
  go_loopw [5] (fun q wr => ∃ j : Nat, j ≤ 8 ∧ q = .int .i64 j ∧ Below w.heap.size w wr ∧ Holds wr w.heap.size .u8 66 (List.replicate 8 0) ∧ Holds wr (w.heap.size + 1) .u8 66 (S.take j ++ List.replicate (8 - j) 0)) (fun q _ => 8 - (intOf q).toNat)
  case atStart => exact ⟨0, by omega, rfl, hB0, hR0, hA0⟩
  case round =>
    clear hB0 hR0 hA0
    obtain ⟨j, hj, rfl, hB, hR, hA⟩ := hrel
    by_cases hlt : j < 8
    · have hst := HF.out j hlt
      have hAl : (S.take j ++ List.replicate (8 - j) 0).length = 8 := by rw [List.length_append, List.length_take, List.length_replicate]; omega
      rw [HG.out j hlt] at hst
      obtain ⟨Z, hZ⟩ : ∃ q, S.take j ++ List.replicate (8 - j) 0 = q := ⟨_, rfl⟩
      rw [hZ] at hst hA hAl
      obtain ⟨m, hm⟩ : ∃ m : Nat, 8 * j = m := ⟨_, rfl⟩
      rw [hm] at hst
      have HST : Veil (Z.set j ((len : Int) / 2 ^ m % 256) = S.take (j + 1) ++ List.replicate (8 - (j + 1)) 0) := ⟨hst⟩
      have ca := hA.cell j (by omega)
      have fa := hA.frozen j
      have hj0 : (0 : Int) ≤ (j : Int) := by omega
      have hj8 : (j : Int) < 8 := by omega
      have r2 : (8 : Int) * (j : Int) = (m : Int) := by omega
      have r3 : IntKind.i64.wrap (m : Int) = (m : Int) := by rw [IntKind.wrap_i64]; omega
      have r4 : (m : Int) < 64 := by omega
      have r8 : IntKind.u8.wrap ((len : Int) / 2 ^ m) = (len : Int) / 2 ^ m % 256 := by simp [IntKind.wrap, IntKind.bits, IntKind.signed]
      clear hst hZ hm
      go_wp2
      go_roundw
      case rel => exact ⟨j + 1, by omega, by go_num, hB.setCell (by simp) _, hR.setOther _ _ (by simp), by rw [← HST.out]; exact hA.set j _⟩
      case measure => simp [intOf]; omega
    · obtain rfl : j = 8 := by omega
      rw [HFin.out, Nat.sub_self, List.replicate_zero, List.append_nil] at hA
      go_wp2_with (first
        | (refine wpList_ld rfl 66 _ rfl _ rfl hA Try.underlying66 size8b hL ?_)
        | (refine wpList_st rfl 66 _ _ rfl _ rfl rfl hR (by rw [hL]; exact size8b) (by simp [hL]) ?_))
      refine bodyPost_ret (results_holds (Try.results38) _ rfl (hR.setRow _) Try.underlying66 size8b hL) rfl ⟨rfl, ?_⟩
      exact below_setRow hB (by omega) _
end Go.Proofs.Ytnblcdpahpcglaa
