/- Bytes as numbers of five limbs: 'half', 'bare', 'numberOf'. -/
import Derived.Test.YtnblcdpahpcglaaPa
import Derived.Laws.Bits64
import Derived.Laws.Bits64b
namespace Go.Proofs.Ytnblcdpahpcglaa
open Go.RowKit
set_option maxRecDepth 20000
set_option linter.unusedSimpArgs false

/-- Eight bytes as a number, step by step. -/
def halfK (z : List Int) : Nat → Int
  | 0 => 0
  | i + 1 => bits .or .u64 (halfK z i) (z[i]?.getD 0 % 18446744073709551616 * 2 ^ (8 * i) % 18446744073709551616)

set_option maxHeartbeats 1000000 in
theorem half_any (b off cap : Nat) (z : List Int) (w : World) (hc : ∀ j, j < 8 → w.cell? ⟨b, off + j, none⟩ = some (.int .u8 (z[j]?.getD 0))) :
    Calls Try.prog 42 #[.slice (some ⟨b, off, none⟩) 8 cap] w fun e w' => e = .returned (.int .u64 (halfK z 8)) ∧ w' = w := by
  go_enter Try.func42, Try.ntmps42
  go_wp2
  go_loop [3, 5] (fun x i => ∃ k : Nat, k ≤ 8 ∧ i = .int .i64 k ∧ x = .int .u64 (halfK z k)) (fun _ i => 8 - (intOf i).toNat)
  case atStart => exact ⟨0, by omega, rfl, rfl⟩
  case round =>
    obtain ⟨k, hk, rfl, rfl⟩ := hrel
    by_cases hlt : k < 8
    · have c := hc k hlt
      have HS : Veil (halfK z (k + 1) = bits .or .u64 (halfK z k) (z[k]?.getD 0 % 18446744073709551616 * 2 ^ (8 * k) % 18446744073709551616)) := ⟨rfl⟩
      obtain ⟨p, hp⟩ : ∃ p, z[k]?.getD 0 = p := ⟨_, rfl⟩
      obtain ⟨X, hX⟩ : ∃ p, halfK z k = p := ⟨_, rfl⟩
      rw [hp] at c HS
      rw [hX] at HS ⊢
      clear hp hX
      have hkc : k = 0 ∨ k = 1 ∨ k = 2 ∨ k = 3 ∨ k = 4 ∨ k = 5 ∨ k = 6 ∨ k = 7 := by omega
      clear hlt hk hc
      rcases hkc with rfl | rfl | rfl | rfl | rfl | rfl | rfl | rfl
      all_goals
        try rw [Nat.add_zero] at c
        go_wp2
        go_round
        case rel => exact ⟨_, by decide, rfl, by rw [HS.out]; simp [IntKind.wrap_u64]⟩
        case measure => simp [intOf]
    · obtain rfl : k = 8 := by omega
      go_wp2
      go_ret
      exact ⟨rfl, rfl⟩

theorem size17 : (Try.prog.info? 48).map (·.size) = some 17 := by kernel_rfl
theorem size5 : (Try.prog.info? 45).map (·.size) = some 5 := by kernel_rfl
theorem size16b : (Try.prog.info? 27).map (·.size) = some 16 := by kernel_rfl

theorem drop_get (z : List Int) (i j : Nat) : (z.drop i)[j]?.getD 0 = z[i + j]?.getD 0 := by rw [List.getElem?_drop]

/-- Seventeen bytes as five limbs. -/
def numL (z : List Int) : List Int :=
  let low := halfK z 8
  let high := halfK (z.drop 8) 8
  let top := z[16]?.getD 0 % 18446744073709551616
  [bits .and .u64 low 67108863, bits .and .u64 (low / 67108864) 67108863, bits .and .u64 (bits .or .u64 (low / 4503599627370496) (high * 4096 % 18446744073709551616)) 67108863, bits .and .u64 (high / 16384) 67108863, bits .or .u64 (high / 1099511627776) (top * 16777216 % 18446744073709551616)]

set_option maxHeartbeats 1000000 in
theorem numberOf_any (z : List Int) (w : World) (hz : z.length = 17) :
    Calls Try.prog 23 #[.agg (row .u8 z)] w fun e w' => e = .returned (.agg (row .u64 (numL z))) ∧ Below w.heap.size w w' := by
  have h0 : Holds (w.alloc (.cells (row .u8 z) 48)) w.heap.size .u8 48 z := Holds.new w .u8 _ z
  have hN : ∃ l, numL z = l := ⟨_, rfl⟩
  obtain ⟨l, hN⟩ := hN
  rw [hN]
  unfold numL at hN
  have h1 := fun (wx : World) (hx : Holds wx w.heap.size .u8 48 z) => half_any w.heap.size 0 17 z wx (fun j hj => by rw [Nat.zero_add]; exact hx.cell j (by omega))
  have h2 := fun (wx : World) (hx : Holds wx w.heap.size .u8 48 z) => half_any w.heap.size 8 9 (z.drop 8) wx (fun j hj => by rw [drop_get]; exact hx.cell (8 + j) (by omega))
  obtain ⟨A, hA⟩ : ∃ q, halfK z 8 = q := ⟨_, rfl⟩
  obtain ⟨B, hB⟩ : ∃ q, halfK (z.drop 8) 8 = q := ⟨_, rfl⟩
  obtain ⟨T, hT⟩ : ∃ q, z[16]?.getD 0 = q := ⟨_, rfl⟩
  rw [hA] at h1 hN
  rw [hB] at h2 hN
  rw [hT] at hN
  dsimp only at hN
  have HN : Veil (l = [bits .and .u64 A 67108863, bits .and .u64 (A / 67108864) 67108863, bits .and .u64 (bits .or .u64 (A / 4503599627370496) (IntKind.u64.wrap (B * 4096))) 67108863, bits .and .u64 (B / 16384) 67108863, bits .or .u64 (B / 1099511627776) (IntKind.u64.wrap (IntKind.u64.wrap T * 16777216))]) := ⟨by rw [← hN]; simp only [IntKind.wrap_u64]⟩
  have hll : l.length = 5 := by rw [HN.out]; rfl
  clear hN hA hB
  go_enter Try.func23, Try.ntmps23
  go_upto_region 1 with fail
  refine forget (p := fun y => Code.wp _ _ _ _ y) (fun W0 => Below w.heap.size w W0 ∧ W0.heap.size = w.heap.size + 2 ∧ Holds W0 w.heap.size .u8 48 z ∧ Holds W0 (w.heap.size + 1) .u64 45 (List.replicate 5 0)) ⟨((Below.refl _ _).alloc (Nat.le_refl _) _).alloc (by simp) _, by simp, h0.alloc _, ?_⟩ ?_
  · have := Holds.new (w.alloc (.cells (row .u8 z) 48)) .u64 45 (List.replicate 5 0)
    rw [World.size_alloc] at this
    exact this
  clear h0
  rintro W0 ⟨hB0, hs0, hz0, hR0⟩
  have hz1 := hz0.drew
  have c16 := hz1.cell 16 (by omega)
  rw [hT] at c16
  refine wp_region_gate (fun w' => w'.cell? ⟨w.heap.size, 16, none⟩ = some (.int .u8 T)) 9 (by kernel_rfl) ?_
  have hS : W0.drew.cell? ⟨w.heap.size, 16, none⟩ = some (.int .u8 T) := c16
  refine wpAnyG_any (i := 0) (v := ?_) rfl (by kernel_rfl) (by kernel_rfl) (by kernel_rfl) (fun _ _ _ h => h) (by kernel_rfl) (fun _ => hS) (by kernel_rfl) ?_ ?_
  rotate_left
  · intro _; go_simp; try with_reducible rfl
  simp only [Act.put, List.setIfInBounds_toArray, List.set_cons_zero, List.set_cons_succ]
  refine wpAnyG_any (i := 2) (v := ?_) rfl (by kernel_rfl) (by kernel_rfl) (by kernel_rfl) (fun _ _ _ h => h) (by kernel_rfl) (fun _ => hS) (by kernel_rfl) ?_ ?_
  rotate_left
  · intro _; go_simp; try with_reducible rfl
  simp only [Act.put, List.setIfInBounds_toArray, List.set_cons_zero, List.set_cons_succ]
  refine wpAnyG_any (i := 4) (v := ?_) rfl (by kernel_rfl) (by kernel_rfl) (by kernel_rfl) (fun _ _ _ h => h) (by kernel_rfl) (fun _ => hS) (by kernel_rfl) ?_ ?_
  rotate_left
  · intro _; go_simp; try with_reducible rfl
  simp only [Act.put, List.setIfInBounds_toArray, List.set_cons_zero, List.set_cons_succ]
  refine wpAnyG_read (i := 5) (v := ?_) rfl (by kernel_rfl) (by kernel_rfl) (by kernel_rfl) (fun _ _ _ h => h) (by kernel_rfl) (by kernel_rfl) (by kernel_rfl) hS (by kernel_rfl) ?_ ?_
  rotate_left
  · intro wx hSw; go_split_ands; go_simp; try with_reducible rfl
  simp only [Act.put, List.setIfInBounds_toArray, List.set_cons_zero, List.set_cons_succ]
  refine wpAnyG_any (i := 6) (v := ?_) rfl (by kernel_rfl) (by kernel_rfl) (by kernel_rfl) (fun _ _ _ h => h) (by kernel_rfl) (fun _ => hS) (by kernel_rfl) ?_ ?_
  rotate_left
  · intro _; go_simp; try with_reducible rfl
  simp only [Act.put, List.setIfInBounds_toArray, List.set_cons_zero, List.set_cons_succ]
  refine wpAnyG_one (i := 1) rfl (by kernel_rfl) (by kernel_rfl) (fun K hK => ?_)
  go_wp2_with (go_at_call 42; refine (h1 _ hz1).mono ?_; rintro e w1 ⟨rfl, rfl⟩)
  refine hK.out _ _ (fun _ => hS) ?_
  clear hK K
  refine wpAnyG_one (i := 3) rfl (by kernel_rfl) (by kernel_rfl) (fun K hK => ?_)
  go_wp2_with (go_at_call 42; refine (h2 _ hz1).mono ?_; rintro e w1 ⟨rfl, rfl⟩)
  refine hK.out _ _ (fun _ => hS) ?_
  clear hK K
  refine wpAnyG_any (i := 7) (v := ?_) rfl (by kernel_rfl) (by kernel_rfl) (by kernel_rfl) (fun _ _ _ h => h) (by kernel_rfl) (fun _ => hS) (by kernel_rfl) ?_ ?_
  rotate_left
  · intro _; go_simp; try with_reducible rfl
  simp only [Act.put, List.setIfInBounds_toArray, List.set_cons_zero, List.set_cons_succ]
  refine wpAnyG_any (i := 8) (v := ?_) rfl (by kernel_rfl) (by kernel_rfl) (by kernel_rfl) (fun _ _ _ h => h) (by kernel_rfl) (fun _ => hS) (by kernel_rfl) ?_ ?_
  rotate_left
  · intro _; go_simp; try with_reducible rfl
  simp only [Act.put, List.setIfInBounds_toArray, List.set_cons_zero, List.set_cons_succ]
  refine wpAnyG_one (i := 9) rfl (by kernel_rfl) (by kernel_rfl) (fun K hK => ?_)
  go_simp
  refine hK.out _ _ (fun h => absurd (show true = false from h) (by decide)) ?_
  clear hK K
  refine wpAnyG_done (by kernel_rfl) ?_ _
  have hR1 := hR0.drew
  go_wp2_with (refine wpList_st rfl 45 _ _ rfl _ rfl (k := .u64) (l := l) (by rw [HN.out]; rfl) hR1 (by rw [hll]; exact size5) (by simp [hll]) ?_)
  refine bodyPost_ret (results_holds (Try.results23) _ rfl (hR1.setRow _) Try.underlying45 size5 hll) rfl ⟨rfl, ?_⟩
  exact below_setRow (hB0.drew) (by omega) _

theorem bare_any (z : List Int) (w : World) (hz : z.length = 16) :
    Calls Try.prog 24 #[.agg (row .u8 z)] w fun e w' => e = .returned (.agg (row .u8 (z ++ [0]))) ∧ Below w.heap.size w w' := by
  have h0 : Holds (w.alloc (.cells (row .u8 z) 27)) w.heap.size .u8 27 z := Holds.new w .u8 _ z
  have hl : (z ++ [0]).length = 17 := by simp [hz]
  have HZ : Veil (z ++ List.replicate (17 - z.length) 0 = z ++ [0]) := ⟨by rw [hz]; rfl⟩
  go_enter Try.func24, Try.ntmps24
  go_upto_region 2 with fail
  refine forget (p := fun y => Code.wp _ _ _ _ y) (fun W0 => Below w.heap.size w W0 ∧ Holds W0 w.heap.size .u8 27 z ∧ Holds W0 (w.heap.size + 1) .u8 48 (List.replicate 17 0) ∧ Holds W0 (w.heap.size + 1 + 1) .u8 48 (List.replicate 17 0)) ⟨(((Below.refl _ _).alloc (Nat.le_refl _) _).alloc (by simp) _).alloc (by simp; omega) _, (h0.alloc _).alloc _, ?_, ?_⟩ ?_
  · have := Holds.new (w.alloc (.cells (row .u8 z) 27)) .u8 48 (List.replicate 17 0)
    rw [World.size_alloc] at this
    exact this.alloc _
  · have := Holds.new ((w.alloc (.cells (row .u8 z) 27)).alloc (.cells (row .u8 (List.replicate 17 0)) 48)) .u8 48 (List.replicate 17 0)
    rw [World.size_alloc, World.size_alloc] at this
    exact this
  clear h0
  rintro W0 ⟨hB0, hz0, hR0, hA0⟩
  have hcp := run_copy_bytes W0.drew (w.heap.size + 1 + 1) 17 (some ⟨w.heap.size, 0, none⟩) 16 16 z (hz0.drew.bytes hz.symm (by omega)) hA0.drew (by omega)
  rw [HZ.out] at hcp
  refine wp_region_gate (fun _ => True) 2 (by kernel_rfl) ?_
  have hS : True := trivial
  refine wpAnyG_any (i := 0) (v := ?_) rfl (by kernel_rfl) (by kernel_rfl) (by kernel_rfl) (fun _ _ _ h => h) (by kernel_rfl) (fun _ => hS) (by kernel_rfl) ?_ ?_
  rotate_left
  · intro _; go_simp; try with_reducible rfl
  simp only [Act.put, List.setIfInBounds_toArray, List.set_cons_zero, List.set_cons_succ]
  refine wpAnyG_any (i := 1) (v := ?_) rfl (by kernel_rfl) (by kernel_rfl) (by kernel_rfl) (fun _ _ _ h => h) (by kernel_rfl) (fun _ => hS) (by kernel_rfl) ?_ ?_
  rotate_left
  · intro _; go_simp; try with_reducible rfl
  simp only [Act.put, List.setIfInBounds_toArray, List.set_cons_zero, List.set_cons_succ]
  refine wpAnyG_one (i := 2) rfl (by kernel_rfl) (by kernel_rfl) (fun K hK => ?_)
  go_simp
  refine hK.out _ _ (fun h => absurd (show true = false from h) (by decide)) ?_
  clear hK K
  refine wpAnyG_done (by kernel_rfl) ?_ _
  go_upto_region 3 with fail
  refine forget (p := fun y => Code.wp _ _ _ _ y) (fun W1 => Below w.heap.size w W1 ∧ Holds W1 (w.heap.size + 1) .u8 48 (List.replicate 17 0) ∧ Holds W1 (w.heap.size + 1 + 1) .u8 48 (z ++ [0])) ⟨below_setRow hB0.drew (by omega) _, hR0.drew.setRowOther _ (by omega), hA0.drew.setRow _⟩ ?_
  clear hcp hA0 hR0 hz0 hB0 hS HZ
  rintro W1 ⟨hB, hR, hA⟩
  go_wp2_with (first
    | (refine wpList_ld rfl 48 _ rfl _ rfl hA Try.underlying48 size17 hl ?_)
    | (refine wpList_st rfl 48 _ _ rfl _ rfl rfl hR (by rw [hl]; exact size17) (by simp [hl]) ?_))
  refine bodyPost_ret (results_holds (Try.results24) _ rfl (hR.setRow _) Try.underlying48 size17 hl) rfl ⟨rfl, ?_⟩
  exact below_setRow hB (by omega) _
end Go.Proofs.Ytnblcdpahpcglaa
