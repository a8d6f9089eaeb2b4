/- Pd -/
import Derived.Test.YtlhajphjppjlgaaGreatDoorT10
namespace Go.Proofs.YtlhajphjppjlgaaGreatDoor
open Go.RowKit
set_option maxRecDepth 20000
set_option linter.unusedSimpArgs false
def selK (L S : List Int) (ch : Int) : Nat → List Int
  | 0 => L
  | i + 1 => (selK L S ch i).set i (bits .or .u64 (bits .andNot .u64 ((selK L S ch i)[i]?.getD 0) ch) (bits .and .u64 (S[i]?.getD 0) ch))
theorem selK_length (L S : List Int) (ch : Int) (i : Nat) : (selK L S ch i).length = L.length := by
  induction i with
  | zero => rfl
  | succ i ih => simp [selK, ih]
def lessL (L : List Int) : List Int := carryK ((L.take 5).set 0 ((L[0]?.getD 0 + 5) % 18446744073709551616)) 4
theorem lessL_length (L : List Int) (h : 5 ≤ L.length) : (lessL L).length = 5 := by
  unfold lessL; rw [carryK_length, List.length_set, List.length_take]; omega
def settleL (L : List Int) : List Int :=
  selK L ((lessL L).set 4 (bits .and .u64 ((lessL L)[4]?.getD 0) 67108863)) (IntKind.u64.wrap (-((lessL L)[4]?.getD 0 / 67108864))) 5
set_option maxHeartbeats 2000000 in
theorem settle_any (g : Nat) (t : TypeId) (L : List Int) (w : World) (h : Holds w g .u64 t L) (hl : 5 ≤ L.length) :
    Calls Tryz.prog 144 #[.pointer (some ⟨g, 0, none⟩)] w fun e w' => (∃ r, e = .returned r) ∧ Holds w' g .u64 t (settleL L) ∧ w.grownBy w' (some g) := by
  have hgl := h.lt
  have hST : Veil (settleL L = selK L ((lessL L).set 4 (bits .and .u64 ((lessL L)[4]?.getD 0) 67108863)) (IntKind.u64.wrap (-((lessL L)[4]?.getD 0 / 67108864))) 5) := ⟨rfl⟩
  have hLl := lessL_length L hl
  have hLe : Veil (lessL L = carryK ((L.take 5).set 0 ((L[0]?.getD 0 + 5) % 18446744073709551616)) 4) := ⟨rfl⟩
  obtain ⟨l0, l1, l2, l3, l4, R, hLL⟩ := fiveMore hl
  have b0 := h.cell 0 (by omega)
  have b1 := h.cell 1 (by omega)
  have b2 := h.cell 2 (by omega)
  have b3 := h.cell 3 (by omega)
  have b4 := h.cell 4 (by omega)
  have e0 : (L.take 5).set 0 ((L[0]?.getD 0 + 5) % 18446744073709551616) = [(l0 + 5) % 18446744073709551616, l1, l2, l3, l4] := by rw [hLL]; rfl
  rw [e0] at hLe
  rw [hLL] at b0 b1 b2 b3 b4
  simp only [List.getElem?_cons_zero, List.getElem?_cons_succ, Option.getD_some] at b0 b1 b2 b3 b4
  clear e0 hLL
  have hN := Holds.new w .u64 209 (List.replicate 5 0)
  have hN2 : Holds ((w.alloc (.cells (row .u64 (List.replicate 5 0)) 209)).setRow w.heap.size (row .u64 [l0, l1, l2, l3, l4])) w.heap.size .u64 209 [l0, l1, l2, l3, l4] := hN.setRow _
  have hca := fun (wx : World) (hx : Holds wx w.heap.size .u64 209 [(l0 + 5) % 18446744073709551616, l1, l2, l3, l4]) => carry_any w.heap.size 209 _ wx hx (by simp)
  rw [← hLe.out] at hca
  obtain ⟨S, hS⟩ : ∃ q, lessL L = q := ⟨_, rfl⟩
  rw [hS] at hca hLl hST
  have hcu := fun (wx : World) (hx : Holds wx w.heap.size .u64 209 S) => cut_any w.heap.size 209 S wx hx (by omega)
  obtain ⟨S2, hS2⟩ : ∃ q, S.set 4 (bits .and .u64 (S[4]?.getD 0) 67108863) = q := ⟨_, rfl⟩
  have hS2l : S2.length = 5 := by rw [← hS2, List.length_set, hLl]
  rw [hS2] at hcu hST
  obtain ⟨ov, hov⟩ : ∃ q, S[4]?.getD 0 / 67108864 = q := ⟨_, rfl⟩
  rw [hov] at hcu hST
  clear hS hLe hS2 hov
  go_enter Tryz.func144, Tryz.ntmps144
  go_upto_region 1 with (refine wpList_st rfl 209 _ _ rfl _ rfl (k := .u64) (l := [l0, l1, l2, l3, l4]) rfl hN size5 rfl ?_)
  refine forget (p := fun y => Code.wp _ _ _ _ y) (fun W0 => w.grownBy W0 (some g) ∧ Holds W0 g .u64 t L ∧ Holds W0 w.heap.size .u64 209 [l0, l1, l2, l3, l4]) ⟨?_, (h.alloc _).setRowOther _ (by omega), hN2⟩ ?_
  · exact ⟨rfl, rfl, rfl, by simp, fun k hk _ => by rw [setRow_other _ _ _ _ (by omega), Below.heap_alloc w _ k hk]⟩
  clear hN hN2 b0 b1 b2 b3 b4
  rintro W0 ⟨hG0, hL0, hS0⟩
  simp only [Act.put]
  have c0 := hS0.cell 0 (by simp)
  have f0 := hS0.frozen 0
  simp only [List.getElem?_cons_zero, Option.getD_some] at c0
  go_upto_region 2 with fail
  refine forget (p := fun y => Code.wp _ _ _ _ y) (fun W1 => w.grownBy W1 (some g) ∧ Holds W1 g .u64 t L ∧ Holds W1 w.heap.size .u64 209 [(l0 + 5) % 18446744073709551616, l1, l2, l3, l4]) ⟨grown_setNew hG0 (Nat.le_refl _) _ _, hL0.setOther _ _ (by simp; omega), hS0.set 0 _⟩ ?_
  clear c0 f0 hG0 hL0 hS0
  rintro W1 ⟨hG1, hL1, hS1⟩
  go_upto_region 4 with (first
    | (go_at_call 145; refine (hca _ hS1).mono ?_; rintro e w2 ⟨⟨r, rfl⟩, h2, g2⟩)
    | (go_at_call 148; refine (hcu _ h2).mono ?_; rintro e w3 ⟨rfl, h3, g3⟩))
  have hg23 := g2.trans g3
  have hL3 : Holds w3 g .u64 t L := by
    have hlt := hL1.lt
    unfold Holds at hL1 ⊢
    rw [hg23.block g hlt (by simp; omega)]; exact hL1
  have hG3 : w.grownBy w3 (some g) := hG1.andThen hg23 (fun j hj => by cases hj; exact .inl (Nat.le_refl _))
  clear hca hcu g2 g3 hg23 h2 hL1 hG1 hS1
  have HST : Veil (settleL L = selK L S2 (IntKind.u64.wrap (-ov)) 5) := hST
  clear hST
  obtain ⟨ch, hch⟩ : ∃ q, IntKind.u64.wrap (-ov) = q := ⟨_, rfl⟩
  rw [hch] at HST
  go_wp2_with fail
  rw [hch]
  go_loopw [15] (fun q wr => ∃ k : Nat, k ≤ 5 ∧ q = .int .i64 k ∧ w.grownBy wr (some g) ∧ Holds wr g .u64 t (selK L S2 ch k) ∧ Holds wr w.heap.size .u64 209 S2) (fun q _ => 5 - (intOf q).toNat)
  case atStart => exact ⟨0, by omega, rfl, hG3, hL3, h3⟩
  case round =>
    clear hG3 hL3 h3
    obtain ⟨k, hk, rfl, hG, hA, hB⟩ := hrel
    by_cases hlt : k < 5
    · have HS : Veil (selK L S2 ch (k + 1) = (selK L S2 ch k).set k (bits .or .u64 (bits .andNot .u64 ((selK L S2 ch k)[k]?.getD 0) ch) (bits .and .u64 (S2[k]?.getD 0) ch))) := ⟨rfl⟩
      have hAl := selK_length L S2 ch k
      obtain ⟨A, hAe⟩ : ∃ q, selK L S2 ch k = q := ⟨_, rfl⟩
      rw [hAe] at hA HS hAl
      have hA1 := hA.drew
      have hB1 := hB.drew
      have c1 := hA1.cell k (by omega)
      have c2 := hB1.cell k (by omega)
      have f1 := hA1.frozen k
      obtain ⟨x, hx⟩ : ∃ q, A[k]?.getD 0 = q := ⟨_, rfl⟩
      obtain ⟨y, hy⟩ : ∃ q, S2[k]?.getD 0 = q := ⟨_, rfl⟩
      rw [hx] at c1 HS
      rw [hy] at c2 HS
      have hk0 : (0 : Int) ≤ (k : Int) := by omega
      have hk5 : (k : Int) < 5 := by omega
      clear hAe hx hy hch
      go_upto_region 7 with fail
      refine wp_region_gate (fun w' => w'.cell? ⟨g, k, none⟩ = some (.int .u64 x) ∧ w'.cell? ⟨w.heap.size, k, none⟩ = some (.int .u64 y)) 17 (by kernel_rfl) ?_
      have hS := And.intro c1 c2
      refine wpAnyG_any (i := 0) (v := ?_) rfl (by kernel_rfl) (by kernel_rfl) (by kernel_rfl) (fun _ _ _ h => h) (by kernel_rfl) (fun _ => hS) (by kernel_rfl) ?_ ?_
      rotate_left
      · intro _; go_simp; try with_reducible rfl
      simp only [Act.put, sI, sZ, sS]
      refine wpAnyG_any (i := 1) (v := ?_) rfl (by kernel_rfl) (by kernel_rfl) (by kernel_rfl) (fun _ _ _ h => h) (by kernel_rfl) (fun _ => hS) (by kernel_rfl) ?_ ?_
      rotate_left
      · intro _; go_simp; try with_reducible rfl
      simp only [Act.put, sI, sZ, sS]
      refine wpAnyG_any (i := 2) (v := ?_) rfl (by kernel_rfl) (by kernel_rfl) (by kernel_rfl) (fun _ _ _ h => h) (by kernel_rfl) (fun _ => hS) (by kernel_rfl) ?_ ?_
      rotate_left
      · intro _; go_simp; try with_reducible rfl
      simp only [Act.put, sI, sZ, sS]
      refine wpAnyG_any (i := 3) (v := ?_) rfl (by kernel_rfl) (by kernel_rfl) (by kernel_rfl) (fun _ _ _ h => h) (by kernel_rfl) (fun _ => hS) (by kernel_rfl) ?_ ?_
      rotate_left
      · intro _; go_simp; try with_reducible rfl
      simp only [Act.put, sI, sZ, sS]
      refine wpAnyG_any (i := 4) (v := ?_) rfl (by kernel_rfl) (by kernel_rfl) (by kernel_rfl) (fun _ _ _ h => h) (by kernel_rfl) (fun _ => hS) (by kernel_rfl) ?_ ?_
      rotate_left
      · intro _; go_simp; try with_reducible rfl
      simp only [Act.put, sI, sZ, sS]
      refine wpAnyG_any (i := 5) (v := ?_) rfl (by kernel_rfl) (by kernel_rfl) (by kernel_rfl) (fun _ _ _ h => h) (by kernel_rfl) (fun _ => hS) (by kernel_rfl) ?_ ?_
      rotate_left
      · intro _; go_simp; try with_reducible rfl
      simp only [Act.put, sI, sZ, sS]
      refine wpAnyG_any (i := 7) (v := ?_) rfl (by kernel_rfl) (by kernel_rfl) (by kernel_rfl) (fun _ _ _ h => h) (by kernel_rfl) (fun _ => hS) (by kernel_rfl) ?_ ?_
      rotate_left
      · intro _; go_simp; try with_reducible rfl
      simp only [Act.put, sI, sZ, sS]
      refine wpAnyG_any (i := 9) (v := ?_) rfl (by kernel_rfl) (by kernel_rfl) (by kernel_rfl) (fun _ _ _ h => h) (by kernel_rfl) (fun _ => hS) (by kernel_rfl) ?_ ?_
      rotate_left
      · intro _; go_simp; try with_reducible rfl
      simp only [Act.put, sI, sZ, sS]
      refine wpAnyG_any (i := 10) (v := ?_) rfl (by kernel_rfl) (by kernel_rfl) (by kernel_rfl) (fun _ _ _ h => h) (by kernel_rfl) (fun _ => hS) (by kernel_rfl) ?_ ?_
      rotate_left
      · intro _; go_simp; try with_reducible rfl
      simp only [Act.put, sI, sZ, sS]
      refine wpAnyG_any (i := 12) (v := ?_) rfl (by kernel_rfl) (by kernel_rfl) (by kernel_rfl) (fun _ _ _ h => h) (by kernel_rfl) (fun _ => hS) (by kernel_rfl) ?_ ?_
      rotate_left
      · intro _; go_simp; try with_reducible rfl
      simp only [Act.put, sI, sZ, sS]
      refine wpAnyG_any (i := 15) (v := ?_) rfl (by kernel_rfl) (by kernel_rfl) (by kernel_rfl) (fun _ _ _ h => h) (by kernel_rfl) (fun _ => hS) (by kernel_rfl) ?_ ?_
      rotate_left
      · intro _; go_simp; try with_reducible rfl
      simp only [Act.put, sI, sZ, sS]
      refine wpAnyG_read (i := 6) (v := ?_) rfl (by kernel_rfl) (by kernel_rfl) (by kernel_rfl) (fun _ _ _ h => h) (by kernel_rfl) (by kernel_rfl) (by kernel_rfl) hS (by kernel_rfl) ?_ ?_
      rotate_left
      · intro wx hSw; go_split_ands; go_simp; try with_reducible rfl
      simp only [Act.put, sI, sZ, sS]
      refine wpAnyG_read (i := 11) (v := ?_) rfl (by kernel_rfl) (by kernel_rfl) (by kernel_rfl) (fun _ _ _ h => h) (by kernel_rfl) (by kernel_rfl) (by kernel_rfl) hS (by kernel_rfl) ?_ ?_
      rotate_left
      · intro wx hSw; go_split_ands; go_simp; try with_reducible rfl
      simp only [Act.put, sI, sZ, sS]
      refine wpAnyG_any (i := 8) (v := ?_) rfl (by kernel_rfl) (by kernel_rfl) (by kernel_rfl) (fun _ _ _ h => h) (by kernel_rfl) (fun _ => hS) (by kernel_rfl) ?_ ?_
      rotate_left
      · intro _; go_simp; try with_reducible rfl
      simp only [Act.put, sI, sZ, sS]
      refine wpAnyG_any (i := 13) (v := ?_) rfl (by kernel_rfl) (by kernel_rfl) (by kernel_rfl) (fun _ _ _ h => h) (by kernel_rfl) (fun _ => hS) (by kernel_rfl) ?_ ?_
      rotate_left
      · intro _; go_simp; try with_reducible rfl
      simp only [Act.put, sI, sZ, sS]
      refine wpAnyG_any (i := 14) (v := ?_) rfl (by kernel_rfl) (by kernel_rfl) (by kernel_rfl) (fun _ _ _ h => h) (by kernel_rfl) (fun _ => hS) (by kernel_rfl) ?_ ?_
      rotate_left
      · intro _; go_simp; try with_reducible rfl
      simp only [Act.put, sI, sZ, sS]
      refine wpAnyG_any (i := 16) (v := ?_) rfl (by kernel_rfl) (by kernel_rfl) (by kernel_rfl) (fun _ _ _ h => h) (by kernel_rfl) (fun _ => hS) (by kernel_rfl) ?_ ?_
      rotate_left
      · intro _; go_simp; try with_reducible rfl
      simp only [Act.put, sI, sZ, sS]
      refine wpAnyG_one (i := 17) rfl (by kernel_rfl) (by kernel_rfl) (fun K hK => ?_)
      go_simp
      refine hK.out _ _ (fun h => absurd (show true = false from h) (by decide)) ?_
      clear hK K
      refine wpAnyG_done (by kernel_rfl) ?_ _
      go_wp2
      go_roundw
      case rel => exact ⟨k + 1, by omega, by go_num, grown_set (grown_drew hG) _ _, by rw [HS.out]; exact hA1.set k _, hB1.setOther _ _ (by simp; omega)⟩
      case measure => simp [intOf]; omega
    · obtain rfl : k = 5 := by omega
      go_wp2
      go_end0
      exact ⟨⟨_, rfl⟩, by rw [HST.out]; exact hA, hG⟩
def lowK (lo hi : Int) : Nat → List Int
  | 0 => List.replicate 16 0
  | i + 1 => ((lowK lo hi i).set i (lo / 2 ^ (8 * i) % 256)).set (8 + i) (hi / 2 ^ (8 * i) % 256)
theorem lowK_length (lo hi : Int) (i : Nat) : (lowK lo hi i).length = 16 := by
  induction i with
  | zero => rfl
  | succ i ih => simp [lowK, ih]
def lowestL (L : List Int) : List Int :=
  lowK (bits .or .u64 (bits .or .u64 (L[0]?.getD 0) (L[1]?.getD 0 * 67108864 % 18446744073709551616)) (L[2]?.getD 0 * 4503599627370496 % 18446744073709551616))
    (bits .or .u64 (bits .or .u64 (L[2]?.getD 0 / 4096) (L[3]?.getD 0 * 16384 % 18446744073709551616)) (L[4]?.getD 0 * 1099511627776 % 18446744073709551616)) 8
theorem lowestL_length (L : List Int) : (lowestL L).length = 16 := lowK_length _ _ _
theorem sizeTag : (Tryz.prog.info? 168).map (·.size) = some 16 := by kernel_rfl
set_option maxHeartbeats 4000000 in
theorem lowest_any (g : Nat) (t : TypeId) (L : List Int) (w : World) (h : Holds w g .u64 t L) (hl : 5 ≤ L.length) :
    Calls Tryz.prog 146 #[.pointer (some ⟨g, 0, none⟩)] w fun e w' => e = .returned (.agg (row .u8 (lowestL L))) ∧ Below w.heap.size w w' := by
  have HL : Veil (lowestL L = lowK (bits .or .u64 (bits .or .u64 (L[0]?.getD 0) (IntKind.u64.wrap (L[1]?.getD 0 * 67108864))) (IntKind.u64.wrap (L[2]?.getD 0 * 4503599627370496)))
    (bits .or .u64 (bits .or .u64 (L[2]?.getD 0 / 4096) (IntKind.u64.wrap (L[3]?.getD 0 * 16384))) (IntKind.u64.wrap (L[4]?.getD 0 * 1099511627776))) 8) := ⟨by unfold lowestL; simp only [IntKind.wrap_u64]⟩
  have hll := lowestL_length L
  have b0 := (h.alloc (.cells (row .u8 (List.replicate 16 0)) 168)).cell 0 (by omega)
  have b1 := (h.alloc (.cells (row .u8 (List.replicate 16 0)) 168)).cell 1 (by omega)
  have b2 := (h.alloc (.cells (row .u8 (List.replicate 16 0)) 168)).cell 2 (by omega)
  have b3 := (h.alloc (.cells (row .u8 (List.replicate 16 0)) 168)).cell 3 (by omega)
  have b4 := (h.alloc (.cells (row .u8 (List.replicate 16 0)) 168)).cell 4 (by omega)
  obtain ⟨l0, h0⟩ : ∃ q, L[0]?.getD 0 = q := ⟨_, rfl⟩
  obtain ⟨l1, h1⟩ : ∃ q, L[1]?.getD 0 = q := ⟨_, rfl⟩
  obtain ⟨l2, h2⟩ : ∃ q, L[2]?.getD 0 = q := ⟨_, rfl⟩
  obtain ⟨l3, h3⟩ : ∃ q, L[3]?.getD 0 = q := ⟨_, rfl⟩
  obtain ⟨l4, h4⟩ : ∃ q, L[4]?.getD 0 = q := ⟨_, rfl⟩
  rw [h0] at b0 HL
  rw [h1] at b1 HL
  rw [h2] at b2 HL
  rw [h3] at b3 HL
  rw [h4] at b4 HL
  clear h0 h1 h2 h3 h4
  go_enter Tryz.func146, Tryz.ntmps146
  go_upto_region 1 with fail
  refine forget (p := fun y => Code.wp _ _ _ _ y) (fun W0 => Below w.heap.size w W0 ∧ W0.heap.size = w.heap.size + 1 ∧ Holds W0 w.heap.size .u8 168 (List.replicate 16 0) ∧ W0.cell? ⟨g, 0, none⟩ = some (.int .u64 l0) ∧ W0.cell? ⟨g, 1, none⟩ = some (.int .u64 l1) ∧ W0.cell? ⟨g, 2, none⟩ = some (.int .u64 l2) ∧ W0.cell? ⟨g, 3, none⟩ = some (.int .u64 l3) ∧ W0.cell? ⟨g, 4, none⟩ = some (.int .u64 l4)) ⟨(Below.refl _ _).alloc (Nat.le_refl _) _, by simp, Holds.new w .u8 168 (List.replicate 16 0), b0, b1, b2, b3, b4⟩ ?_
  clear b0 b1 b2 b3 b4
  rintro W0 ⟨hB0, hs0, hR0, b0, b1, b2, b3, b4⟩
  go_quiet ((fail))
  go_upto_region 2 with fail
  refine forget (p := fun y => Code.wp _ _ _ _ y) (fun W1 => Below w.heap.size w W1 ∧ W1.heap.size = w.heap.size + 1 ∧ Holds W1 w.heap.size .u8 168 (List.replicate 16 0) ∧ W1.cell? ⟨g, 2, none⟩ = some (.int .u64 l2) ∧ W1.cell? ⟨g, 3, none⟩ = some (.int .u64 l3) ∧ W1.cell? ⟨g, 4, none⟩ = some (.int .u64 l4)) ⟨below_drewN hB0 nq, by simpa using hs0, hR0.drewN nq, by simpa using b2, by simpa using b3, by simpa using b4⟩ ?_
  clear b0 b1 b2 b3 b4 hB0 hs0 hR0
  rintro W1 ⟨hB0, hs0, hR0, b2, b3, b4⟩
  go_quiet ((fail))
  obtain ⟨lo, hlo⟩ : ∃ q, bits .or .u64 (bits .or .u64 l0 (IntKind.u64.wrap (l1 * 67108864))) (IntKind.u64.wrap (l2 * 4503599627370496)) = q := ⟨_, rfl⟩
  obtain ⟨hi, hhi⟩ : ∃ q, bits .or .u64 (bits .or .u64 (l2 / 4096) (IntKind.u64.wrap (l3 * 16384))) (IntKind.u64.wrap (l4 * 1099511627776)) = q := ⟨_, rfl⟩
  rw [hlo, hhi] at HL
  go_upto_region 3 with fail
  rw [hlo, hhi]
  clear hlo hhi b2 b3 b4
  have hN : Holds ((W1.drewN nq).alloc (.cells (row .u8 (List.replicate 16 0)) 168)) (w.heap.size + 1) .u8 168 (List.replicate 16 0) := by
    have := Holds.new (W1.drewN nq) .u8 168 (List.replicate 16 0)
    rw [drewN_size, hs0] at this
    exact this
  go_upto_region 4 with fail
  refine forget (p := fun y => Code.wp _ _ _ _ y) (fun W2 => Below w.heap.size w W2 ∧ Holds W2 w.heap.size .u8 168 (List.replicate 16 0) ∧ Holds W2 (w.heap.size + 1) .u8 168 (List.replicate 16 0)) ⟨(below_drewN hB0 nq).alloc (by simp; omega) _, (hR0.drewN nq).alloc _, hN⟩ ?_
  clear hN hB0 hs0 hR0
  rintro W2 ⟨hB2, hR2, hT2⟩
  go_wp2_with fail
  go_loopw [40] (fun q wr => ∃ k : Nat, k ≤ 8 ∧ q = .int .i64 k ∧ Below w.heap.size w wr ∧ Holds wr w.heap.size .u8 168 (List.replicate 16 0) ∧ Holds wr (w.heap.size + 1) .u8 168 (lowK lo hi k)) (fun q _ => 8 - (intOf q).toNat)
  case atStart => exact ⟨0, by omega, rfl, hB2, hR2, hT2⟩
  case round =>
    clear hB2 hR2 hT2
    obtain ⟨k, hk, rfl, hB, hR, hT⟩ := hrel
    by_cases hlt : k < 8
    · have HS : Veil (lowK lo hi (k + 1) = ((lowK lo hi k).set k (lo / 2 ^ (8 * k) % 256)).set (8 + k) (hi / 2 ^ (8 * k) % 256)) := ⟨rfl⟩
      have hTl := lowK_length lo hi k
      obtain ⟨A, hA⟩ : ∃ q, lowK lo hi k = q := ⟨_, rfl⟩
      rw [hA] at hT HS hTl
      have hT1 := hT.drew
      have c1 := hT1.cell k (by omega)
      have c2 := hT1.cell (8 + k) (by omega)
      have f1 := hT1.frozen k
      have f2 := hT1.frozen (8 + k)
      have d1 := hT.cell k (by omega)
      have d2 := hT.cell (8 + k) (by omega)
      have e1 := hT.frozen k
      have e2 := hT.frozen (8 + k)
      have hkc : k = 0 ∨ k = 1 ∨ k = 2 ∨ k = 3 ∨ k = 4 ∨ k = 5 ∨ k = 6 ∨ k = 7 := by omega
      clear hA hlt hk
      have wr0 : IntKind.i64.wrap 0 = 0 := by decide
      have wr8 : IntKind.i64.wrap 8 = 8 := by decide
      have wr9 : IntKind.i64.wrap 9 = 9 := by decide
      have wr10 : IntKind.i64.wrap 10 = 10 := by decide
      have wr11 : IntKind.i64.wrap 11 = 11 := by decide
      have wr12 : IntKind.i64.wrap 12 = 12 := by decide
      have wr13 : IntKind.i64.wrap 13 = 13 := by decide
      have wr14 : IntKind.i64.wrap 14 = 14 := by decide
      have wr15 : IntKind.i64.wrap 15 = 15 := by decide
      have wr16 : IntKind.i64.wrap 16 = 16 := by decide
      have wr24 : IntKind.i64.wrap 24 = 24 := by decide
      have wr32 : IntKind.i64.wrap 32 = 32 := by decide
      have wr40 : IntKind.i64.wrap 40 = 40 := by decide
      have wr48 : IntKind.i64.wrap 48 = 48 := by decide
      have wr56 : IntKind.i64.wrap 56 = 56 := by decide
      rcases hkc with rfl | rfl | rfl | rfl | rfl | rfl | rfl | rfl
      all_goals
        try simp only [Nat.reduceAdd, Nat.add_zero] at c2 f2 d2 e2
        go_upto_region 7 with fail
        refine wp_region_gate (fun _ => True) 14 (by kernel_rfl) ?_
        have hS : True := trivial
        refine wpAnyG_any (i := 0) (v := ?_) rfl (by kernel_rfl) (by kernel_rfl) (by kernel_rfl) (fun _ _ _ h => h) (by kernel_rfl) (fun _ => hS) (by kernel_rfl) ?_ ?_
        rotate_left
        · intro _; go_simp; try with_reducible rfl
        simp only [Act.put, sI, sZ, sS]
        refine wpAnyG_any (i := 1) (v := ?_) rfl (by kernel_rfl) (by kernel_rfl) (by kernel_rfl) (fun _ _ _ h => h) (by kernel_rfl) (fun _ => hS) (by kernel_rfl) ?_ ?_
        rotate_left
        · intro _; go_simp; try with_reducible rfl
        simp only [Act.put, sI, sZ, sS]
        refine wpAnyG_any (i := 2) (v := ?_) rfl (by kernel_rfl) (by kernel_rfl) (by kernel_rfl) (fun _ _ _ h => h) (by kernel_rfl) (fun _ => hS) (by kernel_rfl) ?_ ?_
        rotate_left
        · intro _; go_simp; try with_reducible rfl
        simp only [Act.put, sI, sZ, sS]
        refine wpAnyG_any (i := 3) (v := ?_) rfl (by kernel_rfl) (by kernel_rfl) (by kernel_rfl) (fun _ _ _ h => h) (by kernel_rfl) (fun _ => hS) (by kernel_rfl) ?_ ?_
        rotate_left
        · intro _; go_simp; try with_reducible rfl
        simp only [Act.put, sI, sZ, sS]
        refine wpAnyG_any (i := 4) (v := ?_) rfl (by kernel_rfl) (by kernel_rfl) (by kernel_rfl) (fun _ _ _ h => h) (by kernel_rfl) (fun _ => hS) (by kernel_rfl) ?_ ?_
        rotate_left
        · intro _; go_simp; try with_reducible rfl
        simp only [Act.put, sI, sZ, sS]
        refine wpAnyG_any (i := 5) (v := ?_) rfl (by kernel_rfl) (by kernel_rfl) (by kernel_rfl) (fun _ _ _ h => h) (by kernel_rfl) (fun _ => hS) (by kernel_rfl) ?_ ?_
        rotate_left
        · intro _; go_simp; try with_reducible rfl
        simp only [Act.put, sI, sZ, sS]
        refine wpAnyG_any (i := 6) (v := ?_) rfl (by kernel_rfl) (by kernel_rfl) (by kernel_rfl) (fun _ _ _ h => h) (by kernel_rfl) (fun _ => hS) (by kernel_rfl) ?_ ?_
        rotate_left
        · intro _; go_simp; try with_reducible rfl
        simp only [Act.put, sI, sZ, sS]
        refine wpAnyG_any (i := 7) (v := ?_) rfl (by kernel_rfl) (by kernel_rfl) (by kernel_rfl) (fun _ _ _ h => h) (by kernel_rfl) (fun _ => hS) (by kernel_rfl) ?_ ?_
        rotate_left
        · intro _; go_simp; try with_reducible rfl
        simp only [Act.put, sI, sZ, sS]
        refine wpAnyG_any (i := 8) (v := ?_) rfl (by kernel_rfl) (by kernel_rfl) (by kernel_rfl) (fun _ _ _ h => h) (by kernel_rfl) (fun _ => hS) (by kernel_rfl) ?_ ?_
        rotate_left
        · intro _; go_simp; try with_reducible rfl
        simp only [Act.put, sI, sZ, sS]
        refine wpAnyG_any (i := 9) (v := ?_) rfl (by kernel_rfl) (by kernel_rfl) (by kernel_rfl) (fun _ _ _ h => h) (by kernel_rfl) (fun _ => hS) (by kernel_rfl) ?_ ?_
        rotate_left
        · intro _; go_simp; try with_reducible rfl
        simp only [Act.put, sI, sZ, sS]
        refine wpAnyG_any (i := 10) (v := ?_) rfl (by kernel_rfl) (by kernel_rfl) (by kernel_rfl) (fun _ _ _ h => h) (by kernel_rfl) (fun _ => hS) (by kernel_rfl) ?_ ?_
        rotate_left
        · intro _; go_simp; try with_reducible rfl
        simp only [Act.put, sI, sZ, sS]
        refine wpAnyG_any (i := 11) (v := ?_) rfl (by kernel_rfl) (by kernel_rfl) (by kernel_rfl) (fun _ _ _ h => h) (by kernel_rfl) (fun _ => hS) (by kernel_rfl) ?_ ?_
        rotate_left
        · intro _; go_simp; try with_reducible rfl
        simp only [Act.put, sI, sZ, sS]
        refine wpAnyG_any (i := 12) (v := ?_) rfl (by kernel_rfl) (by kernel_rfl) (by kernel_rfl) (fun _ _ _ h => h) (by kernel_rfl) (fun _ => hS) (by kernel_rfl) ?_ ?_
        rotate_left
        · intro _; go_simp; try with_reducible rfl
        simp only [Act.put, sI, sZ, sS]
        refine wpAnyG_any (i := 13) (v := ?_) rfl (by kernel_rfl) (by kernel_rfl) (by kernel_rfl) (fun _ _ _ h => h) (by kernel_rfl) (fun _ => hS) (by kernel_rfl) ?_ ?_
        rotate_left
        · intro _; go_simp; try with_reducible rfl
        simp only [Act.put, sI, sZ, sS]
        refine wpAnyG_one (i := 14) rfl (by kernel_rfl) (by kernel_rfl) (fun K hK => ?_)
        go_simp
        refine hK.out _ _ (fun h => absurd (show true = false from h) (by decide)) ?_
        clear hK K
        refine wpAnyG_any (i := 15) (v := ?_) rfl (by kernel_rfl) (by kernel_rfl) (by kernel_rfl) (fun _ _ _ h => h) (by kernel_rfl) (fun h => absurd (show true = false from h) (by decide)) (by kernel_rfl) ?_ ?_
        rotate_left
        · intro _; go_simp; try with_reducible rfl
        simp only [Act.put, sI, sZ, sS]
        refine wpAnyG_one (i := 16) rfl (by kernel_rfl) (by kernel_rfl) (fun K hK => ?_)
        go_simp
        refine hK.out _ _ (fun h => absurd (show true = false from h) (by decide)) ?_
        clear hK K
        refine wpAnyG_done (by kernel_rfl) ?_ _
        go_wp2
        go_roundw
        case rel =>
          refine ⟨_, ?_, rfl, (hB.drew.setCell (by simp) _).setCell (by simp) _, (hR.drew.setOther _ _ (by simp)).setOther _ _ (by simp), ?_⟩
          rotate_left
          · rw [HS.out]; simpa [IntKind.wrap_u8] using ((hT.set _ _).set _ _).drew
          · decide
        case measure => simp [intOf]
    · obtain rfl : k = 8 := by omega
      rw [← HL.out] at hT
      go_wp2_with (first
        | (refine wpList_ld rfl 168 _ rfl _ rfl hT Tryz.underlying168 sizeTag hll ?_)
        | (refine wpList_st rfl 168 _ _ rfl _ rfl rfl hR (by rw [hll]; exact sizeTag) (by simp [hll]) ?_))
      refine bodyPost_ret (results_holds (Tryz.results146) _ rfl (hR.setRow _) Tryz.underlying168 sizeTag hll) rfl ⟨rfl, ?_⟩
      exact below_setRow hB (Nat.le_refl _) _
end Go.Proofs.YtlhajphjppjlgaaGreatDoor
