/- Pb Pc Pd -/
import Derived.Test.YtflkhkmejnpapaaGreatDoorK05
import Derived.Laws.Bits64
import Derived.Laws.Bits64b
namespace Go.Proofs.YtflkhkmejnpapaaGreatDoor
open Go.RowKit
set_option maxRecDepth 20000
set_option linter.unusedSimpArgs false
def halfK (z : List Int) : Nat → Int
 | 0 => 0
 | i + 1 => bits .or .u64 (halfK z i) (z[i]?.getD 0 % 18446744073709551616 * 2 ^ (8 * i) % 18446744073709551616)
set_option maxHeartbeats 1000000 in
theorem half_any (b off cap : Nat) (z : List Int) (w : World) (hc : ∀ j, j < 8 → w.cell? ⟨b, off + j, none⟩ = some (.int .u8 (z[j]?.getD 0))) :
    Calls Tryz.prog 98 #[.slice (some ⟨b, off, none⟩) 8 cap] w fun e w' => e = .returned (.int .u64 (halfK z 8)) ∧ w' = w := by
 go_enter Tryz.func98, Tryz.ntmps98
 go_wp2
 go_loop [3, 5] (fun x i => ∃ k : Nat, k ≤ 8 ∧ i = .int .i64 k ∧ x = .int .u64 (halfK z k)) (fun _ i => 8 - (intOf i).toNat)
 case atStart => exact ⟨0, by omega, rfl, rfl⟩
 case round =>
  obtain ⟨k, hk, rfl, rfl⟩ := hrel
  by_cases hlt : k < 8
  · have c := hc k hlt
    have HS : Veil (halfK z (k + 1) = bits .or .u64 (halfK z k) (z[k]?.getD 0 % 18446744073709551616 * 2 ^ (8 * k) % 18446744073709551616)) := ⟨rfl⟩
    obtain ⟨p, hp⟩ : ∃ p, z[k]?.getD 0 = p := ⟨_, rfl⟩
    obtain ⟨X, hX⟩ : ∃ p, halfK z k = p := ⟨_, rfl⟩
    rw [hp] at c HS
    rw [hX] at HS ⊢
    clear hp hX
    have hkc : k = 0 ∨ k = 1 ∨ k = 2 ∨ k = 3 ∨ k = 4 ∨ k = 5 ∨ k = 6 ∨ k = 7 := by omega
    clear hlt hk hc
    rcases hkc with rfl | rfl | rfl | rfl | rfl | rfl | rfl | rfl
    all_goals
     try rw [Nat.add_zero] at c
     go_wp2
     go_round
     case rel => exact ⟨_, by decide, rfl, by rw [HS.out]; simp [IntKind.wrap_u64]⟩
     case measure => simp [intOf]
  · obtain rfl : k = 8 := by omega
    go_wp2
    go_ret
    exact ⟨rfl, rfl⟩
theorem size17 : (Tryz.prog.info? 120).map (·.size) = some 17 := by kernel_rfl
theorem size5 : (Tryz.prog.info? 117).map (·.size) = some 5 := by kernel_rfl
theorem size16b : (Tryz.prog.info? 86).map (·.size) = some 16 := by kernel_rfl
theorem drop_get (z : List Int) (i j : Nat) : (z.drop i)[j]?.getD 0 = z[i + j]?.getD 0 := by rw [List.getElem?_drop]
def numL (z : List Int) : List Int :=
 let low := halfK z 8
 let high := halfK (z.drop 8) 8
 let top := z[16]?.getD 0 % 18446744073709551616
 [bits .and .u64 low 67108863, bits .and .u64 (low / 67108864) 67108863, bits .and .u64 (bits .or .u64 (low / 4503599627370496) (high * 4096 % 18446744073709551616)) 67108863, bits .and .u64 (high / 16384) 67108863, bits .or .u64 (high / 1099511627776) (top * 16777216 % 18446744073709551616)]
set_option maxHeartbeats 1000000 in
theorem numberOf_any (z : List Int) (w : World) (hz : z.length = 17) :
    Calls Tryz.prog 78 #[.agg (row .u8 z)] w fun e w' => e = .returned (.agg (row .u64 (numL z))) ∧ Below w.heap.size w w' := by
 have h0 : Holds (w.alloc (.cells (row .u8 z) 120)) w.heap.size .u8 120 z := Holds.new w .u8 _ z
 have hN : ∃ l, numL z = l := ⟨_, rfl⟩
 obtain ⟨l, hN⟩ := hN
 rw [hN]
 unfold numL at hN
 have h1 := fun (wx : World) (hx : Holds wx w.heap.size .u8 120 z) => half_any w.heap.size 0 17 z wx (fun j hj => by rw [Nat.zero_add]; exact hx.cell j (by omega))
 have h2 := fun (wx : World) (hx : Holds wx w.heap.size .u8 120 z) => half_any w.heap.size 8 9 (z.drop 8) wx (fun j hj => by rw [drop_get]; exact hx.cell (8 + j) (by omega))
 obtain ⟨A, hA⟩ : ∃ q, halfK z 8 = q := ⟨_, rfl⟩
 obtain ⟨B, hB⟩ : ∃ q, halfK (z.drop 8) 8 = q := ⟨_, rfl⟩
 obtain ⟨T, hT⟩ : ∃ q, z[16]?.getD 0 = q := ⟨_, rfl⟩
 rw [hA] at h1 hN
 rw [hB] at h2 hN
 rw [hT] at hN
 dsimp only at hN
 have HN : Veil (l = [bits .and .u64 A 67108863, bits .and .u64 (A / 67108864) 67108863, bits .and .u64 (bits .or .u64 (A / 4503599627370496) (IntKind.u64.wrap (B * 4096))) 67108863, bits .and .u64 (B / 16384) 67108863, bits .or .u64 (B / 1099511627776) (IntKind.u64.wrap (IntKind.u64.wrap T * 16777216))]) := ⟨by rw [← hN]; simp only [IntKind.wrap_u64]⟩
 have hll : l.length = 5 := by rw [HN.out]; rfl
 clear hN hA hB
 go_enter Tryz.func78, Tryz.ntmps78
 go_upto_region 1 with fail
 refine forget (p := fun y => Code.wp _ _ _ _ y) (fun W0 => Below w.heap.size w W0 ∧ W0.heap.size = w.heap.size + 2 ∧ Holds W0 w.heap.size .u8 120 z ∧ Holds W0 (w.heap.size + 1) .u64 117 (List.replicate 5 0)) ⟨((Below.refl _ _).alloc (Nat.le_refl _) _).alloc (by simp) _, by simp, h0.alloc _, ?_⟩ ?_
 · have := Holds.new (w.alloc (.cells (row .u8 z) 120)) .u64 117 (List.replicate 5 0)
   rw [World.size_alloc] at this
   exact this
 clear h0
 rintro W0 ⟨hB0, hs0, hz0, hR0⟩
 have hz1 := hz0.drew
 have c16 := hz1.cell 16 (by omega)
 rw [hT] at c16
 refine wp_region_gate (fun w' => w'.cell? ⟨w.heap.size, 16, none⟩ = some (.int .u8 T)) 9 (by kernel_rfl) ?_
 have hS : W0.drew.cell? ⟨w.heap.size, 16, none⟩ = some (.int .u8 T) := c16
 refine gaA 0 _ hS ?_
 simp only [Act.put, sI, sZ, sS]
 refine gaA 2 _ hS ?_
 simp only [Act.put, sI, sZ, sS]
 refine gaA 4 _ hS ?_
 simp only [Act.put, sI, sZ, sS]
 refine grA 5 _ hS ?_
 simp only [Act.put, sI, sZ, sS]
 refine gaA 6 _ hS ?_
 simp only [Act.put, sI, sZ, sS]
 refine wpAnyG_one (i := 1) rfl (by kernel_rfl) (by kernel_rfl) (fun K hK => ?_)
 go_wp2_with (go_at_call 98; refine (h1 _ hz1).mono ?_; rintro e w1 ⟨rfl, rfl⟩)
 refine hK.out _ _ (fun _ => hS) ?_
 clear hK K
 refine wpAnyG_one (i := 3) rfl (by kernel_rfl) (by kernel_rfl) (fun K hK => ?_)
 go_wp2_with (go_at_call 98; refine (h2 _ hz1).mono ?_; rintro e w1 ⟨rfl, rfl⟩)
 refine hK.out _ _ (fun _ => hS) ?_
 clear hK K
 refine gaA 7 _ hS ?_
 simp only [Act.put, sI, sZ, sS]
 refine gaA 8 _ hS ?_
 simp only [Act.put, sI, sZ, sS]
 refine wpAnyG_one (i := 9) rfl (by kernel_rfl) (by kernel_rfl) (fun K hK => ?_)
 go_simp
 refine hK.out _ _ (fun h => absurd (show true = false from h) (by decide)) ?_
 clear hK K
 refine wpAnyG_done (by kernel_rfl) ?_ _
 have hR1 := hR0.drew
 go_wp2_with (refine wpList_st rfl 117 _ _ rfl _ rfl (k := .u64) (l := l) (by rw [HN.out]; rfl) hR1 (by rw [hll]; exact size5) (by simp [hll]) ?_)
 refine bodyPost_ret (results_holds (Tryz.results78) _ rfl (hR1.setRow _) Tryz.underlying117 size5 hll) rfl ⟨rfl, ?_⟩
 exact below_setRow (hB0.drew) (by omega) _
theorem bare_any (z : List Int) (w : World) (hz : z.length = 16) :
    Calls Tryz.prog 79 #[.agg (row .u8 z)] w fun e w' => e = .returned (.agg (row .u8 (z ++ [0]))) ∧ Below w.heap.size w w' := by
 have h0 : Holds (w.alloc (.cells (row .u8 z) 86)) w.heap.size .u8 86 z := Holds.new w .u8 _ z
 have hl : (z ++ [0]).length = 17 := by simp [hz]
 have HZ : Veil (z ++ List.replicate (17 - z.length) 0 = z ++ [0]) := ⟨by rw [hz]; rfl⟩
 go_enter Tryz.func79, Tryz.ntmps79
 go_upto_region 2 with fail
 refine forget (p := fun y => Code.wp _ _ _ _ y) (fun W0 => Below w.heap.size w W0 ∧ Holds W0 w.heap.size .u8 86 z ∧ Holds W0 (w.heap.size + 1) .u8 120 (List.replicate 17 0) ∧ Holds W0 (w.heap.size + 1 + 1) .u8 120 (List.replicate 17 0)) ⟨(((Below.refl _ _).alloc (Nat.le_refl _) _).alloc (by simp) _).alloc (by simp; omega) _, (h0.alloc _).alloc _, ?_, ?_⟩ ?_
 · have := Holds.new (w.alloc (.cells (row .u8 z) 86)) .u8 120 (List.replicate 17 0)
   rw [World.size_alloc] at this
   exact this.alloc _
 · have := Holds.new ((w.alloc (.cells (row .u8 z) 86)).alloc (.cells (row .u8 (List.replicate 17 0)) 120)) .u8 120 (List.replicate 17 0)
   rw [World.size_alloc, World.size_alloc] at this
   exact this
 clear h0
 rintro W0 ⟨hB0, hz0, hR0, hA0⟩
 have hcp := run_copy_bytes W0.drew (w.heap.size + 1 + 1) 17 (some ⟨w.heap.size, 0, none⟩) 16 16 z (hz0.drew.bytes hz.symm (by omega)) hA0.drew (by omega)
 rw [HZ.out] at hcp
 refine wp_region_gate (fun _ => True) 2 (by kernel_rfl) ?_
 have hS : True := trivial
 refine gaA 0 _ hS ?_
 simp only [Act.put, sI, sZ, sS]
 refine gaA 1 _ hS ?_
 simp only [Act.put, sI, sZ, sS]
 refine wpAnyG_one (i := 2) rfl (by kernel_rfl) (by kernel_rfl) (fun K hK => ?_)
 go_simp
 refine hK.out _ _ (fun h => absurd (show true = false from h) (by decide)) ?_
 clear hK K
 refine wpAnyG_done (by kernel_rfl) ?_ _
 go_upto_region 3 with fail
 refine forget (p := fun y => Code.wp _ _ _ _ y) (fun W1 => Below w.heap.size w W1 ∧ Holds W1 (w.heap.size + 1) .u8 120 (List.replicate 17 0) ∧ Holds W1 (w.heap.size + 1 + 1) .u8 120 (z ++ [0])) ⟨below_setRow hB0.drew (by omega) _, hR0.drew.setRowOther _ (by omega), hA0.drew.setRow _⟩ ?_
 clear hcp hA0 hR0 hz0 hB0 hS HZ
 rintro W1 ⟨hB, hR, hA⟩
 go_wp2_with (first
  | (refine wpList_ld rfl 120 _ rfl _ rfl hA Tryz.underlying120 size17 hl ?_)
  | (refine wpList_st rfl 120 _ _ rfl _ rfl rfl hR (by rw [hl]; exact size17) (by simp [hl]) ?_))
 refine bodyPost_ret (results_holds (Tryz.results79) _ rfl (hR.setRow _) Tryz.underlying120 size17 hl) rfl ⟨rfl, ?_⟩
 exact below_setRow hB (by omega) _
theorem size1u64 : (Tryz.prog.info? 104).map (·.size) = some 1 := by kernel_rfl
theorem five {l : List Int} (h : l.length = 5) : ∃ a b c d e, l = [a, b, c, d, e] := by
 match l, h with
 | [a, b, c, d, e], _ => exact ⟨a, b, c, d, e, rfl⟩
theorem fiveMore {l : List Int} (h : 5 ≤ l.length) : ∃ a b c d e r, l = a :: b :: c :: d :: e :: r := by
 match l, h with
 | a :: b :: c :: d :: e :: r, _ => exact ⟨a, b, c, d, e, r, rfl⟩
def stepP (p : List Int) (x y : Int) (i j : Nat) : List Int :=
 if i + j < 5 then p.set (i + j) ((p[i + j]?.getD 0 + x * y % 18446744073709551616) % 18446744073709551616)
 else p.set (i + j - 5) ((p[i + j - 5]?.getD 0 + 5 * x % 18446744073709551616 * y % 18446744073709551616) % 18446744073709551616)
theorem stepP_length (p : List Int) (x y : Int) (i j : Nat) : (stepP p x y i j).length = p.length := by unfold stepP; split <;> simp
def innerK (x : Int) (m : List Int) (i : Nat) (p : List Int) : Nat → List Int
 | 0 => p
 | j + 1 => stepP (innerK x m i p j) x (m[j]?.getD 0) i j
theorem innerK_length (x : Int) (m : List Int) (i : Nat) (p : List Int) (j : Nat) : (innerK x m i p j).length = p.length := by
 induction j with
 | zero => rfl
 | succ j ih => simp only [innerK, stepP_length, ih]
def outerK (L m : List Int) : Nat → List Int
 | 0 => List.replicate 5 0
 | i + 1 => innerK (L[i]?.getD 0) m i (outerK L m i) 5
theorem outerK_length (L m : List Int) (i : Nat) : (outerK L m i).length = 5 := by
 induction i with
 | zero => rfl
 | succ i ih => simp only [outerK, innerK_length, ih]
def timesL (L m : List Int) : List Int := foldL (outerK L m 5 ++ L.drop 5)
set_option maxHeartbeats 4000000 in
theorem times_any (g : Nat) (t : TypeId) (L m : List Int) (w : World) (h : Holds w g .u64 t L) (hl : 5 ≤ L.length) (hm : m.length = 5) :
    Calls Tryz.prog 101 #[.pointer (some ⟨g, 0, none⟩), .agg (row .u64 m)] w fun e w' => (∃ r, e = .returned r) ∧ Holds w' g .u64 t (timesL L m) ∧ w.grownBy w' (some g) := by
 have hgl := h.lt
 have hix : ∀ (j : Nat), j < 5 → ∀ wx, (Instr.index 117 (.agg (row .u64 m)) (.int .i64 j)).run Tryz.prog wx = .ok (.int .u64 (m[j]?.getD 0)) wx := fun j hj wx => run_index_row wx 117 104 5 .u64 m j Tryz.underlying117 Tryz.underlying104 size1u64 hm hj
 go_enter Tryz.func101, Tryz.ntmps101
 go_upto_region 2 with fail
 refine forget (p := fun y => Code.wp _ _ _ _ y) (fun W0 => w.grownBy W0 (some g) ∧ Holds W0 g .u64 t L ∧ Holds W0 w.heap.size .u64 117 m ∧ Holds W0 (w.heap.size + 1) .u64 117 (List.replicate 5 0)) ⟨(World.grownBy_alloc _ _ _).trans (World.grownBy_alloc _ _ _), (h.alloc _).alloc _, (Holds.new w .u64 _ m).alloc _, ?_⟩ ?_
 · have := Holds.new (w.alloc (.cells (row .u64 m) 117)) .u64 117 (List.replicate 5 0)
   rw [World.size_alloc] at this
   exact this
 rintro W0 ⟨hG0, hL0, hM0, hP0⟩
 go_wp2_with fail
 go_loopw [11] (fun q wr => ∃ i : Nat, i ≤ 5 ∧ q = .int .i64 i ∧ w.grownBy wr (some g) ∧ Holds wr g .u64 t L ∧ Holds wr w.heap.size .u64 117 m ∧ Holds wr (w.heap.size + 1) .u64 117 (outerK L m i)) (fun q _ => 5 - (intOf q).toNat)
 case atStart => exact ⟨0, by omega, rfl, hG0, hL0, hM0, hP0⟩
 case round =>
  clear hG0 hL0 hM0 hP0
  obtain ⟨i, hi, rfl, hG, hL, hM, hP⟩ := hrel
  by_cases hlt : i < 5
  · have HO : Veil (outerK L m (i + 1) = innerK (L[i]?.getD 0) m i (outerK L m i) 5) := ⟨rfl⟩
    have hPl := outerK_length L m i
    obtain ⟨P, hPe⟩ : ∃ q, outerK L m i = q := ⟨_, rfl⟩
    rw [hPe] at hP HO hPl
    have hL1 := hL.drew
    have c1 := hL1.cell i (by omega)
    obtain ⟨x, hx⟩ : ∃ q, L[i]?.getD 0 = q := ⟨_, rfl⟩
    rw [hx] at c1 HO
    have hi0 : (0 : Int) ≤ (i : Int) := by omega
    have hi5 : (i : Int) < 5 := by omega
    clear hPe hx
    go_upto_region 4 with fail
    refine wp_region_gate (fun w' => w'.cell? ⟨g, i, none⟩ = some (.int .u64 x)) 5 (by kernel_rfl) ?_
    have hS : wr.drew.cell? ⟨g, i, none⟩ = some (.int .u64 x) := c1
    refine gaA 0 _ hS ?_
    simp only [Act.put, sI, sZ, sS]
    refine gaA 1 _ hS ?_
    simp only [Act.put, sI, sZ, sS]
    refine gaA 2 _ hS ?_
    simp only [Act.put, sI, sZ, sS]
    refine grA 3 _ hS ?_
    simp only [Act.put, sI, sZ, sS]
    refine gaA 4 _ hS ?_
    simp only [Act.put, sI, sZ, sS]
    refine wpAnyG_one (i := 5) rfl (by kernel_rfl) (by kernel_rfl) (fun K hK => ?_)
    go_simp
    refine hK.out _ _ (fun h => absurd (show true = false from h) (by decide)) ?_
    clear hK K
    refine wpAnyG_done (by kernel_rfl) ?_ _
    have hM1 := hM.drew
    have hP1 := hP.drew
    have hG1 := grown_drew hG
    clear hS c1 hL hM hP hG
    go_wp2_with (refine wpList_ld rfl 117 _ rfl _ rfl hM1 Tryz.underlying117 size5 hm ?_)
    go_loopw [18] (fun q wq => ∃ j : Nat, j ≤ 5 ∧ q = .int .i64 j ∧ w.grownBy wq (some g) ∧ Holds wq g .u64 t L ∧ Holds wq w.heap.size .u64 117 m ∧ Holds wq (w.heap.size + 1) .u64 117 (innerK x m i P j)) (fun q _ => 5 - (intOf q).toNat)
    case atStart => exact ⟨0, by omega, rfl, hG1, hL1, hM1, hP1⟩
    case round =>
     clear hL1 hM1 hP1 hG1
     obtain ⟨j, hj, rfl, hG, hL, hM, hP⟩ := hrel
     by_cases hjl : j < 5
     · have hixj := hix j hjl
       have HI : Veil (innerK x m i P (j + 1) = stepP (innerK x m i P j) x (m[j]?.getD 0) i j) := ⟨rfl⟩
       have hIl := innerK_length x m i P j
       obtain ⟨I, hIe⟩ : ∃ q, innerK x m i P j = q := ⟨_, rfl⟩
       rw [hIe] at hP HI hIl
       obtain ⟨y, hy⟩ : ∃ q, m[j]?.getD 0 = q := ⟨_, rfl⟩
       rw [hy] at hixj HI
       have hj0 : (0 : Int) ≤ (j : Int) := by omega
       have hj5 : (j : Int) < 5 := by omega
       clear hIe hy hix
       by_cases hij : i + j < 5
       · have hs : stepP I x y i j = I.set (i + j) ((I[i + j]?.getD 0 + x * y % 18446744073709551616) % 18446744073709551616) := by unfold stepP; rw [if_pos hij]
         have c2 := hP.cell (i + j) (by omega)
         have f2 := hP.frozen (i + j)
         obtain ⟨q, hq⟩ : ∃ q, I[i + j]?.getD 0 = q := ⟨_, rfl⟩
         rw [hq] at c2 hs
         have HS : Veil (innerK x m i P (j + 1) = I.set (i + j) ((q + x * y % 18446744073709551616) % 18446744073709551616)) := ⟨by rw [HI.out, hs]⟩
         have ha0 : (0 : Int) ≤ (i : Int) + (j : Int) := by omega
         have ha5 : (i : Int) + (j : Int) < 5 := by omega
         have htn : ((i : Int) + (j : Int)).toNat = i + j := by omega
         clear hq hs HI
         go_wp2
         go_roundw
         case rel => exact ⟨j + 1, by omega, by go_num, grown_setNew hG (by omega) _ _, hL.setOther _ _ (by simp; omega), hM.setOther _ _ (by simp), by rw [HS.out]; exact hP.set (i + j) _⟩
         case measure => simp [intOf]; omega
       · have hs : stepP I x y i j = I.set (i + j - 5) ((I[i + j - 5]?.getD 0 + 5 * x % 18446744073709551616 * y % 18446744073709551616) % 18446744073709551616) := by unfold stepP; rw [if_neg hij]
         have c2 := hP.cell (i + j - 5) (by omega)
         have f2 := hP.frozen (i + j - 5)
         obtain ⟨q, hq⟩ : ∃ q, I[i + j - 5]?.getD 0 = q := ⟨_, rfl⟩
         rw [hq] at c2 hs
         have HS : Veil (innerK x m i P (j + 1) = I.set (i + j - 5) ((q + 5 * x % 18446744073709551616 * y % 18446744073709551616) % 18446744073709551616)) := ⟨by rw [HI.out, hs]⟩
         have ha5 : ¬ ((i : Int) + (j : Int) < 5) := by omega
         obtain ⟨a, ha⟩ : ∃ a, i + j - 5 = a := ⟨_, rfl⟩
         rw [ha] at c2 f2 HS
         have hai : (i : Int) + (j : Int) - 5 = (a : Int) := by omega
         have ha6 : (a : Int) < 5 := by omega
         clear hq hs HI ha
         go_wp2
         go_roundw
         case rel => exact ⟨j + 1, by omega, by go_num, grown_setNew hG (by omega) _ _, hL.setOther _ _ (by simp; omega), hM.setOther _ _ (by simp), by rw [HS.out]; exact hP.set a _⟩
         case measure => simp [intOf]; omega
     · obtain rfl : j = 5 := by omega
       go_wp2
       go_roundw
       case rel => exact ⟨i + 1, by omega, by go_num, hG, hL, hM, by rw [HO.out]; exact hP⟩
       case measure => simp [intOf]; omega
  · obtain rfl : i = 5 := by omega
    have hPl := outerK_length L m 5
    have HT : Veil (timesL L m = foldL (outerK L m 5 ++ L.drop 5)) := ⟨rfl⟩
    obtain ⟨p0, p1, p2, p3, p4, hp⟩ := five hPl
    rw [hp] at hP HT
    clear hp hPl hix hM
    obtain ⟨l0, l1, l2, l3, l4, R, rfl⟩ := fiveMore hl
    have a0 := hP.cell 0 (by simp)
    have a1 := hP.cell 1 (by simp)
    have a2 := hP.cell 2 (by simp)
    have a3 := hP.cell 3 (by simp)
    have a4 := hP.cell 4 (by simp)
    have b0 := hL.cell 0 (by simp)
    have b1 := hL.cell 1 (by simp)
    have b2 := hL.cell 2 (by simp)
    have b3 := hL.cell 3 (by simp)
    have b4 := hL.cell 4 (by simp)
    have ff := hL.frozen
    simp only [List.getElem?_cons_zero, List.getElem?_cons_succ, Option.getD_some] at a0 a1 a2 a3 a4 b0 b1 b2 b3 b4
    have hfin := ((((hL.set 0 p0).set 1 p1).set 2 p2).set 3 p3).set 4 p4
    simp only [sZ, sS] at hfin
    have hfo := fold_any g t _ _ hfin (by simp)
    have HT2 : Veil (timesL (l0 :: l1 :: l2 :: l3 :: l4 :: R) m = foldL (p0 :: p1 :: p2 :: p3 :: p4 :: R)) := ⟨by rw [HT.out]; rfl⟩
    clear HT
    go_wp2_with (go_at_call 114; refine hfo.mono ?_; rintro e w2 ⟨⟨r, rfl⟩, h2, g2⟩)
    go_end0
    exact ⟨⟨_, rfl⟩, by rw [HT2.out]; exact h2, (grown_set (grown_set (grown_set (grown_set (grown_set hG _ _) _ _) _ _) _ _) _ _).trans g2⟩
def selK (L S : List Int) (ch : Int) : Nat → List Int
 | 0 => L
 | i + 1 => (selK L S ch i).set i (bits .or .u64 (bits .andNot .u64 ((selK L S ch i)[i]?.getD 0) ch) (bits .and .u64 (S[i]?.getD 0) ch))
theorem selK_length (L S : List Int) (ch : Int) (i : Nat) : (selK L S ch i).length = L.length := by
 induction i with
 | zero => rfl
 | succ i ih => simp [selK, ih]
def lessL (L : List Int) : List Int := carryK ((L.take 5).set 0 ((L[0]?.getD 0 + 5) % 18446744073709551616)) 4
theorem lessL_length (L : List Int) (h : 5 ≤ L.length) : (lessL L).length = 5 := by
 unfold lessL; rw [carryK_length, List.length_set, List.length_take]; omega
def settleL (L : List Int) : List Int :=
 selK L ((lessL L).set 4 (bits .and .u64 ((lessL L)[4]?.getD 0) 67108863)) (IntKind.u64.wrap (-((lessL L)[4]?.getD 0 / 67108864))) 5
set_option maxHeartbeats 2000000 in
theorem settle_any (g : Nat) (t : TypeId) (L : List Int) (w : World) (h : Holds w g .u64 t L) (hl : 5 ≤ L.length) :
    Calls Tryz.prog 102 #[.pointer (some ⟨g, 0, none⟩)] w fun e w' => (∃ r, e = .returned r) ∧ Holds w' g .u64 t (settleL L) ∧ w.grownBy w' (some g) := by
 have hgl := h.lt
 have hST : Veil (settleL L = selK L ((lessL L).set 4 (bits .and .u64 ((lessL L)[4]?.getD 0) 67108863)) (IntKind.u64.wrap (-((lessL L)[4]?.getD 0 / 67108864))) 5) := ⟨rfl⟩
 have hLl := lessL_length L hl
 have hLe : Veil (lessL L = carryK ((L.take 5).set 0 ((L[0]?.getD 0 + 5) % 18446744073709551616)) 4) := ⟨rfl⟩
 obtain ⟨l0, l1, l2, l3, l4, R, hLL⟩ := fiveMore hl
 have b0 := h.cell 0 (by omega)
 have b1 := h.cell 1 (by omega)
 have b2 := h.cell 2 (by omega)
 have b3 := h.cell 3 (by omega)
 have b4 := h.cell 4 (by omega)
 have e0 : (L.take 5).set 0 ((L[0]?.getD 0 + 5) % 18446744073709551616) = [(l0 + 5) % 18446744073709551616, l1, l2, l3, l4] := by rw [hLL]; rfl
 rw [e0] at hLe
 rw [hLL] at b0 b1 b2 b3 b4
 simp only [List.getElem?_cons_zero, List.getElem?_cons_succ, Option.getD_some] at b0 b1 b2 b3 b4
 clear e0 hLL
 have hN := Holds.new w .u64 117 (List.replicate 5 0)
 have hN2 : Holds ((w.alloc (.cells (row .u64 (List.replicate 5 0)) 117)).setRow w.heap.size (row .u64 [l0, l1, l2, l3, l4])) w.heap.size .u64 117 [l0, l1, l2, l3, l4] := hN.setRow _
 have hca := fun (wx : World) (hx : Holds wx w.heap.size .u64 117 [(l0 + 5) % 18446744073709551616, l1, l2, l3, l4]) => carry_any w.heap.size 117 _ wx hx (by simp)
 rw [← hLe.out] at hca
 obtain ⟨S, hS⟩ : ∃ q, lessL L = q := ⟨_, rfl⟩
 rw [hS] at hca hLl hST
 have hcu := fun (wx : World) (hx : Holds wx w.heap.size .u64 117 S) => cut_any w.heap.size 117 S wx hx (by omega)
 obtain ⟨S2, hS2⟩ : ∃ q, S.set 4 (bits .and .u64 (S[4]?.getD 0) 67108863) = q := ⟨_, rfl⟩
 have hS2l : S2.length = 5 := by rw [← hS2, List.length_set, hLl]
 rw [hS2] at hcu hST
 obtain ⟨ov, hov⟩ : ∃ q, S[4]?.getD 0 / 67108864 = q := ⟨_, rfl⟩
 rw [hov] at hcu hST
 clear hS hLe hS2 hov
 go_enter Tryz.func102, Tryz.ntmps102
 go_upto_region 1 with (refine wpList_st rfl 117 _ _ rfl _ rfl (k := .u64) (l := [l0, l1, l2, l3, l4]) rfl hN size5 rfl ?_)
 refine forget (p := fun y => Code.wp _ _ _ _ y) (fun W0 => w.grownBy W0 (some g) ∧ Holds W0 g .u64 t L ∧ Holds W0 w.heap.size .u64 117 [l0, l1, l2, l3, l4]) ⟨?_, (h.alloc _).setRowOther _ (by omega), hN2⟩ ?_
 · exact ⟨rfl, rfl, rfl, by simp, fun k hk _ => by rw [setRow_other _ _ _ _ (by omega), Below.heap_alloc w _ k hk]⟩
 clear hN hN2 b0 b1 b2 b3 b4
 rintro W0 ⟨hG0, hL0, hS0⟩
 simp only [Act.put]
 have c0 := hS0.cell 0 (by simp)
 have f0 := hS0.frozen 0
 simp only [List.getElem?_cons_zero, Option.getD_some] at c0
 go_upto_region 2 with fail
 refine forget (p := fun y => Code.wp _ _ _ _ y) (fun W1 => w.grownBy W1 (some g) ∧ Holds W1 g .u64 t L ∧ Holds W1 w.heap.size .u64 117 [(l0 + 5) % 18446744073709551616, l1, l2, l3, l4]) ⟨grown_setNew hG0 (Nat.le_refl _) _ _, hL0.setOther _ _ (by simp; omega), hS0.set 0 _⟩ ?_
 clear c0 f0 hG0 hL0 hS0
 rintro W1 ⟨hG1, hL1, hS1⟩
 go_upto_region 4 with (first
  | (go_at_call 103; refine (hca _ hS1).mono ?_; rintro e w2 ⟨⟨r, rfl⟩, h2, g2⟩)
  | (go_at_call 115; refine (hcu _ h2).mono ?_; rintro e w3 ⟨rfl, h3, g3⟩))
 have hg23 := g2.trans g3
 have hL3 : Holds w3 g .u64 t L := by
  have hlt := hL1.lt
  unfold Holds at hL1 ⊢
  rw [hg23.block g hlt (by simp; omega)]; exact hL1
 have hG3 : w.grownBy w3 (some g) := hG1.andThen hg23 (fun j hj => by cases hj; exact .inl (Nat.le_refl _))
 clear hca hcu g2 g3 hg23 h2 hL1 hG1 hS1
 have HST : Veil (settleL L = selK L S2 (IntKind.u64.wrap (-ov)) 5) := hST
 clear hST
 obtain ⟨ch, hch⟩ : ∃ q, IntKind.u64.wrap (-ov) = q := ⟨_, rfl⟩
 rw [hch] at HST
 go_wp2_with fail
 rw [hch]
 go_loopw [15] (fun q wr => ∃ k : Nat, k ≤ 5 ∧ q = .int .i64 k ∧ w.grownBy wr (some g) ∧ Holds wr g .u64 t (selK L S2 ch k) ∧ Holds wr w.heap.size .u64 117 S2) (fun q _ => 5 - (intOf q).toNat)
 case atStart => exact ⟨0, by omega, rfl, hG3, hL3, h3⟩
 case round =>
  clear hG3 hL3 h3
  obtain ⟨k, hk, rfl, hG, hA, hB⟩ := hrel
  by_cases hlt : k < 5
  · have HS : Veil (selK L S2 ch (k + 1) = (selK L S2 ch k).set k (bits .or .u64 (bits .andNot .u64 ((selK L S2 ch k)[k]?.getD 0) ch) (bits .and .u64 (S2[k]?.getD 0) ch))) := ⟨rfl⟩
    have hAl := selK_length L S2 ch k
    obtain ⟨A, hAe⟩ : ∃ q, selK L S2 ch k = q := ⟨_, rfl⟩
    rw [hAe] at hA HS hAl
    have hA1 := hA.drew
    have hB1 := hB.drew
    have c1 := hA1.cell k (by omega)
    have c2 := hB1.cell k (by omega)
    have f1 := hA1.frozen k
    obtain ⟨x, hx⟩ : ∃ q, A[k]?.getD 0 = q := ⟨_, rfl⟩
    obtain ⟨y, hy⟩ : ∃ q, S2[k]?.getD 0 = q := ⟨_, rfl⟩
    rw [hx] at c1 HS
    rw [hy] at c2 HS
    have hk0 : (0 : Int) ≤ (k : Int) := by omega
    have hk5 : (k : Int) < 5 := by omega
    clear hAe hx hy hch
    go_upto_region 7 with fail
    refine wp_region_gate (fun w' => w'.cell? ⟨g, k, none⟩ = some (.int .u64 x) ∧ w'.cell? ⟨w.heap.size, k, none⟩ = some (.int .u64 y)) 17 (by kernel_rfl) ?_
    have hS := And.intro c1 c2
    refine gaA 0 _ hS ?_
    simp only [Act.put, sI, sZ, sS]
    refine gaA 1 _ hS ?_
    simp only [Act.put, sI, sZ, sS]
    refine gaA 2 _ hS ?_
    simp only [Act.put, sI, sZ, sS]
    refine gaA 3 _ hS ?_
    simp only [Act.put, sI, sZ, sS]
    refine gaA 4 _ hS ?_
    simp only [Act.put, sI, sZ, sS]
    refine gaA 5 _ hS ?_
    simp only [Act.put, sI, sZ, sS]
    refine gaA 7 _ hS ?_
    simp only [Act.put, sI, sZ, sS]
    refine gaA 9 _ hS ?_
    simp only [Act.put, sI, sZ, sS]
    refine gaA 10 _ hS ?_
    simp only [Act.put, sI, sZ, sS]
    refine gaA 12 _ hS ?_
    simp only [Act.put, sI, sZ, sS]
    refine gaA 15 _ hS ?_
    simp only [Act.put, sI, sZ, sS]
    refine grA 6 _ hS ?_
    simp only [Act.put, sI, sZ, sS]
    refine grA 11 _ hS ?_
    simp only [Act.put, sI, sZ, sS]
    refine gaA 8 _ hS ?_
    simp only [Act.put, sI, sZ, sS]
    refine gaA 13 _ hS ?_
    simp only [Act.put, sI, sZ, sS]
    refine gaA 14 _ hS ?_
    simp only [Act.put, sI, sZ, sS]
    refine gaA 16 _ hS ?_
    simp only [Act.put, sI, sZ, sS]
    refine wpAnyG_one (i := 17) rfl (by kernel_rfl) (by kernel_rfl) (fun K hK => ?_)
    go_simp
    refine hK.out _ _ (fun h => absurd (show true = false from h) (by decide)) ?_
    clear hK K
    refine wpAnyG_done (by kernel_rfl) ?_ _
    go_wp2
    go_roundw
    case rel => exact ⟨k + 1, by omega, by go_num, grown_set (grown_drew hG) _ _, by rw [HS.out]; exact hA1.set k _, hB1.setOther _ _ (by simp; omega)⟩
    case measure => simp [intOf]; omega
  · obtain rfl : k = 5 := by omega
    go_wp2
    go_end0
    exact ⟨⟨_, rfl⟩, by rw [HST.out]; exact hA, hG⟩
def lowK (lo hi : Int) : Nat → List Int
 | 0 => List.replicate 16 0
 | i + 1 => ((lowK lo hi i).set i (lo / 2 ^ (8 * i) % 256)).set (8 + i) (hi / 2 ^ (8 * i) % 256)
theorem lowK_length (lo hi : Int) (i : Nat) : (lowK lo hi i).length = 16 := by
 induction i with
 | zero => rfl
 | succ i ih => simp [lowK, ih]
def lowestL (L : List Int) : List Int :=
 lowK (bits .or .u64 (bits .or .u64 (L[0]?.getD 0) (L[1]?.getD 0 * 67108864 % 18446744073709551616)) (L[2]?.getD 0 * 4503599627370496 % 18446744073709551616))
  (bits .or .u64 (bits .or .u64 (L[2]?.getD 0 / 4096) (L[3]?.getD 0 * 16384 % 18446744073709551616)) (L[4]?.getD 0 * 1099511627776 % 18446744073709551616)) 8
theorem lowestL_length (L : List Int) : (lowestL L).length = 16 := lowK_length _ _ _
theorem sizeTag : (Tryz.prog.info? 87).map (·.size) = some 16 := by kernel_rfl
set_option maxHeartbeats 4000000 in
theorem lowest_any (g : Nat) (t : TypeId) (L : List Int) (w : World) (h : Holds w g .u64 t L) (hl : 5 ≤ L.length) :
    Calls Tryz.prog 104 #[.pointer (some ⟨g, 0, none⟩)] w fun e w' => e = .returned (.agg (row .u8 (lowestL L))) ∧ Below w.heap.size w w' := by
 have HL : Veil (lowestL L = lowK (bits .or .u64 (bits .or .u64 (L[0]?.getD 0) (IntKind.u64.wrap (L[1]?.getD 0 * 67108864))) (IntKind.u64.wrap (L[2]?.getD 0 * 4503599627370496)))
  (bits .or .u64 (bits .or .u64 (L[2]?.getD 0 / 4096) (IntKind.u64.wrap (L[3]?.getD 0 * 16384))) (IntKind.u64.wrap (L[4]?.getD 0 * 1099511627776))) 8) := ⟨by unfold lowestL; simp only [IntKind.wrap_u64]⟩
 have hll := lowestL_length L
 have b0 := (h.alloc (.cells (row .u8 (List.replicate 16 0)) 87)).cell 0 (by omega)
 have b1 := (h.alloc (.cells (row .u8 (List.replicate 16 0)) 87)).cell 1 (by omega)
 have b2 := (h.alloc (.cells (row .u8 (List.replicate 16 0)) 87)).cell 2 (by omega)
 have b3 := (h.alloc (.cells (row .u8 (List.replicate 16 0)) 87)).cell 3 (by omega)
 have b4 := (h.alloc (.cells (row .u8 (List.replicate 16 0)) 87)).cell 4 (by omega)
 obtain ⟨l0, h0⟩ : ∃ q, L[0]?.getD 0 = q := ⟨_, rfl⟩
 obtain ⟨l1, h1⟩ : ∃ q, L[1]?.getD 0 = q := ⟨_, rfl⟩
 obtain ⟨l2, h2⟩ : ∃ q, L[2]?.getD 0 = q := ⟨_, rfl⟩
 obtain ⟨l3, h3⟩ : ∃ q, L[3]?.getD 0 = q := ⟨_, rfl⟩
 obtain ⟨l4, h4⟩ : ∃ q, L[4]?.getD 0 = q := ⟨_, rfl⟩
 rw [h0] at b0 HL
 rw [h1] at b1 HL
 rw [h2] at b2 HL
 rw [h3] at b3 HL
 rw [h4] at b4 HL
 clear h0 h1 h2 h3 h4
 go_enter Tryz.func104, Tryz.ntmps104
 go_upto_region 1 with fail
 refine forget (p := fun y => Code.wp _ _ _ _ y) (fun W0 => Below w.heap.size w W0 ∧ W0.heap.size = w.heap.size + 1 ∧ Holds W0 w.heap.size .u8 87 (List.replicate 16 0) ∧ W0.cell? ⟨g, 0, none⟩ = some (.int .u64 l0) ∧ W0.cell? ⟨g, 1, none⟩ = some (.int .u64 l1) ∧ W0.cell? ⟨g, 2, none⟩ = some (.int .u64 l2) ∧ W0.cell? ⟨g, 3, none⟩ = some (.int .u64 l3) ∧ W0.cell? ⟨g, 4, none⟩ = some (.int .u64 l4)) ⟨(Below.refl _ _).alloc (Nat.le_refl _) _, by simp, Holds.new w .u8 87 (List.replicate 16 0), b0, b1, b2, b3, b4⟩ ?_
 clear b0 b1 b2 b3 b4
 rintro W0 ⟨hB0, hs0, hR0, b0, b1, b2, b3, b4⟩
 go_quiet ((fail))
 go_upto_region 2 with fail
 refine forget (p := fun y => Code.wp _ _ _ _ y) (fun W1 => Below w.heap.size w W1 ∧ W1.heap.size = w.heap.size + 1 ∧ Holds W1 w.heap.size .u8 87 (List.replicate 16 0) ∧ W1.cell? ⟨g, 2, none⟩ = some (.int .u64 l2) ∧ W1.cell? ⟨g, 3, none⟩ = some (.int .u64 l3) ∧ W1.cell? ⟨g, 4, none⟩ = some (.int .u64 l4)) ⟨below_drewN hB0 nq, by simpa using hs0, hR0.drewN nq, by simpa using b2, by simpa using b3, by simpa using b4⟩ ?_
 clear b0 b1 b2 b3 b4 hB0 hs0 hR0
 rintro W1 ⟨hB0, hs0, hR0, b2, b3, b4⟩
 go_quiet ((fail))
 obtain ⟨lo, hlo⟩ : ∃ q, bits .or .u64 (bits .or .u64 l0 (IntKind.u64.wrap (l1 * 67108864))) (IntKind.u64.wrap (l2 * 4503599627370496)) = q := ⟨_, rfl⟩
 obtain ⟨hi, hhi⟩ : ∃ q, bits .or .u64 (bits .or .u64 (l2 / 4096) (IntKind.u64.wrap (l3 * 16384))) (IntKind.u64.wrap (l4 * 1099511627776)) = q := ⟨_, rfl⟩
 rw [hlo, hhi] at HL
 go_upto_region 3 with fail
 rw [hlo, hhi]
 clear hlo hhi b2 b3 b4
 have hN : Holds ((W1.drewN nq).alloc (.cells (row .u8 (List.replicate 16 0)) 87)) (w.heap.size + 1) .u8 87 (List.replicate 16 0) := by
  have := Holds.new (W1.drewN nq) .u8 87 (List.replicate 16 0)
  rw [drewN_size, hs0] at this
  exact this
 go_upto_region 4 with fail
 refine forget (p := fun y => Code.wp _ _ _ _ y) (fun W2 => Below w.heap.size w W2 ∧ Holds W2 w.heap.size .u8 87 (List.replicate 16 0) ∧ Holds W2 (w.heap.size + 1) .u8 87 (List.replicate 16 0)) ⟨(below_drewN hB0 nq).alloc (by simp; omega) _, (hR0.drewN nq).alloc _, hN⟩ ?_
 clear hN hB0 hs0 hR0
 rintro W2 ⟨hB2, hR2, hT2⟩
 go_wp2_with fail
 go_loopw [40] (fun q wr => ∃ k : Nat, k ≤ 8 ∧ q = .int .i64 k ∧ Below w.heap.size w wr ∧ Holds wr w.heap.size .u8 87 (List.replicate 16 0) ∧ Holds wr (w.heap.size + 1) .u8 87 (lowK lo hi k)) (fun q _ => 8 - (intOf q).toNat)
 case atStart => exact ⟨0, by omega, rfl, hB2, hR2, hT2⟩
 case round =>
  clear hB2 hR2 hT2
  obtain ⟨k, hk, rfl, hB, hR, hT⟩ := hrel
  by_cases hlt : k < 8
  · have HS : Veil (lowK lo hi (k + 1) = ((lowK lo hi k).set k (lo / 2 ^ (8 * k) % 256)).set (8 + k) (hi / 2 ^ (8 * k) % 256)) := ⟨rfl⟩
    have hTl := lowK_length lo hi k
    obtain ⟨A, hA⟩ : ∃ q, lowK lo hi k = q := ⟨_, rfl⟩
    rw [hA] at hT HS hTl
    have hT1 := hT.drew
    have c1 := hT1.cell k (by omega)
    have c2 := hT1.cell (8 + k) (by omega)
    have f1 := hT1.frozen k
    have f2 := hT1.frozen (8 + k)
    have d1 := hT.cell k (by omega)
    have d2 := hT.cell (8 + k) (by omega)
    have e1 := hT.frozen k
    have e2 := hT.frozen (8 + k)
    have hkc : k = 0 ∨ k = 1 ∨ k = 2 ∨ k = 3 ∨ k = 4 ∨ k = 5 ∨ k = 6 ∨ k = 7 := by omega
    clear hA hlt hk
    have wr0 : IntKind.i64.wrap 0 = 0 := by decide
    have wr8 : IntKind.i64.wrap 8 = 8 := by decide
    have wr9 : IntKind.i64.wrap 9 = 9 := by decide
    have wr10 : IntKind.i64.wrap 10 = 10 := by decide
    have wr11 : IntKind.i64.wrap 11 = 11 := by decide
    have wr12 : IntKind.i64.wrap 12 = 12 := by decide
    have wr13 : IntKind.i64.wrap 13 = 13 := by decide
    have wr14 : IntKind.i64.wrap 14 = 14 := by decide
    have wr15 : IntKind.i64.wrap 15 = 15 := by decide
    have wr16 : IntKind.i64.wrap 16 = 16 := by decide
    have wr24 : IntKind.i64.wrap 24 = 24 := by decide
    have wr32 : IntKind.i64.wrap 32 = 32 := by decide
    have wr40 : IntKind.i64.wrap 40 = 40 := by decide
    have wr48 : IntKind.i64.wrap 48 = 48 := by decide
    have wr56 : IntKind.i64.wrap 56 = 56 := by decide
    rcases hkc with rfl | rfl | rfl | rfl | rfl | rfl | rfl | rfl
    all_goals
     try simp only [Nat.reduceAdd, Nat.add_zero] at c2 f2 d2 e2
     go_upto_region 7 with fail
     refine wp_region_gate (fun _ => True) 14 (by kernel_rfl) ?_
     have hS : True := trivial
     refine gaA 0 _ hS ?_
     simp only [Act.put, sI, sZ, sS]
     refine gaA 1 _ hS ?_
     simp only [Act.put, sI, sZ, sS]
     refine gaA 2 _ hS ?_
     simp only [Act.put, sI, sZ, sS]
     refine gaA 3 _ hS ?_
     simp only [Act.put, sI, sZ, sS]
     refine gaA 4 _ hS ?_
     simp only [Act.put, sI, sZ, sS]
     refine gaA 5 _ hS ?_
     simp only [Act.put, sI, sZ, sS]
     refine gaA 6 _ hS ?_
     simp only [Act.put, sI, sZ, sS]
     refine gaA 7 _ hS ?_
     simp only [Act.put, sI, sZ, sS]
     refine gaA 8 _ hS ?_
     simp only [Act.put, sI, sZ, sS]
     refine gaA 9 _ hS ?_
     simp only [Act.put, sI, sZ, sS]
     refine gaA 10 _ hS ?_
     simp only [Act.put, sI, sZ, sS]
     refine gaA 11 _ hS ?_
     simp only [Act.put, sI, sZ, sS]
     refine gaA 12 _ hS ?_
     simp only [Act.put, sI, sZ, sS]
     refine gaA 13 _ hS ?_
     simp only [Act.put, sI, sZ, sS]
     refine wpAnyG_one (i := 14) rfl (by kernel_rfl) (by kernel_rfl) (fun K hK => ?_)
     go_simp
     refine hK.out _ _ (fun h => absurd (show true = false from h) (by decide)) ?_
     clear hK K
     refine wpAnyG_any (i := 15) (v := ?_) rfl (by kernel_rfl) (by kernel_rfl) (by kernel_rfl) (fun _ _ _ h => h) (by kernel_rfl) (fun h => absurd (show true = false from h) (by decide)) (by kernel_rfl) ?_ ?_
     rotate_left
     · intro _; go_simp; try with_reducible rfl
     simp only [Act.put, sI, sZ, sS]
     refine wpAnyG_one (i := 16) rfl (by kernel_rfl) (by kernel_rfl) (fun K hK => ?_)
     go_simp
     refine hK.out _ _ (fun h => absurd (show true = false from h) (by decide)) ?_
     clear hK K
     refine wpAnyG_done (by kernel_rfl) ?_ _
     go_wp2
     go_roundw
     case rel =>
      refine ⟨_, ?_, rfl, (hB.drew.setCell (by simp) _).setCell (by simp) _, (hR.drew.setOther _ _ (by simp)).setOther _ _ (by simp), ?_⟩
      rotate_left
      · rw [HS.out]; simpa [IntKind.wrap_u8] using ((hT.set _ _).set _ _).drew
      · decide
     case measure => simp [intOf]
  · obtain rfl : k = 8 := by omega
    rw [← HL.out] at hT
    go_wp2_with (first
     | (refine wpList_ld rfl 87 _ rfl _ rfl hT Tryz.underlying87 sizeTag hll ?_)
     | (refine wpList_st rfl 87 _ _ rfl _ rfl rfl hR (by rw [hll]; exact sizeTag) (by simp [hll]) ?_))
    refine bodyPost_ret (results_holds (Tryz.results104) _ rfl (hR.setRow _) Tryz.underlying87 sizeTag hll) rfl ⟨rfl, ?_⟩
    exact below_setRow hB (Nat.le_refl _) _
end Go.Proofs.YtflkhkmejnpapaaGreatDoor
