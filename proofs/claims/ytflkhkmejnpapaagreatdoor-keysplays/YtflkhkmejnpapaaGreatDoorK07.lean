/- Pv Pe Pf -/
import Derived.Test.YtflkhkmejnpapaaGreatDoorK06
import Derived.Laws.Cover3
namespace Go.Proofs.YtflkhkmejnpapaaGreatDoor
open Go
def V5 (a b c d e : Int) : Int := a + b * 67108864 + c * 4503599627370496 + d * 302231454903657293676544 + e * 20282409603651670423947251286016
theorem wraps_u64 (n : Int) (h₀ : 0 ≤ n) (h₁ : n < 2 ^ 64) : IntKind.u64.wrap n = n := by rw [IntKind.wrap_u64]; omega
theorem and26 (x : Int) (h0 : 0 ≤ x) (h1 : x < 18446744073709551616) : bits .and .u64 x 67108863 = x % 67108864 := bits_mask .u64 64 (by decide) wraps_u64 26 (by omega) x h0 (by omega)
theorem carry5 (a b c d e : Int) (R : List Int) (ha : 0 ≤ a ∧ a < 4611686018427387904) (hb : 0 ≤ b ∧ b < 4611686018427387904) (hc : 0 ≤ c ∧ c < 4611686018427387904) (hd : 0 ≤ d ∧ d < 4611686018427387904) (he : 0 ≤ e ∧ e < 4611686018427387904) :
    ∃ x0 x1 x2 x3 x4, carryK (a :: b :: c :: d :: e :: R) 4 = x0 :: x1 :: x2 :: x3 :: x4 :: R ∧ (0 ≤ x0 ∧ x0 < 67108864) ∧ (0 ≤ x1 ∧ x1 < 67108864) ∧ (0 ≤ x2 ∧ x2 < 67108864) ∧ (0 ≤ x3 ∧ x3 < 67108864) ∧ (0 ≤ x4 ∧ x4 ≤ e + 137438953472) ∧ V5 x0 x1 x2 x3 x4 = V5 a b c d e := by
 have h : carryK (a :: b :: c :: d :: e :: R) 4 = bits .and .u64 a 67108863 :: bits .and .u64 ((b + a / 67108864) % 18446744073709551616) 67108863 :: bits .and .u64 ((c + (b + a / 67108864) % 18446744073709551616 / 67108864) % 18446744073709551616) 67108863 :: bits .and .u64 ((d + (c + (b + a / 67108864) % 18446744073709551616 / 67108864) % 18446744073709551616 / 67108864) % 18446744073709551616) 67108863 :: ((e + (d + (c + (b + a / 67108864) % 18446744073709551616 / 67108864) % 18446744073709551616 / 67108864) % 18446744073709551616 / 67108864) % 18446744073709551616) :: R := rfl
 rw [h]
 obtain ⟨y1, h1⟩ : ∃ q, (b + a / 67108864) % 18446744073709551616 = q := ⟨_, rfl⟩
 rw [h1]
 obtain ⟨y2, h2⟩ : ∃ q, (c + y1 / 67108864) % 18446744073709551616 = q := ⟨_, rfl⟩
 rw [h2]
 obtain ⟨y3, h3⟩ : ∃ q, (d + y2 / 67108864) % 18446744073709551616 = q := ⟨_, rfl⟩
 rw [h3]
 obtain ⟨y4, h4⟩ : ∃ q, (e + y3 / 67108864) % 18446744073709551616 = q := ⟨_, rfl⟩
 rw [h4]
 have e1 : y1 = b + a / 67108864 := by omega
 have b1 : 0 ≤ y1 ∧ y1 < 4611686155866341376 := by omega
 have e2 : y2 = c + y1 / 67108864 := by omega
 have b2 : 0 ≤ y2 ∧ y2 < 4611686155866341376 := by omega
 have e3 : y3 = d + y2 / 67108864 := by omega
 have b3 : 0 ≤ y3 ∧ y3 < 4611686155866341376 := by omega
 have e4 : y4 = e + y3 / 67108864 := by omega
 refine ⟨_, _, _, _, _, rfl, ?_⟩
 rw [and26 a (by omega) (by omega), and26 y1 (by omega) (by omega), and26 y2 (by omega) (by omega), and26 y3 (by omega) (by omega)]
 clear h h1 h2 h3 h4
 refine ⟨by omega, by omega, by omega, by omega, by omega, ?_⟩
 unfold V5
 omega
theorem fold5 (a b c d e : Int) (R : List Int) (ha : 0 ≤ a ∧ a < 1152921504606846976) (hb : 0 ≤ b ∧ b < 1152921504606846976) (hc : 0 ≤ c ∧ c < 1152921504606846976) (hd : 0 ≤ d ∧ d < 1152921504606846976) (he : 0 ≤ e ∧ e < 1152921504606846976) :
    ∃ r0 r1 r2 r3 r4 q, foldL (a :: b :: c :: d :: e :: R) = r0 :: r1 :: r2 :: r3 :: r4 :: R ∧ (0 ≤ r0 ∧ r0 < 67108864) ∧ (0 ≤ r1 ∧ r1 < 67112960) ∧ (0 ≤ r2 ∧ r2 < 67108864) ∧ (0 ≤ r3 ∧ r3 < 67108864) ∧ (0 ≤ r4 ∧ r4 < 67108864) ∧ V5 a b c d e = V5 r0 r1 r2 r3 r4 + q * 1361129467683753853853498429727072845819 := by
 obtain ⟨x0, x1, x2, x3, x4, hx, b0, b1, b2, b3, b4, hv⟩ := carry5 a b c d e R (by omega) (by omega) (by omega) (by omega) (by omega)
 unfold foldL
 rw [hx]
 simp only [sZ, sS, List.getElem?_cons_zero, List.getElem?_cons_succ, Option.getD_some]
 obtain ⟨ov, hov⟩ : ∃ q, x4 / 67108864 = q := ⟨_, rfl⟩
 rw [hov]
 have bo : 0 ≤ ov ∧ ov < 17179873280 := by omega
 obtain ⟨y0, hy0⟩ : ∃ q, (x0 + 5 * ov % 18446744073709551616) % 18446744073709551616 = q := ⟨_, rfl⟩
 rw [hy0]
 have e0 : y0 = x0 + 5 * ov := by omega
 obtain ⟨y1, hy1⟩ : ∃ q, (x1 + y0 / 67108864) % 18446744073709551616 = q := ⟨_, rfl⟩
 rw [hy1]
 have e1 : y1 = x1 + y0 / 67108864 := by omega
 refine ⟨_, _, _, _, _, ov, rfl, ?_⟩
 rw [and26 y0 (by omega) (by omega), and26 x4 (by omega) (by omega)]
 clear hy0 hy1 hx
 refine ⟨by omega, by omega, by omega, by omega, by omega, ?_⟩
 rw [← hv]
 unfold V5
 omega
theorem prod5 (x0 x1 x2 x3 x4 y0 y1 y2 y3 y4 : Int) :
    V5 x0 x1 x2 x3 x4 * V5 y0 y1 y2 y3 y4 = V5 (x0 * y0 + 5 * x1 * y4 + 5 * x2 * y3 + 5 * x3 * y2 + 5 * x4 * y1) (x0 * y1 + x1 * y0 + 5 * x2 * y4 + 5 * x3 * y3 + 5 * x4 * y2) (x0 * y2 + x1 * y1 + x2 * y0 + 5 * x3 * y4 + 5 * x4 * y3) (x0 * y3 + x1 * y2 + x2 * y1 + x3 * y0 + 5 * x4 * y4) (x0 * y4 + x1 * y3 + x2 * y2 + x3 * y1 + x4 * y0)
     + ((x1 * y4 + x2 * y3 + x3 * y2 + x4 * y1) + (x2 * y4 + x3 * y3 + x4 * y2) * 67108864 + (x3 * y4 + x4 * y3) * 4503599627370496 + 302231454903657293676544 * (x4 * y4)) * 1361129467683753853853498429727072845819 := by
 unfold V5
 grind
theorem mul_bd (x y X Y : Int) (hx : 0 ≤ x ∧ x < X) (hy : 0 ≤ y ∧ y < Y) : 0 ≤ x * y ∧ x * y ≤ X * Y := by
 refine ⟨Int.mul_nonneg hx.1 hy.1, ?_⟩
 exact Int.mul_le_mul (by omega) (by omega) hy.1 (by omega)
set_option maxRecDepth 20000 in
set_option maxHeartbeats 1000000 in
theorem outer5 (x0 x1 x2 x3 x4 y0 y1 y2 y3 y4 : Int) (R : List Int) :
    outerK (x0 :: x1 :: x2 :: x3 :: x4 :: R) [y0, y1, y2, y3, y4] 5 = [(x0 * y0 + 5 * x1 * y4 + 5 * x2 * y3 + 5 * x3 * y2 + 5 * x4 * y1) % 18446744073709551616, (x0 * y1 + x1 * y0 + 5 * x2 * y4 + 5 * x3 * y3 + 5 * x4 * y2) % 18446744073709551616, (x0 * y2 + x1 * y1 + x2 * y0 + 5 * x3 * y4 + 5 * x4 * y3) % 18446744073709551616, (x0 * y3 + x1 * y2 + x2 * y1 + x3 * y0 + 5 * x4 * y4) % 18446744073709551616, (x0 * y4 + x1 * y3 + x2 * y2 + x3 * y1 + x4 * y0) % 18446744073709551616] := by
 have hm : ∀ x y : Int, (5 * x % 18446744073709551616 * y) % 18446744073709551616 = (5 * x * y) % 18446744073709551616 := fun x y => by
  rw [Int.mul_emod, Int.emod_emod_of_dvd _ (Int.dvd_refl _), ← Int.mul_emod]
 simp [outerK, innerK, stepP, hm, Int.emod_add_emod, Int.add_emod_emod]
open Go.RowKit
set_option maxRecDepth 20000
set_option linter.unusedSimpArgs false
theorem Holds.rangeM {w : World} {g : Nat} {k : IntKind} {t : TypeId} {l : List Int} (h : Holds w g k t l) (o n : Nat) : w.rangeAt g o (((l.drop o).take n).map (Value.int k)) := fun j v hv => by
 have hj : j < ((l.drop o).take n).length := by have := (List.getElem?_eq_some_iff.1 hv).1; simpa using this
 rw [List.length_take, List.length_drop] at hj
 rw [h.cell (o + j) (by omega), ← hv, List.getElem?_map, List.getElem?_take_of_lt (by omega), List.getElem?_drop, List.getElem?_eq_getElem (by omega)]; rfl
def takeL (L z : List Int) : List Int := timesL (addK L (numL z) 5) ((L.drop 5).take 5)
theorem numL_length (z : List Int) : (numL z).length = 5 := rfl
theorem addK_drop (L m : List Int) (k : Nat) (hk : k ≤ 5) : (addK L m k).drop 5 = L.drop 5 := by
 induction k with
 | zero => rfl
 | succ k ih => simp only [addK]; rw [List.drop_set_of_lt (by omega)]; exact ih (by omega)
set_option maxHeartbeats 2000000 in
theorem ptake_any (g : Nat) (L z : List Int) (w : World) (h : Holds w g .u64 123 L) (hl : L.length = 10) (hz : z.length = 17) :
    Calls Tryz.prog 82 #[.pointer (some ⟨g, 0, none⟩), .agg (row .u8 z)] w fun e w' => (∃ r, e = .returned r) ∧ Holds w' g .u64 123 (takeL L z) ∧ w.grownBy w' (some g) := by
 have hgl := h.lt
 have hnl := numL_length z
 have hT : Veil (takeL L z = timesL (addK L (numL z) 5) ((L.drop 5).take 5)) := ⟨rfl⟩
 have hnu := fun wx => numberOf_any z wx hz
 obtain ⟨m, hm⟩ : ∃ q, numL z = q := ⟨_, rfl⟩
 rw [hm] at hnl hnu hT
 have had := fun (wx : World) (hx : Holds wx g .u64 123 L) => add_any g 123 L m wx hx (by omega) hnl
 have hal := addK_length L m 5
 have hdr := addK_drop L m 5 (by omega)
 obtain ⟨A, hA⟩ : ∃ q, addK L m 5 = q := ⟨_, rfl⟩
 rw [hA] at had hal hdr hT
 have hRl : ((L.drop 5).take 5).length = 5 := by rw [List.length_take, List.length_drop]; omega
 rw [← hdr] at hT hRl
 obtain ⟨R, hR⟩ : ∃ q, (A.drop 5).take 5 = q := ⟨_, rfl⟩
 have hrg := fun (wx : World) (hx : Holds wx g .u64 123 A) => hx.rangeM 5 5
 rw [hR] at hT hRl hrg
 have hti := fun (wx : World) (hx : Holds wx g .u64 123 A) => times_any g 123 A R wx hx (by omega) hRl
 have uF := Tryz.underlying117
 have iF : (Tryz.prog.info? 117).map (·.size) = some (R.map (Value.int .u64)).length := by rw [List.length_map, hRl]; exact size5
 have hti' : ∀ (wx : World), Holds wx g .u64 123 A → Calls Tryz.prog 101 #[.pointer (some ⟨g, 0, none⟩), .agg (List.map (Value.int .u64) R).toArray] wx fun e w' => (∃ r, e = .returned r) ∧ Holds w' g .u64 123 (timesL A R) ∧ wx.grownBy w' (some g) := hti
 rw [← hT.out] at hti'
 obtain ⟨TK, hTK⟩ : ∃ q, takeL L z = q := ⟨_, rfl⟩
 rw [hTK] at hti' ⊢
 clear hT hm hA hdr hR hTK hti
 go_enter Tryz.func82, Tryz.ntmps82
 go_upto_region 1 with fail
 refine forget (p := fun y => Code.wp _ _ _ _ y) (fun W0 => w.grownBy W0 (some g) ∧ Holds W0 g .u64 123 L ∧ Holds W0 w.heap.size .u8 120 z) ⟨World.grownBy_alloc _ _ _, h.alloc _, Holds.new w .u8 _ z⟩ ?_
 rintro W0 ⟨hG0, hL0, hz0⟩
 have uB := Tryz.underlying120
 have iB : (Tryz.prog.info? 120).map (·.size) = some (z.map (Value.int .u8)).length := by rw [List.length_map, hz]; exact size17
 have hnu' : ∀ (wx : World), Calls Tryz.prog 78 #[.agg (List.map (Value.int .u8) z).toArray] wx fun e w' => e = .returned (.agg (row .u64 m)) ∧ Below wx.heap.size wx w' := hnu
 have hz1 : W0.drew.rangeAt w.heap.size 0 (z.map (Value.int .u8)) := by
  have := hz0.drew.rangeM 0 17
  rw [List.drop_zero, List.take_of_length_le (by omega)] at this
  exact this
 refine wp_region_gate (fun w' => w'.rangeAt w.heap.size 0 (z.map (Value.int .u8))) 4 (by kernel_rfl) ?_
 have hS := hz1
 refine gaA 0 _ hS ?_
 simp only [Act.put, sI, sZ, sS]
 refine gaA 1 _ hS ?_
 simp only [Act.put, sI, sZ, sS]
 refine gaA 2 _ hS ?_
 simp only [Act.put, sI, sZ, sS]
 refine wpAnyG_load (i := 3) (dst := some 7) (ty := 120) (x := .tmp 3) (b := w.heap.size) (o := (0)) (cs := (z.map (Value.int .u8))) (by kernel_rfl) (by kernel_rfl) (by kernel_rfl) (by kernel_rfl) (by kernel_rfl) (fun _ _ _ h => h) (by kernel_rfl) (by kernel_rfl) (by kernel_rfl) hS (by kernel_rfl) (fun _ h => h) uB rfl iB ?_
 simp only [Act.put, sI, sZ, sS]
 refine wpAnyG_one (i := 4) rfl (by kernel_rfl) (by kernel_rfl) (fun K hK => ?_)
 go_wp2_with (go_at_call 78; refine (hnu' _).mono ?_; rintro e w1 ⟨rfl, hb1⟩)
 have hL1 := (hL0.drew).below hb1 hL0.drew.lt
 have hG1 : w.grownBy w1 (some g) := (grown_drew hG0).trans ⟨hb1.os, hb1.tape, hb1.output, hb1.size, fun k hk _ => hb1.block k hk⟩
 refine hK.out _ _ (fun h => absurd (show true = false from h) (by decide)) ?_
 clear hK K
 refine wpAnyG_one (i := 5) rfl (by kernel_rfl) (by kernel_rfl) (fun K hK => ?_)
 go_wp2_with (go_at_call 100; refine (had _ hL1).mono ?_; rintro e w2 ⟨⟨r, rfl⟩, hA2, hG2⟩)
 refine hK.out _ _ (fun h => absurd (show true = false from h) (by decide)) ?_
 clear hK K
 refine wpAnyG_done (by kernel_rfl) ?_ _
 have hG3 := hG1.trans hG2
 clear hS hz1 hz0 hL0 hG0 hL1 hG1 hG2 hb1
 go_upto_region 2 with fail
 refine wp_region_gate (fun w' => w'.rangeAt g 5 (R.map (Value.int .u64))) 7 (by kernel_rfl) ?_
 have hS := hrg _ hA2.drew
 refine gaA 0 _ hS ?_
 simp only [Act.put, sI, sZ, sS]
 refine gaA 1 _ hS ?_
 simp only [Act.put, sI, sZ, sS]
 refine gaA 2 _ hS ?_
 simp only [Act.put, sI, sZ, sS]
 refine gaA 3 _ hS ?_
 simp only [Act.put, sI, sZ, sS]
 refine gaA 4 _ hS ?_
 simp only [Act.put, sI, sZ, sS]
 refine gaA 5 _ hS ?_
 simp only [Act.put, sI, sZ, sS]
 refine wpAnyG_load (i := 6) (dst := some 16) (ty := 117) (x := .tmp 15) (b := g) (o := (5)) (cs := (R.map (Value.int .u64))) (by kernel_rfl) (by kernel_rfl) (by kernel_rfl) (by kernel_rfl) (by kernel_rfl) (fun _ _ _ h => h) (by kernel_rfl) (by kernel_rfl) (by kernel_rfl) hS (by kernel_rfl) (fun _ h => h) uF rfl iF ?_
 simp only [Act.put, sI, sZ, sS]
 refine wpAnyG_one (i := 7) rfl (by kernel_rfl) (by kernel_rfl) (fun K hK => ?_)
 go_wp2_with (go_at_call 101; refine (hti' _ hA2.drew).mono ?_; rintro e w4 ⟨⟨r, rfl⟩, hA4, hG4⟩)
 refine hK.out _ _ (fun h => absurd (show true = false from h) (by decide)) ?_
 clear hK K
 refine wpAnyG_done (by kernel_rfl) ?_ _
 go_wp2
 go_end0
 exact ⟨⟨_, rfl⟩, hA4, (grown_drew hG3).trans hG4⟩
theorem settleL_length (L : List Int) : (settleL L).length = L.length := selK_length _ _ _ _
def tagOfL (L s : List Int) : List Int := lowestL (carryK (addK (settleL L) (numL (s ++ [0])) 5) 4)
theorem tagOfL_length (L s : List Int) : (tagOfL L s).length = 16 := lowestL_length _
theorem Holds.rangeAll {w : World} {g : Nat} {k : IntKind} {t : TypeId} {l : List Int} (h : Holds w g k t l) : w.rangeAt g 0 (l.map (Value.int k)) := by
 have := h.rangeM 0 l.length
 rw [List.drop_zero, List.take_length] at this
 exact this
set_option maxHeartbeats 2000000 in
theorem tag_any (g : Nat) (L s : List Int) (w : World) (h : Holds w g .u64 123 L) (hl : 5 ≤ L.length) (hs : s.length = 16) :
    Calls Tryz.prog 83 #[.pointer (some ⟨g, 0, none⟩), .agg (row .u8 s)] w fun e w' => e = .returned (.agg (row .u8 (tagOfL L s))) ∧ w.grownBy w' (some g) := by
 have hgl := h.lt
 have hTl := tagOfL_length L s
 have hT : Veil (tagOfL L s = lowestL (carryK (addK (settleL L) (numL (s ++ [0])) 5) 4)) := ⟨rfl⟩
 have hse := fun (wx : World) (hx : Holds wx g .u64 123 L) => settle_any g 123 L wx hx hl
 have hsl := settleL_length L
 obtain ⟨S, hS0⟩ : ∃ q, settleL L = q := ⟨_, rfl⟩
 rw [hS0] at hse hsl hT
 have hba : ∀ wx, Calls Tryz.prog 79 #[.agg (List.map (Value.int .u8) s).toArray] wx fun e w' => e = .returned (.agg (row .u8 (s ++ [0]))) ∧ Below wx.heap.size wx w' := fun wx => bare_any s wx hs
 have hnu := fun wx => numberOf_any (s ++ [0]) wx (by simp [hs])
 have hnl := numL_length (s ++ [0])
 obtain ⟨m, hm⟩ : ∃ q, numL (s ++ [0]) = q := ⟨_, rfl⟩
 rw [hm] at hnu hnl hT
 have had := fun (wx : World) (hx : Holds wx g .u64 123 S) => add_any g 123 S m wx hx (by omega) hnl
 have hal := addK_length S m 5
 obtain ⟨A, hA⟩ : ∃ q, addK S m 5 = q := ⟨_, rfl⟩
 rw [hA] at had hal hT
 have hca := fun (wx : World) (hx : Holds wx g .u64 123 A) => carry_any g 123 A wx hx (by omega)
 have hcl := carryK_length A 4
 obtain ⟨C, hC⟩ : ∃ q, carryK A 4 = q := ⟨_, rfl⟩
 rw [hC] at hca hcl hT
 have hlo := fun (wx : World) (hx : Holds wx g .u64 123 C) => lowest_any g 123 C wx hx (by omega)
 rw [← hT.out] at hlo
 obtain ⟨TG, hTG⟩ : ∃ q, tagOfL L s = q := ⟨_, rfl⟩
 rw [hTG] at hlo hTl ⊢
 clear hT hS0 hm hA hC hTG
 go_enter Tryz.func83, Tryz.ntmps83
 go_upto_region 1 with fail
 refine forget (p := fun y => Code.wp _ _ _ _ y) (fun W0 => w.grownBy W0 (some g) ∧ Holds W0 g .u64 123 L ∧ Holds W0 w.heap.size .u8 86 s ∧ Holds W0 (w.heap.size + 1) .u8 87 (List.replicate 16 0)) ⟨(World.grownBy_alloc _ _ _).trans (World.grownBy_alloc _ _ _), (h.alloc _).alloc _, (Holds.new w .u8 _ s).alloc _, ?_⟩ ?_
 · have := Holds.new (w.alloc (.cells (row .u8 s) 86)) .u8 87 (List.replicate 16 0)
   rw [World.size_alloc] at this
   exact this
 rintro W0 ⟨hG0, hL0, hs0, hR0⟩
 have keep : ∀ {a b : World} {g' : Nat} {k : IntKind} {t : TypeId} {l : List Int}, a.grownBy b (some g) → Holds a g' k t l → g' ≠ g → Holds b g' k t l := fun {a b g' k t l} hg hh hne => by
  have hlt := hh.lt
  unfold Holds at hh ⊢
  rw [hg.block g' hlt (by simp [hne])]; exact hh
 go_upto_region 2 with (go_at_call 102; refine (hse _ hL0).mono ?_; rintro e w1 ⟨⟨r, rfl⟩, h1, g1⟩)
 have hs1 := keep g1 hs0 (by omega)
 have hR1 := keep g1 hR0 (by omega)
 have hG1 := hG0.trans g1
 clear g1 hs0 hR0 hG0 hL0 hse
 have uB := Tryz.underlying86
 have iB : (Tryz.prog.info? 86).map (·.size) = some (s.map (Value.int .u8)).length := by rw [List.length_map, hs]; exact size16b
 refine wp_region_gate (fun w' => w'.rangeAt w.heap.size 0 (s.map (Value.int .u8))) 4 (by kernel_rfl) ?_
 have hS := hs1.drew.rangeAll
 refine gaA 0 _ hS ?_
 simp only [Act.put, sI, sZ, sS]
 refine gaA 1 _ hS ?_
 simp only [Act.put, sI, sZ, sS]
 refine gaA 2 _ hS ?_
 simp only [Act.put, sI, sZ, sS]
 refine wpAnyG_load (i := 3) (dst := some 12) (ty := 86) (x := .tmp 3) (b := w.heap.size) (o := (0)) (cs := (s.map (Value.int .u8))) (by kernel_rfl) (by kernel_rfl) (by kernel_rfl) (by kernel_rfl) (by kernel_rfl) (fun _ _ _ h => h) (by kernel_rfl) (by kernel_rfl) (by kernel_rfl) hS (by kernel_rfl) (fun _ h => h) uB rfl iB ?_
 simp only [Act.put, sI, sZ, sS]
 refine wpAnyG_one (i := 4) rfl (by kernel_rfl) (by kernel_rfl) (fun K hK => ?_)
 go_wp2_with (go_at_call 79; refine (hba _).mono ?_; rintro e w2 ⟨rfl, hb2⟩)
 refine hK.out _ _ (fun h => absurd (show true = false from h) (by decide)) ?_
 clear hK K
 refine wpAnyG_one (i := 5) rfl (by kernel_rfl) (by kernel_rfl) (fun K hK => ?_)
 go_wp2_with (go_at_call 78; refine (hnu _).mono ?_; rintro e w3 ⟨rfl, hb3⟩)
 have hb23 : Below w1.drew.heap.size w1.drew w3 := hb2.trans (hb3.mono hb2.size)
 have h3 := (h1.drew).below hb23 h1.drew.lt
 have hR3 := (hR1.drew).below hb23 hR1.drew.lt
 have hG3 : w.grownBy w3 (some g) := (grown_drew hG1).trans ⟨hb23.os, hb23.tape, hb23.output, hb23.size, fun k hk _ => hb23.block k hk⟩
 refine hK.out _ _ (fun h => absurd (show true = false from h) (by decide)) ?_
 clear hK K
 refine wpAnyG_one (i := 6) rfl (by kernel_rfl) (by kernel_rfl) (fun K hK => ?_)
 go_wp2_with (go_at_call 100; refine (had _ h3).mono ?_; rintro e w4 ⟨⟨r, rfl⟩, h4, g4⟩)
 refine hK.out _ _ (fun h => absurd (show true = false from h) (by decide)) ?_
 clear hK K
 refine wpAnyG_done (by kernel_rfl) ?_ _
 have hR4 := keep g4 hR3 (by omega)
 have hG4 := hG3.trans g4
 clear hS hb2 hb3 hb23 h3 hR3 hG3 h1 hR1 hG1 hs1 had hnu hba g4
 go_wp2_with (first
  | (go_at_call 103; refine (hca _ h4).mono ?_; rintro e w5 ⟨⟨r, rfl⟩, h5, g5⟩; have hR5 := keep g5 hR4 (by omega))
  | (go_at_call 104; refine (hlo _ h5).mono ?_; rintro e w6 ⟨rfl, hb6⟩; have hR6 := hR5.below hb6 hR5.lt)
  | (refine wpList_st rfl 87 _ _ rfl _ rfl rfl hR6 (by rw [hTl]; exact sizeTag) (by simp [hTl]) ?_))
 refine bodyPost_ret (results_holds (Tryz.results83) _ rfl (hR6.setRow _) Tryz.underlying87 sizeTag hTl) rfl ⟨rfl, ?_⟩
 have hG6 : w.grownBy w6 (some g) := (hG4.trans g5).trans ⟨hb6.os, hb6.tape, hb6.output, hb6.size, fun k hk _ => hb6.block k hk⟩
 exact ⟨hG6.os, hG6.tape, hG6.output, by simpa using hG6.size, fun k hk hne => by rw [setRow_other _ _ _ _ (by omega)]; exact hG6.block k hk hne⟩
def fourK (a : Nat) (c : Int) (z : List Int) : Nat → List Int
 | 0 => z
 | i + 1 => (fourK a c z i).set (a + 4 * i) (bits .and .u8 ((fourK a c z i)[a + 4 * i]?.getD 0) c)
theorem fourK_length (a : Nat) (c : Int) (z : List Int) (i : Nat) : (fourK a c z i).length = z.length := by
 induction i with
 | zero => rfl
 | succ i ih => simp [fourK, ih]
def clampL (k : List Int) : List Int := fourK 4 252 (fourK 3 15 (k.take 16) 4) 3
theorem clampL_length (k : List Int) (hk : k.length = 32) : (clampL k).length = 16 := by
 unfold clampL; rw [fourK_length, fourK_length, List.length_take]; omega
set_option maxHeartbeats 2000000 in
theorem clamp_any (k : List Int) (w : World) (hk : k.length = 32) :
    Calls Tryz.prog 80 #[.agg (row .u8 k)] w fun e w' => e = .returned (.agg (row .u8 (clampL k))) ∧ Below w.heap.size w w' := by
 have hcl := clampL_length k hk
 have HC : Veil (clampL k = fourK 4 252 (fourK 3 15 (k.take 16) 4) 3) := ⟨rfl⟩
 have hzl : (k.take 16).length = 16 := by rw [List.length_take]; omega
 have hrg : ∀ (wx : World), Holds wx w.heap.size .u8 23 k → wx.rangeAt w.heap.size 0 ((k.take 16).map (Value.int .u8)) := fun wx hx => by
  have := hx.rangeM 0 16
  rw [List.drop_zero] at this
  exact this
 obtain ⟨Z, hZ⟩ : ∃ q, k.take 16 = q := ⟨_, rfl⟩
 rw [hZ] at HC hzl hrg
 have iF : (Tryz.prog.info? 86).map (·.size) = some (Z.map (Value.int .u8)).length := by rw [List.length_map, hzl]; exact size16b
 have hat : ∀ (b off cap : Nat) (wx : World), (Instr.arrayAt 86 (.slice (some ⟨b, off, none⟩) 16 cap)).run Tryz.prog wx = .ok (.pointer (some ⟨b, off, none⟩)) wx := fun b off cap wx => run_arrayAt wx 86 _ 16 _ 16 cap Tryz.underlying86 (by omega)
 clear hZ
 go_enter Tryz.func80, Tryz.ntmps80
 go_upto_region 1 with fail
 refine forget (p := fun y => Code.wp _ _ _ _ y) (fun W0 => Below w.heap.size w W0 ∧ W0.heap.size = w.heap.size + 1 + 1 ∧ W0.rangeAt w.heap.size 0 (Z.map (Value.int .u8)) ∧ Holds W0 (w.heap.size + 1) .u8 86 (List.replicate 16 0)) ⟨((Below.refl _ _).alloc (Nat.le_refl _) _).alloc (by simp) _, by simp, hrg _ ((Holds.new w .u8 23 k).alloc _), ?_⟩ ?_
 · have := Holds.new (w.alloc (.cells (row .u8 k) 23)) .u8 86 (List.replicate 16 0)
   rw [World.size_alloc] at this
   exact this
 clear hrg
 rintro W0 ⟨hB0, hs0, hz0, hR0⟩
 have hN := Holds.new W0 .u8 86 (List.replicate 16 0)
 rw [hs0] at hN
 go_upto_region 2 with (first
  | (refine wpList_load_mid rfl 86 _ rfl w.heap.size 0 rfl (Z.map (Value.int .u8)) _ hz0 Tryz.underlying86 rfl iF ?_)
  | (refine wpList_st rfl 86 _ _ rfl _ rfl (k := .u8) (l := Z) rfl hN (by rw [hzl]; exact size16b) (by simp [hzl]) ?_))
 refine forget (p := fun y => Code.wp _ _ _ _ y) (fun W1 => Below w.heap.size w W1 ∧ Holds W1 (w.heap.size + 1) .u8 86 (List.replicate 16 0) ∧ Holds W1 (w.heap.size + 1 + 1) .u8 86 Z) ⟨below_setRow (g := w.heap.size + 1 + 1) (hB0.alloc hB0.size _) (by omega) _, (hR0.alloc _).setRowOther _ (by omega), hN.setRow _⟩ ?_
 clear hN hB0 hR0 hz0
 rintro W1 ⟨hB1, hR1, hA1⟩
 simp only [Act.put]
 clear hs0
 go_wp2_with fail
 go_loopw [4] (fun q wr => ∃ i : Nat, i ≤ 4 ∧ q = .int .i64 ((3 + 4 * i : Nat) : Int) ∧ Below w.heap.size w wr ∧ Holds wr (w.heap.size + 1) .u8 86 (List.replicate 16 0) ∧ Holds wr (w.heap.size + 1 + 1) .u8 86 (fourK 3 15 Z i)) (fun q _ => 20 - (intOf q).toNat)
 case atStart => exact ⟨0, by omega, rfl, hB1, hR1, hA1⟩
 case round =>
  clear hB1 hR1 hA1
  obtain ⟨i, hi, rfl, hB, hR, hA⟩ := hrel
  by_cases hlt : i < 4
  · have HS : Veil (fourK 3 15 Z (i + 1) = (fourK 3 15 Z i).set (3 + 4 * i) (bits .and .u8 ((fourK 3 15 Z i)[3 + 4 * i]?.getD 0) 15)) := ⟨rfl⟩
    have hAl := fourK_length 3 15 Z i
    obtain ⟨A, hAe⟩ : ∃ q, fourK 3 15 Z i = q := ⟨_, rfl⟩
    rw [hAe] at hA HS hAl
    obtain ⟨j, hj⟩ : ∃ j, 3 + 4 * i = j := ⟨_, rfl⟩
    rw [hj] at HS ⊢
    have c1 := hA.cell j (by omega)
    have f1 := hA.frozen j
    have hj6 : (j : Int) < 16 := by omega
    have hj0 : (0 : Int) ≤ (j : Int) := by omega
    obtain ⟨x, hx⟩ : ∃ q, A[j]?.getD 0 = q := ⟨_, rfl⟩
    rw [hx] at c1 HS
    have HJ : Veil (3 + 4 * i = j) := ⟨hj⟩
    clear hAe hx hj
    go_wp2
    go_roundw
    case rel => exact ⟨i + 1, by omega, by have := HJ.out; rw [show ((3 + 4 * (i + 1) : Nat) : Int) = (j : Int) + 4 by omega], hB.setCell (by simp; omega) _, hR.setOther _ _ (by simp), by rw [HS.out]; exact hA.set j _⟩
    case measure => simp [intOf]; omega
  · obtain rfl : i = 4 := by omega
    have hF3 := fourK_length 3 15 Z 4
    obtain ⟨Y, hY⟩ : ∃ q, fourK 3 15 Z 4 = q := ⟨_, rfl⟩
    rw [hY] at hA HC hF3
    clear hY
    rw [show ((3 + 4 * 4 : Nat) : Int) = 19 from rfl]
    go_wp2_with fail
    go_loopw [5] (fun q wr => ∃ i : Nat, i ≤ 3 ∧ q = .int .i64 ((4 + 4 * i : Nat) : Int) ∧ Below w.heap.size w wr ∧ Holds wr (w.heap.size + 1) .u8 86 (List.replicate 16 0) ∧ Holds wr (w.heap.size + 1 + 1) .u8 86 (fourK 4 252 Y i)) (fun q _ => 20 - (intOf q).toNat)
    case atStart => exact ⟨0, by omega, rfl, hB, hR, hA⟩
    case round =>
     clear hB hR hA
     obtain ⟨i, hi, rfl, hB, hR, hA⟩ := hrel
     by_cases hlt : i < 3
     · have HS : Veil (fourK 4 252 Y (i + 1) = (fourK 4 252 Y i).set (4 + 4 * i) (bits .and .u8 ((fourK 4 252 Y i)[4 + 4 * i]?.getD 0) 252)) := ⟨rfl⟩
       have hAl := fourK_length 4 252 Y i
       obtain ⟨A, hAe⟩ : ∃ q, fourK 4 252 Y i = q := ⟨_, rfl⟩
       rw [hAe] at hA HS hAl
       obtain ⟨j, hj⟩ : ∃ j, 4 + 4 * i = j := ⟨_, rfl⟩
       rw [hj] at HS ⊢
       have c1 := hA.cell j (by omega)
       have f1 := hA.frozen j
       have hj6 : (j : Int) < 16 := by omega
       have hj0 : (0 : Int) ≤ (j : Int) := by omega
       obtain ⟨x, hx⟩ : ∃ q, A[j]?.getD 0 = q := ⟨_, rfl⟩
       rw [hx] at c1 HS
       have HJ : Veil (4 + 4 * i = j) := ⟨hj⟩
       clear hAe hx hj
       go_wp2
       go_roundw
       case rel => exact ⟨i + 1, by omega, by have := HJ.out; rw [show ((4 + 4 * (i + 1) : Nat) : Int) = (j : Int) + 4 by omega], hB.setCell (by simp; omega) _, hR.setOther _ _ (by simp), by rw [HS.out]; exact hA.set j _⟩
       case measure => simp [intOf]; omega
     · obtain rfl : i = 3 := by omega
       rw [← HC.out] at hA
       rw [show ((4 + 4 * 3 : Nat) : Int) = 16 from rfl]
       go_wp2_with (first
        | (refine wpList_ld rfl 86 _ rfl _ rfl hA Tryz.underlying86 size16b hcl ?_)
        | (refine wpList_st rfl 86 _ _ rfl _ rfl rfl hR (by rw [hcl]; exact size16b) (by simp [hcl]) ?_))
       refine bodyPost_ret (results_holds (Tryz.results80) _ rfl (hR.setRow _) Tryz.underlying86 size16b hcl) rfl ⟨rfl, ?_⟩
       exact below_setRow hB (by omega) _
end Go.Proofs.YtflkhkmejnpapaaGreatDoor
