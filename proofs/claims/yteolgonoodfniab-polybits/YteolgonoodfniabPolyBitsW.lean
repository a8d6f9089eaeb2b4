/- The statement PolyBits, walked. -/
import Derived.Test.YteolgonoodfniabPk
import Derived.Test.YteolgonoodfniabFew4
namespace Go.Proofs.Yteolgonoodfniab
open Go.RowKit
set_option maxRecDepth 100000
set_option linter.unusedSimpArgs false

theorem byte_all {p : Int → Prop} (h : ∀ m : Fin 256, p (m.1 : Int)) (v : Int) (h0 : 0 ≤ v) (h1 : v ≤ 255) : p v := by
  obtain ⟨n, rfl⟩ := Int.eq_ofNat_of_zero_le h0
  exact h ⟨n, by omega⟩
theorem an15 (b : Int) (h0 : 0 ≤ b) (h1 : b ≤ 255) : bits .andNot .u8 b 15 = b / 16 * 16 := byte_all (p := fun b => bits .andNot .u8 b 15 = b / 16 * 16) (by decide +kernel) b h0 h1
theorem an252 (b : Int) (h0 : 0 ≤ b) (h1 : b ≤ 255) : bits .andNot .u8 b 252 = b % 4 := byte_all (p := fun b => bits .andNot .u8 b 252 = b % 4) (by decide +kernel) b h0 h1
theorem an255 (b : Int) (h0 : 0 ≤ b) (h1 : b ≤ 255) : bits .andNot .u8 b 255 = 0 := byte_all (p := fun b => bits .andNot .u8 b 255 = 0) (by decide +kernel) b h0 h1
theorem or0 (b : Int) (h0 : 0 ≤ b) (h1 : b ≤ 255) : bits .or .u8 b 0 = b := byte_all (p := fun b => bits .or .u8 b 0 = b) (by decide +kernel) b h0 h1
theorem key255 (a b : Int) (ha : 0 ≤ a ∧ a ≤ 255) (hb : 0 ≤ b ∧ b ≤ 255) : bits .or .u8 a (bits .andNot .u8 b 255) = a := by rw [an255 b hb.1 hb.2, or0 a ha.1 ha.2]
theorem key15 (a b : Int) (ha : 0 ≤ a ∧ a ≤ 255) (hb : 0 ≤ b ∧ b ≤ 255) : bits .and .u8 (bits .or .u8 (bits .and .u8 a 15) (bits .andNot .u8 b 15)) 15 = bits .and .u8 a 15 := by
  rw [and15 a ha.1 ha.2, an15 b hb.1 hb.2, bits_or_comm, bits_join .u8 8 (by decide) wraps_u8 4 (b / 16 * 16) (a % 16) (by omega) (by omega) (by omega) (by omega) (by omega) (by omega), and15 _ (by omega) (by omega)]
  omega
theorem key252 (a b : Int) (ha : 0 ≤ a ∧ a ≤ 255) (hb : 0 ≤ b ∧ b ≤ 255) : bits .and .u8 (bits .or .u8 (bits .and .u8 a 252) (bits .andNot .u8 b 252)) 252 = bits .and .u8 a 252 := by
  rw [and252 a ha.1 ha.2, an252 b hb.1 hb.2, bits_join .u8 8 (by decide) wraps_u8 2 (a / 4 * 4) (b % 4) (by omega) (by omega) (by omega) (by omega) (by omega) (by omega), and252 _ (by omega) (by omega)]
  omega

def maskL : List Int := [255, 255, 255, 15, 252, 255, 255, 15, 252, 255, 255, 15, 252, 255, 255, 15]
def fullK : List Int := List.replicate 16 255 ++ List.replicate 16 0
theorem mask_full : clampL fullK = maskL := by kernel_rfl
/-- The other key, step by step. -/
def othK (k c b : List Int) : Nat → List Int
  | 0 => k
  | i + 1 => (othK k c b i).set i (bits .or .u8 (c[i]?.getD 0) (bits .andNot .u8 (b[i]?.getD 0) (maskL[i]?.getD 0)))
theorem othK_length (k c b : List Int) (i : Nat) : (othK k c b i).length = k.length := by
  induction i with
  | zero => rfl
  | succ i ih => simp [othK, ih]
theorem othK_drop (k c b : List Int) (i : Nat) (h : i ≤ 16) : (othK k c b i).drop 16 = k.drop 16 := by
  induction i with
  | zero => rfl
  | succ i ih => simp only [othK]; rw [List.drop_set_of_lt (by omega)]; exact ih (by omega)
theorem othK_clamp (k b : List Int) (hk : k.length = 32) (hu : ∀ v ∈ k, 0 ≤ v ∧ v ≤ 255) (hb : b.length = 16) (hub : ∀ v ∈ b, 0 ≤ v ∧ v ≤ 255) : clampL (othK k (clampL k) b 16) = clampL k := by
  have hl : (k.take 16).length = 16 := by rw [List.length_take]; omega
  have hu' : ∀ v ∈ k.take 16, 0 ≤ v ∧ v ≤ 255 := fun v hv => hu v (List.mem_of_mem_take hv)
  obtain ⟨a0, a1, a2, a3, a4, a5, a6, a7, a8, a9, b0, b1, b2, b3, b4, b5, h⟩ := sixteen hl
  obtain ⟨e0, e1, e2, e3, e4, e5, e6, e7, e8, e9, f0, f1, f2, f3, f4, f5, rfl⟩ := sixteen hb
  have hk2 : k = [a0, a1, a2, a3, a4, a5, a6, a7, a8, a9, b0, b1, b2, b3, b4, b5] ++ k.drop 16 := by rw [← h, List.take_append_drop]
  have ec := clampL_eq h
  rw [h] at hu'
  obtain ⟨R, hR⟩ : ∃ R, k.drop 16 = R := ⟨_, rfl⟩
  rw [hR] at hk2
  have ht : (othK k (clampL k) [e0, e1, e2, e3, e4, e5, e6, e7, e8, e9, f0, f1, f2, f3, f4, f5] 16).take 16 =
      [bits .or .u8 a0 (bits .andNot .u8 e0 255), bits .or .u8 a1 (bits .andNot .u8 e1 255), bits .or .u8 a2 (bits .andNot .u8 e2 255), bits .or .u8 (bits .and .u8 a3 15) (bits .andNot .u8 e3 15), bits .or .u8 (bits .and .u8 a4 252) (bits .andNot .u8 e4 252), bits .or .u8 a5 (bits .andNot .u8 e5 255), bits .or .u8 a6 (bits .andNot .u8 e6 255), bits .or .u8 (bits .and .u8 a7 15) (bits .andNot .u8 e7 15), bits .or .u8 (bits .and .u8 a8 252) (bits .andNot .u8 e8 252), bits .or .u8 a9 (bits .andNot .u8 e9 255), bits .or .u8 b0 (bits .andNot .u8 f0 255), bits .or .u8 (bits .and .u8 b1 15) (bits .andNot .u8 f1 15), bits .or .u8 (bits .and .u8 b2 252) (bits .andNot .u8 f2 252), bits .or .u8 b3 (bits .andNot .u8 f3 255), bits .or .u8 b4 (bits .andNot .u8 f4 255), bits .or .u8 (bits .and .u8 b5 15) (bits .andNot .u8 f5 15)] := by
    rw [ec, hk2]; rfl
  rw [clampL_eq ht, ec]
  have A := fun x (hx : x ∈ [a0, a1, a2, a3, a4, a5, a6, a7, a8, a9, b0, b1, b2, b3, b4, b5]) => hu' x hx
  have E := fun x (hx : x ∈ [e0, e1, e2, e3, e4, e5, e6, e7, e8, e9, f0, f1, f2, f3, f4, f5]) => hub x hx
  rw [key255 a0 e0 (A _ (by simp)) (E _ (by simp)), key255 a1 e1 (A _ (by simp)) (E _ (by simp)), key255 a2 e2 (A _ (by simp)) (E _ (by simp)), key255 a5 e5 (A _ (by simp)) (E _ (by simp)), key255 a6 e6 (A _ (by simp)) (E _ (by simp)), key255 a9 e9 (A _ (by simp)) (E _ (by simp)), key255 b0 f0 (A _ (by simp)) (E _ (by simp)), key255 b3 f3 (A _ (by simp)) (E _ (by simp)), key255 b4 f4 (A _ (by simp)) (E _ (by simp)),
    key15 a3 e3 (A _ (by simp)) (E _ (by simp)), key15 a7 e7 (A _ (by simp)) (E _ (by simp)), key15 b1 f1 (A _ (by simp)) (E _ (by simp)), key15 b5 f5 (A _ (by simp)) (E _ (by simp)), key252 a4 e4 (A _ (by simp)) (E _ (by simp)), key252 a8 e8 (A _ (by simp)) (E _ (by simp)), key252 b2 f2 (A _ (by simp)) (E _ (by simp))]
theorem polyL_congr (k m z : List Int) (h1 : clampL m = clampL k) (h2 : m.drop 16 = k.drop 16) : polyL m z = polyL k z := by
  unfold polyL adder0; rw [h1, h2]

set_option maxHeartbeats 4000000 in
theorem bits_walk (k : List Int) (y : Option Addr) (lb cb : Nat) (z0 : List Int) (b : List Int) (w : World) (hk : k.length = 32) (hu : ∀ v ∈ k, 0 ≤ v ∧ v ≤ 255) (hy : Bytes w y lb cb z0) (hb : b.length = 16) (hub : ∀ v ∈ b, 0 ≤ v ∧ v ≤ 255) :
    Calls Try.prog 6 #[.agg (row .u8 k), .slice y lb cb, .agg (row .u8 b)] w fun e w' => e = .returned (.bool true) ∧ Below w.heap.size w w' := by
  have hy6 := hy.few 300
  obtain ⟨m, hm⟩ : ∃ q, min lb 300 = q := ⟨_, rfl⟩
  obtain ⟨z, hz⟩ : ∃ q, z0.take 300 = q := ⟨_, rfl⟩
  have hm6 : m ≤ 300 := by omega
  have hf1 : ∀ wx, Below w.heap.size w wx → Calls Try.prog 8 #[.slice y lb cb, .int .i64 300] wx (fun e w' => e = .returned (.slice y m cb) ∧ wx = w') := fun wx hb' => by
    rw [← hm]; exact few4_any y lb cb 300 z0 wx (hy.below hb') (by omega) (by omega)
  rw [hm, hz] at hy6
  clear hm hz hy
  have hcl := clampL_length k hk
  have hO := othK_clamp k b hk hu hb hub
  have hOd := othK_drop k (clampL k) b 16 (by omega)
  have hOl := othK_length k (clampL k) b 16
  have hPe := polyL_congr k (othK k (clampL k) b 16) z hO hOd
  have hPl := polyL_length k z
  have h1 := fun wx => clamp_any k wx hk
  have h2 : ∀ wx, Calls Try.prog 12 #[.agg (row .u8 fullK)] wx fun e w' => e = .returned (.agg (row .u8 maskL)) ∧ Below wx.heap.size wx w' := fun wx => by have := clamp_any fullK wx rfl; rw [mask_full] at this; exact this
  have hs1 : ∀ wx, Below w.heap.size w wx → Calls Try.prog 10 #[.agg (List.map (Value.int .u8) k).toArray, .slice y m cb] wx fun e w' => e = .returned (.agg (row .u8 (polyL k z))) ∧ Below wx.heap.size wx w' := fun wx hx => psum_any k y m cb z wx hk (hy6.below hx) (by omega)
  have hs2 : ∀ wx, Below w.heap.size w wx → Calls Try.prog 10 #[.agg (List.map (Value.int .u8) (othK k (clampL k) b 16)).toArray, .slice y m cb] wx fun e w' => e = .returned (.agg (row .u8 (polyL k z))) ∧ Below wx.heap.size wx w' := fun wx hx => by
    have := psum_any (othK k (clampL k) b 16) y m cb z wx (by rw [hOl]; exact hk) (hy6.below hx) (by omega)
    rw [hPe] at this
    exact this
  have HO : Veil (∀ i, othK k (clampL k) b (i + 1) = (othK k (clampL k) b i).set i (bits .or .u8 ((clampL k)[i]?.getD 0) (bits .andNot .u8 (b[i]?.getD 0) (maskL[i]?.getD 0)))) := ⟨fun _ => rfl⟩
  have HOl : Veil (∀ i, (othK k (clampL k) b i).length = 32) := ⟨fun i => by rw [othK_length, hk]⟩
  have HO0 : Veil (othK k (clampL k) b 0 = k) := ⟨rfl⟩
  have hO16 : (othK k (clampL k) b 16).length = 32 := HOl.out 16
  obtain ⟨C, hC⟩ : ∃ q, clampL k = q := ⟨_, rfl⟩
  rw [hC] at h1 hs2 HO HOl HO0 hcl hO16
  obtain ⟨O, hOe⟩ : ∃ O : Nat → List Int, (fun i => othK k C b i) = O := ⟨_, rfl⟩
  have hOi : ∀ i, othK k C b i = O i := fun i => by rw [← hOe]
  rw [hOi 16] at hs2 hO16
  have HO' : Veil (∀ i, O (i + 1) = (O i).set i (bits .or .u8 (C[i]?.getD 0) (bits .andNot .u8 (b[i]?.getD 0) (maskL[i]?.getD 0)))) := ⟨fun i => by rw [← hOi, ← hOi]; exact HO.out i⟩
  have HOl' : Veil (∀ i, (O i).length = 32) := ⟨fun i => by rw [← hOi]; exact HOl.out i⟩
  have HO0' : Veil (O 0 = k) := ⟨by rw [← hOi]; exact HO0.out⟩
  obtain ⟨PL, hPL⟩ : ∃ q, polyL k z = q := ⟨_, rfl⟩
  rw [hPL] at hs1 hs2 hPl
  have hE := fun wx => eqTag PL PL hPl hPl wx
  rw [beq_self_eq_true] at hE
  have hgd := guardTag
  have hml : maskL.length = 16 := rfl
  obtain ⟨M, hM⟩ : ∃ q, maskL = q := ⟨_, rfl⟩
  rw [hM] at h2 HO' hml
  have hfl : fullK.length = 32 := rfl
  have h2' : ∀ wx, Calls Try.prog 12 #[.agg #[.int .u8 255, .int .u8 255, .int .u8 255, .int .u8 255, .int .u8 255, .int .u8 255, .int .u8 255, .int .u8 255, .int .u8 255, .int .u8 255, .int .u8 255, .int .u8 255, .int .u8 255, .int .u8 255, .int .u8 255, .int .u8 255, .int .u8 0, .int .u8 0, .int .u8 0, .int .u8 0, .int .u8 0, .int .u8 0, .int .u8 0, .int .u8 0, .int .u8 0, .int .u8 0, .int .u8 0, .int .u8 0, .int .u8 0, .int .u8 0, .int .u8 0, .int .u8 0]] wx fun e w' => e = .returned (.agg (row .u8 M)) ∧ Below wx.heap.size wx w' := h2
  have uTyK := Try.underlying23
  have iTyK : (Try.prog.info? 23).map (·.size) = some (k.map (Value.int .u8)).length := by rw [List.length_map, hk]; exact sizeKeyP
  have iTyO : (Try.prog.info? 23).map (·.size) = some ((O 16).map (Value.int .u8)).length := by rw [List.length_map, hO16]; exact sizeKeyP
  clear hO hOd hOl hPe hC hOe hOi HO HOl HO0 hPL hM h2 hfl hu hub
  go_enter Try.func6, Try.ntmps6
  go_upto_region 1 with fail
  refine forget (p := fun y => Code.wp _ _ _ _ y) (fun W0 => Below w.heap.size w W0 ∧ W0.heap.size = w.heap.size + 1 + 1 ∧ Holds W0 w.heap.size .u8 23 k ∧ Holds W0 (w.heap.size + 1) .u8 27 b) ⟨((Below.refl _ _).alloc (Nat.le_refl _) _).alloc (by simp) _, by simp, (Holds.new w .u8 _ k).alloc _, ?_⟩ ?_
  · have := Holds.new (w.alloc (.cells (row .u8 k) 23)) .u8 27 b
    rw [World.size_alloc] at this
    exact this
  rintro W0 ⟨hB0, hsz0, hK0, hb0⟩
  go_upto_region 3 with (first
    | (go_at_call 8; refine (hf1 _ hB0).mono ?_; rintro e w' ⟨rfl, rfl⟩)
    | (refine wpList_ld rfl 23 _ rfl _ rfl hK0 Try.underlying23 sizeKeyP hk ?_)
    | (go_at_call 12; refine (h1 _).mono ?_; rintro e w1 ⟨rfl, hb1⟩; have hN1 := Holds.new w1 .u8 27 (List.replicate 16 0))
    | (refine wpList_st rfl 27 _ _ rfl _ rfl rfl hN1 (by rw [hcl]; exact size16b) (by simp [hcl]) ?_))
  have hs1' := hb1.size
  refine forget (p := fun y => Code.wp _ _ _ _ y) (fun W1 => Below w.heap.size w W1 ∧ Holds W1 w.heap.size .u8 23 k ∧ Holds W1 (w.heap.size + 1) .u8 27 b ∧ Holds W1 w1.heap.size .u8 27 C) ⟨below_setRow ((hB0.trans (hb1.mono hB0.size)).alloc (by omega) _) (by omega) _, ((hK0.below hb1 hK0.lt).alloc _).setRowOther _ (by omega), ((hb0.below hb1 hb0.lt).alloc _).setRowOther _ (by omega), hN1.setRow _⟩ ?_
  clear hN1 hB0 hK0 hb0 hb1 hf1 h1
  rintro W1 ⟨hB1, hK1, hb1, hC1⟩
  obtain ⟨cB, hcB⟩ : ∃ q, w1.heap.size = q := ⟨_, rfl⟩
  rw [hcB] at hC1 hs1' ⊢
  have hcw : w.heap.size + 1 < cB := by omega
  clear hcB hs1' hsz0
  simp only [Act.put]
  go_upto_region 4 with (first
    | (go_at_call 12; refine (h2' _).mono ?_; rintro e w2 ⟨rfl, hb2⟩; have hN2 := Holds.new w2 .u8 27 (List.replicate 16 0))
    | (refine wpList_st rfl 27 _ _ rfl _ rfl rfl hN2 (by rw [hml]; exact size16b) (by simp [hml]) ?_))
  have hs2' := hb2.size
  have hlC := hC1.lt
  refine forget (p := fun y => Code.wp _ _ _ _ y) (fun W2 => Below w.heap.size w W2 ∧ W2.heap.size = w2.heap.size + 1 ∧ Holds W2 w.heap.size .u8 23 k ∧ Holds W2 (w.heap.size + 1) .u8 27 b ∧ Holds W2 cB .u8 27 C ∧ Holds W2 w2.heap.size .u8 27 M) ⟨below_setRow ((hB1.trans (hb2.mono hB1.size)).alloc (by have := hB1.size; omega) _) (by have := hB1.size; omega) _, by simp, ((hK1.below hb2 hK1.lt).alloc _).setRowOther _ (by omega), ((hb1.below hb2 hb1.lt).alloc _).setRowOther _ (by omega), ((hC1.below hb2 hC1.lt).alloc _).setRowOther _ (by omega), hN2.setRow _⟩ ?_
  clear hN2 hB1 hK1 hb1 hC1 hb2 h2'
  rintro W2 ⟨hB2, hsz2, hK2, hb2, hC2, hM2⟩
  obtain ⟨mB, hmB⟩ : ∃ q, w2.heap.size = q := ⟨_, rfl⟩
  rw [hmB] at hM2 hs2' hsz2 ⊢
  have hcm : cB < mB := by omega
  clear hmB hs2' hlC
  simp only [Act.put]
  have hN3 := Holds.new W2 .u8 23 (List.replicate 32 0)
  rw [hsz2] at hN3
  go_upto_region 5 with (first
    | (refine wpList_ld rfl 23 _ rfl _ rfl hK2 Try.underlying23 sizeKeyP hk ?_)
    | (refine wpList_st rfl 23 _ _ rfl _ rfl rfl hN3 (by rw [hk]; exact sizeKeyP) (by simp [hk]) ?_))
  refine forget (p := fun y => Code.wp _ _ _ _ y) (fun W3 => Below w.heap.size w W3 ∧ Holds W3 w.heap.size .u8 23 k ∧ Holds W3 (w.heap.size + 1) .u8 27 b ∧ Holds W3 cB .u8 27 C ∧ Holds W3 mB .u8 27 M ∧ Holds W3 (mB + 1) .u8 23 k) ⟨below_setRow (g := mB + 1) (hB2.alloc hB2.size _) (by omega) _, (hK2.alloc _).setRowOther _ (by omega), (hb2.alloc _).setRowOther _ (by omega), (hC2.alloc _).setRowOther _ (by omega), (hM2.alloc _).setRowOther _ (by omega), hN3.setRow _⟩ ?_
  clear hN3 hB2 hK2 hb2 hC2 hM2 hsz2
  rintro W3 ⟨hB3, hK3, hb3, hC3, hM3, hO3⟩
  simp only [Act.put]
  go_wp2_with fail
  go_loopw [10] (fun q wr => ∃ i : Nat, i ≤ 16 ∧ q = .int .i64 i ∧ Below w.heap.size w wr ∧ Holds wr w.heap.size .u8 23 k ∧ Holds wr (w.heap.size + 1) .u8 27 b ∧ Holds wr cB .u8 27 C ∧ Holds wr mB .u8 27 M ∧ Holds wr (mB + 1) .u8 23 (O i)) (fun q _ => 16 - (intOf q).toNat)
  case atStart => exact ⟨0, by omega, rfl, hB3, hK3, hb3, hC3, hM3, by rw [HO0'.out]; exact hO3⟩
  case round =>
    clear hB3 hK3 hb3 hC3 hM3 hO3
    obtain ⟨i, hi, rfl, hB, hKy, hby, hCy, hMy, hOy⟩ := hrel
    by_cases hlt : i < 16
    · have HS := HO'.out i
      have hAl := HOl'.out i
      obtain ⟨A, hAe⟩ : ∃ q, O i = q := ⟨_, rfl⟩
      rw [hAe] at hOy HS hAl
      have hO1 := hOy.drew
      have c0 := hO1.cell i (by omega)
      have f0 := hO1.frozen i
      have c1 := hCy.drew.cell i (by omega)
      have c2 := hby.drew.cell i (by omega)
      have c3 := hMy.drew.cell i (by omega)
      obtain ⟨p, hp⟩ : ∃ q, C[i]?.getD 0 = q := ⟨_, rfl⟩
      obtain ⟨q, hq⟩ : ∃ q, b[i]?.getD 0 = q := ⟨_, rfl⟩
      obtain ⟨r, hr⟩ : ∃ q, M[i]?.getD 0 = q := ⟨_, rfl⟩
      rw [hp] at c1 HS
      rw [hq] at c2 HS
      rw [hr] at c3 HS
      have HSV : Veil (O (i + 1) = A.set i (bits .or .u8 p (bits .andNot .u8 q r))) := ⟨HS⟩
      have hi0 : (0 : Int) ≤ (i : Int) := by omega
      have hi6 : (i : Int) < 16 := by omega
      have hi32 : (i : Int) < 32 := by omega
      clear hAe hp hq hr HS
      go_upto_region 8 with fail
      refine wp_region_gate (fun w' => w'.cell? ⟨cB, i, none⟩ = some (.int .u8 p) ∧ w'.cell? ⟨w.heap.size + 1, i, none⟩ = some (.int .u8 q) ∧ w'.cell? ⟨mB, i, none⟩ = some (.int .u8 r)) 13 (by kernel_rfl) ?_
      have hS := And.intro c1 (And.intro c2 c3)
      refine wpAnyG_any (i := 0) (v := ?_) rfl (by kernel_rfl) (by kernel_rfl) (by kernel_rfl) (fun _ _ _ h => h) (by kernel_rfl) (fun _ => hS) (by kernel_rfl) ?_ ?_
      rotate_left
      · intro _; go_simp; try with_reducible rfl
      simp only [Act.put, List.setIfInBounds_toArray, List.set_cons_zero, List.set_cons_succ]
      refine wpAnyG_any (i := 1) (v := ?_) rfl (by kernel_rfl) (by kernel_rfl) (by kernel_rfl) (fun _ _ _ h => h) (by kernel_rfl) (fun _ => hS) (by kernel_rfl) ?_ ?_
      rotate_left
      · intro _; go_simp; try with_reducible rfl
      simp only [Act.put, List.setIfInBounds_toArray, List.set_cons_zero, List.set_cons_succ]
      refine wpAnyG_any (i := 2) (v := ?_) rfl (by kernel_rfl) (by kernel_rfl) (by kernel_rfl) (fun _ _ _ h => h) (by kernel_rfl) (fun _ => hS) (by kernel_rfl) ?_ ?_
      rotate_left
      · intro _; go_simp; try with_reducible rfl
      simp only [Act.put, List.setIfInBounds_toArray, List.set_cons_zero, List.set_cons_succ]
      refine wpAnyG_any (i := 4) (v := ?_) rfl (by kernel_rfl) (by kernel_rfl) (by kernel_rfl) (fun _ _ _ h => h) (by kernel_rfl) (fun _ => hS) (by kernel_rfl) ?_ ?_
      rotate_left
      · intro _; go_simp; try with_reducible rfl
      simp only [Act.put, List.setIfInBounds_toArray, List.set_cons_zero, List.set_cons_succ]
      refine wpAnyG_any (i := 5) (v := ?_) rfl (by kernel_rfl) (by kernel_rfl) (by kernel_rfl) (fun _ _ _ h => h) (by kernel_rfl) (fun _ => hS) (by kernel_rfl) ?_ ?_
      rotate_left
      · intro _; go_simp; try with_reducible rfl
      simp only [Act.put, List.setIfInBounds_toArray, List.set_cons_zero, List.set_cons_succ]
      refine wpAnyG_any (i := 7) (v := ?_) rfl (by kernel_rfl) (by kernel_rfl) (by kernel_rfl) (fun _ _ _ h => h) (by kernel_rfl) (fun _ => hS) (by kernel_rfl) ?_ ?_
      rotate_left
      · intro _; go_simp; try with_reducible rfl
      simp only [Act.put, List.setIfInBounds_toArray, List.set_cons_zero, List.set_cons_succ]
      refine wpAnyG_any (i := 8) (v := ?_) rfl (by kernel_rfl) (by kernel_rfl) (by kernel_rfl) (fun _ _ _ h => h) (by kernel_rfl) (fun _ => hS) (by kernel_rfl) ?_ ?_
      rotate_left
      · intro _; go_simp; try with_reducible rfl
      simp only [Act.put, List.setIfInBounds_toArray, List.set_cons_zero, List.set_cons_succ]
      refine wpAnyG_read (i := 3) (v := ?_) rfl (by kernel_rfl) (by kernel_rfl) (by kernel_rfl) (fun _ _ _ h => h) (by kernel_rfl) (by kernel_rfl) (by kernel_rfl) hS (by kernel_rfl) ?_ ?_
      rotate_left
      · intro wx hSw; go_split_ands; go_simp; try with_reducible rfl
      simp only [Act.put, List.setIfInBounds_toArray, List.set_cons_zero, List.set_cons_succ]
      refine wpAnyG_read (i := 6) (v := ?_) rfl (by kernel_rfl) (by kernel_rfl) (by kernel_rfl) (fun _ _ _ h => h) (by kernel_rfl) (by kernel_rfl) (by kernel_rfl) hS (by kernel_rfl) ?_ ?_
      rotate_left
      · intro wx hSw; go_split_ands; go_simp; try with_reducible rfl
      simp only [Act.put, List.setIfInBounds_toArray, List.set_cons_zero, List.set_cons_succ]
      refine wpAnyG_read (i := 9) (v := ?_) rfl (by kernel_rfl) (by kernel_rfl) (by kernel_rfl) (fun _ _ _ h => h) (by kernel_rfl) (by kernel_rfl) (by kernel_rfl) hS (by kernel_rfl) ?_ ?_
      rotate_left
      · intro wx hSw; go_split_ands; go_simp; try with_reducible rfl
      simp only [Act.put, List.setIfInBounds_toArray, List.set_cons_zero, List.set_cons_succ]
      refine wpAnyG_any (i := 10) (v := ?_) rfl (by kernel_rfl) (by kernel_rfl) (by kernel_rfl) (fun _ _ _ h => h) (by kernel_rfl) (fun _ => hS) (by kernel_rfl) ?_ ?_
      rotate_left
      · intro _; go_simp; try with_reducible rfl
      simp only [Act.put, List.setIfInBounds_toArray, List.set_cons_zero, List.set_cons_succ]
      refine wpAnyG_any (i := 11) (v := ?_) rfl (by kernel_rfl) (by kernel_rfl) (by kernel_rfl) (fun _ _ _ h => h) (by kernel_rfl) (fun _ => hS) (by kernel_rfl) ?_ ?_
      rotate_left
      · intro _; go_simp; try with_reducible rfl
      simp only [Act.put, List.setIfInBounds_toArray, List.set_cons_zero, List.set_cons_succ]
      refine wpAnyG_any (i := 12) (v := ?_) rfl (by kernel_rfl) (by kernel_rfl) (by kernel_rfl) (fun _ _ _ h => h) (by kernel_rfl) (fun _ => hS) (by kernel_rfl) ?_ ?_
      rotate_left
      · intro _; go_simp; try with_reducible rfl
      simp only [Act.put, List.setIfInBounds_toArray, List.set_cons_zero, List.set_cons_succ]
      refine wpAnyG_one (i := 13) rfl (by kernel_rfl) (by kernel_rfl) (fun K hK => ?_)
      go_simp
      refine hK.out _ _ (fun h => absurd (show true = false from h) (by decide)) ?_
      clear hK K
      refine wpAnyG_done (by kernel_rfl) ?_ _
      go_wp2
      go_roundw
      case rel => exact ⟨i + 1, by omega, by go_num, hB.drew.setCell (by simp; omega) _, hKy.drew.setOther _ _ (by simp; omega), hby.drew.setOther _ _ (by simp; omega), hCy.drew.setOther _ _ (by simp; omega), hMy.drew.setOther _ _ (by simp), by rw [HSV.out]; exact hO1.set i _⟩
      case measure => simp [intOf]; omega
    · obtain rfl : i = 16 := by omega
      rw [show ((16 : Nat) : Int) = 16 from rfl]
      clear HO' HOl' HO0'
      obtain ⟨O16, hO16e⟩ : ∃ q, O 16 = q := ⟨_, rfl⟩
      rw [hO16e] at hOy iTyO hs2
      clear hO16e
      go_upto_region 9 with fail
      refine wp_region_gate (fun w' => w'.rangeAt w.heap.size 0 (k.map (Value.int .u8)) ∧ w'.rangeAt (mB + 1) 0 (O16.map (Value.int .u8))) 10 (by kernel_rfl) ?_
      refine wpAnyG_one (i := 0) rfl (by kernel_rfl) (by kernel_rfl) (fun K hK => ?_)
      go_wp2_with (go_at_call 9; refine (live4_any _).mono ?_; rintro e w4 ⟨rfl, hb4⟩)
      have hb4' : Below wr.heap.size wr w4 := ((Below.refl _ _).drew).trans hb4
      have hB4 : Below w.heap.size w w4 := hB.trans (hb4'.mono hB.size)
      have hS := And.intro (hKy.below hb4' hKy.lt).rangeAll (hOy.below hb4' hOy.lt).rangeAll
      refine hK.out _ _ (fun _ => hS) ?_
      clear hK K
      refine wpAnyG_any (i := 1) (v := ?_) rfl (by kernel_rfl) (by kernel_rfl) (by kernel_rfl) (fun _ _ _ h => h) (by kernel_rfl) (fun _ => hS) (by kernel_rfl) ?_ ?_
      rotate_left
      · intro _; go_simp; try with_reducible rfl
      simp only [Act.put, List.setIfInBounds_toArray, List.set_cons_zero, List.set_cons_succ]
      refine wpAnyG_load (i := 2) (dst := some 37) (ty := 23) (x := .tmp 3) (b := w.heap.size) (o := 0) (cs := (k.map (Value.int .u8))) (by kernel_rfl) (by kernel_rfl) (by kernel_rfl) (by kernel_rfl) (by kernel_rfl) (fun _ _ _ h => h) (by kernel_rfl) (by kernel_rfl) (by kernel_rfl) hS (by kernel_rfl) (fun _ h => h.1) uTyK rfl iTyK ?_
      simp only [Act.put, List.setIfInBounds_toArray, List.set_cons_zero, List.set_cons_succ]
      refine wpAnyG_any (i := 3) (v := ?_) rfl (by kernel_rfl) (by kernel_rfl) (by kernel_rfl) (fun _ _ _ h => h) (by kernel_rfl) (fun _ => hS) (by kernel_rfl) ?_ ?_
      rotate_left
      · intro _; go_simp; try with_reducible rfl
      simp only [Act.put, List.setIfInBounds_toArray, List.set_cons_zero, List.set_cons_succ]
      refine wpAnyG_load (i := 5) (dst := some 40) (ty := 23) (x := .tmp 9) (b := (mB + 1)) (o := 0) (cs := (O16.map (Value.int .u8))) (by kernel_rfl) (by kernel_rfl) (by kernel_rfl) (by kernel_rfl) (by kernel_rfl) (fun _ _ _ h => h) (by kernel_rfl) (by kernel_rfl) (by kernel_rfl) hS (by kernel_rfl) (fun _ h => h.2) uTyK rfl iTyO ?_
      simp only [Act.put, List.setIfInBounds_toArray, List.set_cons_zero, List.set_cons_succ]
      refine wpAnyG_any (i := 6) (v := ?_) rfl (by kernel_rfl) (by kernel_rfl) (by kernel_rfl) (fun _ _ _ h => h) (by kernel_rfl) (fun _ => hS) (by kernel_rfl) ?_ ?_
      rotate_left
      · intro _; go_simp; try with_reducible rfl
      simp only [Act.put, List.setIfInBounds_toArray, List.set_cons_zero, List.set_cons_succ]
      refine wpAnyG_one (i := 4) rfl (by kernel_rfl) (by kernel_rfl) (fun K hK => ?_)
      go_wp2_with (go_at_call 10; refine (hs1 _ hB4).mono ?_; rintro e w5 ⟨rfl, hb5⟩)
      have hb5' : Below wr.heap.size wr w5 := hb4'.trans (hb5.mono hb4'.size)
      have hB5 : Below w.heap.size w w5 := hB.trans (hb5'.mono hB.size)
      replace hS := And.intro (hKy.below hb5' hKy.lt).rangeAll (hOy.below hb5' hOy.lt).rangeAll
      refine hK.out _ _ (fun _ => hS) ?_
      clear hK K
      refine wpAnyG_one (i := 7) rfl (by kernel_rfl) (by kernel_rfl) (fun K hK => ?_)
      go_wp2_with (go_at_call 10; refine (hs2 _ hB5).mono ?_; rintro e w6 ⟨rfl, hb6⟩)
      have hb6' : Below wr.heap.size wr w6 := hb5'.trans (hb6.mono hb5'.size)
      have hB6 : Below w.heap.size w w6 := hB.trans (hb6'.mono hB.size)
      replace hS := And.intro (hKy.below hb6' hKy.lt).rangeAll (hOy.below hb6' hOy.lt).rangeAll
      refine hK.out _ _ (fun _ => hS) ?_
      clear hK K
      refine wpAnyG_any (i := 8) (v := .bool true) rfl (by kernel_rfl) (by kernel_rfl) (by kernel_rfl) (fun _ _ _ h => h) (by kernel_rfl) (fun _ => hS) (by kernel_rfl) ?_ ?_
      · intro _; go_simp
      simp only [Act.put, List.setIfInBounds_toArray, List.set_cons_zero, List.set_cons_succ]
      refine wpAnyG_any (i := 9) (v := .bool true) rfl (by kernel_rfl) (by kernel_rfl) (by kernel_rfl) (fun _ _ _ h => h) (by kernel_rfl) (fun _ => hS) (by kernel_rfl) ?_ ?_
      · intro _; go_simp
      simp only [Act.put, List.setIfInBounds_toArray, List.set_cons_zero, List.set_cons_succ]
      refine wpAnyG_one (i := 10) rfl (by kernel_rfl) (by kernel_rfl) (fun K hK => ?_)
      go_simp
      refine hK.out _ _ (fun h => absurd (show true = false from h) (by decide)) ?_
      clear hK K
      refine wpAnyG_done (by kernel_rfl) ?_ _
      go_wp2
      go_ret
      exact ⟨rfl, hB6⟩
end Go.Proofs.Yteolgonoodfniab
