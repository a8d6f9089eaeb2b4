/- The statement PolyAdds, walked. -/
import Derived.Test.YteolgonoodfniabPz
import Derived.Test.YteolgonoodfniabFew4
namespace Go.Proofs.Yteolgonoodfniab
open Go.RowKit
set_option maxRecDepth 20000
set_option linter.unusedSimpArgs false

/-- A whole row out of its block, where the operation hangs on a guard that holds. -/
theorem wpList_ldg {P : Program} {ops : Array Oper} {rest : List Oper} {o : Oper} {a : Act} {w : World} {Q : Exit → Act → World → Prop} (hw : Region.wanted o (yielded ops a.tmps) = true) (ty : TypeId) (x : Operand) (ho : o.op = .load ty x)
    (g : Nat) (hx : a.eval x = .pointer (some ⟨g, 0, none⟩)) {k : IntKind} {t : TypeId} {l : List Int} (hg : Holds w g k t l) {n : Nat} {e : TypeId}
    (hu : P.underlying ty = some (.array n e)) (hi : (P.info? ty).map (·.size) = some n) (hl : l.length = n)
    (h : wpList P ops Q rest (a.put o.dst (.agg (row k l))) w) : wpList P ops Q (o :: rest) a w :=
  wpList_step fun K hK => by
    rw [if_pos hw]
    exact wp_load_mid ty x ho g 0 hx (l.map (Value.int k)) _ hg.rangeAll hu rfl (by rw [hi, List.length_map, hl]) (hK _ _ h)
/-- So many bytes of a number, the lowest first. -/
def leB : Nat → Int → List Int
  | 0, _ => []
  | j + 1, n => n % 256 :: leB j (n / 256)
/-- One more, byte by byte. -/
def inc : List Int → List Int
  | [] => []
  | a :: l => if a = 255 then 0 :: inc l else (a + 1) :: l
theorem inc_leB (j : Nat) : ∀ n : Int, inc (leB j n) = leB j (n + 1) := by
  induction j with
  | zero => intro n; rfl
  | succ j ih =>
    intro n
    simp only [leB, inc]
    by_cases h : n % 256 = 255
    · rw [if_pos h, ih, show (n + 1) % 256 = 0 by omega, show (n + 1) / 256 = n / 256 + 1 by omega]
    · rw [if_neg h, show (n + 1) % 256 = n % 256 + 1 by omega, show (n + 1) / 256 = n / 256 by omega]
theorem le16_leB (n : Int) : le16 n = leB 16 n := by
  simp only [leB, le16]
  simp only [List.cons.injEq, and_true, true_and]
  refine ⟨by omega, by omega, by omega, by omega, by omega, by omega, by omega, by omega, by omega, by omega, by omega, by omega, by omega, by omega⟩
theorem le16_in (n : Int) : ∀ v ∈ le16 n, isB v := by
  intro v hv
  unfold le16 at hv
  simp only [List.mem_cons, List.not_mem_nil, or_false] at hv
  unfold isB
  omega
theorem inc_at : ∀ (X : List Int) (i : Nat), i < X.length → (∀ j, j < i → X[j]?.getD 0 = 255) → X[i]?.getD 0 ≠ 255 → (List.replicate i 0 ++ X.drop i).set i (X[i]?.getD 0 + 1) = inc X
  | [], i, h, _, _ => by simp at h
  | a :: l, 0, _, _, h => by
    simp only [List.getElem?_cons_zero, Option.getD_some] at h
    simp only [inc]
    rw [if_neg h]
    simp
  | a :: l, i + 1, hl, h1, h2 => by
    have ha : a = 255 := by have := h1 0 (by omega); simpa using this
    simp only [inc]
    rw [if_pos ha]
    have := inc_at l i (by simpa using hl) (fun j hj => by have := h1 (j + 1) (by omega); simpa using this) (by simpa using h2)
    rw [List.replicate_succ, List.cons_append, List.set_cons_succ, List.drop_succ_cons, List.getElem?_cons_succ, this]
theorem inc_all : ∀ (X : List Int), (∀ j, j < X.length → X[j]?.getD 0 = 255) → List.replicate X.length 0 = inc X
  | [], _ => rfl
  | a :: l, h => by
    have ha : a = 255 := by have := h 0 (by simp); simpa using this
    simp only [inc]
    rw [if_pos ha, List.length_cons, List.replicate_succ, inc_all l (fun j hj => by have := h (j + 1) (by simp; omega); simpa using this)]
theorem poly_adds (k z : List Int) (v : Int) (hk : k.length = 32) (hu : ∀ v ∈ k, isB v) (hz : ∀ v ∈ z, isB v) (hv : k[16]?.getD 0 = v) (hv1 : v ≤ 254) : polyL (k.set 16 (v + 1)) z = inc (polyL k z) := by
  have hv0 : isB v := by
    rw [← hv, List.getElem?_eq_getElem (by omega)]; exact hu _ (List.getElem_mem _)
  have hu2 : ∀ x ∈ k.set 16 (v + 1), isB x := fun x hx => by
    rcases List.mem_or_eq_of_mem_set hx with h | rfl
    · exact hu x h
    · unfold isB at hv0 ⊢; omega
  have hk2 : (k.set 16 (v + 1)).length = 32 := by rw [List.length_set, hk]
  have ht : (k.set 16 (v + 1)).take 16 = k.take 16 := by rw [List.take_set_of_le (by omega)]
  have hcl : clampL (k.set 16 (v + 1)) = clampL k := by unfold clampL; rw [ht]
  have hd : leN ((k.set 16 (v + 1)).drop 16) = leN (k.drop 16) + 1 := by
    have e1 : k.drop 16 = v :: k.drop 17 := by
      rw [List.drop_eq_getElem_cons (by omega)]
      rw [← hv, List.getElem?_eq_getElem (by omega)]; rfl
    have e2 : (k.set 16 (v + 1)).drop 16 = (v + 1) :: k.drop 17 := by
      rw [List.drop_set, if_neg (by omega), e1, Nat.sub_self, List.set_cons_zero]
    rw [e1, e2]
    simp only [leN]
    omega
  rw [poly_val _ z hk2 hu2 hz, poly_val k z hk hu hz, hcl, hd, le16_leB, le16_leB, inc_leB, ← Int.add_assoc]

set_option maxHeartbeats 4000000 in
theorem adds_walk (k : List Int) (y : Option Addr) (lb cb : Nat) (z0 : List Int) (w : World) (hk : k.length = 32) (hu : ∀ v ∈ k, 0 ≤ v ∧ v ≤ 255) (hy : Bytes w y lb cb z0) (huz : ∀ v ∈ z0, 0 ≤ v ∧ v ≤ 255) :
    Calls Try.prog 7 #[.agg (row .u8 k), .slice y lb cb] w fun e w' => e = .returned (.bool true) ∧ Below w.heap.size w w' := by
  have hy6 := hy.few 300
  have huz6 : ∀ v ∈ z0.take 300, isB v := fun v hv => huz v (List.mem_of_mem_take hv)
  obtain ⟨m, hm⟩ : ∃ q, min lb 300 = q := ⟨_, rfl⟩
  obtain ⟨z, hz⟩ : ∃ q, z0.take 300 = q := ⟨_, rfl⟩
  have hm6 : m ≤ 300 := by omega
  have hf1 : ∀ wx, Below w.heap.size w wx → Calls Try.prog 8 #[.slice y lb cb, .int .i64 300] wx (fun e w' => e = .returned (.slice y m cb) ∧ wx = w') := fun wx hb' => by
    rw [← hm]; exact few4_any y lb cb 300 z0 wx (hy.below hb') (by omega) (by omega)
  rw [hm, hz] at hy6
  rw [hz] at huz6
  clear hm hz hy huz
  have hN := Holds.new w .u8 23 k
  obtain ⟨u, hue⟩ : ∃ q, k[16]?.getD 0 = q := ⟨_, rfl⟩
  have hub : 0 ≤ u ∧ u ≤ 255 := by rw [← hue, List.getElem?_eq_getElem (by omega)]; exact hu _ (List.getElem_mem _)
  have hcase : (u = 255 ∧ ∃ K1 : List Int, Veil (K1 = k.set 16 0) ∧ K1.length = 32 ∧ (∀ v ∈ K1, isB v) ∧ ∃ v, K1[16]?.getD 0 = v ∧ 0 ≤ v ∧ v ≤ 254) ∨ (¬ u = 255 ∧ ∃ K1 : List Int, Veil (K1 = k) ∧ K1.length = 32 ∧ (∀ v ∈ K1, isB v) ∧ ∃ v, K1[16]?.getD 0 = v ∧ 0 ≤ v ∧ v ≤ 254) := by
    by_cases h : u = 255
    · refine .inl ⟨h, k.set 16 0, ⟨rfl⟩, by rw [List.length_set, hk], fun v hv => ?_, 0, ?_, by omega, by omega⟩
      · rcases List.mem_or_eq_of_mem_set hv with h' | rfl
        · exact hu v h'
        · exact ⟨by omega, by omega⟩
      · rw [List.getElem?_set_self (by omega)]; rfl
    · exact .inr ⟨h, k, ⟨rfl⟩, hk, hu, u, hue, by omega, by omega⟩
  have hgd := guardTag
  clear hu
  go_enter Try.func7, Try.ntmps7
  go_upto_region 1 with fail
  refine forget (p := fun y => Code.wp _ _ _ _ y) (fun W0 => Below w.heap.size w W0 ∧ Holds W0 w.heap.size .u8 23 k) ⟨(Below.refl _ _).alloc (Nat.le_refl _) _, hN⟩ ?_
  clear hN
  rintro W0 ⟨hB0, hK0⟩
  go_upto_region 2 with (go_at_call 8; refine (hf1 _ hB0).mono ?_; rintro e w' ⟨rfl, rfl⟩)
  have c16 := hK0.cell 16 (by omega)
  have f16 := hK0.frozen 16
  rw [hue] at c16
  clear hf1 hue
  rcases hcase with ⟨hu5, K1, HK1, hK1l, hK1u, v, hv, hv0, hv1⟩ | ⟨hu5, K1, HK1, hK1l, hK1u, v, hv, hv0, hv1⟩
  all_goals
    go_upto_region 4 with fail
    refine forget (p := fun y => Code.wp _ _ _ _ y) (fun W1 => Below w.heap.size w W1 ∧ Holds W1 w.heap.size .u8 23 K1) ⟨by first | exact hB0.setCell (Nat.le_refl _) _ | exact hB0, by rw [HK1.out]; first | exact hK0.set 16 _ | exact hK0⟩ ?_
    clear hB0 hK0 c16 f16 HK1
    rintro W1 ⟨hB1, hK1⟩
    have hpa := poly_adds K1 z v hK1l hK1u huz6 hv hv1
    have hK2l : (K1.set 16 (v + 1)).length = 32 := by rw [List.length_set, hK1l]
    have hXl := polyL_length K1 z
    have hYl := polyL_length (K1.set 16 (v + 1)) z
    have hXv := poly_val K1 z hK1l hK1u huz6
    have hXb : ∀ i, (0 : Int) ≤ (polyL K1 z)[i]?.getD (0 : Int) ∧ (polyL K1 z)[i]?.getD (0 : Int) ≤ 255 := fun i => by
      by_cases hi : i < (polyL K1 z).length
      · rw [List.getElem?_eq_getElem hi]
        exact le16_in _ _ (by rw [← hXv]; exact List.getElem_mem hi)
      · rw [List.getElem?_eq_none (by omega)]; simp
    have hsX := psum_any K1 y m cb z W1 hK1l (hy6.below hB1) (by omega)
    have hsY := fun wx (hx : Below w.heap.size w wx) => psum_any (K1.set 16 (v + 1)) y m cb z wx hK2l (hy6.below hx) (by omega)
    rw [hpa] at hsY hYl
    obtain ⟨X, hXe⟩ : ∃ q, polyL K1 z = q := ⟨_, rfl⟩
    rw [hXe] at hsX hsY hXl hYl hXb
    have HIA : Veil (∀ i, i < X.length → (∀ j, j < i → X[j]?.getD 0 = 255) → X[i]?.getD 0 ≠ 255 → (List.replicate i 0 ++ X.drop i).set i (X[i]?.getD 0 + 1) = inc X) := ⟨inc_at X⟩
    have HIL : Veil ((∀ j, j < X.length → X[j]?.getD 0 = 255) → List.replicate X.length 0 = inc X) := ⟨inc_all X⟩
    have HZS : Veil (∀ i, i < 16 → (List.replicate i 0 ++ X.drop i).set i 0 = List.replicate (i + 1) 0 ++ X.drop (i + 1)) := ⟨fun i hi => zeroK_set X i (by omega)⟩
    have HXB : Veil (∀ i : Nat, (0 : Int) ≤ X[i]?.getD (0 : Int) ∧ X[i]?.getD (0 : Int) ≤ 255) := ⟨hXb⟩
    obtain ⟨Y, hYe⟩ : ∃ q, inc X = q := ⟨_, rfl⟩
    rw [hYe] at hsY hYl HIA HIL
    have hE : ∀ wx, (Op.equalIn 10000 28 (.agg (row .u8 Y)) (.agg (row .u8 Y))).run Try.prog wx = .ok true wx := fun wx => by
      have := eqTag Y Y hYl hYl wx
      rw [beq_self_eq_true] at this
      exact this
    clear hpa hXv hXe hYe hXb
    go_upto_region 5 with (first
      | (refine wpList_ld rfl 23 _ rfl _ rfl hK1 Try.underlying23 sizeKeyP hK1l ?_)
      | (go_at_call 10; refine hsX.mono ?_; rintro e w2 ⟨rfl, hb2⟩; have hN2 := Holds.new w2 .u8 28 (List.replicate 16 0))
      | (refine wpList_st rfl 28 _ _ rfl _ rfl rfl hN2 (by rw [hXl]; exact sizeTag) (by simp [hXl]) ?_))
    have hl2 := (hK1.below hb2 hK1.lt).lt
    refine forget (p := fun y => Code.wp _ _ _ _ y) (fun W3 => Below w.heap.size w W3 ∧ Holds W3 w.heap.size .u8 23 K1 ∧ Holds W3 w2.heap.size .u8 28 X) ⟨below_setRow ((hB1.trans (hb2.mono hB1.size)).alloc (by omega) _) (by omega) _, ((hK1.below hb2 hK1.lt).alloc _).setRowOther _ (by omega), hN2.setRow _⟩ ?_
    clear hN2 hb2 hK1 hB1 hsX
    rintro W3 ⟨hB3, hK3, hX3⟩
    obtain ⟨xb, hxb⟩ : ∃ q, w2.heap.size = q := ⟨_, rfl⟩
    rw [hxb] at hX3 hl2 ⊢
    clear hxb
    simp only [Act.put]
    have c16 := hK3.cell 16 (by omega)
    have f16 := hK3.frozen 16
    rw [hv] at c16
    have hvm : (v + 1) % 256 = v + 1 := by omega
    go_upto_region 6 with fail
    refine forget (p := fun y => Code.wp _ _ _ _ y) (fun W4 => Below w.heap.size w W4 ∧ Holds W4 w.heap.size .u8 23 (K1.set 16 (v + 1)) ∧ Holds W4 xb .u8 28 X) ⟨hB3.setCell (Nat.le_refl _) _, by simpa [IntKind.wrap_u8, hvm] using hK3.set 16 (v + 1), hX3.setOther _ _ (by simp; omega)⟩ ?_
    clear hB3 hK3 hX3 c16 f16 hvm
    rintro W4 ⟨hB4, hK4, hX4⟩
    go_upto_region 7 with (first
      | (refine wpList_ld rfl 23 _ rfl _ rfl hK4 Try.underlying23 sizeKeyP hK2l ?_)
      | (go_at_call 10; refine (hsY _ hB4).mono ?_; rintro e w5 ⟨rfl, hb5⟩; have hN5 := Holds.new w5 .u8 28 (List.replicate 16 0))
      | (refine wpList_st rfl 28 _ _ rfl _ rfl rfl hN5 (by rw [hYl]; exact sizeTag) (by simp [hYl]) ?_))
    have hl5 := (hX4.below hb5 hX4.lt).lt
    refine forget (p := fun y => Code.wp _ _ _ _ y) (fun W6 => Below w.heap.size w W6 ∧ Holds W6 xb .u8 28 X ∧ Holds W6 w5.heap.size .u8 28 Y) ⟨below_setRow ((hB4.trans (hb5.mono hB4.size)).alloc (by omega) _) (by omega) _, ((hX4.below hb5 hX4.lt).alloc _).setRowOther _ (by omega), hN5.setRow _⟩ ?_
    clear hN5 hb5 hK4 hB4 hX4 hsY
    rintro W6 ⟨hB6, hX6, hY6⟩
    obtain ⟨yb, hyb⟩ : ∃ q, w5.heap.size = q := ⟨_, rfl⟩
    rw [hyb] at hY6 hl5 ⊢
    clear hyb
    simp only [Act.put]
    go_wp2_with fail
    go_loopw [7] (fun q wr => ∃ i : Nat, i ≤ 16 ∧ q = .int .i64 i ∧ (∀ j, j < i → X[j]?.getD 0 = 255) ∧ Below w.heap.size w wr ∧ Holds wr xb .u8 28 (List.replicate i 0 ++ X.drop i) ∧ Holds wr yb .u8 28 Y) (fun q _ => 16 - (intOf q).toNat)
    case atStart => exact ⟨0, by omega, rfl, fun j hj => by omega, hB6, by simpa using hX6, hY6⟩
    case round =>
      clear hB6 hX6 hY6
      obtain ⟨i, hi, rfl, h255, hB, hXy, hYy⟩ := hrel
      by_cases hlt : i < 16
      · have hAl : (List.replicate i 0 ++ X.drop i).length = 16 := by rw [List.length_append, List.length_replicate, List.length_drop]; omega
        have hget : (List.replicate i 0 ++ X.drop i)[i]?.getD 0 = X[i]?.getD 0 := by rw [List.getElem?_append_right (by simp), List.length_replicate, Nat.sub_self, List.getElem?_drop, Nat.add_zero]
        have c1 := hXy.cell i (by omega)
        have f1 := hXy.frozen i
        rw [hget] at c1
        have hxb2 := HXB.out i
        have hia := HIA.out i (by omega) h255
        have hzs := HZS.out i hlt
        obtain ⟨p, hp⟩ : ∃ q, X[i]?.getD 0 = q := ⟨_, rfl⟩
        rw [hp] at c1 hxb2 hia
        have HP : Veil (X[i]?.getD 0 = p) := ⟨hp⟩
        obtain ⟨A, hAe⟩ : ∃ q, List.replicate i 0 ++ X.drop i = q := ⟨_, rfl⟩
        rw [hAe] at hXy hAl hia hzs
        have hi0 : (0 : Int) ≤ (i : Int) := by omega
        have hi6 : (i : Int) < 16 := by omega
        clear hget hp hAe
        by_cases hp5 : p = 255
        · subst hp5
          have HZ : Veil (A.set i 0 = List.replicate (i + 1) 0 ++ X.drop (i + 1)) := ⟨hzs⟩
          have H255 : Veil (∀ j, j < i → X[j]?.getD 0 = 255) := ⟨h255⟩
          clear hia hzs h255
          have hww : IntKind.u8.wrap (255 + 1) = 0 := by decide
          go_wp2
          go_roundw
          case rel => exact ⟨i + 1, by omega, by go_num, fun j hj => by
              by_cases hji : j = i
              · rw [hji]; exact HP.out
              · exact H255.out j (by omega), hB.setCell (by show w.heap.size ≤ xb; omega) _, by rw [← HZ.out]; exact hXy.set i _, hYy.setOther _ _ (by simp; omega)⟩
          case measure => simp [intOf]; omega
        · have hfin := hia hp5
          have hnz : ¬ (p + 1 = 0) := by omega
          have hmod : (p + 1) % 256 = p + 1 := by omega
          have hXf : Holds (wr.setCell ⟨xb, i, none⟩ (.int .u8 (p + 1))) xb .u8 28 Y := by rw [← hfin]; exact hXy.set i (p + 1)
          have hYf : Holds (wr.setCell ⟨xb, i, none⟩ (.int .u8 (p + 1))) yb .u8 28 Y := hYy.setOther _ _ (by simp; omega)
          have hBf : Below w.heap.size w (wr.setCell ⟨xb, i, none⟩ (.int .u8 (p + 1))) := hB.setCell (by show w.heap.size ≤ xb; omega) _
          have hwr : IntKind.u8.wrap (p + 1) = p + 1 := by rw [IntKind.wrap_u8]; exact hmod
          clear hia hzs h255 hfin
          go_wp2_with (first
            | (go_at_call 9; refine (live4_any _).mono ?_; rintro e w7 ⟨rfl, hb7⟩; have hX7 := hXf.below hb7 hXf.lt; have hY7 := hYf.below hb7 hYf.lt)
            | (refine wpList_ldg (by kernel_rfl) 28 _ rfl _ rfl hX7 Try.underlying28 sizeTag hYl ?_)
            | (refine wpList_ldg (by kernel_rfl) 28 _ rfl _ rfl hY7 Try.underlying28 sizeTag hYl ?_))
          go_ret
          exact ⟨rfl, hBf.trans (hb7.mono hBf.size)⟩
      · obtain rfl : i = 16 := by omega
        rw [show ((16 : Nat) : Int) = 16 from rfl]
        have hXf : Holds wr xb .u8 28 Y := by
          have e := HIL.out (fun j hj => h255 j (by omega))
          rw [hXl] at e
          rw [List.drop_of_length_le (by omega), List.append_nil, e] at hXy
          exact hXy
        clear h255 hXy
        go_wp2_with (first
          | (go_at_call 9; refine (live4_any _).mono ?_; rintro e w7 ⟨rfl, hb7⟩; have hX7 := hXf.below hb7 hXf.lt; have hY7 := hYy.below hb7 hYy.lt)
          | (refine wpList_ldg (by kernel_rfl) 28 _ rfl _ rfl hX7 Try.underlying28 sizeTag hYl ?_)
          | (refine wpList_ldg (by kernel_rfl) 28 _ rfl _ rfl hY7 Try.underlying28 sizeTag hYl ?_))
        go_ret
        exact ⟨rfl, hB.trans (hb7.mono hB.size)⟩
end Go.Proofs.Yteolgonoodfniab
