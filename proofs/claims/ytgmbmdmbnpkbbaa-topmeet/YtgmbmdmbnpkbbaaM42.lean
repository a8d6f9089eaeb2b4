/- Dc11 -/
import Derived.Test.YtgmbmdmbnpkbbaaM41
namespace Go.Proofs.Ytgmbmdmbnpkbbaa
open Go.RowKit Go.Shelf
set_option maxRecDepth 20000
set_option linter.unusedSimpArgs false
theorem isMember_any (a : Int) (w : World) : Calls Try.prog 25 #[.int .u8 a] w fun r w' => r = .returned (.bool (decide (a < 8))) ∧ w' = w := by
  go_enter Try.func25, Try.ntmps25
  go_wp2
  go_ret
  exact ⟨rfl, rfl⟩
theorem isChar_any (c : Int) (w : World) : Calls Try.prog 28 #[.int .u8 c] w fun r w' => r = .returned (.bool (decide (1 ≤ c) && decide (c ≤ 127))) ∧ w' = w := by
  go_enter Try.func28, Try.ntmps28
  by_cases h : 1 ≤ c
  · have h1 : decide (1 ≤ c) = true := by simpa using h
    go_wp2
    go_ret
    exact ⟨ret_bC (by simp [h]), rfl⟩
  · have h1 : decide (1 ≤ c) = false := by simpa using h
    go_wp2
    go_ret
    exact ⟨ret_bC (by simp [h]), rfl⟩
theorem isGiven_any (c : Int) (w : World) : Calls Try.prog 26 #[.int .u8 c] w fun r w' => r = .returned (.bool (decide (1 ≤ c) && decide (c ≤ 3))) ∧ w' = w := by
  go_enter Try.func26, Try.ntmps26
  by_cases h : 1 ≤ c
  · have h1 : decide (1 ≤ c) = true := by simpa using h
    go_wp2
    go_ret
    exact ⟨ret_bC (by simp [h]), rfl⟩
  · have h1 : decide (1 ≤ c) = false := by simpa using h
    go_wp2
    go_ret
    exact ⟨ret_bC (by simp [h]), rfl⟩
def forbN (st : Ds) (a : Int) (fit : Bool) (least : Int) : Int := if ¬ a < 8 then 2 else if fit = false then 2 else if 512 ≤ st.L.length then 10 else if roleP st.B a st.S < least then 8 else 0
theorem GoodD.seen {st : Ds} (hG : GoodD st) {a : Nat} (ha : a < 8) : 0 ≤ st.S[a]?.getD 0 ∧ st.S[a]?.getD 0 ≤ (st.L.length : Int) := by
  have hl : a < st.S.length := by rw [hG.slen]; exact ha
  rw [List.getElem?_eq_getElem hl]
  exact hG.sval _ (List.getElem_mem hl)
theorem DocAt.cSa {w : World} {base : Nat} {st : Ds} {p : Pl} (h : DocAt w base st p) (hs : st.S.length = 8) {a : Nat} (ha : a < 8) : w.cell? ⟨p.D, 2 + a, none⟩ = some (.int .u32 (st.S[a]?.getD 0)) := h.cS hs a _ (by rw [List.getElem?_map, List.getElem?_eq_getElem (by rw [hs]; exact ha)]; rfl)
set_option maxHeartbeats 8000000 in
theorem dforbid_any (base : Nat) (st : Ds) (p : Pl) (a : Int) (fit : Bool) (least : Int) (w : World) (hD : DocAt w base st p) (hG : GoodD st) (ha0 : 0 ≤ a) :
    Calls Try.prog 24 #[.pointer (some ⟨p.D, 0, none⟩), .int .u8 a, .bool fit, .int .u8 least] w fun r w' => r = .returned (.int .i64 (forbN st a fit least)) ∧ Below w.heap.size w w' := by
  have HMB : Veil (∀ W, Calls Try.prog 25 #[.int .u8 a] W fun r w' => r = .returned (.bool (decide (a < 8))) ∧ w' = W) := ⟨fun W => isMember_any a W⟩
  have hmb := HMB.out w
  by_cases ha8 : a < 8
  rotate_left
  · have hN : forbN st a fit least = 2 := if_pos ha8
    rw [hN]
    rw [decide_eq_false ha8] at hmb
    generalize p.D = D
    clear hD hG hN
    go_enter Try.func24, Try.ntmps24
    go_wp2_with (go_at_call 25; refine hmb.mono ?_; rintro y W1 ⟨rfl, rfl⟩)
    go_ret
    exact ⟨rfl, Below.refl _ _⟩
  rw [decide_eq_true ha8] at hmb
  cases fit
  · have hN : forbN st a false least = 2 := (if_neg (by omega)).trans (if_pos rfl)
    rw [hN]
    generalize p.D = D
    clear hD hG hN
    go_enter Try.func24, Try.ntmps24
    go_wp2_with (go_at_call 25; refine hmb.mono ?_; rintro y W1 ⟨rfl, rfl⟩)
    go_ret
    exact ⟨rfl, Below.refl _ _⟩
  have hN : forbN st a true least = if 512 ≤ st.L.length then 10 else if roleP st.B a st.S < least then 8 else 0 := (if_neg (by omega)).trans (if_neg (by simp))
  rw [hN]
  have hfu := dfull_any base st p w hD hG
  obtain ⟨n, hn, hna⟩ : ∃ n : Nat, n < 8 ∧ a = (n : Int) := ⟨a.toNat, by omega, by omega⟩
  have hca := hD.cSa hG.slen hn
  have hsb := hG.seen hn
  have hll := hG.llen
  generalize st.S[n]?.getD 0 = sv at hca hsb
  by_cases hf : 512 ≤ st.L.length
  · rw [if_pos hf]
    rw [decide_eq_true hf] at hfu
    generalize p.D = D at hfu ⊢
    clear hD hG hN hca hsb hna HMB
    go_enter Try.func24, Try.ntmps24
    go_wp2_with (first
      | (go_at_call 25; refine hmb.mono ?_; rintro y W1 ⟨rfl, rfl⟩)
      | (go_at_call 42; refine hfu.mono ?_; rintro y W1 ⟨rfl, rfl⟩))
    go_ret
    exact ⟨rfl, Below.refl _ _⟩
  rw [if_neg hf]
  rw [decide_eq_false hf] at hfu
  have hsv : decide (1048576 ≤ sv) = false := by simp; omega
  have hsv2 : ¬ 1048576 ≤ sv := by omega
  have HRO : Veil (∀ W, DocAt W base st p → Calls Try.prog 22 #[.pointer (some ⟨p.H, 0, none⟩), .int .u8 a, .agg (st.S.map (Value.int .u32)).toArray] W fun x w' => x = .returned (.int .u8 (roleP st.B a st.S)) ∧ Below W.heap.size W w') := ⟨fun W hb => role_any p.H p.bk st.B a st.S W hb.book hG.slen⟩
  have iV : (Try.prog.info? 28).map (·.size) = some (st.S.map (Value.int .u32)).length := by rw [List.length_map, hG.slen]; kernel_rfl
  have uV := Try.underlying28
  have HT : Veil (∀ W, DocAt W base st p → W.cell? ⟨p.D, 1, none⟩ = some (.pointer (some ⟨p.H, 0, none⟩)) ∧ W.rangeAt p.D 2 (st.S.map (Value.int .u32))) := ⟨fun W h => ⟨h.cH hG.slen, h.cS hG.slen⟩⟩
  have HD := Veil.mk hD
  generalize roleP st.B a st.S = RO at HRO ⊢
  generalize st.S.map (Value.int .u32) = SV at HRO iV HT
  obtain ⟨D, hDD⟩ : ∃ q, p.D = q := ⟨_, rfl⟩
  obtain ⟨H, hHH⟩ : ∃ q, p.H = q := ⟨_, rfl⟩
  rw [hDD] at hfu hca HT ⊢
  rw [hHH] at HRO HT
  subst hna
  have hn0 : (0 : Int) ≤ (n : Int) := by omega
  have hn8 : (n : Int) < 8 := by omega
  have hnt : ((n : Int)).toNat = n := Int.toNat_natCast n
  obtain ⟨RN, hRN⟩ : ∃ q, (if RO < least then (8 : Int) else 0) = q := ⟨_, rfl⟩
  rw [hRN]
  have HRN := Veil.mk hRN
  clear hDD hHH hD hG hN hsb hll hf ha0 ha8 HMB hRN
  go_enter Try.func24, Try.ntmps24
  go_upto_region 7 with (first
      | (go_at_call 25; refine hmb.mono ?_; rintro y W1 ⟨rfl, rfl⟩)
      | (go_at_call 42; refine hfu.mono ?_; rintro y W1 ⟨rfl, rfl⟩))
  rename World => W
  have hb0 : Below W.heap.size W W.drew := (Below.refl _ _).drew
  have hT : (fun W : World => W.cell? ⟨D, 1, none⟩ = some (.pointer (some ⟨H, 0, none⟩)) ∧ W.rangeAt D 2 SV) W.drew := HT.out _ (HD.out.far hb0)
  have hS : (fun _ : World => True) W.drew := trivial
  refine wp_region_gateT (fun W : World => W.cell? ⟨D, 1, none⟩ = some (.pointer (some ⟨H, 0, none⟩)) ∧ W.rangeAt D 2 SV) (fun _ => True) 99 (by kernel_rfl) ?_
  clear hmb hfu hca
  refine wpAnyT_held (i := 0) (v := ?_) rfl (by kernel_rfl) (by kernel_rfl) (by kernel_rfl) (fun _ _ _ h => h) (by kernel_rfl) hT (fun _ => hS) (by kernel_rfl) ?_ ?_
  rotate_left
  · intro wx hSw; go_split_ands; go_simp; try with_reducible rfl
  simp only [Act.put, List.getElem_toArray, List.getElem_cons_succ, List.getElem_cons_zero, List.setIfInBounds_toArray, List.set_cons_zero, List.set_cons_succ]
  refine wpAnyT_held (i := 1) (v := ?_) rfl (by kernel_rfl) (by kernel_rfl) (by kernel_rfl) (fun _ _ _ h => h) (by kernel_rfl) hT (fun _ => hS) (by kernel_rfl) ?_ ?_
  rotate_left
  · intro wx hSw; go_split_ands; go_simp; try with_reducible rfl
  simp only [Act.put, List.getElem_toArray, List.getElem_cons_succ, List.getElem_cons_zero, List.setIfInBounds_toArray, List.set_cons_zero, List.set_cons_succ]
  refine wpAnyT_held (i := 2) (v := ?_) rfl (by kernel_rfl) (by kernel_rfl) (by kernel_rfl) (fun _ _ _ h => h) (by kernel_rfl) hT (fun _ => hS) (by kernel_rfl) ?_ ?_
  rotate_left
  · intro wx hSw; go_split_ands; go_simp; try with_reducible rfl
  simp only [Act.put, List.getElem_toArray, List.getElem_cons_succ, List.getElem_cons_zero, List.setIfInBounds_toArray, List.set_cons_zero, List.set_cons_succ]
  refine wpAnyT_held (i := 3) (v := ?_) rfl (by kernel_rfl) (by kernel_rfl) (by kernel_rfl) (fun _ _ _ h => h) (by kernel_rfl) hT (fun _ => hS) (by kernel_rfl) ?_ ?_
  rotate_left
  · intro wx hSw; go_split_ands; go_simp; try with_reducible rfl
  simp only [Act.put, List.getElem_toArray, List.getElem_cons_succ, List.getElem_cons_zero, List.setIfInBounds_toArray, List.set_cons_zero, List.set_cons_succ]
  refine wpAnyT_held (i := 4) (v := ?_) rfl (by kernel_rfl) (by kernel_rfl) (by kernel_rfl) (fun _ _ _ h => h) (by kernel_rfl) hT (fun _ => hS) (by kernel_rfl) ?_ ?_
  rotate_left
  · intro wx hSw; go_split_ands; go_simp; try with_reducible rfl
  simp only [Act.put, List.getElem_toArray, List.getElem_cons_succ, List.getElem_cons_zero, List.setIfInBounds_toArray, List.set_cons_zero, List.set_cons_succ]
  refine wpAnyT_held (i := 5) (v := ?_) rfl (by kernel_rfl) (by kernel_rfl) (by kernel_rfl) (fun _ _ _ h => h) (by kernel_rfl) hT (fun _ => hS) (by kernel_rfl) ?_ ?_
  rotate_left
  · intro wx hSw; go_split_ands; go_simp; try with_reducible rfl
  simp only [Act.put, List.getElem_toArray, List.getElem_cons_succ, List.getElem_cons_zero, List.setIfInBounds_toArray, List.set_cons_zero, List.set_cons_succ]
  refine wpAnyT_held (i := 6) (v := ?_) rfl (by kernel_rfl) (by kernel_rfl) (by kernel_rfl) (fun _ _ _ h => h) (by kernel_rfl) hT (fun _ => hS) (by kernel_rfl) ?_ ?_
  rotate_left
  · intro wx hSw; go_split_ands; go_simp; try with_reducible rfl
  simp only [Act.put, List.getElem_toArray, List.getElem_cons_succ, List.getElem_cons_zero, List.setIfInBounds_toArray, List.set_cons_zero, List.set_cons_succ]
  refine wpAnyT_held (i := 7) (v := ?_) rfl (by kernel_rfl) (by kernel_rfl) (by kernel_rfl) (fun _ _ _ h => h) (by kernel_rfl) hT (fun _ => hS) (by kernel_rfl) ?_ ?_
  rotate_left
  · intro wx hSw; go_split_ands; go_simp; try with_reducible rfl
  simp only [Act.put, List.getElem_toArray, List.getElem_cons_succ, List.getElem_cons_zero, List.setIfInBounds_toArray, List.set_cons_zero, List.set_cons_succ]
  refine wpAnyT_held (i := 8) (v := ?_) rfl (by kernel_rfl) (by kernel_rfl) (by kernel_rfl) (fun _ _ _ h => h) (by kernel_rfl) hT (fun _ => hS) (by kernel_rfl) ?_ ?_
  rotate_left
  · intro wx hSw; go_split_ands; go_simp; try with_reducible rfl
  simp only [Act.put, List.getElem_toArray, List.getElem_cons_succ, List.getElem_cons_zero, List.setIfInBounds_toArray, List.set_cons_zero, List.set_cons_succ]
  refine wpAnyT_held (i := 9) (v := ?_) rfl (by kernel_rfl) (by kernel_rfl) (by kernel_rfl) (fun _ _ _ h => h) (by kernel_rfl) hT (fun _ => hS) (by kernel_rfl) ?_ ?_
  rotate_left
  · intro wx hSw; go_split_ands; go_simp; try with_reducible rfl
  simp only [Act.put, List.getElem_toArray, List.getElem_cons_succ, List.getElem_cons_zero, List.setIfInBounds_toArray, List.set_cons_zero, List.set_cons_succ]
  refine wpAnyT_load (i := 10) (dst := some 46) (ty := 28) (x := .tmp 45) (b := D) (o := (2)) (cs := SV) (by kernel_rfl) (by kernel_rfl) (by kernel_rfl) (by kernel_rfl) (by kernel_rfl) (fun _ _ _ h => h) (by kernel_rfl) hT (fun _ => hS) (by kernel_rfl) (fun _ h => h.2) uV rfl iV ?_
  simp only [Act.put, List.getElem_toArray, List.getElem_cons_succ, List.getElem_cons_zero, List.setIfInBounds_toArray, List.set_cons_zero, List.set_cons_succ]
  refine wpAnyT_held (i := 12) (v := ?_) rfl (by kernel_rfl) (by kernel_rfl) (by kernel_rfl) (fun _ _ _ h => h) (by kernel_rfl) hT (fun _ => hS) (by kernel_rfl) ?_ ?_
  rotate_left
  · intro wx hSw; go_split_ands; go_simp; try with_reducible rfl
  simp only [Act.put, List.getElem_toArray, List.getElem_cons_succ, List.getElem_cons_zero, List.setIfInBounds_toArray, List.set_cons_zero, List.set_cons_succ]
  refine wpAnyT_one (i := 11) rfl (by kernel_rfl) (by kernel_rfl) (fun K hK => ?_)
  refine wpx_call _ _ (by kernel_rfl) ((HRO.out _ (HD.out.far hb0)).mono ?_)
  rintro y W2 ⟨rfl, hb2⟩
  refine ⟨_, rfl, ?_⟩
  replace hb2 : Below W.heap.size W W2 := hb0.trans hb2
  replace hT := HT.out _ (HD.out.far hb2)
  replace hS : (fun _ : World => True) W2 := trivial
  refine hK.out _ _ hT (fun _ => hS) ?_
  clear hK K
  try simp only [Act.put, List.getElem_toArray, List.getElem_cons_succ, List.getElem_cons_zero, List.setIfInBounds_toArray, List.set_cons_zero, List.set_cons_succ]
  refine wpAnyT_held (i := 13) (v := ?_) rfl (by kernel_rfl) (by kernel_rfl) (by kernel_rfl) (fun _ _ _ h => h) (by kernel_rfl) hT (fun _ => hS) (by kernel_rfl) ?_ ?_
  rotate_left
  · intro wx hSw; go_split_ands; go_simp; try with_reducible rfl
  simp only [Act.put, List.getElem_toArray, List.getElem_cons_succ, List.getElem_cons_zero, List.setIfInBounds_toArray, List.set_cons_zero, List.set_cons_succ]
  refine wpAnyT_held (i := 14) (v := ?_) rfl (by kernel_rfl) (by kernel_rfl) (by kernel_rfl) (fun _ _ _ h => h) (by kernel_rfl) hT (fun _ => hS) (by kernel_rfl) ?_ ?_
  rotate_left
  · intro wx hSw; go_split_ands; go_simp; try with_reducible rfl
  simp only [Act.put, List.getElem_toArray, List.getElem_cons_succ, List.getElem_cons_zero, List.setIfInBounds_toArray, List.set_cons_zero, List.set_cons_succ]
  refine wpAnyT_done (by kernel_rfl) ?_ _
  clear hT hS
  have HB2 := Veil.mk hb2
  clear hb2 hb0
  by_cases hl : RO < least
  · have hlb : decide (RO < least) = true := by simpa using hl
    go_wp2
    go_ret
    exact ⟨by rw [← HRN.out, if_pos hl]; rfl, HB2.out⟩
  · have hlb : decide (RO < least) = false := by simpa using hl
    go_wp2
    go_ret
    exact ⟨by rw [← HRN.out, if_neg (by omega)]; rfl, HB2.out⟩
def nextE (st : Ds) (a : Nat) (e : Ev) : Ev := { e with da := (a : Int), ds := st.S[a]?.getD 0 + 1, past := st.S }
theorem nextE_cells (st : Ds) (a : Nat) (e : Ev) (hp : e.past.length = 8) : (([Value.int .u8 (a : Int), .int .u32 (st.S[a]?.getD 0 + 1)] ++ e.cells.drop 2).take 2 ++ st.S.map (Value.int .u32) ++ ([Value.int .u8 (a : Int), .int .u32 (st.S[a]?.getD 0 + 1)] ++ e.cells.drop 2).drop 10) = (nextE st a e).cells := by
  obtain ⟨da, ds, past, kind, pa, ps, right, char, who, role⟩ := e
  match past, hp with
  | [_, _, _, _, _, _, _, _], _ =>
    unfold nextE Ev.cells dotC
    simp
set_option maxHeartbeats 8000000 in
theorem dnext_any (base : Nat) (st : Ds) (p : Pl) (a : Nat) (e : Ev) (w : World) (hD : DocAt w base st p) (hG : GoodD st) (ha : a < 8) (he : e.past.length = 8) :
    Calls Try.prog 27 #[.pointer (some ⟨p.D, 0, none⟩), .int .u8 (a : Int), .agg e.cells.toArray] w fun r w' => r = .returned (.agg (nextE st a e).cells.toArray) ∧ Below w.heap.size w w' := by
  obtain ⟨Z, hZ⟩ : ∃ Z : List Value, Z = [.int .u8 0, .int .u32 0, .int .u32 0, .int .u32 0, .int .u32 0, .int .u32 0, .int .u32 0, .int .u32 0, .int .u32 0, .int .u32 0, .int .u8 0, .int .u8 0, .int .u32 0, .bool false, .int .u8 0, .int .u8 0, .int .u8 0] := ⟨_, rfl⟩
  have hB0 : Below w.heap.size w ((w.alloc (.cells e.cells.toArray 32)).alloc (.cells Z.toArray 32)) := ((Below.refl _ _).alloc (Nat.le_refl _) _).alloc (by simp) _
  have hx0 := (CellsAt.new w 32 e.cells).alloc (.cells Z.toArray 32)
  have hz0 := CellsAt.new (w.alloc (.cells e.cells.toArray 32)) 32 Z
  rw [World.size_alloc] at hz0
  have hD0 := hD.far hB0
  have he1 := aev_len e he
  have hZ17 : Z.length = 17 := by rw [hZ]; rfl
  have iE : ∀ c : List Value, c.length = 17 → (Try.prog.info? 32).map (·.size) = some c.length := fun c h => by rw [h]; kernel_rfl
  have iD : ∀ x y : Int, (Try.prog.info? 26).map (·.size) = some [Value.int .u8 x, Value.int .u32 y].length := fun x y => sizeDot
  have iV : (Try.prog.info? 28).map (·.size) = some (st.S.map (Value.int .u32)).length := by rw [List.length_map, hG.slen]; kernel_rfl
  have uE := Try.underlying32
  have uV := Try.underlying28
  have hNE := nextE_cells st a e he
  have hN17 : (nextE st a e).cells.length = 17 := aev_len _ hG.slen
  have hN1 := aev_one (nextE st a e)
  have hsb := hG.seen ha
  have hll := hG.llen
  have HT : Veil (∀ W, CellsAt W p.D 64 (docC st p) → W.cell? ⟨p.D, 2 + a, none⟩ = some (.int .u32 (st.S[a]?.getD 0)) ∧ W.rangeAt p.D 2 (st.S.map (Value.int .u32))) := ⟨fun W h => by
    have h1 := h.range 2 8
    rw [(docC_parts st p hG.slen).2.2.1] at h1
    exact ⟨h1 a _ (by rw [List.getElem?_map, List.getElem?_eq_getElem (by rw [hG.slen]; exact ha)]; rfl), h1⟩⟩
  have hbx := hD0.box
  have hS1 : ∀ u ∈ st.S.map (Value.int .u32), u.oneCell' = true := map_u32_one st.S
  have hSl : (st.S.map (Value.int .u32)).length = 8 := by rw [List.length_map, hG.slen]
  have hneD : p.D < w.heap.size := hD.box.lt
  obtain ⟨E, hE⟩ : ∃ E, e.cells = E := ⟨_, rfl⟩
  rw [hE] at hB0 hx0 hz0 he1 hNE hbx ⊢
  generalize (nextE st a e).cells = NC at hNE hN17 hN1 ⊢
  generalize st.S[a]?.getD 0 = sv at HT hNE hsb
  generalize st.S.map (Value.int .u32) = SV at HT hNE iV hS1 hSl
  generalize docC st p = DC at HT hbx
  generalize p.D = D at HT hbx hneD ⊢
  have hwv : IntKind.u32.wrap (sv + 1) = sv + 1 := by rw [IntKind.wrap_u32]; omega
  have ha0 : (0 : Int) ≤ (a : Int) := by omega
  have ha9 : (a : Int) < 8 := by omega
  have hat : ((a : Int)).toNat = a := Int.toNat_natCast a
  clear hE hD hG hD0 hsb hll he
  rw [hZ] at hB0 hx0 hz0 hbx
  go_enter Try.func27, Try.ntmps27
  go_upto_region 1 with fail
  refine forget (p := fun y => Code.wp _ _ _ _ y) (fun W => Below w.heap.size w W ∧ CellsAt W w.heap.size 32 E ∧ CellsAt W (w.heap.size + 1) 32 Z ∧ CellsAt W D 64 DC) ⟨hB0, hx0, by rw [hZ]; exact hz0, hbx⟩ ?_
  clear hB0 hx0 hz0 hbx hZ
  rintro W ⟨hB, hx, hz, hb⟩
  obtain ⟨c1, -⟩ := HT.out W hb
  have hsd : ∀ v ∈ [Value.int .u8 (a : Int), Value.int .u32 (sv + 1)], v.oneCell' = true := fun v hv => by
    simp at hv
    rcases hv with rfl | rfl <;> rfl
  go_upto_region 2 with (refine wpList_stm (cs := [.int .u8 (a : Int), .int .u32 (sv + 1)]) rfl 26 _ _ rfl w.heap.size 0 rfl rfl hx (iD _ _) (by rw [he1]; show 0 + 2 ≤ 17; omega) hsd ?_)
  have hx1 := hx.setRow (E.take 0 ++ [Value.int .u8 (a : Int), Value.int .u32 (sv + 1)] ++ E.drop (0 + 2))
  have hz1 := hz.setRowM (E.take 0 ++ [Value.int .u8 (a : Int), Value.int .u32 (sv + 1)] ++ E.drop (0 + 2)).toArray (g' := w.heap.size) (by omega)
  have hb1 := hb.setRowM (E.take 0 ++ [Value.int .u8 (a : Int), Value.int .u32 (sv + 1)] ++ E.drop (0 + 2)).toArray (g' := w.heap.size) (by omega)
  have hB1 : Below w.heap.size w (W.setRow w.heap.size (E.take 0 ++ [Value.int .u8 (a : Int), Value.int .u32 (sv + 1)] ++ E.drop (0 + 2)).toArray) := below_setRow hB (Nat.le_refl _) _
  rw [List.take_zero, List.nil_append] at hx1 hz1 hb1 hB1
  have hE1l : ([Value.int .u8 (a : Int), Value.int .u32 (sv + 1)] ++ E.drop (0 + 2)).length = 17 := by rw [List.length_append, List.length_drop, he1]; rfl
  refine forget (p := fun y => Code.wp _ _ _ _ y) (fun W => Below w.heap.size w W ∧ CellsAt W w.heap.size 32 ([Value.int .u8 (a : Int), Value.int .u32 (sv + 1)] ++ E.drop 2) ∧ CellsAt W (w.heap.size + 1) 32 Z ∧ CellsAt W D 64 DC) ⟨hB1, hx1, hz1, hb1⟩ ?_
  generalize ([Value.int .u8 (a : Int), Value.int .u32 (sv + 1)] ++ E.drop 2 : List Value) = E1 at hNE hE1l
  clear hB hx hz hb hB1 hx1 hz1 hb1 c1 W
  rintro W ⟨hB, hx, hz, hb⟩
  obtain ⟨-, r1⟩ := HT.out W hb
  go_upto_region 3 with (first
    | (refine wpList_ldv rfl 28 _ rfl D 2 rfl SV r1 uV rfl iV ?_)
    | (refine wpList_stm (cs := SV) rfl 28 _ _ rfl w.heap.size 2 rfl rfl hx iV (by rw [hE1l, hSl]; omega) hS1 ?_))
  have hx1 := hx.setRow (E1.take 2 ++ SV ++ E1.drop (2 + SV.length))
  have hz1 := hz.setRowM (E1.take 2 ++ SV ++ E1.drop (2 + SV.length)).toArray (g' := w.heap.size) (by omega)
  have hB1 : Below w.heap.size w (W.setRow w.heap.size (E1.take 2 ++ SV ++ E1.drop (2 + SV.length)).toArray) := below_setRow hB (Nat.le_refl _) _
  rw [hSl, hNE] at hx1 hz1 hB1
  rw [hSl, hNE]
  refine forget (p := fun y => Code.wp _ _ _ _ y) (fun W => Below w.heap.size w W ∧ CellsAt W w.heap.size 32 NC ∧ CellsAt W (w.heap.size + 1) 32 Z) ⟨hB1, hx1, hz1⟩ ?_
  clear hB hx hz hb hB1 hx1 hz1 r1 W
  rintro W ⟨hB, hx, hz⟩
  have r2 := hx.wholeM
  have iN := iE NC hN17
  go_wp2_with (first
    | (refine wpList_ldv rfl 32 _ rfl w.heap.size 0 rfl NC r2 uE rfl iN ?_)
    | (refine wpList_stv (cs := NC) rfl 32 _ _ rfl (w.heap.size + 1) rfl rfl hz iN (by rw [hZ17, hN17]) hN1 ?_))
  refine bodyPost_ret (results_cells (Try.results27) _ rfl (hz.setRow _) uE rfl iN) rfl ⟨rfl, ?_⟩
  exact below_setRow hB (by omega) _
end Go.Proofs.Ytgmbmdmbnpkbbaa
