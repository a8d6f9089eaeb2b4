/- Dc11 Dc12 Dc18 De4 -/
import Derived.Test.YtmbdohnmbkpfaaaGreatU41
import Derived.Test.YtmbdohnmbkpfaaaGreatU25
import Derived.Test.YtmbdohnmbkpfaaaGreatU37
import Derived.Test.YtmbdohnmbkpfaaaGreatU40
namespace Go.Proofs.YtmbdohnmbkpfaaaGreat
open Go.RowKit Go.Shelf
set_option maxRecDepth 20000
set_option linter.unusedSimpArgs false
theorem isMember_any (a : Int) (w : World) : Calls Tryz.prog 55 #[.int .u8 a] w fun r w' => r = .returned (.bool (decide (a < 8))) ∧ w' = w := by
  go_enter Tryz.func55, Tryz.ntmps55
  go_wp2
  go_ret
  exact ⟨rfl, rfl⟩
theorem isChar_any (c : Int) (w : World) : Calls Tryz.prog 51 #[.int .u8 c] w fun r w' => r = .returned (.bool (decide (1 ≤ c) && decide (c ≤ 127))) ∧ w' = w := by
  go_enter Tryz.func51, Tryz.ntmps51
  by_cases h : 1 ≤ c
  · have h1 : decide (1 ≤ c) = true := by simpa using h
    go_wp2
    go_ret
    exact ⟨ret_bC (by simp [h]), rfl⟩
  · have h1 : decide (1 ≤ c) = false := by simpa using h
    go_wp2
    go_ret
    exact ⟨ret_bC (by simp [h]), rfl⟩
theorem isGiven_any (c : Int) (w : World) : Calls Tryz.prog 56 #[.int .u8 c] w fun r w' => r = .returned (.bool (decide (1 ≤ c) && decide (c ≤ 3))) ∧ w' = w := by
  go_enter Tryz.func56, Tryz.ntmps56
  by_cases h : 1 ≤ c
  · have h1 : decide (1 ≤ c) = true := by simpa using h
    go_wp2
    go_ret
    exact ⟨ret_bC (by simp [h]), rfl⟩
  · have h1 : decide (1 ≤ c) = false := by simpa using h
    go_wp2
    go_ret
    exact ⟨ret_bC (by simp [h]), rfl⟩
def forbN (st : Ds) (a : Int) (fit : Bool) (least : Int) : Int := if ¬ a < 8 then 2 else if fit = false then 2 else if 512 ≤ st.L.length then 10 else if roleP st.B a st.S < least then 8 else 0
theorem GoodD.seen {st : Ds} (hG : GoodD st) {a : Nat} (ha : a < 8) : 0 ≤ st.S[a]?.getD 0 ∧ st.S[a]?.getD 0 ≤ (st.L.length : Int) := by
  have hl : a < st.S.length := by rw [hG.slen]; exact ha
  rw [List.getElem?_eq_getElem hl]
  exact hG.sval _ (List.getElem_mem hl)
theorem DocAt.cSa {w : World} {base : Nat} {st : Ds} {p : Pl} (h : DocAt w base st p) (hs : st.S.length = 8) {a : Nat} (ha : a < 8) : w.cell? ⟨p.D, 2 + a, none⟩ = some (.int .u32 (st.S[a]?.getD 0)) := h.cS hs a _ (by rw [List.getElem?_map, List.getElem?_eq_getElem (by rw [hs]; exact ha)]; rfl)
set_option maxHeartbeats 8000000 in
theorem dforbid_any (base : Nat) (st : Ds) (p : Pl) (a : Int) (fit : Bool) (least : Int) (w : World) (hD : DocAt w base st p) (hG : GoodD st) (ha0 : 0 ≤ a) :
    Calls Tryz.prog 50 #[.pointer (some ⟨p.D, 0, none⟩), .int .u8 a, .bool fit, .int .u8 least] w fun r w' => r = .returned (.int .i64 (forbN st a fit least)) ∧ Below w.heap.size w w' := by
  have HMB : Veil (∀ W, Calls Tryz.prog 55 #[.int .u8 a] W fun r w' => r = .returned (.bool (decide (a < 8))) ∧ w' = W) := ⟨fun W => isMember_any a W⟩
  have hmb := HMB.out w
  by_cases ha8 : a < 8
  rotate_left
  · have hN : forbN st a fit least = 2 := if_pos ha8
    rw [hN]
    rw [decide_eq_false ha8] at hmb
    generalize p.D = D
    clear hD hG hN
    go_enter Tryz.func50, Tryz.ntmps50
    go_wp2_with (go_at_call 55; refine hmb.mono ?_; rintro y W1 ⟨rfl, rfl⟩)
    go_ret
    exact ⟨rfl, Below.refl _ _⟩
  rw [decide_eq_true ha8] at hmb
  cases fit
  · have hN : forbN st a false least = 2 := (if_neg (by omega)).trans (if_pos rfl)
    rw [hN]
    generalize p.D = D
    clear hD hG hN
    go_enter Tryz.func50, Tryz.ntmps50
    go_wp2_with (go_at_call 55; refine hmb.mono ?_; rintro y W1 ⟨rfl, rfl⟩)
    go_ret
    exact ⟨rfl, Below.refl _ _⟩
  have hN : forbN st a true least = if 512 ≤ st.L.length then 10 else if roleP st.B a st.S < least then 8 else 0 := (if_neg (by omega)).trans (if_neg (by simp))
  rw [hN]
  have hfu := dfull_any base st p w hD hG
  obtain ⟨n, hn, hna⟩ : ∃ n : Nat, n < 8 ∧ a = (n : Int) := ⟨a.toNat, by omega, by omega⟩
  have hca := hD.cSa hG.slen hn
  have hsb := hG.seen hn
  have hll := hG.llen
  generalize st.S[n]?.getD 0 = sv at hca hsb
  by_cases hf : 512 ≤ st.L.length
  · rw [if_pos hf]
    rw [decide_eq_true hf] at hfu
    generalize p.D = D at hfu ⊢
    clear hD hG hN hca hsb hna HMB
    go_enter Tryz.func50, Tryz.ntmps50
    go_wp2_with (first
      | (go_at_call 55; refine hmb.mono ?_; rintro y W1 ⟨rfl, rfl⟩)
      | (go_at_call 76; refine hfu.mono ?_; rintro y W1 ⟨rfl, rfl⟩))
    go_ret
    exact ⟨rfl, Below.refl _ _⟩
  rw [if_neg hf]
  rw [decide_eq_false hf] at hfu
  have hsv : decide (1048576 ≤ sv) = false := by simp; omega
  have hsv2 : ¬ 1048576 ≤ sv := by omega
  have HRO : Veil (∀ W, DocAt W base st p → Calls Tryz.prog 79 #[.pointer (some ⟨p.H, 0, none⟩), .int .u8 a, .agg (st.S.map (Value.int .u32)).toArray] W fun x w' => x = .returned (.int .u8 (roleP st.B a st.S)) ∧ Below W.heap.size W w') := ⟨fun W hb => role_any p.H p.bk st.B a st.S W hb.book hG.slen⟩
  have iV : (Tryz.prog.info? 37).map (·.size) = some (st.S.map (Value.int .u32)).length := by rw [List.length_map, hG.slen]; kernel_rfl
  have uV := Tryz.underlying37
  have HT : Veil (∀ W, DocAt W base st p → W.cell? ⟨p.D, 1, none⟩ = some (.pointer (some ⟨p.H, 0, none⟩)) ∧ W.rangeAt p.D 2 (st.S.map (Value.int .u32))) := ⟨fun W h => ⟨h.cH hG.slen, h.cS hG.slen⟩⟩
  have HD := Veil.mk hD
  generalize roleP st.B a st.S = RO at HRO ⊢
  generalize st.S.map (Value.int .u32) = SV at HRO iV HT
  obtain ⟨D, hDD⟩ : ∃ q, p.D = q := ⟨_, rfl⟩
  obtain ⟨H, hHH⟩ : ∃ q, p.H = q := ⟨_, rfl⟩
  rw [hDD] at hfu hca HT ⊢
  rw [hHH] at HRO HT
  subst hna
  have hn0 : (0 : Int) ≤ (n : Int) := by omega
  have hn8 : (n : Int) < 8 := by omega
  have hnt : ((n : Int)).toNat = n := Int.toNat_natCast n
  obtain ⟨RN, hRN⟩ : ∃ q, (if RO < least then (8 : Int) else 0) = q := ⟨_, rfl⟩
  rw [hRN]
  have HRN := Veil.mk hRN
  clear hDD hHH hD hG hN hsb hll hf ha0 ha8 HMB hRN
  go_enter Tryz.func50, Tryz.ntmps50
  go_upto_region 7 with (first
      | (go_at_call 55; refine hmb.mono ?_; rintro y W1 ⟨rfl, rfl⟩)
      | (go_at_call 76; refine hfu.mono ?_; rintro y W1 ⟨rfl, rfl⟩))
  rename World => W
  have hb0 : Below W.heap.size W W.drew := (Below.refl _ _).drew
  have hT : (fun W : World => W.cell? ⟨D, 1, none⟩ = some (.pointer (some ⟨H, 0, none⟩)) ∧ W.rangeAt D 2 SV) W.drew := HT.out _ (HD.out.far hb0)
  have hS : (fun _ : World => True) W.drew := trivial
  refine wp_region_gateT (fun W : World => W.cell? ⟨D, 1, none⟩ = some (.pointer (some ⟨H, 0, none⟩)) ∧ W.rangeAt D 2 SV) (fun _ => True) 99 (by kernel_rfl) ?_
  clear hmb hfu hca
  refine gh 0 ?_ hT hS ?_ ?_
  rotate_left
  · intro wx hSw; go_split_ands; go_simp; try with_reducible rfl
  simp only [Act.put, gA, gS, gZ, sI, sZ, sS]
  refine gh 1 ?_ hT hS ?_ ?_
  rotate_left
  · intro wx hSw; go_split_ands; go_simp; try with_reducible rfl
  simp only [Act.put, gA, gS, gZ, sI, sZ, sS]
  refine gh 2 ?_ hT hS ?_ ?_
  rotate_left
  · intro wx hSw; go_split_ands; go_simp; try with_reducible rfl
  simp only [Act.put, gA, gS, gZ, sI, sZ, sS]
  refine gh 3 ?_ hT hS ?_ ?_
  rotate_left
  · intro wx hSw; go_split_ands; go_simp; try with_reducible rfl
  simp only [Act.put, gA, gS, gZ, sI, sZ, sS]
  refine gh 4 ?_ hT hS ?_ ?_
  rotate_left
  · intro wx hSw; go_split_ands; go_simp; try with_reducible rfl
  simp only [Act.put, gA, gS, gZ, sI, sZ, sS]
  refine gh 5 ?_ hT hS ?_ ?_
  rotate_left
  · intro wx hSw; go_split_ands; go_simp; try with_reducible rfl
  simp only [Act.put, gA, gS, gZ, sI, sZ, sS]
  refine gh 6 ?_ hT hS ?_ ?_
  rotate_left
  · intro wx hSw; go_split_ands; go_simp; try with_reducible rfl
  simp only [Act.put, gA, gS, gZ, sI, sZ, sS]
  refine gh 7 ?_ hT hS ?_ ?_
  rotate_left
  · intro wx hSw; go_split_ands; go_simp; try with_reducible rfl
  simp only [Act.put, gA, gS, gZ, sI, sZ, sS]
  refine gh 8 ?_ hT hS ?_ ?_
  rotate_left
  · intro wx hSw; go_split_ands; go_simp; try with_reducible rfl
  simp only [Act.put, gA, gS, gZ, sI, sZ, sS]
  refine gh 9 ?_ hT hS ?_ ?_
  rotate_left
  · intro wx hSw; go_split_ands; go_simp; try with_reducible rfl
  simp only [Act.put, gA, gS, gZ, sI, sZ, sS]
  refine gl 10 46 37 45 D 2 SV (by kernel_rfl) (by kernel_rfl) (by kernel_rfl) (fun _ _ _ h => h) hT hS (by kernel_rfl) (fun _ h => h.2) uV rfl iV ?_
  simp only [Act.put, gA, gS, gZ, sI, sZ, sS]
  refine gh 12 ?_ hT hS ?_ ?_
  rotate_left
  · intro wx hSw; go_split_ands; go_simp; try with_reducible rfl
  simp only [Act.put, gA, gS, gZ, sI, sZ, sS]
  refine wpAnyT_one (i := 11) rfl (by kernel_rfl) (by kernel_rfl) (fun K hK => ?_)
  refine wpx_call _ _ (by kernel_rfl) ((HRO.out _ (HD.out.far hb0)).mono ?_)
  rintro y W2 ⟨rfl, hb2⟩
  refine ⟨_, rfl, ?_⟩
  replace hb2 : Below W.heap.size W W2 := hb0.trans hb2
  replace hT := HT.out _ (HD.out.far hb2)
  replace hS : (fun _ : World => True) W2 := trivial
  refine hK.out _ _ hT (fun _ => hS) ?_
  clear hK K
  try simp only [Act.put, gA, gS, gZ, sI, sZ, sS]
  refine gh 13 ?_ hT hS ?_ ?_
  rotate_left
  · intro wx hSw; go_split_ands; go_simp; try with_reducible rfl
  simp only [Act.put, gA, gS, gZ, sI, sZ, sS]
  refine gh 14 ?_ hT hS ?_ ?_
  rotate_left
  · intro wx hSw; go_split_ands; go_simp; try with_reducible rfl
  simp only [Act.put, gA, gS, gZ, sI, sZ, sS]
  refine wpAnyT_done (by kernel_rfl) ?_ _
  clear hT hS
  have HB2 := Veil.mk hb2
  clear hb2 hb0
  by_cases hl : RO < least
  · have hlb : decide (RO < least) = true := by simpa using hl
    go_wp2
    go_ret
    exact ⟨by rw [← HRN.out, if_pos hl]; rfl, HB2.out⟩
  · have hlb : decide (RO < least) = false := by simpa using hl
    go_wp2
    go_ret
    exact ⟨by rw [← HRN.out, if_neg (by omega)]; rfl, HB2.out⟩
def nextE (st : Ds) (a : Nat) (e : Ev) : Ev := { e with da := (a : Int), ds := st.S[a]?.getD 0 + 1, past := st.S }
theorem nextE_cells (st : Ds) (a : Nat) (e : Ev) (hp : e.past.length = 8) : (([Value.int .u8 (a : Int), .int .u32 (st.S[a]?.getD 0 + 1)] ++ e.cells.drop 2).take 2 ++ st.S.map (Value.int .u32) ++ ([Value.int .u8 (a : Int), .int .u32 (st.S[a]?.getD 0 + 1)] ++ e.cells.drop 2).drop 10) = (nextE st a e).cells := by
  obtain ⟨da, ds, past, kind, pa, ps, right, char, who, role⟩ := e
  match past, hp with
  | [_, _, _, _, _, _, _, _], _ =>
    unfold nextE Ev.cells dotC
    simp
set_option maxHeartbeats 8000000 in
theorem dnext_any (base : Nat) (st : Ds) (p : Pl) (a : Nat) (e : Ev) (w : World) (hD : DocAt w base st p) (hG : GoodD st) (ha : a < 8) (he : e.past.length = 8) :
    Calls Tryz.prog 53 #[.pointer (some ⟨p.D, 0, none⟩), .int .u8 (a : Int), .agg e.cells.toArray] w fun r w' => r = .returned (.agg (nextE st a e).cells.toArray) ∧ Below w.heap.size w w' := by
  obtain ⟨Z, hZ⟩ : ∃ Z : List Value, Z = [.int .u8 0, .int .u32 0, .int .u32 0, .int .u32 0, .int .u32 0, .int .u32 0, .int .u32 0, .int .u32 0, .int .u32 0, .int .u32 0, .int .u8 0, .int .u8 0, .int .u32 0, .bool false, .int .u8 0, .int .u8 0, .int .u8 0] := ⟨_, rfl⟩
  have hB0 : Below w.heap.size w ((w.alloc (.cells e.cells.toArray 44)).alloc (.cells Z.toArray 44)) := ((Below.refl _ _).alloc (Nat.le_refl _) _).alloc (by simp) _
  have hx0 := (CellsAt.new w 44 e.cells).alloc (.cells Z.toArray 44)
  have hz0 := CellsAt.new (w.alloc (.cells e.cells.toArray 44)) 44 Z
  rw [World.size_alloc] at hz0
  have hD0 := hD.far hB0
  have he1 := aev_len e he
  have hZ17 : Z.length = 17 := by rw [hZ]; rfl
  have iE : ∀ c : List Value, c.length = 17 → (Tryz.prog.info? 44).map (·.size) = some c.length := fun c h => by rw [h]; kernel_rfl
  have iD : ∀ x y : Int, (Tryz.prog.info? 40).map (·.size) = some [Value.int .u8 x, Value.int .u32 y].length := fun x y => sizeDot
  have iV : (Tryz.prog.info? 37).map (·.size) = some (st.S.map (Value.int .u32)).length := by rw [List.length_map, hG.slen]; kernel_rfl
  have uE := Tryz.underlying44
  have uV := Tryz.underlying37
  have hNE := nextE_cells st a e he
  have hN17 : (nextE st a e).cells.length = 17 := aev_len _ hG.slen
  have hN1 := aev_one (nextE st a e)
  have hsb := hG.seen ha
  have hll := hG.llen
  have HT : Veil (∀ W, CellsAt W p.D 75 (docC st p) → W.cell? ⟨p.D, 2 + a, none⟩ = some (.int .u32 (st.S[a]?.getD 0)) ∧ W.rangeAt p.D 2 (st.S.map (Value.int .u32))) := ⟨fun W h => by
    have h1 := h.range 2 8
    rw [(docC_parts st p hG.slen).2.2.1] at h1
    exact ⟨h1 a _ (by rw [List.getElem?_map, List.getElem?_eq_getElem (by rw [hG.slen]; exact ha)]; rfl), h1⟩⟩
  have hbx := hD0.box
  have hS1 : ∀ u ∈ st.S.map (Value.int .u32), u.oneCell' = true := map_u32_one st.S
  have hSl : (st.S.map (Value.int .u32)).length = 8 := by rw [List.length_map, hG.slen]
  have hneD : p.D < w.heap.size := hD.box.lt
  obtain ⟨E, hE⟩ : ∃ E, e.cells = E := ⟨_, rfl⟩
  rw [hE] at hB0 hx0 hz0 he1 hNE hbx ⊢
  generalize (nextE st a e).cells = NC at hNE hN17 hN1 ⊢
  generalize st.S[a]?.getD 0 = sv at HT hNE hsb
  generalize st.S.map (Value.int .u32) = SV at HT hNE iV hS1 hSl
  generalize docC st p = DC at HT hbx
  generalize p.D = D at HT hbx hneD ⊢
  have hwv : IntKind.u32.wrap (sv + 1) = sv + 1 := by rw [IntKind.wrap_u32]; omega
  have ha0 : (0 : Int) ≤ (a : Int) := by omega
  have ha9 : (a : Int) < 8 := by omega
  have hat : ((a : Int)).toNat = a := Int.toNat_natCast a
  clear hE hD hG hD0 hsb hll he
  rw [hZ] at hB0 hx0 hz0 hbx
  go_enter Tryz.func53, Tryz.ntmps53
  go_upto_region 1 with fail
  refine forget (p := fun y => Code.wp _ _ _ _ y) (fun W => Below w.heap.size w W ∧ CellsAt W w.heap.size 44 E ∧ CellsAt W (w.heap.size + 1) 44 Z ∧ CellsAt W D 75 DC) ⟨hB0, hx0, by rw [hZ]; exact hz0, hbx⟩ ?_
  clear hB0 hx0 hz0 hbx hZ
  rintro W ⟨hB, hx, hz, hb⟩
  obtain ⟨c1, -⟩ := HT.out W hb
  have hsd : ∀ v ∈ [Value.int .u8 (a : Int), Value.int .u32 (sv + 1)], v.oneCell' = true := fun v hv => by
    simp at hv
    rcases hv with rfl | rfl <;> rfl
  go_upto_region 2 with (refine wpList_stm (cs := [.int .u8 (a : Int), .int .u32 (sv + 1)]) rfl 40 _ _ rfl w.heap.size 0 rfl rfl hx (iD _ _) (by rw [he1]; show 0 + 2 ≤ 17; omega) hsd ?_)
  have hx1 := hx.setRow (E.take 0 ++ [Value.int .u8 (a : Int), Value.int .u32 (sv + 1)] ++ E.drop (0 + 2))
  have hz1 := hz.setRowM (E.take 0 ++ [Value.int .u8 (a : Int), Value.int .u32 (sv + 1)] ++ E.drop (0 + 2)).toArray (g' := w.heap.size) (by omega)
  have hb1 := hb.setRowM (E.take 0 ++ [Value.int .u8 (a : Int), Value.int .u32 (sv + 1)] ++ E.drop (0 + 2)).toArray (g' := w.heap.size) (by omega)
  have hB1 : Below w.heap.size w (W.setRow w.heap.size (E.take 0 ++ [Value.int .u8 (a : Int), Value.int .u32 (sv + 1)] ++ E.drop (0 + 2)).toArray) := below_setRow hB (Nat.le_refl _) _
  rw [List.take_zero, List.nil_append] at hx1 hz1 hb1 hB1
  have hE1l : ([Value.int .u8 (a : Int), Value.int .u32 (sv + 1)] ++ E.drop (0 + 2)).length = 17 := by rw [List.length_append, List.length_drop, he1]; rfl
  refine forget (p := fun y => Code.wp _ _ _ _ y) (fun W => Below w.heap.size w W ∧ CellsAt W w.heap.size 44 ([Value.int .u8 (a : Int), Value.int .u32 (sv + 1)] ++ E.drop 2) ∧ CellsAt W (w.heap.size + 1) 44 Z ∧ CellsAt W D 75 DC) ⟨hB1, hx1, hz1, hb1⟩ ?_
  generalize ([Value.int .u8 (a : Int), Value.int .u32 (sv + 1)] ++ E.drop 2 : List Value) = E1 at hNE hE1l
  clear hB hx hz hb hB1 hx1 hz1 hb1 c1 W
  rintro W ⟨hB, hx, hz, hb⟩
  obtain ⟨-, r1⟩ := HT.out W hb
  go_upto_region 3 with (first
    | (refine wpList_ldv rfl 37 _ rfl D 2 rfl SV r1 uV rfl iV ?_)
    | (refine wpList_stm (cs := SV) rfl 37 _ _ rfl w.heap.size 2 rfl rfl hx iV (by rw [hE1l, hSl]; omega) hS1 ?_))
  have hx1 := hx.setRow (E1.take 2 ++ SV ++ E1.drop (2 + SV.length))
  have hz1 := hz.setRowM (E1.take 2 ++ SV ++ E1.drop (2 + SV.length)).toArray (g' := w.heap.size) (by omega)
  have hB1 : Below w.heap.size w (W.setRow w.heap.size (E1.take 2 ++ SV ++ E1.drop (2 + SV.length)).toArray) := below_setRow hB (Nat.le_refl _) _
  rw [hSl, hNE] at hx1 hz1 hB1
  rw [hSl, hNE]
  refine forget (p := fun y => Code.wp _ _ _ _ y) (fun W => Below w.heap.size w W ∧ CellsAt W w.heap.size 44 NC ∧ CellsAt W (w.heap.size + 1) 44 Z) ⟨hB1, hx1, hz1⟩ ?_
  clear hB hx hz hb hB1 hx1 hz1 r1 W
  rintro W ⟨hB, hx, hz⟩
  have r2 := hx.wholeM
  have iN := iE NC hN17
  go_wp2_with (first
    | (refine wpList_ldv rfl 44 _ rfl w.heap.size 0 rfl NC r2 uE rfl iN ?_)
    | (refine wpList_stv (cs := NC) rfl 44 _ _ rfl (w.heap.size + 1) rfl rfl hz iN (by rw [hZ17, hN17]) hN1 ?_))
  refine bodyPost_ret (results_cells (Tryz.results53) _ rfl (hz.setRow _) uE rfl iN) rfl ⟨rfl, ?_⟩
  exact below_setRow hB (by omega) _
def evK (k : Int) (par : Int × Int) (r : Bool) (c who role : Int) : Ev := ⟨0, 0, [0, 0, 0, 0, 0, 0, 0, 0], k, par.1, par.2, r, c, who, role⟩
def evZ0 : Ev := evK 0 (0, 0) false 0 0 0
def zC : List Value := [.int .u8 0, .int .u32 0, .int .u32 0, .int .u32 0, .int .u32 0, .int .u32 0, .int .u32 0, .int .u32 0, .int .u32 0, .int .u32 0, .int .u8 0, .int .u8 0, .int .u32 0, .bool false, .int .u8 0, .int .u8 0, .int .u8 0]
theorem zC_is : evZ0.cells = zC := rfl
theorem zC_one : ∀ v ∈ zC, v.oneCell' = true := aev_one evZ0
def evKC (k pa ps : Int) (r : Bool) (c who role : Int) : List Value := [.int .u8 0, .int .u32 0, .int .u32 0, .int .u32 0, .int .u32 0, .int .u32 0, .int .u32 0, .int .u32 0, .int .u32 0, .int .u32 0, .int .u8 k, .int .u8 pa, .int .u32 ps, .bool r, .int .u8 c, .int .u8 who, .int .u8 role]
def tellW (st : Ds) (a i c : Int) : Ev × Int := if forbN st a (decide (1 ≤ c) && decide (c ≤ 127)) 2 ≠ 0 then (evZ0, forbN st a (decide (1 ≤ c) && decide (c ≤ 127)) 2) else if (placeN st.N i).2.2 ≠ 0 then (evZ0, (placeN st.N i).2.2) else (nextE st a.toNat (evK 1 (placeN st.N i).1 (placeN st.N i).2.1 c 0 0), 0)
def tellE (st : Ds) (a i : Int) : Ev × Int := if forbN st a true 2 ≠ 0 then (evZ0, forbN st a true 2) else if atE (atN st.N i) ≠ 0 then (evZ0, atE (atN st.N i)) else (nextE st a.toNat (evK 2 (atD (atN st.N i)) false 0 0 0), 0)
def tellG (st : Ds) (a who role : Int) : Ev × Int := if forbN st a (decide (who < 8) && (decide (1 ≤ role) && decide (role ≤ 3))) 3 ≠ 0 then (evZ0, forbN st a (decide (who < 8) && (decide (1 ≤ role) && decide (role ≤ 3))) 3) else (nextE st a.toNat (evK 3 (0, 0) false 0 who role), 0)
def tellT (st : Ds) (a who : Int) : Ev × Int := if forbN st a (decide (who < 8)) 3 ≠ 0 then (evZ0, forbN st a (decide (who < 8)) 3) else (nextE st a.toNat (evK 4 (0, 0) false 0 who 0), 0)
theorem forbN_zero {st : Ds} {a : Int} {fit : Bool} {least : Int} (h : forbN st a fit least = 0) : a < 8 ∧ fit = true ∧ st.L.length < 512 ∧ least ≤ roleP st.B a st.S := by
  unfold forbN at h
  split at h
  · cases h
  · split at h
    · cases h
    · split at h
      · cases h
      · split at h
        · cases h
        · rename_i h1 h2 h3 h4
          exact ⟨by omega, by simpa using h2, by omega, by omega⟩
set_option maxHeartbeats 4000000 in
theorem eCloneD_any (base : Nat) (w : World) (u : Value) (Q : List Ev) (hu : OwnI w base 44 17 u (Q.map Ev.cells)) (hl : Q.length ≤ 1000) :
    Calls Tryz.prog 40 #[u] w fun e w' => ∃ v', e = .returned v' ∧ OwnI w' w.heap.size 44 17 v' (Q.map Ev.cells) ∧ Below w.heap.size w w' := by
  rcases hu.own.2 with ⟨rfl, h0⟩ | ⟨g, cap, cur, rfl, hbg, hrest⟩
  · have hL : Q.map Ev.cells = [] := List.length_eq_zero_iff.1 h0
    have hnil : ∀ wx : World, (binOp BinOp.eql 31 (.slice none 0 0) (.slice none 0 0)).run Tryz.prog wx = .ok (.bool true) wx := fun _ => by kernel_rfl
    rw [hL]
    clear hu hL h0
    go_enter Tryz.func40, Tryz.ntmps40
    go_wp2
    go_ret
    exact ⟨_, rfl, OwnI.nil _ _ _ _, Below.refl _ _⟩
  · have hB : Below w.heap.size w (w.alloc (.cells #[] 44)) := (Below.refl _ _).alloc (Nat.le_refl _) _
    have hE := OwnI.empty w 44 17
    have hu1 := hu.far hB
    have hone : ∀ c ∈ Q.map Ev.cells, ∀ u ∈ c, u.oneCell' = true := fun c hc u hu => by
      obtain ⟨q, _, rfl⟩ := List.mem_map.1 hc
      exact aev_one q u hu
    have hap := hE.apps (P := Tryz.prog) 31 31 Tryz.underlying31 infoE17D (by rfl) (by decide) (Q.map Ev.cells) hu.each hone base _ hu1 (by simp; omega) (by decide) (by simp)
    rw [List.nil_append] at hap
    have hnil : ∀ (n : Nat) (wx : World), (binOp BinOp.eql 31 (.slice (some ⟨g, 0, none⟩) n cap) (.slice none 0 0)).run Tryz.prog wx = .ok (.bool false) wx := fun _ _ => by kernel_rfl
    have HAP := Veil.mk hap
    generalize (Q.map Ev.cells).length = n at HAP hnil ⊢
    have hnl := hnil n
    clear hu hE hu1 hone hrest hnil hap
    go_enter Tryz.func40, Tryz.ntmps40
    go_wp2_with (at_builtin; obtain ⟨v1, w1, hr1, ho1, hg1, _⟩ := HAP.out; refine wpList_appx rfl _ _ 31 31 rfl _ _ _ _ rfl rfl hr1 ?_)
    go_ret
    refine ⟨_, rfl, ho1, ?_⟩
    exact hB.grown hg1 (by simp) (fun k hk => by cases hk; exact Nat.le_refl _)
set_option maxHeartbeats 4000000 in
theorem dEvents_any (base : Nat) (st : Ds) (p : Pl) (w : World) (hD : DocAt w base st p) (hG : GoodD st) :
    Calls Tryz.prog 14 #[.pointer (some ⟨p.D, 0, none⟩)] w fun r w' => ∃ v, r = .returned v ∧ OwnI w' w.heap.size 44 17 v (st.L.map Ev.cells) ∧ Below w.heap.size w w' := by
  have hcl := eCloneD_any base w p.v st.L hD.evs (by have := hG.llen; omega)
  have c10 := hD.cV hG.slen
  obtain ⟨x, c, hv⟩ := hD.evs.isSlice
  rw [hv] at hcl c10
  generalize (st.L.map Ev.cells).length = n at hcl c10
  generalize p.D = D at c10 ⊢
  clear hD hG hv
  go_enter Tryz.func14, Tryz.ntmps14
  go_wp2_with (go_at_call 40; refine hcl.mono ?_; rintro y W1 ⟨v, rfl, ho, hb⟩)
  go_ret
  exact ⟨v, rfl, ho, hb⟩
def rinZ (T H : Nat) : List Value := [.slice none 0 0, .slice none 0 0, .int .u32 0, .int .u32 0, .int .u32 0, .int .u32 0, .int .u32 0, .int .u32 0, .int .u32 0, .int .u32 0, .pointer (some ⟨T, 0, none⟩), .pointer (some ⟨H, 0, none⟩)]
set_option maxHeartbeats 4000000 in
theorem rnew10_any (w : World) :
    Calls Tryz.prog 34 #[] w fun r w' => ∃ p, r = .returned (.pointer (some ⟨p.D, 0, none⟩)) ∧ RDocAt w' w.heap.size newS p ∧ GoodR newS p.K p.G ∧ Below w.heap.size w w' ∧ ∀ k, rdocP p k → w.heap.size ≤ k := by
  have hnt := rnewT_any w
  have HNB : Veil (∀ W, Calls Tryz.prog 22 #[] W fun r w' => r = .returned (.pointer (some ⟨W.heap.size, 0, none⟩)) ∧ RefB w.heap.size w' W.heap.size [] none 0 none 0 ∧ Below W.heap.size W w') := ⟨fun W => rbnew_any w.heap.size W⟩
  go_enter Tryz.func34, Tryz.ntmps34
  go_wp2_with (first
    | (go_at_call 67; refine hnt.mono ?_; rintro y W1 ⟨T, rfl, hT, hb1, hT1⟩; clear hnt)
    | (go_at_call 22; refine (HNB.out _).mono ?_; rintro y W2 ⟨rfl, hK, hb2⟩))
  go_ret
  have hb3 : Below W2.heap.size W2 (W2.alloc (.cells (rinZ T W1.heap.size).toArray 98)) := (Below.refl _ _).alloc (Nat.le_refl _) _
  have hlT := hT.box.lt
  have hlK := hK.cells.lt
  have hs1 := hb1.size
  have hs2 := hb2.size
  refine ⟨⟨W2.heap.size, T, .slice none 0 0, W1.heap.size, [], none, 0, none, 0, .slice none 0 0, .slice none 0 0, []⟩, rfl, ⟨CellsAt.new W2 98 (rinZ T W1.heap.size), (hT.far hb2).far hb3, hK.far hb3, OwnI.nil _ _ _ _, OwnI.nil _ _ _ _, (fun g q => by cases q), (fun g q => by cases q)⟩, GoodR.new, (hb1.trans (hb2.mono hs1)).trans (hb3.mono (Nat.le_trans hs1 hs2)), fun k q => ?_⟩
  rcases q with q | (q | q) | (q | q | q) | q | q
  · have : k = W2.heap.size := q; omega
  · have : k = T := q; omega
  · cases q
  · have : k = W1.heap.size := q; omega
  · cases q
  · cases q
  · cases q
  · cases q
end Go.Proofs.YtmbdohnmbkpfaaaGreat
