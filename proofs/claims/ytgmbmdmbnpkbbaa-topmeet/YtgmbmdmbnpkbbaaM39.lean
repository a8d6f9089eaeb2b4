/- Dc7 -/
import Derived.Test.YtgmbmdmbnpkbbaaM38
namespace Go.Proofs.Ytgmbmdmbnpkbbaa
open Go.RowKit Go.Shelf
set_option maxRecDepth 20000
set_option linter.unusedSimpArgs false
set_option maxHeartbeats 16000000 in
theorem dapply_any (base : Nat) (st : Ds) (p : Pl) (e : Ev) (w : World) (hD : DocAt w base st p) (hG : GoodD st) (he : e.Ok) (hr : refD st e = 0) (hbase : base ≤ w.heap.size) :
    Calls Try.prog 31 #[.pointer (some ⟨p.D, 0, none⟩), .agg e.cells.toArray] w fun r w' => (∃ q, r = .returned q) ∧ ∃ p', DocAt w' base (apS st e) p' ∧ DocTo p p' w w' := by
  obtain ⟨hright, -, -, hlen⟩ := refD_zero hr
  have hk : okKD e.kind := rightB_kind hright
  obtain ⟨a, ha8, hda⟩ : ∃ a : Nat, a < 8 ∧ e.da = (a : Int) := ⟨e.da.toNat, by have := rightB_author hright; have := he.dot.1.1; omega, by have := he.dot.1.1; omega⟩
  have hB0 : Below w.heap.size w (w.alloc (.cells e.cells.toArray 32)) := (Below.refl _ _).alloc (Nat.le_refl _) _
  have hx0 := CellsAt.new w 32 e.cells
  have he1 := aev_len e he.past
  have iE : (Try.prog.info? 32).map (·.size) = some e.cells.length := by rw [he1]; kernel_rfl
  have iD : (Try.prog.info? 26).map (·.size) = some (dotC e.da e.ds).length := sizeDot
  have uE := Try.underlying32
  have uD := Try.underlying26
  have HT : Veil (∀ W, CellsAt W w.heap.size 32 e.cells → W.rangeAt w.heap.size 0 e.cells ∧ W.rangeAt w.heap.size 0 (dotC e.da e.ds) ∧ W.cell? ⟨w.heap.size, 10, none⟩ = some (.int .u8 e.kind) ∧ W.cell? ⟨w.heap.size, 0, none⟩ = some (.int .u8 (a : Int))) := ⟨fun W hx => by
    have h1 := hx.range 0 2
    rw [(ev_parts e he.past).1] at h1
    exact ⟨hx.wholeM, h1, (hx.cell 10).trans (ev_parts e he.past).2.2.1, (hx.cell 0).trans (by rw [← hda]; rfl)⟩⟩
  have HNE : Veil (¬ docP p w.heap.size) := ⟨fun q => by have := hD.blockLt _ q; omega⟩
  have HDE : Veil (∀ W, Calls Try.prog 47 #[.pointer (some ⟨p.D, 0, none⟩)] W fun r w' => ∃ mb, r = .returned (.map (some mb)) ∧ Below W.heap.size W w' ∧ (Instr.lookup 97 (.map (some mb)) (.int .u8 e.kind) false).run Try.prog w' = .ok (deedV p.D (deedF e.kind)) w') := ⟨fun W => (ddeeds_any p.D W).mono fun r w' ⟨mb, h1, h2, h3⟩ => ⟨mb, h1, h2, by
    have := h3.get keyEncKD Try.underlying97 (z := .nilFunc) (by kernel_rfl) e.kind hk
    rw [deedM_at p.D hk] at this
    exact this⟩⟩
  have HAC : Veil (∀ W, DocAt W base st p → base ≤ W.heap.size → Calls Try.prog (deedF e.kind) #[.pointer (some ⟨p.D, 0, none⟩), .agg e.cells.toArray] W fun r w' => r = .returned (.bool (actB st e)) ∧ ∃ p', DocAt w' base { st with N := actN st e, B := actK st e } p' ∧ DocTo p p' W w') := ⟨fun W h hb => dact_any base st p e W h hG he hk hb⟩
  have HFO : Veil (∀ W p', DocAt W base { st with N := actN st e, B := actK st e } p' → ∃ W', (Instr.mapUpdate 59 (.map (some p'.fm)) (.agg (dotC e.da e.ds).toArray) (.agg #[])).run Try.prog W = .ok () W' ∧ DocAt W' base { st with N := actN st e, B := actK st e, F := st.F ++ [e.dot] } p' ∧ DocTo p' p' W W') := ⟨fun W p' h => by
    obtain ⟨W', h1, h2, h3⟩ := h.force.store keyEncDF Try.underlying59 (by have := hG.flen; have := hG.llen; simp [maxLen]; omega) e.dot he.dot (.agg #[])
    rw [forM_snoc] at h2
    have h4 := h.forceTo (F' := st.F ++ [e.dot]) (by rw [List.length_append]; exact h2) h3
    exact ⟨W', h1, h4.1, h4.2⟩⟩
  have HEV : Veil (∀ W p' F, base ≤ W.heap.size → DocAt W base { st with N := actN st e, B := actK st e, F := F } p' → ∃ x c W7, (Builtin.append_ #[50, 50] 50 #[p'.v, .slice (some ⟨W.heap.size, 0, none⟩) 1 1]).run Try.prog (W.alloc (.cells e.cells.toArray 32)) = .ok (.slice x (st.L.length + 1) c) W7 ∧ W7.cell? ⟨p'.D, 10, none⟩ = some p'.v ∧ W7.frozen? ⟨p'.D, 10, none⟩ = false ∧ (∀ k, k < W.heap.size → p'.v.ownBlock ≠ some k → W7.heap[k]? = W.heap[k]?) ∧
      DocAt (W7.setCell ⟨p'.D, 10, none⟩ (.slice x (st.L.length + 1) c)) base { st with N := actN st e, B := actK st e, F := F, L := st.L ++ [e] } { p' with v := .slice x (st.L.length + 1) c } ∧ DocTo p' { p' with v := .slice x (st.L.length + 1) c } W (W7.setCell ⟨p'.D, 10, none⟩ (.slice x (st.L.length + 1) c))) := ⟨fun W p' F hb h => h.evTo hG.slen hb (by show st.L.length ≤ 1000; omega) e he.past⟩
  have HSE : Veil (∀ W p' F, DocAt W base { st with N := actN st e, B := actK st e, F := F, L := st.L ++ [e] } p' → W.cell? ⟨p'.D, 2 + a, none⟩ = some (.int .u32 (st.S[a]?.getD 0)) ∧ W.frozen? ⟨p'.D, 2 + a, none⟩ = false ∧ DocAt (W.setCell ⟨p'.D, 2 + a, none⟩ (.int .u32 (st.S[a]?.getD 0 + 1))) base { st with N := actN st e, B := actK st e, F := F, L := st.L ++ [e], S := stepS st.S e.da } p' ∧ DocTo p' p' W (W.setCell ⟨p'.D, 2 + a, none⟩ (.int .u32 (st.S[a]?.getD 0 + 1)))) := ⟨fun W p' F h => by
    have h1 := h.cS hG.slen a (.int .u32 (st.S[a]?.getD 0)) (by
      show (st.S.map (Value.int .u32))[a]? = _
      rw [List.getElem?_map, List.getElem?_eq_getElem (by rw [hG.slen]; exact ha8)]; rfl)
    have h2 := h.seenTo hG.slen a ha8 (st.S[a]?.getD 0 + 1)
    refine ⟨h1, h.box.frozen _, ?_, h2.2⟩
    have : stepS st.S e.da = st.S.set a (st.S[a]?.getD 0 + 1) := by unfold stepS; rw [hda, Int.toNat_natCast]
    rw [this]
    exact h2.1⟩
  obtain ⟨hs0, hs1⟩ : 0 ≤ st.S[a]?.getD 0 ∧ st.S[a]?.getD 0 ≤ 512 := by
    have hl : a < st.S.length := by rw [hG.slen]; exact ha8
    rw [List.getElem?_eq_getElem hl]
    have := hG.sval _ (List.getElem_mem hl)
    have := hG.llen
    simp only [Option.getD_some]
    omega
  have HRE : Veil (∀ F, (F = if actB st e = true then st.F ++ [e.dot] else st.F) → ({ st with N := actN st e, B := actK st e, F := F, L := st.L ++ [e], S := stepS st.S e.da } : Ds) = apS st e) := ⟨fun F h => by subst h; rfl⟩
  have HSL : Veil (st.S.length = 8) := ⟨hG.slen⟩
  have hD0 := hD.far hB0
  obtain ⟨E, hE⟩ : ∃ E, e.cells = E := ⟨_, rfl⟩
  rw [hE] at hB0 hx0 iE HT he1 hD0 HAC HEV
  rw [hE]
  have h17 : ∀ u ∈ E, u.oneCell' = true := by rw [← hE]; exact aev_one e
  have HONE := Veil.mk h17
  obtain ⟨DV, hDV⟩ : ∃ q, dotC e.da e.ds = q := ⟨_, rfl⟩
  rw [hDV] at HT iD HFO
  obtain ⟨KD, hKD⟩ : ∃ q, e.kind = q := ⟨_, rfl⟩
  rw [hKD] at HT HDE HAC
  obtain ⟨fk, hfk⟩ : ∃ q, deedF KD = q := ⟨_, rfl⟩
  rw [hfk] at HDE HAC
  have HFK : Veil (fk = 59 ∨ fk = 60 ∨ fk = 61) := ⟨by
    rw [← hfk]
    unfold deedF
    split
    · exact .inl rfl
    · split
      · exact .inr (.inl rfl)
      · exact .inr (.inr rfl)⟩
  unfold deedV at HDE
  obtain ⟨D, hDD⟩ : ∃ q, p.D = q := ⟨_, rfl⟩
  have HPD := Veil.mk hDD
  rw [hDD] at HDE HAC ⊢
  generalize st.S[a]?.getD 0 = sv at HSE hs0 hs1
  generalize actB st e = AB at HAC HRE
  generalize st.L.length + 1 = l1 at HEV
  have hws : IntKind.u32.wrap (sv + 1) = sv + 1 := by rw [IntKind.wrap_u32]; omega
  have ha0 : (0 : Int) ≤ (a : Int) := by omega
  have ha9 : (a : Int) < 8 := by omega
  have hta : ((a : Int)).toNat = a := Int.toNat_natCast a
  clear hr hG he hk hright hE hDV hKD hfk hDD hD hlen hda h17 hs0 hs1
  go_enter Try.func31, Try.ntmps31
  go_upto_region 1 with fail
  refine forget (p := fun y => Code.wp _ _ _ _ y) (fun W => Below w.heap.size w W ∧ CellsAt W w.heap.size 32 E ∧ DocAt W base st p) ⟨hB0, hx0, hD0⟩ ?_
  clear hB0 hx0 hD0
  rintro W ⟨hB, hx, hD⟩
  have H1 := Veil.mk (And.intro hB (And.intro hx hD))
  have hb0 : Below W.heap.size W W.drew := (Below.refl _ _).drew
  have hT : (fun W : World => W.rangeAt w.heap.size 0 E ∧ W.rangeAt w.heap.size 0 DV ∧ W.cell? ⟨w.heap.size, 10, none⟩ = some (.int .u8 KD) ∧ W.cell? ⟨w.heap.size, 0, none⟩ = some (.int .u8 (a : Int))) W.drew := HT.out _ (hx.farM hb0)
  have hS : (fun _ : World => True) W.drew := trivial
  clear hB hx hD
  refine wp_region_gateT (fun W : World => W.rangeAt w.heap.size 0 E ∧ W.rangeAt w.heap.size 0 DV ∧ W.cell? ⟨w.heap.size, 10, none⟩ = some (.int .u8 KD) ∧ W.cell? ⟨w.heap.size, 0, none⟩ = some (.int .u8 (a : Int))) (fun _ => True) 99 (by kernel_rfl) ?_
  refine wpAnyT_held (i := 0) (v := ?_) rfl (by kernel_rfl) (by kernel_rfl) (by kernel_rfl) (fun _ _ _ h => h) (by kernel_rfl) hT (fun _ => hS) (by kernel_rfl) ?_ ?_
  rotate_left
  · intro wx hSw; go_split_ands; go_simp; try with_reducible rfl
  simp only [Act.put, List.getElem_toArray, List.getElem_cons_succ, List.getElem_cons_zero, List.setIfInBounds_toArray, List.set_cons_zero, List.set_cons_succ]
  refine wpAnyT_held (i := 2) (v := ?_) rfl (by kernel_rfl) (by kernel_rfl) (by kernel_rfl) (fun _ _ _ h => h) (by kernel_rfl) hT (fun _ => hS) (by kernel_rfl) ?_ ?_
  rotate_left
  · intro wx hSw; go_split_ands; go_simp; try with_reducible rfl
  simp only [Act.put, List.getElem_toArray, List.getElem_cons_succ, List.getElem_cons_zero, List.setIfInBounds_toArray, List.set_cons_zero, List.set_cons_succ]
  refine wpAnyT_held (i := 3) (v := ?_) rfl (by kernel_rfl) (by kernel_rfl) (by kernel_rfl) (fun _ _ _ h => h) (by kernel_rfl) hT (fun _ => hS) (by kernel_rfl) ?_ ?_
  rotate_left
  · intro wx hSw; go_split_ands; go_simp; try with_reducible rfl
  simp only [Act.put, List.getElem_toArray, List.getElem_cons_succ, List.getElem_cons_zero, List.setIfInBounds_toArray, List.set_cons_zero, List.set_cons_succ]
  refine wpAnyT_load (i := 5) (dst := some 9) (ty := 32) (x := .tmp 3) (b := w.heap.size) (o := (0)) (cs := E) (by kernel_rfl) (by kernel_rfl) (by kernel_rfl) (by kernel_rfl) (by kernel_rfl) (fun _ _ _ h => h) (by kernel_rfl) hT (fun _ => hS) (by kernel_rfl) (fun _ h => h.1) uE rfl iE ?_
  simp only [Act.put, List.getElem_toArray, List.getElem_cons_succ, List.getElem_cons_zero, List.setIfInBounds_toArray, List.set_cons_zero, List.set_cons_succ]
  refine wpAnyT_one (i := 1) rfl (by kernel_rfl) (by kernel_rfl) (fun K hK => ?_)
  refine wpx_call _ _ (by kernel_rfl) ((HDE.out _).mono ?_)
  rintro y W2 ⟨mb, rfl, hb2, hlk⟩
  refine ⟨_, rfl, ?_⟩
  replace hb2 : Below W.heap.size W W2 := hb0.trans hb2
  have H2 : Veil (Below w.heap.size w W2 ∧ CellsAt W2 w.heap.size 32 E ∧ DocAt W2 base st p) := ⟨H1.out.1.trans (hb2.mono H1.out.1.size), H1.out.2.1.farM hb2, H1.out.2.2.far hb2⟩
  replace hT := HT.out W2 H2.out.2.1
  replace hS : (fun _ : World => True) W2 := trivial
  clear hb2 hb0 H1 HDE
  refine hK.out _ _ hT (fun _ => hS) ?_
  clear hK K
  try simp only [Act.put, List.getElem_toArray, List.getElem_cons_succ, List.getElem_cons_zero, List.setIfInBounds_toArray, List.set_cons_zero, List.set_cons_succ]
  refine wpAnyT_one (i := 4) rfl (by kernel_rfl) (by kernel_rfl) (fun K hK => ?_)
  refine wpx_look _ _ _ _ rfl _ _ _ _ rfl rfl hlk ?_
  clear hlk
  refine hK.out _ _ hT (fun _ => hS) ?_
  clear hK K
  try simp only [Act.put, List.getElem_toArray, List.getElem_cons_succ, List.getElem_cons_zero, List.setIfInBounds_toArray, List.set_cons_zero, List.set_cons_succ]
  refine wpAnyT_one (i := 6) rfl (by kernel_rfl) (by kernel_rfl) (fun K hK => ?_)
  refine wpx_call fk #[.pointer (some ⟨D, 0, none⟩), .agg E.toArray] (by clear HAC; rcases HFK.out with rfl | rfl | rfl <;> kernel_rfl) ((HAC.out _ H2.out.2.2 (Nat.le_trans hbase H2.out.1.size)).mono ?_)
  rintro y W3 ⟨rfl, p3, hD3, ht3⟩
  refine ⟨_, rfl, ?_⟩
  have hx3 := H2.out.2.1.congr (ht3.turn.block _ H2.out.2.1.lt HNE.out)
  have hs3 := Nat.le_trans H2.out.1.size ht3.turn.size
  have ht3w := (DocTo.of_below H2.out.1).trans ht3
  have HNE3 : Veil (¬ docP p3 w.heap.size) := ⟨fun q => by
    rcases ht3.own _ q with r | r
    · exact HNE.out r
    · have := H2.out.2.1.lt; omega⟩
  have HP3 : Veil (p3.D = D) := ⟨ht3.at_.trans HPD.out⟩
  replace hT := HT.out W3 hx3
  replace hS : (fun _ : World => True) W3 := trivial
  have H3 := Veil.mk (And.intro hD3 (And.intro hx3 (And.intro hs3 ht3w)))
  clear hD3 hx3 hs3 ht3w ht3 H2 HAC
  refine hK.out _ _ hT (fun _ => hS) ?_
  clear hK K
  try simp only [Act.put, List.getElem_toArray, List.getElem_cons_succ, List.getElem_cons_zero, List.setIfInBounds_toArray, List.set_cons_zero, List.set_cons_succ]
  refine wpAnyT_done (by kernel_rfl) ?_ _
  clear hT hS
  clear W W2
  cases AB
  case' true =>
    obtain ⟨W4, hup, hD4, ht4⟩ := HFO.out W3.drew p3 (H3.out.1.far (Below.refl _ _).drew)
    have hx4 := H3.out.2.1.congr (ht4.turn.block _ H3.out.2.1.lt HNE3.out)
    have hT : (fun W : World => W.rangeAt w.heap.size 0 DV ∧ W.cell? ⟨D, 11, none⟩ = some (.map (some p3.fm))) W3.drew := ⟨(HT.out W3.drew (H3.out.2.1.farM (Below.refl _ _).drew)).2.1, by have := (H3.out.1.far (Below.refl W3.heap.size W3).drew).cF HSL.out; rw [HP3.out] at this; exact this⟩
    have hS : (fun _ : World => True) W3.drew := trivial
    go_upto_region 2 with fail
    refine wp_region_gateT (fun W : World => W.rangeAt w.heap.size 0 DV ∧ W.cell? ⟨D, 11, none⟩ = some (.map (some p3.fm))) (fun _ => True) 99 (by kernel_rfl) ?_
    refine wpAnyT_held (i := 0) (v := ?_) rfl (by kernel_rfl) (by kernel_rfl) (by kernel_rfl) (fun _ _ _ h => h) (by kernel_rfl) hT (fun _ => hS) (by kernel_rfl) ?_ ?_
    rotate_left
    · intro wx hSw; go_split_ands; go_simp; try with_reducible rfl
    simp only [Act.put, List.getElem_toArray, List.getElem_cons_succ, List.getElem_cons_zero, List.setIfInBounds_toArray, List.set_cons_zero, List.set_cons_succ]
    refine wpAnyT_held (i := 1) (v := ?_) rfl (by kernel_rfl) (by kernel_rfl) (by kernel_rfl) (fun _ _ _ h => h) (by kernel_rfl) hT (fun _ => hS) (by kernel_rfl) ?_ ?_
    rotate_left
    · intro wx hSw; go_split_ands; go_simp; try with_reducible rfl
    simp only [Act.put, List.getElem_toArray, List.getElem_cons_succ, List.getElem_cons_zero, List.setIfInBounds_toArray, List.set_cons_zero, List.set_cons_succ]
    refine wpAnyT_held (i := 2) (v := ?_) rfl (by kernel_rfl) (by kernel_rfl) (by kernel_rfl) (fun _ _ _ h => h) (by kernel_rfl) hT (fun _ => hS) (by kernel_rfl) ?_ ?_
    rotate_left
    · intro wx hSw; go_split_ands; go_simp; try with_reducible rfl
    simp only [Act.put, List.getElem_toArray, List.getElem_cons_succ, List.getElem_cons_zero, List.setIfInBounds_toArray, List.set_cons_zero, List.set_cons_succ]
    refine wpAnyT_held (i := 3) (v := ?_) rfl (by kernel_rfl) (by kernel_rfl) (by kernel_rfl) (fun _ _ _ h => h) (by kernel_rfl) hT (fun _ => hS) (by kernel_rfl) ?_ ?_
    rotate_left
    · intro wx hSw; go_split_ands; go_simp; try with_reducible rfl
    simp only [Act.put, List.getElem_toArray, List.getElem_cons_succ, List.getElem_cons_zero, List.setIfInBounds_toArray, List.set_cons_zero, List.set_cons_succ]
    refine wpAnyT_held (i := 4) (v := ?_) rfl (by kernel_rfl) (by kernel_rfl) (by kernel_rfl) (fun _ _ _ h => h) (by kernel_rfl) hT (fun _ => hS) (by kernel_rfl) ?_ ?_
    rotate_left
    · intro wx hSw; go_split_ands; go_simp; try with_reducible rfl
    simp only [Act.put, List.getElem_toArray, List.getElem_cons_succ, List.getElem_cons_zero, List.setIfInBounds_toArray, List.set_cons_zero, List.set_cons_succ]
    refine wpAnyT_load (i := 5) (dst := some 16) (ty := 26) (x := .tmp 15) (b := w.heap.size) (o := (0)) (cs := DV) (by kernel_rfl) (by kernel_rfl) (by kernel_rfl) (by kernel_rfl) (by kernel_rfl) (fun _ _ _ h => h) (by kernel_rfl) hT (fun _ => hS) (by kernel_rfl) (fun _ h => h.1) uD rfl iD ?_
    simp only [Act.put, List.getElem_toArray, List.getElem_cons_succ, List.getElem_cons_zero, List.setIfInBounds_toArray, List.set_cons_zero, List.set_cons_succ]
    refine wpAnyT_held (i := 6) (v := ?_) rfl (by kernel_rfl) (by kernel_rfl) (by kernel_rfl) (fun _ _ _ h => h) (by kernel_rfl) hT (fun _ => hS) (by kernel_rfl) ?_ ?_
    rotate_left
    · intro wx hSw; go_split_ands; go_simp; try with_reducible rfl
    simp only [Act.put, List.getElem_toArray, List.getElem_cons_succ, List.getElem_cons_zero, List.setIfInBounds_toArray, List.set_cons_zero, List.set_cons_succ]
    refine wpAnyT_one (i := 7) rfl (by kernel_rfl) (by kernel_rfl) (fun K hK => ?_)
    refine wpx_upd _ _ _ _ rfl _ _ _ _ rfl rfl rfl hup ?_
    replace hT : (fun W : World => W.rangeAt w.heap.size 0 DV ∧ W.cell? ⟨D, 11, none⟩ = some (.map (some p3.fm))) W4 := ⟨(HT.out W4 hx4).2.1, by have := hD4.cF HSL.out; rw [HP3.out] at this; exact this⟩
    replace hS : (fun _ : World => True) W4 := trivial
    refine hK.out _ _ hT (fun _ => hS) ?_
    clear hK K
    try simp only [Act.put, List.getElem_toArray, List.getElem_cons_succ, List.getElem_cons_zero, List.setIfInBounds_toArray, List.set_cons_zero, List.set_cons_succ]
    refine wpAnyT_done (by kernel_rfl) ?_ _
    have H4 : Veil (DocAt W4 base { st with N := actN st e, B := actK st e, F := st.F ++ [e.dot] } p3 ∧ CellsAt W4 w.heap.size 32 E ∧ w.heap.size ≤ W4.heap.size ∧ DocTo p p3 w W4) := ⟨hD4, hx4, Nat.le_trans H3.out.2.2.1 ht4.turn.size, H3.out.2.2.2.trans ((DocTo.of_below (Below.refl _ _).drew).trans ht4)⟩
    have HR4 := Veil.mk (HRE.out (st.F ++ [e.dot]) rfl)
    generalize st.F ++ [e.dot] = FF at H4 HR4
    clear hT hS hD4 ht4 hx4 hup H3 HRE HFO
    clear W3
    go_upto_region 3 with fail
  case' false =>
    have HR4 := Veil.mk (HRE.out st.F rfl)
    have H4 : Veil (DocAt W3 base { st with N := actN st e, B := actK st e, F := st.F } p3 ∧ CellsAt W3 w.heap.size 32 E ∧ w.heap.size ≤ W3.heap.size ∧ DocTo p p3 w W3) := ⟨H3.out.1, H3.out.2.1, H3.out.2.2.1, H3.out.2.2.2⟩
    generalize hFF : st.F = FF at H4 HR4
    clear H3 HRE HFO hFF
    rename World => W4
    go_upto_region 3 with fail
  all_goals
    have hb0 : Below W4.heap.size W4 W4.drew := (Below.refl _ _).drew
    obtain ⟨x, c, W7, hrun, hc10, hf10, hblk, hD8, ht8⟩ := HEV.out W4.drew p3 FF (Nat.le_trans hbase H4.out.2.2.1) (H4.out.1.far hb0)
    have hv3 : W4.drew.cell? ⟨D, 10, none⟩ = some p3.v := by have := (H4.out.1.far hb0).cV HSL.out; rw [HP3.out] at this; exact this
    have hneD : w.heap.size ≠ p3.D := fun q => HNE3.out (.inl q)
    have hneV : p3.v.ownBlock ≠ some w.heap.size := fun q => HNE3.out (.inr (.inr (.inr (.inr (.inl q)))))
    have hx4 : CellsAt W4.drew w.heap.size 32 E := H4.out.2.1.farM hb0
    have hx7 : CellsAt W7 w.heap.size 32 E := hx4.congr (hblk _ hx4.lt hneV)
    have hx8 : CellsAt (W7.setCell ⟨p3.D, 10, none⟩ (.slice x l1 c)) w.heap.size 32 E := hx7.congr (Below.heap_setCell _ _ _ _ hneD)
    obtain ⟨hc2, hf2, hD9, ht9⟩ := HSE.out _ _ _ hD8
    have hDo : ({ p3 with v := .slice x l1 c } : Pl).D = p3.D := rfl
    rw [hDo] at hc2 hf2 hD9 ht9
    rw [HP3.out] at hc10 hf10 hc2 hf2 hD9 ht9 hx8 hD8 ht8
    have hca : (W4.drew.alloc (.cells E.toArray 32)).cell? ⟨D, 10, none⟩ = some p3.v := by
      have := ((H4.out.1.far hb0).far ((Below.refl _ _).alloc (Nat.le_refl _) (.cells E.toArray 32))).cV HSL.out
      rw [HP3.out] at this; exact this
    have hra := (hx4.alloc (.cells E.toArray 32)).wholeM
    have hr4 := hx4.wholeM
    have hr7 := hx7.wholeM
    have hda0 := (HT.out _ hx8).2.2.2
    have HFIN : Veil (∃ q, DocAt ((W7.setCell ⟨D, 10, none⟩ (.slice x l1 c)).setCell ⟨D, 2 + a, none⟩ (.int .u32 (sv + 1))) base (apS st e) q ∧ DocTo p q w ((W7.setCell ⟨D, 10, none⟩ (.slice x l1 c)).setCell ⟨D, 2 + a, none⟩ (.int .u32 (sv + 1)))) := ⟨_, by rw [← HR4.out]; exact hD9, H4.out.2.2.2.trans ((DocTo.of_below hb0).trans (ht8.trans ht9))⟩
    obtain ⟨x0, c0, hv0⟩ := H4.out.1.evs.isSlice
    rw [hv0] at hv3 hca hc10 hrun
    generalize (List.map Ev.cells _).length = l0 at hv3 hca hc10 hrun
    have uS := Try.underlying50
    clear hblk hD8 ht8 hneD hneV hx4 hx7 hx8 hD9 ht9 hDo hb0 H4 HR4 HSE HEV hv0
    refine wp_region_gate (fun w' : World => w'.cell? ⟨D, 10, none⟩ = some (.slice x0 l0 c0) ∧ w'.rangeAt w.heap.size 0 E) 10 (by kernel_rfl) ?_
    have hS : (fun w' : World => w'.cell? ⟨D, 10, none⟩ = some (.slice x0 l0 c0) ∧ w'.rangeAt w.heap.size 0 E) W4.drew := ⟨hv3, hr4⟩
    refine wpAnyG_any (i := 0) (v := ?_) rfl (by kernel_rfl) (by kernel_rfl) (by kernel_rfl) (fun _ _ _ h => h) (by kernel_rfl) (fun _ => hS) (by kernel_rfl) ?_ ?_
    rotate_left
    · intro _; go_simp; try with_reducible rfl
    simp only [Act.put, List.getElem_toArray, List.getElem_cons_succ, List.getElem_cons_zero, List.setIfInBounds_toArray, List.set_cons_zero, List.set_cons_succ]
    refine wpAnyG_any (i := 1) (v := ?_) rfl (by kernel_rfl) (by kernel_rfl) (by kernel_rfl) (fun _ _ _ h => h) (by kernel_rfl) (fun _ => hS) (by kernel_rfl) ?_ ?_
    rotate_left
    · intro _; go_simp; try with_reducible rfl
    simp only [Act.put, List.getElem_toArray, List.getElem_cons_succ, List.getElem_cons_zero, List.setIfInBounds_toArray, List.set_cons_zero, List.set_cons_succ]
    refine wpAnyG_any (i := 2) (v := ?_) rfl (by kernel_rfl) (by kernel_rfl) (by kernel_rfl) (fun _ _ _ h => h) (by kernel_rfl) (fun _ => hS) (by kernel_rfl) ?_ ?_
    rotate_left
    · intro _; go_simp; try with_reducible rfl
    simp only [Act.put, List.getElem_toArray, List.getElem_cons_succ, List.getElem_cons_zero, List.setIfInBounds_toArray, List.set_cons_zero, List.set_cons_succ]
    refine wpAnyG_any (i := 3) (v := ?_) rfl (by kernel_rfl) (by kernel_rfl) (by kernel_rfl) (fun _ _ _ h => h) (by kernel_rfl) (fun _ => hS) (by kernel_rfl) ?_ ?_
    rotate_left
    · intro _; go_simp; try with_reducible rfl
    simp only [Act.put, List.getElem_toArray, List.getElem_cons_succ, List.getElem_cons_zero, List.setIfInBounds_toArray, List.set_cons_zero, List.set_cons_succ]
    refine wpAnyG_read (i := 4) (v := ?_) rfl (by kernel_rfl) (by kernel_rfl) (by kernel_rfl) (fun _ _ _ h => h) (by kernel_rfl) (by kernel_rfl) (by kernel_rfl) hS (by kernel_rfl) ?_ ?_
    rotate_left
    · intro wx hSw; go_split_ands; go_simp; try with_reducible rfl
    simp only [Act.put, List.getElem_toArray, List.getElem_cons_succ, List.getElem_cons_zero, List.setIfInBounds_toArray, List.set_cons_zero, List.set_cons_succ]
    refine wpAnyG_load (i := 5) (dst := some 23) (ty := 32) (x := .tmp 3) (b := w.heap.size) (o := (0)) (cs := E) (by kernel_rfl) (by kernel_rfl) (by kernel_rfl) (by kernel_rfl) (by kernel_rfl) (fun _ _ _ h => h) (by kernel_rfl) (by kernel_rfl) (by kernel_rfl) hS (by kernel_rfl) (fun _ h => h.2) uE rfl iE ?_
    simp only [Act.put, List.getElem_toArray, List.getElem_cons_succ, List.getElem_cons_zero, List.setIfInBounds_toArray, List.set_cons_zero, List.set_cons_succ]
    refine wpAnyG_one (i := 6) rfl (by kernel_rfl) (by kernel_rfl) (fun K hK => ?_)
    refine wp_bs1 50 32 _ rfl E rfl uS infoE17D (by decide) (by decide) he1 ?_
    replace hS : (fun w' : World => w'.cell? ⟨D, 10, none⟩ = some (.slice x0 l0 c0) ∧ w'.rangeAt w.heap.size 0 E) (W4.drew.alloc (.cells E.toArray 32)) := ⟨hca, hra⟩
    refine hK.out _ _ (fun _ => hS) ?_
    clear hK K
    try simp only [Act.put, List.getElem_toArray, List.getElem_cons_succ, List.getElem_cons_zero, List.setIfInBounds_toArray, List.set_cons_zero, List.set_cons_succ]
    refine wpAnyG_one (i := 7) rfl (by kernel_rfl) (by kernel_rfl) (fun K hK => ?_)
    refine wpx_app _ _ 50 50 rfl _ _ _ W7 rfl rfl hrun ?_
    replace hS : (fun w' : World => w'.cell? ⟨D, 10, none⟩ = some (.slice x0 l0 c0) ∧ w'.rangeAt w.heap.size 0 E) W7 := ⟨hc10, hr7⟩
    refine hK.out _ _ (fun _ => hS) ?_
    clear hK K
    try simp only [Act.put, List.getElem_toArray, List.getElem_cons_succ, List.getElem_cons_zero, List.setIfInBounds_toArray, List.set_cons_zero, List.set_cons_succ]
    refine wpAnyG_any (i := 8) (v := ?_) rfl (by kernel_rfl) (by kernel_rfl) (by kernel_rfl) (fun _ _ _ h => h) (by kernel_rfl) (fun _ => hS) (by kernel_rfl) ?_ ?_
    rotate_left
    · intro _; go_simp; try with_reducible rfl
    simp only [Act.put, List.getElem_toArray, List.getElem_cons_succ, List.getElem_cons_zero, List.setIfInBounds_toArray, List.set_cons_zero, List.set_cons_succ]
    refine wpAnyG_any (i := 9) (v := ?_) rfl (by kernel_rfl) (by kernel_rfl) (by kernel_rfl) (fun _ _ _ h => h) (by kernel_rfl) (fun _ => hS) (by kernel_rfl) ?_ ?_
    rotate_left
    · intro _; go_simp; try with_reducible rfl
    simp only [Act.put, List.getElem_toArray, List.getElem_cons_succ, List.getElem_cons_zero, List.setIfInBounds_toArray, List.set_cons_zero, List.set_cons_succ]
    refine wpAnyG_one (i := 10) rfl (by kernel_rfl) (by kernel_rfl) (fun K hK => ?_)
    clear hv3 hca hr4 hra hr7 hrun
    go_simp
    refine hK.out _ _ (fun h => absurd (show true = false from h) (by decide)) ?_
    clear hK K
    try simp only [Act.put, List.getElem_toArray, List.getElem_cons_succ, List.getElem_cons_zero, List.setIfInBounds_toArray, List.set_cons_zero, List.set_cons_succ]
    refine wpAnyG_done (by kernel_rfl) ?_ _
    clear hS hc10 hf10
    generalize W7.setCell ⟨D, 10, none⟩ (.slice x l1 c) = W8 at hc2 hf2 hda0 HFIN ⊢
    go_upto_region 4 with fail
    refine wp_region_gate (fun w' : World => w'.cell? ⟨w.heap.size, 0, none⟩ = some (.int .u8 (a : Int)) ∧ w'.cell? ⟨D, 2 + a, none⟩ = some (.int .u32 sv)) 12 (by kernel_rfl) ?_
    have hS : (fun w' : World => w'.cell? ⟨w.heap.size, 0, none⟩ = some (.int .u8 (a : Int)) ∧ w'.cell? ⟨D, 2 + a, none⟩ = some (.int .u32 sv)) W8.drew := ⟨hda0, hc2⟩
    refine wpAnyG_any (i := 0) (v := ?_) rfl (by kernel_rfl) (by kernel_rfl) (by kernel_rfl) (fun _ _ _ h => h) (by kernel_rfl) (fun _ => hS) (by kernel_rfl) ?_ ?_
    rotate_left
    · intro _; go_simp; try with_reducible rfl
    simp only [Act.put, List.getElem_toArray, List.getElem_cons_succ, List.getElem_cons_zero, List.setIfInBounds_toArray, List.set_cons_zero, List.set_cons_succ]
    refine wpAnyG_any (i := 1) (v := ?_) rfl (by kernel_rfl) (by kernel_rfl) (by kernel_rfl) (fun _ _ _ h => h) (by kernel_rfl) (fun _ => hS) (by kernel_rfl) ?_ ?_
    rotate_left
    · intro _; go_simp; try with_reducible rfl
    simp only [Act.put, List.getElem_toArray, List.getElem_cons_succ, List.getElem_cons_zero, List.setIfInBounds_toArray, List.set_cons_zero, List.set_cons_succ]
    refine wpAnyG_any (i := 2) (v := ?_) rfl (by kernel_rfl) (by kernel_rfl) (by kernel_rfl) (fun _ _ _ h => h) (by kernel_rfl) (fun _ => hS) (by kernel_rfl) ?_ ?_
    rotate_left
    · intro _; go_simp; try with_reducible rfl
    simp only [Act.put, List.getElem_toArray, List.getElem_cons_succ, List.getElem_cons_zero, List.setIfInBounds_toArray, List.set_cons_zero, List.set_cons_succ]
    refine wpAnyG_read (i := 3) (v := ?_) rfl (by kernel_rfl) (by kernel_rfl) (by kernel_rfl) (fun _ _ _ h => h) (by kernel_rfl) (by kernel_rfl) (by kernel_rfl) hS (by kernel_rfl) ?_ ?_
    rotate_left
    · intro wx hSw; go_split_ands; go_simp; try with_reducible rfl
    simp only [Act.put, List.getElem_toArray, List.getElem_cons_succ, List.getElem_cons_zero, List.setIfInBounds_toArray, List.set_cons_zero, List.set_cons_succ]
    refine wpAnyG_any (i := 4) (v := ?_) rfl (by kernel_rfl) (by kernel_rfl) (by kernel_rfl) (fun _ _ _ h => h) (by kernel_rfl) (fun _ => hS) (by kernel_rfl) ?_ ?_
    rotate_left
    · intro _; go_simp; try with_reducible rfl
    simp only [Act.put, List.getElem_toArray, List.getElem_cons_succ, List.getElem_cons_zero, List.setIfInBounds_toArray, List.set_cons_zero, List.set_cons_succ]
    refine wpAnyG_any (i := 5) (v := ?_) rfl (by kernel_rfl) (by kernel_rfl) (by kernel_rfl) (fun _ _ _ h => h) (by kernel_rfl) (fun _ => hS) (by kernel_rfl) ?_ ?_
    rotate_left
    · intro _; go_simp; try with_reducible rfl
    simp only [Act.put, List.getElem_toArray, List.getElem_cons_succ, List.getElem_cons_zero, List.setIfInBounds_toArray, List.set_cons_zero, List.set_cons_succ]
    refine wpAnyG_any (i := 6) (v := ?_) rfl (by kernel_rfl) (by kernel_rfl) (by kernel_rfl) (fun _ _ _ h => h) (by kernel_rfl) (fun _ => hS) (by kernel_rfl) ?_ ?_
    rotate_left
    · intro _; go_simp; try with_reducible rfl
    simp only [Act.put, List.getElem_toArray, List.getElem_cons_succ, List.getElem_cons_zero, List.setIfInBounds_toArray, List.set_cons_zero, List.set_cons_succ]
    refine wpAnyG_read (i := 7) (v := ?_) rfl (by kernel_rfl) (by kernel_rfl) (by kernel_rfl) (fun _ _ _ h => h) (by kernel_rfl) (by kernel_rfl) (by kernel_rfl) hS (by kernel_rfl) ?_ ?_
    rotate_left
    · intro wx hSw; go_split_ands; go_simp; try with_reducible rfl
    simp only [Act.put, List.getElem_toArray, List.getElem_cons_succ, List.getElem_cons_zero, List.setIfInBounds_toArray, List.set_cons_zero, List.set_cons_succ]
    refine wpAnyG_any (i := 8) (v := ?_) rfl (by kernel_rfl) (by kernel_rfl) (by kernel_rfl) (fun _ _ _ h => h) (by kernel_rfl) (fun _ => hS) (by kernel_rfl) ?_ ?_
    rotate_left
    · intro _; go_simp; try with_reducible rfl
    simp only [Act.put, List.getElem_toArray, List.getElem_cons_succ, List.getElem_cons_zero, List.setIfInBounds_toArray, List.set_cons_zero, List.set_cons_succ]
    refine wpAnyG_any (i := 9) (v := ?_) rfl (by kernel_rfl) (by kernel_rfl) (by kernel_rfl) (fun _ _ _ h => h) (by kernel_rfl) (fun _ => hS) (by kernel_rfl) ?_ ?_
    rotate_left
    · intro _; go_simp; try with_reducible rfl
    simp only [Act.put, List.getElem_toArray, List.getElem_cons_succ, List.getElem_cons_zero, List.setIfInBounds_toArray, List.set_cons_zero, List.set_cons_succ]
    refine wpAnyG_any (i := 10) (v := ?_) rfl (by kernel_rfl) (by kernel_rfl) (by kernel_rfl) (fun _ _ _ h => h) (by kernel_rfl) (fun _ => hS) (by kernel_rfl) ?_ ?_
    rotate_left
    · intro _; go_simp; try with_reducible rfl
    simp only [Act.put, List.getElem_toArray, List.getElem_cons_succ, List.getElem_cons_zero, List.setIfInBounds_toArray, List.set_cons_zero, List.set_cons_succ]
    refine wpAnyG_any (i := 11) (v := ?_) rfl (by kernel_rfl) (by kernel_rfl) (by kernel_rfl) (fun _ _ _ h => h) (by kernel_rfl) (fun _ => hS) (by kernel_rfl) ?_ ?_
    rotate_left
    · intro _; go_simp; try with_reducible rfl
    simp only [Act.put, List.getElem_toArray, List.getElem_cons_succ, List.getElem_cons_zero, List.setIfInBounds_toArray, List.set_cons_zero, List.set_cons_succ]
    refine wpAnyG_one (i := 12) rfl (by kernel_rfl) (by kernel_rfl) (fun K hK => ?_)
    go_simp
    refine hK.out _ _ (fun h => absurd (show true = false from h) (by decide)) ?_
    clear hK K
    try simp only [Act.put, List.getElem_toArray, List.getElem_cons_succ, List.getElem_cons_zero, List.setIfInBounds_toArray, List.set_cons_zero, List.set_cons_succ]
    refine wpAnyG_done (by kernel_rfl) ?_ _
    clear hS hc2 hf2 hda0
    go_wp2
    go_end0
    obtain ⟨q, h1, h2⟩ := HFIN.out
    exact ⟨⟨_, rfl⟩, q, h1.far (Below.refl _ _).drew, h2.trans (DocTo.of_below (Below.refl _ _).drew)⟩
end Go.Proofs.Ytgmbmdmbnpkbbaa
