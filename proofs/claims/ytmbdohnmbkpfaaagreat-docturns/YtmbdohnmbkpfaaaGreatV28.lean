/- Dc4 -/
import Derived.Test.YtmbdohnmbkpfaaaGreatV27
import Derived.Test.YtmbdohnmbkpfaaaGreatV03
namespace Go.Proofs.YtmbdohnmbkpfaaaGreat
open Go.RowKit Go.Shelf
set_option maxRecDepth 20000
set_option linter.unusedSimpArgs false
set_option maxHeartbeats 8000000 in
theorem dinsert_any (base : Nat) (st : Ds) (p : Pl) (e : Ev) (w : World) (hD : DocAt w base st p) (hG : GoodD st) (he : e.Ok) (hbase : base ≤ w.heap.size) :
    Calls Tryz.prog 96 #[.pointer (some ⟨p.D, 0, none⟩), .agg e.cells.toArray] w fun r w' => r = .returned (.bool (mayB st e 2 && (refI st.N e.nd == 0))) ∧ ∃ p', DocAt w' base { st with N := if mayB st e 2 = true then insN st.N e.nd else st.N } p' ∧ DocTo p p' w w' := by
 have hB0 : Below w.heap.size w (w.alloc (.cells e.cells.toArray 44)) := (Below.refl _ _).alloc (Nat.le_refl _) _
 have hx0 := CellsAt.new w 44 e.cells
 have he1 := aev_len e he.past
 have iE : (Tryz.prog.info? 44).map (·.size) = some e.cells.length := by rw [he1]; kernel_rfl
 have iD : (Tryz.prog.info? 40).map (·.size) = some (dotC e.da e.ds).length := sizeDot
 have iP : (Tryz.prog.info? 40).map (·.size) = some (dotC e.pa e.ps).length := sizeDot
 have uE := Tryz.underlying44
 have uD := Tryz.underlying40
 have HAL : Veil (∀ W, DocAt W base st p → Calls Tryz.prog 113 #[.pointer (some ⟨p.D, 0, none⟩), .agg e.cells.toArray, .int .u8 2] W fun r w' => r = .returned (.bool (mayB st e 2)) ∧ Below W.heap.size W w') := ⟨fun W h => dallowed_any base st p e 2 W h hG he⟩
 have HCA : Veil (∀ W, DocAt W base st p → base ≤ W.heap.size → Calls Tryz.prog 114 #[.pointer (some ⟨p.R, 0, none⟩), .agg (dotC e.da e.ds).toArray, .agg (dotC e.pa e.ps).toArray, .bool e.right, .int .u8 e.char] W fun r w' => r = .returned (.int .i64 (refI st.N e.nd)) ∧ ∃ V', DocAt w' base { st with N := insN st.N e.nd } { p with V := V' } ∧ DocTo p { p with V := V' } W w' ∧ CellsAt w' p.D 75 (docC st p)) := ⟨fun W h hb => (insT_any base p.R p.bc p.bn st.N p.V e.nd he.dot he.par (by have := hG.nlen; have := hG.llen; omega) W hb h.tree).mono fun r w' ⟨h1, V', h2, h3⟩ => ⟨h1, V', (h.treeTo h2 h3).1, (h.treeTo h2 h3).2, (h.treeTo h2 h3).1.box⟩⟩
 generalize e.nd = nd at HCA ⊢
 have HT : Veil (∀ W, CellsAt W p.D 75 (docC st p) → CellsAt W w.heap.size 44 e.cells → W.rangeAt w.heap.size 0 e.cells ∧ W.rangeAt w.heap.size 0 (dotC e.da e.ds) ∧ W.rangeAt w.heap.size 11 (dotC e.pa e.ps) ∧ W.cell? ⟨w.heap.size, 13, none⟩ = some (.bool e.right) ∧ W.cell? ⟨w.heap.size, 14, none⟩ = some (.int .u8 e.char) ∧ W.cell? ⟨p.D, 0, none⟩ = some (.pointer (some ⟨p.R, 0, none⟩)) ∧ W.cell? ⟨p.D, 1, none⟩ = some (.pointer (some ⟨p.H, 0, none⟩))) := ⟨fun W hb hx => by
  have h1 := hx.range 0 2
  rw [(ev_parts e he.past).1] at h1
  have h2 := hx.range 11 2
  rw [(ev_parts e he.past).2.2.2.1] at h2
  exact ⟨hx.wholeM, h1, h2, (hx.cell 13).trans (ev_parts e he.past).2.2.2.2.1, (hx.cell 14).trans (ev_parts e he.past).2.2.2.2.2.1, (hb.cell 0).trans (docC_parts st p hG.slen).1, (hb.cell 1).trans (docC_parts st p hG.slen).2.1⟩⟩
 have HNE : Veil (¬ docP p w.heap.size) := ⟨fun q => by have := hD.blockLt _ q; omega⟩
 have hD0 := hD.far hB0
 generalize mayB st e 2 = MB at HAL ⊢
 obtain ⟨E, hE⟩ : ∃ E, e.cells = E := ⟨_, rfl⟩
 rw [hE] at hB0 hx0 iE HAL HT he1 hD0
 try rw [hE] at HCA
 rw [hE]
 obtain ⟨DV, hDV⟩ : ∃ q, dotC e.da e.ds = q := ⟨_, rfl⟩
 obtain ⟨PV, hPV⟩ : ∃ q, dotC e.pa e.ps = q := ⟨_, rfl⟩
 obtain ⟨rt, hrt⟩ : ∃ q, e.right = q := ⟨_, rfl⟩
 obtain ⟨ch, hch⟩ : ∃ q, e.char = q := ⟨_, rfl⟩
 rw [hDV, hPV, hrt, hch] at HT
 rw [hDV] at iD
 rw [hPV] at iP
 try rw [hDV] at HCA
 try rw [hPV] at HCA
 try rw [hrt] at HCA
 try rw [hch] at HCA
 clear hDV hPV hrt hch
 have HDR : Veil (∀ W, DocAt W base st p → CellsAt W p.D 75 (docC st p)) := ⟨fun W h => h.box⟩
 obtain ⟨D, hDD⟩ : ∃ q, p.D = q := ⟨_, rfl⟩
 obtain ⟨R, hRR⟩ : ∃ q, p.R = q := ⟨_, rfl⟩
 obtain ⟨H, hHH⟩ : ∃ q, p.H = q := ⟨_, rfl⟩
 rw [hDD] at HT HAL HDR HCA ⊢
 rw [hRR, hHH] at HT
 try rw [hRR] at HCA
 try rw [hHH] at HCA
 clear he hE hG hDD hRR hHH hD
 go_enter Tryz.func96, Tryz.ntmps96
 go_upto_region 1 with fail
 refine forget (p := fun y => Code.wp _ _ _ _ y) (fun W => Below w.heap.size w W ∧ CellsAt W w.heap.size 44 E ∧ DocAt W base st p) ⟨hB0, hx0, hD0⟩ ?_
 clear hB0 hx0 hD0
 rintro W ⟨hB, hx, hD⟩
 have H1 := Veil.mk (And.intro hB (And.intro hx hD))
 have hb0 : Below W.heap.size W W.drew := (Below.refl _ _).drew
 have hT : (fun W : World => W.rangeAt w.heap.size 0 E ∧ W.rangeAt w.heap.size 0 DV ∧ W.rangeAt w.heap.size 11 PV ∧ W.cell? ⟨w.heap.size, 13, none⟩ = some (.bool rt) ∧ W.cell? ⟨w.heap.size, 14, none⟩ = some (.int .u8 ch) ∧ W.cell? ⟨D, 0, none⟩ = some (.pointer (some ⟨R, 0, none⟩)) ∧ W.cell? ⟨D, 1, none⟩ = some (.pointer (some ⟨H, 0, none⟩))) W.drew := HT.out _ (HDR.out _ (hD.far hb0)) (hx.farM hb0)
 have hS : (fun _ : World => True) W.drew := trivial
 have hal := HAL.out _ (hD.far hb0)
 clear hB hx hD HAL
 refine wp_region_gateT (fun W : World => W.rangeAt w.heap.size 0 E ∧ W.rangeAt w.heap.size 0 DV ∧ W.rangeAt w.heap.size 11 PV ∧ W.cell? ⟨w.heap.size, 13, none⟩ = some (.bool rt) ∧ W.cell? ⟨w.heap.size, 14, none⟩ = some (.int .u8 ch) ∧ W.cell? ⟨D, 0, none⟩ = some (.pointer (some ⟨R, 0, none⟩)) ∧ W.cell? ⟨D, 1, none⟩ = some (.pointer (some ⟨H, 0, none⟩))) (fun _ => True) 99 (by kernel_rfl) ?_
 refine ghA 0 _ hT hS ?_
 simp only [Act.put, gA, gS, gZ, sI, sZ, sS]
 refine gl 1 6 44 3 w.heap.size 0 E (by kernel_rfl) (by kernel_rfl) (by kernel_rfl) (fun _ _ _ h => h) hT hS (by kernel_rfl) (fun _ h => h.1) uE rfl iE ?_
 simp only [Act.put, gA, gS, gZ, sI, sZ, sS]
 refine wpAnyT_one (i := 2) rfl (by kernel_rfl) (by kernel_rfl) (fun K hK => ?_)
 refine wpx_call _ _ (by kernel_rfl) (hal.mono ?_)
 rintro y W2 ⟨rfl, hb2⟩
 refine ⟨_, rfl, ?_⟩
 replace hb2 : Below W.heap.size W W2 := hb0.trans hb2
 have H2 : Veil (Below w.heap.size w W2 ∧ CellsAt W2 w.heap.size 44 E ∧ DocAt W2 base st p) := ⟨H1.out.1.trans (hb2.mono H1.out.1.size), H1.out.2.1.farM hb2, H1.out.2.2.far hb2⟩
 replace hT := HT.out W2 (HDR.out _ H2.out.2.2) H2.out.2.1
 replace hS : (fun _ : World => True) W2 := trivial
 clear hal hb2 hb0 H1
 refine hK.out _ _ hT (fun _ => hS) ?_
 clear hK K
 try simp only [Act.put, gA, gS, gZ, sI, sZ, sS]
 cases MB
 · have hmf := trivial
   refine ghA 3 _ hT hS ?_
   simp only [Act.put, gA, gS, gZ, sI, sZ, sS]
   refine gs 4 hT hS ?_
   simp only [Act.put, gA, gS, gZ, sI, sZ, sS]
   refine gs 5 hT hS ?_
   simp only [Act.put, gA, gS, gZ, sI, sZ, sS]
   refine gs 6 hT hS ?_
   simp only [Act.put, gA, gS, gZ, sI, sZ, sS]
   refine gs 7 hT hS ?_
   simp only [Act.put, gA, gS, gZ, sI, sZ, sS]
   refine gs 8 hT hS ?_
   simp only [Act.put, gA, gS, gZ, sI, sZ, sS]
   refine gs 9 hT hS ?_
   simp only [Act.put, gA, gS, gZ, sI, sZ, sS]
   refine gs 10 hT hS ?_
   simp only [Act.put, gA, gS, gZ, sI, sZ, sS]
   refine gs 11 hT hS ?_
   simp only [Act.put, gA, gS, gZ, sI, sZ, sS]
   refine gs 12 hT hS ?_
   simp only [Act.put, gA, gS, gZ, sI, sZ, sS]
   refine gs 13 hT hS ?_
   simp only [Act.put, gA, gS, gZ, sI, sZ, sS]
   refine gs 14 hT hS ?_
   simp only [Act.put, gA, gS, gZ, sI, sZ, sS]
   refine gs 15 hT hS ?_
   simp only [Act.put, gA, gS, gZ, sI, sZ, sS]
   refine gs 16 hT hS ?_
   simp only [Act.put, gA, gS, gZ, sI, sZ, sS]
   refine gs 17 hT hS ?_
   simp only [Act.put, gA, gS, gZ, sI, sZ, sS]
   refine ghA 18 _ hT hS ?_
   simp only [Act.put, gA, gS, gZ, sI, sZ, sS]
   refine ghA 19 _ hT hS ?_
   simp only [Act.put, gA, gS, gZ, sI, sZ, sS]
   refine wpAnyT_done (by kernel_rfl) ?_ _
   clear hT hS
   go_wp2
   go_ret
   exact ⟨ret_bC (by simp), p, H2.out.2.2, DocTo.of_below H2.out.1⟩
 · have hca := HCA.out W2 H2.out.2.2 (Nat.le_trans hbase H2.out.1.size)
   refine ghA 3 _ hT hS ?_
   simp only [Act.put, gA, gS, gZ, sI, sZ, sS]
   refine ghA 4 _ hT hS ?_
   simp only [Act.put, gA, gS, gZ, sI, sZ, sS]
   refine ghA 5 _ hT hS ?_
   simp only [Act.put, gA, gS, gZ, sI, sZ, sS]
   refine ghA 6 _ hT hS ?_
   simp only [Act.put, gA, gS, gZ, sI, sZ, sS]
   refine ghA 7 _ hT hS ?_
   simp only [Act.put, gA, gS, gZ, sI, sZ, sS]
   refine ghA 8 _ hT hS ?_
   simp only [Act.put, gA, gS, gZ, sI, sZ, sS]
   refine gl 9 14 40 13 w.heap.size 0 DV (by kernel_rfl) (by kernel_rfl) (by kernel_rfl) (fun _ _ _ h => h) hT hS (by kernel_rfl) (fun _ h => h.2.1) uD rfl iD ?_
   simp only [Act.put, gA, gS, gZ, sI, sZ, sS]
   refine ghA 10 _ hT hS ?_
   simp only [Act.put, gA, gS, gZ, sI, sZ, sS]
   refine gl 11 16 40 15 w.heap.size 11 PV (by kernel_rfl) (by kernel_rfl) (by kernel_rfl) (fun _ _ _ h => h) hT hS (by kernel_rfl) (fun _ h => h.2.2.1) uD rfl iP ?_
   simp only [Act.put, gA, gS, gZ, sI, sZ, sS]
   refine ghA 12 _ hT hS ?_
   simp only [Act.put, gA, gS, gZ, sI, sZ, sS]
   refine ghA 13 _ hT hS ?_
   simp only [Act.put, gA, gS, gZ, sI, sZ, sS]
   refine ghA 14 _ hT hS ?_
   simp only [Act.put, gA, gS, gZ, sI, sZ, sS]
   refine ghA 15 _ hT hS ?_
   simp only [Act.put, gA, gS, gZ, sI, sZ, sS]
   refine wpAnyT_one (i := 16) rfl (by kernel_rfl) (by kernel_rfl) (fun K hK => ?_)
   refine wpx_call _ _ (by kernel_rfl) (hca.mono ?_)
   rintro y W3 ⟨rfl, V3, hD3, ht3, hbx⟩
   refine ⟨_, rfl, ?_⟩
   replace hT := HT.out W3 hbx (H2.out.2.1.congr (ht3.turn.block _ H2.out.2.1.lt HNE.out))
   replace hS : (fun _ : World => True) W3 := trivial
   have HF := Veil.mk (And.intro hD3 ((DocTo.of_below H2.out.1).trans ht3))
   clear hD3 ht3 hbx
   refine hK.out _ _ hT (fun _ => hS) ?_
   clear hK K
   try simp only [Act.put, gA, gS, gZ, sI, sZ, sS]
   refine ghA 17 _ hT hS ?_
   simp only [Act.put, gA, gS, gZ, sI, sZ, sS]
   refine ghA 18 _ hT hS ?_
   simp only [Act.put, gA, gS, gZ, sI, sZ, sS]
   refine ghA 19 _ hT hS ?_
   simp only [Act.put, gA, gS, gZ, sI, sZ, sS]
   refine wpAnyT_done (by kernel_rfl) ?_ _
   clear hT hS
   go_wp2
   go_ret
   exact ⟨ret_bC (by simp), _, HF.out.1, HF.out.2⟩
set_option maxHeartbeats 8000000 in
theorem derase_any (base : Nat) (st : Ds) (p : Pl) (e : Ev) (w : World) (hD : DocAt w base st p) (hG : GoodD st) (he : e.Ok) (hbase : base ≤ w.heap.size) :
    Calls Tryz.prog 97 #[.pointer (some ⟨p.D, 0, none⟩), .agg e.cells.toArray] w fun r w' => r = .returned (.bool (mayB st e 2 && (chrN st.N e.par).isSome)) ∧ ∃ p', DocAt w' base { st with N := if mayB st e 2 = true then delN st.N e.par else st.N } p' ∧ DocTo p p' w w' := by
 have hB0 : Below w.heap.size w (w.alloc (.cells e.cells.toArray 44)) := (Below.refl _ _).alloc (Nat.le_refl _) _
 have hx0 := CellsAt.new w 44 e.cells
 have he1 := aev_len e he.past
 have iE : (Tryz.prog.info? 44).map (·.size) = some e.cells.length := by rw [he1]; kernel_rfl
 have iD : (Tryz.prog.info? 40).map (·.size) = some (dotC e.da e.ds).length := sizeDot
 have iP : (Tryz.prog.info? 40).map (·.size) = some (dotC e.pa e.ps).length := sizeDot
 have uE := Tryz.underlying44
 have uD := Tryz.underlying40
 have HAL : Veil (∀ W, DocAt W base st p → Calls Tryz.prog 113 #[.pointer (some ⟨p.D, 0, none⟩), .agg e.cells.toArray, .int .u8 2] W fun r w' => r = .returned (.bool (mayB st e 2)) ∧ Below W.heap.size W w') := ⟨fun W h => dallowed_any base st p e 2 W h hG he⟩
 have HCA : Veil (∀ W, DocAt W base st p → base ≤ W.heap.size → Calls Tryz.prog 115 #[.pointer (some ⟨p.R, 0, none⟩), .agg (dotC e.pa e.ps).toArray] W fun r w' => r = .returned (.int .i64 (if (chrN st.N e.par).isSome = true then 0 else 7)) ∧ ∃ V', DocAt w' base { st with N := delN st.N e.par } { p with V := V' } ∧ DocTo p { p with V := V' } W w' ∧ CellsAt w' p.D 75 (docC st p)) := ⟨fun W h hb => (delT_any base p.R p.bc p.bn st.N p.V e.par he.par (by have := hG.nlen; have := hG.llen; omega) W h.tree).mono fun r w' ⟨h1, h2, h3⟩ => ⟨h1, p.V, (h.treeTo h2 h3).1, (h.treeTo h2 h3).2, (h.treeTo h2 h3).1.box⟩⟩
 generalize e.par = pr at HCA ⊢
 generalize hcs : (chrN st.N pr).isSome = cs at HCA ⊢
 obtain ⟨eN, heN⟩ : ∃ q : Int, (if cs = true then (0 : Int) else 7) = q := ⟨_, rfl⟩
 rw [heN] at HCA
 have HQ : Veil ((eN == 0) = cs) := ⟨by rw [← heN]; cases cs <;> rfl⟩
 clear heN hcs
 have HT : Veil (∀ W, CellsAt W p.D 75 (docC st p) → CellsAt W w.heap.size 44 e.cells → W.rangeAt w.heap.size 0 e.cells ∧ W.rangeAt w.heap.size 0 (dotC e.da e.ds) ∧ W.rangeAt w.heap.size 11 (dotC e.pa e.ps) ∧ W.cell? ⟨w.heap.size, 13, none⟩ = some (.bool e.right) ∧ W.cell? ⟨w.heap.size, 14, none⟩ = some (.int .u8 e.char) ∧ W.cell? ⟨p.D, 0, none⟩ = some (.pointer (some ⟨p.R, 0, none⟩)) ∧ W.cell? ⟨p.D, 1, none⟩ = some (.pointer (some ⟨p.H, 0, none⟩))) := ⟨fun W hb hx => by
  have h1 := hx.range 0 2
  rw [(ev_parts e he.past).1] at h1
  have h2 := hx.range 11 2
  rw [(ev_parts e he.past).2.2.2.1] at h2
  exact ⟨hx.wholeM, h1, h2, (hx.cell 13).trans (ev_parts e he.past).2.2.2.2.1, (hx.cell 14).trans (ev_parts e he.past).2.2.2.2.2.1, (hb.cell 0).trans (docC_parts st p hG.slen).1, (hb.cell 1).trans (docC_parts st p hG.slen).2.1⟩⟩
 have HNE : Veil (¬ docP p w.heap.size) := ⟨fun q => by have := hD.blockLt _ q; omega⟩
 have hD0 := hD.far hB0
 generalize mayB st e 2 = MB at HAL ⊢
 obtain ⟨E, hE⟩ : ∃ E, e.cells = E := ⟨_, rfl⟩
 rw [hE] at hB0 hx0 iE HAL HT he1 hD0
 try rw [hE] at HCA
 rw [hE]
 obtain ⟨DV, hDV⟩ : ∃ q, dotC e.da e.ds = q := ⟨_, rfl⟩
 obtain ⟨PV, hPV⟩ : ∃ q, dotC e.pa e.ps = q := ⟨_, rfl⟩
 obtain ⟨rt, hrt⟩ : ∃ q, e.right = q := ⟨_, rfl⟩
 obtain ⟨ch, hch⟩ : ∃ q, e.char = q := ⟨_, rfl⟩
 rw [hDV, hPV, hrt, hch] at HT
 rw [hDV] at iD
 rw [hPV] at iP
 try rw [hDV] at HCA
 try rw [hPV] at HCA
 try rw [hrt] at HCA
 try rw [hch] at HCA
 clear hDV hPV hrt hch
 have HDR : Veil (∀ W, DocAt W base st p → CellsAt W p.D 75 (docC st p)) := ⟨fun W h => h.box⟩
 obtain ⟨D, hDD⟩ : ∃ q, p.D = q := ⟨_, rfl⟩
 obtain ⟨R, hRR⟩ : ∃ q, p.R = q := ⟨_, rfl⟩
 obtain ⟨H, hHH⟩ : ∃ q, p.H = q := ⟨_, rfl⟩
 rw [hDD] at HT HAL HDR HCA ⊢
 rw [hRR, hHH] at HT
 try rw [hRR] at HCA
 try rw [hHH] at HCA
 clear he hE hG hDD hRR hHH hD
 go_enter Tryz.func97, Tryz.ntmps97
 go_upto_region 1 with fail
 refine forget (p := fun y => Code.wp _ _ _ _ y) (fun W => Below w.heap.size w W ∧ CellsAt W w.heap.size 44 E ∧ DocAt W base st p) ⟨hB0, hx0, hD0⟩ ?_
 clear hB0 hx0 hD0
 rintro W ⟨hB, hx, hD⟩
 have H1 := Veil.mk (And.intro hB (And.intro hx hD))
 have hb0 : Below W.heap.size W W.drew := (Below.refl _ _).drew
 have hT : (fun W : World => W.rangeAt w.heap.size 0 E ∧ W.rangeAt w.heap.size 0 DV ∧ W.rangeAt w.heap.size 11 PV ∧ W.cell? ⟨w.heap.size, 13, none⟩ = some (.bool rt) ∧ W.cell? ⟨w.heap.size, 14, none⟩ = some (.int .u8 ch) ∧ W.cell? ⟨D, 0, none⟩ = some (.pointer (some ⟨R, 0, none⟩)) ∧ W.cell? ⟨D, 1, none⟩ = some (.pointer (some ⟨H, 0, none⟩))) W.drew := HT.out _ (HDR.out _ (hD.far hb0)) (hx.farM hb0)
 have hS : (fun _ : World => True) W.drew := trivial
 have hal := HAL.out _ (hD.far hb0)
 clear hB hx hD HAL
 refine wp_region_gateT (fun W : World => W.rangeAt w.heap.size 0 E ∧ W.rangeAt w.heap.size 0 DV ∧ W.rangeAt w.heap.size 11 PV ∧ W.cell? ⟨w.heap.size, 13, none⟩ = some (.bool rt) ∧ W.cell? ⟨w.heap.size, 14, none⟩ = some (.int .u8 ch) ∧ W.cell? ⟨D, 0, none⟩ = some (.pointer (some ⟨R, 0, none⟩)) ∧ W.cell? ⟨D, 1, none⟩ = some (.pointer (some ⟨H, 0, none⟩))) (fun _ => True) 99 (by kernel_rfl) ?_
 refine ghA 0 _ hT hS ?_
 simp only [Act.put, gA, gS, gZ, sI, sZ, sS]
 refine gl 1 6 44 3 w.heap.size 0 E (by kernel_rfl) (by kernel_rfl) (by kernel_rfl) (fun _ _ _ h => h) hT hS (by kernel_rfl) (fun _ h => h.1) uE rfl iE ?_
 simp only [Act.put, gA, gS, gZ, sI, sZ, sS]
 refine wpAnyT_one (i := 2) rfl (by kernel_rfl) (by kernel_rfl) (fun K hK => ?_)
 refine wpx_call _ _ (by kernel_rfl) (hal.mono ?_)
 rintro y W2 ⟨rfl, hb2⟩
 refine ⟨_, rfl, ?_⟩
 replace hb2 : Below W.heap.size W W2 := hb0.trans hb2
 have H2 : Veil (Below w.heap.size w W2 ∧ CellsAt W2 w.heap.size 44 E ∧ DocAt W2 base st p) := ⟨H1.out.1.trans (hb2.mono H1.out.1.size), H1.out.2.1.farM hb2, H1.out.2.2.far hb2⟩
 replace hT := HT.out W2 (HDR.out _ H2.out.2.2) H2.out.2.1
 replace hS : (fun _ : World => True) W2 := trivial
 clear hal hb2 hb0 H1
 refine hK.out _ _ hT (fun _ => hS) ?_
 clear hK K
 try simp only [Act.put, gA, gS, gZ, sI, sZ, sS]
 cases MB
 · have hmf := trivial
   refine ghA 3 _ hT hS ?_
   simp only [Act.put, gA, gS, gZ, sI, sZ, sS]
   refine gs 4 hT hS ?_
   simp only [Act.put, gA, gS, gZ, sI, sZ, sS]
   refine gs 5 hT hS ?_
   simp only [Act.put, gA, gS, gZ, sI, sZ, sS]
   refine gs 6 hT hS ?_
   simp only [Act.put, gA, gS, gZ, sI, sZ, sS]
   refine gs 7 hT hS ?_
   simp only [Act.put, gA, gS, gZ, sI, sZ, sS]
   refine gs 8 hT hS ?_
   simp only [Act.put, gA, gS, gZ, sI, sZ, sS]
   refine gs 9 hT hS ?_
   simp only [Act.put, gA, gS, gZ, sI, sZ, sS]
   refine gs 10 hT hS ?_
   simp only [Act.put, gA, gS, gZ, sI, sZ, sS]
   refine gs 11 hT hS ?_
   simp only [Act.put, gA, gS, gZ, sI, sZ, sS]
   refine ghA 12 _ hT hS ?_
   simp only [Act.put, gA, gS, gZ, sI, sZ, sS]
   refine ghA 13 _ hT hS ?_
   simp only [Act.put, gA, gS, gZ, sI, sZ, sS]
   refine wpAnyT_done (by kernel_rfl) ?_ _
   clear hT hS
   go_wp2
   go_ret
   exact ⟨ret_bC (by simp), p, H2.out.2.2, DocTo.of_below H2.out.1⟩
 · have hca := HCA.out W2 H2.out.2.2 (Nat.le_trans hbase H2.out.1.size)
   refine ghA 3 _ hT hS ?_
   simp only [Act.put, gA, gS, gZ, sI, sZ, sS]
   refine ghA 4 _ hT hS ?_
   simp only [Act.put, gA, gS, gZ, sI, sZ, sS]
   refine ghA 5 _ hT hS ?_
   simp only [Act.put, gA, gS, gZ, sI, sZ, sS]
   refine ghA 6 _ hT hS ?_
   simp only [Act.put, gA, gS, gZ, sI, sZ, sS]
   refine ghA 7 _ hT hS ?_
   simp only [Act.put, gA, gS, gZ, sI, sZ, sS]
   refine ghA 8 _ hT hS ?_
   simp only [Act.put, gA, gS, gZ, sI, sZ, sS]
   refine gl 9 14 40 13 w.heap.size 11 PV (by kernel_rfl) (by kernel_rfl) (by kernel_rfl) (fun _ _ _ h => h) hT hS (by kernel_rfl) (fun _ h => h.2.2.1) uD rfl iP ?_
   simp only [Act.put, gA, gS, gZ, sI, sZ, sS]
   refine wpAnyT_one (i := 10) rfl (by kernel_rfl) (by kernel_rfl) (fun K hK => ?_)
   refine wpx_call _ _ (by kernel_rfl) (hca.mono ?_)
   rintro y W3 ⟨rfl, V3, hD3, ht3, hbx⟩
   refine ⟨_, rfl, ?_⟩
   replace hT := HT.out W3 hbx (H2.out.2.1.congr (ht3.turn.block _ H2.out.2.1.lt HNE.out))
   replace hS : (fun _ : World => True) W3 := trivial
   have HF := Veil.mk (And.intro hD3 ((DocTo.of_below H2.out.1).trans ht3))
   clear hD3 ht3 hbx
   refine hK.out _ _ hT (fun _ => hS) ?_
   clear hK K
   try simp only [Act.put, gA, gS, gZ, sI, sZ, sS]
   refine ghA 11 _ hT hS ?_
   simp only [Act.put, gA, gS, gZ, sI, sZ, sS]
   refine ghA 12 _ hT hS ?_
   simp only [Act.put, gA, gS, gZ, sI, sZ, sS]
   refine ghA 13 _ hT hS ?_
   simp only [Act.put, gA, gS, gZ, sI, sZ, sS]
   refine wpAnyT_done (by kernel_rfl) ?_ _
   clear hT hS
   go_wp2
   go_ret
   exact ⟨ret_bC (by simp [HQ.out]), _, HF.out.1, HF.out.2⟩
set_option maxHeartbeats 8000000 in
theorem denter_any (base : Nat) (st : Ds) (p : Pl) (e : Ev) (w : World) (hD : DocAt w base st p) (hG : GoodD st) (he : e.Ok) (hbase : base ≤ w.heap.size) :
    Calls Tryz.prog 98 #[.pointer (some ⟨p.D, 0, none⟩), .agg e.cells.toArray] w fun r w' => r = .returned (.bool (mayB st e 3 && (refB st.B e == 0))) ∧ ∃ p', DocAt w' base { st with B := if mayB st e 3 = true then addB st.B e else st.B } p' ∧ DocTo p p' w w' := by
 have hB0 : Below w.heap.size w (w.alloc (.cells e.cells.toArray 44)) := (Below.refl _ _).alloc (Nat.le_refl _) _
 have hx0 := CellsAt.new w 44 e.cells
 have he1 := aev_len e he.past
 have iE : (Tryz.prog.info? 44).map (·.size) = some e.cells.length := by rw [he1]; kernel_rfl
 have iD : (Tryz.prog.info? 40).map (·.size) = some (dotC e.da e.ds).length := sizeDot
 have iP : (Tryz.prog.info? 40).map (·.size) = some (dotC e.pa e.ps).length := sizeDot
 have uE := Tryz.underlying44
 have uD := Tryz.underlying40
 have HAL : Veil (∀ W, DocAt W base st p → Calls Tryz.prog 113 #[.pointer (some ⟨p.D, 0, none⟩), .agg e.cells.toArray, .int .u8 3] W fun r w' => r = .returned (.bool (mayB st e 3)) ∧ Below W.heap.size W w') := ⟨fun W h => dallowed_any base st p e 3 W h hG he⟩
 have HCA : Veil (∀ W, DocAt W base st p → base ≤ W.heap.size → Calls Tryz.prog 116 #[.pointer (some ⟨p.H, 0, none⟩), .agg e.cells.toArray] W fun r w' => r = .returned (.int .i64 (refB st.B e)) ∧ DocAt w' base { st with B := addB st.B e } p ∧ DocTo p p W w' ∧ CellsAt w' p.D 75 (docC st p)) := ⟨fun W h hb => (badd_any p.H p.bk st.B e W h.book he (by have := hG.blen; have := hG.llen; omega)).mono fun r w' ⟨h1, h2, h3⟩ => ⟨h1, (h.bookTo h2 h3).1, (h.bookTo h2 h3).2, (h.bookTo h2 h3).1.box⟩⟩
 generalize refB st.B e = RB at HCA ⊢
 generalize addB st.B e = AB at HCA ⊢
 have HT : Veil (∀ W, CellsAt W p.D 75 (docC st p) → CellsAt W w.heap.size 44 e.cells → W.rangeAt w.heap.size 0 e.cells ∧ W.rangeAt w.heap.size 0 (dotC e.da e.ds) ∧ W.rangeAt w.heap.size 11 (dotC e.pa e.ps) ∧ W.cell? ⟨w.heap.size, 13, none⟩ = some (.bool e.right) ∧ W.cell? ⟨w.heap.size, 14, none⟩ = some (.int .u8 e.char) ∧ W.cell? ⟨p.D, 0, none⟩ = some (.pointer (some ⟨p.R, 0, none⟩)) ∧ W.cell? ⟨p.D, 1, none⟩ = some (.pointer (some ⟨p.H, 0, none⟩))) := ⟨fun W hb hx => by
  have h1 := hx.range 0 2
  rw [(ev_parts e he.past).1] at h1
  have h2 := hx.range 11 2
  rw [(ev_parts e he.past).2.2.2.1] at h2
  exact ⟨hx.wholeM, h1, h2, (hx.cell 13).trans (ev_parts e he.past).2.2.2.2.1, (hx.cell 14).trans (ev_parts e he.past).2.2.2.2.2.1, (hb.cell 0).trans (docC_parts st p hG.slen).1, (hb.cell 1).trans (docC_parts st p hG.slen).2.1⟩⟩
 have HNE : Veil (¬ docP p w.heap.size) := ⟨fun q => by have := hD.blockLt _ q; omega⟩
 have hD0 := hD.far hB0
 generalize mayB st e 3 = MB at HAL ⊢
 obtain ⟨E, hE⟩ : ∃ E, e.cells = E := ⟨_, rfl⟩
 rw [hE] at hB0 hx0 iE HAL HT he1 hD0
 try rw [hE] at HCA
 rw [hE]
 obtain ⟨DV, hDV⟩ : ∃ q, dotC e.da e.ds = q := ⟨_, rfl⟩
 obtain ⟨PV, hPV⟩ : ∃ q, dotC e.pa e.ps = q := ⟨_, rfl⟩
 obtain ⟨rt, hrt⟩ : ∃ q, e.right = q := ⟨_, rfl⟩
 obtain ⟨ch, hch⟩ : ∃ q, e.char = q := ⟨_, rfl⟩
 rw [hDV, hPV, hrt, hch] at HT
 rw [hDV] at iD
 rw [hPV] at iP
 try rw [hDV] at HCA
 try rw [hPV] at HCA
 try rw [hrt] at HCA
 try rw [hch] at HCA
 clear hDV hPV hrt hch
 have HDR : Veil (∀ W, DocAt W base st p → CellsAt W p.D 75 (docC st p)) := ⟨fun W h => h.box⟩
 obtain ⟨D, hDD⟩ : ∃ q, p.D = q := ⟨_, rfl⟩
 obtain ⟨R, hRR⟩ : ∃ q, p.R = q := ⟨_, rfl⟩
 obtain ⟨H, hHH⟩ : ∃ q, p.H = q := ⟨_, rfl⟩
 rw [hDD] at HT HAL HDR HCA ⊢
 rw [hRR, hHH] at HT
 try rw [hRR] at HCA
 try rw [hHH] at HCA
 clear he hE hG hDD hRR hHH hD
 go_enter Tryz.func98, Tryz.ntmps98
 go_upto_region 1 with fail
 refine forget (p := fun y => Code.wp _ _ _ _ y) (fun W => Below w.heap.size w W ∧ CellsAt W w.heap.size 44 E ∧ DocAt W base st p) ⟨hB0, hx0, hD0⟩ ?_
 clear hB0 hx0 hD0
 rintro W ⟨hB, hx, hD⟩
 have H1 := Veil.mk (And.intro hB (And.intro hx hD))
 have hb0 : Below W.heap.size W W.drew := (Below.refl _ _).drew
 have hT : (fun W : World => W.rangeAt w.heap.size 0 E ∧ W.rangeAt w.heap.size 0 DV ∧ W.rangeAt w.heap.size 11 PV ∧ W.cell? ⟨w.heap.size, 13, none⟩ = some (.bool rt) ∧ W.cell? ⟨w.heap.size, 14, none⟩ = some (.int .u8 ch) ∧ W.cell? ⟨D, 0, none⟩ = some (.pointer (some ⟨R, 0, none⟩)) ∧ W.cell? ⟨D, 1, none⟩ = some (.pointer (some ⟨H, 0, none⟩))) W.drew := HT.out _ (HDR.out _ (hD.far hb0)) (hx.farM hb0)
 have hS : (fun _ : World => True) W.drew := trivial
 have hal := HAL.out _ (hD.far hb0)
 clear hB hx hD HAL
 refine wp_region_gateT (fun W : World => W.rangeAt w.heap.size 0 E ∧ W.rangeAt w.heap.size 0 DV ∧ W.rangeAt w.heap.size 11 PV ∧ W.cell? ⟨w.heap.size, 13, none⟩ = some (.bool rt) ∧ W.cell? ⟨w.heap.size, 14, none⟩ = some (.int .u8 ch) ∧ W.cell? ⟨D, 0, none⟩ = some (.pointer (some ⟨R, 0, none⟩)) ∧ W.cell? ⟨D, 1, none⟩ = some (.pointer (some ⟨H, 0, none⟩))) (fun _ => True) 99 (by kernel_rfl) ?_
 refine ghA 0 _ hT hS ?_
 simp only [Act.put, gA, gS, gZ, sI, sZ, sS]
 refine gl 1 6 44 3 w.heap.size 0 E (by kernel_rfl) (by kernel_rfl) (by kernel_rfl) (fun _ _ _ h => h) hT hS (by kernel_rfl) (fun _ h => h.1) uE rfl iE ?_
 simp only [Act.put, gA, gS, gZ, sI, sZ, sS]
 refine wpAnyT_one (i := 2) rfl (by kernel_rfl) (by kernel_rfl) (fun K hK => ?_)
 refine wpx_call _ _ (by kernel_rfl) (hal.mono ?_)
 rintro y W2 ⟨rfl, hb2⟩
 refine ⟨_, rfl, ?_⟩
 replace hb2 : Below W.heap.size W W2 := hb0.trans hb2
 have H2 : Veil (Below w.heap.size w W2 ∧ CellsAt W2 w.heap.size 44 E ∧ DocAt W2 base st p) := ⟨H1.out.1.trans (hb2.mono H1.out.1.size), H1.out.2.1.farM hb2, H1.out.2.2.far hb2⟩
 replace hT := HT.out W2 (HDR.out _ H2.out.2.2) H2.out.2.1
 replace hS : (fun _ : World => True) W2 := trivial
 clear hal hb2 hb0 H1
 refine hK.out _ _ hT (fun _ => hS) ?_
 clear hK K
 try simp only [Act.put, gA, gS, gZ, sI, sZ, sS]
 cases MB
 · have hmf := trivial
   refine ghA 3 _ hT hS ?_
   simp only [Act.put, gA, gS, gZ, sI, sZ, sS]
   refine gs 4 hT hS ?_
   simp only [Act.put, gA, gS, gZ, sI, sZ, sS]
   refine gs 5 hT hS ?_
   simp only [Act.put, gA, gS, gZ, sI, sZ, sS]
   refine gs 6 hT hS ?_
   simp only [Act.put, gA, gS, gZ, sI, sZ, sS]
   refine gs 7 hT hS ?_
   simp only [Act.put, gA, gS, gZ, sI, sZ, sS]
   refine gs 8 hT hS ?_
   simp only [Act.put, gA, gS, gZ, sI, sZ, sS]
   refine gs 9 hT hS ?_
   simp only [Act.put, gA, gS, gZ, sI, sZ, sS]
   refine gs 10 hT hS ?_
   simp only [Act.put, gA, gS, gZ, sI, sZ, sS]
   refine ghA 11 _ hT hS ?_
   simp only [Act.put, gA, gS, gZ, sI, sZ, sS]
   refine ghA 12 _ hT hS ?_
   simp only [Act.put, gA, gS, gZ, sI, sZ, sS]
   refine wpAnyT_done (by kernel_rfl) ?_ _
   clear hT hS
   go_wp2
   go_ret
   exact ⟨ret_bC (by simp), p, H2.out.2.2, DocTo.of_below H2.out.1⟩
 · have hca := HCA.out W2 H2.out.2.2 (Nat.le_trans hbase H2.out.1.size)
   refine ghA 3 _ hT hS ?_
   simp only [Act.put, gA, gS, gZ, sI, sZ, sS]
   refine ghA 4 _ hT hS ?_
   simp only [Act.put, gA, gS, gZ, sI, sZ, sS]
   refine ghA 5 _ hT hS ?_
   simp only [Act.put, gA, gS, gZ, sI, sZ, sS]
   refine ghA 6 _ hT hS ?_
   simp only [Act.put, gA, gS, gZ, sI, sZ, sS]
   refine ghA 7 _ hT hS ?_
   simp only [Act.put, gA, gS, gZ, sI, sZ, sS]
   refine gl 8 13 44 3 w.heap.size 0 E (by kernel_rfl) (by kernel_rfl) (by kernel_rfl) (fun _ _ _ h => h) hT hS (by kernel_rfl) (fun _ h => h.1) uE rfl iE ?_
   simp only [Act.put, gA, gS, gZ, sI, sZ, sS]
   refine wpAnyT_one (i := 9) rfl (by kernel_rfl) (by kernel_rfl) (fun K hK => ?_)
   refine wpx_call _ _ (by kernel_rfl) (hca.mono ?_)
   rintro y W3 ⟨rfl, hD3, ht3, hbx⟩
   refine ⟨_, rfl, ?_⟩
   replace hT := HT.out W3 hbx (H2.out.2.1.congr (ht3.turn.block _ H2.out.2.1.lt HNE.out))
   replace hS : (fun _ : World => True) W3 := trivial
   have HF := Veil.mk (And.intro hD3 ((DocTo.of_below H2.out.1).trans ht3))
   clear hD3 ht3 hbx
   refine hK.out _ _ hT (fun _ => hS) ?_
   clear hK K
   try simp only [Act.put, gA, gS, gZ, sI, sZ, sS]
   refine ghA 10 _ hT hS ?_
   simp only [Act.put, gA, gS, gZ, sI, sZ, sS]
   refine ghA 11 _ hT hS ?_
   simp only [Act.put, gA, gS, gZ, sI, sZ, sS]
   refine ghA 12 _ hT hS ?_
   simp only [Act.put, gA, gS, gZ, sI, sZ, sS]
   refine wpAnyT_done (by kernel_rfl) ?_ _
   clear hT hS
   go_wp2
   go_ret
   exact ⟨ret_bC (by simp), _, HF.out.1, HF.out.2⟩
end Go.Proofs.YtmbdohnmbkpfaaaGreat
