/- Ab9 Ab10 -/
import Derived.Test.YtgmbmdmbnpkbbaaM25
import Derived.Test.YtgmbmdmbnpkbbaaM07
namespace Go.Proofs.Ytgmbmdmbnpkbbaa
open Go.RowKit Go.Shelf
set_option maxRecDepth 20000
set_option linter.unusedSimpArgs false
theorem exec_bldA {P : Program} {ρ : Operand → Value} {o : Oper} {w : World} (t : TypeId) (parts : Array (Nat × Operand)) (ho : o.op = .build t parts) (vals : Array (Nat × Value)) (hv : (parts.map fun (i, x) => (i, ρ x)) = vals) (v : Value) (hrun : (Instr.build t vals).run P w = .ok v w) : (execOp ρ o).run P w = .ok (.value v) w := by
  unfold execOp
  simp only [ho, hv, Sem.run_bind, hrun, Result.andThen_ok, Sem.run_pure]
theorem entry_zero : (Try.prog.info? 107).map (·.zero) = some (some (.agg entZ.toArray)) := by kernel_rfl
theorem ent_built (E : List Value) (c : Bool) (hE : E.length = 17) (w : World) : (Instr.build 107 #[(0, .agg E.toArray), (1, .bool c)]).run Try.prog w = .ok (.agg (E ++ [Value.bool c]).toArray) w := by
  refine run_build w _ _ _ ?_
  rw [built_of entry_zero Try.underlying107 (by kernel_rfl) (places := [(0, 17), (17, 1)])]
  rw [fill_cons _ _ E 0 0 17 _ _ rfl rfl hE (by decide), show entZ.take 0 ++ E ++ entZ.drop (0 + 17) = E ++ [Value.bool false] from by simp]
  rw [fill_cons _ _ [.bool c] 1 17 1 _ _ rfl rfl rfl (by rw [List.length_append, hE]; decide), Instr.fill]
  rw [← hE, List.take_left, List.drop_eq_nil_of_le (by simp), List.append_nil]
def addB (L : List Ent) (e : Ev) : List Ent := if refB L e = 0 then L ++ [(e, roleP L e.da e.past == 3)] else L
theorem BookC.turn {w w' : World} {H b : Nat} {L : List Ent} (h : BookC w H b L) (L2 : List Ent) (hm : BookAt w' b L2) (hg : w.grownBy w' (some b)) : BookC w' H b L2 :=
  ⟨h.cells.congr (hg.block H h.cells.lt (fun e => h.map.cellsNe h.cells (Option.some.inj e).symm)), hm⟩
set_option maxHeartbeats 4000000 in
theorem badd_any (H b : Nat) (L : List Ent) (e : Ev) (w : World) (hC : BookC w H b L) (he : e.Ok) (hL : L.length ≤ 1000) :
    Calls Try.prog 69 #[.pointer (some ⟨H, 0, none⟩), .agg e.cells.toArray] w fun r w' => r = .returned (.int .i64 (refB L e)) ∧ BookC w' H b (addB L e) ∧ Turn (fun k => k = b) w w' := by
  have hB0 : Below w.heap.size w (w.alloc (.cells e.cells.toArray 32)) := (Below.refl _ _).alloc (Nat.le_refl _) _
  have hx0 := CellsAt.new w 32 e.cells
  have he1 := aev_len e he.past
  have iE : (Try.prog.info? 32).map (·.size) = some e.cells.length := by rw [he1]; kernel_rfl
  have iD : (Try.prog.info? 26).map (·.size) = some (dotC e.da e.ds).length := sizeDot
  have iP : (Try.prog.info? 28).map (·.size) = some (e.past.map (Value.int .u32)).length := by rw [List.length_map, he.past]; kernel_rfl
  have uE := Try.underlying32
  have uD := Try.underlying26
  have uV := Try.underlying28
  have hrf := brefuse_any H b L e (w.alloc (.cells e.cells.toArray 32)) (hC.far hB0) he hL
  have HT : Veil (∀ W, Below w.heap.size w W → CellsAt W w.heap.size 32 e.cells → W.cell? ⟨H, 0, none⟩ = some (.map (some b)) ∧ W.rangeAt w.heap.size 0 (dotC e.da e.ds) ∧ W.rangeAt w.heap.size 0 e.cells ∧ W.cell? ⟨w.heap.size, 0, none⟩ = some (.int .u8 e.da) ∧ W.rangeAt w.heap.size 2 (e.past.map (Value.int .u32))) := ⟨fun W hb hx => by
    have h1 := hx.range 0 2
    rw [(ev_parts e he.past).1] at h1
    have h2 := hx.range 2 8
    rw [(ev_parts e he.past).2.1] at h2
    exact ⟨(hC.far hb).mapCell, h1, hx.wholeM, by have := h1 0 _ rfl; simpa using this, h2⟩⟩
  have HRO : Veil (∀ W, Below w.heap.size w W → Calls Try.prog 22 #[.pointer (some ⟨H, 0, none⟩), .int .u8 e.da, .agg (e.past.map (Value.int .u32)).toArray] W fun r w' => r = .returned (.int .u8 (roleP L e.da e.past)) ∧ Below W.heap.size W w') := ⟨fun W hb => role_any H b L e.da e.past W (hC.far hb) he.past⟩
  have HAD : Veil (addB L e = if refB L e = 0 then L ++ [(e, roleP L e.da e.past == 3)] else L) := ⟨rfl⟩
  have HLN : Veil (refB L e = 0 → lookB L e.dot = none ∧ L.length < 512) := ⟨fun h => by
    unfold refB at h
    split at h
    · cases h
    · split at h
      · cases h
      · split at h
        · cases h
        · rename_i hs
          split at h
          · cases h
          · exact ⟨by simpa using hs, by omega⟩⟩
  have HC := Veil.mk hC
  have HE := Veil.mk he
  have HEN : Veil (∀ c, entC (e, c) = e.cells ++ [Value.bool c]) := ⟨fun c => rfl⟩
  obtain ⟨E, hE⟩ : ∃ E, e.cells = E := ⟨_, rfl⟩
  rw [hE] at hB0 hx0 iE HT he1 hrf HEN ⊢
  generalize hRN : refB L e = RN at hrf HAD HLN ⊢
  generalize roleP L e.da e.past = RP at HRO HAD
  generalize hAB : addB L e = AB at HAD ⊢
  generalize hda : e.da = DA at HT HRO
  clear hC he hE hRN hAB
  obtain ⟨PV, hPV⟩ : ∃ q, e.past.map (Value.int .u32) = q := ⟨_, rfl⟩
  rw [hPV] at HT HRO iP
  obtain ⟨DV, hDV⟩ : ∃ q, dotC DA e.ds = q := ⟨_, rfl⟩
  rw [hda] at iD
  have HDV : Veil (dotC e.da e.ds = DV) := ⟨by rw [hda]; exact hDV⟩
  rw [hDV] at HT iD
  clear hPV hDV hda
  go_enter Try.func69, Try.ntmps69
  have hrE := hx0.wholeM
  go_upto_region 2 with (first
    | (refine wpList_ldv rfl 32 _ rfl w.heap.size 0 rfl E hrE uE rfl iE ?_)
    | (go_at_call 74; refine hrf.mono ?_; rintro z W1 ⟨rfl, hb1⟩))
  have hB1 := hB0.trans (hb1.mono hB0.size)
  have hx1 := hx0.farM hb1
  clear hrE hrf hb1 hB0 hx0
  by_cases h0 : RN = 0
  rotate_left
  · replace HAD : Veil (AB = L) := ⟨by rw [HAD.out, if_neg h0]⟩
    have h0b : (RN != 0) = true := by simpa using h0
    clear h0
    go_wp2
    go_ret
    exact ⟨rfl, by rw [HAD.out]; exact HC.out.far hB1, Turn.of_below hB1⟩
  · obtain ⟨hlk, hlt⟩ := HLN.out h0
    replace HAD : Veil (AB = L ++ [(e, RP == 3)]) := ⟨by rw [HAD.out, if_pos h0]⟩
    have HLK : Veil (lookB L e.dot = none ∧ L.length < 512) := ⟨hlk, hlt⟩
    subst h0
    clear hlk hlt HLN
    go_upto_region 4 with fail
    obtain ⟨q1, q2, q3, q4, q5⟩ := HT.out W1 hB1 hx1
    have hro := HRO.out W1.drew hB1.drew
    refine wp_region_gateT (fun w' => w'.cell? ⟨H, 0, none⟩ = some (.map (some b)) ∧ w'.rangeAt w.heap.size 0 DV ∧ w'.rangeAt w.heap.size 0 E ∧ w'.cell? ⟨w.heap.size, 0, none⟩ = some (.int .u8 DA) ∧ w'.rangeAt w.heap.size 2 PV) (fun _ => True) 99 (by kernel_rfl) ?_
    have hT : (fun w' : World => w'.cell? ⟨H, 0, none⟩ = some (.map (some b)) ∧ w'.rangeAt w.heap.size 0 DV ∧ w'.rangeAt w.heap.size 0 E ∧ w'.cell? ⟨w.heap.size, 0, none⟩ = some (.int .u8 DA) ∧ w'.rangeAt w.heap.size 2 PV) W1.drew := ⟨q1, q2, q3, q4, q5⟩
    have hS : (fun _ : World => True) W1.drew := trivial
    refine wpAnyT_held (i := 0) (v := ?_) rfl (by kernel_rfl) (by kernel_rfl) (by kernel_rfl) (fun _ _ _ h => h) (by kernel_rfl) hT (fun _ => hS) (by kernel_rfl) ?_ ?_
    rotate_left
    · intro wx hSw; go_split_ands; go_simp; try with_reducible rfl
    simp only [Act.put, List.getElem_toArray, List.getElem_cons_succ, List.getElem_cons_zero, List.setIfInBounds_toArray, List.set_cons_zero, List.set_cons_succ]
    refine wpAnyT_held (i := 1) (v := ?_) rfl (by kernel_rfl) (by kernel_rfl) (by kernel_rfl) (fun _ _ _ h => h) (by kernel_rfl) hT (fun _ => hS) (by kernel_rfl) ?_ ?_
    rotate_left
    · intro wx hSw; go_split_ands; go_simp; try with_reducible rfl
    simp only [Act.put, List.getElem_toArray, List.getElem_cons_succ, List.getElem_cons_zero, List.setIfInBounds_toArray, List.set_cons_zero, List.set_cons_succ]
    refine wpAnyT_held (i := 2) (v := ?_) rfl (by kernel_rfl) (by kernel_rfl) (by kernel_rfl) (fun _ _ _ h => h) (by kernel_rfl) hT (fun _ => hS) (by kernel_rfl) ?_ ?_
    rotate_left
    · intro wx hSw; go_split_ands; go_simp; try with_reducible rfl
    simp only [Act.put, List.getElem_toArray, List.getElem_cons_succ, List.getElem_cons_zero, List.setIfInBounds_toArray, List.set_cons_zero, List.set_cons_succ]
    refine wpAnyT_held (i := 3) (v := ?_) rfl (by kernel_rfl) (by kernel_rfl) (by kernel_rfl) (fun _ _ _ h => h) (by kernel_rfl) hT (fun _ => hS) (by kernel_rfl) ?_ ?_
    rotate_left
    · intro wx hSw; go_split_ands; go_simp; try with_reducible rfl
    simp only [Act.put, List.getElem_toArray, List.getElem_cons_succ, List.getElem_cons_zero, List.setIfInBounds_toArray, List.set_cons_zero, List.set_cons_succ]
    refine wpAnyT_held (i := 4) (v := ?_) rfl (by kernel_rfl) (by kernel_rfl) (by kernel_rfl) (fun _ _ _ h => h) (by kernel_rfl) hT (fun _ => hS) (by kernel_rfl) ?_ ?_
    rotate_left
    · intro wx hSw; go_split_ands; go_simp; try with_reducible rfl
    simp only [Act.put, List.getElem_toArray, List.getElem_cons_succ, List.getElem_cons_zero, List.setIfInBounds_toArray, List.set_cons_zero, List.set_cons_succ]
    refine wpAnyT_load (i := 5) (dst := some 17) (ty := 26) (x := .tmp 16) (b := w.heap.size) (o := (0)) (cs := DV) (by kernel_rfl) (by kernel_rfl) (by kernel_rfl) (by kernel_rfl) (by kernel_rfl) (fun _ _ _ h => h) (by kernel_rfl) hT (fun _ => hS) (by kernel_rfl) (fun _ h => h.2.1) uD rfl iD ?_
    simp only [Act.put, List.getElem_toArray, List.getElem_cons_succ, List.getElem_cons_zero, List.setIfInBounds_toArray, List.set_cons_zero, List.set_cons_succ]
    refine wpAnyT_load (i := 6) (dst := some 18) (ty := 32) (x := .tmp 3) (b := w.heap.size) (o := (0)) (cs := E) (by kernel_rfl) (by kernel_rfl) (by kernel_rfl) (by kernel_rfl) (by kernel_rfl) (fun _ _ _ h => h) (by kernel_rfl) hT (fun _ => hS) (by kernel_rfl) (fun _ h => h.2.2.1) uE rfl iE ?_
    simp only [Act.put, List.getElem_toArray, List.getElem_cons_succ, List.getElem_cons_zero, List.setIfInBounds_toArray, List.set_cons_zero, List.set_cons_succ]
    refine wpAnyT_held (i := 7) (v := ?_) rfl (by kernel_rfl) (by kernel_rfl) (by kernel_rfl) (fun _ _ _ h => h) (by kernel_rfl) hT (fun _ => hS) (by kernel_rfl) ?_ ?_
    rotate_left
    · intro wx hSw; go_split_ands; go_simp; try with_reducible rfl
    simp only [Act.put, List.getElem_toArray, List.getElem_cons_succ, List.getElem_cons_zero, List.setIfInBounds_toArray, List.set_cons_zero, List.set_cons_succ]
    refine wpAnyT_held (i := 8) (v := ?_) rfl (by kernel_rfl) (by kernel_rfl) (by kernel_rfl) (fun _ _ _ h => h) (by kernel_rfl) hT (fun _ => hS) (by kernel_rfl) ?_ ?_
    rotate_left
    · intro wx hSw; go_split_ands; go_simp; try with_reducible rfl
    simp only [Act.put, List.getElem_toArray, List.getElem_cons_succ, List.getElem_cons_zero, List.setIfInBounds_toArray, List.set_cons_zero, List.set_cons_succ]
    refine wpAnyT_held (i := 9) (v := ?_) rfl (by kernel_rfl) (by kernel_rfl) (by kernel_rfl) (fun _ _ _ h => h) (by kernel_rfl) hT (fun _ => hS) (by kernel_rfl) ?_ ?_
    rotate_left
    · intro wx hSw; go_split_ands; go_simp; try with_reducible rfl
    simp only [Act.put, List.getElem_toArray, List.getElem_cons_succ, List.getElem_cons_zero, List.setIfInBounds_toArray, List.set_cons_zero, List.set_cons_succ]
    refine wpAnyT_held (i := 10) (v := ?_) rfl (by kernel_rfl) (by kernel_rfl) (by kernel_rfl) (fun _ _ _ h => h) (by kernel_rfl) hT (fun _ => hS) (by kernel_rfl) ?_ ?_
    rotate_left
    · intro wx hSw; go_split_ands; go_simp; try with_reducible rfl
    simp only [Act.put, List.getElem_toArray, List.getElem_cons_succ, List.getElem_cons_zero, List.setIfInBounds_toArray, List.set_cons_zero, List.set_cons_succ]
    refine wpAnyT_held (i := 11) (v := ?_) rfl (by kernel_rfl) (by kernel_rfl) (by kernel_rfl) (fun _ _ _ h => h) (by kernel_rfl) hT (fun _ => hS) (by kernel_rfl) ?_ ?_
    rotate_left
    · intro wx hSw; go_split_ands; go_simp; try with_reducible rfl
    simp only [Act.put, List.getElem_toArray, List.getElem_cons_succ, List.getElem_cons_zero, List.setIfInBounds_toArray, List.set_cons_zero, List.set_cons_succ]
    refine wpAnyT_load (i := 12) (dst := some 24) (ty := 28) (x := .tmp 23) (b := w.heap.size) (o := (2)) (cs := PV) (by kernel_rfl) (by kernel_rfl) (by kernel_rfl) (by kernel_rfl) (by kernel_rfl) (fun _ _ _ h => h) (by kernel_rfl) hT (fun _ => hS) (by kernel_rfl) (fun _ h => h.2.2.2.2) uV rfl iP ?_
    simp only [Act.put, List.getElem_toArray, List.getElem_cons_succ, List.getElem_cons_zero, List.setIfInBounds_toArray, List.set_cons_zero, List.set_cons_succ]
    refine wpAnyT_one (i := 13) rfl (by kernel_rfl) (by kernel_rfl) (fun K hK => ?_)
    refine wpx_call _ _ (by kernel_rfl) (hro.mono ?_)
    rintro z W6 ⟨rfl, hb6⟩
    refine ⟨_, rfl, ?_⟩
    have hB6 := hB1.drew.trans (hb6.mono hB1.size)
    have hx6 := (hx1.congr (w' := W1.drew) rfl).farM hb6
    replace hT : (fun w' : World => w'.cell? ⟨H, 0, none⟩ = some (.map (some b)) ∧ w'.rangeAt w.heap.size 0 DV ∧ w'.rangeAt w.heap.size 0 E ∧ w'.cell? ⟨w.heap.size, 0, none⟩ = some (.int .u8 DA) ∧ w'.rangeAt w.heap.size 2 PV) W6 := HT.out W6 hB6 hx6
    replace hS : (fun _ : World => True) W6 := trivial
    refine hK.out _ _ hT (fun _ => hS) ?_
    clear hK K
    try simp only [Act.put, List.getElem_toArray, List.getElem_cons_succ, List.getElem_cons_zero, List.setIfInBounds_toArray, List.set_cons_zero, List.set_cons_succ]
    refine wpAnyT_held (i := 14) (v := .bool (RP == 3)) rfl (by kernel_rfl) (by kernel_rfl) (by kernel_rfl) (fun _ _ _ h => h) (by kernel_rfl) hT (fun _ => hS) (by kernel_rfl) ?_ ?_
    · intro wx hSw; go_split_ands; go_simp
    simp only [Act.put, List.getElem_toArray, List.getElem_cons_succ, List.getElem_cons_zero, List.setIfInBounds_toArray, List.set_cons_zero, List.set_cons_succ]
    refine wpAnyT_held (i := 15) (v := .agg (E ++ [Value.bool (RP == 3)]).toArray) rfl (by kernel_rfl) (by kernel_rfl) (by kernel_rfl) (fun _ _ _ h => h) (by kernel_rfl) hT (fun _ => hS) (by kernel_rfl) (fun wx h => exec_bldA _ _ rfl #[(0, .agg E.toArray), (1, .bool (RP == 3))] (by kernel_rfl) _ (ent_built E (RP == 3) he1 wx)) ?_
    simp only [Act.put, List.getElem_toArray, List.getElem_cons_succ, List.getElem_cons_zero, List.setIfInBounds_toArray, List.set_cons_zero, List.set_cons_succ]
    obtain ⟨V2, hrun, hb2, hg2⟩ := (HC.out.far hB6).map.store Try.underlying75 (by have := HLK.out.2; omega) (e, RP == 3) HE.out HLK.out.1
    rw [HEN.out] at hrun
    rw [show dotC (e, RP == 3).fst.da (e, RP == 3).fst.ds = DV from HDV.out] at hrun
    have hC2 : BookC V2 H b (L ++ [(e, RP == 3)]) := (HC.out.far hB6).turn _ hb2 hg2
    have hTu : Turn (fun k => k = b) w V2 := (Turn.of_below hB6).trans (Turn.of_grown hg2 (fun k e => (Option.some.inj e).symm))
    have hx7 : CellsAt V2 w.heap.size 32 E := hx6.congr (hg2.block _ hx6.lt (fun q => (HC.out.far hB6).map.cellsNe hx6 (Option.some.inj q).symm))
    refine wpAnyT_one (i := 16) rfl (by kernel_rfl) (by kernel_rfl) (fun K hK => ?_)
    refine wpx_upd _ _ _ _ rfl _ _ _ V2 rfl rfl rfl hrun ?_
    have hT7 : (fun w' : World => w'.cell? ⟨H, 0, none⟩ = some (.map (some b)) ∧ w'.rangeAt w.heap.size 0 DV ∧ w'.rangeAt w.heap.size 0 E ∧ w'.cell? ⟨w.heap.size, 0, none⟩ = some (.int .u8 DA) ∧ w'.rangeAt w.heap.size 2 PV) V2 := by
      have hk : V2.heap[w.heap.size]? = W6.heap[w.heap.size]? := hg2.block _ hx6.lt (fun q => (HC.out.far hB6).map.cellsNe hx6 (Option.some.inj q).symm)
      obtain ⟨-, r2, r3, r4, r5⟩ := hT
      exact ⟨hC2.mapCell, fun j u hu => (World.cell?_of_block (a := ⟨w.heap.size, 0 + j, none⟩) hk).trans (r2 j u hu), fun j u hu => (World.cell?_of_block (a := ⟨w.heap.size, 0 + j, none⟩) hk).trans (r3 j u hu), (World.cell?_of_block (a := ⟨w.heap.size, 0, none⟩) hk).trans r4, fun j u hu => (World.cell?_of_block (a := ⟨w.heap.size, 2 + j, none⟩) hk).trans (r5 j u hu)⟩
    clear hT
    have hT := hT7
    replace hS : (fun _ : World => True) V2 := trivial
    refine hK.out _ _ hT (fun _ => hS) ?_
    clear hK K
    try simp only [Act.put, List.getElem_toArray, List.getElem_cons_succ, List.getElem_cons_zero, List.setIfInBounds_toArray, List.set_cons_zero, List.set_cons_succ]
    refine wpAnyT_done (by kernel_rfl) ?_ _
    clear hT hS hT7 hrun hg2 hro q1 q2 q3 q4 q5
    go_wp2
    go_ret
    exact ⟨rfl, by rw [HAD.out]; exact hC2, hTu⟩
end Go.Proofs.Ytgmbmdmbnpkbbaa
