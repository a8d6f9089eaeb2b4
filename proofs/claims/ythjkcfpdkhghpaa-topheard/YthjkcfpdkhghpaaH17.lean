/- Bf6 -/
import Derived.Test.YthjkcfpdkhghpaaH16
namespace Go.Proofs.Ythjkcfpdkhghpaa
open Go.RowKit Go.Shelf
attribute [local go_sem] Oper.semAt_some
set_option maxRecDepth 20000
set_option linter.unusedSimpArgs false
def incS (S : List Int) (a : Int) : List Int := S.set a.toNat (S[a.toNat]?.getD 0 + 1)
inductive Takes : List Int → List Ev → List Ev → List Int → List Ev → Prop
  | done (S : List Int) (L : List Ev) (h : fullB S = true ∨ firstR S L = none) : Takes S L [] S L
  | step (S : List Int) (L : List Ev) (e : Ev) (xs : List Ev) (S2 : List Int) (L2 : List Ev) (hf : fullB S = false) (h : firstR S L = some e) (ht : Takes (incS S e.da) (delE e.dot L) xs S2 L2) : Takes S L (e :: xs) S2 L2
theorem right_bounds {e : Ev} (h0 : 0 ≤ e.ds) (h : rightB e = true) : e.da < 8 ∧ 1 ≤ e.ds ∧ e.ds ≤ 1048576 := by
  have h := (Bool.and_eq_true_iff.1 h).1
  unfold rightDotB at h
  simp only [Bool.and_eq_true, decide_eq_true_eq, Bool.not_eq_true', beq_eq_false_iff_ne] at h
  exact ⟨h.1, by have := h.2.1; omega, h.2.2.1⟩
theorem ready_right {S : List Int} {e : Ev} (h : readyB S e = true) : rightB e = true ∧ S[e.da.toNat]?.getD 0 = e.ds - 1 := by
  unfold readyB at h
  simp only [Bool.and_eq_true, beq_iff_eq] at h
  exact ⟨h.1, h.2.1⟩
theorem firstR_mem {S : List Int} {L : List Ev} {e : Ev} (h : firstR S L = some e) : e ∈ L ∧ readyB S e = true := ⟨List.mem_of_find?_eq_some h, List.find?_some h⟩
theorem incS_len (S : List Int) (a : Int) : (incS S a).length = S.length := by unfold incS; simp
theorem incS_rng {S : List Int} {e : Ev} (h0 : 0 ≤ e.ds) (hr : ∀ x ∈ S, 0 ≤ x ∧ x ≤ 4294967295) (h : readyB S e = true) : ∀ x ∈ incS S e.da, 0 ≤ x ∧ x ≤ 4294967295 := by
  intro x hx
  unfold incS at hx
  obtain ⟨h1, h2⟩ := ready_right h
  have h3 := right_bounds h0 h1
  rcases List.mem_or_eq_of_mem_set hx with q | q
  · exact hr x q
  · rw [q, h2]; omega
def mapSize (w : World) (b : Nat) : Nat := match w.heap[b]? with | some (.map es _) => es.size | _ => 0
theorem WaitAt.msize {w : World} {b : Nat} {L : List Ev} (h : WaitAt w b L) : mapSize w b = L.length := by
  obtain ⟨D, ⟨es, cl, hb, F, hs, hD⟩, _, hsz, _⟩ := h
  unfold mapSize
  rw [hb]
  show es.size = L.length
  rw [← hsz, hD, Maps.size_eq, length_read]
structure MovesW (T Wr : Nat → Prop) (w : World) (T' : Nat → Prop) (w' : World) : Prop where
  turn : Turn (fun k => T k ∨ Wr k) w w'
  own : ∀ k, T' k → (T k ∨ w.heap.size ≤ k) ∧ k < w'.heap.size
structure PostTk (H b : Nat) (S : List Int) (L : List Ev) (xs : List Ev) (W' : World) : Prop where
  out : ∃ S2 L2, Takes S L xs S2 L2 ∧ BufC W' H b S2 L2
theorem wpx_del {P : Program} {o : Oper} {a : Act} {w : World} {K : Act → World → Prop} {Q : Exit → Act → World → Prop} (m k : Operand) (ts : Array TypeId) (ho : o.op = .call { callee := .builtin .delete, args := #[m, k], argTypes := ts }) (mv kv v : Value) (w' : World) (hm : a.eval m = mv) (hk : a.eval k = kv) (hrun : (Builtin.delete_ ts o.type #[mv, kv]).run P w = .ok v w') (h : K (a.put o.dst v) w') : o.wp P a w K Q := by
  unfold Oper.wp execOp
  simp only [ho, resolve, invoke, builtin, Sem.run_bind, Sem.run_pure, Result.andThen_ok, List.map_toArray, List.map_cons, List.map_nil, hm, hk, hrun]
  exact h
set_option maxHeartbeats 8000000 in
theorem taken1_seq (n Bb H b : Nat) (S : List Int) (L : List Ev) (w : World) (hB : w.cell? ⟨Bb, 0, none⟩ = some (.pointer (some ⟨H, 0, none⟩))) (hC : BufC w H b S L) (hL : L.length ≤ 1000) :
    SeqT n Try.prog 31 #[.pointer (some ⟨Bb, 0, none⟩)] (fun x : Ev => #[.agg x.cells.toArray]) (fun k => k = b ∨ k = H ∨ k = Bb) (fun k => k = b ∨ k = H) (PostTk H b S L) (fun _ _ => True) (fun x => x.Ok) L.length w := by
  intro l T J Jx W hWW hT hJ hJx hY h0
  have hlb : Bb < w.heap.size := block_lt_of_cell hB
  have hB2 : W.cell? ⟨Bb, 0, none⟩ = some (.pointer (some ⟨H, 0, none⟩)) := (hWW.cell (p := ⟨Bb, 0, none⟩) hlb).trans hB
  have hC2 := hC.congr (hWW.block H hC.cells.lt) (hWW.block b hC.wait.lt)
  have hTn : ∀ k, T k → k < W.heap.size := fun k hk => (hT k hk).2
  have hOn : ∀ k, (k = b ∨ k = H ∨ k = Bb) → k < W.heap.size ∧ ¬ T k := fun k hk => ⟨by rcases hk with rfl | rfl | rfl; exact hC2.wait.lt; exact hC2.cells.lt; exact block_lt_of_cell hB2, fun q => (hT k q).1 hk⟩
  have hHb : b ≠ H := hC2.wait.cellsNe hC2.cells
  refine callsIn_of_wp Try.func31 rfl trivial ?_ rfl
  simp only [Try.ntmps31, List.size_toArray, List.length_cons, List.length_nil, Nat.reduceAdd, Nat.reduceSub, Array.replicate_succ, Array.replicate_zero, List.push_toArray, List.append_toArray, List.nil_append, List.cons_append]
  gi_wp2
  gi_loopw [3, 4] (fun _ _ wr => ∃ (pre : List Ev) (S1 : List Int) (L1 : List Ev) (T' : Nat → Prop), BufC wr H b S1 L1 ∧ wr.cell? ⟨Bb, 0, none⟩ = some (.pointer (some ⟨H, 0, none⟩)) ∧ (∀ xs S2 L2, Takes S1 L1 xs S2 L2 → Takes S L (pre ++ xs) S2 L2) ∧ pre.length + L1.length = L.length ∧ J T' pre wr ∧ MovesW T (fun k => k = b ∨ k = H) W T' wr)
    (fun _ _ wr => mapSize wr b)
  case atStart => exact ⟨[], S, L, T, hC2, hB2, fun xs S2 L2 h => h, by simp, h0, ⟨Turn.refl _ _, fun k hk => ⟨.inl hk, hTn k hk⟩⟩⟩
  case round =>
    obtain ⟨pre, S1, L1, T1, hC1, hB1, hTk, hln, hJs, hmv⟩ := hrel
    have hfu := full_any H b S1 L1 wr hC1
    have HFR := Veil.mk (fun V (hb : Below wr.heap.size wr V) => firstReady_any H b S1 L1 V (hC1.far hb) (by omega))
    have HB1 : Veil (∀ V, Below wr.heap.size wr V → V.cell? ⟨Bb, 0, none⟩ = some (.pointer (some ⟨H, 0, none⟩))) := ⟨fun V hb => (hb.cell (p := ⟨Bb, 0, none⟩) (block_lt_of_cell hB1)).trans hB1⟩
    have HEND : Veil (∀ V, Below wr.heap.size wr V → (fullB S1 = true ∨ firstR S1 L1 = none) → PostTk H b S L pre V ∧ J T1 pre V ∧ MovesT (fun k => T k ∨ (k = b ∨ k = H)) W T1 V) := ⟨fun V hb hd => by
      refine ⟨⟨⟨S1, L1, by have := hTk [] S1 L1 (Takes.done S1 L1 hd); rwa [List.append_nil] at this, hC1.far hb⟩⟩, hJ _ _ _ _ hJs (StaysT.of_below hb (fun k hk => hk.elim (fun q => (hmv.own k q).2) (fun q => Nat.lt_of_lt_of_le q.1 hmv.turn.size))), hmv.turn.trans (Turn.of_below hb), fun k hk => ⟨by rcases (hmv.own k hk).1 with q | q; exact .inl (.inl q); exact .inr q, Nat.lt_of_lt_of_le (hmv.own k hk).2 hb.size⟩⟩⟩
    by_cases hfull : fullB S1 = true
    · rw [hfull] at hfu
      have HF := Veil.mk hfull
      clear hfull hJ hJx hY h0 hTk hC1 hC2 hC hOn hTn hT
      gi_wp2_with (refine ⟨trivial, (fun h => by cases h), ?_⟩; gi_at_call 28; refine (callsIn_wide.2 hfu).mono ?_; rintro e V1 ⟨rfl, hb1⟩)
      go_end0
      obtain ⟨r1, r2, r3⟩ := HEND.out V1 hb1 (.inl HF.out)
      exact ⟨⟨_, rfl⟩, .inl ⟨pre, T1, r1, r2, r3⟩⟩
    · have hff : fullB S1 = false := by simpa using hfull
      rw [hff] at hfu
      have HF := Veil.mk hff
      have hZ1 : ∀ v ∈ evZ17, v.oneCell' = true := by decide
      cases hfe : firstR S1 L1 with
      | none =>
        have HN := Veil.mk hfe
        rw [hfe] at HFR
        have iZ : (Try.prog.info? 38).map (·.size) = some evZ17.length := by kernel_rfl
        clear hfull hff hfe hJ hJx hY h0 hTk hC1 hC2 hC hOn hTn hT
        gi_wp2_with (first
          | (refine ⟨trivial, (fun h => by cases h), ?_⟩; gi_at_call 28; refine (callsIn_wide.2 hfu).mono ?_; rintro e V1 ⟨rfl, hb1⟩; have hc1 := HB1.out V1 hb1; have hfr := HFR.out V1 hb1)
          | (refine ⟨trivial, (fun h => by cases h), ?_⟩; gi_at_call 32; refine (callsIn_wide.2 hfr).mono ?_; rintro e V2 ⟨rfl, hb2⟩)
          | (refine wpListI_stv rfl 38 _ _ rfl V2.heap.size rfl (cs := evZ17) rfl (CellsAt.new V2 38 [.int .u8 0, .int .u32 0, .int .u32 0, .int .u32 0, .int .u32 0, .int .u32 0, .int .u32 0, .int .u32 0, .int .u32 0, .int .u32 0, .int .u8 0, .int .u8 0, .int .u32 0, .bool false, .int .u8 0, .int .u8 0, .int .u8 0]) iZ rfl hZ1 ?_))
        have hb3 : Below wr.heap.size wr ((V2.alloc (.cells #[.int .u8 0, .int .u32 0, .int .u32 0, .int .u32 0, .int .u32 0, .int .u32 0, .int .u32 0, .int .u32 0, .int .u32 0, .int .u32 0, .int .u8 0, .int .u8 0, .int .u32 0, .bool false, .int .u8 0, .int .u8 0, .int .u8 0] 38)).setRow V2.heap.size evZ17.toArray) := by
          have h12 := hb1.trans (hb2.mono hb1.size)
          refine ⟨h12.os, h12.tape, h12.output, by have := h12.size; simp [World.setRow, World.putObj]; omega, fun k hk => ?_⟩
          rw [setRow_other _ _ _ _ (by have := h12.size; omega), Below.heap_alloc V2 _ k (by have := h12.size; omega)]
          exact h12.block k hk
        obtain ⟨r1, r2, r3⟩ := HEND.out _ hb3 (.inr HN.out)
        refine bodyPost_ret (results_none rfl _ _ _) rfl ?_
        exact ⟨⟨_, rfl⟩, .inl ⟨pre, T1, r1, r2, r3⟩⟩
      | some e =>
        obtain ⟨hem, hrdy⟩ := firstR_mem hfe
        have hok := hC1.wait.ok e hem
        have he1 := ev_len e hok.past
        have he2 := ev_one e
        rw [hfe] at HFR
        have HFE := Veil.mk hfe
        have HFR2 : Veil (∀ V, Below wr.heap.size wr V → Calls Try.prog 32 #[.pointer (some ⟨H, 0, none⟩)] V fun x w' => x = .returned (.tuple #[.agg e.cells.toArray, .bool true]) ∧ Below V.heap.size V w') := ⟨fun V hb => HFR.out V hb⟩
        have HOK := Veil.mk hok
        have HRD := Veil.mk hrdy
        have HEM := Veil.mk hem
        have HJ := Veil.mk hJ
        have HY := Veil.mk hY
        have HC1 := Veil.mk hC1
        have HMV := Veil.mk hmv
        have HJs := Veil.mk hJs
        have HTk := Veil.mk hTk
        have HOn := Veil.mk hOn
        have HLN := Veil.mk hln
        have iE : (Try.prog.info? 38).map (·.size) = some e.cells.length := by rw [he1]; kernel_rfl
        obtain ⟨E, hE⟩ : ∃ E, e.cells = E := ⟨_, rfl⟩
        rw [hE] at HFR2 he1 he2 iE
        have HEQ := Veil.mk hE
        have hZE : evZ17.length = E.length := by rw [he1]; rfl
        clear hfull hff hfe hJ hJx hY h0 hTk hC1 hC2 hC hOn hTn hT hem hrdy hok hE HFR HEND hmv hJs hB2 hB hWW hln hlb hZ1
        gi_wp2_with (first
          | (refine ⟨trivial, (fun h => by cases h), ?_⟩; gi_at_call 28; refine (callsIn_wide.2 hfu).mono ?_; rintro e V1 ⟨rfl, hb1⟩; have hc1 := HB1.out V1 hb1; have hfr := HFR2.out V1 hb1)
          | (refine ⟨trivial, (fun h => by cases h), ?_⟩; gi_at_call 32; refine (callsIn_wide.2 hfr).mono ?_; rintro e V2 ⟨rfl, hb2⟩)
          | (refine wpListI_stv rfl 38 _ _ rfl V2.heap.size rfl (cs := E) rfl (CellsAt.new V2 38 evZ17) iE hZE he2 ?_))
        have hb3 : Below wr.heap.size wr ((V2.alloc (.cells #[.int .u8 0, .int .u32 0, .int .u32 0, .int .u32 0, .int .u32 0, .int .u32 0, .int .u32 0, .int .u32 0, .int .u32 0, .int .u32 0, .int .u8 0, .int .u8 0, .int .u32 0, .bool false, .int .u8 0, .int .u8 0, .int .u8 0] 38)).setRow V2.heap.size E.toArray) := by
          have h12 := hb1.trans (hb2.mono hb1.size)
          refine ⟨h12.os, h12.tape, h12.output, by have := h12.size; simp [World.setRow, World.putObj]; omega, fun k hk => ?_⟩
          rw [setRow_other _ _ _ _ (by have := h12.size; omega), Below.heap_alloc V2 _ k (by have := h12.size; omega)]
          exact h12.block k hk
        have hx3 : CellsAt ((V2.alloc (.cells #[.int .u8 0, .int .u32 0, .int .u32 0, .int .u32 0, .int .u32 0, .int .u32 0, .int .u32 0, .int .u32 0, .int .u32 0, .int .u32 0, .int .u8 0, .int .u8 0, .int .u32 0, .bool false, .int .u8 0, .int .u8 0, .int .u8 0] 38)).setRow V2.heap.size E.toArray) V2.heap.size 38 E := (CellsAt.new V2 38 evZ17).setRow E
        have hge : wr.heap.size ≤ V2.heap.size := Nat.le_trans hb1.size hb2.size
        generalize (V2.alloc (.cells #[.int .u8 0, .int .u32 0, .int .u32 0, .int .u32 0, .int .u32 0, .int .u32 0, .int .u32 0, .int .u32 0, .int .u32 0, .int .u32 0, .int .u8 0, .int .u8 0, .int .u32 0, .bool false, .int .u8 0, .int .u8 0, .int .u8 0] 38)).setRow V2.heap.size E.toArray = V3 at hb3 hx3 ⊢
        generalize V2.heap.size = Be at hx3 hge ⊢
        clear hfr hc1 hb1 hb2 hfu HFR2 hZE
        have hC3 := HC1.out.far hb3
        have cB3 := HB1.out V3 hb3
        have cM3 := hC3.mapCell
        have hdr : Veil (∀ (V : World), CellsAt V Be 38 E → V.rangeAt Be 0 (dotC e.da e.ds) ∧ V.cell? ⟨Be, 0, none⟩ = some (.int .u8 e.da)) := ⟨fun V hV => by
          have h1 := hV.range 0 2
          rw [← HEQ.out, (ev_parts e HOK.out.past).1] at h1
          exact ⟨h1, by have := h1 0 _ rfl; simpa using this⟩⟩
        have uD := Try.underlying32
        have iD : (Try.prog.info? 32).map (·.size) = some (dotC e.da e.ds).length := sizeDot
        obtain ⟨V4, hrun, hw4, hg4⟩ := (hC3.wait.congr (w' := V3.drew) rfl).drop Try.underlying52 0 e HEM.out
        have HG4 := Veil.mk hg4
        have hHb2 : ∀ k, k < V3.heap.size → k ≠ b → V4.heap[k]? = V3.heap[k]? := fun k hk hn => hg4.block k hk (fun q => hn (Option.some.inj q))
        have hlH : H < V3.heap.size := hC3.cells.lt
        have hcH4 := hC3.cells.congr (hHb2 H hlH (Ne.symm hHb))
        have cB4 : V4.cell? ⟨Bb, 0, none⟩ = some (.pointer (some ⟨H, 0, none⟩)) := (World.cell?_of_block (a := ⟨Bb, 0, none⟩) (hHb2 Bb (block_lt_of_cell cB3) (fun q => by subst q; have := hC3.wait; obtain ⟨D, ⟨es, cl, hb', _⟩, _⟩ := this; rw [World.cell?, hb'] at cB3; cases cB3))).trans cB3
        have hx4 : CellsAt V4 Be 38 E := hx3.congr (hHb2 Be hx3.lt (Ne.symm (hC3.wait.cellsNe hx3)))
        have cM4 : V4.cell? ⟨H, 8, none⟩ = some (.map (some b)) := (World.cell?_of_block (a := ⟨H, 8, none⟩) (hHb2 H hlH (Ne.symm hHb))).trans cM3
        refine wpIn_wide.2 ?_
        refine wp_region_gateT (fun w' => w'.cell? ⟨Bb, 0, none⟩ = some (.pointer (some ⟨H, 0, none⟩)) ∧ w'.cell? ⟨H, 8, none⟩ = some (.map (some b)) ∧ w'.rangeAt Be 0 (dotC e.da e.ds)) (fun _ => True) 99 (by kernel_rfl) ?_
        have hT : (fun w' : World => w'.cell? ⟨Bb, 0, none⟩ = some (.pointer (some ⟨H, 0, none⟩)) ∧ w'.cell? ⟨H, 8, none⟩ = some (.map (some b)) ∧ w'.rangeAt Be 0 (dotC e.da e.ds)) V3.drew := ⟨cB3, cM3, (hdr.out V3 hx3).1⟩
        have hS : (fun _ : World => True) V3.drew := trivial
        have HKK : Veil ((∀ k, k < V3.heap.size → k ≠ b → V4.heap[k]? = V3.heap[k]?) ∧ V3.heap.size ≤ V4.heap.size) := ⟨hHb2, hg4.size⟩
        clear hg4 hHb2
        refine wpAnyT_held (i := 0) (v := ?_) rfl (by kernel_rfl) (by kernel_rfl) (by kernel_rfl) (fun _ _ _ h => h) (by kernel_rfl) hT (fun _ => hS) (by kernel_rfl) ?_ ?_
        rotate_left
        · intro wx hSw; go_split_ands; go_simp; try with_reducible rfl
        simp only [Act.put, List.getElem_toArray, List.getElem_cons_succ, List.getElem_cons_zero, List.setIfInBounds_toArray, List.set_cons_zero, List.set_cons_succ]
        refine wpAnyT_held (i := 1) (v := ?_) rfl (by kernel_rfl) (by kernel_rfl) (by kernel_rfl) (fun _ _ _ h => h) (by kernel_rfl) hT (fun _ => hS) (by kernel_rfl) ?_ ?_
        rotate_left
        · intro wx hSw; go_split_ands; go_simp; try with_reducible rfl
        simp only [Act.put, List.getElem_toArray, List.getElem_cons_succ, List.getElem_cons_zero, List.setIfInBounds_toArray, List.set_cons_zero, List.set_cons_succ]
        refine wpAnyT_held (i := 2) (v := ?_) rfl (by kernel_rfl) (by kernel_rfl) (by kernel_rfl) (fun _ _ _ h => h) (by kernel_rfl) hT (fun _ => hS) (by kernel_rfl) ?_ ?_
        rotate_left
        · intro wx hSw; go_split_ands; go_simp; try with_reducible rfl
        simp only [Act.put, List.getElem_toArray, List.getElem_cons_succ, List.getElem_cons_zero, List.setIfInBounds_toArray, List.set_cons_zero, List.set_cons_succ]
        refine wpAnyT_held (i := 3) (v := ?_) rfl (by kernel_rfl) (by kernel_rfl) (by kernel_rfl) (fun _ _ _ h => h) (by kernel_rfl) hT (fun _ => hS) (by kernel_rfl) ?_ ?_
        rotate_left
        · intro wx hSw; go_split_ands; go_simp; try with_reducible rfl
        simp only [Act.put, List.getElem_toArray, List.getElem_cons_succ, List.getElem_cons_zero, List.setIfInBounds_toArray, List.set_cons_zero, List.set_cons_succ]
        refine wpAnyT_held (i := 4) (v := ?_) rfl (by kernel_rfl) (by kernel_rfl) (by kernel_rfl) (fun _ _ _ h => h) (by kernel_rfl) hT (fun _ => hS) (by kernel_rfl) ?_ ?_
        rotate_left
        · intro wx hSw; go_split_ands; go_simp; try with_reducible rfl
        simp only [Act.put, List.getElem_toArray, List.getElem_cons_succ, List.getElem_cons_zero, List.setIfInBounds_toArray, List.set_cons_zero, List.set_cons_succ]
        refine wpAnyT_load (i := 5) (dst := some 20) (ty := 32) (x := .tmp 19) (b := Be) (o := (0)) (cs := (dotC e.da e.ds)) (by kernel_rfl) (by kernel_rfl) (by kernel_rfl) (by kernel_rfl) (by kernel_rfl) (fun _ _ _ h => h) (by kernel_rfl) hT (fun _ => hS) (by kernel_rfl) (fun _ h => h.2.2) uD rfl iD ?_
        simp only [Act.put, List.getElem_toArray, List.getElem_cons_succ, List.getElem_cons_zero, List.setIfInBounds_toArray, List.set_cons_zero, List.set_cons_succ]
        refine wpAnyT_one (i := 6) rfl (by kernel_rfl) (by kernel_rfl) (fun K hK => ?_)
        refine wpx_del _ _ _ rfl _ _ _ V4 rfl rfl hrun ?_
        replace hT : (fun w' : World => w'.cell? ⟨Bb, 0, none⟩ = some (.pointer (some ⟨H, 0, none⟩)) ∧ w'.cell? ⟨H, 8, none⟩ = some (.map (some b)) ∧ w'.rangeAt Be 0 (dotC e.da e.ds)) V4 := ⟨cB4, cM4, (hdr.out V4 hx4).1⟩
        replace hS : (fun _ : World => True) V4 := trivial
        refine hK.out _ _ hT (fun _ => hS) ?_
        clear hK K
        try simp only [Act.put, List.getElem_toArray, List.getElem_cons_succ, List.getElem_cons_zero, List.setIfInBounds_toArray, List.set_cons_zero, List.set_cons_succ]
        refine wpAnyT_done (by kernel_rfl) ?_ _
        clear hT hS hrun cM3 cM4 cB3
        obtain ⟨hrb, hsd⟩ := ready_right HRD.out
        have hbd := right_bounds HOK.out.dot.2.1 hrb
        obtain ⟨dn, hdn⟩ := Int.eq_ofNat_of_zero_le HOK.out.dot.1.1
        have hdn8 : dn < 8 := by omega
        have hdi : (dn : Int) < 8 := by omega
        have hdi0 : (0 : Int) ≤ (dn : Int) := by omega
        have hl8 := HC1.out.len
        obtain ⟨x, hx⟩ : ∃ x, S1[dn]?.getD 0 = x := ⟨_, rfl⟩
        have hxr : x = e.ds - 1 := by rw [← hx, ← hsd, hdn]; rfl
        have hxw : IntKind.u32.wrap (x + 1) = x + 1 := by simp [IntKind.wrap, IntKind.bits, IntKind.signed]; omega
        have cx4 : V4.cell? ⟨H, dn, none⟩ = some (.int .u32 x) := by
          rw [hcH4.cell, List.getElem?_append_left (by simp [hl8]; exact hdn8), List.getElem?_map, List.getElem?_eq_getElem (by omega), ← hx, List.getElem?_eq_getElem (by omega)]; rfl
        have fx4 := hcH4.frozen dn
        have ca4 : V4.cell? ⟨Be, 0, none⟩ = some (.int .u8 (dn : Int)) := by rw [(hdr.out V4 hx4).2, hdn]
        have HC5 : Veil (BufC (V4.drew.setCell ⟨H, dn, none⟩ (.int .u32 (x + 1))) H b (incS S1 e.da) (delE e.dot L1)) := by
          refine ⟨⟨?_, hw4.congr (Below.heap_setCell _ _ _ _ hHb), by rw [incS_len]; exact hl8, incS_rng HOK.out.dot.2.1 HC1.out.rng HRD.out⟩⟩
          have h5 := (hcH4.congr (w' := V4.drew) rfl).set dn (.int .u32 (x + 1))
          have e5 : (S1.map (Value.int .u32) ++ [Value.map (some b)]).set dn (Value.int .u32 (x + 1)) = (incS S1 e.da).map (Value.int .u32) ++ [Value.map (some b)] := by
            rw [List.set_append_left _ _ (by simp [hl8]; exact hdn8)]
            unfold incS
            rw [List.map_set, hdn, Int.toNat_natCast, hx]
          rw [e5] at h5
          exact h5
        have hBeH : Be ≠ H := fun q => by have := hlH; rw [q] at hx4; have h1 : V4.heap[H]? = _ := hx4; have h2 : V4.heap[H]? = _ := hcH4; rw [h1] at h2; injection h2 with h2; injection h2 with h3 h4; cases h4
        have hx5 : CellsAt (V4.drew.setCell ⟨H, dn, none⟩ (.int .u32 (x + 1))) Be 38 E := (hx4.congr (w' := V4.drew) rfl).setOtherB _ _ hBeH
        have hBbH : Bb ≠ H := fun q => by
          subst q
          have h2 : V4.cell? ⟨Bb, 0, none⟩ = some (.int .u32 (S1[0]'(by omega))) := by rw [hcH4.cell, List.getElem?_append_left (by simp [hl8]), List.getElem?_map, List.getElem?_eq_getElem (by omega)]; rfl
          rw [cB4] at h2; cases h2
        have cB5 : (V4.drew.setCell ⟨H, dn, none⟩ (.int .u32 (x + 1))).cell? ⟨Bb, 0, none⟩ = some (.pointer (some ⟨H, 0, none⟩)) := (World.cell?_of_block (a := ⟨Bb, 0, none⟩) (Below.heap_setCell V4.drew ⟨H, dn, none⟩ _ Bb hBbH)).trans cB4
        have HV5 : Veil ((∀ k, k < wr.heap.size → k ≠ b → k ≠ H → (V4.drew.setCell ⟨H, dn, none⟩ (.int .u32 (x + 1))).heap[k]? = wr.heap[k]?) ∧ wr.heap.size ≤ (V4.drew.setCell ⟨H, dn, none⟩ (.int .u32 (x + 1))).heap.size ∧ (V4.drew.setCell ⟨H, dn, none⟩ (.int .u32 (x + 1))).os = wr.os ∧ (V4.drew.setCell ⟨H, dn, none⟩ (.int .u32 (x + 1))).tape = wr.tape ∧ (V4.drew.setCell ⟨H, dn, none⟩ (.int .u32 (x + 1))).output = wr.output) := by
          refine ⟨fun k hk h1 h2 => ?_, ?_, HG4.out.os.trans hb3.os, HG4.out.tape.trans hb3.tape, HG4.out.output.trans hb3.output⟩
          · exact ((Below.heap_setCell V4.drew ⟨H, dn, none⟩ _ k h2).trans (HKK.out.1 k (Nat.lt_of_lt_of_le hk hb3.size) h1)).trans (hb3.block k hk)
          · have := HKK.out.2; have := hb3.size; simp [World.setCell]; omega
        clear hx hxr hsd hrb hbd hdn HG4 HKK hx3 hb3 hC3 hx4 hcH4 hw4 hlH hdr uD iD hl8
        gi_wp2
        refine wpIn_wide.2 ?_
        refine wp_region_gate (fun w' => w'.cell? ⟨Bb, 0, none⟩ = some (.pointer (some ⟨H, 0, none⟩)) ∧ w'.cell? ⟨Be, 0, none⟩ = some (.int .u8 (dn : Int)) ∧ w'.cell? ⟨H, dn, none⟩ = some (.int .u32 x)) 12 (by kernel_rfl) ?_
        have hS : (fun w' : World => w'.cell? ⟨Bb, 0, none⟩ = some (.pointer (some ⟨H, 0, none⟩)) ∧ w'.cell? ⟨Be, 0, none⟩ = some (.int .u8 (dn : Int)) ∧ w'.cell? ⟨H, dn, none⟩ = some (.int .u32 x)) V4.drew := ⟨cB4, ca4, cx4⟩
        refine wpAnyG_read (i := 0) (v := ?_) rfl (by kernel_rfl) (by kernel_rfl) (by kernel_rfl) (fun _ _ _ h => h) (by kernel_rfl) (by kernel_rfl) (by kernel_rfl) hS (by kernel_rfl) ?_ ?_
        rotate_left
        · intro wx hSw; go_split_ands; go_simp; try with_reducible rfl
        simp only [Act.put, List.getElem_toArray, List.getElem_cons_succ, List.getElem_cons_zero, List.setIfInBounds_toArray, List.set_cons_zero, List.set_cons_succ]
        refine wpAnyG_any (i := 1) (v := ?_) rfl (by kernel_rfl) (by kernel_rfl) (by kernel_rfl) (fun _ _ _ h => h) (by kernel_rfl) (fun _ => hS) (by kernel_rfl) ?_ ?_
        rotate_left
        · intro _; go_simp; try with_reducible rfl
        simp only [Act.put, List.getElem_toArray, List.getElem_cons_succ, List.getElem_cons_zero, List.setIfInBounds_toArray, List.set_cons_zero, List.set_cons_succ]
        refine wpAnyG_any (i := 2) (v := ?_) rfl (by kernel_rfl) (by kernel_rfl) (by kernel_rfl) (fun _ _ _ h => h) (by kernel_rfl) (fun _ => hS) (by kernel_rfl) ?_ ?_
        rotate_left
        · intro _; go_simp; try with_reducible rfl
        simp only [Act.put, List.getElem_toArray, List.getElem_cons_succ, List.getElem_cons_zero, List.setIfInBounds_toArray, List.set_cons_zero, List.set_cons_succ]
        refine wpAnyG_read (i := 3) (v := ?_) rfl (by kernel_rfl) (by kernel_rfl) (by kernel_rfl) (fun _ _ _ h => h) (by kernel_rfl) (by kernel_rfl) (by kernel_rfl) hS (by kernel_rfl) ?_ ?_
        rotate_left
        · intro wx hSw; go_split_ands; go_simp; try with_reducible rfl
        simp only [Act.put, List.getElem_toArray, List.getElem_cons_succ, List.getElem_cons_zero, List.setIfInBounds_toArray, List.set_cons_zero, List.set_cons_succ]
        refine wpAnyG_any (i := 4) (v := ?_) rfl (by kernel_rfl) (by kernel_rfl) (by kernel_rfl) (fun _ _ _ h => h) (by kernel_rfl) (fun _ => hS) (by kernel_rfl) ?_ ?_
        rotate_left
        · intro _; go_simp; try with_reducible rfl
        simp only [Act.put, List.getElem_toArray, List.getElem_cons_succ, List.getElem_cons_zero, List.setIfInBounds_toArray, List.set_cons_zero, List.set_cons_succ]
        refine wpAnyG_any (i := 5) (v := ?_) rfl (by kernel_rfl) (by kernel_rfl) (by kernel_rfl) (fun _ _ _ h => h) (by kernel_rfl) (fun _ => hS) (by kernel_rfl) ?_ ?_
        rotate_left
        · intro _; go_simp; try with_reducible rfl
        simp only [Act.put, List.getElem_toArray, List.getElem_cons_succ, List.getElem_cons_zero, List.setIfInBounds_toArray, List.set_cons_zero, List.set_cons_succ]
        refine wpAnyG_any (i := 6) (v := ?_) rfl (by kernel_rfl) (by kernel_rfl) (by kernel_rfl) (fun _ _ _ h => h) (by kernel_rfl) (fun _ => hS) (by kernel_rfl) ?_ ?_
        rotate_left
        · intro _; go_simp; try with_reducible rfl
        simp only [Act.put, List.getElem_toArray, List.getElem_cons_succ, List.getElem_cons_zero, List.setIfInBounds_toArray, List.set_cons_zero, List.set_cons_succ]
        refine wpAnyG_read (i := 7) (v := ?_) rfl (by kernel_rfl) (by kernel_rfl) (by kernel_rfl) (fun _ _ _ h => h) (by kernel_rfl) (by kernel_rfl) (by kernel_rfl) hS (by kernel_rfl) ?_ ?_
        rotate_left
        · intro wx hSw; go_split_ands; go_simp; try with_reducible rfl
        simp only [Act.put, List.getElem_toArray, List.getElem_cons_succ, List.getElem_cons_zero, List.setIfInBounds_toArray, List.set_cons_zero, List.set_cons_succ]
        refine wpAnyG_any (i := 8) (v := .int .u32 (x + 1)) rfl (by kernel_rfl) (by kernel_rfl) (by kernel_rfl) (fun _ _ _ h => h) (by kernel_rfl) (fun _ => hS) (by kernel_rfl) ?_ ?_
        · intro _; go_simp
        simp only [Act.put, List.getElem_toArray, List.getElem_cons_succ, List.getElem_cons_zero, List.setIfInBounds_toArray, List.set_cons_zero, List.set_cons_succ]
        refine wpAnyG_any (i := 9) (v := ?_) rfl (by kernel_rfl) (by kernel_rfl) (by kernel_rfl) (fun _ _ _ h => h) (by kernel_rfl) (fun _ => hS) (by kernel_rfl) ?_ ?_
        rotate_left
        · intro _; go_simp; try with_reducible rfl
        simp only [Act.put, List.getElem_toArray, List.getElem_cons_succ, List.getElem_cons_zero, List.setIfInBounds_toArray, List.set_cons_zero, List.set_cons_succ]
        refine wpAnyG_any (i := 10) (v := ?_) rfl (by kernel_rfl) (by kernel_rfl) (by kernel_rfl) (fun _ _ _ h => h) (by kernel_rfl) (fun _ => hS) (by kernel_rfl) ?_ ?_
        rotate_left
        · intro _; go_simp; try with_reducible rfl
        simp only [Act.put, List.getElem_toArray, List.getElem_cons_succ, List.getElem_cons_zero, List.setIfInBounds_toArray, List.set_cons_zero, List.set_cons_succ]
        refine wpAnyG_any (i := 11) (v := ?_) rfl (by kernel_rfl) (by kernel_rfl) (by kernel_rfl) (fun _ _ _ h => h) (by kernel_rfl) (fun _ => hS) (by kernel_rfl) ?_ ?_
        rotate_left
        · intro _; go_simp; try with_reducible rfl
        simp only [Act.put, List.getElem_toArray, List.getElem_cons_succ, List.getElem_cons_zero, List.setIfInBounds_toArray, List.set_cons_zero, List.set_cons_succ]
        refine wpAnyG_one (i := 12) rfl (by kernel_rfl) (by kernel_rfl) (fun K hK => ?_)
        go_simp
        refine hK.out _ _ (fun h => absurd (show true = false from h) (by decide)) ?_
        clear hK K
        try simp only [Act.put, List.getElem_toArray, List.getElem_cons_succ, List.getElem_cons_zero, List.setIfInBounds_toArray, List.set_cons_zero, List.set_cons_succ]
        refine wpAnyG_done (by kernel_rfl) ?_ _
        rw [show (V4.setCell ⟨H, dn, none⟩ (.int .u32 (x + 1))).drew = V4.drew.setCell ⟨H, dn, none⟩ (.int .u32 (x + 1)) from rfl]
        generalize V4.drew.setCell ⟨H, dn, none⟩ (.int .u32 (x + 1)) = V5 at HC5 hx5 cB5 HV5 ⊢
        clear hS cB4 ca4 cx4 fx4 hxw hdi hdi0 hdn8 hge
        have hT1 : ∀ k, (k = b ∨ k = H ∨ k = Bb) → ¬ T1 k := fun k hk q => by
          have h1 := HOn.out k hk
          rcases (HMV.out.own k q).1 with r | r
          · exact h1.2 r
          · omega
        have hst : StaysT (fun k => T1 k ∨ (k < W.heap.size ∧ ¬ (k = b ∨ k = H))) wr V5 := ⟨HV5.out.2.2.1, HV5.out.2.2.2.1, HV5.out.2.2.2.2, HV5.out.2.1, fun k hk => by
          rcases hk with hk | hk
          · exact HV5.out.1 k (HMV.out.own k hk).2 (fun q => hT1 b (.inl rfl) (q ▸ hk)) (fun q => hT1 H (.inr (.inl rfl)) (q ▸ hk))
          · exact HV5.out.1 k (Nat.lt_of_lt_of_le hk.1 HMV.out.turn.size) (fun q => hk.2 (.inl q)) (fun q => hk.2 (.inr q))⟩
        have hlen : (delE e.dot L1).length + 1 = L1.length := length_delE HC1.out.wait.sorted HEM.out
        obtain ⟨fn, tmps, assign, body, hy, hR⟩ := HY.out T1 pre e V5 (HJ.out _ _ _ _ HJs.out hst) HOK.out (by have := HLN.out; omega) (fun k hk => Nat.lt_of_lt_of_le (HMV.out.own k hk).2 HV5.out.2.1)
        rw [HEQ.out] at hy
        have HN : Veil (∀ W3 T2, MovesT T1 V5 T2 W3 → BufC W3 H b (incS S1 e.da) (delE e.dot L1) ∧ W3.cell? ⟨Bb, 0, none⟩ = some (.pointer (some ⟨H, 0, none⟩)) ∧ MovesW T (fun k => k = b ∨ k = H) W T2 W3) := ⟨fun W3 T2 hm => by
          have hO : ∀ k, (k = b ∨ k = H ∨ k = Bb) → W3.heap[k]? = V5.heap[k]? := fun k hk => hm.turn.block k (by have := (HOn.out k hk).1; have := HMV.out.turn.size; have := HV5.out.2.1; omega) (hT1 k hk)
          refine ⟨HC5.out.congr (hO H (.inr (.inl rfl))) (hO b (.inl rfl)), (World.cell?_of_block (a := ⟨Bb, 0, none⟩) (hO Bb (.inr (.inr rfl)))).trans cB5, ⟨?_, ?_, ?_, ?_, fun k hk hn => ?_⟩, fun k hk => ?_⟩
          · exact (hm.turn.os.trans hst.os).trans HMV.out.turn.os
          · exact (hm.turn.tape.trans hst.tape).trans HMV.out.turn.tape
          · exact (hm.turn.output.trans hst.output).trans HMV.out.turn.output
          · exact Nat.le_trans (Nat.le_trans HMV.out.turn.size hst.size) hm.turn.size
          · have h1 : k < wr.heap.size := Nat.lt_of_lt_of_le hk HMV.out.turn.size
            refine ((hm.turn.block k (Nat.lt_of_lt_of_le h1 hst.size) (fun q => ?_)).trans (HV5.out.1 k h1 (fun q => hn (.inr (.inl q))) (fun q => hn (.inr (.inr q))))).trans (HMV.out.turn.block k hk hn)
            rcases (HMV.out.own k q).1 with r | r
            · exact hn (.inl r)
            · omega
          · refine ⟨?_, (hm.own k hk).2⟩
            rcases (hm.own k hk).1 with q | q
            · exact (HMV.out.own k q).1
            · exact .inr (Nat.le_trans (Nat.le_trans HMV.out.turn.size hst.size) q)⟩
        have HT2 : Veil (∀ xs S2 L2, Takes (incS S1 e.da) (delE e.dot L1) xs S2 L2 → Takes S L (pre ++ [e] ++ xs) S2 L2) := ⟨fun xs S2 L2 ht => by
          have := HTk.out (e :: xs) S2 L2 (Takes.step S1 L1 e xs S2 L2 HF.out HFE.out ht)
          rw [List.append_assoc]; exact this⟩
        have HMS : Veil (mapSize wr b = L1.length) := ⟨HC1.out.wait.msize⟩
        have hrE := hx5.wholeM
        have uE := Try.underlying38
        have HLE : Veil ((delE e.dot L1).length + 1 = L1.length) := ⟨hlen⟩
        clear hT1 hst hlen hx5 cB5 HV5 HC5 HY HJ HJs
        gi_wp2_with (refine wpListI_ldv rfl 38 _ rfl Be 0 rfl E hrE uE rfl iE ?_)
        refine ⟨(fun h => by cases h), hR.mono ?_⟩
        rintro e2 W3 (⟨rfl, T2, hJ3, hm3⟩ | ⟨rfl, T2, hJx3, hm3⟩)
        · obtain ⟨r1, r2, r3⟩ := HN.out W3 T2 hm3
          clear HN hm3 hrE hy hR
          gi_wp2
          go_roundw
          case rel => exact ⟨pre ++ [e], _, _, T2, r1, r2, HT2.out, by have := HLN.out; have := HLE.out; simp; omega, hJ3, r3⟩
          case measure => rw [r1.wait.msize, HMS.out]; have := HLE.out; omega
        · obtain ⟨r1, r2, r3⟩ := HN.out W3 T2 hm3
          clear HN hm3 hrE hy hR
          gi_wp2
          refine bodyPost_ret (results_none rfl _ _ _) rfl ?_
          exact ⟨⟨_, rfl⟩, .inr ⟨pre ++ [e], T2, trivial, hJx3, r3.turn, fun k hk => ⟨by rcases (r3.own k hk).1 with q | q; exact .inl (.inl q); exact .inr q, (r3.own k hk).2⟩⟩⟩
end Go.Proofs.Ythjkcfpdkhghpaa
