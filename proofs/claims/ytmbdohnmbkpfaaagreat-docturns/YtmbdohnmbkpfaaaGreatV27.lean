/- De1 Dc2 Gate7 Dc3 -/
import Derived.Test.YtmbdohnmbkpfaaaGreatV24
import Derived.Test.YtmbdohnmbkpfaaaGreatV26
import Derived.Test.YtmbdohnmbkpfaaaGreatV06
import Derived.Test.YtmbdohnmbkpfaaaGreatV02
namespace Go.Proofs.YtmbdohnmbkpfaaaGreat
open Go.RowKit Go.Shelf
set_option maxRecDepth 20000
set_option linter.unusedSimpArgs false
def flagsD (st : Ds) : List Bool := st.L.map fun e => decide (e.dot ∈ st.F)
structure GoodR (st : Ds) (K : List Ent) (G : List Bool) : Prop where
 cnt : cntL K = st.B
 good : GoodB K
 klen : K.length ≤ st.L.length
 seen : ∀ e ∈ st.L, hasB st.S e.da e.ds = true
 fin : ∀ x ∈ st.F, ∃ e ∈ st.L, e.dot = x
 kin : ∀ y ∈ K, y.1 ∈ st.L
 flags : G = flagsD st
theorem GoodR.new : GoodR newS [] [] := ⟨rfl, (fun x hx => by cases hx), Nat.le_refl _, (fun e he => by cases he), (fun x hx => by cases hx), (fun x hx => by cases hx), rfl⟩
def actR (K : List Ent) (e : Ev) : List Ent := if e.kind = 1 ∨ e.kind = 2 then K else addB K e
theorem GoodR.fresh {st : Ds} {K : List Ent} {G : List Bool} (h : GoodR st K G) {e : Ev} (hr : refD st e = 0) : ∀ x ∈ st.L, x.dot ≠ e.dot := fun x hx q => by
 have h1 := h.seen x hx
 have h2 := (refD_zero hr).2.1
 have q1 : x.da = e.da := congrArg Prod.fst q
 have q2 : x.ds = e.ds := congrArg Prod.snd q
 rw [q1, q2, h2] at h1
 cases h1
theorem GoodR.lookK {st : Ds} {K : List Ent} {G : List Bool} (h : GoodR st K G) {e : Ev} (hr : refD st e = 0) : lookB K e.dot = none := lookB_none.2 fun y hy => h.fresh hr _ (h.kin y hy)
theorem kind34 {e : Ev} (hr : rightB e = true) (hk : ¬ (e.kind = 1 ∨ e.kind = 2)) : e.kind = 3 ∨ e.kind = 4 := by
 rcases rightB_kind hr with h | h | h | h
 · exact absurd (.inl h) hk
 · exact absurd (.inr h) hk
 · exact .inl h
 · exact .inr h
theorem refB_free {K : List Ent} {e : Ev} (hr : rightB e = true) (hk : e.kind = 3 ∨ e.kind = 4) (hl : lookB K e.dot = none) (hn : K.length < 512) : refB K e = 0 := by
 unfold refB
 rw [if_neg (by rw [hr]; simp), if_neg (by omega), if_neg (by rw [hl]; simp), if_neg (by omega)]
theorem GoodR.refK {st : Ds} {K : List Ent} {G : List Bool} (h : GoodR st K G) {e : Ev} (hr : refD st e = 0) (hk : ¬ (e.kind = 1 ∨ e.kind = 2)) : refB K e = 0 ∧ refB st.B e = 0 := by
 obtain ⟨h1, -, -, h4⟩ := refD_zero hr
 have h5 := h.klen
 refine ⟨refB_free h1 (kind34 h1 hk) (h.lookK hr) (by omega), refB_free h1 (kind34 h1 hk) ?_ ?_⟩
 · rw [← h.cnt]; exact cnt_look (h.lookK hr)
 · rw [← h.cnt]; have := cnt_len K; omega
theorem GoodR.role {st : Ds} {K : List Ent} {G : List Bool} (h : GoodR st K G) (who : Int) (v : List Int) : roleP K who v = roleP st.B who v := by rw [← h.cnt, role_cnt]
theorem GoodB.three {K : List Ent} (h : GoodB K) (who : Int) (v : List Int) : roleP K who v ≤ 3 := role_three K who v fun x hx => (good_role (h x hx).2.1 (h x hx).2.2).2.1
theorem GoodR.members {st : Ds} {K : List Ent} {G : List Bool} (h : GoodR st K G) (v : List Int) : membersL K v = membersL st.B v := by rw [← h.cnt, members_cnt]
theorem GoodR.may {st : Ds} {K : List Ent} {G : List Bool} (h : GoodR st K G) (e : Ev) (least : Int) : mayB st e least = decide (least ≤ roleP K e.da e.past) := by unfold mayB; rw [h.role]
theorem GoodR.addK {st : Ds} {K : List Ent} {G : List Bool} (h : GoodR st K G) {e : Ev} (hr : refD st e = 0) (hk : ¬ (e.kind = 1 ∨ e.kind = 2)) : addB K e = K ++ [(e, actB st e)] ∧ actB st e = (roleP K e.da e.past == 3) ∧ actK st e = cntL (K ++ [(e, actB st e)]) := by
 obtain ⟨r1, r2⟩ := h.refK hr hk
 have h3 := h.good.three e.da e.past
 have ha : actB st e = (roleP K e.da e.past == 3) := by
  unfold actB
  rw [if_neg (fun q => hk (.inl q)), if_neg (fun q => hk (.inr q)), r2, h.may]
  by_cases q : roleP K e.da e.past = 3
  · rw [q]; rfl
  · have q1 : ¬ (3 : Int) ≤ roleP K e.da e.past := by omega
    rw [decide_eq_false q1, beq_eq_false_iff_ne.2 q]; rfl
 refine ⟨by unfold addB; rw [if_pos r1, ha], ha, ?_⟩
 unfold actK
 rw [if_neg hk, cnt_app, h.cnt]
 by_cases q : roleP K e.da e.past = 3
 · have hm : mayB st e 3 = true := by rw [h.may, q]; rfl
   rw [if_pos hm, ha, q]
   unfold addB
   rw [if_pos r2, ← h.role, q]; rfl
 · have hm : ¬ mayB st e 3 = true := by rw [h.may]; simp; omega
   rw [if_neg hm, ha, if_neg (by simpa using q)]
theorem cntB_new {K : List Ent} {e : Ev} {b : Bool} (h : lookB K e.dot = none) : cntB (K ++ [(e, b)]) e.dot = b := by
 unfold cntB
 rw [lookB_app (e, b) h, if_pos rfl]
theorem stepS_get {S : List Int} (hS : S.length = 8) {a : Int} (ha : 0 ≤ a) (ha8 : a < 8) (j : Nat) : (stepS S a)[j]?.getD 0 = if j = a.toNat then S[a.toNat]?.getD 0 + 1 else S[j]?.getD 0 := by
 unfold stepS
 rw [List.getElem?_set]
 by_cases q : a.toNat = j
 · rw [if_pos q, if_pos (by rw [hS]; omega), if_pos q.symm]; rfl
 · rw [if_neg q, if_neg (fun r => q r.symm)]
theorem has_step {S : List Int} (hS : S.length = 8) {a : Int} (ha : 0 ≤ a) (ha8 : a < 8) {x s : Int} (h : hasB S x s = true) : hasB (stepS S a) x s = true := by
 unfold hasB at *
 simp only [Bool.and_eq_true, decide_eq_true_eq] at h ⊢
 refine ⟨h.1, h.2.1, ?_⟩
 rw [stepS_get hS ha ha8]
 have h2 := h.2.2
 by_cases q : x.toNat = a.toNat
 · rw [q] at h2; rw [if_pos q]; omega
 · rw [if_neg q]; exact h2
theorem ready_seq {S : List Int} {e : Ev} (h : readyB S e = true) : S[e.da.toNat]?.getD 0 = e.ds - 1 := by
 unfold readyB at h
 simp only [Bool.and_eq_true, beq_iff_eq] at h
 exact h.2.1
theorem right_seq {e : Ev} (h : rightB e = true) : e.ds ≠ 0 := by
 unfold rightB rightDotB at h
 simp only [Bool.and_eq_true, decide_eq_true_eq, Bool.not_eq_true', beq_eq_false_iff_ne] at h
 exact h.1.2.1
theorem has_new {S : List Int} (hS : S.length = 8) {e : Ev} (he : e.Ok) (h : readyB S e = true) (hr : rightB e = true) : hasB (stepS S e.da) e.da e.ds = true := by
 have h8 := rightB_author hr
 have h0 := he.dot.1.1
 unfold hasB
 simp only [Bool.and_eq_true, decide_eq_true_eq, Bool.not_eq_true', beq_eq_false_iff_ne]
 refine ⟨h8, right_seq hr, ?_⟩
 rw [stepS_get hS h0 h8, if_pos rfl, ready_seq h]; omega
theorem GoodR.notF {st : Ds} {K : List Ent} {G : List Bool} (h : GoodR st K G) {e : Ev} (hr : refD st e = 0) : e.dot ∉ st.F := fun q => by
 obtain ⟨x, hx, hd⟩ := h.fin _ q
 exact h.fresh hr x hx hd
theorem actF_mem {st : Ds} {e : Ev} {x : Int × Int} : x ∈ actF st e ↔ x ∈ st.F ∨ (actB st e = true ∧ x = e.dot) := by
 unfold actF
 by_cases q : actB st e = true
 · rw [if_pos q]; simp [q]
 · rw [if_neg q]; simp [q]
theorem GoodR.flagsNew {st : Ds} {K : List Ent} {G : List Bool} (h : GoodR st K G) {e : Ev} (hr : refD st e = 0) : G ++ [actB st e] = flagsD (apS st e) := by
 have hf := h.notF hr
 rw [h.flags]
 unfold flagsD apS
 simp only
 rw [List.map_append, List.map_singleton]
 congr 1
 · refine List.map_congr_left fun x hx => ?_
   have hne := h.fresh hr x hx
   rw [Bool.eq_iff_iff, decide_eq_true_eq, decide_eq_true_eq, actF_mem]
   exact ⟨.inl, fun q => q.elim id fun q => absurd q.2 hne⟩
 · have : decide (e.dot ∈ actF st e) = actB st e := by
    rw [Bool.eq_iff_iff, decide_eq_true_eq, actF_mem]
    exact ⟨fun q => q.elim (fun r => absurd r hf) (·.1), fun q => .inr ⟨q, rfl⟩⟩
   rw [this]
theorem GoodR.ap {st : Ds} {K : List Ent} {G : List Bool} (h : GoodR st K G) (hG : GoodD st) {e : Ev} (he : e.Ok) (hr : refD st e = 0) : GoodR (apS st e) (actR K e) (G ++ [actB st e]) where
 cnt := by
  show cntL (actR K e) = Go.Proofs.YtmbdohnmbkpfaaaGreat.actK st e
  unfold actR
  by_cases hk : e.kind = 1 ∨ e.kind = 2
  · rw [if_pos hk, h.cnt]; unfold Go.Proofs.YtmbdohnmbkpfaaaGreat.actK; rw [if_pos hk]
  · obtain ⟨a1, -, a3⟩ := h.addK hr hk
    rw [if_neg hk, a1, a3]
 good := by
  unfold actR
  split
  · exact h.good
  · exact h.good.add e he
 klen := by
  have h1 := h.klen
  have : (actR K e).length ≤ K.length + 1 := by
   unfold actR
   split
   · omega
   · unfold Go.Proofs.YtmbdohnmbkpfaaaGreat.addB; split <;> simp
  show (actR K e).length ≤ (st.L ++ [e]).length
  rw [List.length_append, List.length_singleton]; omega
 seen := fun x hx => by
  obtain ⟨h1, -, h3, -⟩ := refD_zero hr
  rcases List.mem_append.1 hx with q | q
  · exact has_step hG.slen he.dot.1.1 (rightB_author h1) (h.seen x q)
  · rw [List.mem_singleton.1 q]; exact has_new hG.slen he h3 h1
 fin := fun x hx => by
  rcases actF_mem.1 hx with q | ⟨-, q⟩
  · obtain ⟨y, hy, e1⟩ := h.fin x q
    exact ⟨y, List.mem_append_left _ hy, e1⟩
  · exact ⟨e, List.mem_append_right _ (by simp), q.symm⟩
 kin := fun y hy => by
  unfold actR at hy
  split at hy
  · exact List.mem_append_left _ (h.kin y hy)
  · rename_i hk
    rw [(h.addK hr hk).1] at hy
    rcases List.mem_append.1 hy with q | q
    · exact List.mem_append_left _ (h.kin y q)
    · rw [List.mem_singleton.1 q]; exact List.mem_append_right _ (by simp)
 flags := h.flagsNew hr
theorem docC_parts (st : Ds) (p : Pl) (h : st.S.length = 8) : (docC st p)[0]? = some (.pointer (some ⟨p.R, 0, none⟩)) ∧ (docC st p)[1]? = some (.pointer (some ⟨p.H, 0, none⟩)) ∧ ((docC st p).drop 2).take 8 = st.S.map (Value.int .u32) ∧ (docC st p)[10]? = some p.v ∧ (docC st p)[11]? = some (.map (some p.fm)) ∧ (docC st p).length = 12 := by
 obtain ⟨N, B, S, L, F⟩ := st
 match S, h with
 | [_, _, _, _, _, _, _, _], _ => exact ⟨rfl, rfl, rfl, rfl, rfl, rfl⟩
section
variable {w : World} {base : Nat} {st : Ds} {p : Pl}
theorem DocAt.cR (h : DocAt w base st p) (hs : st.S.length = 8) : w.cell? ⟨p.D, 0, none⟩ = some (.pointer (some ⟨p.R, 0, none⟩)) := (h.box.cell 0).trans (docC_parts st p hs).1
theorem DocAt.cH (h : DocAt w base st p) (hs : st.S.length = 8) : w.cell? ⟨p.D, 1, none⟩ = some (.pointer (some ⟨p.H, 0, none⟩)) := (h.box.cell 1).trans (docC_parts st p hs).2.1
theorem DocAt.cS (h : DocAt w base st p) (hs : st.S.length = 8) : w.rangeAt p.D 2 (st.S.map (Value.int .u32)) := by
 have := h.box.range 2 8
 rw [(docC_parts st p hs).2.2.1] at this
 exact this
theorem DocAt.cV (h : DocAt w base st p) (hs : st.S.length = 8) : w.cell? ⟨p.D, 10, none⟩ = some p.v := (h.box.cell 10).trans (docC_parts st p hs).2.2.2.1
theorem DocAt.cF (h : DocAt w base st p) (hs : st.S.length = 8) : w.cell? ⟨p.D, 11, none⟩ = some (.map (some p.fm)) := (h.box.cell 11).trans (docC_parts st p hs).2.2.2.2.1
end
set_option maxHeartbeats 4000000 in
theorem dfull_any (base : Nat) (st : Ds) (p : Pl) (w : World) (hD : DocAt w base st p) (hG : GoodD st) :
    Calls Tryz.prog 76 #[.pointer (some ⟨p.D, 0, none⟩)] w fun r w' => r = .returned (.bool (decide (512 ≤ st.L.length))) ∧ w' = w := by
 have c10 := hD.cV hG.slen
 obtain ⟨x, c, hv⟩ := hD.evs.isSlice
 rw [List.length_map] at hv
 rw [hv] at c10
 obtain ⟨l, hl⟩ : ∃ q, st.L.length = q := ⟨_, rfl⟩
 rw [hl] at c10 ⊢
 generalize p.D = D at c10 ⊢
 clear hD hG hv hl
 go_enter Tryz.func76, Tryz.ntmps76
 go_wp2
 go_ret
 exact ⟨ret_bC (by simp; omega), rfl⟩
set_option maxHeartbeats 8000000 in
theorem drefuse_any (base : Nat) (st : Ds) (p : Pl) (e : Ev) (w : World) (hD : DocAt w base st p) (hG : GoodD st) (he : e.Ok) :
    Calls Tryz.prog 44 #[.pointer (some ⟨p.D, 0, none⟩), .agg e.cells.toArray] w fun r w' => r = .returned (.int .i64 (refD st e)) ∧ Below w.heap.size w w' := by
 have hB0 : Below w.heap.size w (w.alloc (.cells e.cells.toArray 44)) := (Below.refl _ _).alloc (Nat.le_refl _) _
 have hx0 := CellsAt.new w 44 e.cells
 have he1 := aev_len e he.past
 have iE : (Tryz.prog.info? 44).map (·.size) = some e.cells.length := by rw [he1]; kernel_rfl
 have iD : (Tryz.prog.info? 40).map (·.size) = some (dotC e.da e.ds).length := sizeDot
 have iV : (Tryz.prog.info? 37).map (·.size) = some (st.S.map (Value.int .u32)).length := by rw [List.length_map, hG.slen]; kernel_rfl
 have uE := Tryz.underlying44
 have uD := Tryz.underlying40
 have uV := Tryz.underlying37
 have HR : Veil (∀ W, Calls Tryz.prog 73 #[.agg e.cells.toArray] W fun x w' => x = .returned (.bool (rightB e)) ∧ Below W.heap.size W w') := ⟨fun W => right_okA e W he⟩
 have HH : Veil (∀ W, Calls Tryz.prog 74 #[.agg (st.S.map (Value.int .u32)).toArray, .agg (dotC e.da e.ds).toArray] W fun x w' => x = .returned (.bool (hasB st.S e.da e.ds)) ∧ Below W.heap.size W w') := ⟨fun W => chas_any st.S e.da e.ds W hG.slen he.dot.1.1 he.dot.2.1⟩
 have HRD : Veil (∀ W, Calls Tryz.prog 75 #[.agg (st.S.map (Value.int .u32)).toArray, .agg e.cells.toArray] W fun x w' => x = .returned (.bool (readyB st.S e)) ∧ Below W.heap.size W w') := ⟨fun W => cready_any st.S e W hG.slen (fun x hx => by have := hG.sval x hx; have := hG.llen; omega) he.past he.dot.1.1 he.dot.2.1 (by have := he.dot.2.2; omega) he.par.1.1 he.par.2.1⟩
 have HF : Veil (∀ W, DocAt W base st p → Calls Tryz.prog 76 #[.pointer (some ⟨p.D, 0, none⟩)] W fun r w' => r = .returned (.bool (decide (512 ≤ st.L.length))) ∧ w' = W) := ⟨fun W h => dfull_any base st p W h hG⟩
 have HT : Veil (∀ W, DocAt W base st p → CellsAt W w.heap.size 44 e.cells → W.rangeAt w.heap.size 0 e.cells ∧ W.rangeAt w.heap.size 0 (dotC e.da e.ds) ∧ W.rangeAt p.D 2 (st.S.map (Value.int .u32))) := ⟨fun W hb hx => by
  have h1 := hx.range 0 2
  rw [(ev_parts e he.past).1] at h1
  exact ⟨hx.wholeM, h1, hb.cS hG.slen⟩⟩
 have HN : Veil (refD st e = if rightB e = false then 3 else if hasB st.S e.da e.ds = true then 5 else if readyB st.S e = false then 6 else if 512 ≤ st.L.length then 10 else 0) := ⟨rfl⟩
 have hD0 := hD.far hB0
 obtain ⟨E, hE⟩ : ∃ E, e.cells = E := ⟨_, rfl⟩
 rw [hE] at hB0 hx0 iE HR HT he1 HRD hD0
 rw [hE]
 generalize refD st e = RN at HN ⊢
 generalize rightB e = RB at HR HN
 generalize hasB st.S e.da e.ds = HB at HH HN
 generalize readyB st.S e = RY at HRD HN
 generalize dotC e.da e.ds = DV at HH HT iD
 generalize st.S.map (Value.int .u32) = SV at HH HT iV HRD
 generalize hDD : p.D = D at HT HF ⊢
 clear he hE hD hG hDD
 go_enter Tryz.func44, Tryz.ntmps44
 go_upto_region 1 with fail
 refine forget (p := fun y => Code.wp _ _ _ _ y) (fun W => Below w.heap.size w W ∧ CellsAt W w.heap.size 44 E ∧ DocAt W base st p) ⟨hB0, hx0, hD0⟩ ?_
 clear hB0 hx0 hD0
 rintro W ⟨hB, hx, hD⟩
 have hrE := hx.wholeM
 have hr := HR.out W
 cases RB
 · replace HN : Veil (RN = 3) := ⟨HN.out⟩
   go_wp2_with (first
    | (refine wpList_ldv rfl 44 _ rfl w.heap.size 0 rfl E hrE uE rfl iE ?_)
    | (go_at_call 73; refine hr.mono ?_; rintro x W1 ⟨rfl, hb1⟩))
   go_ret
   exact ⟨by rw [HN.out]; rfl, hB.trans (hb1.mono hB.size)⟩
 replace HN : Veil (RN = if HB = true then 5 else if RY = false then 6 else if 512 ≤ st.L.length then 10 else 0) := ⟨HN.out⟩
 go_upto_region 3 with (first
     | (refine wpList_ldv rfl 44 _ rfl w.heap.size 0 rfl E hrE uE rfl iE ?_)
     | (go_at_call 73; refine hr.mono ?_; rintro x W1 ⟨rfl, hb1⟩))
 have hB1 := hB.trans (hb1.mono hB.size)
 have hx1 := hx.farM hb1
 have hD1 := hD.far hb1
 clear hb1 hr hrE hB hx hD W
 have H1 := Veil.mk (And.intro hB1 (And.intro hx1 hD1))
 have hb0 : Below W1.heap.size W1 W1.drew := (Below.refl _ _).drew
 have hT : (fun W : World => W.rangeAt w.heap.size 0 E ∧ W.rangeAt w.heap.size 0 DV ∧ W.rangeAt D 2 SV) W1.drew := HT.out _ (hD1.far hb0) (hx1.farM hb0)
 have hS : (fun _ : World => True) W1.drew := trivial
 clear hB1 hx1 hD1
 refine wp_region_gateT (fun W : World => W.rangeAt w.heap.size 0 E ∧ W.rangeAt w.heap.size 0 DV ∧ W.rangeAt D 2 SV) (fun _ => True) 99 (by kernel_rfl) ?_
 refine ghA 0 _ hT hS ?_
 simp only [Act.put, gA, gS, gZ, sI, sZ, sS]
 refine ghA 1 _ hT hS ?_
 simp only [Act.put, gA, gS, gZ, sI, sZ, sS]
 refine ghA 2 _ hT hS ?_
 simp only [Act.put, gA, gS, gZ, sI, sZ, sS]
 refine gl 3 13 37 12 D 2 SV (by kernel_rfl) (by kernel_rfl) (by kernel_rfl) (fun _ _ _ h => h) hT hS (by kernel_rfl) (fun _ h => h.2.2) uV rfl iV ?_
 simp only [Act.put, gA, gS, gZ, sI, sZ, sS]
 refine ghA 4 _ hT hS ?_
 simp only [Act.put, gA, gS, gZ, sI, sZ, sS]
 refine gl 5 15 40 14 w.heap.size 0 DV (by kernel_rfl) (by kernel_rfl) (by kernel_rfl) (fun _ _ _ h => h) hT hS (by kernel_rfl) (fun _ h => h.2.1) uD rfl iD ?_
 simp only [Act.put, gA, gS, gZ, sI, sZ, sS]
 refine wpAnyT_one (i := 6) rfl (by kernel_rfl) (by kernel_rfl) (fun K hK => ?_)
 refine wpx_call _ _ (by kernel_rfl) ((HH.out _).mono ?_)
 rintro y W2 ⟨rfl, hb2⟩
 refine ⟨_, rfl, ?_⟩
 replace hb2 : Below W1.heap.size W1 W2 := hb0.trans hb2
 replace hT := HT.out W2 (H1.out.2.2.far hb2) (H1.out.2.1.farM hb2)
 replace hS : (fun _ : World => True) W2 := trivial
 refine hK.out _ _ hT (fun _ => hS) ?_
 clear hK K
 try simp only [Act.put, gA, gS, gZ, sI, sZ, sS]
 refine ghA 7 _ hT hS ?_
 simp only [Act.put, gA, gS, gZ, sI, sZ, sS]
 refine wpAnyT_done (by kernel_rfl) ?_ _
 have H2 : Veil (Below w.heap.size w W2 ∧ CellsAt W2 w.heap.size 44 E ∧ DocAt W2 base st p) := ⟨H1.out.1.trans (hb2.mono H1.out.1.size), H1.out.2.1.farM hb2, H1.out.2.2.far hb2⟩
 clear hT hS hb2 hb0 H1
 clear W1
 cases HB
 rotate_left
 · replace HN : Veil (RN = 5) := ⟨HN.out⟩
   go_wp2
   go_ret
   exact ⟨by rw [HN.out]; rfl, H2.out.1⟩
 replace HN : Veil (RN = if RY = false then 6 else if 512 ≤ st.L.length then 10 else 0) := ⟨HN.out⟩
 go_upto_region 5 with fail
 have hb0 : Below W2.heap.size W2 W2.drew := (Below.refl _ _).drew
 have hT : (fun W : World => W.rangeAt w.heap.size 0 E ∧ W.rangeAt w.heap.size 0 DV ∧ W.rangeAt D 2 SV) W2.drew := HT.out _ (H2.out.2.2.far hb0) (H2.out.2.1.farM hb0)
 have hS : (fun _ : World => True) W2.drew := trivial
 refine wp_region_gateT (fun W : World => W.rangeAt w.heap.size 0 E ∧ W.rangeAt w.heap.size 0 DV ∧ W.rangeAt D 2 SV) (fun _ => True) 99 (by kernel_rfl) ?_
 refine ghA 0 _ hT hS ?_
 simp only [Act.put, gA, gS, gZ, sI, sZ, sS]
 refine ghA 1 _ hT hS ?_
 simp only [Act.put, gA, gS, gZ, sI, sZ, sS]
 refine ghA 2 _ hT hS ?_
 simp only [Act.put, gA, gS, gZ, sI, sZ, sS]
 refine gl 3 21 37 20 D 2 SV (by kernel_rfl) (by kernel_rfl) (by kernel_rfl) (fun _ _ _ h => h) hT hS (by kernel_rfl) (fun _ h => h.2.2) uV rfl iV ?_
 simp only [Act.put, gA, gS, gZ, sI, sZ, sS]
 refine gl 4 22 44 3 w.heap.size 0 E (by kernel_rfl) (by kernel_rfl) (by kernel_rfl) (fun _ _ _ h => h) hT hS (by kernel_rfl) (fun _ h => h.1) uE rfl iE ?_
 simp only [Act.put, gA, gS, gZ, sI, sZ, sS]
 refine wpAnyT_one (i := 5) rfl (by kernel_rfl) (by kernel_rfl) (fun K hK => ?_)
 refine wpx_call _ _ (by kernel_rfl) ((HRD.out _).mono ?_)
 rintro y W3 ⟨rfl, hb3⟩
 refine ⟨_, rfl, ?_⟩
 replace hb3 : Below W2.heap.size W2 W3 := hb0.trans hb3
 replace hT := HT.out W3 (H2.out.2.2.far hb3) (H2.out.2.1.farM hb3)
 replace hS : (fun _ : World => True) W3 := trivial
 refine hK.out _ _ hT (fun _ => hS) ?_
 clear hK K
 try simp only [Act.put, gA, gS, gZ, sI, sZ, sS]
 refine ghA 6 _ hT hS ?_
 simp only [Act.put, gA, gS, gZ, sI, sZ, sS]
 refine ghA 7 _ hT hS ?_
 simp only [Act.put, gA, gS, gZ, sI, sZ, sS]
 refine wpAnyT_done (by kernel_rfl) ?_ _
 have hB3 := H2.out.1.trans (hb3.mono H2.out.1.size)
 have hf := HF.out W3 (H2.out.2.2.far hb3)
 clear hT hS hb3 hb0 H2
 clear W2
 cases RY
 · replace HN : Veil (RN = 6) := ⟨HN.out⟩
   go_wp2
   go_ret
   exact ⟨by rw [HN.out]; rfl, hB3⟩
 replace HN : Veil (RN = if 512 ≤ st.L.length then 10 else 0) := ⟨HN.out⟩
 by_cases hl : 512 ≤ st.L.length
 · rw [decide_eq_true hl] at hf
   replace HN : Veil (RN = 10) := ⟨by rw [HN.out, if_pos hl]⟩
   clear hl
   go_wp2_with (go_at_call 76; refine hf.mono ?_; rintro y W4 ⟨rfl, rfl⟩)
   go_ret
   exact ⟨by rw [HN.out]; rfl, hB3⟩
 · rw [decide_eq_false hl] at hf
   replace HN : Veil (RN = 0) := ⟨by rw [HN.out, if_neg hl]⟩
   clear hl
   go_wp2_with (go_at_call 76; refine hf.mono ?_; rintro y W4 ⟨rfl, rfl⟩)
   go_ret
   exact ⟨by rw [HN.out]; rfl, hB3⟩
open Go Go.RowKit
section
variable {P : Program} {ops : Array Oper} {Q : Exit → Act → World → Prop} {md : Region.Mode} {T S : World → Prop} {D : Nat}
theorem wpAnyT_more {T' : World → Prop} (hT : ∀ w, T' w → T w) : ∀ (fuel : Nat) (listed : Array Bool) (a : Act) (w : World), wpAnyT P md ops Q T' S D fuel listed a w → wpAnyT P md ops Q T S D fuel listed a w
 | 0, _, _, _, h => h
 | fuel + 1, _, _, _, h => ⟨h.1, fun i hi => wpOp_mono (fun a' w' h' => ⟨⟨hT _ h'.1.1, h'.1.2⟩, wpAnyT_more hT fuel _ a' w' h'.2⟩) (h.2 i hi)⟩
end
section
variable {w w' : World} {base : Nat} {st : Ds} {p : Pl}
theorem DocAt.treeTo (h : DocAt w base st p) {N' : List Nd} {V' : (Int × Int) × Bool → Value} (hT : TreeAt w' base p.R p.bc p.bn N' V') (ht : TreeTo p.R p.bc p.bn p.V V' w w') : DocAt w' base { st with N := N' } { p with V := V' } ∧ DocTo p { p with V := V' } w w' := by
 have hk : ∀ k, docP p k → ¬ treeP p.R p.bc p.bn p.V k → w'.heap[k]? = w.heap[k]? := fun k q r => ht.turn.block k (h.blockLt k q) r
 have n1 : ¬ treeP p.R p.bc p.bn p.V p.D := fun q => (h.apart.tree _ q).1 rfl
 have n2 : ¬ treeP p.R p.bc p.bn p.V p.H := fun q => (h.apart.tree _ q).2.1 rfl
 have n3 : ¬ treeP p.R p.bc p.bn p.V p.bk := fun q => (h.apart.tree _ q).2.2.1 rfl
 have n4 : ¬ treeP p.R p.bc p.bn p.V p.fm := fun q => (h.apart.tree _ q).2.2.2.1 rfl
 have n5 : ∀ g, p.v.ownBlock = some g → ¬ treeP p.R p.bc p.bn p.V g := fun g hg q => (h.apart.tree _ q).2.2.2.2 hg
 refine ⟨⟨h.box.congr (hk _ (.inl rfl) n1), hT, h.book.congr (hk _ (.inr (.inr (.inl rfl))) n2) (hk _ (.inr (.inr (.inr (.inl rfl)))) n3), h.evs.congr fun g q => hk g (.inr (.inr (.inr (.inr (.inl q))))) (n5 g q), h.force.congr (hk _ (.inr (.inr (.inr (.inr (.inr rfl))))) n4), ⟨fun k q => ?_, h.apart.d, h.apart.b⟩⟩, ⟨ht.turn.mono fun k _ q => .inr (.inl q), fun k q => ?_, rfl⟩⟩
 · show k ≠ p.D ∧ k ≠ p.H ∧ k ≠ p.bk ∧ k ≠ p.fm ∧ p.v.ownBlock ≠ some k
   rcases ht.own k q with r | r
   · exact h.apart.tree k r
   · have l1 := h.box.lt
     have l2 := h.book.cells.lt
     have l3 := h.book.map.lt
     have l4 := h.force.lt
     exact ⟨fun e => by omega, fun e => by omega, fun e => by omega, fun e => by omega, fun e => by have := (h.evs.blockLt k e).1; omega⟩
 · rcases q with q | q | q | q | q | q
   · exact .inl (.inl q)
   · rcases ht.own k q with r | r
     · exact .inl (.inr (.inl r))
     · exact .inr r
   · exact .inl (.inr (.inr (.inl q)))
   · exact .inl (.inr (.inr (.inr (.inl q))))
   · exact .inl (.inr (.inr (.inr (.inr (.inl q)))))
   · exact .inl (.inr (.inr (.inr (.inr (.inr q)))))
theorem DocAt.bookTo (h : DocAt w base st p) {B' : List Ent} (hK : BookC w' p.H p.bk B') (ht : Turn (fun k => k = p.bk) w w') : DocAt w' base { st with B := B' } p ∧ DocTo p p w w' := by
 have hk : ∀ k, docP p k → k ≠ p.bk → w'.heap[k]? = w.heap[k]? := fun k q r => ht.block k (h.blockLt k q) r
 refine ⟨⟨h.box.congr (hk _ (.inl rfl) h.apart.d.2.1), h.tree.congr fun k q => hk k (.inr (.inl q)) (h.apart.tree k q).2.2.1, hK, h.evs.congr fun g q => hk g (.inr (.inr (.inr (.inr (.inl q))))) (fun e => h.apart.b.2.2.2.2.1 (e ▸ q)), h.force.congr (hk _ (.inr (.inr (.inr (.inr (.inr rfl))))) (Ne.symm h.apart.b.2.2.2.1)), h.apart⟩, ⟨ht.mono fun k _ q => .inr (.inr (.inr (.inl q))), fun k q => .inl q, rfl⟩⟩
theorem DocAt.forceTo (h : DocAt w base st p) {F' : List (Int × Int)} (hF : MapG Tryz.prog 40 encDF okDF w' p.fm F'.length (forM F')) (hg : w.grownBy w' (some p.fm)) : DocAt w' base { st with F := F' } p ∧ DocTo p p w w' := by
 have ht : Turn (fun k => k = p.fm) w w' := Turn.of_grown hg fun k e => by injection e with e; exact e.symm
 have hk : ∀ k, docP p k → k ≠ p.fm → w'.heap[k]? = w.heap[k]? := fun k q r => ht.block k (h.blockLt k q) r
 refine ⟨⟨h.box.congr (hk _ (.inl rfl) h.apart.d.2.2.1), h.tree.congr fun k q => hk k (.inr (.inl q)) (h.apart.tree k q).2.2.2.1, h.book.congr (hk _ (.inr (.inr (.inl rfl))) h.apart.b.2.1) (hk _ (.inr (.inr (.inr (.inl rfl)))) h.apart.b.2.2.2.1), h.evs.congr fun g q => hk g (.inr (.inr (.inr (.inr (.inl q))))) (fun e => h.apart.b.2.2.2.2.2 (e ▸ q)), hF, h.apart⟩, ⟨ht.mono fun k _ q => .inr (.inr (.inr (.inr (.inr q)))), fun k q => .inl q, rfl⟩⟩
end
set_option maxHeartbeats 8000000 in
theorem dallowed_any (base : Nat) (st : Ds) (p : Pl) (e : Ev) (least : Int) (w : World) (hD : DocAt w base st p) (hG : GoodD st) (he : e.Ok) :
    Calls Tryz.prog 113 #[.pointer (some ⟨p.D, 0, none⟩), .agg e.cells.toArray, .int .u8 least] w fun r w' => r = .returned (.bool (mayB st e least)) ∧ Below w.heap.size w w' := by
 have hB0 : Below w.heap.size w (w.alloc (.cells e.cells.toArray 44)) := (Below.refl _ _).alloc (Nat.le_refl _) _
 have hx0 := CellsAt.new w 44 e.cells
 have iV : (Tryz.prog.info? 37).map (·.size) = some (e.past.map (Value.int .u32)).length := by rw [List.length_map, he.past]; kernel_rfl
 have uV := Tryz.underlying37
 have HT : Veil (∀ W, Below w.heap.size w W → CellsAt W w.heap.size 44 e.cells → W.cell? ⟨p.D, 1, none⟩ = some (.pointer (some ⟨p.H, 0, none⟩)) ∧ W.cell? ⟨w.heap.size, 0, none⟩ = some (.int .u8 e.da) ∧ W.rangeAt w.heap.size 2 (e.past.map (Value.int .u32)) ∧ BookC W p.H p.bk st.B) := ⟨fun W hb hx => by
  have h1 := hx.range 2 8
  rw [(ev_parts e he.past).2.1] at h1
  have hD1 := hD.far hb
  exact ⟨hD1.cH hG.slen, (hx.cell 0).trans rfl, h1, hD1.book⟩⟩
 have HRO : Veil (∀ W, BookC W p.H p.bk st.B → Calls Tryz.prog 79 #[.pointer (some ⟨p.H, 0, none⟩), .int .u8 e.da, .agg (e.past.map (Value.int .u32)).toArray] W fun x w' => x = .returned (.int .u8 (roleP st.B e.da e.past)) ∧ Below W.heap.size W w') := ⟨fun W hb => role_any p.H p.bk st.B e.da e.past W hb he.past⟩
 obtain ⟨E, hE⟩ : ∃ E, e.cells = E := ⟨_, rfl⟩
 unfold mayB
 rw [hE] at hB0 hx0 HT
 rw [hE]
 generalize roleP st.B e.da e.past = RO at HRO ⊢
 generalize e.past.map (Value.int .u32) = PV at HRO HT iV
 generalize p.D = D at HT ⊢
 generalize p.H = H at HT HRO
 generalize p.bk = bk at HT HRO
 clear hE hD hG he
 go_enter Tryz.func113, Tryz.ntmps113
 go_upto_region 1 with fail
 refine forget (p := fun y => Code.wp _ _ _ _ y) (fun W => Below w.heap.size w W ∧ CellsAt W w.heap.size 44 E) ⟨hB0, hx0⟩ ?_
 clear hB0 hx0
 rintro W ⟨hB, hx⟩
 have hb0 : Below W.heap.size W W.drew := (Below.refl _ _).drew
 have HTT : Veil (∀ W2, Below W.heap.size W W2 → W2.cell? ⟨D, 1, none⟩ = some (.pointer (some ⟨H, 0, none⟩)) ∧ W2.cell? ⟨w.heap.size, 0, none⟩ = some (.int .u8 e.da) ∧ W2.rangeAt w.heap.size 2 PV ∧ BookC W2 H bk st.B) := ⟨fun W2 hb => HT.out W2 (hB.trans (hb.mono hB.size)) (hx.farM hb)⟩
 obtain ⟨q1, q2, q3, q4⟩ := HTT.out _ hb0
 have hT : (fun W : World => W.cell? ⟨D, 1, none⟩ = some (.pointer (some ⟨H, 0, none⟩)) ∧ W.cell? ⟨w.heap.size, 0, none⟩ = some (.int .u8 e.da) ∧ W.rangeAt w.heap.size 2 PV) W.drew := ⟨q1, q2, q3⟩
 have hS : (fun _ : World => True) W.drew := trivial
 have hro := HRO.out _ q4
 clear q1 q2 q3 q4
 refine wp_region_gateT (fun W : World => W.cell? ⟨D, 1, none⟩ = some (.pointer (some ⟨H, 0, none⟩)) ∧ W.cell? ⟨w.heap.size, 0, none⟩ = some (.int .u8 e.da) ∧ W.rangeAt w.heap.size 2 PV) (fun _ => True) 99 (by kernel_rfl) ?_
 refine ghA 0 _ hT hS ?_
 simp only [Act.put, gA, gS, gZ, sI, sZ, sS]
 refine ghA 1 _ hT hS ?_
 simp only [Act.put, gA, gS, gZ, sI, sZ, sS]
 refine ghA 2 _ hT hS ?_
 simp only [Act.put, gA, gS, gZ, sI, sZ, sS]
 refine ghA 3 _ hT hS ?_
 simp only [Act.put, gA, gS, gZ, sI, sZ, sS]
 refine ghA 4 _ hT hS ?_
 simp only [Act.put, gA, gS, gZ, sI, sZ, sS]
 refine ghA 5 _ hT hS ?_
 simp only [Act.put, gA, gS, gZ, sI, sZ, sS]
 refine ghA 6 _ hT hS ?_
 simp only [Act.put, gA, gS, gZ, sI, sZ, sS]
 refine ghA 7 _ hT hS ?_
 simp only [Act.put, gA, gS, gZ, sI, sZ, sS]
 refine gl 8 15 37 14 w.heap.size 2 PV (by kernel_rfl) (by kernel_rfl) (by kernel_rfl) (fun _ _ _ h => h) hT hS (by kernel_rfl) (fun _ h => h.2.2) uV rfl iV ?_
 simp only [Act.put, gA, gS, gZ, sI, sZ, sS]
 refine ghA 10 _ hT hS ?_
 simp only [Act.put, gA, gS, gZ, sI, sZ, sS]
 refine wpAnyT_one (i := 9) rfl (by kernel_rfl) (by kernel_rfl) (fun K hK => ?_)
 refine wpx_call _ _ (by kernel_rfl) (hro.mono ?_)
 rintro y W2 ⟨rfl, hb2⟩
 refine ⟨_, rfl, ?_⟩
 replace hb2 : Below W.heap.size W W2 := hb0.trans hb2
 have hT : (fun W : World => W.cell? ⟨D, 1, none⟩ = some (.pointer (some ⟨H, 0, none⟩)) ∧ W.cell? ⟨w.heap.size, 0, none⟩ = some (.int .u8 e.da) ∧ W.rangeAt w.heap.size 2 PV) W2 := ⟨(HTT.out W2 hb2).1, (HTT.out W2 hb2).2.1, (HTT.out W2 hb2).2.2.1⟩
 replace hS : (fun _ : World => True) W2 := trivial
 refine hK.out _ _ hT (fun _ => hS) ?_
 clear hK K
 try simp only [Act.put, gA, gS, gZ, sI, sZ, sS]
 refine ghA 11 _ hT hS ?_
 simp only [Act.put, gA, gS, gZ, sI, sZ, sS]
 refine ghA 12 _ hT hS ?_
 simp only [Act.put, gA, gS, gZ, sI, sZ, sS]
 refine wpAnyT_done (by kernel_rfl) ?_ _
 have HQ := Veil.mk (hB.trans (hb2.mono hB.size))
 clear hT hS hro hb2
 go_wp2
 go_ret
 exact ⟨ret_bC (by simp), HQ.out⟩
end Go.Proofs.YtmbdohnmbkpfaaaGreat
