/- GoT De23 De24 De25 De26 DocTurnsW -/
import Derived.Test.YtmbdohnmbkpfaaaGreatV34
import Derived.Test.YtmbdohnmbkpfaaaGreatV51
import Derived.Test.YtmbdohnmbkpfaaaGreatV42
import Derived.Test.YtmbdohnmbkpfaaaGreatV08
import Derived.Test.YtmbdohnmbkpfaaaGreatV23
import Derived.Deep.DeepHandedRow
import Derived.Test.YtmbdohnmbkpfaaaGreatV50
import Derived.Test.YtmbdohnmbkpfaaaGreatV38
import Derived.Test.YtmbdohnmbkpfaaaGreatV44
import Derived.Test.YtmbdohnmbkpfaaaGreatV27
namespace Go.Proofs.YtmbdohnmbkpfaaaGreat
theorem sorted_unique : ∀ (l m : List (Int × Int)), inOrderD l → inOrderD m → (∀ x, x ∈ l ↔ x ∈ m) → l = m
 | [], [], _, _, _ => rfl
 | [], b :: m, _, _, h => by have := (h b).2 (by simp); simp at this
 | a :: l, [], _, _, h => by have := (h a).1 (by simp); simp at this
 | a :: l, b :: m, hl, hm, h => by
  obtain ⟨l1, l2⟩ := List.pairwise_cons.1 hl
  obtain ⟨m1, m2⟩ := List.pairwise_cons.1 hm
  have hab : a = b := by
   rcases List.mem_cons.1 ((h a).1 (by simp)) with q | q
   · exact q
   · rcases List.mem_cons.1 ((h b).2 (by simp)) with r | r
     · exact r.symm
     · exact absurd ((m1 a q).trans (l1 b r)) (aheadD.irrefl _)
  subst hab
  congr 1
  refine sorted_unique l m l2 m2 fun x => ⟨fun hx => ?_, fun hx => ?_⟩
  · rcases List.mem_cons.1 ((h x).1 (by simp [hx])) with q | q
    · rw [q] at hx; exact absurd (l1 a hx) (aheadD.irrefl _)
    · exact q
  · rcases List.mem_cons.1 ((h x).2 (by simp [hx])) with q | q
    · rw [q] at hx; exact absurd (m1 a hx) (aheadD.irrefl _)
    · exact q
theorem chrN_mem {N : List Nd} (hN : (N.map (·.id)).Nodup) {n : Nd} (hn : n ∈ N) : chrN N n.id = some n.chr := by
 unfold chrN
 cases h : N.find? (fun m => decide (m.id = n.id)) with
 | none => have := List.find?_eq_none.1 h n hn; simp at this
 | some m =>
  have h1 := List.mem_of_find?_eq_some h
  have h2 := List.find?_some h
  have := id_unique hN h1 hn (by simpa using h2)
  rw [this]; rfl
theorem same_nodes {M G : List Nd} (hM : TreeOk M) (hG : TreeOk G) (h : ∀ n, n ∈ M ↔ n ∈ G) : walkA M rootS = walkA G rootS ∧ textN M = textN G ∧ M.length = G.length := by
 have hk : ∀ s, kids M s = kids G s := fun s => sorted_unique _ _ (kids_order hM.rooted.nodup s) (kids_order hG.rooted.nodup s) fun x => by
  rw [mem_kids, mem_kids]
  exact ⟨fun ⟨n, hn, q⟩ => ⟨n, (h n).1 hn, q⟩, fun ⟨n, hn, q⟩ => ⟨n, (h n).2 hn, q⟩⟩
 have hw := walk_same hM.rooted hG.rooted hk rootS
 have hc : ∀ x ∈ walkA G rootS, chr0 M x = chr0 G x := fun x hx => by
  obtain ⟨n, hn, rfl⟩ := mem_walk hG.rooted rootS x hx
  unfold chr0
  rw [chrN_mem hG.rooted.nodup hn, chrN_mem hM.rooted.nodup ((h n).2 hn)]
 refine ⟨hw, ?_, by rw [← hM.len, ← hG.len, hw]⟩
 unfold textN wrN
 rw [hw]
 have e1 : (walkA G rootS).filter (writB M) = (walkA G rootS).filter (writB G) := List.filter_congr fun x hx => by unfold writB; rw [hc x hx]
 rw [e1]
 exact List.map_congr_left fun x hx => hc x (List.mem_filter.1 hx).1
end Go.Proofs.YtmbdohnmbkpfaaaGreat
namespace Go.Proofs.YtmbdohnmbkpfaaaGreat
open Go.RowKit Go.Shelf
set_option maxRecDepth 20000
set_option linter.unusedSimpArgs false
section
variable {B : Nat} {W W' : World} {s1 s2 : Ds} {D1 D2 : Nat} {K : List (Nat × List Value)}
end
theorem AtD.vector {base : Nat} {W : World} {st : Ds} {D : Nat} (h : AtD base W st D) (hG : GoodD st) : Calls Tryz.prog 17 #[.pointer (some ⟨D, 0, none⟩)] W fun r w' => r = .returned (.agg (row .u32 st.S)) ∧ Below W.heap.size W w' := by
 obtain ⟨p, rfl, hD, -⟩ := h
 exact dVector_any base st p W hD hG
end Go.Proofs.YtmbdohnmbkpfaaaGreat
namespace Go.Proofs.YtmbdohnmbkpfaaaGreat
open Go.ChangeShapes Go.WideShapes Go.ChangeAt Go.RowKit
theorem cellsU8T : Tryz.prog.cellsOf 5 = 1 := by kernel_rfl
theorem open_bytes {H : Type} {enc : TypeId × Value → H} {W : World} {x : Option Addr} {len cap : Nat} {d : DataW H} {p : List MemPlace} (h : DataW.Trod enc Tryz.prog W 0 (fun _ => true) true 30 (.slice x len cap) d p) :
    ∃ z, Bytes W x len cap z ∧ (∀ v ∈ z, 0 ≤ v ∧ v ≤ 255) := by
 obtain ⟨fuel, hf⟩ := h
 rcases open_ints Tryz.underlying30 Tryz.underlying5 cellsU8T hf with ⟨hcs, _⟩ | ⟨a, l, c, zs, hcs, _, hl, hm, hz, _, hcell, hwz⟩
 · simp [Value.cells] at hcs
   obtain ⟨rfl, rfl, rfl⟩ := hcs
   exact ⟨[], bytes_nil W, by simp⟩
 · simp [Value.cells] at hcs
   obtain ⟨rfl, rfl, rfl⟩ := hcs
   simp only [if_true] at hz
   refine ⟨zs.take len, ⟨by simp; omega, hl, by simpa [maxLen] using hm, (fun h => by cases h), ?_⟩, fun v hv => bounds_u8 (hwz v (List.mem_of_mem_take hv))⟩
   by_cases h0 : len = 0
   · exact .inl h0
   · obtain ⟨b, off, rfl, hc⟩ := ints_at hcell (by omega)
     refine .inr ⟨b, off, rfl, fun j hj => ?_⟩
     have := hc j (by omega)
     rw [List.getElem?_take_of_lt hj]
     rw [List.getD_eq_getElem?_getD] at this
     exact this
end Go.Proofs.YtmbdohnmbkpfaaaGreat
namespace Go.Proofs.YtmbdohnmbkpfaaaGreat
open Go.RowKit Go.Shelf
set_option maxRecDepth 20000
set_option linter.unusedSimpArgs false
theorem least_perm {l m : List Ev} (h : l.Perm m) : leastL l = leastL m := by
 unfold leastL
 exact h.foldl_eq' (fun x _ y _ z => (leastS_comm z x y)) _
theorem last_perm {l m : List Ev} (h : l.Perm m) : (lastL l).Perm (lastL m) := by
 unfold lastL
 have e : ∀ x : Ev, (l.any fun y => hasB y.past x.da x.ds) = (m.any fun y => hasB y.past x.da x.ds) := fun x => by
  rw [Bool.eq_iff_iff, List.any_eq_true, List.any_eq_true]
  exact ⟨fun ⟨y, hy, q⟩ => ⟨y, h.mem_iff.1 hy, q⟩, fun ⟨y, hy, q⟩ => ⟨y, h.mem_iff.2 hy, q⟩⟩
 simp only [e]
 exact h.filter _
def roleT (who : Int) (l : List Ev) : Int := if 8 ≤ who then 0 else if (leastL (lastL l)).2 = true then (leastL (lastL l)).1 else if who = 0 then 3 else 0
theorem roleT_told (B : List Ent) (who : Int) (v : List Int) : roleP B who v = roleT who (toldL B who v) := rfl
theorem roleT_perm {l m : List Ev} (h : l.Perm m) (who : Int) : roleT who l = roleT who m := by
 unfold roleT
 rw [least_perm (last_perm h)]
def aclB (F : List (Int × Int)) (x : Ev) : Bool := decide ((x.kind = 3 ∨ x.kind = 4) ∧ x.dot ∈ F)
section
variable {st : Ds} {K : List Ent} {G : List Bool}
theorem Reach.old (h : Reach st K G) {e : Ev} (hr : refD st e = 0) {x : Ev} (hx : x ∈ st.L) : x.dot ∈ actF st e ↔ x.dot ∈ st.F := by
 rw [actF_mem]
 exact ⟨fun q => q.elim id fun q => absurd q.2 (h.good.2.fresh hr x hx), .inl⟩
theorem Reach.newF (h : Reach st K G) {e : Ev} (hr : refD st e = 0) : e.dot ∈ actF st e ↔ actB st e = true := by
 rw [actF_mem]
 exact ⟨fun q => q.elim (fun r => absurd r (h.good.2.notF hr)) (·.1), fun q => .inr ⟨q, rfl⟩⟩
theorem Reach.book (h : Reach st K G) : st.B = (st.L.filter (aclB st.F)).map (fun x => (x, true)) := by
 induction h with
 | new => rfl
 | @ap st K G e h _ hr ih =>
  obtain ⟨_, hR⟩ := h.good
  show actK st e = ((st.L ++ [e]).filter (aclB (actF st e))).map _
  have e1 : st.L.filter (aclB (actF st e)) = st.L.filter (aclB st.F) := List.filter_congr fun x hx => by
   unfold aclB
   rw [decide_eq_decide, h.old hr hx]
  rw [List.filter_append, List.map_append, e1, ← ih]
  by_cases hk : e.kind = 1 ∨ e.kind = 2
  · have h2 : aclB (actF st e) e = false := by unfold aclB; rw [decide_eq_false_iff_not]; rintro ⟨q, -⟩; omega
    have h3 : actK st e = st.B := by unfold actK; rw [if_pos hk]
    rw [h3, List.filter_cons_of_neg (by rw [h2]; simp)]; simp
  · obtain ⟨-, -, a3⟩ := hR.addK hr hk
    rw [a3, cnt_app, hR.cnt]
    have hk4 := kind34 (refD_zero hr).1 hk
    by_cases hb : actB st e = true
    · have h2 : aclB (actF st e) e = true := by unfold aclB; rw [decide_eq_true_iff]; exact ⟨hk4, (h.newF hr).2 hb⟩
      rw [if_pos hb, List.filter_cons_of_pos h2]; simp
    · have h2 : aclB (actF st e) e = false := by unfold aclB; rw [decide_eq_false_iff_not]; exact fun q => hb ((h.newF hr).1 q.2)
      rw [if_neg hb, List.filter_cons_of_neg (by rw [h2]; simp)]; simp
theorem Reach.told (h : Reach st K G) (who : Int) (v : List Int) : toldL st.B who v = st.L.filter (fun x => aclB st.F x && tellB who v x) := by
 unfold toldL
 rw [h.book, List.filter_map, List.map_map]
 have e1 : (Prod.fst ∘ fun x : Ev => (x, true)) = id := rfl
 rw [e1, List.map_id, List.filter_filter]
 refine List.filter_congr fun x _ => ?_
 simp [Function.comp, Bool.and_comm]
def delF (L : List Ev) (F : List (Int × Int)) (x : Int × Int) : Prop := ∃ d ∈ L, d.kind = 2 ∧ d.dot ∈ F ∧ d.par = x
theorem Reach.unseen (h : Reach st K G) {e : Ev} (hr : refD st e = 0) (he : e.Ok) {x : Ev} (hx : x ∈ st.L) : hasB x.past e.da e.ds = false := by
 cases q : hasB x.past e.da e.ds with
 | false => rfl
 | true =>
  have := h.within x hx _ _ he.dot.1.1 q
  rw [(refD_zero hr).2.1] at this; cases this
theorem ref_selfless {e : Ev} (hr : refD st e = 0) (he : e.Ok) : hasB e.past e.da e.ds = false := by
 cases q : hasB e.past e.da e.ds with
 | false => rfl
 | true =>
  have h3 := (refD_zero hr).2.2.1
  have hw : withinB e.past st.S = true := by
   unfold readyB at h3
   simp only [Bool.and_eq_true] at h3
   exact h3.2.2
  have := has_within hw he.dot.1.1 q
  rw [(refD_zero hr).2.1] at this; cases this
theorem right_del {e : Ev} (hr : rightB e = true) (hk : e.kind = 2) : hasB e.past e.pa e.ps = true := by
 unfold rightB rightKB at hr
 rw [if_neg (by omega), if_pos hk] at hr
 simp only [Bool.and_eq_true] at hr
 exact hr.2.1.1.1
theorem right_ins {e : Ev} (hr : rightB e = true) (hk : e.kind = 1) : 1 ≤ e.char ∧ e.char ≤ 127 ∧ ((e.par = (0, 0) ∧ e.right = true) ∨ hasB e.past e.pa e.ps = true) := by
 unfold rightB rightKB at hr
 rw [if_pos hk] at hr
 simp only [Bool.and_eq_true, decide_eq_true_eq] at hr
 refine ⟨hr.2.1.1.1, hr.2.1.1.2, ?_⟩
 have h3 := hr.2.1.2
 unfold rightParB at h3
 simp only [Bool.or_eq_true, Bool.and_eq_true, beq_iff_eq] at h3
 rcases h3 with ⟨⟨q1, q2⟩, q3⟩ | q
 · left
   exact ⟨by unfold Ev.par; rw [q1, q2], q3⟩
 · exact .inr q
theorem Reach.undeleted (h : Reach st K G) {e : Ev} (hr : refD st e = 0) (he : e.Ok) : ¬ delF st.L st.F e.dot := fun ⟨d, hd, hk, _, hp⟩ => by
 have h1 := right_del (h.right d hd) hk
 have h2 := h.unseen hr he hd
 have p1 : d.pa = e.da := congrArg Prod.fst hp
 have p2 : d.ps = e.ds := congrArg Prod.snd hp
 rw [p1, p2, h2] at h1; cases h1
def ndF (L : List Ev) (F : List (Int × Int)) (n : Nd) : Prop := ∃ e ∈ L, e.kind = 1 ∧ e.dot ∈ F ∧ n.id = e.dot ∧ n.side = (e.par, e.right) ∧ ((delF L F e.dot ∧ n.chr = 0) ∨ (¬ delF L F e.dot ∧ n.chr = e.char))
theorem delF_same {L : List Ev} {F F' : List (Int × Int)} {e : Ev} (ho : ∀ x ∈ L, x.dot ∈ F' ↔ x.dot ∈ F) (hn : ¬ (e.kind = 2 ∧ e.dot ∈ F')) (x : Int × Int) : delF (L ++ [e]) F' x ↔ delF L F x := by
 refine ⟨fun ⟨d, hd, hk, hf, hp⟩ => ?_, fun ⟨d, hd, hk, hf, hp⟩ => ⟨d, List.mem_append_left _ hd, hk, (ho d hd).2 hf, hp⟩⟩
 rcases List.mem_append.1 hd with q | q
 · exact ⟨d, q, hk, (ho d q).1 hf, hp⟩
 · rw [List.mem_singleton.1 q] at hk hf
   exact absurd ⟨hk, hf⟩ hn
theorem ndF_same {L : List Ev} {F F' : List (Int × Int)} {e : Ev} (ho : ∀ x ∈ L, x.dot ∈ F' ↔ x.dot ∈ F) (hn : ¬ (e.kind = 2 ∧ e.dot ∈ F')) (hn1 : ¬ (e.kind = 1 ∧ e.dot ∈ F')) (n : Nd) : ndF (L ++ [e]) F' n ↔ ndF L F n := by
 have hd := delF_same (e := e) ho hn
 refine ⟨fun ⟨x, hx, hk, hf, h1, h2, h3⟩ => ?_, fun ⟨x, hx, hk, hf, h1, h2, h3⟩ => ⟨x, List.mem_append_left _ hx, hk, (ho x hx).2 hf, h1, h2, by rw [hd]; exact h3⟩⟩
 rcases List.mem_append.1 hx with q | q
 · rw [hd] at h3
   exact ⟨x, q, hk, (ho x q).1 hf, h1, h2, h3⟩
 · rw [List.mem_singleton.1 q] at hk hf
   exact absurd ⟨hk, hf⟩ hn1
theorem Reach.nodes (h : Reach st K G) : ∀ n, n ∈ st.N ↔ ndF st.L st.F n := by
 induction h with
 | new => exact fun n => ⟨fun hn => (by cases hn), fun ⟨e, he, _⟩ => (by cases he)⟩
 | @ap st K G e h he hr ih =>
  intro n
  show n ∈ Go.Proofs.YtmbdohnmbkpfaaaGreat.actN st e ↔ ndF (st.L ++ [e]) (actF st e) n
  have ho : ∀ x ∈ st.L, x.dot ∈ actF st e ↔ x.dot ∈ st.F := fun x hx => h.old hr hx
  have hnew := h.newF hr
  unfold Go.Proofs.YtmbdohnmbkpfaaaGreat.actN
  by_cases h1 : e.kind = 1
  · rw [if_pos h1]
    by_cases hb : actB st e = true
    · have hb2 := hb
      unfold actB at hb2
      rw [if_pos h1] at hb2
      obtain ⟨hm, hI⟩ := Bool.and_eq_true_iff.1 hb2
      rw [if_pos hm]
      unfold insN
      rw [if_pos (by simpa using hI), List.mem_append, List.mem_singleton, ih]
      have hd := delF_same (e := e) ho (by rintro ⟨q, -⟩; omega)
      constructor
      · rintro (⟨x, hx, hk, hf, q1, q2, q3⟩ | rfl)
        · exact ⟨x, List.mem_append_left _ hx, hk, (ho x hx).2 hf, q1, q2, by rw [hd]; exact q3⟩
        · exact ⟨e, by simp, h1, hnew.2 hb, rfl, rfl, .inr ⟨by rw [hd]; exact h.undeleted hr he, rfl⟩⟩
      · rintro ⟨x, hx, hk, hf, q1, q2, q3⟩
        rw [hd] at q3
        rcases List.mem_append.1 hx with q | q
        · exact .inl ⟨x, q, hk, (ho x q).1 hf, q1, q2, q3⟩
        · obtain rfl := List.mem_singleton.1 q
          right
          rcases q3 with ⟨r, -⟩ | ⟨-, r⟩
          · exact absurd r (h.undeleted hr he)
          · obtain ⟨i, s, c⟩ := n
            simp only at q1 q2 r
            rw [q1, q2, r]; rfl
    · have hnf : e.dot ∉ actF st e := fun q => hb (hnew.1 q)
      have hN : (if mayB st e 2 = true then insN st.N e.nd else st.N) = st.N := by
       by_cases hm : mayB st e 2 = true
       · rw [if_pos hm]
         unfold insN
         rw [if_neg]
         intro q
         apply hb
         unfold actB
         rw [if_pos h1, hm, q]; rfl
       · rw [if_neg hm]
      rw [hN, ih, ndF_same ho (by rintro ⟨q, -⟩; omega) (fun q => hnf q.2)]
  · rw [if_neg h1]
    by_cases h2 : e.kind = 2
    · rw [if_pos h2]
      by_cases hb : actB st e = true
      · have hb2 := hb
        unfold actB at hb2
        rw [if_neg h1, if_pos h2] at hb2
        obtain ⟨hm, -⟩ := Bool.and_eq_true_iff.1 hb2
        rw [if_pos hm]
        have hd : ∀ x, delF (st.L ++ [e]) (actF st e) x ↔ delF st.L st.F x ∨ e.par = x := fun x => by
         refine ⟨fun ⟨d, hd, hk, hf, hp⟩ => ?_, fun q => ?_⟩
         · rcases List.mem_append.1 hd with q | q
           · exact .inl ⟨d, q, hk, (ho d q).1 hf, hp⟩
           · rw [List.mem_singleton.1 q] at hp; exact .inr hp
         · rcases q with ⟨d, hd, hk, hf, hp⟩ | q
           · exact ⟨d, List.mem_append_left _ hd, hk, (ho d hd).2 hf, hp⟩
           · exact ⟨e, by simp, h2, hnew.2 hb, q⟩
        unfold delN
        rw [List.mem_map]
        constructor
        · rintro ⟨m, hm, rfl⟩
          obtain ⟨x, hx, hk, hf, q1, q2, q3⟩ := (ih m).1 hm
          refine ⟨x, List.mem_append_left _ hx, hk, (ho x hx).2 hf, by rw [gone_id]; exact q1, by rw [gone_side]; exact q2, ?_⟩
          rw [hd]
          by_cases hp : e.par = x.dot
          · left
            refine ⟨.inr hp, ?_⟩
            unfold gone; rw [if_pos (q1.trans hp.symm)]
          · have hg : gone e.par m = m := by unfold gone; rw [if_neg (fun q => hp (q.symm.trans q1))]
            rw [hg]
            rcases q3 with ⟨r, s⟩ | ⟨r, s⟩
            · exact .inl ⟨.inl r, s⟩
            · exact .inr ⟨fun q => q.elim r hp, s⟩
        · rintro ⟨x, hx, hk, hf, q1, q2, q3⟩
          rw [hd] at q3
          rcases List.mem_append.1 hx with q | q
          · have hfo := (ho x q).1 hf
            by_cases hx' : delF st.L st.F x.dot
            · refine ⟨⟨x.dot, (x.par, x.right), 0⟩, (ih _).2 ⟨x, q, hk, hfo, rfl, rfl, .inl ⟨hx', rfl⟩⟩, ?_⟩
              have hc : n.chr = 0 := q3.elim (·.2) fun r => absurd (.inl hx') r.1
              obtain ⟨i, s, c⟩ := n
              simp only at q1 q2 hc
              subst q1 q2 hc
              unfold gone; split <;> rfl
            · refine ⟨⟨x.dot, (x.par, x.right), x.char⟩, (ih _).2 ⟨x, q, hk, hfo, rfl, rfl, .inr ⟨hx', rfl⟩⟩, ?_⟩
              obtain ⟨i, s, c⟩ := n
              simp only at q1 q2 q3
              subst q1 q2
              unfold gone
              by_cases hp : x.dot = e.par
              · rw [if_pos hp]
                rcases q3 with ⟨-, r⟩ | ⟨r, -⟩
                · rw [r]
                · exact absurd (.inr hp.symm) r
              · rw [if_neg hp]
                rcases q3 with ⟨r, -⟩ | ⟨-, r⟩
                · rcases r with r | r
                  · exact absurd r hx'
                  · exact absurd r.symm hp
                · rw [r]
          · rw [List.mem_singleton.1 q] at hk; omega
      · have hnf : e.dot ∉ actF st e := fun q => hb (hnew.1 q)
        have hN : (if mayB st e 2 = true then delN st.N e.par else st.N) = st.N := by
         by_cases hm : mayB st e 2 = true
         · rw [if_pos hm]
           refine delN_none ?_
           cases q : (chrN st.N e.par).isSome with
           | false => rfl
           | true =>
            exfalso; apply hb
            unfold actB
            rw [if_neg h1, if_pos h2, hm, q]; rfl
         · rw [if_neg hm]
        rw [hN, ih, ndF_same ho (fun q => hnf q.2) (fun q => hnf q.2)]
    · rw [if_neg h2, ih, ndF_same ho (fun q => h2 q.1) (fun q => h1 q.1)]
theorem Reach.inTree (h : Reach st K G) (x : Int × Int) : (chrN st.N x).isSome = true ↔ ∃ e ∈ st.L, e.kind = 1 ∧ e.dot ∈ st.F ∧ e.dot = x := by
 rw [chrN_some]
 constructor
 · rintro ⟨n, hn, rfl⟩
   obtain ⟨e, he, hk, hf, q1, -⟩ := (h.nodes n).1 hn
   exact ⟨e, he, hk, hf, q1.symm⟩
 · rintro ⟨e, he, hk, hf, rfl⟩
   by_cases hd : delF st.L st.F e.dot
   · exact ⟨⟨e.dot, (e.par, e.right), 0⟩, (h.nodes _).2 ⟨e, he, hk, hf, rfl, rfl, .inl ⟨hd, rfl⟩⟩, rfl⟩
   · exact ⟨⟨e.dot, (e.par, e.right), e.char⟩, (h.nodes _).2 ⟨e, he, hk, hf, rfl, rfl, .inr ⟨hd, rfl⟩⟩, rfl⟩
end
end Go.Proofs.YtmbdohnmbkpfaaaGreat
namespace Go.Proofs.YtmbdohnmbkpfaaaGreat
open Go.RowKit Go.Shelf
set_option maxRecDepth 20000
set_option linter.unusedSimpArgs false
def leastOf (e : Ev) : Int := if e.kind = 1 ∨ e.kind = 2 then 2 else 3
def parF (L : List Ev) (F : List (Int × Int)) (x : Int × Int) : Prop := ∃ d ∈ L, d.kind = 1 ∧ d.dot ∈ F ∧ d.dot = x
def forceP (L : List Ev) (F : List (Int × Int)) (e : Ev) : Prop :=
 leastOf e ≤ roleT e.da (L.filter (fun x => aclB F x && tellB e.da e.past x)) ∧ (e.kind = 1 → e.par = (0, 0) ∨ parF L F e.par) ∧ (e.kind = 2 → parF L F e.par)
theorem tell_has {who : Int} {v : List Int} {x : Ev} (h : tellB who v x = true) : hasB v x.da x.ds = true := by
 unfold tellB at h
 exact (Bool.and_eq_true_iff.1 h).2
theorem forceP_congr {L L' : List Ev} {F F' : List (Int × Int)} {e : Ev} (hr : rightB e = true) (hp : (L.filter fun x => hasB e.past x.da x.ds).Perm (L'.filter fun x => hasB e.past x.da x.ds)) (hF : ∀ x ∈ L, hasB e.past x.da x.ds = true → (x.dot ∈ F ↔ x.dot ∈ F')) : forceP L F e → forceP L' F' e := by
 have hmem : ∀ x, hasB e.past x.da x.ds = true → (x ∈ L ↔ x ∈ L') := fun x hx => by
  have h1 := hp.mem_iff (a := x)
  rw [List.mem_filter, List.mem_filter] at h1
  exact ⟨fun q => (h1.1 ⟨q, hx⟩).1, fun q => (h1.2 ⟨q, hx⟩).1⟩
 have hsame : ∀ x, hasB e.past x.da x.ds = true → (x.dot ∈ F ∧ x ∈ L ↔ x.dot ∈ F' ∧ x ∈ L') := fun x hx =>
  ⟨fun ⟨q, r⟩ => ⟨(hF x r hx).1 q, (hmem x hx).1 r⟩, fun ⟨q, r⟩ => ⟨(hF x ((hmem x hx).2 r) hx).2 q, (hmem x hx).2 r⟩⟩
 have hpar : hasB e.past e.pa e.ps = true → parF L F e.par → parF L' F' e.par := fun hb ⟨d, hd, hk, hf, hdp⟩ => by
  have h1 : hasB e.past d.da d.ds = true := by
   have q1 : d.da = e.pa := congrArg Prod.fst hdp
   have q2 : d.ds = e.ps := congrArg Prod.snd hdp
   rw [q1, q2]; exact hb
  obtain ⟨q, r⟩ := (hsame d h1).1 ⟨hf, hd⟩
  exact ⟨d, r, hk, q, hdp⟩
 rintro ⟨h1, h2, h3⟩
 refine ⟨?_, fun hk => ?_, fun hk => hpar (right_del hr hk) (h3 hk)⟩
 · have hf : ∀ (M : List Ev) (H : List (Int × Int)), M.filter (fun x => aclB H x && tellB e.da e.past x) = (M.filter fun x => hasB e.past x.da x.ds).filter (fun x => aclB H x && tellB e.da e.past x) := fun M H => by
    rw [List.filter_filter]
    refine List.filter_congr fun x _ => ?_
    by_cases q : (aclB H x && tellB e.da e.past x) = true
    · rw [q, tell_has (Bool.and_eq_true_iff.1 q).2]; rfl
    · rw [Bool.not_eq_true] at q; rw [q]; rfl
   have hg : (L'.filter fun x => hasB e.past x.da x.ds).filter (fun x => aclB F' x && tellB e.da e.past x) = (L'.filter fun x => hasB e.past x.da x.ds).filter (fun x => aclB F x && tellB e.da e.past x) := by
    refine List.filter_congr fun x hx => ?_
    obtain ⟨hx1, hx2⟩ := List.mem_filter.1 hx
    have : aclB F' x = aclB F x := by
     unfold aclB
     rw [decide_eq_decide, hF x ((hmem x hx2).2 hx1) hx2]
    rw [this]
   rw [hf L' F', hg, ← roleT_perm (hp.filter _), ← hf L F]
   exact h1
 · rcases h2 hk with q | q
   · exact .inl q
   · rcases (right_ins hr hk).2.2 with r | r
     · exact .inl r.1
     · exact .inr (hpar r q)
section
variable {st : Ds} {K : List Ent} {G : List Bool}
theorem Reach.acts (h : Reach st K G) {e : Ev} (hr : refD st e = 0) : actB st e = true ↔ forceP st.L st.F e := by
 obtain ⟨hg, hR⟩ := h.good
 obtain ⟨hri, hnk, -, hl⟩ := refD_zero hr
 have hrole : roleP st.B e.da e.past = roleT e.da (st.L.filter (fun x => aclB st.F x && tellB e.da e.past x)) := by rw [roleT_told, h.told]
 unfold actB forceP mayB leastOf
 rw [hrole]
 rcases rightB_kind hri with hk | hk | hk | hk
 · rw [if_pos hk, if_pos (.inl hk), Bool.and_eq_true_iff, decide_eq_true_iff]
   refine and_congr Iff.rfl ⟨fun hI => ⟨fun _ => ?_, fun q => by omega⟩, fun ⟨hp, _⟩ => ?_⟩
   · have hI' : refI st.N e.nd = 0 := by simpa using hI
     rcases (refI_ok hI').2.2.2.2.2.1 with q | q
     · exact .inl q
     · exact .inr ((h.inTree _).1 q)
   · obtain ⟨c1, c2, c3⟩ := right_ins hri hk
     have hI : refI st.N e.nd = 0 := by
      have hds : e.ds ≠ 0 := by
       unfold rightB rightDotB at hri
       simp only [Bool.and_eq_true, Bool.not_eq_true', beq_eq_false_iff_ne] at hri
       exact hri.1.2.1
      unfold refI
      rw [if_neg, if_neg, if_neg, if_neg]
      · have := hg.nlen; omega
      · rintro ⟨q1, q2⟩
        rcases hp hk with r | r
        · exact q1 r
        · have : (chrN st.N e.nd.side.1).isSome = true := (h.inTree _).2 r
          rw [this] at q2; cases q2
      · intro q
        obtain ⟨x, hx, -, -, hd⟩ := (h.inTree _).1 q
        exact hR.fresh hr x hx hd
      · rintro (q | q | q | ⟨q1, q2⟩)
        · exact hds (congrArg Prod.snd q)
        · have : e.char < 1 := q
          omega
        · have : 127 < e.char := q
          omega
        · rcases c3 with r | r
          · have : e.right = false := q2
            rw [r.2] at this; cases this
          · have h0 : e.ps = 0 := congrArg Prod.snd (show e.par = (0, 0) from q1)
            unfold hasB at r
            rw [h0] at r
            simp at r
     rw [hI]; rfl
 · rw [if_neg (by omega), if_pos hk, if_pos (.inr hk), Bool.and_eq_true_iff, decide_eq_true_iff]
   exact and_congr Iff.rfl ⟨fun q => ⟨fun r => by omega, fun _ => (h.inTree _).1 q⟩, fun q => (h.inTree _).2 (q.2 hk)⟩
 all_goals
  obtain ⟨-, r2⟩ := hR.refK hr (by omega)
  rw [if_neg (by omega), if_neg (by omega), if_neg (by omega), Bool.and_eq_true_iff, decide_eq_true_iff, r2]
  exact ⟨fun q => ⟨q.1, fun r => by omega, fun r => by omega⟩, fun q => ⟨q.1, rfl⟩⟩
theorem Reach.forces (h : Reach st K G) : ∀ e ∈ st.L, (e.dot ∈ st.F ↔ forceP st.L st.F e) := by
 induction h with
 | new => exact fun e he => by cases he
 | @ap st K G e h he hr ih =>
  intro x hx
  show x.dot ∈ actF st e ↔ forceP (st.L ++ [e]) (actF st e) x
  have key : ∀ y, rightB y = true → hasB y.past e.da e.ds = false → (forceP (st.L ++ [e]) (actF st e) y ↔ forceP st.L st.F y) := fun y hy hn => by
   have hp : ((st.L ++ [e]).filter fun x => hasB y.past x.da x.ds) = st.L.filter fun x => hasB y.past x.da x.ds := by
    rw [List.filter_append, List.filter_cons_of_neg (by rw [hn]; simp)]; simp
   refine ⟨forceP_congr hy (by rw [hp]) fun z hz hz2 => ?_, forceP_congr hy (by rw [hp]) fun z hz _ => (h.old hr hz).symm⟩
   rcases List.mem_append.1 hz with q | q
   · exact h.old hr q
   · rw [List.mem_singleton.1 q, hn] at hz2; cases hz2
  rcases List.mem_append.1 hx with q | q
  · rw [h.old hr q, key x (h.right x q) (h.unseen hr he q)]
    exact ih x q
  · rw [List.mem_singleton.1 q, h.newF hr, key e (refD_zero hr).1 (ref_selfless hr he)]
    exact h.acts hr
theorem Reach.ahead (h : Reach st K G) : ∀ i (hi : i < st.L.length), ∀ x ∈ st.L, hasB st.L[i].past x.da x.ds = true → x ∈ st.L.take i := by
 induction h with
 | new => exact fun i hi => by cases hi
 | @ap st K G e h he hr ih =>
  intro i hi x hx hb
  change i < (st.L ++ [e]).length at hi
  change hasB (st.L ++ [e])[i].past x.da x.ds = true at hb
  show x ∈ (st.L ++ [e]).take i
  rw [List.length_append, List.length_singleton] at hi
  by_cases hlt : i < st.L.length
  · rw [List.getElem_append_left hlt] at hb
    rw [List.take_append_of_le_length (by omega)]
    rcases List.mem_append.1 hx with q | q
    · exact ih i hlt x q hb
    · rw [List.mem_singleton.1 q, h.unseen hr he (List.getElem_mem hlt)] at hb; cases hb
  · obtain rfl : i = st.L.length := by omega
    rw [List.getElem_concat_length rfl] at hb
    rw [List.take_left]
    rcases List.mem_append.1 hx with q | q
    · exact q
    · rw [List.mem_singleton.1 q, ref_selfless hr he] at hb; cases hb
theorem Reach.uniq (h : Reach st K G) : ∀ x ∈ st.L, ∀ y ∈ st.L, x.dot = y.dot → x = y := by
 induction h with
 | new => exact fun x hx => by cases hx
 | @ap st K G e h he hr ih =>
  intro x hx y hy hd
  have hf := h.good.2.fresh hr
  rcases List.mem_append.1 hx with q | q <;> rcases List.mem_append.1 hy with r | r
  · exact ih x q y r hd
  · rw [List.mem_singleton.1 r] at hd; exact absurd hd (hf x q)
  · rw [List.mem_singleton.1 q] at hd; exact absurd hd.symm (hf y r)
  · rw [List.mem_singleton.1 q, List.mem_singleton.1 r]
theorem Reach.seenL (h : Reach st K G) : st.S = st.L.foldl (fun S e => stepS S e.da) [0, 0, 0, 0, 0, 0, 0, 0] := by
 induction h with
 | new => rfl
 | @ap st K G e _ _ _ ih =>
  show stepS st.S e.da = (st.L ++ [e]).foldl _ _
  rw [List.foldl_append, ← ih]; rfl
theorem stepS_comm (S : List Int) (a b : Int) : stepS (stepS S a) b = stepS (stepS S b) a := by
 unfold stepS
 by_cases h : a.toNat = b.toNat
 · rw [h]
 · rw [List.getElem?_set_ne h, List.getElem?_set_ne (Ne.symm h), List.set_comm _ _ h]
end
theorem turn_force {s t : Ds} {K K' : List Ent} {G G' : List Bool} (h : Reach s K G) (h' : Reach t K' G') (hp : s.L.Perm t.L) : ∀ x ∈ s.L, (x.dot ∈ s.F ↔ x.dot ∈ t.F) := by
 have key : ∀ i (hi : i < s.L.length), (s.L[i].dot ∈ s.F ↔ s.L[i].dot ∈ t.F) := fun i => by
  induction i using Nat.strongRecOn with
  | _ i ih =>
   intro hi
   have hm := List.getElem_mem hi
   have hr := h.right _ hm
   have hF : ∀ x ∈ s.L, hasB s.L[i].past x.da x.ds = true → (x.dot ∈ s.F ↔ x.dot ∈ t.F) := fun x hx hb => by
    obtain ⟨j, hj, rfl⟩ := List.getElem_of_mem (h.ahead i hi x hx hb)
    rw [List.length_take] at hj
    rw [List.getElem_take]
    exact ih j (by omega) (by omega)
   rw [h.forces _ hm, h'.forces _ (hp.mem_iff.1 hm)]
   exact ⟨forceP_congr hr (hp.filter _) hF, forceP_congr hr (hp.symm.filter _) fun x hx hb => (hF x (hp.mem_iff.2 hx) hb).symm⟩
 intro x hx
 obtain ⟨i, hi, rfl⟩ := List.getElem_of_mem hx
 exact key i hi
structure TurnS (s t : Ds) : Prop where
 force : ∀ x ∈ s.L, (x.dot ∈ s.F ↔ x.dot ∈ t.F)
 seen : s.S = t.S
 members : membersL s.B s.S = membersL t.B t.S
 text : textN s.N = textN t.N
theorem turns_same {s t : Ds} {K K' : List Ent} {G G' : List Bool} (h : Reach s K G) (h' : Reach t K' G') (hp : s.L.Perm t.L) : TurnS s t := by
 have hF := turn_force h h' hp
 have hS : s.S = t.S := by
  rw [h.seenL, h'.seenL]
  exact hp.foldl_eq' (fun x _ y _ z => stepS_comm z x.da y.da) _
 have hR : ∀ who v, roleP s.B who v = roleP t.B who v := fun who v => by
  rw [roleT_told, roleT_told, h.told, h'.told]
  have e1 : t.L.filter (fun x => aclB t.F x && tellB who v x) = t.L.filter (fun x => aclB s.F x && tellB who v x) := List.filter_congr fun x hx => by
   have : aclB t.F x = aclB s.F x := by unfold aclB; rw [decide_eq_decide, hF x (hp.mem_iff.2 hx)]
   rw [this]
  rw [e1]
  exact roleT_perm (hp.filter _) who
 refine ⟨hF, hS, ?_, ?_⟩
 · rw [hS]
   unfold membersL
   exact List.map_congr_left fun i _ => hR i _
 · have hd : ∀ x, delF s.L s.F x ↔ delF t.L t.F x := fun x =>
    ⟨fun ⟨d, hd, hk, hf, q⟩ => ⟨d, hp.mem_iff.1 hd, hk, (hF d hd).1 hf, q⟩, fun ⟨d, hd, hk, hf, q⟩ => ⟨d, hp.mem_iff.2 hd, hk, (hF d (hp.mem_iff.2 hd)).2 hf, q⟩⟩
   refine (same_nodes h.good.1.tree h'.good.1.tree fun n => ?_).2.1
   rw [h.nodes, h'.nodes]
   exact ⟨fun ⟨e, he, hk, hf, q1, q2, q3⟩ => ⟨e, hp.mem_iff.1 he, hk, (hF e he).1 hf, q1, q2, by rw [← hd]; exact q3⟩, fun ⟨e, he, hk, hf, q1, q2, q3⟩ => ⟨e, hp.mem_iff.2 he, hk, (hF e (hp.mem_iff.2 he)).2 hf, q1, q2, by rw [hd]; exact q3⟩⟩
end Go.Proofs.YtmbdohnmbkpfaaaGreat
namespace Go.Proofs.YtmbdohnmbkpfaaaGreat
open Go.RowKit Go.Shelf
set_option maxRecDepth 20000
set_option linter.unusedSimpArgs false
theorem within_of {a b : List Int} (h : ∀ j, j < 8 → a[j]?.getD 0 ≤ b[j]?.getD 0) : withinB a b = true := by
 have key : ∀ n, n ≤ 8 → withinTo a b n = true := fun n => by
  induction n with
  | zero => exact fun _ => rfl
  | succ n ih =>
   intro hn
   unfold withinTo
   rw [ih (by omega)]
   have := h n (by omega)
   simp; omega
 exact key 8 (by omega)
theorem Reach.hasMem {st : Ds} {K : List Ent} {G : List Bool} (h : Reach st K G) : ∀ a s : Int, 0 ≤ a → 1 ≤ s → hasB st.S a s = true → ∃ x ∈ st.L, x.da = a ∧ x.ds = s := by
 induction h with
 | new =>
  intro a s ha hs hb
  exfalso
  unfold hasB newS at hb
  simp only [Bool.and_eq_true, decide_eq_true_eq] at hb
  obtain ⟨n, rfl⟩ := Int.eq_ofNat_of_zero_le ha
  have hn : n < 8 := by omega
  have h2 := hb.2.2
  rw [Int.toNat_natCast] at h2
  have h0 : ([0, 0, 0, 0, 0, 0, 0, 0] : List Int)[n]?.getD 0 = 0 := by
   match n, hn with
   | 0, _ | 1, _ | 2, _ | 3, _ | 4, _ | 5, _ | 6, _ | 7, _ => rfl
  omega
 | @ap st K G e h he hr ih =>
  intro a s ha hs hb
  obtain ⟨hg, -⟩ := h.good
  obtain ⟨h1, -, h3, -⟩ := refD_zero hr
  have h8 := rightB_author h1
  have h0 := he.dot.1.1
  change hasB (stepS st.S e.da) a s = true at hb
  have hb' := hb
  unfold hasB at hb'
  simp only [Bool.and_eq_true, decide_eq_true_eq] at hb'
  rw [stepS_get hg.slen h0 h8] at hb'
  have hS : st.S[e.da.toNat]?.getD 0 = e.ds - 1 := by
   unfold readyB at h3
   simp only [Bool.and_eq_true, beq_iff_eq] at h3
   exact h3.2.1
  by_cases q : hasB st.S a s = true
  · obtain ⟨x, hx, q1⟩ := ih a s ha hs q
    exact ⟨x, List.mem_append_left _ hx, q1⟩
  · have q2 : ¬ s ≤ st.S[a.toNat]?.getD 0 := fun r => q (by
     unfold hasB
     simp only [Bool.and_eq_true, decide_eq_true_eq]
     exact ⟨hb'.1, hb'.2.1, r⟩)
    have h4 := hb'.2.2
    split at h4
    · rename_i heq
      have : a = e.da := by omega
      refine ⟨e, List.mem_append_right _ (List.mem_singleton.2 rfl), this.symm, ?_⟩
      rw [heq] at q2
      omega
    · exact absurd h4 q2
theorem right_dot {e : Ev} (h : rightB e = true) : e.da < 8 ∧ e.ds ≠ 0 ∧ e.past[e.da.toNat]?.getD 0 = e.ds - 1 := by
 unfold rightB rightDotB at h
 simp only [Bool.and_eq_true, decide_eq_true_eq, Bool.not_eq_true', beq_eq_false_iff_ne, beq_iff_eq] at h
 exact ⟨h.1.1, h.1.2.1, h.1.2.2.2.1⟩
theorem ready_ok {t : Ds} {x : Ev} (hr : readyB t.S x = true) (hl : t.L.length < 512) : refD t x = 0 := by
 have hr' := hr
 unfold readyB at hr'
 simp only [Bool.and_eq_true, beq_iff_eq] at hr'
 have hn : hasB t.S x.da x.ds = false := by
  cases q : hasB t.S x.da x.ds with
  | false => rfl
  | true =>
   exfalso
   unfold hasB at q
   simp only [Bool.and_eq_true, decide_eq_true_eq] at q
   have := q.2.2
   have := hr'.2.1
   omega
 unfold refD
 rw [hr'.1, hn, hr, if_neg (by decide), if_neg (by decide), if_neg (by decide), if_neg (by omega)]
theorem ready_next {s t : Ds} {K K' : List Ent} {G G' : List Bool} (h : Reach s K G) (h' : Reach t K' G') {left : List Ev} (hp : (t.L ++ left).Perm s.L) (hn : left ≠ []) : ∃ x ∈ left, readyB t.S x = true := by
 have hex : ∃ i, ∃ hi : i < s.L.length, s.L[i] ∈ left := by
  obtain ⟨x, hx⟩ := List.exists_mem_of_ne_nil left hn
  obtain ⟨i, hi, q⟩ := List.getElem_of_mem (hp.mem_iff.1 (List.mem_append_right _ hx))
  exact ⟨i, hi, by rw [q]; exact hx⟩
 have hmin : ∃ i, (∃ hi : i < s.L.length, s.L[i] ∉ t.L) ∧ ∀ j, j < i → ∀ hj : j < s.L.length, s.L[j] ∈ t.L := by
  by_cases hall : ∀ i (hi : i < s.L.length), s.L[i] ∈ t.L
  · exfalso
    obtain ⟨i, hi, hm⟩ := hex
    have hnd : (t.L ++ left).Nodup := by
     rw [hp.nodup_iff]
     have : ∀ i j (hi : i < s.L.length) (hj : j < s.L.length), i < j → s.L[i] ≠ s.L[j] := fun i j hi hj hij e => by
      have h1 := h.ahead
      have := (h.right _ (List.getElem_mem hj))
      have h2 := right_dot this
      -- what stands later has not been seen by itself
      have key : ∀ (st : Ds) (K : List Ent) (G : List Bool), Reach st K G → st.L.Nodup := fun st K G h => by
       induction h with
       | new => exact List.nodup_nil
       | @ap st K G e h _ hr ih =>
        show (st.L ++ [e]).Nodup
        rw [List.nodup_append]
        refine ⟨ih, by simp, fun a ha b hb q => ?_⟩
        rw [List.mem_singleton.1 hb] at q
        exact h.good.2.fresh hr a ha (by rw [q])
      have := key _ _ _ h
      exact absurd ((List.getElem_inj this).1 e) (by omega)
     exact List.pairwise_iff_getElem.2 fun i j hi hj hij => this i j hi hj hij
    rw [List.nodup_append] at hnd
    exact hnd.2.2 _ (hall i hi) _ hm rfl
  · simp only [Classical.not_forall] at hall
    have hall2 : ∃ i, ∃ hi : i < s.L.length, s.L[i] ∉ t.L := hall
    have hind : ∀ n, (∃ hi : n < s.L.length, s.L[n] ∉ t.L) → ∃ i, (∃ hi : i < s.L.length, s.L[i] ∉ t.L) ∧ ∀ j, j < i → ∀ hj : j < s.L.length, s.L[j] ∈ t.L := fun n => by
     induction n using Nat.strongRecOn with
     | _ n ih =>
      intro hnn
      by_cases hq : ∀ j, j < n → ∀ hj : j < s.L.length, s.L[j] ∈ t.L
      · exact ⟨n, hnn, hq⟩
      · simp only [Classical.not_forall] at hq
        obtain ⟨j, hj, hjl, hjn⟩ := hq
        exact ih j hj ⟨hjl, hjn⟩
    obtain ⟨n, hnn⟩ := hall2
    exact hind n hnn
 obtain ⟨i, ⟨hi, hnot⟩, hbefore⟩ := hmin
 have hm := List.getElem_mem hi
 have hleft : s.L[i] ∈ left := by
  rcases List.mem_append.1 (hp.mem_iff.2 hm) with q | q
  · exact absurd q hnot
  · exact q
 refine ⟨s.L[i], hleft, ?_⟩
 have hr := h.right _ hm
 obtain ⟨d1, d2, d3⟩ := right_dot hr
 obtain ⟨hgs, hRs⟩ := h.good
 obtain ⟨hgt, hRt⟩ := h'.good
 have hok := hgs.lok _ hm
 have h0 := hok.dot.1.1
 have hdsn := hok.dot.2.1
 have hsub : ∀ x ∈ t.L, x ∈ s.L := fun x hx => hp.mem_iff.1 (List.mem_append_left _ hx)
 have hw : ∀ j, j < 8 → s.L[i].past[j]?.getD 0 ≤ t.S[j]?.getD 0 := fun j hj => by
  have ht0 := (hgt.seen hj).1
  by_cases hz : s.L[i].past[j]?.getD 0 ≤ 0
  · omega
  · have hb : hasB s.L[i].past (j : Int) (s.L[i].past[j]?.getD 0) = true := by
     unfold hasB
     simp only [Bool.and_eq_true, decide_eq_true_eq, Bool.not_eq_true', beq_eq_false_iff_ne, Int.toNat_natCast]
     exact ⟨by omega, by omega, Int.le_refl _⟩
    have hbs := h.within _ hm (j : Int) _ (by omega) hb
    obtain ⟨x, hx, q1, q2⟩ := h.hasMem (j : Int) _ (by omega) (by omega) hbs
    have hbx : hasB s.L[i].past x.da x.ds = true := by rw [q1, q2]; exact hb
    obtain ⟨k, hk, hkx⟩ := List.getElem_of_mem (h.ahead i hi x hx hbx)
    rw [List.length_take] at hk
    rw [List.getElem_take] at hkx
    have hin := hbefore k (by omega) (by omega)
    rw [hkx] at hin
    have := hRt.seen x hin
    unfold hasB at this
    simp only [Bool.and_eq_true, decide_eq_true_eq] at this
    have h3 := this.2.2
    rw [q1, q2, Int.toNat_natCast] at h3
    exact h3
 unfold readyB
 rw [hr, within_of hw]
 simp only [Bool.true_and, Bool.and_true, beq_iff_eq]
 have hge := hw s.L[i].da.toNat (by omega)
 rw [d3] at hge
 rcases Int.lt_or_le (t.S[s.L[i].da.toNat]?.getD 0) s.L[i].ds with q | q
 · omega
 · exfalso
   have hb : hasB t.S s.L[i].da s.L[i].ds = true := by
    unfold hasB
    simp only [Bool.and_eq_true, decide_eq_true_eq, Bool.not_eq_true', beq_eq_false_iff_ne]
    exact ⟨d1, d2, q⟩
   obtain ⟨y, hy, q1, q2⟩ := h'.hasMem _ _ h0 (by omega) hb
   have : y = s.L[i] := h.uniq y (hsub y hy) _ hm (by unfold Ev.dot; rw [q1, q2])
   rw [this] at hy
   exact hnot hy
theorem rot_cover {n m q : Nat} (hq : q < n) : ∃ i, i < n ∧ (i + m) % n = q := by
 have hn : 0 < n := by omega
 have h1 := Nat.mod_lt m hn
 refine ⟨(q + (n - m % n)) % n, Nat.mod_lt _ hn, ?_⟩
 rw [Nat.mod_add_mod, show q + (n - m % n) + m = q + n + (m - m % n) by have := Nat.mod_le m n; omega]
 have h2 : m - m % n = n * (m / n) := by have := Nat.div_add_mod m n; omega
 rw [h2, Nat.add_mul_mod_self_left, Nat.add_mod_right, Nat.mod_eq_of_lt hq]
theorem perm_next {L t left : List Ev} (hp : (t ++ left).Perm L) {a : Nat} (ha : a < left.length) : ((t ++ [left[a]]) ++ (left.take a ++ left.drop (a + 1))).Perm L := by
 refine List.Perm.trans ?_ hp
 rw [List.append_assoc]
 refine List.Perm.append_left t ?_
 have e : left = left.take a ++ left[a] :: left.drop (a + 1) := by rw [← List.drop_eq_getElem_cons ha, List.take_append_drop]
 have h2 : (left.take a ++ left[a] :: left.drop (a + 1)).Perm (left[a] :: (left.take a ++ left.drop (a + 1))) := List.perm_middle
 rw [← e] at h2
 exact h2.symm
end Go.Proofs.YtmbdohnmbkpfaaaGreat
namespace Go.Proofs.YtmbdohnmbkpfaaaGreat
open Go.RowKit Go.Shelf
set_option maxRecDepth 20000
set_option linter.unusedSimpArgs false
theorem OwnI.appAtD {w : World} {base : Nat} {v : Value} {L : List (List Value)} (h : OwnI w base 44 17 v L) (a : Addr) (c : Nat) (C : List (List Value)) (hC : ∀ c ∈ C, c.length = 17) (h1 : ∀ c ∈ C, ∀ u ∈ c, u.oneCell' = true) (hsrc : ∀ j u, C.flatten[j]? = some u → w.cell? (a.add j) = some u) (hln : L.length + C.length ≤ 1000000) (hbase : base ≤ w.heap.size) :
    ∃ v' w', (Builtin.append_ #[31, 31] 31 #[v, .slice (some a) C.length c]).run Tryz.prog w = .ok v' w' ∧ OwnI w' base 44 17 v' (L ++ C) ∧ w.grownBy w' v.ownBlock := by
 obtain ⟨i0, hi, hz0, hz1, hz2⟩ := info_parts infoE17D
 obtain ⟨v', w', hr, h2, h3, _, _⟩ := run_append_own_at (P := Tryz.prog) w base 31 31 44 i0 _ 17 56 Tryz.underlying31 hi hz0 hz1 hz2 rfl (by decide) v L.length L.flatten h.own a C.length c C.flatten (flat_len C hC) hsrc (fun x hx => by
  obtain ⟨c, hc, hxc⟩ := List.mem_flatten.1 hx
  exact h1 c hc x hxc) (by simp [maxLen]; omega) (by omega) hbase
 refine ⟨v', w', hr, ⟨?_, fun x hx => ?_⟩, h3⟩
 · rw [List.length_append, List.flatten_append]; exact h2
 · rcases List.mem_append.1 hx with h' | h'
   · exact h.each x h'
   · exact hC x h'
theorem evLenD {L : List Ev} (h : ∀ e ∈ L, e.Ok) : ∀ c ∈ L.map Ev.cells, c.length = 17 := fun c hc => by
 obtain ⟨e, he, rfl⟩ := List.mem_map.1 hc
 exact aev_len e (h e he).past
theorem evOneD (L : List Ev) : ∀ c ∈ L.map Ev.cells, ∀ u ∈ c, u.oneCell' = true := fun c hc u hu => by
 obtain ⟨e, _, rfl⟩ := List.mem_map.1 hc
 exact aev_one e u hu
theorem subD_src {w : World} {B : Nat} {g n c : Nat} {L : List Ev} (h : OwnI w B 44 17 (.slice (some ⟨g, 0, none⟩) n c) (L.map Ev.cells)) (hk : ∀ e ∈ L, e.Ok) (p q r : List Ev) (hL : L = p ++ q ++ r) : ∀ j u, (q.map Ev.cells).flatten[j]? = some u → w.cell? ((⟨g, p.length * 17, none⟩ : Addr).add j) = some u := fun j u hu => by
 obtain ⟨_, hs⟩ := h.src
 have hl : (p.map Ev.cells).flatten.length = p.length * 17 := by
  rw [flat_len (k := 17) _ (evLenD (fun e he => hk e (by rw [hL]; simp [he]))), List.length_map]
 have := hs (p.length * 17 + j) u (by
  rw [hL, List.map_append, List.map_append, List.append_assoc, List.flatten_append, List.getElem?_append_right (by rw [hl]; omega), hl, List.flatten_append, Nat.add_sub_cancel_left]
  have hj : j < (q.map Ev.cells).flatten.length := by
   rcases Nat.lt_or_ge j (q.map Ev.cells).flatten.length with h' | h'
   · exact h'
   · rw [List.getElem?_eq_none h'] at hu; cases hu
  rw [List.getElem?_append_left hj]; exact hu)
 rw [show (⟨g, 0, none⟩ : Addr).add (p.length * 17 + j) = ⟨g, 0 + (p.length * 17 + j), none⟩ by unfold Addr.add; split <;> simp_all] at this
 rw [show (⟨g, p.length * 17, none⟩ : Addr).add j = ⟨g, p.length * 17 + j, none⟩ by unfold Addr.add; split <;> simp_all]
 rw [Nat.zero_add] at this
 exact this
theorem elemEv : Tryz.prog.underlying 31 = some (.slice (Tryz.prog.elem 31)) := by kernel_rfl
theorem sizeEv (w : World) : (sizeOf (Tryz.prog.elem 31)).run Tryz.prog w = .ok 17 w := by kernel_rfl
def subE (x : Option Addr) (cap l : Nat) : Option Addr := if cap = l then x else x.map (·.add (l * 17))
theorem cutE_h (w : World) (x : Option Addr) (len cap h : Nat) (hh : h ≤ cap) : (Instr.slice 31 (.slice x len cap) none (some (.int .i64 (h : Int))) none).run Tryz.prog w = .ok (.slice (subE x cap 0) h cap) w := by
 rw [run_slice_h w 31 x len cap elemEv .i64 (h : Int) (by omega) (by omega), sizeEv]
 simp [sliced, subE, Result.andThen]
theorem cutE_l (w : World) (x : Option Addr) (len cap l : Nat) (hl : l ≤ len) : (Instr.slice 31 (.slice x len cap) (some (.int .i64 (l : Int))) none none).run Tryz.prog w = .ok (.slice (subE x cap l) (len - l) (cap - l)) w := by
 rw [run_slice_l w 31 x len cap elemEv .i64 (l : Int) (by omega) (by omega), sizeEv]
 simp [sliced, subE, Result.andThen]
theorem subE_zero (g c : Nat) : subE (some ⟨g, 0, none⟩) c 0 = some ⟨g, 0, none⟩ := by
 unfold subE
 split
 · rfl
 · simp [Addr.add]
theorem subE_some (g c l : Nat) : ∃ A : Addr, subE (some ⟨g, 0, none⟩) c l = some A ∧ (c ≠ l → A = ⟨g, l * 17, none⟩) := by
 unfold subE
 split
 · exact ⟨_, rfl, fun q => absurd ‹_› q⟩
 · refine ⟨_, rfl, fun _ => ?_⟩
   simp [Addr.add]
   omega
structure TuI (W1 : World) (F : Nat) (t : Ds) (lv : Value) (left : List Ev) (W : World) : Prop where
 f : ∃ q : Pl, q.D = F ∧ DocAt W W1.heap.size t q ∧ (∀ k, docP q k → W1.heap.size ≤ k) ∧ ∀ g, lv.ownBlock = some g → ¬ docP q g
 good : GoodD t
 left : OwnI W W1.heap.size 44 17 lv (left.map Ev.cells)
 below : Below W1.heap.size W1 W
section
variable {W1 W W' : World} {F : Nat} {t : Ds} {lv : Value} {left : List Ev}
theorem TuI.far (h : TuI W1 F t lv left W) (hb : Below W.heap.size W W') : TuI W1 F t lv left W' := by
 obtain ⟨q, h1, h2, h3, h4⟩ := h.f
 exact ⟨⟨q, h1, h2.far hb, h3, h4⟩, h.good, h.left.far hb, h.below.trans (hb.mono h.below.size)⟩
theorem TuI.at_ (h : TuI W1 F t lv left W) : AtD W1.heap.size W t F := by
 obtain ⟨q, h1, h2, h3, -⟩ := h.f
 exact ⟨q, h1, h2, h3⟩
theorem TuI.apply (h : TuI W1 F t lv left W) {e : Ev} (he : e.Ok) (hr : refD t e = 0) :
    Calls Tryz.prog 18 #[.pointer (some ⟨F, 0, none⟩), .agg e.cells.toArray] W fun r w' => r = .returned (.int .i64 0) ∧ TuI W1 F (apS t e) lv left w' := by
 obtain ⟨q, rfl, h2, h3, h4⟩ := h.f
 refine (dApply_any _ t q e W h2 h.good he h.below.size).mono ?_
 rintro r w' ⟨g1, q', g2, ht⟩
 rw [hr] at g1
 rw [show doS t e = apS t e from if_pos hr] at g2
 have hbel := ht.turn.below h.below.size h3
 refine ⟨g1, ⟨q', ht.at_, g2, fun k s => ?_, fun g hg s => ?_⟩, h.good.ap he hr, h.left.congr fun g hg => ht.turn.block g (h.left.blockLt g hg).1 (h4 g hg), h.below.trans hbel⟩
 · rcases ht.own k s with r | r
   · exact h3 k r
   · have := h.below.size; omega
 · rcases ht.own g s with r | r
   · exact h4 g hg r
   · have := (h.left.blockLt g hg).1; omega
theorem TuI.cut {x : Option Addr} {n c : Nat} (h : TuI W1 F t (.slice x n c) left W) (hok : ∀ e ∈ left, e.Ok) (hl : left.length ≤ 512) {a : Nat} (ha : a < left.length) :
    n = left.length ∧ n ≤ c ∧ ∃ y1 d1 V1 y2 d2 V2, (Builtin.append_ #[31, 31] 31 #[.slice none 0 0, .slice (subE x c 0) a c]).run Tryz.prog W = .ok (.slice y1 a d1) V1 ∧ (Builtin.append_ #[31, 31] 31 #[.slice y1 a d1, .slice (subE x c (a + 1)) (n - (a + 1)) (c - (a + 1))]).run Tryz.prog V1 = .ok (.slice y2 (left.take a ++ left.drop (a + 1)).length d2) V2 ∧ TuI W1 F t (.slice y2 (left.take a ++ left.drop (a + 1)).length d2) (left.take a ++ left.drop (a + 1)) V2 ∧ Below W.heap.size W V2 := by
 have ho := h.left
 obtain ⟨g, rfl, hn, -⟩ := ho.at_ 0 (by rw [List.length_map]; omega)
 rw [List.length_map] at hn
 have hcap : n ≤ c := by
  rcases ho.own.2 with ⟨q, _⟩ | ⟨_, _, _, q, _, _, hh, _⟩
  · cases q
  · injection q with _ _ q3
    rw [List.length_map, ← q3] at hh; omega
 obtain ⟨v1, V1, hr1, ho1, hg1⟩ := (OwnI.nil W W.heap.size 44 17).appAtD ⟨g, 0, none⟩ c ((left.take a).map Ev.cells) (evLenD (fun e he => hok e (List.mem_of_mem_take he))) (evOneD _) (by
  have := subD_src ho hok [] (left.take a) (left.drop a) (by simp)
  rw [List.length_nil, Nat.zero_mul] at this
  exact this) (by simp; omega) (Nat.le_refl _)
 have ho' : OwnI V1 W1.heap.size 44 17 (.slice (some ⟨g, 0, none⟩) n c) (left.map Ev.cells) := ho.congr fun k hk => hg1.block k (ho.blockLt k hk).1 (fun q => by cases q)
 obtain ⟨A2, hA2, hA3⟩ := subE_some g c (a + 1)
 obtain ⟨v2, V2, hr2, ho2, hg2⟩ := ho1.appAtD A2 (c - (a + 1)) ((left.drop (a + 1)).map Ev.cells) (evLenD (fun e he => hok e (List.mem_of_mem_drop he))) (evOneD _) (fun j u hu => by
  by_cases hc : c = a + 1
  · rw [List.drop_of_length_le (by omega)] at hu; cases hu
  · rw [hA3 hc]
    have := subD_src ho' hok (left.take (a + 1)) (left.drop (a + 1)) [] (by simp) j u hu
    rw [List.length_take, Nat.min_eq_left (by omega)] at this; exact this) (by simp; omega) hg1.size
 rw [List.nil_append] at ho1 ho2
 rw [← List.map_append] at ho2
 obtain ⟨y1, d1, rfl⟩ := ho1.isSlice
 obtain ⟨y2, d2, rfl⟩ := ho2.isSlice
 rw [List.length_map, List.length_take, Nat.min_eq_left (by omega)] at hr1 hr2
 rw [List.length_map, List.length_drop, List.length_map, ← hn] at hr2
 rw [List.length_map] at ho2
 have hbel : Below W.heap.size W V2 := ((Below.refl _ W).grown hg1 (Nat.le_refl _) (fun q e => by cases e)).grown hg2 hg1.size (fun k hk => (ho1.blockLt k hk).2.1)
 obtain ⟨q, f1, f2, f3, f4⟩ := h.f
 refine ⟨hn, hcap, y1, d1, V1, y2, d2, V2, by rw [subE_zero]; exact hr1, by rw [hA2]; exact hr2, ⟨⟨q, f1, f2.far hbel, f3, fun k hk s => ?_⟩, h.good, ho2.less h.below.size, h.below.trans (hbel.mono h.below.size)⟩, hbel⟩
 have := (ho2.blockLt k hk).2.1
 have := f2.blockLt k s
 omega
end
end Go.Proofs.YtmbdohnmbkpfaaaGreat
namespace Go.Proofs.YtmbdohnmbkpfaaaGreat
open Go.RowKit Go.Shelf
set_option maxRecDepth 20000
set_option linter.unusedSimpArgs false
def lenV : Value → Nat
 | .slice _ n _ => n
 | _ => 0
structure TurnP (st t : Ds) (left : List Ev) : Prop where
 reach : ∃ K G, Reach t K G
 perm : (t.L ++ left).Perm st.L
def RotP (S : List Int) (left : List Ev) (m i : Nat) (av : Value) : Prop :=
 (av = .int .i64 (-1) ∧ ∀ j, j < i → ∀ h : (j + m) % left.length < left.length, readyB S left[(j + m) % left.length] = false) ∨ ∃ a, ∃ h : a < left.length, av = .int .i64 (a : Nat) ∧ readyB S left[a] = true
theorem RotP.start (S : List Int) (left : List Ev) (m : Nat) : RotP S left m 0 (.int .i64 (-1)) := .inl ⟨rfl, fun _ h => absurd h (Nat.not_lt_zero _)⟩
theorem RotP.done {st t : Ds} {K : List Ent} {G : List Bool} {left : List Ev} {m : Nat} {av : Value} (h : Reach st K G) (hp : TurnP st t left) (hn : left ≠ []) (hr : RotP t.S left m left.length av) : ∃ a, ∃ h : a < left.length, av = .int .i64 (a : Nat) ∧ readyB t.S left[a] = true := by
 rcases hr with ⟨-, hno⟩ | h
 · exfalso
   obtain ⟨K', G', h'⟩ := hp.reach
   obtain ⟨x, hx, hrx⟩ := ready_next h h' hp.perm hn
   obtain ⟨q, hq, rfl⟩ := List.getElem_of_mem hx
   obtain ⟨i, hi, he⟩ := rot_cover (m := m) hq
   subst he
   rw [hno i hi hq] at hrx
   cases hrx
 · exact h
theorem TurnP.next {st t : Ds} {left : List Ev} (hp : TurnP st t left) (hl : st.L.length ≤ 512) (hok : ∀ e ∈ st.L, e.Ok) {a : Nat} (ha : a < left.length) (hr : readyB t.S left[a] = true) : left[a].Ok ∧ refD t left[a] = 0 ∧ TurnP st (apS t left[a]) (left.take a ++ left.drop (a + 1)) := by
 obtain ⟨K, G, h⟩ := hp.reach
 have hlen := hp.perm.length_eq
 rw [List.length_append] at hlen
 have ho := hok _ (hp.perm.mem_iff.1 (List.mem_append_right _ (List.getElem_mem ha)))
 have h0 := ready_ok hr (by omega)
 exact ⟨ho, h0, ⟨_, _, h.ap ho h0⟩, perm_next hp.perm ha⟩
theorem left_ok {st t : Ds} {left : List Ev} (hp : TurnP st t left) (hok : ∀ e ∈ st.L, e.Ok) : ∀ e ∈ left, e.Ok := fun e he => hok e (hp.perm.mem_iff.1 (List.mem_append_right _ he))
theorem TuI.vector {W1 W : World} {F : Nat} {t : Ds} {lv : Value} {left : List Ev} (h : TuI W1 F t lv left W) : Calls Tryz.prog 17 #[.pointer (some ⟨F, 0, none⟩)] W fun r w' => r = .returned (.agg (row .u32 t.S)) ∧ Below W.heap.size W w' := h.at_.vector h.good
theorem AtD.membersD {base : Nat} {W : World} {st : Ds} {D : Nat} (h : AtD base W st D) (hG : GoodD st) : Calls Tryz.prog 21 #[.pointer (some ⟨D, 0, none⟩)] W fun r w' => r = .returned (.agg (row .u8 (membersL st.B st.S))) ∧ Below W.heap.size W w' := by
 obtain ⟨p, rfl, h, -⟩ := h
 exact dMembers_any base st p W h hG
theorem TuI.start {WB W : World} {p : Pl} (h : DocAt W WB.heap.size newS p) (hb : Below WB.heap.size WB W) (ha : ∀ k, docP p k → WB.heap.size ≤ k) {base : Nat} {u : Value} {L : List Ev} (hu : OwnI W base 44 17 u (L.map Ev.cells)) (hl : L.length ≤ 512) :
    ∃ x c V, (Builtin.append_ #[31, 31] 31 #[.slice (some ⟨W.heap.size, 0, none⟩) 0 0, u]).run Tryz.prog (W.alloc (.cells #[] 44)) = .ok (.slice x L.length c) V ∧ TuI WB p.D newS (.slice x L.length c) L V := by
 have hB : Below W.heap.size W (W.alloc (.cells #[] 44)) := (Below.refl _ _).alloc (Nat.le_refl _) _
 obtain ⟨v1, w1, hr1, ho1, hg1, -⟩ := (OwnI.empty W 44 17).apps (P := Tryz.prog) 31 31 Tryz.underlying31 infoE17D (by rfl) (by decide) (L.map Ev.cells) hu.each (evOneD L) base _ (hu.far hB) (by simp; omega) (by decide) (by simp)
 rw [List.nil_append] at ho1
 have hB1 : Below W.heap.size W w1 := hB.grown hg1 (by simp) (fun k hk => by cases hk; exact Nat.le_refl _)
 obtain ⟨x, c, rfl⟩ := ho1.isSlice
 rw [List.length_map] at hr1 ho1
 refine ⟨x, c, w1, hr1, ⟨⟨p, rfl, h.far hB1, ha, fun g hg s => ?_⟩, GoodD.new, ho1.less hb.size, hb.trans (hB1.mono hb.size)⟩⟩
 have := (ho1.blockLt g hg).2.1
 have := h.blockLt g s
 omega
set_option maxHeartbeats 32000000 in
theorem dturns_walk (x : Option Addr) (len cap : Nat) (L : List Ed) (x2 : Option Addr) (len2 cap2 : Nat) (Z : List Int) (w : World) (hL : EdsAt w x len cap L) (hZ : Bytes w x2 len2 cap2 Z) (hZ8 : ∀ v ∈ Z, 0 ≤ v ∧ v ≤ 255) :
    Calls Tryz.prog 4 #[.slice x len cap, .slice x2 len2 cap2] w fun r w' => r = .returned (.bool true) ∧ Below w.heap.size w w' := by
 have hpl := play10_any x len cap L w hL
 obtain ⟨K0, G0, hre⟩ := reach_play (L.take 50) (fun X hX => hL.ok X (List.mem_of_mem_take hX))
 obtain ⟨st, hst⟩ : ∃ q, playX (L.take 50) = q := ⟨_, rfl⟩
 rw [hst] at hre
 have HPL : Veil (∀ v0 W, PlayX w L v0 W → ∃ D Q, v0 = .tuple #[.pointer (some ⟨D, 0, none⟩), .pointer (some ⟨Q, 0, none⟩), .bool true] ∧ AtD w.heap.size W st D ∧ Below w.heap.size w W) := ⟨fun v0 W ⟨D, Q, h1, ⟨p, q, e1, _, h2⟩, h3⟩ => by
  subst e1
  have h2d := h2.d
  rw [hst] at h2d
  exact ⟨p.D, Q, h1, ⟨p, rfl, h2d, h2.a1⟩, h3⟩⟩
 have HLV : Veil (∀ W, Calls Tryz.prog 12 #[] W fun e w' => e = .returned (.bool true) ∧ Below W.heap.size W w') := ⟨fun W => live10_any W⟩
 have hGs := hre.good.1
 have hok := hGs.lok
 have hll := hGs.llen
 have hz2 := hZ.le
 have hz3 := hZ.top
 have hZl := hZ.len_eq
 have HOB : Veil (∀ m : Nat, m < len2 → ∃ (b off v : Nat), x2 = some ⟨b, off, none⟩ ∧ v ≤ 255 ∧ ∀ W, Below w.heap.size w W → W.cell? ⟨b, off + m, none⟩ = some (.int .u8 (v : Int))) := ⟨fun m hm => by
  rcases hZ.at_ with h | ⟨b, off, hx, hc⟩
  · omega
  · have hm2 : m < Z.length := by omega
    have hv := hZ8 _ (List.getElem_mem hm2)
    refine ⟨b, off, (Z[m]).toNat, hx, by omega, fun W hb => ?_⟩
    rcases (hZ.below hb).at_ with h' | ⟨b', off', hx', hc'⟩
    · omega
    · rw [hx] at hx'
      injection hx' with e
      injection e with e1 e2 _
      subst e1 e2
      have := hc' m hm
      rw [List.getElem?_eq_getElem hm2] at this
      simp only [Option.map_some, Option.getD_some] at this
      rw [Int.toNat_of_nonneg hv.1]
      first | exact this | (simpa using this)⟩
 have HEV : Veil (∀ W D, AtD w.heap.size W st D → Calls Tryz.prog 14 #[.pointer (some ⟨D, 0, none⟩)] W fun r w' => ∃ xa ca, r = .returned (.slice xa st.L.length ca) ∧ OwnI w' W.heap.size 44 17 (.slice xa st.L.length ca) (st.L.map Ev.cells) ∧ Below W.heap.size W w') := ⟨fun W D ⟨p, e1, h, _⟩ => by
  subst e1
  refine (dEvents_any _ st p W h hGs).mono ?_
  rintro r w' ⟨v, rfl, ho, hb⟩
  obtain ⟨xa, ca, rfl⟩ := ho.isSlice
  rw [List.length_map] at ho ⊢
  exact ⟨xa, ca, rfl, ho, hb⟩⟩
 have HNW : Veil (∀ W, Calls Tryz.prog 15 #[] W fun r w' => ∃ p, r = .returned (.pointer (some ⟨p.D, 0, none⟩)) ∧ DocAt w' W.heap.size newS p ∧ Below W.heap.size W w' ∧ ∀ k, docP p k → W.heap.size ≤ k) := ⟨fun W => dNew_any W⟩
 obtain ⟨nL, hnL⟩ : ∃ q, st.L.length = q := ⟨_, rfl⟩
 have hn512 : nL ≤ 512 := by omega
 have HNL := Veil.mk hnL
 have HOK := Veil.mk hok
 have HRE := Veil.mk hre
 have HGS := Veil.mk hGs
 rw [hnL] at HEV
 clear hst hL hZ hZ8 hre hok hGs hnL hll hZl
 go_enter Tryz.func4, Tryz.ntmps4
 go_upto_region 4 with (first
  | (go_at_call 11; refine hpl.mono ?_; rintro z W1 ⟨v0, rfl, hpr⟩; obtain ⟨D, Q, rfl, hD1, hb1⟩ := HPL.out v0 W1 hpr; have hlv := HLV.out W1; clear hpl hpr)
  | (go_at_call 12; refine hlv.mono ?_; rintro z W2 ⟨rfl, hb2⟩; have hD2 : AtD w.heap.size W2 st D := (by obtain ⟨p, e1, h, h4⟩ := hD1; exact ⟨p, e1, h.far hb2, h4⟩); have hB2 := hb1.trans (hb2.mono hb1.size); clear hlv hD1 hb1 hb2))
 have hev := HEV.out W2 D hD2
 go_upto_region 5 with (go_at_call 14; refine hev.mono ?_; rintro z WB ⟨xa, ca, rfl, hoA, hbA⟩; clear hev)
 have HC : Veil (∀ W, Below WB.heap.size WB W → Below w.heap.size w W ∧ AtD w.heap.size W st D ∧ OwnI W w.heap.size 44 17 (.slice xa nL ca) (st.L.map Ev.cells)) := ⟨fun W hb => by
  have hB3 := hB2.trans (hbA.mono hB2.size)
  refine ⟨hB3.trans (hb.mono hB3.size), ?_, (hoA.far hb).less hB2.size⟩
  obtain ⟨p, e1, h, h4⟩ := hD2
  exact ⟨p, e1, (h.far hbA).far hb, h4⟩⟩
 have hnw := HNW.out WB
 have hsa := hoA
 clear hD2 hB2 HPL HLV HEV HNW
 go_upto_region 6 with (go_at_call 15; refine hnw.mono ?_; rintro z W3 ⟨pF, rfl, hF3, hb3, ha3⟩; clear hnw)
 obtain ⟨lx0, lc0, V0, hrun0, hT0⟩ := TuI.start hF3 hb3 ha3 (hsa.far hb3) (by rw [HNL.out]; omega)
 rw [HNL.out] at hrun0 hT0
 generalize pF.D = F at hT0 ⊢
 clear hF3 ha3 hsa hbA hoA
 go_upto_region 7 with (at_builtin; refine wpList_appx rfl _ _ 31 31 rfl _ _ _ _ rfl rfl hrun0 ?_)
 have HT0 := Veil.mk hT0
 generalize W3.heap.size = g3
 clear hrun0 hT0 hb3 W3
 have HLD : Veil (∀ W, Below WB.heap.size WB W → Below w.heap.size w W) := ⟨fun W hb => (HC.out W hb).1⟩
 go_wp2_with fail
 go_loopw [10, 11, 12, 13, 14, 15, 16] (fun lv nv _ _ _ _ _ wr => ∃ (m : Nat) (t : Ds) (left : List Ev) (lx : Option Addr) (lc : Nat), nv = .int .i64 (m : Nat) ∧ lv = .slice lx left.length lc ∧ m + left.length = nL ∧ TurnP st t left ∧ TuI WB F t (.slice lx left.length lc) left wr) (fun lv _ _ _ _ _ _ _ => lenV lv)
 case atStart => exact ⟨0, newS, st.L, lx0, lc0, rfl, by rw [HNL.out], by rw [HNL.out]; omega, ⟨⟨_, _, .new⟩, by rw [show newS.L = [] from rfl, List.nil_append]⟩, by rw [HNL.out]; exact HT0.out⟩
 case round =>
  obtain ⟨m, t, left, lx, lc, rfl, rfl, hml, hTP, hT⟩ := hrel
  clear HT0
  obtain ⟨ln, hln⟩ : ∃ q, left.length = q := ⟨_, rfl⟩
  have HLN := Veil.mk hln
  rw [hln] at hml hT ⊢
  have HTP := Veil.mk hTP
  clear hTP
  by_cases hz : ln = 0
  · subst hz
    have hnil : left = [] := List.length_eq_zero_iff.1 hln
    subst hnil
    obtain ⟨K1, G1, hre1⟩ := HTP.out.reach
    have hTS := turns_same HRE.out hre1 (by have := HTP.out.perm; rw [List.append_nil] at this; exact this.symm)
    have hGt := hT.good
    have HB : Veil (∀ W, Below wr.heap.size wr W → Below w.heap.size w W ∧ AtD w.heap.size W st D ∧ AtD WB.heap.size W t F ∧ OwnI W w.heap.size 44 17 (.slice xa nL ca) (st.L.map Ev.cells)) := ⟨fun W hb => by
     have h1 := hT.far hb
     obtain ⟨q1, q2, q3⟩ := HC.out W h1.below
     exact ⟨q1, q2, h1.at_, q3⟩⟩
    have HFO : Veil (∀ i (hi : i < st.L.length) W, Below wr.heap.size wr W → (Calls Tryz.prog 19 #[.pointer (some ⟨D, 0, none⟩), .agg (encF st.L[i].dot).toArray] W fun r w' => r = .returned (.bool (decide (st.L[i].dot ∈ st.F))) ∧ Below W.heap.size W w') ∧ (Calls Tryz.prog 19 #[.pointer (some ⟨F, 0, none⟩), .agg (encF st.L[i].dot).toArray] W fun r w' => r = .returned (.bool (decide (st.L[i].dot ∈ st.F))) ∧ Below W.heap.size W w')) := ⟨fun i hi W hb => by
     obtain ⟨q1, q2, q3, q4⟩ := HB.out W hb
     have hm := List.getElem_mem hi
     have hd := (HOK.out _ hm).dot
     refine ⟨q2.force HGS.out _ hd, ?_⟩
     have := q3.force hGt st.L[i].dot hd
     rw [show decide (st.L[i].dot ∈ t.F) = decide (st.L[i].dot ∈ st.F) from by rw [decide_eq_decide]; exact (hTS.force _ hm).symm] at this
     exact this⟩
    obtain ⟨z, hz⟩ : ∃ q, textN st.N = q := ⟨_, rfl⟩
    obtain ⟨tn, htn⟩ : ∃ q, z.length = q := ⟨_, rfl⟩
    have HTT : Veil (∀ W, Below wr.heap.size wr W → (Calls Tryz.prog 20 #[.pointer (some ⟨D, 0, none⟩)] W fun r w' => ∃ tx tc, r = .returned (.slice tx tn tc) ∧ Bytes w' tx tn tc z ∧ Below W.heap.size W w') ∧ (Calls Tryz.prog 20 #[.pointer (some ⟨F, 0, none⟩)] W fun r w' => ∃ tx tc, r = .returned (.slice tx tn tc) ∧ Bytes w' tx tn tc z ∧ Below W.heap.size W w')) := ⟨fun W hb => by
     obtain ⟨q1, q2, q3, q4⟩ := HB.out W hb
     have key : ∀ {b : Nat} {s : Ds} {E : Nat}, AtD b W s E → GoodD s → textN s.N = z → Calls Tryz.prog 20 #[.pointer (some ⟨E, 0, none⟩)] W fun r w' => ∃ tx tc, r = .returned (.slice tx tn tc) ∧ Bytes w' tx tn tc z ∧ Below W.heap.size W w' := fun ha hg ht => by
      refine (ha.text hg).mono ?_
      rintro r w' ⟨v, h1, h2, h3⟩
      rw [ht] at h2
      obtain ⟨y, n, cc, rfl, hn⟩ := h2.isSlice
      obtain rfl : n = tn := hn.trans htn
      exact ⟨y, cc, h1, h2.bytes.2, h3⟩
     exact ⟨key q2 HGS.out hz, key q3 hGt (by rw [← hTS.text]; exact hz)⟩⟩
    obtain ⟨MM, hMM⟩ : ∃ q, membersL st.B st.S = q := ⟨_, rfl⟩
    have hM8 : MM.length = 8 := by rw [← hMM]; exact membersL_len _ _
    have HME : Veil (∀ W, Below wr.heap.size wr W → (Calls Tryz.prog 21 #[.pointer (some ⟨D, 0, none⟩)] W fun r w' => r = .returned (.agg (row .u8 MM)) ∧ Below W.heap.size W w') ∧ (Calls Tryz.prog 21 #[.pointer (some ⟨F, 0, none⟩)] W fun r w' => r = .returned (.agg (row .u8 MM)) ∧ Below W.heap.size W w')) := ⟨fun W hb => by
     obtain ⟨q1, q2, q3, q4⟩ := HB.out W hb
     refine ⟨by have := q2.membersD HGS.out; rw [hMM] at this; exact this, ?_⟩
     have := q3.membersD hGt
     rw [← hTS.members, hMM] at this; exact this⟩
    obtain ⟨SV, hSV⟩ : ∃ q, st.S = q := ⟨_, rfl⟩
    have hS8 : SV.length = 8 := by rw [← hSV]; exact HGS.out.slen
    have HVE : Veil (∀ W, Below wr.heap.size wr W → (Calls Tryz.prog 17 #[.pointer (some ⟨D, 0, none⟩)] W fun r w' => r = .returned (.agg (row .u32 SV)) ∧ Below W.heap.size W w') ∧ (Calls Tryz.prog 17 #[.pointer (some ⟨F, 0, none⟩)] W fun r w' => r = .returned (.agg (row .u32 SV)) ∧ Below W.heap.size W w')) := ⟨fun W hb => by
     obtain ⟨q1, q2, q3, q4⟩ := HB.out W hb
     refine ⟨by have := q2.vector HGS.out; rw [hSV] at this; exact this, ?_⟩
     have := q3.vector hGt
     rw [← hTS.seen, hSV] at this; exact this⟩
    have hmeq : ∀ wx, (Op.equalIn 10000 49 (.agg (row .u8 MM)) (.agg (row .u8 MM))).run Tryz.prog wx = .ok true wx := fun wx => by
     have := run_equalIn_rows (P := Tryz.prog) wx 9998 (t := 49) .u8 (MM) (MM) Tryz.underlying49 Tryz.underlying42 (by kernel_rfl) (by kernel_rfl) hM8 hM8
     rw [beq_self_eq_true] at this
     exact this
    have hveq : ∀ wx, (Op.equalIn 10000 37 (.agg (row .u32 SV)) (.agg (row .u32 SV))).run Tryz.prog wx = .ok true wx := fun wx => by
     have := run_equalIn_rows (P := Tryz.prog) wx 9998 (t := 37) .u32 SV SV Tryz.underlying37 Tryz.underlying35 (by kernel_rfl) (by kernel_rfl) hS8 hS8
     rw [beq_self_eq_true] at this
     exact this
    have HCV : Veil (∀ w' tx tc, Bytes w' tx tn tc z → (convert 30 9 (.slice tx tn tc)).run Tryz.prog w' = .ok (.string (strOfNums z)) w') := ⟨fun w' tx tc h => conv_bytes h⟩
    obtain ⟨SZ, hSZ⟩ : ∃ q, strOfNums z = q := ⟨_, rfl⟩
    rw [hSZ] at HCV
    have HLT : Veil (∀ i (hi : i < st.L.length) W b x c, OwnI W b 44 17 (.slice x nL c) (st.L.map Ev.cells) → ∃ g, x = some ⟨g, 0, none⟩ ∧ W.rangeAt g (i * 17) (encF st.L[i].dot)) := ⟨fun i hi W b x c h => by
     obtain ⟨g, rfl, -, hr⟩ := h.at_ i (by rw [List.length_map]; exact hi)
     rw [List.getElem_map] at hr
     have hdp := (ev_parts st.L[i] (HOK.out _ (List.getElem_mem hi)).past).1
     exact ⟨g, rfl, fun j u hu => hr j u (by
      have hu' : (dotC st.L[i].da st.L[i].ds)[j]? = some u := hu
      rw [← hdp, List.drop_zero, List.getElem?_take] at hu'
      split at hu'
      · exact hu'
      · cases hu')⟩⟩
    generalize row .u8 MM = MR at HME hmeq
    generalize row .u32 SV = SR at HVE hveq
    have HOA : Veil (∀ W, Below wr.heap.size wr W → Below w.heap.size w W ∧ OwnI W w.heap.size 44 17 (.slice xa nL ca) (st.L.map Ev.cells)) := ⟨fun W hb => ⟨(HB.out W hb).1, (HB.out W hb).2.2.2⟩⟩
    have uD := Tryz.underlying40
    have hgz : decide (((0 : Nat) : Int) > 0) = false := by decide
    generalize wr = w9 at HFO HTT HME HVE HOA ⊢
    clear hT HB HTP hTS hGt hre1 hz htn hMM hM8 hSV hS8 hSZ HC HLD HGS HRE HOB hln HLN
    go_wp2_with fail
    go_loopw [17] (fun p wr => ∃ i : Nat, p = .int .i64 (i : Nat) ∧ i ≤ nL ∧ Below w9.heap.size w9 wr) (fun p _ => nL - (intOf p).toNat)
    case atStart => exact ⟨0, rfl, Nat.zero_le _, Below.refl _ _⟩
    case round =>
     obtain ⟨i, rfl, hi, hB⟩ := hrel
     by_cases hlt : i < nL
     · have hli : (i : Int) < (nL : Int) := by omega
       have hli0 : (0 : Int) ≤ (i : Int) := by omega
       have hil : i < st.L.length := by rw [HNL.out]; exact hlt
       obtain ⟨g, hxa, hr⟩ := HLT.out i hil wr _ _ _ (HOA.out wr hB).2
       subst hxa
       have HF := Veil.mk (HFO.out i hil)
       have HR : Veil (∀ W, Below wr.heap.size wr W → W.rangeAt g (i * 17) (encF st.L[i].dot)) := ⟨fun W hb => by
        obtain ⟨g', e, q⟩ := HLT.out i hil W _ _ _ (HOA.out W (hB.trans (hb.mono hB.size))).2
        injection e with e
        injection e with e
        subst e
        exact q⟩
       have HST : Veil (∀ W, Below wr.heap.size wr W → Below w9.heap.size w9 W) := ⟨fun W hb => hB.trans (hb.mono hB.size)⟩
       have iH : (Tryz.prog.info? 40).map (·.size) = some (encF st.L[i].dot).length := sizeDot
       have hww : IntKind.i64.wrap ((i : Int) + 1) = (i : Int) + 1 := by rw [IntKind.wrap_i64]; omega
       generalize decide (st.L[i].dot ∈ st.F) = FB at HF
       generalize encF st.L[i].dot = DH at HF HR iH hr
       clear hB hil hr HFO HLT HOA HTT HME HVE hmeq hveq HCV
       go_upto_region 28 with fail
       have hb0 : Below wr.heap.size wr wr.drew := (Below.refl _ _).drew
       have hf1 := (HF.out _ (HST.out _ hb0)).1
       refine wp_region_gateT (fun w' => w'.rangeAt g (i * 17) DH) (fun _ => True) 99 (by kernel_rfl) ?_
       have hT : (fun w' : World => w'.rangeAt g (i * 17) DH) wr.drew := HR.out _ hb0
       have hS : (fun _ : World => True) wr.drew := trivial
       refine ghA 0 _ hT hS ?_
       simp only [Act.put, gA, gS, gZ, sI, sZ, sS]
       refine ghA 1 _ hT hS ?_
       simp only [Act.put, gA, gS, gZ, sI, sZ, sS]
       refine ghA 2 _ hT hS ?_
       simp only [Act.put, gA, gS, gZ, sI, sZ, sS]
       refine ghA 3 _ hT hS ?_
       simp only [Act.put, gA, gS, gZ, sI, sZ, sS]
       refine ghA 4 _ hT hS ?_
       simp only [Act.put, gA, gS, gZ, sI, sZ, sS]
       refine gl 5 107 40 106 g (i * 17) DH (by kernel_rfl) (by kernel_rfl) (by kernel_rfl) (fun _ _ _ h => h) hT hS (by kernel_rfl) (fun _ h => h) uD rfl iH ?_
       simp only [Act.put, gA, gS, gZ, sI, sZ, sS]
       refine ghA 7 _ hT hS ?_
       simp only [Act.put, gA, gS, gZ, sI, sZ, sS]
       refine ghA 8 _ hT hS ?_
       simp only [Act.put, gA, gS, gZ, sI, sZ, sS]
       refine ghA 9 _ hT hS ?_
       simp only [Act.put, gA, gS, gZ, sI, sZ, sS]
       refine ghA 10 _ hT hS ?_
       simp only [Act.put, gA, gS, gZ, sI, sZ, sS]
       refine ghA 11 _ hT hS ?_
       simp only [Act.put, gA, gS, gZ, sI, sZ, sS]
       refine gl 12 114 40 113 g (i * 17) DH (by kernel_rfl) (by kernel_rfl) (by kernel_rfl) (fun _ _ _ h => h) hT hS (by kernel_rfl) (fun _ h => h) uD rfl iH ?_
       simp only [Act.put, gA, gS, gZ, sI, sZ, sS]
       refine wpAnyT_one (i := 6) rfl (by kernel_rfl) (by kernel_rfl) (fun K hK => ?_)
       refine wpx_call _ _ (by kernel_rfl) (hf1.mono ?_)
       rintro y W1 ⟨rfl, hb1⟩
       refine ⟨_, rfl, ?_⟩
       replace hb1 := hb0.trans (hb1.mono hb0.size)
       have hf2 := (HF.out _ (HST.out _ hb1)).2
       replace hT : (fun w' : World => w'.rangeAt g (i * 17) DH) W1 := HR.out _ hb1
       replace hS : (fun _ : World => True) W1 := trivial
       clear hf1 hb0
       refine hK.out _ _ hT (fun _ => hS) ?_
       clear hK K
       try simp only [Act.put, gA, gS, gZ, sI, sZ, sS]
       refine wpAnyT_one (i := 13) rfl (by kernel_rfl) (by kernel_rfl) (fun K hK => ?_)
       refine wpx_call _ _ (by kernel_rfl) (hf2.mono ?_)
       rintro y W2 ⟨rfl, hb2⟩
       refine ⟨_, rfl, ?_⟩
       replace hb2 := hb1.trans (hb2.mono hb1.size)
       have hne : (FB != FB) = false := by simp
       replace hT : (fun w' : World => w'.rangeAt g (i * 17) DH) W2 := HR.out _ hb2
       replace hS : (fun _ : World => True) W2 := trivial
       clear hf2 hb1
       refine hK.out _ _ hT (fun _ => hS) ?_
       clear hK K
       try simp only [Act.put, gA, gS, gZ, sI, sZ, sS]
       refine ghA 14 (.bool false) hT hS ?_
       simp only [Act.put, gA, gS, gZ, sI, sZ, sS]
       refine wpAnyT_done (by kernel_rfl) ?_ _
       have HQ := Veil.mk (HST.out _ hb2)
       clear hT hS hb2 hne
       go_wp2
       go_roundw
       case rel => exact ⟨i + 1, by push_cast; rfl, hlt, HQ.out⟩
       case measure => simp [intOf]; omega
     · obtain rfl : i = nL := by omega
       have hli : ¬ (i : Int) < (i : Int) := by omega
       have hHN := HNL
       clear HNL
       go_upto_region 30 with fail
       have hb0 : Below wr.heap.size wr wr.drew := (Below.refl _ _).drew
       have HST : Veil (∀ W, Below wr.heap.size wr W → Below w9.heap.size w9 W ∧ Below w.heap.size w W) := ⟨fun W hb => ⟨hB.trans (hb.mono hB.size), (HOA.out W (hB.trans (hb.mono hB.size))).1⟩⟩
       clear hB HLT HFO HOA
       refine wp_region_gateT (fun _ : World => True) (fun _ => True) 99 (by kernel_rfl) ?_
       have hT : (fun _ : World => True) wr.drew := trivial
       have hS : (fun _ : World => True) wr.drew := trivial
       refine ghA 0 _ hT hS ?_
       simp only [Act.put, gA, gS, gZ, sI, sZ, sS]
       refine ghA 3 _ hT hS ?_
       simp only [Act.put, gA, gS, gZ, sI, sZ, sS]
       refine wpAnyT_one (i := 1) rfl (by kernel_rfl) (by kernel_rfl) (fun K hK => ?_)
       refine wpx_call _ _ (by kernel_rfl) ((HTT.out _ (HST.out _ hb0).1).1.mono ?_)
       rintro y U1 ⟨tx, tc, rfl, hz1, hb1⟩
       refine ⟨_, rfl, ?_⟩
       have HZ1 := Veil.mk hz1
       replace hb1 := hb0.trans (hb1.mono hb0.size)
       replace hT : (fun _ : World => True) U1 := trivial
       replace hS : (fun _ : World => True) U1 := trivial
       clear hz1 hb0
       refine hK.out _ _ hT (fun _ => hS) ?_
       clear hK K
       try simp only [Act.put, gA, gS, gZ, sI, sZ, sS]
       refine wpAnyT_more (T' := fun w' : World => (convert 30 9 (.slice tx tn tc)).run Tryz.prog w' = .ok (.string SZ) w') (fun _ _ => trivial) _ _ _ _ ?_
       replace hT : (fun w' : World => (convert 30 9 (.slice tx tn tc)).run Tryz.prog w' = .ok (.string SZ) w') U1 := HCV.out _ _ _ HZ1.out
       refine ghA 2 _ hT hS ?_
       simp only [Act.put, gA, gS, gZ, sI, sZ, sS]
       refine wpAnyT_one (i := 4) rfl (by kernel_rfl) (by kernel_rfl) (fun K hK => ?_)
       refine wpx_call _ _ (by kernel_rfl) ((HTT.out _ (HST.out _ hb1).1).2.mono ?_)
       rintro y U2 ⟨tx2, tc2, rfl, hz2, hb2⟩
       refine ⟨_, rfl, ?_⟩
       have HZ2 := Veil.mk (And.intro (HZ1.out.below hb2) hz2)
       replace hb2 := hb1.trans (hb2.mono hb1.size)
       replace hT : (fun w' : World => (convert 30 9 (.slice tx tn tc)).run Tryz.prog w' = .ok (.string SZ) w') U2 := HCV.out _ _ _ HZ2.out.1
       replace hS : (fun _ : World => True) U2 := trivial
       clear hz2 HZ1 hb1
       refine hK.out _ _ hT (fun _ => hS) ?_
       clear hK K
       try simp only [Act.put, gA, gS, gZ, sI, sZ, sS]
       refine wpAnyT_more (T' := fun w' : World => (convert 30 9 (.slice tx tn tc)).run Tryz.prog w' = .ok (.string SZ) w' ∧ (convert 30 9 (.slice tx2 tn tc2)).run Tryz.prog w' = .ok (.string SZ) w') (fun _ h => h.1) _ _ _ _ ?_
       replace hT : (fun w' : World => (convert 30 9 (.slice tx tn tc)).run Tryz.prog w' = .ok (.string SZ) w' ∧ (convert 30 9 (.slice tx2 tn tc2)).run Tryz.prog w' = .ok (.string SZ) w') U2 := ⟨HCV.out _ _ _ HZ2.out.1, HCV.out _ _ _ HZ2.out.2⟩
       refine ghA 5 _ hT hS ?_
       simp only [Act.put, gA, gS, gZ, sI, sZ, sS]
       refine ghA 6 (.bool true) hT hS ?_
       simp only [Act.put, gA, gS, gZ, sI, sZ, sS]
       refine ghA 7 _ hT hS ?_
       simp only [Act.put, gA, gS, gZ, sI, sZ, sS]
       refine ghA 8 _ hT hS ?_
       simp only [Act.put, gA, gS, gZ, sI, sZ, sS]
       refine ghA 10 _ hT hS ?_
       simp only [Act.put, gA, gS, gZ, sI, sZ, sS]
       refine wpAnyT_one (i := 9) rfl (by kernel_rfl) (by kernel_rfl) (fun K hK => ?_)
       refine wpx_call _ _ (by kernel_rfl) (((HME.out _ (HST.out _ hb2).1).1).mono ?_)
       rintro y U3 ⟨rfl, hb3⟩
       refine ⟨_, rfl, ?_⟩
       have HZ3 := Veil.mk (And.intro (HZ2.out.1.below hb3) (HZ2.out.2.below hb3))
       replace hb3 := hb2.trans (hb3.mono hb2.size)
       replace hT : (fun w' : World => (convert 30 9 (.slice tx tn tc)).run Tryz.prog w' = .ok (.string SZ) w' ∧ (convert 30 9 (.slice tx2 tn tc2)).run Tryz.prog w' = .ok (.string SZ) w') U3 := ⟨HCV.out _ _ _ HZ3.out.1, HCV.out _ _ _ HZ3.out.2⟩
       replace hS : (fun _ : World => True) U3 := trivial
       clear HZ2 hb2
       refine hK.out _ _ hT (fun _ => hS) ?_
       clear hK K
       try simp only [Act.put, gA, gS, gZ, sI, sZ, sS]
       refine wpAnyT_one (i := 11) rfl (by kernel_rfl) (by kernel_rfl) (fun K hK => ?_)
       refine wpx_call _ _ (by kernel_rfl) (((HME.out _ (HST.out _ hb3).1).2).mono ?_)
       rintro y U4 ⟨rfl, hb4⟩
       refine ⟨_, rfl, ?_⟩
       have HZ4 := Veil.mk (And.intro (HZ3.out.1.below hb4) (HZ3.out.2.below hb4))
       replace hb4 := hb3.trans (hb4.mono hb3.size)
       replace hT : (fun w' : World => (convert 30 9 (.slice tx tn tc)).run Tryz.prog w' = .ok (.string SZ) w' ∧ (convert 30 9 (.slice tx2 tn tc2)).run Tryz.prog w' = .ok (.string SZ) w') U4 := ⟨HCV.out _ _ _ HZ4.out.1, HCV.out _ _ _ HZ4.out.2⟩
       replace hS : (fun _ : World => True) U4 := trivial
       clear HZ3 hb3
       refine hK.out _ _ hT (fun _ => hS) ?_
       clear hK K
       try simp only [Act.put, gA, gS, gZ, sI, sZ, sS]
       refine ghA 12 (.bool true) hT hS ?_
       simp only [Act.put, gA, gS, gZ, sI, sZ, sS]
       refine ghA 13 _ hT hS ?_
       simp only [Act.put, gA, gS, gZ, sI, sZ, sS]
       refine ghA 14 _ hT hS ?_
       simp only [Act.put, gA, gS, gZ, sI, sZ, sS]
       refine ghA 15 _ hT hS ?_
       simp only [Act.put, gA, gS, gZ, sI, sZ, sS]
       refine ghA 17 _ hT hS ?_
       simp only [Act.put, gA, gS, gZ, sI, sZ, sS]
       refine wpAnyT_one (i := 16) rfl (by kernel_rfl) (by kernel_rfl) (fun K hK => ?_)
       refine wpx_call _ _ (by kernel_rfl) (((HVE.out _ (HST.out _ hb4).1).1).mono ?_)
       rintro y U5 ⟨rfl, hb5⟩
       refine ⟨_, rfl, ?_⟩
       have HZ5 := Veil.mk (And.intro (HZ4.out.1.below hb5) (HZ4.out.2.below hb5))
       replace hb5 := hb4.trans (hb5.mono hb4.size)
       replace hT : (fun w' : World => (convert 30 9 (.slice tx tn tc)).run Tryz.prog w' = .ok (.string SZ) w' ∧ (convert 30 9 (.slice tx2 tn tc2)).run Tryz.prog w' = .ok (.string SZ) w') U5 := ⟨HCV.out _ _ _ HZ5.out.1, HCV.out _ _ _ HZ5.out.2⟩
       replace hS : (fun _ : World => True) U5 := trivial
       clear HZ4 hb4
       refine hK.out _ _ hT (fun _ => hS) ?_
       clear hK K
       try simp only [Act.put, gA, gS, gZ, sI, sZ, sS]
       refine wpAnyT_one (i := 18) rfl (by kernel_rfl) (by kernel_rfl) (fun K hK => ?_)
       refine wpx_call _ _ (by kernel_rfl) (((HVE.out _ (HST.out _ hb5).1).2).mono ?_)
       rintro y U6 ⟨rfl, hb6⟩
       refine ⟨_, rfl, ?_⟩
       have HZ6 := Veil.mk (And.intro (HZ5.out.1.below hb6) (HZ5.out.2.below hb6))
       replace hb6 := hb5.trans (hb6.mono hb5.size)
       replace hT : (fun w' : World => (convert 30 9 (.slice tx tn tc)).run Tryz.prog w' = .ok (.string SZ) w' ∧ (convert 30 9 (.slice tx2 tn tc2)).run Tryz.prog w' = .ok (.string SZ) w') U6 := ⟨HCV.out _ _ _ HZ6.out.1, HCV.out _ _ _ HZ6.out.2⟩
       replace hS : (fun _ : World => True) U6 := trivial
       clear HZ5 hb5
       refine hK.out _ _ hT (fun _ => hS) ?_
       clear hK K
       try simp only [Act.put, gA, gS, gZ, sI, sZ, sS]
       refine ghA 19 (.bool true) hT hS ?_
       simp only [Act.put, gA, gS, gZ, sI, sZ, sS]
       refine ghA 20 _ hT hS ?_
       simp only [Act.put, gA, gS, gZ, sI, sZ, sS]
       refine ghA 21 _ hT hS ?_
       simp only [Act.put, gA, gS, gZ, sI, sZ, sS]
       refine wpAnyT_done (by kernel_rfl) ?_ _
       have HQ := Veil.mk (HST.out _ hb6).2
       clear hT hS hb6
       go_wp2
       go_ret
       exact ⟨rfl, HQ.out⟩
  · have hl0 : (0 : Int) < (ln : Int) := by omega
    obtain ⟨g, hlx, -, -⟩ := hT.left.at_ 0 (by rw [List.length_map, hln]; omega)
    subst hlx
    have hln5 : ln ≤ 512 := by omega
    have hm5 : m ≤ 512 := by omega
    have HT := Veil.mk hT
    have HBW := Veil.mk (HLD.out wr hT.below)
    have HRL : Veil (∀ k (hk : k < ln) W, TuI WB F t (.slice (some ⟨g, 0, none⟩) ln lc) left W → W.rangeAt g (k * 17) (left[k]'(by rw [HLN.out]; exact hk)).cells) := ⟨fun k hk W h => by
     obtain ⟨g', e, -, hr⟩ := h.left.at_ k (by rw [List.length_map, HLN.out]; exact hk)
     rw [List.getElem_map] at hr
     injection e with e
     injection e with e
     subst e
     exact hr⟩
    clear hT
    by_cases hmo : m < len2
    · obtain ⟨b, off, v, hx2, hv5, hcv⟩ := HOB.out m hmo
      subst hx2
      have hcb := hcv wr HBW.out
      have hmd : decide ((m : Int) < (len2 : Int)) = true := by simp; omega
      have hm0 : (0 : Int) ≤ (m : Int) := by omega
      have hml2 : (m : Int) < (len2 : Int) := by omega
      have hwv : IntKind.i64.wrap (v : Int) = (v : Int) := by rw [IntKind.wrap_i64]; omega
      clear HOB
      go_wp2_with fail
      clear hcv hcb hwv hmd hm0 hml2 hmo
      go_loopw [13, 14, 15] (fun av iv _ wr => ∃ i : Nat, iv = .int .i64 (i : Nat) ∧ i ≤ ln ∧ RotP t.S left v i av ∧ TuI WB F t (.slice (some ⟨g, 0, none⟩) ln lc) left wr) (fun _ iv _ _ => ln - (intOf iv).toNat)
      case atStart => exact ⟨0, rfl, Nat.zero_le _, RotP.start _ _ _, HT.out⟩
      case round =>
       obtain ⟨i, rfl, hi, hrot, hT1⟩ := hrel
       clear HT HBW
       by_cases hilt : i < ln
       · have hii : decide ((i : Int) < (ln : Int)) = true := by simp; omega
         obtain ⟨k, hk⟩ : ∃ k, (i + v) % ln = k := ⟨_, rfl⟩
         have hkl : k < ln := by rw [← hk]; exact Nat.mod_lt _ (by omega)
         have hrem : ((i : Int) + (v : Int) : Int).tmod (ln : Int) = (k : Int) := by
          rw [Int.tmod_eq_emod_of_nonneg (by omega), ← hk]
          first | (push_cast; rfl) | simp
         have hnz : ¬ ((ln : Int) = 0) := by omega
         have hwa : IntKind.i64.wrap ((i : Int) + (v : Int) : Int) = (i : Int) + (v : Int) := by rw [IntKind.wrap_i64]; omega
         have hwk : IntKind.i64.wrap (k : Int) = (k : Int) := by rw [IntKind.wrap_i64]; omega
         have hwi : IntKind.i64.wrap ((i : Int) + 1) = (i : Int) + 1 := by rw [IntKind.wrap_i64]; omega
         have HT1 := Veil.mk hT1
         have HROT := Veil.mk hrot
         have HK := Veil.mk hk
         go_upto_region 18 with fail
         clear hrem hwa hnz hii
         rcases hrot with ⟨rfl, hno⟩ | ⟨a, ha, rfl, hra⟩
         · have hn1 : decide ((-1 : Int) < 0) = true := by decide
           have h2 := hT1.far ((Below.refl _ _).drew : Below wr.heap.size wr wr.drew)
           have hkl' : k < left.length := by rw [HLN.out]; exact hkl
           have hr2 := HRL.out k hkl _ h2
           have HRK : Veil (∀ W, TuI WB F t (.slice (some ⟨g, 0, none⟩) ln lc) left W → W.rangeAt g (k * 17) left[k].cells) := ⟨fun W h => HRL.out k hkl W h⟩
           have hokk := left_ok HTP.out HOK.out _ (List.getElem_mem hkl')
           have hgt := hT1.good
           have HRD : Veil (∀ W, Calls Tryz.prog 16 #[.agg (row .u32 t.S), .agg left[k].cells.toArray] W fun x w' => x = .returned (.bool (readyB t.S left[k])) ∧ Below W.heap.size W w') := ⟨fun W => rready_any t.S left[k] W hgt.slen (fun x hx => by have := hgt.sval x hx; have := hgt.llen; omega) hokk.past hokk.dot.1.1 hokk.dot.2.1 (by have := hokk.dot.2.2; omega) hokk.par.1.1 hokk.par.2.1⟩
           have iE : (Tryz.prog.info? 44).map (·.size) = some left[k].cells.length := by rw [aev_len _ hokk.past]; kernel_rfl
           have uE := Tryz.underlying44
           have HNO : Veil ((readyB t.S left[k] = false → RotP t.S left v (i + 1) (.int .i64 (-1))) ∧ (readyB t.S left[k] = true → RotP t.S left v (i + 1) (.int .i64 (k : Nat)))) := ⟨fun hf => .inl ⟨rfl, fun j hj h => by
            rcases Nat.lt_succ_iff_lt_or_eq.1 hj with q | rfl
            · exact hno j q h
            · have e : (j + v) % left.length = k := by rw [HLN.out]; exact HK.out
              simp only [e]; exact hf⟩, fun ht => .inr ⟨k, hkl', rfl, ht⟩⟩
           generalize readyB t.S left[k] = RB at HRD HNO
           generalize left[k].cells = EK at hr2 HRK HRD iE
           clear hno hT1 hokk hgt hkl'
           refine wp_region_gateT (fun W : World => W.rangeAt g (k * 17) EK) (fun _ => True) 99 (by kernel_rfl) ?_
           have hT : (fun W : World => W.rangeAt g (k * 17) EK) wr.drew := hr2
           have hS : (fun _ : World => True) wr.drew := trivial
           refine ghA 0 _ hT hS ?_
           simp only [Act.put, gA, gS, gZ, sI, sZ, sS]
           refine ghA 1 _ hT hS ?_
           simp only [Act.put, gA, gS, gZ, sI, sZ, sS]
           refine ghA 2 _ hT hS ?_
           simp only [Act.put, gA, gS, gZ, sI, sZ, sS]
           refine ghA 3 _ hT hS ?_
           simp only [Act.put, gA, gS, gZ, sI, sZ, sS]
           refine ghA 5 _ hT hS ?_
           simp only [Act.put, gA, gS, gZ, sI, sZ, sS]
           refine ghA 6 _ hT hS ?_
           simp only [Act.put, gA, gS, gZ, sI, sZ, sS]
           refine ghA 7 _ hT hS ?_
           simp only [Act.put, gA, gS, gZ, sI, sZ, sS]
           refine gl 8 70 44 69 g (k * 17) EK (by kernel_rfl) (by kernel_rfl) (by kernel_rfl) (fun _ _ _ h => h) hT hS (by kernel_rfl) (fun _ h => h) uE rfl iE ?_
           simp only [Act.put, gA, gS, gZ, sI, sZ, sS]
           have hve := h2.vector
           refine wpAnyT_one (i := 4) rfl (by kernel_rfl) (by kernel_rfl) (fun K hK => ?_)
           refine wpx_call _ _ (by kernel_rfl) (hve.mono ?_)
           rintro y U1 ⟨rfl, hb1⟩
           refine ⟨_, rfl, ?_⟩
           have h3 := h2.far hb1
           replace hT : (fun W : World => W.rangeAt g (k * 17) EK) U1 := HRK.out _ h3
           replace hS : (fun _ : World => True) U1 := trivial
           have hrd := HRD.out U1
           clear hve h2 hr2 hb1
           refine hK.out _ _ hT (fun _ => hS) ?_
           clear hK K
           try simp only [Act.put, gA, gS, gZ, sI, sZ, sS]
           refine wpAnyT_one (i := 9) rfl (by kernel_rfl) (by kernel_rfl) (fun K hK => ?_)
           refine wpx_call _ _ (by kernel_rfl) (hrd.mono ?_)
           rintro y U2 ⟨rfl, hb2⟩
           refine ⟨_, rfl, ?_⟩
           have h4 := h3.far hb2
           replace hT : (fun W : World => W.rangeAt g (k * 17) EK) U2 := HRK.out _ h4
           replace hS : (fun _ : World => True) U2 := trivial
           clear hrd h3 hb2
           refine hK.out _ _ hT (fun _ => hS) ?_
           clear hK K
           try simp only [Act.put, gA, gS, gZ, sI, sZ, sS]
           refine ghA 10 _ hT hS ?_
           simp only [Act.put, gA, gS, gZ, sI, sZ, sS]
           refine wpAnyT_done (by kernel_rfl) ?_ _
           have H4 := Veil.mk h4
           clear hT hS h4 HRD HRK
           cases RB
           · go_wp2
             go_roundw
             case rel => exact ⟨i + 1, by push_cast; rfl, hilt, HNO.out.1 rfl, H4.out⟩
             case measure => simp [intOf]; omega
           · go_wp2
             go_roundw
             case rel => exact ⟨i + 1, by push_cast; rfl, hilt, HNO.out.2 rfl, H4.out⟩
             case measure => simp [intOf]; omega
         · have hna : decide ((a : Int) < 0) = false := by simp
           have hna2 : ¬ (a : Int) < 0 := by omega
           have h2 := Veil.mk (hT1.far ((Below.refl _ _).drew : Below wr.heap.size wr wr.drew))
           clear hT1
           refine wp_region_gateT (fun _ : World => True) (fun _ => True) 99 (by kernel_rfl) ?_
           have hT : (fun _ : World => True) wr.drew := trivial
           have hS : (fun _ : World => True) wr.drew := trivial
           refine ghA 0 _ hT hS ?_
           simp only [Act.put, gA, gS, gZ, sI, sZ, sS]
           refine ghA 1 _ hT hS ?_
           simp only [Act.put, gA, gS, gZ, sI, sZ, sS]
           refine ghA 2 _ hT hS ?_
           simp only [Act.put, gA, gS, gZ, sI, sZ, sS]
           refine gs 3 hT hS ?_
           simp only [Act.put, gA, gS, gZ, sI, sZ, sS]
           refine gs 4 hT hS ?_
           simp only [Act.put, gA, gS, gZ, sI, sZ, sS]
           refine gs 5 hT hS ?_
           simp only [Act.put, gA, gS, gZ, sI, sZ, sS]
           refine gs 6 hT hS ?_
           simp only [Act.put, gA, gS, gZ, sI, sZ, sS]
           refine gs 7 hT hS ?_
           simp only [Act.put, gA, gS, gZ, sI, sZ, sS]
           refine gs 8 hT hS ?_
           simp only [Act.put, gA, gS, gZ, sI, sZ, sS]
           refine gs 9 hT hS ?_
           simp only [Act.put, gA, gS, gZ, sI, sZ, sS]
           refine ghA 10 _ hT hS ?_
           simp only [Act.put, gA, gS, gZ, sI, sZ, sS]
           refine wpAnyT_done (by kernel_rfl) ?_ _
           clear hT hS
           go_wp2
           go_roundw
           case rel => exact ⟨i + 1, by push_cast; rfl, hilt, .inr ⟨a, ha, rfl, hra⟩, h2.out⟩
           case measure => simp [intOf]; omega
       · obtain rfl : i = ln := by omega
         have hii : decide ((i : Int) < (i : Int)) = false := by simp
         have hlnil : left ≠ [] := fun q => by have := HLN.out; rw [q] at this; simp at this; omega
         obtain ⟨a, ha, rfl, hra⟩ := RotP.done HRE.out HTP.out hlnil (by rw [HLN.out]; exact hrot)
         have hal : a < i := by rw [← HLN.out]; exact ha
         obtain ⟨hoka, href, hnext⟩ := HTP.out.next (by rw [HNL.out]; omega) HOK.out ha hra
         have hap := hT1.apply hoka href
         have hra2 := HRL.out a hal wr hT1
         have iE : (Tryz.prog.info? 44).map (·.size) = some left[a].cells.length := by rw [aev_len _ hoka.past]; kernel_rfl
         have uE := Tryz.underlying44
         have HNX := Veil.mk hnext
         have hna : decide ((a : Int) < 0) = false := by simp
         have hna2 : ¬ (a : Int) < 0 := by omega
         have ha0 : (0 : Int) ≤ (a : Int) := by omega
         have hai : (a : Int) < (i : Int) := by omega
         have HCT : Veil (∀ W, TuI WB F (apS t left[a]) (.slice (some ⟨g, 0, none⟩) i lc) left W → i ≤ lc ∧ ∃ y1 d1 V1 y2 d2 V2, (Builtin.append_ #[31, 31] 31 #[.slice none 0 0, .slice (subE (some ⟨g, 0, none⟩) lc 0) a lc]).run Tryz.prog W = .ok (.slice y1 a d1) V1 ∧ (Builtin.append_ #[31, 31] 31 #[.slice y1 a d1, .slice (subE (some ⟨g, 0, none⟩) lc (a + 1)) (i - (a + 1)) (lc - (a + 1))]).run Tryz.prog V1 = .ok (.slice y2 (left.take a ++ left.drop (a + 1)).length d2) V2 ∧ TuI WB F (apS t left[a]) (.slice y2 (left.take a ++ left.drop (a + 1)).length d2) (left.take a ++ left.drop (a + 1)) V2 ∧ Below W.heap.size W V2) := ⟨fun W h => (h.cut (left_ok HTP.out HOK.out) (by rw [HLN.out]; omega) ha).2⟩
         have HNN : Veil ((left.take a ++ left.drop (a + 1)).length + 1 = i) := ⟨by rw [List.length_append, List.length_take, List.length_drop, HLN.out]; omega⟩
         generalize apS t left[a] = t2 at hap HNX HCT
         generalize left.take a ++ left.drop (a + 1) = left2 at HNX HCT HNN
         generalize left[a].cells = EA at hap hra2 iE
         clear hrot hT1 hnext href hoka hra hlnil HRL
         go_upto_region 23 with (first
          | (refine wpList_ldgv (by kernel_rfl) 44 _ rfl g (a * 17) rfl EA hra2 uE rfl iE ?_)
          | (go_at_call 18; refine hap.mono ?_; rintro z W5 ⟨rfl, h5⟩; clear hap))
         have h6 := h5.far ((Below.refl _ _).drew : Below W5.heap.size W5 W5.drew)
         obtain ⟨hic, y1, d1, V1, y2, d2, V2, hq1, hq2, hT2, hb2⟩ := HCT.out _ h6
         have cut1 : ∀ wx, (Instr.slice 31 (.slice (some ⟨g, 0, none⟩) i lc) none (some (.int .i64 (a : Int))) none).run Tryz.prog wx = .ok (.slice (subE (some ⟨g, 0, none⟩) lc 0) a lc) wx := fun wx => cutE_h wx _ i lc a (by omega)
         have cut2 : ∀ wx, (Instr.slice 31 (.slice (some ⟨g, 0, none⟩) i lc) (some (.int .i64 ((a : Int) + 1))) none none).run Tryz.prog wx = .ok (.slice (subE (some ⟨g, 0, none⟩) lc (a + 1)) (i - (a + 1)) (lc - (a + 1))) wx := fun wx => by
          have := cutE_l wx (some ⟨g, 0, none⟩) i lc (a + 1) (by omega)
          push_cast at this
          exact this
         have hwa1 : IntKind.i64.wrap ((a : Int) + 1) = (a : Int) + 1 := by rw [IntKind.wrap_i64]; omega
         have hwm : IntKind.i64.wrap ((m : Int) + 1) = (m : Int) + 1 := by rw [IntKind.wrap_i64]; omega
         have H2 := Veil.mk hT2
         generalize subE (some ⟨g, 0, none⟩) lc 0 = s1 at cut1 hq1
         generalize subE (some ⟨g, 0, none⟩) lc (a + 1) = s2 at cut2 hq2
         generalize i - (a + 1) = m1 at cut2 hq2
         generalize lc - (a + 1) = c1 at cut2 hq2
         clear h5 h6 hT2 hb2 HCT hra2 iE
         refine wp_region_gateT (fun _ : World => True) (fun _ => True) 99 (by kernel_rfl) ?_
         have hT : (fun _ : World => True) W5.drew := trivial
         have hS : (fun _ : World => True) W5.drew := trivial
         refine ghA 0 _ hT hS ?_
         simp only [Act.put, gA, gS, gZ, sI, sZ, sS]
         refine ghA 1 _ hT hS ?_
         simp only [Act.put, gA, gS, gZ, sI, sZ, sS]
         refine ghA 2 _ hT hS ?_
         simp only [Act.put, gA, gS, gZ, sI, sZ, sS]
         refine ghA 3 _ hT hS ?_
         simp only [Act.put, gA, gS, gZ, sI, sZ, sS]
         refine ghA 5 _ hT hS ?_
         simp only [Act.put, gA, gS, gZ, sI, sZ, sS]
         refine ghA 6 _ hT hS ?_
         simp only [Act.put, gA, gS, gZ, sI, sZ, sS]
         refine ghA 7 _ hT hS ?_
         simp only [Act.put, gA, gS, gZ, sI, sZ, sS]
         refine ghA 8 _ hT hS ?_
         simp only [Act.put, gA, gS, gZ, sI, sZ, sS]
         refine wpAnyT_one (i := 4) rfl (by kernel_rfl) (by kernel_rfl) (fun K hK => ?_)
         refine wpx_app _ _ _ _ rfl _ _ _ _ rfl rfl hq1 ?_
         replace hT : (fun _ : World => True) V1 := trivial
         replace hS : (fun _ : World => True) V1 := trivial
         refine hK.out _ _ hT (fun _ => hS) ?_
         clear hK K
         try simp only [Act.put, gA, gS, gZ, sI, sZ, sS]
         refine wpAnyT_one (i := 9) rfl (by kernel_rfl) (by kernel_rfl) (fun K hK => ?_)
         refine wpx_app _ _ _ _ rfl _ _ _ _ rfl rfl hq2 ?_
         replace hT : (fun _ : World => True) V2 := trivial
         replace hS : (fun _ : World => True) V2 := trivial
         refine hK.out _ _ hT (fun _ => hS) ?_
         clear hK K
         try simp only [Act.put, gA, gS, gZ, sI, sZ, sS]
         refine ghA 10 _ hT hS ?_
         simp only [Act.put, gA, gS, gZ, sI, sZ, sS]
         refine wpAnyT_done (by kernel_rfl) ?_ _
         clear hT hS cut1 cut2 hq1 hq2
         go_wp2
         go_roundw
         case rel => exact ⟨m + 1, t2, left2, y2, d2, by push_cast; rfl, rfl, by have := HNN.out; omega, HNX.out, H2.out⟩
         case measure =>
          have := HNN.out
          simp only [lenV]
          omega
    · have hmd : decide ((m : Int) < (len2 : Int)) = false := by simp; omega
      have hml2 : ¬ (m : Int) < (len2 : Int) := by omega
      go_wp2_with fail
      clear hmd hml2 hmo HOB
      go_loopw [13, 14, 15] (fun av iv _ wr => ∃ i : Nat, iv = .int .i64 (i : Nat) ∧ i ≤ ln ∧ RotP t.S left 0 i av ∧ TuI WB F t (.slice (some ⟨g, 0, none⟩) ln lc) left wr) (fun _ iv _ _ => ln - (intOf iv).toNat)
      case atStart => exact ⟨0, rfl, Nat.zero_le _, RotP.start _ _ _, HT.out⟩
      case round =>
       obtain ⟨i, rfl, hi, hrot, hT1⟩ := hrel
       clear HT HBW
       by_cases hilt : i < ln
       · have hii : decide ((i : Int) < (ln : Int)) = true := by simp; omega
         obtain ⟨k, hk⟩ : ∃ k, (i + 0) % ln = k := ⟨_, rfl⟩
         have hkl : k < ln := by rw [← hk]; exact Nat.mod_lt _ (by omega)
         have hrem : ((i : Int) : Int).tmod (ln : Int) = (k : Int) := by
          rw [Int.tmod_eq_emod_of_nonneg (by omega), ← hk]
          first | (push_cast; rfl) | simp
         have hnz : ¬ ((ln : Int) = 0) := by omega
         have hwa : IntKind.i64.wrap ((i : Int) : Int) = (i : Int) := by rw [IntKind.wrap_i64]; omega
         have hwk : IntKind.i64.wrap (k : Int) = (k : Int) := by rw [IntKind.wrap_i64]; omega
         have hwi : IntKind.i64.wrap ((i : Int) + 1) = (i : Int) + 1 := by rw [IntKind.wrap_i64]; omega
         have HT1 := Veil.mk hT1
         have HROT := Veil.mk hrot
         have HK := Veil.mk hk
         go_upto_region 18 with fail
         clear hrem hwa hnz hii
         rcases hrot with ⟨rfl, hno⟩ | ⟨a, ha, rfl, hra⟩
         · have hn1 : decide ((-1 : Int) < 0) = true := by decide
           have h2 := hT1.far ((Below.refl _ _).drew : Below wr.heap.size wr wr.drew)
           have hkl' : k < left.length := by rw [HLN.out]; exact hkl
           have hr2 := HRL.out k hkl _ h2
           have HRK : Veil (∀ W, TuI WB F t (.slice (some ⟨g, 0, none⟩) ln lc) left W → W.rangeAt g (k * 17) left[k].cells) := ⟨fun W h => HRL.out k hkl W h⟩
           have hokk := left_ok HTP.out HOK.out _ (List.getElem_mem hkl')
           have hgt := hT1.good
           have HRD : Veil (∀ W, Calls Tryz.prog 16 #[.agg (row .u32 t.S), .agg left[k].cells.toArray] W fun x w' => x = .returned (.bool (readyB t.S left[k])) ∧ Below W.heap.size W w') := ⟨fun W => rready_any t.S left[k] W hgt.slen (fun x hx => by have := hgt.sval x hx; have := hgt.llen; omega) hokk.past hokk.dot.1.1 hokk.dot.2.1 (by have := hokk.dot.2.2; omega) hokk.par.1.1 hokk.par.2.1⟩
           have iE : (Tryz.prog.info? 44).map (·.size) = some left[k].cells.length := by rw [aev_len _ hokk.past]; kernel_rfl
           have uE := Tryz.underlying44
           have HNO : Veil ((readyB t.S left[k] = false → RotP t.S left 0 (i + 1) (.int .i64 (-1))) ∧ (readyB t.S left[k] = true → RotP t.S left 0 (i + 1) (.int .i64 (k : Nat)))) := ⟨fun hf => .inl ⟨rfl, fun j hj h => by
            rcases Nat.lt_succ_iff_lt_or_eq.1 hj with q | rfl
            · exact hno j q h
            · have e : (j + 0) % left.length = k := by rw [HLN.out]; exact HK.out
              simp only [e]; exact hf⟩, fun ht => .inr ⟨k, hkl', rfl, ht⟩⟩
           generalize readyB t.S left[k] = RB at HRD HNO
           generalize left[k].cells = EK at hr2 HRK HRD iE
           clear hno hT1 hokk hgt hkl'
           refine wp_region_gateT (fun W : World => W.rangeAt g (k * 17) EK) (fun _ => True) 99 (by kernel_rfl) ?_
           have hT : (fun W : World => W.rangeAt g (k * 17) EK) wr.drew := hr2
           have hS : (fun _ : World => True) wr.drew := trivial
           refine ghA 0 _ hT hS ?_
           simp only [Act.put, gA, gS, gZ, sI, sZ, sS]
           refine ghA 1 _ hT hS ?_
           simp only [Act.put, gA, gS, gZ, sI, sZ, sS]
           refine ghA 2 _ hT hS ?_
           simp only [Act.put, gA, gS, gZ, sI, sZ, sS]
           refine ghA 3 _ hT hS ?_
           simp only [Act.put, gA, gS, gZ, sI, sZ, sS]
           refine ghA 5 _ hT hS ?_
           simp only [Act.put, gA, gS, gZ, sI, sZ, sS]
           refine ghA 6 _ hT hS ?_
           simp only [Act.put, gA, gS, gZ, sI, sZ, sS]
           refine ghA 7 _ hT hS ?_
           simp only [Act.put, gA, gS, gZ, sI, sZ, sS]
           refine gl 8 70 44 69 g (k * 17) EK (by kernel_rfl) (by kernel_rfl) (by kernel_rfl) (fun _ _ _ h => h) hT hS (by kernel_rfl) (fun _ h => h) uE rfl iE ?_
           simp only [Act.put, gA, gS, gZ, sI, sZ, sS]
           have hve := h2.vector
           refine wpAnyT_one (i := 4) rfl (by kernel_rfl) (by kernel_rfl) (fun K hK => ?_)
           refine wpx_call _ _ (by kernel_rfl) (hve.mono ?_)
           rintro y U1 ⟨rfl, hb1⟩
           refine ⟨_, rfl, ?_⟩
           have h3 := h2.far hb1
           replace hT : (fun W : World => W.rangeAt g (k * 17) EK) U1 := HRK.out _ h3
           replace hS : (fun _ : World => True) U1 := trivial
           have hrd := HRD.out U1
           clear hve h2 hr2 hb1
           refine hK.out _ _ hT (fun _ => hS) ?_
           clear hK K
           try simp only [Act.put, gA, gS, gZ, sI, sZ, sS]
           refine wpAnyT_one (i := 9) rfl (by kernel_rfl) (by kernel_rfl) (fun K hK => ?_)
           refine wpx_call _ _ (by kernel_rfl) (hrd.mono ?_)
           rintro y U2 ⟨rfl, hb2⟩
           refine ⟨_, rfl, ?_⟩
           have h4 := h3.far hb2
           replace hT : (fun W : World => W.rangeAt g (k * 17) EK) U2 := HRK.out _ h4
           replace hS : (fun _ : World => True) U2 := trivial
           clear hrd h3 hb2
           refine hK.out _ _ hT (fun _ => hS) ?_
           clear hK K
           try simp only [Act.put, gA, gS, gZ, sI, sZ, sS]
           refine ghA 10 _ hT hS ?_
           simp only [Act.put, gA, gS, gZ, sI, sZ, sS]
           refine wpAnyT_done (by kernel_rfl) ?_ _
           have H4 := Veil.mk h4
           clear hT hS h4 HRD HRK
           cases RB
           · go_wp2
             go_roundw
             case rel => exact ⟨i + 1, by push_cast; rfl, hilt, HNO.out.1 rfl, H4.out⟩
             case measure => simp [intOf]; omega
           · go_wp2
             go_roundw
             case rel => exact ⟨i + 1, by push_cast; rfl, hilt, HNO.out.2 rfl, H4.out⟩
             case measure => simp [intOf]; omega
         · have hna : decide ((a : Int) < 0) = false := by simp
           have hna2 : ¬ (a : Int) < 0 := by omega
           have h2 := Veil.mk (hT1.far ((Below.refl _ _).drew : Below wr.heap.size wr wr.drew))
           clear hT1
           refine wp_region_gateT (fun _ : World => True) (fun _ => True) 99 (by kernel_rfl) ?_
           have hT : (fun _ : World => True) wr.drew := trivial
           have hS : (fun _ : World => True) wr.drew := trivial
           refine ghA 0 _ hT hS ?_
           simp only [Act.put, gA, gS, gZ, sI, sZ, sS]
           refine ghA 1 _ hT hS ?_
           simp only [Act.put, gA, gS, gZ, sI, sZ, sS]
           refine ghA 2 _ hT hS ?_
           simp only [Act.put, gA, gS, gZ, sI, sZ, sS]
           refine gs 3 hT hS ?_
           simp only [Act.put, gA, gS, gZ, sI, sZ, sS]
           refine gs 4 hT hS ?_
           simp only [Act.put, gA, gS, gZ, sI, sZ, sS]
           refine gs 5 hT hS ?_
           simp only [Act.put, gA, gS, gZ, sI, sZ, sS]
           refine gs 6 hT hS ?_
           simp only [Act.put, gA, gS, gZ, sI, sZ, sS]
           refine gs 7 hT hS ?_
           simp only [Act.put, gA, gS, gZ, sI, sZ, sS]
           refine gs 8 hT hS ?_
           simp only [Act.put, gA, gS, gZ, sI, sZ, sS]
           refine gs 9 hT hS ?_
           simp only [Act.put, gA, gS, gZ, sI, sZ, sS]
           refine ghA 10 _ hT hS ?_
           simp only [Act.put, gA, gS, gZ, sI, sZ, sS]
           refine wpAnyT_done (by kernel_rfl) ?_ _
           clear hT hS
           go_wp2
           go_roundw
           case rel => exact ⟨i + 1, by push_cast; rfl, hilt, .inr ⟨a, ha, rfl, hra⟩, h2.out⟩
           case measure => simp [intOf]; omega
       · obtain rfl : i = ln := by omega
         have hii : decide ((i : Int) < (i : Int)) = false := by simp
         have hlnil : left ≠ [] := fun q => by have := HLN.out; rw [q] at this; simp at this; omega
         obtain ⟨a, ha, rfl, hra⟩ := RotP.done HRE.out HTP.out hlnil (by rw [HLN.out]; exact hrot)
         have hal : a < i := by rw [← HLN.out]; exact ha
         obtain ⟨hoka, href, hnext⟩ := HTP.out.next (by rw [HNL.out]; omega) HOK.out ha hra
         have hap := hT1.apply hoka href
         have hra2 := HRL.out a hal wr hT1
         have iE : (Tryz.prog.info? 44).map (·.size) = some left[a].cells.length := by rw [aev_len _ hoka.past]; kernel_rfl
         have uE := Tryz.underlying44
         have HNX := Veil.mk hnext
         have hna : decide ((a : Int) < 0) = false := by simp
         have hna2 : ¬ (a : Int) < 0 := by omega
         have ha0 : (0 : Int) ≤ (a : Int) := by omega
         have hai : (a : Int) < (i : Int) := by omega
         have HCT : Veil (∀ W, TuI WB F (apS t left[a]) (.slice (some ⟨g, 0, none⟩) i lc) left W → i ≤ lc ∧ ∃ y1 d1 V1 y2 d2 V2, (Builtin.append_ #[31, 31] 31 #[.slice none 0 0, .slice (subE (some ⟨g, 0, none⟩) lc 0) a lc]).run Tryz.prog W = .ok (.slice y1 a d1) V1 ∧ (Builtin.append_ #[31, 31] 31 #[.slice y1 a d1, .slice (subE (some ⟨g, 0, none⟩) lc (a + 1)) (i - (a + 1)) (lc - (a + 1))]).run Tryz.prog V1 = .ok (.slice y2 (left.take a ++ left.drop (a + 1)).length d2) V2 ∧ TuI WB F (apS t left[a]) (.slice y2 (left.take a ++ left.drop (a + 1)).length d2) (left.take a ++ left.drop (a + 1)) V2 ∧ Below W.heap.size W V2) := ⟨fun W h => (h.cut (left_ok HTP.out HOK.out) (by rw [HLN.out]; omega) ha).2⟩
         have HNN : Veil ((left.take a ++ left.drop (a + 1)).length + 1 = i) := ⟨by rw [List.length_append, List.length_take, List.length_drop, HLN.out]; omega⟩
         generalize apS t left[a] = t2 at hap HNX HCT
         generalize left.take a ++ left.drop (a + 1) = left2 at HNX HCT HNN
         generalize left[a].cells = EA at hap hra2 iE
         clear hrot hT1 hnext href hoka hra hlnil HRL
         go_upto_region 23 with (first
          | (refine wpList_ldgv (by kernel_rfl) 44 _ rfl g (a * 17) rfl EA hra2 uE rfl iE ?_)
          | (go_at_call 18; refine hap.mono ?_; rintro z W5 ⟨rfl, h5⟩; clear hap))
         have h6 := h5.far ((Below.refl _ _).drew : Below W5.heap.size W5 W5.drew)
         obtain ⟨hic, y1, d1, V1, y2, d2, V2, hq1, hq2, hT2, hb2⟩ := HCT.out _ h6
         have cut1 : ∀ wx, (Instr.slice 31 (.slice (some ⟨g, 0, none⟩) i lc) none (some (.int .i64 (a : Int))) none).run Tryz.prog wx = .ok (.slice (subE (some ⟨g, 0, none⟩) lc 0) a lc) wx := fun wx => cutE_h wx _ i lc a (by omega)
         have cut2 : ∀ wx, (Instr.slice 31 (.slice (some ⟨g, 0, none⟩) i lc) (some (.int .i64 ((a : Int) + 1))) none none).run Tryz.prog wx = .ok (.slice (subE (some ⟨g, 0, none⟩) lc (a + 1)) (i - (a + 1)) (lc - (a + 1))) wx := fun wx => by
          have := cutE_l wx (some ⟨g, 0, none⟩) i lc (a + 1) (by omega)
          push_cast at this
          exact this
         have hwa1 : IntKind.i64.wrap ((a : Int) + 1) = (a : Int) + 1 := by rw [IntKind.wrap_i64]; omega
         have hwm : IntKind.i64.wrap ((m : Int) + 1) = (m : Int) + 1 := by rw [IntKind.wrap_i64]; omega
         have H2 := Veil.mk hT2
         generalize subE (some ⟨g, 0, none⟩) lc 0 = s1 at cut1 hq1
         generalize subE (some ⟨g, 0, none⟩) lc (a + 1) = s2 at cut2 hq2
         generalize i - (a + 1) = m1 at cut2 hq2
         generalize lc - (a + 1) = c1 at cut2 hq2
         clear h5 h6 hT2 hb2 HCT hra2 iE
         refine wp_region_gateT (fun _ : World => True) (fun _ => True) 99 (by kernel_rfl) ?_
         have hT : (fun _ : World => True) W5.drew := trivial
         have hS : (fun _ : World => True) W5.drew := trivial
         refine ghA 0 _ hT hS ?_
         simp only [Act.put, gA, gS, gZ, sI, sZ, sS]
         refine ghA 1 _ hT hS ?_
         simp only [Act.put, gA, gS, gZ, sI, sZ, sS]
         refine ghA 2 _ hT hS ?_
         simp only [Act.put, gA, gS, gZ, sI, sZ, sS]
         refine ghA 3 _ hT hS ?_
         simp only [Act.put, gA, gS, gZ, sI, sZ, sS]
         refine ghA 5 _ hT hS ?_
         simp only [Act.put, gA, gS, gZ, sI, sZ, sS]
         refine ghA 6 _ hT hS ?_
         simp only [Act.put, gA, gS, gZ, sI, sZ, sS]
         refine ghA 7 _ hT hS ?_
         simp only [Act.put, gA, gS, gZ, sI, sZ, sS]
         refine ghA 8 _ hT hS ?_
         simp only [Act.put, gA, gS, gZ, sI, sZ, sS]
         refine wpAnyT_one (i := 4) rfl (by kernel_rfl) (by kernel_rfl) (fun K hK => ?_)
         refine wpx_app _ _ _ _ rfl _ _ _ _ rfl rfl hq1 ?_
         replace hT : (fun _ : World => True) V1 := trivial
         replace hS : (fun _ : World => True) V1 := trivial
         refine hK.out _ _ hT (fun _ => hS) ?_
         clear hK K
         try simp only [Act.put, gA, gS, gZ, sI, sZ, sS]
         refine wpAnyT_one (i := 9) rfl (by kernel_rfl) (by kernel_rfl) (fun K hK => ?_)
         refine wpx_app _ _ _ _ rfl _ _ _ _ rfl rfl hq2 ?_
         replace hT : (fun _ : World => True) V2 := trivial
         replace hS : (fun _ : World => True) V2 := trivial
         refine hK.out _ _ hT (fun _ => hS) ?_
         clear hK K
         try simp only [Act.put, gA, gS, gZ, sI, sZ, sS]
         refine ghA 10 _ hT hS ?_
         simp only [Act.put, gA, gS, gZ, sI, sZ, sS]
         refine wpAnyT_done (by kernel_rfl) ?_ _
         clear hT hS cut1 cut2 hq1 hq2
         go_wp2
         go_roundw
         case rel => exact ⟨m + 1, t2, left2, y2, d2, by push_cast; rfl, rfl, by have := HNN.out; omega, HNX.out, H2.out⟩
         case measure =>
          have := HNN.out
          simp only [lenV]
          omega
end Go.Proofs.YtmbdohnmbkpfaaaGreat
