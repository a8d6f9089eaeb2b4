/- Tp1 -/
import Derived.Test.YthjkcfpdkhghpaaH22
import Derived.Test.YthjkcfpdkhghpaaH39
namespace Go.Proofs.Ythjkcfpdkhghpaa
open Go.RowKit Go.Shelf
set_option maxRecDepth 20000
set_option linter.unusedSimpArgs false
def evNd (e : Ev) : Nd := ⟨e.dot, ((e.pa, e.ps), e.right), e.char⟩
def evPar (e : Ev) : Int × Int := (e.pa, e.ps)
def effN (N : List Nd) (e : Ev) : List Nd := if e.kind = 1 then insN N (evNd e) else if e.kind = 2 then delN N (evPar e) else N
def actT (N : List Nd) (e : Ev) : Bool := if e.kind = 1 then refI N (evNd e) == 0 else if e.kind = 2 then (chrN N (evPar e)).isSome else false
def stX (X : List Ev) : List Nd × List (Int × Int) := X.foldl (fun s e => (effN s.1 e, if actT s.1 e = true then s.2 ++ [e.dot] else s.2)) ([], [])
def treeX (X : List Ev) : List Nd := (stX X).1
def forX (X : List Ev) : List (Int × Int) := (stX X).2
theorem treeX_snoc (X : List Ev) (e : Ev) : treeX (X ++ [e]) = effN (treeX X) e := by unfold treeX stX; rw [List.foldl_append]; rfl
theorem forX_snoc (X : List Ev) (e : Ev) : forX (X ++ [e]) = if actT (treeX X) e = true then forX X ++ [e.dot] else forX X := by unfold forX treeX stX; rw [List.foldl_append]; rfl
theorem treeX_app (X Y : List Ev) : treeX (X ++ Y) = Y.foldl effN (treeX X) := by
  induction Y using snoc_ind with
  | h0 => simp
  | h1 Y e ih => rw [← List.append_assoc, treeX_snoc, ih, List.foldl_append]; rfl
theorem treeX_ok (X : List Ev) : TreeOk (treeX X) ∧ (treeX X).length ≤ X.length := by
  induction X using snoc_ind with
  | h0 => exact ⟨TreeOk.nil, Nat.le_refl _⟩
  | h1 X e ih =>
    rw [treeX_snoc, List.length_append, List.length_singleton]
    unfold effN
    split
    · exact ⟨ih.1.ins _, by have := insN_len (N := treeX X) (n := evNd e); omega⟩
    · split
      · exact ⟨ih.1.del _, by rw [delN_len]; omega⟩
      · exact ⟨ih.1, by omega⟩
inductive RunX : List Int → List Ev → Prop
  | nil : RunX zeroS []
  | snoc {S : List Int} {X : List Ev} {e : Ev} (h : RunX S X) (he : e.Ok) (hr : readyB S e = true) : RunX (incS S e.da) (X ++ [e])
theorem ready_hasnt {S : List Int} {e : Ev} (h : readyB S e = true) : hasB S e.da e.ds = false := by
  obtain ⟨-, h2, -⟩ := (ready_iff S e).1 h
  rw [← Bool.not_eq_true, has_iff]
  rintro ⟨-, -, q⟩
  omega
theorem ready_within {S : List Int} {e : Ev} (h : readyB S e = true) {a s : Int} (ha : 0 ≤ a) (q : hasB e.past a s = true) : hasB S a s = true := by
  obtain ⟨-, -, h3⟩ := (ready_iff S e).1 h
  rw [has_iff] at q ⊢
  have := (within_iff _ _ 8).1 h3 a.toNat (by omega)
  exact ⟨q.1, q.2.1, by omega⟩
theorem has_inc {S : List Int} (h8 : S.length = 8) {d : Int} (hd : 0 ≤ d) (hd8 : d < 8) {a s : Int} (q : hasB S a s = true) : hasB (incS S d) a s = true := by
  rw [has_iff] at q ⊢
  rw [incS_get h8 (by omega)]
  refine ⟨q.1, q.2.1, ?_⟩
  split <;> omega
theorem ready_author {S : List Int} {e : Ev} (he : e.Ok) (h : readyB S e = true) : 0 ≤ e.da ∧ e.da < 8 := ⟨he.dot.1.1, (right_bounds he.dot.2.1 ((ready_iff S e).1 h).1).1⟩
section
variable {S : List Int} {X : List Ev}
theorem RunX.len (h : RunX S X) : S.length = 8 := by
  induction h with
  | nil => rfl
  | snoc h he hr ih => rw [incS_len]; exact ih
theorem RunX.seen (h : RunX S X) : ∀ x ∈ X, hasB S x.da x.ds = true := by
  induction h with
  | nil => exact fun x hx => by cases hx
  | @snoc S X e h he hr ih =>
    intro x hx
    obtain ⟨a0, a8⟩ := ready_author he hr
    rcases List.mem_append.1 hx with q | q
    · exact has_inc h.len a0 a8 (ih x q)
    · rw [List.mem_singleton.1 q, has_iff, incS_get h.len (by omega), if_pos rfl]
      obtain ⟨r1, r2, -⟩ := (ready_iff S e).1 hr
      have hb := right_bounds he.dot.2.1 r1
      exact ⟨hb.1, by omega, by omega⟩
theorem RunX.right (h : RunX S X) : ∀ x ∈ X, rightB x = true ∧ x.Ok := by
  induction h with
  | nil => exact fun x hx => by cases hx
  | @snoc S X e _ he hr ih =>
    intro x hx
    rcases List.mem_append.1 hx with q | q
    · exact ih x q
    · rw [List.mem_singleton.1 q]; exact ⟨((ready_iff S e).1 hr).1, he⟩
theorem RunX.past (h : RunX S X) : ∀ x ∈ X, ∀ a s, 0 ≤ a → hasB x.past a s = true → hasB S a s = true := by
  induction h with
  | nil => exact fun x hx => by cases hx
  | @snoc S X e h he hr ih =>
    intro x hx a s ha q
    obtain ⟨a0, a8⟩ := ready_author he hr
    rcases List.mem_append.1 hx with r | r
    · exact has_inc h.len a0 a8 (ih x r a s ha q)
    · rw [List.mem_singleton.1 r] at q
      exact has_inc h.len a0 a8 (ready_within hr ha q)
theorem RunX.fresh (h : RunX S X) {e : Ev} (hr : readyB S e = true) : ∀ x ∈ X, x.dot ≠ e.dot := fun x hx q => by
  have h1 := h.seen x hx
  have q1 : x.da = e.da := congrArg Prod.fst q
  have q2 : x.ds = e.ds := congrArg Prod.snd q
  rw [q1, q2, ready_hasnt hr] at h1; cases h1
theorem RunX.unseen (h : RunX S X) {e : Ev} (he : e.Ok) (hr : readyB S e = true) {x : Ev} (hx : x ∈ X) : hasB x.past e.da e.ds = false := by
  cases q : hasB x.past e.da e.ds with
  | false => rfl
  | true =>
    have := h.past x hx _ _ he.dot.1.1 q
    rw [ready_hasnt hr] at this; cases this
theorem readyself {e : Ev} (he : e.Ok) (hr : readyB S e = true) : hasB e.past e.da e.ds = false := by
  cases q : hasB e.past e.da e.ds with
  | false => rfl
  | true =>
    have := ready_within hr he.dot.1.1 q
    rw [ready_hasnt hr] at this; cases this
theorem RunX.ahead (h : RunX S X) : ∀ i (hi : i < X.length), ∀ x ∈ X, hasB X[i].past x.da x.ds = true → x ∈ X.take i := by
  induction h with
  | nil => exact fun i hi => by cases hi
  | @snoc S X e h he hr ih =>
    intro i hi x hx hb
    rw [List.length_append, List.length_singleton] at hi
    by_cases hlt : i < X.length
    · rw [List.getElem_append_left hlt] at hb
      rw [List.take_append_of_le_length (by omega)]
      rcases List.mem_append.1 hx with q | q
      · exact ih i hlt x q hb
      · rw [List.mem_singleton.1 q, h.unseen he hr (List.getElem_mem hlt)] at hb; cases hb
    · obtain rfl : i = X.length := by omega
      rw [List.getElem_concat_length rfl] at hb
      rw [List.take_left]
      rcases List.mem_append.1 hx with q | q
      · exact q
      · rw [List.mem_singleton.1 q, readyself he hr] at hb; cases hb
theorem forX_old (h : RunX S X) {e : Ev} (hr : readyB S e = true) {x : Ev} (hx : x ∈ X) : x.dot ∈ forX (X ++ [e]) ↔ x.dot ∈ forX X := by
  rw [forX_snoc]
  split
  · rw [List.mem_append, List.mem_singleton]
    exact ⟨fun q => q.elim id fun r => absurd r (h.fresh hr x hx), .inl⟩
  · exact Iff.rfl
theorem RunX.forIn (h : RunX S X) : ∀ d ∈ forX X, ∃ x ∈ X, x.dot = d := by
  induction h with
  | nil => exact fun d hd => by cases hd
  | @snoc S X e _ _ _ ih =>
    intro d hd
    rw [forX_snoc] at hd
    split at hd
    · rcases List.mem_append.1 hd with q | q
      · obtain ⟨x, hx, r⟩ := ih d q
        exact ⟨x, List.mem_append_left _ hx, r⟩
      · exact ⟨e, by simp, (List.mem_singleton.1 q).symm⟩
    · obtain ⟨x, hx, r⟩ := ih d hd
      exact ⟨x, List.mem_append_left _ hx, r⟩
theorem forX_new (h : RunX S X) {e : Ev} (hr : readyB S e = true) : e.dot ∈ forX (X ++ [e]) ↔ actT (treeX X) e = true := by
  have hn : e.dot ∉ forX X := fun q => by
    obtain ⟨x, hx, r⟩ := h.forIn _ q
    exact h.fresh hr x hx r
  rw [forX_snoc]
  split
  · rename_i h1
    exact ⟨fun _ => h1, fun _ => by simp⟩
  · rename_i h1
    exact ⟨fun q => absurd q hn, fun q => absurd q h1⟩
end
theorem rightX_del {e : Ev} (hr : rightB e = true) (hk : e.kind = 2) : hasB e.past e.pa e.ps = true := by
  unfold rightB rightKB at hr
  rw [if_neg (by omega), if_pos hk] at hr
  simp only [Bool.and_eq_true] at hr
  exact hr.2.1.1.1
theorem rightX_ins {e : Ev} (hr : rightB e = true) (hk : e.kind = 1) : 1 ≤ e.char ∧ e.char ≤ 127 ∧ ((evPar e = (0, 0) ∧ e.right = true) ∨ hasB e.past e.pa e.ps = true) := by
  unfold rightB rightKB at hr
  rw [if_pos hk] at hr
  simp only [Bool.and_eq_true, decide_eq_true_eq] at hr
  refine ⟨hr.2.1.1.1, hr.2.1.1.2, ?_⟩
  have h3 := hr.2.1.2
  unfold rightParB at h3
  simp only [Bool.or_eq_true, Bool.and_eq_true, beq_iff_eq] at h3
  rcases h3 with ⟨⟨q1, q2⟩, q3⟩ | q
  · left
    exact ⟨by unfold evPar; rw [q1, q2], q3⟩
  · exact .inr q
def delX (L : List Ev) (F : List (Int × Int)) (x : Int × Int) : Prop := ∃ d ∈ L, d.kind = 2 ∧ d.dot ∈ F ∧ evPar d = x
def ndX (L : List Ev) (F : List (Int × Int)) (n : Nd) : Prop := ∃ e ∈ L, e.kind = 1 ∧ e.dot ∈ F ∧ n.id = e.dot ∧ n.side = (evPar e, e.right) ∧ ((delX L F e.dot ∧ n.chr = 0) ∨ (¬ delX L F e.dot ∧ n.chr = e.char))
theorem RunX.undeleted {S : List Int} {X : List Ev} (h : RunX S X) {e : Ev} (he : e.Ok) (hr : readyB S e = true) : ¬ delX X (forX X) e.dot := fun ⟨d, hd, hk, _, hp⟩ => by
  have h1 := rightX_del (h.right d hd).1 hk
  have h2 := h.unseen he hr hd
  have p1 : d.pa = e.da := congrArg Prod.fst hp
  have p2 : d.ps = e.ds := congrArg Prod.snd hp
  rw [p1, p2, h2] at h1; cases h1
theorem delX_same {L : List Ev} {F F' : List (Int × Int)} {e : Ev} (ho : ∀ x ∈ L, x.dot ∈ F' ↔ x.dot ∈ F) (hn : ¬ (e.kind = 2 ∧ e.dot ∈ F')) (x : Int × Int) : delX (L ++ [e]) F' x ↔ delX L F x := by
  refine ⟨fun ⟨d, hd, hk, hf, hp⟩ => ?_, fun ⟨d, hd, hk, hf, hp⟩ => ⟨d, List.mem_append_left _ hd, hk, (ho d hd).2 hf, hp⟩⟩
  rcases List.mem_append.1 hd with q | q
  · exact ⟨d, q, hk, (ho d q).1 hf, hp⟩
  · rw [List.mem_singleton.1 q] at hk hf
    exact absurd ⟨hk, hf⟩ hn
theorem ndX_same {L : List Ev} {F F' : List (Int × Int)} {e : Ev} (ho : ∀ x ∈ L, x.dot ∈ F' ↔ x.dot ∈ F) (hn : ¬ (e.kind = 2 ∧ e.dot ∈ F')) (hn1 : ¬ (e.kind = 1 ∧ e.dot ∈ F')) (n : Nd) : ndX (L ++ [e]) F' n ↔ ndX L F n := by
  have hd := delX_same (e := e) ho hn
  refine ⟨fun ⟨x, hx, hk, hf, h1, h2, h3⟩ => ?_, fun ⟨x, hx, hk, hf, h1, h2, h3⟩ => ⟨x, List.mem_append_left _ hx, hk, (ho x hx).2 hf, h1, h2, by rw [hd]; exact h3⟩⟩
  rcases List.mem_append.1 hx with q | q
  · rw [hd] at h3
    exact ⟨x, q, hk, (ho x q).1 hf, h1, h2, h3⟩
  · rw [List.mem_singleton.1 q] at hk hf
    exact absurd ⟨hk, hf⟩ hn1
theorem RunX.nodes {S : List Int} {X : List Ev} (h : RunX S X) : ∀ n, n ∈ treeX X ↔ ndX X (forX X) n := by
  induction h with
  | nil => exact fun n => ⟨fun hn => (by cases hn), fun ⟨e, he, _⟩ => (by cases he)⟩
  | @snoc S X e h he hr ih =>
    intro n
    rw [treeX_snoc]
    have ho : ∀ x ∈ X, x.dot ∈ forX (X ++ [e]) ↔ x.dot ∈ (forX X) := fun x hx => forX_old h hr hx
    have hnew := forX_new h hr
    unfold effN
    by_cases h1 : e.kind = 1
    · rw [if_pos h1]
      by_cases hb : actT (treeX X) e = true
      · have hb2 := hb
        unfold actT at hb2
        rw [if_pos h1] at hb2
        unfold insN
        rw [if_pos (by simpa using hb2), List.mem_append, List.mem_singleton, ih]
        have hd := delX_same (e := e) ho (by rintro ⟨q, -⟩; omega)
        constructor
        · rintro (⟨x, hx, hk, hf, q1, q2, q3⟩ | rfl)
          · exact ⟨x, List.mem_append_left _ hx, hk, (ho x hx).2 hf, q1, q2, by rw [hd]; exact q3⟩
          · exact ⟨e, by simp, h1, hnew.2 hb, rfl, rfl, .inr ⟨by rw [hd]; exact h.undeleted he hr, rfl⟩⟩
        · rintro ⟨x, hx, hk, hf, q1, q2, q3⟩
          rw [hd] at q3
          rcases List.mem_append.1 hx with q | q
          · exact .inl ⟨x, q, hk, (ho x q).1 hf, q1, q2, q3⟩
          · obtain rfl := List.mem_singleton.1 q
            right
            rcases q3 with ⟨r, -⟩ | ⟨-, r⟩
            · exact absurd r (h.undeleted he hr)
            · obtain ⟨i, s, c⟩ := n
              simp only at q1 q2 r
              rw [q1, q2, r]; rfl
      · have hnf : e.dot ∉ forX (X ++ [e]) := fun q => hb (hnew.1 q)
        have hN : insN (treeX X) (evNd e) = treeX X := by
          unfold insN
          rw [if_neg]
          intro q
          apply hb
          unfold actT
          rw [if_pos h1, q]; rfl
        rw [hN, ih, ndX_same ho (by rintro ⟨q, -⟩; omega) (fun q => hnf q.2)]
    · rw [if_neg h1]
      by_cases h2 : e.kind = 2
      · rw [if_pos h2]
        by_cases hb : actT (treeX X) e = true
        · have hb2 := hb
          unfold actT at hb2
          rw [if_neg h1, if_pos h2] at hb2
          have hd : ∀ x, delX (X ++ [e]) (forX (X ++ [e])) x ↔ delX X (forX X) x ∨ (evPar e) = x := fun x => by
            refine ⟨fun ⟨d, hd, hk, hf, hp⟩ => ?_, fun q => ?_⟩
            · rcases List.mem_append.1 hd with q | q
              · exact .inl ⟨d, q, hk, (ho d q).1 hf, hp⟩
              · rw [List.mem_singleton.1 q] at hp; exact .inr hp
            · rcases q with ⟨d, hd, hk, hf, hp⟩ | q
              · exact ⟨d, List.mem_append_left _ hd, hk, (ho d hd).2 hf, hp⟩
              · exact ⟨e, by simp, h2, hnew.2 hb, q⟩
          unfold delN
          rw [List.mem_map]
          constructor
          · rintro ⟨m, hm, rfl⟩
            obtain ⟨x, hx, hk, hf, q1, q2, q3⟩ := (ih m).1 hm
            refine ⟨x, List.mem_append_left _ hx, hk, (ho x hx).2 hf, by rw [gone_id]; exact q1, by rw [gone_side]; exact q2, ?_⟩
            rw [hd]
            by_cases hp : (evPar e) = x.dot
            · left
              refine ⟨.inr hp, ?_⟩
              unfold gone; rw [if_pos (q1.trans hp.symm)]
            · have hg : gone (evPar e) m = m := by unfold gone; rw [if_neg (fun q => hp (q.symm.trans q1))]
              rw [hg]
              rcases q3 with ⟨r, s⟩ | ⟨r, s⟩
              · exact .inl ⟨.inl r, s⟩
              · exact .inr ⟨fun q => q.elim r hp, s⟩
          · rintro ⟨x, hx, hk, hf, q1, q2, q3⟩
            rw [hd] at q3
            rcases List.mem_append.1 hx with q | q
            · have hfo := (ho x q).1 hf
              by_cases hx' : delX X (forX X) x.dot
              · refine ⟨⟨x.dot, (evPar x, x.right), 0⟩, (ih _).2 ⟨x, q, hk, hfo, rfl, rfl, .inl ⟨hx', rfl⟩⟩, ?_⟩
                have hc : n.chr = 0 := q3.elim (·.2) fun r => absurd (.inl hx') r.1
                obtain ⟨i, s, c⟩ := n
                simp only at q1 q2 hc
                subst q1 q2 hc
                unfold gone; split <;> rfl
              · refine ⟨⟨x.dot, (evPar x, x.right), x.char⟩, (ih _).2 ⟨x, q, hk, hfo, rfl, rfl, .inr ⟨hx', rfl⟩⟩, ?_⟩
                obtain ⟨i, s, c⟩ := n
                simp only at q1 q2 q3
                subst q1 q2
                unfold gone
                by_cases hp : x.dot = (evPar e)
                · rw [if_pos hp]
                  rcases q3 with ⟨-, r⟩ | ⟨r, -⟩
                  · rw [r]
                  · exact absurd (.inr hp.symm) r
                · rw [if_neg hp]
                  rcases q3 with ⟨r, -⟩ | ⟨-, r⟩
                  · rcases r with r | r
                    · exact absurd r hx'
                    · exact absurd r.symm hp
                  · rw [r]
            · rw [List.mem_singleton.1 q] at hk; omega
        · have hnf : e.dot ∉ forX (X ++ [e]) := fun q => hb (hnew.1 q)
          have hN : delN (treeX X) (evPar e) = treeX X := by
            refine delN_none ?_
            cases q : (chrN (treeX X) (evPar e)).isSome with
            | false => rfl
            | true =>
              exfalso; apply hb
              unfold actT
              rw [if_neg h1, if_pos h2, q]
          rw [hN, ih, ndX_same ho (fun q => hnf q.2) (fun q => hnf q.2)]
      · rw [if_neg h2, ih, ndX_same ho (fun q => h2 q.1) (fun q => h1 q.1)]
theorem RunX.inTree {S : List Int} {X : List Ev} (h : RunX S X) (x : Int × Int) : (chrN (treeX X) x).isSome = true ↔ ∃ e ∈ X, e.kind = 1 ∧ e.dot ∈ forX X ∧ e.dot = x := by
  rw [chrN_some]
  constructor
  · rintro ⟨n, hn, rfl⟩
    obtain ⟨e, he, hk, hf, q1, -⟩ := (h.nodes n).1 hn
    exact ⟨e, he, hk, hf, q1.symm⟩
  · rintro ⟨e, he, hk, hf, rfl⟩
    by_cases hd : delX X (forX X) e.dot
    · exact ⟨⟨e.dot, (evPar e, e.right), 0⟩, (h.nodes _).2 ⟨e, he, hk, hf, rfl, rfl, .inl ⟨hd, rfl⟩⟩, rfl⟩
    · exact ⟨⟨e.dot, (evPar e, e.right), e.char⟩, (h.nodes _).2 ⟨e, he, hk, hf, rfl, rfl, .inr ⟨hd, rfl⟩⟩, rfl⟩
def parX (L : List Ev) (F : List (Int × Int)) (x : Int × Int) : Prop := ∃ d ∈ L, d.kind = 1 ∧ d.dot ∈ F ∧ d.dot = x
def forceX (L : List Ev) (F : List (Int × Int)) (e : Ev) : Prop := (e.kind = 1 ∨ e.kind = 2) ∧ (e.kind = 1 → evPar e = (0, 0) ∨ parX L F (evPar e)) ∧ (e.kind = 2 → parX L F (evPar e))
theorem forceX_congr {L L' : List Ev} {F F' : List (Int × Int)} {e : Ev} (hr : rightB e = true) (hm : ∀ x, hasB e.past x.da x.ds = true → x ∈ L → x ∈ L') (hF : ∀ x ∈ L, hasB e.past x.da x.ds = true → x.dot ∈ F → x.dot ∈ F') : forceX L F e → forceX L' F' e := by
  have hpar : hasB e.past e.pa e.ps = true → parX L F (evPar e) → parX L' F' (evPar e) := fun hb ⟨d, hd, hk, hf, hdp⟩ => by
    have h1 : hasB e.past d.da d.ds = true := by
      have q1 : d.da = e.pa := congrArg Prod.fst hdp
      have q2 : d.ds = e.ps := congrArg Prod.snd hdp
      rw [q1, q2]; exact hb
    exact ⟨d, hm d h1 hd, hk, hF d hd h1 hf, hdp⟩
  rintro ⟨h1, h2, h3⟩
  refine ⟨h1, fun hk => ?_, fun hk => hpar (rightX_del hr hk) (h3 hk)⟩
  rcases h2 hk with q | q
  · exact .inl q
  · rcases (rightX_ins hr hk).2.2 with r | r
    · exact .inl r.1
    · exact .inr (hpar r q)
theorem RunX.acts {S : List Int} {X : List Ev} (h : RunX S X) {e : Ev} (he : e.Ok) (hr : readyB S e = true) (hl : X.length < 512) : actT (treeX X) e = true ↔ forceX X (forX X) e := by
  have hri := ((ready_iff S e).1 hr).1
  have hb := right_bounds he.dot.2.1 hri
  unfold actT forceX
  by_cases hk : e.kind = 1
  · rw [if_pos hk]
    constructor
    · intro hI
      refine ⟨.inl hk, fun _ => ?_, fun q => by omega⟩
      rcases (refI_ok (by simpa using hI)).2.2.2.2.2.1 with q | q
      · exact .inl q
      · exact .inr ((h.inTree _).1 q)
    · rintro ⟨-, hp, -⟩
      obtain ⟨c1, c2, c3⟩ := rightX_ins hri hk
      have hI : refI (treeX X) (evNd e) = 0 := by
        unfold refI
        rw [if_neg, if_neg, if_neg, if_neg]
        · have := (treeX_ok X).2; omega
        · rintro ⟨q1, q2⟩
          rcases hp hk with r | r
          · exact q1 r
          · have : (chrN (treeX X) (evNd e).side.1).isSome = true := (h.inTree _).2 r
            rw [this] at q2; cases q2
        · intro q
          obtain ⟨x, hx, -, -, hd⟩ := (h.inTree _).1 q
          exact h.fresh hr x hx hd
        · rintro (q | q | q | ⟨q1, q2⟩)
          · have : e.ds = 0 := congrArg Prod.snd q
            omega
          · have : e.char < 1 := q
            omega
          · have : 127 < e.char := q
            omega
          · rcases c3 with r | r
            · have : e.right = false := q2
              rw [r.2] at this; cases this
            · have h0 : e.ps = 0 := congrArg Prod.snd (show evPar e = (0, 0) from q1)
              rw [has_iff] at r
              exact r.2.1 h0
      rw [hI]; rfl
  · rw [if_neg hk]
    by_cases hk2 : e.kind = 2
    · rw [if_pos hk2]
      exact ⟨fun q => ⟨.inr hk2, fun r => absurd r hk, fun _ => (h.inTree _).1 q⟩, fun q => (h.inTree _).2 (q.2.2 hk2)⟩
    · rw [if_neg hk2]
      exact ⟨fun q => (by cases q), fun q => q.1.elim (fun r => absurd r hk) (fun r => absurd r hk2)⟩
theorem RunX.forces {S : List Int} {X : List Ev} (h : RunX S X) : X.length ≤ 512 → ∀ e ∈ X, (e.dot ∈ forX X ↔ forceX X (forX X) e) := by
  induction h with
  | nil => exact fun _ e he => by cases he
  | @snoc S X e h he hr ih =>
    intro hl x hx
    rw [List.length_append, List.length_singleton] at hl
    have key : ∀ y, rightB y = true → hasB y.past e.da e.ds = false → (forceX (X ++ [e]) (forX (X ++ [e])) y ↔ forceX X (forX X) y) := fun y hy hn => by
      refine ⟨forceX_congr hy (fun z hz hm => ?_) (fun z hm hz hf => ?_), forceX_congr hy (fun z _ hm => List.mem_append_left _ hm) fun z hm _ hf => (forX_old h hr hm).2 hf⟩
      · rcases List.mem_append.1 hm with q | q
        · exact q
        · rw [List.mem_singleton.1 q, hn] at hz; cases hz
      · rcases List.mem_append.1 hm with q | q
        · exact (forX_old h hr q).1 hf
        · rw [List.mem_singleton.1 q, hn] at hz; cases hz
    rcases List.mem_append.1 hx with q | q
    · rw [forX_old h hr q, key x (h.right x q).1 (h.unseen he hr q)]
      exact ih (by omega) x q
    · rw [List.mem_singleton.1 q, forX_new h hr, key e ((ready_iff S e).1 hr).1 (readyself he hr)]
      exact h.acts he hr (by omega)
theorem heard_same {S T : List Int} {X Y : List Ev} (h : RunX S X) (k : RunX T Y) (hm : ∀ e, e ∈ X ↔ e ∈ Y) (hx : X.length ≤ 512) (hy : Y.length ≤ 512) : textN (treeX X) = textN (treeX Y) ∧ (treeX X).length = (treeX Y).length := by
  have key : ∀ i (hi : i < X.length), (X[i].dot ∈ forX X ↔ X[i].dot ∈ forX Y) := fun i => by
    induction i using Nat.strongRecOn with
    | _ i ih =>
      intro hi
      have hmi := List.getElem_mem hi
      have hr := (h.right _ hmi).1
      have hF : ∀ x ∈ X, hasB X[i].past x.da x.ds = true → (x.dot ∈ forX X ↔ x.dot ∈ forX Y) := fun x hx hb => by
        obtain ⟨j, hj, rfl⟩ := List.getElem_of_mem (h.ahead i hi x hx hb)
        rw [List.length_take] at hj
        rw [List.getElem_take]
        exact ih j (by omega) (by omega)
      rw [h.forces hx _ hmi, k.forces hy _ ((hm _).1 hmi)]
      exact ⟨forceX_congr hr (fun x _ q => (hm x).1 q) fun x q hb => (hF x q hb).1, forceX_congr hr (fun x _ q => (hm x).2 q) fun x q hb => (hF x ((hm x).2 q) hb).2⟩
  have hF : ∀ x ∈ X, (x.dot ∈ forX X ↔ x.dot ∈ forX Y) := fun x hx => by
    obtain ⟨i, hi, rfl⟩ := List.getElem_of_mem hx
    exact key i hi
  have hd : ∀ x, delX X (forX X) x ↔ delX Y (forX Y) x := fun x =>
    ⟨fun ⟨d, hd, hk, hf, q⟩ => ⟨d, (hm d).1 hd, hk, (hF d hd).1 hf, q⟩, fun ⟨d, hd, hk, hf, q⟩ => ⟨d, (hm d).2 hd, hk, (hF d ((hm d).2 hd)).2 hf, q⟩⟩
  have := same_nodes (treeX_ok X).1 (treeX_ok Y).1 fun n => by
    rw [h.nodes, k.nodes]
    exact ⟨fun ⟨e, he, hk, hf, q1, q2, q3⟩ => ⟨e, (hm e).1 he, hk, (hF e he).1 hf, q1, q2, by rw [← hd]; exact q3⟩, fun ⟨e, he, hk, hf, q1, q2, q3⟩ => ⟨e, (hm e).2 he, hk, (hF e ((hm e).2 he)).2 hf, q1, q2, by rw [hd]; exact q3⟩⟩
  exact ⟨this.2.1, this.2.2⟩
structure AnsX (P : Ev → Prop) (S : List Int) (L X : List Ev) : Prop where
  run : RunX S X
  sub : ∀ e ∈ X, P e
  cov : ∀ e, P e → e ∈ L ∨ e ∈ X
  uniq : ∀ e, P e → ∀ f, P f → e.dot = f.dot → e = f
theorem AnsX.zero : AnsX (fun _ => False) zeroS [] [] := ⟨.nil, by simp, fun _ h => h.elim, fun _ h => h.elim⟩
theorem AnsX.of_iff {P Q : Ev → Prop} {S : List Int} {L X : List Ev} (h : AnsX P S L X) (hq : ∀ e, P e ↔ Q e) : AnsX Q S L X := ⟨h.run, fun e he => (hq e).1 (h.sub e he), fun e he => h.cov e ((hq e).2 he), fun e he f hf => h.uniq e ((hq e).2 he) f ((hq f).2 hf)⟩
theorem Takes.ans {P : Ev → Prop} {S : List Int} {L xs : List Ev} {S2 : List Int} {L2 : List Ev} (h : Takes S L xs S2 L2) : ∀ {X}, (∀ e ∈ L, P e) → (∀ e, P e → e.Ok) → AnsX P S L X → AnsX P S2 L2 (X ++ xs) := by
  induction h with
  | done S L h => intro X _ _ I; rw [List.append_nil]; exact I
  | step S L e xs S2 L2 hf h ht ih =>
    intro X hs hok I
    obtain ⟨hm, hr⟩ := firstR_mem h
    have hp := hs e hm
    have := ih (X := X ++ [e]) (fun x hx => hs x (mem_delE hx)) hok ⟨.snoc I.run (hok e hp) hr, fun x hx => ?_, fun x hx => ?_, I.uniq⟩
    · rw [List.append_assoc] at this
      exact this
    · rcases List.mem_append.1 hx with q | q
      · exact I.sub x q
      · rw [List.mem_singleton.1 q]; exact hp
    · by_cases hd : x.dot = e.dot
      · right
        rw [I.uniq x hx e hp hd]; simp
      · rcases I.cov x hx with q | q
        · left; exact List.mem_filter.2 ⟨q, by simpa using hd⟩
        · right; exact List.mem_append_left _ q
theorem refN_new {S : List Int} {L : List Ev} {e : Ev} (h : refN S L e = 0) : ∀ x ∈ L, x.dot ≠ e.dot := by
  refine lookE_none.1 ?_
  unfold refN at h
  split at h
  · cases h
  · split at h
    · cases h
    · split at h
      · split at h <;> cases h
      · assumption
theorem PutR.ans {P : Ev → Prop} {S : List Int} {L : List Ev} {e : Ev} {xs : List Ev} {S2 : List Int} {L2 X : List Ev} (I : Inv P S L) (J : AnsX P S L X) (he : e.Ok) (hr : refN S L e = 0) (h : PutR S L e xs S2 L2) : AnsX (fun x => P x ∨ x = e) S2 L2 (X ++ xs) := by
  rcases h with ⟨q, _⟩ | ⟨_, ht⟩
  · exact absurd hr q
  · have hno : ∀ x, P x → x.dot ≠ e.dot := fun x hx hd => by
      rcases I.cov x hx with q | q
      · exact refN_new hr x q hd
      · have h2 := (refN_zero hr).2
        have q1 : x.da = e.da := congrArg Prod.fst hd
        have q2 : x.ds = e.ds := congrArg Prod.snd hd
        rw [q1, q2, h2] at q; cases q
    refine ht.ans (fun x hx => ?_) (fun x hx => hx.elim (I.ok x) fun q => by rw [q]; exact he) ⟨J.run, fun x hx => .inl (J.sub x hx), fun x hx => ?_, fun x hx f hf hd => ?_⟩
    · rcases (mem_insE e x L).1 hx with q | q
      · exact .inr q
      · exact .inl (I.sub x q)
    · rcases hx with q | q
      · rcases J.cov x q with r | r
        · exact .inl ((mem_insE e x L).2 (.inr r))
        · exact .inr r
      · exact .inl ((mem_insE e x L).2 (.inl q))
    · rcases hx with q | q <;> rcases hf with r | r
      · exact J.uniq x q f r hd
      · rw [r] at hd; exact absurd hd (hno x q)
      · rw [q] at hd; exact absurd hd.symm (hno f r)
      · rw [q, r]
theorem AnsX.same {P Q : Ev → Prop} {S : List Int} {L X Y : List Ev} (hL : Inv P S L) (h : AnsX P S L X) (k : AnsX Q S L Y) (hpq : ∀ e, P e ↔ Q e) : ∀ e, e ∈ X ↔ e ∈ Y := by
  have key : ∀ e, hasB S e.da e.ds = true → e ∉ L := fun e h1 h2 => by
    rw [hL.excl e h2] at h1; cases h1
  exact fun e => ⟨fun q => (k.cov e ((hpq e).1 (h.sub e q))).resolve_left (key e (h.run.seen e q)), fun q => (h.cov e ((hpq e).2 (k.sub e q))).resolve_left (key e (k.run.seen e q))⟩
end Go.Proofs.Ythjkcfpdkhghpaa
