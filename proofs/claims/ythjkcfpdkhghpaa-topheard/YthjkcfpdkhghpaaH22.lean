/- Bp Cfl -/
import Derived.Test.YthjkcfpdkhghpaaH21
namespace Go.Proofs.Ythjkcfpdkhghpaa
open Go.RowKit Go.Shelf
set_option maxRecDepth 20000
set_option linter.unusedSimpArgs false
def advS (S : List Int) (xs : List Ev) : List Int := xs.foldl (fun s e => incS s e.da) S
theorem Takes.adv {S : List Int} {L xs : List Ev} {S2 : List Int} {L2 : List Ev} (h : Takes S L xs S2 L2) : advS S xs = S2 := by
  induction h with
  | done S L h => rfl
  | step S L e xs S2 L2 hf h ht ih => exact ih
theorem Takes.stop {S : List Int} {L xs : List Ev} {S2 : List Int} {L2 : List Ev} (h : Takes S L xs S2 L2) : fullB S2 = true ∨ firstR S2 L2 = none := by
  induction h with
  | done S L h => exact h
  | step S L e xs S2 L2 hf h ht ih => exact ih
theorem Takes.mid {S : List Int} {L xs : List Ev} {S2 : List Int} {L2 : List Ev} (h : Takes S L xs S2 L2) (hok : ∀ e ∈ L, e.Ok) : S.length = 8 → (∀ q ∈ S, 0 ≤ q ∧ q ≤ 4294967295) → ∀ k, (advS S (xs.take k)).length = 8 ∧ ∀ q ∈ advS S (xs.take k), 0 ≤ q ∧ q ≤ 4294967295 := by
  induction h with
  | done S L h => intro h1 h2 k; simp only [List.take_nil]; exact ⟨h1, h2⟩
  | step S L e xs S2 L2 hf h ht ih =>
    intro h1 h2 k
    cases k with
    | zero => exact ⟨h1, h2⟩
    | succ k => exact ih (fun x hx => hok x (mem_delE hx)) (by rw [incS_len]; exact h1) (incS_rng (hok e (firstR_mem h).1).dot.2.1 h2 (firstR_mem h).2) k
theorem foldl_add (l : List Int) : ∀ a : Int, l.foldl (· + ·) a = a + sumS l := by
  unfold sumS
  induction l with
  | nil => intro a; simp
  | cons x l ih => intro a; rw [List.foldl_cons, List.foldl_cons, ih, ih (0 + x)]; omega
theorem sumS_cons (x : Int) (l : List Int) : sumS (x :: l) = x + sumS l := by
  show (l.foldl (· + ·) (0 + x)) = _
  rw [foldl_add]; omega
theorem sumS_set : ∀ (l : List Int) (j : Nat) (hj : j < l.length) (v : Int), sumS (l.set j v) = sumS l - l[j] + v
  | x :: l, 0, _, v => by rw [List.set_cons_zero, sumS_cons, sumS_cons]; simp; omega
  | x :: l, j + 1, hj, v => by
    rw [List.set_cons_succ, sumS_cons, sumS_cons, sumS_set l j (by simpa using hj) v]
    simp; omega
theorem sumS_inc {S : List Int} {a : Int} (h : S.length = 8) (h0 : 0 ≤ a) (ha : a < 8) : sumS (incS S a) = sumS S + 1 := by
  unfold incS
  have hl : a.toNat < S.length := by omega
  rw [sumS_set S _ hl, List.getElem?_eq_getElem hl, Option.getD_some]
  omega
theorem Takes.sum {S : List Int} {L xs : List Ev} {S2 : List Int} {L2 : List Ev} (h : Takes S L xs S2 L2) (hok : ∀ e ∈ L, e.Ok) : S.length = 8 → sumS S2 = sumS S + xs.length := by
  induction h with
  | done S L h => intro _; simp
  | step S L e xs S2 L2 hf h ht ih =>
    intro h1
    have he := hok e (firstR_mem h).1
    have hb := right_bounds he.dot.2.1 (ready_right (firstR_mem h).2).1
    rw [ih (fun x hx => hok x (mem_delE hx)) (by rw [incS_len]; exact h1), sumS_inc h1 he.dot.1.1 hb.1, List.length_cons]
    push_cast; omega
def PutR (S : List Int) (L : List Ev) (e : Ev) (xs : List Ev) (S2 : List Int) (L2 : List Ev) : Prop :=
  (¬ refN S L e = 0 ∧ xs = [] ∧ S2 = S ∧ L2 = L) ∨ (refN S L e = 0 ∧ Takes S (insE e L) xs S2 L2)
structure Good (n : Nat) (S : List Int) (L : List Ev) : Prop where
  len : S.length = 8
  rng : ∀ q ∈ S, 0 ≤ q ∧ q ≤ 4294967295
  srt : sortedE L
  ok : ∀ e ∈ L, e.Ok
  few : L.length ≤ 16
  sum : sumS S + L.length ≤ n
  none : firstR S L = none
theorem Good.zero : Good 0 [0, 0, 0, 0, 0, 0, 0, 0] [] := ⟨rfl, by decide, List.Pairwise.nil, by simp, by simp, by decide, rfl⟩
theorem insE_ok {e : Ev} {L : List Ev} (he : e.Ok) (h : ∀ x ∈ L, x.Ok) : ∀ x ∈ insE e L, x.Ok := fun x hx => by
  rcases (mem_insE e x L).1 hx with rfl | q
  · exact he
  · exact h x q
theorem PutR.good {n : Nat} {S : List Int} {L : List Ev} {e : Ev} {xs : List Ev} {S2 : List Int} {L2 : List Ev} (g : Good n S L) (he : e.Ok) (h : PutR S L e xs S2 L2) (hs2 : sortedE L2) (hk2 : ∀ x ∈ L2, x.Ok) (hn : n < 511) : Good (n + 1) S2 L2 ∧ ∀ x ∈ xs, x.Ok := by
  rcases h with ⟨_, rfl, rfl, rfl⟩ | ⟨hr, ht⟩
  · exact ⟨⟨g.len, g.rng, g.srt, g.ok, g.few, by have := g.sum; omega, g.none⟩, by simp⟩
  · have hl := refN_look hr
    have hio := insE_ok he g.ok
    have hm := ht.mid hio g.len g.rng xs.length
    rw [List.take_length, ht.adv] at hm
    have hlen := ht.len (sorted_insE g.srt e hl)
    rw [length_insE] at hlen
    have hsum := ht.sum hio g.len
    have hgs := g.sum
    have hle : sumS S2 + L2.length ≤ (n : Int) + 1 := by rw [hsum]; omega
    refine ⟨⟨hm.1, hm.2, hs2, hk2, ht.few g.srt hl g.few hr, by push_cast; omega, ?_⟩, ht.ok hio⟩
    rcases ht.stop with q | q
    · unfold fullB at q
      have := of_decide_eq_true q
      omega
    · exact q
theorem put_any (n H b : Nat) (S : List Int) (L : List Ev) (e : Ev) (w : World) (hC : BufC w H b S L) (g : Good n S L) (he : e.Ok) (hn : n < 511) :
    Calls Try.prog 7 #[.pointer (some ⟨H, 0, none⟩), .agg e.cells.toArray] w fun r w' => ∃ y c xs S2 L2, r = .returned (.tuple #[.slice y xs.length c, .int .i64 (refN S L e)]) ∧ PutR S L e xs S2 L2 ∧ Good (n + 1) S2 L2 ∧ (∀ x ∈ xs, x.Ok) ∧ BufC w' H b S2 L2 ∧ OwnI w' w.heap.size 38 17 (.slice y xs.length c) (xs.map Ev.cells) ∧ Turn (fun k => k = b ∨ k = H) w w' := by
  by_cases hr : refN S L e = 0
  · refine (put_ok H b S L e w hC he g.few hr).mono ?_
    rintro r w' ⟨v, xs, S2, L2, rfl, ht, hC2, hO, hT⟩
    obtain ⟨y, c, rfl⟩ := hO.isSlice
    rw [List.length_map] at hO ⊢
    have hp : PutR S L e xs S2 L2 := .inr ⟨hr, ht⟩
    have hg := hp.good g he hC2.wait.sorted hC2.wait.ok hn
    exact ⟨y, c, xs, S2, L2, by rw [hr], hp, hg.1, hg.2, hC2, hO, hT⟩
  · refine (put_no H b S L e w hC he g.few hr).mono ?_
    rintro r w' ⟨rfl, hB⟩
    have hp : PutR S L e [] S L := .inl ⟨hr, rfl, rfl, rfl⟩
    have hg := hp.good g he g.srt g.ok hn
    exact ⟨none, 0, [], S, L, rfl, hp, hg.1, hg.2, hC.far hB, OwnI.nil _ _ _ _, Turn.of_below hB⟩
def zeroS : List Int := [0, 0, 0, 0, 0, 0, 0, 0]
def leS (a b : List Int) : Prop := ∀ k, k < 8 → a[k]?.getD 0 ≤ b[k]?.getD 0
theorem within_iff (a b : List Int) : ∀ n, withinTo a b n = true ↔ ∀ k, k < n → a[k]?.getD 0 ≤ b[k]?.getD 0
  | 0 => by simp [withinTo]
  | n + 1 => by
    rw [withinTo, Bool.and_eq_true, within_iff a b n]
    simp only [Bool.not_eq_true', decide_eq_false_iff_not, Int.not_lt, gt_iff_lt]
    constructor
    · rintro ⟨h1, h2⟩ k hk
      by_cases e : k = n
      · rw [e]; exact h2
      · exact h1 k (by omega)
    · intro h; exact ⟨fun k hk => h k (by omega), h n (by omega)⟩
theorem incS_get {S : List Int} {a : Int} (h : S.length = 8) (ha : a.toNat < 8) (k : Nat) : (incS S a)[k]?.getD 0 = if k = a.toNat then S[k]?.getD 0 + 1 else S[k]?.getD 0 := by
  unfold incS
  by_cases e : k = a.toNat
  · rw [if_pos e, e, List.getElem?_set_self (by omega)]; rfl
  · rw [if_neg e, List.getElem?_set_ne (by omega)]
inductive Reach (P : Ev → Prop) : List Int → Prop
  | zero : Reach P zeroS
  | step (S : List Int) (e : Ev) (h : Reach P S) (hp : P e) (hr : readyB S e = true) : Reach P (incS S e.da)
theorem Reach.mono {P Q : Ev → Prop} {S : List Int} (h : Reach P S) (hq : ∀ e, P e → Q e) : Reach Q S := by
  induction h with
  | zero => exact .zero
  | step S e h hp hr ih => exact .step S e ih (hq e hp) hr
theorem Reach.len {P : Ev → Prop} {S : List Int} (h : Reach P S) : S.length = 8 := by
  induction h with
  | zero => rfl
  | step S e h hp hr ih => rw [incS_len]; exact ih
theorem ready_iff (S : List Int) (e : Ev) : readyB S e = true ↔ rightB e = true ∧ S[e.da.toNat]?.getD 0 = e.ds - 1 ∧ withinB e.past S = true := by
  unfold readyB; simp only [Bool.and_eq_true, beq_iff_eq]
theorem Reach.le {P : Ev → Prop} {S T : List Int} (h : Reach P S) (hP : ∀ e, P e → e.Ok) (h0 : ∀ k : Nat, 0 ≤ T[k]?.getD 0) (hn : ∀ e, P e → readyB T e = false) : leS S T := by
  induction h with
  | zero =>
    intro k hk
    have := h0 k
    have hz : zeroS[k]?.getD 0 = 0 := by
      unfold zeroS
      match k with
      | 0 | 1 | 2 | 3 | 4 | 5 | 6 | 7 => rfl
      | k + 8 => omega
    omega
  | step S e h hp hr ih =>
    intro k hk
    obtain ⟨r1, r2, r3⟩ := (ready_iff S e).1 hr
    have hb := right_bounds (hP e hp).dot.2.1 r1
    have ha := (hP e hp).dot.1.1
    rw [incS_get h.len (by omega)]
    have hk1 := ih k hk
    split
    · rename_i e1
      by_cases hc : S[k]?.getD 0 + 1 ≤ T[k]?.getD 0
      · exact hc
      · exfalso
        have : readyB T e = true := (ready_iff T e).2 ⟨r1, by rw [← e1]; rw [← e1] at r2; omega, (within_iff _ _ 8).2 fun j hj => by
          have := (within_iff _ _ 8).1 r3 j hj
          have := ih j hj
          omega⟩
        rw [hn e hp] at this
        cases this
    · exact hk1
structure Inv (P : Ev → Prop) (S : List Int) (L : List Ev) : Prop where
  reach : Reach P S
  sub : ∀ e ∈ L, P e
  cov : ∀ e, P e → e ∈ L ∨ hasB S e.da e.ds = true
  excl : ∀ e ∈ L, hasB S e.da e.ds = false
  right : ∀ e, P e → rightB e = true
  ok : ∀ e, P e → e.Ok
theorem Inv.zero : Inv (fun _ => False) zeroS [] := ⟨.zero, by simp, fun _ h => h.elim, by simp, fun _ h => h.elim, fun _ h => h.elim⟩
theorem Inv.of_iff {P Q : Ev → Prop} {S : List Int} {L : List Ev} (h : Inv P S L) (hq : ∀ e, P e ↔ Q e) : Inv Q S L :=
  ⟨h.reach.mono fun e => (hq e).1, fun e he => (hq e).1 (h.sub e he), fun e he => h.cov e ((hq e).2 he), h.excl, fun e he => h.right e ((hq e).2 he), fun e he => h.ok e ((hq e).2 he)⟩
theorem has_iff (S : List Int) (a s : Int) : hasB S a s = true ↔ a < 8 ∧ s ≠ 0 ∧ s ≤ S[a.toNat]?.getD 0 := by
  unfold hasB; simp only [Bool.and_eq_true, decide_eq_true_eq, Bool.not_eq_true', beq_eq_false_iff_ne, ne_eq]
theorem Takes.inv {P : Ev → Prop} {S : List Int} {L xs : List Ev} {S2 : List Int} {L2 : List Ev} (h : Takes S L xs S2 L2) : Inv P S L → Inv P S2 L2 := by
  induction h with
  | done S L h => exact id
  | step S L e xs S2 L2 hf h ht ih =>
    intro I
    refine ih ?_
    obtain ⟨hm, hr⟩ := firstR_mem h
    have hp := I.sub e hm
    obtain ⟨r1, r2, r3⟩ := (ready_iff S e).1 hr
    have hb := right_bounds (I.ok e hp).dot.2.1 r1
    have ha := (I.ok e hp).dot.1.1
    have hl := I.reach.len
    refine ⟨.step S e I.reach hp hr, fun x hx => I.sub x (mem_delE hx), fun x hx => ?_, fun x hx => ?_, I.right, I.ok⟩
    · by_cases hd : x.dot = e.dot
      · right
        have h1 : x.da = e.da := congrArg Prod.fst hd
        have h2 : x.ds = e.ds := congrArg Prod.snd hd
        rw [h1, h2, has_iff, incS_get hl (by omega), if_pos rfl]
        exact ⟨hb.1, by omega, by omega⟩
      · rcases I.cov x hx with q | q
        · left; exact List.mem_filter.2 ⟨q, by simpa using hd⟩
        · right
          rw [has_iff] at q ⊢
          rw [incS_get hl (by omega)]
          refine ⟨q.1, q.2.1, ?_⟩
          split <;> omega
    · have hx2 := List.mem_filter.1 hx
      have hxd : x.dot ≠ e.dot := by simpa using hx2.2
      have hx0 := I.excl x hx2.1
      have hpx := I.sub x hx2.1
      have hxa := (I.ok x hpx).dot.1.1
      rw [← Bool.not_eq_true, has_iff] at hx0 ⊢
      rw [incS_get hl (by omega)]
      rintro ⟨q1, q2, q3⟩
      split at q3
      · rename_i e1
        have hda : x.da = e.da := by omega
        have hds : x.ds ≠ e.ds := fun q => hxd (Prod.ext hda q)
        rw [e1] at q3 hx0
        exact hx0 ⟨q1, q2, by omega⟩
      · exact hx0 ⟨q1, q2, q3⟩
theorem refN_zero {S : List Int} {L : List Ev} {e : Ev} (hr : refN S L e = 0) : rightB e = true ∧ hasB S e.da e.ds = false := by
  unfold refN at hr
  split at hr
  · cases hr
  · rename_i h1
    split at hr
    · cases hr
    · rename_i h2
      exact ⟨by simpa using h1, by simpa using h2⟩
theorem PutR.inv {P : Ev → Prop} {S : List Int} {L : List Ev} {e : Ev} {xs : List Ev} {S2 : List Int} {L2 : List Ev} (I : Inv P S L) (he : e.Ok) (hr : refN S L e = 0) (h : PutR S L e xs S2 L2) : Inv (fun x => P x ∨ x = e) S2 L2 := by
  rcases h with ⟨q, _⟩ | ⟨_, ht⟩
  · exact absurd hr q
  · obtain ⟨h1, h2⟩ := refN_zero hr
    refine ht.inv ⟨I.reach.mono fun x => .inl, fun x hx => ?_, fun x hx => ?_, fun x hx => ?_, fun x hx => ?_, fun x hx => ?_⟩
    · rcases (mem_insE e x L).1 hx with q | q
      · exact .inr q
      · exact .inl (I.sub x q)
    · rcases hx with q | q
      · rcases I.cov x q with r | r
        · exact .inl ((mem_insE e x L).2 (.inr r))
        · exact .inr r
      · exact .inl ((mem_insE e x L).2 (.inl q))
    · rcases (mem_insE e x L).1 hx with q | q
      · rw [q]; exact h2
      · exact I.excl x q
    · rcases hx with q | q
      · exact I.right x q
      · rw [q]; exact h1
    · rcases hx with q | q
      · exact I.ok x q
      · rw [q]; exact he
theorem Inv.idle {P : Ev → Prop} {S : List Int} {L : List Ev} (I : Inv P S L) (h : firstR S L = none) : ∀ e, P e → readyB S e = false := fun e he => by
  rw [← Bool.not_eq_true]
  intro q
  obtain ⟨r1, r2, r3⟩ := (ready_iff S e).1 q
  rcases I.cov e he with m | m
  · unfold firstR at h
    rw [List.find?_eq_none] at h
    exact h e m q
  · have := ((has_iff _ _ _).1 m).2.2; omega
theorem sorted_ext : ∀ {L M : List Ev}, sortedE L → sortedE M → (∀ x, x ∈ L ↔ x ∈ M) → L = M
  | [], [], _, _, _ => rfl
  | [], y :: M, _, _, h => absurd ((h y).2 (by simp)) (by simp)
  | x :: L, [], _, _, h => absurd ((h x).1 (by simp)) (by simp)
  | x :: L, y :: M, hL, hM, h => by
    have hL' := List.pairwise_cons.1 hL
    have hM' := List.pairwise_cons.1 hM
    have hxy : x = y := by
      rcases List.mem_cons.1 ((h x).1 (by simp)) with q | q
      · exact q
      · rcases List.mem_cons.1 ((h y).2 (by simp)) with r | r
        · exact r.symm
        · have h1 := hM'.1 x q
          have h2 := hL'.1 y r
          rw [ltD_asymm h1] at h2; cases h2
    subst hxy
    congr 1
    refine sorted_ext hL'.2 hM'.2 fun z => ⟨fun hz => ?_, fun hz => ?_⟩
    · rcases List.mem_cons.1 ((h z).1 (List.mem_cons_of_mem _ hz)) with q | q
      · have := hL'.1 z hz; rw [q, ltD_irrefl] at this; cases this
      · exact q
    · rcases List.mem_cons.1 ((h z).2 (List.mem_cons_of_mem _ hz)) with q | q
      · have := hM'.1 z hz; rw [q, ltD_irrefl] at this; cases this
      · exact q
theorem nn_get {S : List Int} (h : ∀ q ∈ S, 0 ≤ q ∧ q ≤ 4294967295) (k : Nat) : 0 ≤ S[k]?.getD 0 := by
  by_cases hk : k < S.length
  · rw [List.getElem?_eq_getElem hk]; exact (h _ (List.getElem_mem hk)).1
  · rw [List.getElem?_eq_none (by omega)]; exact Int.le_refl _
theorem leS_eq {S T : List Int} (h1 : S.length = 8) (h2 : T.length = 8) (a : leS S T) (b : leS T S) : S = T := by
  apply List.ext_getElem (by omega)
  intro k hk hk2
  have x := a k (by omega)
  have y := b k (by omega)
  rw [List.getElem?_eq_getElem hk, List.getElem?_eq_getElem hk2] at x y
  simp only [Option.getD_some] at x y
  omega
theorem conf {P Q : Ev → Prop} {n m : Nat} {S T : List Int} {L M : List Ev} (I : Inv P S L) (J : Inv Q T M) (h : ∀ e, P e ↔ Q e) (g : Good n S L) (k : Good m T M) : S = T ∧ L = M := by
  have J := J.of_iff fun e => (h e).symm
  have hST : S = T := leS_eq g.len k.len (I.reach.le I.ok (nn_get k.rng) (J.idle k.none)) (J.reach.le J.ok (nn_get g.rng) (I.idle g.none))
  subst hST
  refine ⟨rfl, sorted_ext g.srt k.srt fun x => ⟨fun hx => ?_, fun hx => ?_⟩⟩
  · rcases J.cov x (I.sub x hx) with q | q
    · exact q
    · rw [I.excl x hx] at q; cases q
  · rcases I.cov x (J.sub x hx) with q | q
    · exact q
    · rw [J.excl x hx] at q; cases q
end Go.Proofs.Ythjkcfpdkhghpaa
