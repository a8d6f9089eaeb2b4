/- What a buffer becomes by 'Put', one behind the other: pure, and the contract of 'Put' as one. -/
import Derived.Test.YtmoabomoodddkaaBf8
namespace Go.Proofs.Ytmoabomoodddkaa
open Go.RowKit Go.Shelf
set_option maxRecDepth 20000
set_option linter.unusedSimpArgs false
def advS (S : List Int) (xs : List Ev) : List Int := xs.foldl (fun s e => incS s e.da) S
theorem advS_cons (S : List Int) (e : Ev) (xs : List Ev) : advS S (e :: xs) = advS (incS S e.da) xs := rfl
theorem Takes.adv {S : List Int} {L xs : List Ev} {S2 : List Int} {L2 : List Ev} (h : Takes S L xs S2 L2) : advS S xs = S2 := by
  induction h with
  | done S L h => rfl
  | step S L e xs S2 L2 hf h ht ih => exact ih
theorem Takes.stop {S : List Int} {L xs : List Ev} {S2 : List Int} {L2 : List Ev} (h : Takes S L xs S2 L2) : fullB S2 = true ∨ firstR S2 L2 = none := by
  induction h with
  | done S L h => exact h
  | step S L e xs S2 L2 hf h ht ih => exact ih
theorem Takes.rdy {S : List Int} {L xs : List Ev} {S2 : List Int} {L2 : List Ev} (h : Takes S L xs S2 L2) : ∀ k (hk : k < xs.length), readyB (advS S (xs.take k)) xs[k] = true := by
  induction h with
  | done S L h => intro k hk; cases hk
  | step S L e xs S2 L2 hf h ht ih =>
    intro k hk
    cases k with
    | zero => exact (firstR_mem h).2
    | succ k => exact ih k (by simpa using hk)
theorem Takes.mid {S : List Int} {L xs : List Ev} {S2 : List Int} {L2 : List Ev} (h : Takes S L xs S2 L2) (hok : ∀ e ∈ L, e.Ok) : S.length = 8 → (∀ q ∈ S, 0 ≤ q ∧ q ≤ 4294967295) → ∀ k, (advS S (xs.take k)).length = 8 ∧ ∀ q ∈ advS S (xs.take k), 0 ≤ q ∧ q ≤ 4294967295 := by
  induction h with
  | done S L h => intro h1 h2 k; simp only [List.take_nil]; exact ⟨h1, h2⟩
  | step S L e xs S2 L2 hf h ht ih =>
    intro h1 h2 k
    cases k with
    | zero => exact ⟨h1, h2⟩
    | succ k => exact ih (fun x hx => hok x (mem_delE hx)) (by rw [incS_len]; exact h1) (incS_rng (hok e (firstR_mem h).1).dot.2.1 h2 (firstR_mem h).2) k
theorem foldl_add (l : List Int) : ∀ a : Int, l.foldl (· + ·) a = a + sumS l := by
  unfold sumS
  induction l with
  | nil => intro a; simp
  | cons x l ih => intro a; rw [List.foldl_cons, List.foldl_cons, ih, ih (0 + x)]; omega
theorem sumS_cons (x : Int) (l : List Int) : sumS (x :: l) = x + sumS l := by
  show (l.foldl (· + ·) (0 + x)) = _
  rw [foldl_add]; omega
theorem sumS_set : ∀ (l : List Int) (j : Nat) (hj : j < l.length) (v : Int), sumS (l.set j v) = sumS l - l[j] + v
  | x :: l, 0, _, v => by rw [List.set_cons_zero, sumS_cons, sumS_cons]; simp; omega
  | x :: l, j + 1, hj, v => by
    rw [List.set_cons_succ, sumS_cons, sumS_cons, sumS_set l j (by simpa using hj) v]
    simp; omega
theorem sumS_inc {S : List Int} {a : Int} (h : S.length = 8) (h0 : 0 ≤ a) (ha : a < 8) : sumS (incS S a) = sumS S + 1 := by
  unfold incS
  have hl : a.toNat < S.length := by omega
  rw [sumS_set S _ hl, List.getElem?_eq_getElem hl, Option.getD_some]
  omega
theorem Takes.sum {S : List Int} {L xs : List Ev} {S2 : List Int} {L2 : List Ev} (h : Takes S L xs S2 L2) (hok : ∀ e ∈ L, e.Ok) : S.length = 8 → sumS S2 = sumS S + xs.length := by
  induction h with
  | done S L h => intro _; simp
  | step S L e xs S2 L2 hf h ht ih =>
    intro h1
    have he := hok e (firstR_mem h).1
    have hb := right_bounds he.dot.2.1 (ready_right (firstR_mem h).2).1
    rw [ih (fun x hx => hok x (mem_delE hx)) (by rw [incS_len]; exact h1), sumS_inc h1 he.dot.1.1 hb.1, List.length_cons]
    push_cast; omega
/-- What 'Put' does. -/
def PutR (S : List Int) (L : List Ev) (e : Ev) (xs : List Ev) (S2 : List Int) (L2 : List Ev) : Prop :=
  (¬ refN S L e = 0 ∧ xs = [] ∧ S2 = S ∧ L2 = L) ∨ (refN S L e = 0 ∧ Takes S (insE e L) xs S2 L2)
theorem PutR.det {S : List Int} {L : List Ev} {e : Ev} {xs ys : List Ev} {S2 S3 : List Int} {L2 L3 : List Ev} (h : PutR S L e xs S2 L2) (k : PutR S L e ys S3 L3) : xs = ys ∧ S2 = S3 ∧ L2 = L3 := by
  rcases h with ⟨h, rfl, rfl, rfl⟩ | ⟨h, h2⟩
  · rcases k with ⟨k, rfl, rfl, rfl⟩ | ⟨k, k2⟩
    · exact ⟨rfl, rfl, rfl⟩
    · exact absurd k h
  · rcases k with ⟨k, rfl, rfl, rfl⟩ | ⟨k, k2⟩
    · exact absurd h k
    · exact h2.det k2
/-- Behind n puts. -/
structure Good (n : Nat) (S : List Int) (L : List Ev) : Prop where
  len : S.length = 8
  rng : ∀ q ∈ S, 0 ≤ q ∧ q ≤ 4294967295
  srt : sortedE L
  ok : ∀ e ∈ L, e.Ok
  few : L.length ≤ 16
  sum : sumS S + L.length ≤ n
  none : firstR S L = none
theorem Good.zero : Good 0 [0, 0, 0, 0, 0, 0, 0, 0] [] := ⟨rfl, by decide, List.Pairwise.nil, by simp, by simp, by decide, rfl⟩
theorem insE_ok {e : Ev} {L : List Ev} (he : e.Ok) (h : ∀ x ∈ L, x.Ok) : ∀ x ∈ insE e L, x.Ok := fun x hx => by
  rcases (mem_insE e x L).1 hx with rfl | q
  · exact he
  · exact h x q
theorem PutR.good {n : Nat} {S : List Int} {L : List Ev} {e : Ev} {xs : List Ev} {S2 : List Int} {L2 : List Ev} (g : Good n S L) (he : e.Ok) (h : PutR S L e xs S2 L2) (hs2 : sortedE L2) (hk2 : ∀ x ∈ L2, x.Ok) (hn : n < 511) : Good (n + 1) S2 L2 ∧ ∀ x ∈ xs, x.Ok := by
  rcases h with ⟨_, rfl, rfl, rfl⟩ | ⟨hr, ht⟩
  · exact ⟨⟨g.len, g.rng, g.srt, g.ok, g.few, by have := g.sum; omega, g.none⟩, by simp⟩
  · have hl := refN_look hr
    have hio := insE_ok he g.ok
    have hm := ht.mid hio g.len g.rng xs.length
    rw [List.take_length, ht.adv] at hm
    have hlen := ht.len (sorted_insE g.srt e hl)
    rw [length_insE] at hlen
    have hsum := ht.sum hio g.len
    have hgs := g.sum
    have hle : sumS S2 + L2.length ≤ (n : Int) + 1 := by rw [hsum]; omega
    refine ⟨⟨hm.1, hm.2, hs2, hk2, ht.few g.srt hl g.few hr, by push_cast; omega, ?_⟩, ht.ok hio⟩
    rcases ht.stop with q | q
    · unfold fullB at q
      have := of_decide_eq_true q
      omega
    · exact q
theorem put_any (n H b : Nat) (S : List Int) (L : List Ev) (e : Ev) (w : World) (hC : BufC w H b S L) (g : Good n S L) (he : e.Ok) (hn : n < 511) :
    Calls Try.prog 28 #[.pointer (some ⟨H, 0, none⟩), .agg e.cells.toArray] w fun r w' => ∃ y c xs S2 L2, r = .returned (.tuple #[.slice y xs.length c, .int .i64 (refN S L e)]) ∧ PutR S L e xs S2 L2 ∧ Good (n + 1) S2 L2 ∧ (∀ x ∈ xs, x.Ok) ∧ BufC w' H b S2 L2 ∧ OwnI w' w.heap.size 37 17 (.slice y xs.length c) (xs.map Ev.cells) ∧ Turn (fun k => k = b ∨ k = H) w w' := by
  by_cases hr : refN S L e = 0
  · refine (put_ok H b S L e w hC he g.few hr).mono ?_
    rintro r w' ⟨v, xs, S2, L2, rfl, ht, hC2, hO, hT⟩
    obtain ⟨y, c, rfl⟩ := hO.isSlice
    rw [List.length_map] at hO ⊢
    have hp : PutR S L e xs S2 L2 := .inr ⟨hr, ht⟩
    have hg := hp.good g he hC2.wait.sorted hC2.wait.ok hn
    exact ⟨y, c, xs, S2, L2, by rw [hr], hp, hg.1, hg.2, hC2, hO, hT⟩
  · refine (put_no H b S L e w hC he g.few hr).mono ?_
    rintro r w' ⟨rfl, hB⟩
    have hp : PutR S L e [] S L := .inl ⟨hr, rfl, rfl, rfl⟩
    have hg := hp.good g he g.srt g.ok hn
    exact ⟨none, 0, [], S, L, rfl, hp, hg.1, hg.2, hC.far hB, OwnI.nil _ _ _ _, Turn.of_below hB⟩
end Go.Proofs.Ytmoabomoodddkaa
