/- StrC Fg24 Dc1 -/
import Derived.Test.YtgmbmdmbnpkbbaaM14
import Derived.Test.YtgmbmdmbnpkbbaaM33
import Derived.Test.YtgmbmdmbnpkbbaaM19
import Derived.Test.YtgmbmdmbnpkbbaaM26
import Derived.Test.YtgmbmdmbnpkbbaaM15
namespace Go.Proofs.Ytgmbmdmbnpkbbaa
open Go.RowKit
open Go.RowKit Go.Shelf
set_option maxRecDepth 20000
set_option linter.unusedSimpArgs false
theorem flat_one (z : List Int) : (z.map fun c => [Value.int .u8 c]).flatten = z.map (Value.int .u8) := by
  induction z with
  | nil => rfl
  | cons a z ih => simp only [List.map_cons, List.flatten_cons, ih]; rfl
theorem OwnI.toB {w : World} {base : Nat} {v : Value} {z : List Int} (h : OwnI w base 5 1 v (z.map fun c => [.int .u8 c])) : OwnB w base v z := by
  have := h.own
  rw [List.length_map, flat_one] at this
  exact this
theorem text_map (N : List Nd) : (wrN N).map (chrC N) = (textN N).map fun c => [Value.int .u8 c] := by unfold textN; rw [List.map_map]; rfl
theorem textB_any (base R bc bn : Nat) (N : List Nd) (V : (Int × Int) × Bool → Value) (hN : TreeOk N) (hlen : N.length ≤ 1000) (w : World) (hTr : TreeAt w base R bc bn N V) :
    Calls Try.prog 32 #[.pointer (some ⟨R, 0, none⟩)] w fun e w' => ∃ v, e = .returned v ∧ OwnB w' w.heap.size v (textN N) ∧ Below w.heap.size w w' :=
  (textT_any base R bc bn N V hN hlen w hTr).mono fun e w' ⟨v, h1, h2, h3⟩ => ⟨v, h1, by rw [text_map] at h2; exact h2.toB, h3⟩
theorem TreeOk.nil : TreeOk [] := ⟨Rooted.nil, fun _ h => by simp at h⟩
theorem refI_ok {N : List Nd} {n : Nd} (h : refI N n = 0) : n.id ≠ (0, 0) ∧ 1 ≤ n.chr ∧ n.chr ≤ 127 ∧ (n.side.1 = (0, 0) → n.side.2 = true) ∧ (chrN N n.id).isSome = false ∧ (n.side.1 = (0, 0) ∨ (chrN N n.side.1).isSome = true) ∧ N.length < 512 := by
  unfold refI at h
  split at h
  · cases h
  · next h1 =>
    split at h
    · cases h
    · next h2 =>
      split at h
      · cases h
      · next h3 =>
        split at h
        · cases h
        · next h4 =>
          simp only [not_or, not_and] at h1
          refine ⟨h1.1, by omega, by omega, fun q => by simpa using h1.2.2.2 q, by simpa using h2, ?_, by omega⟩
          by_cases q : n.side.1 = (0, 0)
          · exact .inl q
          · refine .inr ?_
            cases q2 : (chrN N n.side.1).isSome with
            | false => exact absurd ⟨q, q2⟩ h3
            | true => rfl
theorem TreeOk.ins {N : List Nd} (h : TreeOk N) (n : Nd) : TreeOk (insN N n) := by
  unfold insN
  split
  · next hr =>
    obtain ⟨h1, -, -, h4, h5, h6, -⟩ := refI_ok hr
    refine ⟨h.rooted.snoc n h1 (chrN_fresh h5) (h6.imp id fun q => ?_), fun m hm hq => ?_⟩
    · obtain ⟨m, hm, e⟩ := chrN_some.1 q
      exact ⟨m, hm, e⟩
    · rcases List.mem_append.1 hm with q | q
      · exact h.right m q hq
      · rw [List.mem_singleton.1 q] at hq ⊢; exact h4 hq
  · exact h
theorem insN_len {N : List Nd} {n : Nd} : (insN N n).length ≤ N.length + 1 := by
  unfold insN
  split
  · simp
  · omega
structure Ds where
  N : List Nd
  B : List Ent
  S : List Int
  L : List Ev
  F : List (Int × Int)
def Ev.nd (e : Ev) : Nd := ⟨e.dot, ((e.pa, e.ps), e.right), e.char⟩
def Ev.par (e : Ev) : Int × Int := (e.pa, e.ps)
def mayB (st : Ds) (e : Ev) (least : Int) : Bool := decide (least ≤ roleP st.B e.da e.past)
def actB (st : Ds) (e : Ev) : Bool :=
  if e.kind = 1 then mayB st e 2 && (refI st.N e.nd == 0) else if e.kind = 2 then mayB st e 2 && (chrN st.N e.par).isSome else mayB st e 3 && (refB st.B e == 0)
def actN (st : Ds) (e : Ev) : List Nd :=
  if e.kind = 1 then (if mayB st e 2 = true then insN st.N e.nd else st.N) else if e.kind = 2 then (if mayB st e 2 = true then delN st.N e.par else st.N) else st.N
def actK (st : Ds) (e : Ev) : List Ent := if e.kind = 1 ∨ e.kind = 2 then st.B else if mayB st e 3 = true then addB st.B e else st.B
def stepS (S : List Int) (a : Int) : List Int := S.set a.toNat (S[a.toNat]?.getD 0 + 1)
def actF (st : Ds) (e : Ev) : List (Int × Int) := if actB st e = true then st.F ++ [e.dot] else st.F
def apS (st : Ds) (e : Ev) : Ds := ⟨actN st e, actK st e, stepS st.S e.da, st.L ++ [e], actF st e⟩
def refD (st : Ds) (e : Ev) : Int := if rightB e = false then 3 else if hasB st.S e.da e.ds = true then 5 else if readyB st.S e = false then 6 else if 512 ≤ st.L.length then 10 else 0
def doS (st : Ds) (e : Ev) : Ds := if refD st e = 0 then apS st e else st
def newS : Ds := ⟨[], [], [0, 0, 0, 0, 0, 0, 0, 0], [], []⟩
structure GoodD (st : Ds) : Prop where
  tree : TreeOk st.N
  nlen : st.N.length ≤ st.L.length
  blen : st.B.length ≤ st.L.length
  flen : st.F.length ≤ st.L.length
  slen : st.S.length = 8
  sval : ∀ x ∈ st.S, 0 ≤ x ∧ x ≤ (st.L.length : Int)
  llen : st.L.length ≤ 512
  lok : ∀ e ∈ st.L, e.Ok
theorem GoodD.new : GoodD newS := ⟨TreeOk.nil, Nat.le_refl _, Nat.le_refl _, Nat.le_refl _, rfl, fun x hx => by
  have : x = 0 := by simpa [newS] using hx
  subst this; decide, Nat.zero_le _, fun e he => by simp [newS] at he⟩
theorem stepS_len (S : List Int) (a : Int) : (stepS S a).length = S.length := by unfold stepS; rw [List.length_set]
theorem addB_len (L : List Ent) (e : Ev) : (addB L e).length ≤ L.length + 1 := by unfold addB; split <;> simp
theorem refD_zero {st : Ds} {e : Ev} (h : refD st e = 0) : rightB e = true ∧ hasB st.S e.da e.ds = false ∧ readyB st.S e = true ∧ st.L.length < 512 := by
  unfold refD at h
  split at h
  · cases h
  · rename_i h1
    split at h
    · cases h
    · rename_i h2
      split at h
      · cases h
      · rename_i h3
        split at h
        · cases h
        · rename_i h4
          exact ⟨by simpa using h1, by simpa using h2, by simpa using h3, by omega⟩
theorem rightB_kind {e : Ev} (h : rightB e = true) : e.kind = 1 ∨ e.kind = 2 ∨ e.kind = 3 ∨ e.kind = 4 := by
  unfold rightB rightKB at h
  by_cases h1 : e.kind = 1
  · exact .inl h1
  · by_cases h2 : e.kind = 2
    · exact .inr (.inl h2)
    · by_cases h3 : e.kind = 3
      · exact .inr (.inr (.inl h3))
      · by_cases h4 : e.kind = 4
        · exact .inr (.inr (.inr h4))
        · rw [if_neg h1, if_neg h2, if_neg h3, if_neg h4, Bool.and_false] at h; cases h
theorem rightB_author {e : Ev} (h : rightB e = true) : e.da < 8 := by
  unfold rightB rightDotB at h
  simp only [Bool.and_eq_true, decide_eq_true_eq] at h
  exact h.1.1
theorem GoodD.actN {st : Ds} (h : GoodD st) (e : Ev) : TreeOk (actN st e) ∧ (actN st e).length ≤ st.N.length + 1 := by
  unfold Go.Proofs.Ytgmbmdmbnpkbbaa.actN
  split
  · split
    · exact ⟨h.tree.ins _, insN_len⟩
    · exact ⟨h.tree, Nat.le_succ _⟩
  · split
    · split
      · exact ⟨h.tree.del _, by rw [delN_len]; exact Nat.le_succ _⟩
      · exact ⟨h.tree, Nat.le_succ _⟩
    · exact ⟨h.tree, Nat.le_succ _⟩
theorem actK_len (st : Ds) (e : Ev) : (actK st e).length ≤ st.B.length + 1 := by
  unfold actK
  split
  · exact Nat.le_succ _
  · split
    · exact addB_len _ _
    · exact Nat.le_succ _
theorem actF_len (st : Ds) (e : Ev) : (actF st e).length ≤ st.F.length + 1 := by
  unfold actF
  split
  · rw [List.length_append, List.length_singleton]; exact Nat.le_refl _
  · exact Nat.le_succ _
theorem stepS_val {S : List Int} {a : Int} {n : Nat} (h : ∀ x ∈ S, 0 ≤ x ∧ x ≤ (n : Int)) : ∀ x ∈ stepS S a, 0 ≤ x ∧ x ≤ ((n + 1 : Nat) : Int) := fun x hx => by
  have hg : 0 ≤ S[a.toNat]?.getD 0 ∧ S[a.toNat]?.getD 0 ≤ (n : Int) := by
    cases hq : S[a.toNat]? with
    | none => exact ⟨Int.le_refl _, by simp⟩
    | some y => exact h y (List.mem_of_getElem? hq)
  unfold stepS at hx
  rcases List.mem_or_eq_of_mem_set hx with q | q
  · have := h x q; push_cast; omega
  · rw [q]; push_cast; omega
theorem GoodD.ap {st : Ds} (h : GoodD st) {e : Ev} (he : e.Ok) (hr : refD st e = 0) : GoodD (apS st e) where
  tree := (h.actN e).1
  nlen := by have := (h.actN e).2; have := h.nlen; unfold apS; rw [List.length_append, List.length_singleton]; show (Go.Proofs.Ytgmbmdmbnpkbbaa.actN st e).length ≤ _; omega
  blen := by have := actK_len st e; have := h.blen; unfold apS; rw [List.length_append, List.length_singleton]; show (actK st e).length ≤ _; omega
  flen := by have := actF_len st e; have := h.flen; unfold apS; rw [List.length_append, List.length_singleton]; show (actF st e).length ≤ _; omega
  slen := by unfold apS; rw [stepS_len]; exact h.slen
  sval := by unfold apS; rw [List.length_append, List.length_singleton]; exact stepS_val h.sval
  llen := by have := (refD_zero hr).2.2.2; unfold apS; rw [List.length_append, List.length_singleton]; show st.L.length + 1 ≤ _; omega
  lok := fun x hx => by
    rcases List.mem_append.1 hx with q | q
    · exact h.lok x q
    · rw [List.mem_singleton.1 q]; exact he
theorem GoodD.does {st : Ds} (h : GoodD st) {e : Ev} (he : e.Ok) : GoodD (doS st e) := by
  unfold doS
  split
  · exact h.ap he ‹_›
  · exact h
structure Pl where
  D : Nat
  R : Nat
  bc : Nat
  bn : Nat
  V : (Int × Int) × Bool → Value
  H : Nat
  bk : Nat
  v : Value
  fm : Nat
def forM (F : List (Int × Int)) (x : Int × Int) : Option Value := if x ∈ F then some (.agg #[]) else none
def docC (st : Ds) (p : Pl) : List Value := [.pointer (some ⟨p.R, 0, none⟩), .pointer (some ⟨p.H, 0, none⟩)] ++ st.S.map (Value.int .u32) ++ [p.v, .map (some p.fm)]
structure ApartD (p : Pl) : Prop where
  tree : ∀ k, treeP p.R p.bc p.bn p.V k → k ≠ p.D ∧ k ≠ p.H ∧ k ≠ p.bk ∧ k ≠ p.fm ∧ p.v.ownBlock ≠ some k
  d : p.D ≠ p.H ∧ p.D ≠ p.bk ∧ p.D ≠ p.fm ∧ p.v.ownBlock ≠ some p.D
  b : p.H ≠ p.bk ∧ p.H ≠ p.fm ∧ p.v.ownBlock ≠ some p.H ∧ p.bk ≠ p.fm ∧ p.v.ownBlock ≠ some p.bk ∧ p.v.ownBlock ≠ some p.fm
structure DocAt (w : World) (base : Nat) (st : Ds) (p : Pl) : Prop where
  box : CellsAt w p.D 64 (docC st p)
  tree : TreeAt w base p.R p.bc p.bn st.N p.V
  book : BookC w p.H p.bk st.B
  evs : OwnI w base 32 17 p.v (st.L.map Ev.cells)
  force : MapG Try.prog 26 encDF okDF w p.fm st.F.length (forM st.F)
  apart : ApartD p
def docP (p : Pl) (k : Nat) : Prop := k = p.D ∨ treeP p.R p.bc p.bn p.V k ∨ k = p.H ∨ k = p.bk ∨ p.v.ownBlock = some k ∨ k = p.fm
theorem DocAt.congr {w w' : World} {base : Nat} {st : Ds} {p : Pl} (h : DocAt w base st p) (hk : ∀ k, docP p k → w'.heap[k]? = w.heap[k]?) : DocAt w' base st p where
  box := h.box.congr (hk _ (.inl rfl))
  tree := h.tree.congr fun k q => hk k (.inr (.inl q))
  book := h.book.congr (hk _ (.inr (.inr (.inl rfl)))) (hk _ (.inr (.inr (.inr (.inl rfl)))))
  evs := h.evs.congr fun g q => hk g (.inr (.inr (.inr (.inr (.inl q)))))
  force := h.force.congr (hk _ (.inr (.inr (.inr (.inr (.inr rfl))))))
  apart := h.apart
theorem DocAt.blockLt {w : World} {base : Nat} {st : Ds} {p : Pl} (h : DocAt w base st p) (k : Nat) (hk : docP p k) : k < w.heap.size := by
  rcases hk with rfl | q | rfl | rfl | q | rfl
  · exact h.box.lt
  · exact h.tree.blockLt k q
  · exact h.book.cells.lt
  · exact h.book.map.lt
  · exact (h.evs.blockLt k q).1
  · exact h.force.lt
theorem DocAt.far {w w' : World} {base : Nat} {st : Ds} {p : Pl} (h : DocAt w base st p) (hb : Below w.heap.size w w') : DocAt w' base st p := h.congr fun k hk => hb.block k (h.blockLt k hk)
theorem DocAt.turned {q : Nat → Prop} {w w' : World} {base : Nat} {st : Ds} {p : Pl} (h : DocAt w base st p) (ht : Turn q w w') (hq : ∀ k, docP p k → ¬ q k) : DocAt w' base st p := h.congr fun k hk => ht.block k (h.blockLt k hk) (hq k hk)
structure DocTo (p p' : Pl) (w w' : World) : Prop where
  turn : Turn (docP p) w w'
  own : ∀ k, docP p' k → docP p k ∨ w.heap.size ≤ k
  at_ : p'.D = p.D
theorem DocTo.of_below {p : Pl} {w w' : World} (h : Below w.heap.size w w') : DocTo p p w w' := ⟨Turn.of_below h, fun _ hk => .inl hk, rfl⟩
theorem DocTo.trans {p p1 p2 : Pl} {w w1 w2 : World} (h : DocTo p p1 w w1) (h2 : DocTo p1 p2 w1 w2) : DocTo p p2 w w2 where
  turn := ⟨h2.turn.os.trans h.turn.os, h2.turn.tape.trans h.turn.tape, h2.turn.output.trans h.turn.output, Nat.le_trans h.turn.size h2.turn.size, fun k hk hn => by
    rw [h2.turn.block k (Nat.lt_of_lt_of_le hk h.turn.size) (fun q => by
      rcases h.own k q with r | r
      · exact hn r
      · omega)]
    exact h.turn.block k hk hn⟩
  own := fun k hk => by
    rcases h2.own k hk with q | q
    · exact h.own k q
    · exact .inr (Nat.le_trans h.turn.size q)
  at_ := h2.at_.trans h.at_
end Go.Proofs.Ytgmbmdmbnpkbbaa
