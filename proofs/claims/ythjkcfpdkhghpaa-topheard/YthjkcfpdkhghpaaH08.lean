/- Bf1 -/
import Derived.Test.YthjkcfpdkhghpaaH01
import Derived.Test.YthjkcfpdkhghpaaH06
import Derived.Test.YthjkcfpdkhghpaaH07
namespace Go.Proofs.Ythjkcfpdkhghpaa
open Go.RowKit
set_option maxRecDepth 20000
set_option linter.unusedSimpArgs false
def ltD (x y : Int × Int) : Bool := decide (x.1 < y.1) || (decide (x.1 = y.1) && decide (x.2 < y.2))
def Ev.dot (e : Ev) : Int × Int := (e.da, e.ds)
structure Ev.Ok (e : Ev) : Prop where
  dot : okD e.da e.ds
  past : e.past.length = 8
  pastB : ∀ x ∈ e.past, 0 ≤ x ∧ x ≤ 4294967295
  par : okD e.pa e.ps
  kind : 0 ≤ e.kind ∧ e.kind ≤ 255
  char : 0 ≤ e.char ∧ e.char ≤ 255
  who : 0 ≤ e.who ∧ e.who ≤ 255
  role : 0 ≤ e.role ∧ e.role ≤ 255
def sortedE (L : List Ev) : Prop := L.Pairwise (fun x y => ltD x.dot y.dot = true)
def lookE (L : List Ev) (d : Int × Int) : Option Ev := L.find? (fun e => e.dot == d)
def insE (e : Ev) : List Ev → List Ev
  | [] => [e]
  | x :: L => if ltD e.dot x.dot = true then e :: x :: L else x :: insE e L
def delE (d : Int × Int) (L : List Ev) : List Ev := L.filter (fun x => !(x.dot == d))
theorem ltD_irrefl (x : Int × Int) : ltD x x = false := by unfold ltD; simp
theorem ltD_trans {x y z : Int × Int} (h1 : ltD x y = true) (h2 : ltD y z = true) : ltD x z = true := by
  unfold ltD at *; simp only [Bool.or_eq_true, Bool.and_eq_true, decide_eq_true_eq] at *; omega
theorem ltD_total {x y : Int × Int} (h : x ≠ y) : ltD x y = true ∨ ltD y x = true := by
  obtain ⟨x1, x2⟩ := x; obtain ⟨y1, y2⟩ := y
  unfold ltD; simp only [Bool.or_eq_true, Bool.and_eq_true, decide_eq_true_eq]
  have : ¬ (x1 = y1 ∧ x2 = y2) := fun q => h (by rw [q.1, q.2])
  omega
theorem ltD_ne {x y : Int × Int} (h : ltD x y = true) : x ≠ y := fun e => by rw [e, ltD_irrefl] at h; cases h
theorem ltD_asymm {x y : Int × Int} (h : ltD x y = true) : ltD y x = false := by
  cases h2 : ltD y x with
  | false => rfl
  | true => have := ltD_trans h h2; rw [ltD_irrefl] at this; cases this
theorem mem_insE (e x : Ev) : ∀ L, x ∈ insE e L ↔ x = e ∨ x ∈ L
  | [] => by simp [insE]
  | y :: L => by
    unfold insE
    split
    · simp
    · simp [mem_insE e x L]
      constructor
      · rintro (h | h | h) <;> simp [h]
      · rintro (h | h | h) <;> simp [h]
theorem length_insE (e : Ev) : ∀ L, (insE e L).length = L.length + 1
  | [] => rfl
  | y :: L => by
    unfold insE
    split
    · rfl
    · simp [length_insE e L]
theorem lookE_none {L : List Ev} {d : Int × Int} : lookE L d = none ↔ ∀ x ∈ L, x.dot ≠ d := by
  unfold lookE; simp [List.find?_eq_none]
theorem lookE_some {L : List Ev} (hs : sortedE L) {e : Ev} (he : e ∈ L) : lookE L e.dot = some e := by
  induction L with
  | nil => cases he
  | cons y L ih =>
    obtain ⟨h1, h2⟩ := List.pairwise_cons.1 hs
    unfold lookE
    rcases List.mem_cons.1 he with rfl | h
    · simp
    · have := ltD_ne (h1 e h)
      rw [List.find?_cons_of_neg (by simpa using this)]
      exact ih h2 h
theorem lookE_mem {L : List Ev} {d : Int × Int} {e : Ev} (h : lookE L d = some e) : e ∈ L ∧ e.dot = d := ⟨List.mem_of_find?_eq_some h, by simpa using List.find?_some h⟩
theorem sorted_insE {L : List Ev} (hs : sortedE L) (e : Ev) (hn : lookE L e.dot = none) : sortedE (insE e L) := by
  induction L with
  | nil => unfold insE sortedE; simp
  | cons y L ih =>
    obtain ⟨h1, h2⟩ := List.pairwise_cons.1 hs
    have hn' := lookE_none.1 hn
    unfold insE
    split
    · rename_i hlt
      refine List.pairwise_cons.2 ⟨fun x hx => ?_, hs⟩
      rcases List.mem_cons.1 hx with rfl | h
      · exact hlt
      · exact ltD_trans hlt (h1 x h)
    · rename_i hlt
      refine List.pairwise_cons.2 ⟨fun x hx => ?_, ih h2 (lookE_none.2 fun x hx => hn' x (List.mem_cons_of_mem _ hx))⟩
      rcases (mem_insE e x L).1 hx with rfl | h
      · rcases ltD_total (hn' y List.mem_cons_self) with q | q
        · exact q
        · exact absurd q hlt
      · exact h1 x h
theorem lookE_insE {L : List Ev} (e : Ev) (hn : lookE L e.dot = none) (d : Int × Int) : lookE (insE e L) d = if d = e.dot then some e else lookE L d := by
  induction L with
  | nil => unfold insE lookE; by_cases h : d = e.dot
           · simp [h]
           · rw [if_neg h]; simp [Ne.symm h]
  | cons y L ih =>
    have hn' := lookE_none.1 hn
    have hy := hn' y List.mem_cons_self
    have ihh := ih (lookE_none.2 fun x hx => hn' x (List.mem_cons_of_mem _ hx))
    unfold insE
    split
    · by_cases h : d = e.dot
      · rw [if_pos h]; unfold lookE; simp [h]
      · rw [if_neg h]; unfold lookE; rw [List.find?_cons_of_neg (by simpa using Ne.symm h)]
    · by_cases hyd : y.dot = d
      · have : ¬ d = e.dot := fun q => hy (hyd.trans q)
        rw [if_neg this]; unfold lookE; rw [List.find?_cons_of_pos (by simpa using hyd), List.find?_cons_of_pos (by simpa using hyd)]
      · unfold lookE at ihh ⊢
        rw [List.find?_cons_of_neg (by simpa using hyd), ihh, List.find?_cons_of_neg (by simpa using hyd)]
theorem sorted_delE {L : List Ev} (hs : sortedE L) (d : Int × Int) : sortedE (delE d L) := List.Pairwise.filter _ hs
theorem lookE_delE (L : List Ev) (d d' : Int × Int) : lookE (delE d L) d' = if d' = d then none else lookE L d' := by
  induction L with
  | nil => unfold delE lookE; simp
  | cons y L ih =>
    unfold delE lookE at *
    by_cases h : y.dot = d
    · rw [List.filter_cons_of_neg (by simp [h]), ih]
      by_cases h' : d' = d
      · rw [if_pos h', if_pos h']
      · rw [if_neg h', if_neg h', List.find?_cons_of_neg (by simpa using fun q => h' (q.symm.trans h))]
    · rw [List.filter_cons_of_pos (by simpa using h)]
      by_cases h2 : y.dot = d'
      · rw [List.find?_cons_of_pos (by simpa using h2), if_neg (fun q => h (h2.trans q)), List.find?_cons_of_pos (by simpa using h2)]
      · rw [List.find?_cons_of_neg (by simpa using h2), ih, List.find?_cons_of_neg (by simpa using h2)]
theorem length_delE {L : List Ev} (hs : sortedE L) {e : Ev} (he : e ∈ L) : (delE e.dot L).length + 1 = L.length := by
  induction L with
  | nil => cases he
  | cons y L ih =>
    obtain ⟨h1, h2⟩ := List.pairwise_cons.1 hs
    unfold delE at *
    rcases List.mem_cons.1 he with rfl | h
    · rw [List.filter_cons_of_neg (by simp)]
      rw [List.filter_eq_self.2 (fun x hx => by simpa using (ltD_ne (h1 x hx)).symm)]
      rfl
    · have hne := ltD_ne (h1 e h)
      rw [List.filter_cons_of_pos (by simpa using hne), List.length_cons, ih h2 h, List.length_cons]
theorem mem_delE {L : List Ev} {d : Int × Int} {x : Ev} (h : x ∈ delE d L) : x ∈ L := (List.mem_filter.1 h).1
def WaitAt (w : World) (b : Nat) (L : List Ev) : Prop :=
  ∃ D : DataW Value, w.ownsMap Try.prog 32 rawElem b L.length D ∧ (∀ a s, okD a s → ∀ z, D.atKey (dotLit a s) z = (match lookE L (a, s) with | some e => .held (.agg e.cells.toArray) | none => z)) ∧ Maps.size D = L.length ∧ sortedE L ∧ ∀ e ∈ L, e.Ok
theorem WaitAt.sorted {w : World} {b : Nat} {L : List Ev} (h : WaitAt w b L) : sortedE L := by obtain ⟨D, _, _, _, h, _⟩ := h; exact h
theorem WaitAt.ok {w : World} {b : Nat} {L : List Ev} (h : WaitAt w b L) : ∀ e ∈ L, e.Ok := by obtain ⟨D, _, _, _, _, h⟩ := h; exact h
theorem WaitAt.lt {w : World} {b : Nat} {L : List Ev} (h : WaitAt w b L) : b < w.heap.size := by obtain ⟨D, h, _⟩ := h; exact h.lt
theorem WaitAt.congr {w w' : World} {b : Nat} {L : List Ev} (h : WaitAt w b L) (he : w'.heap[b]? = w.heap[b]?) : WaitAt w' b L := by
  obtain ⟨D, ⟨es, cl, hb, r⟩, hM⟩ := h
  exact ⟨D, ⟨es, cl, he.trans hb, r⟩, hM⟩
theorem WaitAt.far {w w' : World} {b : Nat} {L : List Ev} (h : WaitAt w b L) (hb : Below w.heap.size w w') : WaitAt w' b L := h.congr (hb.block b h.lt)
theorem WaitAt.made (w : World) : WaitAt (w.alloc (.map #[] 0)) w.heap.size [] := ⟨_, World.ownsMap_made w _ _ _, fun _ _ _ _ => rfl, rfl, List.Pairwise.nil, by simp⟩
theorem WaitAt.cellsNe {w : World} {b g : Nat} {L : List Ev} (h : WaitAt w b L) {t : TypeId} {cs : List Value} (hg : CellsAt w g t cs) : b ≠ g := by
  intro e
  subst e
  obtain ⟨D, ⟨es, cl, hb, _⟩, _⟩ := h
  unfold CellsAt at hg
  rw [hb] at hg
  cases hg
theorem WaitAt.mapAt {w : World} {b : Nat} {L : List Ev} (h : WaitAt w b L) : MapAt w b L.length (fun a s => (lookE L (a, s)).map fun e => .agg e.cells.toArray) := by
  obtain ⟨D, hD, hM, _⟩ := h
  refine ⟨D, hD, fun a s ho z => ?_⟩
  rw [hM a s ho z]
  show _ = match Option.map (fun e => Value.agg e.cells.toArray) (lookE L (a, s)) with | some v => DataW.held v | none => z
  cases lookE L (a, s) <;> rfl
theorem wait_has {L : List Ev} {D : DataW Value} (hM : ∀ a s, okD a s → ∀ z, D.atKey (dotLit a s) z = (match lookE L (a, s) with | some e => .held (.agg e.cells.toArray) | none => z)) (a s : Int) (ho : okD a s) : Maps.has D (dotLit a s) = (lookE L (a, s)).isSome := by
  cases hv : lookE L (a, s) with
  | none => exact Maps.has_false_of_atKey fun z => by rw [hM a s ho, hv]
  | some v => exact Maps.has_true_of_atKey (y := .held (.agg v.cells.toArray)) fun z => by rw [hM a s ho, hv]
theorem owns_tight {w : World} {P : Program} {k : TypeId} {R : Value → Option (DataW Value × List MemPlace)} {b n : Nat} {D : DataW Value} (h : w.ownsMap P k R b n D) : w.ownsMap P k R b (Maps.size D) D := by
  obtain ⟨es, cl, hb, F, hs, hD⟩ := h
  refine ⟨es, cl, hb, F, ?_, hD⟩
  rw [hD, Maps.size_eq, length_read]
  exact Nat.le_refl _
theorem WaitAt.store {w : World} {b : Nat} {L : List Ev} (h : WaitAt w b L) {t et : TypeId} (ht : Try.prog.underlying t = some (.map 32 et)) (hn : L.length < 100000) (e : Ev) (he : e.Ok) (hl : lookE L e.dot = none) :
    ∃ w', (Instr.mapUpdate t (.map (some b)) (.agg (dotC e.da e.ds).toArray) (.agg e.cells.toArray)).run Try.prog w = .ok () w' ∧ WaitAt w' b (insE e L) ∧ w.grownBy w' (some b) := by
  obtain ⟨D, hD, hM, hsz, hso, hok⟩ := h
  obtain ⟨w', hrun, hown, ht'⟩ := hD.store dotKeyed ht (by simp [maxLen]; omega) (dotKey e.da e.ds he.dot) (d := .held (.agg e.cells.toArray)) (ps := []) rfl
  refine ⟨w', hrun, ⟨_, by rw [length_insE]; exact hown, fun a' s' ho' z => ?_, ?_, sorted_insE hso e hl, fun x hx => ?_⟩, ht'.grown⟩
  · rw [lookE_insE e hl]
    by_cases q : (a', s') = e.dot
    · rw [if_pos q]
      injection q with q1 q2
      subst q1 q2
      rw [Maps.atKey_put_same hD.isMap (dotKeyLit _ _)]
    · rw [if_neg q, Maps.atKey_put_other (fun q' => q (by have := dotLit_inj ho' he.dot q'; unfold Ev.dot; rw [this.1, this.2])), hM a' s' ho']
  · have hh : Maps.has D (dotLit e.da e.ds) = false := by rw [wait_has hM e.da e.ds he.dot]; rw [show (e.da, e.ds) = e.dot from rfl, hl]; rfl
    rw [Maps.size_put (hD.tidy dotKeyed), hh, length_insE, hsz]; rfl
  · rcases (mem_insE e x L).1 hx with rfl | q
    · exact he
    · exact hok x q
theorem WaitAt.drop {w : World} {b : Nat} {L : List Ev} (h : WaitAt w b L) {t et : TypeId} (ht : Try.prog.underlying t = some (.map 32 et)) (ty : TypeId) (e : Ev) (he : e ∈ L) :
    ∃ w', (Builtin.delete_ #[t, 32] ty #[.map (some b), .agg (dotC e.da e.ds).toArray]).run Try.prog w = .ok (.tuple #[]) w' ∧ WaitAt w' b (delE e.dot L) ∧ w.grownBy w' (some b) := by
  obtain ⟨D, hD, hM, hsz, hso, hok⟩ := h
  have ho := (hok e he).dot
  obtain ⟨w', hrun, hown, ht'⟩ := hD.drop dotKeyed ht (dotKey e.da e.ds ho) ty
  have hh : Maps.has D (dotLit e.da e.ds) = true := by rw [wait_has hM e.da e.ds ho]; rw [show (e.da, e.ds) = e.dot from rfl, lookE_some hso he]; rfl
  have hsd := Maps.size_del (k := dotLit e.da e.ds) (hD.tidy dotKeyed)
  rw [hh] at hsd
  have hld := length_delE hso he
  have hs2 : Maps.size (D.del (dotLit e.da e.ds)) = (delE e.dot L).length := by simp at hsd; omega
  refine ⟨w', hrun, ⟨_, by have := owns_tight hown; rw [hs2] at this; exact this, fun a' s' ho' z => ?_, hs2, sorted_delE hso _, fun x hx => hok x (mem_delE hx)⟩, ht'.grown⟩
  rw [lookE_delE]
  by_cases q : (a', s') = e.dot
  · rw [if_pos q]
    injection q with q1 q2
    subst q1 q2
    rw [Maps.atKey_del_same]
  · rw [if_neg q, Maps.atKey_del_other (fun q' => q (by have := dotLit_inj ho' ho q'; unfold Ev.dot; rw [this.1, this.2])), hM a' s' ho']
theorem WaitAt.len {w : World} {b : Nat} {L : List Ev} (h : WaitAt w b L) {t et : TypeId} (ht : Try.prog.underlying t = some (.map 32 et)) (ty : TypeId) : (Builtin.len_ #[t] ty #[.map (some b)]).run Try.prog w = .ok (.int .i64 L.length) w := by
  obtain ⟨D, hD, _, hsz, _⟩ := h
  rw [hD.len ht ty, hsz]
theorem lits_int_inv {t : TypeId} {q : IntKind} (hu : Try.prog.underlying t = some (.int q)) {d : Nat} {c : List Value} {L : List Lit} (h : Try.prog.keyLits d t c = some L) : ∃ n, c = [.int q n] ∧ (Lit.int q n).wf = true := by
  cases d with
  | zero => cases h
  | succ d =>
    unfold Program.keyLits at h
    rw [hu] at h
    match c, h with
    | [.int q' n], h =>
      simp only at h
      split at h
      · rename_i hq
        obtain ⟨rfl, hw⟩ := hq
        exact ⟨n, rfl, hw⟩
      · cases h
theorem dotKey_inv {key : Value} {kl : Lit} (h : keyOf Try.prog 32 key = some kl) : ∃ x : { d : Int × Int // okD d.1 d.2 }, key = .agg (dotC x.1.1 x.1.2).toArray := by
  obtain ⟨m, hm⟩ := typesBig
  unfold keyOf at h
  rw [Try.underlying32, hm] at h
  simp only at h
  split at h
  · rename_i hf
    obtain ⟨_, hf⟩ := Bool.and_eq_true_iff.1 hf
    cases key with
    | agg cs =>
      simp only [Value.formed, Try.underlying32, cellsDot.1] at hf
      obtain ⟨l⟩ := cs
      match l, hf with
      | [c1, c2], _ =>
        simp only [Value.cells] at h
        unfold Program.keyLits at h
        simp only [Try.underlying32, cellsDot.1, cellsDot.2.1, cellsDot.2.2] at h
        simp only [List.length_cons, List.length_nil, Nat.reduceAdd, true_and] at h
        split at h
        · simp only [List.mapM_cons, List.mapM_nil, List.drop_zero, List.take_succ_cons, List.take_zero, List.drop_succ_cons, cellsDot.2.1, cellsDot.2.2] at h
          cases h1 : Try.prog.keyLits (m + 1) 5 [c1] with
          | none => rw [h1] at h; simp at h
          | some L1 =>
            cases h2 : Try.prog.keyLits (m + 1) 30 [c2] with
            | none => rw [h1, h2] at h; simp at h
            | some L2 =>
              obtain ⟨a, ea, wa⟩ := lits_int_inv Try.underlying5 h1
              obtain ⟨s, es, ws⟩ := lits_int_inv Try.underlying30 h2
              injection ea with ea _
              injection es with es _
              subst ea es
              have w1 : (decide ((0 : Int) ≤ a) && decide (a ≤ 255)) = true := wa
              have w2 : (decide ((0 : Int) ≤ s) && decide (s ≤ 4294967295)) = true := ws
              simp only [Bool.and_eq_true, decide_eq_true_eq] at w1 w2
              exact ⟨⟨(a, s), w1, w2⟩, rfl⟩
        · simp at h
    | _ => simp [Value.formed, Try.underlying32] at hf
  · cases h
end Go.Proofs.Ythjkcfpdkhghpaa
