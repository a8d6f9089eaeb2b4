/- Bf1 GoC -/
import Derived.Test.YtnmjplngbleopaaF01
import Derived.Test.YtnmjplngbleopaaF04
import Derived.Test.YtnmjplngbleopaaRows
import Derived.ProofKit
import Derived.OpenShut
import Derived.ChangeOld
import Derived.Deep.DeepHandedRow
namespace Go.Proofs.Ytnmjplngbleopaa
open Go.RowKit
set_option maxRecDepth 20000
set_option linter.unusedSimpArgs false
def ltD (x y : Int × Int) : Bool := decide (x.1 < y.1) || (decide (x.1 = y.1) && decide (x.2 < y.2))
def Ev.dot (e : Ev) : Int × Int := (e.da, e.ds)
structure Ev.Ok (e : Ev) : Prop where
  dot : okD e.da e.ds
  past : e.past.length = 8
  pastB : ∀ x ∈ e.past, 0 ≤ x ∧ x ≤ 4294967295
  par : okD e.pa e.ps
  kind : 0 ≤ e.kind ∧ e.kind ≤ 255
  char : 0 ≤ e.char ∧ e.char ≤ 255
  who : 0 ≤ e.who ∧ e.who ≤ 255
  role : 0 ≤ e.role ∧ e.role ≤ 255
def sortedE (L : List Ev) : Prop := L.Pairwise (fun x y => ltD x.dot y.dot = true)
def lookE (L : List Ev) (d : Int × Int) : Option Ev := L.find? (fun e => e.dot == d)
def insE (e : Ev) : List Ev → List Ev
  | [] => [e]
  | x :: L => if ltD e.dot x.dot = true then e :: x :: L else x :: insE e L
def delE (d : Int × Int) (L : List Ev) : List Ev := L.filter (fun x => !(x.dot == d))
theorem ltD_irrefl (x : Int × Int) : ltD x x = false := by unfold ltD; simp
theorem ltD_trans {x y z : Int × Int} (h1 : ltD x y = true) (h2 : ltD y z = true) : ltD x z = true := by
  unfold ltD at *; simp only [Bool.or_eq_true, Bool.and_eq_true, decide_eq_true_eq] at *; omega
theorem ltD_total {x y : Int × Int} (h : x ≠ y) : ltD x y = true ∨ ltD y x = true := by
  obtain ⟨x1, x2⟩ := x; obtain ⟨y1, y2⟩ := y
  unfold ltD; simp only [Bool.or_eq_true, Bool.and_eq_true, decide_eq_true_eq]
  have : ¬ (x1 = y1 ∧ x2 = y2) := fun q => h (by rw [q.1, q.2])
  omega
theorem ltD_ne {x y : Int × Int} (h : ltD x y = true) : x ≠ y := fun e => by rw [e, ltD_irrefl] at h; cases h
theorem mem_insE (e x : Ev) : ∀ L, x ∈ insE e L ↔ x = e ∨ x ∈ L
  | [] => by simp [insE]
  | y :: L => by
    unfold insE
    split
    · simp
    · simp [mem_insE e x L]
      constructor
      · rintro (h | h | h) <;> simp [h]
      · rintro (h | h | h) <;> simp [h]
theorem length_insE (e : Ev) : ∀ L, (insE e L).length = L.length + 1
  | [] => rfl
  | y :: L => by
    unfold insE
    split
    · rfl
    · simp [length_insE e L]
theorem lookE_none {L : List Ev} {d : Int × Int} : lookE L d = none ↔ ∀ x ∈ L, x.dot ≠ d := by
  unfold lookE; simp [List.find?_eq_none]
theorem lookE_some {L : List Ev} (hs : sortedE L) {e : Ev} (he : e ∈ L) : lookE L e.dot = some e := by
  induction L with
  | nil => cases he
  | cons y L ih =>
    obtain ⟨h1, h2⟩ := List.pairwise_cons.1 hs
    unfold lookE
    rcases List.mem_cons.1 he with rfl | h
    · simp
    · have := ltD_ne (h1 e h)
      rw [List.find?_cons_of_neg (by simpa using this)]
      exact ih h2 h
theorem lookE_mem {L : List Ev} {d : Int × Int} {e : Ev} (h : lookE L d = some e) : e ∈ L ∧ e.dot = d := ⟨List.mem_of_find?_eq_some h, by simpa using List.find?_some h⟩
theorem sorted_insE {L : List Ev} (hs : sortedE L) (e : Ev) (hn : lookE L e.dot = none) : sortedE (insE e L) := by
  induction L with
  | nil => unfold insE sortedE; simp
  | cons y L ih =>
    obtain ⟨h1, h2⟩ := List.pairwise_cons.1 hs
    have hn' := lookE_none.1 hn
    unfold insE
    split
    · rename_i hlt
      refine List.pairwise_cons.2 ⟨fun x hx => ?_, hs⟩
      rcases List.mem_cons.1 hx with rfl | h
      · exact hlt
      · exact ltD_trans hlt (h1 x h)
    · rename_i hlt
      refine List.pairwise_cons.2 ⟨fun x hx => ?_, ih h2 (lookE_none.2 fun x hx => hn' x (List.mem_cons_of_mem _ hx))⟩
      rcases (mem_insE e x L).1 hx with rfl | h
      · rcases ltD_total (hn' y List.mem_cons_self) with q | q
        · exact q
        · exact absurd q hlt
      · exact h1 x h
theorem lookE_insE {L : List Ev} (e : Ev) (hn : lookE L e.dot = none) (d : Int × Int) : lookE (insE e L) d = if d = e.dot then some e else lookE L d := by
  induction L with
  | nil => unfold insE lookE; by_cases h : d = e.dot
           · simp [h]
           · rw [if_neg h]; simp [Ne.symm h]
  | cons y L ih =>
    have hn' := lookE_none.1 hn
    have hy := hn' y List.mem_cons_self
    have ihh := ih (lookE_none.2 fun x hx => hn' x (List.mem_cons_of_mem _ hx))
    unfold insE
    split
    · by_cases h : d = e.dot
      · rw [if_pos h]; unfold lookE; simp [h]
      · rw [if_neg h]; unfold lookE; rw [List.find?_cons_of_neg (by simpa using Ne.symm h)]
    · by_cases hyd : y.dot = d
      · have : ¬ d = e.dot := fun q => hy (hyd.trans q)
        rw [if_neg this]; unfold lookE; rw [List.find?_cons_of_pos (by simpa using hyd), List.find?_cons_of_pos (by simpa using hyd)]
      · unfold lookE at ihh ⊢
        rw [List.find?_cons_of_neg (by simpa using hyd), ihh, List.find?_cons_of_neg (by simpa using hyd)]
theorem sorted_delE {L : List Ev} (hs : sortedE L) (d : Int × Int) : sortedE (delE d L) := List.Pairwise.filter _ hs
theorem lookE_delE (L : List Ev) (d d' : Int × Int) : lookE (delE d L) d' = if d' = d then none else lookE L d' := by
  induction L with
  | nil => unfold delE lookE; simp
  | cons y L ih =>
    unfold delE lookE at *
    by_cases h : y.dot = d
    · rw [List.filter_cons_of_neg (by simp [h]), ih]
      by_cases h' : d' = d
      · rw [if_pos h', if_pos h']
      · rw [if_neg h', if_neg h', List.find?_cons_of_neg (by simpa using fun q => h' (q.symm.trans h))]
    · rw [List.filter_cons_of_pos (by simpa using h)]
      by_cases h2 : y.dot = d'
      · rw [List.find?_cons_of_pos (by simpa using h2), if_neg (fun q => h (h2.trans q)), List.find?_cons_of_pos (by simpa using h2)]
      · rw [List.find?_cons_of_neg (by simpa using h2), ih, List.find?_cons_of_neg (by simpa using h2)]
theorem length_delE {L : List Ev} (hs : sortedE L) {e : Ev} (he : e ∈ L) : (delE e.dot L).length + 1 = L.length := by
  induction L with
  | nil => cases he
  | cons y L ih =>
    obtain ⟨h1, h2⟩ := List.pairwise_cons.1 hs
    unfold delE at *
    rcases List.mem_cons.1 he with rfl | h
    · rw [List.filter_cons_of_neg (by simp)]
      rw [List.filter_eq_self.2 (fun x hx => by simpa using (ltD_ne (h1 x hx)).symm)]
      rfl
    · have hne := ltD_ne (h1 e h)
      rw [List.filter_cons_of_pos (by simpa using hne), List.length_cons, ih h2 h, List.length_cons]
theorem mem_delE {L : List Ev} {d : Int × Int} {x : Ev} (h : x ∈ delE d L) : x ∈ L := (List.mem_filter.1 h).1
def WaitAt (w : World) (b : Nat) (L : List Ev) : Prop :=
  ∃ D : DataW Value, w.ownsMap Try.prog 32 rawElem b L.length D ∧ (∀ a s, okD a s → ∀ z, D.atKey (dotLit a s) z = (match lookE L (a, s) with | some e => .held (.agg e.cells.toArray) | none => z)) ∧ Maps.size D = L.length ∧ sortedE L ∧ ∀ e ∈ L, e.Ok
theorem WaitAt.ok {w : World} {b : Nat} {L : List Ev} (h : WaitAt w b L) : ∀ e ∈ L, e.Ok := by obtain ⟨D, _, _, _, _, h⟩ := h; exact h
theorem WaitAt.lt {w : World} {b : Nat} {L : List Ev} (h : WaitAt w b L) : b < w.heap.size := by obtain ⟨D, h, _⟩ := h; exact h.lt
theorem WaitAt.congr {w w' : World} {b : Nat} {L : List Ev} (h : WaitAt w b L) (he : w'.heap[b]? = w.heap[b]?) : WaitAt w' b L := by
  obtain ⟨D, ⟨es, cl, hb, r⟩, hM⟩ := h
  exact ⟨D, ⟨es, cl, he.trans hb, r⟩, hM⟩
theorem WaitAt.far {w w' : World} {b : Nat} {L : List Ev} (h : WaitAt w b L) (hb : Below w.heap.size w w') : WaitAt w' b L := h.congr (hb.block b h.lt)
theorem WaitAt.made (w : World) : WaitAt (w.alloc (.map #[] 0)) w.heap.size [] := ⟨_, World.ownsMap_made w _ _ _, fun _ _ _ _ => rfl, rfl, List.Pairwise.nil, by simp⟩
theorem WaitAt.cellsNe {w : World} {b g : Nat} {L : List Ev} (h : WaitAt w b L) {t : TypeId} {cs : List Value} (hg : CellsAt w g t cs) : b ≠ g := by
  intro e
  subst e
  obtain ⟨D, ⟨es, cl, hb, _⟩, _⟩ := h
  unfold CellsAt at hg
  rw [hb] at hg
  cases hg
theorem wait_has {L : List Ev} {D : DataW Value} (hM : ∀ a s, okD a s → ∀ z, D.atKey (dotLit a s) z = (match lookE L (a, s) with | some e => .held (.agg e.cells.toArray) | none => z)) (a s : Int) (ho : okD a s) : Maps.has D (dotLit a s) = (lookE L (a, s)).isSome := by
  cases hv : lookE L (a, s) with
  | none => exact Maps.has_false_of_atKey fun z => by rw [hM a s ho, hv]
  | some v => exact Maps.has_true_of_atKey (y := .held (.agg v.cells.toArray)) fun z => by rw [hM a s ho, hv]
theorem owns_tight {w : World} {P : Program} {k : TypeId} {R : Value → Option (DataW Value × List MemPlace)} {b n : Nat} {D : DataW Value} (h : w.ownsMap P k R b n D) : w.ownsMap P k R b (Maps.size D) D := by
  obtain ⟨es, cl, hb, F, hs, hD⟩ := h
  refine ⟨es, cl, hb, F, ?_, hD⟩
  rw [hD, Maps.size_eq, length_read]
  exact Nat.le_refl _
theorem WaitAt.store {w : World} {b : Nat} {L : List Ev} (h : WaitAt w b L) {t et : TypeId} (ht : Try.prog.underlying t = some (.map 32 et)) (hn : L.length < 100000) (e : Ev) (he : e.Ok) (hl : lookE L e.dot = none) :
    ∃ w', (Instr.mapUpdate t (.map (some b)) (.agg (dotC e.da e.ds).toArray) (.agg e.cells.toArray)).run Try.prog w = .ok () w' ∧ WaitAt w' b (insE e L) ∧ w.grownBy w' (some b) := by
  obtain ⟨D, hD, hM, hsz, hso, hok⟩ := h
  obtain ⟨w', hrun, hown, ht'⟩ := hD.store dotKeyed ht (by simp [maxLen]; omega) (dotKey e.da e.ds he.dot) (d := .held (.agg e.cells.toArray)) (ps := []) rfl
  refine ⟨w', hrun, ⟨_, by rw [length_insE]; exact hown, fun a' s' ho' z => ?_, ?_, sorted_insE hso e hl, fun x hx => ?_⟩, ht'.grown⟩
  · rw [lookE_insE e hl]
    by_cases q : (a', s') = e.dot
    · rw [if_pos q]
      injection q with q1 q2
      subst q1 q2
      rw [Maps.atKey_put_same hD.isMap (dotKeyLit _ _)]
    · rw [if_neg q, Maps.atKey_put_other (fun q' => q (by have := dotLit_inj ho' he.dot q'; unfold Ev.dot; rw [this.1, this.2])), hM a' s' ho']
  · have hh : Maps.has D (dotLit e.da e.ds) = false := by rw [wait_has hM e.da e.ds he.dot]; rw [show (e.da, e.ds) = e.dot from rfl, hl]; rfl
    rw [Maps.size_put (hD.tidy dotKeyed), hh, length_insE, hsz]; rfl
  · rcases (mem_insE e x L).1 hx with rfl | q
    · exact he
    · exact hok x q
theorem WaitAt.drop {w : World} {b : Nat} {L : List Ev} (h : WaitAt w b L) {t et : TypeId} (ht : Try.prog.underlying t = some (.map 32 et)) (ty : TypeId) (e : Ev) (he : e ∈ L) :
    ∃ w', (Builtin.delete_ #[t, 32] ty #[.map (some b), .agg (dotC e.da e.ds).toArray]).run Try.prog w = .ok (.tuple #[]) w' ∧ WaitAt w' b (delE e.dot L) ∧ w.grownBy w' (some b) := by
  obtain ⟨D, hD, hM, hsz, hso, hok⟩ := h
  have ho := (hok e he).dot
  obtain ⟨w', hrun, hown, ht'⟩ := hD.drop dotKeyed ht (dotKey e.da e.ds ho) ty
  have hh : Maps.has D (dotLit e.da e.ds) = true := by rw [wait_has hM e.da e.ds ho]; rw [show (e.da, e.ds) = e.dot from rfl, lookE_some hso he]; rfl
  have hsd := Maps.size_del (k := dotLit e.da e.ds) (hD.tidy dotKeyed)
  rw [hh] at hsd
  have hld := length_delE hso he
  have hs2 : Maps.size (D.del (dotLit e.da e.ds)) = (delE e.dot L).length := by simp at hsd; omega
  refine ⟨w', hrun, ⟨_, by have := owns_tight hown; rw [hs2] at this; exact this, fun a' s' ho' z => ?_, hs2, sorted_delE hso _, fun x hx => hok x (mem_delE hx)⟩, ht'.grown⟩
  rw [lookE_delE]
  by_cases q : (a', s') = e.dot
  · rw [if_pos q]
    injection q with q1 q2
    subst q1 q2
    rw [Maps.atKey_del_same]
  · rw [if_neg q, Maps.atKey_del_other (fun q' => q (by have := dotLit_inj ho' ho q'; unfold Ev.dot; rw [this.1, this.2])), hM a' s' ho']
theorem WaitAt.len {w : World} {b : Nat} {L : List Ev} (h : WaitAt w b L) {t et : TypeId} (ht : Try.prog.underlying t = some (.map 32 et)) (ty : TypeId) : (Builtin.len_ #[t] ty #[.map (some b)]).run Try.prog w = .ok (.int .i64 L.length) w := by
  obtain ⟨D, hD, _, hsz, _⟩ := h
  rw [hD.len ht ty, hsz]
theorem lits_int_inv {t : TypeId} {q : IntKind} (hu : Try.prog.underlying t = some (.int q)) {d : Nat} {c : List Value} {L : List Lit} (h : Try.prog.keyLits d t c = some L) : ∃ n, c = [.int q n] ∧ (Lit.int q n).wf = true := by
  cases d with
  | zero => cases h
  | succ d =>
    unfold Program.keyLits at h
    rw [hu] at h
    match c, h with
    | [.int q' n], h =>
      simp only at h
      split at h
      · rename_i hq
        obtain ⟨rfl, hw⟩ := hq
        exact ⟨n, rfl, hw⟩
      · cases h
open Go.ChangeShapes Go.WideShapes Go.ChangeAt Go.RowKit
theorem own : ownKnob Try.prog.godebug = none := by kernel_rfl
theorem laidOut : laidOutB Try.prog = true := by kernel_rfl
theorem addC_mid (b o j : Nat) : (⟨b, o, none⟩ : Addr).add j = ⟨b, o + j, none⟩ := by unfold Addr.add; split <;> simp_all
theorem wfU8 {a : Int} (h : (Lit.int .u8 a).wf = true) : 0 ≤ a ∧ a ≤ 255 := by
  have h : (decide ((0 : Int) ≤ a) && decide (a ≤ 255)) = true := h
  simpa using h
theorem open_rowC {H : Type} {enc : TypeId × Value → H} {P : Program} {W : World} {r : Reach} {base n : Nat} {t e : TypeId} {k : IntKind} {v : Value} {d : DataW H} {p : List MemPlace} (hu : P.underlying t = some (.array n e)) (he : P.underlying e = some (.int k)) (hce : P.cellsOf e = 1) (hct : P.cellsOf t = n)
    (hv : Value.okWide P W r base t v) (h : DataW.Trod enc P W 0 (fun _ => true) true t v d p) :
    ∃ l : List Int, l.length = n ∧ v = .agg (row k l) ∧ ∀ x ∈ l, (Lit.int k x).wf = true := by
  simp only [Value.okWide, hu] at hv
  obtain ⟨cs, rfl, hsz, _⟩ := hv
  rw [hct] at hsz
  obtain ⟨fuel, hf⟩ := h
  obtain ⟨xs, m, _, _, _, hlen, hel⟩ := DataW.trod_array hu hf
  simp only [Value.cells, hce, Nat.mul_one] at hel
  have key : ∀ i (hi : i < cs.size), cs[i] = .int k (intOf cs[i]) ∧ (Lit.int k (intOf cs[i])).wf = true := fun i hi => by
    have h1 := hel i (by omega)
    rw [List.getElem?_eq_getElem (by omega)] at h1
    obtain ⟨a, ea, _, wa⟩ := DataW.trod_int he h1
    have e1 : (cs.toList.drop i).take 1 = [cs[i]] := by
      rw [List.drop_eq_getElem_cons (by simpa using hi)]; simp
    rw [e1] at ea
    have e2 : cs[i] = .int k a := by simpa using ea
    rw [e2]
    exact ⟨rfl, wa⟩
  refine ⟨cs.toList.map intOf, by simp [hsz], ?_, ?_⟩
  · congr 1
    apply Array.ext (by simp [row])
    intro i h1 h2
    have := (key i h1).1
    simp only [row, List.map_map, List.getElem_toArray, List.getElem_map, Function.comp, Array.getElem_toList]
    exact this
  · intro x hx
    obtain ⟨c, hc, rfl⟩ := List.mem_map.1 hx
    obtain ⟨i, hi, rfl⟩ := List.mem_iff_getElem.1 hc
    have := (key i (by simpa using hi)).2
    simpa using this
section
variable {H : Type} {enc : TypeId × Value → H} {W : World} {fuel : Nat} {cs : List Value} {x : DataW H × List MemPlace}
theorem dot_of_trodC (h : DataW.trod enc Try.prog W 0 (fun _ => true) true fuel 32 cs = some x) : ∃ a s, cs = dotC a s ∧ (0 ≤ a ∧ a ≤ 255) ∧ 0 ≤ s ∧ s ≤ 4294967295 := by
  obtain ⟨xs, m, _, _, hl, hlen, hfd⟩ := DataW.trod_struct Try.underlying32 h
  have hc : Try.prog.cellsOf 32 = 2 := by kernel_rfl
  have h8 : Try.prog.cellsOf 5 = 1 := by kernel_rfl
  have h32 : Try.prog.cellsOf 30 = 1 := by kernel_rfl
  rw [hc] at hl
  have g0 : DataW.trod enc Try.prog W 0 (fun _ => true) true m 5 (List.take (Try.prog.cellsOf 5) (List.drop 0 cs)) = xs[0]? := hfd 0 _ rfl
  have g1 : DataW.trod enc Try.prog W 0 (fun _ => true) true m 30 (List.take (Try.prog.cellsOf 30) (List.drop 1 cs)) = xs[1]? := hfd 1 _ rfl
  simp only [List.size_toArray, List.length_cons, List.length_nil, Nat.reduceAdd] at hlen
  rw [h8, List.getElem?_eq_getElem (by omega)] at g0
  rw [h32, List.getElem?_eq_getElem (by omega)] at g1
  obtain ⟨a, ea, _, wa⟩ := DataW.trod_int Try.underlying5 g0
  obtain ⟨s, es, _, ws⟩ := DataW.trod_int Try.underlying30 g1
  match cs, hl with
  | [c, d], _ =>
    simp at ea es
    subst ea es
    exact ⟨a, s, rfl, bounds_u8 wa, bounds_u32 ws⟩
end
theorem exists_listC {α : Type} (n : Nat) (P : Nat → α → Prop) (h : ∀ i, i < n → ∃ a, P i a) : ∃ l : List α, l.length = n ∧ ∀ i (_ : i < n), ∃ hl : i < l.length, P i (l[i]'hl) := by
  induction n with
  | zero => exact ⟨[], rfl, fun i hi => by omega⟩
  | succ n ih =>
    obtain ⟨l, hl, hp⟩ := ih fun i hi => h i (by omega)
    obtain ⟨a, ha⟩ := h n (by omega)
    refine ⟨l ++ [a], by simp [hl], fun i hi => ?_⟩
    by_cases e : i < n
    · obtain ⟨h1, h2⟩ := hp i e
      exact ⟨by simp; omega, by rw [List.getElem_append_left h1]; exact h2⟩
    · obtain rfl : i = n := by omega
      refine ⟨by simp [hl], ?_⟩
      rw [List.getElem_append_right (by omega)]
      simpa [hl] using ha
structure EvsAt (w : World) (x : Option Addr) (len cap : Nat) (ds : List Ev) : Prop where
  len_eq : len = ds.length
  le : len ≤ cap
  top : cap ≤ 9223372036854775807
  at_ : len = 0 ∨ ∃ b off, x = some ⟨b, off, none⟩ ∧ ∀ j (hj : j < ds.length) (i : Nat) v, ds[j].cells[i]? = some v → w.cell? ⟨b, off + j * 17 + i, none⟩ = some v
  ok : ∀ d ∈ ds, d.Ok
theorem EvsAt.below {w w' : World} {x : Option Addr} {len cap : Nat} {ds : List Ev} (h : EvsAt w x len cap ds) (hb : Below w.heap.size w w') : EvsAt w' x len cap ds :=
  ⟨h.len_eq, h.le, h.top, by
    rcases h.at_ with h0 | ⟨b, off, hx, hc⟩
    · exact .inl h0
    · refine .inr ⟨b, off, hx, fun j hj i v hv => ?_⟩
      have := hc j hj i v hv
      exact (hb.cell (p := ⟨b, off + j * 17 + i, none⟩) (block_lt_of_cell this)).trans this, h.ok⟩
noncomputable def laidWorld (os : Os) : World := World.holding Try.prog os ⟨#[], #[], []⟩
theorem laid_none {P : Program} (w : World) : laidMet P [] w := ⟨[], by simp [DataW.LaidVars], by simp, by simp⟩
end Go.Proofs.Ytnmjplngbleopaa
