/- GateI Bc Bf2 Fg1 -/
import Derived.OrdersIn
import Derived.Test.YtmbdohnmbkpfaaaGreatV02
import Derived.Test.YtmbdohnmbkpfaaaGreatV08
import Derived.Test.YtmbdohnmbkpfaaaGreatV07
import Derived.Test.YtmbdohnmbkpfaaaGreatV04
import Derived.Sort.MapsRangeIn
import Derived.Shelf.AbstractIn
import Derived.RegionIn
import Derived.Test.YtmbdohnmbkpfaaaGreatV06
namespace Go.Proofs.YtmbdohnmbkpfaaaGreat
open Go Go.RowKit
section
variable {P : Program} {ops : Array Oper} {Q : Exit → Act → World → Prop} {md : Region.Mode} {S : World → Prop} {n : Nat}
theorem wpOpIn_yieldsIf {i : Nat} {o : Oper} {v : Value} {a : Act} (hi : ops[i]? = some o) (hy : YieldsIf P ops S o v a)
    {K : Act → World → Prop} {w : World} (hS : S w) (h : K (a.put o.dst v) w) : wpOpIn Fence.wide n P ops Q i K a w := by
 unfold Go.wpOpIn
 simp only [hi]
 rcases hy with ⟨hw, hv⟩ | ⟨hw, rfl⟩
 · simp only [hw, if_true, Oper.wpIn, show Fence.wide.round = none from rfl, Oper.semAt_none, hv w hS, Oper.uponIn]; exact ⟨fun _ _ => trivial, h⟩
 · simp only [hw, Bool.false_eq_true, if_false]; exact ⟨fun _ _ => trivial, h⟩
theorem wpOpIn_putIf {j : Nat} {oi oj : Oper} {v : Value} (hj : ops[j]? = some oj) (hap : oi.apart ops oj = true)
    (hsi : ∀ cs b, oi.op ≠ .select cs b) (hsj : ∀ cs b, oj.op ≠ .select cs b)
    (hQ : ∀ c a w, Q (.panic c) (a.put oi.dst v) w → Q (.panic c) a w) {K : Act → World → Prop} {a : Act} {w : World}
    (hy : YieldsIf P ops S oi v a) (h : wpOpIn Fence.wide n P ops Q j K (a.put oi.dst v) w) :
    wpOpIn Fence.wide n P ops Q j (fun a' w' => YieldsIf P ops S oi v a' ∧ K (a'.put oi.dst v) w') a w := by
 obtain ⟨h1, h2, h3⟩ := Oper.apart_spec hap
 have keep : ∀ (a : Act), YieldsIf P ops S oi v a → ∀ u, YieldsIf P ops S oi v (a.put oj.dst u) := fun a hy u =>
  hy.of_same (execOp_put oi hsi a oj.dst u h3) (wanted_put oi a oj.dst u h3)
 have keepD : ∀ d, YieldsIf P ops S oi v { a with defers := d :: a.defers } := fun d => hy.of_same rfl rfl
 have hro : Fence.wide.round = none := rfl
 unfold wpOpIn at *
 simp only [hj] at *
 rw [wanted_put oj a oi.dst v h1] at h
 split
 · rename_i hw
   simp only [hw, if_true] at h
   unfold Oper.wpIn at *
   refine ⟨fun _ _ => trivial, ?_⟩
   have h := h.2
   rw [hro, Oper.semAt_none, execOp_put oj hsj a oi.dst v h1] at h
   rw [hro, Oper.semAt_none]
   generalize (execOp a.eval oj).run P w = r at *
   cases r with
   | ok x w' =>
    cases x <;> simp only [Oper.uponIn] at h ⊢
    case value u => exact ⟨keep a hy u, by rw [← Act.put_comm a v u h2]; exact h⟩
    case skip => exact ⟨keep a hy _, by rw [← Act.put_comm a v undef h2]; exact h⟩
    case defer d =>
     refine ⟨keep _ (keepD d) _, ?_⟩
     rw [← Act.put_comm _ v undef h2, ← Act.put_defers]
     exact h
    case enter f args =>
     refine ⟨h.1, CallsIn.mono h.2 fun e w'' he => ?_⟩
     cases e with
     | returned u => exact ⟨keep a hy u, by rw [← Act.put_comm a v u h2]; exact he⟩
     | panicked c => exact hQ _ _ _ he
     | outgrown => exact he
    case row row args => exact ⟨h.1, RowsIn.mono h.2 fun u w'' he => ⟨keep a hy u, by rw [← Act.put_comm a v u h2]; exact he⟩⟩
    case round l f tmps assign body =>
     refine ⟨h.1, RoundIn.mono h.2 fun e w'' he => ?_⟩
     cases e with
     | returned u => exact ⟨keep a hy u, by rw [← Act.put_comm a v u h2]; exact he⟩
     | panicked c => exact hQ _ _ _ he
     | outgrown => exact he
   | halt x w' =>
    cases x <;> simp only [Oper.uponIn] at h ⊢
    case panic u => exact hQ _ _ _ h
 · rename_i hw
   simp only [hw] at h
   exact ⟨fun _ _ => trivial, keep a hy _, by rw [← Act.put_comm a v undef h2]; exact h.2⟩
def wpAnyI (P : Program) (n : Nat) (md : Region.Mode) (ops : Array Oper) (Q : Exit → Act → World → Prop) (S : World → Prop) : Nat → Array Bool → Act → World → Prop
 | 0, listed, a, w => Region.ready md ops listed = [] ∧ Q .normal a w
 | fuel + 1, listed, a, w =>
  (Region.ready md ops listed = [] → Q .normal a w) ∧
  ∀ i ∈ Region.ready md ops listed, wpOpIn Fence.wide n P ops Q i (fun a' w' => S w' ∧ wpAnyI P n md ops Q S fuel (listed.setIfInBounds i true) a' w') a w
theorem wpAnyIn_of_gateI : ∀ (fuel : Nat) (listed : Array Bool) (a : Act) (w : World), wpAnyI P n md ops Q S fuel listed a w → wpAnyIn Fence.wide n P md ops Q fuel listed a w
 | 0, _, _, _, h => h
 | fuel + 1, _, _, _, h => ⟨h.1, fun i hi => wpOpIn_mono (fun a' w' h' => wpAnyIn_of_gateI fuel _ a' w' h'.2) (h.2 i hi)⟩
theorem wpAnyI_first {i : Nat} {oi : Oper} {v : Value} (hi : ops[i]? = some oi) (hsel : ∀ (j : Nat) (o : Oper) cs b, ops[j]? = some o → o.op ≠ .select cs b)
    (hQ : ∀ c a w, Q (.panic c) (a.put oi.dst v) w → Q (.panic c) a w) :
    ∀ (fuel : Nat) (listed : Array Bool) (a : Act) (w : World),
     (∀ j oj, ops[j]? = some oj → j ≠ i → listed.getD j true = false → (∀ e ∈ oj.after, Region.binds md e = true → e.on ≠ i) → oi.apart ops oj = true) →
     i ∈ Region.ready md ops listed → YieldsIf P ops S oi v a → S w →
     wpAnyI P n md ops Q S fuel (listed.setIfInBounds i true) (a.put oi.dst v) w → wpAnyI P n md ops Q S (fuel + 1) listed a w := by
 intro fuel
 induction fuel with
 | zero =>
  intro listed a w _ hr hy hS H
  refine ⟨fun h => (by rw [h] at hr; cases hr), fun j hj => ?_⟩
  by_cases hji : j = i
  · subst hji; exact wpOpIn_yieldsIf hi hy hS ⟨hS, H⟩
  · have := ready_mono hj hji
    rw [H.1] at this
    cases this
 | succ fuel ih =>
  intro listed a w hfree hr hy hS H
  refine ⟨fun h => (by rw [h] at hr; cases hr), fun j hj => ?_⟩
  by_cases hji : j = i
  · subst hji; exact wpOpIn_yieldsIf hi hy hS ⟨hS, H⟩
  · have h1 := H.2 j (ready_mono hj hji)
    obtain ⟨hjun, oj, hoj, hall⟩ := mem_ready.1 hj
    have hnot : ∀ e ∈ oj.after, Region.binds md e = true → e.on ≠ i := fun e he hb heq => by
     have h1 := hall e he hb
     have h0 := (mem_ready.1 hr).1
     rw [heq] at h1
     rcases Nat.lt_or_ge i listed.size with h' | h'
     · simp [h'] at h0 h1; rw [h0] at h1; cases h1
     · simp [Array.getElem?_eq_none h'] at h1
    have h2 := wpOpIn_putIf hoj (hfree j oj hoj hji hjun hnot) (fun cs b => hsel i oi cs b hi) (fun cs b => hsel j oj cs b hoj) hQ hy h1
    have hfree' : ∀ k ok, ops[k]? = some ok → k ≠ i → (listed.setIfInBounds j true).getD k true = false →
        (∀ e ∈ ok.after, Region.binds md e = true → e.on ≠ i) → oi.apart ops ok = true := fun k ok hk hki hun hno => by
     refine hfree k ok hk hki ?_ hno
     by_cases hjk : j = k
     · subst hjk; exact hjun
     · rw [getD_set_ne true hjk] at hun; exact hun
    refine wpOpIn_mono (fun a' w' h3 => ?_) h2
    refine ⟨h3.2.1, ih (listed.setIfInBounds j true) a' w' hfree' (ready_mono hr (Ne.symm hji)) h3.1 h3.2.1 ?_⟩
    rw [Array.setIfInBounds_comm _ _ hji]
    exact h3.2.2
theorem wpAnyI_read {i : Nat} {oi : Oper} {v : Value} {fuel : Nat} {listed : Array Bool} {a : Act} {w : World} (hi : ops[i]? = some oi)
    (hs : Region.noSelect ops = true) (hf : Region.free md ops listed i = true) (hr : (Region.ready md ops listed).contains i = true)
    (hQ : ∀ c a w, Q (.panic c) (a.put oi.dst v) w → Q (.panic c) a w) (hS : S w) (hw : Region.wanted oi (yielded ops a.tmps) = true)
    (hy : ∀ w, S w → (execOp a.eval oi).run P w = .ok (.value v) w)
    (h : wpAnyI P n md ops Q S fuel (listed.setIfInBounds i true) (a.put oi.dst v) w) : wpAnyI P n md ops Q S (fuel + 1) listed a w :=
 wpAnyI_first hi (Region.noSelect_spec hs) hQ fuel listed a w (Region.free_spec hi hf) (by simpa using hr) (.inl ⟨hw, hy⟩) hS h
theorem wpAnyI_load {i : Nat} {dst : Option Tmp} {ty : TypeId} {x : Operand} {b o : Nat} {cs : List Value} {d : TypeDesc} {fuel : Nat} {listed : Array Bool} {a : Act} {w : World}
    (hop : (ops[i]?).map (fun o => (o.dst, o.op)) = some (dst, .load ty x)) (hw : (ops[i]?).map (fun o => Region.wanted o (yielded ops a.tmps)) = some true)
    (hs : Region.noSelect ops = true) (hf : Region.free md ops listed i = true) (hr : (Region.ready md ops listed).contains i = true)
    (hQ : ∀ c a w, Q (.panic c) (a.put dst (.agg cs.toArray)) w → Q (.panic c) a w) (hS : S w)
    (hx : a.eval x = .pointer (some ⟨b, o, none⟩)) (hc : ∀ w, S w → w.rangeAt b o cs) (hu : P.underlying ty = some d) (hd : d.isRow = true) (hi : (P.info? ty).map (·.size) = some cs.length)
    (h : wpAnyI P n md ops Q S fuel (listed.setIfInBounds i true) (a.put dst (.agg cs.toArray)) w) : wpAnyI P n md ops Q S (fuel + 1) listed a w := by
 cases ho : ops[i]? with
 | none => rw [ho] at hop; cases hop
 | some oi =>
  rw [ho] at hop hw
  simp only [Option.map_some, Option.some.injEq, Prod.mk.injEq] at hop hw
  obtain ⟨rfl, hop⟩ := hop
  exact wpAnyI_first ho (Region.noSelect_spec hs) hQ fuel listed a w (Region.free_spec ho hf) (by simpa using hr) (yieldsIf_load_mid hw ty x hop b o hx cs d hc hu hd hi) hS h
theorem wpAnyI_one {i : Nat} {o : Oper} {fuel : Nat} {listed : Array Bool} {a : Act} {w : World} (hi : ops[i]? = some o) (hr : Region.ready md ops listed = [i]) (hw : Region.wanted o (yielded ops a.tmps) = true)
    (h : ∀ K' : Act → World → Prop, Shut (∀ a w, S w → wpAnyI P n md ops Q S fuel (listed.setIfInBounds i true) a w → K' a w) → Oper.wpIn Fence.wide n P o a w K' Q) : wpAnyI P n md ops Q S (fuel + 1) listed a w :=
 ⟨fun h0 => (by rw [hr] at h0; cases h0), fun j hj => by
  rw [hr] at hj
  obtain rfl : j = i := by simpa using hj
  refine wpOpIn_step hi (fun K' hK => ?_)
  rw [if_pos hw]
  exact h K' (fun a w h1 h2 => hK a w ⟨h1, h2⟩)⟩
theorem wpAnyI_done {listed : Array Bool} {a : Act} {w : World} (hr : Region.ready md ops listed = []) (h : Q .normal a w) :
    ∀ fuel, wpAnyI P n md ops Q S fuel listed a w
 | 0 => ⟨hr, h⟩
 | _ + 1 => ⟨fun _ => h, by rw [hr]; simp⟩
theorem exec_yield {o : Oper} {ρ : Operand → Value} {w : World} (f x : Operand) (ts : Array TypeId) (ho : o.op = .call { callee := .value f, args := #[x], argTypes := ts }) {l : Nat} (hf : ρ f = .func (.yield l) #[] #[]) {v : Value} (hx : ρ x = v) {fn tmps assign body}
    (hy : (Instr.yield l #[v]).run P w = .ok (.round l fn tmps assign body) w) : (execOp ρ o).run P w = .ok (.round l fn tmps assign body) w := by
 simp [execOp, ho, resolve, hf, hx, invoke, go_sem, hy]
structure HoldAt (p : Prop) : Prop where
 out : p
theorem wpI_yield {o : Oper} {a : Act} {w : World} {K : Act → World → Prop} (f x : Operand) (ts : Array TypeId) (ho : o.op = .call { callee := .value f, args := #[x], argTypes := ts }) {l : Nat} (hf : a.eval f = .func (.yield l) #[] #[]) {v : Value} (hx : a.eval x = v) {R : Ending → World → Prop}
    (hY : YieldAt Fence.wide (n - 1) P l #[v] w R) (h : ∀ e w', R e w' → ∃ u, e = .returned u ∧ K (a.put o.dst u) w') : o.wpIn Fence.wide n P a w K Q := by
 obtain ⟨fn, tmps, assign, body, hy, hR⟩ := hY
 unfold Oper.wpIn
 refine ⟨fun _ _ => trivial, ?_⟩
 rw [show Fence.wide.round = none from rfl, Oper.semAt_none]
 rw [exec_yield f x ts ho hf hx hy]
 simp only [Oper.uponIn]
 refine ⟨(fun h => by cases h), hR.mono fun e w' he => ?_⟩
 obtain ⟨u, rfl, hk⟩ := h e w' he
 exact hk
theorem wpI_op {o : Oper} {a : Act} {w : World} {K : Act → World → Prop} (h : o.wp P a w K Q) : o.wpIn Fence.wide n P a w K Q := by
 refine ⟨fun _ _ => trivial, ?_⟩
 rw [show Fence.wide.round = none from rfl, Oper.semAt_none]
 unfold Oper.wp at h
 generalize (execOp a.eval o).run P w = r at h
 cases r with
 | ok x w' =>
  cases x with
  | value v => exact h
  | skip => exact h
  | defer d => exact h
  | enter f args => exact ⟨(fun h => by cases h), callsIn_wide.2 h⟩
  | row r args => exact ⟨(fun h => by cases h), fun c cs _ => let ⟨v, w', r, s⟩ := h c cs; ⟨v, w', r, stepsIn_wide.2 s⟩⟩
  | round l f t c d => exact h.elim
  | _ => exact h
 | halt x w' => cases x <;> exact h
theorem wpR_op' {l : Nat} {o : Oper} {a : Act} {w : World} {K : Act → World → Prop} (hd : ∀ c, o.op ≠ .defer c) (h : o.wp P a w K Q) : o.wpIn (Fence.wide.inRound l) n P a w K Q := by
 refine ⟨fun _ _ => trivial, ?_⟩
 rw [show (Fence.wide.inRound l).round = some l from rfl, Oper.semAt_some l _ _ hd]
 unfold Oper.wp at h
 generalize (execOp a.eval o).run P w = r at h
 cases r with
 | ok x w' =>
  cases x with
  | value v => exact h
  | skip => exact h
  | defer d => exact h
  | enter f args => exact ⟨(fun h => by cases h), CallsIn.inRound l (callsIn_wide.2 h)⟩
  | row r args => exact ⟨(fun h => by cases h), fun c cs _ => let ⟨v, w', r, s⟩ := h c cs; ⟨v, w', r, stepsIn_wide.2 s⟩⟩
  | round l f t c d => exact h.elim
  | _ => exact h
 | halt x w' => cases x <;> exact h
theorem wpR_list {l : Nat} (hL : ¬ LetsOut Q) : ∀ (rest : List Oper) (a : Act) (w : World), (∀ o ∈ rest, ∀ c, o.op ≠ .defer c) → wpList P ops Q rest a w → wpListIn (Fence.wide.inRound l) n P ops Q rest a w
 | [], _, _, _, h => h
 | o :: rest, a, w, hd, h => by
  unfold wpList at h
  unfold wpListIn
  by_cases hw : Region.wanted o (yielded ops a.tmps) = true
  · rw [if_pos hw] at h ⊢
    rcases h with h | h
    · exact Oper.wpIn_mono (fun a w h => wpR_list hL rest a w (fun o ho => hd o (List.mem_cons_of_mem _ ho)) h) (wpR_op' (hd o List.mem_cons_self) h)
    · exact absurd h.2 hL
  · rw [if_neg hw] at h ⊢
    exact ⟨fun _ _ => trivial, wpR_list hL rest _ w (fun o ho => hd o (List.mem_cons_of_mem _ ho)) h⟩
end
open Go.RowKit Go.Shelf
attribute [local go_sem] Oper.semAt_some
set_option maxRecDepth 20000
set_option linter.unusedSimpArgs false
theorem wpR_region {P : Program} {Q : Exit → Act → World → Prop} {n l id : Nat} {lst : List Oper} {a : Act} {w : World} (hL : ¬ LetsOut Q) (hd : (lst.all fun o => match o.op with | .defer _ => false | _ => true) = true) (h : wpList P lst.toArray Q lst a w) : (Code.region id lst.toArray false).wpIn (Fence.wide.inRound l) n P Q a w :=
 wpIn_region_lit (wpR_list hL _ _ _ (fun o ho c e => by have := (List.all_eq_true.1 hd) o ho; rw [e] at this; cases this) h)
theorem SeqT.later {α : Type} {n : Nat} {P : Program} {gf : Nat} {lb : Array Value} {encs : α → Array Value} {Own Wr : Nat → Prop} {Post Postx : List α → World → Prop} {ok : α → Prop} {N : Nat} {w w' : World} (h : SeqT n P gf lb encs Own Wr Post Postx ok N w) (hb : Below w.heap.size w w') : SeqT n P gf lb encs Own Wr Post Postx ok N w' :=
 fun l T J Jx W hW => h l T J Jx W (hb.trans (hW.mono hb.size))
theorem notOut_then {K : Act → World → Prop} {Q : Exit → Act → World → Prop} (h : ¬ LetsOut Q) : ¬ LetsOut (Exit.then K Q) := fun ⟨a, w, q⟩ => h ⟨a, w, q⟩
theorem notOut_false : ¬ LetsOut (fun _ _ _ => False) := fun ⟨_, _, q⟩ => q
attribute [local go_sem] Oper.semAt_some
theorem ranges_congr {H : Type} {P : Program} {k : TypeId} {R : Value → Option (DataW H × List MemPlace)} {w w' : World} {b r n : Nat} {D : DataW H} {left : Lit → Bool} {cnt : Nat}
    (h : w.ranges P k R b r n D left cnt) (hb' : w'.heap[b]? = w.heap[b]?) (hr' : w'.heap[r]? = w.heap[r]?) : w'.ranges P k R b r n D left cnt := by
 obtain ⟨es, clock, since, seen, c0, hb, F, hs, hD, hr, rest⟩ := h
 exact ⟨es, clock, since, seen, c0, hb'.trans hb, F, hs, hD, hr'.trans hr, rest⟩
structure MovesA (T : Nat → Prop) (w : World) (m : Nat) (T' : Nat → Prop) (w' : World) : Prop where
 turn : Turn T w w'
 own : ∀ k, T' k → (T k ∨ m ≤ k) ∧ k < w'.heap.size
structure CollD (L : List Ev) (left : Lit → Bool) (ps : List (Int × Int)) : Prop where
 nodup : ps.Nodup
 iff : ∀ a s, okD a s → ((a, s) ∈ ps ↔ ((lookE L (a, s)).isSome = true ∧ left (dotLit a s) = false))
 ok : ∀ d ∈ ps, okD d.1 d.2
theorem dotLit_same {a s a' s' : Int} (h : okD a s) (h' : okD a' s') : (dotLit a s).sameKey (dotLit a' s') = true ↔ (a, s) = (a', s') := by
 constructor
 · intro q
   have e : dotLit a s = dotLit a' s' := by
    unfold dotLit at q ⊢
    simpa [Lit.sameKey] using q
   obtain ⟨rfl, rfl⟩ := dotLit_inj h h' e
   rfl
 · intro q
   injection q with q1 q2
   subst q1 q2
   unfold dotLit
   simp [Lit.sameKey]
theorem CollD.step {L : List Ev} {left : Lit → Bool} {ps : List (Int × Int)} (h : CollD L left ps) {a s : Int} (ho : okD a s) (hl : left (dotLit a s) = true) (hs : (lookE L (a, s)).isSome = true) : CollD L (fun z => left z && !z.sameKey (dotLit a s)) (ps ++ [(a, s)]) := by
 refine ⟨?_, fun a' s' ho' => ?_, fun d hd => ?_⟩
 · refine List.nodup_append.2 ⟨h.nodup, by simp, fun x hx y hy e => ?_⟩
   rw [List.mem_singleton.1 hy] at e
   rw [e] at hx
   have := ((h.iff a s ho).1 hx).2
   rw [hl] at this; cases this
 · have hk := dotLit_same ho' ho
   rw [List.mem_append, List.mem_singleton, h.iff a' s' ho']
   by_cases q : (a', s') = (a, s)
   · injection q with q1 q2
     subst q1 q2
     have e : (dotLit a' s').sameKey (dotLit a' s') = true := hk.2 rfl
     simp [hs, e]
   · have e : (dotLit a' s').sameKey (dotLit a s) = false := by
      cases e : (dotLit a' s').sameKey (dotLit a s) with
      | false => rfl
      | true => exact absurd (hk.1 e) q
     simp only [e, Bool.not_false, Bool.and_true]
     constructor
     · rintro (r | r)
       · exact r
       · exact absurd r q
     · exact .inl
 · rcases List.mem_append.1 hd with q | q
   · exact h.ok d q
   · rw [List.mem_singleton.1 q]; exact ho
theorem nodup_dots {L : List Ev} (hs : sortedE L) : (L.map Ev.dot).Nodup := by
 unfold List.Nodup
 rw [List.pairwise_map]
 exact hs.imp fun h => ltD_ne h
theorem CollD.perm {L : List Ev} {left : Lit → Bool} {ps : List (Int × Int)} (h : CollD L left ps) (hs : sortedE L) (hok : ∀ e ∈ L, e.Ok) (hl : ∀ k, left k = false) : ps.Perm (L.map Ev.dot) := by
 refine (List.perm_ext_iff_of_nodup h.nodup (nodup_dots hs)).2 fun d => ?_
 constructor
 · intro hd
   have := ((h.iff d.1 d.2 (h.ok d hd)).1 hd).1
   obtain ⟨e, he⟩ := Option.isSome_iff_exists.1 this
   obtain ⟨h1, h2⟩ := lookE_mem he
   exact List.mem_map.2 ⟨e, h1, h2⟩
 · intro hd
   obtain ⟨e, he, rfl⟩ := List.mem_map.1 hd
   exact (h.iff e.da e.ds (hok e he).dot).2 ⟨by rw [show (e.da, e.ds) = e.dot from rfl, lookE_some hs he]; rfl, hl _⟩
abbrev encF (x : Int × Int) : List Value := dotC x.1 x.2
theorem cmpDotF_any (x y : Int × Int) (w : World) : Calls Tryz.prog 128 #[.agg (encF x).toArray, .agg (encF y).toArray] w fun e w' => e = .returned (.int .i64 (cmpD x y)) ∧ Below w.heap.size w w' := by
 obtain ⟨x1, x2⟩ := x
 obtain ⟨y1, y2⟩ := y
 have h1 := fun W => cmpB_any x1 y1 W
 have h2 := fun W => cmpU_any x2 y2 W
 have HC : Veil (cmpD (x1, x2) (y1, y2) = if x1 = y1 then cmpI x2 y2 else cmpI x1 y1) := ⟨rfl⟩
 have HG : Veil (Below w.heap.size w ((w.alloc (.cells #[.int .u8 x1, .int .u32 x2] 40)).alloc (.cells #[.int .u8 y1, .int .u32 y2] 40))) := ⟨((Below.refl _ _).alloc (Nat.le_refl _) _).alloc (by simp) _⟩
 generalize cmpD (x1, x2) (y1, y2) = R at HC ⊢
 generalize cmpI x1 y1 = R1 at HC h1
 generalize cmpI x2 y2 = R2 at HC h2
 simp only [encF, dotC]
 by_cases hq : x1 = y1
 · have HR : Veil (R = R2) := ⟨by rw [HC.out, if_pos hq]⟩
   subst hq
   go_enter Tryz.func128, Tryz.ntmps128
   go_wp2_with (go_at_call 132; refine (h2 _).mono ?_; rintro e w' ⟨rfl, rfl⟩)
   go_ret
   exact ⟨by rw [HR.out]; rfl, HG.out⟩
 · have HR : Veil (R = R1) := ⟨by rw [HC.out, if_neg hq]⟩
   have hqb : (x1 != y1) = true := by simpa using hq
   go_enter Tryz.func128, Tryz.ntmps128
   go_wp2_with (go_at_call 131; refine (h1 _).mono ?_; rintro e w' ⟨rfl, rfl⟩)
   go_ret
   exact ⟨by rw [HR.out]; rfl, HG.out⟩
def posD (ds : List (Int × Int)) (t : Int × Int) : Nat := (ds.takeWhile (fun x => decide (cmpD x t < 0))).length
theorem takeWhile_at {α : Type} (p : α → Bool) : ∀ (l : List α) (i : Nat), i ≤ l.length → (∀ k (h : k < l.length), k < i → p l[k] = true) → (∀ (h : i < l.length), p l[i] = false) → (l.takeWhile p).length = i
 | [], i, hi, _, _ => by simp at hi; simp [hi]
 | a :: l, 0, _, _, h2 => by
  have := h2 (by simp)
  simp at this
  simp [this]
 | a :: l, i + 1, hi, h1, h2 => by
  have h0 := h1 0 (by simp) (by omega)
  simp at h0
  rw [List.takeWhile_cons_of_pos h0, List.length_cons, takeWhile_at p l i (by simpa using hi) (fun k h hk => by have := h1 (k + 1) (by simp; omega) (by omega); simpa using this) (fun h => by have := h2 (by simp; omega); simpa using this)]
structure BsR (ds : List (Int × Int)) (t : Int × Int) (v : Value) : Prop where
 out : ∃ fnd, v = .tuple #[.int .i64 (posD ds t : Nat), .bool fnd]
set_option maxHeartbeats 8000000 in
theorem bsD_any (base : Nat) (x : Option Addr) (n c : Nat) (ds : List (Int × Int)) (t : Int × Int) (w : World) (hO : OwnI w base 40 2 (.slice x n c) (ds.map encF)) (hm : ∀ i j (hj : j < ds.length) (hij : i ≤ j), cmpD ds[j] t < 0 → cmpD (ds[i]'(by omega)) t < 0) (hn : ds.length ≤ 100000) :
    Calls Tryz.prog 127 #[.slice x n c, .agg (encF t).toArray, .func (.func 128) #[] #[]] w fun e w' => ∃ v, e = .returned v ∧ BsR ds t v ∧ Below w.heap.size w w' := by
 have hB0 : Below w.heap.size w (w.alloc (.cells (encF t).toArray 40)) := (Below.refl _ _).alloc (Nat.le_refl _) _
 have hx0 := CellsAt.new w 40 (encF t)
 have iD : ∀ y : Int × Int, (Tryz.prog.info? 40).map (·.size) = some (encF y).length := fun y => sizeDot
 have iT := iD t
 have uD := Tryz.underlying40
 obtain ⟨x', c', hsl⟩ := hO.isSlice
 obtain ⟨rfl, hnl, rfl⟩ : x = x' ∧ n = ds.length ∧ c = c' := by
  injection hsl with h1 h2 h3
  exact ⟨h1, by rw [h2, List.length_map], h3⟩
 clear hsl
 have HNL := Veil.mk hnl
 have HO := Veil.mk hO
 have HM := Veil.mk hm
 have HCM : Veil (∀ (k : Nat) (hk : k < ds.length) W, Calls Tryz.prog 128 #[.agg (encF ds[k]).toArray, .agg (encF t).toArray] W fun e w' => e = .returned (.int .i64 (cmpD ds[k] t)) ∧ Below W.heap.size W w') := ⟨fun k hk W => cmpDotF_any ds[k] t W⟩
 have hn1 : n ≤ 100000 := by omega
 obtain ⟨DT, hDT⟩ : ∃ q, encF t = q := ⟨_, rfl⟩
 rw [hDT] at hB0 hx0 iT HCM ⊢
 clear hO hm hnl hDT hn
 go_enter Tryz.func127, Tryz.ntmps127
 go_upto_region 1 with fail
 refine forget (p := fun y => Code.wp _ _ _ _ y) (fun W => Below w.heap.size w W ∧ CellsAt W w.heap.size 40 DT) ⟨hB0, hx0⟩ ?_
 clear hB0 hx0
 rintro W1 ⟨hB1, hx1⟩
 go_wp2_with fail
 go_loopw [9, 10, 11] (fun p q _ wr => ∃ i j : Nat, i ≤ j ∧ j ≤ n ∧ p = .int .i64 (i : Nat) ∧ q = .int .i64 (j : Nat) ∧ (∀ k (h : k < ds.length), k < i → cmpD ds[k] t < 0) ∧ (∀ k (h : k < ds.length), j ≤ k → ¬ cmpD ds[k] t < 0) ∧ Below w.heap.size w wr ∧ CellsAt wr w.heap.size 40 DT) (fun p q _ _ => (intOf q).toNat - (intOf p).toNat)
 case atStart => exact ⟨0, n, Nat.zero_le _, Nat.le_refl _, rfl, rfl, fun k h hk => by omega, fun k h hk => by have := HNL.out; omega, hB1, hx1⟩
 case round =>
  obtain ⟨i, j, hij, hjn, rfl, rfl, hlo, hhi, hB, hx⟩ := hrel
  clear hB1 hx1
  have HLO := Veil.mk hlo
  have HHI := Veil.mk hhi
  clear hlo hhi
  by_cases hlt : i < j
  · have hli : (i : Int) < (j : Int) := by omega
    obtain ⟨m, hm⟩ : ∃ m, (i + j) / 2 = m := ⟨_, rfl⟩
    have him : i ≤ m ∧ m < j := by omega
    have hmd : m < ds.length := by have := HNL.out; omega
    have hw1 : IntKind.i64.wrap ((i : Int) + (j : Int)) = (i : Int) + (j : Int) := by rw [IntKind.wrap_i64]; omega
    have HMI : Veil (((i : Int) + (j : Int)) / 2 = (m : Int)) := ⟨by omega⟩
    obtain ⟨g, rfl, -, hr⟩ := (HO.out.far hB).at_ m (by rw [List.length_map]; exact hmd)
    rw [List.getElem_map] at hr
    have hcm := HCM.out m hmd wr.drew
    have iH := iD ds[m]
    have HLT : Veil (cmpD ds[m] t < 0 → ∀ k (h : k < ds.length), k < m + 1 → cmpD ds[k] t < 0) := ⟨fun h k hk hkm => HM.out k m hmd (by omega) h⟩
    have HGE : Veil (¬ cmpD ds[m] t < 0 → ∀ k (h : k < ds.length), m ≤ k → ¬ cmpD ds[k] t < 0) := ⟨fun h k hk hkm q => h (HM.out m k hk hkm q)⟩
    have HX : Veil (∀ W, Below wr.heap.size wr W → (W.rangeAt g (m * 2) (encF ds[m]) ∧ W.rangeAt w.heap.size 0 DT) ∧ Below w.heap.size w W ∧ CellsAt W w.heap.size 40 DT) := ⟨fun W hb => ⟨⟨fun q u hu => (hb.cell (block_lt_of_cell (hr q u hu))).trans (hr q u hu), (hx.farM hb).wholeM⟩, hB.trans (hb.mono hB.size), hx.farM hb⟩⟩
    generalize encF ds[m] = DH at hcm iH HX hr
    generalize cmpD ds[m] t = CM at hcm HLT HGE
    have hm0 : (0 : Int) ≤ (m : Int) := by omega
    have hmn : (m : Int) < (n : Int) := by omega
    have hw2 : IntKind.i64.wrap ((m : Int) + 1) = (m : Int) + 1 := by rw [IntKind.wrap_i64]; omega
    go_upto_region 5 with fail
    rw [HMI.out]
    clear hB hx hr hw1 hm
    refine wp_region_gateT (fun w' => w'.rangeAt g (m * 2) DH ∧ w'.rangeAt w.heap.size 0 DT) (fun _ => True) 99 (by kernel_rfl) ?_
    have hT : (fun w' : World => w'.rangeAt g (m * 2) DH ∧ w'.rangeAt w.heap.size 0 DT) wr.drew := (HX.out _ (Below.refl _ _).drew).1
    have hS : (fun _ : World => True) wr.drew := trivial
    refine ghA 0 _ hT hS ?_
    simp only [Act.put, gA, gS, gZ, sI, sZ, sS]
    refine ghA 1 _ hT hS ?_
    simp only [Act.put, gA, gS, gZ, sI, sZ, sS]
    refine ghA 2 _ hT hS ?_
    simp only [Act.put, gA, gS, gZ, sI, sZ, sS]
    refine ghA 3 _ hT hS ?_
    simp only [Act.put, gA, gS, gZ, sI, sZ, sS]
    refine gl 4 28 40 27 g (m * 2) DH (by kernel_rfl) (by kernel_rfl) (by kernel_rfl) (fun _ _ _ h => h) hT hS (by kernel_rfl) (fun _ h => h.1) uD rfl iH ?_
    simp only [Act.put, gA, gS, gZ, sI, sZ, sS]
    refine gl 5 29 40 4 w.heap.size 0 DT (by kernel_rfl) (by kernel_rfl) (by kernel_rfl) (fun _ _ _ h => h) hT hS (by kernel_rfl) (fun _ h => h.2) uD rfl iT ?_
    simp only [Act.put, gA, gS, gZ, sI, sZ, sS]
    refine wpAnyT_one (i := 6) rfl (by kernel_rfl) (by kernel_rfl) (fun K hK => ?_)
    refine wpx_call _ _ (by kernel_rfl) (hcm.mono ?_)
    rintro z W6 ⟨rfl, hb6⟩
    refine ⟨_, rfl, ?_⟩
    have hb7 : Below wr.heap.size wr W6 := ((Below.refl _ _).drew).trans (hb6.mono (Nat.le_refl _))
    replace hT : (fun w' : World => w'.rangeAt g (m * 2) DH ∧ w'.rangeAt w.heap.size 0 DT) W6 := (HX.out _ hb7).1
    replace hS : (fun _ : World => True) W6 := trivial
    refine hK.out _ _ hT (fun _ => hS) ?_
    clear hK K
    try simp only [Act.put, gA, gS, gZ, sI, sZ, sS]
    obtain ⟨-, r1, r2⟩ := HX.out _ hb7
    by_cases hc : CM < 0
    · have hcd := hc
      refine ghA 7 (.bool true) hT hS ?_
      simp only [Act.put, gA, gS, gZ, sI, sZ, sS]
      refine wpAnyT_done (by kernel_rfl) ?_ _
      clear hT hS hcm hb6 HX hb7
      have HL2 := Veil.mk (HLT.out hc)
      go_wp2
      go_roundw
      case rel => exact ⟨m + 1, j, by omega, hjn, by push_cast; rfl, rfl, HL2.out, HHI.out, r1, r2⟩
      case measure => simp [intOf]; omega
    · have hcd := hc
      refine ghA 7 (.bool false) hT hS ?_
      simp only [Act.put, gA, gS, gZ, sI, sZ, sS]
      refine wpAnyT_done (by kernel_rfl) ?_ _
      clear hT hS hcm hb6 HX hb7
      have HG2 := Veil.mk (HGE.out hc)
      go_wp2
      go_roundw
      case rel => exact ⟨i, m, by omega, by omega, rfl, rfl, HLO.out, HG2.out, r1, r2⟩
      case measure => simp [intOf]; omega
  · obtain rfl : i = j := by omega
    have hli : ¬ (i : Int) < (i : Int) := by omega
    have HPS : Veil (posD ds t = i) := ⟨takeWhile_at _ ds i (by have := HNL.out; omega) (fun k h hk => by simpa using HLO.out k h hk) (fun h => by simpa using HHI.out i h (Nat.le_refl _))⟩
    go_upto_region 8 with fail
    by_cases hin : i < n
    · have hii : (i : Int) < (n : Int) := by omega
      have hi0 : (0 : Int) ≤ (i : Int) := by omega
      have hid : i < ds.length := by have := HNL.out; omega
      obtain ⟨g, rfl, -, hr⟩ := (HO.out.far hB).at_ i (by rw [List.length_map]; exact hid)
      rw [List.getElem_map] at hr
      have hcm := HCM.out i hid wr.drew
      have iH := iD ds[i]
      have HX : Veil (∀ W, Below wr.heap.size wr W → (W.rangeAt g (i * 2) (encF ds[i]) ∧ W.rangeAt w.heap.size 0 DT) ∧ Below w.heap.size w W) := ⟨fun W hb => ⟨⟨fun q u hu => (hb.cell (block_lt_of_cell (hr q u hu))).trans (hr q u hu), (hx.farM hb).wholeM⟩, hB.trans (hb.mono hB.size)⟩⟩
      generalize encF ds[i] = DH at hcm iH HX hr
      generalize cmpD ds[i] t = CM at hcm
      clear hB hx hr
      refine wp_region_gateT (fun w' => w'.rangeAt g (i * 2) DH ∧ w'.rangeAt w.heap.size 0 DT) (fun _ => True) 99 (by kernel_rfl) ?_
      have hT : (fun w' : World => w'.rangeAt g (i * 2) DH ∧ w'.rangeAt w.heap.size 0 DT) wr.drew := (HX.out _ (Below.refl _ _).drew).1
      have hS : (fun _ : World => True) wr.drew := trivial
      refine ghA 0 _ hT hS ?_
      simp only [Act.put, gA, gS, gZ, sI, sZ, sS]
      refine ghA 1 _ hT hS ?_
      simp only [Act.put, gA, gS, gZ, sI, sZ, sS]
      refine ghA 2 _ hT hS ?_
      simp only [Act.put, gA, gS, gZ, sI, sZ, sS]
      refine ghA 3 (.bool true) hT hS ?_
      simp only [Act.put, gA, gS, gZ, sI, sZ, sS]
      refine ghA 4 _ hT hS ?_
      simp only [Act.put, gA, gS, gZ, sI, sZ, sS]
      refine ghA 5 _ hT hS ?_
      simp only [Act.put, gA, gS, gZ, sI, sZ, sS]
      refine ghA 6 _ hT hS ?_
      simp only [Act.put, gA, gS, gZ, sI, sZ, sS]
      refine ghA 7 _ hT hS ?_
      simp only [Act.put, gA, gS, gZ, sI, sZ, sS]
      refine ghA 8 _ hT hS ?_
      simp only [Act.put, gA, gS, gZ, sI, sZ, sS]
      refine gl 9 44 40 43 g (i * 2) DH (by kernel_rfl) (by kernel_rfl) (by kernel_rfl) (fun _ _ _ h => h) hT hS (by kernel_rfl) (fun _ h => h.1) uD rfl iH ?_
      simp only [Act.put, gA, gS, gZ, sI, sZ, sS]
      refine gl 10 45 40 4 w.heap.size 0 DT (by kernel_rfl) (by kernel_rfl) (by kernel_rfl) (fun _ _ _ h => h) hT hS (by kernel_rfl) (fun _ h => h.2) uD rfl iT ?_
      simp only [Act.put, gA, gS, gZ, sI, sZ, sS]
      refine wpAnyT_one (i := 11) rfl (by kernel_rfl) (by kernel_rfl) (fun K hK => ?_)
      refine wpx_call _ _ (by kernel_rfl) (hcm.mono ?_)
      rintro z W6 ⟨rfl, hb6⟩
      refine ⟨_, rfl, ?_⟩
      have hb7 : Below wr.heap.size wr W6 := ((Below.refl _ _).drew).trans (hb6.mono (Nat.le_refl _))
      replace hT : (fun w' : World => w'.rangeAt g (i * 2) DH ∧ w'.rangeAt w.heap.size 0 DT) W6 := (HX.out _ hb7).1
      replace hS : (fun _ : World => True) W6 := trivial
      refine hK.out _ _ hT (fun _ => hS) ?_
      clear hK K
      try simp only [Act.put, gA, gS, gZ, sI, sZ, sS]
      refine ghA 12 (.bool (CM == 0)) hT hS ?_
      simp only [Act.put, gA, gS, gZ, sI, sZ, sS]
      refine ghA 13 (.bool (CM == 0)) hT hS ?_
      simp only [Act.put, gA, gS, gZ, sI, sZ, sS]
      refine ghA 14 _ hT hS ?_
      simp only [Act.put, gA, gS, gZ, sI, sZ, sS]
      refine ghA 15 _ hT hS ?_
      simp only [Act.put, gA, gS, gZ, sI, sZ, sS]
      refine wpAnyT_done (by kernel_rfl) ?_ _
      clear hT hS
      go_wp2
      refine bodyPost_ret (results_tmp2 rfl _ _ _) rfl ?_
      exact ⟨_, rfl, ⟨_, by rw [HPS.out]; rfl⟩, (HX.out _ hb7).2⟩
    · have hii : ¬ (i : Int) < (n : Int) := by omega
      refine wp_region_gateT (fun w' => w'.rangeAt w.heap.size 0 DT) (fun _ => True) 99 (by kernel_rfl) ?_
      have hT : (fun w' : World => w'.rangeAt w.heap.size 0 DT) wr.drew := (hx.congr (w' := wr.drew) rfl).wholeM
      have hS : (fun _ : World => True) wr.drew := trivial
      refine ghA 0 _ hT hS ?_
      simp only [Act.put, gA, gS, gZ, sI, sZ, sS]
      refine ghA 1 _ hT hS ?_
      simp only [Act.put, gA, gS, gZ, sI, sZ, sS]
      refine ghA 2 _ hT hS ?_
      simp only [Act.put, gA, gS, gZ, sI, sZ, sS]
      refine ghA 3 (.bool false) hT hS ?_
      simp only [Act.put, gA, gS, gZ, sI, sZ, sS]
      refine ghA 4 _ hT hS ?_
      simp only [Act.put, gA, gS, gZ, sI, sZ, sS]
      refine gs 5 hT hS ?_
      simp only [Act.put, gA, gS, gZ, sI, sZ, sS]
      refine gs 6 hT hS ?_
      simp only [Act.put, gA, gS, gZ, sI, sZ, sS]
      refine gs 7 hT hS ?_
      simp only [Act.put, gA, gS, gZ, sI, sZ, sS]
      refine gs 8 hT hS ?_
      simp only [Act.put, gA, gS, gZ, sI, sZ, sS]
      refine gs 9 hT hS ?_
      simp only [Act.put, gA, gS, gZ, sI, sZ, sS]
      refine gs 10 hT hS ?_
      simp only [Act.put, gA, gS, gZ, sI, sZ, sS]
      refine gs 11 hT hS ?_
      simp only [Act.put, gA, gS, gZ, sI, sZ, sS]
      refine gs 12 hT hS ?_
      simp only [Act.put, gA, gS, gZ, sI, sZ, sS]
      refine ghA 13 (.bool false) hT hS ?_
      simp only [Act.put, gA, gS, gZ, sI, sZ, sS]
      refine ghA 14 _ hT hS ?_
      simp only [Act.put, gA, gS, gZ, sI, sZ, sS]
      refine ghA 15 _ hT hS ?_
      simp only [Act.put, gA, gS, gZ, sI, sZ, sS]
      refine wpAnyT_done (by kernel_rfl) ?_ _
      clear hT hS
      go_wp2
      refine bodyPost_ret (results_tmp2 rfl _ _ _) rfl ?_
      exact ⟨_, rfl, ⟨_, by rw [HPS.out]; rfl⟩, hB.drew⟩
end Go.Proofs.YtmbdohnmbkpfaaaGreat
