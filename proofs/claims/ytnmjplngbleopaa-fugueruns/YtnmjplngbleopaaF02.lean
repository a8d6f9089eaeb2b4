/- Cv1 Gate Gate2 Eqd Cv3 Evl -/
import Derived.Test.YtnmjplngbleopaaF01
import Derived.OrdersHeld
import Derived.Deep.RegionHeld
import Derived.StillTail
import Derived.Deep.MidRow
import Derived.Laws.StructEq
namespace Go.Proofs.Ytnmjplngbleopaa
open Go.RowKit
set_option maxRecDepth 20000
set_option linter.unusedSimpArgs false
open Go Go.RowKit
section
variable {P : Program} {ops : Array Oper} {Q : Exit → Act → World → Prop} {md : Region.Mode} {S : World → Prop} {D : Nat}
def wpAnyG (P : Program) (md : Region.Mode) (ops : Array Oper) (Q : Exit → Act → World → Prop) (S : World → Prop) (D : Nat) : Nat → Array Bool → Act → World → Prop
  | 0, listed, a, w => Region.ready md ops listed = [] ∧ Q .normal a w
  | fuel + 1, listed, a, w =>
    (Region.ready md ops listed = [] → Q .normal a w) ∧
    ∀ i ∈ Region.ready md ops listed, wpOp P ops Q i (fun a' w' => ((listed.setIfInBounds i true).getD D true = false → S w') ∧ wpAnyG P md ops Q S D fuel (listed.setIfInBounds i true) a' w') a w
theorem wpAny_of_gate : ∀ (fuel : Nat) (listed : Array Bool) (a : Act) (w : World), wpAnyG P md ops Q S D fuel listed a w → wpAny P md ops Q fuel listed a w
  | 0, _, _, _, h => h
  | fuel + 1, _, _, _, h => ⟨h.1, fun i hi => wpOp_mono (fun a' w' h' => wpAny_of_gate fuel _ a' w' h'.2) (h.2 i hi)⟩
theorem wpAnyG_first {i : Nat} {oi : Oper} {v : Value} {T : World → Prop} (hi : ops[i]? = some oi) (hsel : ∀ (j : Nat) (o : Oper) cs b, ops[j]? = some o → o.op ≠ .select cs b)
    (hQ : ∀ c a w, Q (.panic c) (a.put oi.dst v) w → Q (.panic c) a w) (hD : i ≠ D)
    (hT : (∀ w, T w) ∨ ((∀ w, S w → T w) ∧ ∃ oD, ops[D]? = some oD ∧ ∃ e ∈ oD.after, Region.binds md e = true ∧ e.on = i)) :
    ∀ (fuel : Nat) (listed : Array Bool) (a : Act) (w : World),
      (∀ j oj, ops[j]? = some oj → j ≠ i → listed.getD j true = false → (∀ e ∈ oj.after, Region.binds md e = true → e.on ≠ i) → oi.apart ops oj = true) →
      i ∈ Region.ready md ops listed → ((∀ w, T w) ∨ listed.getD D true = false) → YieldsIf P ops T oi v a → (listed.getD D true = false → S w) →
      wpAnyG P md ops Q S D fuel (listed.setIfInBounds i true) (a.put oi.dst v) w → wpAnyG P md ops Q S D (fuel + 1) listed a w := by
  have hTw : ∀ (listed : Array Bool) w, ((∀ w, T w) ∨ listed.getD D true = false) → (listed.getD D true = false → S w) → T w := fun listed w h1 h2 => by
    rcases h1 with h | h
    · exact h w
    · rcases hT with h' | ⟨h', _⟩
      · exact h' w
      · exact h' w (h2 h)
  intro fuel
  induction fuel with
  | zero =>
    intro listed a w _ hr hg hy hS H
    refine ⟨fun h => (by rw [h] at hr; cases hr), fun j hj => ?_⟩
    by_cases hji : j = i
    · subst hji; exact hy.wpOp hi (hTw listed w hg hS) ⟨fun h => hS (by rwa [getD_set_ne true hD] at h), H⟩
    · have := ready_mono hj hji
      rw [H.1] at this
      cases this
  | succ fuel ih =>
    intro listed a w hfree hr hg hy hS H
    refine ⟨fun h => (by rw [h] at hr; cases hr), fun j hj => ?_⟩
    by_cases hji : j = i
    · subst hji; exact hy.wpOp hi (hTw listed w hg hS) ⟨fun h => hS (by rwa [getD_set_ne true hD] at h), H⟩
    · have h1 := H.2 j (ready_mono hj hji)
      obtain ⟨hjun, oj, hoj, hall⟩ := mem_ready.1 hj
      have hnot : ∀ e ∈ oj.after, Region.binds md e = true → e.on ≠ i := fun e he hb heq => by
        have h1 := hall e he hb
        have h0 := (mem_ready.1 hr).1
        rw [heq] at h1
        rcases Nat.lt_or_ge i listed.size with h' | h'
        · simp [h'] at h0 h1; rw [h0] at h1; cases h1
        · simp [Array.getElem?_eq_none h'] at h1
      have h2 := wpOp_putIf hoj (hfree j oj hoj hji hjun hnot) (fun cs b => hsel i oi cs b hi) (fun cs b => hsel j oj cs b hoj) hQ hy h1
      have hfree' : ∀ k ok, ops[k]? = some ok → k ≠ i → (listed.setIfInBounds j true).getD k true = false →
          (∀ e ∈ ok.after, Region.binds md e = true → e.on ≠ i) → oi.apart ops ok = true := fun k ok hk hki hun hno => by
        refine hfree k ok hk hki ?_ hno
        by_cases hjk : j = k
        · subst hjk; exact hjun
        · rw [getD_set_ne true hjk] at hun; exact hun
      have hg' : (∀ w, T w) ∨ (listed.setIfInBounds j true).getD D true = false := by
        rcases hT with h | ⟨_, oD, hoD, e, he, hb, hon⟩
        · exact .inl h
        · rcases hg with h | h
          · exact .inl h
          · refine .inr ?_
            have hjD : j ≠ D := fun e' => by
              subst e'
              obtain rfl : oj = oD := Option.some.inj (hoj.symm.trans hoD)
              exact hnot e he hb hon
            rw [getD_set_ne true hjD]; exact h
      refine wpOp_mono (fun a' w' h3 => ?_) h2
      have hS' : (listed.setIfInBounds j true).getD D true = false → S w' := fun h => h3.2.1 (by rw [Array.setIfInBounds_comm _ _ (Ne.symm hji), getD_set_ne true hD]; exact h)
      refine ⟨hS', ih (listed.setIfInBounds j true) a' w' hfree' (ready_mono hr (Ne.symm hji)) hg' h3.1 hS' ?_⟩
      rw [Array.setIfInBounds_comm _ _ hji]
      exact h3.2.2
theorem wpAnyG_any {i : Nat} {oi : Oper} {v : Value} {fuel : Nat} {listed : Array Bool} {a : Act} {w : World} (hi : ops[i]? = some oi)
    (hs : Region.noSelect ops = true) (hf : Region.free md ops listed i = true) (hr : (Region.ready md ops listed).contains i = true)
    (hQ : ∀ c a w, Q (.panic c) (a.put oi.dst v) w → Q (.panic c) a w) (hD : (i == D) = false) (hS : listed.getD D true = false → S w) (hw : Region.wanted oi (yielded ops a.tmps) = true)
    (hy : ∀ w, (execOp a.eval oi).run P w = .ok (.value v) w)
    (h : wpAnyG P md ops Q S D fuel (listed.setIfInBounds i true) (a.put oi.dst v) w) : wpAnyG P md ops Q S D (fuel + 1) listed a w :=
  wpAnyG_first (T := fun _ => True) hi (Region.noSelect_spec hs) hQ (by simpa using hD) (.inl fun _ => trivial) fuel listed a w (Region.free_spec hi hf) (by simpa using hr) (.inl fun _ => trivial) (.inl ⟨hw, fun w _ => hy w⟩) hS h
theorem wpAnyG_read {i : Nat} {oi : Oper} {v : Value} {fuel : Nat} {listed : Array Bool} {a : Act} {w : World} (hi : ops[i]? = some oi)
    (hs : Region.noSelect ops = true) (hf : Region.free md ops listed i = true) (hr : (Region.ready md ops listed).contains i = true)
    (hQ : ∀ c a w, Q (.panic c) (a.put oi.dst v) w → Q (.panic c) a w) (hD : (i == D) = false) (hwait : Region.waitsFor md ops D i = true) (hg : listed.getD D true = false) (hS : S w) (hw : Region.wanted oi (yielded ops a.tmps) = true)
    (hy : ∀ w, S w → (execOp a.eval oi).run P w = .ok (.value v) w)
    (h : wpAnyG P md ops Q S D fuel (listed.setIfInBounds i true) (a.put oi.dst v) w) : wpAnyG P md ops Q S D (fuel + 1) listed a w :=
  wpAnyG_first (T := S) hi (Region.noSelect_spec hs) hQ (by simpa using hD) (.inr ⟨fun _ h => h, by
    obtain ⟨oD, h1, e, h2, h3, h4⟩ := Region.waitsFor_spec hwait
    exact ⟨oD, h1, e, h2, h3, h4⟩⟩) fuel listed a w (Region.free_spec hi hf) (by simpa using hr) (.inr hg) (.inl ⟨hw, hy⟩) (fun _ => hS) h
theorem wpAnyG_one {i : Nat} {o : Oper} {fuel : Nat} {listed : Array Bool} {a : Act} {w : World} (hi : ops[i]? = some o) (hr : Region.ready md ops listed = [i]) (hw : Region.wanted o (yielded ops a.tmps) = true)
    (h : ∀ K' : Act → World → Prop, Shut (∀ a w, ((listed.setIfInBounds i true).getD D true = false → S w) → wpAnyG P md ops Q S D fuel (listed.setIfInBounds i true) a w → K' a w) → Oper.wp P o a w K' Q) : wpAnyG P md ops Q S D (fuel + 1) listed a w :=
  ⟨fun h0 => (by rw [hr] at h0; cases h0), fun j hj => by
    rw [hr] at hj
    obtain rfl : j = i := by simpa using hj
    refine wpOp_step hi (fun K' hK => ?_)
    rw [if_pos hw]
    exact h K' (fun a w h1 h2 => hK a w ⟨h1, h2⟩)⟩
theorem wpAnyG_done {listed : Array Bool} {a : Act} {w : World} (hr : Region.ready md ops listed = []) (h : Q .normal a w) :
    ∀ fuel, wpAnyG P md ops Q S D fuel listed a w
  | 0 => ⟨hr, h⟩
  | _ + 1 => ⟨fun _ => h, by rw [hr]; simp⟩
theorem wp_region_gate {id : Nat} {a : Act} {w : World} (S : World → Prop) (D : Nat) (hm : P.follows .mixedOrders = true)
    (h : wpAnyG P .any ops Q S D ops.size (Array.replicate ops.size false) a w.drew) : (Code.region id ops true).wp P Q a w :=
  wp_region_any hm (wpAny_of_gate _ _ _ _ h)
end
section
variable {P : Program} {ops : Array Oper} {Q : Exit → Act → World → Prop} {md : Region.Mode} {S : World → Prop} {D : Nat}
theorem wpAnyG_row {i : Nat} {oi : Oper} {v : Value} {fuel : Nat} {listed : Array Bool} {a : Act} {w : World} (hi : ops[i]? = some oi)
    (hs : Region.noSelect ops = true) (hf : Region.free md ops listed i = true) (hr : (Region.ready md ops listed).contains i = true)
    (hQ : ∀ c a w, Q (.panic c) (a.put oi.dst v) w → Q (.panic c) a w) (hD : (i == D) = false) (hwait : Region.waitsFor md ops D i = true) (hg : listed.getD D true = false) (hS : S w)
    (hy : YieldsIf P ops S oi v a)
    (h : wpAnyG P md ops Q S D fuel (listed.setIfInBounds i true) (a.put oi.dst v) w) : wpAnyG P md ops Q S D (fuel + 1) listed a w :=
  wpAnyG_first (T := S) hi (Region.noSelect_spec hs) hQ (by simpa using hD) (.inr ⟨fun _ h => h, by
    obtain ⟨oD, h1, e, h2, h3, h4⟩ := Region.waitsFor_spec hwait
    exact ⟨oD, h1, e, h2, h3, h4⟩⟩) fuel listed a w (Region.free_spec hi hf) (by simpa using hr) (.inr hg) hy (fun _ => hS) h
theorem wpAnyG_load {i : Nat} {dst : Option Tmp} {ty : TypeId} {x : Operand} {b o : Nat} {cs : List Value} {d : TypeDesc} {fuel : Nat} {listed : Array Bool} {a : Act} {w : World}
    (hop : (ops[i]?).map (fun o => (o.dst, o.op)) = some (dst, .load ty x)) (hw : (ops[i]?).map (fun o => Region.wanted o (yielded ops a.tmps)) = some true)
    (hs : Region.noSelect ops = true) (hf : Region.free md ops listed i = true) (hr : (Region.ready md ops listed).contains i = true)
    (hQ : ∀ c a w, Q (.panic c) (a.put dst (.agg cs.toArray)) w → Q (.panic c) a w) (hD : (i == D) = false) (hwait : Region.waitsFor md ops D i = true) (hg : listed.getD D true = false) (hS : S w)
    (hx : a.eval x = .pointer (some ⟨b, o, none⟩)) (hc : ∀ w, S w → w.rangeAt b o cs) (hu : P.underlying ty = some d) (hd : d.isRow = true) (hi : (P.info? ty).map (·.size) = some cs.length)
    (h : wpAnyG P md ops Q S D fuel (listed.setIfInBounds i true) (a.put dst (.agg cs.toArray)) w) : wpAnyG P md ops Q S D (fuel + 1) listed a w := by
  cases ho : ops[i]? with
  | none => rw [ho] at hop; cases hop
  | some oi =>
    rw [ho] at hop hw
    simp only [Option.map_some, Option.some.injEq, Prod.mk.injEq] at hop hw
    obtain ⟨rfl, hop⟩ := hop
    exact wpAnyG_row ho hs hf hr hQ hD hwait hg hS (yieldsIf_load_mid hw ty x hop b o hx cs d hc hu hd hi) h
end
theorem part_one {P : Program} (w : World) (t : TypeId) (k : IntKind) (cs : List Value) (off : Nat) (v : Value) (hu : P.underlying t = some (.int k)) (hv : cs[off]? = some v) : (part t cs.toArray off).run P w = .ok v w := by
  simp [part, isAgg, run_underlying hu, hv]
theorem eqFields_2 {P : Program} (w : World) (d : Nat) (xs ys : Array Value) (t1 t2 : TypeId) (o1 o2 : Nat) (a1 b1 a2 b2 : Value) (r1 r2 : Bool) (h1 : (part t1 xs o1).run P w = .ok a1 w) (k1 : (part t1 ys o1).run P w = .ok b1 w) (h2 : (part t2 xs o2).run P w = .ok a2 w) (k2 : (part t2 ys o2).run P w = .ok b2 w)
    (e1 : (Op.equalIn d t1 a1 b1).run P w = .ok r1 w) (e2 : (Op.equalIn d t2 a2 b2).run P w = .ok r2 w) : ∀ L : List Field, L.map (fun f => (f.name != "_", f.type, f.offset)) = [(true, t1, o1), (true, t2, o2)] → (Op.eqFields d xs ys L).run P w = .ok (r1 && r2) w
  | [], hf => by simp at hf
  | [_], hf => by simp at hf
  | _ :: _ :: _ :: _, hf => by simp at hf
  | [f, g], hf => by
    simp only [List.map_cons, List.map_nil, List.cons.injEq, Prod.mk.injEq, and_true, bne_iff_ne, ne_eq] at hf
    obtain ⟨⟨q1, q2, q3⟩, p1, p2, p3⟩ := hf
    cases r1 <;> cases r2 <;> simp only [Op.eqFields, q1, q2, q3, p1, p2, p3, ne_eq, not_false_eq_true, if_true, Sem.run_bind, h1, h2, k1, k2, e1, e2, Result.andThen_ok, Bool.not_true, Bool.not_false, Bool.false_eq_true, if_false, Sem.run_pure, Bool.and_true, Bool.and_false]
theorem dot_fields : (Try.prog.fieldsOf 32).toList.map (fun f => (f.name != "_", f.type, f.offset)) = [(true, 5, 0), (true, 30, 1)] := by kernel_rfl
theorem dot_under : Try.prog.underlying 32 = some (.struct (Try.prog.fieldsOf 32)) := by kernel_rfl
theorem dot_held : Try.prog.stoodInHeld 32 = false := by kernel_rfl
theorem dot_eqIn (d : Nat) (a s a' s' : Int) (wx : World) : (Op.equalIn (d + 1 + 1) 32 (.agg (dotC a s).toArray) (.agg (dotC a' s').toArray)).run Try.prog wx = .ok ((a == a') && (s == s')) wx := by
  rw [run_equalIn_struct wx _ 32 _ _ dot_under dot_held]
  exact eqFields_2 wx _ _ _ _ _ _ _ (.int .u8 a) (.int .u8 a') (.int .u32 s) (.int .u32 s') _ _ (part_one wx _ _ (dotC a s) 0 _ Try.underlying5 rfl) (part_one wx _ _ (dotC a' s') 0 _ Try.underlying5 rfl) (part_one wx _ _ (dotC a s) 1 _ Try.underlying30 rfl) (part_one wx _ _ (dotC a' s') 1 _ Try.underlying30 rfl)
    (run_equalIn_int wx d 5 .u8 .u8 a a' Try.underlying5) (run_equalIn_int wx d 30 .u32 .u32 s s' Try.underlying30) _ dot_fields
theorem dot_eql (a s a' s' : Int) (wx : World) : (binOp BinOp.eql 32 (.agg (dotC a s).toArray) (.agg (dotC a' s').toArray)).run Try.prog wx = .ok (.bool ((a == a') && (s == s'))) wx := by
  rw [run_eql_struct, dot_eqIn 9998]; rfl
theorem wpList_ldgv {P : Program} {ops : Array Oper} {rest : List Oper} {o : Oper} {a : Act} {w : World} {Q : Exit → Act → World → Prop} {d : TypeDesc} (hw : Region.wanted o (yielded ops a.tmps) = true) (ty : TypeId) (x : Operand) (ho : o.op = .load ty x)
    (g off : Nat) (hx : a.eval x = .pointer (some ⟨g, off, none⟩)) (cs : List Value) (hg : w.rangeAt g off cs)
    (hu : P.underlying ty = some d) (hd : d.isRow = true) (hi : (P.info? ty).map (·.size) = some cs.length)
    (h : wpList P ops Q rest (a.put o.dst (.agg cs.toArray)) w) : wpList P ops Q (o :: rest) a w :=
  wpList_step fun K hK => by
    rw [if_pos hw]
    exact wp_load_mid ty x ho g off hx cs _ hg hu hd hi (hK _ _ h)
end Go.Proofs.Ytnmjplngbleopaa
