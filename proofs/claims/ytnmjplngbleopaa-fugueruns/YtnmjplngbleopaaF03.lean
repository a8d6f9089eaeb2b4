/- Gate3 Gate4 Cv4 Evm Cv5 Cv6 Gate5 Gx -/
import Derived.OrdersHeld
import Derived.Deep.RegionHeld
import Derived.StillTail
import Derived.Test.YtnmjplngbleopaaF02
import Derived.Deep.MidRow
import Derived.Test.YtnmjplngbleopaaF01
import Derived.Great.BuildSlice
namespace Go.Proofs.Ytnmjplngbleopaa
open Go Go.RowKit
section
variable {P : Program} {ops : Array Oper} {Q : Exit → Act → World → Prop} {md : Region.Mode} {T S : World → Prop} {D : Nat}
def wpAnyT (P : Program) (md : Region.Mode) (ops : Array Oper) (Q : Exit → Act → World → Prop) (T S : World → Prop) (D : Nat) : Nat → Array Bool → Act → World → Prop
  | 0, listed, a, w => Region.ready md ops listed = [] ∧ Q .normal a w
  | fuel + 1, listed, a, w =>
    (Region.ready md ops listed = [] → Q .normal a w) ∧
    ∀ i ∈ Region.ready md ops listed, wpOp P ops Q i (fun a' w' => (T w' ∧ ((listed.setIfInBounds i true).getD D true = false → S w')) ∧ wpAnyT P md ops Q T S D fuel (listed.setIfInBounds i true) a' w') a w
theorem wpAny_of_gateT : ∀ (fuel : Nat) (listed : Array Bool) (a : Act) (w : World), wpAnyT P md ops Q T S D fuel listed a w → wpAny P md ops Q fuel listed a w
  | 0, _, _, _, h => h
  | fuel + 1, _, _, _, h => ⟨h.1, fun i hi => wpOp_mono (fun a' w' h' => wpAny_of_gateT fuel _ a' w' h'.2) (h.2 i hi)⟩
theorem wpAnyT_first {i : Nat} {oi : Oper} {v : Value} {U : World → Prop} (hi : ops[i]? = some oi) (hsel : ∀ (j : Nat) (o : Oper) cs b, ops[j]? = some o → o.op ≠ .select cs b)
    (hQ : ∀ c a w, Q (.panic c) (a.put oi.dst v) w → Q (.panic c) a w) (hD : i ≠ D)
    (hU : (∀ w, T w → U w) ∨ ((∀ w, S w → U w) ∧ ∃ oD, ops[D]? = some oD ∧ ∃ e ∈ oD.after, Region.binds md e = true ∧ e.on = i)) :
    ∀ (fuel : Nat) (listed : Array Bool) (a : Act) (w : World),
      (∀ j oj, ops[j]? = some oj → j ≠ i → listed.getD j true = false → (∀ e ∈ oj.after, Region.binds md e = true → e.on ≠ i) → oi.apart ops oj = true) →
      i ∈ Region.ready md ops listed → ((∀ w, T w → U w) ∨ listed.getD D true = false) → YieldsIf P ops U oi v a → T w → (listed.getD D true = false → S w) →
      wpAnyT P md ops Q T S D fuel (listed.setIfInBounds i true) (a.put oi.dst v) w → wpAnyT P md ops Q T S D (fuel + 1) listed a w := by
  have hUw : ∀ (listed : Array Bool) w, ((∀ w, T w → U w) ∨ listed.getD D true = false) → T w → (listed.getD D true = false → S w) → U w := fun listed w h1 h0 h2 => by
    rcases h1 with h | h
    · exact h w h0
    · rcases hU with h' | ⟨h', _⟩
      · exact h' w h0
      · exact h' w (h2 h)
  intro fuel
  induction fuel with
  | zero =>
    intro listed a w _ hr hg hy hT hS H
    refine ⟨fun h => (by rw [h] at hr; cases hr), fun j hj => ?_⟩
    by_cases hji : j = i
    · subst hji; exact hy.wpOp hi (hUw listed w hg hT hS) ⟨⟨hT, fun h => hS (by rwa [getD_set_ne true hD] at h)⟩, H⟩
    · have := ready_mono hj hji
      rw [H.1] at this
      cases this
  | succ fuel ih =>
    intro listed a w hfree hr hg hy hT hS H
    refine ⟨fun h => (by rw [h] at hr; cases hr), fun j hj => ?_⟩
    by_cases hji : j = i
    · subst hji; exact hy.wpOp hi (hUw listed w hg hT hS) ⟨⟨hT, fun h => hS (by rwa [getD_set_ne true hD] at h)⟩, H⟩
    · have h1 := H.2 j (ready_mono hj hji)
      obtain ⟨hjun, oj, hoj, hall⟩ := mem_ready.1 hj
      have hnot : ∀ e ∈ oj.after, Region.binds md e = true → e.on ≠ i := fun e he hb heq => by
        have h1 := hall e he hb
        have h0 := (mem_ready.1 hr).1
        rw [heq] at h1
        rcases Nat.lt_or_ge i listed.size with h' | h'
        · simp [h'] at h0 h1; rw [h0] at h1; cases h1
        · simp [Array.getElem?_eq_none h'] at h1
      have h2 := wpOp_putIf hoj (hfree j oj hoj hji hjun hnot) (fun cs b => hsel i oi cs b hi) (fun cs b => hsel j oj cs b hoj) hQ hy h1
      have hfree' : ∀ k ok, ops[k]? = some ok → k ≠ i → (listed.setIfInBounds j true).getD k true = false →
          (∀ e ∈ ok.after, Region.binds md e = true → e.on ≠ i) → oi.apart ops ok = true := fun k ok hk hki hun hno => by
        refine hfree k ok hk hki ?_ hno
        by_cases hjk : j = k
        · subst hjk; exact hjun
        · rw [getD_set_ne true hjk] at hun; exact hun
      have hg' : (∀ w, T w → U w) ∨ (listed.setIfInBounds j true).getD D true = false := by
        rcases hU with h | ⟨_, oD, hoD, e, he, hb, hon⟩
        · exact .inl h
        · rcases hg with h | h
          · exact .inl h
          · refine .inr ?_
            have hjD : j ≠ D := fun e' => by
              subst e'
              obtain rfl : oj = oD := Option.some.inj (hoj.symm.trans hoD)
              exact hnot e he hb hon
            rw [getD_set_ne true hjD]; exact h
      refine wpOp_mono (fun a' w' h3 => ?_) h2
      have hS' : (listed.setIfInBounds j true).getD D true = false → S w' := fun h => h3.2.1.2 (by rw [Array.setIfInBounds_comm _ _ (Ne.symm hji), getD_set_ne true hD]; exact h)
      refine ⟨⟨h3.2.1.1, hS'⟩, ih (listed.setIfInBounds j true) a' w' hfree' (ready_mono hr (Ne.symm hji)) hg' h3.1 h3.2.1.1 hS' ?_⟩
      rw [Array.setIfInBounds_comm _ _ hji]
      exact h3.2.2
theorem wpAnyT_held {i : Nat} {oi : Oper} {v : Value} {fuel : Nat} {listed : Array Bool} {a : Act} {w : World} (hi : ops[i]? = some oi)
    (hs : Region.noSelect ops = true) (hf : Region.free md ops listed i = true) (hr : (Region.ready md ops listed).contains i = true)
    (hQ : ∀ c a w, Q (.panic c) (a.put oi.dst v) w → Q (.panic c) a w) (hD : (i == D) = false) (hT : T w) (hS : listed.getD D true = false → S w) (hw : Region.wanted oi (yielded ops a.tmps) = true)
    (hy : ∀ w, T w → (execOp a.eval oi).run P w = .ok (.value v) w)
    (h : wpAnyT P md ops Q T S D fuel (listed.setIfInBounds i true) (a.put oi.dst v) w) : wpAnyT P md ops Q T S D (fuel + 1) listed a w :=
  wpAnyT_first (U := T) hi (Region.noSelect_spec hs) hQ (by simpa using hD) (.inl fun _ h => h) fuel listed a w (Region.free_spec hi hf) (by simpa using hr) (.inl fun _ h => h) (.inl ⟨hw, hy⟩) hT hS h
theorem wpAnyT_one {i : Nat} {o : Oper} {fuel : Nat} {listed : Array Bool} {a : Act} {w : World} (hi : ops[i]? = some o) (hr : Region.ready md ops listed = [i]) (hw : Region.wanted o (yielded ops a.tmps) = true)
    (h : ∀ K' : Act → World → Prop, Shut (∀ a w, T w → ((listed.setIfInBounds i true).getD D true = false → S w) → wpAnyT P md ops Q T S D fuel (listed.setIfInBounds i true) a w → K' a w) → Oper.wp P o a w K' Q) : wpAnyT P md ops Q T S D (fuel + 1) listed a w :=
  ⟨fun h0 => (by rw [hr] at h0; cases h0), fun j hj => by
    rw [hr] at hj
    obtain rfl : j = i := by simpa using hj
    refine wpOp_step hi (fun K' hK => ?_)
    rw [if_pos hw]
    exact h K' (fun a w h0 h1 h2 => hK a w ⟨⟨h0, h1⟩, h2⟩)⟩
theorem wpAnyT_done {listed : Array Bool} {a : Act} {w : World} (hr : Region.ready md ops listed = []) (h : Q .normal a w) :
    ∀ fuel, wpAnyT P md ops Q T S D fuel listed a w
  | 0 => ⟨hr, h⟩
  | _ + 1 => ⟨fun _ => h, by rw [hr]; simp⟩
theorem wp_region_gateT {id : Nat} {a : Act} {w : World} (T S : World → Prop) (D : Nat) (hm : P.follows .mixedOrders = true)
    (h : wpAnyT P .any ops Q T S D ops.size (Array.replicate ops.size false) a w.drew) : (Code.region id ops true).wp P Q a w :=
  wp_region_any hm (wpAny_of_gateT _ _ _ _ h)
end
section
variable {P : Program} {ops : Array Oper} {Q : Exit → Act → World → Prop} {md : Region.Mode} {T S : World → Prop} {D : Nat}
theorem wpAnyT_load {i : Nat} {dst : Option Tmp} {ty : TypeId} {x : Operand} {b o : Nat} {cs : List Value} {d : TypeDesc} {fuel : Nat} {listed : Array Bool} {a : Act} {w : World}
    (hop : (ops[i]?).map (fun o => (o.dst, o.op)) = some (dst, .load ty x)) (hw : (ops[i]?).map (fun o => Region.wanted o (yielded ops a.tmps)) = some true)
    (hs : Region.noSelect ops = true) (hf : Region.free md ops listed i = true) (hr : (Region.ready md ops listed).contains i = true)
    (hQ : ∀ c a w, Q (.panic c) (a.put dst (.agg cs.toArray)) w → Q (.panic c) a w) (hD : (i == D) = false) (hT : T w) (hS : listed.getD D true = false → S w)
    (hx : a.eval x = .pointer (some ⟨b, o, none⟩)) (hc : ∀ w, T w → w.rangeAt b o cs) (hu : P.underlying ty = some d) (hd : d.isRow = true) (hi : (P.info? ty).map (·.size) = some cs.length)
    (h : wpAnyT P md ops Q T S D fuel (listed.setIfInBounds i true) (a.put dst (.agg cs.toArray)) w) : wpAnyT P md ops Q T S D (fuel + 1) listed a w := by
  cases ho : ops[i]? with
  | none => rw [ho] at hop; cases hop
  | some oi =>
    rw [ho] at hop hw
    simp only [Option.map_some, Option.some.injEq, Prod.mk.injEq] at hop hw
    obtain ⟨rfl, hop⟩ := hop
    exact wpAnyT_first (U := T) ho (Region.noSelect_spec hs) hQ (by simpa using hD) (.inl fun _ h => h) fuel listed a w (Region.free_spec ho hf) (by simpa using hr) (.inl fun _ h => h) (yieldsIf_load_mid hw ty x hop b o hx cs d hc hu hd hi) hT hS h
theorem wpAnyT_skip {i : Nat} {oi : Oper} {fuel : Nat} {listed : Array Bool} {a : Act} {w : World} (hi : ops[i]? = some oi)
    (hs : Region.noSelect ops = true) (hf : Region.free md ops listed i = true) (hr : (Region.ready md ops listed).contains i = true)
    (hQ : ∀ c a w, Q (.panic c) (a.put oi.dst undef) w → Q (.panic c) a w) (hD : (i == D) = false) (hT : T w) (hS : listed.getD D true = false → S w) (hw : Region.wanted oi (yielded ops a.tmps) = false)
    (h : wpAnyT P md ops Q T S D fuel (listed.setIfInBounds i true) (a.put oi.dst undef) w) : wpAnyT P md ops Q T S D (fuel + 1) listed a w :=
  wpAnyT_first (U := T) hi (Region.noSelect_spec hs) hQ (by simpa using hD) (.inl fun _ h => h) fuel listed a w (Region.free_spec hi hf) (by simpa using hr) (.inl fun _ h => h) (.inr ⟨hw, rfl⟩) hT hS h
end
open Go.RowKit
set_option maxRecDepth 20000
set_option linter.unusedSimpArgs false
theorem wp_stvE {P : Program} {o : Oper} {a : Act} {w : World} {K : Act → World → Prop} {Q : Exit → Act → World → Prop} (ty : TypeId) (x y : Operand) (ho : o.op = .store ty x y)
    (g : Nat) (hx : a.eval x = .pointer (some ⟨g, 0, none⟩)) {t : TypeId} {old cs : List Value} (hy : a.eval y = .agg cs.toArray) (hg : CellsAt w g t old)
    (hi : (P.info? ty).map (·.size) = some cs.length) (hl : old.length = cs.length) (h1 : ∀ v ∈ cs, v.oneCell' = true)
    (h : K (a.put o.dst undef) (w.setRow g cs.toArray)) : o.wp P a w K Q := by
  unfold Oper.wp execOp
  simp only [ho, hx, hy, Instr.storeAt, Instr.sureAddr, Sem.run_bind, Sem.run_pure, Result.andThen_ok, run_storeVar_cells w g ty t old cs hg hl hi h1]
  exact h
theorem results_cells {P : Program} {fn : Func} {p : Tmp} {ty t : TypeId} {d : TypeDesc} (h : fn.results = #[.cell p ty]) (tmps : Array Value) {w : World} {g : Nat} {cs : List Value} (hp : tmps.getD p undef = .pointer (some ⟨g, 0, none⟩)) (hg : CellsAt w g t cs)
    (hu : P.underlying ty = some d) (hd : d.isRow = true) (hi : (P.info? ty).map (·.size) = some cs.length) : (results fn tmps).run P w = .ok (.agg cs.toArray) w :=
  results_cell_row h tmps w g t cs.toArray (0, 0) d hp hg hu (by cases d <;> first | rfl | (cases hd)) (by rw [hi]; simp)
theorem CellsAt.farM {w w' : World} {g : Nat} {t : TypeId} {cs : List Value} (h : CellsAt w g t cs) (hb : Below w.heap.size w w') : CellsAt w' g t cs := h.congr (hb.block _ h.lt)
theorem CellsAt.wholeM {w : World} {g : Nat} {t : TypeId} {cs : List Value} (h : CellsAt w g t cs) : w.rangeAt g 0 cs := fun j v hv => by rw [Nat.zero_add, h.cell]; exact hv
theorem CellsAt.setRowM {w : World} {g g' : Nat} {t : TypeId} {cs : List Value} (h : CellsAt w g t cs) (cs' : Array Value) (hne : g ≠ g') : CellsAt (w.setRow g' cs') g t cs := by
  unfold CellsAt at h ⊢; rw [setRow_other w g' g cs' hne]; exact h
section
variable {P : Program} {ops : Array Oper} {Q : Exit → Act → World → Prop} {md : Region.Mode} {S : World → Prop} {D : Nat}
end
theorem meet {α : Prop} (R : Nat → Value → World → Prop) (C : Nat → Value → World → Prop) (use : Veil (∀ g v w, R g v w → C g v w) → α) (prove : ∀ g v w, R g v w → C g v w) : α := use ⟨prove⟩
section
variable {P : Program} {o : Oper} {a : Act} {w : World} {K : Act → World → Prop} {Q : Exit → Act → World → Prop}
theorem wpx_call (f : FuncId) (args : Array Value) (hrun : (execOp a.eval o).run P w = .ok (.enter f args) w)
    (hc : Calls P f args w fun e w' => ∃ v, e = .returned v ∧ K (a.put o.dst v) w') : o.wp P a w K Q := by
  unfold Oper.wp
  rw [hrun, Oper.upon_enter]
  refine hc.mono fun e w'' hh => ?_
  obtain ⟨v, rfl, hk⟩ := hh
  exact hk
theorem wpx_conv (src dst : TypeId) (x : Operand) (ho : o.op = .convert src dst x) (xv v : Value) (w' : World) (hx : a.eval x = xv) (hrun : (convert src dst xv).run P w = .ok v w') (h : K (a.put o.dst v) w') : o.wp P a w K Q := by
  unfold Oper.wp execOp
  simp only [ho, hx, Sem.run_bind, hrun, Result.andThen_ok, Sem.run_pure]
  exact h
theorem wpx_upd (t : TypeId) (m x y : Operand) (ho : o.op = .mapUpdate t m x y) (mv xv yv : Value) (w' : World) (hm : a.eval m = mv) (hx : a.eval x = xv) (hy : a.eval y = yv) (hrun : (Instr.mapUpdate t mv xv yv).run P w = .ok () w') (h : K (a.put o.dst undef) w') : o.wp P a w K Q := by
  unfold Oper.wp execOp
  simp only [ho, hm, hx, hy, Sem.run_bind, hrun, Result.andThen_ok, Sem.run_pure]
  exact h
theorem wpx_copy (d s : Operand) (dT sT : TypeId) (ho : o.op = .call { callee := .builtin .copy, args := #[d, s], argTypes := #[dT, sT] }) (dv sv v : Value) (w' : World) (hd : a.eval d = dv) (hs : a.eval s = sv) (hrun : (Builtin.copy_ #[dT, sT] o.type #[dv, sv]).run P w = .ok v w') (h : K (a.put o.dst v) w') : o.wp P a w K Q := by
  unfold Oper.wp execOp
  simp only [ho, resolve, invoke, builtin, Sem.run_bind, Sem.run_pure, Result.andThen_ok, List.map_toArray, List.map_cons, List.map_nil, hd, hs, hrun]
  exact h
theorem wpx_app (d s : Operand) (dT sT : TypeId) (ho : o.op = .call { callee := .builtin .append, args := #[d, s], argTypes := #[dT, sT] }) (dv sv v : Value) (w' : World) (hd : a.eval d = dv) (hs : a.eval s = sv) (hrun : (Builtin.append_ #[dT, sT] o.type #[dv, sv]).run P w = .ok v w') (h : K (a.put o.dst v) w') : o.wp P a w K Q := by
  unfold Oper.wp execOp
  simp only [ho, resolve, invoke, builtin, Sem.run_bind, Sem.run_pure, Result.andThen_ok, List.map_toArray, List.map_cons, List.map_nil, hd, hs, hrun]
  exact h
end
end Go.Proofs.Ytnmjplngbleopaa
