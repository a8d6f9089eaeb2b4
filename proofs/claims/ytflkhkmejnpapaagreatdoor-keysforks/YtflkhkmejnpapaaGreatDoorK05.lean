/- Gate Gate2 Pa -/
import Derived.OrdersHeld
import Derived.Deep.RegionHeld
import Derived.StillTail
import Derived.Test.YtflkhkmejnpapaaGreatDoorK04
import Derived.Deep.MidRow
import Derived.OwnWalk
import Derived.Laws.BitsLemmas
namespace Go.Proofs.YtflkhkmejnpapaaGreatDoor
open Go Go.RowKit
section
variable {P : Program} {ops : Array Oper} {Q : Exit → Act → World → Prop} {md : Region.Mode} {S : World → Prop} {D : Nat}
def wpAnyG (P : Program) (md : Region.Mode) (ops : Array Oper) (Q : Exit → Act → World → Prop) (S : World → Prop) (D : Nat) : Nat → Array Bool → Act → World → Prop
 | 0, listed, a, w => Region.ready md ops listed = [] ∧ Q .normal a w
 | fuel + 1, listed, a, w =>
  (Region.ready md ops listed = [] → Q .normal a w) ∧
  ∀ i ∈ Region.ready md ops listed, wpOp P ops Q i (fun a' w' => ((listed.setIfInBounds i true).getD D true = false → S w') ∧ wpAnyG P md ops Q S D fuel (listed.setIfInBounds i true) a' w') a w
theorem wpAny_of_gate : ∀ (fuel : Nat) (listed : Array Bool) (a : Act) (w : World), wpAnyG P md ops Q S D fuel listed a w → wpAny P md ops Q fuel listed a w
 | 0, _, _, _, h => h
 | fuel + 1, _, _, _, h => ⟨h.1, fun i hi => wpOp_mono (fun a' w' h' => wpAny_of_gate fuel _ a' w' h'.2) (h.2 i hi)⟩
theorem wpAnyG_first {i : Nat} {oi : Oper} {v : Value} {T : World → Prop} (hi : ops[i]? = some oi) (hsel : ∀ (j : Nat) (o : Oper) cs b, ops[j]? = some o → o.op ≠ .select cs b)
    (hQ : ∀ c a w, Q (.panic c) (a.put oi.dst v) w → Q (.panic c) a w) (hD : i ≠ D)
    (hT : (∀ w, T w) ∨ ((∀ w, S w → T w) ∧ ∃ oD, ops[D]? = some oD ∧ ∃ e ∈ oD.after, Region.binds md e = true ∧ e.on = i)) :
    ∀ (fuel : Nat) (listed : Array Bool) (a : Act) (w : World),
     (∀ j oj, ops[j]? = some oj → j ≠ i → listed.getD j true = false → (∀ e ∈ oj.after, Region.binds md e = true → e.on ≠ i) → oi.apart ops oj = true) →
     i ∈ Region.ready md ops listed → ((∀ w, T w) ∨ listed.getD D true = false) → YieldsIf P ops T oi v a → (listed.getD D true = false → S w) →
     wpAnyG P md ops Q S D fuel (listed.setIfInBounds i true) (a.put oi.dst v) w → wpAnyG P md ops Q S D (fuel + 1) listed a w := by
 have hTw : ∀ (listed : Array Bool) w, ((∀ w, T w) ∨ listed.getD D true = false) → (listed.getD D true = false → S w) → T w := fun listed w h1 h2 => by
  rcases h1 with h | h
  · exact h w
  · rcases hT with h' | ⟨h', _⟩
    · exact h' w
    · exact h' w (h2 h)
 intro fuel
 induction fuel with
 | zero =>
  intro listed a w _ hr hg hy hS H
  refine ⟨fun h => (by rw [h] at hr; cases hr), fun j hj => ?_⟩
  by_cases hji : j = i
  · subst hji; exact hy.wpOp hi (hTw listed w hg hS) ⟨fun h => hS (by rwa [getD_set_ne true hD] at h), H⟩
  · have := ready_mono hj hji
    rw [H.1] at this
    cases this
 | succ fuel ih =>
  intro listed a w hfree hr hg hy hS H
  refine ⟨fun h => (by rw [h] at hr; cases hr), fun j hj => ?_⟩
  by_cases hji : j = i
  · subst hji; exact hy.wpOp hi (hTw listed w hg hS) ⟨fun h => hS (by rwa [getD_set_ne true hD] at h), H⟩
  · have h1 := H.2 j (ready_mono hj hji)
    obtain ⟨hjun, oj, hoj, hall⟩ := mem_ready.1 hj
    have hnot : ∀ e ∈ oj.after, Region.binds md e = true → e.on ≠ i := fun e he hb heq => by
     have h1 := hall e he hb
     have h0 := (mem_ready.1 hr).1
     rw [heq] at h1
     rcases Nat.lt_or_ge i listed.size with h' | h'
     · simp [h'] at h0 h1; rw [h0] at h1; cases h1
     · simp [Array.getElem?_eq_none h'] at h1
    have h2 := wpOp_putIf hoj (hfree j oj hoj hji hjun hnot) (fun cs b => hsel i oi cs b hi) (fun cs b => hsel j oj cs b hoj) hQ hy h1
    have hfree' : ∀ k ok, ops[k]? = some ok → k ≠ i → (listed.setIfInBounds j true).getD k true = false →
        (∀ e ∈ ok.after, Region.binds md e = true → e.on ≠ i) → oi.apart ops ok = true := fun k ok hk hki hun hno => by
     refine hfree k ok hk hki ?_ hno
     by_cases hjk : j = k
     · subst hjk; exact hjun
     · rw [getD_set_ne true hjk] at hun; exact hun
    have hg' : (∀ w, T w) ∨ (listed.setIfInBounds j true).getD D true = false := by
     rcases hT with h | ⟨_, oD, hoD, e, he, hb, hon⟩
     · exact .inl h
     · rcases hg with h | h
       · exact .inl h
       · refine .inr ?_
         have hjD : j ≠ D := fun e' => by
          subst e'
          obtain rfl : oj = oD := Option.some.inj (hoj.symm.trans hoD)
          exact hnot e he hb hon
         rw [getD_set_ne true hjD]; exact h
    refine wpOp_mono (fun a' w' h3 => ?_) h2
    have hS' : (listed.setIfInBounds j true).getD D true = false → S w' := fun h => h3.2.1 (by rw [Array.setIfInBounds_comm _ _ (Ne.symm hji), getD_set_ne true hD]; exact h)
    refine ⟨hS', ih (listed.setIfInBounds j true) a' w' hfree' (ready_mono hr (Ne.symm hji)) hg' h3.1 hS' ?_⟩
    rw [Array.setIfInBounds_comm _ _ hji]
    exact h3.2.2
theorem wpAnyG_any {i : Nat} {oi : Oper} {v : Value} {fuel : Nat} {listed : Array Bool} {a : Act} {w : World} (hi : ops[i]? = some oi)
    (hs : Region.noSelect ops = true) (hf : Region.free md ops listed i = true) (hr : (Region.ready md ops listed).contains i = true)
    (hQ : ∀ c a w, Q (.panic c) (a.put oi.dst v) w → Q (.panic c) a w) (hD : (i == D) = false) (hS : listed.getD D true = false → S w) (hw : Region.wanted oi (yielded ops a.tmps) = true)
    (hy : ∀ w, (execOp a.eval oi).run P w = .ok (.value v) w)
    (h : wpAnyG P md ops Q S D fuel (listed.setIfInBounds i true) (a.put oi.dst v) w) : wpAnyG P md ops Q S D (fuel + 1) listed a w :=
 wpAnyG_first (T := fun _ => True) hi (Region.noSelect_spec hs) hQ (by simpa using hD) (.inl fun _ => trivial) fuel listed a w (Region.free_spec hi hf) (by simpa using hr) (.inl fun _ => trivial) (.inl ⟨hw, fun w _ => hy w⟩) hS h
theorem gb (i : Nat) {oi : Oper} (v : Value) {fuel : Nat} {listed : Array Bool} {a : Act} {w : World} (hi : ops[i]? = some oi)
    (hb : (Region.noSelect ops && (Region.free md ops listed i && ((Region.ready md ops listed).contains i && !(i == D)))) = true)
    (hQ : ∀ c a w, Q (.panic c) (a.put oi.dst v) w → Q (.panic c) a w) (hS : S w) (hw : Region.wanted oi (yielded ops a.tmps) = true)
    (hy : ∀ w, (execOp a.eval oi).run P w = .ok (.value v) w)
    (h : wpAnyG P md ops Q S D fuel (listed.setIfInBounds i true) (a.put oi.dst v) w) : wpAnyG P md ops Q S D (fuel + 1) listed a w := by
 rw [Bool.and_eq_true, Bool.and_eq_true, Bool.and_eq_true, Bool.not_eq_true'] at hb
 exact wpAnyG_any hi hb.1 hb.2.1 hb.2.2.1 hQ hb.2.2.2 (fun _ => hS) hw hy h
theorem ga (i : Nat) {oi : Oper} (v : Value) {fuel : Nat} {listed : Array Bool} {a : Act} {w : World} (hS : S w)
    (hy : ∀ w, (execOp a.eval oi).run P w = .ok (.value v) w)
    (h : wpAnyG P md ops Q S D fuel (listed.setIfInBounds i true) (a.put oi.dst v) w) (hi : ops[i]? = some oi := by exact rfl)
    (hb : (Region.noSelect ops && (Region.free md ops listed i && ((Region.ready md ops listed).contains i && (!(i == D) && Region.wanted oi (yielded ops a.tmps))))) = true := by kernel_rfl)
    (hQ : ∀ c a w, Q (.panic c) (a.put oi.dst v) w → Q (.panic c) a w := by exact fun _ _ _ h => h) : wpAnyG P md ops Q S D (fuel + 1) listed a w := by
 rw [Bool.and_eq_true, Bool.and_eq_true, Bool.and_eq_true, Bool.and_eq_true, Bool.not_eq_true'] at hb
 exact wpAnyG_any hi hb.1 hb.2.1 hb.2.2.1 hQ hb.2.2.2.1 (fun _ => hS) hb.2.2.2.2 hy h
theorem gaA (i : Nat) {oi : Oper} (v : Value) {fuel : Nat} {listed : Array Bool} {a : Act} {w : World} (hS : S w)
    (h : wpAnyG P md ops Q S D fuel (listed.setIfInBounds i true) (a.put oi.dst v) w) (hi : ops[i]? = some oi := by exact rfl)
    (hb : (Region.noSelect ops && (Region.free md ops listed i && ((Region.ready md ops listed).contains i && (!(i == D) && Region.wanted oi (yielded ops a.tmps))))) = true := by kernel_rfl)
    (hQ : ∀ c a w, Q (.panic c) (a.put oi.dst v) w → Q (.panic c) a w := by exact fun _ _ _ h => h)
    (hy : ∀ w, (execOp a.eval oi).run P w = .ok (.value v) w := by intro _; go_simp; try with_reducible rfl) : wpAnyG P md ops Q S D (fuel + 1) listed a w := by
 rw [Bool.and_eq_true, Bool.and_eq_true, Bool.and_eq_true, Bool.and_eq_true, Bool.not_eq_true'] at hb
 exact wpAnyG_any hi hb.1 hb.2.1 hb.2.2.1 hQ hb.2.2.2.1 (fun _ => hS) hb.2.2.2.2 hy h
theorem wpAnyG_read {i : Nat} {oi : Oper} {v : Value} {fuel : Nat} {listed : Array Bool} {a : Act} {w : World} (hi : ops[i]? = some oi)
    (hs : Region.noSelect ops = true) (hf : Region.free md ops listed i = true) (hr : (Region.ready md ops listed).contains i = true)
    (hQ : ∀ c a w, Q (.panic c) (a.put oi.dst v) w → Q (.panic c) a w) (hD : (i == D) = false) (hwait : Region.waitsFor md ops D i = true) (hg : listed.getD D true = false) (hS : S w) (hw : Region.wanted oi (yielded ops a.tmps) = true)
    (hy : ∀ w, S w → (execOp a.eval oi).run P w = .ok (.value v) w)
    (h : wpAnyG P md ops Q S D fuel (listed.setIfInBounds i true) (a.put oi.dst v) w) : wpAnyG P md ops Q S D (fuel + 1) listed a w :=
 wpAnyG_first (T := S) hi (Region.noSelect_spec hs) hQ (by simpa using hD) (.inr ⟨fun _ h => h, by
  obtain ⟨oD, h1, e, h2, h3, h4⟩ := Region.waitsFor_spec hwait
  exact ⟨oD, h1, e, h2, h3, h4⟩⟩) fuel listed a w (Region.free_spec hi hf) (by simpa using hr) (.inr hg) (.inl ⟨hw, hy⟩) (fun _ => hS) h
theorem gq (i : Nat) {oi : Oper} (v : Value) {fuel : Nat} {listed : Array Bool} {a : Act} {w : World} (hi : ops[i]? = some oi)
    (hb : (Region.noSelect ops && (Region.free md ops listed i && ((Region.ready md ops listed).contains i && (!(i == D) && (Region.waitsFor md ops D i && !(listed.getD D true)))))) = true)
    (hQ : ∀ c a w, Q (.panic c) (a.put oi.dst v) w → Q (.panic c) a w) (hS : S w) (hw : Region.wanted oi (yielded ops a.tmps) = true)
    (hy : ∀ w, S w → (execOp a.eval oi).run P w = .ok (.value v) w)
    (h : wpAnyG P md ops Q S D fuel (listed.setIfInBounds i true) (a.put oi.dst v) w) : wpAnyG P md ops Q S D (fuel + 1) listed a w := by
 rw [Bool.and_eq_true, Bool.and_eq_true, Bool.and_eq_true, Bool.and_eq_true, Bool.and_eq_true, Bool.not_eq_true', Bool.not_eq_true'] at hb
 exact wpAnyG_read hi hb.1 hb.2.1 hb.2.2.1 hQ hb.2.2.2.1 hb.2.2.2.2.1 hb.2.2.2.2.2 hS hw hy h
theorem gr (i : Nat) {oi : Oper} (v : Value) {fuel : Nat} {listed : Array Bool} {a : Act} {w : World} (hS : S w)
    (hy : ∀ w, S w → (execOp a.eval oi).run P w = .ok (.value v) w)
    (h : wpAnyG P md ops Q S D fuel (listed.setIfInBounds i true) (a.put oi.dst v) w) (hi : ops[i]? = some oi := by exact rfl)
    (hb : (Region.wanted oi (yielded ops a.tmps) && (Region.noSelect ops && (Region.free md ops listed i && ((Region.ready md ops listed).contains i && (!(i == D) && (Region.waitsFor md ops D i && !(listed.getD D true))))))) = true := by kernel_rfl)
    (hQ : ∀ c a w, Q (.panic c) (a.put oi.dst v) w → Q (.panic c) a w := by exact fun _ _ _ h => h) : wpAnyG P md ops Q S D (fuel + 1) listed a w := by
 rw [Bool.and_eq_true] at hb
 exact gq i v hi hb.2 hQ hS hb.1 hy h
theorem grA (i : Nat) {oi : Oper} (v : Value) {fuel : Nat} {listed : Array Bool} {a : Act} {w : World} (hS : S w)
    (h : wpAnyG P md ops Q S D fuel (listed.setIfInBounds i true) (a.put oi.dst v) w) (hi : ops[i]? = some oi := by exact rfl)
    (hb : (Region.wanted oi (yielded ops a.tmps) && (Region.noSelect ops && (Region.free md ops listed i && ((Region.ready md ops listed).contains i && (!(i == D) && (Region.waitsFor md ops D i && !(listed.getD D true))))))) = true := by kernel_rfl)
    (hQ : ∀ c a w, Q (.panic c) (a.put oi.dst v) w → Q (.panic c) a w := by exact fun _ _ _ h => h)
    (hy : ∀ w, S w → (execOp a.eval oi).run P w = .ok (.value v) w := by intro wx hSw; go_split_ands; go_simp; try with_reducible rfl) : wpAnyG P md ops Q S D (fuel + 1) listed a w := by
 rw [Bool.and_eq_true] at hb
 exact gq i v hi hb.2 hQ hS hb.1 hy h
theorem wpAnyG_one {i : Nat} {o : Oper} {fuel : Nat} {listed : Array Bool} {a : Act} {w : World} (hi : ops[i]? = some o) (hr : Region.ready md ops listed = [i]) (hw : Region.wanted o (yielded ops a.tmps) = true)
    (h : ∀ K' : Act → World → Prop, Shut (∀ a w, ((listed.setIfInBounds i true).getD D true = false → S w) → wpAnyG P md ops Q S D fuel (listed.setIfInBounds i true) a w → K' a w) → Oper.wp P o a w K' Q) : wpAnyG P md ops Q S D (fuel + 1) listed a w :=
 ⟨fun h0 => (by rw [hr] at h0; cases h0), fun j hj => by
  rw [hr] at hj
  obtain rfl : j = i := by simpa using hj
  refine wpOp_step hi (fun K' hK => ?_)
  rw [if_pos hw]
  exact h K' (fun a w h1 h2 => hK a w ⟨h1, h2⟩)⟩
theorem wpAnyG_done {listed : Array Bool} {a : Act} {w : World} (hr : Region.ready md ops listed = []) (h : Q .normal a w) :
    ∀ fuel, wpAnyG P md ops Q S D fuel listed a w
 | 0 => ⟨hr, h⟩
 | _ + 1 => ⟨fun _ => h, by rw [hr]; simp⟩
theorem wp_region_gate {id : Nat} {a : Act} {w : World} (S : World → Prop) (D : Nat) (hm : P.follows .mixedOrders = true)
    (h : wpAnyG P .any ops Q S D ops.size (Array.replicate ops.size false) a w.drew) : (Code.region id ops true).wp P Q a w :=
 wp_region_any hm (wpAny_of_gate _ _ _ _ h)
end
section
variable {P : Program} {ops : Array Oper} {Q : Exit → Act → World → Prop} {md : Region.Mode} {S : World → Prop} {D : Nat}
theorem wpAnyG_row {i : Nat} {oi : Oper} {v : Value} {fuel : Nat} {listed : Array Bool} {a : Act} {w : World} (hi : ops[i]? = some oi)
    (hs : Region.noSelect ops = true) (hf : Region.free md ops listed i = true) (hr : (Region.ready md ops listed).contains i = true)
    (hQ : ∀ c a w, Q (.panic c) (a.put oi.dst v) w → Q (.panic c) a w) (hD : (i == D) = false) (hwait : Region.waitsFor md ops D i = true) (hg : listed.getD D true = false) (hS : S w)
    (hy : YieldsIf P ops S oi v a)
    (h : wpAnyG P md ops Q S D fuel (listed.setIfInBounds i true) (a.put oi.dst v) w) : wpAnyG P md ops Q S D (fuel + 1) listed a w :=
 wpAnyG_first (T := S) hi (Region.noSelect_spec hs) hQ (by simpa using hD) (.inr ⟨fun _ h => h, by
  obtain ⟨oD, h1, e, h2, h3, h4⟩ := Region.waitsFor_spec hwait
  exact ⟨oD, h1, e, h2, h3, h4⟩⟩) fuel listed a w (Region.free_spec hi hf) (by simpa using hr) (.inr hg) hy (fun _ => hS) h
theorem wpAnyG_load {i : Nat} {dst : Option Tmp} {ty : TypeId} {x : Operand} {b o : Nat} {cs : List Value} {d : TypeDesc} {fuel : Nat} {listed : Array Bool} {a : Act} {w : World}
    (hop : (ops[i]?).map (fun o => (o.dst, o.op)) = some (dst, .load ty x)) (hw : (ops[i]?).map (fun o => Region.wanted o (yielded ops a.tmps)) = some true)
    (hs : Region.noSelect ops = true) (hf : Region.free md ops listed i = true) (hr : (Region.ready md ops listed).contains i = true)
    (hQ : ∀ c a w, Q (.panic c) (a.put dst (.agg cs.toArray)) w → Q (.panic c) a w) (hD : (i == D) = false) (hwait : Region.waitsFor md ops D i = true) (hg : listed.getD D true = false) (hS : S w)
    (hx : a.eval x = .pointer (some ⟨b, o, none⟩)) (hc : ∀ w, S w → w.rangeAt b o cs) (hu : P.underlying ty = some d) (hd : d.isRow = true) (hi : (P.info? ty).map (·.size) = some cs.length)
    (h : wpAnyG P md ops Q S D fuel (listed.setIfInBounds i true) (a.put dst (.agg cs.toArray)) w) : wpAnyG P md ops Q S D (fuel + 1) listed a w := by
 cases ho : ops[i]? with
 | none => rw [ho] at hop; cases hop
 | some oi =>
  rw [ho] at hop hw
  simp only [Option.map_some, Option.some.injEq, Prod.mk.injEq] at hop hw
  obtain ⟨rfl, hop⟩ := hop
  exact wpAnyG_row ho hs hf hr hQ hD hwait hg hS (yieldsIf_load_mid hw ty x hop b o hx cs d hc hu hd hi) h
end
open Go.RowKit
set_option maxRecDepth 20000
set_option linter.unusedSimpArgs false
theorem grown_set {w w' : World} {g : Nat} (h : w.grownBy w' (some g)) (j : Nat) (v : Value) : w.grownBy (w'.setCell ⟨g, j, none⟩ v) (some g) :=
 h.trans ⟨rfl, rfl, rfl, by simp [World.setCell], fun k _ hk => heap_setCell_other w' _ k _ (fun e => hk (by rw [e]))⟩
theorem grown_drew {w w' : World} {r : Option Nat} (h : w.grownBy w' r) : w.grownBy w'.drew r := ⟨h.os, h.tape, h.output, by simpa using h.size, fun k a b => by rw [heap_drew]; exact h.block k a b⟩
theorem grown_setNew {w w' : World} {g b : Nat} (h : w.grownBy w' (some g)) (hb : w.heap.size ≤ b) (j : Nat) (v : Value) : w.grownBy (w'.setCell ⟨b, j, none⟩ v) (some g) :=
 ⟨h.os, h.tape, h.output, by simpa [World.setCell] using h.size, fun k hk hne => by rw [heap_setCell_other w' _ k _ (by show k ≠ b; omega)]; exact h.block k hk hne⟩
theorem cut_any (g : Nat) (t : TypeId) (L : List Int) (w : World) (h : Holds w g .u64 t L) (hl : 5 ≤ L.length) :
    Calls Tryz.prog 115 #[.pointer (some ⟨g, 0, none⟩)] w fun e w' => e = .returned (.int .u64 (L[4]?.getD 0 / 67108864)) ∧ Holds w' g .u64 t (L.set 4 (bits .and .u64 (L[4]?.getD 0) 67108863)) ∧ w.grownBy w' (some g) := by
 have c4 := h.cell 4 (by omega)
 have f4 := h.frozen 4
 obtain ⟨x, hx⟩ : ∃ x, L[4]?.getD 0 = x := ⟨_, rfl⟩
 rw [hx] at c4 ⊢
 clear hx
 go_enter Tryz.func115, Tryz.ntmps115
 go_upto_region 3 with fail
 refine wp_region_gate (fun w' => w'.cell? ⟨g, 4, none⟩ = some (.int .u64 x)) 8 (by kernel_rfl) ?_
 have hS : w.drew.cell? ⟨g, 4, none⟩ = some (.int .u64 x) := by simpa using c4
 have f4' : w.drew.frozen? ⟨g, 4, none⟩ = false := by simpa using f4
 refine gaA 0 _ hS ?_
 simp only [Act.put, sI, sZ, sS]
 refine gaA 1 _ hS ?_
 simp only [Act.put, sI, sZ, sS]
 refine gaA 2 _ hS ?_
 simp only [Act.put, sI, sZ, sS]
 refine gaA 3 _ hS ?_
 simp only [Act.put, sI, sZ, sS]
 refine gaA 6 _ hS ?_
 simp only [Act.put, sI, sZ, sS]
 refine grA 4 _ hS ?_
 simp only [Act.put, sI, sZ, sS]
 refine gaA 5 _ hS ?_
 simp only [Act.put, sI, sZ, sS]
 refine gaA 7 _ hS ?_
 simp only [Act.put, sI, sZ, sS]
 refine wpAnyG_one (i := 8) rfl (by kernel_rfl) (by kernel_rfl) (fun K hK => ?_)
 go_simp
 refine hK.out _ _ (fun h => absurd (show true = false from h) (by decide)) ?_
 clear hK K
 refine wpAnyG_done (by kernel_rfl) ?_ _
 go_wp2
 go_ret
 exact ⟨rfl, (h.drew).set 4 _, grown_set (grown_drew (World.grownBy.refl w _)) 4 _⟩
def carryK (L : List Int) : Nat → List Int
 | 0 => L
 | i + 1 => ((carryK L i).set (i + 1) (((carryK L i)[i + 1]?.getD 0 + (carryK L i)[i]?.getD 0 / 67108864) % 18446744073709551616)).set i (bits .and .u64 ((carryK L i)[i]?.getD 0) 67108863)
theorem carryK_length (L : List Int) (i : Nat) : (carryK L i).length = L.length := by
 induction i with
 | zero => rfl
 | succ i ih => simp [carryK, ih]
set_option maxHeartbeats 1000000 in
theorem carry_any (g : Nat) (t : TypeId) (L : List Int) (w : World) (h : Holds w g .u64 t L) (hl : 5 ≤ L.length) :
    Calls Tryz.prog 103 #[.pointer (some ⟨g, 0, none⟩)] w fun e w' => (∃ r, e = .returned r) ∧ Holds w' g .u64 t (carryK L 4) ∧ w.grownBy w' (some g) := by
 go_enter Tryz.func103, Tryz.ntmps103
 go_wp2_with fail
 go_loopw [3] (fun i wr => ∃ k : Nat, k ≤ 4 ∧ i = .int .i64 k ∧ Holds wr g .u64 t (carryK L k) ∧ w.grownBy wr (some g)) (fun i _ => 4 - (intOf i).toNat)
 case atStart => exact ⟨0, by omega, rfl, h, World.grownBy.refl _ _⟩
 case round =>
  obtain ⟨k, hk, rfl, hH, hG⟩ := hrel
  by_cases hlt : k < 4
  · have hKl := carryK_length L k
    have HS : Veil (carryK L (k + 1) = ((carryK L k).set (k + 1) (((carryK L k)[k + 1]?.getD 0 + (carryK L k)[k]?.getD 0 / 67108864) % 18446744073709551616)).set k (bits .and .u64 ((carryK L k)[k]?.getD 0) 67108863)) := ⟨rfl⟩
    obtain ⟨M, hM⟩ : ∃ M, carryK L k = M := ⟨_, rfl⟩
    rw [hM] at hH hKl HS
    have c1 := hH.cell k (by omega)
    have c2 := hH.cell (k + 1) (by omega)
    have f1 := hH.frozen k
    have f2 := hH.frozen (k + 1)
    obtain ⟨x, hx⟩ : ∃ x, M[k]?.getD 0 = x := ⟨_, rfl⟩
    obtain ⟨y, hy⟩ : ∃ y, M[k + 1]?.getD 0 = y := ⟨_, rfl⟩
    rw [hx] at c1 HS
    rw [hy] at c2 HS
    have hk0 : (0 : Int) ≤ (k : Int) := by omega
    have hk1 : (k : Int) < 4 := by omega
    have hk2 : (k : Int) + 1 < 5 := by omega
    have hk5 : (k : Int) < 5 := by omega
    have hw : IntKind.i64.wrap ((k : Int) + 1) = (k : Int) + 1 := by rw [IntKind.wrap_i64]; omega
    have hk01 : (0 : Int) ≤ (k : Int) + 1 := by omega
    have htn : ((k : Int) + 1).toNat = k + 1 := by omega
    have HX : Veil (M[k]?.getD 0 = x) := ⟨hx⟩
    clear hM hx hy
    go_upto_region 3 with fail
    refine wp_region_gate (fun w' => w'.cell? ⟨g, k, none⟩ = some (.int .u64 x) ∧ w'.cell? ⟨g, k + 1, none⟩ = some (.int .u64 y)) 15 (by kernel_rfl) ?_
    have hH1 := hH.drew
    have hS : wr.drew.cell? ⟨g, k, none⟩ = some (.int .u64 x) ∧ wr.drew.cell? ⟨g, k + 1, none⟩ = some (.int .u64 y) := ⟨by simpa using c1, by simpa using c2⟩
    have f2' := hH1.frozen (k + 1)
    have c2' := hS.2
    refine gaA 0 _ hS ?_
    simp only [Act.put, sI, sZ, sS]
    refine gaA 1 _ hS ?_
    simp only [Act.put, sI, sZ, sS]
    refine gaA 2 _ hS ?_
    simp only [Act.put, sI, sZ, sS]
    refine gaA 3 _ hS ?_
    simp only [Act.put, sI, sZ, sS]
    refine gaA 4 _ hS ?_
    simp only [Act.put, sI, sZ, sS]
    refine gaA 6 _ hS ?_
    simp only [Act.put, sI, sZ, sS]
    refine gaA 7 _ hS ?_
    simp only [Act.put, sI, sZ, sS]
    refine gaA 8 _ hS ?_
    simp only [Act.put, sI, sZ, sS]
    refine gaA 9 _ hS ?_
    simp only [Act.put, sI, sZ, sS]
    refine gaA 13 _ hS ?_
    simp only [Act.put, sI, sZ, sS]
    refine grA 5 _ hS ?_
    simp only [Act.put, sI, sZ, sS]
    refine grA 10 _ hS ?_
    simp only [Act.put, sI, sZ, sS]
    refine gaA 11 _ hS ?_
    simp only [Act.put, sI, sZ, sS]
    refine gaA 12 _ hS ?_
    simp only [Act.put, sI, sZ, sS]
    refine gaA 14 _ hS ?_
    simp only [Act.put, sI, sZ, sS]
    refine wpAnyG_one (i := 15) rfl (by kernel_rfl) (by kernel_rfl) (fun K hK => ?_)
    go_simp
    refine hK.out _ _ (fun h => absurd (show true = false from h) (by decide)) ?_
    clear hK K
    refine wpAnyG_done (by kernel_rfl) ?_ _
    go_upto_region 4 with fail
    refine forget (p := fun y => Code.wp _ _ _ _ y) (fun W1 => Holds W1 g .u64 t (M.set (k + 1) ((y + x / 67108864) % 18446744073709551616)) ∧ w.grownBy W1 (some g)) ⟨hH1.set (k + 1) _, grown_set (grown_drew hG) _ _⟩ ?_
    clear hS f2' c2' hH1 c1 c2 f1 f2 hH hG
    rintro W1 ⟨hH, hG⟩
    obtain ⟨M1, hM1⟩ : ∃ q, M.set (k + 1) ((y + x / 67108864) % 18446744073709551616) = q := ⟨_, rfl⟩
    have hx1 : M1[k]?.getD 0 = x := by rw [← hM1, List.getElem?_set_ne (by omega)]; exact HX.out
    have hM1l : M1.length = L.length := by rw [← hM1, List.length_set]; exact hKl
    rw [hM1] at hH HS
    clear hM1
    have hH1 := hH.drew
    have c1 := hH1.cell k (by omega)
    have f1 := hH1.frozen k
    rw [hx1] at c1
    refine wp_region_gate (fun w' => w'.cell? ⟨g, k, none⟩ = some (.int .u64 x)) 8 (by kernel_rfl) ?_
    have hS : W1.drew.cell? ⟨g, k, none⟩ = some (.int .u64 x) := c1
    refine gaA 0 _ hS ?_
    simp only [Act.put, sI, sZ, sS]
    refine gaA 1 _ hS ?_
    simp only [Act.put, sI, sZ, sS]
    refine gaA 2 _ hS ?_
    simp only [Act.put, sI, sZ, sS]
    refine gaA 3 _ hS ?_
    simp only [Act.put, sI, sZ, sS]
    refine gaA 6 _ hS ?_
    simp only [Act.put, sI, sZ, sS]
    refine grA 4 _ hS ?_
    simp only [Act.put, sI, sZ, sS]
    refine gaA 5 _ hS ?_
    simp only [Act.put, sI, sZ, sS]
    refine gaA 7 _ hS ?_
    simp only [Act.put, sI, sZ, sS]
    refine wpAnyG_one (i := 8) rfl (by kernel_rfl) (by kernel_rfl) (fun K hK => ?_)
    go_simp
    refine hK.out _ _ (fun h => absurd (show true = false from h) (by decide)) ?_
    clear hK K
    refine wpAnyG_done (by kernel_rfl) ?_ _
    go_wp2
    go_roundw
    case rel => exact ⟨k + 1, by omega, by go_num, by rw [HS.out]; exact hH1.set k _, grown_set (grown_drew hG) _ _⟩
    case measure => simp [intOf]; omega
  · obtain rfl : k = 4 := by omega
    go_wp2
    go_end0
    exact ⟨⟨_, rfl⟩, hH, hG⟩
def foldL (L : List Int) : List Int :=
 let C := (carryK L 4).set 4 (bits .and .u64 ((carryK L 4)[4]?.getD 0) 67108863)
 let C2 := C.set 0 ((C[0]?.getD 0 + 5 * ((carryK L 4)[4]?.getD 0 / 67108864) % 18446744073709551616) % 18446744073709551616)
 let C3 := C2.set 1 ((C2[1]?.getD 0 + C2[0]?.getD 0 / 67108864) % 18446744073709551616)
 C3.set 0 (bits .and .u64 (C3[0]?.getD 0) 67108863)
set_option maxHeartbeats 1000000 in
theorem fold_any (g : Nat) (t : TypeId) (L : List Int) (w : World) (h : Holds w g .u64 t L) (hl : 5 ≤ L.length) :
    Calls Tryz.prog 114 #[.pointer (some ⟨g, 0, none⟩)] w fun e w' => (∃ r, e = .returned r) ∧ Holds w' g .u64 t (foldL L) ∧ w.grownBy w' (some g) := by
 have hca := carry_any g t L w h hl
 have hcl := carryK_length L 4
 have hF : ∃ F, foldL L = F := ⟨_, rfl⟩
 obtain ⟨F, hF⟩ := hF
 have HF : Veil (foldL L = F) := ⟨hF⟩
 rw [hF]
 unfold foldL at hF
 obtain ⟨C0, hC0⟩ : ∃ q, carryK L 4 = q := ⟨_, rfl⟩
 rw [hC0] at hca hcl hF
 have hcu := fun wx (hx : Holds wx g .u64 t C0) => cut_any g t C0 wx hx (by omega)
 obtain ⟨ov, hov⟩ : ∃ q, C0[4]?.getD 0 / 67108864 = q := ⟨_, rfl⟩
 rw [hov] at hcu hF
 obtain ⟨C, hC⟩ : ∃ q, C0.set 4 (bits .and .u64 (C0[4]?.getD 0) 67108863) = q := ⟨_, rfl⟩
 have hCl : C.length = L.length := by rw [← hC, List.length_set, hcl]
 rw [hC] at hcu hF
 dsimp only at hF
 obtain ⟨x0, hx0⟩ : ∃ q, C[0]?.getD 0 = q := ⟨_, rfl⟩
 rw [hx0] at hF
 obtain ⟨C2, hC2⟩ : ∃ q, C.set 0 ((x0 + 5 * ov % 18446744073709551616) % 18446744073709551616) = q := ⟨_, rfl⟩
 have hC2l : C2.length = L.length := by rw [← hC2, List.length_set, hCl]
 rw [hC2] at hF
 obtain ⟨y0, hy0⟩ : ∃ q, C2[0]?.getD 0 = q := ⟨_, rfl⟩
 obtain ⟨y1, hy1⟩ : ∃ q, C2[1]?.getD 0 = q := ⟨_, rfl⟩
 rw [hy0, hy1] at hF
 obtain ⟨C3, hC3⟩ : ∃ q, C2.set 1 ((y1 + y0 / 67108864) % 18446744073709551616) = q := ⟨_, rfl⟩
 have hC3l : C3.length = L.length := by rw [← hC3, List.length_set, hC2l]
 rw [hC3] at hF
 obtain ⟨z0, hz0⟩ : ∃ q, C3[0]?.getD 0 = q := ⟨_, rfl⟩
 rw [hz0] at hF
 have HF1 : Veil (C3.set 0 (bits .and .u64 z0 67108863) = F) := ⟨hF⟩
 have HC2 : Veil (C.set 0 ((x0 + 5 * ov % 18446744073709551616) % 18446744073709551616) = C2) := ⟨hC2⟩
 have HC3 : Veil (C2.set 1 ((y1 + y0 / 67108864) % 18446744073709551616) = C3) := ⟨hC3⟩
 clear hF hC2 hC3 hC hC0 hov
 go_enter Tryz.func114, Tryz.ntmps114
 go_upto_region 2 with (first
  | (go_at_call 103; refine hca.mono ?_; rintro e w1 ⟨⟨r, rfl⟩, h1, g1⟩)
  | (go_at_call 115; refine (hcu _ h1).mono ?_; rintro e w2 ⟨rfl, h2, g2⟩))
 have g12 := g1.trans g2
 clear hca hcu g1 g2 h1
 have h3 := h2.drew
 have c1 := h3.cell 0 (by omega)
 have f1 := h3.frozen 0
 rw [hx0] at c1
 refine wp_region_gate (fun w' => w'.cell? ⟨g, 0, none⟩ = some (.int .u64 x0)) 9 (by kernel_rfl) ?_
 have hS : w2.drew.cell? ⟨g, 0, none⟩ = some (.int .u64 x0) := c1
 refine gaA 0 _ hS ?_
 simp only [Act.put, sI, sZ, sS]
 refine gaA 1 _ hS ?_
 simp only [Act.put, sI, sZ, sS]
 refine gaA 2 _ hS ?_
 simp only [Act.put, sI, sZ, sS]
 refine gaA 4 _ hS ?_
 simp only [Act.put, sI, sZ, sS]
 refine gaA 5 _ hS ?_
 simp only [Act.put, sI, sZ, sS]
 refine gaA 7 _ hS ?_
 simp only [Act.put, sI, sZ, sS]
 refine grA 3 _ hS ?_
 simp only [Act.put, sI, sZ, sS]
 refine gaA 6 _ hS ?_
 simp only [Act.put, sI, sZ, sS]
 refine gaA 8 _ hS ?_
 simp only [Act.put, sI, sZ, sS]
 refine wpAnyG_one (i := 9) rfl (by kernel_rfl) (by kernel_rfl) (fun K hK => ?_)
 go_simp
 refine hK.out _ _ (fun h => absurd (show true = false from h) (by decide)) ?_
 clear hK K
 refine wpAnyG_done (by kernel_rfl) ?_ _
 go_upto_region 3 with fail
 refine forget (p := fun y => Code.wp _ _ _ _ y) (fun W1 => Holds W1 g .u64 t C2 ∧ w.grownBy W1 (some g)) ⟨by rw [← HC2.out]; exact h3.set 0 _, grown_set (grown_drew g12) _ _⟩ ?_
 clear hS c1 f1 h3 h2 g12
 rintro W1 ⟨h2, g2⟩
 have h3 := h2.drew
 have c1 := h3.cell 0 (by omega)
 have c2 := h3.cell 1 (by omega)
 have f2 := h3.frozen 1
 rw [hy0] at c1
 rw [hy1] at c2
 refine wp_region_gate (fun w' => w'.cell? ⟨g, 0, none⟩ = some (.int .u64 y0) ∧ w'.cell? ⟨g, 1, none⟩ = some (.int .u64 y1)) 12 (by kernel_rfl) ?_
 have hS := And.intro c1 c2
 refine gaA 0 _ hS ?_
 simp only [Act.put, sI, sZ, sS]
 refine gaA 1 _ hS ?_
 simp only [Act.put, sI, sZ, sS]
 refine gaA 2 _ hS ?_
 simp only [Act.put, sI, sZ, sS]
 refine gaA 4 _ hS ?_
 simp only [Act.put, sI, sZ, sS]
 refine gaA 5 _ hS ?_
 simp only [Act.put, sI, sZ, sS]
 refine gaA 6 _ hS ?_
 simp only [Act.put, sI, sZ, sS]
 refine gaA 10 _ hS ?_
 simp only [Act.put, sI, sZ, sS]
 refine grA 3 _ hS ?_
 simp only [Act.put, sI, sZ, sS]
 refine grA 7 _ hS ?_
 simp only [Act.put, sI, sZ, sS]
 refine gaA 8 _ hS ?_
 simp only [Act.put, sI, sZ, sS]
 refine gaA 9 _ hS ?_
 simp only [Act.put, sI, sZ, sS]
 refine gaA 11 _ hS ?_
 simp only [Act.put, sI, sZ, sS]
 refine wpAnyG_one (i := 12) rfl (by kernel_rfl) (by kernel_rfl) (fun K hK => ?_)
 go_simp
 refine hK.out _ _ (fun h => absurd (show true = false from h) (by decide)) ?_
 clear hK K
 refine wpAnyG_done (by kernel_rfl) ?_ _
 go_upto_region 4 with fail
 refine forget (p := fun y => Code.wp _ _ _ _ y) (fun W1 => Holds W1 g .u64 t C3 ∧ w.grownBy W1 (some g)) ⟨by rw [← HC3.out]; exact h3.set 1 _, grown_set (grown_drew g2) _ _⟩ ?_
 clear hS c1 c2 f2 h3 h2 g2
 rintro W2 ⟨h2, g2⟩
 have h3 := h2.drew
 have c1 := h3.cell 0 (by omega)
 have f1 := h3.frozen 0
 rw [hz0] at c1
 refine wp_region_gate (fun w' => w'.cell? ⟨g, 0, none⟩ = some (.int .u64 z0)) 7 (by kernel_rfl) ?_
 have hS : W2.drew.cell? ⟨g, 0, none⟩ = some (.int .u64 z0) := c1
 refine gaA 0 _ hS ?_
 simp only [Act.put, sI, sZ, sS]
 refine gaA 1 _ hS ?_
 simp only [Act.put, sI, sZ, sS]
 refine gaA 2 _ hS ?_
 simp only [Act.put, sI, sZ, sS]
 refine gaA 5 _ hS ?_
 simp only [Act.put, sI, sZ, sS]
 refine grA 3 _ hS ?_
 simp only [Act.put, sI, sZ, sS]
 refine gaA 4 _ hS ?_
 simp only [Act.put, sI, sZ, sS]
 refine gaA 6 _ hS ?_
 simp only [Act.put, sI, sZ, sS]
 refine wpAnyG_one (i := 7) rfl (by kernel_rfl) (by kernel_rfl) (fun K hK => ?_)
 go_simp
 refine hK.out _ _ (fun h => absurd (show true = false from h) (by decide)) ?_
 clear hK K
 refine wpAnyG_done (by kernel_rfl) ?_ _
 go_wp2
 go_end0
 exact ⟨⟨_, rfl⟩, by rw [← HF1.out]; exact h3.set 0 _, grown_set (grown_drew g2) _ _⟩
def addK (L m : List Int) : Nat → List Int
 | 0 => L
 | i + 1 => (addK L m i).set i (((addK L m i)[i]?.getD 0 + m[i]?.getD 0) % 18446744073709551616)
theorem addK_length (L m : List Int) (i : Nat) : (addK L m i).length = L.length := by
 induction i with
 | zero => rfl
 | succ i ih => simp [addK, ih]
set_option maxHeartbeats 1000000 in
theorem add_any (g : Nat) (t : TypeId) (L m : List Int) (w : World) (h : Holds w g .u64 t L) (hl : 5 ≤ L.length) (hm : m.length = 5) :
    Calls Tryz.prog 100 #[.pointer (some ⟨g, 0, none⟩), .agg (row .u64 m)] w fun e w' => (∃ r, e = .returned r) ∧ Holds w' g .u64 t (addK L m 5) ∧ w.grownBy w' (some g) := by
 have hgl := h.lt
 go_enter Tryz.func100, Tryz.ntmps100
 go_wp2_with fail
 go_loopw [5] (fun i wr => ∃ k : Nat, k ≤ 5 ∧ i = .int .i64 k ∧ Holds wr g .u64 t (addK L m k) ∧ Holds wr w.heap.size .u64 117 m ∧ w.grownBy wr (some g)) (fun i _ => 5 - (intOf i).toNat)
 case atStart => exact ⟨0, by omega, rfl, h.alloc _, Holds.new w .u64 117 m, World.grownBy_alloc _ _ _⟩
 case round =>
  obtain ⟨k, hk, rfl, hH, hM, hG⟩ := hrel
  by_cases hlt : k < 5
  · have hKl := addK_length L m k
    have HS : Veil (addK L m (k + 1) = (addK L m k).set k (((addK L m k)[k]?.getD 0 + m[k]?.getD 0) % 18446744073709551616)) := ⟨rfl⟩
    obtain ⟨A, hA⟩ : ∃ M, addK L m k = M := ⟨_, rfl⟩
    rw [hA] at hH hKl HS
    have hH1 := hH.drew
    have hM1 := hM.drew
    have c1 := hH1.cell k (by omega)
    have c2 := hM1.cell k (by omega)
    have f1 := hH1.frozen k
    obtain ⟨x, hx⟩ : ∃ x, A[k]?.getD 0 = x := ⟨_, rfl⟩
    obtain ⟨y, hy⟩ : ∃ y, m[k]?.getD 0 = y := ⟨_, rfl⟩
    rw [hx] at c1 HS
    rw [hy] at c2 HS
    have hk0 : (0 : Int) ≤ (k : Int) := by omega
    have hk5 : (k : Int) < 5 := by omega
    clear hA hx hy
    go_upto_region 4 with fail
    refine wp_region_gate (fun w' => w'.cell? ⟨g, k, none⟩ = some (.int .u64 x) ∧ w'.cell? ⟨w.heap.size, k, none⟩ = some (.int .u64 y)) 11 (by kernel_rfl) ?_
    have hS := And.intro c1 c2
    refine gaA 0 _ hS ?_
    simp only [Act.put, sI, sZ, sS]
    refine gaA 1 _ hS ?_
    simp only [Act.put, sI, sZ, sS]
    refine gaA 2 _ hS ?_
    simp only [Act.put, sI, sZ, sS]
    refine gaA 3 _ hS ?_
    simp only [Act.put, sI, sZ, sS]
    refine gaA 5 _ hS ?_
    simp only [Act.put, sI, sZ, sS]
    refine gaA 6 _ hS ?_
    simp only [Act.put, sI, sZ, sS]
    refine gaA 9 _ hS ?_
    simp only [Act.put, sI, sZ, sS]
    refine grA 4 _ hS ?_
    simp only [Act.put, sI, sZ, sS]
    refine grA 7 _ hS ?_
    simp only [Act.put, sI, sZ, sS]
    refine gaA 8 _ hS ?_
    simp only [Act.put, sI, sZ, sS]
    refine gaA 10 _ hS ?_
    simp only [Act.put, sI, sZ, sS]
    refine wpAnyG_one (i := 11) rfl (by kernel_rfl) (by kernel_rfl) (fun K hK => ?_)
    go_simp
    refine hK.out _ _ (fun h => absurd (show true = false from h) (by decide)) ?_
    clear hK K
    refine wpAnyG_done (by kernel_rfl) ?_ _
    go_wp2
    go_roundw
    case rel => exact ⟨k + 1, by omega, by go_num, by rw [HS.out]; exact hH1.set k _, hM1.setOther _ _ (by simp; omega), grown_set (grown_drew hG) _ _⟩
    case measure => simp [intOf]; omega
  · obtain rfl : k = 5 := by omega
    go_wp2
    go_end0
    exact ⟨⟨_, rfl⟩, hH, hG⟩
end Go.Proofs.YtflkhkmejnpapaaGreatDoor
