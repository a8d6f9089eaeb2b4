/- GateS GateS2 Mac5 Mac6 -/
import Derived.OrdersHeld
import Derived.Deep.RegionHeld
import Derived.StillTail
import Derived.Test.YtflkhkmejnpapaaGreatDoorK01
import Derived.Deep.MidRow
import Derived.Test.YtflkhkmejnpapaaGreatDoorK16
namespace Go.Proofs.YtflkhkmejnpapaaGreatDoor.S
open Go Go.RowKit
section
variable {P : Program} {ops : Array Oper} {Q : Exit → Act → World → Prop} {md : Region.Mode} {S : World → Prop} {D : Nat}
def wpAnyG (P : Program) (md : Region.Mode) (ops : Array Oper) (Q : Exit → Act → World → Prop) (S : World → Prop) (D : Nat) : Nat → Array Bool → Act → World → Prop
 | 0, listed, a, w => Region.ready md ops listed = [] ∧ Q .normal a w
 | fuel + 1, listed, a, w =>
  (Region.ready md ops listed = [] → Q .normal a w) ∧
  ∀ i ∈ Region.ready md ops listed, wpOp P ops Q i (fun a' w' => ((listed.setIfInBounds i true).getD D true = false → S w') ∧ wpAnyG P md ops Q S D fuel (listed.setIfInBounds i true) a' w') a w
theorem wpAny_of_gate : ∀ (fuel : Nat) (listed : Array Bool) (a : Act) (w : World), wpAnyG P md ops Q S D fuel listed a w → wpAny P md ops Q fuel listed a w
 | 0, _, _, _, h => h
 | fuel + 1, _, _, _, h => ⟨h.1, fun i hi => wpOp_mono (fun a' w' h' => wpAny_of_gate fuel _ a' w' h'.2) (h.2 i hi)⟩
theorem wpAnyG_first {i : Nat} {oi : Oper} {v : Value} {T : World → Prop} (hi : ops[i]? = some oi) (hsel : ∀ (j : Nat) (o : Oper) cs b, ops[j]? = some o → o.op ≠ .select cs b)
    (hQ : ∀ c a w, Q (.panic c) (a.put oi.dst v) w → Q (.panic c) a w) (hD : i ≠ D)
    (hT : (∀ w, T w) ∨ ((∀ w, S w → T w) ∧ ∃ oD, ops[D]? = some oD ∧ ∃ e ∈ oD.after, Region.binds md e = true ∧ e.on = i)) :
    ∀ (fuel : Nat) (listed : Array Bool) (a : Act) (w : World),
     (∀ j oj, ops[j]? = some oj → j ≠ i → listed.getD j true = false → (∀ e ∈ oj.after, Region.binds md e = true → e.on ≠ i) → oi.apart ops oj = true) →
     i ∈ Region.ready md ops listed → ((∀ w, T w) ∨ listed.getD D true = false) → YieldsIf P ops T oi v a → (listed.getD D true = false → S w) →
     wpAnyG P md ops Q S D fuel (listed.setIfInBounds i true) (a.put oi.dst v) w → wpAnyG P md ops Q S D (fuel + 1) listed a w := by
 have hTw : ∀ (listed : Array Bool) w, ((∀ w, T w) ∨ listed.getD D true = false) → (listed.getD D true = false → S w) → T w := fun listed w h1 h2 => by
  rcases h1 with h | h
  · exact h w
  · rcases hT with h' | ⟨h', _⟩
    · exact h' w
    · exact h' w (h2 h)
 intro fuel
 induction fuel with
 | zero =>
  intro listed a w _ hr hg hy hS H
  refine ⟨fun h => (by rw [h] at hr; cases hr), fun j hj => ?_⟩
  by_cases hji : j = i
  · subst hji; exact hy.wpOp hi (hTw listed w hg hS) ⟨fun h => hS (by rwa [getD_set_ne true hD] at h), H⟩
  · have := ready_mono hj hji
    rw [H.1] at this
    cases this
 | succ fuel ih =>
  intro listed a w hfree hr hg hy hS H
  refine ⟨fun h => (by rw [h] at hr; cases hr), fun j hj => ?_⟩
  by_cases hji : j = i
  · subst hji; exact hy.wpOp hi (hTw listed w hg hS) ⟨fun h => hS (by rwa [getD_set_ne true hD] at h), H⟩
  · have h1 := H.2 j (ready_mono hj hji)
    obtain ⟨hjun, oj, hoj, hall⟩ := mem_ready.1 hj
    have hnot : ∀ e ∈ oj.after, Region.binds md e = true → e.on ≠ i := fun e he hb heq => by
     have h1 := hall e he hb
     have h0 := (mem_ready.1 hr).1
     rw [heq] at h1
     rcases Nat.lt_or_ge i listed.size with h' | h'
     · simp [h'] at h0 h1; rw [h0] at h1; cases h1
     · simp [Array.getElem?_eq_none h'] at h1
    have h2 := wpOp_putIf hoj (hfree j oj hoj hji hjun hnot) (fun cs b => hsel i oi cs b hi) (fun cs b => hsel j oj cs b hoj) hQ hy h1
    have hfree' : ∀ k ok, ops[k]? = some ok → k ≠ i → (listed.setIfInBounds j true).getD k true = false →
        (∀ e ∈ ok.after, Region.binds md e = true → e.on ≠ i) → oi.apart ops ok = true := fun k ok hk hki hun hno => by
     refine hfree k ok hk hki ?_ hno
     by_cases hjk : j = k
     · subst hjk; exact hjun
     · rw [getD_set_ne true hjk] at hun; exact hun
    have hg' : (∀ w, T w) ∨ (listed.setIfInBounds j true).getD D true = false := by
     rcases hT with h | ⟨_, oD, hoD, e, he, hb, hon⟩
     · exact .inl h
     · rcases hg with h | h
       · exact .inl h
       · refine .inr ?_
         have hjD : j ≠ D := fun e' => by
          subst e'
          obtain rfl : oj = oD := Option.some.inj (hoj.symm.trans hoD)
          exact hnot e he hb hon
         rw [getD_set_ne true hjD]; exact h
    refine wpOp_mono (fun a' w' h3 => ?_) h2
    have hS' : (listed.setIfInBounds j true).getD D true = false → S w' := fun h => h3.2.1 (by rw [Array.setIfInBounds_comm _ _ (Ne.symm hji), getD_set_ne true hD]; exact h)
    refine ⟨hS', ih (listed.setIfInBounds j true) a' w' hfree' (ready_mono hr (Ne.symm hji)) hg' h3.1 hS' ?_⟩
    rw [Array.setIfInBounds_comm _ _ hji]
    exact h3.2.2
theorem wpAnyG_any {i : Nat} {oi : Oper} {v : Value} {fuel : Nat} {listed : Array Bool} {a : Act} {w : World} (hi : ops[i]? = some oi)
    (hs : Region.noSelect ops = true) (hf : Region.free md ops listed i = true) (hr : (Region.ready md ops listed).contains i = true)
    (hQ : ∀ c a w, Q (.panic c) (a.put oi.dst v) w → Q (.panic c) a w) (hD : (i == D) = false) (hS : listed.getD D true = false → S w) (hw : Region.wanted oi (yielded ops a.tmps) = true)
    (hy : ∀ w, (execOp a.eval oi).run P w = .ok (.value v) w)
    (h : wpAnyG P md ops Q S D fuel (listed.setIfInBounds i true) (a.put oi.dst v) w) : wpAnyG P md ops Q S D (fuel + 1) listed a w :=
 wpAnyG_first (T := fun _ => True) hi (Region.noSelect_spec hs) hQ (by simpa using hD) (.inl fun _ => trivial) fuel listed a w (Region.free_spec hi hf) (by simpa using hr) (.inl fun _ => trivial) (.inl ⟨hw, fun w _ => hy w⟩) hS h
theorem wpAnyG_read {i : Nat} {oi : Oper} {v : Value} {fuel : Nat} {listed : Array Bool} {a : Act} {w : World} (hi : ops[i]? = some oi)
    (hs : Region.noSelect ops = true) (hf : Region.free md ops listed i = true) (hr : (Region.ready md ops listed).contains i = true)
    (hQ : ∀ c a w, Q (.panic c) (a.put oi.dst v) w → Q (.panic c) a w) (hD : (i == D) = false) (hwait : Region.waitsFor md ops D i = true) (hg : listed.getD D true = false) (hS : S w) (hw : Region.wanted oi (yielded ops a.tmps) = true)
    (hy : ∀ w, S w → (execOp a.eval oi).run P w = .ok (.value v) w)
    (h : wpAnyG P md ops Q S D fuel (listed.setIfInBounds i true) (a.put oi.dst v) w) : wpAnyG P md ops Q S D (fuel + 1) listed a w :=
 wpAnyG_first (T := S) hi (Region.noSelect_spec hs) hQ (by simpa using hD) (.inr ⟨fun _ h => h, by
  obtain ⟨oD, h1, e, h2, h3, h4⟩ := Region.waitsFor_spec hwait
  exact ⟨oD, h1, e, h2, h3, h4⟩⟩) fuel listed a w (Region.free_spec hi hf) (by simpa using hr) (.inr hg) (.inl ⟨hw, hy⟩) (fun _ => hS) h
theorem wpAnyG_one {i : Nat} {o : Oper} {fuel : Nat} {listed : Array Bool} {a : Act} {w : World} (hi : ops[i]? = some o) (hr : Region.ready md ops listed = [i]) (hw : Region.wanted o (yielded ops a.tmps) = true)
    (h : ∀ K' : Act → World → Prop, Shut (∀ a w, ((listed.setIfInBounds i true).getD D true = false → S w) → wpAnyG P md ops Q S D fuel (listed.setIfInBounds i true) a w → K' a w) → Oper.wp P o a w K' Q) : wpAnyG P md ops Q S D (fuel + 1) listed a w :=
 ⟨fun h0 => (by rw [hr] at h0; cases h0), fun j hj => by
  rw [hr] at hj
  obtain rfl : j = i := by simpa using hj
  refine wpOp_step hi (fun K' hK => ?_)
  rw [if_pos hw]
  exact h K' (fun a w h1 h2 => hK a w ⟨h1, h2⟩)⟩
theorem wpAnyG_done {listed : Array Bool} {a : Act} {w : World} (hr : Region.ready md ops listed = []) (h : Q .normal a w) :
    ∀ fuel, wpAnyG P md ops Q S D fuel listed a w
 | 0 => ⟨hr, h⟩
 | _ + 1 => ⟨fun _ => h, by rw [hr]; simp⟩
theorem wp_region_gate {id : Nat} {a : Act} {w : World} (S : World → Prop) (D : Nat) (hm : P.follows .mixedOrders = true)
    (h : wpAnyG P .any ops Q S D ops.size (Array.replicate ops.size false) a w.drew) : (Code.region id ops true).wp P Q a w :=
 wp_region_any hm (wpAny_of_gate _ _ _ _ h)
end
section
variable {P : Program} {ops : Array Oper} {Q : Exit → Act → World → Prop} {md : Region.Mode} {S : World → Prop} {D : Nat}
theorem wpAnyG_row {i : Nat} {oi : Oper} {v : Value} {fuel : Nat} {listed : Array Bool} {a : Act} {w : World} (hi : ops[i]? = some oi)
    (hs : Region.noSelect ops = true) (hf : Region.free md ops listed i = true) (hr : (Region.ready md ops listed).contains i = true)
    (hQ : ∀ c a w, Q (.panic c) (a.put oi.dst v) w → Q (.panic c) a w) (hD : (i == D) = false) (hwait : Region.waitsFor md ops D i = true) (hg : listed.getD D true = false) (hS : S w)
    (hy : YieldsIf P ops S oi v a)
    (h : wpAnyG P md ops Q S D fuel (listed.setIfInBounds i true) (a.put oi.dst v) w) : wpAnyG P md ops Q S D (fuel + 1) listed a w :=
 wpAnyG_first (T := S) hi (Region.noSelect_spec hs) hQ (by simpa using hD) (.inr ⟨fun _ h => h, by
  obtain ⟨oD, h1, e, h2, h3, h4⟩ := Region.waitsFor_spec hwait
  exact ⟨oD, h1, e, h2, h3, h4⟩⟩) fuel listed a w (Region.free_spec hi hf) (by simpa using hr) (.inr hg) hy (fun _ => hS) h
theorem wpAnyG_load {i : Nat} {dst : Option Tmp} {ty : TypeId} {x : Operand} {b o : Nat} {cs : List Value} {d : TypeDesc} {fuel : Nat} {listed : Array Bool} {a : Act} {w : World}
    (hop : (ops[i]?).map (fun o => (o.dst, o.op)) = some (dst, .load ty x)) (hw : (ops[i]?).map (fun o => Region.wanted o (yielded ops a.tmps)) = some true)
    (hs : Region.noSelect ops = true) (hf : Region.free md ops listed i = true) (hr : (Region.ready md ops listed).contains i = true)
    (hQ : ∀ c a w, Q (.panic c) (a.put dst (.agg cs.toArray)) w → Q (.panic c) a w) (hD : (i == D) = false) (hwait : Region.waitsFor md ops D i = true) (hg : listed.getD D true = false) (hS : S w)
    (hx : a.eval x = .pointer (some ⟨b, o, none⟩)) (hc : ∀ w, S w → w.rangeAt b o cs) (hu : P.underlying ty = some d) (hd : d.isRow = true) (hi : (P.info? ty).map (·.size) = some cs.length)
    (h : wpAnyG P md ops Q S D fuel (listed.setIfInBounds i true) (a.put dst (.agg cs.toArray)) w) : wpAnyG P md ops Q S D (fuel + 1) listed a w := by
 cases ho : ops[i]? with
 | none => rw [ho] at hop; cases hop
 | some oi =>
  rw [ho] at hop hw
  simp only [Option.map_some, Option.some.injEq, Prod.mk.injEq] at hop hw
  obtain ⟨rfl, hop⟩ := hop
  exact wpAnyG_row ho hs hf hr hQ hD hwait hg hS (yieldsIf_load_mid hw ty x hop b o hx cs d hc hu hd hi) h
end
open Go.RowKit
set_option maxRecDepth 20000
set_option linter.unusedSimpArgs false
set_option maxHeartbeats 1000000 in
theorem passIn_any (k : List Int) (pb n cap : Nat) (ps : List Part) (w : World) (hk : k.length = 64) (hps : PartsAt w w.heap.size pb ps) (hn : n = ps.length) (hn2 : n ≤ 1000)
    (hlen : ∀ j, j ≤ ps.length → 64 + (allOf (ps.take j)).length ≤ 1000000) (hlen2 : ∀ p ∈ ps, p.len ≤ 1000000) (hK : KTab w) :
    Calls Tryz.prog 69 #[.agg (row .u8 k), .func (.func 70) #[] #[], .slice (some ⟨pb, 0, none⟩) n cap] w fun e w' => e = .returned (.agg (row .u8 (sumL (turnL 54 k ++ allOf ps)))) ∧ Below w.heap.size w w' := by
 have htl : (turnL 54 k).length = 64 := by rw [turnL_length, hk]
 have hbg := fun wx => inner_any k wx hk
 have hev : ∀ (H base : Nat) (v : Value) (wx : World), Box wx H 143 v → OwnB wx base v (turnL 54 k) → base ≤ H → PartsAt wx base pb ps → Calls Tryz.prog 89 #[.func (.func 90) #[.pointer (some ⟨H, 0, none⟩)] #[], .slice (some ⟨pb, 0, none⟩) n cap] wx fun e w' => (∃ r, e = .returned r) ∧ ∃ v', Box w' H 143 v' ∧ OwnB w' base v' (turnL 54 k ++ allOf ps) ∧ Below base wx w' := fun H base v wx h1 h2 h3 h4 =>
  each_any H base pb n cap v (turnL 54 k) ps wx h1 h2 h3 h4 hn hn2 (fun j hj => by rw [htl]; exact hlen j hj) hlen2
 have hal : (turnL 54 k ++ allOf ps).length ≤ 1000000 := by
  have := hlen ps.length (Nat.le_refl _)
  rw [List.take_length] at this
  rw [List.length_append, htl]; omega
 obtain ⟨TK, hTK⟩ : ∃ x, turnL 54 k = x := ⟨_, rfl⟩
 rw [hTK] at hbg hev hal ⊢
 obtain ⟨AL, hAL⟩ : ∃ x, TK ++ allOf ps = x := ⟨_, rfl⟩
 rw [hAL] at hev hal ⊢
 have hdl := sumL_length AL
 have hsum := fun H base v wx h1 h2 h3 h5 => hashSum_any H base v AL wx h1 h2 h3 hal h5
 obtain ⟨D, hD⟩ : ∃ x, sumL AL = x := ⟨_, rfl⟩
 rw [hD] at hdl hsum ⊢
 clear hTK hAL hD htl hlen hal hn
 go_enter Tryz.func69, Tryz.ntmps69
 go_upto_region 1 with fail
 refine forget (p := fun y => Code.wp _ _ _ _ y) (fun W0 => Below w.heap.size w W0 ∧ W0.heap.size = w.heap.size + 1 + 1 ∧ Holds W0 w.heap.size .u8 105 k ∧ Holds W0 (w.heap.size + 1) .u8 23 (List.replicate 32 0)) ⟨((Below.refl _ _).alloc (Nat.le_refl _) _).alloc (by simp) _, by simp, (Holds.new w .u8 105 k).alloc _, ?_⟩ ?_
 · have := (Holds.new (w.alloc (.cells (row .u8 k) 105)) .u8 23 (List.replicate 32 0))
   rw [World.size_alloc] at this
   exact this
 rintro W0 ⟨hB0, hs0, hk0, hR0⟩
 go_upto_region 2 with (first
  | (refine wpList_ld rfl 105 _ rfl _ rfl hk0 Tryz.underlying105 sizeFk hk ?_)
  | (go_at_call 70; refine (hbg _).mono ?_; rintro e w1 ⟨H, v1, rfl, hH, hx1, ho1, hb1⟩))
 have hs1 := hb1.size
 have hB1 : Below w.heap.size w w1 := hB0.trans (hb1.mono hB0.size)
 have hp1 : PartsAt w1 (W0.heap.size + 1) pb ps := fun w' hb => hps w' (hB1.trans (hb.mono (by omega)))
 have hev1 := hev H (W0.heap.size + 1) v1 w1 hx1 ho1 hH hp1
 have hR1 := hR0.below hb1 (by omega)
 clear hev hbg hk0 hps hp1 hx1 ho1 hb1
 go_upto_region 3 with (go_at_call 89; refine hev1.mono ?_; rintro e w2 ⟨⟨r2, rfl⟩, v2, hx2, ho2, hb2⟩)
 have hB2 : Below w.heap.size w w2 := hB1.trans (hb2.mono (by omega))
 have hs3 := hsum H (W0.heap.size + 1) v2 w2 hx2 ho2 (fun x n c h => by subst h; exact ho2.bytes.2) (hK.below hB2)
 have hR2 := hR1.below hb2 (by omega)
 have hl2 := hB2.size
 clear hev1 hsum hx2 ho2 hR1
 go_wp2_with (first
  | (go_at_call 91; refine hs3.mono ?_; rintro e w3 ⟨rfl, hb3⟩; have hR3 := hR2.below hb3 hR2.lt)
  | (refine wpList_st rfl 23 _ _ rfl _ rfl rfl hR3 (by rw [hdl]; exact sizeKey) (by simp [hdl]) ?_))
 refine bodyPost_ret (results_holds (Tryz.results69) _ rfl (hR3.setRow _) Tryz.underlying23 sizeKey hdl) rfl ⟨rfl, ?_⟩
 exact below_setRow (hB2.trans (hb3.mono hB2.size)) (by omega) _
set_option maxHeartbeats 1000000 in
theorem passOut_any (k : List Int) (pb n cap : Nat) (ps : List Part) (w : World) (hk : k.length = 64) (hps : PartsAt w w.heap.size pb ps) (hn : n = ps.length) (hn2 : n ≤ 1000)
    (hlen : ∀ j, j ≤ ps.length → 64 + (allOf (ps.take j)).length ≤ 1000000) (hlen2 : ∀ p ∈ ps, p.len ≤ 1000000) (hK : KTab w) :
    Calls Tryz.prog 69 #[.agg (row .u8 k), .func (.func 71) #[] #[], .slice (some ⟨pb, 0, none⟩) n cap] w fun e w' => e = .returned (.agg (row .u8 (sumL (turnL 92 k ++ allOf ps)))) ∧ Below w.heap.size w w' := by
 have htl : (turnL 92 k).length = 64 := by rw [turnL_length, hk]
 have hbg := fun wx => outer_any k wx hk
 have hev : ∀ (H base : Nat) (v : Value) (wx : World), Box wx H 143 v → OwnB wx base v (turnL 92 k) → base ≤ H → PartsAt wx base pb ps → Calls Tryz.prog 89 #[.func (.func 90) #[.pointer (some ⟨H, 0, none⟩)] #[], .slice (some ⟨pb, 0, none⟩) n cap] wx fun e w' => (∃ r, e = .returned r) ∧ ∃ v', Box w' H 143 v' ∧ OwnB w' base v' (turnL 92 k ++ allOf ps) ∧ Below base wx w' := fun H base v wx h1 h2 h3 h4 =>
  each_any H base pb n cap v (turnL 92 k) ps wx h1 h2 h3 h4 hn hn2 (fun j hj => by rw [htl]; exact hlen j hj) hlen2
 have hal : (turnL 92 k ++ allOf ps).length ≤ 1000000 := by
  have := hlen ps.length (Nat.le_refl _)
  rw [List.take_length] at this
  rw [List.length_append, htl]; omega
 obtain ⟨TK, hTK⟩ : ∃ x, turnL 92 k = x := ⟨_, rfl⟩
 rw [hTK] at hbg hev hal ⊢
 obtain ⟨AL, hAL⟩ : ∃ x, TK ++ allOf ps = x := ⟨_, rfl⟩
 rw [hAL] at hev hal ⊢
 have hdl := sumL_length AL
 have hsum := fun H base v wx h1 h2 h3 h5 => hashSum_any H base v AL wx h1 h2 h3 hal h5
 obtain ⟨D, hD⟩ : ∃ x, sumL AL = x := ⟨_, rfl⟩
 rw [hD] at hdl hsum ⊢
 clear hTK hAL hD htl hlen hal hn
 go_enter Tryz.func69, Tryz.ntmps69
 go_upto_region 1 with fail
 refine forget (p := fun y => Code.wp _ _ _ _ y) (fun W0 => Below w.heap.size w W0 ∧ W0.heap.size = w.heap.size + 1 + 1 ∧ Holds W0 w.heap.size .u8 105 k ∧ Holds W0 (w.heap.size + 1) .u8 23 (List.replicate 32 0)) ⟨((Below.refl _ _).alloc (Nat.le_refl _) _).alloc (by simp) _, by simp, (Holds.new w .u8 105 k).alloc _, ?_⟩ ?_
 · have := (Holds.new (w.alloc (.cells (row .u8 k) 105)) .u8 23 (List.replicate 32 0))
   rw [World.size_alloc] at this
   exact this
 rintro W0 ⟨hB0, hs0, hk0, hR0⟩
 go_upto_region 2 with (first
  | (refine wpList_ld rfl 105 _ rfl _ rfl hk0 Tryz.underlying105 sizeFk hk ?_)
  | (go_at_call 71; refine (hbg _).mono ?_; rintro e w1 ⟨H, v1, rfl, hH, hx1, ho1, hb1⟩))
 have hs1 := hb1.size
 have hB1 : Below w.heap.size w w1 := hB0.trans (hb1.mono hB0.size)
 have hp1 : PartsAt w1 (W0.heap.size + 1) pb ps := fun w' hb => hps w' (hB1.trans (hb.mono (by omega)))
 have hev1 := hev H (W0.heap.size + 1) v1 w1 hx1 ho1 hH hp1
 have hR1 := hR0.below hb1 (by omega)
 clear hev hbg hk0 hps hp1 hx1 ho1 hb1
 go_upto_region 3 with (go_at_call 89; refine hev1.mono ?_; rintro e w2 ⟨⟨r2, rfl⟩, v2, hx2, ho2, hb2⟩)
 have hB2 : Below w.heap.size w w2 := hB1.trans (hb2.mono (by omega))
 have hs3 := hsum H (W0.heap.size + 1) v2 w2 hx2 ho2 (fun x n c h => by subst h; exact ho2.bytes.2) (hK.below hB2)
 have hR2 := hR1.below hb2 (by omega)
 have hl2 := hB2.size
 clear hev1 hsum hx2 ho2 hR1
 go_wp2_with (first
  | (go_at_call 91; refine hs3.mono ?_; rintro e w3 ⟨rfl, hb3⟩; have hR3 := hR2.below hb3 hR2.lt)
  | (refine wpList_st rfl 23 _ _ rfl _ rfl rfl hR3 (by rw [hdl]; exact sizeKey) (by simp [hdl]) ?_))
 refine bodyPost_ret (results_holds (Tryz.results69) _ rfl (hR3.setRow _) Tryz.underlying23 sizeKey hdl) rfl ⟨rfl, ?_⟩
 exact below_setRow (hB2.trans (hb3.mono hB2.size)) (by omega) _
theorem wp_st {P : Program} {o : Oper} {a : Act} {w : World} {K : Act → World → Prop} {Q : Exit → Act → World → Prop} (ty : TypeId) (x y : Operand) (ho : o.op = .store ty x y)
    (g : Nat) (hx : a.eval x = .pointer (some ⟨g, 0, none⟩)) {k : IntKind} {t : TypeId} {old l : List Int} (hy : a.eval y = .agg (row k l)) (hg : Holds w g k t old)
    (hi : (P.info? ty).map (·.size) = some l.length) (hl : old.length = l.length)
    (h : K (a.put o.dst undef) (w.setRow g (row k l))) : o.wp P a w K Q := by
 unfold Oper.wp execOp
 simp only [ho, hx, hy, Instr.storeAt, Instr.sureAddr, Sem.run_bind, Sem.run_pure, Result.andThen_ok, run_storeVar_row w g ty t k old l hg hl hi]
 exact h
theorem Holds.rangeM {w : World} {g : Nat} {k : IntKind} {t : TypeId} {l : List Int} (h : Holds w g k t l) : w.rangeAt g 0 (l.map (Value.int k)) := fun j v hv => by
 have hj : j < l.length := by have := (List.getElem?_eq_some_iff.1 hv).1; simpa using this
 rw [Nat.zero_add, h.cell j hj, ← hv, List.getElem?_map, List.getElem?_eq_getElem hj]; rfl
theorem partsOne {w : World} {base pb : Nat} {t : TypeId} {x : Option Addr} {len cap : Nat} {z : List Int} (hbox : w.heap[pb]? = some (.cells #[.slice x len cap] t (0, 0))) (hpb : pb < base) (_hbase : base ≤ w.heap.size) (hb : Bytes w x len cap z) (hlt : ∀ b off, x = some ⟨b, off, none⟩ → 0 < len → b < base) : PartsAt w base pb [⟨x, len, cap, z⟩] := by
 intro w' hB j hj
 simp only [List.length_cons, List.length_nil] at hj
 obtain rfl : j = 0 := by omega
 refine ⟨?_, hb.len_eq, hb.le, hb.top, hb.nil, ?_⟩
 · rw [hB.cell (p := ⟨pb, 0, none⟩) hpb]; exact (cell_of_row w pb 0 _ t _ hbox).trans rfl
 · rcases hb.at_ with h0 | ⟨b, off, hx, hc⟩
   · exact .inl h0
   · by_cases hl : len = 0
     · exact .inl hl
     · exact .inr ⟨b, off, hx, fun j hj => (hB.cell (p := ⟨b, off + j, none⟩) (hlt b off hx (by omega))).trans (hc j hj)⟩
def tagL (z a : List Int) : List Int := sumL (turnL 92 (fillL z) ++ sumL (turnL 54 (fillL z) ++ a))
theorem tagL_length (z a : List Int) : (tagL z a).length = 32 := sumL_length _
set_option maxHeartbeats 2000000 in
theorem tag_any (x : Option Addr) (len cap : Nat) (z : List Int) (pb n cp : Nat) (ps : List Part) (w : World) (hb : Bytes w x len cap z) (hln : len ≤ 1000000) (hps : PartsAt w w.heap.size pb ps) (hn : n = ps.length) (hn2 : n ≤ 1000)
    (hlen : ∀ j, j ≤ ps.length → 64 + (allOf (ps.take j)).length ≤ 1000000) (hlen2 : ∀ p ∈ ps, p.len ≤ 1000000) (hKT : KTab w) :
    Calls Tryz.prog 57 #[.slice x len cap, .slice (some ⟨pb, 0, none⟩) n cp] w fun e w' => e = .returned (.agg (row .u8 (tagL z (allOf ps)))) ∧ Below w.heap.size w w' := by
 have hfl := fillL_length z
 have hfi := fun wx (hx : Below w.heap.size w wx) => fill_any x len cap z wx (hb.below hx) hln (hKT.below hx)
 have hTl := tagL_length z (allOf ps)
 have HT : VeilM (tagL z (allOf ps) = sumL (turnL 92 (fillL z) ++ sumL (turnL 54 (fillL z) ++ allOf ps))) := ⟨rfl⟩
 obtain ⟨TG, hTG⟩ : ∃ q, tagL z (allOf ps) = q := ⟨_, rfl⟩
 rw [hTG] at HT hTl ⊢
 obtain ⟨FL, hFL⟩ : ∃ q, fillL z = q := ⟨_, rfl⟩
 rw [hFL] at hfl hfi HT
 have hpi := fun wx (hx : Below w.heap.size w wx) => passIn_any FL pb n cp ps wx hfl (fun w' hb' => hps w' (hx.trans (hb'.mono hx.size))) hn hn2 hlen hlen2 (hKT.below hx)
 have hDl := sumL_length (turnL 54 FL ++ allOf ps)
 obtain ⟨D1, hD1⟩ : ∃ q, sumL (turnL 54 FL ++ allOf ps) = q := ⟨_, rfl⟩
 rw [hD1] at hpi hDl HT
 have hpo : ∀ (pb' F : Nat) (wx : World), PartsAt wx wx.heap.size pb' [⟨some ⟨F, 0, none⟩, 32, 32, D1⟩] → KTab wx → Calls Tryz.prog 69 #[.agg (List.map (Value.int .u8) FL).toArray, .func (.func 71) #[] #[], .slice (some ⟨pb', 0, none⟩) 1 1] wx fun e w' => e = .returned (.agg (row .u8 TG)) ∧ Below wx.heap.size wx w' := fun pb' F wx h1 h2 => by
  have := passOut_any FL pb' 1 1 [⟨some ⟨F, 0, none⟩, 32, 32, D1⟩] wx hfl h1 rfl (by omega) (fun j hj => by
   have : (allOf (List.take j [(⟨some ⟨F, 0, none⟩, 32, 32, D1⟩ : Part)])).length ≤ 32 := by
    match j with
    | 0 => simp [allOf]
    | j + 1 => simp [allOf, hDl]
   omega) (fun p hp => by simp at hp; subst hp; simp) h2
  have e : allOf [(⟨some ⟨F, 0, none⟩, 32, 32, D1⟩ : Part)] = D1 := by simp [allOf]
  rw [e, ← HT.out] at this
  exact this
 have uF := Tryz.underlying105
 have iF : (Tryz.prog.info? 105).map (·.size) = some (FL.map (Value.int .u8)).length := by rw [List.length_map, hfl]; exact sizeFk
 clear hTG hFL hD1 HT hps hn hlen hlen2
 go_enter Tryz.func57, Tryz.ntmps57
 go_upto_region 1 with fail
 refine forget (p := fun y => Code.wp _ _ _ _ y) (fun W0 => Below w.heap.size w W0 ∧ W0.heap.size = w.heap.size + 1 ∧ Holds W0 w.heap.size .u8 23 (List.replicate 32 0)) ⟨(Below.refl _ _).alloc (Nat.le_refl _) _, by simp, Holds.new w .u8 23 (List.replicate 32 0)⟩ ?_
 rintro W0 ⟨hB0, hs0, hR0⟩
 have hfi0 := hfi W0 hB0
 clear hfi hb
 go_upto_region 2 with (first
  | (go_at_call 68; refine hfi0.mono ?_; rintro e w1 ⟨rfl, hb1⟩; have hN1 := Holds.new w1 .u8 105 (List.replicate 64 0))
  | (refine wpList_st rfl 105 _ _ rfl _ rfl rfl hN1 (by rw [hfl]; exact sizeFk) (by simp [hfl]) ?_))
 have hs1 := hb1.size
 refine forget (p := fun y => Code.wp _ _ _ _ y) (fun W2 => Below w.heap.size w W2 ∧ W2.heap.size = w1.heap.size + 1 ∧ Holds W2 w.heap.size .u8 23 (List.replicate 32 0) ∧ Holds W2 w1.heap.size .u8 105 FL) ⟨below_setRow ((hB0.trans (hb1.mono hB0.size)).alloc (by omega) _) (by omega) _, by simp, ((hR0.below hb1 (by omega)).alloc _).setRowOther _ (by omega), hN1.setRow _⟩ ?_
 clear hN1 hB0 hR0 hb1 hfi0
 rintro W2 ⟨hB2, hs2, hR2, hQ2⟩
 obtain ⟨Qb, hQb⟩ : ∃ q, w1.heap.size = q := ⟨_, rfl⟩
 rw [hQb] at hs1 hs2 hQ2 ⊢
 have hQw : w.heap.size < Qb := by omega
 clear hQb hs1 hs0
 have hpi2 := hpi W2 hB2
 clear hpi
 simp only [Act.put]
 go_upto_region 3 with (first
  | (refine wpList_ld rfl 105 _ rfl _ rfl hQ2 Tryz.underlying105 sizeFk hfl ?_)
  | (go_at_call 69; refine hpi2.mono ?_; rintro e w3 ⟨rfl, hb3⟩; have hN3 := Holds.new w3 .u8 23 (List.replicate 32 0))
  | (refine wpList_st rfl 23 _ _ rfl _ rfl rfl hN3 (by rw [hDl]; exact sizeKey) (by simp [hDl]) ?_))
 have hs3 := hb3.size
 refine forget (p := fun y => Code.wp _ _ _ _ y) (fun W4 => Below w.heap.size w W4 ∧ W4.heap.size = w3.heap.size + 1 ∧ Holds W4 w.heap.size .u8 23 (List.replicate 32 0) ∧ Holds W4 Qb .u8 105 FL ∧ Holds W4 w3.heap.size .u8 23 D1) ⟨below_setRow ((hB2.trans (hb3.mono hB2.size)).alloc (by omega) _) (by omega) _, by simp, ((hR2.below hb3 (by omega)).alloc _).setRowOther _ (by omega), ((hQ2.below hb3 (by omega)).alloc _).setRowOther _ (by omega), hN3.setRow _⟩ ?_
 clear hN3 hB2 hR2 hQ2 hb3 hpi2
 rintro W4 ⟨hB4, hs4, hR4, hQ4, hF4⟩
 obtain ⟨Fb, hFb⟩ : ∃ q, w3.heap.size = q := ⟨_, rfl⟩
 rw [hFb] at hs3 hs4 hF4 ⊢
 have hFw : Qb < Fb := by omega
 clear hFb hs3 hs2
 simp only [Act.put]
 refine wp_region_gate (fun w' => w'.rangeAt Qb 0 (FL.map (Value.int .u8))) 4 (by kernel_rfl) ?_
 have hS := hQ4.drew.rangeM
 refine wpAnyG_load (i := 0) (dst := some 12) (ty := 105) (x := .tmp 5) (b := Qb) (o := (0)) (cs := (FL.map (Value.int .u8))) (by kernel_rfl) (by kernel_rfl) (by kernel_rfl) (by kernel_rfl) (by kernel_rfl) (fun _ _ _ h => h) (by kernel_rfl) (by kernel_rfl) (by kernel_rfl) hS (by kernel_rfl) (fun _ h => h) uF rfl iF ?_
 simp only [Act.put, List.setIfInBounds_toArray, List.set_cons_zero, List.set_cons_succ]
 refine wpAnyG_any (i := 1) (v := .slice (some ⟨Fb, 0, none⟩) 32 32) rfl (by kernel_rfl) (by kernel_rfl) (by kernel_rfl) (fun _ _ _ h => h) (by kernel_rfl) (fun _ => hS) (by kernel_rfl) ?_ ?_
 · intro _; go_simp
 simp only [Act.put, List.setIfInBounds_toArray, List.set_cons_zero, List.set_cons_succ]
 refine wpAnyG_one (i := 2) rfl (by kernel_rfl) (by kernel_rfl) (fun K hK => ?_)
 go_simp
 have hB5 : Below W4.heap.size W4 (W4.alloc (.cells #[.slice (some ⟨Fb, 0, none⟩) 32 32] 74)).drew := ((Below.refl _ _).alloc (Nat.le_refl _) _).drew
 replace hS := (hQ4.below hB5 hQ4.lt).rangeM
 have hp5 : PartsAt (W4.alloc (.cells #[.slice (some ⟨Fb, 0, none⟩) 32 32] 74)).drew (W4.alloc (.cells #[.slice (some ⟨Fb, 0, none⟩) 32 32] 74)).drew.heap.size (Fb + 1) [⟨some ⟨Fb, 0, none⟩, 32, 32, D1⟩] :=
  partsOne (t := 74) (by have := heap_alloc_new W4 (.cells #[.slice (some ⟨Fb, 0, none⟩) 32 32] 74); rw [hs4] at this; exact this) (by simp [hs4]) (Nat.le_refl _) ((hF4.bytes hDl.symm (by omega)).below hB5) (fun b off h _ => by cases h; simp [hs4]; omega)
 refine hK.out _ _ (fun _ => hS) ?_
 clear hK K
 refine wpAnyG_one (i := 3) rfl (by kernel_rfl) (by kernel_rfl) (fun K hK => ?_)
 go_wp2_with (go_at_call 69; refine (hpo (Fb + 1) Fb _ hp5 (hKT.below (hB4.trans (hB5.mono hB4.size)))).mono ?_; rintro e w6 ⟨rfl, hb6⟩)
 have hB6 : Below W4.heap.size W4 w6 := hB5.trans (hb6.mono hB5.size)
 replace hS := (hQ4.below hB6 hQ4.lt).rangeM
 have hR6 := hR4.below hB6 hR4.lt
 refine hK.out _ _ (fun _ => hS) ?_
 clear hK K
 refine wpAnyG_one (i := 4) rfl (by kernel_rfl) (by kernel_rfl) (fun K hK => ?_)
 refine wp_st 23 (.tmp 4) (.tmp 15) (by kernel_rfl) w.heap.size (by kernel_rfl) (l := TG) (k := .u8) (by kernel_rfl) hR6 (by rw [hTl]; exact sizeKey) (by simp [hTl]) ?_
 refine hK.out _ _ (fun h => absurd (show true = false from h) (by decide)) ?_
 clear hK K
 refine wpAnyG_done (by kernel_rfl) ?_ _
 simp only [Act.put]
 go_wp2_with fail
 refine bodyPost_ret (results_holds (Tryz.results57) _ rfl (hR6.setRow _) Tryz.underlying23 sizeKey hTl) rfl ⟨rfl, ?_⟩
 exact below_setRow (hB4.trans (hB6.mono hB4.size)) (Nat.le_refl _) _
end Go.Proofs.YtflkhkmejnpapaaGreatDoor.S
