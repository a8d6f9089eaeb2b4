/- Kb0 Kb1 Kb2 Go0 Aa Kd -/
import Derived.Test.YtflkhkmejnpapaaGreatDoorK43
import Derived.Test.YtflkhkmejnpapaaGreatDoorK28
import Derived.Test.YtflkhkmejnpapaaGreatDoorK32
import Derived.Test.YtflkhkmejnpapaaGreatDoorRows
import Derived.Test.YtflkhkmejnpapaaGreatDoorK04
import Derived.ProofKit
import Derived.OpenShut
import Derived.ChangeOld
import Derived.Deep.DeepHandedRow
import Derived.Test.YtflkhkmejnpapaaGreatDoorK10
import Derived.ChangeSame
import Derived.Test.YtflkhkmejnpapaaGreatDoorK19
import Derived.Test.YtflkhkmejnpapaaGreatDoorK09
namespace Go.Proofs.YtflkhkmejnpapaaGreatDoor
open Go.RowKit
set_option maxRecDepth 20000
set_option linter.unusedSimpArgs false
structure LinkR (M : Int → Int → Option (List Int)) (D : List (Int × Int)) (L : List Ep) : Prop where
 key : ∀ a s, M a s = keyE L a s
 dots : D = L.map (·.1)
 bytes : ∀ e ∈ L, ∀ x ∈ e.2, isB x
theorem keyE_snoc (a s : Int) (k : List Int) (a' s' : Int) : ∀ L : List Ep, keyE (L ++ [((a, s), k)]) a' s' = match keyE L a' s' with | some q => some q | none => if a = a' ∧ s = s' then some k else none
 | [] => rfl
 | e :: L => by
  have ih := keyE_snoc a s k a' s' L
  have e1 : keyE (e :: L ++ [((a, s), k)]) a' s' = if e.1.1 = a' ∧ e.1.2 = s' then some e.2 else keyE (L ++ [((a, s), k)]) a' s' := rfl
  have e2 : keyE (e :: L) a' s' = if e.1.1 = a' ∧ e.1.2 = s' then some e.2 else keyE L a' s' := rfl
  rw [e1, e2]
  by_cases h : e.1.1 = a' ∧ e.1.2 = s'
  · rw [if_pos h, if_pos h]
  · rw [if_neg h, if_neg h]
    exact ih
theorem keyE_mem (a s : Int) (k : List Int) : ∀ L : List Ep, keyE L a s = some k → ∃ e ∈ L, e.2 = k
 | [], h => by cases h
 | e :: L, h => by
  unfold keyE at h
  by_cases hc : e.1.1 = a ∧ e.1.2 = s
  · rw [if_pos hc] at h
    exact ⟨e, List.mem_cons_self, by injection h⟩
  · rw [if_neg hc] at h
    obtain ⟨q, hq, hk⟩ := keyE_mem a s k L h
    exact ⟨q, List.mem_cons_of_mem _ hq, hk⟩
theorem LinkR.keyB {M : Int → Int → Option (List Int)} {D : List (Int × Int)} {L : List Ep} (h : LinkR M D L) (a s : Int) (k : List Int) (hk : keyE L a s = some k) : ∀ x ∈ k, isB x := by
 obtain ⟨e, he, rfl⟩ := keyE_mem a s k L hk
 exact h.bytes e he
theorem LinkR.len {M : Int → Int → Option (List Int)} {D : List (Int × Int)} {L : List Ep} (h : LinkR M D L) : D.length = L.length := by rw [h.dots, List.length_map]
theorem LinkR.put {M : Int → Int → Option (List Int)} {D : List (Int × Int)} {L : List Ep} (h : LinkR M D L) (a s : Int) (k : List Int) (hm : keyE L a s = none) (hk : ∀ x ∈ k, isB x) : LinkR (putK M a s k) (D ++ [(a, s)]) (L ++ [((a, s), k)]) := by
 refine ⟨fun a' s' => ?_, by rw [h.dots]; simp, fun e he x hx => ?_⟩
 · rw [keyE_snoc]
   unfold putK
   by_cases hc : a' = a ∧ s' = s
   · obtain ⟨rfl, rfl⟩ := hc
     simp [hm]
   · rw [if_neg hc, h.key]
     cases hq : keyE L a' s' with
     | some q => rfl
     | none =>
      show none = if a = a' ∧ s = s' then some k else none
      rw [if_neg (fun e => hc ⟨e.1.symm, e.2.symm⟩)]
 · rcases List.mem_append.1 he with h' | h'
   · exact h.bytes e h' x hx
   · rw [List.mem_singleton.1 h'] at hx; exact hk x hx
theorem LinkR.new (own : Int) (seed : List Int) : LinkR (newM own seed) (newD own) (rnewL own seed) := by
 unfold newM newD rnewL
 by_cases h : own = 0
 · rw [if_pos h, if_pos h, if_pos h]
   refine ⟨fun a s => ?_, rfl, fun e he x hx => ?_⟩
   · unfold putK keyE keyE
     by_cases hc : a = 0 ∧ s = 0
     · rw [if_pos hc, if_pos ⟨hc.1.symm, hc.2.symm⟩]
     · rw [if_neg hc, if_neg (fun e => hc ⟨e.1.symm, e.2.symm⟩)]
   · rw [List.mem_singleton.1 he] at hx
     exact derL_in _ _ x hx
 · rw [if_neg h, if_neg h, if_neg h]
   exact ⟨fun _ _ => rfl, rfl, fun e he => by cases he⟩
structure BothR (w : World) (base H O : Nat) (own : Int) (seed : List Int) (b : Nat) (M : Int → Int → Option (List Int)) (v : Value) (D : List (Int × Int)) (u : Value) (L : List Ep) : Prop where
 ring : RingAt w base H own seed b M v D
 ref : RRing w base O own seed u L
 link : LinkR M D L
 apart : ∀ g, ringP H b v g → ¬ rrB O u g
section
variable (base H : Nat) (own : Int) (seed : List Int) (b : Nat) (M : Int → Int → Option (List Int)) (v : Value) (D : List (Int × Int)) (L : List Ep) (w : World)
theorem bAdd_any (a s : Int) (k : List Int) (ho : okD a s) (hk : k.length = 32) (hkB : ∀ x ∈ k, isB x) (hR : RingAt w base H own seed b M v D) (hL : LinkR M D L) (hbase : base ≤ w.heap.size) :
    Calls Tryz.prog 9 #[.pointer (some ⟨H, 0, none⟩), .agg (dotC a s).toArray, .agg (row .u8 k)] w fun e w' => e = .returned (.int .i64 (addN L a s)) ∧ ∃ M' v' D', RingAt w' base H own seed b M' v' D' ∧ LinkR M' D' (addE L a s k) ∧ Turn (ringP H b v) w w' ∧ (v'.ownBlock = v.ownBlock ∨ ∃ g, v'.ownBlock = some g ∧ w.heap.size ≤ g) := by
 cases hm : (M a s).isSome with
 | true =>
  have hq := hm
  rw [hL.key] at hq
  refine (add_known base H own seed b M v D w a s k ho hR hm).mono fun e w' ⟨h1, h2⟩ => ⟨by rw [h1]; unfold addN; rw [if_pos hq], M, v, D, hR.far h2, by unfold addE; rw [if_pos (.inl hq)]; exact hL, Turn.of_below h2, .inl rfl⟩
 | false =>
  have hq := hm
  rw [hL.key] at hq
  have hn : keyE L a s = none := by cases hz : keyE L a s with | none => rfl | some _ => rw [hz] at hq; cases hq
  by_cases hl : 16 ≤ L.length
  · refine (add_full base H own seed b M v D w a s k ho hR hm (by rw [hL.len]; exact hl)).mono fun e w' ⟨h1, h2⟩ => ⟨by rw [h1]; unfold addN; rw [if_neg (by rw [hq]; decide), if_pos hl], M, v, D, hR.far h2, by unfold addE; rw [if_pos (.inr hl)]; exact hL, Turn.of_below h2, .inl rfl⟩
  · refine (add_ok base H own seed b M v D w a s k ho hk hR hm (by rw [hL.len]; omega) hbase).mono fun e w' ⟨h1, v', h2, h3, h4⟩ => ⟨by rw [h1]; unfold addN; rw [if_neg (by rw [hq]; decide), if_neg hl], _, v', _, h2, by unfold addE; rw [if_neg (fun q => by rcases q with q | q; rw [hq] at q; cases q; exact hl q)]; exact hL.put a s k hn hkB, h3, h4⟩
end
def unwT (own : Int) (seed : List Int) (f : Int) (E : Wp) : Prop := tagL (pairL seed f own) (wrapNL f own E.ea E.es) [] (E.data.take (48 - 16)) = E.data.drop (48 - 16)
def unwK (own : Int) (seed : List Int) (f : Int) (E : Wp) : List Int := xorL (pairL seed f own) (wrapNL f own E.ea E.es) 1 (E.data.take (48 - 16))
open Classical in
noncomputable def unwN (own : Int) (seed : List Int) (L : List Ep) (f : Int) (E : Wp) : Int := if 8 ≤ f then 2 else if f = own ∨ E.too ≠ own then 12 else if (keyE L E.ea E.es).isSome = true then 5 else if unwT own seed f E then addN L E.ea E.es else 4
open Classical in
noncomputable def unwL (own : Int) (seed : List Int) (L : List Ep) (f : Int) (E : Wp) : List Ep := if 8 ≤ f then L else if f = own ∨ E.too ≠ own then L else if (keyE L E.ea E.es).isSome = true then L else if unwT own seed f E then addE L E.ea E.es (unwK own seed f E) else L
section
variable (base O : Nat) (own : Int) (seed : List Int) (u : Value) (L : List Ep) (w : World)
theorem RRTo.same (hR : RRing w base O own seed u L) {w' : World} (h : Below w.heap.size w w') : RRTo w w' base O own seed u u L := ⟨hR.far h, Turn.of_below h, .inl rfl⟩
theorem rrUnw_any (f : Int) (E : Wp) (hR : RRing w base O own seed u L) (hd48 : E.data.length = 48) (hdB : ∀ x ∈ E.data, isB x) (hbase : base ≤ w.heap.size) :
    Calls Tryz.prog 34 #[.pointer (some ⟨O, 0, none⟩), .int .u8 f, .agg E.cells.toArray] w fun e w' => ∃ u', e = .returned (.int .i64 (unwN own seed L f E)) ∧ RRTo w w' base O own seed u u' (unwL own seed L f E) := by
 unfold unwN unwL
 by_cases h8 : 8 ≤ f
 · rw [if_pos h8, if_pos h8]
   exact (rrUnw_range O w f E h8).mono fun e w' ⟨h1, h2⟩ => ⟨u, h1, RRTo.same base O own seed u L w hR h2⟩
 rw [if_neg h8, if_neg h8]
 by_cases ho : f = own ∨ E.too ≠ own
 · rw [if_pos ho, if_pos ho]
   exact (rrUnw_own base O own seed u L w f E hR (by omega) ho).mono fun e w' ⟨h1, h2⟩ => ⟨u, h1, RRTo.same base O own seed u L w hR h2⟩
 rw [if_neg ho, if_neg ho]
 have hfo : ¬ f = own := fun e => ho (.inl e)
 have hto : E.too = own := Classical.byContradiction fun e => ho (.inr e)
 by_cases hm : (keyE L E.ea E.es).isSome = true
 · rw [if_pos hm, if_pos hm]
   exact (rrUnw_known base O own seed u L w f E hR (by omega) hfo hto hm).mono fun e w' ⟨h1, h2⟩ => ⟨u, h1, RRTo.same base O own seed u L w hR h2⟩
 · rw [if_neg hm, if_neg hm]
   have hm2 : (keyE L E.ea E.es).isSome = false := by simpa using hm
   by_cases ht : unwT own seed f E
   · rw [if_pos ht, if_pos ht]
     exact rrUnw_ok base O own seed u L w f E hR (by omega) hfo hto hm2 hd48 hdB hbase ht
   · rw [if_neg ht, if_neg ht]
     exact (rrUnw_bad base O own seed u L w f E hR (by omega) hfo hto hm2 hd48 hdB ht).mono fun e w' ⟨h1, h2⟩ => ⟨u, h1, RRTo.same base O own seed u L w hR h2⟩
end
section
variable (base H : Nat) (own : Int) (seed : List Int) (b : Nat) (M : Int → Int → Option (List Int)) (v : Value) (D : List (Int × Int)) (L : List Ep) (w : World)
def RTo (w' : World) (L' : List Ep) : Prop := ∃ M' v' D', RingAt w' base H own seed b M' v' D' ∧ LinkR M' D' L' ∧ Turn (ringP H b v) w w' ∧ (v'.ownBlock = v.ownBlock ∨ ∃ g, v'.ownBlock = some g ∧ w.heap.size ≤ g)
theorem RTo.same (hR : RingAt w base H own seed b M v D) (hL : LinkR M D L) {w' : World} (h : Below w.heap.size w w') : RTo base H own seed b v w w' L := ⟨M, v, D, hR.far h, hL, Turn.of_below h, .inl rfl⟩
theorem bUnw_any (f : Int) (E : Wp) (hR : RingAt w base H own seed b M v D) (hL : LinkR M D L) (ho : okD E.ea E.es) (hd48 : E.data.length = 48) (hdB : ∀ x ∈ E.data, isB x) (hKT : S.KTab w) (hbase : base ≤ w.heap.size) :
    Calls Tryz.prog 14 #[.pointer (some ⟨H, 0, none⟩), .int .u8 f, .agg E.cells.toArray] w fun e w' => e = .returned (.int .i64 (unwN own seed L f E)) ∧ RTo base H own seed b v w w' (unwL own seed L f E) := by
 unfold unwN unwL
 by_cases h8 : 8 ≤ f
 · rw [if_pos h8, if_pos h8]
   have hE : refuseE own f = 2 := by unfold refuseE; rw [if_pos h8]
   exact (unw_no base H own seed b M v D w f E hR (by rw [hE]; decide)).mono fun e w' ⟨h1, h2⟩ => ⟨by rw [h1, hE], RTo.same base H own seed b M v D L w hR hL h2⟩
 rw [if_neg h8, if_neg h8]
 by_cases hoo : f = own ∨ E.too ≠ own
 · rw [if_pos hoo, if_pos hoo]
   by_cases hfo : f = own
   · have hE : refuseE own f = 12 := by unfold refuseE; rw [if_neg h8, if_pos hfo]
     exact (unw_no base H own seed b M v D w f E hR (by rw [hE]; decide)).mono fun e w' ⟨h1, h2⟩ => ⟨by rw [h1, hE], RTo.same base H own seed b M v D L w hR hL h2⟩
   · have hE : refuseE own f = 0 := by unfold refuseE; rw [if_neg h8, if_neg hfo]
     exact (unw_own base H own seed b M v D w f E hR hE (hoo.resolve_left hfo)).mono fun e w' ⟨h1, h2⟩ => ⟨h1, RTo.same base H own seed b M v D L w hR hL h2⟩
 rw [if_neg hoo, if_neg hoo]
 have hfo : ¬ f = own := fun e => hoo (.inl e)
 have hto : E.too = own := Classical.byContradiction fun e => hoo (.inr e)
 have hE : refuseE own f = 0 := by unfold refuseE; rw [if_neg h8, if_neg hfo]
 by_cases hm : (keyE L E.ea E.es).isSome = true
 · rw [if_pos hm, if_pos hm]
   exact (unw_known base H own seed b M v D w f E hR ho hE hto (by rw [hL.key]; exact hm)).mono fun e w' ⟨h1, h2⟩ => ⟨h1, RTo.same base H own seed b M v D L w hR hL h2⟩
 · rw [if_neg hm, if_neg hm]
   have hm2 : (M E.ea E.es).isSome = false := by rw [hL.key]; simpa using hm
   have hn : keyE L E.ea E.es = none := by simpa using hm
   by_cases ht : unwT own seed f E
   · rw [if_pos ht, if_pos ht]
     by_cases hl : 16 ≤ L.length
     · refine (unw_full base H own seed b M v D w f E hR ho hd48 hdB hE hto hm2 hKT ht (by rw [hL.len]; exact hl)).mono fun e w' ⟨h1, h2⟩ => ⟨by rw [h1]; unfold addN; rw [if_neg hm, if_pos hl], ?_⟩
       unfold addE
       rw [if_pos (.inr hl)]
       exact RTo.same base H own seed b M v D L w hR hL h2
     · refine (unw_ok base H own seed b M v D w f E hR ho hd48 hdB hE hto hm2 hKT ht (by rw [hL.len]; omega) hbase).mono fun e w' ⟨h1, v', h2, h3, h4⟩ => ⟨by rw [h1]; unfold addN; rw [if_neg hm, if_neg hl], _, v', _, h2, ?_, h3, h4⟩
       unfold addE
       rw [if_neg (fun q => by rcases q with q | q; exact hm q; exact hl q)]
       exact hL.put _ _ _ hn (xorL_in _ _ _ _ (fun x hx => hdB x (List.mem_of_mem_take hx)))
   · rw [if_neg ht, if_neg ht]
     exact (unw_bad base H own seed b M v D w f E hR ho hd48 hdB hE hto hm2 hKT ht).mono fun e w' ⟨h1, h2⟩ => ⟨h1, RTo.same base H own seed b M v D L w hR hL h2⟩
end
section
variable {base H O : Nat} {own : Int} {seed : List Int} {b : Nat} {M : Int → Int → Option (List Int)} {v : Value} {D : List (Int × Int)} {u : Value} {L : List Ep} {w : World}
theorem BothR.far (h : BothR w base H O own seed b M v D u L) {w' : World} (hb : Below w.heap.size w w') : BothR w' base H O own seed b M v D u L := ⟨h.ring.far hb, h.ref.far hb, h.link, h.apart⟩
theorem BothR.refAfter (h : BothR w base H O own seed b M v D u L) {w1 : World} (ht : Turn (ringP H b v) w w1) : RRing w1 base O own seed u L := h.ref.congr fun g hg => ht.block g (h.ref.inside g hg).1 (fun q => h.apart g q hg)
theorem BothR.step (h : BothR w base H O own seed b M v D u L) (hbase : base ≤ w.heap.size) {w1 w2 : World} {L' : List Ep} {u' : Value} (h1 : RTo base H own seed b v w w1 L') (h2 : RRTo w1 w2 base O own seed u u' L') :
    (∃ M' v' D', BothR w2 base H O own seed b M' v' D' u' L') ∧ Below base w w2 := by
 obtain ⟨M', v', D', hr, hl, ht, hv⟩ := h1
 have hin : ∀ g, ringP H b v' g → ringP H b v g ∨ w.heap.size ≤ g := fun g hg => by
  rcases hg with e | e | e
  · exact .inl (.inl e)
  · exact .inl (.inr (.inl e))
  · rcases hv with q | ⟨g', q, hg'⟩
    · exact .inl (.inr (.inr (q ▸ e)))
    · rw [q] at e; injection e with e; subst e; exact .inr hg'
 have hap1 : ∀ g, ringP H b v' g → ¬ rrB O u g := fun g hg hq => by
  rcases hin g hg with q | q
  · exact h.apart g q hq
  · have := (h.ref.inside g hq).1; omega
 have hr2 : RingAt w2 base H own seed b M' v' D' := hr.turn h2.turn hap1
 refine ⟨⟨M', v', D', hr2, h2.at_, hl, fun g hg hq => ?_⟩, ?_⟩
 · rcases hq with e | e
   · exact hap1 g hg (.inl e)
   · rcases h2.own with q | ⟨g', q, hg'⟩
     · exact hap1 g hg (.inr (q ▸ e))
     · rw [q] at e; injection e with e; subst e
       have := (hr.inside g' hg).1; omega
 · have hb1 : Below base w w1 := ht.below hbase (fun k hk => (h.ring.inside k hk).2)
   have hb2 : Below base w1 w2 := h2.turn.below (Nat.le_trans hbase hb1.size) (fun k hk => (h.ref.inside k hk).2)
   exact hb1.trans hb2
end
open Go.ChangeShapes Go.WideShapes Go.ChangeAt Go.RowKit
theorem own : ownKnob Tryz.prog.godebug = none := by kernel_rfl
theorem laidOut : laidOutB Tryz.prog = true := by kernel_rfl
theorem cellsU8 : Tryz.prog.cellsOf 5 = 1 := by kernel_rfl
theorem open_row {H : Type} {enc : TypeId × Value → H} {P : Program} {W : World} {r : Reach} {base n : Nat} {t e : TypeId} {k : IntKind} {v : Value} {d : DataW H} {p : List MemPlace} (hu : P.underlying t = some (.array n e)) (he : P.underlying e = some (.int k)) (hce : P.cellsOf e = 1) (hct : P.cellsOf t = n)
    (hv : Value.okWide P W r base t v) (h : DataW.Trod enc P W 0 (fun _ => true) true t v d p) :
    ∃ l : List Int, l.length = n ∧ v = .agg (row k l) ∧ ∀ x ∈ l, (Lit.int k x).wf = true := by
 simp only [Value.okWide, hu] at hv
 obtain ⟨cs, rfl, hsz, _⟩ := hv
 rw [hct] at hsz
 obtain ⟨fuel, hf⟩ := h
 obtain ⟨xs, m, _, _, _, hlen, hel⟩ := DataW.trod_array hu hf
 simp only [Value.cells, hce, Nat.mul_one] at hel
 have key : ∀ i (hi : i < cs.size), cs[i] = .int k (intOf cs[i]) ∧ (Lit.int k (intOf cs[i])).wf = true := fun i hi => by
  have h1 := hel i (by omega)
  rw [List.getElem?_eq_getElem (by omega)] at h1
  obtain ⟨a, ea, _, wa⟩ := DataW.trod_int he h1
  have e1 : (cs.toList.drop i).take 1 = [cs[i]] := by
   rw [List.drop_eq_getElem_cons (by simpa using hi)]; simp
  rw [e1] at ea
  have e2 : cs[i] = .int k a := by simpa using ea
  rw [e2]
  exact ⟨rfl, wa⟩
 refine ⟨cs.toList.map intOf, by simp [hsz], ?_, ?_⟩
 · congr 1
   apply Array.ext (by simp [row])
   intro i h1 h2
   have := (key i h1).1
   simp only [row, List.map_map, gA, List.getElem_map, Function.comp, Array.getElem_toList]
   exact this
 · intro x hx
   obtain ⟨c, hc, rfl⟩ := List.mem_map.1 hx
   obtain ⟨i, hi, rfl⟩ := List.mem_iff_getElem.1 hc
   have := (key i (by simpa using hi)).2
   simpa using this
noncomputable def laidWorld (os : Os) : World := World.holding Tryz.prog os ⟨#[], #[], []⟩
theorem row_of_trod5 {H : Type} {enc : TypeId × Value → H} {P : Program} {W : World} {n fuel : Nat} {t e : TypeId} {k : IntKind} {cs : List Value} {x : DataW H × List MemPlace} (hu : P.underlying t = some (.array n e)) (he : P.underlying e = some (.int k)) (hce : P.cellsOf e = 1)
    (hsz : cs.length = n) (h : DataW.trod enc P W 0 (fun _ => true) true fuel t cs = some x) :
    ∃ l : List Int, l.length = n ∧ cs = l.map (Value.int k) ∧ ∀ x ∈ l, (Lit.int k x).wf = true := by
 obtain ⟨xs, m, _, _, _, hlen, hel⟩ := DataW.trod_array hu h
 simp only [hce, Nat.mul_one] at hel
 have key : ∀ i (hi : i < cs.length), cs[i] = .int k (intOf cs[i]) ∧ (Lit.int k (intOf cs[i])).wf = true := fun i hi => by
  have h1 := hel i (by omega)
  rw [List.getElem?_eq_getElem (by omega)] at h1
  obtain ⟨a, ea, _, wa⟩ := DataW.trod_int he h1
  have e1 : (cs.drop i).take 1 = [cs[i]] := by
   rw [List.drop_eq_getElem_cons hi, List.take_succ_cons, List.take_zero]
  rw [e1] at ea
  have e2 : cs[i] = .int k a := by simpa using ea
  rw [e2]
  exact ⟨rfl, wa⟩
 refine ⟨cs.map intOf, by simp [hsz], ?_, ?_⟩
 · apply List.ext_getElem (by simp)
   intro i h1 h2
   have := (key i h1).1
   simp only [List.map_map, List.getElem_map, Function.comp]
   exact this
 · intro x hx
   obtain ⟨c, hc, rfl⟩ := List.mem_map.1 hx
   obtain ⟨i, hi, rfl⟩ := List.mem_iff_getElem.1 hc
   exact (key i hi).2
section
variable {H : Type} {enc : TypeId × Value → H} {W : World} {fuel : Nat} {cs : List Value} {x : DataW H × List MemPlace}
theorem dot_of_trodK (h : DataW.trod enc Tryz.prog W 0 (fun _ => true) true fuel 33 cs = some x) : ∃ a s, cs = dotC a s ∧ (0 ≤ a ∧ a ≤ 255) ∧ 0 ≤ s ∧ s ≤ 4294967295 := by
 obtain ⟨xs, m, _, _, hl, hlen, hfd⟩ := DataW.trod_struct Tryz.underlying33 h
 have hc : Tryz.prog.cellsOf 33 = 2 := by kernel_rfl
 have h8 : Tryz.prog.cellsOf 5 = 1 := by kernel_rfl
 have h32 : Tryz.prog.cellsOf 31 = 1 := by kernel_rfl
 rw [hc] at hl
 have g0 : DataW.trod enc Tryz.prog W 0 (fun _ => true) true m 5 (List.take (Tryz.prog.cellsOf 5) (List.drop 0 cs)) = xs[0]? := hfd 0 _ rfl
 have g1 : DataW.trod enc Tryz.prog W 0 (fun _ => true) true m 31 (List.take (Tryz.prog.cellsOf 31) (List.drop 1 cs)) = xs[1]? := hfd 1 _ rfl
 simp only [List.size_toArray, List.length_cons, List.length_nil, Nat.reduceAdd] at hlen
 rw [h8, List.getElem?_eq_getElem (by omega)] at g0
 rw [h32, List.getElem?_eq_getElem (by omega)] at g1
 obtain ⟨a, ea, _, wa⟩ := DataW.trod_int Tryz.underlying5 g0
 obtain ⟨s, es, _, ws⟩ := DataW.trod_int Tryz.underlying31 g1
 match cs, hl with
 | [c, d], _ =>
  simp at ea es
  subst ea es
  exact ⟨a, s, rfl, bounds_u8 wa, bounds_u32 ws⟩
theorem wrap_of_trodK (h : DataW.trod enc Tryz.prog W 0 (fun _ => true) true fuel 36 cs = some x) : ∃ e : Wp, cs = e.cells ∧ e.data.length = 48 ∧ okD e.ea e.es ∧ (0 ≤ e.too ∧ e.too ≤ 255) ∧ ∀ v ∈ e.data, isB v := by
 obtain ⟨xs, m, _, _, hl, hlen, hfd⟩ := DataW.trod_struct Tryz.underlying36 h
 have hc : Tryz.prog.cellsOf 36 = 51 := by kernel_rfl
 have h8 : Tryz.prog.cellsOf 5 = 1 := by kernel_rfl
 have hd : Tryz.prog.cellsOf 33 = 2 := by kernel_rfl
 have h48 : Tryz.prog.cellsOf 34 = 48 := by kernel_rfl
 rw [hc] at hl
 have g0 : DataW.trod enc Tryz.prog W 0 (fun _ => true) true m 5 (List.take (Tryz.prog.cellsOf 5) (List.drop 0 cs)) = xs[0]? := hfd 0 _ rfl
 have g1 : DataW.trod enc Tryz.prog W 0 (fun _ => true) true m 33 (List.take (Tryz.prog.cellsOf 33) (List.drop 1 cs)) = xs[1]? := hfd 1 _ rfl
 have g2 : DataW.trod enc Tryz.prog W 0 (fun _ => true) true m 34 (List.take (Tryz.prog.cellsOf 34) (List.drop 3 cs)) = xs[2]? := hfd 2 _ rfl
 simp only [List.size_toArray, List.length_cons, List.length_nil, Nat.reduceAdd] at hlen
 rw [h8, List.getElem?_eq_getElem (by omega)] at g0
 rw [hd, List.getElem?_eq_getElem (by omega)] at g1
 rw [h48, List.getElem?_eq_getElem (by omega)] at g2
 obtain ⟨a, ea, _, wa⟩ := DataW.trod_int Tryz.underlying5 g0
 obtain ⟨da, dsq, ed, wd⟩ := dot_of_trodK g1
 obtain ⟨l, hll, el, wl⟩ := row_of_trod5 Tryz.underlying34 Tryz.underlying5 (by kernel_rfl) (by simp [hl]) g2
 refine ⟨⟨a, da, dsq, l⟩, ?_, hll, wd, bounds_u8 wa, fun v hv => bounds_u8 (wl v hv)⟩
 show cs = [.int .u8 a] ++ dotC da dsq ++ l.map (Value.int .u8)
 rw [← ea, ← ed, ← el, List.drop_zero]
 have h1 : cs.take 1 ++ (cs.drop 1).take 2 = cs.take 3 := by rw [← List.take_add]
 rw [h1, List.take_of_length_le (l := cs.drop 3) (by rw [List.length_drop, hl]; decide), List.take_append_drop]
end
structure Deed where
 kind : Int
 ea : Int
 es : Int
 k : List Int
 from_ : Int
 w : Wp
def Deed.cells (d : Deed) : List Value := [.int .i64 d.kind] ++ dotC d.ea d.es ++ d.k.map (Value.int .u8) ++ [.int .u8 d.from_] ++ d.w.cells
structure Deed.Ok (d : Deed) : Prop where
 k32 : d.k.length = 32
 dot : okD d.ea d.es
 kB : ∀ v ∈ d.k, isB v
 fromB : 0 ≤ d.from_ ∧ d.from_ ≤ 255
 w48 : d.w.data.length = 48
 wdot : okD d.w.ea d.w.es
 wto : 0 ≤ d.w.too ∧ d.w.too ≤ 255
 wB : ∀ v ∈ d.w.data, isB v
theorem deed_of_trod {H : Type} {enc : TypeId × Value → H} {W : World} {fuel : Nat} {cs : List Value} {x : DataW H × List MemPlace} (h : DataW.trod enc Tryz.prog W 0 (fun _ => true) true fuel 38 cs = some x) : ∃ d : Deed, cs = d.cells ∧ d.Ok := by
 obtain ⟨xs, m, _, _, hl, hlen, hfd⟩ := DataW.trod_struct Tryz.underlying38 h
 have hc : Tryz.prog.cellsOf 38 = 87 := by kernel_rfl
 have hi : Tryz.prog.cellsOf 3 = 1 := by kernel_rfl
 have h8 : Tryz.prog.cellsOf 5 = 1 := by kernel_rfl
 have hd : Tryz.prog.cellsOf 33 = 2 := by kernel_rfl
 have hk : Tryz.prog.cellsOf 23 = 32 := by kernel_rfl
 have hw : Tryz.prog.cellsOf 36 = 51 := by kernel_rfl
 rw [hc] at hl
 have g0 : DataW.trod enc Tryz.prog W 0 (fun _ => true) true m 3 (List.take (Tryz.prog.cellsOf 3) (List.drop 0 cs)) = xs[0]? := hfd 0 _ rfl
 have g1 : DataW.trod enc Tryz.prog W 0 (fun _ => true) true m 33 (List.take (Tryz.prog.cellsOf 33) (List.drop 1 cs)) = xs[1]? := hfd 1 _ rfl
 have g2 : DataW.trod enc Tryz.prog W 0 (fun _ => true) true m 23 (List.take (Tryz.prog.cellsOf 23) (List.drop 3 cs)) = xs[2]? := hfd 2 _ rfl
 have g3 : DataW.trod enc Tryz.prog W 0 (fun _ => true) true m 5 (List.take (Tryz.prog.cellsOf 5) (List.drop 35 cs)) = xs[3]? := hfd 3 _ rfl
 have g4 : DataW.trod enc Tryz.prog W 0 (fun _ => true) true m 36 (List.take (Tryz.prog.cellsOf 36) (List.drop 36 cs)) = xs[4]? := hfd 4 _ rfl
 simp only [List.size_toArray, List.length_cons, List.length_nil, Nat.reduceAdd] at hlen
 rw [hi, List.getElem?_eq_getElem (by omega)] at g0
 rw [hd, List.getElem?_eq_getElem (by omega)] at g1
 rw [hk, List.getElem?_eq_getElem (by omega)] at g2
 rw [h8, List.getElem?_eq_getElem (by omega)] at g3
 rw [hw, List.getElem?_eq_getElem (by omega)] at g4
 obtain ⟨a, ea, _, wa⟩ := DataW.trod_int Tryz.underlying3 g0
 obtain ⟨da, dsq, ed, wd⟩ := dot_of_trodK g1
 obtain ⟨l, hll, el, wl⟩ := row_of_trod5 Tryz.underlying23 Tryz.underlying5 (by kernel_rfl) (by simp [hl]) g2
 obtain ⟨f, ef, _, wf⟩ := DataW.trod_int Tryz.underlying5 g3
 obtain ⟨e, ee, e48, edot, eto, eB⟩ := wrap_of_trodK g4
 refine ⟨⟨a, da, dsq, l, f, e⟩, ?_, ⟨hll, wd, fun v hv => bounds_u8 (wl v hv), bounds_u8 wf, e48, edot, eto, eB⟩⟩
 show cs = [.int .i64 a] ++ dotC da dsq ++ l.map (Value.int .u8) ++ [.int .u8 f] ++ e.cells
 rw [← ea, ← ed, ← el, ← ef, ← ee, List.drop_zero]
 have h1 : cs.take 1 ++ (cs.drop 1).take 2 = cs.take 3 := by rw [← List.take_add]
 have h2 : cs.take 3 ++ (cs.drop 3).take 32 = cs.take 35 := by rw [← List.take_add]
 have h3 : cs.take 35 ++ (cs.drop 35).take 1 = cs.take 36 := by rw [← List.take_add]
 rw [h1, h2, h3, List.take_of_length_le (l := cs.drop 36) (by rw [List.length_drop, hl]; decide), List.take_append_drop]
end Go.Proofs.YtflkhkmejnpapaaGreatDoor
