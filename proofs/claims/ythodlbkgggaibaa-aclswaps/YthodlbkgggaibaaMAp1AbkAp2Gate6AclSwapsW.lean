/- acl: what one event more changes, pure. acl: another book with the same. acl: two that are written in the other order, pure; two events that came in. Gate: two or three operations that may come up, with what holds all the while. AclSwaps, walked. (Written by mkswaps.py.) -/
import Derived.Test.YthodlbkgggaibaaRk6
import Derived.Shelf.SlMaps.Clone
import Derived.Test.YthodlbkgggaibaaAb10
import Derived.Test.YthodlbkgggaibaaGate3
namespace Go.Proofs.Ythodlbkgggaibaa
open Go.RowKit Go.Shelf
set_option maxRecDepth 20000
set_option linter.unusedSimpArgs false
theorem roleP_told {L M : List Ent} {who : Int} {v : List Int} (h : toldL L who v = toldL M who v) : roleP L who v = roleP M who v := by unfold roleP; rw [h]
theorem members_told {L M : List Ent} {v : List Int} (h : ∀ who, toldL L who v = toldL M who v) : membersL L v = membersL M v := by
  unfold membersL
  exact List.map_congr_left fun i _ => roleP_told (h _)
theorem addB_eq (L : List Ent) (e : Ev) : addB L e = L ∨ (refB L e = 0 ∧ addB L e = L ++ [(e, roleP L e.da e.past == 3)]) := by
  unfold addB
  split
  · rename_i h; exact .inr ⟨h, rfl⟩
  · exact .inl rfl
/-- What is not seen by a vector changes no role by it. -/
theorem later_same (L : List Ent) (e : Ev) (v : List Int) (h : hasB v e.da e.ds = false) : membersL (addB L e) v = membersL L v := by
  refine members_told fun who => ?_
  rcases addB_eq L e with q | ⟨_, q⟩
  · rw [q]
  · rw [q, toldL_app]
    unfold tellB
    rw [h]; simp
theorem refB_none {L : List Ent} {e : Ev} (h : refB L e = 0) : lookB L e.dot = none ∧ rightB e = true ∧ (e.kind = 3 ∨ e.kind = 4) := by
  unfold refB at h
  split at h
  · cases h
  · rename_i h1
    split at h
    · cases h
    · rename_i h2
      split at h
      · cases h
      · rename_i hs
        exact ⟨by simpa using hs, by simpa using h1, by omega⟩
theorem cntB_add (L : List Ent) (e : Ev) (h : refB L e = 0) : cntB (addB L e) (e.da, e.ds) = (roleP L e.da e.past == 3) := by
  unfold addB
  rw [if_pos h]
  unfold cntB
  rw [lookB_app _ (refB_none h).1, if_pos (show (e.da, e.ds) = (e, roleP L e.da e.past == 3).fst.dot from rfl)]
/-- What an author who was no admin writes changes no role. -/
theorem noadmin_same (L : List Ent) (e : Ev) (v : List Int) (h : refB L e = 0) (hr : roleP L e.da e.past ≠ 3) : membersL (addB L e) v = membersL L v := by
  refine members_told fun who => ?_
  unfold addB
  rw [if_pos h, toldL_app]
  have : (roleP L e.da e.past == 3) = false := by simpa using hr
  simp [this]
/-- What a revoke that counts, and that saw all else, takes away. -/
theorem taken_none (L : List Ent) (hG : GoodB L) (e : Ev) (he : e.Ok) (h : refB L e = 0) (hk : e.kind = 4) (hc : (roleP L e.da e.past == 3) = true) (hs : ∀ y ∈ L, hasB y.1.past e.da e.ds = false) (n : Nat) (hn : e.da = n) :
    roleP (addB L e) e.who (e.past.set n (e.past[n]?.getD 0 + 1)) = 0 := by
  obtain ⟨_, hr, hkk⟩ := refB_none h
  have hgr := good_role hr hkk
  have hd := (Bool.and_eq_true_iff.1 hr).1
  unfold rightDotB at hd
  simp only [Bool.and_eq_true, decide_eq_true_eq, Bool.not_eq_true', beq_eq_false_iff_ne, beq_iff_eq] at hd
  obtain ⟨h8, h0, hm, hp, _⟩ := hd
  have hn8 : n < 8 := by omega
  have hpn : e.past[n]?.getD 0 = e.ds - 1 := by rw [← hp, hn]; rfl
  have hds := he.dot.2.1
  have hG2 := hG.add e he
  have hself : hasB e.past e.da e.ds = false := by
    unfold hasB
    rw [hn, Int.toNat_natCast, hpn]
    have : ¬ e.ds ≤ e.ds - 1 := by omega
    simp [this]
  have hsee : hasB (e.past.set n (e.past[n]?.getD 0 + 1)) e.da e.ds = true := by
    unfold hasB
    rw [hn, Int.toNat_natCast, List.getElem?_set_self (by rw [he.past]; exact hn8), hpn]
    simp
    omega
  have hadd : addB L e = L ++ [(e, true)] := by unfold addB; rw [if_pos h, hc]
  have hmem : e ∈ toldL (addB L e) e.who (e.past.set n (e.past[n]?.getD 0 + 1)) := by
    rw [hadd, toldL_app]
    have : ((e, true).snd && tellB e.who (e.past.set n (e.past[n]?.getD 0 + 1)) (e, true).fst) = true := by
      unfold tellB
      rw [hsee]; simp
    rw [if_pos this]; simp
  refine roleP_zero (addB L e) hG2 e.who _ (by omega) e hmem ?_ hk
  unfold lastQ
  rw [Bool.not_eq_true', List.any_eq_false]
  intro y hy
  unfold toldL at hy
  obtain ⟨z, hz, rfl⟩ := List.mem_map.1 hy
  have hz := (List.mem_filter.1 hz).1
  rw [hadd] at hz
  rcases List.mem_append.1 hz with q | q
  · rw [hs z q]; decide
  · rw [List.mem_singleton.1 q, hself]; decide
end Go.Proofs.Ythodlbkgggaibaa

namespace Go.Proofs.Ythodlbkgggaibaa
open Go.RowKit Go.Shelf
set_option maxRecDepth 20000
set_option linter.unusedSimpArgs false
theorem mapDotEnt : Try.prog.underlying 69 = some (.map 38 68) := by kernel_rfl
set_option maxHeartbeats 4000000 in
theorem aClone_any (b : Nat) (L : List Ent) (w : World) (hW : BookAt w b L) :
    Calls Try.prog 38 #[.map (some b)] w fun e w' => e = .returned (.map (some w.heap.size)) ∧ BookAt w' w.heap.size L ∧ Below w.heap.size w w' := by
  obtain ⟨D, ⟨es, clock, hb, hrest⟩, hD⟩ := hW
  have hq := fun w => run_eql_map_nil_sl (P := Try.prog) w 69 _ _ (some b) mapDotEnt
  go_enter Try.func38, Try.ntmps38
  go_wp2
  rw [run_callFunc_extern Try.func45 (by kernel_rfl) (by kernel_rfl) (by kernel_rfl) (e := Extern.MapsClone.clone) (by kernel_rfl), run_maps_clone_sl w 69 hb]
  simp only [Result.andThen]
  rw [Oper.upon_value]
  go_wp2
  rw [run_typeAssert_map_sl _ 69 _ _ _ _ mapDotEnt]
  simp only [Result.andThen]
  rw [Oper.upon_value]
  go_wp2
  go_ret
  exact ⟨rfl, ⟨D, ⟨es, clock, heap_alloc_new w _, hrest⟩, hD⟩, (Below.refl _ _).alloc (Nat.le_refl _) _⟩
set_option maxHeartbeats 4000000 in
theorem abfork_any (H b : Nat) (L : List Ent) (w : World) (hC : BookC w H b L) :
    Calls Try.prog 22 #[.pointer (some ⟨H, 0, none⟩)] w fun e w' => ∃ H' b', e = .returned (.pointer (some ⟨H', 0, none⟩)) ∧ BookC w' H' b' L ∧ Below w.heap.size w w' ∧ w.heap.size ≤ H' ∧ w.heap.size ≤ b' := by
  have cM := hC.mapCell
  have hcl := aClone_any b L w hC.map
  have HE : Veil (∀ w1, BookAt w1 w.heap.size L → Below w.heap.size w w1 → BookC (w1.alloc (.cells #[.map (some w.heap.size)] 71)) w1.heap.size w.heap.size L ∧ Below w.heap.size w (w1.alloc (.cells #[.map (some w.heap.size)] 71)) ∧ w.heap.size ≤ w1.heap.size) := ⟨fun w1 hM hb => ⟨⟨CellsAt.new w1 71 [.map (some w.heap.size)], hM.congr (Below.heap_alloc _ _ _ hM.lt)⟩, hb.alloc hb.size _, hb.size⟩⟩
  clear hC
  go_enter Try.func22, Try.ntmps22
  go_wp2_with (go_at_call 38; refine hcl.mono ?_; rintro e w1 ⟨rfl, hM1, hb1⟩)
  go_ret
  obtain ⟨h1, h2, h3⟩ := HE.out w1 hM1 hb1
  exact ⟨_, _, rfl, h1, h2, h3, Nat.le_refl _⟩
end Go.Proofs.Ythodlbkgggaibaa

namespace Go.Proofs.Ythodlbkgggaibaa
open Go.RowKit Go.Shelf
set_option maxRecDepth 20000
set_option linter.unusedSimpArgs false
theorem roleP_perm {L M : List Ent} (h : L.Perm M) (who : Int) (v : List Int) : roleP L who v = roleP M who v := by
  unfold roleP
  rw [leastL_perm (lastL_perm (toldL_perm h who v))]
theorem members_perm {L M : List Ent} (h : L.Perm M) (v : List Int) : membersL L v = membersL M v := by
  unfold membersL
  exact List.map_congr_left fun i _ => roleP_perm h _ v
theorem lookB_append (A C : List Ent) (d : Int × Int) : lookB (A ++ C) d = (lookB A d).or (lookB C d) := by unfold lookB; rw [List.find?_append]
def oneB (L : List Ent) (e : Ev) : List Ent := if refB L e = 0 then [(e, roleP L e.da e.past == 3)] else []
theorem addB_one (L : List Ent) (e : Ev) : addB L e = L ++ oneB L e := by
  unfold addB oneB
  split <;> simp
theorem oneB_look (L : List Ent) (e : Ev) (d : Int × Int) (h : e.dot ≠ d) : lookB (oneB L e) d = none := by
  unfold oneB
  split
  · exact lookB_none.2 fun x hx => by rw [List.mem_singleton.1 hx]; exact h
  · rfl
theorem oneB_len (L : List Ent) (e : Ev) : (oneB L e).length ≤ 1 := by unfold oneB; split <;> simp
/-- What an event is, where it is written in, does not hang on one that it did not see. -/
theorem oneB_same (L : List Ent) (x y : Ev) (hs : hasB x.past y.da y.ds = false) (hd : y.dot ≠ x.dot) (hL : L.length ≤ 500) : oneB (addB L y) x = oneB L x := by
  have hr : roleP (addB L y) x.da x.past = roleP L x.da x.past := by
    refine roleP_told ?_
    rcases addB_eq L y with q | ⟨_, q⟩
    · rw [q]
    · rw [q, toldL_app]
      unfold tellB
      rw [hs]; simp
  have hl : (lookB (addB L y) x.dot).isSome = (lookB L x.dot).isSome := by rw [addB_one, lookB_append, oneB_look L y _ hd, Option.or_none]
  have hn : (512 ≤ (addB L y).length) = (512 ≤ L.length) := by
    have h1 : (addB L y).length ≤ L.length + 1 := addB_len L y
    rw [eq_iff_iff]
    constructor <;> intro h <;> omega
  have hrf : refB (addB L y) x = refB L x := by
    unfold refB
    rw [hl]
    simp only [hn]
  unfold oneB
  rw [hrf, hr]
theorem swap_same (L : List Ent) (x y : Ev) (h1 : hasB y.past x.da x.ds = false) (h2 : hasB x.past y.da y.ds = false) (hd : x.dot ≠ y.dot) (hL : L.length ≤ 500) :
    (addB (addB L x) y).Perm (addB (addB L y) x) ∧ cntB (addB (addB L x) y) x.dot = cntB (addB (addB L y) x) x.dot ∧ cntB (addB (addB L x) y) y.dot = cntB (addB (addB L y) x) y.dot := by
  have e1 : addB (addB L x) y = L ++ oneB L x ++ oneB L y := by rw [addB_one (addB L x) y, oneB_same L y x h1 hd hL, addB_one L x]
  have e2 : addB (addB L y) x = L ++ oneB L y ++ oneB L x := by rw [addB_one (addB L y) x, oneB_same L x y h2 (Ne.symm hd) hL, addB_one L y]
  rw [e1, e2]
  refine ⟨?_, ?_, ?_⟩
  · rw [List.append_assoc, List.append_assoc]
    exact List.Perm.append_left L List.perm_append_comm
  · unfold cntB
    rw [lookB_append, lookB_append, lookB_append, lookB_append, oneB_look L y _ (Ne.symm hd), Option.or_none, Option.or_none]
  · unfold cntB
    rw [lookB_append, lookB_append, lookB_append, lookB_append, oneB_look L x _ hd, Option.or_none, Option.or_none]
end Go.Proofs.Ythodlbkgggaibaa

namespace Go.Proofs.Ythodlbkgggaibaa
open Go Go.RowKit

section
variable {P : Program} {ops : Array Oper} {Q : Exit → Act → World → Prop} {md : Region.Mode} {T S : World → Prop} {D : Nat}
theorem wpAnyT_two {i j : Nat} {oi oj : Oper} {fuel : Nat} {listed : Array Bool} {a : Act} {w : World} (hi : ops[i]? = some oi) (hj : ops[j]? = some oj) (hr : Region.ready md ops listed = [i, j])
    (hwi : Region.wanted oi (yielded ops a.tmps) = true) (hwj : Region.wanted oj (yielded ops a.tmps) = true)
    (h1 : ∀ K' : Act → World → Prop, Shut (∀ a w, T w → ((listed.setIfInBounds i true).getD D true = false → S w) → wpAnyT P md ops Q T S D fuel (listed.setIfInBounds i true) a w → K' a w) → Oper.wp P oi a w K' Q)
    (h2 : ∀ K' : Act → World → Prop, Shut (∀ a w, T w → ((listed.setIfInBounds j true).getD D true = false → S w) → wpAnyT P md ops Q T S D fuel (listed.setIfInBounds j true) a w → K' a w) → Oper.wp P oj a w K' Q) : wpAnyT P md ops Q T S D (fuel + 1) listed a w :=
  ⟨fun h0 => (by rw [hr] at h0; cases h0), fun q hq => by
    rw [hr] at hq
    rcases List.mem_cons.1 hq with rfl | hq
    · refine wpOp_step hi (fun K' hK => ?_)
      rw [if_pos hwi]
      exact h1 K' (fun a w h0 h1 h2 => hK a w ⟨⟨h0, h1⟩, h2⟩)
    · obtain rfl : q = j := by simpa using hq
      refine wpOp_step hj (fun K' hK => ?_)
      rw [if_pos hwj]
      exact h2 K' (fun a w h0 h1 h2 => hK a w ⟨⟨h0, h1⟩, h2⟩)⟩
theorem wpAnyT_three {i j l : Nat} {oi oj ol : Oper} {fuel : Nat} {listed : Array Bool} {a : Act} {w : World} (hi : ops[i]? = some oi) (hj : ops[j]? = some oj) (hl : ops[l]? = some ol) (hr : Region.ready md ops listed = [i, j, l])
    (hwi : Region.wanted oi (yielded ops a.tmps) = true) (hwj : Region.wanted oj (yielded ops a.tmps) = true) (hwl : Region.wanted ol (yielded ops a.tmps) = true)
    (h1 : ∀ K' : Act → World → Prop, Shut (∀ a w, T w → ((listed.setIfInBounds i true).getD D true = false → S w) → wpAnyT P md ops Q T S D fuel (listed.setIfInBounds i true) a w → K' a w) → Oper.wp P oi a w K' Q)
    (h2 : ∀ K' : Act → World → Prop, Shut (∀ a w, T w → ((listed.setIfInBounds j true).getD D true = false → S w) → wpAnyT P md ops Q T S D fuel (listed.setIfInBounds j true) a w → K' a w) → Oper.wp P oj a w K' Q)
    (h3 : ∀ K' : Act → World → Prop, Shut (∀ a w, T w → ((listed.setIfInBounds l true).getD D true = false → S w) → wpAnyT P md ops Q T S D fuel (listed.setIfInBounds l true) a w → K' a w) → Oper.wp P ol a w K' Q) : wpAnyT P md ops Q T S D (fuel + 1) listed a w :=
  ⟨fun h0 => (by rw [hr] at h0; cases h0), fun q hq => by
    rw [hr] at hq
    rcases List.mem_cons.1 hq with rfl | hq
    · refine wpOp_step hi (fun K' hK => ?_)
      rw [if_pos hwi]
      exact h1 K' (fun a w h0 h1 h2 => hK a w ⟨⟨h0, h1⟩, h2⟩)
    · rcases List.mem_cons.1 hq with rfl | hq
      · refine wpOp_step hj (fun K' hK => ?_)
        rw [if_pos hwj]
        exact h2 K' (fun a w h0 h1 h2 => hK a w ⟨⟨h0, h1⟩, h2⟩)
      · obtain rfl : q = l := by simpa using hq
        refine wpOp_step hl (fun K' hK => ?_)
        rw [if_pos hwl]
        exact h3 K' (fun a w h0 h1 h2 => hK a w ⟨⟨h0, h1⟩, h2⟩)⟩
end
end Go.Proofs.Ythodlbkgggaibaa

namespace Go.Proofs.Ythodlbkgggaibaa
open Go.RowKit Go.Shelf
set_option maxRecDepth 20000
set_option linter.unusedSimpArgs false
abbrev evZs : List Value := [.int .u8 0, .int .u32 0, .int .u32 0, .int .u32 0, .int .u32 0, .int .u32 0, .int .u32 0, .int .u32 0, .int .u32 0, .int .u32 0, .int .u8 0, .int .u8 0, .int .u32 0, .bool false, .int .u8 0, .int .u8 0, .int .u8 0]
/-- Both books, the two events, and the vector, while it goes. -/
structure SwS (w W : World) (H b F fb p q : Nat) (X Y VV : List Value) (M N : List Ent) : Prop where
  code : BookC W H b M
  fork : BookC W F fb N
  cx : CellsAt W p 41 X
  cy : CellsAt W q 41 Y
  cv : CellsAt W (w.heap.size + 1) 25 VV
  bel : Below w.heap.size w W
  ne : b ≠ fb ∧ w.heap.size ≤ b ∧ w.heap.size ≤ fb
theorem SwS.far {w W W' : World} {H b F fb p q : Nat} {X Y VV : List Value} {M N : List Ent} (h : SwS w W H b F fb p q X Y VV M N) (hb : Below W.heap.size W W') : SwS w W' H b F fb p q X Y VV M N :=
  ⟨h.code.far hb, h.fork.far hb, h.cx.farM hb, h.cy.farM hb, h.cv.farM hb, h.bel.trans (hb.mono h.bel.size), h.ne⟩
theorem SwS.onB {w W W' : World} {H b F fb p q : Nat} {X Y VV : List Value} {M N M' : List Ent} (h : SwS w W H b F fb p q X Y VV M N) (hC : BookC W' H b M') (ht : Turn (fun k => k = b) W W') : SwS w W' H b F fb p q X Y VV M' N :=
  ⟨hC, h.fork.congr (ht.block _ h.fork.cells.lt (fun e => h.code.map.cellsNe h.fork.cells e.symm)) (ht.block _ h.fork.map.lt (fun e => h.ne.1 e.symm)), h.cx.congr (ht.block _ h.cx.lt (fun e => h.code.map.cellsNe h.cx e.symm)), h.cy.congr (ht.block _ h.cy.lt (fun e => h.code.map.cellsNe h.cy e.symm)), h.cv.congr (ht.block _ h.cv.lt (fun e => h.code.map.cellsNe h.cv e.symm)), h.bel.trans (ht.below h.bel.size (fun q hq => by rw [hq]; exact h.ne.2.1)), h.ne⟩
theorem SwS.onF {w W W' : World} {H b F fb p q : Nat} {X Y VV : List Value} {M N N' : List Ent} (h : SwS w W H b F fb p q X Y VV M N) (hC : BookC W' F fb N') (ht : Turn (fun k => k = fb) W W') : SwS w W' H b F fb p q X Y VV M N' :=
  ⟨h.code.congr (ht.block _ h.code.cells.lt (fun e => h.fork.map.cellsNe h.code.cells e.symm)) (ht.block _ h.code.map.lt h.ne.1), hC, h.cx.congr (ht.block _ h.cx.lt (fun e => h.fork.map.cellsNe h.cx e.symm)), h.cy.congr (ht.block _ h.cy.lt (fun e => h.fork.map.cellsNe h.cy e.symm)), h.cv.congr (ht.block _ h.cv.lt (fun e => h.fork.map.cellsNe h.cv e.symm)), h.bel.trans (ht.below h.bel.size (fun q hq => by rw [hq]; exact h.ne.2.2)), h.ne⟩
theorem ev2_fst (A C : List Value) (hA : A.length = 17) : ((A ++ C).drop 0).take 17 = A := by rw [List.drop_zero, List.take_left' hA]
theorem ev2_snd (A C : List Value) (hA : A.length = 17) (hC : C.length = 17) : ((A ++ C).drop 17).take 17 = C := by rw [List.drop_left' hA, List.take_of_length_le (by omega)]
set_option maxHeartbeats 32000000 in
theorem asw_walk (x : Option Addr) (len cap : Nat) (ds : List Ev) (e f : Ev) (v : List Int) (w : World) (hd : EvsAt w x len cap ds) (he : e.Ok) (hf : f.Ok) (hv : v.length = 8) :
    Calls Try.prog 6 #[.slice x len cap, .agg (e.cells ++ f.cells).toArray, .agg (row .u32 v)] w fun r w' => r = .returned (.bool true) ∧ Below w.heap.size w w' := by
  obtain ⟨VV, hVV⟩ : ∃ q, v.map (Value.int .u32) = q := ⟨_, rfl⟩
  have hrow : row .u32 v = VV.toArray := by rw [← hVV]; rfl
  have hB0 : Below w.heap.size w ((w.alloc (.cells (e.cells ++ f.cells).toArray 46)).alloc (.cells VV.toArray 25)) := ((Below.refl _ _).alloc (Nat.le_refl _) _).alloc (by simp) _
  have hx0 := (CellsAt.new w 46 (e.cells ++ f.cells)).alloc (.cells VV.toArray 25)
  have hy0 := CellsAt.new (w.alloc (.cells (e.cells ++ f.cells).toArray 46)) 25 VV
  rw [World.size_alloc] at hy0
  have le := aev_len e he.past
  have lf := aev_len f hf.past
  have oe := aev_one e
  have of_ := aev_one f
  have iX : (Try.prog.info? 41).map (·.size) = some e.cells.length := by rw [le]; kernel_rfl
  have iY : (Try.prog.info? 41).map (·.size) = some f.cells.length := by rw [lf]; kernel_rfl
  have iDX : (Try.prog.info? 38).map (·.size) = some (dotC e.da e.ds).length := sizeDot
  have iDY : (Try.prog.info? 38).map (·.size) = some (dotC f.da f.ds).length := sizeDot
  have iV : (Try.prog.info? 25).map (·.size) = some VV.length := by rw [← hVV, List.length_map, hv]; kernel_rfl
  have uE := Try.underlying41
  have uD := Try.underlying38
  have uV := Try.underlying25
  have hpl := aplay_any x len cap ds _ (hd.below hB0)
  have HME : Veil (∀ H b L W, BookC W H b L → Calls Try.prog 16 #[.pointer (some ⟨H, 0, none⟩), .agg VV.toArray] W fun e w' => e = .returned (.agg (row .u8 (membersL L v))) ∧ Below W.heap.size W w') := ⟨fun H b L W hC => by rw [← hrow]; exact members_any H b L v W hC hv⟩
  have HAX : Veil (∀ H b L W, BookC W H b L → L.length ≤ 1000 → Calls Try.prog 18 #[.pointer (some ⟨H, 0, none⟩), .agg e.cells.toArray] W fun r w' => r = .returned (.int .i64 (refB L e)) ∧ BookC w' H b (addB L e) ∧ Turn (fun k => k = b) W w') := ⟨fun H b L W hC hl => badd_any H b L e W hC he hl⟩
  have HAY : Veil (∀ H b L W, BookC W H b L → L.length ≤ 1000 → Calls Try.prog 18 #[.pointer (some ⟨H, 0, none⟩), .agg f.cells.toArray] W fun r w' => r = .returned (.int .i64 (refB L f)) ∧ BookC w' H b (addB L f) ∧ Turn (fun k => k = b) W w') := ⟨fun H b L W hC hl => badd_any H b L f W hC hf hl⟩
  have HCX : Veil (∀ H b L W, BookC W H b L → Calls Try.prog 23 #[.pointer (some ⟨H, 0, none⟩), .agg (dotC e.da e.ds).toArray] W fun r w' => r = .returned (.bool (cntB L e.dot)) ∧ Below W.heap.size W w') := ⟨fun H b L W hC => bcountsC H b L e.da e.ds W hC he.dot⟩
  have HCY : Veil (∀ H b L W, BookC W H b L → Calls Try.prog 23 #[.pointer (some ⟨H, 0, none⟩), .agg (dotC f.da f.ds).toArray] W fun r w' => r = .returned (.bool (cntB L f.dot)) ∧ Below W.heap.size W w') := ⟨fun H b L W hC => bcountsC H b L f.da f.ds W hC hf.dot⟩
  have HXY : Veil (∀ W, Calls Try.prog 20 #[.agg e.cells.toArray, .agg f.cells.toArray] W fun r w' => r = .returned (.bool (hasB f.past e.da e.ds)) ∧ Below W.heap.size W w') := ⟨fun W => rbefore_any e f W he.past hf.past he.dot.1.1 he.dot.2.1⟩
  have HYX : Veil (∀ W, Calls Try.prog 20 #[.agg f.cells.toArray, .agg e.cells.toArray] W fun r w' => r = .returned (.bool (hasB e.past f.da f.ds)) ∧ Below W.heap.size W w') := ⟨fun W => rbefore_any f e W hf.past he.past hf.dot.1.1 hf.dot.2.1⟩
  have heqd : ∀ wx, (Op.equalIn 10000 38 (.agg (dotC e.da e.ds).toArray) (.agg (dotC f.da f.ds).toArray)).run Try.prog wx = .ok (e.da == f.da && e.ds == f.ds) wx := fun wx => dot_eqIn 9998 _ _ _ _ wx
  have HNE : Veil ((e.da == f.da && e.ds == f.ds) = false → e.dot ≠ f.dot) := ⟨fun h q => by have := dotC_eq.1 q; rw [h] at this; cases this⟩
  have HSW : Veil (∀ L, hasB f.past e.da e.ds = false → hasB e.past f.da f.ds = false → e.dot ≠ f.dot → L.length ≤ 500 → membersL (addB (addB L e) f) v = membersL (addB (addB L f) e) v ∧ cntB (addB (addB L e) f) e.dot = cntB (addB (addB L f) e) e.dot ∧ cntB (addB (addB L e) f) f.dot = cntB (addB (addB L f) e) f.dot) := ⟨fun L h1 h2 hd hL => by
    obtain ⟨q1, q2, q3⟩ := swap_same L e f h1 h2 hd hL
    exact ⟨members_perm q1 v, q2, q3⟩⟩
  have HRX : Veil (∀ W p, CellsAt W p 41 e.cells → W.rangeAt p 0 (dotC e.da e.ds)) := ⟨fun W p hx => by
    have h1 := hx.range 0 2
    rwa [(ev_parts e he.past).1] at h1⟩
  have HRY : Veil (∀ W p, CellsAt W p 41 f.cells → W.rangeAt p 0 (dotC f.da f.ds)) := ⟨fun W p hx => by
    have h1 := hx.range 0 2
    rwa [(ev_parts f hf.past).1] at h1⟩
  have HX2 : Veil (∀ W, CellsAt W w.heap.size 46 (e.cells ++ f.cells) → W.rangeAt w.heap.size 0 e.cells ∧ W.rangeAt w.heap.size 17 f.cells) := ⟨fun W hx => by
    have h1 := hx.range 0 17
    have h2 := hx.range 17 17
    rw [ev2_fst _ _ le] at h1
    rw [ev2_snd _ _ le lf] at h2
    exact ⟨h1, h2⟩⟩
  rw [hrow]
  generalize (e.da == f.da && e.ds == f.ds) = DQ at heqd HNE
  generalize hasB f.past e.da e.ds = B1 at HXY HSW
  generalize hasB e.past f.da f.ds = B2 at HYX HSW
  generalize dotC e.da e.ds = DX at iDX HCX HRX heqd
  generalize dotC f.da f.ds = DY at iDY HCY HRY heqd
  generalize e.dot = de at HCX HNE HSW
  generalize f.dot = df at HCY HNE HSW
  obtain ⟨X, hX⟩ : ∃ q, e.cells = q := ⟨_, rfl⟩
  obtain ⟨Y, hY⟩ : ∃ q, f.cells = q := ⟨_, rfl⟩
  rw [hX] at HX2 HRX HXY HYX HAX iX oe le hx0 hy0 hB0 hpl ⊢
  rw [hY] at HX2 HRY HXY HYX HAY iY of_ lf hx0 hy0 hB0 hpl ⊢
  clear hd hrow hVV hX hY he hf hv
  go_enter Try.func6, Try.ntmps6
  go_upto_region 4 with (first
    | (go_at_call 14; refine (live9_any w1).mono ?_; rintro z w2 ⟨rfl, g2⟩)
    | (go_at_call 13; refine hpl.mono ?_; rintro z w1 ⟨H, b, R, rfl, ⟨L, hBB, -⟩, hB1⟩))
  have hx2 := (hx0.congr (hB1.block _ hx0.lt)).farM g2
  have hy2 := (hy0.congr (hB1.block _ hy0.lt)).farM g2
  have hC2 := (hBB.far g2).code
  have hB1' := hB0.trans (hB1.mono hB0.size)
  have hB2 := hB1'.trans (g2.mono hB1'.size)
  have hlow : Veil (w.heap.size ≤ b ∧ L.length ≤ 40) := ⟨by have := hBB.low.2.1; simp at this; omega, hBB.len⟩
  clear hB0 hx0 hy0 hpl hBB hB1 g2 hB1'
  have HTA : Veil (∀ W, Below w2.heap.size w2 W → W.rangeAt w.heap.size 0 X ∧ W.rangeAt w.heap.size 17 Y) := ⟨fun W hb => HX2.out W (hx2.farM hb)⟩
  have HAL : Veil (CellsAt (w2.drew.alloc (.cells evZs.toArray 41)) w2.heap.size 41 evZs ∧ Below w2.heap.size w2 (w2.drew.alloc (.cells evZs.toArray 41)) ∧ w2.heap.size < (w2.drew.alloc (.cells evZs.toArray 41)).heap.size) := ⟨CellsAt.new w2.drew 41 evZs, (Below.refl _ _).drew.alloc (Nat.le_refl _) _, by simp⟩
  have HBB2 : Veil (∀ W, Below w2.heap.size w2 W → BookC W H b L ∧ CellsAt W (w.heap.size + 1) 25 VV ∧ Below w.heap.size w W) := ⟨fun W hb => ⟨hC2.far hb, hy2.farM hb, hB2.trans (hb.mono hB2.size)⟩⟩
  clear hx2 hy2 hC2 hB2
  refine wp_region_gateT (fun w' => w'.rangeAt w.heap.size 0 X ∧ w'.rangeAt w.heap.size 17 Y) (fun _ => True) 99 (by kernel_rfl) ?_
  have hT : (fun w' : World => w'.rangeAt w.heap.size 0 X ∧ w'.rangeAt w.heap.size 17 Y) w2.drew := HTA.out w2.drew (Below.refl _ _).drew
  have hS : (fun _ : World => True) w2.drew := trivial
  refine wpAnyT_held (i := 0) (v := ?_) rfl (by kernel_rfl) (by kernel_rfl) (by kernel_rfl) (fun _ _ _ h => h) (by kernel_rfl) hT (fun _ => hS) (by kernel_rfl) ?_ ?_
  rotate_left
  · intro wx hSw; go_split_ands; go_simp; try with_reducible rfl
  simp only [Act.put, List.getElem_toArray, List.getElem_cons_succ, List.getElem_cons_zero, List.setIfInBounds_toArray, List.set_cons_zero, List.set_cons_succ]
  refine wpAnyT_load (i := 1) (dst := some 26) (ty := 41) (x := .tmp 25) (b := w.heap.size) (o := (0)) (cs := X) (by kernel_rfl) (by kernel_rfl) (by kernel_rfl) (by kernel_rfl) (by kernel_rfl) (fun _ _ _ h => h) (by kernel_rfl) hT (fun _ => hS) (by kernel_rfl) (fun _ h => h.1) uE rfl iX ?_
  simp only [Act.put, List.getElem_toArray, List.getElem_cons_succ, List.getElem_cons_zero, List.setIfInBounds_toArray, List.set_cons_zero, List.set_cons_succ]
  refine wpAnyT_held (i := 2) (v := ?_) rfl (by kernel_rfl) (by kernel_rfl) (by kernel_rfl) (fun _ _ _ h => h) (by kernel_rfl) hT (fun _ => hS) (by kernel_rfl) ?_ ?_
  rotate_left
  · intro wx hSw; go_split_ands; go_simp; try with_reducible rfl
  simp only [Act.put, List.getElem_toArray, List.getElem_cons_succ, List.getElem_cons_zero, List.setIfInBounds_toArray, List.set_cons_zero, List.set_cons_succ]
  refine wpAnyT_load (i := 3) (dst := some 28) (ty := 41) (x := .tmp 27) (b := w.heap.size) (o := (17)) (cs := Y) (by kernel_rfl) (by kernel_rfl) (by kernel_rfl) (by kernel_rfl) (by kernel_rfl) (fun _ _ _ h => h) (by kernel_rfl) hT (fun _ => hS) (by kernel_rfl) (fun _ h => h.2) uE rfl iY ?_
  simp only [Act.put, List.getElem_toArray, List.getElem_cons_succ, List.getElem_cons_zero, List.setIfInBounds_toArray, List.set_cons_zero, List.set_cons_succ]
  refine wpAnyT_two (i := 4) (j := 5) rfl rfl (by kernel_rfl) (by kernel_rfl) (by kernel_rfl) (fun K hK => ?_) (fun K hK => ?_)
  focus
    go_simp
    refine forget (p := fun y => K _ y) (fun W => CellsAt W w2.heap.size 41 evZs ∧ Below w2.heap.size w2 W ∧ w2.heap.size < W.heap.size) HAL.out ?_
    rintro W3 ⟨hz3, hbb, hlt3⟩
    replace hT : (fun w' : World => w'.rangeAt w.heap.size 0 X ∧ w'.rangeAt w.heap.size 17 Y) W3 := HTA.out W3 (hbb.mono (Nat.le_refl _))
    replace hS : (fun _ : World => True) W3 := trivial
    refine hK.out _ _ hT (fun _ => hS) ?_
    clear hK K
    try simp only [Act.put, List.getElem_toArray, List.getElem_cons_succ, List.getElem_cons_zero, List.setIfInBounds_toArray, List.set_cons_zero, List.set_cons_succ]
    have HA2 : Veil (CellsAt (W3.alloc (.cells evZs.toArray 41)) w2.heap.size 41 evZs ∧ CellsAt (W3.alloc (.cells evZs.toArray 41)) W3.heap.size 41 evZs ∧ Below w2.heap.size w2 (W3.alloc (.cells evZs.toArray 41))) := ⟨hz3.alloc _, CellsAt.new W3 41 evZs, hbb.alloc hbb.size _⟩
    clear hT hS
    have hT : (fun w' : World => w'.rangeAt w.heap.size 0 X ∧ w'.rangeAt w.heap.size 17 Y) W3 := HTA.out W3 hbb
    have hS : (fun _ : World => True) W3 := trivial
    refine wpAnyT_one (i := 5) rfl (by kernel_rfl) (by kernel_rfl) (fun K hK => ?_)
    go_simp
    refine forget (p := fun y => K _ y) (fun W => CellsAt W w2.heap.size 41 evZs ∧ CellsAt W W3.heap.size 41 evZs ∧ Below w2.heap.size w2 W) HA2.out ?_
    rintro W4 ⟨hz4, hy4, hbb4⟩
    have hpq : w2.heap.size ≠ W3.heap.size := by omega
    have hge : w2.heap.size ≤ W3.heap.size := by omega
    generalize W3.heap.size = nB at hy4 hpq hge ⊢
    clear HA2 hz3 hbb hlt3
    replace hT : (fun w' : World => w'.rangeAt w.heap.size 0 X ∧ w'.rangeAt w.heap.size 17 Y) W4 := HTA.out W4 hbb4
    replace hS : (fun _ : World => True) W4 := trivial
    refine hK.out _ _ hT (fun _ => hS) ?_
    clear hK K
    try simp only [Act.put, List.getElem_toArray, List.getElem_cons_succ, List.getElem_cons_zero, List.setIfInBounds_toArray, List.set_cons_zero, List.set_cons_succ]
    have h5X := (hz4.setRow X).setRowM Y.toArray hpq
    have h5Y := CellsAt.setRow (hy4.setRowM X.toArray (Ne.symm hpq)) Y
    refine wpAnyT_one (i := 6) rfl (by kernel_rfl) (by kernel_rfl) (fun K hK => ?_)
    refine wp_stvE 41 _ _ rfl w2.heap.size rfl (cs := X) rfl hz4 iX (by rw [le]; rfl) oe ?_
    have hb5 : Below w2.heap.size w2 (W4.setRow w2.heap.size X.toArray) := below_setRow hbb4 (Nat.le_refl _) _
    replace hT : (fun w' : World => w'.rangeAt w.heap.size 0 X ∧ w'.rangeAt w.heap.size 17 Y) (W4.setRow w2.heap.size X.toArray) := HTA.out _ hb5
    replace hS : (fun _ : World => True) (W4.setRow w2.heap.size X.toArray) := trivial
    refine hK.out _ _ hT (fun _ => hS) ?_
    clear hK K
    try simp only [Act.put, List.getElem_toArray, List.getElem_cons_succ, List.getElem_cons_zero, List.setIfInBounds_toArray, List.set_cons_zero, List.set_cons_succ]
    refine wpAnyT_one (i := 7) rfl (by kernel_rfl) (by kernel_rfl) (fun K hK => ?_)
    refine wp_stvE 41 _ _ rfl nB rfl (cs := Y) rfl (hy4.setRowM X.toArray (Ne.symm hpq)) iY (by rw [lf]; rfl) of_ ?_
    have hb6 : Below w2.heap.size w2 ((W4.setRow w2.heap.size X.toArray).setRow nB Y.toArray) := below_setRow hb5 hge _
    replace hT : (fun w' : World => w'.rangeAt w.heap.size 0 X ∧ w'.rangeAt w.heap.size 17 Y) ((W4.setRow w2.heap.size X.toArray).setRow nB Y.toArray) := HTA.out _ hb6
    replace hS : (fun _ : World => True) ((W4.setRow w2.heap.size X.toArray).setRow nB Y.toArray) := trivial
    refine hK.out _ _ hT (fun _ => hS) ?_
    clear hK K
    try simp only [Act.put, List.getElem_toArray, List.getElem_cons_succ, List.getElem_cons_zero, List.setIfInBounds_toArray, List.set_cons_zero, List.set_cons_succ]
    refine wpAnyT_done (by kernel_rfl) ?_ _
    clear hT hS
    obtain ⟨p, hp⟩ : ∃ p, w2.heap.size = p := ⟨_, rfl⟩
    obtain ⟨q, hq⟩ : ∃ q, nB = q := ⟨_, rfl⟩
    have HFIN : Veil (CellsAt ((W4.setRow w2.heap.size X.toArray).setRow nB Y.toArray) p 41 X ∧ CellsAt ((W4.setRow w2.heap.size X.toArray).setRow nB Y.toArray) q 41 Y ∧ Below w2.heap.size w2 ((W4.setRow w2.heap.size X.toArray).setRow nB Y.toArray)) := ⟨by rw [← hp]; exact h5X, by rw [← hq]; exact h5Y, hb6⟩
    generalize (W4.setRow w2.heap.size X.toArray).setRow nB Y.toArray = W6 at HFIN ⊢
    clear h5X h5Y hz4 hy4 hbb4 hb5 hb6 hge
    rw [hp, hq]
    clear hpq hp hq
  rotate_left
  focus
    go_simp
    refine forget (p := fun y => K _ y) (fun W => CellsAt W w2.heap.size 41 evZs ∧ Below w2.heap.size w2 W ∧ w2.heap.size < W.heap.size) HAL.out ?_
    rintro W3 ⟨hz3, hbb, hlt3⟩
    replace hT : (fun w' : World => w'.rangeAt w.heap.size 0 X ∧ w'.rangeAt w.heap.size 17 Y) W3 := HTA.out W3 (hbb.mono (Nat.le_refl _))
    replace hS : (fun _ : World => True) W3 := trivial
    refine hK.out _ _ hT (fun _ => hS) ?_
    clear hK K
    try simp only [Act.put, List.getElem_toArray, List.getElem_cons_succ, List.getElem_cons_zero, List.setIfInBounds_toArray, List.set_cons_zero, List.set_cons_succ]
    have HA2 : Veil (CellsAt (W3.alloc (.cells evZs.toArray 41)) w2.heap.size 41 evZs ∧ CellsAt (W3.alloc (.cells evZs.toArray 41)) W3.heap.size 41 evZs ∧ Below w2.heap.size w2 (W3.alloc (.cells evZs.toArray 41))) := ⟨hz3.alloc _, CellsAt.new W3 41 evZs, hbb.alloc hbb.size _⟩
    clear hT hS
    have hT : (fun w' : World => w'.rangeAt w.heap.size 0 X ∧ w'.rangeAt w.heap.size 17 Y) W3 := HTA.out W3 hbb
    have hS : (fun _ : World => True) W3 := trivial
    refine wpAnyT_one (i := 4) rfl (by kernel_rfl) (by kernel_rfl) (fun K hK => ?_)
    go_simp
    refine forget (p := fun y => K _ y) (fun W => CellsAt W w2.heap.size 41 evZs ∧ CellsAt W W3.heap.size 41 evZs ∧ Below w2.heap.size w2 W) HA2.out ?_
    rintro W4 ⟨hz4, hy4, hbb4⟩
    have hpq : w2.heap.size ≠ W3.heap.size := by omega
    have hge : w2.heap.size ≤ W3.heap.size := by omega
    generalize W3.heap.size = nB at hy4 hpq hge ⊢
    clear HA2 hz3 hbb hlt3
    replace hT : (fun w' : World => w'.rangeAt w.heap.size 0 X ∧ w'.rangeAt w.heap.size 17 Y) W4 := HTA.out W4 hbb4
    replace hS : (fun _ : World => True) W4 := trivial
    refine hK.out _ _ hT (fun _ => hS) ?_
    clear hK K
    try simp only [Act.put, List.getElem_toArray, List.getElem_cons_succ, List.getElem_cons_zero, List.setIfInBounds_toArray, List.set_cons_zero, List.set_cons_succ]
    have h5Y := (hz4.setRow Y).setRowM X.toArray hpq
    have h5X := CellsAt.setRow (hy4.setRowM Y.toArray (Ne.symm hpq)) X
    refine wpAnyT_one (i := 6) rfl (by kernel_rfl) (by kernel_rfl) (fun K hK => ?_)
    refine wp_stvE 41 _ _ rfl nB rfl (cs := X) rfl hy4 iX (by rw [le]; rfl) oe ?_
    have hb5 : Below w2.heap.size w2 (W4.setRow nB X.toArray) := below_setRow hbb4 hge _
    replace hT : (fun w' : World => w'.rangeAt w.heap.size 0 X ∧ w'.rangeAt w.heap.size 17 Y) (W4.setRow nB X.toArray) := HTA.out _ hb5
    replace hS : (fun _ : World => True) (W4.setRow nB X.toArray) := trivial
    refine hK.out _ _ hT (fun _ => hS) ?_
    clear hK K
    try simp only [Act.put, List.getElem_toArray, List.getElem_cons_succ, List.getElem_cons_zero, List.setIfInBounds_toArray, List.set_cons_zero, List.set_cons_succ]
    refine wpAnyT_one (i := 7) rfl (by kernel_rfl) (by kernel_rfl) (fun K hK => ?_)
    refine wp_stvE 41 _ _ rfl w2.heap.size rfl (cs := Y) rfl (hz4.setRowM X.toArray hpq) iY (by rw [lf]; rfl) of_ ?_
    have hb6 : Below w2.heap.size w2 ((W4.setRow nB X.toArray).setRow w2.heap.size Y.toArray) := below_setRow hb5 (Nat.le_refl _) _
    replace hT : (fun w' : World => w'.rangeAt w.heap.size 0 X ∧ w'.rangeAt w.heap.size 17 Y) ((W4.setRow nB X.toArray).setRow w2.heap.size Y.toArray) := HTA.out _ hb6
    replace hS : (fun _ : World => True) ((W4.setRow nB X.toArray).setRow w2.heap.size Y.toArray) := trivial
    refine hK.out _ _ hT (fun _ => hS) ?_
    clear hK K
    try simp only [Act.put, List.getElem_toArray, List.getElem_cons_succ, List.getElem_cons_zero, List.setIfInBounds_toArray, List.set_cons_zero, List.set_cons_succ]
    refine wpAnyT_done (by kernel_rfl) ?_ _
    clear hT hS h5X h5Y
    obtain ⟨p, hp⟩ : ∃ p, nB = p := ⟨_, rfl⟩
    obtain ⟨q, hq⟩ : ∃ q, w2.heap.size = q := ⟨_, rfl⟩
    have HFIN : Veil (CellsAt ((W4.setRow nB X.toArray).setRow w2.heap.size Y.toArray) p 41 X ∧ CellsAt ((W4.setRow nB X.toArray).setRow w2.heap.size Y.toArray) q 41 Y ∧ Below w2.heap.size w2 ((W4.setRow nB X.toArray).setRow w2.heap.size Y.toArray)) := ⟨by rw [← hp]; exact (hy4.setRow X).setRowM _ (Ne.symm hpq), by rw [← hq]; exact (hz4.setRowM X.toArray hpq).setRow Y, hb6⟩
    generalize (W4.setRow nB X.toArray).setRow w2.heap.size Y.toArray = W6 at HFIN ⊢
    clear hz4 hy4 hbb4 hb5 hb6 hge
    rw [hp, hq]
    clear hpq hp hq
  all_goals
    obtain ⟨hp6, hq6, hb6⟩ := HFIN.out
    obtain ⟨hC6, hv6, hB6⟩ := HBB2.out W6 hb6
    clear HFIN HBB2 HTA HAL hb6
    have hrX := hp6.wholeM
    have hrY := hq6.wholeM
    have hxy := HXY.out W6
    have HB6 := Veil.mk hB6
    -- it is left alone where one saw the other one, or where they are one
    have hdec : B1 = true ∨ (B1 = false ∧ B2 = true) ∨ (B1 = false ∧ B2 = false ∧ DQ = true) ∨ (B1 = false ∧ B2 = false ∧ DQ = false) := by cases B1 <;> cases B2 <;> cases DQ <;> simp
    have HF7 : Veil (∀ W7, Below W6.heap.size W6 W7 → W7.rangeAt p 0 X ∧ W7.rangeAt q 0 Y ∧ W7.rangeAt p 0 DX ∧ W7.rangeAt q 0 DY ∧ BookC W7 H b L) := ⟨fun W7 hb => ⟨(hp6.farM hb).wholeM, (hq6.farM hb).wholeM, HRX.out _ _ (hp6.farM hb), HRY.out _ _ (hq6.farM hb), hC6.far hb⟩⟩
    rcases hdec with rfl | ⟨rfl, rfl⟩ | ⟨rfl, rfl, rfl⟩ | ⟨rfl, rfl, rfl⟩
    · go_wp2_with (first
        | (go_at_call 20; refine hxy.mono ?_; rintro z W7 ⟨rfl, g7⟩)
        | (refine wpList_ldv rfl 41 (.tmp 10) rfl p 0 rfl X hrX uE rfl iX ?_)
        | (refine wpList_ldv rfl 41 (.tmp 11) rfl q 0 rfl Y hrY uE rfl iY ?_))
      go_ret
      exact ⟨rfl, HB6.out.trans (g7.mono HB6.out.size)⟩
    · go_wp2_with (first
        | (go_at_call 20; refine hyx.mono ?_; rintro z W8 ⟨rfl, g8⟩)
        | (go_at_call 20; refine hxy.mono ?_; rintro z W7 ⟨rfl, g7⟩; obtain ⟨k1, k2, -, -, -⟩ := HF7.out W7 g7; have hyx := HYX.out W7; clear hxy)
        | (refine wpList_ldgv (by kernel_rfl) 41 (.tmp 10) rfl p 0 rfl X k1 uE rfl iX ?_)
        | (refine wpList_ldgv (by kernel_rfl) 41 (.tmp 11) rfl q 0 rfl Y k2 uE rfl iY ?_)
        | (refine wpList_ldv rfl 41 (.tmp 10) rfl p 0 rfl X hrX uE rfl iX ?_)
        | (refine wpList_ldv rfl 41 (.tmp 11) rfl q 0 rfl Y hrY uE rfl iY ?_))
      go_ret
      have g9 := g7.trans (g8.mono g7.size)
      exact ⟨rfl, HB6.out.trans (g9.mono HB6.out.size)⟩
    · go_wp2_with (first
        | (go_at_call 20; refine hyx.mono ?_; rintro z W8 ⟨rfl, g8⟩; have g9 := g7.trans (g8.mono g7.size); obtain ⟨-, -, k3, k4, -⟩ := HF7.out W8 g9)
        | (go_at_call 20; refine hxy.mono ?_; rintro z W7 ⟨rfl, g7⟩; obtain ⟨k1, k2, -, -, -⟩ := HF7.out W7 g7; have hyx := HYX.out W7; clear hxy)
        | (refine wpList_ldgv (by kernel_rfl) 38 (.tmp 38) rfl p 0 rfl DX k3 uD rfl iDX ?_)
        | (refine wpList_ldgv (by kernel_rfl) 38 (.tmp 40) rfl q 0 rfl DY k4 uD rfl iDY ?_)
        | (refine wpList_ldgv (by kernel_rfl) 41 (.tmp 10) rfl p 0 rfl X k1 uE rfl iX ?_)
        | (refine wpList_ldgv (by kernel_rfl) 41 (.tmp 11) rfl q 0 rfl Y k2 uE rfl iY ?_)
        | (refine wpList_ldv rfl 41 (.tmp 10) rfl p 0 rfl X hrX uE rfl iX ?_)
        | (refine wpList_ldv rfl 41 (.tmp 11) rfl q 0 rfl Y hrY uE rfl iY ?_))
      go_ret
      exact ⟨rfl, HB6.out.trans (g9.mono HB6.out.size)⟩
    · obtain ⟨hsm, hsx, hsy⟩ := HSW.out L rfl rfl (HNE.out rfl) (by have := hlow.out.2; omega)
      have HSM := Veil.mk hsm
      have HSX := Veil.mk hsx
      have HSY := Veil.mk hsy
      clear hsm hsx hsy
      have h500 : ¬ (500 : Int) < (L.length : Int) := by have := hlow.out.2; omega
      go_upto_region 7 with (first
        | (go_at_call 21; refine hln.mono ?_; rintro z W8b ⟨rfl, rfl⟩)
        | (go_at_call 20; refine hyx.mono ?_; rintro z W8 ⟨rfl, g8⟩; have g9 := g7.trans (g8.mono g7.size); obtain ⟨-, -, k3, k4, kC⟩ := HF7.out W8 g9; have hln := blen_any H b L W8 kC)
        | (go_at_call 20; refine hxy.mono ?_; rintro z W7 ⟨rfl, g7⟩; obtain ⟨k1, k2, -, -, -⟩ := HF7.out W7 g7; have hyx := HYX.out W7; clear hxy)
        | (refine wpList_ldgv (by kernel_rfl) 38 (.tmp 38) rfl p 0 rfl DX k3 uD rfl iDX ?_)
        | (refine wpList_ldgv (by kernel_rfl) 38 (.tmp 40) rfl q 0 rfl DY k4 uD rfl iDY ?_)
        | (refine wpList_ldgv (by kernel_rfl) 41 (.tmp 10) rfl p 0 rfl X k1 uE rfl iX ?_)
        | (refine wpList_ldgv (by kernel_rfl) 41 (.tmp 11) rfl q 0 rfl Y k2 uE rfl iY ?_)
        | (refine wpList_ldv rfl 41 (.tmp 10) rfl p 0 rfl X hrX uE rfl iX ?_)
        | (refine wpList_ldv rfl 41 (.tmp 11) rfl q 0 rfl Y hrY uE rfl iY ?_))
      have hB8 := HB6.out.trans (g9.mono HB6.out.size)
      have hp8 := hp6.farM g9
      have hq8 := hq6.farM g9
      have hv8 := hv6.farM g9
      have hC8 := hC6.far g9
      have hfk := abfork_any H b L W8b hC8
      clear hrX hrY hyx k1 k2 k3 k4 kC hln g7 g8 g9 hp6 hq6 hv6 hC6 hB6 HF7 HB6
      have HFK : Veil (∀ W9 F fb, BookC W9 F fb L → Below W8b.heap.size W8b W9 → W8b.heap.size ≤ fb → SwS w W9 H b F fb p q X Y VV L L) := ⟨fun W9 F fb hF g hl => ⟨hC8.far g, hF, hp8.farM g, hq8.farM g, hv8.farM g, hB8.trans (g.mono hB8.size), by have := hC8.map.lt; omega, hlow.out.1, by have := hB8.size; omega⟩⟩
      have HL1 : Veil (∀ e : Ev, (addB L e).length ≤ 1000) := ⟨fun e => by have := addB_len L e; have := hlow.out.2; omega⟩
      have hL0 : L.length ≤ 1000 := by have := hlow.out.2; omega
      clear hp8 hq8 hv8 hC8 hB8
      go_upto_region 12 with (first
        | (go_at_call 18; refine (HAX.out F fb _ W12 S12.fork (HL1.out f)).mono ?_; rintro z W13 ⟨rfl, hF13, ht13⟩; have S13 := S12.onF hF13 ht13)
        | (go_at_call 18; refine (HAY.out F fb _ W11 S11.fork hL0).mono ?_; rintro z W12 ⟨rfl, hF12, ht12⟩; have S12 := S11.onF hF12 ht12; have hrX4 := S12.cx.wholeM)
        | (go_at_call 18; refine (HAY.out H b _ W10 S10.code (HL1.out e)).mono ?_; rintro z W11 ⟨rfl, hC11, ht11⟩; have S11 := S10.onB hC11 ht11; have hrY3 := S11.cy.wholeM; clear hrX1)
        | (go_at_call 18; refine (HAX.out H b _ W9 S9.code hL0).mono ?_; rintro z W10 ⟨rfl, hC10, ht10⟩; have S10 := S9.onB hC10 ht10; have hrY2 := S10.cy.wholeM)
        | (go_at_call 22; refine hfk.mono ?_; rintro z W9 ⟨F, fb, rfl, hF9, g9, hlF, hlb⟩; have S9 := HFK.out W9 F fb hF9 g9 hlb; have hrX1 := S9.cx.wholeM)
        | (refine wpList_ldv rfl 41 (.tmp 10) rfl p 0 rfl X hrX4 uE rfl iX ?_)
        | (refine wpList_ldv rfl 41 (.tmp 11) rfl q 0 rfl Y hrY3 uE rfl iY ?_)
        | (refine wpList_ldv rfl 41 (.tmp 11) rfl q 0 rfl Y hrY2 uE rfl iY ?_)
        | (refine wpList_ldv rfl 41 (.tmp 10) rfl p 0 rfl X hrX1 uE rfl iX ?_))
      have S := S13
      have HTB : Veil (∀ W {M N : List Ent}, SwS w W H b F fb p q X Y VV M N → W.rangeAt (w.heap.size + 1) 0 VV ∧ W.rangeAt p 0 DX ∧ W.rangeAt q 0 DY) := ⟨fun W M N h => ⟨h.cv.wholeM, HRX.out _ _ h.cx, HRY.out _ _ h.cy⟩⟩
      have S0 : SwS w W13.drew H b F fb p q X Y VV _ _ := S13.far (Below.refl _ _).drew
      clear hrX4 hrY3 hrY2 S9 S10 S11 S12 hF9 hF12 hF13 hC10 hC11 ht10 ht11 ht12 ht13 hfk g9 HFK
      have hm1 := HME.out H b _ W13.drew S0.code
      rw [HSM.out] at hm1
      obtain ⟨ML, hML⟩ : ∃ m, membersL (addB (addB L f) e) v = m := ⟨_, rfl⟩
      have hM8 : ML.length = 8 := by rw [← hML]; exact membersL_len _ _
      obtain ⟨CX, hCX⟩ : ∃ m, cntB (addB (addB L f) e) de = m := ⟨_, rfl⟩
      obtain ⟨CY, hCY⟩ : ∃ m, cntB (addB (addB L f) e) df = m := ⟨_, rfl⟩
      rw [hML] at hm1
      have HQ : Veil (∀ W, SwS w W H b F fb p q X Y VV (addB (addB L e) f) (addB (addB L f) e) → (Calls Try.prog 16 #[.pointer (some ⟨F, 0, none⟩), .agg VV.toArray] W fun e w' => e = .returned (.agg (row .u8 ML)) ∧ Below W.heap.size W w') ∧ (Calls Try.prog 23 #[.pointer (some ⟨H, 0, none⟩), .agg DX.toArray] W fun r w' => r = .returned (.bool CX) ∧ Below W.heap.size W w') ∧ (Calls Try.prog 23 #[.pointer (some ⟨F, 0, none⟩), .agg DX.toArray] W fun r w' => r = .returned (.bool CX) ∧ Below W.heap.size W w') ∧ (Calls Try.prog 23 #[.pointer (some ⟨H, 0, none⟩), .agg DY.toArray] W fun r w' => r = .returned (.bool CY) ∧ Below W.heap.size W w') ∧ (Calls Try.prog 23 #[.pointer (some ⟨F, 0, none⟩), .agg DY.toArray] W fun r w' => r = .returned (.bool CY) ∧ Below W.heap.size W w')) := ⟨fun W h => by
        have a1 := HME.out F fb _ W h.fork
        have a2 := HCX.out H b _ W h.code
        have a3 := HCX.out F fb _ W h.fork
        have a4 := HCY.out H b _ W h.code
        have a5 := HCY.out F fb _ W h.fork
        rw [hML] at a1
        rw [HSX.out, hCX] at a2
        rw [hCX] at a3
        rw [HSY.out, hCY] at a4
        rw [hCY] at a5
        exact ⟨a1, a2, a3, a4, a5⟩⟩
      have heqr : ∀ wx, (Op.equalIn 10000 34 (.agg (row .u8 ML)) (.agg (row .u8 ML))).run Try.prog wx = .ok true wx := fun wx => by rw [roles_eqIn ML ML hM8 hM8, beq_self_eq_true]
      have hcx : (CX == CX) = true := beq_self_eq_true CX
      have hcy : (CY == CY) = true := beq_self_eq_true CY
      clear hML hCX hCY HSM HSX HSY HME HCX HCY
      refine wp_region_gateT (fun w' => w'.rangeAt (w.heap.size + 1) 0 VV ∧ w'.rangeAt p 0 DX ∧ w'.rangeAt q 0 DY) (fun _ => True) 99 (by kernel_rfl) ?_
      have hT : (fun w' : World => w'.rangeAt (w.heap.size + 1) 0 VV ∧ w'.rangeAt p 0 DX ∧ w'.rangeAt q 0 DY) W13.drew := HTB.out _ S0
      have hS : (fun _ : World => True) W13.drew := trivial
      refine wpAnyT_held (i := 0) (v := ?_) rfl (by kernel_rfl) (by kernel_rfl) (by kernel_rfl) (fun _ _ _ h => h) (by kernel_rfl) hT (fun _ => hS) (by kernel_rfl) ?_ ?_
      rotate_left
      · intro wx hSw; go_split_ands; go_simp; try with_reducible rfl
      simp only [Act.put, List.getElem_toArray, List.getElem_cons_succ, List.getElem_cons_zero, List.setIfInBounds_toArray, List.set_cons_zero, List.set_cons_succ]
      refine wpAnyT_held (i := 3) (v := ?_) rfl (by kernel_rfl) (by kernel_rfl) (by kernel_rfl) (fun _ _ _ h => h) (by kernel_rfl) hT (fun _ => hS) (by kernel_rfl) ?_ ?_
      rotate_left
      · intro wx hSw; go_split_ands; go_simp; try with_reducible rfl
      simp only [Act.put, List.getElem_toArray, List.getElem_cons_succ, List.getElem_cons_zero, List.setIfInBounds_toArray, List.set_cons_zero, List.set_cons_succ]
      refine wpAnyT_load (i := 1) (dst := some 64) (ty := 25) (x := .tmp 5) (b := (w.heap.size + 1)) (o := (0)) (cs := VV) (by kernel_rfl) (by kernel_rfl) (by kernel_rfl) (by kernel_rfl) (by kernel_rfl) (fun _ _ _ h => h) (by kernel_rfl) hT (fun _ => hS) (by kernel_rfl) (fun _ h => h.1) uV rfl iV ?_
      simp only [Act.put, List.getElem_toArray, List.getElem_cons_succ, List.getElem_cons_zero, List.setIfInBounds_toArray, List.set_cons_zero, List.set_cons_succ]
      refine wpAnyT_load (i := 4) (dst := some 67) (ty := 25) (x := .tmp 5) (b := (w.heap.size + 1)) (o := (0)) (cs := VV) (by kernel_rfl) (by kernel_rfl) (by kernel_rfl) (by kernel_rfl) (by kernel_rfl) (fun _ _ _ h => h) (by kernel_rfl) hT (fun _ => hS) (by kernel_rfl) (fun _ h => h.1) uV rfl iV ?_
      simp only [Act.put, List.getElem_toArray, List.getElem_cons_succ, List.getElem_cons_zero, List.setIfInBounds_toArray, List.set_cons_zero, List.set_cons_succ]
      refine wpAnyT_one (i := 2) rfl (by kernel_rfl) (by kernel_rfl) (fun K hK => ?_)
      refine wpx_call _ _ (by kernel_rfl) (hm1.mono ?_)
      rintro z V1 ⟨rfl, v1⟩
      refine ⟨_, rfl, ?_⟩
      have SV1 := S0.far v1
      replace hT : (fun w' : World => w'.rangeAt (w.heap.size + 1) 0 VV ∧ w'.rangeAt p 0 DX ∧ w'.rangeAt q 0 DY) V1 := HTB.out _ SV1
      replace hS : (fun _ : World => True) V1 := trivial
      have hm2 := (HQ.out V1 SV1).1
      refine hK.out _ _ hT (fun _ => hS) ?_
      clear hK K
      try simp only [Act.put, List.getElem_toArray, List.getElem_cons_succ, List.getElem_cons_zero, List.setIfInBounds_toArray, List.set_cons_zero, List.set_cons_succ]
      refine wpAnyT_one (i := 5) rfl (by kernel_rfl) (by kernel_rfl) (fun K hK => ?_)
      refine wpx_call _ _ (by kernel_rfl) (hm2.mono ?_)
      rintro z V2 ⟨rfl, v2⟩
      refine ⟨_, rfl, ?_⟩
      have SV2 := SV1.far v2
      replace hT : (fun w' : World => w'.rangeAt (w.heap.size + 1) 0 VV ∧ w'.rangeAt p 0 DX ∧ w'.rangeAt q 0 DY) V2 := HTB.out _ SV2
      replace hS : (fun _ : World => True) V2 := trivial
      have hk1 := (HQ.out V2 SV2).2.1
      refine hK.out _ _ hT (fun _ => hS) ?_
      clear hK K
      try simp only [Act.put, List.getElem_toArray, List.getElem_cons_succ, List.getElem_cons_zero, List.setIfInBounds_toArray, List.set_cons_zero, List.set_cons_succ]
      refine wpAnyT_held (i := 6) (v := .bool true) rfl (by kernel_rfl) (by kernel_rfl) (by kernel_rfl) (fun _ _ _ h => h) (by kernel_rfl) hT (fun _ => hS) (by kernel_rfl) ?_ ?_
      · intro wx hSw; go_split_ands; go_simp
      simp only [Act.put, List.getElem_toArray, List.getElem_cons_succ, List.getElem_cons_zero, List.setIfInBounds_toArray, List.set_cons_zero, List.set_cons_succ]
      refine wpAnyT_held (i := 7) (v := ?_) rfl (by kernel_rfl) (by kernel_rfl) (by kernel_rfl) (fun _ _ _ h => h) (by kernel_rfl) hT (fun _ => hS) (by kernel_rfl) ?_ ?_
      rotate_left
      · intro wx hSw; go_split_ands; go_simp; try with_reducible rfl
      simp only [Act.put, List.getElem_toArray, List.getElem_cons_succ, List.getElem_cons_zero, List.setIfInBounds_toArray, List.set_cons_zero, List.set_cons_succ]
      refine wpAnyT_held (i := 8) (v := ?_) rfl (by kernel_rfl) (by kernel_rfl) (by kernel_rfl) (fun _ _ _ h => h) (by kernel_rfl) hT (fun _ => hS) (by kernel_rfl) ?_ ?_
      rotate_left
      · intro wx hSw; go_split_ands; go_simp; try with_reducible rfl
      simp only [Act.put, List.getElem_toArray, List.getElem_cons_succ, List.getElem_cons_zero, List.setIfInBounds_toArray, List.set_cons_zero, List.set_cons_succ]
      refine wpAnyT_held (i := 9) (v := ?_) rfl (by kernel_rfl) (by kernel_rfl) (by kernel_rfl) (fun _ _ _ h => h) (by kernel_rfl) hT (fun _ => hS) (by kernel_rfl) ?_ ?_
      rotate_left
      · intro wx hSw; go_split_ands; go_simp; try with_reducible rfl
      simp only [Act.put, List.getElem_toArray, List.getElem_cons_succ, List.getElem_cons_zero, List.setIfInBounds_toArray, List.set_cons_zero, List.set_cons_succ]
      refine wpAnyT_load (i := 10) (dst := some 73) (ty := 38) (x := .tmp 72) (b := p) (o := (0)) (cs := DX) (by kernel_rfl) (by kernel_rfl) (by kernel_rfl) (by kernel_rfl) (by kernel_rfl) (fun _ _ _ h => h) (by kernel_rfl) hT (fun _ => hS) (by kernel_rfl) (fun _ h => h.2.1) uD rfl iDX ?_
      simp only [Act.put, List.getElem_toArray, List.getElem_cons_succ, List.getElem_cons_zero, List.setIfInBounds_toArray, List.set_cons_zero, List.set_cons_succ]
      refine wpAnyT_held (i := 12) (v := ?_) rfl (by kernel_rfl) (by kernel_rfl) (by kernel_rfl) (fun _ _ _ h => h) (by kernel_rfl) hT (fun _ => hS) (by kernel_rfl) ?_ ?_
      rotate_left
      · intro wx hSw; go_split_ands; go_simp; try with_reducible rfl
      simp only [Act.put, List.getElem_toArray, List.getElem_cons_succ, List.getElem_cons_zero, List.setIfInBounds_toArray, List.set_cons_zero, List.set_cons_succ]
      refine wpAnyT_held (i := 13) (v := ?_) rfl (by kernel_rfl) (by kernel_rfl) (by kernel_rfl) (fun _ _ _ h => h) (by kernel_rfl) hT (fun _ => hS) (by kernel_rfl) ?_ ?_
      rotate_left
      · intro wx hSw; go_split_ands; go_simp; try with_reducible rfl
      simp only [Act.put, List.getElem_toArray, List.getElem_cons_succ, List.getElem_cons_zero, List.setIfInBounds_toArray, List.set_cons_zero, List.set_cons_succ]
      refine wpAnyT_load (i := 14) (dst := some 77) (ty := 38) (x := .tmp 76) (b := p) (o := (0)) (cs := DX) (by kernel_rfl) (by kernel_rfl) (by kernel_rfl) (by kernel_rfl) (by kernel_rfl) (fun _ _ _ h => h) (by kernel_rfl) hT (fun _ => hS) (by kernel_rfl) (fun _ h => h.2.1) uD rfl iDX ?_
      simp only [Act.put, List.getElem_toArray, List.getElem_cons_succ, List.getElem_cons_zero, List.setIfInBounds_toArray, List.set_cons_zero, List.set_cons_succ]
      refine wpAnyT_one (i := 11) rfl (by kernel_rfl) (by kernel_rfl) (fun K hK => ?_)
      refine wpx_call _ _ (by kernel_rfl) (hk1.mono ?_)
      rintro z V3 ⟨rfl, v3⟩
      refine ⟨_, rfl, ?_⟩
      have SV3 := SV2.far v3
      replace hT : (fun w' : World => w'.rangeAt (w.heap.size + 1) 0 VV ∧ w'.rangeAt p 0 DX ∧ w'.rangeAt q 0 DY) V3 := HTB.out _ SV3
      replace hS : (fun _ : World => True) V3 := trivial
      have hk2 := (HQ.out V3 SV3).2.2.1
      refine hK.out _ _ hT (fun _ => hS) ?_
      clear hK K
      try simp only [Act.put, List.getElem_toArray, List.getElem_cons_succ, List.getElem_cons_zero, List.setIfInBounds_toArray, List.set_cons_zero, List.set_cons_succ]
      refine wpAnyT_one (i := 15) rfl (by kernel_rfl) (by kernel_rfl) (fun K hK => ?_)
      refine wpx_call _ _ (by kernel_rfl) (hk2.mono ?_)
      rintro z V4 ⟨rfl, v4⟩
      refine ⟨_, rfl, ?_⟩
      have SV4 := SV3.far v4
      replace hT : (fun w' : World => w'.rangeAt (w.heap.size + 1) 0 VV ∧ w'.rangeAt p 0 DX ∧ w'.rangeAt q 0 DY) V4 := HTB.out _ SV4
      replace hS : (fun _ : World => True) V4 := trivial
      have hk3 := (HQ.out V4 SV4).2.2.2.1
      refine hK.out _ _ hT (fun _ => hS) ?_
      clear hK K
      try simp only [Act.put, List.getElem_toArray, List.getElem_cons_succ, List.getElem_cons_zero, List.setIfInBounds_toArray, List.set_cons_zero, List.set_cons_succ]
      refine wpAnyT_held (i := 16) (v := .bool true) rfl (by kernel_rfl) (by kernel_rfl) (by kernel_rfl) (fun _ _ _ h => h) (by kernel_rfl) hT (fun _ => hS) (by kernel_rfl) ?_ ?_
      · intro wx hSw; go_split_ands; go_simp
      simp only [Act.put, List.getElem_toArray, List.getElem_cons_succ, List.getElem_cons_zero, List.setIfInBounds_toArray, List.set_cons_zero, List.set_cons_succ]
      refine wpAnyT_held (i := 17) (v := .bool true) rfl (by kernel_rfl) (by kernel_rfl) (by kernel_rfl) (fun _ _ _ h => h) (by kernel_rfl) hT (fun _ => hS) (by kernel_rfl) ?_ ?_
      · intro wx hSw; go_split_ands; go_simp
      simp only [Act.put, List.getElem_toArray, List.getElem_cons_succ, List.getElem_cons_zero, List.setIfInBounds_toArray, List.set_cons_zero, List.set_cons_succ]
      refine wpAnyT_held (i := 18) (v := ?_) rfl (by kernel_rfl) (by kernel_rfl) (by kernel_rfl) (fun _ _ _ h => h) (by kernel_rfl) hT (fun _ => hS) (by kernel_rfl) ?_ ?_
      rotate_left
      · intro wx hSw; go_split_ands; go_simp; try with_reducible rfl
      simp only [Act.put, List.getElem_toArray, List.getElem_cons_succ, List.getElem_cons_zero, List.setIfInBounds_toArray, List.set_cons_zero, List.set_cons_succ]
      refine wpAnyT_held (i := 19) (v := ?_) rfl (by kernel_rfl) (by kernel_rfl) (by kernel_rfl) (fun _ _ _ h => h) (by kernel_rfl) hT (fun _ => hS) (by kernel_rfl) ?_ ?_
      rotate_left
      · intro wx hSw; go_split_ands; go_simp; try with_reducible rfl
      simp only [Act.put, List.getElem_toArray, List.getElem_cons_succ, List.getElem_cons_zero, List.setIfInBounds_toArray, List.set_cons_zero, List.set_cons_succ]
      refine wpAnyT_held (i := 20) (v := ?_) rfl (by kernel_rfl) (by kernel_rfl) (by kernel_rfl) (fun _ _ _ h => h) (by kernel_rfl) hT (fun _ => hS) (by kernel_rfl) ?_ ?_
      rotate_left
      · intro wx hSw; go_split_ands; go_simp; try with_reducible rfl
      simp only [Act.put, List.getElem_toArray, List.getElem_cons_succ, List.getElem_cons_zero, List.setIfInBounds_toArray, List.set_cons_zero, List.set_cons_succ]
      refine wpAnyT_load (i := 21) (dst := some 84) (ty := 38) (x := .tmp 83) (b := q) (o := (0)) (cs := DY) (by kernel_rfl) (by kernel_rfl) (by kernel_rfl) (by kernel_rfl) (by kernel_rfl) (fun _ _ _ h => h) (by kernel_rfl) hT (fun _ => hS) (by kernel_rfl) (fun _ h => h.2.2) uD rfl iDY ?_
      simp only [Act.put, List.getElem_toArray, List.getElem_cons_succ, List.getElem_cons_zero, List.setIfInBounds_toArray, List.set_cons_zero, List.set_cons_succ]
      refine wpAnyT_held (i := 23) (v := ?_) rfl (by kernel_rfl) (by kernel_rfl) (by kernel_rfl) (fun _ _ _ h => h) (by kernel_rfl) hT (fun _ => hS) (by kernel_rfl) ?_ ?_
      rotate_left
      · intro wx hSw; go_split_ands; go_simp; try with_reducible rfl
      simp only [Act.put, List.getElem_toArray, List.getElem_cons_succ, List.getElem_cons_zero, List.setIfInBounds_toArray, List.set_cons_zero, List.set_cons_succ]
      refine wpAnyT_held (i := 24) (v := ?_) rfl (by kernel_rfl) (by kernel_rfl) (by kernel_rfl) (fun _ _ _ h => h) (by kernel_rfl) hT (fun _ => hS) (by kernel_rfl) ?_ ?_
      rotate_left
      · intro wx hSw; go_split_ands; go_simp; try with_reducible rfl
      simp only [Act.put, List.getElem_toArray, List.getElem_cons_succ, List.getElem_cons_zero, List.setIfInBounds_toArray, List.set_cons_zero, List.set_cons_succ]
      refine wpAnyT_load (i := 25) (dst := some 88) (ty := 38) (x := .tmp 87) (b := q) (o := (0)) (cs := DY) (by kernel_rfl) (by kernel_rfl) (by kernel_rfl) (by kernel_rfl) (by kernel_rfl) (fun _ _ _ h => h) (by kernel_rfl) hT (fun _ => hS) (by kernel_rfl) (fun _ h => h.2.2) uD rfl iDY ?_
      simp only [Act.put, List.getElem_toArray, List.getElem_cons_succ, List.getElem_cons_zero, List.setIfInBounds_toArray, List.set_cons_zero, List.set_cons_succ]
      refine wpAnyT_one (i := 22) rfl (by kernel_rfl) (by kernel_rfl) (fun K hK => ?_)
      refine wpx_call _ _ (by kernel_rfl) (hk3.mono ?_)
      rintro z V5 ⟨rfl, v5⟩
      refine ⟨_, rfl, ?_⟩
      have SV5 := SV4.far v5
      replace hT : (fun w' : World => w'.rangeAt (w.heap.size + 1) 0 VV ∧ w'.rangeAt p 0 DX ∧ w'.rangeAt q 0 DY) V5 := HTB.out _ SV5
      replace hS : (fun _ : World => True) V5 := trivial
      have hk4 := (HQ.out V5 SV5).2.2.2.2
      refine hK.out _ _ hT (fun _ => hS) ?_
      clear hK K
      try simp only [Act.put, List.getElem_toArray, List.getElem_cons_succ, List.getElem_cons_zero, List.setIfInBounds_toArray, List.set_cons_zero, List.set_cons_succ]
      refine wpAnyT_one (i := 26) rfl (by kernel_rfl) (by kernel_rfl) (fun K hK => ?_)
      refine wpx_call _ _ (by kernel_rfl) (hk4.mono ?_)
      rintro z V6 ⟨rfl, v6⟩
      refine ⟨_, rfl, ?_⟩
      have SV6 := SV5.far v6
      replace hT : (fun w' : World => w'.rangeAt (w.heap.size + 1) 0 VV ∧ w'.rangeAt p 0 DX ∧ w'.rangeAt q 0 DY) V6 := HTB.out _ SV6
      replace hS : (fun _ : World => True) V6 := trivial
      refine hK.out _ _ hT (fun _ => hS) ?_
      clear hK K
      try simp only [Act.put, List.getElem_toArray, List.getElem_cons_succ, List.getElem_cons_zero, List.setIfInBounds_toArray, List.set_cons_zero, List.set_cons_succ]
      refine wpAnyT_held (i := 27) (v := .bool true) rfl (by kernel_rfl) (by kernel_rfl) (by kernel_rfl) (fun _ _ _ h => h) (by kernel_rfl) hT (fun _ => hS) (by kernel_rfl) ?_ ?_
      · intro wx hSw; go_split_ands; go_simp
      simp only [Act.put, List.getElem_toArray, List.getElem_cons_succ, List.getElem_cons_zero, List.setIfInBounds_toArray, List.set_cons_zero, List.set_cons_succ]
      refine wpAnyT_held (i := 28) (v := .bool true) rfl (by kernel_rfl) (by kernel_rfl) (by kernel_rfl) (fun _ _ _ h => h) (by kernel_rfl) hT (fun _ => hS) (by kernel_rfl) ?_ ?_
      · intro wx hSw; go_split_ands; go_simp
      simp only [Act.put, List.getElem_toArray, List.getElem_cons_succ, List.getElem_cons_zero, List.setIfInBounds_toArray, List.set_cons_zero, List.set_cons_succ]
      refine wpAnyT_held (i := 29) (v := ?_) rfl (by kernel_rfl) (by kernel_rfl) (by kernel_rfl) (fun _ _ _ h => h) (by kernel_rfl) hT (fun _ => hS) (by kernel_rfl) ?_ ?_
      rotate_left
      · intro wx hSw; go_split_ands; go_simp; try with_reducible rfl
      simp only [Act.put, List.getElem_toArray, List.getElem_cons_succ, List.getElem_cons_zero, List.setIfInBounds_toArray, List.set_cons_zero, List.set_cons_succ]
      refine wpAnyT_done (by kernel_rfl) ?_ _
      clear hT hS
      go_wp2
      go_ret
      exact ⟨rfl, SV6.bel⟩
end Go.Proofs.Ythodlbkgggaibaa
