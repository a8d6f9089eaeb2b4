/- Sm10 De11 Gate6 -/
import Derived.Test.YtmbdohnmbkpfaaaGreatV15
import Derived.Test.YtmbdohnmbkpfaaaGreatV07
import Derived.Test.YtmbdohnmbkpfaaaGreatV16
import Derived.Test.YtmbdohnmbkpfaaaGreatV02
import Derived.Test.YtmbdohnmbkpfaaaGreatV38
import Derived.Test.YtmbdohnmbkpfaaaGreatV40
import Derived.Test.YtmbdohnmbkpfaaaGreatV41
import Derived.Test.YtmbdohnmbkpfaaaGreatV42
import Derived.Test.YtmbdohnmbkpfaaaGreatV08
namespace Go.Proofs.YtmbdohnmbkpfaaaGreat
open Go.RowKit Go.Shelf
set_option maxRecDepth 20000
set_option linter.unusedSimpArgs false
theorem evEqD_refl (e : Ev) : evEq e e = true := by unfold evEq; simp
set_option maxHeartbeats 8000000 in
theorem same_evD (L : List Ev) (w : World) (B1 B2 : Nat) (x1 x2 : Option Addr) (c1 c2 : Nat) (h1 : OwnI w B1 44 17 (.slice x1 L.length c1) (L.map Ev.cells)) (h2 : OwnI w B2 44 17 (.slice x2 L.length c2) (L.map Ev.cells)) (hk : ∀ e ∈ L, e.Ok) (hl : L.length ≤ 100000) :
    Calls Tryz.prog 39 #[.slice x1 L.length c1, .slice x2 L.length c2] w fun e w' => e = .returned (.bool true) ∧ Below w.heap.size w w' := by
 have uE := Tryz.underlying44
 go_enter Tryz.func39, Tryz.ntmps39
 go_wp2
 go_loopw [5] (fun p wr => ∃ j : Nat, j ≤ L.length ∧ p = .int .i64 (j : Nat) ∧ Below w.heap.size w wr) (fun p _ => L.length - (intOf p).toNat)
 case atStart => exact ⟨0, Nat.zero_le _, rfl, Below.refl _ _⟩
 case round =>
  obtain ⟨j, hj, rfl, hb⟩ := hrel
  by_cases hjn : j < L.length
  · have hji : (j : Int) < (L.length : Int) := by omega
    obtain ⟨g1, rfl, -, hr1⟩ := (h1.far hb).at_ j (by rw [List.length_map]; exact hjn)
    obtain ⟨g2, rfl, -, hr2⟩ := (h2.far hb).at_ j (by rw [List.length_map]; exact hjn)
    rw [List.getElem_map] at hr1 hr2
    have hxk := hk L[j] (List.getElem_mem hjn)
    generalize L[j] = xj at hr1 hr2 hxk
    have iX : (Tryz.prog.info? 44).map (·.size) = some xj.cells.length := by rw [aev_len _ hxk.past]; kernel_rfl
    have heq : ∀ wx, (binOp .neq 44 (.agg xj.cells.toArray) (.agg xj.cells.toArray)).run Tryz.prog wx = .ok (.bool false) wx := fun wx => by rw [ev_neq xj xj hxk hxk, evEqD_refl]; rfl
    have hw2 : IntKind.i64.wrap ((j : Int) + 1) = (j : Int) + 1 := by rw [IntKind.wrap_i64]; omega
    generalize xj.cells = XC at hr1 hr2 iX heq
    clear hxk h1 h2
    go_upto_region 6 with fail
    refine wp_region_gateT (fun w' => w'.rangeAt g1 (j * 17) XC ∧ w'.rangeAt g2 (j * 17) XC) (fun _ => True) 99 (by kernel_rfl) ?_
    have hT : (fun w' : World => w'.rangeAt g1 (j * 17) XC ∧ w'.rangeAt g2 (j * 17) XC) wr.drew := ⟨hr1, hr2⟩
    have hS : (fun _ : World => True) wr.drew := trivial
    refine ghA 0 _ hT hS ?_
    simp only [Act.put, gA, gS, gZ, sI, sZ, sS]
    refine ghA 1 _ hT hS ?_
    simp only [Act.put, gA, gS, gZ, sI, sZ, sS]
    refine ghA 2 _ hT hS ?_
    simp only [Act.put, gA, gS, gZ, sI, sZ, sS]
    refine gl 3 20 44 19 g1 (j * 17) XC (by kernel_rfl) (by kernel_rfl) (by kernel_rfl) (fun _ _ _ h => h) hT hS (by kernel_rfl) (fun _ h => h.1) uE rfl iX ?_
    simp only [Act.put, gA, gS, gZ, sI, sZ, sS]
    refine ghA 4 _ hT hS ?_
    simp only [Act.put, gA, gS, gZ, sI, sZ, sS]
    refine ghA 5 _ hT hS ?_
    simp only [Act.put, gA, gS, gZ, sI, sZ, sS]
    refine ghA 6 _ hT hS ?_
    simp only [Act.put, gA, gS, gZ, sI, sZ, sS]
    refine gl 7 24 44 23 g2 (j * 17) XC (by kernel_rfl) (by kernel_rfl) (by kernel_rfl) (fun _ _ _ h => h) hT hS (by kernel_rfl) (fun _ h => h.2) uE rfl iX ?_
    simp only [Act.put, gA, gS, gZ, sI, sZ, sS]
    refine ghA 8 (.bool false) hT hS ?_
    simp only [Act.put, gA, gS, gZ, sI, sZ, sS]
    refine wpAnyT_done (by kernel_rfl) ?_ _
    clear hT hS
    go_wp2
    go_roundw
    case rel => exact ⟨j + 1, hjn, by push_cast; rfl, hb.drew⟩
    case measure => simp [intOf]; omega
  · have hji : ¬ (j : Int) < (L.length : Int) := by omega
    go_wp2
    go_ret
    exact ⟨rfl, hb⟩
def tellD (st : Ds) (X : Ed) : Ev × Int := if X.kind = 0 then tellW st X.au X.i X.c else if X.kind = 1 then tellE st X.au X.i else if X.kind = 2 then tellG st X.au X.who X.role else if X.kind = 3 then tellT st X.au X.who else (X.e, 0)
def stepX (st : Ds) (X : Ed) : Ds := if X.kind = 0 ∨ X.kind = 1 ∨ X.kind = 2 ∨ X.kind = 3 ∨ X.kind = 4 then (if (tellD st X).2 = 0 then doS st (tellD st X).1 else st) else st
def IdsOk (N : List Nd) : Prop := ∀ n ∈ N, okDF n.id
theorem evZ0_ok : evZ0.Ok where
 dot := by unfold evZ0 evK okD; simp
 past := rfl
 pastB := fun x hx => by
  have : x = 0 := by simpa [evZ0, evK] using hx
  subst this; decide
 par := by unfold evZ0 evK okD; simp
 kind := by unfold evZ0 evK; simp
 char := by unfold evZ0 evK; simp
 who := by unfold evZ0 evK; simp
 role := by unfold evZ0 evK; simp
theorem nextE_okD {st : Ds} (hG : GoodD st) {a : Nat} (ha : a < 8) {k who role c : Int} {par : Int × Int} {r : Bool} (hp : okDF par) (hk : 0 ≤ k ∧ k ≤ 255) (hc : 0 ≤ c ∧ c ≤ 255) (hw : 0 ≤ who ∧ who ≤ 255) (hr : 0 ≤ role ∧ role ≤ 255) : (nextE st a (evK k par r c who role)).Ok where
 dot := by
  have := hG.seen ha
  have := hG.llen
  unfold nextE okD
  simp only
  omega
 past := hG.slen
 pastB := fun x hx => by have := hG.sval x hx; have := hG.llen; omega
 par := hp
 kind := hk
 char := hc
 who := hw
 role := hr
theorem okDF_zero : okDF (0, 0) := ⟨by decide, by decide⟩
theorem IdsOk.place {N : List Nd} (hN : TreeOk N) (h : IdsOk N) (i : Int) : okDF (placeN N i).1 := by
 by_cases hi : i < 0 ∨ ((textN N).length : Int) < i
 · rw [leftN_far hi]; exact okDF_zero
 · have h0 : 0 ≤ i := by omega
   have hk : i.toNat ≤ (wrN N).length := by rw [← text_len]; omega
   have hp := place_ok hN hk
   rw [Int.toNat_of_nonneg h0] at hp
   rcases hp.2.2 with q | q
   · rw [q]; exact okDF_zero
   · obtain ⟨n, hn, e⟩ := chrN_some.1 q
     rw [← e]; exact h n hn
theorem IdsOk.at_ {N : List Nd} (hN : TreeOk N) (h : IdsOk N) (i : Int) : okDF (atD (atN N i)) := by
 unfold atN
 split
 · exact okDF_zero
 · cases hq : (wrN N)[i.toNat]? with
   | none => exact okDF_zero
   | some x =>
    have hx := List.mem_of_getElem? hq
    unfold wrN at hx
    obtain ⟨n, hn, e⟩ := mem_walk hN.rooted rootS x (List.mem_filter.1 hx).1
    show okDF x
    rw [← e]; exact h n hn
theorem tellD_ok {st : Ds} (hG : GoodD st) (hI : IdsOk st.N) {X : Ed} (hX : X.Ok) : (tellD st X).1.Ok := by
 have lt8 : ∀ {fit : Bool} {least : Int}, forbN st X.au fit least = 0 → X.au.toNat < 8 := fun h => by have := (forbN_zero h).1; have := hX.au.1; omega
 unfold tellD
 split
 · unfold tellW
   split
   · exact evZ0_ok
   · split
     · exact evZ0_ok
     · rename_i h _
       exact nextE_okD hG (lt8 (by simpa using h)) (hI.place hG.tree _) (by decide) hX.c (by decide) (by decide)
 · split
   · unfold tellE
     split
     · exact evZ0_ok
     · split
       · exact evZ0_ok
       · rename_i h _
         exact nextE_okD hG (lt8 (by simpa using h)) (hI.at_ hG.tree _) (by decide) (by decide) (by decide) (by decide)
   · split
     · unfold tellG
       split
       · exact evZ0_ok
       · rename_i h
         exact nextE_okD hG (lt8 (by simpa using h)) okDF_zero (by decide) (by decide) hX.who hX.role
     · split
       · unfold tellT
         split
         · exact evZ0_ok
         · rename_i h
           exact nextE_okD hG (lt8 (by simpa using h)) okDF_zero (by decide) (by decide) hX.who (by decide)
       · exact hX.e
structure BothP (B : Nat) (W : World) (s1 s2 : Ds) (p : Pl) (q : Rp) (K : List (Nat × List Value)) : Prop where
 d : DocAt W B s1 p
 r : RDocAt W B s2 q
 g1 : GoodD s1
 g2 : GoodD s2
 rel : GoodR s2 q.K q.G
 a1 : ∀ k, docP p k → B ≤ k
 a2 : ∀ k, rdocP q k → B ≤ k
 apart : ∀ k, docP p k → ¬ rdocP q k
 kept : ∀ x ∈ K, CellsAt W x.1 44 x.2 ∧ ¬ docP p x.1 ∧ ¬ rdocP q x.1
def BothD (B : Nat) (W : World) (s1 s2 : Ds) (D Q : Nat) (K : List (Nat × List Value)) : Prop := ∃ p q, p.D = D ∧ q.D = Q ∧ BothP B W s1 s2 p q K
section
variable {B : Nat} {W W' : World} {s1 s2 : Ds} {D Q : Nat} {K : List (Nat × List Value)}
theorem BothD.far (h : BothD B W s1 s2 D Q K) (hb : Below W.heap.size W W') : BothD B W' s1 s2 D Q K := by
 obtain ⟨p, q, h1, h2, h⟩ := h
 exact ⟨p, q, h1, h2, ⟨h.d.far hb, h.r.far hb, h.g1, h.g2, h.rel, h.a1, h.a2, h.apart, fun x hx => ⟨(h.kept x hx).1.farM hb, (h.kept x hx).2⟩⟩⟩
theorem BothD.keep (h : BothD B W s1 s2 D Q K) (hb : Below W.heap.size W W') {b : Nat} {cs : List Value} (hc : CellsAt W' b 44 cs) (hl : W.heap.size ≤ b) : BothD B W' s1 s2 D Q ((b, cs) :: K) := by
 obtain ⟨p, q, h1, h2, h⟩ := h
 refine ⟨p, q, h1, h2, ⟨h.d.far hb, h.r.far hb, h.g1, h.g2, h.rel, h.a1, h.a2, h.apart, fun x hx => ?_⟩⟩
 rcases List.mem_cons.1 hx with rfl | q
 · exact ⟨hc, fun q => by have := h.d.blockLt _ q; omega, fun q => by have := h.r.blockLt _ q; omega⟩
 · exact ⟨(h.kept x q).1.farM hb, (h.kept x q).2⟩
theorem BothD.drop (h : BothD B W s1 s2 D Q K) : BothD B W s1 s2 D Q [] := by
 obtain ⟨p, q, h1, h2, h⟩ := h
 exact ⟨p, q, h1, h2, ⟨h.d, h.r, h.g1, h.g2, h.rel, h.a1, h.a2, h.apart, fun x hx => by cases hx⟩⟩
theorem BothD.cells (h : BothD B W s1 s2 D Q K) {x : Nat × List Value} (hx : x ∈ K) : CellsAt W x.1 44 x.2 := by
 obtain ⟨p, q, h1, h2, h⟩ := h
 exact (h.kept x hx).1
theorem BothD.ids (h : BothD B W s1 s2 D Q K) : IdsOk s1.N := by
 obtain ⟨p, q, h1, h2, h⟩ := h
 exact fun n hn => (h.d.tree.okId n hn).1
theorem BothD.good (h : BothD B W s1 s2 D Q K) : GoodD s1 := by
 obtain ⟨p, q, h1, h2, h⟩ := h
 exact h.g1
theorem BothD.applyD (h : BothD B W s1 s2 D Q K) {e : Ev} (he : e.Ok) (hB : B ≤ W.heap.size) :
    Calls Tryz.prog 18 #[.pointer (some ⟨D, 0, none⟩), .agg e.cells.toArray] W fun r w' => r = .returned (.int .i64 (refD s1 e)) ∧ BothD B w' (doS s1 e) s2 D Q K ∧ Below B W w' := by
 obtain ⟨p, q, rfl, h2, h⟩ := h
 refine (dApply_any B s1 p e W h.d h.g1 he hB).mono ?_
 rintro r w' ⟨h3, p3, hD3, ht⟩
 have hnew : ∀ k, k < W.heap.size → ¬ docP p k → ¬ docP p3 k := fun k hk hn q => by
  rcases ht.own k q with r | r
  · exact hn r
  · omega
 refine ⟨h3, ⟨p3, q, ht.at_, h2, ⟨hD3, h.r.turned ht.turn fun k q r => h.apart k r q, h.g1.does he, h.g2, h.rel, fun k q => ?_, h.a2, fun k q r => ?_, fun x hx => ?_⟩⟩, ht.turn.below hB h.a1⟩
 · rcases ht.own k q with r | r
   · exact h.a1 k r
   · omega
 · exact hnew k (h.r.blockLt k r) (fun s => h.apart k s r) q
 · obtain ⟨c1, c2, c3⟩ := h.kept x hx
   exact ⟨c1.congr (ht.turn.block _ c1.lt c2), hnew _ c1.lt c2, c3⟩
theorem BothD.applyR (h : BothD B W s1 s2 D Q K) {e : Ev} (he : e.Ok) (hB : B ≤ W.heap.size) :
    Calls Tryz.prog 31 #[.pointer (some ⟨Q, 0, none⟩), .agg e.cells.toArray] W fun r w' => r = .returned (.int .i64 (refD s2 e)) ∧ BothD B w' s1 (doS s2 e) D Q K ∧ Below B W w' := by
 obtain ⟨p, q, h1, rfl, h⟩ := h
 refine (rapply_any B s2 q e W h.r h.g2 h.rel he hB).mono ?_
 rintro r w' ⟨h3, q3, hD3, hR3, ht⟩
 have hnew : ∀ k, k < W.heap.size → ¬ rdocP q k → ¬ rdocP q3 k := fun k hk hn s => by
  rcases ht.own k s with r | r
  · exact hn r
  · omega
 refine ⟨h3, ⟨p, q3, h1, ht.at_, ⟨h.d.turned ht.turn fun k s r => h.apart k s r, hD3, h.g1, h.g2.does he, hR3, h.a1, fun k s => ?_, fun k s r => ?_, fun x hx => ?_⟩⟩, ht.turn.below hB h.a2⟩
 · rcases ht.own k s with r | r
   · exact h.a2 k r
   · omega
 · exact hnew k (h.d.blockLt k s) (h.apart k s) r
 · obtain ⟨c1, c2, c3⟩ := h.kept x hx
   exact ⟨c1.congr (ht.turn.block _ c1.lt c3), c2, hnew _ c1.lt c3⟩
end
open Go Go.RowKit
section
variable {P : Program} {ops : Array Oper} {Q : Exit → Act → World → Prop} {md : Region.Mode} {T S : World → Prop} {D : Nat}
theorem wpAnyT_two {i j : Nat} {oi oj : Oper} {fuel : Nat} {listed : Array Bool} {a : Act} {w : World} (hi : ops[i]? = some oi) (hj : ops[j]? = some oj) (hr : Region.ready md ops listed = [i, j])
    (hwi : Region.wanted oi (yielded ops a.tmps) = true) (hwj : Region.wanted oj (yielded ops a.tmps) = true)
    (h1 : ∀ K' : Act → World → Prop, Shut (∀ a w, T w → ((listed.setIfInBounds i true).getD D true = false → S w) → wpAnyT P md ops Q T S D fuel (listed.setIfInBounds i true) a w → K' a w) → Oper.wp P oi a w K' Q)
    (h2 : ∀ K' : Act → World → Prop, Shut (∀ a w, T w → ((listed.setIfInBounds j true).getD D true = false → S w) → wpAnyT P md ops Q T S D fuel (listed.setIfInBounds j true) a w → K' a w) → Oper.wp P oj a w K' Q) : wpAnyT P md ops Q T S D (fuel + 1) listed a w :=
 ⟨fun h0 => (by rw [hr] at h0; cases h0), fun q hq => by
  rw [hr] at hq
  rcases List.mem_cons.1 hq with rfl | hq
  · refine wpOp_step hi (fun K' hK => ?_)
    rw [if_pos hwi]
    exact h1 K' (fun a w h0 h1 h2 => hK a w ⟨⟨h0, h1⟩, h2⟩)
  · obtain rfl : q = j := by simpa using hq
    refine wpOp_step hj (fun K' hK => ?_)
    rw [if_pos hwj]
    exact h2 K' (fun a w h0 h1 h2 => hK a w ⟨⟨h0, h1⟩, h2⟩)⟩
end
end Go.Proofs.YtmbdohnmbkpfaaaGreat
