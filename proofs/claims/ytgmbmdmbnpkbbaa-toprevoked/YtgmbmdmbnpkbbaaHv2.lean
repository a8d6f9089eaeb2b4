/- top05: two documents beside one another, and events beside them. -/
import Derived.Test.YtgmbmdmbnpkbbaaMHt2Dc18Ht3
import Derived.Test.YtgmbmdmbnpkbbaaDc16
namespace Go.Proofs.Ytgmbmdmbnpkbbaa
open Go.RowKit Go.Shelf
set_option maxRecDepth 20000
set_option linter.unusedSimpArgs false
theorem DocAt.lessD {w : World} {base base' : Nat} {st : Ds} {p : Pl} (h : DocAt w base st p) (hb : base' ≤ base) : DocAt w base' st p := ⟨h.box, h.tree.lessD hb, h.book, h.evs.less hb, h.force, h.apart⟩
/-- Two documents, apart, and events in blocks K, apart from both. -/
structure TwoP (B : Nat) (W : World) (s1 s2 : Ds) (p1 p2 : Pl) (K : List (Nat × List Value)) : Prop where
  d1 : DocAt W B s1 p1
  d2 : DocAt W B s2 p2
  a1 : ∀ k, docP p1 k → B ≤ k
  a2 : ∀ k, docP p2 k → B ≤ k
  apart : ∀ k, docP p1 k → ¬ docP p2 k
  kept : ∀ x ∈ K, CellsAt W x.1 32 x.2 ∧ ¬ docP p1 x.1 ∧ ¬ docP p2 x.1
def TwoD (B : Nat) (W : World) (s1 s2 : Ds) (D1 D2 : Nat) (K : List (Nat × List Value)) : Prop := ∃ p1 p2, p1.D = D1 ∧ p2.D = D2 ∧ TwoP B W s1 s2 p1 p2 K
section
variable {B : Nat} {W W' : World} {s1 s2 : Ds} {D1 D2 : Nat} {K : List (Nat × List Value)}
theorem TwoD.swap (h : TwoD B W s1 s2 D1 D2 K) : TwoD B W s2 s1 D2 D1 K := by
  obtain ⟨p1, p2, h1, h2, h⟩ := h
  exact ⟨p2, p1, h2, h1, ⟨h.d2, h.d1, h.a2, h.a1, fun k q r => h.apart k r q, fun x hx => ⟨(h.kept x hx).1, (h.kept x hx).2.2, (h.kept x hx).2.1⟩⟩⟩
theorem TwoD.far (h : TwoD B W s1 s2 D1 D2 K) (hb : Below W.heap.size W W') : TwoD B W' s1 s2 D1 D2 K := by
  obtain ⟨p1, p2, h1, h2, h⟩ := h
  exact ⟨p1, p2, h1, h2, ⟨h.d1.far hb, h.d2.far hb, h.a1, h.a2, h.apart, fun x hx => ⟨(h.kept x hx).1.farM hb, (h.kept x hx).2⟩⟩⟩
theorem TwoD.keep (h : TwoD B W s1 s2 D1 D2 K) (hb : Below W.heap.size W W') {b : Nat} {cs : List Value} (hc : CellsAt W' b 32 cs) (hl : W.heap.size ≤ b) : TwoD B W' s1 s2 D1 D2 ((b, cs) :: K) := by
  obtain ⟨p1, p2, h1, h2, h⟩ := h
  refine ⟨p1, p2, h1, h2, ⟨h.d1.far hb, h.d2.far hb, h.a1, h.a2, h.apart, fun x hx => ?_⟩⟩
  rcases List.mem_cons.1 hx with rfl | q
  · exact ⟨hc, fun q => by have := h.d1.blockLt _ q; omega, fun q => by have := h.d2.blockLt _ q; omega⟩
  · exact ⟨(h.kept x q).1.farM hb, (h.kept x q).2⟩
theorem TwoD.cells (h : TwoD B W s1 s2 D1 D2 K) {x : Nat × List Value} (hx : x ∈ K) : CellsAt W x.1 32 x.2 := by
  obtain ⟨p1, p2, h1, h2, h⟩ := h
  exact (h.kept x hx).1
theorem TwoD.fst (h : TwoD B W s1 s2 D1 D2 K) : AtD B W s1 D1 := by
  obtain ⟨p1, p2, h1, h2, h⟩ := h
  exact ⟨p1, h1, h.d1, h.a1⟩
theorem TwoD.apply (h : TwoD B W s1 s2 D1 D2 K) (hG : GoodD s1) {e : Ev} (he : e.Ok) (hr : refD s1 e = 0) (hB : B ≤ W.heap.size) :
    Calls Try.prog 12 #[.pointer (some ⟨D1, 0, none⟩), .agg e.cells.toArray] W fun r w' => r = .returned (.int .i64 0) ∧ TwoD B w' (apS s1 e) s2 D1 D2 K ∧ Below B W w' := by
  obtain ⟨p1, p2, rfl, h2, h⟩ := h
  have hdo : doS s1 e = apS s1 e := if_pos hr
  have hap := dApply_any B s1 p1 e W h.d1 hG he hB
  rw [hr, hdo] at hap
  refine hap.mono ?_
  rintro r w' ⟨h3, p3, hD3, ht⟩
  have hnew : ∀ k, k < W.heap.size → ¬ docP p1 k → ¬ docP p3 k := fun k hk hn q => by
    rcases ht.own k q with r | r
    · exact hn r
    · omega
  refine ⟨h3, ⟨p3, p2, ht.at_, h2, ⟨hD3, h.d2.turned ht.turn fun k q r => h.apart k r q, fun k q => ?_, h.a2, fun k q r => ?_, fun x hx => ?_⟩⟩, ht.turn.below hB h.a1⟩
  · rcases ht.own k q with r | r
    · exact h.a1 k r
    · omega
  · exact hnew k (h.d2.blockLt k r) (fun s => h.apart k s r) q
  · obtain ⟨c1, c2, c3⟩ := h.kept x hx
    exact ⟨c1.congr (ht.turn.block _ c1.lt c2), hnew _ c1.lt c2, c3⟩
end
theorem TwoD.made {B1 B2 : Nat} {W1 W : World} {s1 s2 : Ds} {D1 D2 : Nat} (h1 : AtD B1 W1 s1 D1) (hb : Below W1.heap.size W1 W) (h2 : AtD B2 W s2 D2) (hB : B1 ≤ B2) (hl : W1.heap.size ≤ B2) : TwoD B1 W s1 s2 D1 D2 [] := by
  obtain ⟨p1, e1, d1, a1⟩ := h1
  obtain ⟨p2, e2, d2, a2⟩ := h2
  exact ⟨p1, p2, e1, e2, ⟨d1.far hb, d2.lessD hB, a1, fun k q => Nat.le_trans hB (a2 k q), fun k q r => by have := d1.blockLt k q; have := a2 k r; omega, fun x hx => by cases hx⟩⟩
theorem AtD.force {base : Nat} {W : World} {st : Ds} {D : Nat} (h : AtD base W st D) (hG : GoodD st) (x : Int × Int) (hx : okDF x) : Calls Try.prog 14 #[.pointer (some ⟨D, 0, none⟩), .agg (encF x).toArray] W fun r w' => r = .returned (.bool (decide (x ∈ st.F))) ∧ Below W.heap.size W w' := by
  obtain ⟨p, rfl, hD, -⟩ := h
  exact dForce_any base st p x hx W hD hG
theorem AtD.text {base : Nat} {W : World} {st : Ds} {D : Nat} (h : AtD base W st D) (hG : GoodD st) : Calls Try.prog 15 #[.pointer (some ⟨D, 0, none⟩)] W fun r w' => ∃ v, r = .returned v ∧ OwnB w' W.heap.size v (textN st.N) ∧ Below W.heap.size W w' := by
  obtain ⟨p, rfl, hD, -⟩ := h
  exact dText_any base st p W hD hG
theorem AtD.vector {base : Nat} {W : World} {st : Ds} {D : Nat} (h : AtD base W st D) (hG : GoodD st) : Calls Try.prog 13 #[.pointer (some ⟨D, 0, none⟩)] W fun r w' => r = .returned (.agg (row .u32 st.S)) ∧ Below W.heap.size W w' := by
  obtain ⟨p, rfl, hD, -⟩ := h
  exact dVector_any base st p W hD hG
theorem AtD.write {base : Nat} {W : World} {st : Ds} {D : Nat} (h : AtD base W st D) (hG : GoodD st) (a i c : Int) (ha : 0 ≤ a) (hi : i ≤ 9223372036854775807) : Calls Try.prog 10 #[.pointer (some ⟨D, 0, none⟩), .int .u8 a, .int .i64 i, .int .u8 c] W fun r w' => r = .returned (.tuple #[.agg (tellW st a i c).1.cells.toArray, .int .i64 (tellW st a i c).2]) ∧ Below W.heap.size W w' := by
  obtain ⟨p, rfl, hD, -⟩ := h
  exact dWrite_any base st p a i c W hD hG ha hi
end Go.Proofs.Ytgmbmdmbnpkbbaa

