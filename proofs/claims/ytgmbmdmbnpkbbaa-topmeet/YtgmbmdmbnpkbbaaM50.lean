/- FewT Mt4 -/
import Derived.Test.YtgmbmdmbnpkbbaaM14
import Derived.Test.YtgmbmdmbnpkbbaaM49
namespace Go.Proofs.Ytgmbmdmbnpkbbaa
open Go.RowKit
theorem fewT_any (x : Option Addr) (len cap n : Nat) (z : List Int) (w : World) (h : Bytes w x len cap z) (hn : 0 < n) (hn2 : n ≤ 1000000) :
    Calls Try.prog 17 #[.slice x len cap, .int .i64 n] w fun e w' => e = .returned (.slice x (min len n) cap) ∧ w = w' := by
  have hle := h.le
  have htop := h.top
  by_cases hlt : n < len
  · obtain ⟨b, off, rfl⟩ : ∃ b off, x = some ⟨b, off, none⟩ := by
      rcases h.at_ with h0 | ⟨b, off, hx, _⟩
      · omega
      · exact ⟨b, off, hx⟩
    rw [Nat.min_eq_right (by omega)]
    go_enter Try.func17, Try.ntmps17
    go_wp2
    go_ret
    exact ⟨rfl, rfl⟩
  · rw [Nat.min_eq_left (by omega)]
    go_enter Try.func17, Try.ntmps17
    go_wp2
    go_ret
    exact ⟨rfl, rfl⟩
open Go.RowKit Go.Shelf
set_option maxRecDepth 20000
set_option linter.unusedSimpArgs false
structure HearP (B : Nat) (W : World) (X Y : Ds) (p1 p2 : Pl) (vl vm : Value) (L M : List Ev) : Prop where
  two : TwoP B W X Y p1 p2 []
  ol : OwnI W B 32 17 vl (L.map Ev.cells)
  om : OwnI W B 32 17 vm (M.map Ev.cells)
  al : ∀ g, vl.ownBlock = some g → ¬ docP p1 g ∧ ¬ docP p2 g
  am : ∀ g, vm.ownBlock = some g → ¬ docP p1 g ∧ ¬ docP p2 g
def Hear (B : Nat) (W : World) (X Y : Ds) (D1 D2 : Nat) (vl vm : Value) (L M : List Ev) : Prop := ∃ p1 p2, p1.D = D1 ∧ p2.D = D2 ∧ HearP B W X Y p1 p2 vl vm L M
section
variable {B : Nat} {W W' : World} {X Y : Ds} {D1 D2 : Nat} {vl vm : Value} {L M : List Ev}
theorem Hear.twoD (h : Hear B W X Y D1 D2 vl vm L M) : TwoD B W X Y D1 D2 [] := by
  obtain ⟨p1, p2, h1, h2, h⟩ := h
  exact ⟨p1, p2, h1, h2, h.two⟩
theorem Hear.ol (h : Hear B W X Y D1 D2 vl vm L M) : OwnI W B 32 17 vl (L.map Ev.cells) := by
  obtain ⟨p1, p2, h1, h2, h⟩ := h
  exact h.ol
theorem Hear.om (h : Hear B W X Y D1 D2 vl vm L M) : OwnI W B 32 17 vm (M.map Ev.cells) := by
  obtain ⟨p1, p2, h1, h2, h⟩ := h
  exact h.om
theorem Hear.swap (h : Hear B W X Y D1 D2 vl vm L M) : Hear B W Y X D2 D1 vl vm L M := by
  obtain ⟨p1, p2, h1, h2, h⟩ := h
  exact ⟨p2, p1, h2, h1, ⟨⟨h.two.d2, h.two.d1, h.two.a2, h.two.a1, fun k q r => h.two.apart k r q, fun x hx => by cases hx⟩, h.ol, h.om, fun g q => ⟨(h.al g q).2, (h.al g q).1⟩, fun g q => ⟨(h.am g q).2, (h.am g q).1⟩⟩⟩
theorem Hear.made {W1 W2 : World} (h : TwoD B W X Y D1 D2 []) (hB : B ≤ W.heap.size) (hb1 : Below W.heap.size W W1) (ol : OwnI W1 W.heap.size 32 17 vl (L.map Ev.cells)) (hb2 : Below W1.heap.size W1 W2) (om : OwnI W2 W1.heap.size 32 17 vm (M.map Ev.cells)) : Hear B W2 X Y D1 D2 vl vm L M := by
  have hd := h
  obtain ⟨p1, p2, h1, h2, h⟩ := hd
  have hs := hb1.size
  have hb := hb1.trans (hb2.mono hs)
  refine ⟨p1, p2, h1, h2, ⟨⟨h.d1.far hb, h.d2.far hb, h.a1, h.a2, h.apart, fun x hx => by cases hx⟩, (ol.far hb2).less hB, om.less (Nat.le_trans hB hs), fun g q => ?_, fun g q => ?_⟩⟩
  · have := (ol.blockLt g q).2.1
    exact ⟨fun r => by have := h.d1.blockLt g r; omega, fun r => by have := h.d2.blockLt g r; omega⟩
  · have := (om.blockLt g q).2.1
    exact ⟨fun r => by have := h.d1.blockLt g r; omega, fun r => by have := h.d2.blockLt g r; omega⟩
theorem Hear.hear (h : Hear B W X Y D1 D2 vl vm L M) (hG : GoodD X) {e : Ev} (he : e.Ok) (hB : B ≤ W.heap.size) :
    Calls Try.prog 12 #[.pointer (some ⟨D1, 0, none⟩), .agg e.cells.toArray] W fun r w' => r = .returned (.int .i64 (refD X e)) ∧ Hear B w' (doS X e) Y D1 D2 vl vm L M ∧ Below B W w' := by
  obtain ⟨p1, p2, rfl, h2, h⟩ := h
  refine (dApply_any B X p1 e W h.two.d1 hG he hB).mono ?_
  rintro r w' ⟨h3, p3, hD3, ht⟩
  have hnew : ∀ k, k < W.heap.size → ¬ docP p1 k → ¬ docP p3 k := fun k hk hn q => by
    rcases ht.own k q with r | r
    · exact hn r
    · omega
  refine ⟨h3, ⟨p3, p2, ht.at_, h2, ⟨⟨hD3, h.two.d2.turned ht.turn fun k q r => h.two.apart k r q, fun k q => ?_, h.two.a2, fun k q r => ?_, fun x hx => by cases hx⟩, h.ol.turnedD ht.turn fun g q => (h.al g q).1, h.om.turnedD ht.turn fun g q => (h.am g q).1, fun g q => ?_, fun g q => ?_⟩⟩, ht.turn.below hB h.two.a1⟩
  · rcases ht.own k q with r | r
    · exact h.two.a1 k r
    · omega
  · exact hnew k (h.two.d2.blockLt k r) (fun s => h.two.apart k s r) q
  · exact ⟨hnew g (h.ol.blockLt g q).1 (h.al g q).1, (h.al g q).2⟩
  · exact ⟨hnew g (h.om.blockLt g q).1 (h.am g q).1, (h.am g q).2⟩
end
theorem GoodD.plays {st : Ds} (h : GoodD st) {L : List Ev} (hL : ∀ e ∈ L, e.Ok) : GoodD (L.foldl doS st) := by
  induction L generalizing st with
  | nil => exact h
  | cons e L ih => exact ih (h.does (hL e (by simp))) (fun x hx => hL x (by simp [hx]))
theorem plays_next (st : Ds) {L : List Ev} {i : Nat} (h : i < L.length) : (L.take (i + 1)).foldl doS st = doS ((L.take i).foldl doS st) L[i] := by
  rw [List.take_succ_eq_append_getElem h, List.foldl_append, List.foldl_cons, List.foldl_nil]
theorem AtD.events {base : Nat} {W : World} {st : Ds} {D : Nat} (h : AtD base W st D) (hG : GoodD st) : Calls Try.prog 19 #[.pointer (some ⟨D, 0, none⟩)] W fun r w' => ∃ x c, r = .returned (.slice x st.L.length c) ∧ OwnI w' W.heap.size 32 17 (.slice x st.L.length c) (st.L.map Ev.cells) ∧ Below W.heap.size W w' := by
  obtain ⟨p, rfl, hD, -⟩ := h
  refine (dEvents_any base st p W hD hG).mono ?_
  rintro r w' ⟨v, h1, h2, h3⟩
  obtain ⟨x, c, hv⟩ := h2.isSlice
  rw [List.length_map] at hv
  subst hv
  exact ⟨x, c, h1, h2, h3⟩
theorem wordL_at {z : List Int} {i : Nat} (h : i < z.length) : (wordL z)[i]?.getD 0 = charC (z[i]?.getD 0) := by
  unfold wordL
  rw [List.getElem?_map, List.getElem?_eq_getElem h]; rfl
theorem wordL_len (z : List Int) : (wordL z).length = z.length := by unfold wordL; rw [List.length_map]
theorem stepsA (r1 : refD newS vE1 = 0) {z : List Int} (hl : z.length ≤ 10) : Steps (stA (wordL z)) (evA (wordL z)) 0 z := by
  have hw := wordL_ok hl
  have hn := wordL_len z
  have key : ∀ i, i ≤ z.length → WI (wordL z) (wordL z) (stA (wordL z) i) i 0 := fun i hi => (stA_ok r1 hw i (by omega)).1
  refine ⟨fun i hi => (key i hi).mi.good, fun i hi => ?_, fun i hi => evA_ok hw (by omega), fun i hi => (key i (by omega)).mi.refA hw (by omega) (by omega), fun i hi => (stA_succ _ i).trans (if_pos ((key i (by omega)).mi.refA hw (by omega) (by omega)))⟩
  rw [← wordL_at hi]
  exact (key i (by omega)).tellA hw hw (by omega)
theorem stepsB (r1 : refD newS vE1 = 0) {z : List Int} (hl : z.length ≤ 10) : Steps (stB (wordL z)) (evB (wordL z)) 1 z := by
  have hw := wordL_ok hl
  have hn := wordL_len z
  have key : ∀ i, i ≤ z.length → WI (wordL z) (wordL z) (stB (wordL z) i) 0 i := fun i hi => (stB_ok r1 hw i (by omega)).1
  refine ⟨fun i hi => (key i hi).mi.good, fun i hi => ?_, fun i hi => evB_ok hw (by omega), fun i hi => (key i (by omega)).mi.refB hw (by omega) (by omega), fun i hi => (stB_succ _ i).trans (if_pos ((key i (by omega)).mi.refB hw (by omega) (by omega)))⟩
  rw [← wordL_at hi]
  exact (key i (by omega)).tellB hw hw (by omega)
theorem str_add (a b : List Int) : strOfNums a ++ strOfNums b = strOfNums (a ++ b) := by
  apply ByteArray.ext
  simp [ByteArray.data_append, strOfNums]
end Go.Proofs.Ytgmbmdmbnpkbbaa
