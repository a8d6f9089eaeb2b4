/- De22 Ht2 Ht3 Hv2 -/
import Derived.Test.YtmbdohnmbkpfaaaGreatV45
import Derived.Test.YtmbdohnmbkpfaaaGreatV42
import Derived.Test.YtmbdohnmbkpfaaaGreatV38
namespace Go.Proofs.YtmbdohnmbkpfaaaGreat
open Go.RowKit Go.Shelf
set_option maxRecDepth 20000
set_option linter.unusedSimpArgs false
theorem act_force {st : Ds} {K : List Ent} {G : List Bool} (hR : GoodR st K G) {e : Ev} (hr : refD st e = 0) (hk : ¬ (e.kind = 1 ∨ e.kind = 2)) (h3 : 3 ≤ roleP st.B e.da e.past) : e.dot ∈ (apS st e).F := by
 obtain ⟨-, a2, -⟩ := hR.addK hr hk
 have h4 := hR.good.three e.da e.past
 rw [hR.role] at a2 h4
 exact actF_mem.2 (.inr ⟨by rw [a2]; simp; omega, rfl⟩)
structure TellsB (st : Ds) (e : Ev) : Prop where
 ok : e.Ok
 ref : refD st e = 0
 force : e.dot ∈ (apS st e).F
theorem tells_g {st : Ds} {K : List Ent} {G : List Bool} (h : Reach st K G) {au who role : Int} (hau : 0 ≤ au) (hw0 : 0 ≤ who) : ∃ e F, tellG st au who role = (e, F) ∧ e.past.length = 8 ∧ (F ≠ 0 ∨ (F = 0 ∧ TellsB st e)) := by
 obtain ⟨hg, hR⟩ := h.good
 unfold tellG
 by_cases hf : forbN st au (decide (who < 8) && (decide (1 ≤ role) && decide (role ≤ 3))) 3 = 0
 · obtain ⟨f1, f2, f3, f4⟩ := forbN_zero hf
   simp only [Bool.and_eq_true, decide_eq_true_eq] at f2
   have ha : au.toNat < 8 := by omega
   have hr := told_ready (right_give hg ha f2.1 f2.2.1 f2.2.2) f3
   have hok : (nextE st au.toNat (evK 3 (0, 0) false 0 who role)).Ok := nextE_okD hg ha okDF_zero (by decide) (by decide) ⟨hw0, by omega⟩ ⟨by omega, by omega⟩
   exact ⟨_, _, by rw [if_neg (fun q => q hf)], hok.past, .inr ⟨rfl, hok, hr, act_force hR hr (by show ¬ ((3 : Int) = 1 ∨ (3 : Int) = 2); decide) (by show 3 ≤ roleP st.B ((au.toNat : Nat) : Int) st.S; rw [Int.toNat_of_nonneg hau]; exact f4)⟩⟩
 · exact ⟨_, _, by rw [if_pos hf], rfl, .inl hf⟩
theorem tells_t {st : Ds} {K : List Ent} {G : List Bool} (h : Reach st K G) {au who : Int} (hau : 0 ≤ au) (hw0 : 0 ≤ who) : ∃ e F, tellT st au who = (e, F) ∧ e.past.length = 8 ∧ (F ≠ 0 ∨ (F = 0 ∧ TellsB st e)) := by
 obtain ⟨hg, hR⟩ := h.good
 unfold tellT
 by_cases hf : forbN st au (decide (who < 8)) 3 = 0
 · obtain ⟨f1, f2, f3, f4⟩ := forbN_zero hf
   simp only [decide_eq_true_eq] at f2
   have ha : au.toNat < 8 := by omega
   have hr := told_ready (right_take hg ha f2) f3
   have hok : (nextE st au.toNat (evK 4 (0, 0) false 0 who 0)).Ok := nextE_okD hg ha okDF_zero (by decide) (by decide) ⟨hw0, by omega⟩ (by decide)
   exact ⟨_, _, by rw [if_neg (fun q => q hf)], hok.past, .inr ⟨rfl, hok, hr, act_force hR hr (by show ¬ ((4 : Int) = 1 ∨ (4 : Int) = 2); decide) (by show 3 ≤ roleP st.B ((au.toNat : Nat) : Int) st.S; rw [Int.toNat_of_nonneg hau]; exact f4)⟩⟩
 · exact ⟨_, _, by rw [if_pos hf], rfl, .inl hf⟩
def AtD (base : Nat) (W : World) (st : Ds) (D : Nat) : Prop := ∃ p, p.D = D ∧ DocAt W base st p ∧ ∀ k, docP p k → base ≤ k
theorem AtD.far {base : Nat} {W W' : World} {st : Ds} {D : Nat} (h : AtD base W st D) (hb : Below W.heap.size W W') : AtD base W' st D := by
 obtain ⟨p, h1, h2, h3⟩ := h
 exact ⟨p, h1, h2.far hb, h3⟩
theorem AtD.to {base : Nat} {W W' : World} {st' : Ds} {D : Nat} {p p' : Pl} (hD : p.D = D) (ha : ∀ k, docP p k → base ≤ k) (h : DocAt W' base st' p') (ht : DocTo p p' W W') (hb : base ≤ W.heap.size) : AtD base W' st' D ∧ Below base W W' :=
 ⟨⟨p', ht.at_.trans hD, h, fun k q => by
  rcases ht.own k q with r | r
  · exact ha k r
  · omega⟩, ht.turn.below hb ha⟩
theorem AtD.new (w : World) : Calls Tryz.prog 15 #[] w fun r w' => ∃ D, r = .returned (.pointer (some ⟨D, 0, none⟩)) ∧ AtD w.heap.size w' newS D ∧ Below w.heap.size w w' :=
 (dNew_any w).mono fun _ _ ⟨p, h1, h2, h3, h4⟩ => ⟨p.D, h1, ⟨p, rfl, h2, h4⟩, h3⟩
def playD (L : List Ev) : Ds := L.foldl doS newS
def Made (st : Ds) : Prop := playD st.L = st
theorem Made.new : Made newS := rfl
theorem playD_snoc (L : List Ev) (e : Ev) : playD (L ++ [e]) = doS (playD L) e := by unfold playD; rw [List.foldl_append]; rfl
theorem Made.ap {st : Ds} (h : Made st) {e : Ev} (hr : refD st e = 0) : Made (apS st e) := by
 unfold Made at *
 show playD (st.L ++ [e]) = _
 rw [playD_snoc, h]
 exact if_pos hr
theorem GoodD.play {L : List Ev} (h : ∀ e ∈ L, e.Ok) : GoodD (playD L) := by
 have key : ∀ (L : List Ev) (st : Ds), GoodD st → (∀ e ∈ L, e.Ok) → GoodD (L.foldl doS st) := fun L => by
  induction L with
  | nil => exact fun st h _ => h
  | cons e L ih => exact fun st h he => ih _ (h.does (he e (by simp))) (fun x hx => he x (by simp [hx]))
 exact key L newS GoodD.new h
theorem OwnI.turnedD {p : Nat → Prop} {w w' : World} {base : Nat} {t : TypeId} {k : Nat} {v : Value} {L : List (List Value)} (h : OwnI w base t k v L) (ht : Turn p w w') (hp : ∀ g, v.ownBlock = some g → ¬ p g) : OwnI w' base t k v L := h.congr fun g hg => ht.block g (h.blockLt g hg).1 (hp g hg)
structure CopI (w0 wr : World) (B : Nat) (D : Nat) (v : Value) (L : List Ev) (i : Nat) (p : Pl) : Prop where
 at_ : p.D = D
 doc : DocAt wr w0.heap.size (playD (L.take i)) p
 above : ∀ k, docP p k → w0.heap.size ≤ k
 own : OwnI wr B 44 17 v (L.map Ev.cells)
 apart : ∀ g, v.ownBlock = some g → ¬ docP p g
 below : Below w0.heap.size w0 wr
theorem CopI.to {w0 wr w' : World} {B D : Nat} {v : Value} {L : List Ev} {i : Nat} {p p' : Pl} (h : CopI w0 wr B D v L i p) (hi : i < L.length) (hD : DocAt w' w0.heap.size (doS (playD (L.take i)) L[i]) p') (ht : DocTo p p' wr w') : CopI w0 w' B D v L (i + 1) p' where
 at_ := ht.at_.trans h.at_
 doc := by rw [List.take_succ_eq_append_getElem hi, playD_snoc]; exact hD
 above := fun k q => by
  rcases ht.own k q with r | r
  · exact h.above k r
  · have := h.below.size; omega
 own := h.own.turnedD ht.turn h.apart
 apart := fun g hg q => by
  rcases ht.own g q with r | r
  · exact h.apart g hg r
  · have := (h.own.blockLt g hg).1; omega
 below := h.below.trans (ht.turn.below h.below.size h.above)
theorem DocAt.lessD {w : World} {base base' : Nat} {st : Ds} {p : Pl} (h : DocAt w base st p) (hb : base' ≤ base) : DocAt w base' st p := ⟨h.box, h.tree.lessD hb, h.book, h.evs.less hb, h.force, h.apart⟩
structure TwoP (B : Nat) (W : World) (s1 s2 : Ds) (p1 p2 : Pl) (K : List (Nat × List Value)) : Prop where
 d1 : DocAt W B s1 p1
 d2 : DocAt W B s2 p2
 a1 : ∀ k, docP p1 k → B ≤ k
 a2 : ∀ k, docP p2 k → B ≤ k
 apart : ∀ k, docP p1 k → ¬ docP p2 k
 kept : ∀ x ∈ K, CellsAt W x.1 44 x.2 ∧ ¬ docP p1 x.1 ∧ ¬ docP p2 x.1
def TwoD (B : Nat) (W : World) (s1 s2 : Ds) (D1 D2 : Nat) (K : List (Nat × List Value)) : Prop := ∃ p1 p2, p1.D = D1 ∧ p2.D = D2 ∧ TwoP B W s1 s2 p1 p2 K
section
variable {B : Nat} {W W' : World} {s1 s2 : Ds} {D1 D2 : Nat} {K : List (Nat × List Value)}
theorem TwoD.swap (h : TwoD B W s1 s2 D1 D2 K) : TwoD B W s2 s1 D2 D1 K := by
 obtain ⟨p1, p2, h1, h2, h⟩ := h
 exact ⟨p2, p1, h2, h1, ⟨h.d2, h.d1, h.a2, h.a1, fun k q r => h.apart k r q, fun x hx => ⟨(h.kept x hx).1, (h.kept x hx).2.2, (h.kept x hx).2.1⟩⟩⟩
theorem TwoD.far (h : TwoD B W s1 s2 D1 D2 K) (hb : Below W.heap.size W W') : TwoD B W' s1 s2 D1 D2 K := by
 obtain ⟨p1, p2, h1, h2, h⟩ := h
 exact ⟨p1, p2, h1, h2, ⟨h.d1.far hb, h.d2.far hb, h.a1, h.a2, h.apart, fun x hx => ⟨(h.kept x hx).1.farM hb, (h.kept x hx).2⟩⟩⟩
theorem TwoD.keep (h : TwoD B W s1 s2 D1 D2 K) (hb : Below W.heap.size W W') {b : Nat} {cs : List Value} (hc : CellsAt W' b 44 cs) (hl : W.heap.size ≤ b) : TwoD B W' s1 s2 D1 D2 ((b, cs) :: K) := by
 obtain ⟨p1, p2, h1, h2, h⟩ := h
 refine ⟨p1, p2, h1, h2, ⟨h.d1.far hb, h.d2.far hb, h.a1, h.a2, h.apart, fun x hx => ?_⟩⟩
 rcases List.mem_cons.1 hx with rfl | q
 · exact ⟨hc, fun q => by have := h.d1.blockLt _ q; omega, fun q => by have := h.d2.blockLt _ q; omega⟩
 · exact ⟨(h.kept x q).1.farM hb, (h.kept x q).2⟩
theorem TwoD.cells (h : TwoD B W s1 s2 D1 D2 K) {x : Nat × List Value} (hx : x ∈ K) : CellsAt W x.1 44 x.2 := by
 obtain ⟨p1, p2, h1, h2, h⟩ := h
 exact (h.kept x hx).1
theorem TwoD.fst (h : TwoD B W s1 s2 D1 D2 K) : AtD B W s1 D1 := by
 obtain ⟨p1, p2, h1, h2, h⟩ := h
 exact ⟨p1, h1, h.d1, h.a1⟩
theorem TwoD.apply (h : TwoD B W s1 s2 D1 D2 K) (hG : GoodD s1) {e : Ev} (he : e.Ok) (hr : refD s1 e = 0) (hB : B ≤ W.heap.size) :
    Calls Tryz.prog 18 #[.pointer (some ⟨D1, 0, none⟩), .agg e.cells.toArray] W fun r w' => r = .returned (.int .i64 0) ∧ TwoD B w' (apS s1 e) s2 D1 D2 K ∧ Below B W w' := by
 obtain ⟨p1, p2, rfl, h2, h⟩ := h
 have hdo : doS s1 e = apS s1 e := if_pos hr
 have hap := dApply_any B s1 p1 e W h.d1 hG he hB
 rw [hr, hdo] at hap
 refine hap.mono ?_
 rintro r w' ⟨h3, p3, hD3, ht⟩
 have hnew : ∀ k, k < W.heap.size → ¬ docP p1 k → ¬ docP p3 k := fun k hk hn q => by
  rcases ht.own k q with r | r
  · exact hn r
  · omega
 refine ⟨h3, ⟨p3, p2, ht.at_, h2, ⟨hD3, h.d2.turned ht.turn fun k q r => h.apart k r q, fun k q => ?_, h.a2, fun k q r => ?_, fun x hx => ?_⟩⟩, ht.turn.below hB h.a1⟩
 · rcases ht.own k q with r | r
   · exact h.a1 k r
   · omega
 · exact hnew k (h.d2.blockLt k r) (fun s => h.apart k s r) q
 · obtain ⟨c1, c2, c3⟩ := h.kept x hx
   exact ⟨c1.congr (ht.turn.block _ c1.lt c2), hnew _ c1.lt c2, c3⟩
end
theorem TwoD.made {B1 B2 : Nat} {W1 W : World} {s1 s2 : Ds} {D1 D2 : Nat} (h1 : AtD B1 W1 s1 D1) (hb : Below W1.heap.size W1 W) (h2 : AtD B2 W s2 D2) (hB : B1 ≤ B2) (hl : W1.heap.size ≤ B2) : TwoD B1 W s1 s2 D1 D2 [] := by
 obtain ⟨p1, e1, d1, a1⟩ := h1
 obtain ⟨p2, e2, d2, a2⟩ := h2
 exact ⟨p1, p2, e1, e2, ⟨d1.far hb, d2.lessD hB, a1, fun k q => Nat.le_trans hB (a2 k q), fun k q r => by have := d1.blockLt k q; have := a2 k r; omega, fun x hx => by cases hx⟩⟩
theorem AtD.force {base : Nat} {W : World} {st : Ds} {D : Nat} (h : AtD base W st D) (hG : GoodD st) (x : Int × Int) (hx : okDF x) : Calls Tryz.prog 19 #[.pointer (some ⟨D, 0, none⟩), .agg (encF x).toArray] W fun r w' => r = .returned (.bool (decide (x ∈ st.F))) ∧ Below W.heap.size W w' := by
 obtain ⟨p, rfl, hD, -⟩ := h
 exact dForce_any base st p x hx W hD hG
theorem AtD.text {base : Nat} {W : World} {st : Ds} {D : Nat} (h : AtD base W st D) (hG : GoodD st) : Calls Tryz.prog 20 #[.pointer (some ⟨D, 0, none⟩)] W fun r w' => ∃ v, r = .returned v ∧ OwnB w' W.heap.size v (textN st.N) ∧ Below W.heap.size W w' := by
 obtain ⟨p, rfl, hD, -⟩ := h
 exact dText_any base st p W hD hG
theorem AtD.write {base : Nat} {W : World} {st : Ds} {D : Nat} (h : AtD base W st D) (hG : GoodD st) (a i c : Int) (ha : 0 ≤ a) (hi : i ≤ 9223372036854775807) : Calls Tryz.prog 25 #[.pointer (some ⟨D, 0, none⟩), .int .u8 a, .int .i64 i, .int .u8 c] W fun r w' => r = .returned (.tuple #[.agg (tellW st a i c).1.cells.toArray, .int .i64 (tellW st a i c).2]) ∧ Below W.heap.size W w' := by
 obtain ⟨p, rfl, hD, -⟩ := h
 exact dWrite_any base st p a i c W hD hG ha hi
end Go.Proofs.YtmbdohnmbkpfaaaGreat
