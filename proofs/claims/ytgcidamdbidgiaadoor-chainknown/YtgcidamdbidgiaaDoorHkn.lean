/- chain: what stays beside a chain; a frame that is the next one, and one beside it; two or three operations that may come up. -/
import Derived.Test.YtgcidamdbidgiaaDoorHz3
import Derived.Test.YtgcidamdbidgiaaDoorHl2
namespace Go.Proofs.YtgcidamdbidgiaaDoor
open Go Go.RowKit
set_option maxRecDepth 20000
set_option linter.unusedSimpArgs false

/-- A chain, and blocks that it does not reach. -/
structure Keeps (W : World) (s H b : Nat) (v : Value) (T : Sms) (P : List Pf) (L : List (Nat × TypeId × List Value)) : Prop where
  c : ChainAt W s H b v T P
  k : ∀ e ∈ L, CellsAt W e.1 e.2.1 e.2.2 ∧ ¬ chainP H b v e.1
section
variable {W W' : World} {s H b : Nat} {v v' : Value} {T T' : Sms} {P P' : List Pf} {L : List (Nat × TypeId × List Value)}
theorem Keeps.far (h : Keeps W s H b v T P L) (hb : Below W.heap.size W W') : Keeps W' s H b v T P L := ⟨h.c.far hb, fun e he => ⟨(h.k e he).1.farM hb, (h.k e he).2⟩⟩
theorem Keeps.step (h : Keeps W s H b v T P L) (hto : ChainTo W W' s H b v v' T' P') : Keeps W' s H b v' T' P' L := ⟨hto.at_, fun e he => ⟨(h.k e he).1.congr (hto.turn.block _ (h.k e he).1.lt (h.k e he).2), hto.out _ (h.k e he).1.lt (h.k e he).2⟩⟩
theorem Keeps.push (h : Keeps W s H b v T P L) (hb : Below W.heap.size W W') {g : Nat} {t : TypeId} {cs : List Value} (hg : W.heap.size ≤ g) (hc : CellsAt W' g t cs) : Keeps W' s H b v T P ((g, t, cs) :: L) := ⟨h.c.far hb, fun e he => by
  rcases List.mem_cons.1 he with rfl | he
  · exact ⟨hc, fun hp => by have := (h.c.inside _ hp).1; omega⟩
  · exact ⟨(h.k e he).1.farM hb, (h.k e he).2⟩⟩
/-- The first of the blocks is written. -/
theorem Keeps.write {g : Nat} {t : TypeId} {cs cs' : List Value} (h : Keeps W s H b v T P ((g, t, cs) :: L)) (hn : ∀ e ∈ L, e.1 ≠ g) (hc : CellsAt W' g t cs') (hk : ∀ k, k ≠ g → W'.heap[k]? = W.heap[k]?) : Keeps W' s H b v T P ((g, t, cs') :: L) :=
  ⟨h.c.congr fun k hp => hk k (fun e => (h.k (g, t, cs) (by simp)).2 (by rw [← e]; exact hp)), fun e he => by
    rcases List.mem_cons.1 he with rfl | he
    · exact ⟨hc, (h.k (g, t, cs) (by simp)).2⟩
    · exact ⟨(h.k e (by simp [he])).1.congr (hk _ (hn e he)), (h.k e (by simp [he])).2⟩⟩
theorem Keeps.drop {e : Nat × TypeId × List Value} (h : Keeps W s H b v T P (e :: L)) : Keeps W s H b v T P L := ⟨h.c, fun x hx => h.k x (by simp [hx])⟩
end
section
variable {W W' : World} {s H b : Nat} {v : Value} {T : Sms} {P : List Pf} {L : List (Nat × TypeId × List Value)}
theorem Keeps.swap {e e' : Nat × TypeId × List Value} (h : Keeps W s H b v T P (e :: e' :: L)) : Keeps W s H b v T P (e' :: e :: L) := ⟨h.c, fun x hx => h.k x (by simp only [List.mem_cons] at hx ⊢; rcases hx with q | q | q <;> simp [q])⟩
/-- A new block, filled. -/
theorem Keeps.fresh (h : Keeps W s H b v T P L) (hb : Below W.heap.size W W') {t : TypeId} {Z : List Value} (cs : List Value) : Keeps ((W'.alloc (.cells Z.toArray t)).setRow W'.heap.size cs.toArray) s H b v T P ((W'.heap.size, t, cs) :: L) :=
  (h.far hb).push (below_setRow ((Below.refl _ _).alloc (Nat.le_refl _) _) (Nat.le_refl _) _) (Nat.le_refl _) ((CellsAt.new W' t Z).setRow cs)
theorem Keeps.laid (h : Keeps W s H b v T P L) {t : TypeId} (Z : List Value) : Keeps (W.alloc (.cells Z.toArray t)) s H b v T P ((W.heap.size, t, Z) :: L) :=
  h.push ((Below.refl _ _).alloc (Nat.le_refl _) _) (Nat.le_refl _) (CellsAt.new W t Z)
theorem Keeps.fill2 (h : Keeps W s H b v T P L) {L0 : List (Nat × TypeId × List Value)} {g4 g5 : Nat} {t : TypeId} {z : List Value} (c4 c5 : List Value) (h0 : ∀ e ∈ L0, e ∈ L ∧ e.1 ≠ g4 ∧ e.1 ≠ g5) (m4 : (g4, t, z) ∈ L) (m5 : (g5, t, z) ∈ L) (hne : g4 ≠ g5) :
    Keeps ((W.setRow g4 c4.toArray).setRow g5 c5.toArray) s H b v T P ((g4, t, c4) :: (g5, t, c5) :: L0) := by
  have n4 := (h.k _ m4).2
  have n5 := (h.k _ m5).2
  refine ⟨(h.c.congr fun k hk => setRow_other W g4 k _ (fun e => n4 (by rw [← e]; exact hk))).congr fun k hk => setRow_other _ g5 k _ (fun e => n5 (by rw [← e]; exact hk)), fun e he => ?_⟩
  rcases List.mem_cons.1 he with rfl | he
  · exact ⟨((h.k _ m4).1.setRow c4).setRowM _ hne, n4⟩
  · rcases List.mem_cons.1 he with rfl | he
    · exact ⟨((h.k _ m5).1.setRowM _ (fun q => hne q.symm)).setRow c5, n5⟩
    · obtain ⟨q1, q2, q3⟩ := h0 e he
      exact ⟨((h.k e q1).1.setRowM _ q2).setRowM _ q3, (h.k e q1).2⟩
end
section
variable {w V : World} {A H b : Nat} {v : Value} {T : Sms} {P : List Pf} {L : List (Nat × TypeId × List Value)} {F : Fr} {xw : Option Addr} {lw cw : Nat} {ws : List Wp} {xb : Option Addr} {lb cb : Nat} {body : List Int} {a n : Nat}
theorem Keeps.add_any (hA : w.heap.size = A) (hb : Below w.heap.size w V) (hk : Keeps V (A + 1) H b v T P L) (hKT : S.KTab V) (hF : FrIn w F xw lw cw ws xb lb cb body) (ha : F.author = (a : Int)) (hn : F.number = (n : Int)) :
    Calls Tryd.prog 15 #[.pointer (some ⟨H, 0, none⟩), .agg F.cells.toArray] V fun e w' => e = .returned (.int .i64 (lookN T a n F.prev (fsum F lw lb ws body))) ∧ ∃ v', Keeps w' (A + 1) H b v' (addSt T P a n F.prev (fsum F lw lb ws body)).1 (addSt T P a n F.prev (fsum F lw lb ws body)).2 L ∧ Below w.heap.size w w' := by
  have hin := hk.c.inside H (.inl rfl)
  refine (Go.Proofs.YtgcidamdbidgiaaDoor.add_any _ _ _ _ _ _ V F xw lw cw ws xb lb cb body a n hk.c (hF.below hb) hKT ha hn (by omega)).mono ?_
  rintro e w' ⟨he, v', hto⟩
  exact ⟨he, v', hk.step hto, hb.trans ((hto.below hk.c (by omega)).mono (by omega))⟩
theorem Keeps.look_any (hb : Below w.heap.size w V) (hk : Keeps V (A + 1) H b v T P L) (hKT : S.KTab V) (hF : FrIn w F xw lw cw ws xb lb cb body) (ha : F.author = (a : Int)) (hn : F.number = (n : Int)) :
    Calls Tryd.prog 17 #[.pointer (some ⟨H, 0, none⟩), .agg F.cells.toArray] V fun e w' => e = .returned (.int .i64 (lookN T a n F.prev (fsum F lw lb ws body))) ∧ Below V.heap.size V w' :=
  Go.Proofs.YtgcidamdbidgiaaDoor.look_any _ _ _ _ _ _ V F xw lw cw ws xb lb cb body a n hk.c (hF.below hb) hKT ha hn
end
theorem look_next {T : Sms} {a : Nat} (ha : a < 8) (hc : cnt T a < 256) (sum : List Int) : lookN T a (cnt T a + 1) (atN T a (cnt T a)) sum = 0 := by
  unfold lookN
  rw [if_neg (by omega), if_neg (by omega), if_neg (by omega), if_pos rfl]
theorem look_again {T : Sms} (hT : OkS T) {a : Nat} (ha : a < 8) (hc : cnt T a < 256) (prev sum : List Int) : lookN (addS T a sum) a (cnt T a + 1) prev sum = 5 := by
  unfold lookN
  rw [if_neg (by omega), cnt_add hT, if_pos (Nat.le_refl _), atN_add_new hT, if_pos rfl]
theorem look_other {T : Sms} (hT : OkS T) {a : Nat} (ha : a < 8) (hc : cnt T a < 256) (prev sum oth : List Int) (hne : sum ≠ oth) : lookN (addS T a sum) a (cnt T a + 1) prev oth = 11 := by
  unfold lookN
  rw [if_neg (by omega), cnt_add hT, if_pos (Nat.le_refl _), atN_add_new hT, if_neg hne]
theorem proof_other {T : Sms} (hT : OkS T) (a : Nat) (prev sum oth : List Int) : proofN (addS T a sum) a (cnt T a + 1) prev oth = ((a : Int), ((cnt T a + 1 : Nat) : Int), sum, oth) := by
  unfold proofN
  rw [cnt_add hT, if_pos (Nat.le_refl _), atN_add_new hT]
theorem note_in (P : List Pf) (p : Pf) (hP : P.length ≤ 32) : p ∈ noteP P p ∨ (noteP P p).length = 32 := by
  unfold noteP
  split
  · rename_i q
    rcases q with q | q
    · exact .inl q
    · exact .inr (by omega)
  · exact .inl (by simp)
theorem fr_setN (F : Fr) (n : Int) : F.cells.set 1 (.int .u32 n) = ({ F with number := n } : Fr).cells := by
  unfold Fr.cells dotC; simp
theorem fr_setM (F : Fr) (m : Int) (hp : F.prev.length = 32) : F.cells.set 38 (.int .u8 m) = ({ F with mac := F.mac.set 0 m } : Fr).cells := by
  have e0 : ∀ G : Fr, G.cells = ([.int .u8 G.author, .int .u32 G.number] ++ dotC G.ea G.es ++ G.prev.map (Value.int .u8) ++ [G.wraps, G.body]) ++ G.mac.map (Value.int .u8) := fun G => by unfold Fr.cells; simp only [List.append_assoc]
  have hl : (([.int .u8 F.author, .int .u32 F.number] : List Value) ++ dotC F.ea F.es ++ F.prev.map (Value.int .u8) ++ [F.wraps, F.body]).length = 38 := by simp [dotC, hp]
  rw [e0 F, e0 _, List.set_append_right _ _ (by omega), hl, Nat.sub_self, List.map_set]
theorem fr_getM (F : Fr) (hp : F.prev.length = 32) : F.cells[38]? = (F.mac[0]?).map (Value.int .u8) := by
  have e0 : F.cells = ([.int .u8 F.author, .int .u32 F.number] ++ dotC F.ea F.es ++ F.prev.map (Value.int .u8) ++ [F.wraps, F.body]) ++ F.mac.map (Value.int .u8) := by unfold Fr.cells; simp only [List.append_assoc]
  have hl : (([.int .u8 F.author, .int .u32 F.number] : List Value) ++ dotC F.ea F.es ++ F.prev.map (Value.int .u8) ++ [F.wraps, F.body]).length = 38 := by simp [dotC, hp]
  rw [e0, List.getElem?_append_right (by omega), hl, Nat.sub_self, List.getElem?_map]
section
variable {W : World} {F : Fr} {xw : Option Addr} {lw cw : Nat} {ws : List Wp} {xb : Option Addr} {lb cb : Nat} {body : List Int}
theorem FrIn.withNumber (h : FrIn W F xw lw cw ws xb lb cb body) (n : Nat) (hn : n ≤ 4294967295) : FrIn W { F with number := (n : Int) } xw lw cw ws xb lb cb body :=
  ⟨h.prev, h.mac, h.wraps, h.body_, h.hw, h.hb, { h.inF with number := ⟨by show (0 : Int) ≤ (n : Int); omega, by show (n : Int) ≤ 4294967295; omega⟩ }, h.inW, h.inB⟩
theorem FrIn.withMac (h : FrIn W F xw lw cw ws xb lb cb body) (m : Int) (hm : 0 ≤ m ∧ m ≤ 255) : FrIn W { F with mac := F.mac.set 0 m } xw lw cw ws xb lb cb body :=
  ⟨h.prev, by rw [List.length_set]; exact h.mac, h.wraps, h.body_, h.hw, h.hb, ⟨h.inF.author, h.inF.number, h.inF.ea, h.inF.es, h.inF.prev, fun x hx => (List.mem_or_eq_of_mem_set hx).elim (fun q => h.inF.mac x q) (fun q => by rw [q]; exact hm)⟩, h.inW, h.inB⟩
end
section
variable {P : Program} {ops : Array Oper} {Q : Exit → Act → World → Prop} {md : Region.Mode} {T S : World → Prop} {D : Nat}
theorem wpAnyT_two {i j : Nat} {oi oj : Oper} {fuel : Nat} {listed : Array Bool} {a : Act} {w : World} (hi : ops[i]? = some oi) (hj : ops[j]? = some oj) (hr : Region.ready md ops listed = [i, j])
    (hwi : Region.wanted oi (yielded ops a.tmps) = true) (hwj : Region.wanted oj (yielded ops a.tmps) = true)
    (h1 : ∀ K' : Act → World → Prop, Shut (∀ a w, T w → ((listed.setIfInBounds i true).getD D true = false → S w) → wpAnyT P md ops Q T S D fuel (listed.setIfInBounds i true) a w → K' a w) → Oper.wp P oi a w K' Q)
    (h2 : ∀ K' : Act → World → Prop, Shut (∀ a w, T w → ((listed.setIfInBounds j true).getD D true = false → S w) → wpAnyT P md ops Q T S D fuel (listed.setIfInBounds j true) a w → K' a w) → Oper.wp P oj a w K' Q) : wpAnyT P md ops Q T S D (fuel + 1) listed a w :=
  ⟨fun h0 => (by rw [hr] at h0; cases h0), fun q hq => by
    rw [hr] at hq
    rcases List.mem_cons.1 hq with rfl | hq
    · refine wpOp_step hi (fun K' hK => ?_)
      rw [if_pos hwi]
      exact h1 K' (fun a w h0 h1 h2 => hK a w ⟨⟨h0, h1⟩, h2⟩)
    · obtain rfl : q = j := by simpa using hq
      refine wpOp_step hj (fun K' hK => ?_)
      rw [if_pos hwj]
      exact h2 K' (fun a w h0 h1 h2 => hK a w ⟨⟨h0, h1⟩, h2⟩)⟩
theorem wpAnyT_three {i j l : Nat} {oi oj ol : Oper} {fuel : Nat} {listed : Array Bool} {a : Act} {w : World} (hi : ops[i]? = some oi) (hj : ops[j]? = some oj) (hl : ops[l]? = some ol) (hr : Region.ready md ops listed = [i, j, l])
    (hwi : Region.wanted oi (yielded ops a.tmps) = true) (hwj : Region.wanted oj (yielded ops a.tmps) = true) (hwl : Region.wanted ol (yielded ops a.tmps) = true)
    (h1 : ∀ K' : Act → World → Prop, Shut (∀ a w, T w → ((listed.setIfInBounds i true).getD D true = false → S w) → wpAnyT P md ops Q T S D fuel (listed.setIfInBounds i true) a w → K' a w) → Oper.wp P oi a w K' Q)
    (h2 : ∀ K' : Act → World → Prop, Shut (∀ a w, T w → ((listed.setIfInBounds j true).getD D true = false → S w) → wpAnyT P md ops Q T S D fuel (listed.setIfInBounds j true) a w → K' a w) → Oper.wp P oj a w K' Q)
    (h3 : ∀ K' : Act → World → Prop, Shut (∀ a w, T w → ((listed.setIfInBounds l true).getD D true = false → S w) → wpAnyT P md ops Q T S D fuel (listed.setIfInBounds l true) a w → K' a w) → Oper.wp P ol a w K' Q) : wpAnyT P md ops Q T S D (fuel + 1) listed a w :=
  ⟨fun h0 => (by rw [hr] at h0; cases h0), fun q hq => by
    rw [hr] at hq
    rcases List.mem_cons.1 hq with rfl | hq
    · refine wpOp_step hi (fun K' hK => ?_)
      rw [if_pos hwi]
      exact h1 K' (fun a w h0 h1 h2 => hK a w ⟨⟨h0, h1⟩, h2⟩)
    · rcases List.mem_cons.1 hq with rfl | hq
      · refine wpOp_step hj (fun K' hK => ?_)
        rw [if_pos hwj]
        exact h2 K' (fun a w h0 h1 h2 => hK a w ⟨⟨h0, h1⟩, h2⟩)
      · obtain rfl : q = l := by simpa using hq
        refine wpOp_step hl (fun K' hK => ?_)
        rw [if_pos hwl]
        exact h3 K' (fun a w h0 h1 h2 => hK a w ⟨⟨h0, h1⟩, h2⟩)⟩
end
end Go.Proofs.YtgcidamdbidgiaaDoor
