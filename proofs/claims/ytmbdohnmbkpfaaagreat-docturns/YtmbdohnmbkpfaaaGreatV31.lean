/- Fr3 De2 -/
import Derived.Test.YtmbdohnmbkpfaaaGreatV30
import Derived.Test.YtmbdohnmbkpfaaaGreatV27
import Derived.Test.YtmbdohnmbkpfaaaGreatV29
namespace Go.Proofs.YtmbdohnmbkpfaaaGreat
open Go.RowKit Go.Shelf
set_option maxRecDepth 20000
set_option linter.unusedSimpArgs false
theorem flat_set {k : Nat} (L : List (List Value)) (hL : ∀ c ∈ L, c.length = k) (j off : Nat) (hj : j < L.length) (ho : off < k) (u : Value) : L.flatten.set (j * k + off) u = (L.set j (L[j].set off u)).flatten := by
 induction L generalizing j with
 | nil => simp at hj
 | cons e L ih =>
  have he : e.length = k := hL e (by simp)
  cases j with
  | zero => simp only [Nat.zero_mul, Nat.zero_add, List.flatten_cons, gZ, sZ]; rw [List.set_append_left _ _ (by omega)]
  | succ j =>
   have := ih (fun x hx => hL x (by simp [hx])) j (by simpa using hj)
   simp only [List.flatten_cons, gS, sS]
   rw [← this, List.set_append_right _ _ (by rw [he, Nat.add_mul]; omega), he, show (j + 1) * k + off - k = j * k + off by rw [Nat.add_mul]; omega]
theorem OwnI.setAt {w : World} {base : Nat} {t : TypeId} {k : Nat} {g n c : Nat} {L : List (List Value)} (h : OwnI w base t k (.slice (some ⟨g, 0, none⟩) n c) L) (j off : Nat) (hj : j < L.length) (ho : off < k) (u : Value) :
    OwnI (w.setCell ⟨g, j * k + off, none⟩ u) base t k (.slice (some ⟨g, 0, none⟩) n c) (L.set j (L[j].set off u)) ∧ (∃ u0, w.cell? ⟨g, j * k + off, none⟩ = some u0) ∧ w.frozen? ⟨g, j * k + off, none⟩ = false := by
 rcases h.own.2 with ⟨h1, h0⟩ | ⟨g', cap', cur, h1, hb, hg, hc, hm, hs, ht⟩
 · cases h1
 · cases h1
   have hfl := flat_len L h.each
   have hlt : j * k + off < L.length * k := by
    have := Nat.mul_le_mul_right k (show j + 1 ≤ L.length from hj)
    rw [Nat.add_mul] at this; omega
   have hcs : CellsAt w g t cur.toList := by unfold CellsAt; rw [Array.toArray_toList]; exact hg
   have hlc : j * k + off < cur.toList.length := by
    have h5 : (cur.toList.take (L.length * k)).length = L.length * k := by rw [ht]; exact hfl
    rw [List.length_take] at h5; omega
   have hset := hcs.set (j * k + off) u
   refine ⟨⟨⟨?_, .inr ⟨g, c, (cur.toList.set (j * k + off) u).toArray, by rw [List.length_set], hb, hset, by rw [List.length_set]; exact hc, hm, by simpa using hs, ?_⟩⟩, fun x hx => ?_⟩, ⟨cur.toList[j * k + off], by rw [hcs.cell, List.getElem?_eq_getElem hlc]⟩, hcs.frozen _⟩
   · rw [← flat_set L h.each j off hj ho u, List.length_set, hfl, List.length_set]
   · rw [List.length_set, ← flat_set L h.each j off hj ho u, ← ht]
     simp only [List.toList_toArray]
     rw [List.take_set]
   · rcases List.mem_or_eq_of_mem_set hx with q | q
     · exact h.each x q
     · rw [q, List.length_set]; exact h.each _ (List.getElem_mem hj)
theorem delN_set {N : List Nd} (hN : (N.map (·.id)).Nodup) {i : Nat} (hi : i < N.length) {x : Int × Int} (hx : N[i].id = x) : (N.map ndC).set i ((N.map ndC)[i]'(by rw [List.length_map]; exact hi) |>.set 5 (.int .u8 0)) = (delN N x).map ndC := by
 apply List.ext_getElem (by simp [delN])
 intro j h1 h2
 have hj : j < N.length := by simpa using h1
 have e2 : ((delN N x).map ndC)[j]'h2 = ndC (gone x N[j]) := by simp only [delN, List.getElem_map]
 rw [e2]
 simp only [List.getElem_set, List.getElem_map]
 split
 · next e =>
   subst e
   unfold gone
   rw [if_pos hx]
   rfl
 · next e =>
   unfold gone
   rw [if_neg (fun q => e ?_)]
   exact (List.getElem_inj (h₀ := by simpa using hi) (h₁ := by simpa using hj) hN (i := i) (j := j)).1 (by simp only [List.getElem_map]; rw [hx, q])
set_option maxHeartbeats 4000000 in
theorem rdelT_any (base R : Nat) (v : Value) (N : List Nd) (x : Int × Int) (hnd : (N.map (·.id)).Nodup) (w : World) (hT : RefT w base R v N) :
    Calls Tryz.prog 59 #[.pointer (some ⟨R, 0, none⟩), .agg (encF x).toArray] w fun e w' => e = .returned (.int .i64 (if (chrN N x).isSome = true then 0 else 7)) ∧ RefT w' base R v (delN N x) ∧ RefTo R v v w w' := by
 have hd0 := CellsAt.new w 40 (encF x)
 have hB : Below w.heap.size w (w.alloc (.cells (encF x).toArray 40)) := (Below.refl _ _).alloc (Nat.le_refl _) _
 have uD := Tryz.underlying40
 have iD : (Tryz.prog.info? 40).map (·.size) = some (encF x).length := sizeDot
 have HA : Veil (∀ W, Below w.heap.size w W → Calls Tryz.prog 86 #[.pointer (some ⟨R, 0, none⟩), .agg (encF x).toArray] W fun e w' => e = .returned (.int .i64 (idxN N x)) ∧ Below W.heap.size W w') := ⟨fun W h => ratT_any base R v N x W (hT.far h)⟩
 have HTF : Veil (∀ W, Below w.heap.size w W → RefT W base R v N) := ⟨fun W hb => hT.far hb⟩
 have HN : Veil ((chrN N x).isSome = false → ∀ W, Below w.heap.size w W → RefT W base R v (delN N x) ∧ RefTo R v v w W) := ⟨fun h W hb => ⟨by rw [delN_none h]; exact hT.far hb, RefTo.of_below hb⟩⟩
 obtain ⟨sx, sc, hsl⟩ := hT.own.isSlice
 rw [List.length_map] at hsl
 have HS : Veil (∀ (i : Nat) (hi : i < N.length), N[i].id = x → ∀ W, Below w.heap.size w W → ∃ g, sx = some ⟨g, 0, none⟩ ∧ (∃ u0, W.cell? ⟨g, i * 6 + 5, none⟩ = some u0) ∧ W.frozen? ⟨g, i * 6 + 5, none⟩ = false ∧ RefT (W.setCell ⟨g, i * 6 + 5, none⟩ (.int .u8 0)) base R v (delN N x) ∧ RefTo R v v w (W.setCell ⟨g, i * 6 + 5, none⟩ (.int .u8 0))) := ⟨fun i hi hx W hb => by
  have hTW := hT.far hb
  have hO := hTW.own
  rw [hsl] at hO
  obtain ⟨g, rfl, -, -⟩ := hO.at_ i (by rw [List.length_map]; exact hi)
  obtain ⟨h1, h2, h3⟩ := hO.setAt i 5 (by rw [List.length_map]; exact hi) (by decide) (.int .u8 0)
  rw [delN_set hnd hi hx] at h1
  have hgv : v.ownBlock = some g := by rw [hsl]; rfl
  have hgR : g ≠ R := fun e => hTW.ne (e ▸ hgv)
  refine ⟨g, rfl, h2, h3, ⟨hTW.box.congr (Below.heap_setCell _ ⟨g, i * 6 + 5, none⟩ _ R (Ne.symm hgR)), by rw [hsl]; exact h1, by rw [delN_len]; exact hTW.len⟩, (Turn.of_below hb).trans (Turn.of_setCell _ (a := ⟨g, i * 6 + 5, none⟩) (.inr hgv) _), fun k hk => .inl hk⟩⟩
 have hln := hT.len
 have HC := Veil.mk (idxN_cases N x)
 generalize idxN N x = XI at HA HC
 generalize (chrN N x).isSome = IS at HC HN ⊢
 obtain ⟨DX, hDX⟩ : ∃ q, encF x = q := ⟨_, rfl⟩
 rw [hDX] at hd0 hB iD HA ⊢
 obtain ⟨ln, hlx⟩ : ∃ q, N.length = q := ⟨_, rfl⟩
 rw [hlx] at hln hsl
 have HLX := Veil.mk hlx
 have HSL := Veil.mk hsl
 clear hDX hT hnd hlx hsl
 go_enter Tryz.func59, Tryz.ntmps59
 go_upto_region 3 with fail
 refine forget (p := fun y => Code.wp _ _ _ _ y) (fun W => Below w.heap.size w W ∧ CellsAt W w.heap.size 40 DX) ⟨hB, hd0⟩ ?_
 clear hB hd0
 rintro W ⟨hB, hd⟩
 have hr := hd.wholeM
 have ha := HA.out W hB
 clear hd HA
 rcases HC.out with ⟨rfl, rfl⟩ | ⟨i, hi, hxi, hid, rfl⟩
 · go_wp2_with (first
    | (refine wpList_ldv rfl 40 (.tmp 3) rfl w.heap.size 0 rfl DX hr uD rfl iD ?_)
    | (go_at_call 86; refine ha.mono ?_; rintro z W1 ⟨rfl, h1⟩))
   go_ret
   exact ⟨rfl, HN.out (by first | rfl | trivial) W1 (hB.trans (h1.mono hB.size))⟩
 · rw [hxi] at ha
   have hi' := hi
   rw [HLX.out] at hi'
   have hii : (i : Int) < (ln : Int) := by omega
   have hi0 : (0 : Int) ≤ (i : Int) := by omega
   have hin : ¬ (i : Int) < 0 := by omega
   have HSI := Veil.mk (fun W hb => HS.out i hi hid W hb)
   clear HS hid hxi hi hi' HC
   go_upto_region 6 with (first
    | (refine wpList_ldv rfl 40 (.tmp 3) rfl w.heap.size 0 rfl DX hr uD rfl iD ?_)
    | (go_at_call 86; refine ha.mono ?_; rintro z W1 ⟨rfl, h1⟩))
   have hB1 := hB.trans (h1.mono hB.size)
   obtain ⟨g, rfl, ⟨u0, hc0⟩, hf0, hE⟩ := HSI.out W1 hB1
   have HE := Veil.mk hE
   have cR : W1.cell? ⟨R, 0, none⟩ = some (.slice (some ⟨g, 0, none⟩) ln sc) := by
    have := (HTF.out W1 hB1).box.cell 0
    rw [HSL.out] at this; exact this
   clear hE ha hr h1
   go_wp2
   go_ret
   exact ⟨rfl, HE.out⟩
structure Rp where
 D : Nat
 T : Nat
 tv : Value
 H : Nat
 K : List Ent
 x : Option Addr
 c : Nat
 bx : Option Addr
 bc : Nat
 lv : Value
 fv : Value
 G : List Bool
def Rp.bv (p : Rp) : Value := .slice p.x p.K.length p.c
def Rp.bw (p : Rp) : Value := .slice p.bx p.K.length p.bc
def rdocC (st : Ds) (p : Rp) : List Value := [p.lv, p.fv] ++ st.S.map (Value.int .u32) ++ [.pointer (some ⟨p.T, 0, none⟩), .pointer (some ⟨p.H, 0, none⟩)]
structure RDocAt (w : World) (base : Nat) (st : Ds) (p : Rp) : Prop where
 box : CellsAt w p.D 98 (rdocC st p)
 tree : RefT w base p.T p.tv st.N
 book : RefB base w p.H p.K p.x p.c p.bx p.bc
 evs : OwnI w base 44 17 p.lv (st.L.map Ev.cells)
 flags : OwnI w base 4 1 p.fv (p.G.map fun b => [Value.bool b])
 apart1 : ∀ g, p.bv.ownBlock = some g → p.lv.ownBlock ≠ some g
 apart2 : ∀ g, p.bw.ownBlock = some g → p.fv.ownBlock ≠ some g
def rdocP (p : Rp) (k : Nat) : Prop := k = p.D ∨ refP p.T p.tv k ∨ OwnR p.H p.bv p.bw k ∨ p.lv.ownBlock = some k ∨ p.fv.ownBlock = some k
structure RTo (p p' : Rp) (w w' : World) : Prop where
 turn : Turn (rdocP p) w w'
 own : ∀ k, rdocP p' k → rdocP p k ∨ w.heap.size ≤ k
 at_ : p'.D = p.D
theorem RTo.of_below {p : Rp} {w w' : World} (h : Below w.heap.size w w') : RTo p p w w' := ⟨Turn.of_below h, fun _ hk => .inl hk, rfl⟩
theorem RTo.trans {p p1 p2 : Rp} {w w1 w2 : World} (h : RTo p p1 w w1) (h2 : RTo p1 p2 w1 w2) : RTo p p2 w w2 where
 turn := ⟨h2.turn.os.trans h.turn.os, h2.turn.tape.trans h.turn.tape, h2.turn.output.trans h.turn.output, Nat.le_trans h.turn.size h2.turn.size, fun k hk hn => by
  rw [h2.turn.block k (Nat.lt_of_lt_of_le hk h.turn.size) (fun q => by
   rcases h.own k q with r | r
   · exact hn r
   · omega)]
  exact h.turn.block k hk hn⟩
 own := fun k hk => by
  rcases h2.own k hk with q | q
  · exact h.own k q
  · exact .inr (Nat.le_trans h.turn.size q)
 at_ := h2.at_.trans h.at_
def TyAt (w : World) (k t : Nat) : Prop := ∃ cur, w.heap[k]? = some (.cells cur t (0, 0))
theorem TyAt.ne {w : World} {k k' t t' : Nat} (h : TyAt w k t) (h' : TyAt w k' t') (ht : t ≠ t') : k ≠ k' := fun e => by
 obtain ⟨c, h⟩ := h
 obtain ⟨c', h'⟩ := h'
 rw [e, h'] at h
 injection h with h
 injection h with _ h2 _
 exact ht h2.symm
theorem CellsAt.ty {w : World} {k t : Nat} {cs : List Value} (h : CellsAt w k t cs) : TyAt w k t := ⟨_, h⟩
theorem OwnI.ty {w : World} {base t n : Nat} {v : Value} {L : List (List Value)} (h : OwnI w base t n v L) {g : Nat} (hg : v.ownBlock = some g) : TyAt w g t := (h.blockLt g hg).2.2
section
variable {w w' : World} {base : Nat} {st : Ds} {p : Rp}
theorem RDocAt.congr (h : RDocAt w base st p) (hk : ∀ k, rdocP p k → w'.heap[k]? = w.heap[k]?) : RDocAt w' base st p where
 box := h.box.congr (hk _ (.inl rfl))
 tree := h.tree.congr fun k q => hk k (.inr (.inl q))
 book := h.book.congr (hk _ (.inr (.inr (.inl (.inl rfl))))) (fun g q => hk g (.inr (.inr (.inl (.inr (.inl q)))))) (fun g q => hk g (.inr (.inr (.inl (.inr (.inr q))))))
 evs := h.evs.congr fun g q => hk g (.inr (.inr (.inr (.inl q))))
 flags := h.flags.congr fun g q => hk g (.inr (.inr (.inr (.inr q))))
 apart1 := h.apart1
 apart2 := h.apart2
theorem RDocAt.blockLt (h : RDocAt w base st p) (k : Nat) (hk : rdocP p k) : k < w.heap.size := by
 rcases hk with rfl | q | (rfl | q | q) | q | q
 · exact h.box.lt
 · exact h.tree.blockLt k q
 · exact h.book.cells.lt
 · exact (h.book.ev.blockLt k q).1
 · exact (h.book.bo.blockLt k q).1
 · exact (h.evs.blockLt k q).1
 · exact (h.flags.blockLt k q).1
theorem RDocAt.far (h : RDocAt w base st p) (hb : Below w.heap.size w w') : RDocAt w' base st p := h.congr fun k hk => hb.block k (h.blockLt k hk)
theorem RDocAt.turned {q : Nat → Prop} (h : RDocAt w base st p) (ht : Turn q w w') (hq : ∀ k, rdocP p k → ¬ q k) : RDocAt w' base st p := h.congr fun k hk => ht.block k (h.blockLt k hk) (hq k hk)
theorem RDocAt.tyT (h : RDocAt w base st p) {k : Nat} (hk : refP p.T p.tv k) : TyAt w k 122 ∨ TyAt w k 124 := by
 rcases hk with rfl | q
 · exact .inl h.tree.box.ty
 · exact .inr (h.tree.own.ty q)
theorem RDocAt.tyB (h : RDocAt w base st p) {k : Nat} (hk : OwnR p.H p.bv p.bw k) : TyAt w k 85 ∨ TyAt w k 44 ∨ TyAt w k 4 := by
 rcases hk with rfl | q | q
 · exact .inl h.book.cells.ty
 · exact .inr (.inl (h.book.ev.ty q))
 · exact .inr (.inr (h.book.bo.ty q))
theorem RDocAt.notT (h : RDocAt w base st p) {k t : Nat} (hk : TyAt w k t) (h1 : t ≠ 122) (h2 : t ≠ 124) : ¬ refP p.T p.tv k := fun q => by
 rcases h.tyT q with r | r
 · exact hk.ne r h1 rfl
 · exact hk.ne r h2 rfl
theorem RDocAt.notB (h : RDocAt w base st p) {k t : Nat} (hk : TyAt w k t) (h1 : t ≠ 85) (h2 : t ≠ 44) (h3 : t ≠ 4) : ¬ OwnR p.H p.bv p.bw k := fun q => by
 rcases h.tyB q with r | r | r
 · exact hk.ne r h1 rfl
 · exact hk.ne r h2 rfl
 · exact hk.ne r h3 rfl
theorem RDocAt.treeTo (h : RDocAt w base st p) {N' : List Nd} {tv' : Value} (hT : RefT w' base p.T tv' N') (ht : RefTo p.T p.tv tv' w w') : RDocAt w' base { st with N := N' } { p with tv := tv' } ∧ RTo p { p with tv := tv' } w w' := by
 have hk : ∀ k, rdocP p k → ¬ refP p.T p.tv k → w'.heap[k]? = w.heap[k]? := fun k q r => ht.turn.block k (h.blockLt k q) r
 refine ⟨⟨h.box.congr (hk _ (.inl rfl) (h.notT h.box.ty (by decide) (by decide))), hT, h.book.congr (hk _ (.inr (.inr (.inl (.inl rfl)))) (h.notT h.book.cells.ty (by decide) (by decide))) (fun g q => hk g (.inr (.inr (.inl (.inr (.inl q))))) (h.notT (h.book.ev.ty q) (by decide) (by decide))) (fun g q => hk g (.inr (.inr (.inl (.inr (.inr q))))) (h.notT (h.book.bo.ty q) (by decide) (by decide))), h.evs.congr fun g q => hk g (.inr (.inr (.inr (.inl q)))) (h.notT (h.evs.ty q) (by decide) (by decide)), h.flags.congr fun g q => hk g (.inr (.inr (.inr (.inr q)))) (h.notT (h.flags.ty q) (by decide) (by decide)), h.apart1, h.apart2⟩, ht.turn.mono fun k _ q => .inr (.inl q), fun k q => ?_, rfl⟩
 rcases q with q | q | q | q
 · exact .inl (.inl q)
 · rcases ht.own k q with r | r
   · exact .inl (.inr (.inl r))
   · exact .inr r
 · exact .inl (.inr (.inr (.inl q)))
 · exact .inl (.inr (.inr (.inr q)))
theorem RDocAt.bookTo (h : RDocAt w base st p) {K' : List Ent} {x' : Option Addr} {c' : Nat} {bx' : Option Addr} {bc' : Nat} (hK : RefB base w' p.H K' x' c' bx' bc') (ht : Turn (OwnR p.H p.bv p.bw) w w') (hown : ∀ k, OwnR p.H (.slice x' K'.length c') (.slice bx' K'.length bc') k → OwnR p.H p.bv p.bw k ∨ w.heap.size ≤ k) :
    RDocAt w' base st { p with K := K', x := x', c := c', bx := bx', bc := bc' } ∧ RTo p { p with K := K', x := x', c := c', bx := bx', bc := bc' } w w' := by
 have hk : ∀ k, rdocP p k → ¬ OwnR p.H p.bv p.bw k → w'.heap[k]? = w.heap[k]? := fun k q r => ht.block k (h.blockLt k q) r
 have nl : ∀ g, p.lv.ownBlock = some g → ¬ OwnR p.H p.bv p.bw g := fun g q r => by
  rcases r with r | r | r
  · exact (h.evs.ty q).ne h.book.cells.ty (by decide) r
  · exact h.apart1 g r q
  · exact (h.evs.ty q).ne (h.book.bo.ty r) (by decide) rfl
 have nf : ∀ g, p.fv.ownBlock = some g → ¬ OwnR p.H p.bv p.bw g := fun g q r => by
  rcases r with r | r | r
  · exact (h.flags.ty q).ne h.book.cells.ty (by decide) r
  · exact (h.flags.ty q).ne (h.book.ev.ty r) (by decide) rfl
  · exact h.apart2 g r q
 have nt : ∀ k, refP p.T p.tv k → ¬ OwnR p.H p.bv p.bw k := fun k q r => by
  rcases h.tyT q with s | s
  · exact h.notB s (by decide) (by decide) (by decide) r
  · exact h.notB s (by decide) (by decide) (by decide) r
 refine ⟨⟨h.box.congr (hk _ (.inl rfl) (h.notB h.box.ty (by decide) (by decide) (by decide))), h.tree.congr fun k q => hk k (.inr (.inl q)) (nt k q), hK, h.evs.congr fun g q => hk g (.inr (.inr (.inr (.inl q)))) (nl g q), h.flags.congr fun g q => hk g (.inr (.inr (.inr (.inr q)))) (nf g q), fun g q r => ?_, fun g q r => ?_⟩, ht.mono fun k _ q => .inr (.inr (.inl q)), fun k q => ?_, rfl⟩
 · rcases hown g (.inr (.inl q)) with s | s
   · exact nl g r s
   · have := (h.evs.blockLt g r).1; omega
 · rcases hown g (.inr (.inr q)) with s | s
   · exact nf g r s
   · have := (h.flags.blockLt g r).1; omega
 · rcases q with q | q | q | q
   · exact .inl (.inl q)
   · exact .inl (.inr (.inl q))
   · rcases hown k q with r | r
     · exact .inl (.inr (.inr (.inl r)))
     · exact .inr r
   · exact .inl (.inr (.inr (.inr q)))
theorem rdocC_parts (st : Ds) (p : Rp) (h : st.S.length = 8) : (rdocC st p)[0]? = some p.lv ∧ (rdocC st p)[1]? = some p.fv ∧ ((rdocC st p).drop 2).take 8 = st.S.map (Value.int .u32) ∧ (rdocC st p)[10]? = some (.pointer (some ⟨p.T, 0, none⟩)) ∧ (rdocC st p)[11]? = some (.pointer (some ⟨p.H, 0, none⟩)) ∧ (rdocC st p).length = 12 := by
 obtain ⟨N, B, S, L, F⟩ := st
 match S, h with
 | [_, _, _, _, _, _, _, _], _ => exact ⟨rfl, rfl, rfl, rfl, rfl, rfl⟩
theorem rdocC_ev (st : Ds) (p : Rp) (h : st.S.length = 8) (L : List Ev) (v : Value) : (rdocC st p).set 0 v = rdocC { st with L := L } { p with lv := v } := by
 obtain ⟨N, B, S, L, F⟩ := st
 match S, h with
 | [_, _, _, _, _, _, _, _], _ => rfl
theorem rdocC_flag (st : Ds) (p : Rp) (h : st.S.length = 8) (G : List Bool) (v : Value) : (rdocC st p).set 1 v = rdocC st { p with fv := v, G := G } := by
 obtain ⟨N, B, S, L, F⟩ := st
 match S, h with
 | [_, _, _, _, _, _, _, _], _ => rfl
theorem rdocC_seen (st : Ds) (p : Rp) (h : st.S.length = 8) (a : Nat) (ha : a < 8) (y : Int) : (rdocC st p).set (2 + a) (.int .u32 y) = rdocC { st with S := st.S.set a y } p := by
 obtain ⟨N, B, S, L, F⟩ := st
 match S, h, a, ha with
 | [_, _, _, _, _, _, _, _], _, 0, _ => rfl
 | [_, _, _, _, _, _, _, _], _, 1, _ => rfl
 | [_, _, _, _, _, _, _, _], _, 2, _ => rfl
 | [_, _, _, _, _, _, _, _], _, 3, _ => rfl
 | [_, _, _, _, _, _, _, _], _, 4, _ => rfl
 | [_, _, _, _, _, _, _, _], _, 5, _ => rfl
 | [_, _, _, _, _, _, _, _], _, 6, _ => rfl
 | [_, _, _, _, _, _, _, _], _, 7, _ => rfl
theorem RDocAt.cL (h : RDocAt w base st p) (hs : st.S.length = 8) : w.cell? ⟨p.D, 0, none⟩ = some p.lv := (h.box.cell 0).trans (rdocC_parts st p hs).1
theorem RDocAt.cF (h : RDocAt w base st p) (hs : st.S.length = 8) : w.cell? ⟨p.D, 1, none⟩ = some p.fv := (h.box.cell 1).trans (rdocC_parts st p hs).2.1
theorem RDocAt.cS (h : RDocAt w base st p) (hs : st.S.length = 8) : w.rangeAt p.D 2 (st.S.map (Value.int .u32)) := by
 have := h.box.range 2 8
 rw [(rdocC_parts st p hs).2.2.1] at this
 exact this
theorem RDocAt.cT (h : RDocAt w base st p) (hs : st.S.length = 8) : w.cell? ⟨p.D, 10, none⟩ = some (.pointer (some ⟨p.T, 0, none⟩)) := (h.box.cell 10).trans (rdocC_parts st p hs).2.2.2.1
theorem RDocAt.cH (h : RDocAt w base st p) (hs : st.S.length = 8) : w.cell? ⟨p.D, 11, none⟩ = some (.pointer (some ⟨p.H, 0, none⟩)) := (h.box.cell 11).trans (rdocC_parts st p hs).2.2.2.2.1
theorem RDocAt.cSa (h : RDocAt w base st p) (hs : st.S.length = 8) {a : Nat} (ha : a < 8) : w.cell? ⟨p.D, 2 + a, none⟩ = some (.int .u32 (st.S[a]?.getD 0)) := h.cS hs a _ (by rw [List.getElem?_map, List.getElem?_eq_getElem (by rw [hs]; exact ha)]; rfl)
theorem RDocAt.evTo (h : RDocAt w base st p) (hs : st.S.length = 8) (hb : base ≤ w.heap.size) (hL : st.L.length ≤ 1000) (e : Ev) (he : e.past.length = 8) :
    ∃ x c W, (Builtin.append_ #[31, 31] 31 #[p.lv, .slice (some ⟨w.heap.size, 0, none⟩) 1 1]).run Tryz.prog (w.alloc (.cells e.cells.toArray 44)) = .ok (.slice x (st.L.length + 1) c) W ∧ W.cell? ⟨p.D, 0, none⟩ = some p.lv ∧ W.frozen? ⟨p.D, 0, none⟩ = false ∧ (∀ k, k < w.heap.size → p.lv.ownBlock ≠ some k → W.heap[k]? = w.heap[k]?) ∧
     RDocAt (W.setCell ⟨p.D, 0, none⟩ (.slice x (st.L.length + 1) c)) base { st with L := st.L ++ [e] } { p with lv := .slice x (st.L.length + 1) c } ∧ RTo p { p with lv := .slice x (st.L.length + 1) c } w (W.setCell ⟨p.D, 0, none⟩ (.slice x (st.L.length + 1) c)) := by
 obtain ⟨x, c, W, hrun, ho, ht, hown⟩ := h.evs.pushD 31 Tryz.underlying31 infoE17D rfl (by decide) e.cells (aev_len e he) (aev_one e) (by rw [List.length_map]; omega) (by decide) hb
 rw [List.length_map] at hrun ho hown
 have hblk : ∀ k, k < w.heap.size → p.lv.ownBlock ≠ some k → W.heap[k]? = w.heap[k]? := fun k hk hn => ht.block k hk hn
 have nD : p.lv.ownBlock ≠ some p.D := fun q => (h.evs.ty q).ne h.box.ty (by decide) rfl
 have hD : W.heap[p.D]? = w.heap[p.D]? := hblk _ h.box.lt nD
 have hbox := h.box.congr hD
 have hv : (Value.slice x (st.L.length + 1) c).ownBlock ≠ some p.D := fun q => by
  rcases hown _ q with r | r
  · exact nD r
  · have := h.box.lt; omega
 have hk : ∀ k t, rdocP p k → TyAt w k t → t ≠ 98 → p.lv.ownBlock ≠ some k → (W.setCell ⟨p.D, 0, none⟩ (.slice x (st.L.length + 1) c)).heap[k]? = w.heap[k]? := fun k t q ty ht s => (Below.heap_setCell W _ _ k (ty.ne h.box.ty ht)).trans (hblk k (h.blockLt k q) s)
 have nl : ∀ {k t : Nat}, TyAt w k t → t ≠ 44 → p.lv.ownBlock ≠ some k := fun ty hne q => ty.ne (h.evs.ty q) hne rfl
 refine ⟨x, c, W, hrun, (hbox.cell 0).trans (rdocC_parts st p hs).1, hbox.frozen 0, hblk, ⟨?_, ?_, ?_, ?_, ?_, ?_, ?_⟩, ?_, ?_, rfl⟩
 · have := hbox.set 0 (.slice x (st.L.length + 1) c)
   rw [rdocC_ev st p hs (st.L ++ [e])] at this
   exact this
 · refine h.tree.congr fun k q => ?_
   rcases h.tyT q with ty | ty
   · exact hk k _ (.inr (.inl q)) ty (by decide) (nl ty (by decide))
   · exact hk k _ (.inr (.inl q)) ty (by decide) (nl ty (by decide))
 · exact h.book.congr (hk _ _ (.inr (.inr (.inl (.inl rfl)))) h.book.cells.ty (by decide) (nl h.book.cells.ty (by decide))) (fun g q => hk g _ (.inr (.inr (.inl (.inr (.inl q))))) (h.book.ev.ty q) (by decide) (h.apart1 g q)) (fun g q => hk g _ (.inr (.inr (.inl (.inr (.inr q))))) (h.book.bo.ty q) (by decide) (nl (h.book.bo.ty q) (by decide)))
 · rw [List.map_append, List.map_singleton]
   exact ho.congr fun g hg => Below.heap_setCell _ _ _ _ (fun q : g = p.D => hv (by rw [← q]; exact hg))
 · exact h.flags.congr fun g q => hk g _ (.inr (.inr (.inr (.inr q)))) (h.flags.ty q) (by decide) (nl (h.flags.ty q) (by decide))
 · intro g q r
   rcases hown g r with s | s
   · exact h.apart1 g q s
   · have := (h.book.ev.blockLt g q).1; omega
 · exact h.apart2
 · exact (ht.mono fun k _ q => .inr (.inr (.inr (.inl q)))).trans (Turn.of_setCell W (.inl rfl) _)
 · intro k q
   rcases q with q | q | q | q | q
   · exact .inl (.inl q)
   · exact .inl (.inr (.inl q))
   · exact .inl (.inr (.inr (.inl q)))
   · rcases hown _ q with r | r
     · exact .inl (.inr (.inr (.inr (.inl r))))
     · exact .inr r
   · exact .inl (.inr (.inr (.inr (.inr q))))
theorem RDocAt.flagTo (h : RDocAt w base st p) (hs : st.S.length = 8) (hb : base ≤ w.heap.size) {n : Nat} (hn : p.G.length = n) (hL : n ≤ 1000) (b : Bool) :
    ∃ x c W, (Builtin.append_ #[83, 83] 83 #[p.fv, .slice (some ⟨w.heap.size, 0, none⟩) 1 1]).run Tryz.prog (w.alloc (.cells #[.bool b] 4)) = .ok (.slice x (n + 1) c) W ∧ W.cell? ⟨p.D, 1, none⟩ = some p.fv ∧ W.frozen? ⟨p.D, 1, none⟩ = false ∧ (∀ k, k < w.heap.size → p.fv.ownBlock ≠ some k → W.heap[k]? = w.heap[k]?) ∧
     RDocAt (W.setCell ⟨p.D, 1, none⟩ (.slice x (n + 1) c)) base st { p with fv := .slice x (n + 1) c, G := p.G ++ [b] } ∧ RTo p { p with fv := .slice x (n + 1) c, G := p.G ++ [b] } w (W.setCell ⟨p.D, 1, none⟩ (.slice x (n + 1) c)) := by
 obtain ⟨x, c, W, hrun, ho, ht, hown⟩ := h.flags.pushD 83 Tryz.underlying83 infoBA rfl (by decide) [.bool b] rfl (by simp [Value.oneCell']) (by rw [List.length_map]; omega) (by decide) hb
 rw [List.length_map, hn] at hrun ho hown
 have hblk : ∀ k, k < w.heap.size → p.fv.ownBlock ≠ some k → W.heap[k]? = w.heap[k]? := fun k hk hn => ht.block k hk hn
 have nD : p.fv.ownBlock ≠ some p.D := fun q => (h.flags.ty q).ne h.box.ty (by decide) rfl
 have hD : W.heap[p.D]? = w.heap[p.D]? := hblk _ h.box.lt nD
 have hbox := h.box.congr hD
 have hv : (Value.slice x (n + 1) c).ownBlock ≠ some p.D := fun q => by
  rcases hown _ q with r | r
  · exact nD r
  · have := h.box.lt; omega
 have hk : ∀ k t, rdocP p k → TyAt w k t → t ≠ 98 → p.fv.ownBlock ≠ some k → (W.setCell ⟨p.D, 1, none⟩ (.slice x (n + 1) c)).heap[k]? = w.heap[k]? := fun k t q ty ht s => (Below.heap_setCell W _ _ k (ty.ne h.box.ty ht)).trans (hblk k (h.blockLt k q) s)
 have nl : ∀ {k t : Nat}, TyAt w k t → t ≠ 4 → p.fv.ownBlock ≠ some k := fun ty hne q => ty.ne (h.flags.ty q) hne rfl
 refine ⟨x, c, W, hrun, (hbox.cell 1).trans (rdocC_parts st p hs).2.1, hbox.frozen 1, hblk, ⟨?_, ?_, ?_, ?_, ?_, ?_, ?_⟩, ?_, ?_, rfl⟩
 · have := hbox.set 1 (.slice x (n + 1) c)
   rw [rdocC_flag st p hs (p.G ++ [b])] at this
   exact this
 · refine h.tree.congr fun k q => ?_
   rcases h.tyT q with ty | ty
   · exact hk k _ (.inr (.inl q)) ty (by decide) (nl ty (by decide))
   · exact hk k _ (.inr (.inl q)) ty (by decide) (nl ty (by decide))
 · exact h.book.congr (hk _ _ (.inr (.inr (.inl (.inl rfl)))) h.book.cells.ty (by decide) (nl h.book.cells.ty (by decide))) (fun g q => hk g _ (.inr (.inr (.inl (.inr (.inl q))))) (h.book.ev.ty q) (by decide) (nl (h.book.ev.ty q) (by decide))) (fun g q => hk g _ (.inr (.inr (.inl (.inr (.inr q))))) (h.book.bo.ty q) (by decide) (h.apart2 g q))
 · exact h.evs.congr fun g q => hk g _ (.inr (.inr (.inr (.inl q)))) (h.evs.ty q) (by decide) (nl (h.evs.ty q) (by decide))
 · rw [List.map_append, List.map_singleton]
   exact ho.congr fun g hg => Below.heap_setCell _ _ _ _ (fun q : g = p.D => hv (by rw [← q]; exact hg))
 · exact h.apart1
 · intro g q r
   rcases hown g r with s | s
   · exact h.apart2 g q s
   · have := (h.book.bo.blockLt g q).1; omega
 · exact (ht.mono fun k _ q => .inr (.inr (.inr (.inr q)))).trans (Turn.of_setCell W (.inl rfl) _)
 · intro k q
   rcases q with q | q | q | q | q
   · exact .inl (.inl q)
   · exact .inl (.inr (.inl q))
   · exact .inl (.inr (.inr (.inl q)))
   · exact .inl (.inr (.inr (.inr (.inl q))))
   · rcases hown _ q with r | r
     · exact .inl (.inr (.inr (.inr (.inr r))))
     · exact .inr r
theorem RDocAt.seenTo (h : RDocAt w base st p) (hs : st.S.length = 8) (a : Nat) (ha : a < 8) (y : Int) : RDocAt (w.setCell ⟨p.D, 2 + a, none⟩ (.int .u32 y)) base { st with S := st.S.set a y } p ∧ RTo p p w (w.setCell ⟨p.D, 2 + a, none⟩ (.int .u32 y)) := by
 have hk : ∀ k t, TyAt w k t → t ≠ 98 → (w.setCell ⟨p.D, 2 + a, none⟩ (.int .u32 y)).heap[k]? = w.heap[k]? := fun k t ty ht => Below.heap_setCell w _ _ k (ty.ne h.box.ty ht)
 refine ⟨⟨?_, h.tree.congr fun k q => ?_, h.book.congr (hk _ _ h.book.cells.ty (by decide)) (fun g q => hk _ _ (h.book.ev.ty q) (by decide)) (fun g q => hk _ _ (h.book.bo.ty q) (by decide)), h.evs.congr fun g q => hk _ _ (h.evs.ty q) (by decide), h.flags.congr fun g q => hk _ _ (h.flags.ty q) (by decide), h.apart1, h.apart2⟩, Turn.of_setCell w (.inl rfl) _, fun k q => .inl q, rfl⟩
 · have := h.box.set (2 + a) (.int .u32 y)
   rw [rdocC_seen st p hs a ha y] at this
   exact this
 · rcases h.tyT q with ty | ty
   · exact hk _ _ ty (by decide)
   · exact hk _ _ ty (by decide)
end
end Go.Proofs.YtmbdohnmbkpfaaaGreat
