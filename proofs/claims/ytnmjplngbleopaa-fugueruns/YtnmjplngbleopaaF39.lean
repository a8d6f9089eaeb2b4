/- Fu4 -/
import Derived.Test.YtnmjplngbleopaaF36
import Derived.Test.YtnmjplngbleopaaF38
namespace Go.Proofs.Ytnmjplngbleopaa
open Go.RowKit Go.Shelf
set_option maxRecDepth 20000
set_option linter.unusedSimpArgs false
def upW {α : Type} (f : Nat → α) (j : Nat) (v : α) : Nat → α := fun i => if i = j then v else f i
theorem upW_self {α : Type} (f : Nat → α) (j : Nat) (v : α) : upW f j v j = v := if_pos rfl
theorem upW_other {α : Type} (f : Nat → α) {j i : Nat} (v : α) (h : i ≠ j) : upW f j v i = f i := if_neg h
theorem upW_row {α β : Type} (g : α → β) (f : Nat → α) {j : Nat} (hj : j < 2) (v : α) : [g (f 0), g (f 1)].set j (g v) = [g (upW f j v 0), g (upW f j v 1)] := by
  rcases (by omega : j = 0 ∨ j = 1) with rfl | rfl <;> rfl
theorem TreeAt.lessU {w : World} {base base' R bc bn : Nat} {N : List Nd} {V : (Int × Int) × Bool → Value} (h : TreeAt w base R bc bn N V) (hb : base' ≤ base) : TreeAt w base' R bc bn N V := ⟨h.box, h.chars, h.nodes, ⟨fun s hs => (h.sides.own s hs).less hb, h.sides.apart, h.sides.far⟩, h.empty, h.nodup, h.okId, h.okChr, h.ne⟩
structure Ph (w1 wr : World) (R bc bn : Nat) (V : (Int × Int) × Bool → Value) (M : List Nd) (c : Nat) (vs : Nat → Value) (Ls : Nat → List (List Value)) : Prop where
  tree : TreeAt wr w1.heap.size R bc bn M V
  treeB : ∀ k, treeP R bc bn V k → w1.heap.size ≤ k
  words : CellsAt wr c 37 [vs 0, vs 1]
  wB : w1.heap.size ≤ c
  own : ∀ j, j < 2 → OwnI wr w1.heap.size 34 7 (vs j) (Ls j)
  ct : ¬ treeP R bc bn V c
  tw : ∀ j, j < 2 → ∀ g, (vs j).ownBlock = some g → ¬ treeP R bc bn V g ∧ g ≠ c
  oo : ∀ i j, i < 2 → j < 2 → i ≠ j → ∀ g, (vs i).ownBlock = some g → (vs j).ownBlock ≠ some g
  below : Below w1.heap.size w1 wr
section
variable {w1 wr w' : World} {R bc bn : Nat} {V V' : (Int × Int) × Bool → Value} {M M' : List Nd} {c : Nat} {vs : Nat → Value} {Ls : Nat → List (List Value)} {R' bc' bn' : Nat} {U U' : (Int × Int) × Bool → Value} {F F' : List Nd}
theorem Ph.turn {p : Nat → Prop} (h : Ph w1 wr R bc bn V M c vs Ls) (ht : Turn p wr w') (hp : ∀ k, p k → w1.heap.size ≤ k) (hq : ∀ k, p k → ¬ treeP R bc bn V k ∧ k ≠ c ∧ ∀ j, j < 2 → (vs j).ownBlock ≠ some k) : Ph w1 w' R bc bn V M c vs Ls where
  tree := h.tree.congr fun k hk => ht.block k (h.tree.blockLt k hk) (fun q => (hq k q).1 hk)
  treeB := h.treeB
  words := h.words.congr (ht.block c h.words.lt (fun q => (hq c q).2.1 rfl))
  wB := h.wB
  own := fun j hj => (h.own j hj).congr fun g hg => ht.block g ((h.own j hj).blockLt g hg).1 (fun q => (hq g q).2.2 j hj hg)
  ct := h.ct
  tw := h.tw
  oo := h.oo
  below := h.below.trans (ht.below h.below.size hp)
theorem Ph.far (h : Ph w1 wr R bc bn V M c vs Ls) (hb : Below wr.heap.size wr w') : Ph w1 w' R bc bn V M c vs Ls := h.turn (p := fun _ => False) (Turn.of_below hb) (fun _ q => q.elim) (fun _ q => q.elim)
theorem Ph.ins (h : Ph w1 wr R bc bn V M c vs Ls) (hT : TreeAt w' w1.heap.size R bc bn M' V') (ht : TreeTo R bc bn V V' wr w') : Ph w1 w' R bc bn V' M' c vs Ls where
  tree := hT
  treeB := fun k hk => by
    rcases ht.own k hk with q | q
    · exact h.treeB k q
    · have := h.below.size; omega
  words := h.words.congr (ht.turn.block c h.words.lt h.ct)
  wB := h.wB
  own := fun j hj => (h.own j hj).congr fun g hg => ht.turn.block g ((h.own j hj).blockLt g hg).1 (h.tw j hj g hg).1
  ct := fun q => by
    rcases ht.own c q with r | r
    · exact h.ct r
    · have := h.words.lt; omega
  tw := fun j hj g hg => ⟨fun q => by
    rcases ht.own g q with r | r
    · exact (h.tw j hj g hg).1 r
    · have := ((h.own j hj).blockLt g hg).1; omega, (h.tw j hj g hg).2⟩
  oo := h.oo
  below := h.below.trans (ht.turn.below h.below.size h.treeB)
structure FkS (w1 wr : World) (R bc bn : Nat) (V : (Int × Int) × Bool → Value) (M : List Nd) (c : Nat) (vs : Nat → Value) (Ls : Nat → List (List Value)) (R' bc' bn' : Nat) (U : (Int × Int) × Bool → Value) (F : List Nd) : Prop where
  ph : Ph w1 wr R bc bn V M c vs Ls
  ft : TreeAt wr w1.heap.size R' bc' bn' F U
  fB : ∀ k, treeP R' bc' bn' U k → w1.heap.size ≤ k
  fa : ∀ k, treeP R' bc' bn' U k → ¬ treeP R bc bn V k ∧ k ≠ c ∧ ∀ j, j < 2 → (vs j).ownBlock ≠ some k
theorem FkS.far (h : FkS w1 wr R bc bn V M c vs Ls R' bc' bn' U F) (hb : Below wr.heap.size wr w') : FkS w1 w' R bc bn V M c vs Ls R' bc' bn' U F := ⟨h.ph.far hb, h.ft.far hb, h.fB, h.fa⟩
theorem FkS.made (h : Ph w1 wr R bc bn V M c vs Ls) (hT : TreeAt w' wr.heap.size R' bc' bn' F U) (hb : Below wr.heap.size wr w') (hB : ∀ k, treeP R' bc' bn' U k → wr.heap.size ≤ k) : FkS w1 w' R bc bn V M c vs Ls R' bc' bn' U F where
  ph := h.far hb
  ft := hT.lessU h.below.size
  fB := fun k hk => Nat.le_trans h.below.size (hB k hk)
  fa := fun k hk => by
    have hk := hB k hk
    refine ⟨fun q => by have := h.tree.blockLt k q; omega, fun q => by have := h.words.lt; omega, fun j hj q => by have := ((h.own j hj).blockLt k q).1; omega⟩
theorem FkS.ins (h : FkS w1 wr R bc bn V M c vs Ls R' bc' bn' U F) (hT : TreeAt w' w1.heap.size R' bc' bn' F' U') (ht : TreeTo R' bc' bn' U U' wr w') : FkS w1 w' R bc bn V M c vs Ls R' bc' bn' U' F' where
  ph := h.ph.turn ht.turn h.fB h.fa
  ft := hT
  fB := fun k hk => by
    rcases ht.own k hk with q | q
    · exact h.fB k q
    · have := h.ph.below.size; omega
  fa := fun k hk => by
    rcases ht.own k hk with q | q
    · exact h.fa k q
    · refine ⟨fun r => by have := h.ph.tree.blockLt k r; omega, fun r => by have := h.ph.words.lt; omega, fun j hj r => by have := ((h.ph.own j hj).blockLt k r).1; omega⟩
theorem FkS.push (h : FkS w1 wr R bc bn V M c vs Ls R' bc' bn' U F) {j : Nat} (hj : j < 2) {x : Option Addr} {n cp : Nat} {C : List Value} {W : World} (ho : OwnI W w1.heap.size 34 7 (.slice x n cp) (Ls j ++ [C])) (ht : Turn (fun k => (vs j).ownBlock = some k) wr W) (hn : ∀ g, (Value.slice x n cp).ownBlock = some g → (vs j).ownBlock = some g ∨ wr.heap.size ≤ g) :
    FkS w1 (W.setCell ⟨c, j, none⟩ (.slice x n cp)) R bc bn V M c (upW vs j (.slice x n cp)) (upW Ls j (Ls j ++ [C])) R' bc' bn' U F := by
  have hp := h.ph
  have hcn : ∀ i, i < 2 → (vs i).ownBlock ≠ some c := fun i hi q => (hp.tw i hi c q).2 rfl
  have hcW : CellsAt W c 37 [vs 0, vs 1] := hp.words.congr (ht.block c hp.words.lt (hcn j hj))
  have hset : ∀ g, g ≠ c → (W.setCell ⟨c, j, none⟩ (.slice x n cp)).heap[g]? = W.heap[g]? := fun g hg => Below.heap_setCell W ⟨c, j, none⟩ _ g hg
  have hgo : ∀ g, (Value.slice x n cp).ownBlock = some g → ¬ treeP R bc bn V g ∧ g ≠ c ∧ ¬ treeP R' bc' bn' U g := fun g hg => by
    rcases hn g hg with q | q
    · exact ⟨(hp.tw j hj g q).1, (hp.tw j hj g q).2, fun r => (h.fa g r).2.2 j hj q⟩
    · exact ⟨fun r => by have := hp.tree.blockLt g r; omega, fun r => by have := hp.words.lt; omega, fun r => by have := h.ft.blockLt g r; omega⟩
  have hBW : Below w1.heap.size w1 W := hp.below.trans (ht.below hp.below.size fun k q => ((hp.own j hj).blockLt k q).2.1)
  refine ⟨⟨?_, hp.treeB, ?_, hp.wB, fun i hi => ?_, hp.ct, fun i hi g hg => ?_, fun i k hi hk hik g hg q => ?_, hBW.trans ((Turn.of_setCell (p := fun k => k = c) W (a := ⟨c, j, none⟩) rfl _).below hBW.size fun k q => by rw [q]; exact hp.wB)⟩, ?_, h.fB, fun k hk => ⟨(h.fa k hk).1, (h.fa k hk).2.1, fun i hi => ?_⟩⟩
  · exact (hp.tree.congr fun k hk => ht.block k (hp.tree.blockLt k hk) (fun q => (hp.tw j hj k q).1 hk)).congr fun k hk => hset k (fun q => hp.ct (by rw [← q]; exact hk))
  · have := hcW.set j (.slice x n cp)
    rw [show [vs 0, vs 1].set j (.slice x n cp) = [upW vs j (.slice x n cp) 0, upW vs j (.slice x n cp) 1] from upW_row id vs hj _] at this
    exact this
  · by_cases hij : i = j
    · subst hij
      rw [upW_self, upW_self]
      exact ho.congr fun g hg => hset g (hgo g hg).2.1
    · rw [upW_other _ _ hij, upW_other _ _ hij]
      exact ((hp.own i hi).congr fun g hg => ht.block g ((hp.own i hi).blockLt g hg).1 (hp.oo i j hi hj hij g hg)).congr fun g hg => hset g (hp.tw i hi g hg).2
  · by_cases hij : i = j
    · subst hij
      rw [upW_self] at hg
      exact ⟨(hgo g hg).1, (hgo g hg).2.1⟩
    · rw [upW_other _ _ hij] at hg
      exact hp.tw i hi g hg
  · by_cases hij : i = j
    · subst hij
      rw [upW_self] at hg
      rw [upW_other _ _ (Ne.symm hik)] at q
      rcases hn g hg with r | r
      · exact hp.oo i k hi hk hik g r q
      · have := ((hp.own k hk).blockLt g q).1; omega
    · rw [upW_other _ _ hij] at hg
      by_cases hkj : k = j
      · subst hkj
        rw [upW_self] at q
        rcases hn g q with r | r
        · exact hp.oo i k hi hk hik g hg r
        · have := ((hp.own i hi).blockLt g hg).1; omega
      · rw [upW_other _ _ hkj] at q
        exact hp.oo i k hi hk hik g hg q
  · exact (h.ft.congr fun k hk => ht.block k (h.ft.blockLt k hk) ((h.fa k hk).2.2 j hj)).congr fun k hk => hset k (h.fa k hk).2.1
  · by_cases hij : i = j
    · subst hij
      rw [upW_self]
      exact fun q => (hgo k q).2.2 hk
    · rw [upW_other _ _ hij]
      exact (h.fa k hk).2.2 i hi
structure Wn (w1 wr : World) (R bc bn : Nat) (V : (Int × Int) × Bool → Value) (M : List Nd) (c : Nat) (vs : Nat → Value) (Ls : Nat → List (List Value)) (d : Nat) (ss : Nat → ByteArray) : Prop where
  ph : Ph w1 wr R bc bn V M c vs Ls
  want : CellsAt wr d 43 [.string (ss 0), .string (ss 1)]
  dB : w1.heap.size ≤ d
  dt : ¬ treeP R bc bn V d
  dc : d ≠ c
  dv : ∀ j, j < 2 → (vs j).ownBlock ≠ some d
variable {d : Nat} {ss : Nat → ByteArray}
theorem Wn.far (h : Wn w1 wr R bc bn V M c vs Ls d ss) (hb : Below wr.heap.size wr w') : Wn w1 w' R bc bn V M c vs Ls d ss := ⟨h.ph.far hb, h.want.congr (hb.block d h.want.lt), h.dB, h.dt, h.dc, h.dv⟩
theorem Wn.made (h : Ph w1 wr R bc bn V M c vs Ls) (hb : Below wr.heap.size wr w') (hw : CellsAt w' d 43 [.string (ss 0), .string (ss 1)]) (hd : wr.heap.size ≤ d) : Wn w1 w' R bc bn V M c vs Ls d ss := ⟨h.far hb, hw, Nat.le_trans h.below.size hd, fun q => by have := h.tree.blockLt d q; omega, fun q => by have := h.words.lt; omega, fun j hj q => by have := ((h.own j hj).blockLt d q).1; omega⟩
theorem Wn.ins (h : Wn w1 wr R bc bn V M c vs Ls d ss) (hT : TreeAt w' w1.heap.size R bc bn M' V') (ht : TreeTo R bc bn V V' wr w') : Wn w1 w' R bc bn V' M' c vs Ls d ss := ⟨h.ph.ins hT ht, h.want.congr (ht.turn.block d h.want.lt h.dt), h.dB, fun q => by
  rcases ht.own d q with r | r
  · exact h.dt r
  · have := h.want.lt; omega, h.dc, h.dv⟩
theorem Wn.put (h : Wn w1 wr R bc bn V M c vs Ls d ss) {j : Nat} (hj : j < 2) (s : ByteArray) : Wn w1 (wr.setCell ⟨d, j, none⟩ (.string s)) R bc bn V M c vs Ls d (upW ss j s) := by
  refine ⟨h.ph.turn (p := fun k => k = d) (Turn.of_setCell (p := fun k => k = d) wr (a := ⟨d, j, none⟩) rfl _) (fun k q => by rw [q]; exact h.dB) (fun k q => by rw [q]; exact ⟨h.dt, h.dc, h.dv⟩), ?_, h.dB, h.dt, h.dc, h.dv⟩
  have := h.want.set j (.string s)
  rw [show [Value.string (ss 0), Value.string (ss 1)].set j (.string s) = [.string (upW ss j s 0), .string (upW ss j s 1)] from upW_row Value.string ss hj s] at this
  exact this
end
end Go.Proofs.Ytnmjplngbleopaa
