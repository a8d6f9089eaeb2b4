/- keys: a ring in memory; 'hold'. keys: 'hold': an epoch's key is taken into the ring. -/
import Derived.Test.YtlalcnmcnkompaaDoorMMac8Od
import Derived.Test.YtlalcnmcnkompaaDoorMMpGate5
import Derived.Test.YtlalcnmcnkompaaDoorMGate2Pa
import Derived.Test.YtlalcnmcnkompaaDoorMGbGate
import Derived.Great.BuildSlice
import Derived.Test.YtlalcnmcnkompaaDoorMGcAn1
namespace Go.Proofs.YtlalcnmcnkompaaDoor
open Go.RowKit
set_option maxRecDepth 20000
set_option linter.unusedSimpArgs false

def ringC (own : Int) (seed : List Int) (b : Nat) (v : Value) : List Value := [.int .u8 own] ++ seed.map (Value.int .u8) ++ [.map (some b), v]
theorem ringC_own (own : Int) (seed : List Int) (b : Nat) (v : Value) : (ringC own seed b v)[0]? = some (.int .u8 own) := rfl
theorem ringC_seed (own : Int) (seed : List Int) (b : Nat) (v : Value) (hs : seed.length = 32) : ((ringC own seed b v).drop 1).take 32 = seed.map (Value.int .u8) := by
  show (seed.map (Value.int .u8) ++ [.map (some b), v]).take 32 = _
  rw [List.take_left' (by simp [hs])]
theorem ringC_map (own : Int) (seed : List Int) (b : Nat) (v : Value) (hs : seed.length = 32) : (ringC own seed b v)[33]? = some (.map (some b)) := by
  show (seed.map (Value.int .u8) ++ [.map (some b), v])[32]? = _
  rw [List.getElem?_append_right (by simp [hs])]; simp [hs]
theorem ringC_added (own : Int) (seed : List Int) (b : Nat) (v : Value) (hs : seed.length = 32) : (ringC own seed b v)[34]? = some v := by
  show (seed.map (Value.int .u8) ++ [.map (some b), v])[33]? = _
  rw [List.getElem?_append_right (by simp [hs])]; simp [hs]
theorem ringC_set (own : Int) (seed : List Int) (b : Nat) (v v' : Value) (hs : seed.length = 32) : (ringC own seed b v).set 34 v' = ringC own seed b v' := by
  show (([.int .u8 own] : List Value) ++ seed.map (Value.int .u8) ++ [.map (some b), v]).set 34 v' = _
  rw [List.set_append_right _ _ (by simp [hs])]
  simp [hs, ringC]
theorem CellsAt.set {w : World} {g : Nat} {t : TypeId} {cs : List Value} (h : CellsAt w g t cs) (j : Nat) (v : Value) : CellsAt (w.setCell ⟨g, j, none⟩ v) g t (cs.set j v) := by
  unfold CellsAt at h ⊢
  simp only [World.setCell, Array.getElem?_modify, h]
  simp
theorem CellsAt.congr {w w' : World} {g : Nat} {t : TypeId} {cs : List Value} (h : CellsAt w g t cs) (he : w'.heap[g]? = w.heap[g]?) : CellsAt w' g t cs := he.trans h
/-- Keys by dots, as values. -/
def rowM (M : Int → Int → Option (List Int)) : Int → Int → Option Value := fun a s => (M a s).map fun k => .agg (row .u8 k)
def putK (M : Int → Int → Option (List Int)) (a s : Int) (k : List Int) : Int → Int → Option (List Int) := fun a' s' => if a' = a ∧ s' = s then some k else M a' s'
theorem rowM_put (M : Int → Int → Option (List Int)) (a s : Int) (k : List Int) : rowM (putK M a s k) = putM (rowM M) a s (.agg (row .u8 k)) := by
  funext a' s'
  unfold rowM putK putM
  by_cases e : a' = a ∧ s' = s
  · rw [if_pos e, if_pos e]; rfl
  · rw [if_neg e, if_neg e]
/-- The ring at H: its author, its seed, its map in b, the dots v that were added. -/
structure RingAt (w : World) (base H : Nat) (own : Int) (seed : List Int) (b : Nat) (M : Int → Int → Option (List Int)) (v : Value) (L : List (Int × Int)) : Prop where
  box : CellsAt w H 67 (ringC own seed b v)
  map : MapAt w b L.length (rowM M)
  added : OwnD w base v L
  seed32 : seed.length = 32
  is32 : ∀ a s k, M a s = some k → k.length = 32
  lenL : L.length ≤ 16
  baseH : base ≤ H
  baseB : base ≤ b
def ringP (H b : Nat) (v : Value) (k : Nat) : Prop := k = H ∨ k = b ∨ v.ownBlock = some k
theorem RingAt.neHB {w : World} {base H : Nat} {own : Int} {seed : List Int} {b : Nat} {M : Int → Int → Option (List Int)} {v : Value} {L : List (Int × Int)} (h : RingAt w base H own seed b M v L) : b ≠ H := by
  intro e
  subst e
  obtain ⟨D, ⟨es, cl, hb, _⟩, _⟩ := h.map
  have := h.box
  unfold CellsAt at this
  rw [hb] at this
  cases this
theorem RingAt.neV {w : World} {base H : Nat} {own : Int} {seed : List Int} {b : Nat} {M : Int → Int → Option (List Int)} {v : Value} {L : List (Int × Int)} (h : RingAt w base H own seed b M v L) (g : Nat) (hg : v.ownBlock = some g) : g ≠ H ∧ g ≠ b := by
  obtain ⟨_, _, cur, hc⟩ := h.added.blockLt g hg
  refine ⟨fun e => ?_, fun e => ?_⟩
  · subst e
    have := h.box
    unfold CellsAt at this
    rw [hc] at this
    injection this with this
    injection this with _ e2 _
    exact absurd e2 (by decide)
  · subst e
    obtain ⟨D, ⟨es, cl, hb, _⟩, _⟩ := h.map
    rw [hb] at hc
    cases hc
theorem RingAt.congr {w w' : World} {base H : Nat} {own : Int} {seed : List Int} {b : Nat} {M : Int → Int → Option (List Int)} {v : Value} {L : List (Int × Int)} (h : RingAt w base H own seed b M v L) (hk : ∀ g, ringP H b v g → w'.heap[g]? = w.heap[g]?) : RingAt w' base H own seed b M v L :=
  ⟨h.box.congr (hk H (.inl rfl)), h.map.congr (hk b (.inr (.inl rfl))), h.added.congr fun g hg => hk g (.inr (.inr hg)), h.seed32, h.is32, h.lenL, h.baseH, h.baseB⟩
theorem RingAt.inside {w : World} {base H : Nat} {own : Int} {seed : List Int} {b : Nat} {M : Int → Int → Option (List Int)} {v : Value} {L : List (Int × Int)} (h : RingAt w base H own seed b M v L) (g : Nat) (hg : ringP H b v g) : g < w.heap.size ∧ base ≤ g := by
  rcases hg with rfl | rfl | hg
  · exact ⟨h.box.lt, h.baseH⟩
  · exact ⟨h.map.lt, h.baseB⟩
  · obtain ⟨h1, h2, _⟩ := h.added.blockLt g hg
    exact ⟨h1, h2⟩
theorem RingAt.far {w w' : World} {base H : Nat} {own : Int} {seed : List Int} {b : Nat} {M : Int → Int → Option (List Int)} {v : Value} {L : List (Int × Int)} (h : RingAt w base H own seed b M v L) (hb : Below w.heap.size w w') : RingAt w' base H own seed b M v L := h.congr fun g hg => hb.block g (h.inside g hg).1
theorem RingAt.turn {w w' : World} {base H : Nat} {own : Int} {seed : List Int} {b : Nat} {M : Int → Int → Option (List Int)} {v : Value} {L : List (Int × Int)} {p : Nat → Prop} (h : RingAt w base H own seed b M v L) (ht : Turn p w w') (hp : ∀ g, ringP H b v g → ¬ p g) : RingAt w' base H own seed b M v L := h.congr fun g hg => ht.block g (h.inside g hg).1 (hp g hg)

theorem mapDotKey : Tryd.prog.underlying 65 = some (.map 36 23) := by kernel_rfl
theorem sizeDotK : (Tryd.prog.info? 36).map (·.size) = some 2 := by kernel_rfl
theorem sizeKeyK : (Tryd.prog.info? 23).map (·.size) = some 32 := by kernel_rfl
end Go.Proofs.YtlalcnmcnkompaaDoor

namespace Go.Proofs.YtlalcnmcnkompaaDoor
open Go.RowKit
set_option maxRecDepth 20000
set_option linter.unusedSimpArgs false

/-- 'm[d] = v' within a region. -/
theorem wp_mapUpd {P : Program} {o : Oper} {a : Act} {w w' : World} {K : Act → World → Prop} {Q : Exit → Act → World → Prop} (t : TypeId) (m x y : Operand) (ho : o.op = .mapUpdate t m x y) (mv xv yv : Value) (hm : a.eval m = mv) (hx : a.eval x = xv) (hy : a.eval y = yv)
    (hrun : (Instr.mapUpdate t mv xv yv).run P w = .ok () w') (h : K (a.put o.dst undef) w') : o.wp P a w K Q := by
  unfold Oper.wp
  simp [execOp, ho, hm, hx, hy, hrun, Result.andThen]
  exact h
theorem CellsAt.frozen {w : World} {g : Nat} {t : TypeId} {cs : List Value} (h : CellsAt w g t cs) (j : Nat) : w.frozen? ⟨g, j, none⟩ = false := frozen_of_row w g j _ t h
theorem Holds.cellsAt {w : World} {g : Nat} {k : IntKind} {t : TypeId} {l : List Int} (h : Holds w g k t l) : CellsAt w g t (l.map (Value.int k)) := h

set_option maxHeartbeats 4000000 in
theorem hold_any (base H : Nat) (own : Int) (seed : List Int) (b : Nat) (M : Int → Int → Option (List Int)) (v : Value) (L : List (Int × Int)) (a s : Int) (k : List Int) (w : World) (hR : RingAt w base H own seed b M v L) (hl : L.length < 16) (ho : okD a s) (hk : k.length = 32) (hbase : base ≤ w.heap.size) :
    Calls Tryd.prog 28 #[.pointer (some ⟨H, 0, none⟩), .agg (dotC a s).toArray, .agg (row .u8 k)] w fun e w' => (∃ r, e = .returned r) ∧ ∃ v', RingAt w' base H own seed b (putK M a s k) v' (L ++ [(a, s)]) ∧ Turn (ringP H b v) w w' ∧ (v'.ownBlock = v.ownBlock ∨ ∃ g, v'.ownBlock = some g ∧ w.heap.size ≤ g) := by
  have hs32 := hR.seed32
  have hd0 := CellsAt.new w 36 (dotC a s)
  have hk0 := Holds.new (w.alloc (.cells (dotC a s).toArray 36)) .u8 23 k
  rw [World.size_alloc] at hk0
  have hd1 := hd0.alloc (.cells (row .u8 k) 23)
  have hB : Below w.heap.size w ((w.alloc (.cells (dotC a s).toArray 36)).alloc (.cells (row .u8 k) 23)) := ((Below.refl _ _).alloc (Nat.le_refl _) _).alloc (by simp) _
  have hR0 := hR.far hB
  have hsz0 : w.heap.size ≤ ((w.alloc (.cells (dotC a s).toArray 36)).alloc (.cells (row .u8 k) 23)).heap.size := hB.size
  have hin := hR.inside
  have uD : Tryd.prog.underlying 36 = _ := Tryd.underlying36
  have uK : Tryd.prog.underlying 23 = _ := Tryd.underlying23
  have iD : (Tryd.prog.info? 36).map (·.size) = some (dotC a s).length := sizeDotK
  have iK : (Tryd.prog.info? 23).map (·.size) = some (k.map (Value.int .u8)).length := by rw [List.length_map, hk]; exact sizeKeyK
  go_enter Tryd.func28, Tryd.ntmps28
  go_upto_region 1 with fail
  refine forget (p := fun y => Code.wp _ _ _ _ y) (fun W => Below w.heap.size w W ∧ RingAt W base H own seed b M v L ∧ CellsAt W w.heap.size 36 (dotC a s) ∧ Holds W (w.heap.size + 1) .u8 23 k) ⟨hB, hR0, hd1, hk0⟩ ?_
  clear hB hR0 hd1 hk0 hd0 hsz0
  rintro W ⟨hB, hR0, hd0, hk0⟩
  have hkr := hk0.cellsAt.range 0 32
  rw [List.drop_zero, List.take_of_length_le (by simp [hk])] at hkr
  refine wp_region_gate (fun w' => w'.cell? ⟨H, 33, none⟩ = some (.map (some b)) ∧ w'.rangeAt w.heap.size 0 (dotC a s) ∧ w'.rangeAt (w.heap.size + 1) 0 (k.map (Value.int .u8))) 6 (by kernel_rfl) ?_
  have hS : (fun w' : World => w'.cell? ⟨H, 33, none⟩ = some (.map (some b)) ∧ w'.rangeAt w.heap.size 0 (dotC a s) ∧ w'.rangeAt (w.heap.size + 1) 0 (k.map (Value.int .u8))) W.drew := ⟨by have := hR0.box.cell 33; rw [ringC_map _ _ _ _ hs32] at this; exact this, hd0.range 0 2, hkr⟩
  refine wpAnyG_any (i := 0) (v := ?_) rfl (by kernel_rfl) (by kernel_rfl) (by kernel_rfl) (fun _ _ _ h => h) (by kernel_rfl) (fun _ => hS) (by kernel_rfl) ?_ ?_
  rotate_left
  · intro _; go_simp; try with_reducible rfl
  simp only [Act.put, List.getElem_toArray, List.getElem_cons_succ, List.getElem_cons_zero, List.setIfInBounds_toArray, List.set_cons_zero, List.set_cons_succ]
  refine wpAnyG_any (i := 1) (v := ?_) rfl (by kernel_rfl) (by kernel_rfl) (by kernel_rfl) (fun _ _ _ h => h) (by kernel_rfl) (fun _ => hS) (by kernel_rfl) ?_ ?_
  rotate_left
  · intro _; go_simp; try with_reducible rfl
  simp only [Act.put, List.getElem_toArray, List.getElem_cons_succ, List.getElem_cons_zero, List.setIfInBounds_toArray, List.set_cons_zero, List.set_cons_succ]
  refine wpAnyG_any (i := 2) (v := ?_) rfl (by kernel_rfl) (by kernel_rfl) (by kernel_rfl) (fun _ _ _ h => h) (by kernel_rfl) (fun _ => hS) (by kernel_rfl) ?_ ?_
  rotate_left
  · intro _; go_simp; try with_reducible rfl
  simp only [Act.put, List.getElem_toArray, List.getElem_cons_succ, List.getElem_cons_zero, List.setIfInBounds_toArray, List.set_cons_zero, List.set_cons_succ]
  refine wpAnyG_read (i := 3) (v := ?_) rfl (by kernel_rfl) (by kernel_rfl) (by kernel_rfl) (fun _ _ _ h => h) (by kernel_rfl) (by kernel_rfl) (by kernel_rfl) hS (by kernel_rfl) ?_ ?_
  rotate_left
  · intro wx hSw; go_split_ands; go_simp; try with_reducible rfl
  simp only [Act.put, List.getElem_toArray, List.getElem_cons_succ, List.getElem_cons_zero, List.setIfInBounds_toArray, List.set_cons_zero, List.set_cons_succ]
  refine wpAnyG_load (i := 4) (dst := some 10) (ty := 36) (x := .tmp 4) (b := w.heap.size) (o := (0)) (cs := (dotC a s)) (by kernel_rfl) (by kernel_rfl) (by kernel_rfl) (by kernel_rfl) (by kernel_rfl) (fun _ _ _ h => h) (by kernel_rfl) (by kernel_rfl) (by kernel_rfl) hS (by kernel_rfl) (fun _ h => h.2.1) uD rfl iD ?_
  simp only [Act.put, List.getElem_toArray, List.getElem_cons_succ, List.getElem_cons_zero, List.setIfInBounds_toArray, List.set_cons_zero, List.set_cons_succ]
  refine wpAnyG_load (i := 5) (dst := some 11) (ty := 23) (x := .tmp 5) (b := (w.heap.size + 1)) (o := (0)) (cs := (k.map (Value.int .u8))) (by kernel_rfl) (by kernel_rfl) (by kernel_rfl) (by kernel_rfl) (by kernel_rfl) (fun _ _ _ h => h) (by kernel_rfl) (by kernel_rfl) (by kernel_rfl) hS (by kernel_rfl) (fun _ h => h.2.2) uK rfl iK ?_
  simp only [Act.put, List.getElem_toArray, List.getElem_cons_succ, List.getElem_cons_zero, List.setIfInBounds_toArray, List.set_cons_zero, List.set_cons_succ]
  refine wpAnyG_one (i := 6) rfl (by kernel_rfl) (by kernel_rfl) (fun K hK => ?_)
  obtain ⟨W1, hrun, hM1, hg1⟩ := (hR0.map.congr (w' := W.drew) rfl).store mapDotKey (by simp [maxLen]; omega) a s ho (.agg (row .u8 k))
  refine wp_mapUpd 65 _ _ _ rfl _ _ _ rfl rfl rfl hrun ?_
  refine hK.out _ _ (fun h => absurd (show true = false from h) (by decide)) ?_
  clear hK K
  try simp only [Act.put, List.getElem_toArray, List.getElem_cons_succ, List.getElem_cons_zero, List.setIfInBounds_toArray, List.set_cons_zero, List.set_cons_succ]
  refine wpAnyG_done (by kernel_rfl) ?_ _
  have hbH := hR0.neHB
  have hlt : ∀ g, g < w.heap.size + 2 → g < W.drew.heap.size := fun g hg => Nat.lt_of_lt_of_le hg hk0.lt
  have hT1 : Turn (ringP H b v) w W1 := (Turn.of_below hB).trans ((Turn.of_below (w' := W.drew) (Below.refl _ _).drew).trans (Turn.of_grown hg1 fun k hk => by cases hk; exact .inr (.inl rfl)))
  have hbx : b < w.heap.size := (hin b (.inr (.inl rfl))).1
  have hHx : H < w.heap.size := (hin H (.inl rfl)).1
  have hbox1 : CellsAt W1 H 67 (ringC own seed b v) := hR0.box.congr (hg1.block H (hlt H (by omega)) (by simpa using fun e => hbH e.symm))
  have hd1 : CellsAt W1 w.heap.size 36 (dotC a s) := hd0.congr (hg1.block _ (hlt _ (by omega)) (by simp; omega))
  have hv1 : OwnD W1 base v L := hR0.added.congr fun g hg => hg1.block g (hlt g (by have := (hin g (.inr (.inr hg))).1; omega)) (by simp; intro e; exact (hR0.neV g hg).2 e)
  refine forget (p := fun y => Exit.then _ _ _ _ y) (fun W1 => Turn (ringP H b v) w W1 ∧ CellsAt W1 H 67 (ringC own seed b v) ∧ CellsAt W1 w.heap.size 36 (dotC a s) ∧ OwnD W1 base v L ∧ MapAt W1 b (L.length + 1) (putM (rowM M) a s (.agg (row .u8 k)))) ⟨hT1, hbox1, hd1, hv1, hM1⟩ ?_
  have HNV : Veil (∀ g, v.ownBlock = some g → g ≠ H ∧ g ≠ b ∧ g < w.heap.size) := ⟨fun g hg => ⟨(hR0.neV g hg).1, (hR0.neV g hg).2, (hin g (.inr (.inr hg))).1⟩⟩
  clear hT1 hbox1 hd1 hv1 hM1 hg1 hrun hS hB hR0 hd0 hk0 hkr iK uK hlt
  clear W1 W
  rintro W ⟨hT1, hbox1, hd1, hv1, hM1⟩
  go_upto_region 2 with fail
  have c34 := hbox1.cell 34
  rw [ringC_added _ _ _ _ hs32] at c34
  have hW0 : w.heap.size ≤ W.heap.size := hT1.size
  have hWl : w.heap.size < W.heap.size := hd1.lt
  refine wp_region_gate (fun w' => w'.cell? ⟨H, 34, none⟩ = some v ∧ w'.rangeAt w.heap.size 0 (dotC a s)) 10 (by kernel_rfl) ?_
  have hS : (fun w' : World => w'.cell? ⟨H, 34, none⟩ = some v ∧ w'.rangeAt w.heap.size 0 (dotC a s)) W.drew := ⟨c34, hd1.range 0 2⟩
  refine wpAnyG_any (i := 0) (v := ?_) rfl (by kernel_rfl) (by kernel_rfl) (by kernel_rfl) (fun _ _ _ h => h) (by kernel_rfl) (fun _ => hS) (by kernel_rfl) ?_ ?_
  rotate_left
  · intro _; go_simp; try with_reducible rfl
  simp only [Act.put, List.getElem_toArray, List.getElem_cons_succ, List.getElem_cons_zero, List.setIfInBounds_toArray, List.set_cons_zero, List.set_cons_succ]
  refine wpAnyG_any (i := 1) (v := ?_) rfl (by kernel_rfl) (by kernel_rfl) (by kernel_rfl) (fun _ _ _ h => h) (by kernel_rfl) (fun _ => hS) (by kernel_rfl) ?_ ?_
  rotate_left
  · intro _; go_simp; try with_reducible rfl
  simp only [Act.put, List.getElem_toArray, List.getElem_cons_succ, List.getElem_cons_zero, List.setIfInBounds_toArray, List.set_cons_zero, List.set_cons_succ]
  refine wpAnyG_any (i := 2) (v := ?_) rfl (by kernel_rfl) (by kernel_rfl) (by kernel_rfl) (fun _ _ _ h => h) (by kernel_rfl) (fun _ => hS) (by kernel_rfl) ?_ ?_
  rotate_left
  · intro _; go_simp; try with_reducible rfl
  simp only [Act.put, List.getElem_toArray, List.getElem_cons_succ, List.getElem_cons_zero, List.setIfInBounds_toArray, List.set_cons_zero, List.set_cons_succ]
  refine wpAnyG_any (i := 3) (v := ?_) rfl (by kernel_rfl) (by kernel_rfl) (by kernel_rfl) (fun _ _ _ h => h) (by kernel_rfl) (fun _ => hS) (by kernel_rfl) ?_ ?_
  rotate_left
  · intro _; go_simp; try with_reducible rfl
  simp only [Act.put, List.getElem_toArray, List.getElem_cons_succ, List.getElem_cons_zero, List.setIfInBounds_toArray, List.set_cons_zero, List.set_cons_succ]
  refine wpAnyG_read (i := 4) (v := ?_) rfl (by kernel_rfl) (by kernel_rfl) (by kernel_rfl) (fun _ _ _ h => h) (by kernel_rfl) (by kernel_rfl) (by kernel_rfl) hS (by kernel_rfl) ?_ ?_
  rotate_left
  · intro wx hSw; go_split_ands; go_simp; try with_reducible rfl
  simp only [Act.put, List.getElem_toArray, List.getElem_cons_succ, List.getElem_cons_zero, List.setIfInBounds_toArray, List.set_cons_zero, List.set_cons_succ]
  refine wpAnyG_load (i := 5) (dst := some 17) (ty := 36) (x := .tmp 4) (b := w.heap.size) (o := (0)) (cs := (dotC a s)) (by kernel_rfl) (by kernel_rfl) (by kernel_rfl) (by kernel_rfl) (by kernel_rfl) (fun _ _ _ h => h) (by kernel_rfl) (by kernel_rfl) (by kernel_rfl) hS (by kernel_rfl) (fun _ h => h.2) uD rfl iD ?_
  simp only [Act.put, List.getElem_toArray, List.getElem_cons_succ, List.getElem_cons_zero, List.setIfInBounds_toArray, List.set_cons_zero, List.set_cons_succ]
  refine wpAnyG_one (i := 6) rfl (by kernel_rfl) (by kernel_rfl) (fun K hK => ?_)
  obtain ⟨iw, hiw, hwz, hws, hwb⟩ := info_parts infoDot
  refine wp_buildSlice 57 36 1 _ rfl (dotC a s).toArray iw _ Tryd.underlying57 hiw hwz (by rw [hws]; decide) (by rw [hws]; decide) (by rw [hws]; kernel_rfl) ?_
  have hbx2 := hbox1.alloc (.cells (dotC a s).toArray 36)
  have hd2 := hd1.alloc (.cells (dotC a s).toArray 36)
  have hv2 : OwnD (W.drew.alloc (.cells (dotC a s).toArray 36)) base v L := hv1.congr fun g hg => Below.heap_alloc W _ g (by have := (HNV.out g hg).2.2; omega)
  have hM2 := hM1.alloc (.cells (dotC a s).toArray 36)
  have hn2 := CellsAt.new W 36 (dotC a s)
  have hT2 : Turn (ringP H b v) w (W.drew.alloc (.cells (dotC a s).toArray 36)) := hT1.trans (Turn.of_below ((Below.refl _ _).drew.alloc (Nat.le_refl _) _))
  have hsz2 : (W.drew.alloc (.cells (dotC a s).toArray 36)).heap.size = W.heap.size + 1 := by simp
  replace hS : (fun w' : World => w'.cell? ⟨H, 34, none⟩ = some v ∧ w'.rangeAt w.heap.size 0 (dotC a s)) (W.drew.alloc (.cells (dotC a s).toArray 36)) := ⟨by have := hbx2.cell 34; rw [ringC_added _ _ _ _ hs32] at this; exact this, hd2.range 0 2⟩
  refine hK.out _ _ (fun _ => hS) ?_
  clear hK K
  try simp only [Act.put, List.getElem_toArray, List.getElem_cons_succ, List.getElem_cons_zero, List.setIfInBounds_toArray, List.set_cons_zero, List.set_cons_succ]
  refine wpAnyG_one (i := 7) rfl (by kernel_rfl) (by kernel_rfl) (fun K hK => ?_)
  refine wp_appD _ _ rfl base v L rfl hv2 a s W.heap.size rfl (hn2.range 0 2) (by omega) (by rw [hsz2]; omega) ?_
  intro v3 W3 hv3 hg3 hw3
  rw [hsz2] at hw3
  have hk3 : ∀ g, g < W.heap.size → v.ownBlock ≠ some g → W3.heap[g]? = W.heap[g]? := fun g hg hn => (hg3.block g (by rw [hsz2]; omega) (fun e => hn e.symm)).trans (Below.heap_alloc W _ g hg)
  have hbox3 : CellsAt W3 H 67 (ringC own seed b v) := hbox1.congr (hk3 H (by omega) (fun e => (HNV.out H e).1 rfl))
  have hd3 : CellsAt W3 w.heap.size 36 (dotC a s) := hd1.congr (hk3 _ hWl (fun e => by have := (HNV.out _ e).2.2; omega))
  have hM3 : MapAt W3 b (L.length + 1) (putM (rowM M) a s (.agg (row .u8 k))) := hM1.congr (hk3 b (by omega) (fun e => (HNV.out b e).2.1 rfl))
  have hT3 : Turn (ringP H b v) w W3 := hT2.trans (Turn.of_grown hg3 fun k hk => .inr (.inr hk))
  replace hS : (fun w' : World => w'.cell? ⟨H, 34, none⟩ = some v ∧ w'.rangeAt w.heap.size 0 (dotC a s)) W3 := ⟨by have := hbox3.cell 34; rw [ringC_added _ _ _ _ hs32] at this; exact this, hd3.range 0 2⟩
  refine hK.out _ _ (fun _ => hS) ?_
  clear hK K
  try simp only [Act.put, List.getElem_toArray, List.getElem_cons_succ, List.getElem_cons_zero, List.setIfInBounds_toArray, List.set_cons_zero, List.set_cons_succ]
  refine wpAnyG_any (i := 8) (v := ?_) rfl (by kernel_rfl) (by kernel_rfl) (by kernel_rfl) (fun _ _ _ h => h) (by kernel_rfl) (fun _ => hS) (by kernel_rfl) ?_ ?_
  rotate_left
  · intro _; go_simp; try with_reducible rfl
  simp only [Act.put, List.getElem_toArray, List.getElem_cons_succ, List.getElem_cons_zero, List.setIfInBounds_toArray, List.set_cons_zero, List.set_cons_succ]
  refine wpAnyG_any (i := 9) (v := ?_) rfl (by kernel_rfl) (by kernel_rfl) (by kernel_rfl) (fun _ _ _ h => h) (by kernel_rfl) (fun _ => hS) (by kernel_rfl) ?_ ?_
  rotate_left
  · intro _; go_simp; try with_reducible rfl
  simp only [Act.put, List.getElem_toArray, List.getElem_cons_succ, List.getElem_cons_zero, List.setIfInBounds_toArray, List.set_cons_zero, List.set_cons_succ]
  refine wpAnyG_one (i := 10) rfl (by kernel_rfl) (by kernel_rfl) (fun K hK => ?_)
  have c3 := hS.1
  have f3 := hbox3.frozen 34
  have HV3 : Veil (OwnD W3 base v3 (L ++ [(a, s)])) := ⟨hv3⟩
  have HW3 : Veil (v3.ownBlock = v.ownBlock ∨ v3.ownBlock = some (W.heap.size + 1)) := ⟨hw3⟩
  obtain ⟨x3, q3, hx3⟩ := hv3.isSlice
  clear hv3 hw3 hg3
  subst hx3
  go_simp
  refine hK.out _ _ (fun h => absurd (show true = false from h) (by decide)) ?_
  clear hK K
  try simp only [Act.put, List.getElem_toArray, List.getElem_cons_succ, List.getElem_cons_zero, List.setIfInBounds_toArray, List.set_cons_zero, List.set_cons_succ]
  refine wpAnyG_done (by kernel_rfl) ?_ _
  go_wp2
  go_end0
  have hlen : (L ++ [(a, s)]).length = L.length + 1 := by simp
  rw [hlen] at HV3 HW3
  refine ⟨⟨_, rfl⟩, .slice x3 (L.length + 1) q3, ⟨?_, ?_, ?_, hs32, ?_, by rw [hlen]; omega, hR.baseH, hR.baseB⟩, ?_, ?_⟩
  · have := hbox3.set 34 (.slice x3 (L.length + 1) q3)
    rw [ringC_set _ _ _ _ _ hs32] at this
    exact this
  · rw [hlen, rowM_put]; exact hM3.setCell (by simpa using hbH) _
  · refine HV3.out.congr fun g hg => Below.heap_setCell W3 _ _ g ?_
    intro e
    have e' : g = H := e
    subst e'
    rcases HW3.out with h | h
    · rw [h] at hg; exact (HNV.out g hg).1 rfl
    · rw [h] at hg; cases hg; omega
  · intro a' s' k' h
    unfold putK at h
    split at h
    · injection h with h; rw [← h]; exact hk
    · exact hR.is32 a' s' k' h
  · exact hT3.trans (Turn.of_setCell W3 (a := ⟨H, 34, none⟩) (.inl rfl) _)
  · rcases HW3.out with h | h
    · exact .inl h
    · exact .inr ⟨_, h, by omega⟩
end Go.Proofs.YtlalcnmcnkompaaDoor
