/- disk: bytes of an object's own, that may be cut, and are appended to. -/
import Derived.Test.YtknomnnbebhijabDoorDr0
namespace Go.Proofs.YtknomnnbebhijabDoor
open Go.RowKit
set_option maxRecDepth 20000
set_option linter.unusedSimpArgs false

/-- Block g holds these cells, and may be written. -/
def CellsD (w : World) (g : Nat) (t : TypeId) (cs : List Value) : Prop := w.heap[g]? = some (.cells cs.toArray t (0, 0))
theorem CellsD.new (w : World) (t : TypeId) (cs : List Value) : CellsD (w.alloc (.cells cs.toArray t)) w.heap.size t cs := heap_alloc_new w _
theorem CellsD.lt {w : World} {g : Nat} {t : TypeId} {cs : List Value} (h : CellsD w g t cs) : g < w.heap.size := (Array.getElem?_eq_some_iff.1 h).1
theorem CellsD.cell {w : World} {g : Nat} {t : TypeId} {cs : List Value} (h : CellsD w g t cs) (j : Nat) : w.cell? ⟨g, j, none⟩ = cs[j]? := by
  rw [cell_of_row w g j _ t _ h]; simp
theorem CellsD.frozen {w : World} {g : Nat} {t : TypeId} {cs : List Value} (h : CellsD w g t cs) (j : Nat) : w.frozen? ⟨g, j, none⟩ = false := frozen_of_row w g j _ t h
theorem CellsD.congr {w w' : World} {g : Nat} {t : TypeId} {cs : List Value} (h : CellsD w g t cs) (he : w'.heap[g]? = w.heap[g]?) : CellsD w' g t cs := he.trans h
theorem CellsD.set {w : World} {g : Nat} {t : TypeId} {cs : List Value} (h : CellsD w g t cs) (j : Nat) (v : Value) : CellsD (w.setCell ⟨g, j, none⟩ v) g t (cs.set j v) := by
  unfold CellsD at h ⊢
  simp only [World.setCell, Array.getElem?_modify, h]
  simp
theorem CellsD.typ {w : World} {g : Nat} {t t' : TypeId} {cs : List Value} {cur : Array Value} {fr : Nat × Nat} (h : CellsD w g t cs) (h' : w.heap[g]? = some (.cells cur t' fr)) : t = t' := by
  unfold CellsD at h
  rw [h'] at h
  injection h with h
  injection h with _ e _
  exact e.symm
/-- Nothing but the blocks of p has been turned. -/
structure TurnD (p : Nat → Prop) (w w' : World) : Prop where
  os : w'.os = w.os
  tape : w'.tape = w.tape
  output : w'.output = w.output
  size : w.heap.size ≤ w'.heap.size
  block : ∀ k, k < w.heap.size → ¬ p k → w'.heap[k]? = w.heap[k]?
theorem TurnD.of_below {p : Nat → Prop} {w w' : World} (h : Below w.heap.size w w') : TurnD p w w' := ⟨h.os, h.tape, h.output, h.size, fun k hk _ => h.block k hk⟩
theorem TurnD.of_grown {p : Nat → Prop} {w w' : World} {r : Option Nat} (h : w.grownBy w' r) (hp : ∀ k, r = some k → p k) : TurnD p w w' := ⟨h.os, h.tape, h.output, h.size, fun k hk hn => h.block k hk (fun e => hn (hp k e.symm))⟩
theorem TurnD.of_setCell {p : Nat → Prop} (w : World) {a : Addr} (ha : p a.block) (u : Value) : TurnD p w (w.setCell a u) := ⟨rfl, rfl, rfl, by simp [World.setCell], fun k _ hn => Below.heap_setCell w a u k (fun e => hn (by rw [e]; exact ha))⟩
theorem TurnD.refl (p : Nat → Prop) (w : World) : TurnD p w w := .of_below (Below.refl _ _)
theorem TurnD.trans {p : Nat → Prop} {a b c : World} (h : TurnD p a b) (k : TurnD p b c) : TurnD p a c :=
  ⟨k.os.trans h.os, k.tape.trans h.tape, k.output.trans h.output, Nat.le_trans h.size k.size, fun i hi hn => (k.block i (Nat.lt_of_lt_of_le hi h.size) hn).trans (h.block i hi hn)⟩
theorem TurnD.mono {p q : Nat → Prop} {w w' : World} (h : TurnD p w w') (hq : ∀ k, k < w.heap.size → p k → q k) : TurnD q w w' := ⟨h.os, h.tape, h.output, h.size, fun k hk hn => h.block k hk (fun e => hn (hq k hk e))⟩
theorem TurnD.below {p : Nat → Prop} {w w' : World} {B : Nat} (h : TurnD p w w') (hB : B ≤ w.heap.size) (hp : ∀ k, p k → B ≤ k) : Below B w w' := ⟨h.os, h.tape, h.output, h.size, fun k hk => h.block k (Nat.lt_of_lt_of_le hk hB) (fun e => by have := hp k e; omega)⟩

/-- The slice v holds the bytes z: nil, or the first ones of a block of its own, with room up to its end, or with none. -/
def BufAt (w : World) (base : Nat) (v : Value) (z : List Int) : Prop :=
  (v = .slice none 0 0 ∧ z = []) ∨
  ∃ g c cur, v = .slice (some ⟨g, 0, none⟩) z.length c ∧ base ≤ g ∧ w.heap[g]? = some (.cells cur 5 (0, 0)) ∧ z.length ≤ c ∧ c ≤ maxLen ∧ c ≤ cur.size ∧ (c = cur.size ∨ c = z.length) ∧ cur.toList.take z.length = z.map (Value.int .u8)
theorem BufAt.nil (w : World) (base : Nat) : BufAt w base (.slice none 0 0) [] := .inl ⟨rfl, rfl⟩
theorem BufAt.ofOwn {w : World} {base : Nat} {v : Value} {z : List Int} (h : OwnB w base v z) : BufAt w base v z := by
  rcases h.2 with ⟨h1, h0⟩ | ⟨g, cap, cur, h1, h2, h3, h4, h5, h6, h7⟩
  · exact .inl ⟨h1, List.length_eq_zero_iff.1 h0⟩
  · refine .inr ⟨g, cap, cur, h1, h2, h3, h4, h5, by omega, .inl (by omega), ?_⟩
    rw [Nat.mul_one] at h7; exact h7
theorem BufAt.bytes {w : World} {base : Nat} {v : Value} {z : List Int} (h : BufAt w base v z) : ∃ x c, v = .slice x z.length c ∧ Bytes w x z.length c z ∧ (x = none ∨ ∃ g, x = some ⟨g, 0, none⟩) := by
  rcases h with ⟨rfl, rfl⟩ | ⟨g, c, cur, rfl, h2, h3, h4, h5, h6, h7, h8⟩
  · exact ⟨_, _, rfl, bytes_nil w, .inl rfl⟩
  · refine ⟨_, _, rfl, ⟨rfl, h4, by simpa [maxLen] using h5, (fun h => by cases h), .inr ⟨g, 0, rfl, fun j hj => ?_⟩⟩, .inr ⟨g, rfl⟩⟩
    rw [Nat.zero_add, cell_of_row w g j _ _ _ h3, ← Array.getElem?_toList]
    have e : (cur.toList.take z.length)[j]? = (z.map (Value.int .u8))[j]? := by rw [h8]
    rw [List.getElem?_take_of_lt hj, List.getElem?_map, List.getElem?_eq_getElem hj] at e
    rw [e, List.getElem?_eq_getElem hj]; rfl
theorem BufAt.congr {w w' : World} {base : Nat} {v : Value} {z : List Int} (h : BufAt w base v z) (hk : ∀ g, v.ownBlock = some g → w'.heap[g]? = w.heap[g]?) : BufAt w' base v z := by
  rcases h with h | ⟨g, c, cur, h1, h2, h3, h4⟩
  · exact .inl h
  · exact .inr ⟨g, c, cur, h1, h2, (hk g (by rw [h1]; rfl)).trans h3, h4⟩
theorem BufAt.own {w : World} {base : Nat} {v : Value} {z : List Int} (h : BufAt w base v z) (g : Nat) (hg : v.ownBlock = some g) : base ≤ g ∧ g < w.heap.size ∧ ∃ cur, w.heap[g]? = some (.cells cur 5 (0, 0)) := by
  rcases h with ⟨rfl, _⟩ | ⟨g', c, cur, rfl, h2, h3, h4⟩
  · cases hg
  · simp [Value.ownBlock] at hg
    subst hg
    exact ⟨h2, (Array.getElem?_eq_some_iff.1 h3).1, cur, h3⟩
theorem BufAt.far {w w' : World} {base : Nat} {v : Value} {z : List Int} (h : BufAt w base v z) (hb : Below w.heap.size w w') : BufAt w' base v z := h.congr fun g hg => hb.block g (h.own g hg).2.1
theorem BufAt.less {w : World} {base base' : Nat} {v : Value} {z : List Int} (h : BufAt w base v z) (hb : base' ≤ base) : BufAt w base' v z := by
  rcases h with h | ⟨g, c, cur, h1, h2, h3⟩
  · exact .inl h
  · exact .inr ⟨g, c, cur, h1, by omega, h3⟩
/-- Cut, with no room behind. -/
theorem BufAt.cut {w : World} {base : Nat} {x : Option Addr} {n c : Nat} {z : List Int} (h : BufAt w base (.slice x n c) z) (m : Nat) (hm : m ≤ z.length) : BufAt w base (.slice x m m) (z.take m) := by
  have hl : (z.take m).length = m := by rw [List.length_take]; omega
  rcases h with ⟨h1, rfl⟩ | ⟨g, c', cur, h1, h2, h3, h4, h5, h6, h7, h8⟩
  · cases h1
    obtain rfl : m = 0 := by simpa using hm
    exact .inl ⟨rfl, rfl⟩
  · cases h1
    refine .inr ⟨g, m, cur, by rw [hl], h2, h3, by omega, by omega, by omega, .inr hl.symm, ?_⟩
    rw [hl]
    have := congrArg (List.take m) h8
    rw [List.take_take, Nat.min_eq_left hm, ← List.map_take] at this
    exact this
/-- Bytes behind bytes of one's own: in the same block, or in a new one. -/
theorem run_app_buf (w : World) (base : Nat) (v : Value) (z : List Int) (ty : TypeId) (hv : BufAt w base v z) (y : Option Addr) (len cap : Nat) (b : List Int) (hb : Bytes w y len cap b) (hsz : z.length + len ≤ 4000000) (hbase : base ≤ w.heap.size) :
    ∃ v' w', (Builtin.append_ #[31, 31] ty #[v, .slice y len cap]).run Tryd.prog w = .ok v' w' ∧ BufAt w' base v' (z ++ b) ∧ w.grownBy w' v.ownBlock ∧ (v'.ownBlock = v.ownBlock ∨ ∃ g, v'.ownBlock = some g ∧ w.heap.size ≤ g) := by
  obtain ⟨i0, hi, hz0, hz1, hz2⟩ := info_parts infoU8
  have hbl := hb.len_eq
  have hsame : w.grownBy w v.ownBlock := ⟨rfl, rfl, rfl, Nat.le_refl _, fun _ _ _ => rfl⟩
  cases y with
  | none =>
    have hc0 := hb.nil rfl
    have hle := hb.le
    obtain rfl : cap = 0 := hc0
    obtain rfl : len = 0 := by omega
    have hb0 : b = [] := List.length_eq_zero_iff.1 hbl.symm
    subst hb0
    rw [List.append_nil]
    refine ⟨v, w, ?_, hv, hsame, .inl rfl⟩
    rcases hv with ⟨rfl, rfl⟩ | ⟨g, c, cur, rfl, h2, h3, h4, _⟩
    · simp [Builtin.append_, run_underlying Tryd.underlying31, sizeOf, typeInfo, hi, Builtin.lenOf, Builtin.firstCells]
    · simp [Builtin.append_, run_underlying Tryd.underlying31, sizeOf, typeInfo, hi, Builtin.lenOf, Builtin.firstCells, h4, storeCells]
  | some ad =>
    have hsrc : ∀ j u, (b.map (Value.int .u8))[j]? = some u → w.cell? (ad.add j) = some u := fun j u hu => by
      have hj : j < len := by have := (List.getElem?_eq_some_iff.1 hu).1; simpa [hbl] using this
      rcases hb.at_ with h0 | ⟨b', off, hy, hc⟩
      · omega
      · cases hy
        rw [Addr.add_mid', hc j hj, ← hu, List.getElem?_map, List.getElem?_eq_getElem (by omega)]; rfl
    have hone : ∀ u ∈ b.map (Value.int .u8), u.oneCell' = true := by simp [Value.oneCell']
    have hml : z.length + len ≤ maxLen := by simp [maxLen]; omega
    rcases hv with ⟨rfl, rfl⟩ | ⟨g, c, cur, rfl, h2, h3, h4, h5, h6, h7, h8⟩
    · obtain ⟨v', w', hrun, r1, r2, _⟩ := run_append_own (P := Tryd.prog) w w.heap.size 31 ty 5 i0 (.int .u8 0) 1 1 Tryd.underlying31 hi hz0 hz1 hz2 rfl (by decide) (.slice none 0 0) 0 [] (World.ownsRow_nil w _ _ 1) ad len cap (b.map (Value.int .u8)) (by simp [hbl]) hsrc hone (by simpa using hml) (by simp at hsz ⊢; omega) (Nat.le_refl _)
      have ho : OwnB w' w.heap.size v' ([] ++ b) := OwnB.cast r1 (by simp [hbl]) (by simp)
      refine ⟨v', w', hrun, (BufAt.ofOwn ho).less hbase, r2, ?_⟩
      cases hq : v'.ownBlock with
      | none => exact .inl rfl
      | some g => exact .inr ⟨g, rfl, ((BufAt.ofOwn ho).own g hq).1⟩
    · by_cases hr : z.length + len ≤ c
      · rcases h7 with h7 | h7
        · have hown : w.ownsRow base 5 1 (.slice (some ⟨g, 0, none⟩) z.length c) z.length (z.map (Value.int .u8)) := ⟨by simp, .inr ⟨g, c, cur, rfl, h2, h3, h4, h5, by omega, by rw [Nat.mul_one]; exact h8⟩⟩
          obtain ⟨w', hrun, r1, r2⟩ := run_append_fits (P := Tryd.prog) w base 31 ty 5 i0 1 Tryd.underlying31 hi hz1 g z.length c _ hown ad len cap (b.map (Value.int .u8)) (by simp [hbl]) hsrc hone hr
          exact ⟨_, w', hrun, BufAt.ofOwn (OwnB.cast r1 (by simp [hbl]) (by simp)), r2, .inl rfl⟩
        · obtain rfl : len = 0 := by omega
          have hb0 : b = [] := List.length_eq_zero_iff.1 hbl.symm
          subst hb0
          have hrun := run_append_room_cells (P := Tryd.prog) w 31 ty 5 i0 Tryd.underlying31 hi g 0 z.length c ad 0 cap [] (by simp) (by simp) (by simp) hr (by simp) (by simp)
          refine ⟨_, _, hrun, ?_, hsame, .inl rfl⟩
          rw [List.append_nil]
          exact .inr ⟨g, c, cur, rfl, h2, h3, h4, h5, h6, .inr h7, h8⟩
      · have holds : ∀ j u, (z.map (Value.int .u8))[j]? = some u → w.cell? ((⟨g, 0, none⟩ : Addr).add j) = some u := fun j u hu => by
          have hj : j < z.length := by have := (List.getElem?_eq_some_iff.1 hu).1; simpa using this
          rw [Addr.add_mid', Nat.zero_add, cell_of_row w g j _ _ _ h3, ← Array.getElem?_toList]
          have e : (cur.toList.take z.length)[j]? = (z.map (Value.int .u8))[j]? := by rw [h8]
          rw [List.getElem?_take_of_lt hj] at e
          rw [e]; exact hu
        obtain ⟨v', w', hrun, r1, r2⟩ := run_append_arg_grows (P := Tryd.prog) w 31 ty 5 i0 (.int .u8 0) 1 1 Tryd.underlying31 hi hz0 hz1 hz2 rfl (by decide) ⟨g, 0, none⟩ z.length c (z.map (Value.int .u8)) (by simp) holds ad len cap (b.map (Value.int .u8)) (by simp [hbl]) hsrc (by omega) hml (by omega)
        have ho : OwnB w' w.heap.size v' (z ++ b) := OwnB.cast r1 (by simp [hbl]) (by simp)
        refine ⟨v', w', hrun, (BufAt.ofOwn ho).less hbase, ⟨r2.os, r2.tape, r2.output, r2.size, fun k hk _ => r2.block k hk (by simp)⟩, ?_⟩
        cases hq : v'.ownBlock with
        | none =>
          exfalso
          rcases BufAt.ofOwn ho with ⟨_, h0⟩ | ⟨g', c', cur', rfl, _⟩
          · have := congrArg List.length h0
            rw [List.length_append, List.length_nil] at this
            omega
          · cases hq
        | some g' => exact .inr ⟨g', rfl, ((BufAt.ofOwn ho).own g' hq).1⟩
end Go.Proofs.YtknomnnbebhijabDoor
