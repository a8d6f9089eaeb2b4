/- Arguments of the statements on aead, opened: a key, a nonce and bytes; two slices. -/
import Derived.Test.YtnblcdpahpcglaaGo0
import Derived.Test.YtnblcdpahpcglaaCu
import Derived.ChangeSame
namespace Go.Proofs.Ytnblcdpahpcglaa
open Go.ChangeShapes Go.WideShapes Go.ChangeAt Go.RowKit

theorem row_of_trod5 {H : Type} {enc : TypeId × Value → H} {P : Program} {W : World} {n fuel : Nat} {t e : TypeId} {k : IntKind} {cs : List Value} {x : DataW H × List MemPlace} (hu : P.underlying t = some (.array n e)) (he : P.underlying e = some (.int k)) (hce : P.cellsOf e = 1)
    (hsz : cs.length = n) (h : DataW.trod enc P W 0 (fun _ => true) true fuel t cs = some x) :
    ∃ l : List Int, l.length = n ∧ cs = l.map (Value.int k) ∧ ∀ x ∈ l, (Lit.int k x).wf = true := by
  obtain ⟨xs, m, _, _, _, hlen, hel⟩ := DataW.trod_array hu h
  simp only [hce, Nat.mul_one] at hel
  have key : ∀ i (hi : i < cs.length), cs[i] = .int k (intOf cs[i]) ∧ (Lit.int k (intOf cs[i])).wf = true := fun i hi => by
    have h1 := hel i (by omega)
    rw [List.getElem?_eq_getElem (by omega)] at h1
    obtain ⟨a, ea, _, wa⟩ := DataW.trod_int he h1
    have e1 : (cs.drop i).take 1 = [cs[i]] := by
      rw [List.drop_eq_getElem_cons hi, List.take_succ_cons, List.take_zero]
    rw [e1] at ea
    have e2 : cs[i] = .int k a := by simpa using ea
    rw [e2]
    exact ⟨rfl, wa⟩
  refine ⟨cs.map intOf, by simp [hsz], ?_, ?_⟩
  · apply List.ext_getElem (by simp)
    intro i h1 h2
    have := (key i h1).1
    simp only [List.map_map, List.getElem_map, Function.comp]
    exact this
  · intro x hx
    obtain ⟨c, hc, rfl⟩ := List.mem_map.1 hx
    obtain ⟨i, hi, rfl⟩ := List.mem_iff_getElem.1 hc
    exact (key i hi).2
/-- One cell that is a slice of bytes. -/
theorem slice_of_trod {H : Type} {enc : TypeId × Value → H} {W : World} {fuel : Nat} {cs : List Value} {x : DataW H × List MemPlace} (h : DataW.trod enc Try.prog W 0 (fun _ => true) true fuel 24 cs = some x) :
    ∃ y len cap z, cs = [.slice y len cap] ∧ Bytes W y len cap z ∧ (∀ v ∈ z, 0 ≤ v ∧ v ≤ 255) := by
  rcases open_ints Try.underlying24 Try.underlying5 cellsU8 h with ⟨hcs, _⟩ | ⟨a, l, c, zs, hcs, _, hl, hm, hz, _, hcell, hwz⟩
  · exact ⟨none, 0, 0, [], hcs, bytes_nil W, by simp⟩
  · simp only [if_true] at hz
    refine ⟨some a, l, c, zs.take l, hcs, ⟨by simp; omega, hl, by simpa [maxLen] using hm, (fun h => by cases h), ?_⟩, fun v hv => bounds_u8 (hwz v (List.mem_of_mem_take hv))⟩
    by_cases h0 : l = 0
    · exact .inl h0
    · obtain ⟨b, off, rfl, hc⟩ := ints_at hcell (by omega)
      refine .inr ⟨b, off, rfl, fun j hj => ?_⟩
      have := hc j (by omega)
      rw [List.getElem?_take_of_lt hj]
      rw [List.getD_eq_getElem?_getD] at this
      exact this
/-- A key, a nonce and a slice as cells. -/
def ask5L (k n : List Int) (v : Value) : List Value := k.map (Value.int .u8) ++ n.map (Value.int .u8) ++ [v]
def ask5Row (k n : List Int) (v : Value) : Array Value := (ask5L k n v).toArray
theorem open_ask5 {H : Type} {enc : TypeId × Value → H} {W : World} {r : Reach} {base : Nat} {v : Value} {d : DataW H} {p : List MemPlace} (hv : Value.okWide Try.prog W r base 34 v) (h : DataW.Trod enc Try.prog W 0 (fun _ => true) true 34 v d p) :
    ∃ (k n : List Int) (x : Option Addr) (len cap : Nat) (z : List Int), k.length = 32 ∧ n.length = 12 ∧ v = .agg (ask5Row k n (.slice x len cap)) ∧ Bytes W x len cap z ∧ (∀ v ∈ z, 0 ≤ v ∧ v ≤ 255) ∧ (∀ v ∈ k, 0 ≤ v ∧ v ≤ 255) ∧ (∀ v ∈ n, 0 ≤ v ∧ v ≤ 255) := by
  simp only [Value.okWide, Try.underlying34] at hv
  obtain ⟨cs, rfl, hsz, _⟩ := hv
  obtain ⟨fuel, hf⟩ := h
  obtain ⟨xs, m, _, _, hl, hlen, hfd⟩ := DataW.trod_struct Try.underlying34 hf
  have hc45 : Try.prog.cellsOf 34 = 45 := by kernel_rfl
  have hck : Try.prog.cellsOf 23 = 32 := by kernel_rfl
  have hcn : Try.prog.cellsOf 32 = 12 := by kernel_rfl
  have hcu : Try.prog.cellsOf 24 = 1 := by kernel_rfl
  rw [hc45] at hsz
  simp only [Value.cells] at hfd
  have g0 : DataW.trod enc Try.prog W 0 (fun _ => true) true m 23 (List.take (Try.prog.cellsOf 23) (List.drop 0 cs.toList)) = xs[0]? := hfd 0 _ rfl
  have g1 : DataW.trod enc Try.prog W 0 (fun _ => true) true m 32 (List.take (Try.prog.cellsOf 32) (List.drop 32 cs.toList)) = xs[1]? := hfd 1 _ rfl
  have g2 : DataW.trod enc Try.prog W 0 (fun _ => true) true m 24 (List.take (Try.prog.cellsOf 24) (List.drop 44 cs.toList)) = xs[2]? := hfd 2 _ rfl
  simp only [List.size_toArray, List.length_cons, List.length_nil, Nat.reduceAdd] at hlen
  rw [hck, List.getElem?_eq_getElem (by omega)] at g0
  rw [hcn, List.getElem?_eq_getElem (by omega)] at g1
  rw [hcu, List.getElem?_eq_getElem (by omega)] at g2
  have hL : cs.toList.length = 45 := by rw [Array.length_toList]; exact hsz
  obtain ⟨k, hk, ek, wk⟩ := row_of_trod5 Try.underlying23 Try.underlying5 (by kernel_rfl) (by simp [hsz]) g0
  obtain ⟨n, hn, en, wn⟩ := row_of_trod5 Try.underlying32 Try.underlying5 (by kernel_rfl) (by simp [hsz]) g1
  obtain ⟨y, len, cap, z, ec, hb, hu⟩ := slice_of_trod g2
  refine ⟨k, n, y, len, cap, z, hk, hn, ?_, hb, hu, fun v hv => bounds_u8 (wk v hv), fun v hv => bounds_u8 (wn v hv)⟩
  have e : cs.toList = ask5L k n (.slice y len cap) := by
    unfold ask5L
    rw [← ek, ← en, ← ec]
    have h1 : cs.toList = cs.toList.take 32 ++ cs.toList.drop 32 := (List.take_append_drop 32 _).symm
    have h2 : cs.toList.drop 32 = (cs.toList.drop 32).take 12 ++ (cs.toList.drop 32).drop 12 := (List.take_append_drop 12 _).symm
    have h3 : (cs.toList.drop 32).drop 12 = cs.toList.drop 44 := by rw [List.drop_drop]
    have h4 : (cs.toList.drop 44).take 1 = cs.toList.drop 44 := List.take_of_length_le (by rw [List.length_drop, hL]; decide)
    rw [h4, List.drop_zero, ← h3, List.append_assoc, ← h2, ← h1]
  congr 1
  unfold ask5Row
  rw [← e]
/-- Block g holds a key, a nonce and a slice, and may be written. -/
def Ask5At (w : World) (g : Nat) (k n : List Int) (v : Value) : Prop := w.heap[g]? = some (.cells (ask5Row k n v) 34 (0, 0))
theorem Ask5At.lt {w : World} {g : Nat} {k n : List Int} {v : Value} (h : Ask5At w g k n v) : g < w.heap.size := (Array.getElem?_eq_some_iff.1 h).1
theorem Ask5At.new (w : World) (k n : List Int) (v : Value) : Ask5At (w.alloc (.cells (ask5Row k n v) 34)) w.heap.size k n v := heap_alloc_new w _
theorem Ask5At.below {w w' : World} {B g : Nat} {k n : List Int} {v : Value} (h : Ask5At w g k n v) (hb : Below B w w') (hg : g < B) : Ask5At w' g k n v := by
  unfold Ask5At at h ⊢; rw [hb.block g hg]; exact h
theorem Ask5At.cell {w : World} {g : Nat} {k n : List Int} {v : Value} (h : Ask5At w g k n v) (j : Nat) : w.cell? ⟨g, j, none⟩ = (ask5L k n v)[j]? := by
  rw [cell_of_row w g j _ _ _ h]; simp [ask5Row]
theorem Ask5At.key {w : World} {g : Nat} {k n : List Int} {v : Value} (h : Ask5At w g k n v) : w.rangeAt g 0 (k.map (Value.int .u8)) := fun j u hu => by
  have hj : j < (k.map (Value.int .u8)).length := (List.getElem?_eq_some_iff.1 hu).1
  rw [Nat.zero_add, h.cell, ask5L, List.append_assoc, List.getElem?_append_left hj]; exact hu
theorem Ask5At.nonce {w : World} {g : Nat} {k n : List Int} {v : Value} (h : Ask5At w g k n v) (hk : k.length = 32) : w.rangeAt g 32 (n.map (Value.int .u8)) := fun j u hu => by
  have hj : j < (n.map (Value.int .u8)).length := (List.getElem?_eq_some_iff.1 hu).1
  rw [h.cell, ask5L, List.append_assoc, List.getElem?_append_right (by simp [hk]), List.length_map, hk, show 32 + j - 32 = j by omega, List.getElem?_append_left hj]; exact hu
theorem Ask5At.open_ {w : World} {g : Nat} {k n : List Int} {v : Value} (h : Ask5At w g k n v) (hk : k.length = 32) (hn : n.length = 12) : w.cell? ⟨g, 44, none⟩ = some v := by
  rw [h.cell, ask5L, List.getElem?_append_right (by simp [hk, hn])]; simp [hk, hn]
theorem Ask5At.frozen {w : World} {g : Nat} {k n : List Int} {v : Value} (h : Ask5At w g k n v) (j : Nat) : w.frozen? ⟨g, j, none⟩ = false := frozen_of_row w g j _ _ h
theorem Ask5At.set {w : World} {g : Nat} {k n : List Int} {v : Value} (h : Ask5At w g k n v) (hk : k.length = 32) (hn : n.length = 12) (u : Value) : Ask5At (w.setCell ⟨g, 44, none⟩ u) g k n u := by
  unfold Ask5At at h ⊢
  rw [heap_setCell_same w g 44 _ _ _ h]
  congr 2
  unfold ask5Row ask5L
  rw [List.setIfInBounds_toArray, List.set_append_right _ _ (by simp [hk, hn])]
  simp [hk, hn]
theorem sizeKey5 (k : List Int) (hk : k.length = 32) : (Try.prog.info? 23).map (·.size) = some (k.map (Value.int .u8)).length := by rw [List.length_map, hk]; kernel_rfl
theorem sizeNonce5 (n : List Int) (hn : n.length = 12) : (Try.prog.info? 32).map (·.size) = some (n.map (Value.int .u8)).length := by rw [List.length_map, hn]; kernel_rfl
end Go.Proofs.Ytnblcdpahpcglaa
