/- Open of Seal; 'few' and 'live' of the statements on aead. Arguments of the statements on aead, opened: a key, a nonce and bytes; two slices. -/
import Derived.Test.YtnblcdpahpcglaaAn5
import Derived.Lib.SlBytesConst
import Derived.Test.YtnblcdpahpcglaaGo0
import Derived.Test.YtnblcdpahpcglaaCu
import Derived.ChangeSame
namespace Go.Proofs.Ytnblcdpahpcglaa
open Go.RowKit
set_option maxRecDepth 20000
set_option linter.unusedSimpArgs false

theorem sealL_length (k n o b : List Int) : (sealL k n o b).length = b.length + 16 := by
  unfold sealL
  rw [List.length_append, xorL_length, show (tagL k n o (xorL k n 1 b)).length = 16 from polyL_length _ _]
theorem seal_take (k n o b : List Int) (m : Nat) (hm : m = b.length) : (sealL k n o b).take m = xorL k n 1 b := by
  unfold sealL
  rw [List.take_left' (by rw [xorL_length, hm])]
theorem seal_drop (k n o b : List Int) (m : Nat) (hm : m = b.length) : (sealL k n o b).drop m = tagL k n o (xorL k n 1 b) := by
  unfold sealL
  rw [List.drop_left' (by rw [xorL_length, hm])]
theorem sealL_in (k n o b : List Int) (ho : ∀ v ∈ o, isB v) (hb : ∀ v ∈ b, isB v) : ∀ v ∈ sealL k n o b, isB v := by
  intro v hv
  unfold sealL at hv
  rcases List.mem_append.1 hv with h | h
  · exact xorL_in k n 1 b hb v h
  · exact tagL_in k n o _ ho (xorL_in k n 1 b hb) v h
/-- What was sealed is opened. -/
theorem back_any (k n : List Int) (x : Option Addr) (len cap : Nat) (o : List Int) (y : Option Addr) (ly cy : Nat) (b : List Int) (w : World) (hk : k.length = 32) (hn : n.length = 12) (hx : Bytes w x len cap o) (hy : Bytes w y ly cy (sealL k n o b)) (hl1 : len ≤ 100000) (hl2 : b.length ≤ 99000) (huo : ∀ v ∈ o, isB v) (hub : ∀ v ∈ b, isB v) :
    Calls Try.prog 17 #[.agg (row .u8 k), .agg (row .u8 n), .slice x len cap, .slice y ly cy] w fun e w' => ∃ g, e = .returned (.tuple #[.slice (some ⟨g, 0, none⟩) b.length b.length, .int .i64 0]) ∧ w.heap.size ≤ g ∧ Holds w' g .u8 5 b ∧ Below w.heap.size w w' := by
  have hl : ly = b.length + 16 := by rw [hy.len_eq, sealL_length]
  have h := open_ok k n x len cap o y ly cy (sealL k n o b) w hk hn hx hy hl1 (by omega) (by omega) huo (sealL_in k n o b huo hub) (by rw [seal_take k n o b _ (by omega), seal_drop k n o b _ (by omega)])
  rw [seal_take k n o b _ (by omega), xor_twice k n 1 b hub, show ly - 16 = b.length by omega] at h
  exact h
theorem few5_any (x : Option Addr) (len cap n : Nat) (z : List Int) (w : World) (h : Bytes w x len cap z) (hn : 0 < n) (hn2 : n ≤ 1000000) :
    Calls Try.prog 13 #[.slice x len cap, .int .i64 n] w fun e w' => e = .returned (.slice x (min len n) cap) ∧ w = w' := by
  have hle := h.le
  have htop := h.top
  by_cases hlt : n < len
  · obtain ⟨b, off, rfl⟩ : ∃ b off, x = some ⟨b, off, none⟩ := by
      rcases h.at_ with h0 | ⟨b, off, hx, _⟩
      · omega
      · exact ⟨b, off, hx⟩
    rw [Nat.min_eq_right (by omega)]
    go_enter Try.func13, Try.ntmps13
    go_wp2
    go_ret
    exact ⟨rfl, rfl⟩
  · rw [Nat.min_eq_left (by omega)]
    go_enter Try.func13, Try.ntmps13
    go_wp2
    go_ret
    exact ⟨rfl, rfl⟩

def lvK : List Int := 1 :: List.replicate 31 0
def lvN : List Int := 2 :: List.replicate 11 0
theorem lv_text : strOfNums [116, 101, 120, 116] = { data := #[116, 101, 120, 116] } := by decide
set_option maxHeartbeats 2000000 in
theorem live5_any (w : World) :
    Calls Try.prog 14 #[] w fun e w' => e = .returned (.bool true) ∧ Below w.heap.size w w' := by
  have kc := fun (w : World) (C : Array Value) (n c : Nat) => Lib.run_convert_bytes_const (P := Try.prog) w 24 5 C n c Try.underlying24 Try.underlying5
  have kc2 := kc (w.alloc (.cells #[.int .u8 97] 5 (1, 2))) #[.int .u8 116, .int .u8 101, .int .u8 120, .int .u8 116] 4 4
  rw [World.size_alloc] at kc2
  have hua : ∀ v ∈ ([97] : List Int), isB v := fun v hv => by simp at hv; subst hv; exact ⟨by omega, by omega⟩
  have hut : ∀ v ∈ ([116, 101, 120, 116] : List Int), isB v := fun v hv => by simp at hv; unfold isB; omega
  have hseal := fun (wx : World) (x y : Option Addr) (hx : Bytes wx x 1 1 [97]) (hy : Bytes wx y 4 4 [116, 101, 120, 116]) => seal_any lvK lvN x 1 1 [97] y 4 4 [116, 101, 120, 116] wx rfl rfl hx hy (by omega) (by omega)
  have hopen := fun (wx : World) (x y : Option Addr) (ly cy : Nat) (hx : Bytes wx x 1 1 [97]) (hy : Bytes wx y ly cy (sealL lvK lvN [97] [116, 101, 120, 116])) => back_any lvK lvN x 1 1 [97] y ly cy [116, 101, 120, 116] wx rfl rfl hx hy (by omega) (by decide) hua hut
  have hSl := sealL_length lvK lvN [97] [116, 101, 120, 116]
  obtain ⟨SL, hSL⟩ : ∃ q, sealL lvK lvN [97] [116, 101, 120, 116] = q := ⟨_, rfl⟩
  rw [hSL] at hseal hopen hSl
  have hSl' : SL.length = 20 := hSl
  clear hSL hua hut hSl
  have hb1 : Below w.heap.size w ((w.alloc (.cells (row .u8 [97]) 5 (1, 2))).alloc (.cells (row .u8 [116, 101, 120, 116]) 5 (4, 5))) := ((Below.refl _ _).alloc (Nat.le_refl _) _).alloc (by simp) _
  have hA1 := (bytes_marked w [97] (1, 2) (by decide)).below (w' := (w.alloc (.cells (row .u8 [97]) 5 (1, 2))).alloc (.cells (row .u8 [116, 101, 120, 116]) 5 (4, 5))) ((Below.refl _ _).alloc (Nat.le_refl _) _)
  have hT1 := bytes_marked (w.alloc (.cells (row .u8 [97]) 5 (1, 2))) [116, 101, 120, 116] (4, 5) (by decide)
  rw [World.size_alloc] at hT1
  have hs1 := hseal _ _ _ hA1 hT1
  clear hA1 hT1 hseal
  go_enter Try.func14, Try.ntmps14
  go_upto_region 2 with (go_at_call 15; refine hs1.mono ?_; rintro e w3 ⟨v3, rfl, ho3, hb3⟩)
  have hB3 : Below w.heap.size w w3 := hb1.trans (hb3.mono hb1.size)
  obtain ⟨x3, n3, c3, rfl, hn3⟩ := ho3.isSlice
  rw [hSl'] at hn3
  subst hn3
  have hS3 := ho3.bytes.2
  have hb4 : Below w3.heap.size w3 (w3.alloc (.cells (row .u8 [97]) 5 (1, 2))) := (Below.refl _ _).alloc (Nat.le_refl _) _
  have ho4 := hopen _ _ _ _ _ (bytes_marked w3 [97] (1, 2) (by decide)) (hS3.below hb4)
  have hB4 : Below w.heap.size w (w3.alloc (.cells (row .u8 [97]) 5 (1, 2))) := hB3.trans (hb4.mono hB3.size)
  clear hopen hS3 hb4 ho3 hb3 hb1 hs1
  go_upto_region 3 with (go_at_call 17; refine ho4.mono ?_; rintro e w5 ⟨g5, rfl, hg5, hH5, hb5⟩)
  have hcv : (convert 24 9 (.slice (some ⟨g5, 0, none⟩) 4 4)).run Try.prog w5 = .ok (.string { data := #[116, 101, 120, 116] }) w5 := by
    rw [← lv_text]; exact conv_bytes (hH5.bytes rfl (by decide))
  have hB5 : Below w.heap.size w w5 := hB4.trans (hb5.mono hB4.size)
  clear kc kc2 ho4 hH5
  go_wp2
  go_ret
  exact ⟨rfl, hB5⟩
end Go.Proofs.Ytnblcdpahpcglaa

namespace Go.Proofs.Ytnblcdpahpcglaa
open Go.ChangeShapes Go.WideShapes Go.ChangeAt Go.RowKit

theorem row_of_trod5 {H : Type} {enc : TypeId × Value → H} {P : Program} {W : World} {n fuel : Nat} {t e : TypeId} {k : IntKind} {cs : List Value} {x : DataW H × List MemPlace} (hu : P.underlying t = some (.array n e)) (he : P.underlying e = some (.int k)) (hce : P.cellsOf e = 1)
    (hsz : cs.length = n) (h : DataW.trod enc P W 0 (fun _ => true) true fuel t cs = some x) :
    ∃ l : List Int, l.length = n ∧ cs = l.map (Value.int k) ∧ ∀ x ∈ l, (Lit.int k x).wf = true := by
  obtain ⟨xs, m, _, _, _, hlen, hel⟩ := DataW.trod_array hu h
  simp only [hce, Nat.mul_one] at hel
  have key : ∀ i (hi : i < cs.length), cs[i] = .int k (intOf cs[i]) ∧ (Lit.int k (intOf cs[i])).wf = true := fun i hi => by
    have h1 := hel i (by omega)
    rw [List.getElem?_eq_getElem (by omega)] at h1
    obtain ⟨a, ea, _, wa⟩ := DataW.trod_int he h1
    have e1 : (cs.drop i).take 1 = [cs[i]] := by
      rw [List.drop_eq_getElem_cons hi, List.take_succ_cons, List.take_zero]
    rw [e1] at ea
    have e2 : cs[i] = .int k a := by simpa using ea
    rw [e2]
    exact ⟨rfl, wa⟩
  refine ⟨cs.map intOf, by simp [hsz], ?_, ?_⟩
  · apply List.ext_getElem (by simp)
    intro i h1 h2
    have := (key i h1).1
    simp only [List.map_map, List.getElem_map, Function.comp]
    exact this
  · intro x hx
    obtain ⟨c, hc, rfl⟩ := List.mem_map.1 hx
    obtain ⟨i, hi, rfl⟩ := List.mem_iff_getElem.1 hc
    exact (key i hi).2
/-- One cell that is a slice of bytes. -/
theorem slice_of_trod {H : Type} {enc : TypeId × Value → H} {W : World} {fuel : Nat} {cs : List Value} {x : DataW H × List MemPlace} (h : DataW.trod enc Try.prog W 0 (fun _ => true) true fuel 24 cs = some x) :
    ∃ y len cap z, cs = [.slice y len cap] ∧ Bytes W y len cap z ∧ (∀ v ∈ z, 0 ≤ v ∧ v ≤ 255) := by
  rcases open_ints Try.underlying24 Try.underlying5 cellsU8 h with ⟨hcs, _⟩ | ⟨a, l, c, zs, hcs, _, hl, hm, hz, _, hcell, hwz⟩
  · exact ⟨none, 0, 0, [], hcs, bytes_nil W, by simp⟩
  · simp only [if_true] at hz
    refine ⟨some a, l, c, zs.take l, hcs, ⟨by simp; omega, hl, by simpa [maxLen] using hm, (fun h => by cases h), ?_⟩, fun v hv => bounds_u8 (hwz v (List.mem_of_mem_take hv))⟩
    by_cases h0 : l = 0
    · exact .inl h0
    · obtain ⟨b, off, rfl, hc⟩ := ints_at hcell (by omega)
      refine .inr ⟨b, off, rfl, fun j hj => ?_⟩
      have := hc j (by omega)
      rw [List.getElem?_take_of_lt hj]
      rw [List.getD_eq_getElem?_getD] at this
      exact this
/-- A key, a nonce and a slice as cells. -/
def ask5L (k n : List Int) (v : Value) : List Value := k.map (Value.int .u8) ++ n.map (Value.int .u8) ++ [v]
def ask5Row (k n : List Int) (v : Value) : Array Value := (ask5L k n v).toArray
theorem open_ask5 {H : Type} {enc : TypeId × Value → H} {W : World} {r : Reach} {base : Nat} {v : Value} {d : DataW H} {p : List MemPlace} (hv : Value.okWide Try.prog W r base 34 v) (h : DataW.Trod enc Try.prog W 0 (fun _ => true) true 34 v d p) :
    ∃ (k n : List Int) (x : Option Addr) (len cap : Nat) (z : List Int), k.length = 32 ∧ n.length = 12 ∧ v = .agg (ask5Row k n (.slice x len cap)) ∧ Bytes W x len cap z ∧ (∀ v ∈ z, 0 ≤ v ∧ v ≤ 255) ∧ (∀ v ∈ k, 0 ≤ v ∧ v ≤ 255) ∧ (∀ v ∈ n, 0 ≤ v ∧ v ≤ 255) := by
  simp only [Value.okWide, Try.underlying34] at hv
  obtain ⟨cs, rfl, hsz, _⟩ := hv
  obtain ⟨fuel, hf⟩ := h
  obtain ⟨xs, m, _, _, hl, hlen, hfd⟩ := DataW.trod_struct Try.underlying34 hf
  have hc45 : Try.prog.cellsOf 34 = 45 := by kernel_rfl
  have hck : Try.prog.cellsOf 23 = 32 := by kernel_rfl
  have hcn : Try.prog.cellsOf 32 = 12 := by kernel_rfl
  have hcu : Try.prog.cellsOf 24 = 1 := by kernel_rfl
  rw [hc45] at hsz
  simp only [Value.cells] at hfd
  have g0 : DataW.trod enc Try.prog W 0 (fun _ => true) true m 23 (List.take (Try.prog.cellsOf 23) (List.drop 0 cs.toList)) = xs[0]? := hfd 0 _ rfl
  have g1 : DataW.trod enc Try.prog W 0 (fun _ => true) true m 32 (List.take (Try.prog.cellsOf 32) (List.drop 32 cs.toList)) = xs[1]? := hfd 1 _ rfl
  have g2 : DataW.trod enc Try.prog W 0 (fun _ => true) true m 24 (List.take (Try.prog.cellsOf 24) (List.drop 44 cs.toList)) = xs[2]? := hfd 2 _ rfl
  simp only [List.size_toArray, List.length_cons, List.length_nil, Nat.reduceAdd] at hlen
  rw [hck, List.getElem?_eq_getElem (by omega)] at g0
  rw [hcn, List.getElem?_eq_getElem (by omega)] at g1
  rw [hcu, List.getElem?_eq_getElem (by omega)] at g2
  have hL : cs.toList.length = 45 := by rw [Array.length_toList]; exact hsz
  obtain ⟨k, hk, ek, wk⟩ := row_of_trod5 Try.underlying23 Try.underlying5 (by kernel_rfl) (by simp [hsz]) g0
  obtain ⟨n, hn, en, wn⟩ := row_of_trod5 Try.underlying32 Try.underlying5 (by kernel_rfl) (by simp [hsz]) g1
  obtain ⟨y, len, cap, z, ec, hb, hu⟩ := slice_of_trod g2
  refine ⟨k, n, y, len, cap, z, hk, hn, ?_, hb, hu, fun v hv => bounds_u8 (wk v hv), fun v hv => bounds_u8 (wn v hv)⟩
  have e : cs.toList = ask5L k n (.slice y len cap) := by
    unfold ask5L
    rw [← ek, ← en, ← ec]
    have h1 : cs.toList = cs.toList.take 32 ++ cs.toList.drop 32 := (List.take_append_drop 32 _).symm
    have h2 : cs.toList.drop 32 = (cs.toList.drop 32).take 12 ++ (cs.toList.drop 32).drop 12 := (List.take_append_drop 12 _).symm
    have h3 : (cs.toList.drop 32).drop 12 = cs.toList.drop 44 := by rw [List.drop_drop]
    have h4 : (cs.toList.drop 44).take 1 = cs.toList.drop 44 := List.take_of_length_le (by rw [List.length_drop, hL]; decide)
    rw [h4, List.drop_zero, ← h3, List.append_assoc, ← h2, ← h1]
  congr 1
  unfold ask5Row
  rw [← e]
/-- Block g holds a key, a nonce and a slice, and may be written. -/
def Ask5At (w : World) (g : Nat) (k n : List Int) (v : Value) : Prop := w.heap[g]? = some (.cells (ask5Row k n v) 34 (0, 0))
theorem Ask5At.lt {w : World} {g : Nat} {k n : List Int} {v : Value} (h : Ask5At w g k n v) : g < w.heap.size := (Array.getElem?_eq_some_iff.1 h).1
theorem Ask5At.new (w : World) (k n : List Int) (v : Value) : Ask5At (w.alloc (.cells (ask5Row k n v) 34)) w.heap.size k n v := heap_alloc_new w _
theorem Ask5At.below {w w' : World} {B g : Nat} {k n : List Int} {v : Value} (h : Ask5At w g k n v) (hb : Below B w w') (hg : g < B) : Ask5At w' g k n v := by
  unfold Ask5At at h ⊢; rw [hb.block g hg]; exact h
theorem Ask5At.cell {w : World} {g : Nat} {k n : List Int} {v : Value} (h : Ask5At w g k n v) (j : Nat) : w.cell? ⟨g, j, none⟩ = (ask5L k n v)[j]? := by
  rw [cell_of_row w g j _ _ _ h]; simp [ask5Row]
theorem Ask5At.key {w : World} {g : Nat} {k n : List Int} {v : Value} (h : Ask5At w g k n v) : w.rangeAt g 0 (k.map (Value.int .u8)) := fun j u hu => by
  have hj : j < (k.map (Value.int .u8)).length := (List.getElem?_eq_some_iff.1 hu).1
  rw [Nat.zero_add, h.cell, ask5L, List.append_assoc, List.getElem?_append_left hj]; exact hu
theorem Ask5At.nonce {w : World} {g : Nat} {k n : List Int} {v : Value} (h : Ask5At w g k n v) (hk : k.length = 32) : w.rangeAt g 32 (n.map (Value.int .u8)) := fun j u hu => by
  have hj : j < (n.map (Value.int .u8)).length := (List.getElem?_eq_some_iff.1 hu).1
  rw [h.cell, ask5L, List.append_assoc, List.getElem?_append_right (by simp [hk]), List.length_map, hk, show 32 + j - 32 = j by omega, List.getElem?_append_left hj]; exact hu
theorem Ask5At.open_ {w : World} {g : Nat} {k n : List Int} {v : Value} (h : Ask5At w g k n v) (hk : k.length = 32) (hn : n.length = 12) : w.cell? ⟨g, 44, none⟩ = some v := by
  rw [h.cell, ask5L, List.getElem?_append_right (by simp [hk, hn])]; simp [hk, hn]
theorem Ask5At.frozen {w : World} {g : Nat} {k n : List Int} {v : Value} (h : Ask5At w g k n v) (j : Nat) : w.frozen? ⟨g, j, none⟩ = false := frozen_of_row w g j _ _ h
theorem Ask5At.set {w : World} {g : Nat} {k n : List Int} {v : Value} (h : Ask5At w g k n v) (hk : k.length = 32) (hn : n.length = 12) (u : Value) : Ask5At (w.setCell ⟨g, 44, none⟩ u) g k n u := by
  unfold Ask5At at h ⊢
  rw [heap_setCell_same w g 44 _ _ _ h]
  congr 2
  unfold ask5Row ask5L
  rw [List.setIfInBounds_toArray, List.set_append_right _ _ (by simp [hk, hn])]
  simp [hk, hn]
theorem sizeKey5 (k : List Int) (hk : k.length = 32) : (Try.prog.info? 23).map (·.size) = some (k.map (Value.int .u8)).length := by rw [List.length_map, hk]; kernel_rfl
theorem sizeNonce5 (n : List Int) (hn : n.length = 12) : (Try.prog.info? 32).map (·.size) = some (n.map (Value.int .u8)).length := by rw [List.length_map, hn]; kernel_rfl
end Go.Proofs.Ytnblcdpahpcglaa
