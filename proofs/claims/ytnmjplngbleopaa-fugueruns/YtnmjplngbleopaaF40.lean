/- Fu5 Fu6 Fu7 -/
import Derived.Test.YtnmjplngbleopaaF39
namespace Go.Proofs.Ytnmjplngbleopaa
open Go.RowKit Go.Shelf
set_option maxRecDepth 20000
set_option linter.unusedSimpArgs false
theorem playN_ids (L : List Dd8) : ∀ n ∈ playN L, ∃ d ∈ L, n.id = d.id := by
  induction L using snoc_ind with
  | h0 => intro n hn; cases hn
  | h1 L d ih =>
    intro n hn
    rw [playN_snoc] at hn
    have key : (∃ m ∈ playN L, n.id = m.id) ∨ n.id = d.id := by
      unfold doN at hn
      split at hn
      · unfold insN at hn
        split at hn
        · rcases List.mem_append.1 hn with q | q
          · exact .inl ⟨n, q, rfl⟩
          · rw [List.mem_singleton.1 q]; exact .inr rfl
        · exact .inl ⟨n, hn, rfl⟩
      · split at hn
        · unfold delN at hn
          obtain ⟨m, hm, rfl⟩ := List.mem_map.1 hn
          exact .inl ⟨m, hm, by unfold gone; split <;> rfl⟩
        · exact .inl ⟨n, hn, rfl⟩
    rcases key with ⟨m, hm, e⟩ | e
    · obtain ⟨x, hx, e2⟩ := ih m hm
      exact ⟨x, List.mem_append_left _ hx, e.trans e2⟩
    · exact ⟨d, by simp, e⟩
def dW (s0 : (Int × Int) × Bool) (w k : Nat) : List Value := (Dd8.mk 0 (idW w k) (ndR s0 w k).side.1 (ndR s0 w k).side.2 (chW w k)).cells
def wlW (s0 : (Int × Int) × Bool) (w m : Nat) : List (List Value) := (List.range m).map (dW s0 w)
theorem wlW_next (s0 : (Int × Int) × Bool) (w m : Nat) : wlW s0 w (m + 1) = wlW s0 w m ++ [dW s0 w m] := by unfold wlW; rw [List.range_succ, List.map_append]; rfl
theorem wlW_len (s0 : (Int × Int) × Bool) (w m : Nat) : (wlW s0 w m).length = m := by unfold wlW; simp
theorem wlW_at (s0 : (Int × Int) × Bool) {w m k : Nat} (h : k < m) : (wlW s0 w m)[k]'(by rw [wlW_len]; exact h) = dW s0 w k := by simp [wlW]
theorem wordW_next (w m : Nat) : wordW w (m + 1) = wordW w m ++ [chW w m] := by unfold wordW; rw [List.range_succ, List.map_append]; rfl
theorem wordW_len (w m : Nat) : (wordW w m).length = m := by unfold wordW; simp
theorem Ph.made {w1 wr w' : World} {R bc bn c : Nat} {V : (Int × Int) × Bool → Value} {M : List Nd} (hT : TreeAt wr w1.heap.size R bc bn M V) (hB : ∀ k, treeP R bc bn V k → w1.heap.size ≤ k) (hl : Below w1.heap.size w1 wr) (hb : Below wr.heap.size wr w') (hc : CellsAt w' c 37 [.slice none 0 0, .slice none 0 0]) (hcl : wr.heap.size ≤ c) : Ph w1 w' R bc bn V M c (fun _ => .slice none 0 0) (fun _ => []) where
  tree := hT.far hb
  treeB := hB
  words := hc
  wB := Nat.le_trans hl.size hcl
  own := fun j _ => OwnI.nil _ _ _ _
  ct := fun q => by have := hT.blockLt c q; omega
  tw := fun j _ g hg => by cases hg
  oo := fun i j _ _ _ g hg => by cases hg
  below := hl.trans (hb.mono hl.size)
theorem infoDeed7 : (Try.prog.info? 34).map (fun i => (i.zero, i.size, i.bytes)) = some (some (.agg #[.int .i64 0, .int .u8 0, .int .u32 0, .int .u8 0, .int .u32 0, .bool false, .int .u8 0]), 7, 32) := by kernel_rfl
structure FkTo (w1 wr w' : World) (R bc bn : Nat) (V : (Int × Int) × Bool → Value) (M : List Nd) (c : Nat) (vs : Nat → Value) (Ls : Nat → List (List Value)) (R' bc' bn' : Nat) (F : List Nd) (e : Nat) (C : List Value) : Prop where
  out : ∃ U', FkS w1 w' R bc bn V M c vs Ls R' bc' bn' U' F
  cells : CellsAt w' e 34 C
theorem FkS.insert {w1 w0 wr : World} {R bc bn : Nat} {V : (Int × Int) × Bool → Value} {M : List Nd} {c : Nat} {vs : Nat → Value} {Ls : Nat → List (List Value)} {R' bc' bn' : Nat} {U : (Int × Int) × Bool → Value} {N : List Nd} {s0 : (Int × Int) × Bool} {j k : Nat} (h0 : FkS w1 w0 R bc bn V M c vs Ls R' bc' bn' U (FkN N s0 j k)) (hb : Below w0.heap.size w0 wr) (hO : Old N s0) (hj : j < 2) (hk : k < 12) {pa pb : Int} {pr : Bool} (hS : (ndR s0 j k).side = ((pa, pb), pr)) {e : Nat} {C : List Value} (he : w0.heap.size ≤ e) (hC : CellsAt wr e 34 C) :
    Calls Try.prog 10 #[.pointer (some ⟨R', 0, none⟩), .agg #[.int .u8 ((j : Int) + 6), .int .u32 ((k : Int) + 1)], .agg #[.int .u8 pa, .int .u32 pb], .bool pr, .int .u8 (chW j k)] wr fun r w' => r = .returned (.int .i64 0) ∧ FkTo w1 wr w' R bc bn V M c vs Ls R' bc' bn' (FkN N s0 j (k + 1)) e C := by
  have h := h0.far hb
  obtain ⟨r1, r2⟩ := hO.refFk hj hk
  have hl := hO.len
  have hpo : okDF (pa, pb) := by
    have h1 := (refI_ok r1).2.2.2.2.2.1
    rw [hS] at h1
    rcases h1 with q | q
    · rw [show (pa, pb) = (0, 0) from q]; exact okRoot
    · obtain ⟨m, hm, e⟩ := chrN_some.1 q
      have := (h.ft.okId m hm).1
      rw [show (pa, pb) = m.id from e.symm]; exact this
  have := insT_any w1.heap.size R' bc' bn' (FkN N s0 j k) U (ndR s0 j k) (by rw [ndR_id]; unfold okDF idW; simp; omega) (by rw [hS]; exact hpo) (by rw [Fk_len]; omega) wr h.ph.below.size h.ft
  rw [hS, r1, r2] at this
  refine this.mono ?_
  rintro r w' ⟨q1, U', q2, q3⟩
  exact ⟨q1, ⟨U', h.ins q2 q3⟩, hC.congr (q3.turn.block e hC.lt fun q => by have := h0.ft.blockLt e q; omega)⟩
def ccW (c0 c1 w k i : Nat) : Nat := if i < w then cntW c0 c1 i else if i = w then k else 0
def MW (N : List Nd) (s0 : (Int × Int) × Bool) (c0 c1 w k : Nat) : List Nd := MgN N s0 (ccW c0 c1 w k 0) (ccW c0 c1 w k 1)
theorem cc_next (c0 c1 w i : Nat) : ccW c0 c1 w (cntW c0 c1 w) i = ccW c0 c1 (w + 1) 0 i := by
  unfold ccW
  by_cases h1 : i < w
  · rw [if_pos h1, if_pos (by omega)]
  · rw [if_neg h1]
    by_cases h2 : i = w
    · rw [if_pos h2, if_pos (by omega), h2]
    · rw [if_neg h2, if_neg (by omega)]
      split <;> rfl
theorem MW_next (N : List Nd) (s0 : (Int × Int) × Bool) (c0 c1 w : Nat) : MW N s0 c0 c1 w (cntW c0 c1 w) = MW N s0 c0 c1 (w + 1) 0 := by unfold MW; rw [cc_next, cc_next]
theorem MW_zero (N : List Nd) (s0 : (Int × Int) × Bool) (c0 c1 : Nat) : MW N s0 c0 c1 0 0 = N := Mg_zero N s0
theorem Old.insW {N : List Nd} {s0 : (Int × Int) × Bool} (h : Old N s0) {c0 c1 w k : Nat} (h0 : c0 < 12) (hw : w < 2) (hk : k < 12) : refI (MW N s0 c0 c1 w k) (ndR s0 w k) = 0 ∧ insN (MW N s0 c0 c1 w k) (ndR s0 w k) = MW N s0 c0 c1 w (k + 1) := by
  rcases (by omega : w = 0 ∨ w = 1) with rfl | rfl
  · exact h.insA hk
  · exact h.insB (i := c0) (by omega) hk
theorem MW_len {N : List Nd} {s0 : (Int × Int) × Bool} {c0 c1 w k : Nat} (h0 : c0 < 12) (h1 : c1 < 12) (hk : k < 12) : (MW N s0 c0 c1 w k).length ≤ N.length + 24 := by
  unfold MW
  rw [Mg_len]
  have hb : ∀ i, ccW c0 c1 w k i ≤ 12 := fun i => by
    unfold ccW cntW
    repeat' split
    all_goals omega
  have := hb 0
  have := hb 1
  omega
structure WnTo (w1 w' : World) (R bc bn : Nat) (M : List Nd) (c : Nat) (vs : Nat → Value) (Ls : Nat → List (List Value)) (d : Nat) (ss : Nat → ByteArray) (e : Nat) (C : List Value) : Prop where
  out : ∃ V', Wn w1 w' R bc bn V' M c vs Ls d ss
  cells : CellsAt w' e 34 C
theorem Wn.insert {w1 w0 wr : World} {R bc bn : Nat} {V : (Int × Int) × Bool → Value} {c : Nat} {vs : Nat → Value} {Ls : Nat → List (List Value)} {N : List Nd} {s0 : (Int × Int) × Bool} {c0 c1 j k d : Nat} {ss : Nat → ByteArray} (h0 : Wn w1 w0 R bc bn V (MW N s0 c0 c1 j k) c vs Ls d ss) (hb : Below w0.heap.size w0 wr) (hO : Old N s0) (hc0 : c0 < 12) (hc1 : c1 < 12) (hj : j < 2) (hk : k < 12) {pa pb : Int} {pr : Bool} (hS : (ndR s0 j k).side = ((pa, pb), pr)) {e : Nat} {C : List Value} (he : w0.heap.size ≤ e) (hC : CellsAt wr e 34 C) :
    Calls Try.prog 10 #[.pointer (some ⟨R, 0, none⟩), .agg #[.int .u8 ((j : Int) + 6), .int .u32 ((k : Int) + 1)], .agg #[.int .u8 pa, .int .u32 pb], .bool pr, .int .u8 (chW j k)] wr fun r w' => r = .returned (.int .i64 0) ∧ WnTo w1 w' R bc bn (MW N s0 c0 c1 j (k + 1)) c vs Ls d ss e C := by
  have h := h0.far hb
  obtain ⟨r1, r2⟩ := hO.insW (c1 := c1) hc0 hj hk
  have hl := hO.len
  have hml := MW_len (N := N) (s0 := s0) (w := j) hc0 hc1 hk
  have hpo : okDF (pa, pb) := by
    have h1 := (refI_ok r1).2.2.2.2.2.1
    rw [hS] at h1
    rcases h1 with q | q
    · rw [show (pa, pb) = (0, 0) from q]; exact okRoot
    · obtain ⟨m, hm, e⟩ := chrN_some.1 q
      have := (h.ph.tree.okId m hm).1
      rw [show (pa, pb) = m.id from e.symm]; exact this
  have := insT_any w1.heap.size R bc bn (MW N s0 c0 c1 j k) V (ndR s0 j k) (by rw [ndR_id]; unfold okDF idW; simp; omega) (by rw [hS]; exact hpo) (by omega) wr h.ph.below.size h.ph.tree
  rw [hS, r1, r2] at this
  refine this.mono ?_
  rintro r w' ⟨q1, V', q2, q3⟩
  exact ⟨q1, ⟨V', h.ins q2 q3⟩, hC.congr (q3.turn.block e hC.lt fun q => by have := h0.ph.tree.blockLt e q; omega)⟩
theorem word_str (w k : Nat) : strOfNums (wordW w k) ++ strOfNums [chW w k] = strOfNums (wordW w (k + 1)) := by rw [wordW_next, str_addU]
theorem Old.hasW {N : List Nd} {s0 : (Int × Int) × Bool} (h : Old N s0) {c0 c1 w : Nat} (h0 : c0 < 12) (h1 : c1 < 12) (hw : w < 2) : ∃ k, (strOfNums (wordW w (cntW c0 c1 w))).size = cntW c0 c1 w ∧ k + cntW c0 c1 w ≤ (textN (MgN N s0 c0 c1)).length ∧ (strOfNums (textN (MgN N s0 c0 c1))).extract k (k + cntW c0 c1 w) = strOfNums (wordW w (cntW c0 c1 w)) := by
  obtain ⟨A, B, hAB⟩ := h.whole (i := c0) (j := c1) (by omega) (by omega) hw
  refine ⟨A.length, by rw [strOfNums_size, wordW_len], ?_, ?_⟩
  · rw [hAB]; simp only [List.length_append, wordW_len]; omega
  · rw [hAB]
    have := str_holds A (wordW w (cntW c0 c1 w)) B
    rw [wordW_len] at this
    exact this
theorem text_few {N : List Nd} (hN : TreeOk N) : (textN N).length ≤ N.length := by
  unfold textN wrN
  rw [List.length_map]
  have h1 := List.length_filter_le (writB N) (walkA N rootS)
  rw [hN.len] at h1
  exact h1
end Go.Proofs.Ytnmjplngbleopaa
