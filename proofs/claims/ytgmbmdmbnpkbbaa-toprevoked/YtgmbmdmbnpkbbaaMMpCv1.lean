/- Maps whose keys are dots, and whose elements are whatever values: made, looked up, stored into, deleted from. What was seen: 'Has', 'Within', 'Join' of causal and of its reference. (Written by mkcv1.py.) -/
import Derived.Test.YtgmbmdmbnpkbbaaEv0
import Derived.Maps.OwnSet
import Derived.DeepKeys3
namespace Go.Proofs.Ytgmbmdmbnpkbbaa
open Go.RowKit
set_option maxRecDepth 20000
set_option linter.unusedSimpArgs false

/-- An element reads as itself. -/
def rawElem (v : Value) : Option (DataW Value × List MemPlace) := some (.held v, [])
theorem dotKeyed : Go.Maps.Keyed Try.prog 26 := Go.Maps.Keyed.of_law (deep_law (m := 3) (by omega) (by kernel_rfl) (by kernel_rfl) (by kernel_rfl))
def dotLit (a s : Int) : Lit := .string (keyBytes [.int .u8 a, .int .u32 s])
def okD (a s : Int) : Prop := (0 ≤ a ∧ a ≤ 255) ∧ 0 ≤ s ∧ s ≤ 4294967295
theorem u8_wf {a : Int} (h1 : 0 ≤ a) (h2 : a ≤ 255) : (Lit.int .u8 a).wf = true := by
  show (decide ((0 : Int) ≤ a) && decide (a ≤ 255)) = true
  simp; omega
theorem u32_wf {a : Int} (h1 : 0 ≤ a) (h2 : a ≤ 4294967295) : (Lit.int .u32 a).wf = true := by
  show (decide ((0 : Int) ≤ a) && decide (a ≤ 4294967295)) = true
  simp; omega
theorem litsU8 (d : Nat) (a : Int) (h1 : 0 ≤ a) (h2 : a ≤ 255) : Try.prog.keyLits (d + 1) 5 [.int .u8 a] = some [.int .u8 a] := by
  unfold Program.keyLits; simp [Try.underlying5, u8_wf h1 h2]
theorem litsU32 (d : Nat) (a : Int) (h1 : 0 ≤ a) (h2 : a ≤ 4294967295) : Try.prog.keyLits (d + 1) 24 [.int .u32 a] = some [.int .u32 a] := by
  unfold Program.keyLits; simp [Try.underlying24, u32_wf h1 h2]
theorem cellsDot : Try.prog.cellsOf 26 = 2 ∧ Try.prog.cellsOf 5 = 1 ∧ Try.prog.cellsOf 24 = 1 := ⟨by kernel_rfl, by kernel_rfl, by kernel_rfl⟩
theorem litsDot (d : Nat) (a s : Int) (h : okD a s) : Try.prog.keyLits (d + 1 + 1) 26 (dotC a s) = some [.int .u8 a, .int .u32 s] := by
  obtain ⟨⟨h1, h2⟩, h3, h4⟩ := h
  obtain ⟨c1, c2, c3⟩ := cellsDot
  unfold Program.keyLits
  simp [Try.underlying26, dotC, c1, c2, c3, litsU8 d a h1 h2, litsU32 d s h3 h4]
theorem typesBig : ∃ m, Try.prog.types.size = m + 1 := by
  have h : Nat.ble 1 Try.prog.types.size = true := by kernel_rfl
  exact ⟨Try.prog.types.size - 1, by have := Nat.le_of_ble_eq_true h; omega⟩
theorem dotKey (a s : Int) (h : okD a s) : keyOf Try.prog 26 (.agg (dotC a s).toArray) = some (dotLit a s) := by
  obtain ⟨m, hm⟩ := typesBig
  have hk : Try.prog.keyType 26 = true := by kernel_rfl
  have hf : Value.formed Try.prog 26 (.agg (dotC a s).toArray) = true := by
    simp [Value.formed, Try.underlying26, cellsDot.1, dotC]
  unfold keyOf
  rw [Try.underlying26, hm]
  simp only [hk, hf, Bool.and_self, if_true, Value.cells]
  rw [litsDot m a s h]
  rfl
theorem dotLit_inj {a s a' s' : Int} (h : okD a s) (h' : okD a' s') (e : dotLit a s = dotLit a' s') : a = a' ∧ s = s' := by
  unfold dotLit at e
  injection e with e
  have := keyLits_inj (litsDot 0 a s h) (litsDot 0 a' s' h') e
  simpa using this
/-- Block b is a map of at most n entries that holds M a s at the dot a, s. -/
def MapAt (w : World) (b n : Nat) (M : Int → Int → Option Value) : Prop :=
  ∃ D : DataW Value, w.ownsMap Try.prog 26 rawElem b n D ∧ ∀ a s, okD a s → ∀ z, D.atKey (dotLit a s) z = (match M a s with | some v => .held v | none => z)
def putM (M : Int → Int → Option Value) (a s : Int) (v : Value) : Int → Int → Option Value := fun a' s' => if a' = a ∧ s' = s then some v else M a' s'
def delM (M : Int → Int → Option Value) (a s : Int) : Int → Int → Option Value := fun a' s' => if a' = a ∧ s' = s then none else M a' s'
theorem MapAt.made (w : World) : MapAt (w.alloc (.map #[] 0)) w.heap.size 0 (fun _ _ => none) := ⟨_, World.ownsMap_made w _ _ _, fun _ _ _ _ => rfl⟩
theorem MapAt.lt {w : World} {b n : Nat} {M : Int → Int → Option Value} (h : MapAt w b n M) : b < w.heap.size := by obtain ⟨D, h, _⟩ := h; exact h.lt
theorem MapAt.congr {w w' : World} {b n : Nat} {M : Int → Int → Option Value} (h : MapAt w b n M) (he : w'.heap[b]? = w.heap[b]?) : MapAt w' b n M := by
  obtain ⟨D, ⟨es, cl, hb, r⟩, hM⟩ := h
  exact ⟨D, ⟨es, cl, he.trans hb, r⟩, hM⟩
theorem MapAt.alloc {w : World} {b n : Nat} {M : Int → Int → Option Value} (h : MapAt w b n M) (o : Obj) : MapAt (w.alloc o) b n M := h.congr (Below.heap_alloc w o b h.lt)
theorem MapAt.below {w w' : World} {b n B : Nat} {M : Int → Int → Option Value} (h : MapAt w b n M) (hb : Below B w w') (hl : b < B) : MapAt w' b n M := h.congr (hb.block b hl)
theorem MapAt.far {w w' : World} {b n : Nat} {M : Int → Int → Option Value} (h : MapAt w b n M) (hb : Below w.heap.size w w') : MapAt w' b n M := h.below hb h.lt
theorem MapAt.setCell {w : World} {b n : Nat} {M : Int → Int → Option Value} (h : MapAt w b n M) {a : Addr} (ha : b ≠ a.block) (u : Value) : MapAt (w.setCell a u) b n M := h.congr (Below.heap_setCell w a u b ha)
theorem MapAt.has {w : World} {b n : Nat} {M : Int → Int → Option Value} (h : MapAt w b n M) : ∃ D : DataW Value, w.ownsMap Try.prog 26 rawElem b n D ∧ ∀ a s, okD a s → Maps.has D (dotLit a s) = (M a s).isSome ∧ ∀ z, D.atKey (dotLit a s) z = (match M a s with | some v => .held v | none => z) := by
  obtain ⟨D, h, hM⟩ := h
  refine ⟨D, h, fun a s ho => ⟨?_, hM a s ho⟩⟩
  cases hv : M a s with
  | none => exact Maps.has_false_of_atKey fun z => by rw [hM a s ho, hv]
  | some v => exact Maps.has_true_of_atKey (y := .held v) fun z => by rw [hM a s ho, hv]
/-- 'v, ok := m[d]'. -/
theorem MapAt.look {w : World} {b n : Nat} {M : Int → Int → Option Value} (h : MapAt w b n M) {t e : TypeId} (ht : Try.prog.underlying t = some (.map 26 e)) {z : Value} (hz : (zeroValue e).run Try.prog w = .ok z w) (a s : Int) (ho : okD a s) :
    (Instr.lookup t (.map (some b)) (.agg (dotC a s).toArray) true).run Try.prog w = .ok (.tuple #[(M a s).getD z, .bool (M a s).isSome]) w := by
  obtain ⟨D, hD, hM⟩ := h.has
  obtain ⟨h1, h2⟩ := hM a s ho
  obtain ⟨v, ps, hrun, hv⟩ := hD.look_ok dotKeyed ht hz (zd := .held z) (zp := []) rfl (dotKey a s ho)
  rw [hrun, h1]
  unfold rawElem at hv
  injection hv with hv
  injection hv with hv _
  rw [h2] at hv
  cases hm : M a s with
  | none => rw [hm] at hv; injection hv with hv; rw [hv]; rfl
  | some u => rw [hm] at hv; injection hv with hv; rw [hv]; rfl
/-- 'm[d]'. -/
theorem MapAt.get {w : World} {b n : Nat} {M : Int → Int → Option Value} (h : MapAt w b n M) {t e : TypeId} (ht : Try.prog.underlying t = some (.map 26 e)) {z : Value} (hz : (zeroValue e).run Try.prog w = .ok z w) (a s : Int) (ho : okD a s) :
    (Instr.lookup t (.map (some b)) (.agg (dotC a s).toArray) false).run Try.prog w = .ok ((M a s).getD z) w := by
  obtain ⟨D, hD, hM⟩ := h.has
  obtain ⟨h1, h2⟩ := hM a s ho
  obtain ⟨v, ps, hrun, hv⟩ := hD.lookup dotKeyed ht hz (zd := .held z) (zp := []) rfl (dotKey a s ho)
  rw [hrun]
  unfold rawElem at hv
  injection hv with hv
  injection hv with hv _
  rw [h2] at hv
  cases hm : M a s with
  | none => rw [hm] at hv; injection hv with hv; rw [hv]; rfl
  | some u => rw [hm] at hv; injection hv with hv; rw [hv]; rfl
theorem dotKeyLit (a s : Int) : Go.WideAt.IsKeyLit (dotLit a s) := by unfold dotLit; trivial
/-- 'm[d] = v'. -/
theorem MapAt.store {w : World} {b n : Nat} {M : Int → Int → Option Value} (h : MapAt w b n M) {t e : TypeId} (ht : Try.prog.underlying t = some (.map 26 e)) (hn : n < maxLen) (a s : Int) (ho : okD a s) (v : Value) :
    ∃ w', (Instr.mapUpdate t (.map (some b)) (.agg (dotC a s).toArray) v).run Try.prog w = .ok () w' ∧ MapAt w' b (n + 1) (putM M a s v) ∧ w.grownBy w' (some b) := by
  obtain ⟨D, hD, hM⟩ := h
  obtain ⟨w', hrun, hown, ht'⟩ := hD.store dotKeyed ht hn (dotKey a s ho) (d := .held v) (ps := []) rfl
  refine ⟨w', hrun, ⟨_, hown, fun a' s' ho' z => ?_⟩, ht'.grown⟩
  unfold putM
  by_cases e : a' = a ∧ s' = s
  · obtain ⟨rfl, rfl⟩ := e
    rw [if_pos ⟨rfl, rfl⟩, Maps.atKey_put_same hD.isMap (dotKeyLit _ _)]
  · rw [if_neg e, Maps.atKey_put_other (fun q => e (dotLit_inj ho' ho q)), hM a' s' ho']
/-- 'delete(m, d)'. -/
theorem MapAt.drop {w : World} {b n : Nat} {M : Int → Int → Option Value} (h : MapAt w b n M) {t e : TypeId} (ht : Try.prog.underlying t = some (.map 26 e)) (ty : TypeId) (a s : Int) (ho : okD a s) :
    ∃ w', (Builtin.delete_ #[t, 26] ty #[.map (some b), .agg (dotC a s).toArray]).run Try.prog w = .ok (.tuple #[]) w' ∧ MapAt w' b n (delM M a s) ∧ w.grownBy w' (some b) := by
  obtain ⟨D, hD, hM⟩ := h
  obtain ⟨w', hrun, hown, ht'⟩ := hD.drop dotKeyed ht (dotKey a s ho) ty
  refine ⟨w', hrun, ⟨_, hown, fun a' s' ho' z => ?_⟩, ht'.grown⟩
  unfold delM
  by_cases e : a' = a ∧ s' = s
  · obtain ⟨rfl, rfl⟩ := e
    rw [if_pos ⟨rfl, rfl⟩, Maps.atKey_del_same]
  · rw [if_neg e, Maps.atKey_del_other (fun q => e (dotLit_inj ho' ho q)), hM a' s' ho']
end Go.Proofs.Ytgmbmdmbnpkbbaa

namespace Go.Proofs.Ytgmbmdmbnpkbbaa
open Go.RowKit
set_option maxRecDepth 20000
set_option linter.unusedSimpArgs false

/-- Was the dot a, s seen by v? -/
def hasB (v : List Int) (a s : Int) : Bool := decide (a < 8) && (!(s == 0) && decide (s ≤ v[a.toNat]?.getD 0))
theorem ret_bC {a b : Bool} (h : a = b) : Ending.returned (.bool a) = .returned (.bool b) := by rw [h]
/-- Are the first n numbers of a none above those of b? -/
def withinTo (a b : List Int) : Nat → Bool
  | 0 => true
  | n + 1 => withinTo a b n && !decide (a[n]?.getD 0 > b[n]?.getD 0)
def withinB (a b : List Int) : Bool := withinTo a b 8
theorem withinTo_false (a b : List Int) (k : Nat) : ∀ {n : Nat}, k < n → b[k]?.getD 0 < a[k]?.getD 0 → withinTo a b n = false
  | 0, h, _ => absurd h (Nat.not_lt_zero _)
  | n + 1, h, hl => by
    unfold withinTo
    by_cases e : k = n
    · subst e; simp [hl]
    · rw [withinTo_false a b k (n := n) (by omega) hl]; rfl

set_option maxHeartbeats 1000000 in
theorem chas_any (v : List Int) (a s : Int) (w : World) (hv : v.length = 8) (ha : 0 ≤ a) (hs : 0 ≤ s) :
    Calls Try.prog 37 #[.agg (row .u32 v), .agg (dotC a s).toArray] w fun e w' => e = .returned (.bool (hasB v a s)) ∧ Below w.heap.size w w' := by
  have hv0 := Holds.new w .u32 28 v
  have hd0 := CellsAt.new (w.alloc (.cells (row .u32 v) 28)) 26 (dotC a s)
  rw [World.size_alloc] at hd0
  have hv1 := hv0.alloc (.cells (dotC a s).toArray 26)
  have hB : Below w.heap.size w ((w.alloc (.cells (row .u32 v) 28)).alloc (.cells (dotC a s).toArray 26)) := ((Below.refl _ _).alloc (Nat.le_refl _) _).alloc (by simp) _
  have c0 := hd0.cell 0
  have c1 := hd0.cell 1
  rw [show (dotC a s)[0]? = some (.int .u8 a) from rfl] at c0
  rw [show (dotC a s)[1]? = some (.int .u32 s) from rfl] at c1
  by_cases ha8 : a < 8
  · have HH : Veil (hasB v a s = (!(s == 0) && decide (s ≤ v[a.toNat]?.getD 0))) := ⟨by simp [hasB, ha8]⟩
    have cv := hv1.cell a.toNat (by omega)
    obtain ⟨q, hq⟩ : ∃ q, v[a.toNat]?.getD 0 = q := ⟨_, rfl⟩
    rw [hq] at cv HH
    obtain ⟨n, rfl⟩ := Int.eq_ofNat_of_zero_le ha
    rw [Int.toNat_natCast] at cv
    by_cases h0 : s = 0
    · subst h0
      clear hq hv hs
      go_enter Try.func37, Try.ntmps37
      go_wp2_with fail
      refine forget (p := fun y => Code.wp _ _ _ _ y) (fun W => Below w.heap.size w W ∧ W.cell? ⟨w.heap.size + 1, 0, none⟩ = some (.int .u8 n) ∧ W.cell? ⟨w.heap.size + 1, 1, none⟩ = some (.int .u32 0)) ⟨hB, c0, c1⟩ ?_
      clear hB c0 c1 hd0 hv0 hv1 cv
      rintro W ⟨hB, c0, c1⟩
      go_quiet ((fail))
      go_wp2
      go_ret
      exact ⟨by rw [HH.out]; rfl, below_drewN hB _⟩
    · have h1 : (s == 0) = false := by simpa using h0
      have h2 : 0 < s := by omega
      rw [h1] at HH
      clear hq hv hs
      go_enter Try.func37, Try.ntmps37
      go_wp2_with fail
      refine forget (p := fun y => Code.wp _ _ _ _ y) (fun W => Below w.heap.size w W ∧ W.cell? ⟨w.heap.size + 1, 0, none⟩ = some (.int .u8 n) ∧ W.cell? ⟨w.heap.size + 1, 1, none⟩ = some (.int .u32 s) ∧ W.cell? ⟨w.heap.size, n, none⟩ = some (.int .u32 q)) ⟨hB, c0, c1, cv⟩ ?_
      clear hB c0 c1 hd0 hv0 hv1 cv
      rintro W ⟨hB, c0, c1, cv⟩
      go_quiet ((fail))
      go_wp2
      go_ret
      exact ⟨by rw [HH.out]; exact ret_bC (by simp [bne, h1]), below_drewN hB _⟩
  · have HH : Veil (hasB v a s = false) := ⟨by simp [hasB, ha8]⟩
    have hd8 : decide (a < 8) = false := by simp [ha8]
    clear hv hs ha
    go_enter Try.func37, Try.ntmps37
    go_wp2_with fail
    refine forget (p := fun y => Code.wp _ _ _ _ y) (fun W => Below w.heap.size w W ∧ W.cell? ⟨w.heap.size + 1, 0, none⟩ = some (.int .u8 a)) ⟨hB, c0⟩ ?_
    clear hB c0 c1 hd0 hv0 hv1
    rintro W ⟨hB, c0⟩
    go_quiet ((fail))
    go_wp2
    go_ret
    exact ⟨by rw [HH.out]; rfl, below_drewN hB _⟩
set_option maxHeartbeats 1000000 in
theorem cwithin_any (a b : List Int) (w : World) (ha : a.length = 8) (hb : b.length = 8) :
    Calls Try.prog 58 #[.agg (row .u32 a), .agg (row .u32 b)] w fun e w' => e = .returned (.bool (withinB a b)) ∧ Below w.heap.size w w' := by
  have hv0 := Holds.new w .u32 28 a
  have hd0 := Holds.new (w.alloc (.cells (row .u32 a) 28)) .u32 28 b
  rw [World.size_alloc] at hd0
  have hv1 := hv0.alloc (.cells (row .u32 b) 28)
  have hB : Below w.heap.size w ((w.alloc (.cells (row .u32 a) 28)).alloc (.cells (row .u32 b) 28)) := ((Below.refl _ _).alloc (Nat.le_refl _) _).alloc (by simp) _
  have HW : Veil (withinB a b = withinTo a b 8) := ⟨rfl⟩
  have HC : Veil (∀ W : World, Holds W w.heap.size .u32 28 a → Holds W (w.heap.size + 1) .u32 28 b → ∀ k : Nat, k < 8 → W.cell? ⟨w.heap.size, k, none⟩ = some (.int .u32 (a[k]?.getD 0)) ∧ W.cell? ⟨w.heap.size + 1, k, none⟩ = some (.int .u32 (b[k]?.getD 0))) := ⟨fun W h1 h2 k hk => ⟨h1.cell k (by omega), h2.cell k (by omega)⟩⟩
  clear hv0 ha hb
  go_enter Try.func58, Try.ntmps58
  go_wp2_with fail
  refine forget (p := fun y => Code.wp _ _ _ _ y) (fun W => Below w.heap.size w W ∧ Holds W w.heap.size .u32 28 a ∧ Holds W (w.heap.size + 1) .u32 28 b) ⟨hB, hv1, hd0⟩ ?_
  clear hB hv1 hd0
  rintro W ⟨hB, hv1, hd0⟩
  go_loopw [6] (fun i wr => ∃ k : Nat, k ≤ 8 ∧ i = .int .i64 k ∧ withinTo a b k = true ∧ ∃ n, wr = W.drewN n) (fun i _ => 8 - (intOf i).toNat)
  case atStart => exact ⟨0, by omega, rfl, rfl, 0, rfl⟩
  case round =>
    obtain ⟨k, hk, rfl, hT, n, rfl⟩ := hrel
    by_cases hlt : k < 8
    · obtain ⟨c1, c2⟩ := HC.out _ hv1 hd0 k hlt
      have HT : Veil (withinTo a b k = true) := ⟨hT⟩
      have hki : (0 : Int) ≤ (k : Int) := by omega
      have hkl : (k : Int) < 8 := by omega
      have HS : Veil (withinTo a b (k + 1) = (withinTo a b k && !decide (a[k]?.getD 0 > b[k]?.getD 0))) := ⟨rfl⟩
      obtain ⟨p, hp⟩ : ∃ p, a[k]?.getD 0 = p := ⟨_, rfl⟩
      obtain ⟨q, hq⟩ : ∃ q, b[k]?.getD 0 = q := ⟨_, rfl⟩
      have HF : Veil (q < p → withinTo a b 8 = false) := ⟨fun h => withinTo_false a b k (by omega) (by rw [hp, hq]; exact h)⟩
      rw [hp] at c1 HS
      rw [hq] at c2 HS
      clear hp hq hT HC
      by_cases hgt : q < p
      · go_wp2_with fail
        go_quiet ((fail))
        go_wp2
        go_ret
        exact ⟨by rw [HW.out, HF.out hgt]; rfl, below_drewN (below_drewN hB _) _⟩
      · go_wp2_with fail
        go_quiet ((fail))
        go_wp2
        go_roundw
        case rel => exact ⟨k + 1, by omega, by go_num, by rw [HS.out, HT.out]; simp [hgt], n + nq, by simp⟩
        case measure => simp [intOf]; omega
    · obtain rfl : k = 8 := by omega
      have HT : Veil (withinTo a b 8 = true) := ⟨hT⟩
      clear hT
      go_wp2
      go_ret
      exact ⟨by rw [HW.out, HT.out]; rfl, below_drewN hB _⟩
end Go.Proofs.Ytgmbmdmbnpkbbaa
