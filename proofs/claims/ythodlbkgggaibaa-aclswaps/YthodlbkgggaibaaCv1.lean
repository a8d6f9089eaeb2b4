/- What was seen: 'Has', 'Within', 'Join' of causal and of its reference. (Written by mkcv1.py.) -/
import Derived.Test.YthodlbkgggaibaaEv0
namespace Go.Proofs.Ythodlbkgggaibaa
open Go.RowKit
set_option maxRecDepth 20000
set_option linter.unusedSimpArgs false

/-- Was the dot a, s seen by v? -/
def hasB (v : List Int) (a s : Int) : Bool := decide (a < 8) && (!(s == 0) && decide (s ≤ v[a.toNat]?.getD 0))
theorem ret_bC {a b : Bool} (h : a = b) : Ending.returned (.bool a) = .returned (.bool b) := by rw [h]
/-- Are the first n numbers of a none above those of b? -/
def withinTo (a b : List Int) : Nat → Bool
  | 0 => true
  | n + 1 => withinTo a b n && !decide (a[n]?.getD 0 > b[n]?.getD 0)
def withinB (a b : List Int) : Bool := withinTo a b 8
theorem withinTo_false (a b : List Int) (k : Nat) : ∀ {n : Nat}, k < n → b[k]?.getD 0 < a[k]?.getD 0 → withinTo a b n = false
  | 0, h, _ => absurd h (Nat.not_lt_zero _)
  | n + 1, h, hl => by
    unfold withinTo
    by_cases e : k = n
    · subst e; simp [hl]
    · rw [withinTo_false a b k (n := n) (by omega) hl]; rfl

set_option maxHeartbeats 1000000 in
theorem chas_any (v : List Int) (a s : Int) (w : World) (hv : v.length = 8) (ha : 0 ≤ a) (hs : 0 ≤ s) :
    Calls Try.prog 33 #[.agg (row .u32 v), .agg (dotC a s).toArray] w fun e w' => e = .returned (.bool (hasB v a s)) ∧ Below w.heap.size w w' := by
  have hv0 := Holds.new w .u32 25 v
  have hd0 := CellsAt.new (w.alloc (.cells (row .u32 v) 25)) 38 (dotC a s)
  rw [World.size_alloc] at hd0
  have hv1 := hv0.alloc (.cells (dotC a s).toArray 38)
  have hB : Below w.heap.size w ((w.alloc (.cells (row .u32 v) 25)).alloc (.cells (dotC a s).toArray 38)) := ((Below.refl _ _).alloc (Nat.le_refl _) _).alloc (by simp) _
  have c0 := hd0.cell 0
  have c1 := hd0.cell 1
  rw [show (dotC a s)[0]? = some (.int .u8 a) from rfl] at c0
  rw [show (dotC a s)[1]? = some (.int .u32 s) from rfl] at c1
  by_cases ha8 : a < 8
  · have HH : Veil (hasB v a s = (!(s == 0) && decide (s ≤ v[a.toNat]?.getD 0))) := ⟨by simp [hasB, ha8]⟩
    have cv := hv1.cell a.toNat (by omega)
    obtain ⟨q, hq⟩ : ∃ q, v[a.toNat]?.getD 0 = q := ⟨_, rfl⟩
    rw [hq] at cv HH
    obtain ⟨n, rfl⟩ := Int.eq_ofNat_of_zero_le ha
    rw [Int.toNat_natCast] at cv
    by_cases h0 : s = 0
    · subst h0
      clear hq hv hs
      go_enter Try.func33, Try.ntmps33
      go_wp2_with fail
      refine forget (p := fun y => Code.wp _ _ _ _ y) (fun W => Below w.heap.size w W ∧ W.cell? ⟨w.heap.size + 1, 0, none⟩ = some (.int .u8 n) ∧ W.cell? ⟨w.heap.size + 1, 1, none⟩ = some (.int .u32 0)) ⟨hB, c0, c1⟩ ?_
      clear hB c0 c1 hd0 hv0 hv1 cv
      rintro W ⟨hB, c0, c1⟩
      go_quiet ((fail))
      go_wp2
      go_ret
      exact ⟨by rw [HH.out]; rfl, below_drewN hB _⟩
    · have h1 : (s == 0) = false := by simpa using h0
      have h2 : 0 < s := by omega
      rw [h1] at HH
      clear hq hv hs
      go_enter Try.func33, Try.ntmps33
      go_wp2_with fail
      refine forget (p := fun y => Code.wp _ _ _ _ y) (fun W => Below w.heap.size w W ∧ W.cell? ⟨w.heap.size + 1, 0, none⟩ = some (.int .u8 n) ∧ W.cell? ⟨w.heap.size + 1, 1, none⟩ = some (.int .u32 s) ∧ W.cell? ⟨w.heap.size, n, none⟩ = some (.int .u32 q)) ⟨hB, c0, c1, cv⟩ ?_
      clear hB c0 c1 hd0 hv0 hv1 cv
      rintro W ⟨hB, c0, c1, cv⟩
      go_quiet ((fail))
      go_wp2
      go_ret
      exact ⟨by rw [HH.out]; exact ret_bC (by simp [bne, h1]), below_drewN hB _⟩
  · have HH : Veil (hasB v a s = false) := ⟨by simp [hasB, ha8]⟩
    have hd8 : decide (a < 8) = false := by simp [ha8]
    clear hv hs ha
    go_enter Try.func33, Try.ntmps33
    go_wp2_with fail
    refine forget (p := fun y => Code.wp _ _ _ _ y) (fun W => Below w.heap.size w W ∧ W.cell? ⟨w.heap.size + 1, 0, none⟩ = some (.int .u8 a)) ⟨hB, c0⟩ ?_
    clear hB c0 c1 hd0 hv0 hv1
    rintro W ⟨hB, c0⟩
    go_quiet ((fail))
    go_wp2
    go_ret
    exact ⟨by rw [HH.out]; rfl, below_drewN hB _⟩
set_option maxHeartbeats 1000000 in
theorem rhas_any (v : List Int) (a s : Int) (w : World) (hv : v.length = 8) (ha : 0 ≤ a) (hs : 0 ≤ s) :
    Calls Try.prog 19 #[.agg (row .u32 v), .agg (dotC a s).toArray] w fun e w' => e = .returned (.bool (hasB v a s)) ∧ Below w.heap.size w w' := by
  have hv0 := Holds.new w .u32 25 v
  have hd0 := CellsAt.new (w.alloc (.cells (row .u32 v) 25)) 38 (dotC a s)
  rw [World.size_alloc] at hd0
  have hv1 := hv0.alloc (.cells (dotC a s).toArray 38)
  have hB : Below w.heap.size w ((w.alloc (.cells (row .u32 v) 25)).alloc (.cells (dotC a s).toArray 38)) := ((Below.refl _ _).alloc (Nat.le_refl _) _).alloc (by simp) _
  have c0 := hd0.cell 0
  have c1 := hd0.cell 1
  rw [show (dotC a s)[0]? = some (.int .u8 a) from rfl] at c0
  rw [show (dotC a s)[1]? = some (.int .u32 s) from rfl] at c1
  by_cases ha8 : a < 8
  · have HH : Veil (hasB v a s = (!(s == 0) && decide (s ≤ v[a.toNat]?.getD 0))) := ⟨by simp [hasB, ha8]⟩
    have cv := hv1.cell a.toNat (by omega)
    obtain ⟨q, hq⟩ : ∃ q, v[a.toNat]?.getD 0 = q := ⟨_, rfl⟩
    rw [hq] at cv HH
    obtain ⟨n, rfl⟩ := Int.eq_ofNat_of_zero_le ha
    rw [Int.toNat_natCast] at cv
    by_cases h0 : s = 0
    · subst h0
      clear hq hv hs
      go_enter Try.func19, Try.ntmps19
      go_wp2_with fail
      refine forget (p := fun y => Code.wp _ _ _ _ y) (fun W => Below w.heap.size w W ∧ W.cell? ⟨w.heap.size + 1, 0, none⟩ = some (.int .u8 n) ∧ W.cell? ⟨w.heap.size + 1, 1, none⟩ = some (.int .u32 0)) ⟨hB, c0, c1⟩ ?_
      clear hB c0 c1 hd0 hv0 hv1 cv
      rintro W ⟨hB, c0, c1⟩
      go_quiet ((fail))
      go_wp2
      go_ret
      exact ⟨by rw [HH.out]; rfl, below_drewN hB _⟩
    · have h1 : (s == 0) = false := by simpa using h0
      have h2 : 0 < s := by omega
      rw [h1] at HH
      clear hq hv hs
      go_enter Try.func19, Try.ntmps19
      go_wp2_with fail
      refine forget (p := fun y => Code.wp _ _ _ _ y) (fun W => Below w.heap.size w W ∧ W.cell? ⟨w.heap.size + 1, 0, none⟩ = some (.int .u8 n) ∧ W.cell? ⟨w.heap.size + 1, 1, none⟩ = some (.int .u32 s) ∧ W.cell? ⟨w.heap.size, n, none⟩ = some (.int .u32 q)) ⟨hB, c0, c1, cv⟩ ?_
      clear hB c0 c1 hd0 hv0 hv1 cv
      rintro W ⟨hB, c0, c1, cv⟩
      go_quiet ((fail))
      go_wp2
      go_ret
      exact ⟨by rw [HH.out]; exact ret_bC (by simp [bne, h1]), below_drewN hB _⟩
  · have HH : Veil (hasB v a s = false) := ⟨by simp [hasB, ha8]⟩
    have hd8 : decide (a < 8) = false := by simp [ha8]
    clear hv hs ha
    go_enter Try.func19, Try.ntmps19
    go_wp2_with fail
    refine forget (p := fun y => Code.wp _ _ _ _ y) (fun W => Below w.heap.size w W ∧ W.cell? ⟨w.heap.size + 1, 0, none⟩ = some (.int .u8 a)) ⟨hB, c0⟩ ?_
    clear hB c0 c1 hd0 hv0 hv1
    rintro W ⟨hB, c0⟩
    go_quiet ((fail))
    go_wp2
    go_ret
    exact ⟨by rw [HH.out]; rfl, below_drewN hB _⟩
end Go.Proofs.Ythodlbkgggaibaa

