/- What was seen: 'Has', 'Within', 'Join' of causal and of its reference. (Written by mkcv1.py.) -/
import Derived.Test.YtmoabomoodddkaaEv0
namespace Go.Proofs.Ytmoabomoodddkaa
open Go.RowKit
set_option maxRecDepth 20000
set_option linter.unusedSimpArgs false

/-- Was the dot a, s seen by v? -/
def hasB (v : List Int) (a s : Int) : Bool := decide (a < 8) && (!(s == 0) && decide (s ≤ v[a.toNat]?.getD 0))
theorem ret_bC {a b : Bool} (h : a = b) : Ending.returned (.bool a) = .returned (.bool b) := by rw [h]
/-- Are the first n numbers of a none above those of b? -/
def withinTo (a b : List Int) : Nat → Bool
  | 0 => true
  | n + 1 => withinTo a b n && !decide (a[n]?.getD 0 > b[n]?.getD 0)
def withinB (a b : List Int) : Bool := withinTo a b 8
theorem withinTo_false (a b : List Int) (k : Nat) : ∀ {n : Nat}, k < n → b[k]?.getD 0 < a[k]?.getD 0 → withinTo a b n = false
  | 0, h, _ => absurd h (Nat.not_lt_zero _)
  | n + 1, h, hl => by
    unfold withinTo
    by_cases e : k = n
    · subst e; simp [hl]
    · rw [withinTo_false a b k (n := n) (by omega) hl]; rfl

set_option maxHeartbeats 1000000 in
theorem chas_any (v : List Int) (a s : Int) (w : World) (hv : v.length = 8) (ha : 0 ≤ a) (hs : 0 ≤ s) :
    Calls Try.prog 13 #[.agg (row .u32 v), .agg (dotC a s).toArray] w fun e w' => e = .returned (.bool (hasB v a s)) ∧ Below w.heap.size w w' := by
  have hv0 := Holds.new w .u32 24 v
  have hd0 := CellsAt.new (w.alloc (.cells (row .u32 v) 24)) 26 (dotC a s)
  rw [World.size_alloc] at hd0
  have hv1 := hv0.alloc (.cells (dotC a s).toArray 26)
  have hB : Below w.heap.size w ((w.alloc (.cells (row .u32 v) 24)).alloc (.cells (dotC a s).toArray 26)) := ((Below.refl _ _).alloc (Nat.le_refl _) _).alloc (by simp) _
  have c0 := hd0.cell 0
  have c1 := hd0.cell 1
  rw [show (dotC a s)[0]? = some (.int .u8 a) from rfl] at c0
  rw [show (dotC a s)[1]? = some (.int .u32 s) from rfl] at c1
  by_cases ha8 : a < 8
  · have HH : Veil (hasB v a s = (!(s == 0) && decide (s ≤ v[a.toNat]?.getD 0))) := ⟨by simp [hasB, ha8]⟩
    have cv := hv1.cell a.toNat (by omega)
    obtain ⟨q, hq⟩ : ∃ q, v[a.toNat]?.getD 0 = q := ⟨_, rfl⟩
    rw [hq] at cv HH
    obtain ⟨n, rfl⟩ := Int.eq_ofNat_of_zero_le ha
    rw [Int.toNat_natCast] at cv
    by_cases h0 : s = 0
    · subst h0
      clear hq hv hs
      go_enter Try.func13, Try.ntmps13
      go_wp2_with fail
      refine forget (p := fun y => Code.wp _ _ _ _ y) (fun W => Below w.heap.size w W ∧ W.cell? ⟨w.heap.size + 1, 0, none⟩ = some (.int .u8 n) ∧ W.cell? ⟨w.heap.size + 1, 1, none⟩ = some (.int .u32 0)) ⟨hB, c0, c1⟩ ?_
      clear hB c0 c1 hd0 hv0 hv1 cv
      rintro W ⟨hB, c0, c1⟩
      go_quiet ((fail))
      go_wp2
      go_ret
      exact ⟨by rw [HH.out]; rfl, below_drewN hB _⟩
    · have h1 : (s == 0) = false := by simpa using h0
      have h2 : 0 < s := by omega
      rw [h1] at HH
      clear hq hv hs
      go_enter Try.func13, Try.ntmps13
      go_wp2_with fail
      refine forget (p := fun y => Code.wp _ _ _ _ y) (fun W => Below w.heap.size w W ∧ W.cell? ⟨w.heap.size + 1, 0, none⟩ = some (.int .u8 n) ∧ W.cell? ⟨w.heap.size + 1, 1, none⟩ = some (.int .u32 s) ∧ W.cell? ⟨w.heap.size, n, none⟩ = some (.int .u32 q)) ⟨hB, c0, c1, cv⟩ ?_
      clear hB c0 c1 hd0 hv0 hv1 cv
      rintro W ⟨hB, c0, c1, cv⟩
      go_quiet ((fail))
      go_wp2
      go_ret
      exact ⟨by rw [HH.out]; exact ret_bC (by simp [bne, h1]), below_drewN hB _⟩
  · have HH : Veil (hasB v a s = false) := ⟨by simp [hasB, ha8]⟩
    have hd8 : decide (a < 8) = false := by simp [ha8]
    clear hv hs ha
    go_enter Try.func13, Try.ntmps13
    go_wp2_with fail
    refine forget (p := fun y => Code.wp _ _ _ _ y) (fun W => Below w.heap.size w W ∧ W.cell? ⟨w.heap.size + 1, 0, none⟩ = some (.int .u8 a)) ⟨hB, c0⟩ ?_
    clear hB c0 c1 hd0 hv0 hv1
    rintro W ⟨hB, c0⟩
    go_quiet ((fail))
    go_wp2
    go_ret
    exact ⟨by rw [HH.out]; rfl, below_drewN hB _⟩
set_option maxHeartbeats 1000000 in
theorem rhas_any (v : List Int) (a s : Int) (w : World) (hv : v.length = 8) (ha : 0 ≤ a) (hs : 0 ≤ s) :
    Calls Try.prog 14 #[.agg (row .u32 v), .agg (dotC a s).toArray] w fun e w' => e = .returned (.bool (hasB v a s)) ∧ Below w.heap.size w w' := by
  have hv0 := Holds.new w .u32 24 v
  have hd0 := CellsAt.new (w.alloc (.cells (row .u32 v) 24)) 26 (dotC a s)
  rw [World.size_alloc] at hd0
  have hv1 := hv0.alloc (.cells (dotC a s).toArray 26)
  have hB : Below w.heap.size w ((w.alloc (.cells (row .u32 v) 24)).alloc (.cells (dotC a s).toArray 26)) := ((Below.refl _ _).alloc (Nat.le_refl _) _).alloc (by simp) _
  have c0 := hd0.cell 0
  have c1 := hd0.cell 1
  rw [show (dotC a s)[0]? = some (.int .u8 a) from rfl] at c0
  rw [show (dotC a s)[1]? = some (.int .u32 s) from rfl] at c1
  by_cases ha8 : a < 8
  · have HH : Veil (hasB v a s = (!(s == 0) && decide (s ≤ v[a.toNat]?.getD 0))) := ⟨by simp [hasB, ha8]⟩
    have cv := hv1.cell a.toNat (by omega)
    obtain ⟨q, hq⟩ : ∃ q, v[a.toNat]?.getD 0 = q := ⟨_, rfl⟩
    rw [hq] at cv HH
    obtain ⟨n, rfl⟩ := Int.eq_ofNat_of_zero_le ha
    rw [Int.toNat_natCast] at cv
    by_cases h0 : s = 0
    · subst h0
      clear hq hv hs
      go_enter Try.func14, Try.ntmps14
      go_wp2_with fail
      refine forget (p := fun y => Code.wp _ _ _ _ y) (fun W => Below w.heap.size w W ∧ W.cell? ⟨w.heap.size + 1, 0, none⟩ = some (.int .u8 n) ∧ W.cell? ⟨w.heap.size + 1, 1, none⟩ = some (.int .u32 0)) ⟨hB, c0, c1⟩ ?_
      clear hB c0 c1 hd0 hv0 hv1 cv
      rintro W ⟨hB, c0, c1⟩
      go_quiet ((fail))
      go_wp2
      go_ret
      exact ⟨by rw [HH.out]; rfl, below_drewN hB _⟩
    · have h1 : (s == 0) = false := by simpa using h0
      have h2 : 0 < s := by omega
      rw [h1] at HH
      clear hq hv hs
      go_enter Try.func14, Try.ntmps14
      go_wp2_with fail
      refine forget (p := fun y => Code.wp _ _ _ _ y) (fun W => Below w.heap.size w W ∧ W.cell? ⟨w.heap.size + 1, 0, none⟩ = some (.int .u8 n) ∧ W.cell? ⟨w.heap.size + 1, 1, none⟩ = some (.int .u32 s) ∧ W.cell? ⟨w.heap.size, n, none⟩ = some (.int .u32 q)) ⟨hB, c0, c1, cv⟩ ?_
      clear hB c0 c1 hd0 hv0 hv1 cv
      rintro W ⟨hB, c0, c1, cv⟩
      go_quiet ((fail))
      go_wp2
      go_ret
      exact ⟨by rw [HH.out]; exact ret_bC (by simp [bne, h1]), below_drewN hB _⟩
  · have HH : Veil (hasB v a s = false) := ⟨by simp [hasB, ha8]⟩
    have hd8 : decide (a < 8) = false := by simp [ha8]
    clear hv hs ha
    go_enter Try.func14, Try.ntmps14
    go_wp2_with fail
    refine forget (p := fun y => Code.wp _ _ _ _ y) (fun W => Below w.heap.size w W ∧ W.cell? ⟨w.heap.size + 1, 0, none⟩ = some (.int .u8 a)) ⟨hB, c0⟩ ?_
    clear hB c0 c1 hd0 hv0 hv1
    rintro W ⟨hB, c0⟩
    go_quiet ((fail))
    go_wp2
    go_ret
    exact ⟨by rw [HH.out]; rfl, below_drewN hB _⟩
set_option maxHeartbeats 1000000 in
theorem cwithin_any (a b : List Int) (w : World) (ha : a.length = 8) (hb : b.length = 8) :
    Calls Try.prog 15 #[.agg (row .u32 a), .agg (row .u32 b)] w fun e w' => e = .returned (.bool (withinB a b)) ∧ Below w.heap.size w w' := by
  have hv0 := Holds.new w .u32 24 a
  have hd0 := Holds.new (w.alloc (.cells (row .u32 a) 24)) .u32 24 b
  rw [World.size_alloc] at hd0
  have hv1 := hv0.alloc (.cells (row .u32 b) 24)
  have hB : Below w.heap.size w ((w.alloc (.cells (row .u32 a) 24)).alloc (.cells (row .u32 b) 24)) := ((Below.refl _ _).alloc (Nat.le_refl _) _).alloc (by simp) _
  have HW : Veil (withinB a b = withinTo a b 8) := ⟨rfl⟩
  have HC : Veil (∀ W : World, Holds W w.heap.size .u32 24 a → Holds W (w.heap.size + 1) .u32 24 b → ∀ k : Nat, k < 8 → W.cell? ⟨w.heap.size, k, none⟩ = some (.int .u32 (a[k]?.getD 0)) ∧ W.cell? ⟨w.heap.size + 1, k, none⟩ = some (.int .u32 (b[k]?.getD 0))) := ⟨fun W h1 h2 k hk => ⟨h1.cell k (by omega), h2.cell k (by omega)⟩⟩
  clear hv0 ha hb
  go_enter Try.func15, Try.ntmps15
  go_wp2_with fail
  refine forget (p := fun y => Code.wp _ _ _ _ y) (fun W => Below w.heap.size w W ∧ Holds W w.heap.size .u32 24 a ∧ Holds W (w.heap.size + 1) .u32 24 b) ⟨hB, hv1, hd0⟩ ?_
  clear hB hv1 hd0
  rintro W ⟨hB, hv1, hd0⟩
  go_loopw [6] (fun i wr => ∃ k : Nat, k ≤ 8 ∧ i = .int .i64 k ∧ withinTo a b k = true ∧ ∃ n, wr = W.drewN n) (fun i _ => 8 - (intOf i).toNat)
  case atStart => exact ⟨0, by omega, rfl, rfl, 0, rfl⟩
  case round =>
    obtain ⟨k, hk, rfl, hT, n, rfl⟩ := hrel
    by_cases hlt : k < 8
    · obtain ⟨c1, c2⟩ := HC.out _ hv1 hd0 k hlt
      have HT : Veil (withinTo a b k = true) := ⟨hT⟩
      have hki : (0 : Int) ≤ (k : Int) := by omega
      have hkl : (k : Int) < 8 := by omega
      have HS : Veil (withinTo a b (k + 1) = (withinTo a b k && !decide (a[k]?.getD 0 > b[k]?.getD 0))) := ⟨rfl⟩
      obtain ⟨p, hp⟩ : ∃ p, a[k]?.getD 0 = p := ⟨_, rfl⟩
      obtain ⟨q, hq⟩ : ∃ q, b[k]?.getD 0 = q := ⟨_, rfl⟩
      have HF : Veil (q < p → withinTo a b 8 = false) := ⟨fun h => withinTo_false a b k (by omega) (by rw [hp, hq]; exact h)⟩
      rw [hp] at c1 HS
      rw [hq] at c2 HS
      clear hp hq hT HC
      by_cases hgt : q < p
      · go_wp2_with fail
        go_quiet ((fail))
        go_wp2
        go_ret
        exact ⟨by rw [HW.out, HF.out hgt]; rfl, below_drewN (below_drewN hB _) _⟩
      · go_wp2_with fail
        go_quiet ((fail))
        go_wp2
        go_roundw
        case rel => exact ⟨k + 1, by omega, by go_num, by rw [HS.out, HT.out]; simp [hgt], n + nq, by simp⟩
        case measure => simp [intOf]; omega
    · obtain rfl : k = 8 := by omega
      have HT : Veil (withinTo a b 8 = true) := ⟨hT⟩
      clear hT
      go_wp2
      go_ret
      exact ⟨by rw [HW.out, HT.out]; rfl, below_drewN hB _⟩
set_option maxHeartbeats 1000000 in
theorem rwithin_any (a b : List Int) (w : World) (ha : a.length = 8) (hb : b.length = 8) :
    Calls Try.prog 16 #[.agg (row .u32 a), .agg (row .u32 b)] w fun e w' => e = .returned (.bool (withinB a b)) ∧ Below w.heap.size w w' := by
  have hv0 := Holds.new w .u32 24 a
  have hd0 := Holds.new (w.alloc (.cells (row .u32 a) 24)) .u32 24 b
  rw [World.size_alloc] at hd0
  have hv1 := hv0.alloc (.cells (row .u32 b) 24)
  have hB : Below w.heap.size w ((w.alloc (.cells (row .u32 a) 24)).alloc (.cells (row .u32 b) 24)) := ((Below.refl _ _).alloc (Nat.le_refl _) _).alloc (by simp) _
  have HW : Veil (withinB a b = withinTo a b 8) := ⟨rfl⟩
  have HC : Veil (∀ W : World, Holds W w.heap.size .u32 24 a → Holds W (w.heap.size + 1) .u32 24 b → ∀ k : Nat, k < 8 → W.cell? ⟨w.heap.size, k, none⟩ = some (.int .u32 (a[k]?.getD 0)) ∧ W.cell? ⟨w.heap.size + 1, k, none⟩ = some (.int .u32 (b[k]?.getD 0))) := ⟨fun W h1 h2 k hk => ⟨h1.cell k (by omega), h2.cell k (by omega)⟩⟩
  clear hv0 ha hb
  go_enter Try.func16, Try.ntmps16
  go_wp2_with fail
  refine forget (p := fun y => Code.wp _ _ _ _ y) (fun W => Below w.heap.size w W ∧ Holds W w.heap.size .u32 24 a ∧ Holds W (w.heap.size + 1) .u32 24 b) ⟨hB, hv1, hd0⟩ ?_
  clear hB hv1 hd0
  rintro W ⟨hB, hv1, hd0⟩
  go_loopw [5] (fun i wr => ∃ k : Nat, k ≤ 8 ∧ i = .int .i64 k ∧ withinTo a b k = true ∧ ∃ n, wr = W.drewN n) (fun i _ => 8 - (intOf i).toNat)
  case atStart => exact ⟨0, by omega, rfl, rfl, 0, rfl⟩
  case round =>
    obtain ⟨k, hk, rfl, hT, n, rfl⟩ := hrel
    by_cases hlt : k < 8
    · obtain ⟨c1, c2⟩ := HC.out _ hv1 hd0 k hlt
      have HT : Veil (withinTo a b k = true) := ⟨hT⟩
      have hki : (0 : Int) ≤ (k : Int) := by omega
      have hkl : (k : Int) < 8 := by omega
      have HS : Veil (withinTo a b (k + 1) = (withinTo a b k && !decide (a[k]?.getD 0 > b[k]?.getD 0))) := ⟨rfl⟩
      obtain ⟨p, hp⟩ : ∃ p, a[k]?.getD 0 = p := ⟨_, rfl⟩
      obtain ⟨q, hq⟩ : ∃ q, b[k]?.getD 0 = q := ⟨_, rfl⟩
      have HF : Veil (q < p → withinTo a b 8 = false) := ⟨fun h => withinTo_false a b k (by omega) (by rw [hp, hq]; exact h)⟩
      rw [hp] at c1 HS
      rw [hq] at c2 HS
      clear hp hq hT HC
      by_cases hgt : q < p
      · go_wp2_with fail
        go_quiet ((fail))
        go_wp2
        go_ret
        exact ⟨by rw [HW.out, HF.out hgt]; rfl, below_drewN (below_drewN hB _) _⟩
      · go_wp2_with fail
        go_quiet ((fail))
        go_wp2
        go_roundw
        case rel => exact ⟨k + 1, by omega, by go_num, by rw [HS.out, HT.out]; simp [hgt], n + nq, by simp⟩
        case measure => simp [intOf]; omega
    · obtain rfl : k = 8 := by omega
      have HT : Veil (withinTo a b 8 = true) := ⟨hT⟩
      clear hT
      go_wp2
      go_ret
      exact ⟨by rw [HW.out, HT.out]; rfl, below_drewN hB _⟩
end Go.Proofs.Ytmoabomoodddkaa
