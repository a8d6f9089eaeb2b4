/- 'Equal': whether bytes are the same; always all of them are looked at. 'few' of the statements through the layers. -/
import Derived.Test.YtlalcnmcnkompaaDoorMKy1Own
import Derived.Laws.BitsLemmas
import Derived.Laws.Closers25b
namespace Go.Proofs.YtlalcnmcnkompaaDoor.S
open Go.RowKit
set_option maxRecDepth 20000

theorem bits_xor_u8_nat (a b : Nat) (ha : a < 256) (hb : b < 256) :
    bits .xor .u8 (a : Int) (b : Int) = ((a ^^^ b : Nat) : Int) := by
  have hx : a ^^^ b < 2 ^ 8 := Nat.xor_lt_two_pow (by omega) (by omega)
  have h1 : (BitVec.ofInt 8 (a : Int)).toNat = a := by
    rw [BitVec.ofInt_natCast, BitVec.toNat_ofNat]; exact Nat.mod_eq_of_lt (by omega)
  have h2 : (BitVec.ofInt 8 (b : Int)).toNat = b := by
    rw [BitVec.ofInt_natCast, BitVec.toNat_ofNat]; exact Nat.mod_eq_of_lt (by omega)
  show IntKind.u8.wrap ((BitVec.ofInt 8 (a : Int) ^^^ BitVec.ofInt 8 (b : Int)).toNat : Int) = _
  rw [BitVec.toNat_xor, h1, h2, IntKind.wrap_u8]
  omega
theorem orx_step (u p q : Int) (hu : 0 ≤ u ∧ u ≤ 255) (hp : 0 ≤ p ∧ p ≤ 255) (hq : 0 ≤ q ∧ q ≤ 255) : bits .or .u8 u (bits .xor .u8 p q) = 0 ↔ u = 0 ∧ p = q := by
  obtain ⟨a, rfl⟩ := Int.eq_ofNat_of_zero_le hu.1
  obtain ⟨b, rfl⟩ := Int.eq_ofNat_of_zero_le hp.1
  obtain ⟨c, rfl⟩ := Int.eq_ofNat_of_zero_le hq.1
  have hx : b ^^^ c < 2 ^ 8 := Nat.xor_lt_two_pow (by omega) (by omega)
  rw [bits_xor_u8_nat b c (by omega) (by omega), (bits_nat .u8 8 (by decide) wraps_u8 a (b ^^^ c) (by omega) hx).2]
  constructor
  · intro h
    have h' : a ||| (b ^^^ c) = 0 := by exact_mod_cast h
    have h2 := Nat.or_eq_zero_iff.1 h'
    have h3 : b ^^^ (b ^^^ c) = c := by rw [← Nat.xor_assoc, Nat.xor_self, Nat.zero_xor]
    rw [h2.2, Nat.xor_zero] at h3
    exact ⟨by omega, by omega⟩
  · rintro ⟨h1, h2⟩
    have : b = c := by omega
    subst this
    have : a = 0 := by omega
    subst this
    simp
/-- What is unlike of the first k bytes. -/
def orx (z b : List Int) : Nat → Int
  | 0 => 0
  | k + 1 => bits .or .u8 (orx z b k) (bits .xor .u8 (z[k]?.getD 0) (b[k]?.getD 0))
theorem orx_within (z b : List Int) (k : Nat) : 0 ≤ orx z b k ∧ orx z b k ≤ 255 := by
  cases k with
  | zero => exact ⟨by simp [orx], by simp [orx]⟩
  | succ k => exact ⟨bits_lo_u8 _ _ _, bits_hi_u8 _ _ _⟩
theorem getD_byte {z : List Int} (h : ∀ v ∈ z, 0 ≤ v ∧ v ≤ 255) (k : Nat) : 0 ≤ z[k]?.getD 0 ∧ z[k]?.getD 0 ≤ 255 := by
  by_cases hk : k < z.length
  · rw [List.getElem?_eq_getElem hk]; exact h _ (List.getElem_mem hk)
  · rw [List.getElem?_eq_none (by omega)]; simp
theorem orx_zero (z b : List Int) (hz : ∀ v ∈ z, 0 ≤ v ∧ v ≤ 255) (hb : ∀ v ∈ b, 0 ≤ v ∧ v ≤ 255) (k : Nat) : orx z b k = 0 ↔ ∀ i, i < k → z[i]?.getD 0 = b[i]?.getD 0 := by
  induction k with
  | zero => simp [orx]
  | succ k ih =>
    simp only [orx]
    rw [orx_step _ _ _ (orx_within z b k) (getD_byte hz k) (getD_byte hb k), ih]
    constructor
    · rintro ⟨h1, h2⟩ i hi
      by_cases h : i = k
      · subst h; exact h2
      · exact h1 i (by omega)
    · intro h
      exact ⟨fun i hi => h i (by omega), h k (by omega)⟩
theorem orx_eq (z b : List Int) (hz : ∀ v ∈ z, 0 ≤ v ∧ v ≤ 255) (hb : ∀ v ∈ b, 0 ≤ v ∧ v ≤ 255) (hl : z.length = b.length) : (orx z b z.length == 0) = (z == b) := by
  rw [Bool.eq_iff_iff]
  simp only [beq_iff_eq]
  rw [orx_zero z b hz hb]
  constructor
  · intro h
    apply List.ext_getElem hl
    intro i h1 h2
    have := h i h1
    simpa [h1, h2] using this
  · rintro rfl i _; rfl

/-- A fact that no tactic looks into till it is opened. -/
structure VeilE (p : Prop) : Prop where
  out : p
theorem ret_b {a b : Bool} (h : a = b) : Ending.returned (.bool a) = .returned (.bool b) := by rw [h]
theorem orx_succ (z b : List Int) (k : Nat) (p q : Int) (hp : z[k]?.getD 0 = p) (hq : b[k]?.getD 0 = q) : orx z b (k + 1) = bits .or .u8 (orx z b k) (bits .xor .u8 p q) := by subst hp hq; rfl

set_option maxHeartbeats 1000000 in
theorem equal_any (x : Option Addr) (len cap : Nat) (z : List Int) (y : Option Addr) (lb cb : Nat) (b : List Int) (w : World) (hx : Bytes w x len cap z) (hy : Bytes w y lb cb b) (hz : ∀ v ∈ z, 0 ≤ v ∧ v ≤ 255) (hb : ∀ v ∈ b, 0 ≤ v ∧ v ≤ 255) :
    Calls Tryd.prog 44 #[.slice x len cap, .slice y lb cb] w fun e w' => e = .returned (.bool (z == b)) ∧ ∃ n, w' = w.drewN n := by
  have hxl := hx.len_eq
  have hyl := hy.len_eq
  have hle := hx.le
  have htop := hx.top
  by_cases hl : len = lb
  · have HE : VeilE ((orx z b len == 0) = (z == b)) := ⟨by rw [hxl]; exact orx_eq z b hz hb (by omega)⟩
    subst hl
    clear hz hb hxl hyl
    go_enter Tryd.func44, Tryd.ntmps44
    go_wp2
    go_loopw [5, 14] (fun u i wr => ∃ k : Nat, k ≤ len ∧ i = .int .i64 k ∧ u = .int .u8 (orx z b k) ∧ ∃ n, wr = w.drewN n) (fun _ i _ => len - (intOf i).toNat)
    case atStart => exact ⟨0, by omega, rfl, rfl, 0, rfl⟩
    case round =>
      obtain ⟨k, hk, rfl, rfl, n, rfl⟩ := hrel
      by_cases hlt : k < len
      · obtain ⟨b1, o1, hx1, hc1⟩ : ∃ b off, x = some ⟨b, off, none⟩ ∧ ∀ j, j < len → w.cell? ⟨b, off + j, none⟩ = some (.int .u8 (z[j]?.getD 0)) := by
          rcases hx.at_ with h0 | h
          · omega
          · exact h
        obtain ⟨b2, o2, hx2, hc2⟩ : ∃ b' off, y = some ⟨b', off, none⟩ ∧ ∀ j, j < len → w.cell? ⟨b', off + j, none⟩ = some (.int .u8 (b[j]?.getD 0)) := by
          rcases hy.at_ with h0 | h
          · omega
          · exact h
        subst hx1 hx2
        have c1 := hc1 k hlt
        have c2 := hc2 k hlt
        obtain ⟨p, hp⟩ : ∃ p, z[k]?.getD 0 = p := ⟨_, rfl⟩
        obtain ⟨q, hq⟩ : ∃ q, b[k]?.getD 0 = q := ⟨_, rfl⟩
        have HS : VeilE (orx z b (k + 1) = bits .or .u8 (orx z b k) (bits .xor .u8 p q)) := ⟨orx_succ z b k p q hp hq⟩
        rw [hp] at c1
        rw [hq] at c2
        obtain ⟨U, hU⟩ : ∃ q, orx z b k = q := ⟨_, rfl⟩
        rw [hU] at HS ⊢
        have hki : (0 : Int) ≤ (k : Int) := by omega
        have hkl : (k : Int) < (len : Int) := by omega
        clear hc1 hc2 hp hq hU hx hy HE
        go_wp2
        go_quiet ((fail))
        go_wp2
        go_roundw
        case rel => exact ⟨k + 1, by omega, by go_num, by rw [HS.out], n + nq, by simp⟩
        case measure => simp [intOf]; omega
      · obtain rfl : k = len := by omega
        go_wp2
        go_ret
        exact ⟨ret_b HE.out, n, rfl⟩
  · have hne : (z == b) = false := by
      rw [beq_eq_false_iff_ne]
      intro h
      exact hl (by rw [hxl, hyl, h])
    have hli : ¬ ((len : Int) = (lb : Int)) := by omega
    rw [hne]
    clear hxl hyl
    go_enter Tryd.func44, Tryd.ntmps44
    go_wp2
    go_ret
    exact ⟨rfl, 0, rfl⟩
end Go.Proofs.YtlalcnmcnkompaaDoor.S

namespace Go.Proofs.YtlalcnmcnkompaaDoor.S
open Go.RowKit

theorem Bytes.fewM {w : World} {x : Option Addr} {len cap : Nat} {z : List Int} (h : Bytes w x len cap z) (n : Nat) : Bytes w x (min len n) cap (z.take n) := by
  have hz := h.len_eq
  refine ⟨by rw [List.length_take]; omega, by have := h.le; omega, h.top, h.nil, ?_⟩
  rcases h.at_ with h0 | ⟨b, off, hx, hc⟩
  · exact .inl (by omega)
  · exact .inr ⟨b, off, hx, fun j hj => by rw [List.getElem?_take_of_lt (by omega)]; exact hc j (by omega)⟩
end Go.Proofs.YtlalcnmcnkompaaDoor.S
