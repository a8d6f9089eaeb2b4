/- The bytes that are digested, and the digest, in plain numbers. -/
import Derived.Test.YtknomnnbebhijaaDoorPure
namespace Go.Proofs.YtknomnnbebhijaaDoor.S
open Go
/-- How many bytes are digested. -/
def padSize (n : Nat) : Nat := (n + 8) / 64 * 64 + 64
/-- Byte i of the number of bits, the lowest one first. -/
def lenByte (n i : Nat) : Int := (n : Int) * 8 / 2 ^ (8 * i) % 256
/-- The last k of the eight bytes that tell the number of bits. -/
def lenTail (n : Nat) : Nat → List Int
  | 0 => []
  | k + 1 => lenByte n k :: lenTail n k
theorem lenTail_length (n k : Nat) : (lenTail n k).length = k := by
  induction k with
  | zero => rfl
  | succ k ih => simp [lenTail, ih]
/-- The bytes that are digested, as far as the last k. -/
def padK (z : List Int) (k : Nat) : List Int := (z ++ [128] ++ List.replicate (padSize z.length - z.length - 9) 0) ++ List.replicate (8 - k) 0 ++ lenTail z.length k
def padL (z : List Int) : List Int := padK z 8
theorem padSize_ge (n : Nat) : n + 9 ≤ padSize n := by unfold padSize; omega
theorem padK_length (z : List Int) (k : Nat) (h : k ≤ 8) : (padK z k).length = padSize z.length := by
  have := padSize_ge z.length
  simp only [padK, List.length_append, List.length_replicate, lenTail_length, List.length_cons, List.length_nil]; omega
theorem padL_length (z : List Int) : (padL z).length = padSize z.length := padK_length z 8 (by omega)
theorem set_last (p t : List Int) (r : Nat) (v : Int) : (p ++ List.replicate (r + 1) 0 ++ t).set (p.length + r) v = p ++ List.replicate r 0 ++ (v :: t) := by
  rw [List.append_assoc, List.set_append_right _ _ (by omega), show p.length + r - p.length = r by omega, List.replicate_succ', List.append_assoc, List.set_append_right _ _ (by simp)]
  simp
theorem padK_set (z : List Int) (k : Nat) (h : k < 8) : (padK z k).set (padSize z.length - 1 - k) (lenByte z.length k) = padK z (k + 1) := by
  have hg := padSize_ge z.length
  have e := set_last (z ++ [128] ++ List.replicate (padSize z.length - z.length - 9) 0) (lenTail z.length k) (8 - (k + 1)) (lenByte z.length k)
  simp only [List.length_append, List.length_replicate, List.length_cons, List.length_nil] at e
  unfold padK
  rw [show 8 - k = 8 - (k + 1) + 1 by omega, show padSize z.length - 1 - k = z.length + (0 + 1) + (padSize z.length - z.length - 9) + (8 - (k + 1)) by omega, e]
  rfl
/-- The copy, and the mark behind it. -/
theorem padK_zero (z : List Int) : (z ++ List.replicate (padSize z.length - z.length) 0).set z.length 128 = padK z 0 := by
  have hg := padSize_ge z.length
  rw [show padSize z.length - z.length = (padSize z.length - z.length - 1) + 1 by omega, set_next]
  simp only [padK, lenTail, List.append_nil, List.append_assoc, List.replicate_append_replicate]
  rw [show padSize z.length - z.length - 9 + (8 - 0) = padSize z.length - z.length - 1 by omega]


theorem lenTail_get (n m k : Nat) (h : k < m) : (lenTail n m)[k]?.getD 0 = lenByte n (m - 1 - k) := by
  induction m generalizing k with
  | zero => omega
  | succ m ih =>
    cases k with
    | zero => simp [lenTail]
    | succ k => simp only [lenTail, List.getElem?_cons_succ]; rw [ih k (by omega)]; congr 1; omega
theorem take_next (l : List Int) (k : Nat) (h : k < l.length) : l.take (k + 1) = l.take k ++ [l[k]?.getD 0] := by
  rw [List.take_succ_eq_append_getElem h, List.getElem?_eq_getElem h]; rfl

/-- Block number i of bytes. -/
def blk (p : List Int) (i : Nat) : List Int := (p.drop (64 * i)).take 64
theorem blk_get (p : List Int) (i j : Nat) (h : j < 64) : (blk p i)[j]?.getD 0 = p[64 * i + j]?.getD 0 := by
  simp [blk, h]
/-- The words behind the first blocks. -/
def foldB (p : List Int) (l : List Nat) (s : List Int) : List Int := l.foldl (fun s i => stepL s (blk p i)) s
theorem foldB_snoc (p : List Int) (l : List Nat) (i : Nat) (s : List Int) : foldB p (l ++ [i]) s = stepL (foldB p l s) (blk p i) := by simp [foldB]
theorem startL_in : InU startL := by
  intro x hx
  simp only [startL, List.mem_cons, List.not_mem_nil, or_false] at hx
  omega
theorem foldB_length (p : List Int) (l : List Nat) (s : List Int) (h : s.length = 8) : (foldB p l s).length = 8 := by
  induction l generalizing s with
  | nil => exact h
  | cons a l ih => exact ih _ (stepL_length _ _)
theorem foldB_in (p : List Int) (l : List Nat) (s : List Int) (h : InU s) : InU (foldB p l s) := by
  induction l generalizing s with
  | nil => exact h
  | cons a l ih => exact ih _ (stepL_in _ _)
/-- The words behind all blocks; the digest. -/
def sumS (z : List Int) : List Int := foldB (padL z) (List.range (padSize z.length / 64)) startL
def sumL (z : List Int) : List Int := joinL (sumS z)
theorem sumS_length (z : List Int) : (sumS z).length = 8 := foldB_length _ _ _ rfl
theorem sumL_length (z : List Int) : (sumL z).length = 32 := joinL_length _
end Go.Proofs.YtknomnnbebhijaaDoor.S
