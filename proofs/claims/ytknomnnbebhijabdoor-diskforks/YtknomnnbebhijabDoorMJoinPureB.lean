/- 'joined': eight words as 32 bytes. The bytes that are digested, and the digest, in plain numbers. -/
import Derived.Test.YtknomnnbebhijabDoorStep
import Derived.Test.YtknomnnbebhijabDoorMPureLeaf
namespace Go.Proofs.YtknomnnbebhijabDoor.S
open Go.RowKit

theorem run_index_row {P : Program} (w : World) (t e : TypeId) (n : Nat) (kd : IntKind) (l : List Int) (k : Nat) (hu : P.underlying t = some (.array n e)) (hue : P.underlying e = some (.int kd)) (hi : (P.info? e).map (·.size) = some 1) (hl : l.length = n) (hk : k < n) :
    (Instr.index t (.agg (row kd l)) (.int .i64 k)).run P w = .ok (.int kd (l[k]?.getD 0)) w := by
  cases hq : P.info? e with
  | none => simp [hq] at hi
  | some i =>
    have hs : i.size = 1 := by simpa [hq] using hi
    have hg := row_get kd l k (by omega)
    simp [Instr.index, asIntOf, run_underlying hu, sizeOf, typeInfo, hq, hs, hk, part, isAgg, run_underlying hue, hg]

theorem joined_any (s : List Int) (w : World) (hs : s.length = 8) :
    Calls Tryd.prog 42 #[.agg (row .u32 s)] w fun e w' => e = .returned (.agg (row .u8 (joinL s))) ∧ Below w.heap.size w w' := by
  have hb0 : ∀ o o', Holds (((w.alloc (.cells (row .u32 s) 67)).alloc o).alloc o') w.heap.size .u32 67 s := fun o o' => ((Holds.new w .u32 67 s).alloc o).alloc o'
  go_enter Tryd.func42, Tryd.ntmps42
  go_wp2_with (refine wpList_ld rfl 67 _ rfl _ rfl (hb0 _ _) Tryd.underlying67 sizeSt hs ?_)
  refine forget (p := fun x => Code.wp _ _ _ _ x) (fun W0 => Below w.heap.size w W0 ∧ Holds W0 (w.heap.size + 1) .u8 60 (List.replicate 32 0) ∧ Holds W0 (w.heap.size + 1 + 1) .u8 60 (List.replicate 32 0)) ⟨(((Below.refl _ _).alloc (Nat.le_refl _) _).alloc (by simp) _).alloc (by simp; omega) _, ?_, ?_⟩ ?_
  · have hn := Holds.new (w.alloc (.cells (row .u32 s) 67)) .u8 60 (List.replicate 32 0)
    rw [World.size_alloc] at hn
    exact hn.alloc _
  · have hn := Holds.new ((w.alloc (.cells (row .u32 s) 67)).alloc (.cells (row .u8 (List.replicate 32 0)) 60)) .u8 60 (List.replicate 32 0)
    rw [World.size_alloc, World.size_alloc] at hn
    exact hn
  clear hb0
  rintro W0 ⟨hB, h1, h2⟩
  go_loopw [8] (fun i wr => ∃ k : Nat, k ≤ 8 ∧ i = .int .i64 k ∧ Below w.heap.size w wr ∧ Holds wr (w.heap.size + 1) .u8 60 (List.replicate 32 0) ∧ Holds wr (w.heap.size + 1 + 1) .u8 60 (joinK s k ++ List.replicate (32 - 4 * k) 0))
    (fun i _ => 8 - (intOf i).toNat)
  case atStart => exact ⟨0, by omega, rfl, hB, h1, h2⟩
  case round =>
    clear hB h1 h2 W0
    obtain ⟨k, hk, rfl, hB, h1, h2⟩ := hrel
    by_cases hlt : k < 8
    · have hix : ∀ wx, (Instr.index 67 (.agg (row .u32 s)) (.int .i64 k)).run Tryd.prog wx = .ok (.int .u32 (s[k]?.getD 0)) wx := fun wx => run_index_row wx 67 65 8 .u32 s k Tryd.underlying67 Tryd.underlying65 size1u32 hs hlt
      have hstep : joinK s (k + 1) = joinK s k ++ bytes4 (s[k]?.getD 0) := rfl
      obtain ⟨V, hV⟩ : ∃ V, s[k]?.getD 0 = V := ⟨_, rfl⟩
      rw [hV] at hix hstep
      have HS : Hid (joinK s (k + 1) = joinK s k ++ bytes4 V) := hstep
      have hln : (joinK s k ++ List.replicate (32 - 4 * k) 0).length = 32 := by rw [List.length_append, joinK_length, List.length_replicate]; omega
      have c0 := h2.cell (k * 4) (by omega)
      have c1 := h2.cell (k * 4 + 1) (by omega)
      have c2 := h2.cell (k * 4 + 2) (by omega)
      have c3 := h2.cell (k * 4 + 3) (by omega)
      have hff := h2.frozen
      clear hV hstep hln
      go_wp2
      go_roundw
      case rel =>
        refine ⟨k + 1, by omega, by go_num, (((hB.setCell (by simp; omega) _).setCell (by simp; omega) _).setCell (by simp; omega) _).setCell (by simp; omega) _, (((h1.setOther _ _ (by simp)).setOther _ _ (by simp)).setOther _ _ (by simp)).setOther _ _ (by simp), ?_⟩
        have := (((h2.set (k * 4) (V / 16777216 % 256)).set (k * 4 + 1) (V / 65536 % 256)).set (k * 4 + 2) (V / 256 % 256)).set (k * 4 + 3) (V % 256)
        have e := set_four (joinK s k) (32 - 4 * (k + 1)) (k * 4) (V / 16777216 % 256) (V / 65536 % 256) (V / 256 % 256) (V % 256) (by rw [joinK_length]; omega)
        rw [show 32 - 4 * k = 32 - 4 * (k + 1) + 4 by omega, e] at this
        rw [HS.out]
        exact this
      case measure => simp [intOf]; omega
    · obtain rfl : k = 8 := by omega
      have h2' : Holds wr (w.heap.size + 1 + 1) .u8 60 (joinL s) := by simpa [joinL] using h2
      clear h2
      go_wp2_with (first | (refine wpList_ld rfl 60 _ rfl _ rfl h2' Tryd.underlying60 sizeKey (joinL_length _) ?_) | (refine wpList_st rfl 60 _ _ rfl _ rfl rfl h1 (by rw [joinL_length]; exact sizeKey) (by simp [joinL_length]) ?_))
      refine bodyPost_ret (results_holds (Tryd.results42) _ rfl (h1.setRow _) Tryd.underlying60 sizeKey (joinL_length _)) rfl ⟨rfl, ?_⟩
      exact below_setRow hB (by omega) _
end Go.Proofs.YtknomnnbebhijabDoor.S

namespace Go.Proofs.YtknomnnbebhijabDoor.S
open Go
/-- How many bytes are digested. -/
def padSize (n : Nat) : Nat := (n + 8) / 64 * 64 + 64
/-- Byte i of the number of bits, the lowest one first. -/
def lenByte (n i : Nat) : Int := (n : Int) * 8 / 2 ^ (8 * i) % 256
/-- The last k of the eight bytes that tell the number of bits. -/
def lenTail (n : Nat) : Nat → List Int
  | 0 => []
  | k + 1 => lenByte n k :: lenTail n k
theorem lenTail_length (n k : Nat) : (lenTail n k).length = k := by
  induction k with
  | zero => rfl
  | succ k ih => simp [lenTail, ih]
/-- The bytes that are digested, as far as the last k. -/
def padK (z : List Int) (k : Nat) : List Int := (z ++ [128] ++ List.replicate (padSize z.length - z.length - 9) 0) ++ List.replicate (8 - k) 0 ++ lenTail z.length k
def padL (z : List Int) : List Int := padK z 8
theorem padSize_ge (n : Nat) : n + 9 ≤ padSize n := by unfold padSize; omega
theorem padK_length (z : List Int) (k : Nat) (h : k ≤ 8) : (padK z k).length = padSize z.length := by
  have := padSize_ge z.length
  simp only [padK, List.length_append, List.length_replicate, lenTail_length, List.length_cons, List.length_nil]; omega
theorem padL_length (z : List Int) : (padL z).length = padSize z.length := padK_length z 8 (by omega)
theorem set_last (p t : List Int) (r : Nat) (v : Int) : (p ++ List.replicate (r + 1) 0 ++ t).set (p.length + r) v = p ++ List.replicate r 0 ++ (v :: t) := by
  rw [List.append_assoc, List.set_append_right _ _ (by omega), show p.length + r - p.length = r by omega, List.replicate_succ', List.append_assoc, List.set_append_right _ _ (by simp)]
  simp
theorem padK_set (z : List Int) (k : Nat) (h : k < 8) : (padK z k).set (padSize z.length - 1 - k) (lenByte z.length k) = padK z (k + 1) := by
  have hg := padSize_ge z.length
  have e := set_last (z ++ [128] ++ List.replicate (padSize z.length - z.length - 9) 0) (lenTail z.length k) (8 - (k + 1)) (lenByte z.length k)
  simp only [List.length_append, List.length_replicate, List.length_cons, List.length_nil] at e
  unfold padK
  rw [show 8 - k = 8 - (k + 1) + 1 by omega, show padSize z.length - 1 - k = z.length + (0 + 1) + (padSize z.length - z.length - 9) + (8 - (k + 1)) by omega, e]
  rfl
/-- The copy, and the mark behind it. -/
theorem padK_zero (z : List Int) : (z ++ List.replicate (padSize z.length - z.length) 0).set z.length 128 = padK z 0 := by
  have hg := padSize_ge z.length
  rw [show padSize z.length - z.length = (padSize z.length - z.length - 1) + 1 by omega, set_next]
  simp only [padK, lenTail, List.append_nil, List.append_assoc, List.replicate_append_replicate]
  rw [show padSize z.length - z.length - 9 + (8 - 0) = padSize z.length - z.length - 1 by omega]


theorem lenTail_get (n m k : Nat) (h : k < m) : (lenTail n m)[k]?.getD 0 = lenByte n (m - 1 - k) := by
  induction m generalizing k with
  | zero => omega
  | succ m ih =>
    cases k with
    | zero => simp [lenTail]
    | succ k => simp only [lenTail, List.getElem?_cons_succ]; rw [ih k (by omega)]; congr 1; omega
theorem take_next (l : List Int) (k : Nat) (h : k < l.length) : l.take (k + 1) = l.take k ++ [l[k]?.getD 0] := by
  rw [List.take_succ_eq_append_getElem h, List.getElem?_eq_getElem h]; rfl

/-- Block number i of bytes. -/
def blk (p : List Int) (i : Nat) : List Int := (p.drop (64 * i)).take 64
theorem blk_get (p : List Int) (i j : Nat) (h : j < 64) : (blk p i)[j]?.getD 0 = p[64 * i + j]?.getD 0 := by
  simp [blk, h]
/-- The words behind the first blocks. -/
def foldB (p : List Int) (l : List Nat) (s : List Int) : List Int := l.foldl (fun s i => stepL s (blk p i)) s
theorem foldB_snoc (p : List Int) (l : List Nat) (i : Nat) (s : List Int) : foldB p (l ++ [i]) s = stepL (foldB p l s) (blk p i) := by simp [foldB]
theorem startL_in : InU startL := by
  intro x hx
  simp only [startL, List.mem_cons, List.not_mem_nil, or_false] at hx
  omega
theorem foldB_length (p : List Int) (l : List Nat) (s : List Int) (h : s.length = 8) : (foldB p l s).length = 8 := by
  induction l generalizing s with
  | nil => exact h
  | cons a l ih => exact ih _ (stepL_length _ _)
theorem foldB_in (p : List Int) (l : List Nat) (s : List Int) (h : InU s) : InU (foldB p l s) := by
  induction l generalizing s with
  | nil => exact h
  | cons a l ih => exact ih _ (stepL_in _ _)
/-- The words behind all blocks; the digest. -/
def sumS (z : List Int) : List Int := foldB (padL z) (List.range (padSize z.length / 64)) startL
def sumL (z : List Int) : List Int := joinL (sumS z)
theorem sumS_length (z : List Int) : (sumS z).length = 8 := foldB_length _ _ _ rfl
theorem sumL_length (z : List Int) : (sumL z).length = 32 := joinL_length _
end Go.Proofs.YtknomnnbebhijabDoor.S
