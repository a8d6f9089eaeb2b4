/- The plain arithmetic of SHA-256 in the forms in which the walks meet it: rotations, the words of a block, their spread, the rounds, a step; nothing of the dump. The leaves of SHA-256 as the program and the reference have them: rotations, four bytes as a word, the table's words, the words at the start. -/
import Derived.Laws.Entries
import Derived.Test.YtknomnnbebhijabDoorProg
import Derived.WalkKit
import Derived.WalkSpells
import Derived.WalkLawsBesides
import Derived.Deep.QuietTactic
import Derived.BigQuiet
namespace Go.Proofs.YtknomnnbebhijabDoor.S
open Go

/-- A row of numbers of one kind, as cells. -/
def row (k : IntKind) (l : List Int) : Array Value := (l.map (Value.int k)).toArray

theorem row_size (k : IntKind) (l : List Int) : (row k l).size = l.length := by simp [row]
theorem row_get? (k : IntKind) (l : List Int) (i : Nat) : (row k l)[i]? = l[i]?.map (Value.int k) := by simp [row]
theorem row_get (k : IntKind) (l : List Int) (i : Nat) (h : i < l.length) : (row k l)[i]? = some (Value.int k (l[i]?.getD 0)) := by
  rw [row_get?, List.getElem?_eq_getElem h]; rfl
theorem row_set (k : IntKind) (l : List Int) (i : Nat) (v : Int) : (row k l).setIfInBounds i (Value.int k v) = row k (l.set i v) := by
  simp [row, List.map_set]
theorem row_one (k : IntKind) (l : List Int) : (row k l).all (·.oneCell') = true := by
  simp [row, Value.oneCell']

theorem bits_or_comm (k : IntKind) (x y : Int) : bits .or k x y = bits .or k y x := by
  simp only [bits]; rw [BitVec.or_comm]

/-- A number of 32 bits turned right by n. -/
def rr (n : Int) (x : Int) : Int := bits .or .u32 (x / 2 ^ n.toNat) (x * 2 ^ (32 - n.toNat) % 4294967296)

/-- Four bytes as a word, the highest first. -/
def wd (a b c d : Int) : Int :=
  bits .or .u32 (bits .or .u32 (bits .or .u32 (a % 4294967296 * 16777216 % 4294967296) (b % 4294967296 * 65536 % 4294967296)) (c % 4294967296 * 256 % 4294967296)) (d % 4294967296)

/-- A block's word number i. -/
def wdAt (z : List Int) (i : Nat) : Int := wd (z[4 * i]?.getD 0) (z[4 * i + 1]?.getD 0) (z[4 * i + 2]?.getD 0) (z[4 * i + 3]?.getD 0)

/-- The first k words of a block. -/
def wordsL (z : List Int) (k : Nat) : List Int := (List.range k).map (wdAt z)
theorem wordsL_length (z : List Int) (k : Nat) : (wordsL z k).length = k := by simp [wordsL]
theorem wordsL_succ (z : List Int) (k : Nat) : wordsL z (k + 1) = wordsL z k ++ [wdAt z k] := by simp [wordsL, List.range_succ]

def near (x : Int) : Int := bits .xor .u32 (bits .xor .u32 (rr 17 x) (rr 19 x)) (x / 1024)
def far (y : Int) : Int := bits .xor .u32 (bits .xor .u32 (rr 7 y) (rr 18 y)) (y / 8)

/-- The next word behind those that are there. -/
def swdAt (ws : List Int) (n : Nat) : Int := (near (ws[n - 2]?.getD 0) + ws[n - 7]?.getD 0 + far (ws[n - 15]?.getD 0) + ws[n - 16]?.getD 0) % 4294967296
def swd (ws : List Int) : Int := swdAt ws ws.length

/-- A block's words, and n more. -/
def sched (first : List Int) : Nat → List Int
  | 0 => first
  | n + 1 => sched first n ++ [swd (sched first n)]
theorem sched_length (first : List Int) (n : Nat) : (sched first n).length = first.length + n := by
  induction n with
  | zero => rfl
  | succ n ih => simp only [sched, List.length_append, ih, List.length_cons, List.length_nil]; omega

/-- The words K. -/
def kTab : List Int := [1116352408, 1899447441, 3049323471, 3921009573, 961987163, 1508970993, 2453635748, 2870763221, 3624381080, 310598401, 607225278, 1426881987, 1925078388, 2162078206, 2614888103, 3248222580, 3835390401, 4022224774, 264347078, 604807628, 770255983, 1249150122, 1555081692, 1996064986, 2554220882, 2821834349, 2952996808, 3210313671, 3336571891, 3584528711, 113926993, 338241895, 666307205, 773529912, 1294757372, 1396182291, 1695183700, 1986661051, 2177026350, 2456956037, 2730485921, 2820302411, 3259730800, 3345764771, 3516065817, 3600352804, 4094571909, 275423344, 430227734, 506948616, 659060556, 883997877, 958139571, 1322822218, 1537002063, 1747873779, 1955562222, 2024104815, 2227730452, 2361852424, 2428436474, 2756734187, 3204031479, 3329325298]

def sig1 (e : Int) : Int := bits .xor .u32 (bits .xor .u32 (rr 6 e) (rr 11 e)) (rr 25 e)
def sig0 (a : Int) : Int := bits .xor .u32 (bits .xor .u32 (rr 2 a) (rr 13 a)) (rr 22 a)
def chs (e f g : Int) : Int := bits .xor .u32 (bits .and .u32 e f) (bits .and .u32 (4294967295 - e) g)
def maj (a b c : Int) : Int := bits .xor .u32 (bits .xor .u32 (bits .and .u32 a b) (bits .and .u32 a c)) (bits .and .u32 b c)

/-- One round. -/
def rnd (kw w : Int) : List Int → List Int
  | [a, b, c, d, e, f, g, h] => [(h + sig1 e + chs e f g + kw + w + (sig0 a + maj a b c)) % 4294967296, a, b, c, (d + (h + sig1 e + chs e f g + kw + w)) % 4294967296, e, f, g]
  | l => l
theorem rnd_of {K W a b c d e f g h p q : Int} (hp : p = (h + sig1 e + chs e f g + K + W + (sig0 a + maj a b c)) % 4294967296) (hq : q = (d + (h + sig1 e + chs e f g + K + W)) % 4294967296) :
    rnd K W [a, b, c, d, e, f, g, h] = [p, a, b, c, q, e, f, g] := by rw [hp, hq]; rfl
theorem not_u32 (e : Int) (h0 : 0 ≤ e) (h1 : e ≤ 4294967295) : bits .xor .u32 (if IntKind.u32.signed = true then -1 else IntKind.u32.max) e = 4294967295 - e := by
  show IntKind.u32.wrap ((BitVec.ofInt 32 4294967295 ^^^ BitVec.ofInt 32 e).toNat : Int) = _
  have h : BitVec.ofInt 32 4294967295 = BitVec.allOnes 32 := by decide
  rw [h, BitVec.allOnes_xor, BitVec.toNat_not, BitVec.toNat_ofInt]
  simp [IntKind.wrap, IntKind.bits, IntKind.signed]
  omega
/-- The words behind n rounds. -/
def rounds (ws : List Int) (s : List Int) : Nat → List Int
  | 0 => s
  | n + 1 => rnd (kTab[n]?.getD 0) (ws[n]?.getD 0) (rounds ws s n)
theorem rnd_length (kw w : Int) (s : List Int) (h : s.length = 8) : (rnd kw w s).length = 8 := by
  match s, h with
  | [a, b, c, d, e, f, g, i], _ => rfl
theorem rounds_length (ws s : List Int) (n : Nat) (h : s.length = 8) : (rounds ws s n).length = 8 := by
  induction n with
  | zero => exact h
  | succ n ih => exact rnd_length _ _ _ ih

/-- Numbers of 32 bits. -/
def InU (s : List Int) : Prop := ∀ x ∈ s, 0 ≤ x ∧ x ≤ 4294967295
theorem rnd_in (kw w : Int) (s : List Int) (h : s.length = 8) (hs : InU s) : InU (rnd kw w s) := by
  match s, h with
  | [a, b, c, d, e, f, g, i], _ =>
    intro x hx
    simp only [rnd, List.mem_cons, List.not_mem_nil, or_false] at hx
    rcases hx with rfl | rfl | rfl | rfl | rfl | rfl | rfl | rfl
    · omega
    · exact hs _ (by simp)
    · exact hs _ (by simp)
    · exact hs _ (by simp)
    · omega
    · exact hs _ (by simp)
    · exact hs _ (by simp)
    · exact hs _ (by simp)
theorem rounds_in (ws s : List Int) (n : Nat) (h : s.length = 8) (hs : InU s) : InU (rounds ws s n) := by
  induction n with
  | zero => exact hs
  | succ n ih => exact rnd_in _ _ _ (rounds_length ws s n h) ih

/-- The words behind a block of 64 bytes. -/
def addL (r s : List Int) : List Int := (List.range 8).map fun i => (r[i]?.getD 0 + s[i]?.getD 0) % 4294967296
/-- The sums as far as place k; behind it the first of the two. -/
def addK (r s : List Int) (k : Nat) : List Int := (List.range 8).map fun i => if i < k then (r[i]?.getD 0 + s[i]?.getD 0) % 4294967296 else r[i]?.getD 0
theorem addK_length (r s : List Int) (k : Nat) : (addK r s k).length = 8 := by simp [addK]
theorem addK_zero (r s : List Int) (h : r.length = 8) : addK r s 0 = r := by
  obtain ⟨a, b, c, d, e, f, g, i, rfl⟩ : ∃ a b c d e f g i, r = [a, b, c, d, e, f, g, i] := by
    match r, h with
    | [a, b, c, d, e, f, g, i], _ => exact ⟨a, b, c, d, e, f, g, i, rfl⟩
  rfl
theorem addK_get (r s : List Int) (k j : Nat) (h : j < 8) : (addK r s k)[j]?.getD 0 = if j < k then (r[j]?.getD 0 + s[j]?.getD 0) % 4294967296 else r[j]?.getD 0 := by
  simp [addK, h]
theorem addK_eight (r s : List Int) : addK r s 8 = addL r s := by
  unfold addK addL
  apply List.map_congr_left
  intro i hi
  rw [if_pos (by simpa using hi)]
theorem addK_set (r s : List Int) (k : Nat) : (addK r s k).set k ((r[k]?.getD 0 + s[k]?.getD 0) % 4294967296) = addK r s (k + 1) := by
  apply List.ext_getElem?
  intro j
  by_cases hj : j < 8
  · by_cases e : j = k
    · subst e; simp [addK, hj]
    · rw [List.getElem?_set_ne (by omega)]
      simp only [addK, List.getElem?_map, List.getElem?_range hj, Option.map_some]
      by_cases h1 : j < k
      · rw [if_pos h1, if_pos (by omega)]
      · rw [if_neg h1, if_neg (by omega)]
  · rw [List.getElem?_eq_none (by rw [List.length_set, addK_length]; omega), List.getElem?_eq_none (by rw [addK_length]; omega)]
def stepL (s z : List Int) : List Int := addL (rounds (sched (wordsL z 16) 48) s 64) s
theorem stepL_length (s z : List Int) : (stepL s z).length = 8 := by simp [stepL, addL]

theorem stepL_in (s z : List Int) : InU (stepL s z) := by
  intro x hx
  simp only [stepL, addL, List.mem_map] at hx
  obtain ⟨i, _, rfl⟩ := hx
  omega

def startL : List Int := [1779033703, 3144134277, 1013904242, 2773480762, 1359893119, 2600822924, 528734635, 1541459225]

/-- A word's four bytes, the highest first. -/
def bytes4 (v : Int) : List Int := [v / 16777216 % 256, v / 65536 % 256, v / 256 % 256, v % 256]
/-- The bytes of the first k words. -/
def joinK (s : List Int) : Nat → List Int
  | 0 => []
  | k + 1 => joinK s k ++ bytes4 (s[k]?.getD 0)
theorem joinK_length (s : List Int) (k : Nat) : (joinK s k).length = 4 * k := by
  induction k with
  | zero => rfl
  | succ k ih => simp only [joinK, bytes4, List.length_append, ih, List.length_cons, List.length_nil]; omega
def joinL (s : List Int) : List Int := joinK s 8
theorem joinL_length (s : List Int) : (joinL s).length = 32 := joinK_length s 8
theorem set_next (l : List Int) (m : Nat) (v : Int) : (l ++ List.replicate (m + 1) 0).set l.length v = (l ++ [v]) ++ List.replicate m 0 := by
  rw [List.set_append_right _ _ (Nat.le_refl _)]; simp [List.replicate_succ]
theorem set_four (l : List Int) (m n : Nat) (a b c d : Int) (h : l.length = n) : ((((l ++ List.replicate (m + 4) 0).set n a).set (n + 1) b).set (n + 2) c).set (n + 3) d = l ++ [a, b, c, d] ++ List.replicate m 0 := by
  subst h
  rw [set_next l (m + 3) a]
  have e1 := set_next (l ++ [a]) (m + 2) b
  have e2 := set_next (l ++ [a] ++ [b]) (m + 1) c
  have e3 := set_next (l ++ [a] ++ [b] ++ [c]) m d
  simp only [List.length_append, List.length_cons, List.length_nil] at e1 e2 e3
  rw [show l.length + 1 = l.length + (0 + 1) by omega, e1, show l.length + 2 = l.length + (0 + 1) + (0 + 1) by omega, e2, show l.length + 3 = l.length + (0 + 1) + (0 + 1) + (0 + 1) by omega, e3]
  simp

/-- A list of eight, taken apart. -/
theorem eight {l : List Int} (h : l.length = 8) : ∃ a b c d e f g i, l = [a, b, c, d, e, f, g, i] := by
  match l, h with
  | [a, b, c, d, e, f, g, i], _ => exact ⟨a, b, c, d, e, f, g, i, rfl⟩
end Go.Proofs.YtknomnnbebhijabDoor.S

namespace Go.Proofs.YtknomnnbebhijabDoor.S
open Go.RowKit

theorem ret_u32 {a b : Int} (h : a = b) : Ending.returned (.int .u32 a) = .returned (.int .u32 b) := by rw [h]

def rotN (n : Int) : Prop := n = 2 ∨ n = 6 ∨ n = 7 ∨ n = 11 ∨ n = 13 ∨ n = 17 ∨ n = 18 ∨ n = 19 ∨ n = 22 ∨ n = 25

theorem right_any (x n : Int) (w : World) (hn : rotN n) :
    Calls Tryd.prog 53 #[.int .u32 x, .int .i64 n] w fun e w' => e = .returned (.int .u32 (rr n x)) ∧ w' = w := by
  have h2 : bits BinOp.and IntKind.u64 (IntKind.u64.wrap (-2)) 31 = 30 := by decide
  have h6 : bits BinOp.and IntKind.u64 (IntKind.u64.wrap (-6)) 31 = 26 := by decide
  have h7 : bits BinOp.and IntKind.u64 (IntKind.u64.wrap (-7)) 31 = 25 := by decide
  have h11 : bits BinOp.and IntKind.u64 (IntKind.u64.wrap (-11)) 31 = 21 := by decide
  have h13 : bits BinOp.and IntKind.u64 (IntKind.u64.wrap (-13)) 31 = 19 := by decide
  have h17 : bits BinOp.and IntKind.u64 (IntKind.u64.wrap (-17)) 31 = 15 := by decide
  have h18 : bits BinOp.and IntKind.u64 (IntKind.u64.wrap (-18)) 31 = 14 := by decide
  have h19 : bits BinOp.and IntKind.u64 (IntKind.u64.wrap (-19)) 31 = 13 := by decide
  have h22 : bits BinOp.and IntKind.u64 (IntKind.u64.wrap (-22)) 31 = 10 := by decide
  have h25 : bits BinOp.and IntKind.u64 (IntKind.u64.wrap (-25)) 31 = 7 := by decide
  rcases hn with rfl | rfl | rfl | rfl | rfl | rfl | rfl | rfl | rfl | rfl
  all_goals
    go_enter Tryd.func53, Tryd.ntmps53
    go_wp2
    go_ret
    exact ⟨ret_u32 (by rw [bits_or_comm]; rfl), rfl⟩

theorem word_any (b off cap : Nat) (z0 z1 z2 z3 : Int) (w : World)
    (h0 : w.cell? ⟨b, off, none⟩ = some (.int .u8 z0)) (h1 : w.cell? ⟨b, off + 1, none⟩ = some (.int .u8 z1))
    (h2 : w.cell? ⟨b, off + 2, none⟩ = some (.int .u8 z2)) (h3 : w.cell? ⟨b, off + 3, none⟩ = some (.int .u8 z3)) :
    Calls Tryd.prog 54 #[.slice (some ⟨b, off, none⟩) 4 cap] w fun e w' => e = .returned (.int .u32 (wd z0 z1 z2 z3)) ∧ ∃ n, w' = w.drewN n := by
  go_enter Tryd.func54, Tryd.ntmps54
  go_wp2
  go_quiet ((fail))
  go_wp2
  go_ret
  exact ⟨rfl, _, rfl⟩

theorem start_any (w : World) :
    Calls Tryd.prog 38 #[] w fun e w' => e = .returned (.agg (row .u32 startL)) ∧ Below w.heap.size w w' := by
  go_enter Tryd.func38, Tryd.ntmps38
  go_wp2
  exact bodyPost_ret (v := .agg (row .u32 startL)) (by simp [results, Tryd.results38, go_sem, row, startL]) rfl ⟨rfl, (Below.refl _ _).alloc (Nat.le_refl _) _⟩
end Go.Proofs.YtknomnnbebhijabDoor.S
