/- Pure Leaf Kit Words Spread -/
import Derived.Laws.Entries
import Derived.Test.YtflkhkmejnpapaaGreatDoorProg
import Derived.WalkKit
import Derived.WalkSpells
import Derived.WalkLawsBesides
import Derived.Deep.QuietTactic
import Derived.BigQuiet
import Derived.Laws.Rows
import Derived.Laws.CopyRow
import Derived.Laws.CopyOwn
import Derived.Deep.WholeRow
namespace Go.Proofs.YtflkhkmejnpapaaGreatDoor.S
open Go
def row (k : IntKind) (l : List Int) : Array Value := (l.map (Value.int k)).toArray
theorem row_size (k : IntKind) (l : List Int) : (row k l).size = l.length := by simp [row]
theorem row_get? (k : IntKind) (l : List Int) (i : Nat) : (row k l)[i]? = l[i]?.map (Value.int k) := by simp [row]
theorem row_get (k : IntKind) (l : List Int) (i : Nat) (h : i < l.length) : (row k l)[i]? = some (Value.int k (l[i]?.getD 0)) := by
 rw [row_get?, List.getElem?_eq_getElem h]; rfl
theorem row_set (k : IntKind) (l : List Int) (i : Nat) (v : Int) : (row k l).setIfInBounds i (Value.int k v) = row k (l.set i v) := by
 simp [row, List.map_set]
theorem row_one (k : IntKind) (l : List Int) : (row k l).all (·.oneCell') = true := by
 simp [row, Value.oneCell']
theorem bits_or_comm (k : IntKind) (x y : Int) : bits .or k x y = bits .or k y x := by
 simp only [bits]; rw [BitVec.or_comm]
def rr (n : Int) (x : Int) : Int := bits .or .u32 (x / 2 ^ n.toNat) (x * 2 ^ (32 - n.toNat) % 4294967296)
def wd (a b c d : Int) : Int :=
 bits .or .u32 (bits .or .u32 (bits .or .u32 (a % 4294967296 * 16777216 % 4294967296) (b % 4294967296 * 65536 % 4294967296)) (c % 4294967296 * 256 % 4294967296)) (d % 4294967296)
def wdAt (z : List Int) (i : Nat) : Int := wd (z[4 * i]?.getD 0) (z[4 * i + 1]?.getD 0) (z[4 * i + 2]?.getD 0) (z[4 * i + 3]?.getD 0)
def wordsL (z : List Int) (k : Nat) : List Int := (List.range k).map (wdAt z)
theorem wordsL_length (z : List Int) (k : Nat) : (wordsL z k).length = k := by simp [wordsL]
theorem wordsL_succ (z : List Int) (k : Nat) : wordsL z (k + 1) = wordsL z k ++ [wdAt z k] := by simp [wordsL, List.range_succ]
def near (x : Int) : Int := bits .xor .u32 (bits .xor .u32 (rr 17 x) (rr 19 x)) (x / 1024)
def far (y : Int) : Int := bits .xor .u32 (bits .xor .u32 (rr 7 y) (rr 18 y)) (y / 8)
def swdAt (ws : List Int) (n : Nat) : Int := (near (ws[n - 2]?.getD 0) + ws[n - 7]?.getD 0 + far (ws[n - 15]?.getD 0) + ws[n - 16]?.getD 0) % 4294967296
def swd (ws : List Int) : Int := swdAt ws ws.length
def sched (first : List Int) : Nat → List Int
 | 0 => first
 | n + 1 => sched first n ++ [swd (sched first n)]
theorem sched_length (first : List Int) (n : Nat) : (sched first n).length = first.length + n := by
 induction n with
 | zero => rfl
 | succ n ih => simp only [sched, List.length_append, ih, List.length_cons, List.length_nil]; omega
def kTab : List Int := [1116352408, 1899447441, 3049323471, 3921009573, 961987163, 1508970993, 2453635748, 2870763221, 3624381080, 310598401, 607225278, 1426881987, 1925078388, 2162078206, 2614888103, 3248222580, 3835390401, 4022224774, 264347078, 604807628, 770255983, 1249150122, 1555081692, 1996064986, 2554220882, 2821834349, 2952996808, 3210313671, 3336571891, 3584528711, 113926993, 338241895, 666307205, 773529912, 1294757372, 1396182291, 1695183700, 1986661051, 2177026350, 2456956037, 2730485921, 2820302411, 3259730800, 3345764771, 3516065817, 3600352804, 4094571909, 275423344, 430227734, 506948616, 659060556, 883997877, 958139571, 1322822218, 1537002063, 1747873779, 1955562222, 2024104815, 2227730452, 2361852424, 2428436474, 2756734187, 3204031479, 3329325298]
def sig1 (e : Int) : Int := bits .xor .u32 (bits .xor .u32 (rr 6 e) (rr 11 e)) (rr 25 e)
def sig0 (a : Int) : Int := bits .xor .u32 (bits .xor .u32 (rr 2 a) (rr 13 a)) (rr 22 a)
def chs (e f g : Int) : Int := bits .xor .u32 (bits .and .u32 e f) (bits .and .u32 (4294967295 - e) g)
def maj (a b c : Int) : Int := bits .xor .u32 (bits .xor .u32 (bits .and .u32 a b) (bits .and .u32 a c)) (bits .and .u32 b c)
def rnd (kw w : Int) : List Int → List Int
 | [a, b, c, d, e, f, g, h] => [(h + sig1 e + chs e f g + kw + w + (sig0 a + maj a b c)) % 4294967296, a, b, c, (d + (h + sig1 e + chs e f g + kw + w)) % 4294967296, e, f, g]
 | l => l
theorem rnd_of {K W a b c d e f g h p q : Int} (hp : p = (h + sig1 e + chs e f g + K + W + (sig0 a + maj a b c)) % 4294967296) (hq : q = (d + (h + sig1 e + chs e f g + K + W)) % 4294967296) :
    rnd K W [a, b, c, d, e, f, g, h] = [p, a, b, c, q, e, f, g] := by rw [hp, hq]; rfl
theorem not_u32 (e : Int) (h0 : 0 ≤ e) (h1 : e ≤ 4294967295) : bits .xor .u32 (if IntKind.u32.signed = true then -1 else IntKind.u32.max) e = 4294967295 - e := by
 show IntKind.u32.wrap ((BitVec.ofInt 32 4294967295 ^^^ BitVec.ofInt 32 e).toNat : Int) = _
 have h : BitVec.ofInt 32 4294967295 = BitVec.allOnes 32 := by decide
 rw [h, BitVec.allOnes_xor, BitVec.toNat_not, BitVec.toNat_ofInt]
 simp [IntKind.wrap, IntKind.bits, IntKind.signed]
 omega
def rounds (ws : List Int) (s : List Int) : Nat → List Int
 | 0 => s
 | n + 1 => rnd (kTab[n]?.getD 0) (ws[n]?.getD 0) (rounds ws s n)
theorem rnd_length (kw w : Int) (s : List Int) (h : s.length = 8) : (rnd kw w s).length = 8 := by
 match s, h with
 | [a, b, c, d, e, f, g, i], _ => rfl
theorem rounds_length (ws s : List Int) (n : Nat) (h : s.length = 8) : (rounds ws s n).length = 8 := by
 induction n with
 | zero => exact h
 | succ n ih => exact rnd_length _ _ _ ih
def InU (s : List Int) : Prop := ∀ x ∈ s, 0 ≤ x ∧ x ≤ 4294967295
theorem rnd_in (kw w : Int) (s : List Int) (h : s.length = 8) (hs : InU s) : InU (rnd kw w s) := by
 match s, h with
 | [a, b, c, d, e, f, g, i], _ =>
  intro x hx
  simp only [rnd, List.mem_cons, List.not_mem_nil, or_false] at hx
  rcases hx with rfl | rfl | rfl | rfl | rfl | rfl | rfl | rfl
  · omega
  · exact hs _ (by simp)
  · exact hs _ (by simp)
  · exact hs _ (by simp)
  · omega
  · exact hs _ (by simp)
  · exact hs _ (by simp)
  · exact hs _ (by simp)
theorem rounds_in (ws s : List Int) (n : Nat) (h : s.length = 8) (hs : InU s) : InU (rounds ws s n) := by
 induction n with
 | zero => exact hs
 | succ n ih => exact rnd_in _ _ _ (rounds_length ws s n h) ih
def addL (r s : List Int) : List Int := (List.range 8).map fun i => (r[i]?.getD 0 + s[i]?.getD 0) % 4294967296
def addK (r s : List Int) (k : Nat) : List Int := (List.range 8).map fun i => if i < k then (r[i]?.getD 0 + s[i]?.getD 0) % 4294967296 else r[i]?.getD 0
theorem addK_length (r s : List Int) (k : Nat) : (addK r s k).length = 8 := by simp [addK]
theorem addK_zero (r s : List Int) (h : r.length = 8) : addK r s 0 = r := by
 obtain ⟨a, b, c, d, e, f, g, i, rfl⟩ : ∃ a b c d e f g i, r = [a, b, c, d, e, f, g, i] := by
  match r, h with
  | [a, b, c, d, e, f, g, i], _ => exact ⟨a, b, c, d, e, f, g, i, rfl⟩
 rfl
theorem addK_get (r s : List Int) (k j : Nat) (h : j < 8) : (addK r s k)[j]?.getD 0 = if j < k then (r[j]?.getD 0 + s[j]?.getD 0) % 4294967296 else r[j]?.getD 0 := by
 simp [addK, h]
theorem addK_eight (r s : List Int) : addK r s 8 = addL r s := by
 unfold addK addL
 apply List.map_congr_left
 intro i hi
 rw [if_pos (by simpa using hi)]
theorem addK_set (r s : List Int) (k : Nat) : (addK r s k).set k ((r[k]?.getD 0 + s[k]?.getD 0) % 4294967296) = addK r s (k + 1) := by
 apply List.ext_getElem?
 intro j
 by_cases hj : j < 8
 · by_cases e : j = k
   · subst e; simp [addK, hj]
   · rw [List.getElem?_set_ne (by omega)]
     simp only [addK, List.getElem?_map, List.getElem?_range hj, Option.map_some]
     by_cases h1 : j < k
     · rw [if_pos h1, if_pos (by omega)]
     · rw [if_neg h1, if_neg (by omega)]
 · rw [List.getElem?_eq_none (by rw [List.length_set, addK_length]; omega), List.getElem?_eq_none (by rw [addK_length]; omega)]
def stepL (s z : List Int) : List Int := addL (rounds (sched (wordsL z 16) 48) s 64) s
theorem stepL_length (s z : List Int) : (stepL s z).length = 8 := by simp [stepL, addL]
theorem stepL_in (s z : List Int) : InU (stepL s z) := by
 intro x hx
 simp only [stepL, addL, List.mem_map] at hx
 obtain ⟨i, _, rfl⟩ := hx
 omega
def startL : List Int := [1779033703, 3144134277, 1013904242, 2773480762, 1359893119, 2600822924, 528734635, 1541459225]
def bytes4 (v : Int) : List Int := [v / 16777216 % 256, v / 65536 % 256, v / 256 % 256, v % 256]
def joinK (s : List Int) : Nat → List Int
 | 0 => []
 | k + 1 => joinK s k ++ bytes4 (s[k]?.getD 0)
theorem joinK_length (s : List Int) (k : Nat) : (joinK s k).length = 4 * k := by
 induction k with
 | zero => rfl
 | succ k ih => simp only [joinK, bytes4, List.length_append, ih, List.length_cons, List.length_nil]; omega
def joinL (s : List Int) : List Int := joinK s 8
theorem joinL_length (s : List Int) : (joinL s).length = 32 := joinK_length s 8
theorem set_next (l : List Int) (m : Nat) (v : Int) : (l ++ List.replicate (m + 1) 0).set l.length v = (l ++ [v]) ++ List.replicate m 0 := by
 rw [List.set_append_right _ _ (Nat.le_refl _)]; simp [List.replicate_succ]
theorem set_four (l : List Int) (m n : Nat) (a b c d : Int) (h : l.length = n) : ((((l ++ List.replicate (m + 4) 0).set n a).set (n + 1) b).set (n + 2) c).set (n + 3) d = l ++ [a, b, c, d] ++ List.replicate m 0 := by
 subst h
 rw [set_next l (m + 3) a]
 have e1 := set_next (l ++ [a]) (m + 2) b
 have e2 := set_next (l ++ [a] ++ [b]) (m + 1) c
 have e3 := set_next (l ++ [a] ++ [b] ++ [c]) m d
 simp only [List.length_append, List.length_cons, List.length_nil] at e1 e2 e3
 rw [show l.length + 1 = l.length + (0 + 1) by omega, e1, show l.length + 2 = l.length + (0 + 1) + (0 + 1) by omega, e2, show l.length + 3 = l.length + (0 + 1) + (0 + 1) + (0 + 1) by omega, e3]
 simp
theorem eight {l : List Int} (h : l.length = 8) : ∃ a b c d e f g i, l = [a, b, c, d, e, f, g, i] := by
 match l, h with
 | [a, b, c, d, e, f, g, i], _ => exact ⟨a, b, c, d, e, f, g, i, rfl⟩
open Go.RowKit
theorem ret_u32 {a b : Int} (h : a = b) : Ending.returned (.int .u32 a) = .returned (.int .u32 b) := by rw [h]
def rotN (n : Int) : Prop := n = 2 ∨ n = 6 ∨ n = 7 ∨ n = 11 ∨ n = 13 ∨ n = 17 ∨ n = 18 ∨ n = 19 ∨ n = 22 ∨ n = 25
theorem right_any (x n : Int) (w : World) (hn : rotN n) :
    Calls Tryz.prog 121 #[.int .u32 x, .int .i64 n] w fun e w' => e = .returned (.int .u32 (rr n x)) ∧ w' = w := by
 have h2 : bits BinOp.and IntKind.u64 (IntKind.u64.wrap (-2)) 31 = 30 := by decide
 have h6 : bits BinOp.and IntKind.u64 (IntKind.u64.wrap (-6)) 31 = 26 := by decide
 have h7 : bits BinOp.and IntKind.u64 (IntKind.u64.wrap (-7)) 31 = 25 := by decide
 have h11 : bits BinOp.and IntKind.u64 (IntKind.u64.wrap (-11)) 31 = 21 := by decide
 have h13 : bits BinOp.and IntKind.u64 (IntKind.u64.wrap (-13)) 31 = 19 := by decide
 have h17 : bits BinOp.and IntKind.u64 (IntKind.u64.wrap (-17)) 31 = 15 := by decide
 have h18 : bits BinOp.and IntKind.u64 (IntKind.u64.wrap (-18)) 31 = 14 := by decide
 have h19 : bits BinOp.and IntKind.u64 (IntKind.u64.wrap (-19)) 31 = 13 := by decide
 have h22 : bits BinOp.and IntKind.u64 (IntKind.u64.wrap (-22)) 31 = 10 := by decide
 have h25 : bits BinOp.and IntKind.u64 (IntKind.u64.wrap (-25)) 31 = 7 := by decide
 rcases hn with rfl | rfl | rfl | rfl | rfl | rfl | rfl | rfl | rfl | rfl
 all_goals
  go_enter Tryz.func121, Tryz.ntmps121
  go_wp2
  go_ret
  exact ⟨ret_u32 (by rw [bits_or_comm]; rfl), rfl⟩
theorem word_any (b off cap : Nat) (z0 z1 z2 z3 : Int) (w : World)
    (h0 : w.cell? ⟨b, off, none⟩ = some (.int .u8 z0)) (h1 : w.cell? ⟨b, off + 1, none⟩ = some (.int .u8 z1))
    (h2 : w.cell? ⟨b, off + 2, none⟩ = some (.int .u8 z2)) (h3 : w.cell? ⟨b, off + 3, none⟩ = some (.int .u8 z3)) :
    Calls Tryz.prog 122 #[.slice (some ⟨b, off, none⟩) 4 cap] w fun e w' => e = .returned (.int .u32 (wd z0 z1 z2 z3)) ∧ ∃ n, w' = w.drewN n := by
 go_enter Tryz.func122, Tryz.ntmps122
 go_wp2
 go_quiet ((fail))
 go_wp2
 go_ret
 exact ⟨rfl, _, rfl⟩
theorem start_any (w : World) :
    Calls Tryz.prog 106 #[] w fun e w' => e = .returned (.agg (row .u32 startL)) ∧ Below w.heap.size w w' := by
 go_enter Tryz.func106, Tryz.ntmps106
 go_wp2
 exact bodyPost_ret (v := .agg (row .u32 startL)) (by simp [results, Tryz.results106, go_sem, row, startL]) rfl ⟨rfl, (Below.refl _ _).alloc (Nat.le_refl _) _⟩
def Holds (w : World) (g : Nat) (k : IntKind) (t : TypeId) (l : List Int) : Prop := w.heap[g]? = some (.cells (row k l) t (0, 0))
theorem Holds.lt {w : World} {g : Nat} {k : IntKind} {t : TypeId} {l : List Int} (h : Holds w g k t l) : g < w.heap.size := by
 unfold Holds at h
 exact (Array.getElem?_eq_some_iff.1 h).1
theorem Holds.cell {w : World} {g : Nat} {k : IntKind} {t : TypeId} {l : List Int} (h : Holds w g k t l) (j : Nat) (hj : j < l.length) : w.cell? ⟨g, j, none⟩ = some (.int k (l[j]?.getD 0)) := by
 rw [cell_of_row w g j _ t _ h, row_get k l j hj]
theorem Holds.frozen {w : World} {g : Nat} {k : IntKind} {t : TypeId} {l : List Int} (h : Holds w g k t l) (j : Nat) : w.frozen? ⟨g, j, none⟩ = false := frozen_of_row w g j _ t h
theorem Holds.drewN {w : World} {g : Nat} {k : IntKind} {t : TypeId} {l : List Int} (h : Holds w g k t l) (n : Nat) : Holds (w.drewN n) g k t l := by
 unfold Holds at h ⊢; simpa using h
theorem Holds.drew {w : World} {g : Nat} {k : IntKind} {t : TypeId} {l : List Int} (h : Holds w g k t l) : Holds w.drew g k t l := by
 unfold Holds at h ⊢; rw [heap_drew]; exact h
theorem Holds.alloc {w : World} {g : Nat} {k : IntKind} {t : TypeId} {l : List Int} (h : Holds w g k t l) (o : Obj) : Holds (w.alloc o) g k t l := by
 have hl := h.lt
 unfold Holds at h ⊢; rw [Below.heap_alloc w o g hl]; exact h
theorem Holds.below {w w' : World} {B g : Nat} {k : IntKind} {t : TypeId} {l : List Int} (h : Holds w g k t l) (hb : Below B w w') (hg : g < B) : Holds w' g k t l := by
 unfold Holds at h ⊢; rw [hb.block g hg]; exact h
theorem Holds.set {w : World} {g : Nat} {k : IntKind} {t : TypeId} {l : List Int} (h : Holds w g k t l) (j : Nat) (v : Int) : Holds (w.setCell ⟨g, j, none⟩ (.int k v)) g k t (l.set j v) := by
 unfold Holds at h ⊢
 rw [heap_setCell_same w g j _ t _ h, row_set]
theorem Holds.setOther {w : World} {g : Nat} {k : IntKind} {t : TypeId} {l : List Int} (h : Holds w g k t l) (a : Addr) (v : Value) (hne : g ≠ a.block) : Holds (w.setCell a v) g k t l := by
 unfold Holds at h ⊢
 rw [heap_setCell_other w a g v hne]; exact h
theorem Holds.new (w : World) (k : IntKind) (t : TypeId) (l : List Int) : Holds (w.alloc (.cells (row k l) t)) w.heap.size k t l := heap_alloc_new w _
theorem Holds.setRow {w : World} {g : Nat} {k : IntKind} {t : TypeId} {l : List Int} (h : Holds w g k t l) (l' : List Int) : Holds (w.setRow g (row k l')) g k t l' := by
 unfold Holds at h ⊢; exact setRow_heap w g _ _ t _ h
theorem Holds.setRowOther {w : World} {g g' : Nat} {k : IntKind} {t : TypeId} {l : List Int} (h : Holds w g k t l) (cs : Array Value) (hne : g ≠ g') : Holds (w.setRow g' cs) g k t l := by
 unfold Holds at h ⊢; rw [setRow_other w g' g cs hne]; exact h
theorem drewN_size (w : World) (n : Nat) : (w.drewN n).heap.size = w.heap.size := by simp
theorem below_drewN {B : Nat} {a w : World} (h : Below B a w) (n : Nat) : Below B a (w.drewN n) := by
 induction n with
 | zero => exact h
 | succ n ih => exact ih.drew
section
variable {P : Program}
theorem wpList_ld {ops : Array Oper} {rest : List Oper} {o : Oper} {a : Act} {w : World} {Q : Exit → Act → World → Prop} (hgd : o.guard = none) (ty : TypeId) (x : Operand) (ho : o.op = .load ty x)
    (g : Nat) (hx : a.eval x = .pointer (some ⟨g, 0, none⟩)) {k : IntKind} {t : TypeId} {l : List Int} (hg : Holds w g k t l) {n : Nat} {e : TypeId}
    (hu : P.underlying ty = some (.array n e)) (hi : (P.info? ty).map (·.size) = some n) (hl : l.length = n)
    (h : wpList P ops Q rest (a.put o.dst (.agg (row k l))) w) : wpList P ops Q (o :: rest) a w :=
 wpList_load_row hgd ty x ho g hx t (row k l) (0, 0) _ hg hu rfl (by rw [hi, row_size, hl]) h
theorem run_storeVar_row (w : World) (g : Nat) (ty t : TypeId) (k : IntKind) (old l : List Int) (hg : Holds w g k t old) (hl : old.length = l.length) (hi : (P.info? ty).map (·.size) = some l.length) :
    (storeVar ty ⟨g, 0, none⟩ (.agg (row k l))).run P w = .ok () (w.setRow g (row k l)) := by
 have hst := run_storeCells_at P g 0 t (row k l).toList 0 (row k old) w hg (by simp [row, hl]) (fun v hv => by
  have := row_one k l
  exact (Array.all_eq_true_iff_forall_mem.1 this) v (by simpa using hv))
 cases hq : P.info? ty with
 | none => simp [hq] at hi
 | some i =>
  have hs : i.size = l.length := by simpa [hq] using hi
  have hsz : (row k l).size = i.size := by rw [row_size, hs]
  have he : (List.take (0 + 0) (row k old).toList ++ (row k l).toList ++ List.drop (0 + 0 + (row k l).toList.length) (row k old).toList).toArray = row k l := by
   simp [row, hl]
  rw [he] at hst
  simp [storeVar, sizeOf, typeInfo, hq, Value.cells, hsz, hst]
theorem wpList_st {ops : Array Oper} {rest : List Oper} {o : Oper} {a : Act} {w : World} {Q : Exit → Act → World → Prop} (hgd : o.guard = none) (ty : TypeId) (x y : Operand) (ho : o.op = .store ty x y)
    (g : Nat) (hx : a.eval x = .pointer (some ⟨g, 0, none⟩)) {k : IntKind} {t : TypeId} {old l : List Int} (hy : a.eval y = .agg (row k l)) (hg : Holds w g k t old)
    (hi : (P.info? ty).map (·.size) = some l.length) (hl : old.length = l.length)
    (h : wpList P ops Q rest (a.put o.dst undef) (w.setRow g (row k l))) : wpList P ops Q (o :: rest) a w :=
 wpList_plain hgd fun _ hK => by
  unfold Oper.wp execOp
  simp only [ho, hx, hy, Instr.storeAt, Instr.sureAddr, Sem.run_bind, Sem.run_pure, Result.andThen_ok, run_storeVar_row w g ty t k old l hg hl hi]
  exact hK _ _ h
theorem results_holds {fn : Func} {p : Tmp} {ty : TypeId} (h : fn.results = #[.cell p ty]) (tmps : Array Value) {w : World} {g : Nat} {k : IntKind} {t : TypeId} {l : List Int}
    (hp : tmps.getD p undef = .pointer (some ⟨g, 0, none⟩)) (hg : Holds w g k t l) {n : Nat} {e : TypeId}
    (hu : P.underlying ty = some (.array n e)) (hi : (P.info? ty).map (·.size) = some n) (hl : l.length = n) :
    (results fn tmps).run P w = .ok (.agg (row k l)) w :=
 results_cell_row h tmps w g t (row k l) (0, 0) _ hp hg hu rfl (by rw [hi, row_size, hl])
end
theorem size8 : (Tryz.prog.info? 146).map (·.size) = some 8 := by kernel_rfl
theorem sizeSt : (Tryz.prog.info? 158).map (·.size) = some 8 := by kernel_rfl
theorem size16 : (Tryz.prog.info? 112).map (·.size) = some 16 := by kernel_rfl
theorem size64 : (Tryz.prog.info? 172).map (·.size) = some 64 := by kernel_rfl
theorem sizeKey : (Tryz.prog.info? 23).map (·.size) = some 32 := by kernel_rfl
theorem words_any (b off cap : Nat) (z : List Int) (w : World) (hcap : 64 ≤ cap) (hcap2 : cap ≤ 9223372036854775807)
    (hcell : ∀ j, j < 64 → w.cell? ⟨b, off + j, none⟩ = some (.int .u8 (z[j]?.getD 0))) :
    Calls Tryz.prog 120 #[.slice (some ⟨b, off, none⟩) 64 cap] w fun e w' => e = .returned (.agg (row .u32 (wordsL z 16))) ∧ Below w.heap.size w w' := by
 have hb : b < w.heap.size := block_lt_of_cell (hcell 0 (by omega))
 go_enter Tryz.func120, Tryz.ntmps120
 go_wp2
 go_loopw [6] (fun i wr => ∃ k : Nat, k ≤ 16 ∧ i = .int .i64 k ∧ Below w.heap.size w wr ∧ w.heap.size + 2 ≤ wr.heap.size
     ∧ Holds wr w.heap.size .u32 112 (List.replicate 16 0)
     ∧ Holds wr (w.heap.size + 1) .u32 112 (wordsL z k ++ List.replicate (16 - k) 0))
  (fun i _ => 16 - (intOf i).toNat)
 case atStart =>
  have hn := Holds.new (w.alloc (.cells (row .u32 (List.replicate 16 0)) 112)) .u32 112 (List.replicate 16 0)
  rw [World.size_alloc] at hn
  exact ⟨0, by omega, rfl, ((Below.refl _ _).alloc (Nat.le_refl _) _).alloc (by simp) _, by simp, (Holds.new w .u32 112 (List.replicate 16 0)).alloc _, hn⟩
 case round =>
  obtain ⟨k, hk, rfl, hB, hsz, h0, h1⟩ := hrel
  by_cases hlt : k < 16
  · have c : ∀ j, j < 64 → wr.cell? ⟨b, off + j, none⟩ = some (.int .u8 (z[j]?.getD 0)) := fun j hj => (hB.cell (p := ⟨b, off + j, none⟩) hb).trans (hcell j hj)
    have c0 := c (4 * k) (by omega)
    have c1 := c (4 * k + 1) (by omega)
    have c2 := c (4 * k + 2) (by omega)
    have c3 := c (4 * k + 3) (by omega)
    have hw := word_any b (off + k * 4) 4 (z[4 * k]?.getD 0) (z[4 * k + 1]?.getD 0) (z[4 * k + 2]?.getD 0) (z[4 * k + 3]?.getD 0) wr (by rw [← c0]; congr 2; omega) (by rw [← c1]; congr 2; omega) (by rw [← c2]; congr 2; omega) (by rw [← c3]; congr 2; omega)
    have hcc := h1.cell k (by rw [List.length_append, wordsL_length, List.length_replicate]; omega)
    have hff := h1.frozen k
    clear c c0 c1 c2 c3 hcell
    go_wp2_with (go_at_call 122; refine hw.mono ?_; rintro e w' ⟨rfl, nd, rfl⟩)
    go_roundw
    case rel =>
     refine ⟨k + 1, by omega, by go_num, (below_drewN hB _).setCell (by simp) _, by simp; omega, (h0.drewN _).setOther _ _ (by simp), ?_⟩
     have := (h1.drewN nd).set k (wdAt z k)
     rw [show 16 - k = (16 - (k + 1)) + 1 by omega] at this
     have e := set_next (wordsL z k) (16 - (k + 1)) (wdAt z k)
     rw [wordsL_length] at e
     rw [e, ← wordsL_succ] at this
     exact this
    case measure => simp [intOf]; omega
  · obtain rfl : k = 16 := by omega
    have h1' : Holds wr (w.heap.size + 1) .u32 112 (wordsL z 16) := by simpa using h1
    clear h1
    go_wp2_with (first | (refine wpList_ld rfl 112 _ rfl _ rfl h1' Tryz.underlying112 size16 (wordsL_length _ _) ?_) | (refine wpList_st rfl 112 _ _ rfl _ rfl rfl h0 (by rw [wordsL_length]; exact size16) (by simp [wordsL_length]) ?_))
    refine bodyPost_ret (results_holds (Tryz.results120) _ rfl (h0.setRow _) Tryz.underlying112 size16 (wordsL_length _ _)) rfl ⟨rfl, ?_⟩
    exact below_setRow hB (Nat.le_refl _) _
theorem size1u32 : (Tryz.prog.info? 31).map (·.size) = some 1 := by kernel_rfl
theorem forget {p : World → Prop} {W : World} (I : World → Prop) (hI : I W) (h : ∀ W0, I W0 → p W0) : p W := h W hI
theorem spread_any (f : List Int) (w : World) (hf : f.length = 16) :
    Calls Tryz.prog 119 #[.agg (row .u32 f)] w fun e w' => e = .returned (.agg (row .u32 (sched f 48))) ∧ Below w.heap.size w w' := by
 go_enter Tryz.func119, Tryz.ntmps119
 go_wp2
 refine forget (p := fun x => Code.wp _ _ _ _ x) (fun W0 => Below w.heap.size w W0 ∧ W0.heap.size = w.heap.size + 3 ∧ Holds W0 w.heap.size .u32 112 f ∧ Holds W0 (w.heap.size + 1) .u32 172 (List.replicate 64 0) ∧ Holds W0 (w.heap.size + 1 + 1) .u32 172 (List.replicate 64 0)) ⟨(((Below.refl _ _).alloc (Nat.le_refl _) _).alloc (by simp) _).alloc (by simp; omega) _, by simp, ?_, ?_, ?_⟩ ?_
 · exact ((Holds.new w .u32 112 f).alloc _).alloc _
 · have hn := Holds.new (w.alloc (.cells (row .u32 f) 112)) .u32 172 (List.replicate 64 0)
   rw [World.size_alloc] at hn
   exact hn.alloc _
 · have hn := Holds.new ((w.alloc (.cells (row .u32 f) 112)).alloc (.cells (row .u32 (List.replicate 64 0)) 172)) .u32 172 (List.replicate 64 0)
   rw [World.size_alloc, World.size_alloc] at hn
   exact hn
 rintro W0 ⟨hB, hsz, h0, h1, h2⟩
 have hcp : ∀ wx : World, wx.heap = W0.heap → (Builtin.copy_ #[150, 150] 3 #[.slice (some ⟨w.heap.size + 1 + 1, 0, none⟩) 64 64, .slice (some ⟨w.heap.size, 0, none⟩) 16 16]).run Tryz.prog wx =
     .ok (.int .i64 16) (wx.setRow (w.heap.size + 1 + 1) (row .u32 (f ++ List.replicate 48 0))) := fun wx hx => by
  have hg : wx.heap[w.heap.size + 1 + 1]? = some (.cells (row .u32 (List.replicate 64 0)) 172 (0, 0)) := by rw [hx]; exact h2
  have hs : wx.heap[w.heap.size]? = some (.cells (row .u32 f) 112 (0, 0)) := by rw [hx]; exact h0
  have := run_copy_row (P := Tryz.prog) wx 150 150 3 31 (w.heap.size + 1 + 1) 0 64 64 ⟨w.heap.size, 0, none⟩ 16 16 _ 172 (row .u32 f).toList Tryz.underlying150 size1u32 hg
   (by simp [row, hf]) (fun j v hv => by
    have : (⟨w.heap.size, 0, none⟩ : Addr).add j = ⟨w.heap.size, j, none⟩ := by unfold Addr.add; split <;> simp_all
    rw [this, cell_of_row wx _ j _ _ _ hs]; simpa using hv) (by simp [row, hf]) (fun v hv => (Array.all_eq_true_iff_forall_mem.1 (row_one .u32 f)) v (by simpa using hv))
  rw [this]
  have e : (List.take 0 (row .u32 (List.replicate 64 0)).toList ++ (row .u32 f).toList ++ List.drop (0 + (row .u32 f).toList.length) (row .u32 (List.replicate 64 0)).toList).toArray = row .u32 (f ++ List.replicate 48 0) := by
   simp [row, hf]
  rw [e]
  have e2 : (row .u32 f).toList.length = 16 := by simp [row, hf]
  rw [e2]; rfl
 have hcp1 := hcp W0.drew rfl
 clear hcp
 go_region
 go_wp2
 refine forget (p := fun x => Code.wp _ _ _ _ x) (fun W1 => Below w.heap.size w W1 ∧ W1.heap.size = w.heap.size + 3 ∧ Holds W1 (w.heap.size + 1) .u32 172 (List.replicate 64 0) ∧ Holds W1 (w.heap.size + 1 + 1) .u32 172 (f ++ List.replicate 48 0)) ⟨below_setRow hB.drew (by omega) _, by simp [hsz], ?_, ?_⟩ ?_
 · exact (show Holds W0.drew _ _ _ _ from h1).setRowOther _ (by omega)
 · exact (show Holds W0.drew _ _ _ _ from h2).setRow _
 clear hcp1 h0 h1 h2 hB hsz
 rintro W1 ⟨hB, hsz, h1, h2⟩
 go_loopw [4] (fun i wr => ∃ m : Nat, m ≤ 48 ∧ i = .int .i64 ((16 + m : Nat) : Int) ∧ Below w.heap.size w wr ∧ wr.heap.size = w.heap.size + 3
     ∧ Holds wr (w.heap.size + 1) .u32 172 (List.replicate 64 0)
     ∧ Holds wr (w.heap.size + 1 + 1) .u32 172 (sched f m ++ List.replicate (48 - m) 0))
  (fun i _ => 64 - (intOf i).toNat)
 case atStart => exact ⟨0, by omega, rfl, hB, hsz, h1, h2⟩
 case round =>
  clear hB hsz h1 h2 W1
  obtain ⟨m, hm, rfl, hB, hsz, h1, h2⟩ := hrel
  by_cases hlt : m < 48
  · have hln : (sched f m ++ List.replicate (48 - m) 0).length = 64 := by rw [List.length_append, sched_length, hf, List.length_replicate]; omega
    have ix : ∀ j, j < 16 + m → (sched f m ++ List.replicate (48 - m) 0)[j]?.getD 0 = (sched f m)[j]?.getD 0 := fun j hj => by rw [List.getElem?_append_left (by rw [sched_length, hf]; omega)]
    have c2 := h2.cell (16 + m - 2) (by omega)
    have c7 := h2.cell (16 + m - 7) (by omega)
    have c15 := h2.cell (16 + m - 15) (by omega)
    have c16 := h2.cell (16 + m - 16) (by omega)
    rw [ix _ (by omega)] at c2 c7 c15 c16
    have cc := h2.cell (16 + m) (by omega)
    have cf := h2.frozen (16 + m)
    clear ix hln
    obtain ⟨k, hk⟩ : ∃ k, 16 + m = k := ⟨_, rfl⟩
    have hk1 : 16 ≤ k := by omega
    have hk2 : k < 64 := by omega
    have HK : Hid (16 + m = k) := hk
    rw [hk] at c2 c7 c15 c16 cc cf ⊢
    clear hk
    go_wp2
    go_quiet ((fail))
    go_wp2_with (go_at_call 121; refine (right_any _ _ _ (by unfold rotN; omega)).mono ?_; rintro e w' ⟨rfl, rfl⟩)
    go_region
    all_goals go_wp2
    all_goals go_roundw
    case rel =>
     refine ⟨m + 1, by omega, ?_, ?_, ?_, ?_, ?_⟩
     · have := HK.out; subst this; go_num
     · exact (below_drewN hB _).setCell (by simp; omega) _
     · simp [hsz]
     · exact (h1.drewN _).setOther _ _ (by simp)
     · have hk := HK.out
       subst hk
       have := (h2.drewN (nq + 1)).set (16 + m) (swdAt (sched f m) (16 + m))
       rw [show 48 - m = (48 - (m + 1)) + 1 by omega] at this
       have e := set_next (sched f m) (48 - (m + 1)) (swdAt (sched f m) (16 + m))
       rw [sched_length, hf] at e
       rw [e] at this
       have e2 : sched f (m + 1) = sched f m ++ [swdAt (sched f m) (16 + m)] := by rw [sched, swd, sched_length, hf]
       rw [e2]
       exact this
    case measure => have := HK.out; simp [intOf]; omega
  · obtain rfl : m = 48 := by omega
    have hl : (sched f 48).length = 64 := by rw [sched_length, hf]
    have h2' : Holds wr (w.heap.size + 1 + 1) .u32 172 (sched f 48) := by simpa using h2
    clear h2
    go_wp2_with (first | (refine wpList_ld rfl 172 _ rfl _ rfl h2' Tryz.underlying172 size64 hl ?_) | (refine wpList_st rfl 172 _ _ rfl _ rfl rfl h1 (by rw [hl]; exact size64) (by simp [hl]) ?_))
    refine bodyPost_ret (results_holds (Tryz.results119) _ rfl (h1.setRow _) Tryz.underlying172 size64 hl) rfl ⟨rfl, ?_⟩
    exact below_setRow hB (by omega) _
end Go.Proofs.YtflkhkmejnpapaaGreatDoor.S
