/- Events, as bytes and back; an event that came in; two that are the same. The plain arithmetic of SHA-256 in the forms in which the walks meet it: rotations, the words of a block, their spread, the rounds, a step; nothing of the dump. The leaves of SHA-256 as the program and the reference have them: rotations, four bytes as a word, the table's words, the words at the start. -/
import Derived.Test.YtfainlfiphdaeaaGreatDoorMRd5Re4Re5
import Derived.Test.YtfainlfiphdaeaaGreatDoorMFdGoFGoW
import Derived.Laws.Entries
import Derived.Test.YtfainlfiphdaeaaGreatDoorProg
import Derived.WalkKit
import Derived.WalkSpells
import Derived.WalkLawsBesides
import Derived.Deep.QuietTactic
import Derived.BigQuiet
namespace Go.Proofs.YtfainlfiphdaeaaGreatDoor
open Go.ChangeShapes Go.WideShapes Go.ChangeAt Go.RowKit
set_option maxRecDepth 20000
set_option linter.unusedSimpArgs false

structure Ev.In (e : Ev) : Prop where
  da : in8 e.da
  ds : in32 e.ds
  plen : e.past.length = 8
  past : ∀ x ∈ e.past, in32 x
  kind : in8 e.kind
  pa : in8 e.pa
  ps : in32 e.ps
  char : in8 e.char
  who : in8 e.who
  role : in8 e.role
theorem val4_back (n : Int) (h : in32 n) : val4 (n / 16777216 % 256) (n / 65536 % 256) (n / 256 % 256) (n % 256) = n := by
  have h1 := h.1
  have h2 := h.2
  unfold val4; omega
theorem be4_val (a b c d : Int) (ha : b8 a) (hb : b8 b) (hc : b8 c) (hd : b8 d) : be4 (val4 a b c d) = [a, b, c, d] := by
  have h1 := ha.1; have h2 := ha.2; have h3 := hb.1; have h4 := hb.2; have h5 := hc.1; have h6 := hc.2; have h7 := hd.1; have h8 := hd.2
  unfold be4 val4
  congr 1
  · omega
  congr 1
  · omega
  congr 1
  · omega
  congr 1
  omega
theorem list8 (l : List Int) (h : l.length = 8) : ∃ p0 p1 p2 p3 p4 p5 p6 p7, l = [p0, p1, p2, p3, p4, p5, p6, p7] := by
  match l, h with
  | [a, b, c, d, e, f, g, i], _ => exact ⟨a, b, c, d, e, f, g, i, rfl⟩
theorem event_back (e : Ev) (h : e.In) : evAll (eventL e) ∧ evOf (eventL e) = e := by
  obtain ⟨da, ds, past, kind, pa, ps, right, char, who, role⟩ := e
  obtain ⟨p0, p1, p2, p3, p4, p5, p6, p7, rfl⟩ := list8 past h.plen
  have hp := h.past
  have hds := val4_back ds h.ds
  have hps := val4_back ps h.ps
  have h0 := val4_back p0 (hp p0 (by simp))
  have h1 := val4_back p1 (hp p1 (by simp))
  have h2 := val4_back p2 (hp p2 (by simp))
  have h3 := val4_back p3 (hp p3 (by simp))
  have h4 := val4_back p4 (hp p4 (by simp))
  have h5 := val4_back p5 (hp p5 (by simp))
  have h6 := val4_back p6 (hp p6 (by simp))
  have h7 := val4_back p7 (hp p7 (by simp))
  have ht : (truthB right == 1) = right := by cases right <;> rfl
  constructor
  · refine ⟨rfl, ?_, fun j hj => ?_⟩
    · show truthB right ≤ 1
      cases right <;> decide
    · have hic : j = 0 ∨ j = 1 ∨ j = 2 ∨ j = 3 ∨ j = 4 ∨ j = 5 ∨ j = 6 ∨ j = 7 ∨ j = 8 ∨ j = 9 ∨ j = 10 := by omega
      rcases hic with rfl | rfl | rfl | rfl | rfl | rfl | rfl | rfl | rfl | rfl | rfl <;> rfl
  · show (⟨da, val4 (ds / 16777216 % 256) (ds / 65536 % 256) (ds / 256 % 256) (ds % 256), [val4 (p0 / 16777216 % 256) (p0 / 65536 % 256) (p0 / 256 % 256) (p0 % 256), val4 (p1 / 16777216 % 256) (p1 / 65536 % 256) (p1 / 256 % 256) (p1 % 256), val4 (p2 / 16777216 % 256) (p2 / 65536 % 256) (p2 / 256 % 256) (p2 % 256), val4 (p3 / 16777216 % 256) (p3 / 65536 % 256) (p3 / 256 % 256) (p3 % 256), val4 (p4 / 16777216 % 256) (p4 / 65536 % 256) (p4 / 256 % 256) (p4 % 256), val4 (p5 / 16777216 % 256) (p5 / 65536 % 256) (p5 / 256 % 256) (p5 % 256), val4 (p6 / 16777216 % 256) (p6 / 65536 % 256) (p6 / 256 % 256) (p6 % 256), val4 (p7 / 16777216 % 256) (p7 / 65536 % 256) (p7 / 256 % 256) (p7 % 256)], kind, pa, val4 (ps / 16777216 % 256) (ps / 65536 % 256) (ps / 256 % 256) (ps % 256), truthB right == 1, char, who, role⟩ : Ev) = _
    rw [hds, hps, h0, h1, h2, h3, h4, h5, h6, h7, ht]
theorem seg1 (z : List Int) (o : Nat) (h : o < z.length) : [at1 z o] = (z.drop o).take 1 := by
  rw [List.drop_eq_getElem_cons h, List.take_succ_cons, List.take_zero]
  unfold at1
  rw [List.getElem?_eq_getElem h]; rfl
theorem seg4 (z : List Int) (hz : ∀ v ∈ z, b8 v) (o : Nat) (h : o + 4 ≤ z.length) : be4 (at4 z o) = (z.drop o).take 4 := by
  have g : ∀ j, b8 (at1 z j) := fun j => b8_get hz j
  unfold at4
  rw [be4_val _ _ _ _ (g _) (g _) (g _) (g _)]
  have s1 := seg1 z o (by omega)
  have s2 := seg1 z (o + 1) (by omega)
  have s3 := seg1 z (o + 2) (by omega)
  have s4 := seg1 z (o + 3) (by omega)
  rw [show ([at1 z o, at1 z (o + 1), at1 z (o + 2), at1 z (o + 3)] : List Int) = [at1 z o] ++ [at1 z (o + 1)] ++ [at1 z (o + 2)] ++ [at1 z (o + 3)] from rfl, s1, s2, s3, s4]
  have q : ∀ a n : Nat, (z.drop o).take a ++ (z.drop (o + a)).take n = (z.drop o).take (a + n) := fun a n => by rw [← List.drop_drop, List.take_add]
  rw [q 1 1, q 2 1, q 3 1]
set_option maxHeartbeats 800000 in
theorem event_forth (z : List Int) (hz : ∀ v ∈ z, b8 v) (h : evAll z) : eventL (evOf z) = z := by
  obtain ⟨h1, h2, h3⟩ := h
  have g43 := (b8_get hz 43).1
  have ht : truthB (at1 z 43 == 1) = at1 z 43 := by
    have g1 : 0 ≤ at1 z 43 := g43
    have hc : at1 z 43 = 0 ∨ at1 z 43 = 1 := by omega
    rcases hc with hc | hc <;> rw [hc] <;> rfl
  have hp : pastL (pastZ z) = be4 (at4 z 5) ++ (be4 (at4 z 9) ++ (be4 (at4 z 13) ++ (be4 (at4 z 17) ++ (be4 (at4 z 21) ++ (be4 (at4 z 25) ++ (be4 (at4 z 29) ++ (be4 (at4 z 33) ++ []))))))) := rfl
  have hE : eventL (evOf z) = ([at1 z 0] ++ be4 (at4 z 1)) ++ pastL (pastZ z) ++ [at1 z 37] ++ ([at1 z 38] ++ be4 (at4 z 39)) ++ [truthB (at1 z 43 == 1)] ++ ([at1 z 44] ++ [at1 z 45] ++ [at1 z 46]) ++ List.replicate 11 0 := rfl
  have hzr : List.replicate 11 0 = (z.drop 47).take 11 := by
    apply List.ext_getElem?
    intro i
    by_cases hi : i < 11
    · rw [List.getElem?_replicate_of_lt hi, List.getElem?_take_of_lt hi, List.getElem?_drop, List.getElem?_eq_getElem (by omega)]
      have := h3 i hi
      unfold at1 at this
      rw [List.getElem?_eq_getElem (by omega)] at this
      exact congrArg some this.symm
    · rw [List.getElem?_eq_none (by simp; omega), List.getElem?_eq_none (by rw [List.length_take]; omega)]
  rw [hE, hp, ht, hzr, seg1 z 0 (by omega), seg1 z 37 (by omega), seg1 z 38 (by omega), seg1 z 43 (by omega), seg1 z 44 (by omega), seg1 z 45 (by omega), seg1 z 46 (by omega), seg4 z hz 1 (by omega), seg4 z hz 5 (by omega), seg4 z hz 9 (by omega), seg4 z hz 13 (by omega), seg4 z hz 17 (by omega), seg4 z hz 21 (by omega), seg4 z hz 25 (by omega), seg4 z hz 29 (by omega), seg4 z hz 33 (by omega), seg4 z hz 39 (by omega)]
  have s : ∀ a n m : Nat, a + n = m → z.take a ++ (z.drop a).take n = z.take m := fun a n m h => by rw [← h, List.take_add]
  simp only [List.append_nil, ← List.append_assoc]
  rw [List.drop_zero, s 1 4 5 rfl, s 5 4 9 rfl, s 9 4 13 rfl, s 13 4 17 rfl, s 17 4 21 rfl, s 21 4 25 rfl, s 25 4 29 rfl, s 29 4 33 rfl, s 33 4 37 rfl, s 37 1 38 rfl, s 38 1 39 rfl, s 39 4 43 rfl, s 43 1 44 rfl, s 44 1 45 rfl, s 45 1 46 rfl, s 46 1 47 rfl, s 47 11 58 rfl, List.take_of_length_le (by omega)]
theorem event_in (e : Ev) (h : e.In) : ∀ v ∈ eventL e, b8 v := by
  have q4 : ∀ n : Int, ∀ v ∈ be4 n, b8 v := fun n v hv => by
    unfold be4 at hv
    simp only [List.mem_cons, List.not_mem_nil, or_false] at hv
    rcases hv with rfl | rfl | rfl | rfl <;> constructor <;> omega
  have qp : ∀ l : List Int, ∀ v ∈ pastL l, b8 v := fun l v hv => by
    unfold pastL at hv
    rw [List.mem_flatten] at hv
    obtain ⟨m, hm, hv⟩ := hv
    obtain ⟨n, _, rfl⟩ := List.mem_map.1 hm
    exact q4 n v hv
  intro v hv
  unfold eventL dotL at hv
  simp only [List.mem_append, List.mem_cons, List.not_mem_nil, or_false, List.mem_replicate] at hv
  rcases hv with (((((((rfl | hv) | hv) | rfl) | (rfl | hv)) | rfl) | (rfl | rfl | rfl)) | ⟨_, rfl⟩)
  · exact h.da
  · exact q4 _ v hv
  · exact qp _ v hv
  · exact h.kind
  · exact h.pa
  · exact q4 _ v hv
  · cases e.right <;> exact ⟨by decide, by decide⟩
  · exact h.char
  · exact h.who
  · exact h.role
  · exact ⟨by decide, by decide⟩
theorem open_event {H : Type} {enc : TypeId × Value → H} {W : World} {r : Reach} {base : Nat} {v : Value} {d : DataW H} {p : List MemPlace} (hv : Value.okWide Tryz.prog W r base 33 v) (h : DataW.Trod enc Tryz.prog W 0 (fun _ => true) true 33 v d p) :
    ∃ E : Ev, v = .agg E.cells.toArray ∧ E.In := by
  simp only [Value.okWide, Tryz.underlying33] at hv
  obtain ⟨cs, rfl, hsz, _⟩ := hv
  obtain ⟨fuel, hf⟩ := h
  obtain ⟨xs, m, _, _, hl, hlen, hfd⟩ := DataW.trod_struct Tryz.underlying33 hf
  simp only [Value.cells] at hfd hl
  obtain ⟨l⟩ := cs
  simp only at hfd hl
  have hc : Tryz.prog.cellsOf 33 = 17 := by kernel_rfl
  have h8 : Tryz.prog.cellsOf 5 = 1 := by kernel_rfl
  have hk1 : Tryz.prog.cellsOf 30 = 1 := by kernel_rfl
  have hr1 : Tryz.prog.cellsOf 31 = 1 := by kernel_rfl
  have hb1 : Tryz.prog.cellsOf 4 = 1 := by kernel_rfl
  have hd : Tryz.prog.cellsOf 26 = 2 := by kernel_rfl
  have hp : Tryz.prog.cellsOf 29 = 8 := by kernel_rfl
  rw [hc] at hl
  have g0 : DataW.trod enc Tryz.prog W 0 (fun _ => true) true m 26 (List.take (Tryz.prog.cellsOf 26) (List.drop 0 l)) = xs[0]? := hfd 0 _ rfl
  have g1 : DataW.trod enc Tryz.prog W 0 (fun _ => true) true m 29 (List.take (Tryz.prog.cellsOf 29) (List.drop 2 l)) = xs[1]? := hfd 1 _ rfl
  have g2 : DataW.trod enc Tryz.prog W 0 (fun _ => true) true m 30 (List.take (Tryz.prog.cellsOf 30) (List.drop 10 l)) = xs[2]? := hfd 2 _ rfl
  have g3 : DataW.trod enc Tryz.prog W 0 (fun _ => true) true m 26 (List.take (Tryz.prog.cellsOf 26) (List.drop 11 l)) = xs[3]? := hfd 3 _ rfl
  have g4 : DataW.trod enc Tryz.prog W 0 (fun _ => true) true m 4 (List.take (Tryz.prog.cellsOf 4) (List.drop 13 l)) = xs[4]? := hfd 4 _ rfl
  have g5 : DataW.trod enc Tryz.prog W 0 (fun _ => true) true m 5 (List.take (Tryz.prog.cellsOf 5) (List.drop 14 l)) = xs[5]? := hfd 5 _ rfl
  have g6 : DataW.trod enc Tryz.prog W 0 (fun _ => true) true m 5 (List.take (Tryz.prog.cellsOf 5) (List.drop 15 l)) = xs[6]? := hfd 6 _ rfl
  have g7 : DataW.trod enc Tryz.prog W 0 (fun _ => true) true m 31 (List.take (Tryz.prog.cellsOf 31) (List.drop 16 l)) = xs[7]? := hfd 7 _ rfl
  simp only [List.size_toArray, List.length_cons, List.length_nil, Nat.reduceAdd] at hlen
  rw [hd, List.getElem?_eq_getElem (by omega)] at g0 g3
  rw [hp, List.getElem?_eq_getElem (by omega)] at g1
  rw [hk1, List.getElem?_eq_getElem (by omega)] at g2
  rw [hb1, List.getElem?_eq_getElem (by omega)] at g4
  rw [h8, List.getElem?_eq_getElem (by omega)] at g5 g6
  rw [hr1, List.getElem?_eq_getElem (by omega)] at g7
  obtain ⟨da, dsq, ed, wd⟩ := dot_of_trod g0
  obtain ⟨pv, hpv, ep, wp⟩ := row_of_trod5 Tryz.underlying29 Tryz.underlying24 (by kernel_rfl) (by simp [hl]) g1
  obtain ⟨k, ek, _, wk⟩ := DataW.trod_int Tryz.underlying30 g2
  obtain ⟨pa, psq, ea, wa⟩ := dot_of_trod g3
  obtain ⟨b, eb, _⟩ := DataW.trod_bool Tryz.underlying4 g4
  obtain ⟨c, ec, _, wc⟩ := DataW.trod_int Tryz.underlying5 g5
  obtain ⟨o, eo, _, wo⟩ := DataW.trod_int Tryz.underlying5 g6
  obtain ⟨ro, er, _, wr⟩ := DataW.trod_int Tryz.underlying31 g7
  refine ⟨⟨da, dsq, pv, k, pa, psq, b, c, o, ro⟩, ?_, ⟨wd.1, wd.2, hpv, fun x hx => bounds_u32 (wp x hx), bounds_u8 wk, wa.1, wa.2, bounds_u8 wc, bounds_u8 wo, bounds_u8 wr⟩⟩
  congr 2
  show l = dotC da dsq ++ pv.map (Value.int .u32) ++ ([.int .u8 k] ++ dotC pa psq ++ [.bool b, .int .u8 c, .int .u8 o, .int .u8 ro])
  have e4 : ([.bool b, .int .u8 c, .int .u8 o, .int .u8 ro] : List Value) = [.bool b] ++ [.int .u8 c] ++ [.int .u8 o] ++ [.int .u8 ro] := rfl
  rw [e4, ← ed, ← ep, ← ek, ← ea, ← eb, ← ec, ← eo, ← er, List.drop_zero]
  have s : ∀ a n m : Nat, a + n = m → l.take a ++ (l.drop a).take n = l.take m := fun a n m h => by rw [← h, List.take_add]
  simp only [← List.append_assoc]
  rw [s 2 8 10 rfl, s 10 1 11 rfl, s 11 2 13 rfl, s 13 1 14 rfl, s 14 1 15 rfl, s 15 1 16 rfl, s 16 1 17 rfl, List.take_of_length_le (by omega)]
end Go.Proofs.YtfainlfiphdaeaaGreatDoor

namespace Go.Proofs.YtfainlfiphdaeaaGreatDoor.S
open Go

/-- A row of numbers of one kind, as cells. -/
def row (k : IntKind) (l : List Int) : Array Value := (l.map (Value.int k)).toArray

theorem row_size (k : IntKind) (l : List Int) : (row k l).size = l.length := by simp [row]
theorem row_get? (k : IntKind) (l : List Int) (i : Nat) : (row k l)[i]? = l[i]?.map (Value.int k) := by simp [row]
theorem row_get (k : IntKind) (l : List Int) (i : Nat) (h : i < l.length) : (row k l)[i]? = some (Value.int k (l[i]?.getD 0)) := by
  rw [row_get?, List.getElem?_eq_getElem h]; rfl
theorem row_set (k : IntKind) (l : List Int) (i : Nat) (v : Int) : (row k l).setIfInBounds i (Value.int k v) = row k (l.set i v) := by
  simp [row, List.map_set]
theorem row_one (k : IntKind) (l : List Int) : (row k l).all (·.oneCell') = true := by
  simp [row, Value.oneCell']

theorem bits_or_comm (k : IntKind) (x y : Int) : bits .or k x y = bits .or k y x := by
  simp only [bits]; rw [BitVec.or_comm]

/-- A number of 32 bits turned right by n. -/
def rr (n : Int) (x : Int) : Int := bits .or .u32 (x / 2 ^ n.toNat) (x * 2 ^ (32 - n.toNat) % 4294967296)

/-- Four bytes as a word, the highest first. -/
def wd (a b c d : Int) : Int :=
  bits .or .u32 (bits .or .u32 (bits .or .u32 (a % 4294967296 * 16777216 % 4294967296) (b % 4294967296 * 65536 % 4294967296)) (c % 4294967296 * 256 % 4294967296)) (d % 4294967296)

/-- A block's word number i. -/
def wdAt (z : List Int) (i : Nat) : Int := wd (z[4 * i]?.getD 0) (z[4 * i + 1]?.getD 0) (z[4 * i + 2]?.getD 0) (z[4 * i + 3]?.getD 0)

/-- The first k words of a block. -/
def wordsL (z : List Int) (k : Nat) : List Int := (List.range k).map (wdAt z)
theorem wordsL_length (z : List Int) (k : Nat) : (wordsL z k).length = k := by simp [wordsL]
theorem wordsL_succ (z : List Int) (k : Nat) : wordsL z (k + 1) = wordsL z k ++ [wdAt z k] := by simp [wordsL, List.range_succ]

def near (x : Int) : Int := bits .xor .u32 (bits .xor .u32 (rr 17 x) (rr 19 x)) (x / 1024)
def far (y : Int) : Int := bits .xor .u32 (bits .xor .u32 (rr 7 y) (rr 18 y)) (y / 8)

/-- The next word behind those that are there. -/
def swdAt (ws : List Int) (n : Nat) : Int := (near (ws[n - 2]?.getD 0) + ws[n - 7]?.getD 0 + far (ws[n - 15]?.getD 0) + ws[n - 16]?.getD 0) % 4294967296
def swd (ws : List Int) : Int := swdAt ws ws.length

/-- A block's words, and n more. -/
def sched (first : List Int) : Nat → List Int
  | 0 => first
  | n + 1 => sched first n ++ [swd (sched first n)]
theorem sched_length (first : List Int) (n : Nat) : (sched first n).length = first.length + n := by
  induction n with
  | zero => rfl
  | succ n ih => simp only [sched, List.length_append, ih, List.length_cons, List.length_nil]; omega

/-- The words K. -/
def kTab : List Int := [1116352408, 1899447441, 3049323471, 3921009573, 961987163, 1508970993, 2453635748, 2870763221, 3624381080, 310598401, 607225278, 1426881987, 1925078388, 2162078206, 2614888103, 3248222580, 3835390401, 4022224774, 264347078, 604807628, 770255983, 1249150122, 1555081692, 1996064986, 2554220882, 2821834349, 2952996808, 3210313671, 3336571891, 3584528711, 113926993, 338241895, 666307205, 773529912, 1294757372, 1396182291, 1695183700, 1986661051, 2177026350, 2456956037, 2730485921, 2820302411, 3259730800, 3345764771, 3516065817, 3600352804, 4094571909, 275423344, 430227734, 506948616, 659060556, 883997877, 958139571, 1322822218, 1537002063, 1747873779, 1955562222, 2024104815, 2227730452, 2361852424, 2428436474, 2756734187, 3204031479, 3329325298]

def sig1 (e : Int) : Int := bits .xor .u32 (bits .xor .u32 (rr 6 e) (rr 11 e)) (rr 25 e)
def sig0 (a : Int) : Int := bits .xor .u32 (bits .xor .u32 (rr 2 a) (rr 13 a)) (rr 22 a)
def chs (e f g : Int) : Int := bits .xor .u32 (bits .and .u32 e f) (bits .and .u32 (4294967295 - e) g)
def maj (a b c : Int) : Int := bits .xor .u32 (bits .xor .u32 (bits .and .u32 a b) (bits .and .u32 a c)) (bits .and .u32 b c)

/-- One round. -/
def rnd (kw w : Int) : List Int → List Int
  | [a, b, c, d, e, f, g, h] => [(h + sig1 e + chs e f g + kw + w + (sig0 a + maj a b c)) % 4294967296, a, b, c, (d + (h + sig1 e + chs e f g + kw + w)) % 4294967296, e, f, g]
  | l => l
theorem rnd_of {K W a b c d e f g h p q : Int} (hp : p = (h + sig1 e + chs e f g + K + W + (sig0 a + maj a b c)) % 4294967296) (hq : q = (d + (h + sig1 e + chs e f g + K + W)) % 4294967296) :
    rnd K W [a, b, c, d, e, f, g, h] = [p, a, b, c, q, e, f, g] := by rw [hp, hq]; rfl
theorem not_u32 (e : Int) (h0 : 0 ≤ e) (h1 : e ≤ 4294967295) : bits .xor .u32 (if IntKind.u32.signed = true then -1 else IntKind.u32.max) e = 4294967295 - e := by
  show IntKind.u32.wrap ((BitVec.ofInt 32 4294967295 ^^^ BitVec.ofInt 32 e).toNat : Int) = _
  have h : BitVec.ofInt 32 4294967295 = BitVec.allOnes 32 := by decide
  rw [h, BitVec.allOnes_xor, BitVec.toNat_not, BitVec.toNat_ofInt]
  simp [IntKind.wrap, IntKind.bits, IntKind.signed]
  omega
/-- The words behind n rounds. -/
def rounds (ws : List Int) (s : List Int) : Nat → List Int
  | 0 => s
  | n + 1 => rnd (kTab[n]?.getD 0) (ws[n]?.getD 0) (rounds ws s n)
theorem rnd_length (kw w : Int) (s : List Int) (h : s.length = 8) : (rnd kw w s).length = 8 := by
  match s, h with
  | [a, b, c, d, e, f, g, i], _ => rfl
theorem rounds_length (ws s : List Int) (n : Nat) (h : s.length = 8) : (rounds ws s n).length = 8 := by
  induction n with
  | zero => exact h
  | succ n ih => exact rnd_length _ _ _ ih

/-- Numbers of 32 bits. -/
def InU (s : List Int) : Prop := ∀ x ∈ s, 0 ≤ x ∧ x ≤ 4294967295
theorem rnd_in (kw w : Int) (s : List Int) (h : s.length = 8) (hs : InU s) : InU (rnd kw w s) := by
  match s, h with
  | [a, b, c, d, e, f, g, i], _ =>
    intro x hx
    simp only [rnd, List.mem_cons, List.not_mem_nil, or_false] at hx
    rcases hx with rfl | rfl | rfl | rfl | rfl | rfl | rfl | rfl
    · omega
    · exact hs _ (by simp)
    · exact hs _ (by simp)
    · exact hs _ (by simp)
    · omega
    · exact hs _ (by simp)
    · exact hs _ (by simp)
    · exact hs _ (by simp)
theorem rounds_in (ws s : List Int) (n : Nat) (h : s.length = 8) (hs : InU s) : InU (rounds ws s n) := by
  induction n with
  | zero => exact hs
  | succ n ih => exact rnd_in _ _ _ (rounds_length ws s n h) ih

/-- The words behind a block of 64 bytes. -/
def addL (r s : List Int) : List Int := (List.range 8).map fun i => (r[i]?.getD 0 + s[i]?.getD 0) % 4294967296
/-- The sums as far as place k; behind it the first of the two. -/
def addK (r s : List Int) (k : Nat) : List Int := (List.range 8).map fun i => if i < k then (r[i]?.getD 0 + s[i]?.getD 0) % 4294967296 else r[i]?.getD 0
theorem addK_length (r s : List Int) (k : Nat) : (addK r s k).length = 8 := by simp [addK]
theorem addK_zero (r s : List Int) (h : r.length = 8) : addK r s 0 = r := by
  obtain ⟨a, b, c, d, e, f, g, i, rfl⟩ : ∃ a b c d e f g i, r = [a, b, c, d, e, f, g, i] := by
    match r, h with
    | [a, b, c, d, e, f, g, i], _ => exact ⟨a, b, c, d, e, f, g, i, rfl⟩
  rfl
theorem addK_get (r s : List Int) (k j : Nat) (h : j < 8) : (addK r s k)[j]?.getD 0 = if j < k then (r[j]?.getD 0 + s[j]?.getD 0) % 4294967296 else r[j]?.getD 0 := by
  simp [addK, h]
theorem addK_eight (r s : List Int) : addK r s 8 = addL r s := by
  unfold addK addL
  apply List.map_congr_left
  intro i hi
  rw [if_pos (by simpa using hi)]
theorem addK_set (r s : List Int) (k : Nat) : (addK r s k).set k ((r[k]?.getD 0 + s[k]?.getD 0) % 4294967296) = addK r s (k + 1) := by
  apply List.ext_getElem?
  intro j
  by_cases hj : j < 8
  · by_cases e : j = k
    · subst e; simp [addK, hj]
    · rw [List.getElem?_set_ne (by omega)]
      simp only [addK, List.getElem?_map, List.getElem?_range hj, Option.map_some]
      by_cases h1 : j < k
      · rw [if_pos h1, if_pos (by omega)]
      · rw [if_neg h1, if_neg (by omega)]
  · rw [List.getElem?_eq_none (by rw [List.length_set, addK_length]; omega), List.getElem?_eq_none (by rw [addK_length]; omega)]
def stepL (s z : List Int) : List Int := addL (rounds (sched (wordsL z 16) 48) s 64) s
theorem stepL_length (s z : List Int) : (stepL s z).length = 8 := by simp [stepL, addL]

theorem stepL_in (s z : List Int) : InU (stepL s z) := by
  intro x hx
  simp only [stepL, addL, List.mem_map] at hx
  obtain ⟨i, _, rfl⟩ := hx
  omega

def startL : List Int := [1779033703, 3144134277, 1013904242, 2773480762, 1359893119, 2600822924, 528734635, 1541459225]

/-- A word's four bytes, the highest first. -/
def bytes4 (v : Int) : List Int := [v / 16777216 % 256, v / 65536 % 256, v / 256 % 256, v % 256]
/-- The bytes of the first k words. -/
def joinK (s : List Int) : Nat → List Int
  | 0 => []
  | k + 1 => joinK s k ++ bytes4 (s[k]?.getD 0)
theorem joinK_length (s : List Int) (k : Nat) : (joinK s k).length = 4 * k := by
  induction k with
  | zero => rfl
  | succ k ih => simp only [joinK, bytes4, List.length_append, ih, List.length_cons, List.length_nil]; omega
def joinL (s : List Int) : List Int := joinK s 8
theorem joinL_length (s : List Int) : (joinL s).length = 32 := joinK_length s 8
theorem set_next (l : List Int) (m : Nat) (v : Int) : (l ++ List.replicate (m + 1) 0).set l.length v = (l ++ [v]) ++ List.replicate m 0 := by
  rw [List.set_append_right _ _ (Nat.le_refl _)]; simp [List.replicate_succ]
theorem set_four (l : List Int) (m n : Nat) (a b c d : Int) (h : l.length = n) : ((((l ++ List.replicate (m + 4) 0).set n a).set (n + 1) b).set (n + 2) c).set (n + 3) d = l ++ [a, b, c, d] ++ List.replicate m 0 := by
  subst h
  rw [set_next l (m + 3) a]
  have e1 := set_next (l ++ [a]) (m + 2) b
  have e2 := set_next (l ++ [a] ++ [b]) (m + 1) c
  have e3 := set_next (l ++ [a] ++ [b] ++ [c]) m d
  simp only [List.length_append, List.length_cons, List.length_nil] at e1 e2 e3
  rw [show l.length + 1 = l.length + (0 + 1) by omega, e1, show l.length + 2 = l.length + (0 + 1) + (0 + 1) by omega, e2, show l.length + 3 = l.length + (0 + 1) + (0 + 1) + (0 + 1) by omega, e3]
  simp

/-- A list of eight, taken apart. -/
theorem eight {l : List Int} (h : l.length = 8) : ∃ a b c d e f g i, l = [a, b, c, d, e, f, g, i] := by
  match l, h with
  | [a, b, c, d, e, f, g, i], _ => exact ⟨a, b, c, d, e, f, g, i, rfl⟩
end Go.Proofs.YtfainlfiphdaeaaGreatDoor.S

namespace Go.Proofs.YtfainlfiphdaeaaGreatDoor.S
open Go.RowKit

theorem ret_u32 {a b : Int} (h : a = b) : Ending.returned (.int .u32 a) = .returned (.int .u32 b) := by rw [h]

def rotN (n : Int) : Prop := n = 2 ∨ n = 6 ∨ n = 7 ∨ n = 11 ∨ n = 13 ∨ n = 17 ∨ n = 18 ∨ n = 19 ∨ n = 22 ∨ n = 25

theorem right_any (x n : Int) (w : World) (hn : rotN n) :
    Calls Tryz.prog 199 #[.int .u32 x, .int .i64 n] w fun e w' => e = .returned (.int .u32 (rr n x)) ∧ w' = w := by
  have h2 : bits BinOp.and IntKind.u64 (IntKind.u64.wrap (-2)) 31 = 30 := by decide
  have h6 : bits BinOp.and IntKind.u64 (IntKind.u64.wrap (-6)) 31 = 26 := by decide
  have h7 : bits BinOp.and IntKind.u64 (IntKind.u64.wrap (-7)) 31 = 25 := by decide
  have h11 : bits BinOp.and IntKind.u64 (IntKind.u64.wrap (-11)) 31 = 21 := by decide
  have h13 : bits BinOp.and IntKind.u64 (IntKind.u64.wrap (-13)) 31 = 19 := by decide
  have h17 : bits BinOp.and IntKind.u64 (IntKind.u64.wrap (-17)) 31 = 15 := by decide
  have h18 : bits BinOp.and IntKind.u64 (IntKind.u64.wrap (-18)) 31 = 14 := by decide
  have h19 : bits BinOp.and IntKind.u64 (IntKind.u64.wrap (-19)) 31 = 13 := by decide
  have h22 : bits BinOp.and IntKind.u64 (IntKind.u64.wrap (-22)) 31 = 10 := by decide
  have h25 : bits BinOp.and IntKind.u64 (IntKind.u64.wrap (-25)) 31 = 7 := by decide
  rcases hn with rfl | rfl | rfl | rfl | rfl | rfl | rfl | rfl | rfl | rfl
  all_goals
    go_enter Tryz.func199, Tryz.ntmps199
    go_wp2
    go_ret
    exact ⟨ret_u32 (by rw [bits_or_comm]; rfl), rfl⟩

theorem word_any (b off cap : Nat) (z0 z1 z2 z3 : Int) (w : World)
    (h0 : w.cell? ⟨b, off, none⟩ = some (.int .u8 z0)) (h1 : w.cell? ⟨b, off + 1, none⟩ = some (.int .u8 z1))
    (h2 : w.cell? ⟨b, off + 2, none⟩ = some (.int .u8 z2)) (h3 : w.cell? ⟨b, off + 3, none⟩ = some (.int .u8 z3)) :
    Calls Tryz.prog 200 #[.slice (some ⟨b, off, none⟩) 4 cap] w fun e w' => e = .returned (.int .u32 (wd z0 z1 z2 z3)) ∧ ∃ n, w' = w.drewN n := by
  go_enter Tryz.func200, Tryz.ntmps200
  go_wp2
  go_quiet ((fail))
  go_wp2
  go_ret
  exact ⟨rfl, _, rfl⟩

theorem start_any (w : World) :
    Calls Tryz.prog 130 #[] w fun e w' => e = .returned (.agg (row .u32 startL)) ∧ Below w.heap.size w w' := by
  go_enter Tryz.func130, Tryz.ntmps130
  go_wp2
  exact bodyPost_ret (v := .agg (row .u32 startL)) (by simp [results, Tryz.results130, go_sem, row, startL]) rfl ⟨rfl, (Below.refl _ _).alloc (Nat.le_refl _) _⟩
end Go.Proofs.YtfainlfiphdaeaaGreatDoor.S
