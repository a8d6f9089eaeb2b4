/- Wb1 Wpad Rd4 Rd5 Re4 Re5 Fd GoF GoW Re6 Pure -/
import Derived.Test.YtlhajphjppjlgaaGreatDoorT03
import Derived.Test.YtlhajphjppjlgaaGreatDoorT04
import Derived.Test.YtlhajphjppjlgaaGreatDoorRows
import Derived.ProofKit
import Derived.OpenShut
import Derived.ChangeOld
import Derived.ChangeSame
import Derived.Deep.DeepHandedRow
import Derived.Test.YtlhajphjppjlgaaGreatDoorCards
import Derived.Test.YtlhajphjppjlgaaGreatDoorTie
import Derived.Lib.LaidTab
import Derived.Laws.Entries
namespace Go.Proofs.YtlhajphjppjlgaaGreatDoor
open Go.RowKit
set_option maxRecDepth 20000
set_option linter.unusedSimpArgs false
def bTab : List Int := [128, 256, 512, 1024, 2048, 4096]
def BTab (w : World) : Prop := w.rangeAt 0 0 (bTab.map (Value.int .i64))
theorem BTab.below {w w' : World} (h : BTab w) (hb : Below w.heap.size w w') : BTab w' := fun j v hv => by
  have := h j v hv
  rw [hb.cell (p := ⟨0, 0 + j, none⟩) (block_lt_of_cell this)]; exact this
def bktL (n : Int) : List Int → Int
  | [] => 0
  | b :: l => if n ≤ b - 2 then b else bktL n l
def bucketN (n : Int) : Int := if n < 0 then 0 else bktL n bTab
theorem bkt_step (n : Int) (j : Nat) (hj : j < 6) : bktL n (bTab.drop j) = if n ≤ bTab[j]?.getD 0 - 2 then bTab[j]?.getD 0 else bktL n (bTab.drop (j + 1)) := by
  have hj' : j < bTab.length := hj
  rw [List.drop_eq_getElem_cons hj', List.getElem?_eq_getElem hj']
  rfl
theorem bTab_in (j : Nat) (hj : j < 6) : 128 ≤ bTab[j]?.getD 0 ∧ bTab[j]?.getD 0 ≤ 4096 := by
  have hic : j = 0 ∨ j = 1 ∨ j = 2 ∨ j = 3 ∨ j = 4 ∨ j = 5 := by omega
  rcases hic with rfl | rfl | rfl | rfl | rfl | rfl <;> decide
theorem size6 : (Tryz.prog.info? 188).map (·.size) = some (bTab.map (Value.int .i64)).length := by kernel_rfl
set_option maxHeartbeats 2000000 in
theorem bucket_any (n : Int) (w : World) (hT : BTab w) :
    Calls Tryz.prog 88 #[.int .i64 n] w fun e w' => e = .returned (.int .i64 (bucketN n)) ∧ w = w' := by
  by_cases hn : n < 0
  · have e0 : bucketN n = 0 := by unfold bucketN; rw [if_pos hn]
    rw [e0]
    clear e0 hT
    go_enter Tryz.func88, Tryz.ntmps88
    go_wp2
    go_ret
    exact ⟨rfl, rfl⟩
  · have e0 : bucketN n = bktL n bTab := by unfold bucketN; rw [if_neg hn]
    rw [e0]
    clear e0
    obtain ⟨R, hR⟩ : ∃ q, bktL n bTab = q := ⟨_, rfl⟩
    have HR : Veil (bktL n (bTab.drop 0) = R) := ⟨hR⟩
    rw [hR]
    clear hR
    go_enter Tryz.func88, Tryz.ntmps88
    go_wp2_with (refine wpList_ldv rfl 188 _ rfl 0 0 rfl (bTab.map (Value.int .i64)) hT Tryz.underlying188 rfl size6 ?_)
    go_loopw [8] (fun q wr => ∃ j : Nat, j ≤ 6 ∧ q = .int .i64 j ∧ Veil (bktL n (bTab.drop j) = R) ∧ wr = w) (fun q _ => 6 - (intOf q).toNat)
    case atStart => exact ⟨0, by omega, rfl, HR, rfl⟩
    case round =>
      clear HR
      obtain ⟨j, hj, rfl, HJ, rfl⟩ := hrel
      by_cases hlt : j < 6
      · have hix : ∀ wx, (Instr.index 188 (.agg (bTab.map (Value.int .i64)).toArray) (.int .i64 (j : Nat))).run Tryz.prog wx = .ok (.int .i64 (bTab[j]?.getD 0)) wx := fun wx => run_index_row wx 188 3 6 .i64 bTab j Tryz.underlying188 Tryz.underlying3 (by kernel_rfl) rfl hlt
        have hst := bkt_step n j hlt
        have hin := bTab_in j hlt
        obtain ⟨B, hB⟩ : ∃ q, bTab[j]?.getD 0 = q := ⟨_, rfl⟩
        rw [hB] at hix hst hin
        have hwB : IntKind.i64.wrap (B - 2) = B - 2 := by rw [IntKind.wrap_i64]; omega
        have hj6 : (j : Int) < 6 := by omega
        by_cases hnb : n ≤ B - 2
        · rw [if_pos hnb] at hst
          have hBR : B = R := by rw [← hst]; exact HJ.out
          subst hBR
          clear hst hB HJ hin
          go_wp2
          go_ret
          exact ⟨rfl, rfl⟩
        · rw [if_neg hnb] at hst
          have HJ2 : Veil (bktL n (bTab.drop (j + 1)) = R) := ⟨by rw [← hst]; exact HJ.out⟩
          clear hst hB HJ
          go_wp2
          go_roundw
          case rel => exact ⟨j + 1, by omega, by go_num, HJ2, trivial⟩
          case measure => simp [intOf]; omega
      · obtain rfl : j = 6 := by omega
        have hR0 : R = 0 := by rw [← HJ.out]; rfl
        subst hR0
        rw [show ((6 : Nat) : Int) = 6 from rfl]
        clear HJ
        go_wp2
        go_ret
        exact ⟨rfl, rfl⟩
end Go.Proofs.YtlhajphjppjlgaaGreatDoor
namespace Go.Proofs.YtlhajphjppjlgaaGreatDoor
open Go.RowKit
set_option maxRecDepth 20000
set_option linter.unusedSimpArgs false
def padL (z : List Int) (s : Nat) : List Int := be2 z.length ++ z ++ List.replicate (s - (z.length + 2)) 0
theorem padL_length (z : List Int) (s : Nat) (h : z.length + 2 ≤ s) : (padL z s).length = s := by
  unfold padL; simp [be2]; omega
set_option maxHeartbeats 4000000 in
theorem Pad_any (x : Option Addr) (len cap : Nat) (z : List Int) (w : World) (hT : BTab w) (hb : Bytes w x len cap z) (s : Nat) (hs : bucketN len = (s : Int)) (hs1 : len + 2 ≤ s) (hs2 : s ≤ 4096) :
    Calls Tryz.prog 57 #[.slice x len cap] w fun e w' => ∃ v, e = .returned (.tuple #[v, .int .i64 0]) ∧ OwnB w' w.heap.size v (padL z s) ∧ Below w.heap.size w w' := by
  have hbk := bucket_any len w hT
  rw [hs] at hbk
  have hs0 : ¬ (s : Int) = 0 := by omega
  have hle := hb.le
  have htop := hb.top
  have HBL : Veil (z.length = len) := ⟨hb.len_eq.symm⟩
  have hbody := fun wx (h : Below w.heap.size w wx) => hb.below h
  have hbx : Box (w.alloc (.cells #[.slice none 0 0] 94)) w.heap.size 94 (.slice none 0 0) := heap_alloc_new _ _
  have hW1 : Wr (w.alloc (.cells #[.slice none 0 0] 94)) w.heap.size w.heap.size [] := ⟨Nat.le_refl _, _, hbx, OwnB.nil _ _⟩
  have hB1 : Below w.heap.size w (w.alloc (.cells #[.slice none 0 0] 94)) := (Below.refl _ _).alloc (Nat.le_refl _) _
  clear hb hs hT hbx
  go_enter Tryz.func57, Tryz.ntmps57
  go_upto_region 5 with (go_at_call 88; refine hbk.mono ?_; rintro e w1 ⟨rfl, rfl⟩)
  refine forget (p := fun y => Code.wp _ _ _ _ y) (fun W1 => Below w.heap.size w W1 ∧ Wr W1 w.heap.size w.heap.size []) ⟨hB1, hW1⟩ ?_
  clear hB1 hW1 hbk
  rintro W1 ⟨hB1, hW1⟩
  have htw := two_any w.heap.size w.heap.size [] len W1 hW1 (by simp)
  rw [List.nil_append] at htw
  go_upto_region 6 with (go_at_call 35; refine htw.mono ?_; rintro e w2 ⟨⟨r2, rfl⟩, hW2, hg2⟩)
  have hB2 : Below w.heap.size w w2 := hB1.trans hg2.below
  have hpt := put_any w.heap.size w.heap.size (be2 len) x len cap z w2 hW2 (hbody w2 hB2) (by simp [be2]; omega)
  clear htw hB1 hW1 hg2
  go_upto_region 7 with (go_at_call 36; refine hpt.mono ?_; rintro e w3 ⟨⟨r3, rfl⟩, hW3, hg3⟩)
  have hB3 : Below w.heap.size w w3 := hB2.trans hg3.below
  have hl3 : (be2 len ++ z).length = len + 2 := by rw [List.length_append, HBL.out]; simp [be2]; omega
  have hzr := wzeros_any w.heap.size w.heap.size (be2 len ++ z) (s - (len + 2)) w3 hW3 (by omega) (by omega)
  obtain ⟨v3, hb3, ho3⟩ := hW3.has
  have c3 := hb3.cell
  obtain ⟨x3, n3, k3, rfl, hn3⟩ := ho3.isSlice
  rw [hl3] at hn3
  subst hn3
  have hwr : IntKind.i64.wrap ((s : Int) - ((len + 2 : Nat) : Int)) = ((s - (len + 2) : Nat) : Int) := by rw [IntKind.wrap_i64]; omega
  obtain ⟨d, hd⟩ : ∃ q, s - (len + 2) = q := ⟨_, rfl⟩
  have HD : Veil (s - (len + 2) = d) := ⟨hd⟩
  rw [hd] at hzr hwr
  obtain ⟨m, hm⟩ : ∃ q, len + 2 = q := ⟨_, rfl⟩
  rw [hm] at hwr c3
  have hm1 : m ≤ 4096 := by omega
  clear hpt hB2 hW2 hg3 hW3 hb3 ho3 hl3 hd hs1 hm
  go_upto_region 8 with (go_at_call 89; refine hzr.mono ?_; rintro e w4 ⟨⟨r4, rfl⟩, hW4, hg4⟩)
  obtain ⟨v4, hb4, ho4⟩ := hW4.has
  have c4 := hb4.cell
  have hB4 : Below w.heap.size w w4 := hB3.trans hg4.below
  obtain ⟨x4, n4, k4, rfl, hn4⟩ := ho4.isSlice
  clear hn4 hzr hW4 hb4 hg4 hB3 c3 hwr
  go_wp2
  go_ret2
  refine ⟨_, rfl, ?_, hB4⟩
  unfold padL
  rw [HBL.out, HD.out]
  exact ho4
end Go.Proofs.YtlhajphjppjlgaaGreatDoor
namespace Go.Proofs.YtlhajphjppjlgaaGreatDoor
open Go.RowKit
set_option maxRecDepth 20000
set_option linter.unusedSimpArgs false
end Go.Proofs.YtlhajphjppjlgaaGreatDoor
namespace Go.Proofs.YtlhajphjppjlgaaGreatDoor
open Go.RowKit
set_option maxRecDepth 20000
set_option linter.unusedSimpArgs false
theorem Box.other {w : World} {H : Nat} {t : TypeId} {v : Value} (h : Box w H t v) (a : Addr) (u : Value) (hne : H ≠ a.block) : Box (w.setCell a u) H t v := by
  unfold Box at h ⊢
  rw [heap_setCell_other w a H u hne]; exact h
theorem nilIface_eq (wx : World) : (binOp BinOp.eql 20 .nilIface .nilIface).run Tryz.prog wx = .ok (.bool true) wx := by kernel_rfl
theorem make_func (fn : Fn) (first cap : Array Value) (w : World) : (Instr.makeFunc fn first cap).run Tryz.prog w = .ok (.func fn first cap) w := rfl
end Go.Proofs.YtlhajphjppjlgaaGreatDoor
namespace Go.Proofs.YtlhajphjppjlgaaGreatDoor
open Go.RowKit
set_option maxRecDepth 20000
set_option linter.unusedSimpArgs false
theorem sizeEvZ (e : Ev) (h : e.past.length = 8) : (Tryz.prog.info? 76).map (·.size) = some e.cells.length := by rw [ev_len e h]; exact sizeEv17
end Go.Proofs.YtlhajphjppjlgaaGreatDoor
namespace Go.Proofs.YtlhajphjppjlgaaGreatDoor
open Go.RowKit
set_option maxRecDepth 20000
set_option linter.unusedSimpArgs false
end Go.Proofs.YtlhajphjppjlgaaGreatDoor
namespace Go.Proofs.YtlhajphjppjlgaaGreatDoor
open Go.RowKit
abbrev in8 (x : Int) : Prop := 0 ≤ x ∧ x ≤ 255
abbrev in32 (x : Int) : Prop := 0 ≤ x ∧ x ≤ 4294967295
structure Wp.In (e : Wp) : Prop where
  too : in8 e.too
  ea : in8 e.ea
  es : in32 e.es
  data : ∀ x ∈ e.data, in8 x
structure Fr.In (F : Fr) : Prop where
  author : in8 F.author
  number : in32 F.number
  ea : in8 F.ea
  es : in32 F.es
  prev : ∀ x ∈ F.prev, in8 x
  mac : ∀ x ∈ F.mac, in8 x
structure FrIn (W : World) (F : Fr) (xw : Option Addr) (lw cw : Nat) (ws : List Wp) (xb : Option Addr) (lb cb : Nat) (body : List Int) : Prop where
  prev : F.prev.length = 32
  mac : F.mac.length = 32
  wraps : F.wraps = .slice xw lw cw
  body_ : F.body = .slice xb lb cb
  hw : WrapsAt W xw lw cw ws
  hb : Bytes W xb lb cb body
  inF : F.In
  inW : ∀ e ∈ ws, e.In
  inB : ∀ x ∈ body, in8 x
end Go.Proofs.YtlhajphjppjlgaaGreatDoor
namespace Go.Proofs.YtlhajphjppjlgaaGreatDoor
open Go.ChangeShapes Go.WideShapes Go.ChangeAt Go.RowKit
set_option maxRecDepth 20000
theorem cellsU8 : Tryz.prog.cellsOf 5 = 1 := by kernel_rfl
theorem open_row {H : Type} {enc : TypeId × Value → H} {P : Program} {W : World} {r : Reach} {base n : Nat} {t e : TypeId} {k : IntKind} {v : Value} {d : DataW H} {p : List MemPlace} (hu : P.underlying t = some (.array n e)) (he : P.underlying e = some (.int k)) (hce : P.cellsOf e = 1) (hct : P.cellsOf t = n)
    (hv : Value.okWide P W r base t v) (h : DataW.Trod enc P W 0 (fun _ => true) true t v d p) :
    ∃ l : List Int, l.length = n ∧ v = .agg (row k l) ∧ ∀ x ∈ l, (Lit.int k x).wf = true := by
  simp only [Value.okWide, hu] at hv
  obtain ⟨cs, rfl, hsz, _⟩ := hv
  rw [hct] at hsz
  obtain ⟨fuel, hf⟩ := h
  obtain ⟨xs, m, _, _, _, hlen, hel⟩ := DataW.trod_array hu hf
  simp only [Value.cells, hce, Nat.mul_one] at hel
  have key : ∀ i (hi : i < cs.size), cs[i] = .int k (intOf cs[i]) ∧ (Lit.int k (intOf cs[i])).wf = true := fun i hi => by
    have h1 := hel i (by omega)
    rw [List.getElem?_eq_getElem (by omega)] at h1
    obtain ⟨a, ea, _, wa⟩ := DataW.trod_int he h1
    have e1 : (cs.toList.drop i).take 1 = [cs[i]] := by
      rw [List.drop_eq_getElem_cons (by simpa using hi)]; simp
    rw [e1] at ea
    have e2 : cs[i] = .int k a := by simpa using ea
    rw [e2]
    exact ⟨rfl, wa⟩
  refine ⟨cs.toList.map intOf, by simp [hsz], ?_, ?_⟩
  · congr 1
    apply Array.ext (by simp [row])
    intro i h1 h2
    have := (key i h1).1
    simp only [row, List.map_map, gA, List.getElem_map, Function.comp, Array.getElem_toList]
    exact this
  · intro x hx
    obtain ⟨c, hc, rfl⟩ := List.mem_map.1 hx
    obtain ⟨i, hi, rfl⟩ := List.mem_iff_getElem.1 hc
    have := (key i (by simpa using hi)).2
    simpa using this
section
variable {H : Type} {enc : TypeId × Value → H} {W : World} {fuel : Nat} {cs : List Value} {x : DataW H × List MemPlace}
end
end Go.Proofs.YtlhajphjppjlgaaGreatDoor
namespace Go.Proofs.YtlhajphjppjlgaaGreatDoor
open Go.ChangeShapes Go.WideShapes Go.ChangeAt Go.RowKit
set_option maxRecDepth 20000
theorem own : ownKnob Tryz.prog.godebug = none := by kernel_rfl
theorem laidOut : laidOutB Tryz.prog = true := by kernel_rfl
theorem gTab : Tryz.prog.globalNamed "escritoire/wire.buckets" = some 0 := by kernel_rfl
theorem gTabType : (Tryz.prog.globals[0]?).map (·.type) = some 188 := by kernel_rfl
theorem cells6 : Tryz.prog.cellsOf 188 = 6 := by kernel_rfl
theorem cellsI64 : Tryz.prog.cellsOf 3 = 1 := by kernel_rfl
theorem table {W : World} (h : laidMetH Tryz.prog [("escritoire/wire.buckets", Rows.laid_escritoire_wire_buckets)] W) : BTab W := fun j v hv => by
  have ht : Lib.TabIs Tryz.prog W "escritoire/wire.buckets" .i64 bTab := Lib.tabIs_of_head (rest := []) gTab gTabType Tryz.underlying188 Tryz.underlying3 cellsI64 cells6 h
  have hj : j < bTab.length := by have := (List.getElem?_eq_some_iff.1 hv).1; simpa using this
  have := ht.cell gTab j hj
  rw [Nat.zero_add, this, ← hv, List.getElem?_map, List.getD_eq_getElem?_getD, List.getElem?_eq_getElem hj]; rfl
end Go.Proofs.YtlhajphjppjlgaaGreatDoor
namespace Go.Proofs.YtlhajphjppjlgaaGreatDoor
open Go.ChangeShapes Go.WideShapes Go.ChangeAt Go.RowKit
set_option maxRecDepth 20000
set_option linter.unusedSimpArgs false
structure Ev.In (e : Ev) : Prop where
  da : in8 e.da
  ds : in32 e.ds
  plen : e.past.length = 8
  past : ∀ x ∈ e.past, in32 x
  kind : in8 e.kind
  pa : in8 e.pa
  ps : in32 e.ps
  char : in8 e.char
  who : in8 e.who
  role : in8 e.role
theorem event_in (e : Ev) (h : e.In) : ∀ v ∈ eventL e, b8 v := by
  have q4 : ∀ n : Int, ∀ v ∈ be4 n, b8 v := fun n v hv => by
    unfold be4 at hv
    simp only [List.mem_cons, List.not_mem_nil, or_false] at hv
    rcases hv with rfl | rfl | rfl | rfl <;> constructor <;> omega
  have qp : ∀ l : List Int, ∀ v ∈ pastL l, b8 v := fun l v hv => by
    unfold pastL at hv
    rw [List.mem_flatten] at hv
    obtain ⟨m, hm, hv⟩ := hv
    obtain ⟨n, _, rfl⟩ := List.mem_map.1 hm
    exact q4 n v hv
  intro v hv
  unfold eventL dotL at hv
  simp only [List.mem_append, List.mem_cons, List.not_mem_nil, or_false, List.mem_replicate] at hv
  rcases hv with (((((((rfl | hv) | hv) | rfl) | (rfl | hv)) | rfl) | (rfl | rfl | rfl)) | ⟨_, rfl⟩)
  · exact h.da
  · exact q4 _ v hv
  · exact qp _ v hv
  · exact h.kind
  · exact h.pa
  · exact q4 _ v hv
  · cases e.right <;> exact ⟨by decide, by decide⟩
  · exact h.char
  · exact h.who
  · exact h.role
  · exact ⟨by decide, by decide⟩
end Go.Proofs.YtlhajphjppjlgaaGreatDoor
namespace Go.Proofs.YtlhajphjppjlgaaGreatDoor.S
open Go
def row (k : IntKind) (l : List Int) : Array Value := (l.map (Value.int k)).toArray
theorem row_size (k : IntKind) (l : List Int) : (row k l).size = l.length := by simp [row]
theorem row_get? (k : IntKind) (l : List Int) (i : Nat) : (row k l)[i]? = l[i]?.map (Value.int k) := by simp [row]
theorem row_get (k : IntKind) (l : List Int) (i : Nat) (h : i < l.length) : (row k l)[i]? = some (Value.int k (l[i]?.getD 0)) := by
  rw [row_get?, List.getElem?_eq_getElem h]; rfl
theorem row_set (k : IntKind) (l : List Int) (i : Nat) (v : Int) : (row k l).setIfInBounds i (Value.int k v) = row k (l.set i v) := by
  simp [row, List.map_set]
theorem row_one (k : IntKind) (l : List Int) : (row k l).all (·.oneCell') = true := by
  simp [row, Value.oneCell']
theorem bits_or_comm (k : IntKind) (x y : Int) : bits .or k x y = bits .or k y x := by
  simp only [bits]; rw [BitVec.or_comm]
def rr (n : Int) (x : Int) : Int := bits .or .u32 (x / 2 ^ n.toNat) (x * 2 ^ (32 - n.toNat) % 4294967296)
def wd (a b c d : Int) : Int :=
  bits .or .u32 (bits .or .u32 (bits .or .u32 (a % 4294967296 * 16777216 % 4294967296) (b % 4294967296 * 65536 % 4294967296)) (c % 4294967296 * 256 % 4294967296)) (d % 4294967296)
def wdAt (z : List Int) (i : Nat) : Int := wd (z[4 * i]?.getD 0) (z[4 * i + 1]?.getD 0) (z[4 * i + 2]?.getD 0) (z[4 * i + 3]?.getD 0)
def wordsL (z : List Int) (k : Nat) : List Int := (List.range k).map (wdAt z)
theorem wordsL_length (z : List Int) (k : Nat) : (wordsL z k).length = k := by simp [wordsL]
theorem wordsL_succ (z : List Int) (k : Nat) : wordsL z (k + 1) = wordsL z k ++ [wdAt z k] := by simp [wordsL, List.range_succ]
def near (x : Int) : Int := bits .xor .u32 (bits .xor .u32 (rr 17 x) (rr 19 x)) (x / 1024)
def far (y : Int) : Int := bits .xor .u32 (bits .xor .u32 (rr 7 y) (rr 18 y)) (y / 8)
def swdAt (ws : List Int) (n : Nat) : Int := (near (ws[n - 2]?.getD 0) + ws[n - 7]?.getD 0 + far (ws[n - 15]?.getD 0) + ws[n - 16]?.getD 0) % 4294967296
def swd (ws : List Int) : Int := swdAt ws ws.length
def sched (first : List Int) : Nat → List Int
  | 0 => first
  | n + 1 => sched first n ++ [swd (sched first n)]
theorem sched_length (first : List Int) (n : Nat) : (sched first n).length = first.length + n := by
  induction n with
  | zero => rfl
  | succ n ih => simp only [sched, List.length_append, ih, List.length_cons, List.length_nil]; omega
def kTab : List Int := [1116352408, 1899447441, 3049323471, 3921009573, 961987163, 1508970993, 2453635748, 2870763221, 3624381080, 310598401, 607225278, 1426881987, 1925078388, 2162078206, 2614888103, 3248222580, 3835390401, 4022224774, 264347078, 604807628, 770255983, 1249150122, 1555081692, 1996064986, 2554220882, 2821834349, 2952996808, 3210313671, 3336571891, 3584528711, 113926993, 338241895, 666307205, 773529912, 1294757372, 1396182291, 1695183700, 1986661051, 2177026350, 2456956037, 2730485921, 2820302411, 3259730800, 3345764771, 3516065817, 3600352804, 4094571909, 275423344, 430227734, 506948616, 659060556, 883997877, 958139571, 1322822218, 1537002063, 1747873779, 1955562222, 2024104815, 2227730452, 2361852424, 2428436474, 2756734187, 3204031479, 3329325298]
def sig1 (e : Int) : Int := bits .xor .u32 (bits .xor .u32 (rr 6 e) (rr 11 e)) (rr 25 e)
def sig0 (a : Int) : Int := bits .xor .u32 (bits .xor .u32 (rr 2 a) (rr 13 a)) (rr 22 a)
def chs (e f g : Int) : Int := bits .xor .u32 (bits .and .u32 e f) (bits .and .u32 (4294967295 - e) g)
def maj (a b c : Int) : Int := bits .xor .u32 (bits .xor .u32 (bits .and .u32 a b) (bits .and .u32 a c)) (bits .and .u32 b c)
def rnd (kw w : Int) : List Int → List Int
  | [a, b, c, d, e, f, g, h] => [(h + sig1 e + chs e f g + kw + w + (sig0 a + maj a b c)) % 4294967296, a, b, c, (d + (h + sig1 e + chs e f g + kw + w)) % 4294967296, e, f, g]
  | l => l
theorem rnd_of {K W a b c d e f g h p q : Int} (hp : p = (h + sig1 e + chs e f g + K + W + (sig0 a + maj a b c)) % 4294967296) (hq : q = (d + (h + sig1 e + chs e f g + K + W)) % 4294967296) :
    rnd K W [a, b, c, d, e, f, g, h] = [p, a, b, c, q, e, f, g] := by rw [hp, hq]; rfl
theorem not_u32 (e : Int) (h0 : 0 ≤ e) (h1 : e ≤ 4294967295) : bits .xor .u32 (if IntKind.u32.signed = true then -1 else IntKind.u32.max) e = 4294967295 - e := by
  show IntKind.u32.wrap ((BitVec.ofInt 32 4294967295 ^^^ BitVec.ofInt 32 e).toNat : Int) = _
  have h : BitVec.ofInt 32 4294967295 = BitVec.allOnes 32 := by decide
  rw [h, BitVec.allOnes_xor, BitVec.toNat_not, BitVec.toNat_ofInt]
  simp [IntKind.wrap, IntKind.bits, IntKind.signed]
  omega
def rounds (ws : List Int) (s : List Int) : Nat → List Int
  | 0 => s
  | n + 1 => rnd (kTab[n]?.getD 0) (ws[n]?.getD 0) (rounds ws s n)
theorem rnd_length (kw w : Int) (s : List Int) (h : s.length = 8) : (rnd kw w s).length = 8 := by
  match s, h with
  | [a, b, c, d, e, f, g, i], _ => rfl
theorem rounds_length (ws s : List Int) (n : Nat) (h : s.length = 8) : (rounds ws s n).length = 8 := by
  induction n with
  | zero => exact h
  | succ n ih => exact rnd_length _ _ _ ih
def InU (s : List Int) : Prop := ∀ x ∈ s, 0 ≤ x ∧ x ≤ 4294967295
theorem rnd_in (kw w : Int) (s : List Int) (h : s.length = 8) (hs : InU s) : InU (rnd kw w s) := by
  match s, h with
  | [a, b, c, d, e, f, g, i], _ =>
    intro x hx
    simp only [rnd, List.mem_cons, List.not_mem_nil, or_false] at hx
    rcases hx with rfl | rfl | rfl | rfl | rfl | rfl | rfl | rfl
    · omega
    · exact hs _ (by simp)
    · exact hs _ (by simp)
    · exact hs _ (by simp)
    · omega
    · exact hs _ (by simp)
    · exact hs _ (by simp)
    · exact hs _ (by simp)
theorem rounds_in (ws s : List Int) (n : Nat) (h : s.length = 8) (hs : InU s) : InU (rounds ws s n) := by
  induction n with
  | zero => exact hs
  | succ n ih => exact rnd_in _ _ _ (rounds_length ws s n h) ih
def addL (r s : List Int) : List Int := (List.range 8).map fun i => (r[i]?.getD 0 + s[i]?.getD 0) % 4294967296
def addK (r s : List Int) (k : Nat) : List Int := (List.range 8).map fun i => if i < k then (r[i]?.getD 0 + s[i]?.getD 0) % 4294967296 else r[i]?.getD 0
theorem addK_length (r s : List Int) (k : Nat) : (addK r s k).length = 8 := by simp [addK]
theorem addK_zero (r s : List Int) (h : r.length = 8) : addK r s 0 = r := by
  obtain ⟨a, b, c, d, e, f, g, i, rfl⟩ : ∃ a b c d e f g i, r = [a, b, c, d, e, f, g, i] := by
    match r, h with
    | [a, b, c, d, e, f, g, i], _ => exact ⟨a, b, c, d, e, f, g, i, rfl⟩
  rfl
theorem addK_get (r s : List Int) (k j : Nat) (h : j < 8) : (addK r s k)[j]?.getD 0 = if j < k then (r[j]?.getD 0 + s[j]?.getD 0) % 4294967296 else r[j]?.getD 0 := by
  simp [addK, h]
theorem addK_eight (r s : List Int) : addK r s 8 = addL r s := by
  unfold addK addL
  apply List.map_congr_left
  intro i hi
  rw [if_pos (by simpa using hi)]
theorem addK_set (r s : List Int) (k : Nat) : (addK r s k).set k ((r[k]?.getD 0 + s[k]?.getD 0) % 4294967296) = addK r s (k + 1) := by
  apply List.ext_getElem?
  intro j
  by_cases hj : j < 8
  · by_cases e : j = k
    · subst e; simp [addK, hj]
    · rw [List.getElem?_set_ne (by omega)]
      simp only [addK, List.getElem?_map, List.getElem?_range hj, Option.map_some]
      by_cases h1 : j < k
      · rw [if_pos h1, if_pos (by omega)]
      · rw [if_neg h1, if_neg (by omega)]
  · rw [List.getElem?_eq_none (by rw [List.length_set, addK_length]; omega), List.getElem?_eq_none (by rw [addK_length]; omega)]
def stepL (s z : List Int) : List Int := addL (rounds (sched (wordsL z 16) 48) s 64) s
theorem stepL_length (s z : List Int) : (stepL s z).length = 8 := by simp [stepL, addL]
theorem stepL_in (s z : List Int) : InU (stepL s z) := by
  intro x hx
  simp only [stepL, addL, List.mem_map] at hx
  obtain ⟨i, _, rfl⟩ := hx
  omega
def startL : List Int := [1779033703, 3144134277, 1013904242, 2773480762, 1359893119, 2600822924, 528734635, 1541459225]
def bytes4 (v : Int) : List Int := [v / 16777216 % 256, v / 65536 % 256, v / 256 % 256, v % 256]
def joinK (s : List Int) : Nat → List Int
  | 0 => []
  | k + 1 => joinK s k ++ bytes4 (s[k]?.getD 0)
theorem joinK_length (s : List Int) (k : Nat) : (joinK s k).length = 4 * k := by
  induction k with
  | zero => rfl
  | succ k ih => simp only [joinK, bytes4, List.length_append, ih, List.length_cons, List.length_nil]; omega
def joinL (s : List Int) : List Int := joinK s 8
theorem joinL_length (s : List Int) : (joinL s).length = 32 := joinK_length s 8
theorem set_next (l : List Int) (m : Nat) (v : Int) : (l ++ List.replicate (m + 1) 0).set l.length v = (l ++ [v]) ++ List.replicate m 0 := by
  rw [List.set_append_right _ _ (Nat.le_refl _)]; simp [List.replicate_succ]
theorem set_four (l : List Int) (m n : Nat) (a b c d : Int) (h : l.length = n) : ((((l ++ List.replicate (m + 4) 0).set n a).set (n + 1) b).set (n + 2) c).set (n + 3) d = l ++ [a, b, c, d] ++ List.replicate m 0 := by
  subst h
  rw [set_next l (m + 3) a]
  have e1 := set_next (l ++ [a]) (m + 2) b
  have e2 := set_next (l ++ [a] ++ [b]) (m + 1) c
  have e3 := set_next (l ++ [a] ++ [b] ++ [c]) m d
  simp only [List.length_append, List.length_cons, List.length_nil] at e1 e2 e3
  rw [show l.length + 1 = l.length + (0 + 1) by omega, e1, show l.length + 2 = l.length + (0 + 1) + (0 + 1) by omega, e2, show l.length + 3 = l.length + (0 + 1) + (0 + 1) + (0 + 1) by omega, e3]
  simp
theorem eight {l : List Int} (h : l.length = 8) : ∃ a b c d e f g i, l = [a, b, c, d, e, f, g, i] := by
  match l, h with
  | [a, b, c, d, e, f, g, i], _ => exact ⟨a, b, c, d, e, f, g, i, rfl⟩
end Go.Proofs.YtlhajphjppjlgaaGreatDoor.S
