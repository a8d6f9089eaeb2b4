/- Dk3 to TopKeptW: the second part of the text U1 (a text holds at most 300,000 bytes) -/
import Derived.Test.YtlhajphjppjlgaaGreatDoorT01
import Derived.Test.YtlhajphjppjlgaaGreatDoorProg
import Derived.Laws.Entries
import Derived.WalkKit
import Derived.WalkSpells
import Derived.WalkLawsBesides
import Derived.Deep.QuietTactic
import Derived.BigQuiet
import Derived.Laws.Rows
import Derived.Laws.CopyRow
import Derived.Laws.CopyOwn
import Derived.Deep.WholeRow
import Derived.ChangeKeysEq
import Derived.Deep.RegionHeld3
import Derived.Deep.DeepCutAuto
import Derived.Test.YtlhajphjppjlgaaGreatDoorT02
import Derived.Test.YtlhajphjppjlgaaGreatDoorT03
import Derived.Test.YtlhajphjppjlgaaGreatDoorT04
import Derived.Test.YtlhajphjppjlgaaGreatDoorT05
import Derived.Test.YtlhajphjppjlgaaGreatDoorT24
import Derived.Test.YtlhajphjppjlgaaGreatDoorT21
import Derived.Laws.BitsLemmas
import Derived.Laws.Closers25b
import Derived.Test.YtlhajphjppjlgaaGreatDoorT26
import Derived.Great.BuildSlice
import Derived.Test.YtlhajphjppjlgaaGreatDoorT29
import Derived.Test.YtlhajphjppjlgaaGreatDoorT30
import Derived.Test.YtlhajphjppjlgaaGreatDoorV32
import Derived.Test.YtlhajphjppjlgaaGreatDoorV34
import Derived.Test.YtlhajphjppjlgaaGreatDoorV33
import Derived.Test.YtlhajphjppjlgaaGreatDoorV37
import Derived.Test.YtlhajphjppjlgaaGreatDoorV38
import Derived.Laws.StructEq
import Derived.Test.YtlhajphjppjlgaaGreatDoorV39
import Derived.Test.YtlhajphjppjlgaaGreatDoorT08
import Derived.OrdersIn
import Derived.TacticsIn
import Derived.OwnWalkIn
import Derived.RangeFuncCalls
import Derived.ArgAppend
import Derived.Laws.OwnMore
import Derived.RangeFuncFrom
import Derived.RangeFuncLeaves
import Derived.RangeFuncNested
import Derived.RangeFuncBound
import Derived.Shelf.Abstract
import Derived.Shelf.RegionOpen
import Derived.TacticsInMore
import Derived.LoopNIn
import Derived.LoopIn
import Derived.RangeFuncBox
import Derived.Laws.Cover3
import Derived.Laws.MakeOwn
import Derived.Test.YtlhajphjppjlgaaGreatDoorV47
import Derived.Test.YtlhajphjppjlgaaGreatDoorV0
import Derived.Test.YtlhajphjppjlgaaGreatDoorU0
namespace Go.Proofs.YtlhajphjppjlgaaGreatDoor
open Go.RowKit Go.Shelf
set_option maxRecDepth 20000
set_option linter.unusedSimpArgs false
set_option linter.unusedSectionVars false
attribute [local go_sem] Oper.semAt_some
theorem TurnD.put {p : Nat → Prop} {w w' : World} (h : TurnD p w w') (l : Nat) (o : Obj) (hl : w.heap.size ≤ l) : TurnD p w (w'.putObj l o) :=
  have hg := grownBy_putObj' w' l o
  ⟨hg.os.trans h.os, hg.tape.trans h.tape, hg.output.trans h.output, Nat.le_trans h.size hg.size, fun k hk hn => (World.putObj_heap_other (by omega)).trans (h.block k hk hn)⟩
def sumP (z : List Int) (pre : List (Fin (wholeN z).length)) : Nat := (pre.map fun i => (wholeN z)[i.1]).sum
theorem sumP_all (z : List Int) : sumP z (List.finRange (wholeN z).length) = trimN z := by
  unfold sumP trimN sumK
  rw [List.take_of_length_le (Nat.le_refl _)]
  congr 1
  apply List.ext_getElem <;> simp
theorem sumP_snoc (z : List Int) (pre : List (Fin (wholeN z).length)) (i : Fin (wholeN z).length) : sumP z (pre ++ [i]) = sumP z pre + (wholeN z)[i.1] := by simp [sumP]
theorem sumP_le (z : List Int) (pre : List (Fin (wholeN z).length)) : sumP z pre ≤ pre.length * z.length := by
  induction pre with
  | nil => simp [sumP]
  | cons i l ih =>
    have h1 := sumK_succ (wholeN z) i.1 i.2
    have h2 := (wholeN_at _ z rfl (i.1 + 1)).2.2 i.2
    have e : sumP z (i :: l) = (wholeN z)[i.1] + sumP z l := by simp [sumP]
    have h3 : (wholeN z)[i.1] ≤ z.length := by omega
    rw [e, List.length_cons, Nat.add_mul, Nat.one_mul]
    omega
section
variable (base D : Nat) (v : Value) (z : List Int) (s : Nat) (w : World)
set_option maxHeartbeats 2000000 in
theorem trim_in (hD : DiskAt w base D v z s) (hKT : S.KTab w) :
    CallsIn Fence.wide 3 Tryz.prog 17 #[.pointer (some ⟨D, 0, none⟩)] w fun e w' => e = .returned (.int .i64 0) ∧ ∃ v', DiskTo w w' base D v v' (z.take (trimN z)) (trimN z) := by
  obtain ⟨x, c, rfl, hb, hx⟩ := hD.buf.bytes
  have hx : TopA x := hx
  have hz := hD.isb
  have hzl := hD.len
  have c0 : (w.alloc (.cells #[.int .i64 0] 3)).cell? ⟨D, 0, none⟩ = some (.slice x z.length c) := (((Below.refl w.heap.size w).alloc (Nat.le_refl _) _).cell (p := ⟨D, 0, none⟩) hD.box.lt).trans (hD.box.cell 0)
  have HZ : Veil (z.length ≤ 65536) := ⟨hzl⟩
  refine callsIn_of_wp_marks Tryz.func17 rfl trivial ?_ rfl
  simp only [Tryz.ntmps17, List.size_toArray, List.length_cons, List.length_nil, Nat.reduceAdd, Nat.reduceSub, Array.replicate_succ, Array.replicate_zero, List.push_toArray, List.append_toArray, List.nil_append, List.cons_append]
  gi_wp2_with (refine ⟨trivial, ?_⟩; gi_at_call 39; refine (callsIn_wide.2 (whole_any _ _ _ _)).mono ?_; rintro e w3 ⟨rfl, rfl⟩)
  have hw1 : Below w.heap.size w ((w.alloc (.cells #[.int .i64 0] 3)).alloc (.cells #[.slice x z.length c] 30)) := ((Below.refl _ _).alloc (Nat.le_refl _) _).alloc (by simp) _
  have hBn : ((w.alloc (.cells #[.int .i64 0] 3)).alloc (.cells #[.slice x z.length c] 30)).cell? ⟨w.heap.size + 1, 0, none⟩ = some (.slice x z.length c) := by
    have := (CellsD.new (w.alloc (.cells #[.int .i64 0] 3)) 30 [.slice x z.length c]).cell 0
    rw [World.size_alloc] at this
    exact this
  have hBl : Boxed ((w.alloc (.cells #[.int .i64 0] 3)).alloc (.cells #[.slice x z.length c] 30)) w.heap.size 3 (.int .i64 0) := (Boxed.new w 3 (.int .i64 0)).alloc _
  have hsz : ((w.alloc (.cells #[.int .i64 0] 3)).alloc (.cells #[.slice x z.length c] 30)).heap.size = w.heap.size + 2 := by simp
  obtain ⟨W1, hW1⟩ : ∃ q, (w.alloc (.cells #[.int .i64 0] 3)).alloc (.cells #[.slice x z.length c] 30) = q := ⟨_, rfl⟩
  rw [hW1] at hw1 hBn hBl hsz ⊢
  clear hW1 c0
  refine wpIn_rangeFunc_ownF rfl (by omega) (gf := 71) (lb := #[.pointer (some ⟨w.heap.size + 1, 0, none⟩)]) rfl trivial (enters_of Tryz.func71 (by kernel_rfl) rfl)
    (encs := fun i : Fin (wholeN z).length => #[recV x z i.1]) (Kp := KeepR (w.heap.size + 1) w.heap.size) (S := fun ys => ys = List.finRange (wholeN z).length) (Sp := fun pre => pre <+: List.finRange (wholeN z).length) (N := (wholeN z).length) (w0 := W1)
    (fun l J Jx W hW hAJ _ hY h0 => whole1_in (3 - 1) l (w.heap.size + 1) x c z w hx hb hz hzl hKT J Jx W hAJ hY (hw1.trans (hW.mono (by omega))) ((hW.cell (p := ⟨w.heap.size + 1, 0, none⟩) (by show w.heap.size + 1 < W1.heap.size; omega)).trans hBn) h0)
    KeepR.trans (fun W l o o' hl ho _ _ => KeepR.putObj W l o' (by omega) (by omega) (Array.getElem?_eq_some_iff.1 ho).1) (Below.refl _ _) (fun _ => rfl)
    (fun pre W => Boxed W w.heap.size 3 (.int .i64 (sumP z pre : Nat)) ∧ Below w.heap.size w W ∧ w.heap.size + 2 ≤ W.heap.size)
    (fun _ _ _ => False)
    (fun pre A B row hI hg hr => ?own)
    (fun _ _ _ _ _ hs _ _ => hs)
    ⟨hBl, hw1, by omega⟩
    (fun i => { tmps := #[.pointer (some ⟨D, 0, none⟩), undef, .int .i64 0, .pointer (some ⟨w.heap.size, 0, none⟩), recV x z i.1, .pointer (some ⟨D, 0, none⟩), .bool false, .pointer (some ⟨D, 0, none⟩), .pointer (some ⟨D, 0, none⟩), .pointer (some ⟨D, 0, none⟩), .slice x z.length c, .func (.func 71) #[] #[.pointer (some ⟨w.heap.size + 1, 0, none⟩)], recV x z i.1, undef, undef, undef, undef, undef, undef, undef], defers := [] }) ?assign ?body ?done ?stop
  case own =>
    obtain ⟨h1, h3, h4⟩ := hI
    have hne : ∀ g cur t fr, A.heap[g]? = some (.cells cur t fr) → some g ≠ row := fun g cur t fr hc e => by
      obtain ⟨_, o, ho, hk⟩ := hr g e.symm
      rw [hc] at ho
      cases ho
      cases hk
    refine ⟨h1.kept hg (hne _ _ _ _ h1), h3.grown hg (by omega) (fun k hk => ?_), Nat.le_trans h4 hg.size⟩
    have := (hr k hk).1
    omega
  case assign =>
    intro l i W K hK
    gi_wp2
    exact hK
  case body =>
    rintro l pre i W ⟨hu, hB, hs2⟩ hpre
    have hfew := wholeN_few z
    have hzl2 := HZ.out
    have hcl := hu.cell
    have hfz := hu.frozen
    have e1 : recV x z i.1 = .slice (cutA x (sumK (wholeN z) i.1) (sumK (wholeN z) i.1 + (wholeN z)[i.1])) (wholeN z)[i.1] (wholeN z)[i.1] := by
      unfold recV
      rw [List.getElem?_eq_getElem i.2, Option.getD_some]
    have h1 := sumK_succ (wholeN z) i.1 i.2
    have h2 := (wholeN_at _ z rfl (i.1 + 1)).2.2 i.2
    have h3 := sumP_le z pre
    have h4 : pre.length * z.length ≤ 65536 * 65536 := Nat.mul_le_mul (by omega) (by omega)
    have h5 := sumP_snoc z pre i
    obtain ⟨m, hm⟩ : ∃ m, (wholeN z)[i.1] = m := ⟨_, rfl⟩
    obtain ⟨q, hq⟩ : ∃ q, sumP z pre = q := ⟨_, rfl⟩
    rw [hm] at e1 h1 h5
    rw [hq] at h3 h5 hcl hu
    have H5 := Veil.mk h5
    rw [e1]
    generalize cutA x (sumK (wholeN z) i.1) (sumK (wholeN z) i.1 + m) = y
    have hwr : IntKind.i64.wrap ((q : Int) + (m : Int)) = ((q + m : Nat) : Int) := by rw [IntKind.wrap_i64]; omega
    clear e1 h5 hm hq
    gi_wp2
    refine ⟨KeepsOthers.setCell _ _ _, ⟨Below.heap_setCell _ _ _ _ (by show w.heap.size + 1 ≠ w.heap.size; omega), (Below.refl _ W).setCell (p := ⟨w.heap.size, 0, none⟩) (Nat.le_refl _) _⟩, ?_, hB.setCell (p := ⟨w.heap.size, 0, none⟩) (Nat.le_refl _) _, by simpa [World.setCell] using hs2⟩
    rw [H5.out, Int.natCast_add]
    exact hu.set _
  case done =>
    rintro E ys W hE rfl ⟨hu, hB, hs2⟩ hK
    rw [sumP_all] at hu
    have hcu := hu.cell
    have hEl : E < W.heap.size := (Array.getElem?_eq_some_iff.1 hK).1
    have hcut := dcut_any base D (.slice x z.length c) z s W (hD.far hB) (trimN z) (trimN_le z)
    have hin := hD.inside
    clear hb hx hz hzl
    gi_wp2_with (refine ⟨trivial, ?_⟩; gi_at_call 38; refine (callsIn_wide.2 hcut).mono ?_; rintro e w5 ⟨⟨r, rfl⟩, v5, hd5⟩)
    have hE5 : w5.heap[E]? = some (.deferred (some [])) := (hd5.turn.block E hEl (fun hp => by have := (hin E hp).1; omega)).trans hK
    refine ⟨by simp, .inl ⟨_, _, rfl, run_takeDeferred hE5, ?_⟩⟩
    refine ⟨_, results_tmp (Tryz.results17) _ _ _, rfl, v5, ⟨hd5.disk.congr fun g hg => World.putObj_heap_other ?_, ?_, ?_⟩⟩
    · intro e
      subst e
      rcases hg with e | hg
      · have := (hin D (.inl rfl)).1; omega
      · rcases hd5.block with h | ⟨g', h, hg'⟩
        · rw [hg] at h
          have := (hin g (.inr h.symm)).1
          omega
        · rw [hg] at h
          cases h
          omega
    · exact ((TurnD.of_below (p := diskP D (.slice x z.length c)) (hB.mono (Nat.le_refl _))).trans hd5.turn).put E _ (by omega)
    · rcases hd5.block with h | ⟨g', h, hg'⟩
      · exact .inl h
      · exact .inr ⟨g', h, Nat.le_trans hB.size hg'⟩
  case stop =>
    rintro E c' pre W _ _ h _
    exact h.elim
theorem dTrim_any (hD : DiskAt w base D v z s) (hKT : S.KTab w) :
    Calls Tryz.prog 17 #[.pointer (some ⟨D, 0, none⟩)] w fun e w' => e = .returned (.int .i64 0) ∧ ∃ v', DiskTo w w' base D v v' (z.take (trimN z)) (trimN z) := callsIn_wide.1 (trim_in base D v z s w hD hKT)
end
theorem TurnD.trans' {p : Nat → Prop} {a b c : World} {r : Option Nat} (h : TurnD p a b) (hg : b.grownBy c r) (hp : ∀ k, r = some k → k < a.heap.size → p k) : TurnD p a c :=
  ⟨hg.os.trans h.os, hg.tape.trans h.tape, hg.output.trans h.output, Nat.le_trans h.size hg.size, fun k hk hn => (hg.block k (Nat.lt_of_lt_of_le hk h.size) (fun e => hn (hp k e.symm hk))).trans (h.block k hk hn)⟩
theorem sumL_in (z : List Int) : disB (S.sumL z) := by
  unfold S.sumL S.joinL
  have : ∀ (s : List Int) (k : Nat), disB (S.joinK s k) := fun s k => by
    induction k with
    | zero => intro v hv; cases hv
    | succ k ih =>
      intro v hv
      rcases List.mem_append.1 hv with h | h
      · exact ih v h
      · simp only [S.bytes4, List.mem_cons, List.not_mem_nil, or_false] at h
        rcases h with rfl | rfl | rfl | rfl <;> omega
  exact this _ 8
theorem headL_in (b : List Int) : disB (headL b) := by
  intro v hv
  rcases List.mem_append.1 hv with h | h
  · simp only [List.mem_cons, List.not_mem_nil, or_false] at h
    rcases h with rfl | rfl <;> omega
  · exact sumL_in b v (List.mem_of_mem_take h)
theorem recL_in (b : List Int) (hb : disB b) : disB (recL b) := fun v hv => by
  rcases List.mem_append.1 hv with h | h
  · exact headL_in b v h
  · exact hb v h
theorem isB_append {a b : List Int} (ha : disB a) (hb : disB b) : disB (a ++ b) := fun v hv => by
  rcases List.mem_append.1 hv with h | h
  · exact ha v h
  · exact hb v h
theorem Bytes.grownD {w w' : World} {x : Option Addr} {len cap : Nat} {z : List Int} {r : Option Nat} (h : Bytes w x len cap z) (hg : w.grownBy w' r) (hne : ∀ a, len ≠ 0 → x = some a → r ≠ some a.block) : Bytes w' x len cap z :=
  ⟨h.len_eq, h.le, h.top, h.nil, by
    rcases h.at_ with h0 | ⟨b, off, hx, hc⟩
    · exact .inl h0
    · by_cases hl : len = 0
      · exact .inl hl
      · exact .inr ⟨b, off, hx, fun j hj => (World.cell?_of_block (a := ⟨b, off + j, none⟩) (hg.block b (block_lt_of_cell (hc j hj)) (fun e => hne _ hl hx e.symm))).trans (hc j hj)⟩⟩
section
variable (base D : Nat) (v : Value) (z : List Int) (s : Nat) (w : World)
set_option maxHeartbeats 4000000 in
theorem dWrite_any (hD : DiskAt w base D v z s) (x : Option Addr) (len cap : Nat) (b : List Int) (hbs : Bytes w x len cap b) (hbb : disB b) (hl : len ≤ 8192) (hf : z.length + 10 + len ≤ 65536) (hne : ∀ a, len ≠ 0 → x = some a → v.ownBlock ≠ some a.block) (hbase : base ≤ w.heap.size) (hKT : S.KTab w) :
    Calls Tryz.prog 15 #[.pointer (some ⟨D, 0, none⟩), .slice x len cap] w fun e w' => e = .returned (.int .i64 0) ∧ ∃ v', DiskTo w w' base D v v' (z ++ recL b) s := by
  obtain ⟨y, c, rfl, hb, hy⟩ := hD.buf.bytes
  have c0 : w.cell? ⟨D, 0, none⟩ = some (.slice y z.length c) := hD.box.cell 0
  have hln := hD.len
  have hl' : ¬ (8192 : Int) < (len : Int) := by omega
  have hHO := headOf_any x len cap b w hbs (by omega) hKT
  have hHl := headL_length b
  have hbl := hbs.len_eq
  have HBL := Veil.mk hbl
  have HREC : Veil (recL b = headL b ++ b) := ⟨rfl⟩
  obtain ⟨HL, hHL⟩ : ∃ q, headL b = q := ⟨_, rfl⟩
  rw [hHL] at hHO hHl HREC
  obtain ⟨zl, hzl⟩ : ∃ q, z.length = q := ⟨_, rfl⟩
  have HZL := Veil.mk hzl
  rw [hzl] at c0 hf hln hne ⊢
  have hf' : ¬ (65536 : Int) < (zl : Int) + 10 + (len : Int) := by omega
  have hDD := Veil.mk hD
  rw [hzl] at hDD
  clear hb hy hD hzl hbl hHL
  go_enter Tryz.func15, Tryz.ntmps15
  go_upto_region 8 with (first
    | (go_at_call 37; refine hHO.mono ?_; rintro e w1 ⟨rfl, hb1⟩; have hN := Holds.new w1 .u8 98 (List.replicate 10 0))
    | (refine wpList_st rfl 98 _ _ rfl _ rfl rfl hN (by rw [hHl]; exact dsize10) (by rw [hHl]; rfl) ?_))
  have hG : w.heap.size ≤ w1.heap.size := hb1.size
  refine forget (p := fun y => Code.wp _ _ _ _ y) (fun X => Below w.heap.size w X ∧ Holds X w1.heap.size .u8 98 HL) ⟨below_setRow (hb1.alloc hb1.size _) hb1.size _, hN.setRow _⟩ ?_
  obtain ⟨G, hGG⟩ : ∃ q, w1.heap.size = q := ⟨_, rfl⟩
  rw [hGG] at hG ⊢
  clear hGG hN hb1 hHO c0
  clear w1
  rintro X ⟨hX, hH⟩
  have hDX : DiskAt X.drew base D (.slice y zl c) z s := (hDD.out.far hX).far (Below.refl _ _).drew
  have hin := hDD.out.inside
  have hbX : Bytes X.drew x len cap b := (hbs.below hX).below (Below.refl _ _).drew
  have hHb := hH.drew.bytes (n := 10) hHl.symm (by omega)
  have hbX0 : base ≤ X.drew.heap.size := Nat.le_trans hbase hX.size
  have c0 : X.drew.cell? ⟨D, 0, none⟩ = some (.slice y zl c) := hDX.box.cell 0
  have hwX : w.heap.size ≤ X.drew.heap.size := hX.size
  refine wp_region_gate (fun w' => w'.cell? ⟨D, 0, none⟩ = some (.slice y zl c)) 6 (by kernel_rfl) ?_
  have hS : (fun w' : World => w'.cell? ⟨D, 0, none⟩ = some (.slice y zl c)) X.drew := c0
  refine ga 0 ?_ rfl (by kernel_rfl) (fun _ _ _ h => h) hS ?_ ?_
  rotate_left
  · intro _; go_simp; try with_reducible rfl
  simp only [Act.put, gA, gS, gZ, sI, sZ, sS]
  refine ga 1 ?_ rfl (by kernel_rfl) (fun _ _ _ h => h) hS ?_ ?_
  rotate_left
  · intro _; go_simp; try with_reducible rfl
  simp only [Act.put, gA, gS, gZ, sI, sZ, sS]
  refine ga 2 ?_ rfl (by kernel_rfl) (fun _ _ _ h => h) hS ?_ ?_
  rotate_left
  · intro _; go_simp; try with_reducible rfl
  simp only [Act.put, gA, gS, gZ, sI, sZ, sS]
  refine ga 3 ?_ rfl (by kernel_rfl) (fun _ _ _ h => h) hS ?_ ?_
  rotate_left
  · intro _; go_simp; try with_reducible rfl
  simp only [Act.put, gA, gS, gZ, sI, sZ, sS]
  refine gr 4 ?_ rfl (by kernel_rfl) (fun _ _ _ h => h) hS ?_ ?_
  rotate_left
  · intro wx hSw; go_split_ands; go_simp; try with_reducible rfl
  simp only [Act.put, gA, gS, gZ, sI, sZ, sS]
  refine ga 5 ?_ rfl (by kernel_rfl) (fun _ _ _ h => h) hS ?_ ?_
  rotate_left
  · intro _; go_simp; try with_reducible rfl
  simp only [Act.put, gA, gS, gZ, sI, sZ, sS]
  refine ga 7 ?_ rfl (by kernel_rfl) (fun _ _ _ h => h) hS ?_ ?_
  rotate_left
  · intro _; go_simp; try with_reducible rfl
  simp only [Act.put, gA, gS, gZ, sI, sZ, sS]
  refine wpAnyG_one (i := 6) rfl (by kernel_rfl) (by kernel_rfl) (fun K hK => ?_)
  obtain ⟨v6, W6, hrun6, hB6, hg6, hk6⟩ := run_app_buf X.drew base (.slice y zl c) z 30 hDX.buf (some ⟨G, 0, none⟩) 10 10 HL hHb (by have := HZL.out; omega) hbX0
  refine wpx_app _ _ _ _ rfl _ _ _ _ rfl rfl hrun6 ?_
  have hD6 : CellsD W6 D 92 [.slice y zl c, .int .i64 s] := hDX.box.congr (hg6.block D hDX.box.lt (fun e => hDX.ne e.symm))
  have hb6 : Bytes W6 x len cap b := hbX.grownD hg6 hne
  have hT6 : TurnD (diskP D (.slice y zl c)) w W6 := ((TurnD.of_below hX).trans (TurnD.of_below (w' := X.drew) (Below.refl _ _).drew)).trans (TurnD.of_grown hg6 fun k hk => .inr hk)
  have hbs6 : base ≤ W6.heap.size := Nat.le_trans hbX0 hg6.size
  have hk6w : v6.ownBlock = (Value.slice y zl c).ownBlock ∨ ∃ g, v6.ownBlock = some g ∧ w.heap.size ≤ g := by
    rcases hk6 with h | ⟨g, h, hg⟩
    · exact .inl h
    · exact .inr ⟨g, h, Nat.le_trans hwX hg⟩
  clear hrun6 hg6 hk6 hS c0 hDX hbX hHb hH hX
  refine hK.out _ _ (fun h => absurd (show true = false from h) (by decide)) ?_
  clear hK K
  try simp only [Act.put, gA, gS, gZ, sI, sZ, sS]
  refine wpAnyG_one (i := 8) rfl (by kernel_rfl) (by kernel_rfl) (fun K hK => ?_)
  have hlen6 : (z ++ HL).length + len ≤ 4000000 := by rw [List.length_append, HZL.out, hHl]; omega
  obtain ⟨v8, W8, hrun8, hB8, hg8, hk8⟩ := run_app_buf W6 base v6 (z ++ HL) 30 hB6 x len cap b hb6 hlen6 hbs6
  refine wpx_app _ _ _ _ rfl _ _ _ _ rfl rfl hrun8 ?_
  have hne6 : v6.ownBlock ≠ some D := fun e => by
    obtain ⟨_, _, cur, hc⟩ := hB6.own D e
    exact absurd (hD6.typ hc) (by decide)
  have hD8 : CellsD W8 D 92 [.slice y zl c, .int .i64 s] := hD6.congr (hg8.block D hD6.lt (fun e => hne6 e.symm))
  have hT8 : TurnD (diskP D (.slice y zl c)) w W8 := by
    refine hT6.trans' hg8 fun k hk hw => ?_
    rcases hk6w with h | ⟨g, h, hg⟩
    · exact .inr (h.symm.trans hk)
    · rw [h] at hk
      cases hk
      omega
  have hk8w : v8.ownBlock = (Value.slice y zl c).ownBlock ∨ ∃ g, v8.ownBlock = some g ∧ w.heap.size ≤ g := by
    rcases hk8 with h | ⟨g, h, hg⟩
    · rw [h]; exact hk6w
    · exact .inr ⟨g, h, Nat.le_trans hT6.size hg⟩
  have hne8 : v8.ownBlock ≠ some D := fun e => by
    obtain ⟨_, _, cur, hc⟩ := hB8.own D e
    exact absurd (hD8.typ hc) (by decide)
  have HB8 : Veil (BufAt W8 base v8 (z ++ recL b)) := ⟨by rw [HREC.out, ← List.append_assoc]; exact hB8⟩
  obtain ⟨x8, c8, hv8, _, _⟩ := hB8.bytes
  obtain ⟨n8, hn8⟩ : ∃ q, (z ++ HL ++ b).length = q := ⟨_, rfl⟩
  rw [hn8] at hv8
  subst hv8
  have c8' : W8.cell? ⟨D, 0, none⟩ = some (.slice y zl c) := hD8.cell 0
  have f8 := hD8.frozen 0
  clear hrun8 hg8 hk8 hB8 hB6 hb6 hn8 hT6 hD6
  refine hK.out _ _ (fun h => absurd (show true = false from h) (by decide)) ?_
  clear hK K
  try simp only [Act.put, gA, gS, gZ, sI, sZ, sS]
  refine wpAnyG_any (i := 9) (v := ?_) rfl (by kernel_rfl) (by kernel_rfl) (by kernel_rfl) (fun _ _ _ h => h) (by kernel_rfl) (fun h => absurd (show true = false from h) (by decide)) (by kernel_rfl) ?_ ?_
  rotate_left
  · intro _; go_simp; try with_reducible rfl
  simp only [Act.put, gA, gS, gZ, sI, sZ, sS]
  refine wpAnyG_any (i := 10) (v := ?_) rfl (by kernel_rfl) (by kernel_rfl) (by kernel_rfl) (fun _ _ _ h => h) (by kernel_rfl) (fun h => absurd (show true = false from h) (by decide)) (by kernel_rfl) ?_ ?_
  rotate_left
  · intro _; go_simp; try with_reducible rfl
  simp only [Act.put, gA, gS, gZ, sI, sZ, sS]
  refine wpAnyG_one (i := 11) rfl (by kernel_rfl) (by kernel_rfl) (fun K hK => ?_)
  go_simp
  refine hK.out _ _ (fun h => absurd (show true = false from h) (by decide)) ?_
  clear hK K
  try simp only [Act.put, gA, gS, gZ, sI, sZ, sS]
  refine wpAnyG_done (by kernel_rfl) ?_ _
  go_wp2
  go_ret
  have hD := hDD.out
  refine ⟨rfl, .slice x8 n8 c8, ⟨hD8.set 0 _, HB8.out.congr fun g hg => Below.heap_setCell _ _ _ g (fun e => hne8 (by rw [← show g = D from e]; exact hg)), isB_append hD.isb (recL_in b hbb), ?_, ?_, hD.baseD⟩, hT8.trans (TurnD.of_setCell _ (a := ⟨D, 0, none⟩) (.inl rfl) _), hk8w⟩
  · rw [List.length_append, recL_length, HZL.out, ← HBL.out]; omega
  · rw [List.length_append]; have := hD.syn; omega
end
theorem toldN_rec (b r : List Int) (h : b.length < 65536) : dtoldN (recL b ++ r) = 10 + b.length := by
  have h0 : (recL b ++ r)[0]? = some ((b.length / 256 % 256 : Nat) : Int) := rfl
  have h1 : (recL b ++ r)[1]? = some ((b.length % 256 : Nat) : Int) := rfl
  unfold dtoldN
  rw [h0, h1, Option.getD_some, Option.getD_some, Int.toNat_natCast, Int.toNat_natCast]
  omega
theorem firstN_rec (b r : List Int) (h : b.length < 65536) : firstN (recL b ++ r) = 10 + b.length := by
  have hl : (recL b ++ r).length = 10 + b.length + r.length := by rw [List.length_append, recL_length]
  unfold firstN
  rw [toldN_rec b r h, if_neg (by omega), if_neg (by omega), if_pos]
  have e1 : (recL b ++ r).take 10 = headL b := by
    unfold recL
    rw [List.append_assoc, List.take_left' (headL_length b)]
  have e2 : ((recL b ++ r).drop 10).take (10 + b.length - 10) = b := by
    unfold recL
    rw [List.append_assoc, List.drop_left' (headL_length b), show 10 + b.length - 10 = b.length by omega, List.take_left' rfl]
  rw [e1, e2]
theorem dataK_zero (z : List Int) (h : firstN z ≠ 0) : dataK z 0 = (z.drop 10).take (firstN z - 10) := by
  unfold dataK
  rw [sumK_zero, wholeN_some z h, List.getElem?_cons_zero, Option.getD_some, Nat.zero_add]
theorem dataK_succ (z : List Int) (h : firstN z ≠ 0) (k : Nat) : dataK z (k + 1) = dataK (z.drop (firstN z)) k := by
  unfold dataK
  rw [wholeN_some z h, sumK_cons, List.getElem?_cons_succ, List.drop_drop, Nat.add_assoc]
theorem recsL_none (z : List Int) (h : firstN z = 0) : recsL z = [] := by unfold recsL; rw [wholeN_none z h]; rfl
theorem recsL_some (z : List Int) (h : firstN z ≠ 0) : recsL z = (z.drop 10).take (firstN z - 10) :: recsL (z.drop (firstN z)) := by
  have hl : (wholeN z).length = (wholeN (z.drop (firstN z))).length + 1 := by rw [wholeN_some z h, List.length_cons]
  unfold recsL
  rw [hl, List.range_succ_eq_map, List.map_cons, List.map_map, dataK_zero z h]
  congr 1
  apply List.map_congr_left
  intro k _
  exact dataK_succ z h k
theorem recsL_rec (b r : List Int) (h : b.length < 65536) : recsL (recL b ++ r) = b :: recsL r := by
  have hf := firstN_rec b r h
  rw [recsL_some _ (by omega), hf, List.drop_left' (recL_length b)]
  congr 1
  unfold recL
  rw [List.append_assoc, List.drop_left' (headL_length b), show 10 + b.length - 10 = b.length by omega, List.take_left' rfl]
theorem trimN_none (z : List Int) (h : firstN z = 0) : trimN z = 0 := by unfold trimN; rw [wholeN_none z h]; rfl
theorem trimN_some (z : List Int) (h : firstN z ≠ 0) : trimN z = firstN z + trimN (z.drop (firstN z)) := by
  unfold trimN
  rw [wholeN_some z h, List.length_cons, sumK_cons]
theorem firstN_parts (z : List Int) (h : firstN z ≠ 0) : ¬ z.length < 10 ∧ ¬ z.length < dtoldN z ∧ firstN z = dtoldN z ∧ z.take 10 = headL ((z.drop 10).take (dtoldN z - 10)) := by
  unfold firstN at h ⊢
  by_cases h1 : z.length < 10
  · rw [if_pos h1] at h; omega
  · rw [if_neg h1] at h ⊢
    by_cases h2 : z.length < dtoldN z
    · rw [if_pos h2] at h; omega
    · rw [if_neg h2] at h ⊢
      by_cases h3 : z.take 10 = headL ((z.drop 10).take (dtoldN z - 10))
      · exact ⟨h1, h2, if_pos h3, h3⟩
      · rw [if_neg h3] at h; omega
theorem toldN_append (z r : List Int) (h : ¬ z.length < 10) : dtoldN (z ++ r) = dtoldN z := by
  unfold dtoldN
  rw [List.getElem?_append_left (by omega), List.getElem?_append_left (by omega)]
theorem firstN_append (z r : List Int) (h : firstN z ≠ 0) : firstN (z ++ r) = firstN z := by
  obtain ⟨h1, h2, h3, h4⟩ := firstN_parts z h
  have ht := toldN_append z r h1
  rw [h3]
  unfold firstN
  rw [ht, if_neg (by rw [List.length_append]; omega), if_neg (by rw [List.length_append]; omega), if_pos]
  rw [List.take_append_of_le_length (by omega), List.drop_append_of_le_length (by omega), List.take_append_of_le_length (by rw [List.length_drop]; omega)]
  exact h4
theorem firstN_take (z : List Int) (h : firstN z ≠ 0) : firstN (z.take (firstN z)) = firstN z := by
  obtain ⟨h1, h2, h3, h4⟩ := firstN_parts z h
  have hle := firstN_le z
  have hge := firstN_ge z h
  have hl : (z.take (firstN z)).length = firstN z := by rw [List.length_take]; omega
  have ht : dtoldN (z.take (firstN z)) = dtoldN z := by
    unfold dtoldN
    rw [List.getElem?_take_of_lt (by omega), List.getElem?_take_of_lt (by omega)]
  unfold firstN
  rw [show (if z.length < 10 then 0 else if z.length < dtoldN z then 0 else if z.take 10 = headL ((z.drop 10).take (dtoldN z - 10)) then dtoldN z else 0) = firstN z from rfl]
  rw [ht, hl, if_neg (by omega), if_neg (by omega), if_pos, h3]
  rw [List.take_take, Nat.min_eq_left (by omega), List.drop_take, List.take_take, Nat.min_eq_left (by omega)]
  exact h4
theorem whole_take : ∀ (N : Nat) (z : List Int), z.length ≤ N → recsL (z.take (trimN z)) = recsL z ∧ trimN (z.take (trimN z)) = trimN z
  | 0, z, h => by
    have : z = [] := List.length_eq_zero_iff.1 (by omega)
    subst this
    exact ⟨by rw [List.take_nil], by rw [List.take_nil]⟩
  | N + 1, z, h => by
    by_cases h0 : firstN z = 0
    · have hn : firstN [] = 0 := by unfold firstN; rw [if_pos (by decide)]
      rw [trimN_none z h0, List.take_zero, recsL_none z h0, recsL_none [] hn, trimN_none [] hn]
      exact ⟨rfl, rfl⟩
    · have hle := firstN_le z
      have hge := firstN_ge z h0
      obtain ⟨h1, h2⟩ := whole_take N (z.drop (firstN z)) (by rw [List.length_drop]; omega)
      have hft := firstN_take z h0
      have e : z.take (trimN z) = z.take (firstN z) ++ (z.drop (firstN z)).take (trimN (z.drop (firstN z))) := by rw [trimN_some z h0, List.take_add]
      have hl : (z.take (firstN z)).length = firstN z := by rw [List.length_take]; omega
      have ha := firstN_append (z.take (firstN z)) ((z.drop (firstN z)).take (trimN (z.drop (firstN z)))) (by omega)
      rw [hft] at ha
      obtain ⟨t, ht⟩ : ∃ t, (z.drop (firstN z)).take (trimN (z.drop (firstN z))) = t := ⟨_, rfl⟩
      rw [ht] at e ha h1 h2
      rw [e]
      constructor
      · rw [recsL_some (z.take (firstN z) ++ t) (by omega), ha, List.drop_left' hl, h1, recsL_some z h0]
        congr 1
        rw [List.drop_append_of_le_length (by omega), List.take_append_of_le_length (by rw [List.length_drop]; omega), List.drop_take, List.take_take, Nat.min_eq_left (by omega)]
      · rw [trimN_some (z.take (firstN z) ++ t) (by omega), ha, List.drop_left' hl, h2, ← trimN_some z h0]
theorem recsL_join : ∀ (N : Nat) (z r : List Int), z.length ≤ N → trimN z = z.length → recsL (z ++ r) = recsL z ++ recsL r
  | 0, z, r, h, _ => by
    have : z = [] := List.length_eq_zero_iff.1 (by omega)
    subst this
    rw [recsL_none [] (by unfold firstN; rw [if_pos (by decide)])]; rfl
  | N + 1, z, r, h, ht => by
    by_cases h0 : firstN z = 0
    · rw [trimN_none z h0] at ht
      have : z = [] := List.length_eq_zero_iff.1 ht.symm
      subst this
      rw [recsL_none [] h0]; rfl
    · have hle := firstN_le z
      have hge := firstN_ge z h0
      rw [trimN_some z h0] at ht
      have ih := recsL_join N (z.drop (firstN z)) r (by rw [List.length_drop]; omega) (by rw [List.length_drop]; omega)
      have ha := firstN_append z r h0
      rw [recsL_some (z ++ r) (by omega), recsL_some z h0, ha, List.drop_append_of_le_length hle, ih, List.drop_append_of_le_length (by omega), List.take_append_of_le_length (by rw [List.length_drop]; omega)]
      rfl
def lensK (rs : List (List Int)) (k : Nat) : Nat := ((rs.take k).map fun r => 10 + r.length).sum
theorem lensK_succ (rs : List (List Int)) (k : Nat) (h : k < rs.length) : lensK rs (k + 1) = lensK rs k + (10 + rs[k].length) := by
  unfold lensK
  rw [List.take_succ_eq_append_getElem h, List.map_append, List.sum_append]
  simp only [List.map_cons, List.map_nil, List.sum_cons, List.sum_nil, Nat.add_zero]
theorem lensK_cons (r : List Int) (rs : List (List Int)) (k : Nat) : lensK (r :: rs) (k + 1) = 10 + r.length + lensK rs k := by simp [lensK]
def flatR (rs : List (List Int)) : List Int := (rs.map recL).flatten
theorem flatR_cons (r : List Int) (rs : List (List Int)) : flatR (r :: rs) = recL r ++ flatR rs := by simp [flatR]
theorem flatR_append (a b : List (List Int)) : flatR (a ++ b) = flatR a ++ flatR b := by simp [flatR]
theorem flatR_snoc (rs : List (List Int)) (r : List Int) : flatR (rs ++ [r]) = flatR rs ++ recL r := by simp [flatR]
theorem firstN_nil : firstN [] = 0 := by unfold firstN; rw [if_pos (by decide)]
theorem flatR_recs : ∀ (rs : List (List Int)), (∀ r ∈ rs, r.length < 65536) → recsL (flatR rs) = rs ∧ trimN (flatR rs) = (flatR rs).length
  | [], _ => ⟨recsL_none [] firstN_nil, trimN_none [] firstN_nil⟩
  | r :: rs, h => by
    have hr := h r (by simp)
    obtain ⟨h1, h2⟩ := flatR_recs rs fun q hq => h q (by simp [hq])
    have hf := firstN_rec r (flatR rs) hr
    rw [flatR_cons]
    refine ⟨by rw [recsL_rec r _ hr, h1], ?_⟩
    rw [trimN_some _ (by omega), hf, List.drop_left' (recL_length r), h2, List.length_append, recL_length]
theorem flatR_length : ∀ (rs : List (List Int)), (flatR rs).length = lensK rs rs.length
  | [] => rfl
  | r :: rs => by rw [flatR_cons, List.length_append, recL_length, flatR_length rs, List.length_cons, lensK_cons]
theorem lensK_take (rs : List (List Int)) (k : Nat) : lensK (rs.take k) (rs.take k).length = lensK rs k := by
  unfold lensK
  rw [List.take_length]
def wholeC (rs : List (List Int)) (kp : Nat) : Nat → Nat
  | 0 => 0
  | k + 1 => if lensK rs (k + 1) ≤ kp then wholeC rs kp k + 1 else wholeC rs kp k
theorem wholeC_le (rs : List (List Int)) (kp k : Nat) : wholeC rs kp k ≤ k := by
  induction k with
  | zero => exact Nat.le_refl _
  | succ k ih => unfold wholeC; split <;> omega
theorem wholeC_all (rs : List (List Int)) (kp k : Nat) (hk : k ≤ rs.length) (h : lensK rs k ≤ kp) : wholeC rs kp k = k := by
  induction k with
  | zero => rfl
  | succ k ih =>
    have h1 := lensK_succ rs k (by omega)
    have h2 := ih (by omega) (by omega)
    unfold wholeC
    rw [if_pos h, h2]
theorem wholeC_ends (rs : List (List Int)) (kp k : Nat) (hk : k ≤ rs.length) : lensK rs (wholeC rs kp k) ≤ kp := by
  induction k with
  | zero => simp [wholeC, lensK]
  | succ k ih =>
    have h1 := lensK_succ rs k (by omega)
    unfold wholeC
    split
    · rename_i h
      rw [wholeC_all rs kp k (by omega) (by omega)]
      exact h
    · exact ih (by omega)
theorem torn_recs (rs : List (List Int)) (kp k : Nat) (h : ∀ r ∈ rs.take k, r.length < 65536) (hk : k ≤ rs.length) : ∃ q, recsL ((flatR (rs.take k)).take kp) = rs.take (wholeC rs kp k) ++ q := by
  have hj := wholeC_le rs kp k
  have he := wholeC_ends rs kp k hk
  generalize wholeC rs kp k = j at hj he
  have e : rs.take k = rs.take j ++ (rs.take k).drop j := by
    have := (List.take_append_drop j (rs.take k)).symm
    rwa [List.take_take, Nat.min_eq_left hj] at this
  have hs : ∀ r ∈ rs.take j, r.length < 65536 := fun r hr => h r (by rw [e]; exact List.mem_append_left _ hr)
  obtain ⟨h1, h2⟩ := flatR_recs (rs.take j) hs
  have hl : (flatR (rs.take j)).length = lensK rs j := by rw [flatR_length, lensK_take rs j]
  rw [e, flatR_append, List.take_append, List.take_of_length_le (by omega)]
  exact ⟨recsL ((flatR ((rs.take k).drop j)).take (kp - (flatR (rs.take j)).length)), by rw [recsL_join _ _ _ (Nat.le_refl _) h2, h1]⟩
def byC (l : List Int) : List Value := l.map (Value.int .u8)
theorem byC_length (l : List Int) : (byC l).length = l.length := by simp [byC]
theorem byC_one (l : List Int) : ∀ v ∈ byC l, v.oneCell' = true := by
  intro v hv
  obtain ⟨x, _, rfl⟩ := List.mem_map.1 hv
  rfl
def keyZ : List Int := List.replicate 32 0
theorem bytes_range {w : World} {x : Option Addr} {n c : Nat} {z : List Int} (h : Bytes w x n c z) (h0 : 0 < n) : ∃ b off, x = some ⟨b, off, none⟩ ∧ w.rangeAt b off (byC z) := by
  rcases h.at_ with h1 | ⟨b, off, hx, hc⟩
  · omega
  · refine ⟨b, off, hx, fun j v hv => ?_⟩
    unfold byC at hv
    rw [List.getElem?_map] at hv
    cases hq : z[j]? with
    | none => simp [hq] at hv
    | some y =>
      have hj : j < z.length := (List.getElem?_eq_some_iff.1 hq).1
      rw [hc j (by rw [h.len_eq]; exact hj), hq]
      simpa [hq] using hv
theorem sizeKey32 : (Tryz.prog.info? 23).map (·.size) = some 32 := by kernel_rfl
set_option maxHeartbeats 4000000 in
theorem rkey_at (R base : Nat) (z : List Int) (o : Nat) (w : World) (hR : Rd w R base (z.drop o)) :
    Calls Tryz.prog 78 #[.pointer (some ⟨R, 0, none⟩)] w fun e w' =>
      (o + 32 ≤ z.length ∧ e = .returned (.agg (byC ((z.drop o).take 32)).toArray) ∧ Rd w' R base (z.drop (o + 32)) ∧ Took w w' R base) ∨ (z.length < o + 32 ∧ e = .panicked [wrongP] ∧ Took w w' R base) := by
  have hlt := hR.lt
  have hsz := hR.size
  have htk := fun wx (h : Rd wx R base (z.drop o)) => take_any R base (z.drop o) 32 wx h
  have HL : Veil ((z.drop o).length = z.length - o) := ⟨List.length_drop⟩
  have HD : Veil ((z.drop o).drop 32 = z.drop (o + 32)) := ⟨by rw [List.drop_drop]⟩
  have hG0 := CellsAt.new w 23 (byC keyZ)
  have hR0 := hR.alloc (.cells (byC keyZ).toArray 23)
  have hT0 : Took w (w.alloc (.cells (byC keyZ).toArray 23)) R base := Took.alloc hsz _
  have haa : ∀ (wx : World) (x : Option Addr), (Instr.arrayAt 23 (.slice x 32 32)).run Tryz.prog wx = .ok (.pointer x) wx := fun wx x => run_arrayAt wx 23 5 32 x 32 32 Tryz.underlying23 (Nat.le_refl _)
  have r1 : base ≤ w.heap.size := hsz
  have r2 : R ≠ w.heap.size := by omega
  obtain ⟨K, hK⟩ : ∃ q, (z.drop o).take 32 = q := ⟨_, rfl⟩
  have HKL : Veil (o + 32 ≤ z.length → K.length = 32) := ⟨fun h => by rw [← hK, List.length_take, List.length_drop]; omega⟩
  obtain ⟨zo, hzo⟩ : ∃ q, z.drop o = q := ⟨_, rfl⟩
  rw [hzo] at hR0 htk HL HD hK
  rw [hzo, hK]
  rw [hK] at htk
  have iZ : (byC keyZ).length = 32 := rfl
  clear hR hzo hK
  go_enter Tryz.func78, Tryz.ntmps78
  go_upto_region 1 with fail
  refine forget (p := fun y => Code.wp _ _ _ _ y) (fun W => Rd W R base zo ∧ Took w W R base ∧ CellsAt W w.heap.size 23 (byC keyZ)) ⟨hR0, hT0, hG0⟩ ?_
  clear hR0 hT0 hG0
  rintro W ⟨hR0, hT0, hG0⟩
  have h1W := htk W hR0
  clear htk
  by_cases k0 : o + 32 ≤ z.length
  rotate_left
  · have k1 : zo.length < 32 := by have := HL.out; omega
    go_wp2_with (go_at_call 101; refine h1W.mono ?_; rintro e wB (⟨hx, _⟩ | ⟨_, rfl, htB⟩); (exfalso; omega))
    exact bodyPost_gone (.inr ⟨by omega, rfl, hT0.trans htB⟩)
  have k1 : 32 ≤ zo.length := by have := HL.out; omega
  have hKL := HKL.out k0
  have iK : (Tryz.prog.info? 23).map (·.size) = some (byC K).length := by rw [byC_length, hKL]; exact sizeKey32
  have hlK : (byC keyZ).length = (byC K).length := by rw [byC_length, byC_length, hKL]; rfl
  have h1K := byC_one K
  have HB : Veil (∀ (w' : World) (x : Option Addr), Bytes w' x 32 32 K → ∃ b off, x = some ⟨b, off, none⟩ ∧ w'.rangeAt b off (byC K)) := ⟨fun w' x h => bytes_range h (by omega)⟩
  clear hKL iZ
  go_wp2_with (first
    | (go_at_call 101; refine h1W.mono ?_; rintro e w1 (⟨_, x, rfl, hy, hR1, ht1⟩ | ⟨hx, _⟩); rotate_left; (exfalso; omega); obtain ⟨b, off, rfl, hrg⟩ := HB.out _ _ (hy _ (Below.refl _ _)); have hH := hG0.took ht1 (by omega); clear hy)
    | (refine wpList_ldv rfl 23 _ rfl _ _ rfl (byC K) hrg Tryz.underlying23 rfl iK ?_)
    | (refine wpList_stv rfl 23 _ _ rfl _ rfl rfl hH iK hlK h1K ?_))
  refine bodyPost_ret (results_cell_row Tryz.results78 _ _ _ _ _ (0, 0) _ rfl (hH.setRow (byC K)) Tryz.underlying23 rfl (by rw [iK]; simp)) rfl ?_
  rw [HD.out] at hR1
  exact .inl ⟨k0, rfl, hR1.setRowO _ r1 r2, (hT0.trans ht1).setRowO _ (Nat.le_refl _) r1⟩
theorem wp_copyE {P : Program} {w : World} {o : Oper} {a : Act} {K : Act → World → Prop} {Q : Exit → Act → World → Prop} (d s : Operand) (dT sT : TypeId)
    (ho : o.op = .call { callee := .builtin .copy, args := #[d, s], argTypes := #[dT, sT] }) (elem : TypeId) (hu : P.underlying dT = some (.slice elem)) (hsz : (P.info? elem).map (·.size) = some 1)
    (g off dLen dCap : Nat) (ad : Addr) (sLen sCap : Nat) (hd : a.eval d = .slice (some ⟨g, off, none⟩) dLen dCap) (hs : a.eval s = .slice (some ad) sLen sCap)
    (cur : List Value) (t : TypeId) (hg : CellsAt w g t cur) (cs : List Value) (hn : cs.length = Nat.min sLen dLen)
    (hsrc : ∀ j v, cs[j]? = some v → w.cell? (ad.add j) = some v) (hfit : off + cs.length ≤ cur.length) (h1 : ∀ v ∈ cs, v.oneCell' = true)
    (h : K (a.put o.dst (goInt cs.length)) (w.setRow g (cur.take off ++ cs ++ cur.drop (off + cs.length)).toArray)) : o.wp P a w K Q := by
  have hrun := run_copy_row (P := P) w dT sT o.type elem g off dLen dCap ad sLen sCap cur.toArray t cs hu hsz hg hn hsrc (by simpa using hfit) h1
  rw [List.append_assoc] at h
  unfold Oper.wp
  simp [execOp, ho, resolve, invoke, builtin, hd, hs, hrun, Result.andThen]
  exact h
def wpOf (z : List Int) (o : Nat) : Wp := ⟨at1 z o, at1 z (o + 1), at4 z (o + 2), (z.drop (o + 6)).take 48⟩
theorem wp_setData (a b c : Int) (l m : List Int) (h : l.length = m.length) : ((⟨a, b, c, l⟩ : Wp).cells).take 3 ++ byC m ++ ((⟨a, b, c, l⟩ : Wp).cells).drop (3 + (byC m).length) = (⟨a, b, c, m⟩ : Wp).cells := by
  have e : ((⟨a, b, c, l⟩ : Wp).cells).drop (3 + (byC m).length) = [] := by
    apply List.drop_of_length_le
    simp [Wp.cells, dotC, byC_length, h]; omega
  rw [e, List.append_nil]; rfl
def dataZ : List Int := List.replicate 48 0
def wpZ : Wp := ⟨0, 0, 0, dataZ⟩
theorem wp_len (e : Wp) (h : e.data.length = 48) : e.cells.length = 51 := (wp_parts e h).1
set_option maxHeartbeats 8000000 in
theorem rwrap_at (R base : Nat) (z : List Int) (o : Nat) (w : World) (hR : Rd w R base (z.drop o)) (hz : ∀ v ∈ z, b8 v) :
    Calls Tryz.prog 102 #[.pointer (some ⟨R, 0, none⟩)] w fun e w' =>
      (o + 54 ≤ z.length ∧ e = .returned (.agg (wpOf z o).cells.toArray) ∧ Rd w' R base (z.drop (o + 54)) ∧ Took w w' R base) ∨ (z.length < o + 54 ∧ e = .panicked [wrongP] ∧ Took w w' R base) := by
  have hlt := hR.lt
  have hsz := hR.size
  have h1 := fun wx (h : Rd wx R base (z.drop o)) => rone_at R base z o wx h
  have h2 := fun wx (h : Rd wx R base (z.drop (o + 1))) => rdot_at R base z (o + 1) wx h hz
  have h3 := fun wx (h : Rd wx R base (z.drop (o + 6))) => take_any R base (z.drop (o + 6)) 48 wx h
  have e12 : o + 1 + 1 = o + 2 := rfl
  rw [e12] at h2
  have HWP : Veil (wpOf z o = ⟨at1 z o, at1 z (o + 1), at4 z (o + 2), (z.drop (o + 6)).take 48⟩) := ⟨rfl⟩
  have HL : Veil ((z.drop (o + 6)).length = z.length - (o + 6)) := ⟨List.length_drop⟩
  have HD : Veil ((z.drop (o + 6)).drop 48 = z.drop (o + 54)) := ⟨by rw [List.drop_drop]⟩
  obtain ⟨WP, hWP⟩ : ∃ q, wpOf z o = q := ⟨_, rfl⟩
  rw [hWP] at HWP ⊢
  obtain ⟨A, hA⟩ : ∃ q, at1 z o = q := ⟨_, rfl⟩
  obtain ⟨B, hB⟩ : ∃ q, at1 z (o + 1) = q := ⟨_, rfl⟩
  obtain ⟨C, hC⟩ : ∃ q, at4 z (o + 2) = q := ⟨_, rfl⟩
  obtain ⟨D, hD⟩ : ∃ q, (z.drop (o + 6)).take 48 = q := ⟨_, rfl⟩
  have HDL : Veil (o + 54 ≤ z.length → D.length = 48) := ⟨fun h => by rw [← hD, List.length_take, List.length_drop]; omega⟩
  rw [hA] at h1
  rw [hB, hC] at h2
  rw [hD] at h3
  rw [hA, hB, hC, hD] at HWP
  have hG0 := (CellsAt.new w 119 wpZ.cells).alloc (.cells wpZ.cells.toArray 119)
  have hG1 : CellsAt ((w.alloc (.cells wpZ.cells.toArray 119)).alloc (.cells wpZ.cells.toArray 119)) (w.heap.size + 1) 119 wpZ.cells := by
    have := CellsAt.new (w.alloc (.cells wpZ.cells.toArray 119)) 119 wpZ.cells
    rw [World.size_alloc] at this
    exact this
  have hR0 := (hR.alloc (.cells wpZ.cells.toArray 119)).alloc (.cells wpZ.cells.toArray 119)
  have hT0 : Took w ((w.alloc (.cells wpZ.cells.toArray 119)).alloc (.cells wpZ.cells.toArray 119)) R base := (Took.alloc hsz _).trans (Took.alloc (by simp; omega) _)
  have r1 : base ≤ w.heap.size + 1 := by omega
  have r2 : R ≠ w.heap.size + 1 := by omega
  have r3 : R ≠ w.heap.size := by omega
  clear hR hz hWP hA hB hC hD e12
  go_enter Tryz.func102, Tryz.ntmps102
  go_upto_region 2 with fail
  refine forget (p := fun y => Code.wp _ _ _ _ y) (fun W => Rd W R base (z.drop o) ∧ Took w W R base ∧ CellsAt W w.heap.size 119 wpZ.cells ∧ CellsAt W (w.heap.size + 1) 119 wpZ.cells) ⟨hR0, hT0, hG0, hG1⟩ ?_
  clear hR0 hT0 hG0 hG1
  rintro W ⟨hR0, hT0, hG0, hG1⟩
  have h1W := h1 W hR0
  clear h1
  by_cases k0 : o + 1 ≤ z.length
  rotate_left
  · go_upto_region 3 with (go_at_call 75; refine h1W.mono ?_; rintro e wB (⟨hx, _⟩ | ⟨_, rfl, htB⟩); (exfalso; omega))
    exact bodyPost_gone (.inr ⟨by omega, rfl, hT0.trans htB⟩)
  go_upto_region 3 with (go_at_call 75; refine h1W.mono ?_; rintro e w1 (⟨_, rfl, hR1, ht1⟩ | ⟨hx, _⟩); rotate_left; (exfalso; omega); have hH1 := hG1.took ht1 (by omega); have cj := hH1.cell 0; have fj := hH1.frozen2 0)
  have hH0 := hG0.took ht1 (by omega)
  have hH2 := hH1.set2 0 (.int .u8 A)
  refine forget (p := fun y => Code.wp _ _ _ _ y) (fun W => Rd W R base (z.drop (o + 1)) ∧ Took w W R base ∧ CellsAt W w.heap.size 119 wpZ.cells ∧ CellsAt W (w.heap.size + 1) 119 (⟨A, 0, 0, dataZ⟩ : Wp).cells) ⟨hR1.setCellO _ _ r1 r2, (hT0.trans ht1).setCellO _ _ (by show w.heap.size ≤ w.heap.size + 1; omega) r1, hH0.setOther2 _ _ (by show w.heap.size ≠ w.heap.size + 1; omega), hH2⟩ ?_
  clear h1W hR0 hT0 hG0 hG1 hH1 hH0 hH2 hR1 ht1 cj fj W
  rintro W ⟨hR0, hT0, hG0, hG1⟩
  have h1W := h2 W hR0
  clear h2
  by_cases k1 : o + 1 + 5 ≤ z.length
  rotate_left
  · go_upto_region 4 with (go_at_call 77; refine h1W.mono ?_; rintro e wB (⟨hx, _⟩ | ⟨_, rfl, htB⟩); (exfalso; omega))
    exact bodyPost_gone (.inr ⟨by omega, rfl, hT0.trans htB⟩)
  go_upto_region 4 with (first
    | (go_at_call 77; refine h1W.mono ?_; rintro e w1 (⟨_, rfl, hR1, ht1⟩ | ⟨hx, _⟩); rotate_left; (exfalso; omega); have hH1 := hG1.took ht1 (by omega))
    | (refine wpList_stm rfl 28 _ _ rfl _ 1 rfl rfl hH1 sizeDot (by show 1 + 2 ≤ 51; omega) (dot_one B C) ?_))
  have hH0 := hG0.took ht1 (by omega)
  have hH2 := hH1.setRow ((⟨A, 0, 0, dataZ⟩ : Wp).cells.take 1 ++ dotC B C ++ (⟨A, 0, 0, dataZ⟩ : Wp).cells.drop (1 + (dotC B C).length))
  have e6 : o + 1 + 5 = o + 6 := by omega
  rw [e6] at hR1
  refine forget (p := fun y => Code.wp _ _ _ _ y) (fun W => Rd W R base (z.drop (o + 6)) ∧ Took w W R base ∧ CellsAt W w.heap.size 119 wpZ.cells ∧ CellsAt W (w.heap.size + 1) 119 (⟨A, B, C, dataZ⟩ : Wp).cells) ⟨hR1.setRowO _ r1 r2, (hT0.trans ht1).setRowO _ (by omega) r1, hH0.setRowOther2 _ (by omega), hH2⟩ ?_
  clear h1W hR0 hT0 hG0 hG1 hH1 hH0 hH2 hR1 ht1 W e6
  rintro W ⟨hR0, hT0, hG0, hG1⟩
  refine wp_region_gate (fun _ => True) 6 (by kernel_rfl) ?_
  obtain ⟨D0, hD0⟩ : ∃ q, W.drew = q := ⟨_, rfl⟩
  have hb0 : Below W.heap.size W D0 := by rw [← hD0]; exact (Below.refl _ _).drew
  rw [hD0]
  have hT1 := hT0.trans (Took.afar hR0.size hb0)
  have hR1 := hR0.afar hb0
  have hH0 := hG0.took (Took.afar (R := R) hR0.size hb0) (by omega)
  have hH1 := hG1.took (Took.afar (R := R) hR0.size hb0) (by omega)
  clear hD0 hb0 hR0 hT0 hG0 hG1
  have hS : True := trivial
  have h3W := h3 D0 hR1
  clear h3
  refine ga 0 ?_ rfl (by kernel_rfl) (fun _ _ _ h => h) hS ?_ ?_
  rotate_left
  · intro _; go_simp; try with_reducible rfl
  simp only [Act.put, sI, sZ, sS]
  refine ga 1 ?_ rfl (by kernel_rfl) (fun _ _ _ h => h) hS ?_ ?_
  rotate_left
  · intro _; go_simp; try with_reducible rfl
  simp only [Act.put, sI, sZ, sS]
  refine ga 2 ?_ rfl (by kernel_rfl) (fun _ _ _ h => h) hS ?_ ?_
  rotate_left
  · intro _; go_simp; try with_reducible rfl
  simp only [Act.put, sI, sZ, sS]
  refine ga 3 ?_ rfl (by kernel_rfl) (fun _ _ _ h => h) hS ?_ ?_
  rotate_left
  · intro _; go_simp; try with_reducible rfl
  simp only [Act.put, sI, sZ, sS]
  refine ga 4 ?_ rfl (by kernel_rfl) (fun _ _ _ h => h) hS ?_ ?_
  rotate_left
  · intro _; go_simp; try with_reducible rfl
  simp only [Act.put, sI, sZ, sS]
  refine wpAnyG_one (i := 5) rfl (by kernel_rfl) (by kernel_rfl) (fun K hK => ?_)
  by_cases k2 : o + 54 ≤ z.length
  rotate_left
  · have k3 : (z.drop (o + 6)).length < 48 := by rw [HL.out]; omega
    go_wp2_with (go_at_call 101; refine h3W.mono ?_; rintro e wB (⟨hx, _⟩ | ⟨_, rfl, htB⟩); (exfalso; omega))
    exact bodyPost_gone (.inr ⟨by omega, rfl, hT1.trans htB⟩)
  have k3 : 48 ≤ (z.drop (o + 6)).length := by rw [HL.out]; omega
  have hDL := HDL.out k2
  go_wp2_with (go_at_call 101; refine h3W.mono ?_; rintro e w1 (⟨_, x, rfl, hy, hR2, ht2⟩ | ⟨hx, _⟩); rotate_left; (exfalso; omega))
  obtain ⟨b, off, rfl, hrg⟩ := bytes_range (hy _ (Below.refl _ _)) (by omega)
  have hJ1 := hH1.took ht2 (by omega)
  have hJ0 := hH0.took ht2 (by omega)
  clear hy h3W hH1 hH0
  refine hK.out _ _ (fun _ => hS) ?_
  clear hK K
  refine wpAnyG_one (i := 6) rfl (by kernel_rfl) (by kernel_rfl) (fun K hK => ?_)
  refine wp_copyE _ _ _ _ rfl 5 Tryz.underlying30 (by kernel_rfl) (w.heap.size + 1) 3 48 48 ⟨b, off, none⟩ 48 48 rfl rfl (⟨A, B, C, dataZ⟩ : Wp).cells 119 hJ1 (byC D) (by rw [byC_length, hDL]; rfl) (fun j v hv => by rw [Addr.add_mid]; exact hrg j v hv) (by have := wp_len (⟨A, B, C, dataZ⟩ : Wp) rfl; rw [byC_length, hDL]; omega) (byC_one D) ?_
  refine hK.out _ _ (fun h => absurd (show true = false from h) (by decide)) ?_
  clear hK K
  refine wpAnyG_done (by kernel_rfl) ?_ _
  simp only [Act.put, gA, gS, gZ, sI, sZ, sS]
  go_upto_region 5 with fail
  have hJ2 := hJ1.setRow ((⟨A, B, C, dataZ⟩ : Wp).cells.take 3 ++ byC D ++ (⟨A, B, C, dataZ⟩ : Wp).cells.drop (3 + (byC D).length))
  have HSD := wp_setData A B C dataZ D (by rw [hDL]; rfl)
  rw [HD.out] at hR2
  have HWC : Veil (WP.data.length = 48) := ⟨by rw [HWP.out]; exact hDL⟩
  refine forget (p := fun y => Code.wp _ _ _ _ y) (fun W => Rd W R base (z.drop (o + 54)) ∧ Took w W R base ∧ CellsAt W w.heap.size 119 wpZ.cells ∧ CellsAt W (w.heap.size + 1) 119 WP.cells) ⟨hR2.setRowO _ r1 r2, (hT1.trans ht2).setRowO _ (by omega) r1, hJ0.setRowOther2 _ (by omega), by rw [HWP.out, ← HSD]; exact hJ2⟩ ?_
  clear hJ0 hJ1 hJ2 hR2 ht2 hT1 hR1 HSD hrg hDL W
  rintro W ⟨hR0, hT0, hG0, hG1⟩
  have rE := hG1.whole2
  have iW : (Tryz.prog.info? 119).map (·.size) = some WP.cells.length := by rw [wp_len WP HWC.out]; exact sizeWrap
  have hlW : wpZ.cells.length = WP.cells.length := by rw [wp_len WP HWC.out]; rfl
  obtain ⟨_, _, _, _, h1Wp⟩ := wp_parts WP HWC.out
  go_wp2_with (first
    | (refine wpList_ldv rfl 119 _ rfl _ _ rfl WP.cells rE Tryz.underlying119 rfl iW ?_)
    | (refine wpList_stv rfl 119 _ _ rfl _ rfl rfl hG0 iW hlW h1Wp ?_))
  refine bodyPost_ret (results_cell_row (Tryz.results102) _ _ _ _ _ (0, 0) _ rfl (hG0.setRow WP.cells) Tryz.underlying119 rfl (by rw [iW]; simp)) rfl ?_
  exact .inl ⟨k2, rfl, hR0.setRowO _ hsz r3, hT0.setRowO _ (Nat.le_refl _) hsz⟩
def wpsC (l : List Wp) : List Value := (l.map Wp.cells).flatten
def wpsOk (l : List Wp) : Prop := ∀ e ∈ l, e.data.length = 48
theorem wpsC_app (a b : List Wp) : wpsC (a ++ b) = wpsC a ++ wpsC b := by simp [wpsC]
theorem wpsC_len (l : List Wp) (h : wpsOk l) : (wpsC l).length = l.length * 51 := by
  induction l with
  | nil => rfl
  | cons e l ih =>
    have h1 := ih (fun x hx => h x (by simp [hx]))
    unfold wpsC at h1 ⊢
    rw [List.map_cons, List.flatten_cons, List.length_append, h1, wp_len e (h e (by simp)), List.length_cons]; omega
def wpsN (z : List Int) (o n : Nat) : List Wp := (List.range n).map fun i => wpOf z (o + 54 * i)
theorem wpsN_succ (z : List Int) (o n : Nat) : wpsN z o (n + 1) = wpsN z o n ++ [wpOf z (o + 54 * n)] := by unfold wpsN; rw [List.range_succ, List.map_append]; rfl
theorem wpsN_len (z : List Int) (o n : Nat) : (wpsN z o n).length = n := by simp [wpsN]
theorem wpsN_ok (z : List Int) (o n : Nat) (h : o + 54 * n ≤ z.length) : wpsOk (wpsN z o n) := fun e he => by
  obtain ⟨i, hi, rfl⟩ := List.mem_map.1 he
  have := List.mem_range.1 hi
  unfold wpOf
  simp only [List.length_take, List.length_drop]
  omega
theorem wrapZero_info : (Tryz.prog.info? 119).map (fun i => (i.zero, i.size, i.bytes)) = some (some (.agg zeroWp.toArray), 51, 60) := by kernel_rfl
theorem run_makeWraps (n : Nat) (hn : n ≤ 64) : ∃ M : List Value, M.length = n * 51 ∧ ∀ wx : World, (Instr.makeSlice 29 (.int .i64 (n : Int)) (.int .i64 (n : Int))).run Tryz.prog wx = .ok (.slice (some ⟨wx.heap.size, 0, none⟩) n n) (wx.alloc (.cells M.toArray 119)) := by
  have h := wrapZero_info
  cases hq : Tryz.prog.info? 119 with
  | none => simp [hq] at h
  | some i =>
    simp only [hq, Option.map_some, Option.some.injEq, Prod.mk.injEq] at h
    obtain ⟨h1, h2, h3⟩ := h
    refine ⟨(madeCells zeroWp.toArray (n * 51)).toList, by rw [Array.length_toList, size_madeCells], fun wx => ?_⟩
    have := run_make (P := Tryz.prog) wx 29 119 i _ Tryz.underlying29 hq h1 .i64 .i64 (n : Int) (n : Int) (by omega) (by omega) (by rw [h3]; omega) (by omega)
    rw [this, h2]
    simp [Value.cells]
def wpsCond (z : List Int) (o : Nat) : Prop := o + 1 ≤ z.length ∧ at1 z o ≤ 64 ∧ o + 1 + 54 * (at1 z o).toNat ≤ z.length
set_option maxHeartbeats 8000000 in
theorem rwraps_at (R base : Nat) (z : List Int) (o : Nat) (w : World) (hR : Rd w R base (z.drop o)) (hz : ∀ v ∈ z, b8 v) :
    Calls Tryz.prog 79 #[.pointer (some ⟨R, 0, none⟩)] w fun e w' =>
      (wpsCond z o ∧ ∃ G, e = .returned (.slice (some ⟨G, 0, none⟩) (at1 z o).toNat (at1 z o).toNat) ∧ w.heap.size ≤ G ∧ CellsAt w' G 119 (wpsC (wpsN z (o + 1) (at1 z o).toNat)) ∧ Rd w' R base (z.drop (o + 1 + 54 * (at1 z o).toNat)) ∧ Took w w' R base) ∨ (¬ wpsCond z o ∧ e = .panicked [wrongP] ∧ Took w w' R base) := by
  have hlt := hR.lt
  have hsz := hR.size
  have h8 := b8_get hz o
  have h1 := rone_at R base z o w hR
  have hwp := fun (j : Nat) wx (h : Rd wx R base (z.drop (o + 1 + 54 * j))) => rwrap_at R base z (o + 1 + 54 * j) wx h hz
  have HC : Veil (wpsCond z o ↔ (o + 1 ≤ z.length ∧ at1 z o ≤ 64 ∧ o + 1 + 54 * (at1 z o).toNat ≤ z.length)) := ⟨Iff.rfl⟩
  obtain ⟨CO, hCO⟩ : ∃ q, wpsCond z o = q := ⟨_, rfl⟩
  rw [hCO] at HC ⊢
  obtain ⟨n, hn⟩ : ∃ n : Nat, at1 z o = (n : Int) := ⟨(at1 z o).toNat, by unfold at1; omega⟩
  rw [hn] at h1 HC ⊢
  rw [Int.toNat_natCast] at HC ⊢
  have hn255 : n ≤ 255 := by
    have : at1 z o ≤ 255 := h8.2
    omega
  have HS : Veil (∀ j, wpsN z (o + 1) (j + 1) = wpsN z (o + 1) j ++ [wpOf z (o + 1 + 54 * j)]) := ⟨wpsN_succ z (o + 1)⟩
  have HLN : Veil (∀ j, (wpsN z (o + 1) j).length = j) := ⟨wpsN_len z (o + 1)⟩
  have HOK : Veil (∀ j, o + 1 + 54 * j ≤ z.length → wpsOk (wpsN z (o + 1) j)) := ⟨wpsN_ok z (o + 1)⟩
  have hwr : IntKind.i64.wrap (n : Int) = (n : Int) := by rw [IntKind.wrap_i64]; omega
  clear hz h8 hn hCO
  go_enter Tryz.func79, Tryz.ntmps79
  by_cases k0 : o + 1 ≤ z.length
  rotate_left
  · go_upto_region 2 with (go_at_call 75; refine h1.mono ?_; rintro e wB (⟨hx, _⟩ | ⟨_, rfl, htB⟩); (exfalso; omega))
    exact bodyPost_gone (.inr ⟨fun h => k0 (HC.out.1 h).1, rfl, htB⟩)
  go_upto_region 2 with (go_at_call 75; refine h1.mono ?_; rintro e w1 (⟨_, rfl, hR1, ht1⟩ | ⟨hx, _⟩); rotate_left; (exfalso; omega))
  by_cases k1 : n ≤ 64
  rotate_left
  · have hnb : ¬ (n : Int) ≤ 64 := by omega
    have hnd := need_bad w1
    go_upto_region 3 with (go_at_call 74; refine hnd.mono ?_; rintro e w2 ⟨rfl, rfl⟩)
    exact bodyPost_gone (.inr ⟨fun h => by have := (HC.out.1 h).2.1; omega, rfl, ht1⟩)
  have hnb : (n : Int) ≤ 64 := by omega
  have hnd := need_ok w1
  go_upto_region 3 with (go_at_call 74; refine hnd.mono ?_; rintro e w2 ⟨⟨r2, rfl⟩, rfl⟩)
  obtain ⟨M, hM, hmk⟩ := run_makeWraps n k1
  have HM : Veil (M.length = n * 51) := ⟨hM⟩
  have hG0 := CellsAt.new w1 119 M
  have hR2 := hR1.alloc (.cells M.toArray 119)
  have ht2 := ht1.trans (Took.alloc hR1.size (.cells M.toArray 119))
  have hge : w.heap.size ≤ w1.heap.size := ht1.more
  clear hM h1 hnd
  go_upto_region 4 with fail
  refine forget (p := fun y => Code.wp _ _ _ _ y) (fun W => Rd W R base (z.drop (o + 1 + 54 * 0)) ∧ Took w W R base ∧ CellsAt W w1.heap.size 119 M) ⟨hR2, ht2, hG0⟩ ?_
  obtain ⟨G, hG⟩ : ∃ q, w1.heap.size = q := ⟨_, rfl⟩
  have hbG : base ≤ G := by rw [← hG]; exact hR1.size
  rw [hG] at hge ⊢
  clear hG0 hR2 ht2 hR1 ht1 hmk hG
  have hRG : R ≠ G := by omega
  rintro W ⟨hR0, hT0, hG0⟩
  go_wp2_with fail
  go_loopw [5, 16] (fun _ q wr => ∃ j : Nat, j ≤ n ∧ q = .int .i64 j ∧ o + 1 + 54 * j ≤ z.length ∧ Rd wr R base (z.drop (o + 1 + 54 * j)) ∧ Took w wr R base ∧ CellsAt wr G 119 (wpsC (wpsN z (o + 1) j) ++ M.drop (j * 51))) (fun _ q _ => n - (intOf q).toNat)
  case atStart => exact ⟨0, by omega, rfl, by omega, hR0, hT0, by simpa [wpsN, wpsC] using hG0⟩
  case round =>
    clear hR0 hT0 hG0 W
    obtain ⟨j, hj, rfl, hzl, hR0, hT0, hG0⟩ := hrel
    by_cases hltn : j < n
    · have h1W := hwp j wr hR0
      have hok := HOK.out j hzl
      have hlj := wpsC_len _ hok
      rw [HLN.out j] at hlj
      have HE : Veil (o + 1 + 54 * j + 54 ≤ z.length → (wpsC (wpsN z (o + 1) j) ++ M.drop (j * 51)).take (j * 51) ++ (wpOf z (o + 1 + 54 * j)).cells ++ (wpsC (wpsN z (o + 1) j) ++ M.drop (j * 51)).drop (j * 51 + (wpOf z (o + 1 + 54 * j)).cells.length) = wpsC (wpsN z (o + 1) (j + 1)) ++ M.drop ((j + 1) * 51)) := ⟨fun hq => by
        have hl1 : (wpOf z (o + 1 + 54 * j)).cells.length = 51 := wp_len _ (by unfold wpOf; simp only [List.length_take, List.length_drop]; omega)
        rw [HS.out j, wpsC_app, List.take_left' hlj, hl1, ← List.drop_drop, List.drop_left' hlj, List.drop_drop, show j * 51 + 51 = (j + 1) * 51 by omega]
        simp [wpsC]⟩
      have HLC : Veil ((wpsC (wpsN z (o + 1) j) ++ M.drop (j * 51)).length = n * 51) := ⟨by rw [List.length_append, hlj, List.length_drop, HM.out]; omega⟩
      have HWL : Veil (o + 1 + 54 * j + 54 ≤ z.length → (wpOf z (o + 1 + 54 * j)).data.length = 48) := ⟨fun hq => by unfold wpOf; simp only [List.length_take, List.length_drop]; omega⟩
      obtain ⟨C0, hC0⟩ : ∃ q, wpsC (wpsN z (o + 1) j) ++ M.drop (j * 51) = q := ⟨_, rfl⟩
      obtain ⟨C1, hC1⟩ : ∃ q, wpsC (wpsN z (o + 1) (j + 1)) ++ M.drop ((j + 1) * 51) = q := ⟨_, rfl⟩
      obtain ⟨E, hE⟩ : ∃ q, wpOf z (o + 1 + 54 * j) = q := ⟨_, rfl⟩
      have HC1 : Veil (wpsC (wpsN z (o + 1) (j + 1)) ++ M.drop ((j + 1) * 51) = C1) := ⟨hC1⟩
      rw [hC0] at hG0 HE HLC
      rw [hE] at h1W HE HWL
      rw [hC1] at HE
      have hj0 : (0 : Int) ≤ (j : Int) := by omega
      have hjn : (j : Int) < (n : Int) := by omega
      clear hok hlj hC0 hC1 hE
      by_cases k2 : o + 1 + 54 * j + 54 ≤ z.length
      rotate_left
      · go_wp2_with (go_at_call 102; refine h1W.mono ?_; rintro e wB (⟨hx, _⟩ | ⟨_, rfl, htB⟩); (exfalso; omega))
        exact bodyPost_gone (.inr ⟨fun h => by have := (HC.out.1 h).2.2; omega, rfl, hT0.trans htB⟩)
      have hEd := HWL.out k2
      have iW : (Tryz.prog.info? 119).map (·.size) = some E.cells.length := by rw [wp_len E hEd]; exact sizeWrap
      have hfit : j * 51 + E.cells.length ≤ C0.length := by rw [wp_len E hEd, HLC.out]; omega
      obtain ⟨_, _, _, _, h1E⟩ := wp_parts E hEd
      have HE1 := Veil.mk (HE.out k2)
      have HEl := Veil.mk (wp_len E hEd)
      clear hEd HE
      go_wp2_with (first
        | (go_at_call 102; refine h1W.mono ?_; rintro e w1 (⟨_, rfl, hR1, ht1⟩ | ⟨hx, _⟩); rotate_left; (exfalso; omega); have hH1 := hG0.took ht1 (by omega))
        | (refine wpList_stm rfl 119 _ _ rfl _ (j * 51) rfl rfl hH1 iW hfit h1E ?_))
      have hH2 := hH1.setRow (C0.take (j * 51) ++ E.cells ++ C0.drop (j * 51 + E.cells.length))
      have e54 : o + 1 + 54 * j + 54 = o + 1 + 54 * (j + 1) := by omega
      rw [e54] at hR1
      clear e54
      go_roundw
      case rel => exact ⟨j + 1, by omega, by go_num, by omega, hR1.setRowO _ hbG hRG, (hT0.trans ht1).setRowO _ hge hbG, by rw [HC1.out, ← HE1.out]; rw [HEl.out] at hH2 ⊢; simpa only [List.append_assoc] using hH2⟩
      case measure => simp [intOf]; omega
    · obtain rfl : j = n := by omega
      rw [List.drop_of_length_le (by rw [HM.out]; omega), List.append_nil] at hG0
      have hnn : ¬ (j : Int) < (j : Int) := by omega
      clear hwp
      go_wp2
      go_ret
      exact .inl ⟨HC.out.2 ⟨k0, hnb, hzl⟩, G, rfl, hge, hG0, hR0, hT0⟩
def told2 (z : List Int) (o : Nat) : Nat := (val2 (at1 z o) (at1 z (o + 1))).toNat
def bodyCond (z : List Int) (o : Nat) : Prop := o + 2 ≤ z.length ∧ told2 z o ≤ 4112 ∧ o + 2 + told2 z o ≤ z.length
set_option maxHeartbeats 4000000 in
theorem rbody_at (R base : Nat) (z : List Int) (o : Nat) (w : World) (hR : Rd w R base (z.drop o)) (hz : ∀ v ∈ z, b8 v) :
    Calls Tryz.prog 80 #[.pointer (some ⟨R, 0, none⟩)] w fun e w' =>
      (bodyCond z o ∧ ∃ v, e = .returned v ∧ OwnB w' w.heap.size v ((z.drop (o + 2)).take (told2 z o)) ∧ Rd w' R base (z.drop (o + 2 + told2 z o)) ∧ Took w w' R base) ∨ (¬ bodyCond z o ∧ e = .panicked [wrongP] ∧ Took w w' R base) := by
  have hlt := hR.lt
  have ha := b8_get hz o
  have hb := b8_get hz (o + 1)
  have h2 := rtwo_any R base (z.drop o) w hR (fun v hv => hz v (List.mem_of_mem_drop hv))
  rw [drop_at, drop_at, List.drop_drop] at h2
  have hv : val2 (z[o + 0]?.getD 0) (z[o + 1]?.getD 0) = ((told2 z o : Nat) : Int) := by
    unfold told2 val2 at1
    rw [Nat.add_zero]
    have e1 : 0 ≤ z[o]?.getD 0 := ha.1
    have e2 : 0 ≤ z[o + 1]?.getD 0 := hb.1
    omega
  rw [hv] at h2
  have HC : Veil (bodyCond z o ↔ (o + 2 ≤ z.length ∧ told2 z o ≤ 4112 ∧ o + 2 + told2 z o ≤ z.length)) := ⟨Iff.rfl⟩
  obtain ⟨CO, hCO⟩ : ∃ q, bodyCond z o = q := ⟨_, rfl⟩
  rw [hCO] at HC ⊢
  have ht := fun (n : Nat) wx (h : Rd wx R base (z.drop (o + 2))) => take_any R base (z.drop (o + 2)) n wx h
  obtain ⟨n, hn⟩ : ∃ q, told2 z o = q := ⟨_, rfl⟩
  rw [hn] at h2 HC ⊢
  have HL0 : Veil ((z.drop o).length = z.length - o) := ⟨List.length_drop⟩
  have HL : Veil ((z.drop (o + 2)).length = z.length - (o + 2)) := ⟨List.length_drop⟩
  have HD : Veil ((z.drop (o + 2)).drop n = z.drop (o + 2 + n)) := ⟨by rw [List.drop_drop]⟩
  have hcl := fun (x : Option Addr) wx (h : Bytes wx x n n ((z.drop (o + 2)).take n)) (hl : n ≤ 1000000) => clone_any x n n ((z.drop (o + 2)).take n) wx h hl
  obtain ⟨B, hB⟩ : ∃ q, (z.drop (o + 2)).take n = q := ⟨_, rfl⟩
  have htn := fun wx h => ht n wx h
  rw [hB] at hcl htn ⊢
  clear ht hn hCO hv ha hb hz hB hR
  go_enter Tryz.func80, Tryz.ntmps80
  by_cases k0 : o + 2 ≤ z.length
  rotate_left
  · have k0' : (z.drop o).length < 2 := by rw [HL0.out]; omega
    go_upto_region 2 with (go_at_call 103; refine h2.mono ?_; rintro e wB (⟨hx, _⟩ | ⟨_, rfl, htB⟩); (exfalso; omega))
    exact bodyPost_gone (.inr ⟨fun h => k0 (HC.out.1 h).1, rfl, htB⟩)
  have k0' : 2 ≤ (z.drop o).length := by rw [HL0.out]; omega
  go_upto_region 2 with (go_at_call 103; refine h2.mono ?_; rintro e w1 (⟨_, rfl, hR1, ht1⟩ | ⟨hx, _⟩); rotate_left; (exfalso; omega))
  clear h2 k0'
  by_cases k1 : n ≤ 4112
  rotate_left
  · have hnb : ¬ (n : Int) ≤ 4112 := by omega
    have hnd := need_bad w1
    go_upto_region 3 with (go_at_call 74; refine hnd.mono ?_; rintro e w2 ⟨rfl, rfl⟩)
    exact bodyPost_gone (.inr ⟨fun h => k1 (HC.out.1 h).2.1, rfl, ht1⟩)
  have hnb : (n : Int) ≤ 4112 := by omega
  have hnd := need_ok w1
  go_upto_region 3 with (go_at_call 74; refine hnd.mono ?_; rintro e w2 ⟨⟨r2, rfl⟩, rfl⟩)
  have h3 := htn w1 hR1
  clear hnd htn hnb
  by_cases k2 : o + 2 + n ≤ z.length
  rotate_left
  · have k2' : (z.drop (o + 2)).length < n := by rw [HL.out]; omega
    go_wp2_with (go_at_call 101; refine h3.mono ?_; rintro e wB (⟨hx, _⟩ | ⟨_, rfl, htB⟩); (exfalso; omega))
    exact bodyPost_gone (.inr ⟨fun h => k2 (HC.out.1 h).2.2, rfl, ht1.trans htB⟩)
  have k2' : n ≤ (z.drop (o + 2)).length := by rw [HL.out]; omega
  go_wp2_with (first
    | (go_at_call 101; refine h3.mono ?_; rintro e w2 (⟨_, x, rfl, hy, hR2, ht2⟩ | ⟨hx, _⟩); rotate_left; (exfalso; omega); have hc2 := hcl x w2 (hy _ (Below.refl _ _)) (by omega))
    | (go_at_call 104; refine hc2.mono ?_; rintro e w3 ⟨v3, rfl, ho3, hb3⟩))
  have ht12 := ht1.trans ht2
  have hR3 := hR2.afar hb3
  have ht3 := ht12.trans (Took.afar hR2.size hb3)
  rw [HD.out] at hR3
  go_ret
  exact .inl ⟨HC.out.2 ⟨k0, k1, k2⟩, _, rfl, ho3.lessG ht12.more, hR3, ht3⟩
def fr00 : Fr := ⟨0, 0, 0, 0, List.replicate 32 0, .slice none 0 0, .slice none 0 0, List.replicate 32 0⟩
theorem zeroFrame_info : (Tryz.prog.info? 32).map (fun i => i.zero) = some (some (.agg fr00.cells.toArray)) := by kernel_rfl
theorem zeroFrame (wx : World) : (zeroValue 32).run Tryz.prog wx = .ok (.agg fr00.cells.toArray) wx := by
  have h := zeroFrame_info
  cases hq : Tryz.prog.info? 32 with
  | none => simp [hq] at h
  | some i =>
    have hz : i.zero = some (.agg fr00.cells.toArray) := by simpa [hq] using h
    simp [zeroValue, typeInfo, hq, hz]
theorem CellsAt.setOther {w : World} {g : Nat} {t : TypeId} {cs : List Value} (h : CellsAt w g t cs) (a : Addr) (v : Value) (hne : g ≠ a.block) : CellsAt (w.setCell a v) g t cs := by
  unfold CellsAt at h ⊢
  rw [heap_setCell_other w a g v hne]; exact h
theorem CellsAt.whole {w : World} {g : Nat} {t : TypeId} {cs : List Value} (h : CellsAt w g t cs) : w.rangeAt g 0 cs := fun j v hv => by rw [Nat.zero_add, h.cell]; exact hv
theorem fr_setW (F : Fr) (v : Value) (hp : F.prev.length = 32) : F.cells.set 36 v = ({ F with wraps := v } : Fr).cells := by
  have e0 : ∀ G : Fr, G.cells = ([.int .u8 G.author, .int .u32 G.number] ++ dotC G.ea G.es ++ G.prev.map (Value.int .u8)) ++ ([G.wraps, G.body] ++ G.mac.map (Value.int .u8)) := fun G => by unfold Fr.cells; simp only [List.append_assoc]
  have hl : (([.int .u8 F.author, .int .u32 F.number] : List Value) ++ dotC F.ea F.es ++ F.prev.map (Value.int .u8)).length = 36 := by simp [dotC, hp]
  rw [e0 F, e0 _, List.set_append_right _ _ (by omega), hl]; rfl
theorem fr_setB (F : Fr) (v : Value) (hp : F.prev.length = 32) : F.cells.set 37 v = ({ F with body := v } : Fr).cells := by
  have e0 : ∀ G : Fr, G.cells = ([.int .u8 G.author, .int .u32 G.number] ++ dotC G.ea G.es ++ G.prev.map (Value.int .u8)) ++ ([G.wraps, G.body] ++ G.mac.map (Value.int .u8)) := fun G => by unfold Fr.cells; simp only [List.append_assoc]
  have hl : (([.int .u8 F.author, .int .u32 F.number] : List Value) ++ dotC F.ea F.es ++ F.prev.map (Value.int .u8)).length = 36 := by simp [dotC, hp]
  rw [e0 F, e0 _, List.set_append_right _ _ (by omega), hl]; rfl
theorem fr_one (F : Fr) (x y : Option Addr) (l c m d : Nat) (hw : F.wraps = .slice x l c) (hb : F.body = .slice y m d) : ∀ v ∈ F.cells, v.oneCell' = true := by
  intro v hv
  unfold Fr.cells dotC at hv
  rw [hw, hb] at hv
  simp only [List.mem_append, List.mem_cons, List.not_mem_nil, or_false, List.mem_map] at hv
  rcases hv with ((((rfl | rfl) | (rfl | rfl)) | ⟨_, _, rfl⟩) | (rfl | rfl)) | ⟨_, _, rfl⟩ <;> rfl
def fN (z : List Int) : Nat := (at1 z 44).toNat
def fQ (z : List Int) : Nat := 45 + 54 * fN z
def fM (z : List Int) : Nat := told2 z (fQ z)
def fO (z : List Int) : Nat := fQ z + 2 + fM z
def frOf (z : List Int) (wv bv : Value) : Fr := ⟨at1 z 2, at4 z 3, at1 z 7, at4 z 8, (z.drop 12).take 32, wv, bv, (z.drop (fO z)).take 32⟩
def wsOf (z : List Int) : List Wp := wpsN z 45 (fN z)
def boOf (z : List Int) : List Int := (z.drop (fQ z + 2)).take (fM z)
def frameOk (z : List Int) : Prop := at1 z 0 = 69 ∧ at1 z 1 = 83 ∧ wpsCond z 44 ∧ bodyCond z (fQ z) ∧ fO z + 32 ≤ z.length
theorem frC_dot (a n e s : Int) (p : List Int) (v b : Value) (m : List Int) (e' s' : Int) : ((⟨a, n, e, s, p, v, b, m⟩ : Fr).cells).take 2 ++ dotC e' s' ++ ((⟨a, n, e, s, p, v, b, m⟩ : Fr).cells).drop (2 + (dotC e' s').length) = (⟨a, n, e', s', p, v, b, m⟩ : Fr).cells := rfl
theorem frC_prev (a n e s : Int) (p : List Int) (v b : Value) (m q : List Int) (h : p.length = q.length) : ((⟨a, n, e, s, p, v, b, m⟩ : Fr).cells).take 4 ++ byC q ++ ((⟨a, n, e, s, p, v, b, m⟩ : Fr).cells).drop (4 + (byC q).length) = (⟨a, n, e, s, q, v, b, m⟩ : Fr).cells := by
  have e1 : ((⟨a, n, e, s, p, v, b, m⟩ : Fr).cells).drop (4 + (byC q).length) = [v, b] ++ m.map (Value.int .u8) := by
    have : (⟨a, n, e, s, p, v, b, m⟩ : Fr).cells = ([.int .u8 a, .int .u32 n] ++ dotC e s ++ p.map (Value.int .u8)) ++ ([v, b] ++ m.map (Value.int .u8)) := by unfold Fr.cells; simp only [List.append_assoc]
    rw [this, List.drop_left' (by simp [dotC, byC_length, h]; omega)]
  rw [e1]
  unfold Fr.cells byC
  simp [dotC]
theorem frC_mac (a n e s : Int) (p : List Int) (v b : Value) (m q : List Int) (hp : p.length = 32) (h : m.length = q.length) : ((⟨a, n, e, s, p, v, b, m⟩ : Fr).cells).take 38 ++ byC q ++ ((⟨a, n, e, s, p, v, b, m⟩ : Fr).cells).drop (38 + (byC q).length) = (⟨a, n, e, s, p, v, b, q⟩ : Fr).cells := by
  have e0 : (⟨a, n, e, s, p, v, b, m⟩ : Fr).cells = ([.int .u8 a, .int .u32 n] ++ dotC e s ++ p.map (Value.int .u8) ++ [v, b]) ++ m.map (Value.int .u8) := rfl
  have e1 : ((⟨a, n, e, s, p, v, b, m⟩ : Fr).cells).drop (38 + (byC q).length) = [] := by
    apply List.drop_of_length_le
    rw [e0]; simp [dotC, byC_length, h, hp]; omega
  have e2 : ((⟨a, n, e, s, p, v, b, m⟩ : Fr).cells).take 38 = [.int .u8 a, .int .u32 n] ++ dotC e s ++ p.map (Value.int .u8) ++ [v, b] := by
    rw [e0, List.take_left' (by simp [dotC, hp])]
  rw [e1, e2, List.append_nil]; rfl
theorem OwnB.keepF {w w' : World} {base g0 : Nat} {v : Value} {z : List Int} {t : TypeId} {cs : List Value} (h : OwnB w base v z) (hc : CellsAt w g0 t cs) (ht : t ≠ 5) (hk : ∀ g, g ≠ g0 → w'.heap[g]? = w.heap[g]?) : OwnB w' base v z := h.keepT hc ht hk
theorem OwnB.tookF {w w' : World} {base base' R : Nat} {v u : Value} {z : List Int} (h : OwnB w base v z) (hb : Box w R 149 u) (ht : Took w w' R base') : OwnB w' base v z := by
  refine ⟨h.1, ?_⟩
  rcases h.2 with h' | ⟨g, cap, cur, h1, h2, h3, h4⟩
  · exact .inl h'
  · refine .inr ⟨g, cap, cur, h1, h2, ?_, h4⟩
    rw [ht.kept g (Array.getElem?_eq_some_iff.1 h3).1 (fun e => by
      subst e
      unfold Box at hb
      rw [hb] at h3
      have := Option.some.inj h3
      injection this with _ e2 _
      revert e2; decide)]
    exact h3
theorem CellsAt.typ {w : World} {g g' : Nat} {t t' : TypeId} {cs cs' : List Value} (h : CellsAt w g t cs) (h' : CellsAt w g' t' cs') (e : g' = g) : t = t' := by
  subst e
  unfold CellsAt at h h'
  rw [h] at h'
  have := Option.some.inj h'
  injection this
theorem fr_len (f : Fr) (hp : f.prev.length = 32) (hm : f.mac.length = 32) : f.cells.length = 70 := (fr_parts f hp hm).1
def frZ : Fr := ⟨0, 0, 0, 0, keyZ, .slice none 0 0, .slice none 0 0, keyZ⟩
theorem zeroFrL : ∃ Z : List Value, (∀ wx : World, (zeroValue 32).run Tryz.prog wx = .ok (.agg Z.toArray) wx) ∧ ¬ Z.toArray = #[] ∧ Z = frZ.cells :=
  ⟨fr00.cells, zeroFrame, by intro h; have := congrArg Array.size h; revert this; decide, rfl⟩
set_option maxHeartbeats 8000000 in
theorem rframe_any (R base : Nat) (z : List Int) (w : World) (hR : Rd w R base z) (hz : ∀ v ∈ z, b8 v) :
    Calls Tryz.prog 42 #[.pointer (some ⟨R, 0, none⟩)] w fun e w' =>
      (frameOk z ∧ ∃ G x m c, e = .returned (.agg (frOf z (.slice (some ⟨G, 0, none⟩) (fN z) (fN z)) (.slice x m c)).cells.toArray) ∧ w.heap.size ≤ G ∧ CellsAt w' G 119 (wpsC (wsOf z)) ∧ OwnB w' w.heap.size (.slice x m c) (boOf z) ∧ Rd w' R base (z.drop (fO z + 32)) ∧ Took w w' R base) ∨ (¬ frameOk z ∧ e = .panicked [wrongP] ∧ Took w w' R base) := by
  have hlt := hR.lt
  have hsz := hR.size
  have o0 := fun wx (h : Rd wx R base (z.drop 0)) => rone_at R base z 0 wx h
  have o1 := fun wx (h : Rd wx R base (z.drop 1)) => rone_at R base z 1 wx h
  have o2 := fun wx (h : Rd wx R base (z.drop 2)) => rone_at R base z 2 wx h
  have f3 := fun wx (h : Rd wx R base (z.drop 3)) => rfour_at R base z 3 wx h hz
  have d7 := fun wx (h : Rd wx R base (z.drop 7)) => rdot_at R base z 7 wx h hz
  have k12 := fun wx (h : Rd wx R base (z.drop 12)) => rkey_at R base z 12 wx h
  have w44 := fun wx (h : Rd wx R base (z.drop 44)) => rwraps_at R base z 44 wx h hz
  have bQ := fun wx (h : Rd wx R base (z.drop (fQ z))) => rbody_at R base z (fQ z) wx h hz
  have kO := fun wx (h : Rd wx R base (z.drop (fO z))) => rkey_at R base z (fO z) wx h
  replace w44 : ∀ wx, Rd wx R base (z.drop 44) → Calls Tryz.prog 79 #[.pointer (some ⟨R, 0, none⟩)] wx fun e w' =>
      (wpsCond z 44 ∧ ∃ G, e = .returned (.slice (some ⟨G, 0, none⟩) (fN z) (fN z)) ∧ wx.heap.size ≤ G ∧ CellsAt w' G 119 (wpsC (wsOf z)) ∧ Rd w' R base (z.drop (fQ z)) ∧ Took wx w' R base) ∨ (¬ wpsCond z 44 ∧ e = .panicked [wrongP] ∧ Took wx w' R base) := w44
  replace bQ : ∀ wx, Rd wx R base (z.drop (fQ z)) → Calls Tryz.prog 80 #[.pointer (some ⟨R, 0, none⟩)] wx fun e w' =>
      (bodyCond z (fQ z) ∧ ∃ v, e = .returned v ∧ OwnB w' wx.heap.size v (boOf z) ∧ Rd w' R base (z.drop (fO z)) ∧ Took wx w' R base) ∨ (¬ bodyCond z (fQ z) ∧ e = .panicked [wrongP] ∧ Took wx w' R base) := bQ
  have HOK : Veil (frameOk z ↔ (at1 z 0 = 69 ∧ at1 z 1 = 83 ∧ wpsCond z 44 ∧ bodyCond z (fQ z) ∧ fO z + 32 ≤ z.length)) := ⟨Iff.rfl⟩
  have HW : Veil (wpsCond z 44 → 45 ≤ z.length) := ⟨fun h => h.1⟩
  have HF : Veil (∀ wv bv, frOf z wv bv = ⟨at1 z 2, at4 z 3, at1 z 7, at4 z 8, (z.drop 12).take 32, wv, bv, (z.drop (fO z)).take 32⟩) := ⟨fun _ _ => rfl⟩
  have HLP : Veil (44 ≤ z.length → ((z.drop 12).take 32).length = 32) := ⟨fun h => by rw [List.length_take, List.length_drop]; omega⟩
  have HLM : Veil (fO z + 32 ≤ z.length → ((z.drop (fO z)).take 32).length = 32) := ⟨fun h => by rw [List.length_take, List.length_drop]; omega⟩
  obtain ⟨OK, hOK⟩ : ∃ q, frameOk z = q := ⟨_, rfl⟩
  obtain ⟨WC, hWC⟩ : ∃ q, wpsCond z 44 = q := ⟨_, rfl⟩
  obtain ⟨BC, hBC⟩ : ∃ q, bodyCond z (fQ z) = q := ⟨_, rfl⟩
  rw [hOK, hWC, hBC] at HOK
  rw [hOK]
  rw [hWC] at w44 HW
  rw [hBC] at bQ
  obtain ⟨N, hN⟩ : ∃ q, fN z = q := ⟨_, rfl⟩
  obtain ⟨Q, hQ⟩ : ∃ q, fQ z = q := ⟨_, rfl⟩
  obtain ⟨O, hO⟩ : ∃ q, fO z = q := ⟨_, rfl⟩
  obtain ⟨WS, hWS⟩ : ∃ q, wpsC (wsOf z) = q := ⟨_, rfl⟩
  obtain ⟨BO, hBO⟩ : ∃ q, boOf z = q := ⟨_, rfl⟩
  rw [hN, hWS, hQ] at w44
  rw [hQ, hBO, hO] at bQ
  rw [hO] at kO HOK HF HLM
  rw [hN, hWS, hBO, hO]
  obtain ⟨m0, hm0⟩ : ∃ q, at1 z 0 = q := ⟨_, rfl⟩
  obtain ⟨m1, hm1⟩ : ∃ q, at1 z 1 = q := ⟨_, rfl⟩
  obtain ⟨A, hA⟩ : ∃ q, at1 z 2 = q := ⟨_, rfl⟩
  obtain ⟨NU, hNU⟩ : ∃ q, at4 z 3 = q := ⟨_, rfl⟩
  obtain ⟨EA, hEA⟩ : ∃ q, at1 z 7 = q := ⟨_, rfl⟩
  obtain ⟨ES, hES⟩ : ∃ q, at4 z 8 = q := ⟨_, rfl⟩
  obtain ⟨PV, hPV⟩ : ∃ q, (z.drop 12).take 32 = q := ⟨_, rfl⟩
  obtain ⟨MC, hMC⟩ : ∃ q, (z.drop O).take 32 = q := ⟨_, rfl⟩
  have e71 : at4 z (7 + 1) = ES := hES
  rw [hm0] at o0 HOK
  rw [hm1] at o1 HOK
  rw [hA] at o2 HF
  rw [hNU] at f3 HF
  rw [hEA, e71] at d7
  rw [hEA, hES] at HF
  rw [hPV] at k12 HF HLP
  rw [hMC] at kO HF HLM
  obtain ⟨Z, hzv, hz1, hZ⟩ := zeroFrL
  have HZ : Veil (Z = frZ.cells) := ⟨hZ⟩
  have hG0 := CellsAt.new w 32 Z
  have hR0 : Rd (w.alloc (.cells Z.toArray 32)) R base (z.drop 0) := hR.alloc (.cells Z.toArray 32)
  have hT0 : Took w (w.alloc (.cells Z.toArray 32)) R base := Took.alloc hsz _
  have r3 : R ≠ w.heap.size := by omega
  clear hR hz hOK hWC hBC hN hQ hO hWS hBO hm0 hm1 hA hNU hEA hES hPV hMC e71 hZ
  go_enter Tryz.func42, Tryz.ntmps42
  go_upto_region 1 with fail
  refine forget (p := fun y => Code.wp _ _ _ _ y) (fun W => Rd W R base (z.drop 0) ∧ Took w W R base ∧ CellsAt W w.heap.size 32 Z) ⟨hR0, hT0, hG0⟩ ?_
  clear hR0 hT0 hG0
  rintro W ⟨hR0, hT0, hG0⟩
  have h1W := o0 W hR0
  clear o0
  by_cases kk0 : 0 + 1 ≤ z.length
  rotate_left
  · go_upto_region 2 with (go_at_call 75; refine h1W.mono ?_; rintro e wB (⟨hx, _⟩ | ⟨_, rfl, htB⟩); (exfalso; omega))
    exact bodyPost_gone (.inr ⟨fun h => by have := HW.out (HOK.out.1 h).2.2.1; omega, rfl, hT0.trans htB⟩)
  by_cases km0 : m0 = 69
  rotate_left
  · have hmb : (m0 == 69) = false := by simp [km0]
    have hnd := fun wx => need_bad wx
    have HKM : Veil (¬ m0 = 69) := ⟨km0⟩
    clear km0
    go_upto_region 2 with (first
      | (go_at_call 75; refine h1W.mono ?_; rintro e w1 (⟨_, rfl, hR1, ht1⟩ | ⟨hx, _⟩); rotate_left; (exfalso; omega))
      | (go_at_call 74; refine (hnd _).mono ?_; rintro e w2 ⟨rfl, rfl⟩))
    exact bodyPost_gone (.inr ⟨fun h => HKM.out (HOK.out.1 h).1, rfl, hT0.trans ht1⟩)
  have HM0 : Veil (m0 = 69) := ⟨km0⟩
  rw [km0] at h1W
  clear km0
  have hnd := fun wx => need_ok wx
  go_upto_region 2 with (first
    | (go_at_call 75; refine h1W.mono ?_; rintro e w1 (⟨_, rfl, hR1, ht1⟩ | ⟨hx, _⟩); rotate_left; (exfalso; omega))
    | (go_at_call 74; refine (hnd _).mono ?_; rintro e w2 ⟨⟨r2, rfl⟩, rfl⟩))
  have hH0 := hG0.took ht1 (by omega)
  refine forget (p := fun y => Code.wp _ _ _ _ y) (fun W => Rd W R base (z.drop (0 + 1)) ∧ Took w W R base ∧ CellsAt W w.heap.size 32 Z) ⟨hR1, hT0.trans ht1, hH0⟩ ?_
  clear h1W hnd hR0 hT0 hG0 hR1 ht1 hH0 W
  rintro W ⟨hR0, hT0, hG0⟩
  have h1W := o1 W hR0
  clear o1
  by_cases kk1 : 1 + 1 ≤ z.length
  rotate_left
  · go_upto_region 3 with (go_at_call 75; refine h1W.mono ?_; rintro e wB (⟨hx, _⟩ | ⟨_, rfl, htB⟩); (exfalso; omega))
    exact bodyPost_gone (.inr ⟨fun h => by have := HW.out (HOK.out.1 h).2.2.1; omega, rfl, hT0.trans htB⟩)
  by_cases km1 : m1 = 83
  rotate_left
  · have hmb : (m1 == 83) = false := by simp [km1]
    have hnd := fun wx => need_bad wx
    have HKM : Veil (¬ m1 = 83) := ⟨km1⟩
    clear km1
    go_upto_region 3 with (first
      | (go_at_call 75; refine h1W.mono ?_; rintro e w1 (⟨_, rfl, hR1, ht1⟩ | ⟨hx, _⟩); rotate_left; (exfalso; omega))
      | (go_at_call 74; refine (hnd _).mono ?_; rintro e w2 ⟨rfl, rfl⟩))
    exact bodyPost_gone (.inr ⟨fun h => HKM.out (HOK.out.1 h).2.1, rfl, hT0.trans ht1⟩)
  have HM1 : Veil (m1 = 83) := ⟨km1⟩
  rw [km1] at h1W
  clear km1
  have hnd := fun wx => need_ok wx
  go_upto_region 3 with (first
    | (go_at_call 75; refine h1W.mono ?_; rintro e w1 (⟨_, rfl, hR1, ht1⟩ | ⟨hx, _⟩); rotate_left; (exfalso; omega))
    | (go_at_call 74; refine (hnd _).mono ?_; rintro e w2 ⟨⟨r2, rfl⟩, rfl⟩))
  have hH0 := hG0.took ht1 (by omega)
  refine forget (p := fun y => Code.wp _ _ _ _ y) (fun W => Rd W R base (z.drop (1 + 1)) ∧ Took w W R base ∧ CellsAt W w.heap.size 32 Z) ⟨hR1, hT0.trans ht1, hH0⟩ ?_
  clear h1W hnd hR0 hT0 hG0 hR1 ht1 hH0 W
  rintro W ⟨hR0, hT0, hG0⟩
  have hG1 := CellsAt.new W 32 Z
  have hltW := hG0.lt
  have hRW := hR0.lt
  have hbW := hR0.size
  rw [HZ.out] at hG1
  go_upto_region 4 with fail
  refine forget (p := fun y => Code.wp _ _ _ _ y) (fun U => Rd U R base (z.drop 2) ∧ Took w U R base ∧ CellsAt U w.heap.size 32 Z ∧ CellsAt U W.heap.size 32 frZ.cells) ⟨hR0.alloc _, hT0.trans (Took.alloc hbW _), hG0.alloc _, by rw [HZ.out]; exact hG1⟩ ?_
  obtain ⟨L, hL⟩ : ∃ q, W.heap.size = q := ⟨_, rfl⟩
  have hgeL : w.heap.size < L := by rw [← hL]; exact hltW
  have hbL : base ≤ L := by rw [← hL]; exact hbW
  have hRL : R ≠ L := by omega
  rw [hL]
  clear hR0 hT0 hG0 hG1 hL hltW hRW hbW W
  rintro W ⟨hR0, hT0, hG0, hG1⟩
  have h1W := o2 W hR0
  clear o2
  by_cases kc2 : 2 + 1 ≤ z.length
  rotate_left
  · go_upto_region 5 with (go_at_call 75; refine h1W.mono ?_; rintro e wB (⟨hx, _⟩ | ⟨_, rfl, htB⟩); (exfalso; omega))
    exact bodyPost_gone (.inr ⟨fun h => by have := HW.out (HOK.out.1 h).2.2.1; omega, rfl, hT0.trans htB⟩)
  go_upto_region 5 with (go_at_call 75; refine h1W.mono ?_; rintro e w1 (⟨_, rfl, hR1, ht1⟩ | ⟨hx, _⟩); rotate_left; (exfalso; omega); have hH1 := hG1.took ht1 (by omega); have cj := hH1.cell 0; have fj := hH1.frozen2 0)
  have hH0 := hG0.took ht1 (by omega)
  have hH2 := hH1.set2 0 (.int .u8 A)
  refine forget (p := fun y => Code.wp _ _ _ _ y) (fun W => Rd W R base (z.drop (2 + 1)) ∧ Took w W R base ∧ CellsAt W w.heap.size 32 Z ∧ CellsAt W L 32 (⟨A, 0, 0, 0, keyZ, .slice none 0 0, .slice none 0 0, keyZ⟩ : Fr).cells) ⟨hR1.setCellO _ _ hbL hRL, (hT0.trans ht1).setCellO _ _ (by show w.heap.size ≤ L; omega) hbL, hH0.setOther2 _ _ (by show w.heap.size ≠ L; omega), hH2⟩ ?_
  clear h1W hR0 hT0 hG0 hG1 hH1 hH0 hH2 hR1 ht1 cj fj W
  rintro W ⟨hR0, hT0, hG0, hG1⟩
  have h1W := f3 W hR0
  clear f3
  by_cases kc3 : 3 + 4 ≤ z.length
  rotate_left
  · go_upto_region 6 with (go_at_call 76; refine h1W.mono ?_; rintro e wB (⟨hx, _⟩ | ⟨_, rfl, htB⟩); (exfalso; omega))
    exact bodyPost_gone (.inr ⟨fun h => by have := HW.out (HOK.out.1 h).2.2.1; omega, rfl, hT0.trans htB⟩)
  go_upto_region 6 with (go_at_call 76; refine h1W.mono ?_; rintro e w1 (⟨_, rfl, hR1, ht1⟩ | ⟨hx, _⟩); rotate_left; (exfalso; omega); have hH1 := hG1.took ht1 (by omega); have cj := hH1.cell 1; have fj := hH1.frozen2 1)
  have hH0 := hG0.took ht1 (by omega)
  have hH2 := hH1.set2 1 (.int .u32 NU)
  refine forget (p := fun y => Code.wp _ _ _ _ y) (fun W => Rd W R base (z.drop (3 + 4)) ∧ Took w W R base ∧ CellsAt W w.heap.size 32 Z ∧ CellsAt W L 32 (⟨A, NU, 0, 0, keyZ, .slice none 0 0, .slice none 0 0, keyZ⟩ : Fr).cells) ⟨hR1.setCellO _ _ hbL hRL, (hT0.trans ht1).setCellO _ _ (by show w.heap.size ≤ L; omega) hbL, hH0.setOther2 _ _ (by show w.heap.size ≠ L; omega), hH2⟩ ?_
  clear h1W hR0 hT0 hG0 hG1 hH1 hH0 hH2 hR1 ht1 cj fj W
  rintro W ⟨hR0, hT0, hG0, hG1⟩
  have h1W := d7 W hR0
  clear d7
  by_cases kc7 : 7 + 5 ≤ z.length
  rotate_left
  · go_upto_region 7 with (go_at_call 77; refine h1W.mono ?_; rintro e wB (⟨hx, _⟩ | ⟨_, rfl, htB⟩); (exfalso; omega))
    exact bodyPost_gone (.inr ⟨fun h => by have := HW.out (HOK.out.1 h).2.2.1; omega, rfl, hT0.trans htB⟩)
  have hfit7 : 2 + (dotC EA ES).length ≤ (⟨A, NU, 0, 0, keyZ, .slice none 0 0, .slice none 0 0, keyZ⟩ : Fr).cells.length := by rw [fr_len _ rfl rfl]; show 2 + 2 ≤ 70; omega
  go_upto_region 7 with (first
    | (go_at_call 77; refine h1W.mono ?_; rintro e w1 (⟨_, rfl, hR1, ht1⟩ | ⟨hx, _⟩); rotate_left; (exfalso; omega); have hH1 := hG1.took ht1 (by omega))
    | (refine wpList_stm rfl 28 _ _ rfl _ 2 rfl rfl hH1 sizeDot hfit7 (dot_one EA ES) ?_))
  have hH0 := hG0.took ht1 (by omega)
  have hH2 := hH1.setRow ((⟨A, NU, 0, 0, keyZ, .slice none 0 0, .slice none 0 0, keyZ⟩ : Fr).cells.take 2 ++ dotC EA ES ++ (⟨A, NU, 0, 0, keyZ, .slice none 0 0, .slice none 0 0, keyZ⟩ : Fr).cells.drop (2 + (dotC EA ES).length))
  have HN := frC_dot A NU 0 0 keyZ (.slice none 0 0) (.slice none 0 0) keyZ EA ES
  refine forget (p := fun y => Code.wp _ _ _ _ y) (fun W => Rd W R base (z.drop (7 + 5)) ∧ Took w W R base ∧ CellsAt W w.heap.size 32 Z ∧ CellsAt W L 32 (⟨A, NU, EA, ES, keyZ, .slice none 0 0, .slice none 0 0, keyZ⟩ : Fr).cells) ⟨hR1.setRowO _ hbL hRL, (hT0.trans ht1).setRowO _ (by omega) hbL, hH0.setRowOther2 _ (by omega), by rw [← HN]; first | exact hH2 | simpa only [List.append_assoc] using hH2⟩ ?_
  clear h1W hR0 hT0 hG0 hG1 hH1 hH0 hH2 hR1 ht1 HN W
  rintro W ⟨hR0, hT0, hG0, hG1⟩
  have h1W := k12 W hR0
  clear k12
  by_cases kc12 : 12 + 32 ≤ z.length
  rotate_left
  · go_upto_region 8 with (go_at_call 78; refine h1W.mono ?_; rintro e wB (⟨hx, _⟩ | ⟨_, rfl, htB⟩); (exfalso; omega))
    exact bodyPost_gone (.inr ⟨fun h => by have := HW.out (HOK.out.1 h).2.2.1; omega, rfl, hT0.trans htB⟩)
  have hPL := HLP.out kc12
  have HLP1 : Veil (PV.length = 32) := ⟨hPL⟩
  have iP : (Tryz.prog.info? 23).map (·.size) = some (byC PV).length := by rw [byC_length, hPL]; exact sizeKey32
  have hfit12 : 4 + (byC PV).length ≤ (⟨A, NU, EA, ES, keyZ, .slice none 0 0, .slice none 0 0, keyZ⟩ : Fr).cells.length := by rw [fr_len _ rfl rfl, byC_length, hPL]; decide
  clear hPL
  go_upto_region 8 with (first
    | (go_at_call 78; refine h1W.mono ?_; rintro e w1 (⟨_, rfl, hR1, ht1⟩ | ⟨hx, _⟩); rotate_left; (exfalso; omega); have hH1 := hG1.took ht1 (by omega))
    | (refine wpList_stm rfl 23 _ _ rfl _ 4 rfl rfl hH1 iP hfit12 (byC_one PV) ?_))
  have hH0 := hG0.took ht1 (by omega)
  have hH2 := hH1.setRow ((⟨A, NU, EA, ES, keyZ, .slice none 0 0, .slice none 0 0, keyZ⟩ : Fr).cells.take 4 ++ byC PV ++ (⟨A, NU, EA, ES, keyZ, .slice none 0 0, .slice none 0 0, keyZ⟩ : Fr).cells.drop (4 + (byC PV).length))
  have HN := frC_prev A NU EA ES keyZ (.slice none 0 0) (.slice none 0 0) keyZ PV (by rw [HLP1.out]; rfl)
  refine forget (p := fun y => Code.wp _ _ _ _ y) (fun W => Rd W R base (z.drop (12 + 32)) ∧ Took w W R base ∧ CellsAt W w.heap.size 32 Z ∧ CellsAt W L 32 (⟨A, NU, EA, ES, PV, .slice none 0 0, .slice none 0 0, keyZ⟩ : Fr).cells) ⟨hR1.setRowO _ hbL hRL, (hT0.trans ht1).setRowO _ (by omega) hbL, hH0.setRowOther2 _ (by omega), by rw [← HN]; first | exact hH2 | simpa only [List.append_assoc] using hH2⟩ ?_
  clear h1W hR0 hT0 hG0 hG1 hH1 hH0 hH2 hR1 ht1 HN W
  rintro W ⟨hR0, hT0, hG0, hG1⟩
  have h1W := w44 W hR0
  clear w44
  by_cases kw : WC
  rotate_left
  · go_upto_region 9 with (go_at_call 79; refine h1W.mono ?_; rintro e wB (⟨hx, _⟩ | ⟨_, rfl, htB⟩); (exact absurd hx kw))
    exact bodyPost_gone (.inr ⟨fun h => kw (HOK.out.1 h).2.2.1, rfl, hT0.trans htB⟩)
  have HKW : Veil WC := ⟨kw⟩
  have h2W : Calls Tryz.prog 79 #[.pointer (some ⟨R, 0, none⟩)] W fun e w' => ∃ G, e = .returned (.slice (some ⟨G, 0, none⟩) N N) ∧ W.heap.size ≤ G ∧ CellsAt w' G 119 WS ∧ Rd w' R base (z.drop Q) ∧ Took W w' R base := h1W.mono fun e w' h => by
    rcases h with ⟨_, h⟩ | ⟨h, _⟩
    · exact h
    · exact absurd HKW.out h
  clear h1W kw
  have hmore := hT0.more
  have hLW := hG1.lt
  have hfr := fr_parts (⟨A, NU, EA, ES, PV, .slice none 0 0, .slice none 0 0, keyZ⟩ : Fr) HLP1.out rfl
  have c36 : (⟨A, NU, EA, ES, PV, .slice none 0 0, .slice none 0 0, keyZ⟩ : Fr).cells[36]? = some (.slice none 0 0) := hfr.2.2.2.2.2.1
  have HC36 := Veil.mk c36
  clear c36 hfr
  go_upto_region 9 with (go_at_call 79; refine h2W.mono ?_; rintro e w1 ⟨GW, rfl, hGW, hCW, hR1, ht1⟩; have hH1 := hG1.took ht1 (by omega); have cj := hH1.cell 36; rw [HC36.out] at cj; have fj := hH1.frozen2 36)
  have hH0 := hG0.took ht1 (by omega)
  have hH2 := hH1.set2 36 (.slice (some ⟨GW, 0, none⟩) N N)
  rw [fr_setW _ _ HLP1.out] at hH2
  refine forget (p := fun y => Code.wp _ _ _ _ y) (fun W => Rd W R base (z.drop Q) ∧ Took w W R base ∧ CellsAt W w.heap.size 32 Z ∧ CellsAt W L 32 (⟨A, NU, EA, ES, PV, .slice (some ⟨GW, 0, none⟩) N N, .slice none 0 0, keyZ⟩ : Fr).cells ∧ CellsAt W GW 119 WS) ⟨hR1.setCellO _ _ hbL hRL, (hT0.trans ht1).setCellO _ _ (by show w.heap.size ≤ L; omega) hbL, hH0.setOther2 _ _ (by show w.heap.size ≠ L; omega), hH2, hCW.setOther2 _ _ (by show GW ≠ L; omega)⟩ ?_
  have hgeG : w.heap.size ≤ GW := by omega
  have hGL : GW ≠ L := by omega
  have hGR : GW ≠ R := by omega
  clear h2W hR0 hT0 hG0 hG1 hH1 hH0 hH2 hR1 ht1 cj fj hCW hGW hmore hLW W
  rintro W ⟨hR0, hT0, hG0, hG1, hW1⟩
  have h1W := bQ W hR0
  clear bQ
  by_cases kb : BC
  rotate_left
  · go_upto_region 10 with (go_at_call 80; refine h1W.mono ?_; rintro e wB (⟨hx, _⟩ | ⟨_, rfl, htB⟩); (exact absurd hx kb))
    exact bodyPost_gone (.inr ⟨fun h => kb (HOK.out.1 h).2.2.2.1, rfl, hT0.trans htB⟩)
  have HKB : Veil BC := ⟨kb⟩
  have h2W : Calls Tryz.prog 80 #[.pointer (some ⟨R, 0, none⟩)] W fun e w' => ∃ x m c, e = .returned (.slice x m c) ∧ OwnB w' W.heap.size (.slice x m c) BO ∧ Rd w' R base (z.drop O) ∧ Took W w' R base := h1W.mono fun e w' h => by
    rcases h with ⟨_, v, h1, h2, h3⟩ | ⟨h, _⟩
    · obtain ⟨x, m, c, rfl, _⟩ := h2.isSlice
      exact ⟨x, m, c, h1, h2, h3⟩
    · exact absurd HKB.out h
  clear h1W kb
  have hmore := hT0.more
  have hLW := hG1.lt
  have hGWl := hW1.lt
  have hfr := fr_parts (⟨A, NU, EA, ES, PV, .slice (some ⟨GW, 0, none⟩) N N, .slice none 0 0, keyZ⟩ : Fr) HLP1.out rfl
  have c37 : (⟨A, NU, EA, ES, PV, .slice (some ⟨GW, 0, none⟩) N N, .slice none 0 0, keyZ⟩ : Fr).cells[37]? = some (.slice none 0 0) := hfr.2.2.2.2.2.2.1
  have HC37 := Veil.mk c37
  clear c37 hfr
  go_upto_region 10 with (go_at_call 80; refine h2W.mono ?_; rintro e w1 ⟨xb, mb, cb, rfl, hOB, hR1, ht1⟩; have hH1 := hG1.took ht1 (by omega); have cj := hH1.cell 37; rw [HC37.out] at cj; have fj := hH1.frozen2 37)
  have hH0 := hG0.took ht1 (by omega)
  have hJ1 := hW1.took ht1 (by omega)
  have hH2 := hH1.set2 37 (.slice xb mb cb)
  rw [fr_setB _ _ HLP1.out] at hH2
  have hOB2 : OwnB (w1.setCell ⟨L, 37, none⟩ (.slice xb mb cb)) w.heap.size (.slice xb mb cb) BO := (hOB.lessG hmore).keepF hH1 (by decide) (fun g hg => heap_setCell_other w1 ⟨L, 37, none⟩ g _ hg)
  refine forget (p := fun y => Code.wp _ _ _ _ y) (fun W => Rd W R base (z.drop O) ∧ Took w W R base ∧ CellsAt W w.heap.size 32 Z ∧ CellsAt W L 32 (⟨A, NU, EA, ES, PV, .slice (some ⟨GW, 0, none⟩) N N, .slice xb mb cb, keyZ⟩ : Fr).cells ∧ CellsAt W GW 119 WS ∧ OwnB W w.heap.size (.slice xb mb cb) BO) ⟨hR1.setCellO _ _ hbL hRL, (hT0.trans ht1).setCellO _ _ (by show w.heap.size ≤ L; omega) hbL, hH0.setOther2 _ _ (by show w.heap.size ≠ L; omega), hH2, hJ1.setOther2 _ _ hGL, hOB2⟩ ?_
  clear h2W hR0 hT0 hG0 hG1 hH1 hH0 hH2 hR1 ht1 cj fj hOB hOB2 hJ1 hW1 hmore hLW hGWl W
  rintro W ⟨hR0, hT0, hG0, hG1, hW1, hO1⟩
  have h1W := kO W hR0
  clear kO
  by_cases kc38 : O + 32 ≤ z.length
  rotate_left
  · go_upto_region 11 with (go_at_call 78; refine h1W.mono ?_; rintro e wB (⟨hx, _⟩ | ⟨_, rfl, htB⟩); (exfalso; omega))
    exact bodyPost_gone (.inr ⟨fun h => kc38 (HOK.out.1 h).2.2.2.2, rfl, hT0.trans htB⟩)
  have hML := HLM.out kc38
  have HLM1 : Veil (MC.length = 32) := ⟨hML⟩
  have iM : (Tryz.prog.info? 23).map (·.size) = some (byC MC).length := by rw [byC_length, hML]; exact sizeKey32
  have hfit38 : 38 + (byC MC).length ≤ (⟨A, NU, EA, ES, PV, .slice (some ⟨GW, 0, none⟩) N N, .slice xb mb cb, keyZ⟩ : Fr).cells.length := by rw [fr_len _ HLP1.out rfl, byC_length, hML]; decide
  clear hML
  have hbx := hR0.has
  go_upto_region 11 with (first
    | (go_at_call 78; refine h1W.mono ?_; rintro e w1 (⟨_, rfl, hR1, ht1⟩ | ⟨hx, _⟩); rotate_left; (exfalso; omega); have hH1 := hG1.took ht1 (by omega))
    | (refine wpList_stm rfl 23 _ _ rfl _ 38 rfl rfl hH1 iM hfit38 (byC_one MC) ?_))
  have hH0 := hG0.took ht1 (by omega)
  have hJ1 := hW1.took ht1 hGR
  have hH2 := hH1.setRow ((⟨A, NU, EA, ES, PV, .slice (some ⟨GW, 0, none⟩) N N, .slice xb mb cb, keyZ⟩ : Fr).cells.take 38 ++ byC MC ++ (⟨A, NU, EA, ES, PV, .slice (some ⟨GW, 0, none⟩) N N, .slice xb mb cb, keyZ⟩ : Fr).cells.drop (38 + (byC MC).length))
  have HNM := frC_mac A NU EA ES PV (.slice (some ⟨GW, 0, none⟩) N N) (.slice xb mb cb) keyZ MC HLP1.out (by rw [HLM1.out]; rfl)
  obtain ⟨xr, nr, cr, hbr, hyr⟩ := hbx
  have hO2 := hO1.tookF hbr ht1
  have hO3 : OwnB (w1.setRow L ((⟨A, NU, EA, ES, PV, .slice (some ⟨GW, 0, none⟩) N N, .slice xb mb cb, keyZ⟩ : Fr).cells.take 38 ++ byC MC ++ (⟨A, NU, EA, ES, PV, .slice (some ⟨GW, 0, none⟩) N N, .slice xb mb cb, keyZ⟩ : Fr).cells.drop (38 + (byC MC).length)).toArray) w.heap.size (.slice xb mb cb) BO := hO2.keepF hH1 (by decide) (fun g hg => setRow_other w1 L g _ hg)
  obtain ⟨F6, hF6⟩ : ∃ q, (⟨A, NU, EA, ES, PV, .slice (some ⟨GW, 0, none⟩) N N, .slice xb mb cb, MC⟩ : Fr) = q := ⟨_, rfl⟩
  rw [hF6] at HNM
  have HF6 : Veil (F6.prev.length = 32 ∧ F6.mac.length = 32 ∧ F6 = frOf z (.slice (some ⟨GW, 0, none⟩) N N) (.slice xb mb cb)) := ⟨by rw [← hF6]; exact HLP1.out, by rw [← hF6]; exact HLM1.out, by rw [HF.out, hF6]⟩
  have h1F : ∀ v ∈ F6.cells, v.oneCell' = true := by rw [← hF6]; exact fr_one _ (some ⟨GW, 0, none⟩) xb N N mb cb rfl rfl
  have HNM2 := Veil.mk HNM
  clear HNM
  refine forget (p := fun y => Code.wp _ _ _ _ y) (fun W => Rd W R base (z.drop (O + 32)) ∧ Took w W R base ∧ CellsAt W w.heap.size 32 Z ∧ CellsAt W L 32 F6.cells ∧ CellsAt W GW 119 WS ∧ OwnB W w.heap.size (.slice xb mb cb) BO) ⟨hR1.setRowO _ hbL hRL, (hT0.trans ht1).setRowO _ (by omega) hbL, hH0.setRowOther2 _ (by omega), by rw [← HNM2.out]; first | exact hH2 | simpa only [List.append_assoc] using hH2, hJ1.setRowOther2 _ hGL, by first | exact hO3 | simpa only [List.append_assoc] using hO3⟩ ?_
  clear h1W hR0 hT0 hG0 hG1 hH1 hH0 hH2 hR1 ht1 hJ1 hW1 hO1 hO2 hO3 hbr hyr HNM2 hF6 W
  rintro W ⟨hR0, hT0, hG0, hG1, hW1, hO1⟩
  have rE := hG1.whole2
  have iF : (Tryz.prog.info? 32).map (·.size) = some F6.cells.length := by rw [fr_len F6 HF6.out.1 HF6.out.2.1]; exact sizeFrame
  have hlF : Z.length = F6.cells.length := by rw [fr_len F6 HF6.out.1 HF6.out.2.1, HZ.out]; rfl
  go_wp2_with (first
    | (refine wpList_ldv rfl 32 _ rfl _ _ rfl F6.cells rE Tryz.underlying32 rfl iF ?_)
    | (refine wpList_stv rfl 32 _ _ rfl _ rfl rfl hG0 iF hlF h1F ?_))
  refine bodyPost_ret (results_cell_row (Tryz.results42) _ _ _ _ _ (0, 0) _ rfl (hG0.setRow F6.cells) Tryz.underlying32 rfl (by rw [iF]; simp)) rfl ?_
  have hO2 : OwnB (W.setRow w.heap.size F6.cells.toArray) w.heap.size (.slice xb mb cb) BO := hO1.keepF hG0 (by decide) (fun g hg => setRow_other W w.heap.size g _ hg)
  refine .inl ⟨HOK.out.2 ⟨HM0.out, HM1.out, HKW.out, HKB.out, kc38⟩, GW, xb, mb, cb, ?_, hgeG, hW1.setRowOther2 _ (fun e => ?_), hO2, hR0.setRowO _ hsz r3, hT0.setRowO _ (Nat.le_refl _) hsz⟩
  · rw [HF6.out.2.2]
  · have := hG0.typ hW1 e
    revert this; decide
set_option maxHeartbeats 4000000 in
theorem catchRF_any (A B : Nat) (v : Value) (C Z : List Value) (hzv : ∀ wx : World, (zeroValue 32).run Tryz.prog wx = .ok (.agg Z.toArray) wx) (_hz1 : ¬ Z.toArray = #[]) (hCZ : C.length = Z.length) (hiZ : (Tryz.prog.info? 32).map (·.size) = some Z.length) (h1Z : ∀ v ∈ Z, v.oneCell' = true) (w : World) (hA : CellsAt w A 32 C) (hB : Box w B 37 v) (hne : A ≠ B) :
    CallsD Tryz.prog 73 #[.pointer (some ⟨A, 0, none⟩), .pointer (some ⟨B, 0, none⟩)] (.panicking [wrongP]) w fun e u' w' =>
      e = .returned (.tuple #[]) ∧ u' = .panicking [{ v := .iface 145 (.agg #[]), recovered := true }] ∧ CellsAt w' A 32 Z ∧ Box w' B 37 (.int .i64 3) ∧ ∀ base, base ≤ A → base ≤ B → base ≤ w.heap.size → Below base w w' := by
  have hta := wrong_asserted
  have hst := wrong_stored
  have hA1 := (hA.alloc (.cells #[] 145)).alloc (.cells Z.toArray 32)
  have hN1 := CellsAt.new (w.alloc (.cells #[] 145)) 32 Z
  rw [World.size_alloc] at hN1
  have hB1 := (hB.alloc (.cells #[] 145)).alloc (.cells Z.toArray 32)
  have hbl : ∀ base, base ≤ w.heap.size → Below base w ((w.alloc (.cells #[] 145)).alloc (.cells Z.toArray 32)) := fun base h => ((Below.refl _ _).alloc h _).alloc (by simp; omega) _
  clear hA hB
  refine callsD_of_wpS Tryz.func73 rfl fun c₀ cs hu => ?_
  apply wpS_seq
  apply wpS_region
  simp [wpOpsS, go_sem, recoverD, hu, wrongP, Tryz.ntmps73, Exit.thenS]
  refine wpS_of_wp ?_
  change Code.wp _ _ _ { tmps := #[.pointer (some ⟨A, 0, none⟩), .pointer (some ⟨B, 0, none⟩), undef, undef, undef, undef, .iface 145 (.agg #[]), undef, undef, undef, undef, undef, undef], defers := [] } _
  go_upto_region 8 with fail
  refine forget (p := fun y => Code.wp _ _ _ _ y) (fun W => CellsAt W A 32 C ∧ CellsAt W (w.heap.size + 1) 32 Z ∧ Box W B 37 v ∧ ∀ base, base ≤ w.heap.size → Below base w W) ⟨hA1, hN1, hB1, hbl⟩ ?_
  clear hA1 hN1 hB1 hbl
  rintro W ⟨hA1, hN1, hB1, hbl⟩
  have rE := hN1.whole2
  have hB2 : Box (W.setRow A Z.toArray) B 37 v := by
    unfold Box at hB1 ⊢
    rw [setRow_other _ _ _ _ (fun e => hne e.symm)]; exact hB1
  have cB := hB2.cell
  have fB := hB2.frozen
  go_wp2_with (first
    | (refine wpList_ldv rfl 32 _ rfl _ _ rfl Z rE Tryz.underlying32 rfl hiZ ?_)
    | (refine wpList_stv rfl 32 _ _ rfl _ rfl rfl hA1 hiZ hCZ h1Z ?_))
  have q1 := (hA1.setRow Z).setOther2 ⟨B, 0, none⟩ (.int .i64 3) (by exact hne)
  have q2 := hB2.set (.int .i64 3)
  have q3 : ∀ base, base ≤ A → base ≤ B → base ≤ w.heap.size → Below base w ((W.setRow A Z.toArray).setCell ⟨B, 0, none⟩ (.int .i64 3)) := fun base h1 h2 h3 => (below_setRow (hbl base h3) h1 _).setCell h2 _
  simp [bodyPostS, results, Tryz.results73]
  exact ⟨q1, q2, q3⟩
set_option maxHeartbeats 2000000 in
theorem catchRF_idle (A B : Nat) (w : World) :
    CallsD Tryz.prog 73 #[.pointer (some ⟨A, 0, none⟩), .pointer (some ⟨B, 0, none⟩)] .returning w fun e u' w' => e = .returned (.tuple #[]) ∧ u' = .returning ∧ w' = w := by
  refine callsD_of_wpS Tryz.func73 rfl fun c₀ cs hu => ?_
  apply wpS_seq
  apply wpS_region
  simp [wpOpsS, go_sem, recoverD, hu, Tryz.ntmps73, Exit.thenS]
  refine wpS_of_wp ?_
  change Code.wp _ _ _ { tmps := #[.pointer (some ⟨A, 0, none⟩), .pointer (some ⟨B, 0, none⟩), undef, undef, undef, undef, .nilIface, undef, undef, undef, undef, undef, undef], defers := [] } _
  go_wp2
  cases c₀
  simp_all [bodyPostS, results, Tryz.results73]
theorem results_fr {fn : Func} {p q : Tmp} (h : fn.results = #[.cell p 32, .cell q 37]) (tmps : Array Value) {w : World} {A B : Nat} {C : List Value} {v : Int} (hp : tmps.getD p undef = .pointer (some ⟨A, 0, none⟩)) (hq : tmps.getD q undef = .pointer (some ⟨B, 0, none⟩)) (hA : CellsAt w A 32 C) (hB : Box w B 37 (.int .i64 v)) (hi : (Tryz.prog.info? 32).map (·.size) = some C.length) :
    (results fn tmps).run Tryz.prog w = .ok (.tuple #[.agg C.toArray, .int .i64 v]) w := by
  have hp' : tmps[p]?.getD undef = .pointer (some ⟨A, 0, none⟩) := by simpa using hp
  have hq' : tmps[q]?.getD undef = .pointer (some ⟨B, 0, none⟩) := by simpa using hq
  have hc := hB.cell
  have hl := run_loadVar_row w A 32 32 C.toArray (0, 0) _ hA Tryz.underlying32 rfl (by rw [hi]; simp)
  have hlB : (loadVar 37 ⟨B, 0, none⟩).run Tryz.prog w = .ok (.int .i64 v) w := by simp [go_sem, hc]
  simp [results, h, hp', hq', asAddr, hl, hlB]
theorem results_frt {fn : Func} {p q : Tmp} (h : fn.results = #[.cell p 32, .tmp q]) (tmps : Array Value) {w : World} {A : Nat} {C : List Value} {v : Value} (hp : tmps.getD p undef = .pointer (some ⟨A, 0, none⟩)) (hq : tmps.getD q undef = v) (hA : CellsAt w A 32 C) (hi : (Tryz.prog.info? 32).map (·.size) = some C.length) :
    (results fn tmps).run Tryz.prog w = .ok (.tuple #[.agg C.toArray, v]) w := by
  have hp' : tmps[p]?.getD undef = .pointer (some ⟨A, 0, none⟩) := by simpa using hp
  have hq' : tmps[q]?.getD undef = v := by simpa using hq
  have hl := run_loadVar_row w A 32 32 C.toArray (0, 0) _ hA Tryz.underlying32 rfl (by rw [hi]; simp)
  simp [results, h, hp', hq', asAddr, hl]
def frameAll (z : List Int) : Prop := frameOk z ∧ z.length = fO z + 32
theorem frOf_len (z : List Int) (h : frameOk z) (wv bv : Value) : (frOf z wv bv).prev.length = 32 ∧ (frOf z wv bv).mac.length = 32 := by
  have h1 : 45 ≤ z.length := h.2.2.1.1
  have h2 := h.2.2.2.2
  constructor
  · show ((z.drop 12).take 32).length = 32
    rw [List.length_take, List.length_drop]; omega
  · show ((z.drop (fO z)).take 32).length = 32
    rw [List.length_take, List.length_drop]; omega
set_option maxHeartbeats 8000000 in
theorem readF_any (x : Option Addr) (n c : Nat) (z : List Int) (w : World) (hb : Bytes w x n c z) (hz : ∀ v ∈ z, b8 v) :
    Calls Tryz.prog 41 #[.slice x n c, .func (.func 42) #[] #[]] w fun e w' =>
      (frameAll z ∧ ∃ G y m d, e = .returned (.tuple #[.agg (frOf z (.slice (some ⟨G, 0, none⟩) (fN z) (fN z)) (.slice y m d)).cells.toArray, .int .i64 0]) ∧ CellsAt w' G 119 (wpsC (wsOf z)) ∧ OwnB w' w.heap.size (.slice y m d) (boOf z) ∧ Below w.heap.size w w') ∨ (¬ frameAll z ∧ e = .returned (.tuple #[.agg frZ.cells.toArray, .int .i64 3]) ∧ Below w.heap.size w w') := by
  have hmf := make_func
  obtain ⟨Z, hzv, hz1, hZ⟩ := zeroFrL
  have hiZ : (Tryz.prog.info? 32).map (·.size) = some Z.length := by rw [hZ, fr_len frZ rfl rfl]; exact sizeFrame
  have h1Z : ∀ v ∈ Z, v.oneCell' = true := by rw [hZ]; exact fr_one frZ none none 0 0 0 0 rfl rfl
  rw [← hZ]
  have hA0 : CellsAt ((w.alloc (.cells Z.toArray 32)).alloc (.cells #[.int .i64 0] 37)) w.heap.size 32 Z := (CellsAt.new w 32 Z).alloc _
  have hB0 : Box ((w.alloc (.cells Z.toArray 32)).alloc (.cells #[.int .i64 0] 37)) (w.heap.size + 1) 37 (.int .i64 0) := by
    have : Box ((w.alloc (.cells Z.toArray 32)).alloc (.cells #[.int .i64 0] 37)) (w.alloc (.cells Z.toArray 32)).heap.size 37 (.int .i64 0) := heap_alloc_new _ _
    rw [World.size_alloc] at this
    exact this
  have hW0 : Below w.heap.size w ((w.alloc (.cells Z.toArray 32)).alloc (.cells #[.int .i64 0] 37)) := ((Below.refl _ _).alloc (Nat.le_refl _) _).alloc (by simp) _
  have hs0 : ((w.alloc (.cells Z.toArray 32)).alloc (.cells #[.int .i64 0] 37)).heap.size = w.heap.size + 2 := by simp
  have hpd := fun W1 (hR1 : Rd W1 (w.heap.size + 2) w.heap.size z) => rframe_any (w.heap.size + 2) w.heap.size z W1 hR1 hz
  have HFL : Veil (∀ wv bv, frameOk z → (frOf z wv bv).prev.length = 32 ∧ (frOf z wv bv).mac.length = 32) := ⟨fun wv bv h => frOf_len z h wv bv⟩
  have HZL : Veil (Z.length = 70) := ⟨by rw [hZ, fr_len frZ rfl rfl]⟩
  have HDL : Veil ((z.drop (fO z + 32)).length = z.length - (fO z + 32)) := ⟨List.length_drop⟩
  have HALL : Veil (frameAll z ↔ frameOk z ∧ z.length = fO z + 32) := ⟨Iff.rfl⟩
  have HOL : Veil (frameOk z → fO z + 32 ≤ z.length) := ⟨fun h => h.2.2.2.2⟩
  obtain ⟨FR, hFR⟩ : ∃ q, frOf z = q := ⟨_, rfl⟩
  have HFRE : Veil (frOf z = FR) := ⟨hFR⟩
  obtain ⟨WS, hWS⟩ : ∃ q, wpsC (wsOf z) = q := ⟨_, rfl⟩
  obtain ⟨BO, hBO⟩ : ∃ q, boOf z = q := ⟨_, rfl⟩
  obtain ⟨N, hN⟩ : ∃ q, fN z = q := ⟨_, rfl⟩
  obtain ⟨E, hE⟩ : ∃ q, fO z + 32 = q := ⟨_, rfl⟩
  obtain ⟨zl, hzl⟩ : ∃ q, z.length = q := ⟨_, rfl⟩
  obtain ⟨OK, hOK⟩ : ∃ q, frameOk z = q := ⟨_, rfl⟩
  obtain ⟨ALL, hALL⟩ : ∃ q, frameAll z = q := ⟨_, rfl⟩
  rw [hFR, hWS, hBO, hN, hE, hOK] at hpd
  rw [hFR, hOK] at HFL
  rw [hE, hzl] at HDL
  rw [hALL, hOK, hE, hzl] at HALL
  rw [hOK, hE, hzl] at HOL
  rw [hFR, hWS, hBO, hN, hALL]
  clear hFR hWS hBO hN hE hzl hOK hALL hz hZ
  go_enter_defers Tryz.func41, Tryz.ntmps41
  go_upto_region 2 with fail
  refine forget (p := fun y => Code.wp _ _ _ _ y) (fun W0 => Below w.heap.size w W0 ∧ W0.heap.size = w.heap.size + 2 ∧ CellsAt W0 w.heap.size 32 Z ∧ Box W0 (w.heap.size + 1) 37 (.int .i64 0)) ⟨hW0, hs0, hA0, hB0⟩ ?_
  clear hW0 hs0 hA0 hB0 hmf
  rintro W0 ⟨hW0, hs0, hA0, hB0⟩
  have hRx : Box (W0.alloc (.cells #[.slice x n c] 149)) (w.heap.size + 2) 149 (.slice x n c) := by
    have : Box (W0.alloc (.cells #[.slice x n c] 149)) W0.heap.size 149 (.slice x n c) := heap_alloc_new _ _
    rw [hs0] at this
    exact this
  have hR1 : Rd (W0.alloc (.cells #[.slice x n c] 149)) (w.heap.size + 2) w.heap.size z := ⟨by omega, x, n, c, hRx, fun wx hx => hb.below ((hW0.alloc hW0.size _).trans hx)⟩
  have hA1 := hA0.alloc (.cells #[.slice x n c] 149)
  have hB1 := hB0.alloc (.cells #[.slice x n c] 149)
  have hW1 := hW0.alloc hW0.size (.cells #[.slice x n c] 149)
  go_upto_region 3 with fail
  refine forget (p := fun y => Code.wp _ _ _ _ y) (fun W1 => Below w.heap.size w W1 ∧ Rd W1 (w.heap.size + 2) w.heap.size z ∧ CellsAt W1 w.heap.size 32 Z ∧ Box W1 (w.heap.size + 1) 37 (.int .i64 0)) ⟨hW1, hR1, hA1, hB1⟩ ?_
  clear hW1 hR1 hA1 hB1 hRx hW0 hs0 hA0 hB0
  rintro W1 ⟨hW1, hR1, hA1, hB1⟩
  have hrd := hpd W1 hR1
  have hszW := hR1.lt
  have keep : ∀ w', Took W1 w' (w.heap.size + 2) w.heap.size → CellsAt w' w.heap.size 32 Z ∧ Box w' (w.heap.size + 1) 37 (.int .i64 0) := fun w' ht => by
    have l2 := hB1.lt
    refine ⟨hA1.took ht (by omega), ?_⟩
    unfold Box at hB1 ⊢
    rw [ht.kept _ l2 (by omega)]; exact hB1
  clear hb hR1 hpd
  by_cases hO : OK
  · have h1 : Calls Tryz.prog 42 #[.pointer (some ⟨w.heap.size + 2, 0, none⟩)] W1 fun e w' => ∃ G y m d, e = .returned (.agg (FR (.slice (some ⟨G, 0, none⟩) N N) (.slice y m d)).cells.toArray) ∧ w.heap.size + 2 < G ∧ CellsAt w' G 119 WS ∧ OwnB w' w.heap.size (.slice y m d) BO ∧ Rd w' (w.heap.size + 2) w.heap.size (z.drop E) ∧ Took W1 w' (w.heap.size + 2) w.heap.size := hrd.mono fun e w' h => by
      rcases h with ⟨_, G, y, m, d, h1, h2, h3, h4, h5, h6⟩ | ⟨h, _⟩
      · exact ⟨G, y, m, d, h1, by omega, h3, h4.lessG (by omega), h5, h6⟩
      · exact absurd hO h
    have HO : Veil OK := ⟨hO⟩
    have HU : Veil (∀ wv bv, (Tryz.prog.info? 32).map (·.size) = some (FR wv bv).cells.length ∧ Z.length = (FR wv bv).cells.length) := ⟨fun wv bv => by
      have := HFL.out wv bv HO.out
      rw [fr_len _ this.1 this.2]
      exact ⟨sizeFrame, HZL.out⟩⟩
    have HU1 : Veil (∀ (a : Option Addr) (l k : Nat) (b : Option Addr) (o p : Nat), (FR (.slice a l k) (.slice b o p)).wraps = .slice a l k ∧ (FR (.slice a l k) (.slice b o p)).body = .slice b o p) := ⟨fun a l k b o p => by rw [← HFRE.out]; exact ⟨rfl, rfl⟩⟩
    clear hrd hA1 hB1 hO HFL
    go_upto_region 4 with (first
      | (go_at_call 42; refine h1.mono ?_; rintro e w2 ⟨G, y, m, d, rfl, hG, hC2, hO2, hR2, ht2⟩; obtain ⟨hiU, hlU⟩ := HU.out (.slice (some ⟨G, 0, none⟩) N N) (.slice y m d); have h1U := fr_one (FR (.slice (some ⟨G, 0, none⟩) N N) (.slice y m d)) _ _ _ _ _ _ (HU1.out (some ⟨G, 0, none⟩) N N y m d).1 (HU1.out (some ⟨G, 0, none⟩) N N y m d).2; obtain ⟨U, hU⟩ : ∃ q, (FR (.slice (some ⟨G, 0, none⟩) N N) (.slice y m d)).cells = q := ⟨_, rfl⟩; rw [hU] at hiU hlU h1U ⊢; have hk2 := keep _ ht2; have hk21 := hk2.1)
      | (refine wpList_stv rfl 32 _ _ rfl _ rfl rfl hk21 hiU hlU h1U ?_))
    have HUE : Veil ((FR (.slice (some ⟨G, 0, none⟩) N N) (.slice y m d)).cells = U) := ⟨hU⟩
    have hW2 := hW1.trans ht2.below
    obtain ⟨xr, nr, cr, hbr, hyr⟩ := hR2.has
    have hyr0 := hyr w2 (Below.refl _ _)
    have hnr := hyr0.len_eq
    have hler := hyr0.le
    have htpr := hyr0.top
    have HNR : Veil (nr = zl - E) := ⟨by rw [hnr, HDL.out]⟩
    have hA3 := hk2.1.setRow U
    have hB3 : Box (w2.setRow w.heap.size U.toArray) (w.heap.size + 1) 37 (.int .i64 0) := by
      have := hk2.2
      unfold Box at this ⊢
      rw [setRow_other _ _ _ _ (by omega)]; exact this
    have hR3 : Box (w2.setRow w.heap.size U.toArray) (w.heap.size + 2) 149 (.slice xr nr cr) := by
      unfold Box at hbr ⊢
      rw [setRow_other _ _ _ _ (by omega)]; exact hbr
    have hO3 : OwnB (w2.setRow w.heap.size U.toArray) w.heap.size (.slice y m d) BO := hO2.keepF hk2.1 (by decide) (fun g hg => setRow_other w2 w.heap.size g _ hg)
    have HUZ : Veil (U.length = Z.length) := ⟨hlU.symm⟩
    refine forget (p := fun y => Code.wp _ _ _ _ y) (fun W3 => Below w.heap.size w W3 ∧ CellsAt W3 w.heap.size 32 U ∧ Box W3 (w.heap.size + 1) 37 (.int .i64 0) ∧ Box W3 (w.heap.size + 2) 149 (.slice xr nr cr) ∧ CellsAt W3 G 119 WS ∧ OwnB W3 w.heap.size (.slice y m d) BO) ⟨below_setRow hW2 (Nat.le_refl _) _, hA3, hB3, hR3, hC2.setRowOther2 _ (by omega), hO3⟩ ?_
    clear hA3 hB3 hR3 hW2 hk2 hk21 ht2 hR2 hbr hyr hyr0 h1 keep hW1 hnr hlU hO2 hO3 hC2 hU hszW
    rintro W3 ⟨hW3, hA3, hB3, hR3, hC3, hO3⟩
    have cR := hR3.cell
    have hEl := HOL.out HO.out
    by_cases h0 : nr = 0
    · have HALL1 : Veil ALL := ⟨HALL.out.2 ⟨HO.out, by have := HNR.out; omega⟩⟩
      subst h0
      have hnd := need_ok W3
      have rU := hA3.whole2
      clear HNR hEl
      go_upto_region 5 with (go_at_call 74; refine hnd.mono ?_; rintro e w4 ⟨⟨r4, rfl⟩, rfl⟩)
      have hB4 : Box (W3.setRow w.heap.size U.toArray) (w.heap.size + 1) 37 (.int .i64 0) := by
        unfold Box at hB3 ⊢
        rw [setRow_other _ _ _ _ (by omega)]; exact hB3
      have hA4 := hA3.setRow U
      have cB := hB4.cell
      have fB := hB4.frozen
      go_wp2_with (first
        | (refine wpList_ldv rfl 32 _ rfl _ _ rfl U rU Tryz.underlying32 rfl hiU ?_)
        | (refine wpList_stv rfl 32 _ _ rfl _ rfl rfl hA3 hiU rfl h1U ?_))
      refine leaves_cons (f := 73) (args := #[.pointer (some ⟨w.heap.size, 0, none⟩), .pointer (some ⟨w.heap.size + 1, 0, none⟩)]) (by simp) (by simp [go_sem]) ?_
      refine (catchRF_idle w.heap.size (w.heap.size + 1) _).mono ?_
      rintro e u' w'' ⟨rfl, rfl, rfl⟩
      have hA5 := hA4.setOther2 ⟨w.heap.size + 1, 0, none⟩ (.int .i64 0) (by show w.heap.size ≠ w.heap.size + 1; omega)
      have hB5 := hB4.set (.int .i64 0)
      have hC5 := (hC3.setRowOther2 U.toArray (show G ≠ w.heap.size by omega)).setOther2 ⟨w.heap.size + 1, 0, none⟩ (.int .i64 0) (by show G ≠ w.heap.size + 1; omega)
      have hO5 : OwnB ((W3.setRow w.heap.size U.toArray).setCell ⟨w.heap.size + 1, 0, none⟩ (.int .i64 0)) w.heap.size (.slice y m d) BO := (hO3.keepF hA3 (by decide) (fun g hg => setRow_other W3 w.heap.size g _ hg)).setBox hB4 (by decide) _
      have hW5 : Below w.heap.size w ((W3.setRow w.heap.size U.toArray).setCell ⟨w.heap.size + 1, 0, none⟩ (.int .i64 0)) := (below_setRow hW3 (Nat.le_refl _) _).setCell (by show w.heap.size ≤ w.heap.size + 1; omega) _
      exact ⟨_, results_fr Tryz.results41 _ rfl rfl hA5 hB5 hiU, .inl ⟨HALL1.out, G, y, m, d, by rw [HUE.out], hC5, hO5, hW5⟩⟩
    · have HALL1 : Veil (¬ ALL) := ⟨fun h => h0 (by have := HNR.out; have := (HALL.out.1 h).2; omega)⟩
      have hnd := need_bad W3
      have hnb : ((nr : Int) == 0) = false := by simp; omega
      clear HNR hEl
      go_upto_region 5 with (go_at_call 74; refine hnd.mono ?_; rintro e w4 ⟨rfl, rfl⟩)
      refine leaves_cons (f := 73) (args := #[.pointer (some ⟨w.heap.size, 0, none⟩), .pointer (some ⟨w.heap.size + 1, 0, none⟩)]) (by simp) (by simp [go_sem]) ?_
      refine (catchRF_any w.heap.size (w.heap.size + 1) _ U Z hzv hz1 HUZ.out hiZ h1Z W3 hA3 hB3 (by omega)).mono ?_
      rintro e u' w'' ⟨rfl, rfl, hA5, hB5, hbl⟩
      exact ⟨_, results_fr Tryz.results41 _ rfl rfl hA5 hB5 hiZ, .inr ⟨HALL1.out, rfl, hW3.trans (hbl w.heap.size (Nat.le_refl _) (by omega) hW3.size)⟩⟩
  · have h1 : Calls Tryz.prog 42 #[.pointer (some ⟨w.heap.size + 2, 0, none⟩)] W1 fun e w' => e = .panicked [wrongP] ∧ Took W1 w' (w.heap.size + 2) w.heap.size := hrd.mono fun e w' h => by
      rcases h with ⟨h, _⟩ | ⟨_, h1, h2⟩
      · exact absurd h hO
      · exact ⟨h1, h2⟩
    have HALL1 : Veil (¬ ALL) := ⟨fun h => hO (HALL.out.1 h).1⟩
    clear hrd hO hA1 hB1
    go_upto_region 4 with (go_at_call 42; refine h1.mono ?_; rintro e w2 ⟨rfl, ht2⟩)
    have hk2 := keep _ ht2
    have hW2 := hW1.trans ht2.below
    refine leaves_cons (f := 73) (args := #[.pointer (some ⟨w.heap.size, 0, none⟩), .pointer (some ⟨w.heap.size + 1, 0, none⟩)]) (by simp) (by simp [go_sem]) ?_
    refine (catchRF_any w.heap.size (w.heap.size + 1) _ Z Z hzv hz1 rfl hiZ h1Z w2 hk2.1 hk2.2 (by omega)).mono ?_
    rintro e u' w'' ⟨rfl, rfl, hA5, hB5, hbl⟩
    exact ⟨_, results_fr Tryz.results41 _ rfl rfl hA5 hB5 hiZ, .inr ⟨HALL1.out, rfl, hW2.trans (hbl w.heap.size (Nat.le_refl _) (by omega) hW2.size)⟩⟩
set_option maxHeartbeats 4000000 in
theorem ReadFrame_any (x : Option Addr) (n c : Nat) (z : List Int) (w : World) (hb : Bytes w x n c z) (hz : ∀ v ∈ z, b8 v) :
    Calls Tryz.prog 19 #[.slice x n c] w fun e w' =>
      (frameAll z ∧ ∃ G y m d, e = .returned (.tuple #[.agg (frOf z (.slice (some ⟨G, 0, none⟩) (fN z) (fN z)) (.slice y m d)).cells.toArray, .int .i64 0]) ∧ CellsAt w' G 119 (wpsC (wsOf z)) ∧ OwnB w' w.heap.size (.slice y m d) (boOf z) ∧ Below w.heap.size w w') ∨ (¬ frameAll z ∧ e = .returned (.tuple #[.agg frZ.cells.toArray, .int .i64 3]) ∧ Below w.heap.size w w') := by
  obtain ⟨Z, hzv, hz1, hZ⟩ := zeroFrL
  have hG0 := CellsAt.new w 32 Z
  have hB0 : Below w.heap.size w (w.alloc (.cells Z.toArray 32)) := (Below.refl _ _).alloc (Nat.le_refl _) _
  have hrd := fun wx (h : Below w.heap.size w wx) => readF_any x n c z wx (hb.below h) hz
  have HFL : Veil (∀ wv bv, frameAll z → (frOf z wv bv).cells.length = 70) := ⟨fun wv bv h => by have := frOf_len z h.1 wv bv; exact fr_len _ this.1 this.2⟩
  have HZL : Veil (Z.length = 70) := ⟨by rw [hZ, fr_len frZ rfl rfl]⟩
  have HFZ : Veil (frZ.cells = Z) := ⟨hZ.symm⟩
  have HZ1 : Veil (∀ v ∈ frZ.cells, v.oneCell' = true) := ⟨fr_one frZ none none 0 0 0 0 rfl rfl⟩
  have HU1 : Veil (∀ (a : Option Addr) (l k : Nat) (b : Option Addr) (o p : Nat), ∀ v ∈ (frOf z (.slice a l k) (.slice b o p)).cells, v.oneCell' = true) := ⟨fun a l k b o p => fr_one _ a b l k o p rfl rfl⟩
  obtain ⟨FR, hFR⟩ : ∃ q, frOf z = q := ⟨_, rfl⟩
  obtain ⟨WS, hWS⟩ : ∃ q, wpsC (wsOf z) = q := ⟨_, rfl⟩
  obtain ⟨BO, hBO⟩ : ∃ q, boOf z = q := ⟨_, rfl⟩
  obtain ⟨N, hN⟩ : ∃ q, fN z = q := ⟨_, rfl⟩
  obtain ⟨ALL, hALL⟩ : ∃ q, frameAll z = q := ⟨_, rfl⟩
  obtain ⟨ZF, hZF⟩ : ∃ q, frZ.cells = q := ⟨_, rfl⟩
  rw [hFR, hWS, hBO, hN, hALL, hZF] at hrd
  rw [hFR, hALL] at HFL
  rw [hFR] at HU1
  rw [hZF] at HFZ HZ1
  rw [hFR, hWS, hBO, hN, hALL, hZF]
  clear hFR hWS hBO hN hALL hb hz hZ hZF
  go_enter Tryz.func19, Tryz.ntmps19
  go_upto_region 1 with fail
  refine forget (p := fun y => Code.wp _ _ _ _ y) (fun W => Below w.heap.size w W ∧ CellsAt W w.heap.size 32 Z) ⟨hB0, hG0⟩ ?_
  clear hB0 hG0
  rintro W ⟨hB0, hG0⟩
  have hrW := hrd W hB0
  clear hrd
  by_cases hA : ALL
  · have h1 : Calls Tryz.prog 41 #[.slice x n c, .func (.func 42) #[] #[]] W fun e w' => ∃ G y m d, e = .returned (.tuple #[.agg (FR (.slice (some ⟨G, 0, none⟩) N N) (.slice y m d)).cells.toArray, .int .i64 0]) ∧ CellsAt w' G 119 WS ∧ OwnB w' W.heap.size (.slice y m d) BO ∧ Below W.heap.size W w' := hrW.mono fun e w' h => by
      rcases h with ⟨_, h⟩ | ⟨h, _⟩
      · exact h
      · exact absurd hA h
    have HA : Veil ALL := ⟨hA⟩
    have HIU : Veil (∀ wv bv, (Tryz.prog.info? 32).map (·.size) = some (FR wv bv).cells.length ∧ Z.length = (FR wv bv).cells.length) := ⟨fun wv bv => by rw [HFL.out wv bv HA.out]; exact ⟨sizeFrame, HZL.out⟩⟩
    clear hrW hA
    go_wp2_with (first
      | (go_at_call 41; refine h1.mono ?_; rintro e w1 ⟨G, y, m, d, rfl, hC1, hO1, hb1⟩; obtain ⟨hiU, hlU⟩ := HIU.out (.slice (some ⟨G, 0, none⟩) N N) (.slice y m d); have h1U := HU1.out (some ⟨G, 0, none⟩) N N y m d; obtain ⟨U, hU⟩ : ∃ q, (FR (.slice (some ⟨G, 0, none⟩) N N) (.slice y m d)).cells = q := ⟨_, rfl⟩; rw [hU] at hiU hlU h1U ⊢; have hl0 := hG0.lt; have hG1 : CellsAt w1 w.heap.size 32 Z := (by unfold CellsAt at hG0 ⊢; rw [hb1.block _ hl0]; exact hG0))
      | (refine wpList_stv rfl 32 _ _ rfl _ rfl rfl hG1 hiU hlU h1U ?_))
    refine bodyPost_ret (results_frt Tryz.results19 _ rfl rfl (hG1.setRow U) hiU) rfl (.inl ⟨HA.out, G, y, m, d, by rw [hU]; rfl, hC1.setRowOther2 _ (fun e => ?_), (hO1.lessG hB0.size).keepF hG1 (by decide) (fun g hg => setRow_other w1 w.heap.size g _ hg), ?_⟩)
    · have := hG1.typ hC1 e
      revert this; decide
    · exact below_setRow (hB0.trans (hb1.mono hB0.size)) (Nat.le_refl _) _
  · have h1 : Calls Tryz.prog 41 #[.slice x n c, .func (.func 42) #[] #[]] W fun e w' => e = .returned (.tuple #[.agg ZF.toArray, .int .i64 3]) ∧ Below W.heap.size W w' := hrW.mono fun e w' h => by
      rcases h with ⟨h, _⟩ | ⟨_, h⟩
      · exact absurd h hA
      · exact h
    have HA : Veil (¬ ALL) := ⟨hA⟩
    have hlU : Z.length = ZF.length := by rw [HFZ.out]
    have hiU : (Tryz.prog.info? 32).map (·.size) = some ZF.length := by rw [HFZ.out, HZL.out]; exact sizeFrame
    have h1U := HZ1.out
    clear hrW hA
    go_wp2_with (first
      | (go_at_call 41; refine h1.mono ?_; rintro e w1 ⟨rfl, hb1⟩; have hl0 := hG0.lt; have hG1 : CellsAt w1 w.heap.size 32 Z := (by unfold CellsAt at hG0 ⊢; rw [hb1.block _ hl0]; exact hG0))
      | (refine wpList_stv rfl 32 _ _ rfl _ rfl rfl hG1 hiU hlU h1U ?_))
    refine bodyPost_ret (results_frt Tryz.results19 _ rfl rfl (hG1.setRow ZF) hiU) rfl (.inr ⟨HA.out, rfl, ?_⟩)
    exact below_setRow (hB0.trans (hb1.mono hB0.size)) (Nat.le_refl _) _
def frameAll' (z : List Int) : Prop := frameOk z ∧ z.length = fO z + 32
theorem val4_backF (n : Int) (h : in32 n) : val4 (n / 16777216 % 256) (n / 65536 % 256) (n / 256 % 256) (n % 256) = n := by
  have h1 := h.1
  have h2 := h.2
  unfold val4; omega
theorem at1_app (A B : List Int) (o j : Nat) (h : A.length = o) : at1 (A ++ B) (o + j) = at1 B j := by
  subst h
  unfold at1
  rw [List.getElem?_append_right (by omega), Nat.add_sub_cancel_left]
theorem drop_app (A B : List Int) (o j : Nat) (h : A.length = o) : (A ++ B).drop (o + j) = B.drop j := by
  subst h
  exact List.drop_length_add_append _
theorem at4_app (A B : List Int) (o j : Nat) (h : A.length = o) : at4 (A ++ B) (o + j) = at4 B j := by
  unfold at4
  rw [at1_app A B o j h, Nat.add_assoc, at1_app A B o (j + 1) h, Nat.add_assoc, at1_app A B o (j + 2) h, Nat.add_assoc, at1_app A B o (j + 3) h]
theorem wpOf_app (A B : List Int) (o : Nat) (h : A.length = o) : wpOf (A ++ B) o = wpOf B 0 := by
  unfold wpOf
  have e0 := at1_app A B o 0 h
  rw [Nat.add_zero] at e0
  rw [e0, at1_app A B o 1 h, at4_app A B o 2 h, drop_app A B o 6 h]
theorem wpOf_wrap (e : Wp) (R : List Int) (h : e.In) (hd : e.data.length = 48) : wpOf (wrapL e ++ R) 0 = e := by
  obtain ⟨t, a, s, d⟩ := e
  have h4 : at4 (wrapL ⟨t, a, s, d⟩ ++ R) (0 + 2) = s := val4_backF s h.es
  have h6 : ((wrapL ⟨t, a, s, d⟩ ++ R).drop (0 + 6)).take 48 = d := by
    show (d ++ R).take 48 = d
    exact List.take_left' hd
  show (⟨t, a, at4 (wrapL ⟨t, a, s, d⟩ ++ R) (0 + 2), ((wrapL ⟨t, a, s, d⟩ ++ R).drop (0 + 6)).take 48⟩ : Wp) = ⟨t, a, s, d⟩
  rw [h4, h6]
theorem wrapsL_app (a b : List Wp) : wrapsL (a ++ b) = wrapsL a ++ wrapsL b := by simp [wrapsL]
theorem wrapsL_cons (e : Wp) (b : List Wp) : wrapsL (e :: b) = wrapL e ++ wrapsL b := by simp [wrapsL]
theorem wpsN_wraps (A R : List Int) (o : Nat) (hA : A.length = o) (ws : List Wp) (hi : ∀ e ∈ ws, e.In) (hd : ∀ e ∈ ws, e.data.length = 48) : wpsN (A ++ (wrapsL ws ++ R)) o ws.length = ws := by
  apply List.ext_getElem
  · rw [wpsN_len]
  · intro j h1 h2
    have e1 : (wpsN (A ++ (wrapsL ws ++ R)) o ws.length)[j] = wpOf (A ++ (wrapsL ws ++ R)) (o + 54 * j) := by simp [wpsN]
    have hs : ws = ws.take j ++ ws[j] :: ws.drop (j + 1) := by rw [List.getElem_cons_drop, List.take_append_drop]
    have e2 : A ++ (wrapsL ws ++ R) = (A ++ wrapsL (ws.take j)) ++ (wrapL ws[j] ++ (wrapsL (ws.drop (j + 1)) ++ R)) := by
      have : wrapsL ws = wrapsL (ws.take j) ++ (wrapL ws[j] ++ wrapsL (ws.drop (j + 1))) := by
        conv => lhs; rw [hs]
        rw [wrapsL_app, wrapsL_cons]
      rw [this]; simp only [List.append_assoc]
    have hl : (A ++ wrapsL (ws.take j)).length = o + 54 * j := by
      rw [List.length_append, hA, wrapsL_le _ (fun e he => hd e (List.mem_of_mem_take he)), List.length_take, Nat.min_eq_left (by omega)]
    rw [e1, e2, wpOf_app _ _ _ hl, wpOf_wrap _ _ (hi _ (List.getElem_mem h2)) (hd _ (List.getElem_mem h2))]
theorem frameL_cut (F : Fr) (ws : List Wp) (body : List Int) : frameL F ws body = ([69, 83, F.author] ++ be4 F.number ++ dotL F.ea F.es) ++ (F.prev ++ ((ws.length : Int) :: (wrapsL ws ++ (be2 body.length ++ (body ++ F.mac))))) := by
  unfold frameL openL
  simp only [List.append_assoc, List.cons_append, List.nil_append]
theorem frame_back (F : Fr) (ws : List Wp) (body : List Int) (hp : F.prev.length = 32) (hm : F.mac.length = 32) (hF : F.In) (hi : ∀ e ∈ ws, e.In) (hd : ∀ e ∈ ws, e.data.length = 48) (hw : ws.length ≤ 64) (hb : body.length ≤ 4112) :
    frameAll' (frameL F ws body) ∧ fN (frameL F ws body) = ws.length ∧ wsOf (frameL F ws body) = ws ∧ boOf (frameL F ws body) = body ∧ ∀ wv bv, frOf (frameL F ws body) wv bv = { F with wraps := wv, body := bv } := by
  obtain ⟨Z, hZ⟩ : ∃ q, frameL F ws body = q := ⟨_, rfl⟩
  have hc := frameL_cut F ws body
  rw [hZ] at hc
  have hlen : Z.length = 45 + 54 * ws.length + 2 + body.length + 32 := by
    rw [hc]
    simp only [List.length_append, List.length_cons, List.length_nil, be4_length, dotL_length, wrapsL_le ws hd, hp, hm]
    have : (be2 (body.length : Int)).length = 2 := rfl
    omega
  rw [hZ]
  have P12 : ([69, 83, F.author] ++ be4 F.number ++ dotL F.ea F.es).length = 12 := rfl
  have d12 : Z.drop 12 = F.prev ++ ((ws.length : Int) :: (wrapsL ws ++ (be2 body.length ++ (body ++ F.mac)))) := by rw [hc]; rfl
  have a44 : at1 Z 44 = (ws.length : Int) := by
    rw [hc, show (44 : Nat) = 12 + 32 from rfl, at1_app _ _ 12 32 P12, show (32 : Nat) = 32 + 0 from rfl, at1_app _ _ 32 0 hp]; rfl
  have hN : fN Z = ws.length := by unfold fN; rw [a44]; rfl
  have hQ : fQ Z = 45 + 54 * ws.length := by unfold fQ; rw [hN]
  have c45 : ∃ A : List Int, A.length = 45 ∧ Z = A ++ (wrapsL ws ++ (be2 body.length ++ (body ++ F.mac))) := by
    refine ⟨([69, 83, F.author] ++ be4 F.number ++ dotL F.ea F.es) ++ (F.prev ++ [(ws.length : Int)]), ?_, ?_⟩
    · rw [List.length_append, P12, List.length_append, hp]; rfl
    · rw [hc]; simp only [List.append_assoc, List.cons_append, List.nil_append]
  obtain ⟨A, hA, hZA⟩ := c45
  have hZB : Z = (A ++ wrapsL ws) ++ (be2 body.length ++ (body ++ F.mac)) := by rw [hZA, List.append_assoc]
  have hAB : (A ++ wrapsL ws).length = 45 + 54 * ws.length := by rw [List.length_append, hA, wrapsL_le ws hd]
  have hM : fM Z = body.length := by
    unfold fM told2
    rw [hQ]
    have e0 := at1_app (A ++ wrapsL ws) (be2 body.length ++ (body ++ F.mac)) (45 + 54 * ws.length) 0 hAB
    have e1 := at1_app (A ++ wrapsL ws) (be2 body.length ++ (body ++ F.mac)) (45 + 54 * ws.length) 1 hAB
    rw [← hZB] at e0 e1
    rw [Nat.add_zero] at e0
    rw [e0, e1]
    show (val2 ((body.length : Int) / 256 % 256) ((body.length : Int) % 256)).toNat = body.length
    unfold val2; omega
  have hO : fO Z = 45 + 54 * ws.length + 2 + body.length := by unfold fO; rw [hQ, hM]
  have dQ : Z.drop (45 + 54 * ws.length + 2) = body ++ F.mac := by
    rw [hZB, drop_app _ _ _ 2 hAB]; rfl
  have hBo : boOf Z = body := by
    unfold boOf
    rw [hQ, hM, dQ, List.take_left' rfl]
  have hMa : (Z.drop (fO Z)).take 32 = F.mac := by
    rw [hO, ← List.drop_drop, dQ, List.drop_left' rfl, List.take_of_length_le (by omega)]
  have hPr : (Z.drop 12).take 32 = F.prev := by rw [d12, List.take_left' hp]
  refine ⟨⟨⟨?_, ?_, ⟨by omega, by rw [a44]; omega, by rw [a44, Int.toNat_natCast]; omega⟩, ⟨by rw [hQ]; omega, by have := hM; unfold fM at this; rw [this]; omega, by have := hM; unfold fM at this; rw [this, hQ]; omega⟩, by rw [hO]; omega⟩, by rw [hO, hlen]⟩, hN, ?_, hBo, fun wv bv => ?_⟩
  · rw [hc]; rfl
  · rw [hc]; rfl
  · unfold wsOf
    rw [hN, hZA]
    exact wpsN_wraps A _ 45 hA ws hi hd
  · have q2 : at1 Z 2 = F.author := by rw [hc]; rfl
    have q3 : at4 Z 3 = F.number := by rw [hc]; exact val4_backF F.number hF.number
    have q7 : at1 Z 7 = F.ea := by rw [hc]; rfl
    have q8 : at4 Z 8 = F.es := by rw [hc]; exact val4_backF F.es hF.es
    unfold frOf
    rw [q2, q3, q7, q8, hPr, hMa]
def kP (seed k : List Int) : Nat → List Int
  | 0 => zk
  | j + 1 => tSum seed k 0 ((j + 1 : Nat) : Int) (kP seed k j) (evT (j + 1) (j % 8))
def kR (seed k : List Int) (j : Nat) : List Int := tFrm seed k 0 ((j + 1 : Nat) : Int) (kP seed k j) (evT (j + 1) (j % 8))
def kRs (seed k : List Int) (m : Nat) : List (List Int) := (List.range m).map (kR seed k)
theorem kP_ok (seed k : List Int) : ∀ j, okK (kP seed k j)
  | 0 => okK_zk
  | _ + 1 => ⟨tSum_length _ _ _ _ _ _, fun v hv => sumL_inH _ v hv⟩
theorem tBody_length (k : List Int) (own n : Int) (prev : List Int) (E : Ev) (hE : E.past.length = 8) : (tBody k own n prev E).length = 144 := by
  unfold tBody sbodyL
  rw [sealL_length, padL_length _ _ (by rw [eventL_length E hE]; omega)]
theorem tMac_length (seed k : List Int) (own n : Int) (prev : List Int) (E : Ev) : (tMac seed k own n prev E).length = 32 := ftagL_length _ _ _ _
theorem kR_length (seed k : List Int) (j : Nat) : (kR seed k j).length = 223 := by
  unfold kR tFrm
  rw [frameL_length _ _ _ (kP_ok seed k j).1 (tMac_length _ _ _ _ _ _) (by simp), tBody_length _ _ _ _ _ rfl]
  rfl
theorem kRs_length (seed k : List Int) (m : Nat) : (kRs seed k m).length = m := by simp [kRs]
theorem kRs_get (seed k : List Int) (m j : Nat) (h : j < m) : (kRs seed k m)[j]? = some (kR seed k j) := by simp [kRs, h]
theorem kRs_succ (seed k : List Int) (m : Nat) : kRs seed k (m + 1) = kRs seed k m ++ [kR seed k m] := by simp [kRs, List.range_succ]
theorem kRs_small (seed k : List Int) (m : Nat) : ∀ r ∈ kRs seed k m, r.length < 65536 := fun r hr => by
  obtain ⟨j, _, rfl⟩ := List.mem_map.1 hr
  rw [kR_length]; omega
theorem lensK_k (seed k : List Int) (m : Nat) : ∀ j, j ≤ m → lensK (kRs seed k m) j = 233 * j
  | 0, _ => by simp [lensK]
  | j + 1, h => by
    have hl : j < (kRs seed k m).length := by rw [kRs_length]; omega
    have e : (kRs seed k m)[j] = kR seed k j := Option.some.inj ((List.getElem?_eq_getElem hl).symm.trans (kRs_get seed k m j (by omega)))
    rw [lensK_succ _ _ hl, lensK_k seed k m j (by omega), e, kR_length]; omega
theorem flat_k (seed k : List Int) (m : Nat) : (flatR (kRs seed k m)).length = 233 * m := by
  rw [flatR_length, kRs_length, lensK_k seed k m m (Nat.le_refl _)]
theorem wholeC_k (seed k : List Int) (m kp : Nat) : ∀ j, j ≤ m → wholeC (kRs seed k m) kp j = min (kp / 233) j
  | 0, _ => by simp [wholeC]
  | j + 1, h => by
    unfold wholeC
    rw [lensK_k seed k m (j + 1) h, wholeC_k seed k m kp j (by omega)]
    split <;> omega
theorem run_index_mid {P : Program} (w : World) (t e : TypeId) (n m : Nat) (d : TypeDesc) (cs : List Value) (k : Nat) (hu : P.underlying t = some (.array n e)) (hue : P.underlying e = some d) (hd : (match d with | .struct _ | .array _ _ => true | _ => false) = true) (hi : (P.info? e).map (·.size) = some m) (hk : k < n) :
    (Instr.index t (.agg cs.toArray) (.int .i64 (k : Int))).run P w = .ok (.agg ((cs.drop (k * m)).take m).toArray) w := by
  have hp := part_midE (P := P) w e m d cs (k * m) hue hd hi
  cases hq : P.info? e with
  | none => simp [hq] at hi
  | some i =>
    have hs : i.size = m := by simpa [hq] using hi
    have hk' : (k : Int) < (n : Int) := by omega
    simp [Instr.index, asIntOf, run_underlying hu, sizeOf, typeInfo, hq, hs, hk, hp]
theorem kept_recs (seed k : List Int) (m kp : Nat) : ∃ q, recsL ((flatR (kRs seed k m)).take (0 + min kp ((flatR (kRs seed k m)).length - 0))) = (kRs seed k m).take (min (kp / 233) m) ++ q ∧ (m ≤ kp / 233 → q = []) := by
  rw [flat_k, Nat.zero_add, Nat.sub_zero]
  by_cases h : m ≤ kp / 233
  · refine ⟨[], ?_, fun _ => rfl⟩
    rw [Nat.min_eq_right (by omega : 233 * m ≤ kp), Nat.min_eq_right h, List.append_nil, List.take_of_length_le (by rw [flat_k]; exact Nat.le_refl _), List.take_of_length_le (by rw [kRs_length]; exact Nat.le_refl _)]
    exact (flatR_recs _ (kRs_small seed k m)).1
  · obtain ⟨q, hq⟩ := torn_recs (kRs seed k m) (min kp (233 * m)) m (fun r hr => kRs_small seed k m r (List.mem_of_mem_take hr)) (by rw [kRs_length]; exact Nat.le_refl _)
    have e : (kRs seed k m).take m = kRs seed k m := List.take_of_length_le (by rw [kRs_length]; exact Nat.le_refl _)
    rw [wholeC_k seed k m _ m (Nat.le_refl _), e] at hq
    refine ⟨q, ?_, fun h' => absurd h' h⟩
    rw [hq]
    have : kp < 233 * m := by omega
    rw [Nat.min_eq_left (by omega : kp ≤ 233 * m)]
def kT (seed k : List Int) : Nat → Sms
  | 0 => noS
  | j + 1 => addS (kT seed k j) 0 (kP seed k (j + 1))
theorem kT_all (seed k : List Int) : ∀ j, j ≤ 256 → OkS (kT seed k j) ∧ cnt (kT seed k j) 0 = j ∧ atN (kT seed k j) 0 j = kP seed k j
  | 0, _ => ⟨okS_no, rfl, okS_no.at0 0⟩
  | j + 1, h => by
    obtain ⟨h1, h2, h3⟩ := kT_all seed k j (by omega)
    refine ⟨h1.add 0 _ (kP_ok seed k (j + 1)) (by omega), by show cnt (addS _ _ _) 0 = _; rw [cnt_add h1, h2], ?_⟩
    show atN (addS _ _ _) 0 (j + 1) = _
    have := atN_add_new h1 0 (kP seed k (j + 1))
    rw [h2] at this
    exact this
theorem kT_look (seed k : List Int) (j : Nat) (h : j < 256) (s : List Int) : lookN (kT seed k j) 0 (j + 1) (kP seed k j) s = 0 := by
  obtain ⟨h1, h2, h3⟩ := kT_all seed k j (by omega)
  unfold lookN
  rw [if_neg (by omega), if_neg (by rw [h2]; omega), if_neg (by rw [h2]; omega), if_pos (by rw [h2, h3])]
theorem tFrm_in {W : World} {seed k : List Int} {own n : Int} {prev : List Int} {E : Ev} {F : Fr} (h : TFr W seed k own n prev E F) : ∀ v ∈ tFrm seed k own n prev E, b8 v := by
  obtain ⟨xw, cw, xb, cb, hF⟩ := h.frin
  rw [← h.frm]
  intro v hv
  unfold frameL at hv
  simp only [List.mem_append] at hv
  rcases hv with ((hv | hv) | hv) | hv
  · exact openL_in9 F [] hF.inF (by simp) (by decide) v hv
  · simp only [be2, List.mem_cons, List.not_mem_nil, or_false] at hv
    rcases hv with rfl | rfl <;> exact ⟨by omega, by omega⟩
  · exact hF.inB v hv
  · exact hF.inF.mac v hv
theorem TFr.Bytes {V : World} {seed k : List Int} {own n : Int} {prev : List Int} {E : Ev} {F : Fr} (h : TFr V seed k own n prev E F) :
    Calls Tryz.prog 14 #[.agg F.cells.toArray] V fun e w' => ∃ v, e = .returned (.tuple #[v, .int .i64 0]) ∧ OwnB w' V.heap.size v (tFrm seed k own n prev E) ∧ Below V.heap.size V w' := by
  obtain ⟨xw, cw, xb, cb, hF⟩ := h.frin
  have := Frame_any F xw 0 cw [] xb 144 cb _ V hF.prev hF.mac hF.wraps hF.hw hF.body_ hF.hb (by omega) (by omega)
  rw [h.frm] at this
  exact this
theorem read_t (x : Option Addr) (n0 c : Nat) (seed k : List Int) (own n : Int) (prev : List Int) (E : Ev) (W : World) (hb : Bytes W x n0 c (tFrm seed k own n prev E)) (hp : okK prev) (hown : in8 own) (hn : in32 n) (hE : E.past.length = 8) (hz : ∀ v ∈ tFrm seed k own n prev E, b8 v) (hB : ∀ v ∈ tBody k own n prev E, b8 v) :
    Calls Tryz.prog 19 #[.slice x n0 c] W fun e w' => ∃ F : Fr, e = .returned (.tuple #[.agg F.cells.toArray, .int .i64 0]) ∧ TFr w' seed k own n prev E F ∧ Below W.heap.size W w' := by
  have hmi : ∀ v ∈ tMac seed k own n prev E, in8 v := fun v hv => ftagL_in _ _ _ _ v hv
  have hGI : (tG seed k own n prev E).In := ⟨hown, hn, show in8 0 from ⟨by decide, by decide⟩, show in32 0 from ⟨by decide, by decide⟩, hp.2, hmi⟩
  obtain ⟨f1, f2, f3, f4, f5⟩ := frame_back (tG seed k own n prev E) [] (tBody k own n prev E) hp.1 (tMac_length _ _ _ _ _ _) hGI (by simp) (by simp) (by simp) (by rw [tBody_length _ _ _ _ _ hE]; omega)
  refine (ReadFrame_any x n0 c (tFrm seed k own n prev E) W hb hz).mono ?_
  rintro e w' (⟨_, G, y, m, d, he, hG, hO, hb'⟩ | ⟨hn', _⟩)
  · unfold tFrm at he hG hO
    rw [f5, f2] at he
    rw [f4] at hO
    obtain ⟨hm, hby⟩ := hO.bytes
    rw [tBody_length _ _ _ _ _ hE] at hm
    subst hm
    exact ⟨_, he, ⟨⟨some ⟨G, 0, none⟩, 0, y, d, ⟨hp.1, tMac_length _ _ _ _ _ _, rfl, rfl, ⟨rfl, Nat.le_refl _, by decide, (fun h => by cases h), by simp, .inl rfl⟩, hby, ⟨hown, hn, show in8 0 from ⟨by decide, by decide⟩, show in32 0 from ⟨by decide, by decide⟩, hp.2, hmi⟩, by simp, hB⟩⟩, rfl, rfl, rfl, rfl, rfl, rfl⟩, hb'⟩
  · exact absurd f1 hn'
theorem kadd_any {V : World} {B H b : Nat} {v : Value} {seed k : List Int} {j : Nat} {F : Fr} (hj : j < 256) (h : ChainAt V B H b v (kT seed k j) []) (hT : TFr V seed k 0 ((j + 1 : Nat) : Int) (kP seed k j) (evT (j + 1) (j % 8)) F) (hKT : S.KTab V) (hB : B ≤ V.heap.size) :
    Calls Tryz.prog 8 #[.pointer (some ⟨H, 0, none⟩), .agg F.cells.toArray] V fun e w' => e = .returned (.int .i64 0) ∧ (∃ v', ChainAt w' B H b v' (kT seed k (j + 1)) []) ∧ Turn (chainP H b v) V w' := by
  obtain ⟨xw, cw, xb, cb, hF⟩ := hT.frin
  refine (chAdd_any B H b v (kT seed k j) [] V F xw 0 cw [] xb 144 cb _ 0 (j + 1) h hF hKT hT.author hT.number hB).mono ?_
  rintro e w' ⟨he, v', hto⟩
  rw [hT.fsum, hT.prv] at he hto
  rw [kT_look seed k j hj] at he
  have ha : addSt (kT seed k j) [] 0 (j + 1) (kP seed k j) (tSum seed k 0 ((j + 1 : Nat) : Int) (kP seed k j) (evT (j + 1) (j % 8))) = (kT seed k (j + 1), []) := by unfold addSt; rw [if_pos (kT_look seed k j hj _)]; rfl
  rw [ha] at hto
  exact ⟨he, ⟨v', hto.at_⟩, hto.turn⟩
theorem ChainAt.noRows {w : World} {base H b : Nat} {v : Value} {T : Sms} {P : List Pf} (h : ChainAt w base H b v T P) (g : Nat) (cur : Array Value) (t : TypeId) (ht : t = 5 ∨ t = 30) (hg : w.heap[g]? = some (.cells cur t (0, 0))) : ¬ chainP H b v g := by
  rintro (rfl | rfl | e)
  · have hb := h.box
    unfold CellsAt at hb
    rw [hg] at hb
    injection hb with hb
    injection hb with _ e2 _
    rcases ht with rfl | rfl
    · exact absurd e2 (by decide)
    · exact absurd e2 (by decide)
  · exact h.map.cellsNe (t := t) (cs := cur.toList) (g := g) (by unfold CellsAt; rw [hg]) rfl
  · obtain ⟨_, _, cur', hc⟩ := h.own.blockLt g e
    rw [hg] at hc
    injection hc with hc
    injection hc with _ e2 _
    rcases ht with rfl | rfl
    · exact absurd e2 (by decide)
    · exact absurd e2 (by decide)
theorem RowsAt.turn {w w' : World} {base : Nat} {v : Value} {rs : List (List Int)} {b0 H b : Nat} {vc : Value} {T : Sms} {P : List Pf} (h : RowsAt w base v rs) (hc : ChainAt w b0 H b vc T P) (ht : Turn (chainP H b vc) w w') : RowsAt w' base v rs :=
  h.keep fun g cur t _ htt hg => ht.block g (Array.getElem?_eq_some_iff.1 hg).1 (hc.noRows g cur t htt hg)
theorem RowsAt.at_ {w : World} {base : Nat} {x : Option Addr} {n c : Nat} {rs : List (List Int)} (h : RowsAt w base (.slice x n c) rs) (j : Nat) (hj : j < rs.length) : ∃ g y m d, x = some ⟨g, 0, none⟩ ∧ w.cell? ⟨g, j, none⟩ = some (.slice y m d) ∧ Bytes w y m d rs[j] := by
  obtain ⟨vals, h1, h2⟩ := h
  obtain ⟨u, hu, hO⟩ := h2 j hj
  obtain ⟨y, m, d, rfl, hm⟩ := hO.isSlice
  rcases h1.2 with ⟨_, h0⟩ | ⟨g, cap', cur, e1, _, hg, hc, hmx, hs, ht⟩
  · omega
  · cases e1
    refine ⟨g, y, m, d, rfl, ?_, hO.bytes.2⟩
    rw [cell_of_row w g _ _ _ _ hg, ← Array.getElem?_toList]
    have e : (cur.toList.take (rs.length * 1))[j]? = vals[j]? := by rw [ht]
    rw [Nat.mul_one, List.getElem?_take_of_lt hj] at e
    rw [e, hu]
theorem kHead_ix (seed k : List Int) (j : Nat) (hj : j ≤ 256) (wx : World) : (Instr.index 41 (.agg (headsC (headsOf (kT seed k j))).toArray) (.int .i64 0)).run Tryz.prog wx = .ok (.agg (headC ((j : Int), kP seed k j)).toArray) wx := by
  obtain ⟨h1, h2, h3⟩ := kT_all seed k j hj
  have h := run_index_mid (P := Tryz.prog) wx 41 40 8 33 _ (headsC (headsOf (kT seed k j))) 0 Tryz.underlying41 Tryz.underlying40 rfl sizeHead1 (by omega)
  have hp := headsC_part (headsOf (kT seed k j)) h1.heads_ok 0 (by rw [headsOf_length]; omega) []
  have hh : headOf (kT seed k j) 0 = ((j : Int), kP seed k j) := by unfold headOf; rw [h2, h3]
  rw [List.append_nil, headsOf_get _ 0 (by omega), hh] at hp
  simp only [Nat.zero_mul] at h hp
  rw [hp] at h
  exact h
theorem kHead_fd (n : Int) (s : List Int) (wx : World) : (Instr.field 40 (.agg (headC (n, s)).toArray) 0).run Tryz.prog wx = .ok (.int .u32 n) wx := by kernel_rfl
structure KSt (w wr : World) (DB D G9 BS H bR : Nat) (v : Value) (seed k : List Int) (i : Nat) (vd : Value) : Prop where
  below : Below w.heap.size w wr
  ring : RingAt wr BS H 0 seed bR (newM 0 seed) v (newD 0)
  key : CellsAt wr G9 23 ((kP seed k i).map (Value.int .u8))
  disk : DiskAt wr DB D vd (flatR (kRs seed k i)) 0
  sep : ¬ diskP D vd G9
  rlt : ∀ g, ringP H bR v g → g < DB
  wlt : w.heap.size ≤ DB
  klt : DB ≤ G9
theorem KSt.far {w wr wr' : World} {DB D G9 BS H bR : Nat} {v : Value} {seed k : List Int} {i : Nat} {vd : Value} (h : KSt w wr DB D G9 BS H bR v seed k i vd) (hb : Below wr.heap.size wr wr') : KSt w wr' DB D G9 BS H bR v seed k i vd :=
  ⟨h.below.trans (hb.mono h.below.size), h.ring.far hb, h.key.farM hb, h.disk.far hb, h.sep, h.rlt, h.wlt, h.klt⟩
theorem KSt.to {w wr wr' : World} {DB D G9 BS H bR : Nat} {v : Value} {seed k : List Int} {i : Nat} {vd vd' : Value} {z : List Int} {s : Nat} (h : KSt w wr DB D G9 BS H bR v seed k i vd) (ht : DiskTo wr wr' DB D vd vd' z s) :
    Below w.heap.size w wr' ∧ RingAt wr' BS H 0 seed bR (newM 0 seed) v (newD 0) ∧ CellsAt wr' G9 23 ((kP seed k i).map (Value.int .u8)) ∧ ¬ diskP D vd' G9 := by
  have hin : ∀ g, diskP D vd g → DB ≤ g := fun g hg => (h.disk.inside g hg).2
  refine ⟨h.below.trans (ht.turn.below h.below.size fun g hg => Nat.le_trans h.wlt (hin g hg)), h.ring.congr fun g hg => ht.turn.block g (h.ring.inside g hg).1 (fun hp => by have := h.rlt g hg; have := hin g hp; omega), h.key.congr (ht.turn.block G9 h.key.lt h.sep), ?_⟩
  rintro (e | e)
  · exact h.sep (.inl e)
  · rcases ht.block with q | ⟨g, q, hg⟩
    · rw [q] at e; exact h.sep (.inr e)
    · rw [q] at e; cases e
      have := h.key.lt
      omega
theorem KSt.next {w wr wr' : World} {DB D G9 BS H bR : Nat} {v : Value} {seed k : List Int} {i : Nat} {vd vd' : Value} (h : KSt w wr DB D G9 BS H bR v seed k i vd) (ht : DiskTo wr wr' DB D vd vd' (flatR (kRs seed k i) ++ recL (kR seed k i)) 0) : ∀ V, Below wr'.heap.size wr' V → KSt w (V.setRow G9 ((kP seed k (i + 1)).map (Value.int .u8)).toArray) DB D G9 BS H bR v seed k (i + 1) vd' := by
  intro V hV
  obtain ⟨h1, h2, h3, h4⟩ := h.to ht
  have hd : DiskAt wr' DB D vd' (flatR (kRs seed k (i + 1))) 0 := by rw [kRs_succ, flatR_snoc]; exact ht.disk
  have hkey := h3.farM hV
  refine ⟨below_setRow (h1.trans (hV.mono h1.size)) (by have := h.wlt; have := h.klt; omega) _, ((h2.far hV)).congr fun g hg => setRow_other _ _ _ _ (by have := h.rlt g hg; have := h.klt; omega), hkey.setRow _, (hd.far hV).congr fun g hg => setRow_other _ _ _ _ (fun e => h4 (by rw [← e]; exact hg)), h4, h.rlt, h.wlt, h.klt⟩
theorem tBody_in (k : List Int) (own n : Int) (prev : List Int) (E : Ev) (hp : okK prev) (hown : in8 own) (hn : in32 n) (hE : E.In) : ∀ v ∈ tBody k own n prev E, b8 v :=
  sbodyL_in (F := tF own n prev) ⟨hown, hn, show in8 0 from ⟨by decide, by decide⟩, show in32 0 from ⟨by decide, by decide⟩, hp.2, fun x hx => by cases hx⟩ (by simp) (by decide) hE
theorem tFrm_inP (seed k : List Int) (own n : Int) (prev : List Int) (E : Ev) (hp : okK prev) (hown : in8 own) (hn : in32 n) (hE : E.In) : ∀ v ∈ tFrm seed k own n prev E, b8 v := by
  have hmi : ∀ v ∈ tMac seed k own n prev E, in8 v := fun v hv => ftagL_in _ _ _ _ v hv
  intro v hv
  unfold tFrm frameL at hv
  simp only [List.mem_append] at hv
  rcases hv with ((hv | hv) | hv) | hv
  · exact openL_in9 (tG seed k own n prev E) [] ⟨hown, hn, show in8 0 from ⟨by decide, by decide⟩, show in32 0 from ⟨by decide, by decide⟩, hp.2, hmi⟩ (by simp) (by decide) v hv
  · simp only [be2, List.mem_cons, List.not_mem_nil, or_false] at hv
    rcases hv with rfl | rfl <;> exact ⟨by omega, by omega⟩
  · exact tBody_in k own n prev E hp hown hn hE v hv
  · exact hmi v hv
theorem kread_any (y : Option Addr) (m d : Nat) (seed k : List Int) (j : Nat) (hj : j < 250) (W : World) (hb : Bytes W y m d (kR seed k j)) :
    Calls Tryz.prog 19 #[.slice y m d] W fun e w' => ∃ F : Fr, e = .returned (.tuple #[.agg F.cells.toArray, .int .i64 0]) ∧ TFr w' seed k 0 ((j + 1 : Nat) : Int) (kP seed k j) (evT (j + 1) (j % 8)) F ∧ F.cells.length = 70 ∧ (∀ v ∈ F.cells, v.oneCell' = true) ∧ Below W.heap.size W w' := by
  have hE := evT_in (j + 1) (j % 8) (by omega) (by omega) (by omega)
  have h32 : in32 ((j + 1 : Nat) : Int) := ⟨by omega, by omega⟩
  have h0 : in8 (0 : Int) := ⟨by decide, by decide⟩
  exact (read_t y m d seed k 0 ((j + 1 : Nat) : Int) (kP seed k j) (evT (j + 1) (j % 8)) W hb (kP_ok seed k j) h0 h32 rfl (tFrm_inP _ _ _ _ _ _ (kP_ok seed k j) h0 h32 hE) (tBody_in _ _ _ _ _ (kP_ok seed k j) h0 h32 hE)).mono fun e w' ⟨F, he, hT, hb'⟩ => ⟨F, he, hT, hT.cells.1, hT.cells.2.1, hb'⟩
structure KS2 (w wr : World) (BS H bR : Nat) (v : Value) (seed k : List Int) (RB : Nat) (xl : Option Addr) (NL cl : Nat) (RS : List (List Int)) (CB Hc bc j : Nat) (vc : Value) : Prop where
  below : Below w.heap.size w wr
  ring : RingAt wr BS H 0 seed bR (newM 0 seed) v (newD 0)
  rows : RowsAt wr RB (.slice xl NL cl) RS
  chain : ChainAt wr CB Hc bc vc (kT seed k j) []
  rlt : ∀ g, ringP H bR v g → g < CB
  wlt : w.heap.size ≤ CB
theorem KS2.far {w wr wr' : World} {BS H bR : Nat} {v : Value} {seed k : List Int} {RB : Nat} {xl : Option Addr} {NL cl : Nat} {RS : List (List Int)} {CB Hc bc j : Nat} {vc : Value} (h : KS2 w wr BS H bR v seed k RB xl NL cl RS CB Hc bc j vc) (hb : Below wr.heap.size wr wr') : KS2 w wr' BS H bR v seed k RB xl NL cl RS CB Hc bc j vc :=
  ⟨h.below.trans (hb.mono h.below.size), h.ring.far hb, h.rows.far hb, h.chain.far hb, h.rlt, h.wlt⟩
theorem KS2.next {w wr wr' : World} {BS H bR : Nat} {v : Value} {seed k : List Int} {RB : Nat} {xl : Option Addr} {NL cl : Nat} {RS : List (List Int)} {CB Hc bc j : Nat} {vc vc' : Value} (h : KS2 w wr BS H bR v seed k RB xl NL cl RS CB Hc bc j vc) (hc : ChainAt wr' CB Hc bc vc' (kT seed k (j + 1)) []) (ht : Turn (chainP Hc bc vc) wr wr') : KS2 w wr' BS H bR v seed k RB xl NL cl RS CB Hc bc (j + 1) vc' := by
  have hin : ∀ g, chainP Hc bc vc g → CB ≤ g := fun g hg => (h.chain.inside g hg).2
  exact ⟨h.below.trans (ht.below h.below.size fun g hg => Nat.le_trans h.wlt (hin g hg)), h.ring.congr fun g hg => ht.block g (h.ring.inside g hg).1 (fun hp => by have := h.rlt g hg; have := hin g hp; omega), h.rows.turn h.chain ht, hc, h.rlt, h.wlt⟩
theorem ring_to {wr wr' : World} {DB D BS H bR : Nat} {v : Value} {seed : List Int} {vd vd' : Value} {z z' : List Int} {s s' : Nat} (hd : DiskAt wr DB D vd z s) (ht : DiskTo wr wr' DB D vd vd' z' s') (hR : RingAt wr BS H 0 seed bR (newM 0 seed) v (newD 0)) (hlt : ∀ g, ringP H bR v g → g < DB) : RingAt wr' BS H 0 seed bR (newM 0 seed) v (newD 0) :=
  hR.congr fun g hg => ht.turn.block g (hR.inside g hg).1 (fun hp => by have := hlt g hg; have := (hd.inside g hp).2; omega)
set_option maxHeartbeats 32000000 in
theorem topKept_walk (seed : List Int) (hs : seed.length = 32) (n kp : Nat) (hn : n ≤ 255) (hkp : kp ≤ 65535) (w : World) (hKT : S.KTab w) (hBT : BTab w) :
    Calls Tryz.prog 4 #[.agg (row .u8 seed), .int .u8 (n : Int), .int .u16 (kp : Int)] w fun e w' => e = .returned (.bool true) ∧ Below w.heap.size w w' := by
  have hA := CellsAt.new w 23 (seed.map (Value.int .u8))
  have hb0 : Below w.heap.size w (w.alloc (.cells (seed.map (Value.int .u8)).toArray 23)) := (Below.refl _ _).alloc (Nat.le_refl _) _
  obtain ⟨k, hk⟩ : ∃ k, newM 0 seed 0 0 = some k := ⟨epochL seed, by unfold newM; rw [if_pos rfl]; unfold putK; simp⟩
  have HNW : Veil (∀ W, Below w.heap.size w W → Calls Tryz.prog 5 #[.int .u8 0, .agg (seed.map (Value.int .u8)).toArray] W fun e w' => ∃ H b v, e = .returned (.pointer (some ⟨H, 0, none⟩)) ∧ RingAt w' W.heap.size H 0 seed b (newM 0 seed) v (newD 0) ∧ Below W.heap.size W w') := ⟨fun W hb => new_any 0 seed W (by decide) hs (hKT.below hb)⟩
  have HTL : Veil (∀ (i : Nat) W base H b v, i < 250 → Below w.heap.size w W → RingAt W base H 0 seed b (newM 0 seed) v (newD 0) → Calls Tryz.prog 6 #[.pointer (some ⟨H, 0, none⟩), .int .u32 ((i : Int) + 1), .agg ((kP seed k i).map (Value.int .u8)).toArray, .int .u8 (i : Int)] W fun e w' => ∃ F : Fr, e = .returned (.tuple #[.agg F.cells.toArray, .bool true]) ∧ TFrO w' W.heap.size seed k 0 ((i + 1 : Nat) : Int) (kP seed k i) (evT (i + 1) (i % 8)) F ∧ F.cells.length = 70 ∧ (∀ v ∈ F.cells, v.oneCell' = true) ∧ Below W.heap.size W w') := ⟨fun i W base H b v hi hb hR => (told_any base H b v seed k hk (i + 1) (by omega) (by omega) (kP seed k i) (kP_ok seed k i).1 (kP_ok seed k i).2 i (by omega) W hR (hKT.below hb) (hBT.below hb)).mono fun e w' ⟨F, he, hT, hb'⟩ => ⟨F, he, hT, hT.toT.cells.1, hT.toT.cells.2.1, hb'⟩⟩
  have HKT : Veil (∀ W, Below w.heap.size w W → S.KTab W) := ⟨fun W hb => hKT.below hb⟩
  obtain ⟨r, hr⟩ : ∃ q : Nat, n % 6 = q := ⟨_, rfl⟩
  obtain ⟨M, hM⟩ : ∃ q : Nat, r + 1 = q := ⟨_, rfl⟩
  have hM1 : 1 ≤ M := by omega
  have hM6 : M ≤ 6 := by omega
  have hrem : (n : Int).tmod 6 = (r : Int) := by rw [Int.tmod_eq_emod_of_nonneg (by omega), ← hr]; rfl
  have wn : IntKind.i64.wrap (n : Int) = (n : Int) := by rw [IntKind.wrap_i64]; omega
  have wM : IntKind.i64.wrap ((r : Int) + 1) = (M : Int) := by rw [IntKind.wrap_i64]; omega
  have wkp : IntKind.i64.wrap (kp : Int) = (kp : Int) := by rw [IntKind.wrap_i64]; omega
  obtain ⟨Q, hQ⟩ : ∃ q : Nat, kp / 233 = q := ⟨_, rfl⟩
  have hquo : (kp : Int).tdiv 233 = (Q : Int) := by rw [Int.tdiv_eq_ediv_of_nonneg (by omega), ← hQ]; rfl
  have hn0 : (0 : Int) ≤ (n : Int) := by omega
  have hk0 : (0 : Int) ≤ (kp : Int) := by omega
  have iS : (Tryz.prog.info? 23).map (·.size) = some (seed.map (Value.int .u8)).length := by rw [List.length_map, hs]; exact sizeKeyH
  have uK := Tryz.underlying23
  have uF := Tryz.underlying32
  have hr1 : (row .u8 seed) = (seed.map (Value.int .u8)).toArray := rfl
  rw [hr1]
  have HKP := Veil.mk (And.intro hkp (And.intro hQ hM6))
  clear hr1 hKT hBT hs hk hr hM hn hQ hkp
  generalize hSV : seed.map (Value.int .u8) = SD at hA hb0 HNW iS ⊢
  clear hSV
  obtain ⟨Z, hzv, hzv1, hZ⟩ : ∃ Z : List Value, (∀ wx, (zeroValue 32).run Tryz.prog wx = .ok (.agg Z.toArray) wx) ∧ ¬ Z.toArray = #[] ∧ Z.length = 70 := ⟨frZ1.cells, fun wx => by kernel_rfl, by decide, rfl⟩
  obtain ⟨ZK, hzvK, hz1K, hZK⟩ : ∃ q : List Value, (∀ wx, (zeroValue 23).run Tryz.prog wx = .ok (.agg q.toArray) wx) ∧ ¬ q.toArray = #[] ∧ q = zk.map (Value.int .u8) := ⟨List.replicate 32 (.int .u8 0), fun wx => zero_ofH (by kernel_rfl) wx, by decide, rfl⟩
  have HZK := Veil.mk hZK
  have HZF := Veil.mk (And.intro hzv hzv1)
  clear hZK hzv hzv1
  go_enter Tryz.func4, Tryz.ntmps4
  go_upto_region 1 with fail
  refine forget (p := fun y => Code.wp _ _ _ _ y) (fun W => Below w.heap.size w W ∧ CellsAt W w.heap.size 23 SD) ⟨hb0, hA⟩ ?_
  clear hb0 hA
  rintro W ⟨hb, hA⟩
  have rA := hA.wholeM
  have hnw := HNW.out W hb
  go_upto_region 2 with (first
    | (refine wpList_ldv rfl 23 _ rfl _ _ rfl SD rA uK rfl iS ?_)
    | (go_at_call 5; refine hnw.mono ?_; rintro e w1 ⟨H, bR, v, rfl, hR1, hb1⟩; clear hnw))
  refine forget (p := fun y => Code.wp _ _ _ _ y) (fun V => Below w.heap.size w V ∧ RingAt V W.heap.size H 0 seed bR (newM 0 seed) v (newD 0)) ⟨hb.trans (hb1.mono hb.size), hR1⟩ ?_
  clear hb1 hR1 HNW hA hb rA
  obtain ⟨BS, hBS⟩ : ∃ q, W.heap.size = q := ⟨_, rfl⟩
  rw [hBS]
  clear hBS
  clear w1 W
  rintro W ⟨hb, hR⟩
  have hdn := dNew_any W
  go_upto_region 4 with (first
    | (go_at_call 13; refine hdn.mono ?_; rintro e w2 ⟨rfl, hD, -, hb2⟩; clear hdn))
  have hKS : KSt w (w2.alloc (.cells ZK.toArray 23)) W.heap.size W.heap.size w2.heap.size BS H bR v seed k 0 (.slice none 0 0) := by
    have h3 : Below w2.heap.size w2 (w2.alloc (.cells ZK.toArray 23)) := (Below.refl _ _).alloc (Nat.le_refl _) _
    have h23 := hb2.trans (h3.mono hb2.size)
    refine ⟨hb.trans (h23.mono hb.size), hR.far h23, ?_, ?_, ?_, fun g hg => (hR.inside g hg).1, hb.size, hb2.size⟩
    · show CellsAt _ _ _ (zk.map (Value.int .u8))
      rw [← HZK.out]
      exact CellsAt.new w2 23 ZK
    · have : flatR (kRs seed k 0) = [] := rfl
      rw [this]; exact hD.far h3
    · rintro (e | e)
      · have := (hD.inside W.heap.size (.inl rfl)).1; omega
      · cases e
  obtain ⟨D, hDe⟩ : ∃ q, W.heap.size = q := ⟨_, rfl⟩
  obtain ⟨G9, hG9⟩ : ∃ q, w2.heap.size = q := ⟨_, rfl⟩
  rw [hDe, hG9] at hKS
  refine forget (p := fun y => Code.wp _ _ _ _ y) (fun V => ∃ vd, KSt w V D D G9 BS H bR v seed k 0 vd) ⟨_, hKS⟩ ?_
  rw [hDe, hG9]
  clear hKS hDe hG9 hD hb2 hb hR hzvK hz1K HZK
  clear w2 W
  rintro W hW
  have hM0 : (0 : Int) ≤ (M : Int) := by omega
  go_wp2_with fail
  obtain ⟨hzv, hzv1⟩ := HZF.out
  go_loopw [11, 12, 13, 14, 15] (fun i _ _ _ _ wr => ∃ j : Nat, j ≤ M ∧ i = .int .i64 j ∧ ∃ vd, KSt w wr D D G9 BS H bR v seed k j vd) (fun i _ _ _ _ _ => M - (intOf i).toNat)
  case atStart => exact ⟨0, Nat.zero_le _, rfl, hW⟩
  case round =>
    obtain ⟨j, hj, rfl, vd, hK⟩ := hrel
    by_cases hjM : j < M
    · have hji : (j : Int) < (M : Int) := by omega
      have w1 : IntKind.i64.wrap ((j : Int) + 1) = (j : Int) + 1 := by rw [IntKind.wrap_i64]; omega
      have w2 : IntKind.u32.wrap ((j : Int) + 1) = (j : Int) + 1 := by rw [IntKind.wrap_u32]; omega
      have w3 : IntKind.u8.wrap (j : Int) = (j : Int) := by rw [IntKind.wrap_u8]; omega
      have htl := HTL.out j wr BS H bR v (by omega) hK.below hK.ring
      have rP := hK.key.wholeM
      have iP : (Tryz.prog.info? 23).map (·.size) = some ((kP seed k j).map (Value.int .u8)).length := by rw [List.length_map, (kP_ok seed k j).1]; exact sizeKeyH
      have HDL : Veil (∀ g, diskP D vd g → g < wr.heap.size) := ⟨fun g hg => (hK.disk.inside g hg).1⟩
      have HK := Veil.mk hK
      clear hK
      generalize hPV : (kP seed k j).map (Value.int .u8) = PV at htl rP iP
      clear hPV
      go_upto_region 9 with (first
        | (refine wpList_ldv rfl 23 _ rfl _ _ rfl PV rP uK rfl iP ?_)
        | (go_at_call 6; refine htl.mono ?_; rintro e w5 ⟨F, rfl, hT, hFl, h1F, hb5⟩; have hG5 := CellsAt.new w5 32 Z; have iF : (Tryz.prog.info? 32).map (·.size) = some F.cells.length := (by rw [hFl]; exact sizeFrame); have HT := Veil.mk hT; clear htl hT)
        | (refine wpList_stv rfl 32 _ _ rfl _ rfl rfl hG5 iF (by rw [hZ, hFl]) h1F ?_))
      have hb6 : Below w5.heap.size w5 ((w5.alloc (.cells Z.toArray 32)).setRow w5.heap.size F.cells.toArray) := below_setRow ((Below.refl _ _).alloc (Nat.le_refl _) _) (Nat.le_refl _) _
      have hb56 := hb5.trans (hb6.mono hb5.size)
      refine forget (p := fun y => Code.wp _ _ _ _ y) (fun V => KSt w V D D G9 BS H bR v seed k j vd ∧ CellsAt V w5.heap.size 32 F.cells ∧ TFrO V wr.heap.size seed k 0 ((j + 1 : Nat) : Int) (kP seed k j) (evT (j + 1) (j % 8)) F) ⟨HK.out.far hb56, hG5.setRow _, HT.out.below hb6⟩ ?_
      obtain ⟨GF, hGF⟩ : ∃ q, w5.heap.size = q := ⟨_, rfl⟩
      obtain ⟨WS, hWS⟩ : ∃ q, wr.heap.size = q := ⟨_, rfl⟩
      have hWG : WS ≤ GF := by have := hb5.size; omega
      rw [hWS] at HDL
      rw [hGF, hWS]
      clear hWS hGF hb56 hb6 hG5 hb5 HT HK rP iP h1F hFl
      clear w5
      rintro V ⟨hK, hGF, hT⟩
      have rF := hGF.wholeM
      have hby := hT.toT.Bytes
      have HIN := Veil.mk (tFrm_in hT.toT)
      have HSM : Veil (∀ X, Below w.heap.size w X → TFr X seed k 0 ((j + 1 : Nat) : Int) (kP seed k j) (evT (j + 1) (j % 8)) F → Calls Tryz.prog 11 #[.agg F.cells.toArray] X fun e w'' => e = .returned (.agg ((kP seed k (j + 1)).map (Value.int .u8)).toArray) ∧ Below X.heap.size X w'') := ⟨fun X hX h => h.Sum (HKT.out X hX)⟩
      have HWR : Veil (∀ X x c, Below V.heap.size V X → OwnB X V.heap.size (.slice x 223 c) (kR seed k j) → Calls Tryz.prog 15 #[.pointer (some ⟨D, 0, none⟩), .slice x 223 c] X fun e w' => e = .returned (.int .i64 0) ∧ ∃ vd', DiskTo X w' D D vd vd' (flatR (kRs seed k j) ++ recL (kR seed k j)) 0) := ⟨fun X x c hX hO => by
        have hKX := hK.far hX
        refine dWrite_any D D vd _ 0 X hKX.disk x 223 c (kR seed k j) hO.bytes.2 HIN.out (by omega) (by rw [flat_k]; omega) (fun a _ hx hv => ?_) (by have := (hKX.disk.inside D (.inl rfl)).1; omega) (HKT.out X hKX.below)
        obtain ⟨g, cap, e, hge⟩ := hO.slice (by rw [kR_length]; omega)
        injection e with e1 _ _
        rw [hx] at e1
        have hag : a.block = g := by injection e1 with e1; rw [e1]
        have := (hK.disk.inside g (.inr (by rw [hv, hag]))).1
        omega⟩
      have HKV := Veil.mk hK
      have HGT : Veil (∀ X, Below V.heap.size V X → CellsAt X GF 32 F.cells ∧ TFrO X WS seed k 0 ((j + 1 : Nat) : Int) (kP seed k j) (evT (j + 1) (j % 8)) F) := ⟨fun X h => ⟨hGF.farM h, hT.below h⟩⟩
      have HRL := Veil.mk (kR_length seed k j)
      clear hK hT hGF
      have hFK : ∀ (v' : Value) X, OwnB X V.heap.size v' (kR seed k j) → ∃ x c, v' = .slice x 223 c := fun v' X h => by
        obtain ⟨g, cap, e, _⟩ := h.slice (by rw [HRL.out]; omega)
        rw [HRL.out] at e
        exact ⟨_, _, e⟩
      have HFK := Veil.mk hFK
      clear hFK
      have hby' : Calls Tryz.prog 14 #[.agg F.cells.toArray] V fun e w' => ∃ x c, e = .returned (.tuple #[.slice x 223 c, .int .i64 0]) ∧ OwnB w' V.heap.size (.slice x 223 c) (kR seed k j) ∧ Below V.heap.size V w' := hby.mono fun e w' ⟨v', he, hO, hb'⟩ => by
        obtain ⟨x, c, rfl⟩ := HFK.out v' w' hO
        exact ⟨x, c, he, hO, hb'⟩
      clear hby HFK HRL HIN
      obtain ⟨RL, hRL⟩ : ∃ q, kR seed k j = q := ⟨_, rfl⟩
      rw [hRL] at hby' HWR
      have HNX : Veil (∀ X X' vd', Below V.heap.size V X → DiskTo X X' D D vd vd' (flatR (kRs seed k j) ++ recL RL) 0 → CellsAt X' GF 32 F.cells ∧ Below w.heap.size w X' ∧ CellsAt X' G9 23 ((kP seed k j).map (Value.int .u8)) ∧ (Calls Tryz.prog 11 #[.agg F.cells.toArray] X' fun e w'' => e = .returned (.agg ((kP seed k (j + 1)).map (Value.int .u8)).toArray) ∧ Below X'.heap.size X' w'') ∧ ∀ Y, Below X'.heap.size X' Y → KSt w (Y.setRow G9 ((kP seed k (j + 1)).map (Value.int .u8)).toArray) D D G9 BS H bR v seed k (j + 1) vd') := ⟨fun X X' vd' hX ht => by
        have hKX := HKV.out.far hX
        rw [← hRL] at ht
        obtain ⟨q1, q2, q3, q4⟩ := hKX.to ht
        obtain ⟨hGX, hTX⟩ := HGT.out X hX
        have hag : ∀ g, WS ≤ g → g < X.heap.size → X'.heap[g]? = X.heap[g]? := fun g h1 h2 => ht.turn.block g h2 (fun hp => by have := HDL.out g hp; omega)
        have hTX' := hTX.keep ht.turn.size (Nat.le_refl _) hag
        exact ⟨hGX.congr (hag GF hWG hGX.lt), q1, q3, HSM.out X' q1 hTX'.toT, hKX.next ht⟩⟩
      have iK2 : (Tryz.prog.info? 23).map (·.size) = some ((kP seed k (j + 1)).map (Value.int .u8)).length := by rw [List.length_map, (kP_ok seed k (j + 1)).1]; exact sizeKeyH
      have hlK : ((kP seed k j).map (Value.int .u8)).length = ((kP seed k (j + 1)).map (Value.int .u8)).length := by rw [List.length_map, List.length_map, (kP_ok seed k j).1, (kP_ok seed k (j + 1)).1]
      have h1K : ∀ v ∈ (kP seed k (j + 1)).map (Value.int .u8), v.oneCell' = true := fun v hv => by obtain ⟨x, _, rfl⟩ := List.mem_map.1 hv; rfl
      clear hRL HSM HGT HKV HDL
      generalize hP1 : (kP seed k (j + 1)).map (Value.int .u8) = PN at HNX iK2 hlK h1K
      generalize hP0 : (kP seed k j).map (Value.int .u8) = PO at HNX hlK
      generalize F.cells = FC at HNX iF rF hby'
      clear hP1 hP0
      go_upto_region 12 with (first
        | (refine wpList_ldv rfl 32 _ rfl _ _ rfl FC rF uF rfl iF ?_)
        | (go_at_call 14; refine hby'.mono ?_; rintro e w6 ⟨xb, cb, rfl, hOb, hb6⟩; have hwr := HWR.out w6 xb cb hb6 hOb; clear hby')
        | (go_at_call 15; refine hwr.mono ?_; rintro e w7 ⟨rfl, vd', hto⟩; clear hwr))
      obtain ⟨hG7, hB7, hk7, hsm, hnx⟩ := HNX.out w6 w7 vd' hb6 hto
      have rF7 := hG7.wholeM
      have HK7 : Veil (∀ X, Below w7.heap.size w7 X → CellsAt X G9 23 PO) := ⟨fun X h => hk7.farM h⟩
      have HNX2 := Veil.mk hnx
      clear hto hOb hb6 hG7 hk7 hnx rF HNX HWR
      go_wp2_with (first
        | (refine wpList_ldv rfl 32 _ rfl _ _ rfl FC rF7 uF rfl iF ?_)
        | (go_at_call 11; refine hsm.mono ?_; rintro e w8 ⟨rfl, hb8⟩; have hk8 := HK7.out w8 hb8; clear hsm)
        | (refine wpList_stv rfl 23 _ _ rfl _ rfl rfl hk8 iK2 hlK h1K ?_))
      go_roundw
      case rel => exact ⟨j + 1, hjM, by push_cast; rfl, vd', HNX2.out w8 hb8⟩
      case measure => simp [intOf]; omega
    · have hjE : M = j := by omega
      subst hjE
      have hji : ¬ (M : Int) < (M : Int) := by omega
      obtain ⟨q, hq, hqn⟩ := kept_recs seed k M kp
      rw [HKP.out.2.1] at hq hqn
      obtain ⟨zP, hzP⟩ : ∃ z, (flatR (kRs seed k M)).take (0 + min kp ((flatR (kRs seed k M)).length - 0)) = z := ⟨_, rfl⟩
      have hrl := hK.rlt
      have hwl := hK.wlt
      have hpw : Calls Tryz.prog 16 #[.pointer (some ⟨D, 0, none⟩), .int .i64 (kp : Int)] wr fun e w' => e = .returned (.int .i64 0) ∧ ∃ v1 s1, DiskAt w' D D v1 zP s1 ∧ RingAt w' BS H 0 seed bR (newM 0 seed) v (newD 0) ∧ Below w.heap.size w w' := by
        refine (dPower_any D D vd _ 0 wr hK.disk kp (by have := HKP.out.1; omega)).mono ?_
        rintro e w' ⟨he, v1, ht⟩
        rw [hzP] at ht
        exact ⟨he, v1, _, ht.disk, ring_to hK.disk ht hK.ring hrl, (hK.to ht).1⟩
      have HTR : Veil (∀ W v1 s1, DiskAt W D D v1 zP s1 → RingAt W BS H 0 seed bR (newM 0 seed) v (newD 0) → Below w.heap.size w W → Calls Tryz.prog 17 #[.pointer (some ⟨D, 0, none⟩)] W fun e w' => e = .returned (.int .i64 0) ∧ ∃ v2 s2, DiskAt w' D D v2 (zP.take (trimN zP)) s2 ∧ RingAt w' BS H 0 seed bR (newM 0 seed) v (newD 0) ∧ Below w.heap.size w w') := ⟨fun W v1 s1 hd hR hb => by
        refine (dTrim_any D D v1 zP s1 W hd (HKT.out W hb)).mono ?_
        rintro e w' ⟨he, v2, ht⟩
        exact ⟨he, v2, _, ht.disk, ring_to hd ht hR hrl, hb.trans (ht.turn.below hb.size fun g hg => Nat.le_trans hwl (hd.inside g hg).2)⟩⟩
      have hrec : recsL (zP.take (trimN zP)) = recsL zP := (whole_take _ zP (Nat.le_refl _)).1
      rw [hzP] at hq
      obtain ⟨RS, hRS⟩ : ∃ R, recsL zP = R := ⟨_, rfl⟩
      have HRC : Veil (∀ W v2 s2, DiskAt W D D v2 (zP.take (trimN zP)) s2 → Below w.heap.size w W → Calls Tryz.prog 18 #[.pointer (some ⟨D, 0, none⟩)] W fun e w' => ∃ x c, e = .returned (.slice x RS.length c) ∧ RowsAt w' W.heap.size (.slice x RS.length c) RS ∧ Below W.heap.size W w') := ⟨fun W v2 s2 hd hb => by
        refine (records_any D D v2 _ s2 W hd (HKT.out W hb)).mono ?_
        rintro e w' ⟨v', he, hr, hb'⟩
        rw [hrec, hRS] at hr
        obtain ⟨x, c, rfl⟩ := hr.isSlice
        exact ⟨x, c, he, hr, hb'⟩⟩
      rw [hRS] at hq
      have HQ := Veil.mk (And.intro hq hqn)
      have HRL := Veil.mk (And.intro hrl hwl)
      clear hK hq hqn hzP hrec hRS hrl hwl hj hjM
      go_wp2_with (first
        | (go_at_call 18; refine hrc.mono ?_; rintro e w4 ⟨xl, cl, rfl, hRw, hb4⟩; clear hrc)
        | (go_at_call 7; refine hcn.mono ?_; rintro e w3 ⟨rfl, hC3, -, hb3⟩; have hrc := HRC.out w3 v2 s2 (hd2.far hb3) (hB2.trans (hb3.mono hB2.size)); clear hcn)
        | (go_at_call 17; refine htr.mono ?_; rintro e w2 ⟨rfl, v2, s2, hd2, hR2, hB2⟩; have hcn := chNew_any w2; clear htr)
        | (go_at_call 16; refine hpw.mono ?_; rintro e w1 ⟨rfl, v1, s1, hd1, hR1, hB1⟩; have htr := HTR.out w1 v1 s1 hd1 hR1 hB1; clear hpw))
      have hb34 := hb3.trans (hb4.mono hb3.size)
      have hD2 : D < w2.heap.size := (hd2.inside D (.inl rfl)).1
      have hS2 : KS2 w w4 BS H bR v seed k w3.heap.size xl RS.length cl RS w2.heap.size (w2.heap.size + 1) w2.heap.size 0 (.slice none 0 0) :=
        ⟨hB2.trans (hb34.mono hB2.size), hR2.far hb34, hRw, hC3.far hb4, fun g hg => by have := HRL.out.1 g hg; omega, hB2.size⟩
      obtain ⟨NL, hNL⟩ : ∃ q, RS.length = q := ⟨_, rfl⟩
      obtain ⟨CB, hCB⟩ : ∃ q, w2.heap.size = q := ⟨_, rfl⟩
      obtain ⟨Hc, hHc⟩ : ∃ q, w2.heap.size + 1 = q := ⟨_, rfl⟩
      obtain ⟨RB, hRB⟩ : ∃ q, w3.heap.size = q := ⟨_, rfl⟩
      rw [hHc, hCB, hNL, hRB] at hS2
      rw [hHc, hNL]
      have HNL := Veil.mk hNL
      clear hNL hCB hHc hRB hC3 hRw hd2 hR2 hB2 hd1 hR1 hB1 hb34 hb3 hD2 HTR HRC HRL
      -- the numbers
      have HNUM : Veil (∀ j, j < NL → j < Q → j < M ∧ RS[j]? = some (kR seed k j)) := ⟨fun j h1 h2 => by
        obtain ⟨e1, e2⟩ := HQ.out
        have hjM : j < M := by
          by_cases hMQ : M ≤ Q
          · rw [e2 hMQ, List.append_nil] at e1
            have : RS.length = min Q M := by rw [e1, List.length_take, kRs_length]; omega
            rw [HNL.out] at this
            omega
          · omega
        refine ⟨hjM, ?_⟩
        rw [e1, List.getElem?_append_left (by rw [List.length_take, kRs_length]; omega), List.getElem?_take_of_lt (by omega), kRs_get seed k M j hjM]⟩
      have HEND : Veil (∀ j, j ≤ NL → j ≤ Q → ¬ (j < NL ∧ j < Q) → j = min Q M ∧ min Q M ≤ NL) := ⟨fun j h1 h2 h3 => by
        obtain ⟨e1, e2⟩ := HQ.out
        have hl : NL = min Q M + q.length := by rw [← HNL.out, e1, List.length_append, List.length_take, kRs_length]; omega
        by_cases hMQ : M ≤ Q
        · rw [e2 hMQ] at hl
          simp at hl
          omega
        · omega⟩
      have hQ0 : (0 : Int) ≤ (Q : Int) := by omega
      have hQb : (Q : Int) ≤ 300 := by have := HKP.out; omega
      obtain ⟨hzv, hzv1⟩ := HZF.out
      rcases (show NL = 0 ∨ ∃ g, xl = some ⟨g, 0, none⟩ by
        by_cases h : NL = 0
        · exact .inl h
        · obtain ⟨g, _, _, _, hx, _⟩ := hS2.rows.at_ 0 (by rw [HNL.out]; omega)
          exact .inr ⟨g, hx⟩) with h0 | ⟨gl, rfl⟩
      · have H0 := Veil.mk h0
        clear h0
        go_loopw [18, 19, 20] (fun i _ _ wx => ∃ j : Nat, (j ≤ NL ∧ j ≤ Q) ∧ i = .int .i64 j ∧ ∃ vc, KS2 w wx BS H bR v seed k RB xl NL cl RS CB Hc CB j vc) (fun i _ _ _ => NL - (intOf i).toNat)
        case atStart => exact ⟨0, ⟨Nat.zero_le _, Nat.zero_le _⟩, rfl, _, hS2⟩
        case round =>
          clear hS2
          obtain ⟨j, ⟨hj1, hj2⟩, rfl, vc, hK⟩ := hrel
          by_cases c1 : j < NL
          · have c1i : (j : Int) < (NL : Int) := by omega
            by_cases c2 : j < Q
            · have c2i : (j : Int) < (Q : Int) := by omega
              exact absurd c1 (by have := H0.out; omega)
            · have c2i : ¬ (j : Int) < (Q : Int) := by omega
              obtain ⟨he, hle⟩ := HEND.out j hj1 hj2 (by omega)
              by_cases hgt : (Q : Int) > (M : Int)
              · exfalso; omega
              · have e : Q = j := by omega
                subst e
                have hge : (NL : Int) ≥ (Q : Int) := by omega
                have hj256 : Q ≤ 256 := by omega
                have wj : IntKind.i64.wrap (Q : Int) = (Q : Int) := by rw [IntKind.wrap_i64]; omega
                have hj0 : (0 : Int) ≤ (Q : Int) := by omega
                have hhd := chHeads_any CB Hc CB vc (kT seed k Q) [] wr hK.chain
                have hix := fun wx => kHead_ix seed k Q hj256 wx
                have hfd := fun wx => kHead_fd (Q : Int) (kP seed k Q) wx
                have HBk := Veil.mk hK.below
                obtain ⟨HC, hHC⟩ : ∃ q, headsC (headsOf (kT seed k Q)) = q := ⟨_, rfl⟩
                obtain ⟨HE, hHE⟩ : ∃ q, headC ((Q : Int), kP seed k Q) = q := ⟨_, rfl⟩
                rw [hHC] at hhd hix
                rw [hHE] at hix hfd
                clear hHC hHE hK hj256 hle he hj1 hj2
                go_wp2_with (go_at_call 9; refine hhd.mono ?_; rintro e w9 ⟨rfl, hb9⟩; clear hhd)
                go_ret
                exact ⟨rfl, HBk.out.trans (hb9.mono HBk.out.size)⟩
          · have c1i : ¬ (j : Int) < (NL : Int) := by omega
            obtain ⟨he, hle⟩ := HEND.out j hj1 hj2 (by omega)
            by_cases hgt : (Q : Int) > (M : Int)
            · have e : M = j := by omega
              subst e
              have hge : (NL : Int) ≥ (M : Int) := by omega
              have hj256 : M ≤ 256 := by omega
              have wj : IntKind.i64.wrap (M : Int) = (M : Int) := by rw [IntKind.wrap_i64]; omega
              have hj0 : (0 : Int) ≤ (M : Int) := by omega
              have hhd := chHeads_any CB Hc CB vc (kT seed k M) [] wr hK.chain
              have hix := fun wx => kHead_ix seed k M hj256 wx
              have hfd := fun wx => kHead_fd (M : Int) (kP seed k M) wx
              have HBk := Veil.mk hK.below
              obtain ⟨HC, hHC⟩ : ∃ q, headsC (headsOf (kT seed k M)) = q := ⟨_, rfl⟩
              obtain ⟨HE, hHE⟩ : ∃ q, headC ((M : Int), kP seed k M) = q := ⟨_, rfl⟩
              rw [hHC] at hhd hix
              rw [hHE] at hix hfd
              clear hHC hHE hK hj256 hle he hj1 hj2
              go_wp2_with (go_at_call 9; refine hhd.mono ?_; rintro e w9 ⟨rfl, hb9⟩; clear hhd)
              go_ret
              exact ⟨rfl, HBk.out.trans (hb9.mono HBk.out.size)⟩
            · have e : Q = j := by omega
              subst e
              have hge : (NL : Int) ≥ (Q : Int) := by omega
              have hj256 : Q ≤ 256 := by omega
              have wj : IntKind.i64.wrap (Q : Int) = (Q : Int) := by rw [IntKind.wrap_i64]; omega
              have hj0 : (0 : Int) ≤ (Q : Int) := by omega
              have hhd := chHeads_any CB Hc CB vc (kT seed k Q) [] wr hK.chain
              have hix := fun wx => kHead_ix seed k Q hj256 wx
              have hfd := fun wx => kHead_fd (Q : Int) (kP seed k Q) wx
              have HBk := Veil.mk hK.below
              obtain ⟨HC, hHC⟩ : ∃ q, headsC (headsOf (kT seed k Q)) = q := ⟨_, rfl⟩
              obtain ⟨HE, hHE⟩ : ∃ q, headC ((Q : Int), kP seed k Q) = q := ⟨_, rfl⟩
              rw [hHC] at hhd hix
              rw [hHE] at hix hfd
              clear hHC hHE hK hj256 hle he hj1 hj2
              go_wp2_with (go_at_call 9; refine hhd.mono ?_; rintro e w9 ⟨rfl, hb9⟩; clear hhd)
              go_ret
              exact ⟨rfl, HBk.out.trans (hb9.mono HBk.out.size)⟩
      · go_loopw [18, 19, 20] (fun i _ _ wx => ∃ j : Nat, (j ≤ NL ∧ j ≤ Q) ∧ i = .int .i64 j ∧ ∃ vc, KS2 w wx BS H bR v seed k RB (some ⟨gl, 0, none⟩) NL cl RS CB Hc CB j vc) (fun i _ _ _ => NL - (intOf i).toNat)
        case atStart => exact ⟨0, ⟨Nat.zero_le _, Nat.zero_le _⟩, rfl, _, hS2⟩
        case round =>
          clear hS2
          obtain ⟨j, ⟨hj1, hj2⟩, rfl, vc, hK⟩ := hrel
          by_cases c1 : j < NL
          · have c1i : (j : Int) < (NL : Int) := by omega
            by_cases c2 : j < Q
            · have c2i : (j : Int) < (Q : Int) := by omega
              obtain ⟨hjM, hget⟩ := HNUM.out j c1 c2
              have hjl : j < RS.length := by rw [HNL.out]; exact c1
              obtain ⟨g, y, m, d, hx, hc, hby⟩ := hK.rows.at_ j hjl
              obtain rfl : gl = g := by injection hx with hx; injection hx
              have hRj : RS[j] = kR seed k j := Option.some.inj ((List.getElem?_eq_getElem hjl).symm.trans hget)
              rw [hRj] at hby
              have hrd := kread_any y m d seed k j (by omega) wr hby
              have w1 : IntKind.i64.wrap ((j : Int) + 1) = (j : Int) + 1 := by rw [IntKind.wrap_i64]; omega
              have hj0 : (0 : Int) ≤ (j : Int) := by omega
              have hmay : mayB ((j + 1 : Nat) : Int) = true := by unfold mayB; simp; omega
              have HK := Veil.mk hK
              have HMY := Veil.mk hmay
              clear hK hby hget hRj hx hjl hmay
              go_upto_region 21 with (first
                | (go_at_call 19; refine hrd.mono ?_; rintro e w5 ⟨F, rfl, hT, hFl, h1F, hb5⟩; have hG5 := CellsAt.new w5 32 Z; have iF : (Tryz.prog.info? 32).map (·.size) = some F.cells.length := (by rw [hFl]; exact sizeFrame); have HT := Veil.mk hT; clear hrd hT)
                | (refine wpList_stv rfl 32 _ _ rfl _ rfl rfl hG5 iF (by rw [hZ, hFl]) h1F ?_))
              have hb6 : Below w5.heap.size w5 ((w5.alloc (.cells Z.toArray 32)).setRow w5.heap.size F.cells.toArray) := below_setRow ((Below.refl _ _).alloc (Nat.le_refl _) _) (Nat.le_refl _) _
              have hb56 := hb5.trans (hb6.mono hb5.size)
              refine forget (p := fun y => Code.wp _ _ _ _ y) (fun V => KS2 w V BS H bR v seed k RB (some ⟨gl, 0, none⟩) NL cl RS CB Hc CB j vc ∧ CellsAt V w5.heap.size 32 F.cells ∧ TFr V seed k 0 ((j + 1 : Nat) : Int) (kP seed k j) (evT (j + 1) (j % 8)) F) ⟨HK.out.far hb56, hG5.setRow _, HT.out.below hb6⟩ ?_
              obtain ⟨GF, hGF⟩ : ∃ q, w5.heap.size = q := ⟨_, rfl⟩
              rw [hGF]
              clear hGF hb56 hb6 hG5 hb5 HT HK h1F hFl hc
              clear w5
              rintro V ⟨hK, hGF, hT⟩
              have rF := hGF.wholeM
              have hck := hT.Check (by decide) HMY.out BS H 0 bR _ v _ hK.ring (HKT.out V hK.below)
              have HNX : Veil (∀ X, Below V.heap.size V X → X.rangeAt GF 0 F.cells ∧ (Calls Tryz.prog 8 #[.pointer (some ⟨Hc, 0, none⟩), .agg F.cells.toArray] X fun e w' => e = .returned (.int .i64 0) ∧ ∃ vc', KS2 w w' BS H bR v seed k RB (some ⟨gl, 0, none⟩) NL cl RS CB Hc CB (j + 1) vc')) := ⟨fun X hX => by
                have hKX := hK.far hX
                refine ⟨(hGF.farM hX).wholeM, (kadd_any (by omega) hKX.chain (hT.below hX) (HKT.out X hKX.below) (by have := (hKX.chain.inside Hc (.inl rfl)); omega)).mono ?_⟩
                rintro e w' ⟨he, ⟨vc', hc'⟩, ht⟩
                exact ⟨he, vc', hKX.next hc' ht⟩⟩
              clear hK hT hGF HMY
              generalize F.cells = FC at HNX iF rF hck
              go_wp2_with (first
                | (refine wpList_ldgv (by kernel_rfl) 32 (.tmp 19) rfl GF 0 rfl FC rF6 uF rfl iF ?_; clear rF6)
                | (refine wpList_ldgv (by kernel_rfl) 32 (.tmp 19) rfl GF 0 rfl FC rF uF rfl iF ?_; clear rF)
                | (go_at_call 20; refine hck.mono ?_; rintro e w6 ⟨rfl, hb6⟩; obtain ⟨rF6, had⟩ := HNX.out w6 hb6; clear hck)
                | (go_at_call 8; refine had.mono ?_; rintro e w7 ⟨rfl, vc', hK7⟩; clear had))
              go_roundw
              case rel => exact ⟨j + 1, ⟨c1, c2⟩, by push_cast; rfl, vc', hK7⟩
              case measure => simp [intOf]; omega
            · have c2i : ¬ (j : Int) < (Q : Int) := by omega
              obtain ⟨he, hle⟩ := HEND.out j hj1 hj2 (by omega)
              by_cases hgt : (Q : Int) > (M : Int)
              · exfalso; omega
              · have e : Q = j := by omega
                subst e
                have hge : (NL : Int) ≥ (Q : Int) := by omega
                have hj256 : Q ≤ 256 := by omega
                have wj : IntKind.i64.wrap (Q : Int) = (Q : Int) := by rw [IntKind.wrap_i64]; omega
                have hj0 : (0 : Int) ≤ (Q : Int) := by omega
                have hhd := chHeads_any CB Hc CB vc (kT seed k Q) [] wr hK.chain
                have hix := fun wx => kHead_ix seed k Q hj256 wx
                have hfd := fun wx => kHead_fd (Q : Int) (kP seed k Q) wx
                have HBk := Veil.mk hK.below
                obtain ⟨HC, hHC⟩ : ∃ q, headsC (headsOf (kT seed k Q)) = q := ⟨_, rfl⟩
                obtain ⟨HE, hHE⟩ : ∃ q, headC ((Q : Int), kP seed k Q) = q := ⟨_, rfl⟩
                rw [hHC] at hhd hix
                rw [hHE] at hix hfd
                clear hHC hHE hK hj256 hle he hj1 hj2
                go_wp2_with (go_at_call 9; refine hhd.mono ?_; rintro e w9 ⟨rfl, hb9⟩; clear hhd)
                go_ret
                exact ⟨rfl, HBk.out.trans (hb9.mono HBk.out.size)⟩
          · have c1i : ¬ (j : Int) < (NL : Int) := by omega
            obtain ⟨he, hle⟩ := HEND.out j hj1 hj2 (by omega)
            by_cases hgt : (Q : Int) > (M : Int)
            · have e : M = j := by omega
              subst e
              have hge : (NL : Int) ≥ (M : Int) := by omega
              have hj256 : M ≤ 256 := by omega
              have wj : IntKind.i64.wrap (M : Int) = (M : Int) := by rw [IntKind.wrap_i64]; omega
              have hj0 : (0 : Int) ≤ (M : Int) := by omega
              have hhd := chHeads_any CB Hc CB vc (kT seed k M) [] wr hK.chain
              have hix := fun wx => kHead_ix seed k M hj256 wx
              have hfd := fun wx => kHead_fd (M : Int) (kP seed k M) wx
              have HBk := Veil.mk hK.below
              obtain ⟨HC, hHC⟩ : ∃ q, headsC (headsOf (kT seed k M)) = q := ⟨_, rfl⟩
              obtain ⟨HE, hHE⟩ : ∃ q, headC ((M : Int), kP seed k M) = q := ⟨_, rfl⟩
              rw [hHC] at hhd hix
              rw [hHE] at hix hfd
              clear hHC hHE hK hj256 hle he hj1 hj2
              go_wp2_with (go_at_call 9; refine hhd.mono ?_; rintro e w9 ⟨rfl, hb9⟩; clear hhd)
              go_ret
              exact ⟨rfl, HBk.out.trans (hb9.mono HBk.out.size)⟩
            · have e : Q = j := by omega
              subst e
              have hge : (NL : Int) ≥ (Q : Int) := by omega
              have hj256 : Q ≤ 256 := by omega
              have wj : IntKind.i64.wrap (Q : Int) = (Q : Int) := by rw [IntKind.wrap_i64]; omega
              have hj0 : (0 : Int) ≤ (Q : Int) := by omega
              have hhd := chHeads_any CB Hc CB vc (kT seed k Q) [] wr hK.chain
              have hix := fun wx => kHead_ix seed k Q hj256 wx
              have hfd := fun wx => kHead_fd (Q : Int) (kP seed k Q) wx
              have HBk := Veil.mk hK.below
              obtain ⟨HC, hHC⟩ : ∃ q, headsC (headsOf (kT seed k Q)) = q := ⟨_, rfl⟩
              obtain ⟨HE, hHE⟩ : ∃ q, headC ((Q : Int), kP seed k Q) = q := ⟨_, rfl⟩
              rw [hHC] at hhd hix
              rw [hHE] at hix hfd
              clear hHC hHE hK hj256 hle he hj1 hj2
              go_wp2_with (go_at_call 9; refine hhd.mono ?_; rintro e w9 ⟨rfl, hb9⟩; clear hhd)
              go_ret
              exact ⟨rfl, HBk.out.trans (hb9.mono HBk.out.size)⟩
theorem topKept_walkI (seed : List Int) (hs : seed.length = 32) (n m : Int) (hn : 0 ≤ n ∧ n ≤ 255) (hm : 0 ≤ m ∧ m ≤ 65535) (w : World) (hKT : S.KTab w) (hBT : BTab w) :
    Calls Tryz.prog 4 #[.agg (row .u8 seed), .int .u8 n, .int .u16 m] w fun e w' => e = .returned (.bool true) ∧ Below w.heap.size w w' := by
  obtain ⟨x, rfl⟩ := Int.eq_ofNat_of_zero_le hn.1
  obtain ⟨y, rfl⟩ := Int.eq_ofNat_of_zero_le hm.1
  exact topKept_walk seed hs x y (by have := hn.2; omega) (by have := hm.2; omega) w hKT hBT
end Go.Proofs.YtlhajphjppjlgaaGreatDoor
