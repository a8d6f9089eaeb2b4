/- Leaf Kit Words Spread Mixed -/
import Derived.Test.YtlhajphjppjlgaaGreatDoorProg
import Derived.Test.YtlhajphjppjlgaaGreatDoorT05
import Derived.WalkKit
import Derived.WalkSpells
import Derived.WalkLawsBesides
import Derived.Deep.QuietTactic
import Derived.BigQuiet
import Derived.Laws.Rows
import Derived.Laws.CopyRow
import Derived.Laws.CopyOwn
import Derived.Deep.WholeRow
namespace Go.Proofs.YtlhajphjppjlgaaGreatDoor.S
open Go.RowKit
theorem ret_u32 {a b : Int} (h : a = b) : Ending.returned (.int .u32 a) = .returned (.int .u32 b) := by rw [h]
def rotN (n : Int) : Prop := n = 2 ∨ n = 6 ∨ n = 7 ∨ n = 11 ∨ n = 13 ∨ n = 17 ∨ n = 18 ∨ n = 19 ∨ n = 22 ∨ n = 25
theorem right_any (x n : Int) (w : World) (hn : rotN n) :
    Calls Tryz.prog 119 #[.int .u32 x, .int .i64 n] w fun e w' => e = .returned (.int .u32 (rr n x)) ∧ w' = w := by
  have h2 : bits BinOp.and IntKind.u64 (IntKind.u64.wrap (-2)) 31 = 30 := by decide
  have h6 : bits BinOp.and IntKind.u64 (IntKind.u64.wrap (-6)) 31 = 26 := by decide
  have h7 : bits BinOp.and IntKind.u64 (IntKind.u64.wrap (-7)) 31 = 25 := by decide
  have h11 : bits BinOp.and IntKind.u64 (IntKind.u64.wrap (-11)) 31 = 21 := by decide
  have h13 : bits BinOp.and IntKind.u64 (IntKind.u64.wrap (-13)) 31 = 19 := by decide
  have h17 : bits BinOp.and IntKind.u64 (IntKind.u64.wrap (-17)) 31 = 15 := by decide
  have h18 : bits BinOp.and IntKind.u64 (IntKind.u64.wrap (-18)) 31 = 14 := by decide
  have h19 : bits BinOp.and IntKind.u64 (IntKind.u64.wrap (-19)) 31 = 13 := by decide
  have h22 : bits BinOp.and IntKind.u64 (IntKind.u64.wrap (-22)) 31 = 10 := by decide
  have h25 : bits BinOp.and IntKind.u64 (IntKind.u64.wrap (-25)) 31 = 7 := by decide
  rcases hn with rfl | rfl | rfl | rfl | rfl | rfl | rfl | rfl | rfl | rfl
  all_goals
    go_enter Tryz.func119, Tryz.ntmps119
    go_wp2
    go_ret
    exact ⟨ret_u32 (by rw [bits_or_comm]; rfl), rfl⟩
theorem word_any (b off cap : Nat) (z0 z1 z2 z3 : Int) (w : World)
    (h0 : w.cell? ⟨b, off, none⟩ = some (.int .u8 z0)) (h1 : w.cell? ⟨b, off + 1, none⟩ = some (.int .u8 z1))
    (h2 : w.cell? ⟨b, off + 2, none⟩ = some (.int .u8 z2)) (h3 : w.cell? ⟨b, off + 3, none⟩ = some (.int .u8 z3)) :
    Calls Tryz.prog 120 #[.slice (some ⟨b, off, none⟩) 4 cap] w fun e w' => e = .returned (.int .u32 (wd z0 z1 z2 z3)) ∧ ∃ n, w' = w.drewN n := by
  go_enter Tryz.func120, Tryz.ntmps120
  go_wp2
  go_quiet ((fail))
  go_wp2
  go_ret
  exact ⟨rfl, _, rfl⟩
theorem start_any (w : World) :
    Calls Tryz.prog 64 #[] w fun e w' => e = .returned (.agg (row .u32 startL)) ∧ Below w.heap.size w w' := by
  go_enter Tryz.func64, Tryz.ntmps64
  go_wp2
  exact bodyPost_ret (v := .agg (row .u32 startL)) (by simp [results, Tryz.results64, go_sem, row, startL]) rfl ⟨rfl, (Below.refl _ _).alloc (Nat.le_refl _) _⟩
end Go.Proofs.YtlhajphjppjlgaaGreatDoor.S
namespace Go.Proofs.YtlhajphjppjlgaaGreatDoor.S
open Go.RowKit
def Holds (w : World) (g : Nat) (k : IntKind) (t : TypeId) (l : List Int) : Prop := w.heap[g]? = some (.cells (row k l) t (0, 0))
theorem Holds.lt {w : World} {g : Nat} {k : IntKind} {t : TypeId} {l : List Int} (h : Holds w g k t l) : g < w.heap.size := by
  unfold Holds at h
  exact (Array.getElem?_eq_some_iff.1 h).1
theorem Holds.cell {w : World} {g : Nat} {k : IntKind} {t : TypeId} {l : List Int} (h : Holds w g k t l) (j : Nat) (hj : j < l.length) : w.cell? ⟨g, j, none⟩ = some (.int k (l[j]?.getD 0)) := by
  rw [cell_of_row w g j _ t _ h, row_get k l j hj]
theorem Holds.frozen {w : World} {g : Nat} {k : IntKind} {t : TypeId} {l : List Int} (h : Holds w g k t l) (j : Nat) : w.frozen? ⟨g, j, none⟩ = false := frozen_of_row w g j _ t h
theorem Holds.drewN {w : World} {g : Nat} {k : IntKind} {t : TypeId} {l : List Int} (h : Holds w g k t l) (n : Nat) : Holds (w.drewN n) g k t l := by
  unfold Holds at h ⊢; simpa using h
theorem Holds.drew {w : World} {g : Nat} {k : IntKind} {t : TypeId} {l : List Int} (h : Holds w g k t l) : Holds w.drew g k t l := by
  unfold Holds at h ⊢; rw [heap_drew]; exact h
theorem Holds.alloc {w : World} {g : Nat} {k : IntKind} {t : TypeId} {l : List Int} (h : Holds w g k t l) (o : Obj) : Holds (w.alloc o) g k t l := by
  have hl := h.lt
  unfold Holds at h ⊢; rw [Below.heap_alloc w o g hl]; exact h
theorem Holds.below {w w' : World} {B g : Nat} {k : IntKind} {t : TypeId} {l : List Int} (h : Holds w g k t l) (hb : Below B w w') (hg : g < B) : Holds w' g k t l := by
  unfold Holds at h ⊢; rw [hb.block g hg]; exact h
theorem Holds.set {w : World} {g : Nat} {k : IntKind} {t : TypeId} {l : List Int} (h : Holds w g k t l) (j : Nat) (v : Int) : Holds (w.setCell ⟨g, j, none⟩ (.int k v)) g k t (l.set j v) := by
  unfold Holds at h ⊢
  rw [heap_setCell_same w g j _ t _ h, row_set]
theorem Holds.setOther {w : World} {g : Nat} {k : IntKind} {t : TypeId} {l : List Int} (h : Holds w g k t l) (a : Addr) (v : Value) (hne : g ≠ a.block) : Holds (w.setCell a v) g k t l := by
  unfold Holds at h ⊢
  rw [heap_setCell_other w a g v hne]; exact h
theorem Holds.new (w : World) (k : IntKind) (t : TypeId) (l : List Int) : Holds (w.alloc (.cells (row k l) t)) w.heap.size k t l := heap_alloc_new w _
theorem Holds.setRow {w : World} {g : Nat} {k : IntKind} {t : TypeId} {l : List Int} (h : Holds w g k t l) (l' : List Int) : Holds (w.setRow g (row k l')) g k t l' := by
  unfold Holds at h ⊢; exact setRow_heap w g _ _ t _ h
theorem Holds.setRowOther {w : World} {g g' : Nat} {k : IntKind} {t : TypeId} {l : List Int} (h : Holds w g k t l) (cs : Array Value) (hne : g ≠ g') : Holds (w.setRow g' cs) g k t l := by
  unfold Holds at h ⊢; rw [setRow_other w g' g cs hne]; exact h
theorem drewN_size (w : World) (n : Nat) : (w.drewN n).heap.size = w.heap.size := by simp
theorem below_drewN {B : Nat} {a w : World} (h : Below B a w) (n : Nat) : Below B a (w.drewN n) := by
  induction n with
  | zero => exact h
  | succ n ih => exact ih.drew
section
variable {P : Program}
theorem wpList_ld {ops : Array Oper} {rest : List Oper} {o : Oper} {a : Act} {w : World} {Q : Exit → Act → World → Prop} (hgd : o.guard = none) (ty : TypeId) (x : Operand) (ho : o.op = .load ty x)
    (g : Nat) (hx : a.eval x = .pointer (some ⟨g, 0, none⟩)) {k : IntKind} {t : TypeId} {l : List Int} (hg : Holds w g k t l) {n : Nat} {e : TypeId}
    (hu : P.underlying ty = some (.array n e)) (hi : (P.info? ty).map (·.size) = some n) (hl : l.length = n)
    (h : wpList P ops Q rest (a.put o.dst (.agg (row k l))) w) : wpList P ops Q (o :: rest) a w :=
  wpList_load_row hgd ty x ho g hx t (row k l) (0, 0) _ hg hu rfl (by rw [hi, row_size, hl]) h
theorem run_storeVar_row (w : World) (g : Nat) (ty t : TypeId) (k : IntKind) (old l : List Int) (hg : Holds w g k t old) (hl : old.length = l.length) (hi : (P.info? ty).map (·.size) = some l.length) :
    (storeVar ty ⟨g, 0, none⟩ (.agg (row k l))).run P w = .ok () (w.setRow g (row k l)) := by
  have hst := run_storeCells_at P g 0 t (row k l).toList 0 (row k old) w hg (by simp [row, hl]) (fun v hv => by
    have := row_one k l
    exact (Array.all_eq_true_iff_forall_mem.1 this) v (by simpa using hv))
  cases hq : P.info? ty with
  | none => simp [hq] at hi
  | some i =>
    have hs : i.size = l.length := by simpa [hq] using hi
    have hsz : (row k l).size = i.size := by rw [row_size, hs]
    have he : (List.take (0 + 0) (row k old).toList ++ (row k l).toList ++ List.drop (0 + 0 + (row k l).toList.length) (row k old).toList).toArray = row k l := by
      simp [row, hl]
    rw [he] at hst
    simp [storeVar, sizeOf, typeInfo, hq, Value.cells, hsz, hst]
theorem wpList_st {ops : Array Oper} {rest : List Oper} {o : Oper} {a : Act} {w : World} {Q : Exit → Act → World → Prop} (hgd : o.guard = none) (ty : TypeId) (x y : Operand) (ho : o.op = .store ty x y)
    (g : Nat) (hx : a.eval x = .pointer (some ⟨g, 0, none⟩)) {k : IntKind} {t : TypeId} {old l : List Int} (hy : a.eval y = .agg (row k l)) (hg : Holds w g k t old)
    (hi : (P.info? ty).map (·.size) = some l.length) (hl : old.length = l.length)
    (h : wpList P ops Q rest (a.put o.dst undef) (w.setRow g (row k l))) : wpList P ops Q (o :: rest) a w :=
  wpList_plain hgd fun _ hK => by
    unfold Oper.wp execOp
    simp only [ho, hx, hy, Instr.storeAt, Instr.sureAddr, Sem.run_bind, Sem.run_pure, Result.andThen_ok, run_storeVar_row w g ty t k old l hg hl hi]
    exact hK _ _ h
theorem results_holds {fn : Func} {p : Tmp} {ty : TypeId} (h : fn.results = #[.cell p ty]) (tmps : Array Value) {w : World} {g : Nat} {k : IntKind} {t : TypeId} {l : List Int}
    (hp : tmps.getD p undef = .pointer (some ⟨g, 0, none⟩)) (hg : Holds w g k t l) {n : Nat} {e : TypeId}
    (hu : P.underlying ty = some (.array n e)) (hi : (P.info? ty).map (·.size) = some n) (hl : l.length = n) :
    (results fn tmps).run P w = .ok (.agg (row k l)) w :=
  results_cell_row h tmps w g t (row k l) (0, 0) _ hp hg hu rfl (by rw [hi, row_size, hl])
end
theorem sizeSt : (Tryz.prog.info? 134).map (·.size) = some 8 := by kernel_rfl
theorem size16 : (Tryz.prog.info? 176).map (·.size) = some 16 := by kernel_rfl
theorem size64 : (Tryz.prog.info? 174).map (·.size) = some 64 := by kernel_rfl
theorem sizeKey : (Tryz.prog.info? 23).map (·.size) = some 32 := by kernel_rfl
end Go.Proofs.YtlhajphjppjlgaaGreatDoor.S
namespace Go.Proofs.YtlhajphjppjlgaaGreatDoor.S
open Go.RowKit
theorem words_any (b off cap : Nat) (z : List Int) (w : World) (hcap : 64 ≤ cap) (hcap2 : cap ≤ 9223372036854775807)
    (hcell : ∀ j, j < 64 → w.cell? ⟨b, off + j, none⟩ = some (.int .u8 (z[j]?.getD 0))) :
    Calls Tryz.prog 100 #[.slice (some ⟨b, off, none⟩) 64 cap] w fun e w' => e = .returned (.agg (row .u32 (wordsL z 16))) ∧ Below w.heap.size w w' := by
  have hb : b < w.heap.size := block_lt_of_cell (hcell 0 (by omega))
  go_enter Tryz.func100, Tryz.ntmps100
  go_wp2
  go_loopw [6] (fun i wr => ∃ k : Nat, k ≤ 16 ∧ i = .int .i64 k ∧ Below w.heap.size w wr ∧ w.heap.size + 2 ≤ wr.heap.size
      ∧ Holds wr w.heap.size .u32 176 (List.replicate 16 0)
      ∧ Holds wr (w.heap.size + 1) .u32 176 (wordsL z k ++ List.replicate (16 - k) 0))
    (fun i _ => 16 - (intOf i).toNat)
  case atStart =>
    have hn := Holds.new (w.alloc (.cells (row .u32 (List.replicate 16 0)) 176)) .u32 176 (List.replicate 16 0)
    rw [World.size_alloc] at hn
    exact ⟨0, by omega, rfl, ((Below.refl _ _).alloc (Nat.le_refl _) _).alloc (by simp) _, by simp, (Holds.new w .u32 176 (List.replicate 16 0)).alloc _, hn⟩
  case round =>
    obtain ⟨k, hk, rfl, hB, hsz, h0, h1⟩ := hrel
    by_cases hlt : k < 16
    · have c : ∀ j, j < 64 → wr.cell? ⟨b, off + j, none⟩ = some (.int .u8 (z[j]?.getD 0)) := fun j hj => (hB.cell (p := ⟨b, off + j, none⟩) hb).trans (hcell j hj)
      have c0 := c (4 * k) (by omega)
      have c1 := c (4 * k + 1) (by omega)
      have c2 := c (4 * k + 2) (by omega)
      have c3 := c (4 * k + 3) (by omega)
      have hw := word_any b (off + k * 4) 4 (z[4 * k]?.getD 0) (z[4 * k + 1]?.getD 0) (z[4 * k + 2]?.getD 0) (z[4 * k + 3]?.getD 0) wr (by rw [← c0]; congr 2; omega) (by rw [← c1]; congr 2; omega) (by rw [← c2]; congr 2; omega) (by rw [← c3]; congr 2; omega)
      have hcc := h1.cell k (by rw [List.length_append, wordsL_length, List.length_replicate]; omega)
      have hff := h1.frozen k
      clear c c0 c1 c2 c3 hcell
      go_wp2_with (go_at_call 120; refine hw.mono ?_; rintro e w' ⟨rfl, nd, rfl⟩)
      go_roundw
      case rel =>
        refine ⟨k + 1, by omega, by go_num, (below_drewN hB _).setCell (by simp) _, by simp; omega, (h0.drewN _).setOther _ _ (by simp), ?_⟩
        have := (h1.drewN nd).set k (wdAt z k)
        rw [show 16 - k = (16 - (k + 1)) + 1 by omega] at this
        have e := set_next (wordsL z k) (16 - (k + 1)) (wdAt z k)
        rw [wordsL_length] at e
        rw [e, ← wordsL_succ] at this
        exact this
      case measure => simp [intOf]; omega
    · obtain rfl : k = 16 := by omega
      have h1' : Holds wr (w.heap.size + 1) .u32 176 (wordsL z 16) := by simpa using h1
      clear h1
      go_wp2_with (first | (refine wpList_ld rfl 176 _ rfl _ rfl h1' Tryz.underlying176 size16 (wordsL_length _ _) ?_) | (refine wpList_st rfl 176 _ _ rfl _ rfl rfl h0 (by rw [wordsL_length]; exact size16) (by simp [wordsL_length]) ?_))
      refine bodyPost_ret (results_holds (Tryz.results100) _ rfl (h0.setRow _) Tryz.underlying176 size16 (wordsL_length _ _)) rfl ⟨rfl, ?_⟩
      exact below_setRow hB (Nat.le_refl _) _
end Go.Proofs.YtlhajphjppjlgaaGreatDoor.S
namespace Go.Proofs.YtlhajphjppjlgaaGreatDoor.S
open Go.RowKit
theorem size1u32 : (Tryz.prog.info? 26).map (·.size) = some 1 := by kernel_rfl
theorem forget {p : World → Prop} {W : World} (I : World → Prop) (hI : I W) (h : ∀ W0, I W0 → p W0) : p W := h W hI
theorem spread_any (f : List Int) (w : World) (hf : f.length = 16) :
    Calls Tryz.prog 99 #[.agg (row .u32 f)] w fun e w' => e = .returned (.agg (row .u32 (sched f 48))) ∧ Below w.heap.size w w' := by
  go_enter Tryz.func99, Tryz.ntmps99
  go_wp2
  refine forget (p := fun x => Code.wp _ _ _ _ x) (fun W0 => Below w.heap.size w W0 ∧ W0.heap.size = w.heap.size + 3 ∧ Holds W0 w.heap.size .u32 176 f ∧ Holds W0 (w.heap.size + 1) .u32 174 (List.replicate 64 0) ∧ Holds W0 (w.heap.size + 1 + 1) .u32 174 (List.replicate 64 0)) ⟨(((Below.refl _ _).alloc (Nat.le_refl _) _).alloc (by simp) _).alloc (by simp; omega) _, by simp, ?_, ?_, ?_⟩ ?_
  · exact ((Holds.new w .u32 176 f).alloc _).alloc _
  · have hn := Holds.new (w.alloc (.cells (row .u32 f) 176)) .u32 174 (List.replicate 64 0)
    rw [World.size_alloc] at hn
    exact hn.alloc _
  · have hn := Holds.new ((w.alloc (.cells (row .u32 f) 176)).alloc (.cells (row .u32 (List.replicate 64 0)) 174)) .u32 174 (List.replicate 64 0)
    rw [World.size_alloc, World.size_alloc] at hn
    exact hn
  rintro W0 ⟨hB, hsz, h0, h1, h2⟩
  have hcp : ∀ wx : World, wx.heap = W0.heap → (Builtin.copy_ #[194, 194] 3 #[.slice (some ⟨w.heap.size + 1 + 1, 0, none⟩) 64 64, .slice (some ⟨w.heap.size, 0, none⟩) 16 16]).run Tryz.prog wx =
      .ok (.int .i64 16) (wx.setRow (w.heap.size + 1 + 1) (row .u32 (f ++ List.replicate 48 0))) := fun wx hx => by
    have hg : wx.heap[w.heap.size + 1 + 1]? = some (.cells (row .u32 (List.replicate 64 0)) 174 (0, 0)) := by rw [hx]; exact h2
    have hs : wx.heap[w.heap.size]? = some (.cells (row .u32 f) 176 (0, 0)) := by rw [hx]; exact h0
    have := run_copy_row (P := Tryz.prog) wx 194 194 3 26 (w.heap.size + 1 + 1) 0 64 64 ⟨w.heap.size, 0, none⟩ 16 16 _ 174 (row .u32 f).toList Tryz.underlying194 size1u32 hg
      (by simp [row, hf]) (fun j v hv => by
        have : (⟨w.heap.size, 0, none⟩ : Addr).add j = ⟨w.heap.size, j, none⟩ := by unfold Addr.add; split <;> simp_all
        rw [this, cell_of_row wx _ j _ _ _ hs]; simpa using hv) (by simp [row, hf]) (fun v hv => (Array.all_eq_true_iff_forall_mem.1 (row_one .u32 f)) v (by simpa using hv))
    rw [this]
    have e : (List.take 0 (row .u32 (List.replicate 64 0)).toList ++ (row .u32 f).toList ++ List.drop (0 + (row .u32 f).toList.length) (row .u32 (List.replicate 64 0)).toList).toArray = row .u32 (f ++ List.replicate 48 0) := by
      simp [row, hf]
    rw [e]
    have e2 : (row .u32 f).toList.length = 16 := by simp [row, hf]
    rw [e2]; rfl
  have hcp1 := hcp W0.drew rfl
  clear hcp
  go_region
  go_wp2
  refine forget (p := fun x => Code.wp _ _ _ _ x) (fun W1 => Below w.heap.size w W1 ∧ W1.heap.size = w.heap.size + 3 ∧ Holds W1 (w.heap.size + 1) .u32 174 (List.replicate 64 0) ∧ Holds W1 (w.heap.size + 1 + 1) .u32 174 (f ++ List.replicate 48 0)) ⟨below_setRow hB.drew (by omega) _, by simp [hsz], ?_, ?_⟩ ?_
  · exact (show Holds W0.drew _ _ _ _ from h1).setRowOther _ (by omega)
  · exact (show Holds W0.drew _ _ _ _ from h2).setRow _
  clear hcp1 h0 h1 h2 hB hsz
  rintro W1 ⟨hB, hsz, h1, h2⟩
  go_loopw [4] (fun i wr => ∃ m : Nat, m ≤ 48 ∧ i = .int .i64 ((16 + m : Nat) : Int) ∧ Below w.heap.size w wr ∧ wr.heap.size = w.heap.size + 3
      ∧ Holds wr (w.heap.size + 1) .u32 174 (List.replicate 64 0)
      ∧ Holds wr (w.heap.size + 1 + 1) .u32 174 (sched f m ++ List.replicate (48 - m) 0))
    (fun i _ => 64 - (intOf i).toNat)
  case atStart => exact ⟨0, by omega, rfl, hB, hsz, h1, h2⟩
  case round =>
    clear hB hsz h1 h2 W1
    obtain ⟨m, hm, rfl, hB, hsz, h1, h2⟩ := hrel
    by_cases hlt : m < 48
    · have hln : (sched f m ++ List.replicate (48 - m) 0).length = 64 := by rw [List.length_append, sched_length, hf, List.length_replicate]; omega
      have ix : ∀ j, j < 16 + m → (sched f m ++ List.replicate (48 - m) 0)[j]?.getD 0 = (sched f m)[j]?.getD 0 := fun j hj => by rw [List.getElem?_append_left (by rw [sched_length, hf]; omega)]
      have c2 := h2.cell (16 + m - 2) (by omega)
      have c7 := h2.cell (16 + m - 7) (by omega)
      have c15 := h2.cell (16 + m - 15) (by omega)
      have c16 := h2.cell (16 + m - 16) (by omega)
      rw [ix _ (by omega)] at c2 c7 c15 c16
      have cc := h2.cell (16 + m) (by omega)
      have cf := h2.frozen (16 + m)
      clear ix hln
      obtain ⟨k, hk⟩ : ∃ k, 16 + m = k := ⟨_, rfl⟩
      have hk1 : 16 ≤ k := by omega
      have hk2 : k < 64 := by omega
      have HK : Hid (16 + m = k) := hk
      rw [hk] at c2 c7 c15 c16 cc cf ⊢
      clear hk
      go_wp2
      go_quiet ((fail))
      go_wp2_with (go_at_call 119; refine (right_any _ _ _ (by unfold rotN; omega)).mono ?_; rintro e w' ⟨rfl, rfl⟩)
      go_region
      all_goals go_wp2
      all_goals go_roundw
      case rel =>
        refine ⟨m + 1, by omega, ?_, ?_, ?_, ?_, ?_⟩
        · have := HK.out; subst this; go_num
        · exact (below_drewN hB _).setCell (by simp; omega) _
        · simp [hsz]
        · exact (h1.drewN _).setOther _ _ (by simp)
        · have hk := HK.out
          subst hk
          have := (h2.drewN (nq + 1)).set (16 + m) (swdAt (sched f m) (16 + m))
          rw [show 48 - m = (48 - (m + 1)) + 1 by omega] at this
          have e := set_next (sched f m) (48 - (m + 1)) (swdAt (sched f m) (16 + m))
          rw [sched_length, hf] at e
          rw [e] at this
          have e2 : sched f (m + 1) = sched f m ++ [swdAt (sched f m) (16 + m)] := by rw [sched, swd, sched_length, hf]
          rw [e2]
          exact this
      case measure => have := HK.out; simp [intOf]; omega
    · obtain rfl : m = 48 := by omega
      have hl : (sched f 48).length = 64 := by rw [sched_length, hf]
      have h2' : Holds wr (w.heap.size + 1 + 1) .u32 174 (sched f 48) := by simpa using h2
      clear h2
      go_wp2_with (first | (refine wpList_ld rfl 174 _ rfl _ rfl h2' Tryz.underlying174 size64 hl ?_) | (refine wpList_st rfl 174 _ _ rfl _ rfl rfl h1 (by rw [hl]; exact size64) (by simp [hl]) ?_))
      refine bodyPost_ret (results_holds (Tryz.results99) _ rfl (h1.setRow _) Tryz.underlying174 size64 hl) rfl ⟨rfl, ?_⟩
      exact below_setRow hB (by omega) _
end Go.Proofs.YtlhajphjppjlgaaGreatDoor.S
namespace Go.Proofs.YtlhajphjppjlgaaGreatDoor.S
open Go.RowKit
def KTab (w : World) : Prop := ∀ j, j < 64 → w.cell? ⟨1, j, none⟩ = some (.int .u32 (kTab[j]?.getD 0))
theorem KTab.lt {w : World} (h : KTab w) : 1 < w.heap.size := block_lt_of_cell (h 0 (by omega))
theorem KTab.below {w w' : World} (h : KTab w) (hb : Below w.heap.size w w') : KTab w' := fun j hj => (hb.cell (p := ⟨1, j, none⟩) h.lt).trans (h j hj)
set_option maxRecDepth 20000 in
theorem mixed_any (s ws : List Int) (w : World) (hs : s.length = 8) (hin : InU s) (hw : ws.length = 64) (hk : KTab w) :
    Calls Tryz.prog 98 #[.agg (row .u32 s), .agg (row .u32 ws)] w fun e w' => e = .returned (.agg (row .u32 (rounds ws s 64))) ∧ Below w.heap.size w w' := by
  go_enter Tryz.func98, Tryz.ntmps98
  go_wp2
  refine forget (p := fun x => Code.wp _ _ _ _ x) (fun W0 => Below w.heap.size w W0 ∧ W0.heap.size = w.heap.size + 3 ∧ Holds W0 w.heap.size .u32 134 s ∧ Holds W0 (w.heap.size + 1) .u32 174 ws ∧ Holds W0 (w.heap.size + 1 + 1) .u32 134 (List.replicate 8 0)) ⟨(((Below.refl _ _).alloc (Nat.le_refl _) _).alloc (by simp) _).alloc (by simp; omega) _, by simp, ?_, ?_, ?_⟩ ?_
  · exact ((Holds.new w .u32 134 s).alloc _).alloc _
  · have hn := Holds.new (w.alloc (.cells (row .u32 s) 134)) .u32 174 ws
    rw [World.size_alloc] at hn
    exact hn.alloc _
  · have hn := Holds.new ((w.alloc (.cells (row .u32 s) 134)).alloc (.cells (row .u32 ws) 174)) .u32 134 (List.replicate 8 0)
    rw [World.size_alloc, World.size_alloc] at hn
    exact hn
  rintro W0 ⟨hB, hsz, h0, h1, h2⟩
  obtain ⟨a, b, c, d, e, f, g, h, rfl⟩ := eight hs
  have c0 : W0.cell? ⟨w.heap.size, 0, none⟩ = some (.int .u32 a) := h0.cell 0 (by simp)
  have c1 : W0.cell? ⟨w.heap.size, 1, none⟩ = some (.int .u32 b) := h0.cell 1 (by simp)
  have c2 : W0.cell? ⟨w.heap.size, 2, none⟩ = some (.int .u32 c) := h0.cell 2 (by simp)
  have c3 : W0.cell? ⟨w.heap.size, 3, none⟩ = some (.int .u32 d) := h0.cell 3 (by simp)
  have c4 : W0.cell? ⟨w.heap.size, 4, none⟩ = some (.int .u32 e) := h0.cell 4 (by simp)
  have c5 : W0.cell? ⟨w.heap.size, 5, none⟩ = some (.int .u32 f) := h0.cell 5 (by simp)
  have c6 : W0.cell? ⟨w.heap.size, 6, none⟩ = some (.int .u32 g) := h0.cell 6 (by simp)
  have c7 : W0.cell? ⟨w.heap.size, 7, none⟩ = some (.int .u32 h) := h0.cell 7 (by simp)
  go_quiet ((fail))
  go_wp2
  refine forget (p := fun x => Code.wp _ _ _ _ x) (fun W1 => Below w.heap.size w W1 ∧ W1.heap.size = w.heap.size + 3 ∧ Holds W1 (w.heap.size + 1) .u32 174 ws ∧ Holds W1 (w.heap.size + 1 + 1) .u32 134 (List.replicate 8 0)) ⟨below_drewN hB _, by simp [hsz], h1.drewN _, h2.drewN _⟩ ?_
  clear c0 c1 c2 c3 c4 c5 c6 c7 h0 h1 h2 hB hsz
  rintro W1 ⟨hB, hsz, h1, h2⟩
  go_loopw [5, 6, 7, 8, 9, 10, 11, 12, 32] (fun va vb vc vd ve vf vg vh i wr => ∃ (k : Nat) (a' b' c' d' e' f' g' h' : Int), k ≤ 64 ∧ i = .int .i64 k ∧ rounds ws [a, b, c, d, e, f, g, h] k = [a', b', c', d', e', f', g', h'] ∧
      va = .int .u32 a' ∧ vb = .int .u32 b' ∧ vc = .int .u32 c' ∧ vd = .int .u32 d' ∧ ve = .int .u32 e' ∧ vf = .int .u32 f' ∧ vg = .int .u32 g' ∧ vh = .int .u32 h' ∧
      Below w.heap.size w wr ∧ wr.heap.size = w.heap.size + 3 ∧ Holds wr (w.heap.size + 1) .u32 174 ws ∧ Holds wr (w.heap.size + 1 + 1) .u32 134 (List.replicate 8 0))
    (fun _ _ _ _ _ _ _ _ i _ => 64 - (intOf i).toNat)
  case atStart => exact ⟨0, a, b, c, d, e, f, g, h, by omega, rfl, rfl, rfl, rfl, rfl, rfl, rfl, rfl, rfl, rfl, hB, hsz, h1, h2⟩
  case round =>
    clear hB hsz h1 h2 W1
    obtain ⟨k, a', b', c', d', e', f', g', h', hk64, rfl, HR, rfl, rfl, rfl, rfl, rfl, rfl, rfl, rfl, hB, hsz, h1, h2⟩ := hrel
    have HH : Hid (rounds ws [a, b, c, d, e, f, g, h] k = [a', b', c', d', e', f', g', h']) := HR
    have hin' := rounds_in ws [a, b, c, d, e, f, g, h] k hs hin
    rw [HR] at hin'
    have he := hin' e' (by simp)
    obtain ⟨he0, he1⟩ := he
    clear HR hin'
    by_cases hlt : k < 64
    · have ck : wr.cell? ⟨1, k, none⟩ = some (.int .u32 (kTab[k]?.getD 0)) := (hB.cell (p := ⟨1, k, none⟩) hk.lt).trans (hk k hlt)
      have cw := h1.cell k (by omega)
      obtain ⟨K, hK⟩ : ∃ K, kTab[k]?.getD 0 = K := ⟨_, rfl⟩
      have HK : Hid (kTab[k]?.getD 0 = K) := hK
      rw [hK] at ck
      obtain ⟨V, hV⟩ : ∃ V, ws[k]?.getD 0 = V := ⟨_, rfl⟩
      have HV : Hid (ws[k]?.getD 0 = V) := hV
      rw [hV] at cw
      have HN : Hid (bits .xor .u32 (if IntKind.u32.signed = true then -1 else IntKind.u32.max) e' = 4294967295 - e') := not_u32 e' he0 he1
      clear hK hV
      go_wp2
      go_quiet ((go_at_call 119; exact Calls.quiet_of_same (right_any _ _ _ (by unfold rotN; omega))))
      go_wp2_with (go_at_call 119; refine (right_any _ _ _ (by unfold rotN; omega)).mono ?_; rintro e w' ⟨rfl, rfl⟩)
      go_roundw
      case rel =>
        refine ⟨k + 1, _, _, _, _, _, _, _, _, by omega, by go_num, ?_, rfl, rfl, rfl, rfl, rfl, rfl, rfl, rfl, below_drewN hB _, by simp [hsz], h1.drewN _, h2.drewN _⟩
        show rnd (kTab[k]?.getD 0) (ws[k]?.getD 0) (rounds ws [a, b, c, d, e, f, g, h] k) = _
        rw [HH.out, HK.out, HV.out]
        refine rnd_of ?_ ?_
        · unfold sig1 sig0 chs maj; rw [HN.out]; omega
        · unfold sig1 chs; rw [HN.out]; omega
      case measure => simp [intOf]; omega
    · obtain rfl : k = 64 := by omega
      have hr : rounds ws [a, b, c, d, e, f, g, h] 64 = [a', b', c', d', e', f', g', h'] := HH.out
      go_wp2_with (refine wpList_st rfl 134 _ _ rfl _ rfl (l := [a', b', c', d', e', f', g', h']) rfl h2 sizeSt (by simp) ?_)
      refine bodyPost_ret (results_holds (Tryz.results98) _ rfl (h2.setRow [a', b', c', d', e', f', g', h']) Tryz.underlying134 sizeSt rfl) rfl ⟨by rw [hr], ?_⟩
      exact below_setRow hB (by omega) _
end Go.Proofs.YtlhajphjppjlgaaGreatDoor.S
