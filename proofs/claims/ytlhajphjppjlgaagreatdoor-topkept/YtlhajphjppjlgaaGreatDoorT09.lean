/- GoZ Pa -/
import Derived.Test.YtlhajphjppjlgaaGreatDoorT05
import Derived.Test.YtlhajphjppjlgaaGreatDoorT08
import Derived.Test.YtlhajphjppjlgaaGreatDoorT02
import Derived.OwnWalk
import Derived.Laws.BitsLemmas
namespace Go.Proofs.YtlhajphjppjlgaaGreatDoor
open Go.ChangeShapes Go.WideShapes Go.ChangeAt Go.RowKit
set_option maxRecDepth 20000
set_option linter.unusedSimpArgs false
theorem gTabK : Tryz.prog.globalNamed "escritoire/sha.roundWords" = some 1 := by kernel_rfl
theorem gTabKType : (Tryz.prog.globals[1]?).map (·.type) = some 174 := by kernel_rfl
theorem cellsK64 : Tryz.prog.cellsOf 174 = 64 := by kernel_rfl
theorem cellsKU32 : Tryz.prog.cellsOf 26 = 1 := by kernel_rfl
theorem tables2 {W : World} (h : laidMetH Tryz.prog [("escritoire/sha.roundWords", Rows.laid_escritoire_sha_roundWords), ("escritoire/wire.buckets", Rows.laid_escritoire_wire_buckets)] W) : S.KTab W ∧ BTab W := by
  have ht : Lib.TabIs Tryz.prog W "escritoire/sha.roundWords" .u32 S.kTab := Lib.tabIs_of_head (rest := [("escritoire/wire.buckets", Rows.laid_escritoire_wire_buckets)]) gTabK gTabKType Tryz.underlying174 Tryz.underlying26 cellsKU32 cellsK64 h
  have hb : Lib.TabIs Tryz.prog W "escritoire/wire.buckets" .i64 bTab := by
    obtain ⟨ps, ⟨_, _, _, _, _, _, _, _, _, _, hrest, _⟩, _⟩ := h
    obtain ⟨g', t', cs, fuel, p, q, hg', ht', hvar, hd, _, _⟩ := hrest
    obtain rfl := Option.some.inj (gTab.symm.trans hg')
    obtain rfl := Option.some.inj (gTabType.symm.trans ht')
    unfold Lib.TabIs
    rw [hvar, ← Lib.cells_of_tab Tryz.underlying188 Tryz.underlying3 cellsI64 cells6 hd]
  refine ⟨fun j hj => ?_, fun j v hv => ?_⟩
  · have := ht.cell gTabK j hj
    rw [List.getD_eq_getElem?_getD] at this
    exact this
  · have hj : j < bTab.length := by have := (List.getElem?_eq_some_iff.1 hv).1; simpa using this
    have := hb.cell gTab j hj
    rw [Nat.zero_add, this, ← hv, List.getElem?_map, List.getD_eq_getElem?_getD, List.getElem?_eq_getElem hj]; rfl
def layB : Obj → Obj
  | .cells _ t frozen => .cells (row .i64 bTab) t frozen
  | o => o
def layK : Obj → Obj
  | .cells _ t frozen => .cells (row .u32 S.kTab) t frozen
  | o => o
noncomputable def laidWorld2 (os : Os) : World :=
  { World.holding Tryz.prog os ⟨#[], #[], []⟩ with heap := ((World.holding Tryz.prog os ⟨#[], #[], []⟩).heap.modify 0 layB).modify 1 layK }
structure Aq where
  own : Int
  seed : List Int
  num : Int
  prev : List Int
  ea : Int
  es : Int
  wraps : Value
  E : Ev
def Aq.cells (q : Aq) : List Value := [.int .u8 q.own] ++ q.seed.map (Value.int .u8) ++ [.int .u32 q.num] ++ q.prev.map (Value.int .u8) ++ dotC q.ea q.es ++ [q.wraps] ++ q.E.cells
structure AqIn (W : World) (q : Aq) (xw : Option Addr) (lw cw : Nat) (ws : List Wp) : Prop where
  own : in8 q.own
  seed : q.seed.length = 32
  seedI : ∀ x ∈ q.seed, in8 x
  num : in32 q.num
  prev : q.prev.length = 32
  prevI : ∀ x ∈ q.prev, in8 x
  ea : in8 q.ea
  es : in32 q.es
  wraps : q.wraps = .slice xw lw cw
  hw : WrapsAt W xw lw cw ws
  inW : ∀ e ∈ ws, e.In
  E : q.E.In
theorem open_key7 {H : Type} {enc : TypeId × Value → H} {W : World} {r : Reach} {base : Nat} {v : Value} {d : DataW H} {p : List MemPlace} (hv : Value.okWide Tryz.prog W r base 23 v) (h : DataW.Trod enc Tryz.prog W 0 (fun _ => true) true 23 v d p) :
    ∃ l : List Int, l.length = 32 ∧ v = .agg (row .u8 l) ∧ ∀ x ∈ l, 0 ≤ x ∧ x ≤ 255 := by
  obtain ⟨l, h1, h2, h3⟩ := open_row Tryz.underlying23 Tryz.underlying5 cellsU8 (by kernel_rfl) hv h
  exact ⟨l, h1, h2, fun x hx => bounds_u8 (h3 x hx)⟩
end Go.Proofs.YtlhajphjppjlgaaGreatDoor
namespace Go.Proofs.YtlhajphjppjlgaaGreatDoor
open Go.RowKit
set_option maxRecDepth 20000
set_option linter.unusedSimpArgs false
theorem grown_set {w w' : World} {g : Nat} (h : w.grownBy w' (some g)) (j : Nat) (v : Value) : w.grownBy (w'.setCell ⟨g, j, none⟩ v) (some g) :=
  h.trans ⟨rfl, rfl, rfl, by simp [World.setCell], fun k _ hk => heap_setCell_other w' _ k _ (fun e => hk (by rw [e]))⟩
theorem grown_drew {w w' : World} {r : Option Nat} (h : w.grownBy w' r) : w.grownBy w'.drew r := ⟨h.os, h.tape, h.output, by simpa using h.size, fun k a b => by rw [heap_drew]; exact h.block k a b⟩
theorem grown_setNew {w w' : World} {g b : Nat} (h : w.grownBy w' (some g)) (hb : w.heap.size ≤ b) (j : Nat) (v : Value) : w.grownBy (w'.setCell ⟨b, j, none⟩ v) (some g) :=
  ⟨h.os, h.tape, h.output, by simpa [World.setCell] using h.size, fun k hk hne => by rw [heap_setCell_other w' _ k _ (by show k ≠ b; omega)]; exact h.block k hk hne⟩
theorem cut_any (g : Nat) (t : TypeId) (L : List Int) (w : World) (h : Holds w g .u64 t L) (hl : 5 ≤ L.length) :
    Calls Tryz.prog 148 #[.pointer (some ⟨g, 0, none⟩)] w fun e w' => e = .returned (.int .u64 (L[4]?.getD 0 / 67108864)) ∧ Holds w' g .u64 t (L.set 4 (bits .and .u64 (L[4]?.getD 0) 67108863)) ∧ w.grownBy w' (some g) := by
  have c4 := h.cell 4 (by omega)
  have f4 := h.frozen 4
  obtain ⟨x, hx⟩ : ∃ x, L[4]?.getD 0 = x := ⟨_, rfl⟩
  rw [hx] at c4 ⊢
  clear hx
  go_enter Tryz.func148, Tryz.ntmps148
  go_upto_region 3 with fail
  refine wp_region_gate (fun w' => w'.cell? ⟨g, 4, none⟩ = some (.int .u64 x)) 8 (by kernel_rfl) ?_
  have hS : w.drew.cell? ⟨g, 4, none⟩ = some (.int .u64 x) := by simpa using c4
  have f4' : w.drew.frozen? ⟨g, 4, none⟩ = false := by simpa using f4
  refine wpAnyG_any (i := 0) (v := ?_) rfl (by kernel_rfl) (by kernel_rfl) (by kernel_rfl) (fun _ _ _ h => h) (by kernel_rfl) (fun _ => hS) (by kernel_rfl) ?_ ?_
  rotate_left
  · intro _; go_simp; try with_reducible rfl
  simp only [Act.put, sI, sZ, sS]
  refine wpAnyG_any (i := 1) (v := ?_) rfl (by kernel_rfl) (by kernel_rfl) (by kernel_rfl) (fun _ _ _ h => h) (by kernel_rfl) (fun _ => hS) (by kernel_rfl) ?_ ?_
  rotate_left
  · intro _; go_simp; try with_reducible rfl
  simp only [Act.put, sI, sZ, sS]
  refine wpAnyG_any (i := 2) (v := ?_) rfl (by kernel_rfl) (by kernel_rfl) (by kernel_rfl) (fun _ _ _ h => h) (by kernel_rfl) (fun _ => hS) (by kernel_rfl) ?_ ?_
  rotate_left
  · intro _; go_simp; try with_reducible rfl
  simp only [Act.put, sI, sZ, sS]
  refine wpAnyG_any (i := 3) (v := ?_) rfl (by kernel_rfl) (by kernel_rfl) (by kernel_rfl) (fun _ _ _ h => h) (by kernel_rfl) (fun _ => hS) (by kernel_rfl) ?_ ?_
  rotate_left
  · intro _; go_simp; try with_reducible rfl
  simp only [Act.put, sI, sZ, sS]
  refine wpAnyG_any (i := 6) (v := ?_) rfl (by kernel_rfl) (by kernel_rfl) (by kernel_rfl) (fun _ _ _ h => h) (by kernel_rfl) (fun _ => hS) (by kernel_rfl) ?_ ?_
  rotate_left
  · intro _; go_simp; try with_reducible rfl
  simp only [Act.put, sI, sZ, sS]
  refine wpAnyG_read (i := 4) (v := ?_) rfl (by kernel_rfl) (by kernel_rfl) (by kernel_rfl) (fun _ _ _ h => h) (by kernel_rfl) (by kernel_rfl) (by kernel_rfl) hS (by kernel_rfl) ?_ ?_
  rotate_left
  · intro wx hSw; go_split_ands; go_simp; try with_reducible rfl
  simp only [Act.put, sI, sZ, sS]
  refine wpAnyG_any (i := 5) (v := ?_) rfl (by kernel_rfl) (by kernel_rfl) (by kernel_rfl) (fun _ _ _ h => h) (by kernel_rfl) (fun _ => hS) (by kernel_rfl) ?_ ?_
  rotate_left
  · intro _; go_simp; try with_reducible rfl
  simp only [Act.put, sI, sZ, sS]
  refine wpAnyG_any (i := 7) (v := ?_) rfl (by kernel_rfl) (by kernel_rfl) (by kernel_rfl) (fun _ _ _ h => h) (by kernel_rfl) (fun _ => hS) (by kernel_rfl) ?_ ?_
  rotate_left
  · intro _; go_simp; try with_reducible rfl
  simp only [Act.put, sI, sZ, sS]
  refine wpAnyG_one (i := 8) rfl (by kernel_rfl) (by kernel_rfl) (fun K hK => ?_)
  go_simp
  refine hK.out _ _ (fun h => absurd (show true = false from h) (by decide)) ?_
  clear hK K
  refine wpAnyG_done (by kernel_rfl) ?_ _
  go_wp2
  go_ret
  exact ⟨rfl, (h.drew).set 4 _, grown_set (grown_drew (World.grownBy.refl w _)) 4 _⟩
def carryK (L : List Int) : Nat → List Int
  | 0 => L
  | i + 1 => ((carryK L i).set (i + 1) (((carryK L i)[i + 1]?.getD 0 + (carryK L i)[i]?.getD 0 / 67108864) % 18446744073709551616)).set i (bits .and .u64 ((carryK L i)[i]?.getD 0) 67108863)
theorem carryK_length (L : List Int) (i : Nat) : (carryK L i).length = L.length := by
  induction i with
  | zero => rfl
  | succ i ih => simp [carryK, ih]
set_option maxHeartbeats 1000000 in
theorem carry_any (g : Nat) (t : TypeId) (L : List Int) (w : World) (h : Holds w g .u64 t L) (hl : 5 ≤ L.length) :
    Calls Tryz.prog 145 #[.pointer (some ⟨g, 0, none⟩)] w fun e w' => (∃ r, e = .returned r) ∧ Holds w' g .u64 t (carryK L 4) ∧ w.grownBy w' (some g) := by
  go_enter Tryz.func145, Tryz.ntmps145
  go_wp2_with fail
  go_loopw [3] (fun i wr => ∃ k : Nat, k ≤ 4 ∧ i = .int .i64 k ∧ Holds wr g .u64 t (carryK L k) ∧ w.grownBy wr (some g)) (fun i _ => 4 - (intOf i).toNat)
  case atStart => exact ⟨0, by omega, rfl, h, World.grownBy.refl _ _⟩
  case round =>
    obtain ⟨k, hk, rfl, hH, hG⟩ := hrel
    by_cases hlt : k < 4
    · have hKl := carryK_length L k
      have HS : Veil (carryK L (k + 1) = ((carryK L k).set (k + 1) (((carryK L k)[k + 1]?.getD 0 + (carryK L k)[k]?.getD 0 / 67108864) % 18446744073709551616)).set k (bits .and .u64 ((carryK L k)[k]?.getD 0) 67108863)) := ⟨rfl⟩
      obtain ⟨M, hM⟩ : ∃ M, carryK L k = M := ⟨_, rfl⟩
      rw [hM] at hH hKl HS
      have c1 := hH.cell k (by omega)
      have c2 := hH.cell (k + 1) (by omega)
      have f1 := hH.frozen k
      have f2 := hH.frozen (k + 1)
      obtain ⟨x, hx⟩ : ∃ x, M[k]?.getD 0 = x := ⟨_, rfl⟩
      obtain ⟨y, hy⟩ : ∃ y, M[k + 1]?.getD 0 = y := ⟨_, rfl⟩
      rw [hx] at c1 HS
      rw [hy] at c2 HS
      have hk0 : (0 : Int) ≤ (k : Int) := by omega
      have hk1 : (k : Int) < 4 := by omega
      have hk2 : (k : Int) + 1 < 5 := by omega
      have hk5 : (k : Int) < 5 := by omega
      have hw : IntKind.i64.wrap ((k : Int) + 1) = (k : Int) + 1 := by rw [IntKind.wrap_i64]; omega
      have hk01 : (0 : Int) ≤ (k : Int) + 1 := by omega
      have htn : ((k : Int) + 1).toNat = k + 1 := by omega
      have HX : Veil (M[k]?.getD 0 = x) := ⟨hx⟩
      clear hM hx hy
      go_upto_region 3 with fail
      refine wp_region_gate (fun w' => w'.cell? ⟨g, k, none⟩ = some (.int .u64 x) ∧ w'.cell? ⟨g, k + 1, none⟩ = some (.int .u64 y)) 15 (by kernel_rfl) ?_
      have hH1 := hH.drew
      have hS : wr.drew.cell? ⟨g, k, none⟩ = some (.int .u64 x) ∧ wr.drew.cell? ⟨g, k + 1, none⟩ = some (.int .u64 y) := ⟨by simpa using c1, by simpa using c2⟩
      have f2' := hH1.frozen (k + 1)
      have c2' := hS.2
      refine wpAnyG_any (i := 0) (v := ?_) rfl (by kernel_rfl) (by kernel_rfl) (by kernel_rfl) (fun _ _ _ h => h) (by kernel_rfl) (fun _ => hS) (by kernel_rfl) ?_ ?_
      rotate_left
      · intro _; go_simp; try with_reducible rfl
      simp only [Act.put, sI, sZ, sS]
      refine wpAnyG_any (i := 1) (v := ?_) rfl (by kernel_rfl) (by kernel_rfl) (by kernel_rfl) (fun _ _ _ h => h) (by kernel_rfl) (fun _ => hS) (by kernel_rfl) ?_ ?_
      rotate_left
      · intro _; go_simp; try with_reducible rfl
      simp only [Act.put, sI, sZ, sS]
      refine wpAnyG_any (i := 2) (v := ?_) rfl (by kernel_rfl) (by kernel_rfl) (by kernel_rfl) (fun _ _ _ h => h) (by kernel_rfl) (fun _ => hS) (by kernel_rfl) ?_ ?_
      rotate_left
      · intro _; go_simp; try with_reducible rfl
      simp only [Act.put, sI, sZ, sS]
      refine wpAnyG_any (i := 3) (v := ?_) rfl (by kernel_rfl) (by kernel_rfl) (by kernel_rfl) (fun _ _ _ h => h) (by kernel_rfl) (fun _ => hS) (by kernel_rfl) ?_ ?_
      rotate_left
      · intro _; go_simp; try with_reducible rfl
      simp only [Act.put, sI, sZ, sS]
      refine wpAnyG_any (i := 4) (v := ?_) rfl (by kernel_rfl) (by kernel_rfl) (by kernel_rfl) (fun _ _ _ h => h) (by kernel_rfl) (fun _ => hS) (by kernel_rfl) ?_ ?_
      rotate_left
      · intro _; go_simp; try with_reducible rfl
      simp only [Act.put, sI, sZ, sS]
      refine wpAnyG_any (i := 6) (v := ?_) rfl (by kernel_rfl) (by kernel_rfl) (by kernel_rfl) (fun _ _ _ h => h) (by kernel_rfl) (fun _ => hS) (by kernel_rfl) ?_ ?_
      rotate_left
      · intro _; go_simp; try with_reducible rfl
      simp only [Act.put, sI, sZ, sS]
      refine wpAnyG_any (i := 7) (v := ?_) rfl (by kernel_rfl) (by kernel_rfl) (by kernel_rfl) (fun _ _ _ h => h) (by kernel_rfl) (fun _ => hS) (by kernel_rfl) ?_ ?_
      rotate_left
      · intro _; go_simp; try with_reducible rfl
      simp only [Act.put, sI, sZ, sS]
      refine wpAnyG_any (i := 8) (v := ?_) rfl (by kernel_rfl) (by kernel_rfl) (by kernel_rfl) (fun _ _ _ h => h) (by kernel_rfl) (fun _ => hS) (by kernel_rfl) ?_ ?_
      rotate_left
      · intro _; go_simp; try with_reducible rfl
      simp only [Act.put, sI, sZ, sS]
      refine wpAnyG_any (i := 9) (v := ?_) rfl (by kernel_rfl) (by kernel_rfl) (by kernel_rfl) (fun _ _ _ h => h) (by kernel_rfl) (fun _ => hS) (by kernel_rfl) ?_ ?_
      rotate_left
      · intro _; go_simp; try with_reducible rfl
      simp only [Act.put, sI, sZ, sS]
      refine wpAnyG_any (i := 13) (v := ?_) rfl (by kernel_rfl) (by kernel_rfl) (by kernel_rfl) (fun _ _ _ h => h) (by kernel_rfl) (fun _ => hS) (by kernel_rfl) ?_ ?_
      rotate_left
      · intro _; go_simp; try with_reducible rfl
      simp only [Act.put, sI, sZ, sS]
      refine wpAnyG_read (i := 5) (v := ?_) rfl (by kernel_rfl) (by kernel_rfl) (by kernel_rfl) (fun _ _ _ h => h) (by kernel_rfl) (by kernel_rfl) (by kernel_rfl) hS (by kernel_rfl) ?_ ?_
      rotate_left
      · intro wx hSw; go_split_ands; go_simp; try with_reducible rfl
      simp only [Act.put, sI, sZ, sS]
      refine wpAnyG_read (i := 10) (v := ?_) rfl (by kernel_rfl) (by kernel_rfl) (by kernel_rfl) (fun _ _ _ h => h) (by kernel_rfl) (by kernel_rfl) (by kernel_rfl) hS (by kernel_rfl) ?_ ?_
      rotate_left
      · intro wx hSw; go_split_ands; go_simp; try with_reducible rfl
      simp only [Act.put, sI, sZ, sS]
      refine wpAnyG_any (i := 11) (v := ?_) rfl (by kernel_rfl) (by kernel_rfl) (by kernel_rfl) (fun _ _ _ h => h) (by kernel_rfl) (fun _ => hS) (by kernel_rfl) ?_ ?_
      rotate_left
      · intro _; go_simp; try with_reducible rfl
      simp only [Act.put, sI, sZ, sS]
      refine wpAnyG_any (i := 12) (v := ?_) rfl (by kernel_rfl) (by kernel_rfl) (by kernel_rfl) (fun _ _ _ h => h) (by kernel_rfl) (fun _ => hS) (by kernel_rfl) ?_ ?_
      rotate_left
      · intro _; go_simp; try with_reducible rfl
      simp only [Act.put, sI, sZ, sS]
      refine wpAnyG_any (i := 14) (v := ?_) rfl (by kernel_rfl) (by kernel_rfl) (by kernel_rfl) (fun _ _ _ h => h) (by kernel_rfl) (fun _ => hS) (by kernel_rfl) ?_ ?_
      rotate_left
      · intro _; go_simp; try with_reducible rfl
      simp only [Act.put, sI, sZ, sS]
      refine wpAnyG_one (i := 15) rfl (by kernel_rfl) (by kernel_rfl) (fun K hK => ?_)
      go_simp
      refine hK.out _ _ (fun h => absurd (show true = false from h) (by decide)) ?_
      clear hK K
      refine wpAnyG_done (by kernel_rfl) ?_ _
      go_upto_region 4 with fail
      refine forget (p := fun y => Code.wp _ _ _ _ y) (fun W1 => Holds W1 g .u64 t (M.set (k + 1) ((y + x / 67108864) % 18446744073709551616)) ∧ w.grownBy W1 (some g)) ⟨hH1.set (k + 1) _, grown_set (grown_drew hG) _ _⟩ ?_
      clear hS f2' c2' hH1 c1 c2 f1 f2 hH hG
      rintro W1 ⟨hH, hG⟩
      obtain ⟨M1, hM1⟩ : ∃ q, M.set (k + 1) ((y + x / 67108864) % 18446744073709551616) = q := ⟨_, rfl⟩
      have hx1 : M1[k]?.getD 0 = x := by rw [← hM1, List.getElem?_set_ne (by omega)]; exact HX.out
      have hM1l : M1.length = L.length := by rw [← hM1, List.length_set]; exact hKl
      rw [hM1] at hH HS
      clear hM1
      have hH1 := hH.drew
      have c1 := hH1.cell k (by omega)
      have f1 := hH1.frozen k
      rw [hx1] at c1
      refine wp_region_gate (fun w' => w'.cell? ⟨g, k, none⟩ = some (.int .u64 x)) 8 (by kernel_rfl) ?_
      have hS : W1.drew.cell? ⟨g, k, none⟩ = some (.int .u64 x) := c1
      refine wpAnyG_any (i := 0) (v := ?_) rfl (by kernel_rfl) (by kernel_rfl) (by kernel_rfl) (fun _ _ _ h => h) (by kernel_rfl) (fun _ => hS) (by kernel_rfl) ?_ ?_
      rotate_left
      · intro _; go_simp; try with_reducible rfl
      simp only [Act.put, sI, sZ, sS]
      refine wpAnyG_any (i := 1) (v := ?_) rfl (by kernel_rfl) (by kernel_rfl) (by kernel_rfl) (fun _ _ _ h => h) (by kernel_rfl) (fun _ => hS) (by kernel_rfl) ?_ ?_
      rotate_left
      · intro _; go_simp; try with_reducible rfl
      simp only [Act.put, sI, sZ, sS]
      refine wpAnyG_any (i := 2) (v := ?_) rfl (by kernel_rfl) (by kernel_rfl) (by kernel_rfl) (fun _ _ _ h => h) (by kernel_rfl) (fun _ => hS) (by kernel_rfl) ?_ ?_
      rotate_left
      · intro _; go_simp; try with_reducible rfl
      simp only [Act.put, sI, sZ, sS]
      refine wpAnyG_any (i := 3) (v := ?_) rfl (by kernel_rfl) (by kernel_rfl) (by kernel_rfl) (fun _ _ _ h => h) (by kernel_rfl) (fun _ => hS) (by kernel_rfl) ?_ ?_
      rotate_left
      · intro _; go_simp; try with_reducible rfl
      simp only [Act.put, sI, sZ, sS]
      refine wpAnyG_any (i := 6) (v := ?_) rfl (by kernel_rfl) (by kernel_rfl) (by kernel_rfl) (fun _ _ _ h => h) (by kernel_rfl) (fun _ => hS) (by kernel_rfl) ?_ ?_
      rotate_left
      · intro _; go_simp; try with_reducible rfl
      simp only [Act.put, sI, sZ, sS]
      refine wpAnyG_read (i := 4) (v := ?_) rfl (by kernel_rfl) (by kernel_rfl) (by kernel_rfl) (fun _ _ _ h => h) (by kernel_rfl) (by kernel_rfl) (by kernel_rfl) hS (by kernel_rfl) ?_ ?_
      rotate_left
      · intro wx hSw; go_split_ands; go_simp; try with_reducible rfl
      simp only [Act.put, sI, sZ, sS]
      refine wpAnyG_any (i := 5) (v := ?_) rfl (by kernel_rfl) (by kernel_rfl) (by kernel_rfl) (fun _ _ _ h => h) (by kernel_rfl) (fun _ => hS) (by kernel_rfl) ?_ ?_
      rotate_left
      · intro _; go_simp; try with_reducible rfl
      simp only [Act.put, sI, sZ, sS]
      refine wpAnyG_any (i := 7) (v := ?_) rfl (by kernel_rfl) (by kernel_rfl) (by kernel_rfl) (fun _ _ _ h => h) (by kernel_rfl) (fun _ => hS) (by kernel_rfl) ?_ ?_
      rotate_left
      · intro _; go_simp; try with_reducible rfl
      simp only [Act.put, sI, sZ, sS]
      refine wpAnyG_one (i := 8) rfl (by kernel_rfl) (by kernel_rfl) (fun K hK => ?_)
      go_simp
      refine hK.out _ _ (fun h => absurd (show true = false from h) (by decide)) ?_
      clear hK K
      refine wpAnyG_done (by kernel_rfl) ?_ _
      go_wp2
      go_roundw
      case rel => exact ⟨k + 1, by omega, by go_num, by rw [HS.out]; exact hH1.set k _, grown_set (grown_drew hG) _ _⟩
      case measure => simp [intOf]; omega
    · obtain rfl : k = 4 := by omega
      go_wp2
      go_end0
      exact ⟨⟨_, rfl⟩, hH, hG⟩
def foldL (L : List Int) : List Int :=
  let C := (carryK L 4).set 4 (bits .and .u64 ((carryK L 4)[4]?.getD 0) 67108863)
  let C2 := C.set 0 ((C[0]?.getD 0 + 5 * ((carryK L 4)[4]?.getD 0 / 67108864) % 18446744073709551616) % 18446744073709551616)
  let C3 := C2.set 1 ((C2[1]?.getD 0 + C2[0]?.getD 0 / 67108864) % 18446744073709551616)
  C3.set 0 (bits .and .u64 (C3[0]?.getD 0) 67108863)
set_option maxHeartbeats 1000000 in
theorem fold_any (g : Nat) (t : TypeId) (L : List Int) (w : World) (h : Holds w g .u64 t L) (hl : 5 ≤ L.length) :
    Calls Tryz.prog 147 #[.pointer (some ⟨g, 0, none⟩)] w fun e w' => (∃ r, e = .returned r) ∧ Holds w' g .u64 t (foldL L) ∧ w.grownBy w' (some g) := by
  have hca := carry_any g t L w h hl
  have hcl := carryK_length L 4
  have hF : ∃ F, foldL L = F := ⟨_, rfl⟩
  obtain ⟨F, hF⟩ := hF
  have HF : Veil (foldL L = F) := ⟨hF⟩
  rw [hF]
  unfold foldL at hF
  obtain ⟨C0, hC0⟩ : ∃ q, carryK L 4 = q := ⟨_, rfl⟩
  rw [hC0] at hca hcl hF
  have hcu := fun wx (hx : Holds wx g .u64 t C0) => cut_any g t C0 wx hx (by omega)
  obtain ⟨ov, hov⟩ : ∃ q, C0[4]?.getD 0 / 67108864 = q := ⟨_, rfl⟩
  rw [hov] at hcu hF
  obtain ⟨C, hC⟩ : ∃ q, C0.set 4 (bits .and .u64 (C0[4]?.getD 0) 67108863) = q := ⟨_, rfl⟩
  have hCl : C.length = L.length := by rw [← hC, List.length_set, hcl]
  rw [hC] at hcu hF
  dsimp only at hF
  obtain ⟨x0, hx0⟩ : ∃ q, C[0]?.getD 0 = q := ⟨_, rfl⟩
  rw [hx0] at hF
  obtain ⟨C2, hC2⟩ : ∃ q, C.set 0 ((x0 + 5 * ov % 18446744073709551616) % 18446744073709551616) = q := ⟨_, rfl⟩
  have hC2l : C2.length = L.length := by rw [← hC2, List.length_set, hCl]
  rw [hC2] at hF
  obtain ⟨y0, hy0⟩ : ∃ q, C2[0]?.getD 0 = q := ⟨_, rfl⟩
  obtain ⟨y1, hy1⟩ : ∃ q, C2[1]?.getD 0 = q := ⟨_, rfl⟩
  rw [hy0, hy1] at hF
  obtain ⟨C3, hC3⟩ : ∃ q, C2.set 1 ((y1 + y0 / 67108864) % 18446744073709551616) = q := ⟨_, rfl⟩
  have hC3l : C3.length = L.length := by rw [← hC3, List.length_set, hC2l]
  rw [hC3] at hF
  obtain ⟨z0, hz0⟩ : ∃ q, C3[0]?.getD 0 = q := ⟨_, rfl⟩
  rw [hz0] at hF
  have HF1 : Veil (C3.set 0 (bits .and .u64 z0 67108863) = F) := ⟨hF⟩
  have HC2 : Veil (C.set 0 ((x0 + 5 * ov % 18446744073709551616) % 18446744073709551616) = C2) := ⟨hC2⟩
  have HC3 : Veil (C2.set 1 ((y1 + y0 / 67108864) % 18446744073709551616) = C3) := ⟨hC3⟩
  clear hF hC2 hC3 hC hC0 hov
  go_enter Tryz.func147, Tryz.ntmps147
  go_upto_region 2 with (first
    | (go_at_call 145; refine hca.mono ?_; rintro e w1 ⟨⟨r, rfl⟩, h1, g1⟩)
    | (go_at_call 148; refine (hcu _ h1).mono ?_; rintro e w2 ⟨rfl, h2, g2⟩))
  have g12 := g1.trans g2
  clear hca hcu g1 g2 h1
  have h3 := h2.drew
  have c1 := h3.cell 0 (by omega)
  have f1 := h3.frozen 0
  rw [hx0] at c1
  refine wp_region_gate (fun w' => w'.cell? ⟨g, 0, none⟩ = some (.int .u64 x0)) 9 (by kernel_rfl) ?_
  have hS : w2.drew.cell? ⟨g, 0, none⟩ = some (.int .u64 x0) := c1
  refine wpAnyG_any (i := 0) (v := ?_) rfl (by kernel_rfl) (by kernel_rfl) (by kernel_rfl) (fun _ _ _ h => h) (by kernel_rfl) (fun _ => hS) (by kernel_rfl) ?_ ?_
  rotate_left
  · intro _; go_simp; try with_reducible rfl
  simp only [Act.put, sI, sZ, sS]
  refine wpAnyG_any (i := 1) (v := ?_) rfl (by kernel_rfl) (by kernel_rfl) (by kernel_rfl) (fun _ _ _ h => h) (by kernel_rfl) (fun _ => hS) (by kernel_rfl) ?_ ?_
  rotate_left
  · intro _; go_simp; try with_reducible rfl
  simp only [Act.put, sI, sZ, sS]
  refine wpAnyG_any (i := 2) (v := ?_) rfl (by kernel_rfl) (by kernel_rfl) (by kernel_rfl) (fun _ _ _ h => h) (by kernel_rfl) (fun _ => hS) (by kernel_rfl) ?_ ?_
  rotate_left
  · intro _; go_simp; try with_reducible rfl
  simp only [Act.put, sI, sZ, sS]
  refine wpAnyG_any (i := 4) (v := ?_) rfl (by kernel_rfl) (by kernel_rfl) (by kernel_rfl) (fun _ _ _ h => h) (by kernel_rfl) (fun _ => hS) (by kernel_rfl) ?_ ?_
  rotate_left
  · intro _; go_simp; try with_reducible rfl
  simp only [Act.put, sI, sZ, sS]
  refine wpAnyG_any (i := 5) (v := ?_) rfl (by kernel_rfl) (by kernel_rfl) (by kernel_rfl) (fun _ _ _ h => h) (by kernel_rfl) (fun _ => hS) (by kernel_rfl) ?_ ?_
  rotate_left
  · intro _; go_simp; try with_reducible rfl
  simp only [Act.put, sI, sZ, sS]
  refine wpAnyG_any (i := 7) (v := ?_) rfl (by kernel_rfl) (by kernel_rfl) (by kernel_rfl) (fun _ _ _ h => h) (by kernel_rfl) (fun _ => hS) (by kernel_rfl) ?_ ?_
  rotate_left
  · intro _; go_simp; try with_reducible rfl
  simp only [Act.put, sI, sZ, sS]
  refine wpAnyG_read (i := 3) (v := ?_) rfl (by kernel_rfl) (by kernel_rfl) (by kernel_rfl) (fun _ _ _ h => h) (by kernel_rfl) (by kernel_rfl) (by kernel_rfl) hS (by kernel_rfl) ?_ ?_
  rotate_left
  · intro wx hSw; go_split_ands; go_simp; try with_reducible rfl
  simp only [Act.put, sI, sZ, sS]
  refine wpAnyG_any (i := 6) (v := ?_) rfl (by kernel_rfl) (by kernel_rfl) (by kernel_rfl) (fun _ _ _ h => h) (by kernel_rfl) (fun _ => hS) (by kernel_rfl) ?_ ?_
  rotate_left
  · intro _; go_simp; try with_reducible rfl
  simp only [Act.put, sI, sZ, sS]
  refine wpAnyG_any (i := 8) (v := ?_) rfl (by kernel_rfl) (by kernel_rfl) (by kernel_rfl) (fun _ _ _ h => h) (by kernel_rfl) (fun _ => hS) (by kernel_rfl) ?_ ?_
  rotate_left
  · intro _; go_simp; try with_reducible rfl
  simp only [Act.put, sI, sZ, sS]
  refine wpAnyG_one (i := 9) rfl (by kernel_rfl) (by kernel_rfl) (fun K hK => ?_)
  go_simp
  refine hK.out _ _ (fun h => absurd (show true = false from h) (by decide)) ?_
  clear hK K
  refine wpAnyG_done (by kernel_rfl) ?_ _
  go_upto_region 3 with fail
  refine forget (p := fun y => Code.wp _ _ _ _ y) (fun W1 => Holds W1 g .u64 t C2 ∧ w.grownBy W1 (some g)) ⟨by rw [← HC2.out]; exact h3.set 0 _, grown_set (grown_drew g12) _ _⟩ ?_
  clear hS c1 f1 h3 h2 g12
  rintro W1 ⟨h2, g2⟩
  have h3 := h2.drew
  have c1 := h3.cell 0 (by omega)
  have c2 := h3.cell 1 (by omega)
  have f2 := h3.frozen 1
  rw [hy0] at c1
  rw [hy1] at c2
  refine wp_region_gate (fun w' => w'.cell? ⟨g, 0, none⟩ = some (.int .u64 y0) ∧ w'.cell? ⟨g, 1, none⟩ = some (.int .u64 y1)) 12 (by kernel_rfl) ?_
  have hS := And.intro c1 c2
  refine wpAnyG_any (i := 0) (v := ?_) rfl (by kernel_rfl) (by kernel_rfl) (by kernel_rfl) (fun _ _ _ h => h) (by kernel_rfl) (fun _ => hS) (by kernel_rfl) ?_ ?_
  rotate_left
  · intro _; go_simp; try with_reducible rfl
  simp only [Act.put, sI, sZ, sS]
  refine wpAnyG_any (i := 1) (v := ?_) rfl (by kernel_rfl) (by kernel_rfl) (by kernel_rfl) (fun _ _ _ h => h) (by kernel_rfl) (fun _ => hS) (by kernel_rfl) ?_ ?_
  rotate_left
  · intro _; go_simp; try with_reducible rfl
  simp only [Act.put, sI, sZ, sS]
  refine wpAnyG_any (i := 2) (v := ?_) rfl (by kernel_rfl) (by kernel_rfl) (by kernel_rfl) (fun _ _ _ h => h) (by kernel_rfl) (fun _ => hS) (by kernel_rfl) ?_ ?_
  rotate_left
  · intro _; go_simp; try with_reducible rfl
  simp only [Act.put, sI, sZ, sS]
  refine wpAnyG_any (i := 4) (v := ?_) rfl (by kernel_rfl) (by kernel_rfl) (by kernel_rfl) (fun _ _ _ h => h) (by kernel_rfl) (fun _ => hS) (by kernel_rfl) ?_ ?_
  rotate_left
  · intro _; go_simp; try with_reducible rfl
  simp only [Act.put, sI, sZ, sS]
  refine wpAnyG_any (i := 5) (v := ?_) rfl (by kernel_rfl) (by kernel_rfl) (by kernel_rfl) (fun _ _ _ h => h) (by kernel_rfl) (fun _ => hS) (by kernel_rfl) ?_ ?_
  rotate_left
  · intro _; go_simp; try with_reducible rfl
  simp only [Act.put, sI, sZ, sS]
  refine wpAnyG_any (i := 6) (v := ?_) rfl (by kernel_rfl) (by kernel_rfl) (by kernel_rfl) (fun _ _ _ h => h) (by kernel_rfl) (fun _ => hS) (by kernel_rfl) ?_ ?_
  rotate_left
  · intro _; go_simp; try with_reducible rfl
  simp only [Act.put, sI, sZ, sS]
  refine wpAnyG_any (i := 10) (v := ?_) rfl (by kernel_rfl) (by kernel_rfl) (by kernel_rfl) (fun _ _ _ h => h) (by kernel_rfl) (fun _ => hS) (by kernel_rfl) ?_ ?_
  rotate_left
  · intro _; go_simp; try with_reducible rfl
  simp only [Act.put, sI, sZ, sS]
  refine wpAnyG_read (i := 3) (v := ?_) rfl (by kernel_rfl) (by kernel_rfl) (by kernel_rfl) (fun _ _ _ h => h) (by kernel_rfl) (by kernel_rfl) (by kernel_rfl) hS (by kernel_rfl) ?_ ?_
  rotate_left
  · intro wx hSw; go_split_ands; go_simp; try with_reducible rfl
  simp only [Act.put, sI, sZ, sS]
  refine wpAnyG_read (i := 7) (v := ?_) rfl (by kernel_rfl) (by kernel_rfl) (by kernel_rfl) (fun _ _ _ h => h) (by kernel_rfl) (by kernel_rfl) (by kernel_rfl) hS (by kernel_rfl) ?_ ?_
  rotate_left
  · intro wx hSw; go_split_ands; go_simp; try with_reducible rfl
  simp only [Act.put, sI, sZ, sS]
  refine wpAnyG_any (i := 8) (v := ?_) rfl (by kernel_rfl) (by kernel_rfl) (by kernel_rfl) (fun _ _ _ h => h) (by kernel_rfl) (fun _ => hS) (by kernel_rfl) ?_ ?_
  rotate_left
  · intro _; go_simp; try with_reducible rfl
  simp only [Act.put, sI, sZ, sS]
  refine wpAnyG_any (i := 9) (v := ?_) rfl (by kernel_rfl) (by kernel_rfl) (by kernel_rfl) (fun _ _ _ h => h) (by kernel_rfl) (fun _ => hS) (by kernel_rfl) ?_ ?_
  rotate_left
  · intro _; go_simp; try with_reducible rfl
  simp only [Act.put, sI, sZ, sS]
  refine wpAnyG_any (i := 11) (v := ?_) rfl (by kernel_rfl) (by kernel_rfl) (by kernel_rfl) (fun _ _ _ h => h) (by kernel_rfl) (fun _ => hS) (by kernel_rfl) ?_ ?_
  rotate_left
  · intro _; go_simp; try with_reducible rfl
  simp only [Act.put, sI, sZ, sS]
  refine wpAnyG_one (i := 12) rfl (by kernel_rfl) (by kernel_rfl) (fun K hK => ?_)
  go_simp
  refine hK.out _ _ (fun h => absurd (show true = false from h) (by decide)) ?_
  clear hK K
  refine wpAnyG_done (by kernel_rfl) ?_ _
  go_upto_region 4 with fail
  refine forget (p := fun y => Code.wp _ _ _ _ y) (fun W1 => Holds W1 g .u64 t C3 ∧ w.grownBy W1 (some g)) ⟨by rw [← HC3.out]; exact h3.set 1 _, grown_set (grown_drew g2) _ _⟩ ?_
  clear hS c1 c2 f2 h3 h2 g2
  rintro W2 ⟨h2, g2⟩
  have h3 := h2.drew
  have c1 := h3.cell 0 (by omega)
  have f1 := h3.frozen 0
  rw [hz0] at c1
  refine wp_region_gate (fun w' => w'.cell? ⟨g, 0, none⟩ = some (.int .u64 z0)) 7 (by kernel_rfl) ?_
  have hS : W2.drew.cell? ⟨g, 0, none⟩ = some (.int .u64 z0) := c1
  refine wpAnyG_any (i := 0) (v := ?_) rfl (by kernel_rfl) (by kernel_rfl) (by kernel_rfl) (fun _ _ _ h => h) (by kernel_rfl) (fun _ => hS) (by kernel_rfl) ?_ ?_
  rotate_left
  · intro _; go_simp; try with_reducible rfl
  simp only [Act.put, sI, sZ, sS]
  refine wpAnyG_any (i := 1) (v := ?_) rfl (by kernel_rfl) (by kernel_rfl) (by kernel_rfl) (fun _ _ _ h => h) (by kernel_rfl) (fun _ => hS) (by kernel_rfl) ?_ ?_
  rotate_left
  · intro _; go_simp; try with_reducible rfl
  simp only [Act.put, sI, sZ, sS]
  refine wpAnyG_any (i := 2) (v := ?_) rfl (by kernel_rfl) (by kernel_rfl) (by kernel_rfl) (fun _ _ _ h => h) (by kernel_rfl) (fun _ => hS) (by kernel_rfl) ?_ ?_
  rotate_left
  · intro _; go_simp; try with_reducible rfl
  simp only [Act.put, sI, sZ, sS]
  refine wpAnyG_any (i := 5) (v := ?_) rfl (by kernel_rfl) (by kernel_rfl) (by kernel_rfl) (fun _ _ _ h => h) (by kernel_rfl) (fun _ => hS) (by kernel_rfl) ?_ ?_
  rotate_left
  · intro _; go_simp; try with_reducible rfl
  simp only [Act.put, sI, sZ, sS]
  refine wpAnyG_read (i := 3) (v := ?_) rfl (by kernel_rfl) (by kernel_rfl) (by kernel_rfl) (fun _ _ _ h => h) (by kernel_rfl) (by kernel_rfl) (by kernel_rfl) hS (by kernel_rfl) ?_ ?_
  rotate_left
  · intro wx hSw; go_split_ands; go_simp; try with_reducible rfl
  simp only [Act.put, sI, sZ, sS]
  refine wpAnyG_any (i := 4) (v := ?_) rfl (by kernel_rfl) (by kernel_rfl) (by kernel_rfl) (fun _ _ _ h => h) (by kernel_rfl) (fun _ => hS) (by kernel_rfl) ?_ ?_
  rotate_left
  · intro _; go_simp; try with_reducible rfl
  simp only [Act.put, sI, sZ, sS]
  refine wpAnyG_any (i := 6) (v := ?_) rfl (by kernel_rfl) (by kernel_rfl) (by kernel_rfl) (fun _ _ _ h => h) (by kernel_rfl) (fun _ => hS) (by kernel_rfl) ?_ ?_
  rotate_left
  · intro _; go_simp; try with_reducible rfl
  simp only [Act.put, sI, sZ, sS]
  refine wpAnyG_one (i := 7) rfl (by kernel_rfl) (by kernel_rfl) (fun K hK => ?_)
  go_simp
  refine hK.out _ _ (fun h => absurd (show true = false from h) (by decide)) ?_
  clear hK K
  refine wpAnyG_done (by kernel_rfl) ?_ _
  go_wp2
  go_end0
  exact ⟨⟨_, rfl⟩, by rw [← HF1.out]; exact h3.set 0 _, grown_set (grown_drew g2) _ _⟩
def addK (L m : List Int) : Nat → List Int
  | 0 => L
  | i + 1 => (addK L m i).set i (((addK L m i)[i]?.getD 0 + m[i]?.getD 0) % 18446744073709551616)
theorem addK_length (L m : List Int) (i : Nat) : (addK L m i).length = L.length := by
  induction i with
  | zero => rfl
  | succ i ih => simp [addK, ih]
set_option maxHeartbeats 1000000 in
theorem add_any (g : Nat) (t : TypeId) (L m : List Int) (w : World) (h : Holds w g .u64 t L) (hl : 5 ≤ L.length) (hm : m.length = 5) :
    Calls Tryz.prog 142 #[.pointer (some ⟨g, 0, none⟩), .agg (row .u64 m)] w fun e w' => (∃ r, e = .returned r) ∧ Holds w' g .u64 t (addK L m 5) ∧ w.grownBy w' (some g) := by
  have hgl := h.lt
  go_enter Tryz.func142, Tryz.ntmps142
  go_wp2_with fail
  go_loopw [5] (fun i wr => ∃ k : Nat, k ≤ 5 ∧ i = .int .i64 k ∧ Holds wr g .u64 t (addK L m k) ∧ Holds wr w.heap.size .u64 209 m ∧ w.grownBy wr (some g)) (fun i _ => 5 - (intOf i).toNat)
  case atStart => exact ⟨0, by omega, rfl, h.alloc _, Holds.new w .u64 209 m, World.grownBy_alloc _ _ _⟩
  case round =>
    obtain ⟨k, hk, rfl, hH, hM, hG⟩ := hrel
    by_cases hlt : k < 5
    · have hKl := addK_length L m k
      have HS : Veil (addK L m (k + 1) = (addK L m k).set k (((addK L m k)[k]?.getD 0 + m[k]?.getD 0) % 18446744073709551616)) := ⟨rfl⟩
      obtain ⟨A, hA⟩ : ∃ M, addK L m k = M := ⟨_, rfl⟩
      rw [hA] at hH hKl HS
      have hH1 := hH.drew
      have hM1 := hM.drew
      have c1 := hH1.cell k (by omega)
      have c2 := hM1.cell k (by omega)
      have f1 := hH1.frozen k
      obtain ⟨x, hx⟩ : ∃ x, A[k]?.getD 0 = x := ⟨_, rfl⟩
      obtain ⟨y, hy⟩ : ∃ y, m[k]?.getD 0 = y := ⟨_, rfl⟩
      rw [hx] at c1 HS
      rw [hy] at c2 HS
      have hk0 : (0 : Int) ≤ (k : Int) := by omega
      have hk5 : (k : Int) < 5 := by omega
      clear hA hx hy
      go_upto_region 4 with fail
      refine wp_region_gate (fun w' => w'.cell? ⟨g, k, none⟩ = some (.int .u64 x) ∧ w'.cell? ⟨w.heap.size, k, none⟩ = some (.int .u64 y)) 11 (by kernel_rfl) ?_
      have hS := And.intro c1 c2
      refine wpAnyG_any (i := 0) (v := ?_) rfl (by kernel_rfl) (by kernel_rfl) (by kernel_rfl) (fun _ _ _ h => h) (by kernel_rfl) (fun _ => hS) (by kernel_rfl) ?_ ?_
      rotate_left
      · intro _; go_simp; try with_reducible rfl
      simp only [Act.put, sI, sZ, sS]
      refine wpAnyG_any (i := 1) (v := ?_) rfl (by kernel_rfl) (by kernel_rfl) (by kernel_rfl) (fun _ _ _ h => h) (by kernel_rfl) (fun _ => hS) (by kernel_rfl) ?_ ?_
      rotate_left
      · intro _; go_simp; try with_reducible rfl
      simp only [Act.put, sI, sZ, sS]
      refine wpAnyG_any (i := 2) (v := ?_) rfl (by kernel_rfl) (by kernel_rfl) (by kernel_rfl) (fun _ _ _ h => h) (by kernel_rfl) (fun _ => hS) (by kernel_rfl) ?_ ?_
      rotate_left
      · intro _; go_simp; try with_reducible rfl
      simp only [Act.put, sI, sZ, sS]
      refine wpAnyG_any (i := 3) (v := ?_) rfl (by kernel_rfl) (by kernel_rfl) (by kernel_rfl) (fun _ _ _ h => h) (by kernel_rfl) (fun _ => hS) (by kernel_rfl) ?_ ?_
      rotate_left
      · intro _; go_simp; try with_reducible rfl
      simp only [Act.put, sI, sZ, sS]
      refine wpAnyG_any (i := 5) (v := ?_) rfl (by kernel_rfl) (by kernel_rfl) (by kernel_rfl) (fun _ _ _ h => h) (by kernel_rfl) (fun _ => hS) (by kernel_rfl) ?_ ?_
      rotate_left
      · intro _; go_simp; try with_reducible rfl
      simp only [Act.put, sI, sZ, sS]
      refine wpAnyG_any (i := 6) (v := ?_) rfl (by kernel_rfl) (by kernel_rfl) (by kernel_rfl) (fun _ _ _ h => h) (by kernel_rfl) (fun _ => hS) (by kernel_rfl) ?_ ?_
      rotate_left
      · intro _; go_simp; try with_reducible rfl
      simp only [Act.put, sI, sZ, sS]
      refine wpAnyG_any (i := 9) (v := ?_) rfl (by kernel_rfl) (by kernel_rfl) (by kernel_rfl) (fun _ _ _ h => h) (by kernel_rfl) (fun _ => hS) (by kernel_rfl) ?_ ?_
      rotate_left
      · intro _; go_simp; try with_reducible rfl
      simp only [Act.put, sI, sZ, sS]
      refine wpAnyG_read (i := 4) (v := ?_) rfl (by kernel_rfl) (by kernel_rfl) (by kernel_rfl) (fun _ _ _ h => h) (by kernel_rfl) (by kernel_rfl) (by kernel_rfl) hS (by kernel_rfl) ?_ ?_
      rotate_left
      · intro wx hSw; go_split_ands; go_simp; try with_reducible rfl
      simp only [Act.put, sI, sZ, sS]
      refine wpAnyG_read (i := 7) (v := ?_) rfl (by kernel_rfl) (by kernel_rfl) (by kernel_rfl) (fun _ _ _ h => h) (by kernel_rfl) (by kernel_rfl) (by kernel_rfl) hS (by kernel_rfl) ?_ ?_
      rotate_left
      · intro wx hSw; go_split_ands; go_simp; try with_reducible rfl
      simp only [Act.put, sI, sZ, sS]
      refine wpAnyG_any (i := 8) (v := ?_) rfl (by kernel_rfl) (by kernel_rfl) (by kernel_rfl) (fun _ _ _ h => h) (by kernel_rfl) (fun _ => hS) (by kernel_rfl) ?_ ?_
      rotate_left
      · intro _; go_simp; try with_reducible rfl
      simp only [Act.put, sI, sZ, sS]
      refine wpAnyG_any (i := 10) (v := ?_) rfl (by kernel_rfl) (by kernel_rfl) (by kernel_rfl) (fun _ _ _ h => h) (by kernel_rfl) (fun _ => hS) (by kernel_rfl) ?_ ?_
      rotate_left
      · intro _; go_simp; try with_reducible rfl
      simp only [Act.put, sI, sZ, sS]
      refine wpAnyG_one (i := 11) rfl (by kernel_rfl) (by kernel_rfl) (fun K hK => ?_)
      go_simp
      refine hK.out _ _ (fun h => absurd (show true = false from h) (by decide)) ?_
      clear hK K
      refine wpAnyG_done (by kernel_rfl) ?_ _
      go_wp2
      go_roundw
      case rel => exact ⟨k + 1, by omega, by go_num, by rw [HS.out]; exact hH1.set k _, hM1.setOther _ _ (by simp; omega), grown_set (grown_drew hG) _ _⟩
      case measure => simp [intOf]; omega
    · obtain rfl : k = 5 := by omega
      go_wp2
      go_end0
      exact ⟨⟨_, rfl⟩, hH, hG⟩
end Go.Proofs.YtlhajphjppjlgaaGreatDoor
