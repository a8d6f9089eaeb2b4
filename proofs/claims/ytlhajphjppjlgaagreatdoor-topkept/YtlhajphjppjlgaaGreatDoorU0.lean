/- Dk0 Dr0 Dr1 Dk1 Dk2 Dk3 Dk4 Dk5 Dk6 Dk7 Dk8 Dp Dq Dq2 Rk Rw Rx Ry Wl Wf Rfr Rgf Ff Hkp TopKeptW -/
import Derived.Test.YtlhajphjppjlgaaGreatDoorT01
import Derived.Test.YtlhajphjppjlgaaGreatDoorProg
import Derived.Laws.Entries
import Derived.WalkKit
import Derived.WalkSpells
import Derived.WalkLawsBesides
import Derived.Deep.QuietTactic
import Derived.BigQuiet
import Derived.Laws.Rows
import Derived.Laws.CopyRow
import Derived.Laws.CopyOwn
import Derived.Deep.WholeRow
import Derived.ChangeKeysEq
import Derived.Deep.RegionHeld3
import Derived.Deep.DeepCutAuto
import Derived.Test.YtlhajphjppjlgaaGreatDoorT02
import Derived.Test.YtlhajphjppjlgaaGreatDoorT03
import Derived.Test.YtlhajphjppjlgaaGreatDoorT04
import Derived.Test.YtlhajphjppjlgaaGreatDoorT05
import Derived.Test.YtlhajphjppjlgaaGreatDoorT24
import Derived.Test.YtlhajphjppjlgaaGreatDoorT21
import Derived.Laws.BitsLemmas
import Derived.Laws.Closers25b
import Derived.Test.YtlhajphjppjlgaaGreatDoorT26
import Derived.Great.BuildSlice
import Derived.Test.YtlhajphjppjlgaaGreatDoorT29
import Derived.Test.YtlhajphjppjlgaaGreatDoorT30
import Derived.Test.YtlhajphjppjlgaaGreatDoorV32
import Derived.Test.YtlhajphjppjlgaaGreatDoorV34
import Derived.Test.YtlhajphjppjlgaaGreatDoorV33
import Derived.Test.YtlhajphjppjlgaaGreatDoorV37
import Derived.Test.YtlhajphjppjlgaaGreatDoorV38
import Derived.Laws.StructEq
import Derived.Test.YtlhajphjppjlgaaGreatDoorV39
import Derived.Test.YtlhajphjppjlgaaGreatDoorT08
import Derived.OrdersIn
import Derived.TacticsIn
import Derived.OwnWalkIn
import Derived.RangeFuncCalls
import Derived.ArgAppend
import Derived.Laws.OwnMore
import Derived.RangeFuncFrom
import Derived.RangeFuncLeaves
import Derived.RangeFuncNested
import Derived.RangeFuncBound
import Derived.Shelf.Abstract
import Derived.Shelf.RegionOpen
import Derived.TacticsInMore
import Derived.LoopNIn
import Derived.LoopIn
import Derived.RangeFuncBox
import Derived.Laws.Cover3
import Derived.Laws.MakeOwn
import Derived.Test.YtlhajphjppjlgaaGreatDoorV47
import Derived.Test.YtlhajphjppjlgaaGreatDoorV0
namespace Go.Proofs.YtlhajphjppjlgaaGreatDoor
open Go Go.RowKit
section
variable {P : Program}
theorem run_part_row (w : World) (e : TypeId) (kd : IntKind) (l : List Int) (k : Nat) (hue : P.underlying e = some (.int kd)) (hk : k < l.length) :
    (part e (row kd l) (k * 1)).run P w = .ok (.int kd (l[k]?.getD 0)) w := by
  have hg := row_get kd l k hk
  simp [part, isAgg, run_underlying hue, hg]
theorem run_eqItems_rows (w : World) (d : Nat) (e : TypeId) (kd : IntKind) (l m : List Int) (hue : P.underlying e = some (.int kd)) : ∀ is : List Nat, (∀ i ∈ is, i < l.length ∧ i < m.length) →
    (Op.eqItems (d + 1) e 1 (row kd l) (row kd m) is).run P w = .ok (is.all fun i => l[i]?.getD 0 == m[i]?.getD 0) w
  | [], _ => by simp [Op.eqItems]
  | i :: is, h => by
    have h1 := (h i (by simp)).1
    have h2 := (h i (by simp)).2
    have ih := run_eqItems_rows w d e kd l m hue is (fun j hj => h j (by simp [hj]))
    have he := run_equalIn_int (P := P) (w := w) d e kd kd (l[i]?.getD 0) (m[i]?.getD 0) hue
    simp only [Op.eqItems, Sem.run_bind, run_part_row w e kd l i hue h1, run_part_row w e kd m i hue h2, Result.andThen_ok, he, List.all_cons]
    cases hq : (l[i]?.getD 0 == m[i]?.getD 0)
    · simp
    · simpa using ih
theorem all_eq (l m : List Int) (n : Nat) (hl : l.length = n) (hm : m.length = n) : ((List.range n).all fun i => l[i]?.getD 0 == m[i]?.getD 0) = (l == m) := by
  rw [Bool.eq_iff_iff]
  simp only [List.all_eq_true, List.mem_range, beq_iff_eq]
  constructor
  · intro h
    apply List.ext_getElem (by omega)
    intro i h1 h2
    have := h i (by omega)
    simpa [h1, h2] using this
  · rintro rfl i _; rfl
theorem run_equalIn_rows (w : World) (d : Nat) {t e : TypeId} {n : Nat} (kd : IntKind) (l m : List Int) (hu : P.underlying t = some (.array n e)) (hue : P.underlying e = some (.int kd)) (hc : P.cellsOf e = 1) (hi : (P.info? e).isSome = true) (hl : l.length = n) (hm : m.length = n) :
    (Op.equalIn (d + 1 + 1) t (.agg (row kd l)) (.agg (row kd m))).run P w = .ok (l == m) w := by
  obtain ⟨i, hi⟩ := Option.isSome_iff_exists.1 hi
  rw [run_equalIn_array w (d + 1) _ _ hu hi, hc, run_eqItems_rows w d e kd l m hue _ (fun j hj => by have := List.mem_range.1 hj; omega), all_eq l m n hl hm]
end
open Go.RowKit
set_option maxRecDepth 20000
set_option linter.unusedSimpArgs false
theorem run_cut_h (w : World) (x : Option Addr) (len cap h : Nat) (hh : h ≤ cap) : (Instr.slice 30 (.slice x len cap) none (some (.int .i64 (h : Int))) none).run Tryz.prog w = .ok (.slice (subA x cap 0) h cap) w := by
  rw [run_slice_h w 30 x len cap elemB .i64 (h : Int) (by omega) (by omega), sizeU8]
  simp [sliced, subA, Result.andThen]
theorem OwnB.ofHolds {w : World} {g base : Nat} {l : List Int} (h : Holds w g .u8 5 l) (hb : base ≤ g) (hl : l.length ≤ 4000000) : OwnB w base (.slice (some ⟨g, 0, none⟩) l.length l.length) l :=
  ⟨by simp, .inr ⟨g, l.length, row .u8 l, rfl, hb, h, Nat.le_refl _, by simp [maxLen]; omega, by rw [row_size]; omega, by simp only [row, Nat.mul_one]; exact List.take_of_length_le (by simp)⟩⟩
section
variable {P : Program} {ops : Array Oper} {Q : Exit → Act → World → Prop} {md : Region.Mode} {S : World → Prop} {D : Nat}
theorem wpAnyG_three {i j l : Nat} {oi oj ol : Oper} {fuel : Nat} {listed : Array Bool} {a : Act} {w : World} (hi : ops[i]? = some oi) (hj : ops[j]? = some oj) (hl : ops[l]? = some ol) (hr : Region.ready md ops listed = [i, j, l])
    (hwi : Region.wanted oi (yielded ops a.tmps) = true) (hwj : Region.wanted oj (yielded ops a.tmps) = true) (hwl : Region.wanted ol (yielded ops a.tmps) = true)
    (h1 : ∀ K' : Act → World → Prop, Shut (∀ a w, ((listed.setIfInBounds i true).getD D true = false → S w) → wpAnyG P md ops Q S D fuel (listed.setIfInBounds i true) a w → K' a w) → Oper.wp P oi a w K' Q)
    (h2 : ∀ K' : Act → World → Prop, Shut (∀ a w, ((listed.setIfInBounds j true).getD D true = false → S w) → wpAnyG P md ops Q S D fuel (listed.setIfInBounds j true) a w → K' a w) → Oper.wp P oj a w K' Q)
    (h3 : ∀ K' : Act → World → Prop, Shut (∀ a w, ((listed.setIfInBounds l true).getD D true = false → S w) → wpAnyG P md ops Q S D fuel (listed.setIfInBounds l true) a w → K' a w) → Oper.wp P ol a w K' Q) : wpAnyG P md ops Q S D (fuel + 1) listed a w :=
  ⟨fun h0 => (by rw [hr] at h0; cases h0), fun q hq => by
    rw [hr] at hq
    rcases List.mem_cons.1 hq with rfl | hq
    · refine wpOp_step hi (fun K' hK => ?_)
      rw [if_pos hwi]
      exact h1 K' (fun a w h1 h2 => hK a w ⟨h1, h2⟩)
    · rcases List.mem_cons.1 hq with rfl | hq
      · refine wpOp_step hj (fun K' hK => ?_)
        rw [if_pos hwj]
        exact h2 K' (fun a w h1 h2 => hK a w ⟨h1, h2⟩)
      · obtain rfl : q = l := by simpa using hq
        refine wpOp_step hl (fun K' hK => ?_)
        rw [if_pos hwl]
        exact h3 K' (fun a w h1 h2 => hK a w ⟨h1, h2⟩)⟩
end
theorem or_i64 (a b : Nat) (ha : a < 65536) (hb : b < 256) : bits .or .i64 ((a * 256 : Nat) : Int) (b : Int) = ((a * 256 + b : Nat) : Int) := by
  have h1 : (BitVec.ofInt 64 ((a * 256 : Nat) : Int)).toNat = a * 256 := by
    rw [BitVec.ofInt_natCast, BitVec.toNat_ofNat]; exact Nat.mod_eq_of_lt (by omega)
  have h2 : (BitVec.ofInt 64 (b : Int)).toNat = b := by
    rw [BitVec.ofInt_natCast, BitVec.toNat_ofNat]; exact Nat.mod_eq_of_lt (by omega)
  have h3 : a * 256 ||| b = a * 256 + b := by
    have := Nat.two_pow_add_eq_or_of_lt (i := 8) (b := b) (by omega) a
    rw [Nat.mul_comm] at this
    exact this.symm
  show IntKind.i64.wrap ((BitVec.ofInt 64 ((a * 256 : Nat) : Int) ||| BitVec.ofInt 64 (b : Int)).toNat : Int) = _
  rw [BitVec.toNat_or, h1, h2, h3, IntKind.wrap_i64]
  omega
theorem or_u32 (a b i m : Nat) (hm : 2 ^ i = m) (ha : a * m < 4294967296) (hi : m ≤ 4294967296) (hb : b < m) : bits .or .u32 ((a * m : Nat) : Int) (b : Int) = ((a * m + b : Nat) : Int) := by
  have h3 : a * m ||| b = a * m + b := by
    have := Nat.two_pow_add_eq_or_of_lt (i := i) (b := b) (by omega) a
    rw [hm, Nat.mul_comm] at this
    exact this.symm
  have hx : a * m ||| b < 2 ^ 32 := Nat.or_lt_two_pow (by omega) (by omega)
  have h1 : (BitVec.ofInt 32 ((a * m : Nat) : Int)).toNat = a * m := by
    rw [BitVec.ofInt_natCast, BitVec.toNat_ofNat]; exact Nat.mod_eq_of_lt (by omega)
  have h2 : (BitVec.ofInt 32 (b : Int)).toNat = b := by
    rw [BitVec.ofInt_natCast, BitVec.toNat_ofNat]; exact Nat.mod_eq_of_lt (by omega)
  show IntKind.u32.wrap ((BitVec.ofInt 32 ((a * m : Nat) : Int) ||| BitVec.ofInt 32 (b : Int)).toNat : Int) = _
  rw [BitVec.toNat_or, h1, h2]
  rw [h3] at hx ⊢
  rw [IntKind.wrap_u32]
  omega
def val2 (a b : Int) : Int := a * 256 + b
def val4 (a b c d : Int) : Int := a * 16777216 + b * 65536 + c * 256 + d
theorem val2_or (a b : Int) (ha : b8 a) (hb : b8 b) : bits .or .i64 (a * 256) b = val2 a b := by
  have := or_i64 a.toNat b.toNat (by omega) (by omega)
  have e1 : ((a.toNat * 256 : Nat) : Int) = a * 256 := by omega
  have e2 : (b.toNat : Int) = b := by omega
  rw [e1, e2] at this
  rw [this]; unfold val2; omega
theorem val4_f1 (p q : Nat) : p * 16777216 + q * 65536 = (p * 256 + q) * 65536 := by rw [Nat.add_mul, Nat.mul_assoc]
theorem val4_f2 (p q r : Nat) : (p * 256 + q) * 65536 + r * 256 = ((p * 256 + q) * 256 + r) * 256 := by rw [Nat.add_mul _ r, Nat.mul_assoc]
theorem val4_or (a b c d : Int) (ha : b8 a) (hb : b8 b) (hc : b8 c) (hd : b8 d) : bits .or .u32 (bits .or .u32 (bits .or .u32 (a * 16777216) (b * 65536)) (c * 256)) d = val4 a b c d := by
  obtain ⟨p, rfl⟩ : ∃ n : Nat, a = n := ⟨a.toNat, by omega⟩
  obtain ⟨q, rfl⟩ : ∃ n : Nat, b = n := ⟨b.toNat, by omega⟩
  obtain ⟨r, rfl⟩ : ∃ n : Nat, c = n := ⟨c.toNat, by omega⟩
  obtain ⟨t, rfl⟩ : ∃ n : Nat, d = n := ⟨d.toNat, by omega⟩
  have hp : p < 256 := by omega
  have hq : q < 256 := by omega
  have hr : r < 256 := by omega
  have ht : t < 256 := by omega
  clear ha hb hc hd
  have e1 : (p : Int) * 16777216 = ((p * 16777216 : Nat) : Int) := by rw [Int.natCast_mul]; rfl
  have e2 : (q : Int) * 65536 = ((q * 65536 : Nat) : Int) := by rw [Int.natCast_mul]; rfl
  have e3 : (r : Int) * 256 = ((r * 256 : Nat) : Int) := by rw [Int.natCast_mul]; rfl
  rw [e1, e2, e3, or_u32 p (q * 65536) 24 16777216 (by decide +kernel) (by omega) (by omega) (by omega), val4_f1, or_u32 (p * 256 + q) (r * 256) 16 65536 (by decide +kernel) (by omega) (by omega) (by omega), val4_f2, or_u32 ((p * 256 + q) * 256 + r) t 8 256 (by decide +kernel) (by omega) (by omega) (by omega)]
  unfold val4
  omega

theorem first_cells {w : World} {x : Option Addr} {k : Nat} {z : List Int} (h : Bytes w x k k (z.take k)) (h0 : 0 < k) : ∃ b off, x = some ⟨b, off, none⟩ ∧ ∀ j, j < k → w.cell? ⟨b, off + j, none⟩ = some (.int .u8 (z[j]?.getD 0)) := by
  rcases h.at_ with h1 | ⟨b, off, hx, hc⟩
  · omega
  · refine ⟨b, off, hx, fun j hj => ?_⟩
    have := hc j hj
    rw [List.getElem?_take_of_lt hj] at this
    exact this
theorem b8_get {z : List Int} (hz : ∀ v ∈ z, b8 v) (j : Nat) : b8 (z[j]?.getD 0) := by
  by_cases h : j < z.length
  · rw [List.getElem?_eq_getElem h]; exact hz _ (List.getElem_mem h)
  · rw [List.getElem?_eq_none (by omega)]; exact ⟨by decide, by decide⟩
set_option maxHeartbeats 2000000 in
theorem rtwo_any (R base : Nat) (z : List Int) (w : World) (hR : Rd w R base z) (hz : ∀ v ∈ z, b8 v) :
    Calls Tryz.prog 103 #[.pointer (some ⟨R, 0, none⟩)] w fun e w' =>
      (2 ≤ z.length ∧ e = .returned (.int .i64 (val2 (z[0]?.getD 0) (z[1]?.getD 0))) ∧ Rd w' R base (z.drop 2) ∧ Took w w' R base) ∨ (z.length < 2 ∧ e = .panicked [wrongP] ∧ Took w w' R base) := by
  have ht := take_any R base z 2 w hR
  have ha := b8_get hz 0
  have hb := b8_get hz 1
  have HV : Veil (bits .or .i64 ((z[0]?.getD 0) * 256) (z[1]?.getD 0) = val2 (z[0]?.getD 0) (z[1]?.getD 0)) := ⟨val2_or _ _ ha hb⟩
  have HF : Veil (∀ (w' : World) (x : Option Addr), 2 ≤ z.length → Bytes w' x 2 2 (z.take 2) → ∃ b off, x = some ⟨b, off, none⟩ ∧ ∀ j, j < 2 → w'.cell? ⟨b, off + j, none⟩ = some (.int .u8 (z[j]?.getD 0))) := ⟨fun w' x _ h' => first_cells h' (by omega)⟩
  clear hz
  obtain ⟨A, hA⟩ : ∃ q, z[0]?.getD 0 = q := ⟨_, rfl⟩
  obtain ⟨B, hB⟩ : ∃ q, z[1]?.getD 0 = q := ⟨_, rfl⟩
  have HA : Veil (z[0]?.getD 0 = A ∧ z[1]?.getD 0 = B) := ⟨hA, hB⟩
  rw [hA, hB] at HV ⊢
  rw [hA] at ha
  rw [hB] at hb
  have e1 : IntKind.i64.wrap A = A := by rw [IntKind.wrap_i64]; omega
  have e2 : IntKind.i64.wrap B = B := by rw [IntKind.wrap_i64]; omega
  have e3 : IntKind.i64.wrap (A * 256) = A * 256 := by rw [IntKind.wrap_i64]; omega
  clear hA hB hR
  go_enter Tryz.func103, Tryz.ntmps103
  go_upto_region 2 with (go_at_call 101; refine ht.mono ?_; rintro e w1 (⟨hk, x1, rfl, hy1, hR1, ht1⟩ | ⟨hk, rfl, ht1⟩))
  rotate_left
  · exact bodyPost_gone (.inr ⟨hk, rfl, ht1⟩)
  obtain ⟨b, off, rfl, hc⟩ := HF.out w1 x1 hk (hy1 w1 (Below.refl _ _))
  have c0 : w1.cell? ⟨b, off, none⟩ = some (.int .u8 A) := by have := hc 0 (by omega); rw [HA.out.1] at this; exact this
  have c1 : w1.cell? ⟨b, off + 1, none⟩ = some (.int .u8 B) := by have := hc 1 (by omega); rw [HA.out.2] at this; exact this
  clear hc hy1 ht
  refine wp_region_gate (fun w' => w'.cell? ⟨b, off, none⟩ = some (.int .u8 A) ∧ w'.cell? ⟨b, off + 1, none⟩ = some (.int .u8 B)) 10 (by kernel_rfl) ?_
  have hS : w1.drew.cell? ⟨b, off, none⟩ = some (.int .u8 A) ∧ w1.drew.cell? ⟨b, off + 1, none⟩ = some (.int .u8 B) := ⟨c0, c1⟩
  refine ga 0 ?_ rfl (by kernel_rfl) (fun _ _ _ h => h) hS ?_ ?_
  rotate_left
  · intro _; go_simp; try with_reducible rfl
  simp only [Act.put, sI, sZ, sS]
  refine ga 1 ?_ rfl (by kernel_rfl) (fun _ _ _ h => h) hS ?_ ?_
  rotate_left
  · intro _; go_simp; try with_reducible rfl
  simp only [Act.put, sI, sZ, sS]
  refine gr 2 ?_ rfl (by kernel_rfl) (fun _ _ _ h => h) hS ?_ ?_
  rotate_left
  · intro wx hSw; go_split_ands; go_simp; try with_reducible rfl
  simp only [Act.put, sI, sZ, sS]
  refine ga 3 ?_ rfl (by kernel_rfl) (fun _ _ _ h => h) hS ?_ ?_
  rotate_left
  · intro _; go_simp; try with_reducible rfl
  simp only [Act.put, sI, sZ, sS]
  refine ga 4 ?_ rfl (by kernel_rfl) (fun _ _ _ h => h) hS ?_ ?_
  rotate_left
  · intro _; go_simp; try with_reducible rfl
  simp only [Act.put, sI, sZ, sS]
  refine ga 5 ?_ rfl (by kernel_rfl) (fun _ _ _ h => h) hS ?_ ?_
  rotate_left
  · intro _; go_simp; try with_reducible rfl
  simp only [Act.put, sI, sZ, sS]
  refine ga 6 ?_ rfl (by kernel_rfl) (fun _ _ _ h => h) hS ?_ ?_
  rotate_left
  · intro _; go_simp; try with_reducible rfl
  simp only [Act.put, sI, sZ, sS]
  refine gr 7 ?_ rfl (by kernel_rfl) (fun _ _ _ h => h) hS ?_ ?_
  rotate_left
  · intro wx hSw; go_split_ands; go_simp; try with_reducible rfl
  simp only [Act.put, sI, sZ, sS]
  refine ga 8 ?_ rfl (by kernel_rfl) (fun _ _ _ h => h) hS ?_ ?_
  rotate_left
  · intro _; go_simp; try with_reducible rfl
  simp only [Act.put, sI, sZ, sS]
  refine ga 9 ?_ rfl (by kernel_rfl) (fun _ _ _ h => h) hS ?_ ?_
  rotate_left
  · intro _; go_simp; try with_reducible rfl
  simp only [Act.put, sI, sZ, sS]
  refine wpAnyG_one (i := 10) rfl (by kernel_rfl) (by kernel_rfl) (fun K hK => ?_)
  go_simp
  refine hK.out _ _ (fun h => absurd (show true = false from h) (by decide)) ?_
  clear hK K
  refine wpAnyG_done (by kernel_rfl) ?_ _
  go_wp2
  go_ret
  refine .inl ⟨hk, ?_, hR1.afar ((Below.refl _ _).drew), ht1.trans (Took.afar hR1.size ((Below.refl _ _).drew))⟩
  rw [← HV.out]
  rfl
theorem OwnB.took {w w' : World} {base R : Nat} {v u : Value} {z : List Int} (h : OwnB w base v z) (hb : Box w R 149 u) (ht : Took w w' R base) : OwnB w' base v z := by
  have hne := h.apartT hb (by decide)
  refine ⟨h.1, ?_⟩
  rcases h.2 with h' | ⟨g, cap, cur, h1, h2, h3, h4⟩
  · exact .inl h'
  · refine .inr ⟨g, cap, cur, h1, h2, ?_, h4⟩
    subst h1
    rw [ht.kept g (Array.getElem?_eq_some_iff.1 h3).1 (fun e => by
      rcases hne with h0 | h0
      · simp [Value.ownBlock] at h0
      · simp [Value.ownBlock] at h0; exact h0 e)]
    exact h3
set_option maxHeartbeats 2000000 in
theorem clone_any (x : Option Addr) (n c : Nat) (z : List Int) (w : World) (hb : Bytes w x n c z) (hn : n ≤ 1000000) :
    Calls Tryz.prog 104 #[.slice x n c] w fun e w' => ∃ v, e = .returned v ∧ OwnB w' w.heap.size v z ∧ Below w.heap.size w w' := by
  cases x with
  | none =>
    have hc := hb.nil rfl
    have hle := hb.le
    have hz := hb.len_eq
    obtain rfl : c = 0 := hc
    obtain rfl : n = 0 := by omega
    have hz' : z = [] := List.length_eq_zero_iff.1 hz.symm
    subst hz'
    have hnil : ∀ wx : World, (binOp BinOp.eql 30 (.slice none 0 0) (.slice none 0 0)).run Tryz.prog wx = .ok (.bool true) wx := fun _ => by kernel_rfl
    clear hb hz hle hn
    go_enter Tryz.func104, Tryz.ntmps104
    go_wp2
    go_ret
    exact ⟨_, rfl, OwnB.nil _ _, Below.refl _ _⟩
  | some a =>
    have hE0 : OwnB (w.alloc (.cells #[] 5)) w.heap.size (.slice (some ⟨w.heap.size, 0, none⟩) 0 0) [] := OwnB.ofHolds (Holds.new w .u8 5 []) (Nat.le_refl _) (by simp)
    have hy : Bytes (w.alloc (.cells #[] 5)) (some a) n c z := hb.below ((Below.refl _ _).alloc (Nat.le_refl _) _)
    have hnil : ∀ wx : World, (binOp BinOp.eql 30 (.slice (some a) n c) (.slice none 0 0)).run Tryz.prog wx = .ok (.bool false) wx := fun _ => by kernel_rfl
    clear hb
    go_enter Tryz.func104, Tryz.ntmps104
    go_wp2_with (at_builtin; refine wpList_app rfl _ _ rfl w.heap.size _ [] rfl hE0 (some a) n c z rfl hy (by simp; omega) (by simp) ?_; intro v1 w1 ho1 hg1)
    go_ret
    rw [List.nil_append] at ho1
    exact ⟨_, rfl, ho1, below_grown ((Below.refl _ _).alloc (Nat.le_refl _) _) hE0 hg1 (by simp)⟩
theorem drop_at (z : List Int) (o j : Nat) : (z.drop o)[j]?.getD 0 = z[o + j]?.getD 0 := by rw [List.getElem?_drop]
def at1 (z : List Int) (o : Nat) : Int := z[o]?.getD 0
def at4 (z : List Int) (o : Nat) : Int := val4 (at1 z o) (at1 z (o + 1)) (at1 z (o + 2)) (at1 z (o + 3))
theorem CellsAt.took {w w' : World} {R base g : Nat} {t : TypeId} {cs : List Value} (h : CellsAt w g t cs) (ht : Took w w' R base) (hne : g ≠ R) : CellsAt w' g t cs := by
  have hl := h.lt
  unfold CellsAt at h ⊢; rw [ht.kept g hl hne]; exact h
theorem Rd.setCellO {w : World} {R base : Nat} {z : List Int} (h : Rd w R base z) (a : Addr) (v : Value) (h1 : base ≤ a.block) (h2 : R ≠ a.block) : Rd (w.setCell a v) R base z := by
  obtain ⟨x, n, c, hb, hy⟩ := h.has
  refine ⟨h.ge, x, n, c, ?_, fun wx hx => hy wx (((Below.refl _ _).setCell h1 _).trans hx)⟩
  unfold Box at hb ⊢
  rw [heap_setCell_other w a R v h2]; exact hb
theorem Took.setCellO {w w' : World} {R base : Nat} (h : Took w w' R base) (a : Addr) (v : Value) (h1 : w.heap.size ≤ a.block) (h2 : base ≤ a.block) : Took w (w'.setCell a v) R base :=
  ⟨h.below.setCell h2 _, by have := h.more; simpa [World.setCell] using this, fun g hg hne => by rw [heap_setCell_other w' a g v (by omega)]; exact h.kept g hg hne⟩
theorem Rd.setRowO {w : World} {R base g : Nat} {z : List Int} (h : Rd w R base z) (cs : Array Value) (h1 : base ≤ g) (h2 : R ≠ g) : Rd (w.setRow g cs) R base z := by
  obtain ⟨x, n, c, hb, hy⟩ := h.has
  refine ⟨h.ge, x, n, c, ?_, fun wx hx => hy wx ((below_setRow (Below.refl _ _) h1 _).trans hx)⟩
  unfold Box at hb ⊢
  rw [setRow_other w g R cs h2]; exact hb
theorem Took.setRowO {w w' : World} {R base g : Nat} (h : Took w w' R base) (cs : Array Value) (h1 : w.heap.size ≤ g) (h2 : base ≤ g) : Took w (w'.setRow g cs) R base :=
  ⟨below_setRow h.below h2 _, by have := h.more; simpa [World.setRow] using this, fun k hk hne => by rw [setRow_other w' g k cs (by omega)]; exact h.kept k hk hne⟩

set_option maxHeartbeats 2000000 in
theorem rone_at (R base : Nat) (z : List Int) (o : Nat) (w : World) (hR : Rd w R base (z.drop o)) :
    Calls Tryz.prog 75 #[.pointer (some ⟨R, 0, none⟩)] w fun e w' =>
      (o + 1 ≤ z.length ∧ e = .returned (.int .u8 (at1 z o)) ∧ Rd w' R base (z.drop (o + 1)) ∧ Took w w' R base) ∨ (z.length < o + 1 ∧ e = .panicked [wrongP] ∧ Took w w' R base) := by
  have ht := take_any R base (z.drop o) 1 w hR
  have HL : Veil ((z.drop o).length = z.length - o) := ⟨List.length_drop⟩
  have HD : Veil ((z.drop o).drop 1 = z.drop (o + 1)) := ⟨by rw [List.drop_drop]⟩
  have HF : Veil (∀ (w' : World) (x : Option Addr), Bytes w' x 1 1 ((z.drop o).take 1) → ∃ b off, x = some ⟨b, off, none⟩ ∧ w'.cell? ⟨b, off, none⟩ = some (.int .u8 (at1 z o))) := ⟨fun w' x h => by
    obtain ⟨b, off, hx, hc⟩ := first_cells h (by omega)
    have := hc 0 (by omega)
    rw [drop_at] at this
    exact ⟨b, off, hx, this⟩⟩
  obtain ⟨A, hA⟩ : ∃ q, at1 z o = q := ⟨_, rfl⟩
  rw [hA] at HF ⊢
  clear hA hR
  go_enter Tryz.func75, Tryz.ntmps75
  by_cases hk : o + 1 ≤ z.length
  · go_wp2_with (go_at_call 101; refine ht.mono ?_; rintro e w1 (⟨hk1, x1, rfl, hy1, hR1, ht1⟩ | ⟨hk1, _⟩); rotate_left; (exfalso; have := HL.out; omega); obtain ⟨b, off, rfl, hc⟩ := HF.out w1 x1 (hy1 w1 (Below.refl _ _)))
    go_ret
    rw [HD.out] at hR1
    exact .inl ⟨hk, rfl, hR1, ht1⟩
  · go_wp2_with (go_at_call 101; refine ht.mono ?_; rintro e w1 (⟨hk1, _⟩ | ⟨hk1, rfl, ht1⟩); (exfalso; have := HL.out; omega))
    exact bodyPost_gone (.inr ⟨by omega, rfl, ht1⟩)

set_option maxHeartbeats 4000000 in
theorem rfour_at (R base : Nat) (z : List Int) (o : Nat) (w : World) (hR : Rd w R base (z.drop o)) (hz : ∀ v ∈ z, b8 v) :
    Calls Tryz.prog 76 #[.pointer (some ⟨R, 0, none⟩)] w fun e w' =>
      (o + 4 ≤ z.length ∧ e = .returned (.int .u32 (at4 z o)) ∧ Rd w' R base (z.drop (o + 4)) ∧ Took w w' R base) ∨ (z.length < o + 4 ∧ e = .panicked [wrongP] ∧ Took w w' R base) := by
  have ht := take_any R base (z.drop o) 4 w hR
  have HL : Veil ((z.drop o).length = z.length - o) := ⟨List.length_drop⟩
  have HD : Veil ((z.drop o).drop 4 = z.drop (o + 4)) := ⟨by rw [List.drop_drop]⟩
  have ha := b8_get hz o
  have hb := b8_get hz (o + 1)
  have hc := b8_get hz (o + 2)
  have hd := b8_get hz (o + 3)
  have HV : Veil (bits .or .u32 (bits .or .u32 (bits .or .u32 (z[o]?.getD 0 * 16777216) (z[o + 1]?.getD 0 * 65536)) (z[o + 2]?.getD 0 * 256)) (z[o + 3]?.getD 0) = at4 z o) := ⟨val4_or _ _ _ _ ha hb hc hd⟩
  have HF : Veil (∀ (w' : World) (x : Option Addr), Bytes w' x 4 4 ((z.drop o).take 4) → ∃ b off, x = some ⟨b, off, none⟩ ∧ ∀ j, j < 4 → w'.cell? ⟨b, off + j, none⟩ = some (.int .u8 (z[o + j]?.getD 0))) := ⟨fun w' x h => by
    obtain ⟨b, off, hx, hc⟩ := first_cells h (by omega)
    refine ⟨b, off, hx, fun j hj => ?_⟩
    have := hc j hj
    rw [drop_at] at this
    exact this⟩
  obtain ⟨V, hV⟩ : ∃ q, at4 z o = q := ⟨_, rfl⟩
  rw [hV] at HV ⊢
  obtain ⟨A, hA⟩ : ∃ q, z[o]?.getD 0 = q := ⟨_, rfl⟩
  obtain ⟨B, hB⟩ : ∃ q, z[o + 1]?.getD 0 = q := ⟨_, rfl⟩
  obtain ⟨C, hC⟩ : ∃ q, z[o + 2]?.getD 0 = q := ⟨_, rfl⟩
  obtain ⟨D, hD⟩ : ∃ q, z[o + 3]?.getD 0 = q := ⟨_, rfl⟩
  have HA : Veil (z[o]?.getD 0 = A ∧ z[o + 1]?.getD 0 = B ∧ z[o + 2]?.getD 0 = C ∧ z[o + 3]?.getD 0 = D) := ⟨hA, hB, hC, hD⟩
  rw [hA, hB, hC, hD] at HV
  rw [hA] at ha
  rw [hB] at hb
  rw [hC] at hc
  rw [hD] at hd
  have e1 : IntKind.u32.wrap A = A := by rw [IntKind.wrap_u32]; omega
  have e2 : IntKind.u32.wrap B = B := by rw [IntKind.wrap_u32]; omega
  have e3 : IntKind.u32.wrap C = C := by rw [IntKind.wrap_u32]; omega
  have e4 : IntKind.u32.wrap D = D := by rw [IntKind.wrap_u32]; omega
  have e5 : IntKind.u32.wrap (A * 16777216) = A * 16777216 := by rw [IntKind.wrap_u32]; omega
  have e6 : IntKind.u32.wrap (B * 65536) = B * 65536 := by rw [IntKind.wrap_u32]; omega
  have e7 : IntKind.u32.wrap (C * 256) = C * 256 := by rw [IntKind.wrap_u32]; omega
  clear hA hB hC hD hV hR hz
  go_enter Tryz.func76, Tryz.ntmps76
  by_cases hk : o + 4 ≤ z.length
  · go_upto_region 2 with (go_at_call 101; refine ht.mono ?_; rintro e w1 (⟨hk1, x1, rfl, hy1, hR1, ht1⟩ | ⟨hk1, _⟩); rotate_left; (exfalso; have := HL.out; omega))
    obtain ⟨b, off, rfl, hc'⟩ := HF.out w1 x1 (hy1 w1 (Below.refl _ _))
    have c0 : w1.cell? ⟨b, off, none⟩ = some (.int .u8 A) := by have := hc' 0 (by omega); simp only [Nat.add_zero] at this; rw [HA.out.1] at this; exact this
    have c1 : w1.cell? ⟨b, off + 1, none⟩ = some (.int .u8 B) := by have := hc' 1 (by omega); rw [HA.out.2.1] at this; exact this
    have c2 : w1.cell? ⟨b, off + 2, none⟩ = some (.int .u8 C) := by have := hc' 2 (by omega); rw [HA.out.2.2.1] at this; exact this
    have c3 : w1.cell? ⟨b, off + 3, none⟩ = some (.int .u8 D) := by have := hc' 3 (by omega); rw [HA.out.2.2.2] at this; exact this
    clear hc' hy1 ht
    refine wp_region_gate (fun w' => w'.cell? ⟨b, off, none⟩ = some (.int .u8 A) ∧ w'.cell? ⟨b, off + 1, none⟩ = some (.int .u8 B) ∧ w'.cell? ⟨b, off + 2, none⟩ = some (.int .u8 C) ∧ w'.cell? ⟨b, off + 3, none⟩ = some (.int .u8 D)) 22 (by kernel_rfl) ?_
    have hS : w1.drew.cell? ⟨b, off, none⟩ = some (.int .u8 A) ∧ w1.drew.cell? ⟨b, off + 1, none⟩ = some (.int .u8 B) ∧ w1.drew.cell? ⟨b, off + 2, none⟩ = some (.int .u8 C) ∧ w1.drew.cell? ⟨b, off + 3, none⟩ = some (.int .u8 D) := ⟨c0, c1, c2, c3⟩
    refine ga 0 ?_ rfl (by kernel_rfl) (fun _ _ _ h => h) hS ?_ ?_
    rotate_left
    · intro _; go_simp; try with_reducible rfl
    simp only [Act.put, sI, sZ, sS]
    refine ga 1 ?_ rfl (by kernel_rfl) (fun _ _ _ h => h) hS ?_ ?_
    rotate_left
    · intro _; go_simp; try with_reducible rfl
    simp only [Act.put, sI, sZ, sS]
    refine gr 2 ?_ rfl (by kernel_rfl) (fun _ _ _ h => h) hS ?_ ?_
    rotate_left
    · intro wx hSw; go_split_ands; go_simp; try with_reducible rfl
    simp only [Act.put, sI, sZ, sS]
    refine ga 3 ?_ rfl (by kernel_rfl) (fun _ _ _ h => h) hS ?_ ?_
    rotate_left
    · intro _; go_simp; try with_reducible rfl
    simp only [Act.put, sI, sZ, sS]
    refine ga 4 ?_ rfl (by kernel_rfl) (fun _ _ _ h => h) hS ?_ ?_
    rotate_left
    · intro _; go_simp; try with_reducible rfl
    simp only [Act.put, sI, sZ, sS]
    refine ga 5 ?_ rfl (by kernel_rfl) (fun _ _ _ h => h) hS ?_ ?_
    rotate_left
    · intro _; go_simp; try with_reducible rfl
    simp only [Act.put, sI, sZ, sS]
    refine ga 6 ?_ rfl (by kernel_rfl) (fun _ _ _ h => h) hS ?_ ?_
    rotate_left
    · intro _; go_simp; try with_reducible rfl
    simp only [Act.put, sI, sZ, sS]
    refine gr 7 ?_ rfl (by kernel_rfl) (fun _ _ _ h => h) hS ?_ ?_
    rotate_left
    · intro wx hSw; go_split_ands; go_simp; try with_reducible rfl
    simp only [Act.put, sI, sZ, sS]
    refine ga 8 ?_ rfl (by kernel_rfl) (fun _ _ _ h => h) hS ?_ ?_
    rotate_left
    · intro _; go_simp; try with_reducible rfl
    simp only [Act.put, sI, sZ, sS]
    refine ga 9 ?_ rfl (by kernel_rfl) (fun _ _ _ h => h) hS ?_ ?_
    rotate_left
    · intro _; go_simp; try with_reducible rfl
    simp only [Act.put, sI, sZ, sS]
    refine ga 10 ?_ rfl (by kernel_rfl) (fun _ _ _ h => h) hS ?_ ?_
    rotate_left
    · intro _; go_simp; try with_reducible rfl
    simp only [Act.put, sI, sZ, sS]
    refine ga 11 ?_ rfl (by kernel_rfl) (fun _ _ _ h => h) hS ?_ ?_
    rotate_left
    · intro _; go_simp; try with_reducible rfl
    simp only [Act.put, sI, sZ, sS]
    refine ga 12 ?_ rfl (by kernel_rfl) (fun _ _ _ h => h) hS ?_ ?_
    rotate_left
    · intro _; go_simp; try with_reducible rfl
    simp only [Act.put, sI, sZ, sS]
    refine gr 13 ?_ rfl (by kernel_rfl) (fun _ _ _ h => h) hS ?_ ?_
    rotate_left
    · intro wx hSw; go_split_ands; go_simp; try with_reducible rfl
    simp only [Act.put, sI, sZ, sS]
    refine ga 14 ?_ rfl (by kernel_rfl) (fun _ _ _ h => h) hS ?_ ?_
    rotate_left
    · intro _; go_simp; try with_reducible rfl
    simp only [Act.put, sI, sZ, sS]
    refine ga 15 ?_ rfl (by kernel_rfl) (fun _ _ _ h => h) hS ?_ ?_
    rotate_left
    · intro _; go_simp; try with_reducible rfl
    simp only [Act.put, sI, sZ, sS]
    refine ga 16 ?_ rfl (by kernel_rfl) (fun _ _ _ h => h) hS ?_ ?_
    rotate_left
    · intro _; go_simp; try with_reducible rfl
    simp only [Act.put, sI, sZ, sS]
    refine ga 17 ?_ rfl (by kernel_rfl) (fun _ _ _ h => h) hS ?_ ?_
    rotate_left
    · intro _; go_simp; try with_reducible rfl
    simp only [Act.put, sI, sZ, sS]
    refine ga 18 ?_ rfl (by kernel_rfl) (fun _ _ _ h => h) hS ?_ ?_
    rotate_left
    · intro _; go_simp; try with_reducible rfl
    simp only [Act.put, sI, sZ, sS]
    refine gr 19 ?_ rfl (by kernel_rfl) (fun _ _ _ h => h) hS ?_ ?_
    rotate_left
    · intro wx hSw; go_split_ands; go_simp; try with_reducible rfl
    simp only [Act.put, sI, sZ, sS]
    refine ga 20 ?_ rfl (by kernel_rfl) (fun _ _ _ h => h) hS ?_ ?_
    rotate_left
    · intro _; go_simp; try with_reducible rfl
    simp only [Act.put, sI, sZ, sS]
    refine ga 21 ?_ rfl (by kernel_rfl) (fun _ _ _ h => h) hS ?_ ?_
    rotate_left
    · intro _; go_simp; try with_reducible rfl
    simp only [Act.put, sI, sZ, sS]
    refine wpAnyG_one (i := 22) rfl (by kernel_rfl) (by kernel_rfl) (fun K hK => ?_)
    go_simp
    refine hK.out _ _ (fun h => absurd (show true = false from h) (by decide)) ?_
    clear hK K
    refine wpAnyG_done (by kernel_rfl) ?_ _
    go_wp2
    go_ret
    rw [HD.out] at hR1
    refine .inl ⟨hk, ?_, hR1.afar ((Below.refl _ _).drew), ht1.trans (Took.afar hR1.size ((Below.refl _ _).drew))⟩
    rw [← HV.out]
    rfl
  · go_upto_region 2 with (go_at_call 101; refine ht.mono ?_; rintro e w1 (⟨hk1, _⟩ | ⟨hk1, rfl, ht1⟩); (exfalso; have := HL.out; omega))
    exact bodyPost_gone (.inr ⟨by omega, rfl, ht1⟩)

theorem CellsAt.frozen2 {w : World} {g : Nat} {t : TypeId} {cs : List Value} (h : CellsAt w g t cs) (j : Nat) : w.frozen? ⟨g, j, none⟩ = false := frozen_of_row w g j _ t h
theorem CellsAt.set2 {w : World} {g : Nat} {t : TypeId} {cs : List Value} (h : CellsAt w g t cs) (j : Nat) (v : Value) : CellsAt (w.setCell ⟨g, j, none⟩ v) g t (cs.set j v) := by
  unfold CellsAt at h ⊢
  rw [heap_setCell_same w g j _ t _ h]; simp
theorem CellsAt.setRowOther2 {w : World} {g g' : Nat} {t : TypeId} {cs : List Value} (h : CellsAt w g t cs) (cs' : Array Value) (hne : g ≠ g') : CellsAt (w.setRow g' cs') g t cs := by
  unfold CellsAt at h ⊢; rw [setRow_other w g' g cs' hne]; exact h
theorem CellsAt.whole2 {w : World} {g : Nat} {t : TypeId} {cs : List Value} (h : CellsAt w g t cs) : w.rangeAt g 0 cs := fun j v hv => by rw [Nat.zero_add, h.cell]; exact hv
theorem dot_one (a s : Int) : ∀ v ∈ dotC a s, v.oneCell' = true := by
  intro v hv
  unfold dotC at hv
  simp only [List.mem_cons, List.not_mem_nil, or_false] at hv
  rcases hv with rfl | rfl <;> rfl

set_option maxHeartbeats 4000000 in
theorem rdot_at (R base : Nat) (z : List Int) (o : Nat) (w : World) (hR : Rd w R base (z.drop o)) (hz : ∀ v ∈ z, b8 v) :
    Calls Tryz.prog 77 #[.pointer (some ⟨R, 0, none⟩)] w fun e w' =>
      (o + 5 ≤ z.length ∧ e = .returned (.agg (dotC (at1 z o) (at4 z (o + 1))).toArray) ∧ Rd w' R base (z.drop (o + 5)) ∧ Took w w' R base) ∨ (z.length < o + 5 ∧ e = .panicked [wrongP] ∧ Took w w' R base) := by
  have hlt := hR.lt
  have hsz := hR.size
  have h1 := fun wx (h : Rd wx R base (z.drop o)) => rone_at R base z o wx h
  have h4 := fun wx (h : Rd wx R base (z.drop (o + 1))) => rfour_at R base z (o + 1) wx h hz
  obtain ⟨A, hA⟩ : ∃ q, at1 z o = q := ⟨_, rfl⟩
  rw [hA] at h1 ⊢
  obtain ⟨S, hS⟩ : ∃ q, at4 z (o + 1) = q := ⟨_, rfl⟩
  rw [hS] at h4 ⊢
  have hG0 := (CellsAt.new w 28 (dotC 0 0)).alloc (.cells (dotC 0 0).toArray 28)
  have hG1 : CellsAt ((w.alloc (.cells (dotC 0 0).toArray 28)).alloc (.cells (dotC 0 0).toArray 28)) (w.heap.size + 1) 28 (dotC 0 0) := by
    have := CellsAt.new (w.alloc (.cells (dotC 0 0).toArray 28)) 28 (dotC 0 0)
    rw [World.size_alloc] at this
    exact this
  have hR0 := (hR.alloc (.cells (dotC 0 0).toArray 28)).alloc (.cells (dotC 0 0).toArray 28)
  have hT0 : Took w ((w.alloc (.cells (dotC 0 0).toArray 28)).alloc (.cells (dotC 0 0).toArray 28)) R base := (Took.alloc hsz _).trans (Took.alloc (by simp; omega) _)
  clear hA hS hR hz
  go_enter Tryz.func77, Tryz.ntmps77
  go_upto_region 2 with fail
  refine forget (p := fun y => Code.wp _ _ _ _ y) (fun W => Rd W R base (z.drop o) ∧ Took w W R base ∧ CellsAt W w.heap.size 28 (dotC 0 0) ∧ CellsAt W (w.heap.size + 1) 28 (dotC 0 0)) ⟨hR0, hT0, hG0, hG1⟩ ?_
  clear hR0 hT0 hG0 hG1
  rintro W ⟨hR0, hT0, hG0, hG1⟩
  have h1W := h1 W hR0
  by_cases hk1 : o + 1 ≤ z.length
  · go_upto_region 3 with (go_at_call 75; refine h1W.mono ?_; rintro e w1 (⟨_, rfl, hR1, ht1⟩ | ⟨hx, _⟩); rotate_left; (exfalso; omega); have hH1 := hG1.took ht1 (by omega); have c0 := hH1.cell 0; have f0 := hH1.frozen2 0)
    have hH0 := hG0.took ht1 (by omega)
    refine forget (p := fun y => Code.wp _ _ _ _ y) (fun W2 => Rd W2 R base (z.drop (o + 1)) ∧ Took w W2 R base ∧ CellsAt W2 w.heap.size 28 (dotC 0 0) ∧ CellsAt W2 (w.heap.size + 1) 28 (dotC A 0)) ⟨hR1.setCellO _ _ (by show base ≤ w.heap.size + 1; omega) (by show R ≠ w.heap.size + 1; omega), (hT0.trans ht1).setCellO _ _ (by show w.heap.size ≤ w.heap.size + 1; omega) (by show base ≤ w.heap.size + 1; omega), hH0.setOther2 _ _ (by show w.heap.size ≠ w.heap.size + 1; omega), hH1.set2 0 _⟩ ?_
    clear h1W h1 hR0 hT0 hG0 hG1 c0 f0 hH1 hH0 hR1 ht1
    rintro W2 ⟨hR2, hT2, hG0, hG1⟩
    have h4W := h4 W2 hR2
    by_cases hk4 : o + 5 ≤ z.length
    · go_upto_region 4 with (go_at_call 76; refine h4W.mono ?_; rintro e w3 (⟨_, rfl, hR3, ht3⟩ | ⟨hx, _⟩); rotate_left; (exfalso; omega); have hH1 := hG1.took ht3 (by omega); have c1 := hH1.cell 1; have f1 := hH1.frozen2 1)
      have hH0 := hG0.took ht3 (by omega)
      refine forget (p := fun y => Code.wp _ _ _ _ y) (fun W4 => Rd W4 R base (z.drop (o + 5)) ∧ Took w W4 R base ∧ CellsAt W4 w.heap.size 28 (dotC 0 0) ∧ CellsAt W4 (w.heap.size + 1) 28 (dotC A S)) ⟨hR3.setCellO _ _ (by show base ≤ w.heap.size + 1; omega) (by show R ≠ w.heap.size + 1; omega), (hT2.trans ht3).setCellO _ _ (by show w.heap.size ≤ w.heap.size + 1; omega) (by show base ≤ w.heap.size + 1; omega), hH0.setOther2 _ _ (by show w.heap.size ≠ w.heap.size + 1; omega), hH1.set2 1 _⟩ ?_
      clear h4W h4 hR2 hT2 hG0 hG1 c1 f1 hH1 hH0 hR3 ht3
      rintro W4 ⟨hR4, hT4, hG0, hG1⟩
      have rE := hG1.whole2
      go_wp2_with (first
        | (refine wpList_ldv rfl 28 _ rfl _ _ rfl (dotC A S) rE Tryz.underlying28 rfl sizeDot ?_)
        | (refine wpList_stv rfl 28 _ _ rfl _ rfl rfl hG0 sizeDot rfl (dot_one A S) ?_))
      refine bodyPost_ret (results_cell_row (Tryz.results77) _ _ _ _ _ (0, 0) _ rfl (hG0.setRow (dotC A S)) Tryz.underlying28 rfl sizeDot) rfl ?_
      exact .inl ⟨hk4, rfl, hR4.setRowO _ (by omega) (by omega), hT4.setRowO _ (by omega) (by omega)⟩
    · go_upto_region 4 with (go_at_call 76; refine h4W.mono ?_; rintro e w3 (⟨hx, _⟩ | ⟨_, rfl, ht3⟩); (exfalso; omega))
      exact bodyPost_gone (.inr ⟨by omega, rfl, hT2.trans ht3⟩)
  · go_upto_region 3 with (go_at_call 75; refine h1W.mono ?_; rintro e w1 (⟨hx, _⟩ | ⟨_, rfl, ht1⟩); (exfalso; omega))
    exact bodyPost_gone (.inr ⟨by omega, rfl, hT0.trans ht1⟩)
theorem wrong_asserted (wx : World) : (Instr.typeAssert (.iface 145 (.agg #[])) 20 145 true).run Tryz.prog wx = .ok (.tuple #[.agg #[], .bool true]) wx := by kernel_rfl
theorem wrong_stored (wx : World) (g : Nat) : (Instr.storeAt 145 (.pointer (some ⟨g, 0, none⟩)) (.agg #[])).run Tryz.prog wx = .ok () wx := by kernel_rfl
end Go.Proofs.YtlhajphjppjlgaaGreatDoor
namespace Go.Proofs.YtlhajphjppjlgaaGreatDoor.S
open Go.RowKit
set_option maxRecDepth 20000
theorem bits_xor_u8_nat (a b : Nat) (ha : a < 256) (hb : b < 256) :
    bits .xor .u8 (a : Int) (b : Int) = ((a ^^^ b : Nat) : Int) := by
  have hx : a ^^^ b < 2 ^ 8 := Nat.xor_lt_two_pow (by omega) (by omega)
  have h1 : (BitVec.ofInt 8 (a : Int)).toNat = a := by
    rw [BitVec.ofInt_natCast, BitVec.toNat_ofNat]; exact Nat.mod_eq_of_lt (by omega)
  have h2 : (BitVec.ofInt 8 (b : Int)).toNat = b := by
    rw [BitVec.ofInt_natCast, BitVec.toNat_ofNat]; exact Nat.mod_eq_of_lt (by omega)
  show IntKind.u8.wrap ((BitVec.ofInt 8 (a : Int) ^^^ BitVec.ofInt 8 (b : Int)).toNat : Int) = _
  rw [BitVec.toNat_xor, h1, h2, IntKind.wrap_u8]
  omega
theorem orx_step (u p q : Int) (hu : 0 ≤ u ∧ u ≤ 255) (hp : 0 ≤ p ∧ p ≤ 255) (hq : 0 ≤ q ∧ q ≤ 255) : bits .or .u8 u (bits .xor .u8 p q) = 0 ↔ u = 0 ∧ p = q := by
  obtain ⟨a, rfl⟩ := Int.eq_ofNat_of_zero_le hu.1
  obtain ⟨b, rfl⟩ := Int.eq_ofNat_of_zero_le hp.1
  obtain ⟨c, rfl⟩ := Int.eq_ofNat_of_zero_le hq.1
  have hx : b ^^^ c < 2 ^ 8 := Nat.xor_lt_two_pow (by omega) (by omega)
  rw [bits_xor_u8_nat b c (by omega) (by omega), (bits_nat .u8 8 (by decide) wraps_u8 a (b ^^^ c) (by omega) hx).2]
  constructor
  · intro h
    have h' : a ||| (b ^^^ c) = 0 := by exact_mod_cast h
    have h2 := Nat.or_eq_zero_iff.1 h'
    have h3 : b ^^^ (b ^^^ c) = c := by rw [← Nat.xor_assoc, Nat.xor_self, Nat.zero_xor]
    rw [h2.2, Nat.xor_zero] at h3
    exact ⟨by omega, by omega⟩
  · rintro ⟨h1, h2⟩
    have : b = c := by omega
    subst this
    have : a = 0 := by omega
    subst this
    simp
def orx (z b : List Int) : Nat → Int
  | 0 => 0
  | k + 1 => bits .or .u8 (orx z b k) (bits .xor .u8 (z[k]?.getD 0) (b[k]?.getD 0))
theorem orx_within (z b : List Int) (k : Nat) : 0 ≤ orx z b k ∧ orx z b k ≤ 255 := by
  cases k with
  | zero => exact ⟨by simp [orx], by simp [orx]⟩
  | succ k => exact ⟨bits_lo_u8 _ _ _, bits_hi_u8 _ _ _⟩
theorem getD_byte {z : List Int} (h : ∀ v ∈ z, 0 ≤ v ∧ v ≤ 255) (k : Nat) : 0 ≤ z[k]?.getD 0 ∧ z[k]?.getD 0 ≤ 255 := by
  by_cases hk : k < z.length
  · rw [List.getElem?_eq_getElem hk]; exact h _ (List.getElem_mem hk)
  · rw [List.getElem?_eq_none (by omega)]; simp
theorem orx_zero (z b : List Int) (hz : ∀ v ∈ z, 0 ≤ v ∧ v ≤ 255) (hb : ∀ v ∈ b, 0 ≤ v ∧ v ≤ 255) (k : Nat) : orx z b k = 0 ↔ ∀ i, i < k → z[i]?.getD 0 = b[i]?.getD 0 := by
  induction k with
  | zero => simp [orx]
  | succ k ih =>
    simp only [orx]
    rw [orx_step _ _ _ (orx_within z b k) (getD_byte hz k) (getD_byte hb k), ih]
    constructor
    · rintro ⟨h1, h2⟩ i hi
      by_cases h : i = k
      · subst h; exact h2
      · exact h1 i (by omega)
    · intro h
      exact ⟨fun i hi => h i (by omega), h k (by omega)⟩
theorem orx_eq (z b : List Int) (hz : ∀ v ∈ z, 0 ≤ v ∧ v ≤ 255) (hb : ∀ v ∈ b, 0 ≤ v ∧ v ≤ 255) (hl : z.length = b.length) : (orx z b z.length == 0) = (z == b) := by
  rw [Bool.eq_iff_iff]
  simp only [beq_iff_eq]
  rw [orx_zero z b hz hb]
  constructor
  · intro h
    apply List.ext_getElem hl
    intro i h1 h2
    have := h i h1
    simpa [h1, h2] using this
  · rintro rfl i _; rfl

theorem ret_b {a b : Bool} (h : a = b) : Ending.returned (.bool a) = .returned (.bool b) := by rw [h]
theorem orx_succ (z b : List Int) (k : Nat) (p q : Int) (hp : z[k]?.getD 0 = p) (hq : b[k]?.getD 0 = q) : orx z b (k + 1) = bits .or .u8 (orx z b k) (bits .xor .u8 p q) := by subst hp hq; rfl

set_option maxHeartbeats 1000000 in
theorem equal_any (x : Option Addr) (len cap : Nat) (z : List Int) (y : Option Addr) (lb cb : Nat) (b : List Int) (w : World) (hx : Bytes w x len cap z) (hy : Bytes w y lb cb b) (hz : ∀ v ∈ z, 0 ≤ v ∧ v ≤ 255) (hb : ∀ v ∈ b, 0 ≤ v ∧ v ≤ 255) :
    Calls Tryz.prog 49 #[.slice x len cap, .slice y lb cb] w fun e w' => e = .returned (.bool (z == b)) ∧ ∃ n, w' = w.drewN n := by
  have hxl := hx.len_eq
  have hyl := hy.len_eq
  have hle := hx.le
  have htop := hx.top
  by_cases hl : len = lb
  · have HE : VeilE ((orx z b len == 0) = (z == b)) := ⟨by rw [hxl]; exact orx_eq z b hz hb (by omega)⟩
    subst hl
    clear hz hb hxl hyl
    go_enter Tryz.func49, Tryz.ntmps49
    go_wp2
    go_loopw [5, 14] (fun u i wr => ∃ k : Nat, k ≤ len ∧ i = .int .i64 k ∧ u = .int .u8 (orx z b k) ∧ ∃ n, wr = w.drewN n) (fun _ i _ => len - (intOf i).toNat)
    case atStart => exact ⟨0, by omega, rfl, rfl, 0, rfl⟩
    case round =>
      obtain ⟨k, hk, rfl, rfl, n, rfl⟩ := hrel
      by_cases hlt : k < len
      · obtain ⟨b1, o1, hx1, hc1⟩ : ∃ b off, x = some ⟨b, off, none⟩ ∧ ∀ j, j < len → w.cell? ⟨b, off + j, none⟩ = some (.int .u8 (z[j]?.getD 0)) := by
          rcases hx.at_ with h0 | h
          · omega
          · exact h
        obtain ⟨b2, o2, hx2, hc2⟩ : ∃ b' off, y = some ⟨b', off, none⟩ ∧ ∀ j, j < len → w.cell? ⟨b', off + j, none⟩ = some (.int .u8 (b[j]?.getD 0)) := by
          rcases hy.at_ with h0 | h
          · omega
          · exact h
        subst hx1 hx2
        have c1 := hc1 k hlt
        have c2 := hc2 k hlt
        obtain ⟨p, hp⟩ : ∃ p, z[k]?.getD 0 = p := ⟨_, rfl⟩
        obtain ⟨q, hq⟩ : ∃ q, b[k]?.getD 0 = q := ⟨_, rfl⟩
        have HS : VeilE (orx z b (k + 1) = bits .or .u8 (orx z b k) (bits .xor .u8 p q)) := ⟨orx_succ z b k p q hp hq⟩
        rw [hp] at c1
        rw [hq] at c2
        obtain ⟨U, hU⟩ : ∃ q, orx z b k = q := ⟨_, rfl⟩
        rw [hU] at HS ⊢
        have hki : (0 : Int) ≤ (k : Int) := by omega
        have hkl : (k : Int) < (len : Int) := by omega
        clear hc1 hc2 hp hq hU hx hy HE
        go_wp2
        go_quiet ((fail))
        go_wp2
        go_roundw
        case rel => exact ⟨k + 1, by omega, by go_num, by rw [HS.out], n + nq, by simp⟩
        case measure => simp [intOf]; omega
      · obtain rfl : k = len := by omega
        go_wp2
        go_ret
        exact ⟨ret_b HE.out, n, rfl⟩
  · have hne : (z == b) = false := by
      rw [beq_eq_false_iff_ne]
      intro h
      exact hl (by rw [hxl, hyl, h])
    have hli : ¬ ((len : Int) = (lb : Int)) := by omega
    rw [hne]
    clear hxl hyl
    go_enter Tryz.func49, Tryz.ntmps49
    go_wp2
    go_ret
    exact ⟨rfl, 0, rfl⟩
end Go.Proofs.YtlhajphjppjlgaaGreatDoor.S
namespace Go.Proofs.YtlhajphjppjlgaaGreatDoor
open Go.RowKit
set_option linter.unusedSimpArgs false
section
variable {P : Program} {o : Oper} {a : Act} {w : World} {K : Act → World → Prop} {Q : Exit → Act → World → Prop}
theorem wpx_copy (d s : Operand) (dT sT : TypeId) (ho : o.op = .call { callee := .builtin .copy, args := #[d, s], argTypes := #[dT, sT] }) (dv sv v : Value) (w' : World) (hd : a.eval d = dv) (hs : a.eval s = sv) (hrun : (Builtin.copy_ #[dT, sT] o.type #[dv, sv]).run P w = .ok v w') (h : K (a.put o.dst v) w') : o.wp P a w K Q := by
  unfold Oper.wp execOp
  simp only [ho, resolve, invoke, builtin, Sem.run_bind, Sem.run_pure, Result.andThen_ok, List.map_toArray, List.map_cons, List.map_nil, hd, hs, hrun]
  exact h
end
set_option maxRecDepth 20000
theorem bits_xor_u8_nat (a b : Nat) (ha : a < 256) (hb : b < 256) :
    bits .xor .u8 (a : Int) (b : Int) = ((a ^^^ b : Nat) : Int) := by
  have hx : a ^^^ b < 2 ^ 8 := Nat.xor_lt_two_pow (by omega) (by omega)
  have h1 : (BitVec.ofInt 8 (a : Int)).toNat = a := by
    rw [BitVec.ofInt_natCast, BitVec.toNat_ofNat]; exact Nat.mod_eq_of_lt (by omega)
  have h2 : (BitVec.ofInt 8 (b : Int)).toNat = b := by
    rw [BitVec.ofInt_natCast, BitVec.toNat_ofNat]; exact Nat.mod_eq_of_lt (by omega)
  show IntKind.u8.wrap ((BitVec.ofInt 8 (a : Int) ^^^ BitVec.ofInt 8 (b : Int)).toNat : Int) = _
  rw [BitVec.toNat_xor, h1, h2, IntKind.wrap_u8]
  omega
theorem orx_step (u p q : Int) (hu : 0 ≤ u ∧ u ≤ 255) (hp : 0 ≤ p ∧ p ≤ 255) (hq : 0 ≤ q ∧ q ≤ 255) : bits .or .u8 u (bits .xor .u8 p q) = 0 ↔ u = 0 ∧ p = q := by
  obtain ⟨a, rfl⟩ := Int.eq_ofNat_of_zero_le hu.1
  obtain ⟨b, rfl⟩ := Int.eq_ofNat_of_zero_le hp.1
  obtain ⟨c, rfl⟩ := Int.eq_ofNat_of_zero_le hq.1
  have hx : b ^^^ c < 2 ^ 8 := Nat.xor_lt_two_pow (by omega) (by omega)
  rw [bits_xor_u8_nat b c (by omega) (by omega), (bits_nat .u8 8 (by decide) wraps_u8 a (b ^^^ c) (by omega) hx).2]
  constructor
  · intro h
    have h' : a ||| (b ^^^ c) = 0 := by exact_mod_cast h
    have h2 := Nat.or_eq_zero_iff.1 h'
    have h3 : b ^^^ (b ^^^ c) = c := by rw [← Nat.xor_assoc, Nat.xor_self, Nat.zero_xor]
    rw [h2.2, Nat.xor_zero] at h3
    exact ⟨by omega, by omega⟩
  · rintro ⟨h1, h2⟩
    have : b = c := by omega
    subst this
    have : a = 0 := by omega
    subst this
    simp
def orx (z b : List Int) : Nat → Int
  | 0 => 0
  | k + 1 => bits .or .u8 (orx z b k) (bits .xor .u8 (z[k]?.getD 0) (b[k]?.getD 0))
theorem orx_within (z b : List Int) (k : Nat) : 0 ≤ orx z b k ∧ orx z b k ≤ 255 := by
  cases k with
  | zero => exact ⟨by simp [orx], by simp [orx]⟩
  | succ k => exact ⟨bits_lo_u8 _ _ _, bits_hi_u8 _ _ _⟩
theorem getD_byte {z : List Int} (h : ∀ v ∈ z, 0 ≤ v ∧ v ≤ 255) (k : Nat) : 0 ≤ z[k]?.getD 0 ∧ z[k]?.getD 0 ≤ 255 := by
  by_cases hk : k < z.length
  · rw [List.getElem?_eq_getElem hk]; exact h _ (List.getElem_mem hk)
  · rw [List.getElem?_eq_none (by omega)]; simp
theorem orx_zero (z b : List Int) (hz : ∀ v ∈ z, 0 ≤ v ∧ v ≤ 255) (hb : ∀ v ∈ b, 0 ≤ v ∧ v ≤ 255) (k : Nat) : orx z b k = 0 ↔ ∀ i, i < k → z[i]?.getD 0 = b[i]?.getD 0 := by
  induction k with
  | zero => simp [orx]
  | succ k ih =>
    simp only [orx]
    rw [orx_step _ _ _ (orx_within z b k) (getD_byte hz k) (getD_byte hb k), ih]
    constructor
    · rintro ⟨h1, h2⟩ i hi
      by_cases h : i = k
      · subst h; exact h2
      · exact h1 i (by omega)
    · intro h
      exact ⟨fun i hi => h i (by omega), h k (by omega)⟩
theorem orx_eq (z b : List Int) (hz : ∀ v ∈ z, 0 ≤ v ∧ v ≤ 255) (hb : ∀ v ∈ b, 0 ≤ v ∧ v ≤ 255) (hl : z.length = b.length) : (orx z b z.length == 0) = (z == b) := by
  rw [Bool.eq_iff_iff]
  simp only [beq_iff_eq]
  rw [orx_zero z b hz hb]
  constructor
  · intro h
    apply List.ext_getElem hl
    intro i h1 h2
    have := h i h1
    simpa [h1, h2] using this
  · rintro rfl i _; rfl

theorem ret_b {a b : Bool} (h : a = b) : Ending.returned (.bool a) = .returned (.bool b) := by rw [h]
theorem orx_succ (z b : List Int) (k : Nat) (p q : Int) (hp : z[k]?.getD 0 = p) (hq : b[k]?.getD 0 = q) : orx z b (k + 1) = bits .or .u8 (orx z b k) (bits .xor .u8 p q) := by subst hp hq; rfl

set_option maxHeartbeats 1000000 in
theorem equal_any (x : Option Addr) (len cap : Nat) (z : List Int) (y : Option Addr) (lb cb : Nat) (b : List Int) (w : World) (hx : Bytes w x len cap z) (hy : Bytes w y lb cb b) (hz : ∀ v ∈ z, 0 ≤ v ∧ v ≤ 255) (hb : ∀ v ∈ b, 0 ≤ v ∧ v ≤ 255) :
    Calls Tryz.prog 49 #[.slice x len cap, .slice y lb cb] w fun e w' => e = .returned (.bool (z == b)) ∧ ∃ n, w' = w.drewN n := by
  have hxl := hx.len_eq
  have hyl := hy.len_eq
  have hle := hx.le
  have htop := hx.top
  by_cases hl : len = lb
  · have HE : VeilE ((orx z b len == 0) = (z == b)) := ⟨by rw [hxl]; exact orx_eq z b hz hb (by omega)⟩
    subst hl
    clear hz hb hxl hyl
    go_enter Tryz.func49, Tryz.ntmps49
    go_wp2
    go_loopw [5, 14] (fun u i wr => ∃ k : Nat, k ≤ len ∧ i = .int .i64 k ∧ u = .int .u8 (orx z b k) ∧ ∃ n, wr = w.drewN n) (fun _ i _ => len - (intOf i).toNat)
    case atStart => exact ⟨0, by omega, rfl, rfl, 0, rfl⟩
    case round =>
      obtain ⟨k, hk, rfl, rfl, n, rfl⟩ := hrel
      by_cases hlt : k < len
      · obtain ⟨b1, o1, hx1, hc1⟩ : ∃ b off, x = some ⟨b, off, none⟩ ∧ ∀ j, j < len → w.cell? ⟨b, off + j, none⟩ = some (.int .u8 (z[j]?.getD 0)) := by
          rcases hx.at_ with h0 | h
          · omega
          · exact h
        obtain ⟨b2, o2, hx2, hc2⟩ : ∃ b' off, y = some ⟨b', off, none⟩ ∧ ∀ j, j < len → w.cell? ⟨b', off + j, none⟩ = some (.int .u8 (b[j]?.getD 0)) := by
          rcases hy.at_ with h0 | h
          · omega
          · exact h
        subst hx1 hx2
        have c1 := hc1 k hlt
        have c2 := hc2 k hlt
        obtain ⟨p, hp⟩ : ∃ p, z[k]?.getD 0 = p := ⟨_, rfl⟩
        obtain ⟨q, hq⟩ : ∃ q, b[k]?.getD 0 = q := ⟨_, rfl⟩
        have HS : VeilE (orx z b (k + 1) = bits .or .u8 (orx z b k) (bits .xor .u8 p q)) := ⟨orx_succ z b k p q hp hq⟩
        rw [hp] at c1
        rw [hq] at c2
        obtain ⟨U, hU⟩ : ∃ q, orx z b k = q := ⟨_, rfl⟩
        rw [hU] at HS ⊢
        have hki : (0 : Int) ≤ (k : Int) := by omega
        have hkl : (k : Int) < (len : Int) := by omega
        clear hc1 hc2 hp hq hU hx hy HE
        go_wp2
        go_quiet ((fail))
        go_wp2
        go_roundw
        case rel => exact ⟨k + 1, by omega, by go_num, by rw [HS.out], n + nq, by simp⟩
        case measure => simp [intOf]; omega
      · obtain rfl : k = len := by omega
        go_wp2
        go_ret
        exact ⟨ret_b HE.out, n, rfl⟩
  · have hne : (z == b) = false := by
      rw [beq_eq_false_iff_ne]
      intro h
      exact hl (by rw [hxl, hyl, h])
    have hli : ¬ ((len : Int) = (lb : Int)) := by omega
    rw [hne]
    clear hxl hyl
    go_enter Tryz.func49, Tryz.ntmps49
    go_wp2
    go_ret
    exact ⟨rfl, 0, rfl⟩
theorem OwnB.keepT {w w' : World} {base g0 : Nat} {v : Value} {z : List Int} {t : TypeId} {cs : List Value} (h : OwnB w base v z) (hc : CellsAt w g0 t cs) (ht : t ≠ 5) (hk : ∀ g, g ≠ g0 → w'.heap[g]? = w.heap[g]?) : OwnB w' base v z := by
  refine ⟨h.1, ?_⟩
  rcases h.2 with h' | ⟨g, cap, cur, h1, h2, h3, h4⟩
  · exact .inl h'
  · refine .inr ⟨g, cap, cur, h1, h2, ?_, h4⟩
    rw [hk g (fun e => by
      subst e
      unfold CellsAt at hc
      rw [h3] at hc
      simp at hc
      exact ht hc.2.symm)]
    exact h3
set_option maxHeartbeats 1000000 in
theorem gotB_bad (v : Value) (n : Int) (hn0 : n ≠ 0) (w : World) : Calls Tryz.prog 47 #[v, .int .i64 n] w fun e w' => e = .panicked [stopP n] ∧ w = w' := by
  have hn := fpass_bad n hn0 w
  clear hn0
  go_enter Tryz.func47, Tryz.ntmps47
  go_wp2_with (go_at_call 82; refine hn.mono ?_; rintro e w1 ⟨rfl, rfl⟩)
  exact bodyPost_gone ⟨rfl, rfl⟩
set_option maxHeartbeats 4000000 in
theorem triedC_ok (c0 c1 : Value) (R : List Value → World → Prop) (w : World)
    (hs : ∀ W, Below w.heap.size w W → W.heap.size = w.heap.size + 2 → Calls Tryz.prog 44 #[c0, c1] W fun e w' => ∃ cs, e = .returned (.agg cs.toArray) ∧ R cs w' ∧ Below W.heap.size W w')
    (hR : ∀ cs w', R cs w' → cs.length = frZ1.cells.length ∧ ∀ v ∈ cs, v.oneCell' = true) :
    Calls Tryz.prog 43 #[.func (.func 44) #[] #[c0, c1]] w fun e w' => ∃ cs w1, e = .returned (.tuple #[.agg cs.toArray, .int .i64 0]) ∧ R cs w1 ∧ w.heap.size + 2 ≤ w1.heap.size ∧ w1.heap.size = w'.heap.size ∧ (∀ k, k ≠ w.heap.size → k ≠ w.heap.size + 1 → w'.heap[k]? = w1.heap[k]?) ∧ Below w.heap.size w w' := by
  have hmf := make_func
  obtain ⟨Z, hzv, hz1, hZ⟩ : ∃ Z : List Value, (∀ wx, (zeroValue 32).run Tryz.prog wx = .ok (.agg Z.toArray) wx) ∧ ¬ Z.toArray = #[] ∧ Z = frZ1.cells := ⟨frZ1.cells, fun wx => by kernel_rfl, by decide, rfl⟩
  rw [← hZ] at hR
  have hZl : (Tryz.prog.info? 32).map (·.size) = some Z.length := by rw [hZ]; kernel_rfl
  clear hZ
  have hA0 := (CellsAt.new w 32 Z).alloc (.cells #[.int .i64 0] 37)
  have hB0 : Box ((w.alloc (.cells Z.toArray 32)).alloc (.cells #[.int .i64 0] 37)) (w.heap.size + 1) 37 (.int .i64 0) := by
    have : Box ((w.alloc (.cells Z.toArray 32)).alloc (.cells #[.int .i64 0] 37)) (w.alloc (.cells Z.toArray 32)).heap.size 37 (.int .i64 0) := heap_alloc_new _ _
    rw [World.size_alloc] at this
    exact this
  have hW0 : Below w.heap.size w ((w.alloc (.cells Z.toArray 32)).alloc (.cells #[.int .i64 0] 37)) := ((Below.refl _ _).alloc (Nat.le_refl _) _).alloc (by simp) _
  have hs0 : ((w.alloc (.cells Z.toArray 32)).alloc (.cells #[.int .i64 0] 37)).heap.size = w.heap.size + 2 := by simp
  have HS := Veil.mk hs
  have HR := Veil.mk hR
  clear hs hR
  go_enter_defers Tryz.func43, Tryz.ntmps43
  go_upto_region 2 with fail
  refine forget (p := fun y => Code.wp _ _ _ _ y) (fun W0 => Below w.heap.size w W0 ∧ W0.heap.size = w.heap.size + 2 ∧ CellsAt W0 w.heap.size 32 Z ∧ Box W0 (w.heap.size + 1) 37 (.int .i64 0)) ⟨hW0, hs0, hA0, hB0⟩ ?_
  clear hW0 hs0 hA0 hB0 hmf hzv hz1
  rintro W0 ⟨hW0, hs0, hA0, hB0⟩
  have h1 := HS.out W0 hW0 hs0
  have HKP : Veil (∀ w1, Below W0.heap.size W0 w1 → CellsAt w1 w.heap.size 32 Z ∧ Box w1 (w.heap.size + 1) 37 (.int .i64 0) ∧ Below w.heap.size w w1 ∧ w.heap.size + 2 ≤ w1.heap.size) := ⟨fun w1 h => ⟨hA0.farM h, by unfold Box at hB0 ⊢; rw [h.block _ (by omega)]; exact hB0, hW0.trans (h.mono hW0.size), by have := h.size; omega⟩⟩
  have HSB : Veil (∀ (w1 : World) (cs : List Value), Box w1 (w.heap.size + 1) 37 (.int .i64 0) → Box (w1.setRow w.heap.size cs.toArray) (w.heap.size + 1) 37 (.int .i64 0)) := ⟨fun w1 cs h => by unfold Box at h ⊢; rw [setRow_other _ _ _ _ (by omega)]; exact h⟩
  have HIN : Veil (∀ cs : List Value, cs.length = Z.length → (Tryz.prog.info? 32).map (·.size) = some cs.length) := ⟨fun cs h => by rw [h]; exact hZl⟩
  clear hs0 hA0 hB0 hW0 HS hZl
  go_wp2_with (first
    | (go_at_call 44; refine h1.mono ?_; rintro e w1 ⟨cs, rfl, hr1, hb1⟩; obtain ⟨hA1, hB1, hW1, hs1⟩ := HKP.out w1 hb1; obtain ⟨hcl, hc1⟩ := HR.out cs w1 hr1; have hiC := HIN.out cs hcl; have hB2 := HSB.out w1 cs hB1; have cB := hB2.cell; have fB := hB2.frozen; have HR1 := Veil.mk hr1; clear h1 HKP HSB HIN hr1 hB1 hb1)
    | (refine wpList_stv rfl 32 _ _ rfl _ rfl rfl hA1 hiC hcl.symm hc1 ?_))
  refine leaves_cons (f := 81) (args := #[.pointer (some ⟨w.heap.size + 1, 0, none⟩)]) (by simp) (by simp [go_sem]) ?_
  refine (catchF_idle (w.heap.size + 1) _).mono ?_
  rintro e u' w'' ⟨rfl, rfl, rfl⟩
  have hA5 := (hA1.setRow cs).setOther2 ⟨w.heap.size + 1, 0, none⟩ (.int .i64 0) (by show w.heap.size ≠ w.heap.size + 1; omega)
  have hB5 := hB2.set (.int .i64 0)
  have hW5 : Below w.heap.size w ((w1.setRow w.heap.size cs.toArray).setCell ⟨w.heap.size + 1, 0, none⟩ (.int .i64 0)) := (below_setRow hW1 (Nat.le_refl _) _).setCell (by show w.heap.size ≤ w.heap.size + 1; omega) _
  exact ⟨_, resultsF Tryz.results43 _ rfl rfl hA5 hB5 hiC, cs, w1, rfl, HR1.out, hs1, by simp [World.setCell, World.setRow], fun k h1 h2 => by rw [heap_setCell_other _ ⟨w.heap.size + 1, 0, none⟩ k _ h2, setRow_other _ _ _ _ h1], hW5⟩
set_option maxHeartbeats 4000000 in
theorem triedC_bad (c0 c1 : Value) (n : Int) (w : World)
    (hs : ∀ W, Below w.heap.size w W → W.heap.size = w.heap.size + 2 → Calls Tryz.prog 44 #[c0, c1] W fun e w' => e = .panicked [stopP n] ∧ Below W.heap.size W w') :
    Calls Tryz.prog 43 #[.func (.func 44) #[] #[c0, c1]] w fun e w' => e = .returned (.tuple #[.agg frZ1.cells.toArray, .int .i64 n]) ∧ Below w.heap.size w w' := by
  have hmf := make_func
  obtain ⟨Z, hzv, hz1, hZ⟩ : ∃ Z : List Value, (∀ wx, (zeroValue 32).run Tryz.prog wx = .ok (.agg Z.toArray) wx) ∧ ¬ Z.toArray = #[] ∧ Z = frZ1.cells := ⟨frZ1.cells, fun wx => by kernel_rfl, by decide, rfl⟩
  rw [← hZ]
  have hZl : (Tryz.prog.info? 32).map (·.size) = some Z.length := by rw [hZ]; kernel_rfl
  clear hZ
  have hA0 := (CellsAt.new w 32 Z).alloc (.cells #[.int .i64 0] 37)
  have hB0 : Box ((w.alloc (.cells Z.toArray 32)).alloc (.cells #[.int .i64 0] 37)) (w.heap.size + 1) 37 (.int .i64 0) := by
    have : Box ((w.alloc (.cells Z.toArray 32)).alloc (.cells #[.int .i64 0] 37)) (w.alloc (.cells Z.toArray 32)).heap.size 37 (.int .i64 0) := heap_alloc_new _ _
    rw [World.size_alloc] at this
    exact this
  have hW0 : Below w.heap.size w ((w.alloc (.cells Z.toArray 32)).alloc (.cells #[.int .i64 0] 37)) := ((Below.refl _ _).alloc (Nat.le_refl _) _).alloc (by simp) _
  have hs0 : ((w.alloc (.cells Z.toArray 32)).alloc (.cells #[.int .i64 0] 37)).heap.size = w.heap.size + 2 := by simp
  have HS := Veil.mk hs
  clear hs
  go_enter_defers Tryz.func43, Tryz.ntmps43
  go_upto_region 2 with fail
  refine forget (p := fun y => Code.wp _ _ _ _ y) (fun W0 => Below w.heap.size w W0 ∧ W0.heap.size = w.heap.size + 2 ∧ CellsAt W0 w.heap.size 32 Z ∧ Box W0 (w.heap.size + 1) 37 (.int .i64 0)) ⟨hW0, hs0, hA0, hB0⟩ ?_
  clear hW0 hs0 hA0 hB0 hmf hzv hz1
  rintro W0 ⟨hW0, hs0, hA0, hB0⟩
  have h1 := HS.out W0 hW0 hs0
  have HKP : Veil (∀ w1, Below W0.heap.size W0 w1 → CellsAt w1 w.heap.size 32 Z ∧ Box w1 (w.heap.size + 1) 37 (.int .i64 0) ∧ Below w.heap.size w w1 ∧ w.heap.size + 2 ≤ w1.heap.size) := ⟨fun w1 h => ⟨hA0.farM h, by unfold Box at hB0 ⊢; rw [h.block _ (by omega)]; exact hB0, hW0.trans (h.mono hW0.size), by have := h.size; omega⟩⟩
  clear hs0 hA0 hB0 hW0 HS
  go_wp2_with (go_at_call 44; refine h1.mono ?_; rintro e w1 ⟨rfl, hb1⟩)
  obtain ⟨hA1, hB1, hW1, hs1⟩ := HKP.out w1 hb1
  refine leaves_cons (f := 81) (args := #[.pointer (some ⟨w.heap.size + 1, 0, none⟩)]) (by simp) (by simp [go_sem]) ?_
  refine (catchF_any (w.heap.size + 1) _ n w1 hB1).mono ?_
  rintro e u' w'' ⟨rfl, rfl, hB5, hk5, hbl⟩
  have hA5 : CellsAt w'' w.heap.size 32 Z := hA1.congr (hk5 _ (by omega) (by omega))
  exact ⟨_, resultsF Tryz.results43 _ rfl rfl hA5 hB5 hZl, rfl, hW1.trans (hbl w.heap.size (by omega) (by omega))⟩

theorem wpx_gone {P : Program} {o : Oper} {a : Act} {w : World} {K : Act → World → Prop} {Q : Exit → Act → World → Prop} (f : FuncId) (args : Array Value) (hrun : (execOp a.eval o).run P w = .ok (.enter f args) w)
    (hc : Calls P f args w fun e w' => ∃ ch, e = .panicked ch ∧ Q (.panic ch) a w') : o.wp P a w K Q := by
  unfold Oper.wp
  rw [hrun, Oper.upon_enter]
  refine hc.mono fun e w'' hh => ?_
  obtain ⟨ch, rfl, hk⟩ := hh
  exact hk
def checkE (seed : List Int) (F : Fr) (lw : Nat) (ws : List Wp) (lb : Nat) (body : List Int) : Int :=
  if F.author < 8 ∧ mayB F.number = true then (if lw ≤ 64 ∧ lb ≤ 4112 then (if ftagL seed F ws body = F.mac then 0 else 4) else 2) else 2
section
variable (base H : Nat) (own : Int) (seed : List Int) (b : Nat) (M : Int → Int → Option (List Int)) (v : Value) (L : List (Int × Int)) (w : World)
variable (b0 b1 : Nat) (F : Fr) (xw : Option Addr) (lw cw : Nat) (ws : List Wp) (xb : Option Addr) (lb cb : Nat) (body : List Int)
set_option maxHeartbeats 8000000 in
theorem checkSteps_any (c0 : w.cell? ⟨b0, 0, none⟩ = some (.pointer (some ⟨H, 0, none⟩))) (r1 : w.rangeAt b1 0 F.cells) (hR : RingAt w base H own seed b M v L) (hKT : S.KTab w) (hF : FrOk w F xw lw cw ws xb lb cb body) (hm : ∀ x ∈ F.mac, 0 ≤ x ∧ x ≤ 255) :
    Calls Tryz.prog 44 #[.pointer (some ⟨b0, 0, none⟩), .pointer (some ⟨b1, 0, none⟩)] w fun e w' => ((checkE seed F lw ws lb body ≠ 0 ∧ e = .panicked [stopP (checkE seed F lw ws lb body)]) ∨ (checkE seed F lw ws lb body = 0 ∧ e = .returned (.agg F.cells.toArray))) ∧ Below w.heap.size w w' := by
  obtain ⟨Z, hzv, hz1, hZ⟩ : ∃ Z : List Value, (∀ wx, (zeroValue 32).run Tryz.prog wx = .ok (.agg Z.toArray) wx) ∧ ¬ Z.toArray = #[] ∧ Z = frZ1.cells := ⟨frZ1.cells, fun wx => by kernel_rfl, by decide, rfl⟩
  have hZl : Z.length = 70 := by rw [hZ]; rfl
  clear hZ
  obtain ⟨f70, f0, f1, _, _, _, _, f38⟩ := fr_parts F hF.prev hF.mac
  have iF : (Tryz.prog.info? 32).map (·.size) = some F.cells.length := by rw [f70]; exact sizeFrame
  have h1F : ∀ v ∈ F.cells, v.oneCell' = true := fun v hv => by
    simp only [Fr.cells, dotC, List.mem_append, List.mem_cons, List.not_mem_nil, or_false, List.mem_map, hF.wraps, hF.body_] at hv
    rcases hv with ((((rfl | rfl) | rfl | rfl) | ⟨x, _, rfl⟩) | rfl | rfl) | ⟨x, _, rfl⟩ <;> rfl
  have hb0 : Below w.heap.size w (w.alloc (.cells Z.toArray 32)) := (Below.refl _ _).alloc (Nat.le_refl _) _
  have hRS0 := CellsAt.new w 32 Z
  have HS : Veil (∀ W, Below w.heap.size w W → W.cell? ⟨b0, 0, none⟩ = some (.pointer (some ⟨H, 0, none⟩)) ∧ W.rangeAt b1 0 F.cells ∧ W.cell? ⟨b1, 0, none⟩ = some (.int .u8 F.author) ∧ W.cell? ⟨b1, 1, none⟩ = some (.int .u32 F.number)) := ⟨fun W hb => by
    have r := rangeAt_below r1 hb
    refine ⟨cell_below c0 hb, r, ?_, ?_⟩
    · have := r 0 _ f0; simpa using this
    · have := r 1 _ f1; simpa using this⟩
  have HMC : Veil (∀ W, Below w.heap.size w W → Bytes W (some ⟨b1, 38, none⟩) 32 32 F.mac) := ⟨fun W hb => by
    have r := rangeAt_below r1 hb
    refine ⟨by rw [hF.mac], Nat.le_refl _, by omega, (fun h => by cases h), .inr ⟨b1, 38, rfl, fun j hj => ?_⟩⟩
    have hj' : j < F.mac.length := by rw [hF.mac]; exact hj
    have e : F.cells[38 + j]? = some (.int .u8 F.mac[j]) := by
      have := congrArg (fun l => l[j]?) f38
      simp only [List.getElem?_take_of_lt hj, List.getElem?_drop, List.getElem?_map, List.getElem?_eq_getElem hj', Option.map_some] at this
      exact this
    have := r (38 + j) _ e
    rw [Nat.zero_add] at this
    rw [this, List.getElem?_eq_getElem hj']; rfl⟩
  have HR := Veil.mk (fun W (hb : Below w.heap.size w W) => hR.far hb)
  have HKT : Veil (∀ W, Below w.heap.size w W → S.KTab W) := ⟨fun W hb => hKT.below hb⟩
  have HF := Veil.mk (fun W (hb : Below w.heap.size w W) => hF.below hb)
  have HND := Veil.mk fneed_ok
  have HNB := Veil.mk fneed_bad
  have HMN := Veil.mk (mayNum_any F.number)
  have HCE : Veil (checkE seed F lw ws lb body = if F.author < 8 ∧ mayB F.number = true then (if lw ≤ 64 ∧ lb ≤ 4112 then (if ftagL seed F ws body = F.mac then 0 else 4) else 2) else 2) := ⟨rfl⟩
  have HMB := Veil.mk hm
  generalize checkE seed F lw ws lb body = CE at HCE ⊢
  clear c0 r1 hR hKT hm f0 f1 f38
  have uF := Tryz.underlying32
  go_enter Tryz.func44, Tryz.ntmps44
  go_upto_region 1 with fail
  refine forget (p := fun y => Code.wp _ _ _ _ y) (fun W => Below w.heap.size w W ∧ CellsAt W w.heap.size 32 Z) ⟨hb0, hRS0⟩ ?_
  clear hb0 hRS0 hzv hz1
  rintro W ⟨hb, hRS⟩
  obtain ⟨c0, rF, cA, cN⟩ := HS.out W hb
  have hn1 := HND.out 1 W
  go_upto_region 2 with (go_at_call 45; refine hn1.mono ?_; rintro e w1 ⟨⟨q1, rfl⟩, rfl⟩; clear hn1)
  have hmn := HMN.out W
  by_cases ha : F.author < 8
  rotate_left
  · have HE : Veil (CE = 2) := ⟨by rw [HCE.out, if_neg (fun q => ha q.1)]⟩
    have hn2 := HNB.out 2 W
    generalize F.author = FA at cA ha
    go_wp2_with (first
      | (go_at_call 45; refine hn2.mono ?_; rintro e w1 ⟨rfl, rfl⟩))
    refine bodyPost_gone ?_
    exact ⟨Or.inl ⟨by rw [HE.out]; decide, by rw [HE.out]⟩, hb⟩
  by_cases hmay : mayB F.number = true
  rotate_left
  · have hmf : mayB F.number = false := by simpa using hmay
    have HE : Veil (CE = 2) := ⟨by rw [HCE.out, if_neg (fun q => hmay q.2)]⟩
    rw [hmf] at hmn
    clear hmay hmf
    have hn2 := HNB.out 2 W
    go_wp2_with (first
      | (go_at_call 46; refine hmn.mono ?_; rintro e w1 ⟨rfl, rfl⟩; clear hmn)
      | (go_at_call 45; refine hn2.mono ?_; rintro e w1 ⟨rfl, rfl⟩))
    refine bodyPost_gone ?_
    exact ⟨Or.inl ⟨by rw [HE.out]; decide, by rw [HE.out]⟩, hb⟩
  have HCE1 : Veil (CE = if lw ≤ 64 ∧ lb ≤ 4112 then (if ftagL seed F ws body = F.mac then 0 else 4) else 2) := ⟨by rw [HCE.out, if_pos ⟨ha, hmay⟩]⟩
  rw [hmay] at hmn
  clear hmay
  have hn2 := HND.out 2 W
  go_upto_region 3 with (first
    | (go_at_call 46; refine hmn.mono ?_; rintro e w1 ⟨rfl, rfl⟩; clear hmn)
    | (go_at_call 45; refine hn2.mono ?_; rintro e w1 ⟨⟨q2, rfl⟩, rfl⟩; clear hn2))
  clear ha
  by_cases hl : lw ≤ 64 ∧ lb ≤ 4112
  rotate_left
  · have HE : Veil (CE = 2) := ⟨by rw [HCE1.out, if_neg hl]⟩
    have hfr := Frame_long F xw lw cw xb lb cb W hF.prev hF.mac hF.wraps hF.body_ (by omega)
    have HGB := Veil.mk (fun V => gotB_bad (.slice none 0 0) 2 (by decide) V)
    clear hl
    go_wp2_with (first
      | (refine wpList_ldv rfl 32 _ rfl _ _ rfl F.cells rF uF rfl iF ?_)
      | (go_at_call 14; refine hfr.mono ?_; rintro e w1 ⟨rfl, hb1⟩; have hg := HGB.out w1; clear hfr)
      | (go_at_call 47; refine hg.mono ?_; rintro e w2 ⟨rfl, rfl⟩))
    refine bodyPost_gone ?_
    exact ⟨Or.inl ⟨by rw [HE.out]; decide, by rw [HE.out]⟩, hb.trans (hb1.mono hb.size)⟩
  have HCE2 : Veil (CE = if ftagL seed F ws body = F.mac then 0 else 4) := ⟨by rw [HCE1.out, if_pos hl]⟩
  have hfr := Frame_any F xw lw cw ws xb lb cb body W hF.prev hF.mac hF.wraps (HF.out W hb).hw hF.body_ (HF.out W hb).hb hl.1 hl.2
  have HGB := Veil.mk gotB_ok
  have HTG : Veil (∀ V, Below w.heap.size w V → Calls Tryz.prog 48 #[.pointer (some ⟨H, 0, none⟩), .agg F.cells.toArray] V fun e w' => e = .returned (.agg (row .u8 (ftagL seed F ws body))) ∧ Below V.heap.size V w') := ⟨fun V hb => ftag_any base H own seed b M v L V (HR.out V hb) (HKT.out V hb) F xw lw cw ws xb lb cb body (HF.out V hb) hl.1 (by omega)⟩
  clear hl HCE HCE1
  obtain ⟨ZK, hZKl, hZK⟩ : ∃ Z : List Int, Z.length = 32 ∧ Z = List.replicate 32 0 := ⟨_, rfl, rfl⟩
  have hzv : ∀ wx, (zeroValue 23).run Tryz.prog wx = .ok (.agg (row .u8 ZK)) wx := fun wx => by rw [hZK]; kernel_rfl
  have hz1 : ¬ (row .u8 ZK) = #[] := by intro h; have := congrArg Array.size h; rw [row_size] at this; simp at this; rw [this] at hZKl; simp at hZKl
  have hTl := ftagL_length seed F ws body
  have HTI := Veil.mk (ftagL_in seed F ws body)
  generalize ftagL seed F ws body = TG at HCE2 HTG hTl HTI
  clear hZK
  have HBB : Veil (∀ w1, Below W.heap.size W w1 → Below w.heap.size w w1 ∧ CellsAt w1 w.heap.size 32 Z) := ⟨fun w1 h => ⟨hb.trans (h.mono hb.size), hRS.farM h⟩⟩
  go_upto_region 4 with (first
    | (refine wpList_ldv rfl 32 _ rfl _ _ rfl F.cells rF uF rfl iF ?_)
    | (go_at_call 14; refine hfr.mono ?_; rintro e w1 ⟨v1, rfl, -, hb1⟩; have hg := HGB.out v1 w1; clear hfr)
    | (go_at_call 47; refine hg.mono ?_; rintro e w2 ⟨rfl, rfl⟩; clear hg))
  refine forget (p := fun y => Code.wp _ _ _ _ y) (fun V => Below w.heap.size w V ∧ CellsAt V w.heap.size 32 Z) (HBB.out w1 hb1) ?_
  clear hb1 HBB hb hRS c0 rF cA cN
  clear w1 W
  rintro W ⟨hb, hRS⟩
  obtain ⟨c0, rF, -, -⟩ := HS.out W hb
  have htg := HTG.out W hb
  go_upto_region 5 with (first
    | (refine wpList_ldv rfl 32 _ rfl _ _ rfl F.cells rF uF rfl iF ?_)
    | (go_at_call 48; refine htg.mono ?_; rintro e w1 ⟨rfl, hb1⟩; have hk1 := Holds.new w1 .u8 23 ZK; clear htg)
    | (refine wpList_st rfl 23 _ _ rfl _ rfl rfl hk1 (by rw [hTl]; exact sizeKeyD) (by rw [hZKl, hTl]) ?_))
  have hb2 : Below w1.heap.size w1 ((w1.alloc (.cells (row .u8 ZK) 23)).setRow w1.heap.size (row .u8 TG)) := below_setRow ((Below.refl _ _).alloc (Nat.le_refl _) _) (Nat.le_refl _) _
  have hb12 := hb1.trans (hb2.mono hb1.size)
  refine forget (p := fun y => Code.wp _ _ _ _ y) (fun V => Below w.heap.size w V ∧ CellsAt V w.heap.size 32 Z ∧ Holds V w1.heap.size .u8 23 TG) ⟨hb.trans (hb12.mono hb.size), hRS.farM hb12, hk1.setRow _⟩ ?_
  clear hb12 hb2 hk1 hb1 c0 rF hb hRS hzv hz1 HTG
  obtain ⟨g, hg⟩ : ∃ q, w1.heap.size = q := ⟨_, rfl⟩
  rw [hg]
  clear hg
  clear w1 W
  rintro W ⟨hb, hRS, hTg⟩
  have heq := S.equal_any (some ⟨g, 0, none⟩) 32 32 TG (some ⟨b1, 38, none⟩) 32 32 F.mac W.drew ((hTg.below (Below.refl W.heap.size W).drew hTg.lt).bytes (by rw [hTl]) (by rw [hTl]; omega)).toS (HMC.out W.drew hb.drew).toS HTI.out HMB.out
  have HBW : Veil (∀ m, Below w.heap.size w (W.drew.drewN m) ∧ CellsAt (W.drew.drewN m) w.heap.size 32 Z) := ⟨fun m => ⟨below_drewN hb.drew m, hRS.congr (by rfl)⟩⟩
  refine wp_region_gateT (fun _ => True) (fun _ => True) 99 (by kernel_rfl) ?_
  have hT := trivial
  have hS := trivial
  refine gh 0 ?_ rfl (by kernel_rfl) (fun _ _ _ h => h) hT hS ?_ ?_
  rotate_left
  · intro wx hSw; go_split_ands; go_simp; try with_reducible rfl
  simp only [Act.put, gA, gS, gZ, sI, sZ, sS]
  refine gh 1 ?_ rfl (by kernel_rfl) (fun _ _ _ h => h) hT hS ?_ ?_
  rotate_left
  · intro wx hSw; go_split_ands; go_simp; try with_reducible rfl
  simp only [Act.put, gA, gS, gZ, sI, sZ, sS]
  refine gh 2 ?_ rfl (by kernel_rfl) (fun _ _ _ h => h) hT hS ?_ ?_
  rotate_left
  · intro wx hSw; go_split_ands; go_simp; try with_reducible rfl
  simp only [Act.put, gA, gS, gZ, sI, sZ, sS]
  refine wpAnyT_one (i := 3) rfl (by kernel_rfl) (by kernel_rfl) (fun K hK => ?_)
  refine wpx_call _ _ (by kernel_rfl) (heq.mono ?_)
  rintro e w2 ⟨rfl, m, rfl⟩
  refine ⟨_, rfl, ?_⟩
  by_cases hq : TG = F.mac
  rotate_left
  · have hqf : (TG == F.mac) = false := by simpa using hq
    have HE : Veil (CE = 4) := ⟨by rw [HCE2.out, if_neg hq]⟩
    rw [hqf]
    refine hK.out _ _ hT (fun _ => hS) ?_
    clear hK K
    try simp only [Act.put, gA, gS, gZ, sI, sZ, sS]
    refine wpAnyT_one (i := 4) rfl (by kernel_rfl) (by kernel_rfl) (fun K hK => ?_)
    have hn := HNB.out 4 (W.drew.drewN m)
    obtain ⟨hbm, -⟩ := HBW.out m
    refine wpx_gone _ _ (by kernel_rfl) (hn.mono ?_)
    rintro e w3 ⟨rfl, rfl⟩
    refine ⟨_, rfl, ?_⟩
    simp only [Exit.then]
    refine bodyPost_gone ?_
    exact ⟨Or.inl ⟨by rw [HE.out]; decide, by rw [HE.out]⟩, hbm⟩
  · have hqf : (TG == F.mac) = true := by simpa using hq
    have HE : Veil (CE = 0) := ⟨by rw [HCE2.out, if_pos hq]⟩
    rw [hqf]
    refine hK.out _ _ hT (fun _ => hS) ?_
    clear hK K
    try simp only [Act.put, gA, gS, gZ, sI, sZ, sS]
    refine wpAnyT_one (i := 4) rfl (by kernel_rfl) (by kernel_rfl) (fun K hK => ?_)
    have hn := HND.out 4 (W.drew.drewN m)
    obtain ⟨hbm, hRSm⟩ := HBW.out m
    refine wpx_call _ _ (by kernel_rfl) (hn.mono ?_)
    rintro e w3 ⟨⟨q4, rfl⟩, rfl⟩
    refine ⟨_, rfl, ?_⟩
    refine hK.out _ _ hT (fun _ => hS) ?_
    clear hK K
    try simp only [Act.put, gA, gS, gZ, sI, sZ, sS]
    refine wpAnyT_done (by kernel_rfl) ?_ _
    clear hT hS heq hn HBW hq hqf
    refine forget (p := fun y => Exit.then _ _ _ _ y) (fun V => Below w.heap.size w V ∧ CellsAt V w.heap.size 32 Z) ⟨hbm, hRSm⟩ ?_
    clear hbm hRSm hb hRS hTg
    clear W
    rintro V ⟨hb, hRS⟩
    obtain ⟨-, rF, -, -⟩ := HS.out V hb
    go_wp2_with (first
      | (refine wpList_ldv rfl 32 _ rfl _ _ rfl F.cells rF uF rfl iF ?_)
      | (refine wpList_stv rfl 32 _ _ rfl _ rfl rfl hRS iF (by rw [hZl, f70]) h1F ?_))
    refine bodyPost_ret (results_cells (Tryz.results44) _ rfl (hRS.setRow F.cells) Tryz.underlying32 rfl iF) rfl ⟨Or.inr ⟨HE.out, rfl⟩, below_setRow hb (Nat.le_refl _) _⟩
set_option maxHeartbeats 8000000 in
theorem Check_any (hR : RingAt w base H own seed b M v L) (hKT : S.KTab w) (hF : FrOk w F xw lw cw ws xb lb cb body) (hm : ∀ x ∈ F.mac, 0 ≤ x ∧ x ≤ 255) :
    Calls Tryz.prog 20 #[.pointer (some ⟨H, 0, none⟩), .agg F.cells.toArray] w fun e w' => e = .returned (.int .i64 (checkE seed F lw ws lb body)) ∧ Below w.heap.size w w' := by
  obtain ⟨Z, hzv, hz1, hZ⟩ : ∃ Z : List Value, (∀ wx, (zeroValue 32).run Tryz.prog wx = .ok (.agg Z.toArray) wx) ∧ ¬ Z.toArray = #[] ∧ Z = frZ1.cells := ⟨frZ1.cells, fun wx => by kernel_rfl, by decide, rfl⟩
  have h70 : Z.length = 70 := by rw [hZ]; rfl
  have h1Z : ∀ v ∈ Z, v.oneCell' = true := by rw [hZ]; decide
  have f70 := (fr_parts F hF.prev hF.mac).1
  have h1F : ∀ v ∈ F.cells, v.oneCell' = true := fun v hv => by
    simp only [Fr.cells, dotC, List.mem_append, List.mem_cons, List.not_mem_nil, or_false, List.mem_map, hF.wraps, hF.body_] at hv
    rcases hv with ((((rfl | rfl) | rfl | rfl) | ⟨x, _, rfl⟩) | rfl | rfl) | ⟨x, _, rfl⟩ <;> rfl
  have a0 := (CellsAt.new w 24 [.pointer (some ⟨H, 0, none⟩)]).alloc (.cells F.cells.toArray 32)
  have a1 := CellsAt.new (w.alloc (.cells #[.pointer (some ⟨H, 0, none⟩)] 24)) 32 F.cells
  rw [World.size_alloc] at a1
  have hB : Below w.heap.size w ((w.alloc (.cells #[.pointer (some ⟨H, 0, none⟩)] 24)).alloc (.cells F.cells.toArray 32)) := ((Below.refl _ _).alloc (Nat.le_refl _) _).alloc (by simp) _
  have HST : ∀ V, Below ((w.alloc (.cells #[.pointer (some ⟨H, 0, none⟩)] 24)).alloc (.cells F.cells.toArray 32)).heap.size ((w.alloc (.cells #[.pointer (some ⟨H, 0, none⟩)] 24)).alloc (.cells F.cells.toArray 32)) V → _ := fun V hb => checkSteps_any base H own seed b M v L V w.heap.size (w.heap.size + 1) F xw lw cw ws xb lb cb body (cell_below (a0.cell 0) hb) (rangeAt_below a1.wholeM hb) (hR.far (hB.trans (hb.mono hB.size))) (hKT.below (hB.trans (hb.mono hB.size))) (hF.below (hB.trans (hb.mono hB.size))) hm
  have htr : Calls Tryz.prog 43 #[.func (.func 44) #[] #[.pointer (some ⟨w.heap.size, 0, none⟩), .pointer (some ⟨w.heap.size + 1, 0, none⟩)]] ((w.alloc (.cells #[.pointer (some ⟨H, 0, none⟩)] 24)).alloc (.cells F.cells.toArray 32)) fun e w' => ∃ cs : List Value, e = .returned (.tuple #[.agg cs.toArray, .int .i64 (checkE seed F lw ws lb body)]) ∧ (cs.length = 70 ∧ ∀ v ∈ cs, v.oneCell' = true) ∧ Below w.heap.size w w' := by
    by_cases h0 : checkE seed F lw ws lb body = 0
    · refine (triedC_ok _ _ (fun cs _ => cs = F.cells) _ (fun V hb _ => (HST V hb).mono ?_) ?_).mono ?_
      · rintro e w' ⟨h1 | h1, hb'⟩
        · exact absurd h0 h1.1
        · exact ⟨F.cells, h1.2, rfl, hb'⟩
      · rintro cs w' rfl
        exact ⟨by rw [f70]; rfl, h1F⟩
      · rintro e w' ⟨cs, w1, he, rfl, _, _, _, hb'⟩
        rw [h0]
        exact ⟨_, he, ⟨f70, h1F⟩, hB.trans (hb'.mono hB.size)⟩
    · refine (triedC_bad _ _ (checkE seed F lw ws lb body) _ (fun V hb _ => (HST V hb).mono ?_)).mono ?_
      · rintro e w' ⟨h1 | h1, hb'⟩
        · exact ⟨h1.2, hb'⟩
        · exact absurd h1.1 h0
      · rintro e w' ⟨he, hb'⟩
        rw [← hZ] at he
        exact ⟨Z, he, ⟨h70, h1Z⟩, hB.trans (hb'.mono hB.size)⟩
  have hmf := make_func
  have iF70 : (Tryz.prog.info? 32).map (·.size) = some 70 := sizeFrame
  clear hZ a0 a1 hB HST hR hKT hF hm f70 h1F
  generalize checkE seed F lw ws lb body = CE at htr ⊢
  generalize F.cells = FC at htr ⊢
  go_enter Tryz.func20, Tryz.ntmps20
  go_wp2_with (first
    | (go_at_call 43; refine htr.mono ?_; rintro e w1 ⟨cs, rfl, ⟨hcl, hc1⟩, hb1⟩; have hO1 := CellsAt.new w1 32 Z)
    | (refine wpList_stv rfl 32 _ _ rfl _ rfl rfl hO1 (by rw [hcl]; exact iF70) (by rw [h70, hcl]) hc1 ?_))
  go_ret
  exact ⟨rfl, below_setRow (hb1.alloc hb1.size _) hb1.size _⟩
end
set_option linter.unusedSectionVars false
section
variable {P : Program} {d : Nat} {t : TypeId}
end
section
variable {P : Program} {kt : TypeId} {α : Type} [DecidableEq α] {enc : α → Value} {ok : α → Prop}
theorem KeyEnc.neq (K : KeyEnc P kt enc ok) {cx cy : Array Value} {m : Nat} (hm : m ≤ 10000) (hk : P.keyTypeAt m kt = true) (hwide : (match P.underlying kt with | some (.array _ _) | some (.struct _) => true | _ => false) = true) (x y : α) (hx : ok x) (hy : ok y) (ex : enc x = .agg cx) (ey : enc y = .agg cy) (w : World) :
    (binOp .neq kt (.agg cx) (.agg cy)).run P w = .ok (.bool (!decide (x = y))) w := by
  have h := K.equal hm hk hwide x y hx hy w
  rw [ex, ey] at h
  rw [run_neq_struct, show Op.equalIn 10000 kt (.agg cx) (.agg cy) = Op.equal kt (.agg cx) (.agg cy) from rfl, h]; rfl
end
theorem TFr.frm {W : World} {seed k : List Int} {own n : Int} {prev : List Int} {E : Ev} {F : Fr} (h : TFr W seed k own n prev E F) : frameL F [] (tBody k own n prev E) = tFrm seed k own n prev E := by
  unfold tFrm frameL
  rw [openL_t (F := F) (G := tG seed k own n prev E) h.author h.number h.ea h.es h.prv, h.mac]
  rfl
theorem TFr.checkE {W : World} {seed k : List Int} {own n : Int} {prev : List Int} {E : Ev} {F : Fr} (h : TFr W seed k own n prev E F) (ho : own < 8) (hn : mayB n = true) : checkE seed F 0 [] 144 (tBody k own n prev E) = 0 := by
  unfold Go.Proofs.YtlhajphjppjlgaaGreatDoor.checkE
  have e1 : ftagL seed F [] (tBody k own n prev E) = F.mac := by
    rw [h.mac]
    unfold tMac ftagL
    rw [openL_t (F := F) (G := tF own n prev) h.author h.number h.ea h.es h.prv, h.author]
    rfl
  rw [e1, h.author, h.number, if_pos ⟨ho, hn⟩, if_pos ⟨by omega, by omega⟩, if_pos rfl]
theorem TFr.Check {V : World} {seed k : List Int} {own n : Int} {prev : List Int} {E : Ev} {F : Fr} (h : TFr V seed k own n prev E F) (ho : own < 8) (hn : mayB n = true) (base H : Nat) (o : Int) (b : Nat) (M : Int → Int → Option (List Int)) (v : Value) (L : List (Int × Int)) (hR : RingAt V base H o seed b M v L) (hKT : S.KTab V) :
    Calls Tryz.prog 20 #[.pointer (some ⟨H, 0, none⟩), .agg F.cells.toArray] V fun e w'' => e = .returned (.int .i64 0) ∧ Below V.heap.size V w'' := by
  obtain ⟨xw, cw, xb, cb, hF⟩ := h.frin
  refine (Check_any base H o seed b M v L V F xw 0 cw [] xb 144 cb _ hR hKT ⟨hF.prev, hF.mac, hF.wraps, hF.body_, hF.hw, hF.hb⟩ hF.inF.mac).mono ?_
  rw [h.checkE ho hn]
  exact fun e2 w2 h => h
def headL (b : List Int) : List Int := [((b.length / 256 % 256 : Nat) : Int), ((b.length % 256 : Nat) : Int)] ++ (S.sumL b).take 8
def recL (b : List Int) : List Int := headL b ++ b
theorem headL_length (b : List Int) : (headL b).length = 10 := by simp [headL, S.sumL_length]
theorem recL_length (b : List Int) : (recL b).length = 10 + b.length := by rw [recL, List.length_append, headL_length]
def dtoldN (z : List Int) : Nat := 10 + (z[0]?.getD 0).toNat * 256 + (z[1]?.getD 0).toNat
def firstN (z : List Int) : Nat :=
  if z.length < 10 then 0 else if z.length < dtoldN z then 0 else if z.take 10 = headL ((z.drop 10).take (dtoldN z - 10)) then dtoldN z else 0
theorem firstN_le (z : List Int) : firstN z ≤ z.length := by
  unfold firstN
  split
  · omega
  · split
    · omega
    · split <;> omega
theorem firstN_ge (z : List Int) (h : firstN z ≠ 0) : 10 ≤ firstN z := by
  unfold firstN at h ⊢
  split at h
  · omega
  · split at h
    · omega
    · split at h
      · rename_i h1 h2 h3
        rw [if_neg h1, if_neg h2, if_pos h3]; unfold dtoldN; omega
      · omega
def wholeN (z : List Int) : List Nat :=
  if firstN z = 0 then [] else firstN z :: wholeN (z.drop (firstN z))
termination_by z.length
decreasing_by
  rename_i h
  have := firstN_le z
  rw [List.length_drop]; omega
def sumK (ns : List Nat) (k : Nat) : Nat := (ns.take k).sum
theorem wholeN_none (z : List Int) (h : firstN z = 0) : wholeN z = [] := by rw [wholeN, if_pos h]
theorem wholeN_some (z : List Int) (h : firstN z ≠ 0) : wholeN z = firstN z :: wholeN (z.drop (firstN z)) := by rw [wholeN, if_neg h]
theorem sumK_zero (ns : List Nat) : sumK ns 0 = 0 := rfl
theorem sumK_succ (ns : List Nat) (k : Nat) (h : k < ns.length) : sumK ns (k + 1) = sumK ns k + ns[k] := by
  unfold sumK; rw [List.take_succ_eq_append_getElem h, List.sum_append]; simp
theorem sumK_cons (n : Nat) (ns : List Nat) (k : Nat) : sumK (n :: ns) (k + 1) = n + sumK ns k := by simp [sumK]
theorem wholeN_at : ∀ (N : Nat) (z : List Int), (wholeN z).length = N → ∀ k, (∀ h : k < (wholeN z).length, firstN (z.drop (sumK (wholeN z) k)) = (wholeN z)[k]) ∧ (k = (wholeN z).length → firstN (z.drop (sumK (wholeN z) k)) = 0) ∧ (k ≤ (wholeN z).length → sumK (wholeN z) k ≤ z.length)
  | 0, z, hN, k => by
    have h0 : firstN z = 0 := by
      by_cases h : firstN z = 0
      · exact h
      · rw [wholeN_some z h] at hN; simp at hN
    rw [wholeN_none z h0]
    refine ⟨fun h => by simp at h, fun h => ?_, fun h => ?_⟩
    · simp [sumK, h0]
    · simp [sumK]
  | N + 1, z, hN, k => by
    have h0 : firstN z ≠ 0 := fun h => by rw [wholeN_none z h] at hN; simp at hN
    have hle := firstN_le z
    have hN' : (wholeN (z.drop (firstN z))).length = N := by rw [wholeN_some z h0] at hN; simpa using hN
    cases k with
    | zero =>
      rw [sumK_zero, List.drop_zero]
      refine ⟨fun h => by simp only [wholeN_some z h0, gZ], fun h => by rw [hN] at h; omega, fun _ => Nat.zero_le _⟩
    | succ k =>
      obtain ⟨ih1, ih2, ih3⟩ := wholeN_at N (z.drop (firstN z)) hN' k
      rw [List.drop_drop] at ih1 ih2
      have e : sumK (wholeN z) (k + 1) = firstN z + sumK (wholeN (z.drop (firstN z))) k := by rw [wholeN_some z h0, sumK_cons]
      rw [e]
      refine ⟨fun h => ?_, fun h => ih2 (by rw [hN] at h; omega), fun h => ?_⟩
      · rw [ih1 (by rw [hN] at h; omega)]
        simp only [wholeN_some z h0, gS]
      · have := ih3 (by rw [hN] at h; omega)
        rw [List.length_drop] at this; omega
theorem wholeN_pos (z : List Int) (k : Nat) (h : k < (wholeN z).length) : 10 ≤ (wholeN z)[k] := by
  have h1 := (wholeN_at _ z rfl k).1 h
  have h2 := (wholeN_at _ z rfl (k + 1)).2.2 (by omega)
  rw [sumK_succ _ _ h] at h2
  have : ∀ q : List Int, firstN q = (wholeN z)[k] → (wholeN z)[k] ≠ 0 → 10 ≤ (wholeN z)[k] := fun q hq h0 => by rw [← hq] at h0 ⊢; exact firstN_ge q h0
  refine this _ h1 fun h0 => ?_
  -- a length of 0 stands nowhere in the row
  have hall : ∀ (N : Nat) (q : List Int), (wholeN q).length = N → ∀ n ∈ wholeN q, n ≠ 0 := fun N => by
    induction N with
    | zero => intro q hq n hn; rw [List.length_eq_zero_iff.1 hq] at hn; cases hn
    | succ N ih =>
      intro q hq n hn
      by_cases hf : firstN q = 0
      · rw [wholeN_none q hf] at hq; simp at hq
      · rw [wholeN_some q hf] at hq hn
        rcases List.mem_cons.1 hn with rfl | hn
        · exact hf
        · exact ih _ (by simpa using hq) n hn
  exact hall _ z rfl _ (List.getElem_mem h) h0
def dataK (z : List Int) (k : Nat) : List Int := (z.drop (sumK (wholeN z) k + 10)).take ((wholeN z)[k]?.getD 0 - 10)
def recsL (z : List Int) : List (List Int) := (List.range (wholeN z).length).map (dataK z)
def trimN (z : List Int) : Nat := sumK (wholeN z) (wholeN z).length
theorem trimN_le (z : List Int) : trimN z ≤ z.length := (wholeN_at _ z rfl _).2.2 (Nat.le_refl _)
def disB (z : List Int) : Prop := ∀ v ∈ z, 0 ≤ v ∧ v ≤ 255
section
variable {P : Program} {md : Region.Mode} {ops : Array Oper} {Q : Exit → Act → World → Prop} {l n : Nat}
theorem wpR_op {o : Oper} {a : Act} {w : World} {K : Act → World → Prop} (hd : ∀ c, o.op ≠ .defer c) (h : o.wp P a w K Q) : o.wpIn (Fence.wide.inRound l) n P a w K Q := by
  refine ⟨fun _ _ => trivial, ?_⟩
  rw [show (Fence.wide.inRound l).round = some l from rfl, Oper.semAt_some l _ _ hd]
  unfold Oper.wp at h
  generalize (execOp a.eval o).run P w = r at h
  cases r with
  | ok x w' =>
    cases x with
    | value v => exact h
    | skip => exact h
    | defer d => exact h
    | enter f args => exact ⟨(fun h => by cases h), CallsIn.inRound l (callsIn_wide.2 h)⟩
    | row r args => exact ⟨(fun h => by cases h), fun c cs _ => let ⟨v, w', r, s⟩ := h c cs; ⟨v, w', r, stepsIn_wide.2 s⟩⟩
    | round l f t c d => exact h.elim
    | _ => exact h
  | halt x w' => cases x <;> exact h
theorem wpR_any (hL : ¬ LetsOut Q) (hd : ∀ (j : Nat) (o : Oper), ops[j]? = some o → ∀ c, o.op ≠ .defer c) : ∀ (fuel : Nat) (listed : Array Bool) (a : Act) (w : World), wpAny P md ops Q fuel listed a w → wpAnyIn (Fence.wide.inRound l) n P md ops Q fuel listed a w
  | 0, _, _, _, h => h
  | fuel + 1, listed, a, w, h => ⟨h.1, fun i hi => by
    have h1 := h.2 i hi
    unfold wpOp at h1
    unfold wpOpIn
    cases ho : ops[i]? with
    | none =>
      simp only [ho] at h1
      exact wpR_any hL hd fuel _ a w h1
    | some o =>
      simp only [ho] at h1
      simp only
      by_cases hw : Region.wanted o (yielded ops a.tmps) = true
      · rw [if_pos hw] at h1 ⊢
        rcases h1 with h1 | h1
        · exact Oper.wpIn_mono (fun a w h => wpR_any hL hd fuel _ a w h) (wpR_op (hd i o ho) h1)
        · exact absurd h1.2 hL
      · rw [if_neg hw] at h1 ⊢
        exact ⟨fun _ _ => trivial, wpR_any hL hd fuel _ _ w h1⟩⟩
theorem noDefer_of (h : (ops.all fun o => match o.op with | .defer _ => false | _ => true) = true) : ∀ (j : Nat) (o : Oper), ops[j]? = some o → ∀ c, o.op ≠ .defer c := fun j o ho c e => by
  have hm : o ∈ ops := Array.mem_of_getElem? ho
  have := (Array.all_eq_true_iff_forall_mem.1 h) o hm
  rw [e] at this
  cases this
theorem wpR_gate {id : Nat} {a : Act} {w : World} (S : World → Prop) (D : Nat) (hm : P.follows .mixedOrders = true) (hL : ¬ LetsOut Q) (hd : (ops.all fun o => match o.op with | .defer _ => false | _ => true) = true)
    (h : wpAnyG P .any ops Q S D ops.size (Array.replicate ops.size false) a w.drew) : (Code.region id ops true).wpIn (Fence.wide.inRound l) n P Q a w :=
  wpIn_region_any hm (wpR_any hL (noDefer_of hd) _ _ _ _ (wpAny_of_gate _ _ _ _ h))
end
def CellsD (w : World) (g : Nat) (t : TypeId) (cs : List Value) : Prop := w.heap[g]? = some (.cells cs.toArray t (0, 0))
theorem CellsD.new (w : World) (t : TypeId) (cs : List Value) : CellsD (w.alloc (.cells cs.toArray t)) w.heap.size t cs := heap_alloc_new w _
theorem CellsD.lt {w : World} {g : Nat} {t : TypeId} {cs : List Value} (h : CellsD w g t cs) : g < w.heap.size := (Array.getElem?_eq_some_iff.1 h).1
theorem CellsD.cell {w : World} {g : Nat} {t : TypeId} {cs : List Value} (h : CellsD w g t cs) (j : Nat) : w.cell? ⟨g, j, none⟩ = cs[j]? := by
  rw [cell_of_row w g j _ t _ h]; simp
theorem CellsD.frozen {w : World} {g : Nat} {t : TypeId} {cs : List Value} (h : CellsD w g t cs) (j : Nat) : w.frozen? ⟨g, j, none⟩ = false := frozen_of_row w g j _ t h
theorem CellsD.congr {w w' : World} {g : Nat} {t : TypeId} {cs : List Value} (h : CellsD w g t cs) (he : w'.heap[g]? = w.heap[g]?) : CellsD w' g t cs := he.trans h
theorem CellsD.set {w : World} {g : Nat} {t : TypeId} {cs : List Value} (h : CellsD w g t cs) (j : Nat) (v : Value) : CellsD (w.setCell ⟨g, j, none⟩ v) g t (cs.set j v) := by
  unfold CellsD at h ⊢
  simp only [World.setCell, Array.getElem?_modify, h]
  simp
theorem CellsD.typ {w : World} {g : Nat} {t t' : TypeId} {cs : List Value} {cur : Array Value} {fr : Nat × Nat} (h : CellsD w g t cs) (h' : w.heap[g]? = some (.cells cur t' fr)) : t = t' := by
  unfold CellsD at h
  rw [h'] at h
  injection h with h
  injection h with _ e _
  exact e.symm
structure TurnD (p : Nat → Prop) (w w' : World) : Prop where
  os : w'.os = w.os
  tape : w'.tape = w.tape
  output : w'.output = w.output
  size : w.heap.size ≤ w'.heap.size
  block : ∀ k, k < w.heap.size → ¬ p k → w'.heap[k]? = w.heap[k]?
theorem TurnD.of_below {p : Nat → Prop} {w w' : World} (h : Below w.heap.size w w') : TurnD p w w' := ⟨h.os, h.tape, h.output, h.size, fun k hk _ => h.block k hk⟩
theorem TurnD.of_grown {p : Nat → Prop} {w w' : World} {r : Option Nat} (h : w.grownBy w' r) (hp : ∀ k, r = some k → p k) : TurnD p w w' := ⟨h.os, h.tape, h.output, h.size, fun k hk hn => h.block k hk (fun e => hn (hp k e.symm))⟩
theorem TurnD.of_setCell {p : Nat → Prop} (w : World) {a : Addr} (ha : p a.block) (u : Value) : TurnD p w (w.setCell a u) := ⟨rfl, rfl, rfl, by simp [World.setCell], fun k _ hn => Below.heap_setCell w a u k (fun e => hn (by rw [e]; exact ha))⟩
theorem TurnD.refl (p : Nat → Prop) (w : World) : TurnD p w w := .of_below (Below.refl _ _)
theorem TurnD.trans {p : Nat → Prop} {a b c : World} (h : TurnD p a b) (k : TurnD p b c) : TurnD p a c :=
  ⟨k.os.trans h.os, k.tape.trans h.tape, k.output.trans h.output, Nat.le_trans h.size k.size, fun i hi hn => (k.block i (Nat.lt_of_lt_of_le hi h.size) hn).trans (h.block i hi hn)⟩
theorem TurnD.mono {p q : Nat → Prop} {w w' : World} (h : TurnD p w w') (hq : ∀ k, k < w.heap.size → p k → q k) : TurnD q w w' := ⟨h.os, h.tape, h.output, h.size, fun k hk hn => h.block k hk (fun e => hn (hq k hk e))⟩
theorem TurnD.below {p : Nat → Prop} {w w' : World} {B : Nat} (h : TurnD p w w') (hB : B ≤ w.heap.size) (hp : ∀ k, p k → B ≤ k) : Below B w w' := ⟨h.os, h.tape, h.output, h.size, fun k hk => h.block k (Nat.lt_of_lt_of_le hk hB) (fun e => by have := hp k e; omega)⟩
def BufAt (w : World) (base : Nat) (v : Value) (z : List Int) : Prop :=
  (v = .slice none 0 0 ∧ z = []) ∨
  ∃ g c cur, v = .slice (some ⟨g, 0, none⟩) z.length c ∧ base ≤ g ∧ w.heap[g]? = some (.cells cur 5 (0, 0)) ∧ z.length ≤ c ∧ c ≤ maxLen ∧ c ≤ cur.size ∧ (c = cur.size ∨ c = z.length) ∧ cur.toList.take z.length = z.map (Value.int .u8)
theorem BufAt.nil (w : World) (base : Nat) : BufAt w base (.slice none 0 0) [] := .inl ⟨rfl, rfl⟩
theorem BufAt.ofOwn {w : World} {base : Nat} {v : Value} {z : List Int} (h : OwnB w base v z) : BufAt w base v z := by
  rcases h.2 with ⟨h1, h0⟩ | ⟨g, cap, cur, h1, h2, h3, h4, h5, h6, h7⟩
  · exact .inl ⟨h1, List.length_eq_zero_iff.1 h0⟩
  · refine .inr ⟨g, cap, cur, h1, h2, h3, h4, h5, by omega, .inl (by omega), ?_⟩
    rw [Nat.mul_one] at h7; exact h7
theorem BufAt.bytes {w : World} {base : Nat} {v : Value} {z : List Int} (h : BufAt w base v z) : ∃ x c, v = .slice x z.length c ∧ Bytes w x z.length c z ∧ (x = none ∨ ∃ g, x = some ⟨g, 0, none⟩) := by
  rcases h with ⟨rfl, rfl⟩ | ⟨g, c, cur, rfl, h2, h3, h4, h5, h6, h7, h8⟩
  · exact ⟨_, _, rfl, bytes_nil w, .inl rfl⟩
  · refine ⟨_, _, rfl, ⟨rfl, h4, by simpa [maxLen] using h5, (fun h => by cases h), .inr ⟨g, 0, rfl, fun j hj => ?_⟩⟩, .inr ⟨g, rfl⟩⟩
    rw [Nat.zero_add, cell_of_row w g j _ _ _ h3, ← Array.getElem?_toList]
    have e : (cur.toList.take z.length)[j]? = (z.map (Value.int .u8))[j]? := by rw [h8]
    rw [List.getElem?_take_of_lt hj, List.getElem?_map, List.getElem?_eq_getElem hj] at e
    rw [e, List.getElem?_eq_getElem hj]; rfl
theorem BufAt.congr {w w' : World} {base : Nat} {v : Value} {z : List Int} (h : BufAt w base v z) (hk : ∀ g, v.ownBlock = some g → w'.heap[g]? = w.heap[g]?) : BufAt w' base v z := by
  rcases h with h | ⟨g, c, cur, h1, h2, h3, h4⟩
  · exact .inl h
  · exact .inr ⟨g, c, cur, h1, h2, (hk g (by rw [h1]; rfl)).trans h3, h4⟩
theorem BufAt.own {w : World} {base : Nat} {v : Value} {z : List Int} (h : BufAt w base v z) (g : Nat) (hg : v.ownBlock = some g) : base ≤ g ∧ g < w.heap.size ∧ ∃ cur, w.heap[g]? = some (.cells cur 5 (0, 0)) := by
  rcases h with ⟨rfl, _⟩ | ⟨g', c, cur, rfl, h2, h3, h4⟩
  · cases hg
  · simp [Value.ownBlock] at hg
    subst hg
    exact ⟨h2, (Array.getElem?_eq_some_iff.1 h3).1, cur, h3⟩
theorem BufAt.far {w w' : World} {base : Nat} {v : Value} {z : List Int} (h : BufAt w base v z) (hb : Below w.heap.size w w') : BufAt w' base v z := h.congr fun g hg => hb.block g (h.own g hg).2.1
theorem BufAt.less {w : World} {base base' : Nat} {v : Value} {z : List Int} (h : BufAt w base v z) (hb : base' ≤ base) : BufAt w base' v z := by
  rcases h with h | ⟨g, c, cur, h1, h2, h3⟩
  · exact .inl h
  · exact .inr ⟨g, c, cur, h1, by omega, h3⟩
theorem BufAt.cut {w : World} {base : Nat} {x : Option Addr} {n c : Nat} {z : List Int} (h : BufAt w base (.slice x n c) z) (m : Nat) (hm : m ≤ z.length) : BufAt w base (.slice x m m) (z.take m) := by
  have hl : (z.take m).length = m := by rw [List.length_take]; omega
  rcases h with ⟨h1, rfl⟩ | ⟨g, c', cur, h1, h2, h3, h4, h5, h6, h7, h8⟩
  · cases h1
    obtain rfl : m = 0 := by simpa using hm
    exact .inl ⟨rfl, rfl⟩
  · cases h1
    refine .inr ⟨g, m, cur, by rw [hl], h2, h3, by omega, by omega, by omega, .inr hl.symm, ?_⟩
    rw [hl]
    have := congrArg (List.take m) h8
    rw [List.take_take, Nat.min_eq_left hm, ← List.map_take] at this
    exact this
theorem run_app_buf (w : World) (base : Nat) (v : Value) (z : List Int) (ty : TypeId) (hv : BufAt w base v z) (y : Option Addr) (len cap : Nat) (b : List Int) (hb : Bytes w y len cap b) (hsz : z.length + len ≤ 4000000) (hbase : base ≤ w.heap.size) :
    ∃ v' w', (Builtin.append_ #[30, 30] ty #[v, .slice y len cap]).run Tryz.prog w = .ok v' w' ∧ BufAt w' base v' (z ++ b) ∧ w.grownBy w' v.ownBlock ∧ (v'.ownBlock = v.ownBlock ∨ ∃ g, v'.ownBlock = some g ∧ w.heap.size ≤ g) := by
  obtain ⟨i0, hi, hz0, hz1, hz2⟩ := info_parts infoU8
  have hbl := hb.len_eq
  have hsame : w.grownBy w v.ownBlock := ⟨rfl, rfl, rfl, Nat.le_refl _, fun _ _ _ => rfl⟩
  cases y with
  | none =>
    have hc0 := hb.nil rfl
    have hle := hb.le
    obtain rfl : cap = 0 := hc0
    obtain rfl : len = 0 := by omega
    have hb0 : b = [] := List.length_eq_zero_iff.1 hbl.symm
    subst hb0
    rw [List.append_nil]
    refine ⟨v, w, ?_, hv, hsame, .inl rfl⟩
    rcases hv with ⟨rfl, rfl⟩ | ⟨g, c, cur, rfl, h2, h3, h4, _⟩
    · simp [Builtin.append_, run_underlying Tryz.underlying30, sizeOf, typeInfo, hi, Builtin.lenOf, Builtin.firstCells]
    · simp [Builtin.append_, run_underlying Tryz.underlying30, sizeOf, typeInfo, hi, Builtin.lenOf, Builtin.firstCells, h4, storeCells]
  | some ad =>
    have hsrc : ∀ j u, (b.map (Value.int .u8))[j]? = some u → w.cell? (ad.add j) = some u := fun j u hu => by
      have hj : j < len := by have := (List.getElem?_eq_some_iff.1 hu).1; simpa [hbl] using this
      rcases hb.at_ with h0 | ⟨b', off, hy, hc⟩
      · omega
      · cases hy
        rw [Addr.add_mid', hc j hj, ← hu, List.getElem?_map, List.getElem?_eq_getElem (by omega)]; rfl
    have hone : ∀ u ∈ b.map (Value.int .u8), u.oneCell' = true := by simp [Value.oneCell']
    have hml : z.length + len ≤ maxLen := by simp [maxLen]; omega
    rcases hv with ⟨rfl, rfl⟩ | ⟨g, c, cur, rfl, h2, h3, h4, h5, h6, h7, h8⟩
    · obtain ⟨v', w', hrun, r1, r2, _⟩ := run_append_own (P := Tryz.prog) w w.heap.size 30 ty 5 i0 (.int .u8 0) 1 1 Tryz.underlying30 hi hz0 hz1 hz2 rfl (by decide) (.slice none 0 0) 0 [] (World.ownsRow_nil w _ _ 1) ad len cap (b.map (Value.int .u8)) (by simp [hbl]) hsrc hone (by simpa using hml) (by simp at hsz ⊢; omega) (Nat.le_refl _)
      have ho : OwnB w' w.heap.size v' ([] ++ b) := OwnB.cast r1 (by simp [hbl]) (by simp)
      refine ⟨v', w', hrun, (BufAt.ofOwn ho).less hbase, r2, ?_⟩
      cases hq : v'.ownBlock with
      | none => exact .inl rfl
      | some g => exact .inr ⟨g, rfl, ((BufAt.ofOwn ho).own g hq).1⟩
    · by_cases hr : z.length + len ≤ c
      · rcases h7 with h7 | h7
        · have hown : w.ownsRow base 5 1 (.slice (some ⟨g, 0, none⟩) z.length c) z.length (z.map (Value.int .u8)) := ⟨by simp, .inr ⟨g, c, cur, rfl, h2, h3, h4, h5, by omega, by rw [Nat.mul_one]; exact h8⟩⟩
          obtain ⟨w', hrun, r1, r2⟩ := run_append_fits (P := Tryz.prog) w base 30 ty 5 i0 1 Tryz.underlying30 hi hz1 g z.length c _ hown ad len cap (b.map (Value.int .u8)) (by simp [hbl]) hsrc hone hr
          exact ⟨_, w', hrun, BufAt.ofOwn (OwnB.cast r1 (by simp [hbl]) (by simp)), r2, .inl rfl⟩
        · obtain rfl : len = 0 := by omega
          have hb0 : b = [] := List.length_eq_zero_iff.1 hbl.symm
          subst hb0
          have hrun := run_append_room_cells (P := Tryz.prog) w 30 ty 5 i0 Tryz.underlying30 hi g 0 z.length c ad 0 cap [] (by simp) (by simp) (by simp) hr (by simp) (by simp)
          refine ⟨_, _, hrun, ?_, hsame, .inl rfl⟩
          rw [List.append_nil]
          exact .inr ⟨g, c, cur, rfl, h2, h3, h4, h5, h6, .inr h7, h8⟩
      · have holds : ∀ j u, (z.map (Value.int .u8))[j]? = some u → w.cell? ((⟨g, 0, none⟩ : Addr).add j) = some u := fun j u hu => by
          have hj : j < z.length := by have := (List.getElem?_eq_some_iff.1 hu).1; simpa using this
          rw [Addr.add_mid', Nat.zero_add, cell_of_row w g j _ _ _ h3, ← Array.getElem?_toList]
          have e : (cur.toList.take z.length)[j]? = (z.map (Value.int .u8))[j]? := by rw [h8]
          rw [List.getElem?_take_of_lt hj] at e
          rw [e]; exact hu
        obtain ⟨v', w', hrun, r1, r2⟩ := run_append_arg_grows (P := Tryz.prog) w 30 ty 5 i0 (.int .u8 0) 1 1 Tryz.underlying30 hi hz0 hz1 hz2 rfl (by decide) ⟨g, 0, none⟩ z.length c (z.map (Value.int .u8)) (by simp) holds ad len cap (b.map (Value.int .u8)) (by simp [hbl]) hsrc (by omega) hml (by omega)
        have ho : OwnB w' w.heap.size v' (z ++ b) := OwnB.cast r1 (by simp [hbl]) (by simp)
        refine ⟨v', w', hrun, (BufAt.ofOwn ho).less hbase, ⟨r2.os, r2.tape, r2.output, r2.size, fun k hk _ => r2.block k hk (by simp)⟩, ?_⟩
        cases hq : v'.ownBlock with
        | none =>
          exfalso
          rcases BufAt.ofOwn ho with ⟨_, h0⟩ | ⟨g', c', cur', rfl, _⟩
          · have := congrArg List.length h0
            rw [List.length_append, List.length_nil] at this
            omega
          · cases hq
        | some g' => exact .inr ⟨g', rfl, ((BufAt.ofOwn ho).own g' hq).1⟩
theorem Bytes.toSd {w : World} {x : Option Addr} {n c : Nat} {z : List Int} (h : Bytes w x n c z) : S.Bytes w x n c z := ⟨h.1, h.2, h.3, h.4, h.5⟩
theorem sumD_any (x : Option Addr) (len cap : Nat) (z : List Int) (w : World) (hbz : Bytes w x len cap z) (hln : len ≤ 1000000) (hk : S.KTab w) :
    Calls Tryz.prog 32 #[.slice x len cap] w fun e w' => e = .returned (.agg (row .u8 (S.sumL z))) ∧ Below w.heap.size w w' := S.sum_any x len cap z w hbz.toSd hln hk
theorem dsize10 : (Tryz.prog.info? 98).map (·.size) = some 10 := by kernel_rfl
theorem dsizeKeyD : (Tryz.prog.info? 23).map (·.size) = some 32 := by kernel_rfl
set_option maxHeartbeats 4000000 in
theorem headOf_any (x : Option Addr) (len cap : Nat) (z : List Int) (w : World) (hb : Bytes w x len cap z) (hln : len ≤ 70000) (hKT : S.KTab w) :
    Calls Tryz.prog 37 #[.slice x len cap] w fun e w' => e = .returned (.agg (row .u8 (headL z))) ∧ Below w.heap.size w w' := by
  have hD : ∀ wx, Below w.heap.size w wx → Calls Tryz.prog 32 #[.slice x len cap] wx fun e w' => e = .returned (.agg (row .u8 (S.sumL z))) ∧ Below wx.heap.size wx w' := fun wx hx => sumD_any x len cap z wx (hb.below hx) (by omega) (hKT.below hx)
  have hDl := S.sumL_length z
  have HH : Veil (headL z = [((len / 256 % 256 : Nat) : Int), ((len % 256 : Nat) : Int)] ++ (S.sumL z).take 8) := ⟨by rw [hb.len_eq]; rfl⟩
  obtain ⟨D, hDD⟩ : ∃ D, S.sumL z = D := ⟨_, rfl⟩
  rw [hDD] at hD hDl HH
  clear hDD
  have h0 := Holds.new w .u8 98 (List.replicate 10 0)
  have hB0 : Below w.heap.size w (w.alloc (.cells (row .u8 (List.replicate 10 0)) 98)) := (Below.refl _ _).alloc (Nat.le_refl _) _
  have hD0 := hD _ hB0
  clear hD hb
  go_enter Tryz.func37, Tryz.ntmps37
  go_upto_region 2 with (first
    | (go_at_call 32; refine hD0.mono ?_; rintro e w1 ⟨rfl, hb1⟩; have hN := Holds.new w1 .u8 23 (List.replicate 32 0))
    | (refine wpList_st rfl 23 _ _ rfl _ rfl rfl hN (by rw [hDl]; exact dsizeKeyD) (by simp [hDl]) ?_))
  have h1 := h0.below hb1 h0.lt
  have hB1 := hB0.trans (hb1.mono hB0.size)
  have hw1 : w.heap.size < w1.heap.size := h1.lt
  refine forget (p := fun y => Code.wp _ _ _ _ y) (fun W => Below w.heap.size w W ∧ Holds W w.heap.size .u8 98 (List.replicate 10 0) ∧ Holds W w1.heap.size .u8 23 D) ⟨below_setRow (hB1.alloc hB1.size _) hB1.size _, (h1.alloc _).setRowOther _ (by omega), hN.setRow _⟩ ?_
  obtain ⟨G, hG⟩ : ∃ q, w1.heap.size = q := ⟨_, rfl⟩
  rw [hG] at hw1 ⊢
  clear hG hN h1 hB1 hb1 h0 hB0 hD0
  rintro W ⟨hB, hr, hd⟩
  go_upto_region 3 with fail
  have h4 := Holds.new W .u8 98 [(len : Int) / 256 % 256, (len : Int) % 256, 0, 0, 0, 0, 0, 0, 0, 0]
  refine forget (p := fun y => Code.wp _ _ _ _ y) (fun V => Below w.heap.size w V ∧ Holds V w.heap.size .u8 98 (List.replicate 10 0) ∧ Holds V G .u8 23 D ∧ Holds V W.heap.size .u8 98 [(len : Int) / 256 % 256, (len : Int) % 256, 0, 0, 0, 0, 0, 0, 0, 0]) ⟨hB.alloc hB.size _, hr.alloc _, hd.alloc _, h4⟩ ?_
  have hW := hr.lt
  obtain ⟨E, hE⟩ : ∃ q, W.heap.size = q := ⟨_, rfl⟩
  rw [hE] at hW ⊢
  clear hE h4 hB hr hd
  clear W
  rintro V ⟨hB, hr, hd, h4⟩
  obtain ⟨T, hT⟩ : ∃ T, D.take 8 = T := ⟨_, rfl⟩
  have hTl : T.length = 8 := by rw [← hT, List.length_take]; omega
  have hTc : ∀ j u, (T.map (Value.int .u8))[j]? = some u → V.drew.cell? ((⟨G, 0, none⟩ : Addr).add j) = some u := fun j u hu => by
    have hj : j < 8 := by have := (List.getElem?_eq_some_iff.1 hu).1; simpa [hTl] using this
    rw [Addr.add_mid', Nat.zero_add, hd.drew.cell j (by omega), ← hu, ← hT, List.getElem?_map, List.getElem?_take_of_lt hj, List.getElem?_eq_getElem (by omega)]; rfl
  rw [hT] at HH
  have hE4 : ((row .u8 [(len : Int) / 256 % 256, (len : Int) % 256, 0, 0, 0, 0, 0, 0, 0, 0]).toList.take 2 ++ T.map (Value.int .u8) ++ (row .u8 [(len : Int) / 256 % 256, (len : Int) % 256, 0, 0, 0, 0, 0, 0, 0, 0]).toList.drop (2 + (T.map (Value.int .u8)).length)).toArray = row .u8 (headL z) := by
    rw [HH.out, List.length_map, hTl]
    simp [row]
  have hcp := run_copy_row (P := Tryz.prog) V.drew 30 30 3 5 E 2 8 8 ⟨G, 0, none⟩ 8 32 (row .u8 [(len : Int) / 256 % 256, (len : Int) % 256, 0, 0, 0, 0, 0, 0, 0, 0]) 98 (T.map (Value.int .u8)) Tryz.underlying30 size1u8 h4.drew (by rw [List.length_map, hTl]; rfl) hTc (by rw [List.length_map, hTl]; exact Nat.le_refl 10) (by simp [Value.oneCell'])
  rw [hE4] at hcp
  have hHl := headL_length z
  obtain ⟨HL, hHL⟩ : ∃ q, headL z = q := ⟨_, rfl⟩
  rw [hHL] at hcp hHl
  have HHL : Veil (headL z = HL) := ⟨hHL⟩
  refine wp_region_gate (fun _ => True) 2 (by kernel_rfl) ?_
  have hS : (fun _ : World => True) V.drew := trivial
  refine ga 0 ?_ rfl (by kernel_rfl) (fun _ _ _ h => h) hS ?_ ?_
  rotate_left
  · intro _; go_simp; try with_reducible rfl
  simp only [Act.put, gA, gS, gZ, sI, sZ, sS]
  refine ga 1 ?_ rfl (by kernel_rfl) (fun _ _ _ h => h) hS ?_ ?_
  rotate_left
  · intro _; go_simp; try with_reducible rfl
  simp only [Act.put, gA, gS, gZ, sI, sZ, sS]
  refine wpAnyG_one (i := 2) rfl (by kernel_rfl) (by kernel_rfl) (fun K hK => ?_)
  refine wpx_copy _ _ _ _ rfl _ _ _ _ rfl rfl hcp ?_
  refine hK.out _ _ (fun h => absurd (show true = false from h) (by decide)) ?_
  clear hK K
  try simp only [Act.put, gA, gS, gZ, sI, sZ, sS]
  refine wpAnyG_done (by kernel_rfl) ?_ _
  have h5 : Holds (V.drew.setRow E (row .u8 HL)) E .u8 98 HL := h4.drew.setRow HL
  have hr5 : Holds (V.drew.setRow E (row .u8 HL)) w.heap.size .u8 98 (List.replicate 10 0) := hr.drew.setRowOther _ (by omega)
  have hB5 : Below w.heap.size w (V.drew.setRow E (row .u8 HL)) := below_setRow hB.drew (by omega) _
  clear hcp hE4 hTc hT HH hHL
  refine forget (p := fun y => Exit.then _ _ _ _ y) (fun X => Holds X E .u8 98 HL ∧ Holds X w.heap.size .u8 98 (List.replicate 10 0) ∧ Below w.heap.size w X) ⟨h5, hr5, hB5⟩ ?_
  clear h5 hr5 hB5 hS hB hr hd h4
  clear V
  rintro X ⟨h5, hr5, hB5⟩
  go_wp2_with (first
    | (refine wpList_ld rfl 98 _ rfl _ rfl h5 Tryz.underlying98 dsize10 hHl ?_)
    | (refine wpList_st rfl 98 _ _ rfl _ rfl rfl hr5 (by rw [hHl]; exact dsize10) (by rw [hHl]; rfl) ?_))
  refine bodyPost_ret (results_holds (Tryz.results37) _ rfl (hr5.setRow _) Tryz.underlying98 dsize10 hHl) rfl ⟨by rw [HHL.out], below_setRow hB5 (Nat.le_refl _) _⟩
theorem cells8D : Tryz.prog.cellsOf 5 = 1 := by kernel_rfl
theorem info8D : (Tryz.prog.info? 5).isSome = true := by kernel_rfl
theorem head_neq (l m : List Int) (hl : l.length = 10) (hm : m.length = 10) (wx : World) : (binOp BinOp.neq 98 (.agg (row .u8 l)) (.agg (row .u8 m))).run Tryz.prog wx = .ok (.bool (!(l == m))) wx := by
  rw [run_neq_struct, run_equalIn_rows wx 9998 .u8 l m Tryz.underlying98 Tryz.underlying5 cells8D info8D hl hm]; rfl
def cutA (x : Option Addr) (l h : Nat) : Option Addr := if h = l then x else x.map (·.add (l * 1))
theorem Bytes.cut3d {w : World} {x : Option Addr} {len cap : Nat} {z : List Int} (hb : Bytes w x len cap z) (l h : Nat) (h1 : l ≤ h) (h2 : h ≤ len) : Bytes w (cutA x l h) (h - l) (h - l) ((z.drop l).take (h - l)) := by
  have hz := hb.len_eq
  have hle := hb.le
  refine ⟨by rw [List.length_take, List.length_drop]; omega, Nat.le_refl _, by have := hb.top; omega, ?_, ?_⟩
  · unfold cutA
    split
    · intro _; omega
    · intro hn
      cases x with
      | none => have := hb.nil rfl; omega
      | some a => simp at hn
  · by_cases h0 : h - l = 0
    · exact .inl h0
    · rcases hb.at_ with h00 | ⟨b, off, hx, hc⟩
      · omega
      · refine .inr ⟨b, off + l, ?_, fun j hj => ?_⟩
        · rw [cutA, if_neg (by omega), hx, Option.map_some, Addr.add_mid', Nat.mul_one]
        · rw [Nat.add_assoc, hc (l + j) (by omega), List.getElem?_take_of_lt hj, List.getElem?_drop]
theorem Bytes.rangeD {w : World} {b off n c : Nat} {z : List Int} (h : Bytes w (some ⟨b, off, none⟩) n c z) (m : Nat) : w.rangeAt b off ((z.take m).map (Value.int .u8)) := fun j v hv => by
  have hj' : j < (z.take m).length := by have := (List.getElem?_eq_some_iff.1 hv).1; simpa using this
  have hj : j < z.length := by rw [List.length_take] at hj'; omega
  rcases h.at_ with h0 | ⟨b', off', hx, hc⟩
  · have := h.len_eq; omega
  · cases hx
    rw [hc j (by have := h.len_eq; omega), ← hv, List.getElem?_map, List.getElem?_eq_getElem hj']
    simp [List.getElem?_eq_getElem hj]
theorem wpx_val {P : Program} {o : Oper} {a : Act} {w : World} {K : Act → World → Prop} {Q : Exit → Act → World → Prop} (v : Value) (w' : World) (hrun : (execOp a.eval o).run P w = .ok (.value v) w') (h : K (a.put o.dst v) w') : o.wp P a w K Q := by
  unfold Oper.wp
  rw [hrun]
  exact h
theorem wpx_neq {P : Program} {o : Oper} {a : Act} {w : World} {K : Act → World → Prop} {Q : Exit → Act → World → Prop} (t : TypeId) (x y : Operand) (ho : o.op = .binOp .neq t x y t) (xv yv v : Value) (hx : a.eval x = xv) (hy : a.eval y = yv) (hgd : (eqGuard .neq t x y xv yv).run P w = .ok () w) (hrun : (binOp .neq t xv yv).run P w = .ok v w) (h : K (a.put o.dst v) w) : o.wp P a w K Q := by
  unfold Oper.wp
  simp [execOp, ho, hx, hy, hgd, hrun, Result.andThen]
  exact h
theorem run_arrayAtD {t e : TypeId} {n : Nat} (hu : Tryz.prog.underlying t = some (.array n e)) (x : Option Addr) (len cap : Nat) (h : n ≤ len) (w : World) : (Instr.arrayAt t (.slice x len cap)).run Tryz.prog w = .ok (.pointer x) w := by
  simp [Instr.arrayAt, run_underlying hu, Nat.not_lt.2 h]
set_option maxHeartbeats 4000000 in
theorem firstSize_any (x : Option Addr) (len cap : Nat) (z : List Int) (w : World) (hb : Bytes w x len cap z) (hz : disB z) (hln : len ≤ 65536) (hKT : S.KTab w) :
    Calls Tryz.prog 72 #[.slice x len cap] w fun e w' => e = .returned (.int .i64 (firstN z)) ∧ Below w.heap.size w w' := by
  have hzl := hb.len_eq
  by_cases h10 : len < 10
  · have H0 : Veil (firstN z = 0) := ⟨by unfold firstN; rw [if_pos (by omega)]⟩
    clear hb hzl hKT
    go_enter Tryz.func72, Tryz.ntmps72
    go_wp2
    go_ret
    exact ⟨by rw [H0.out]; rfl, Below.refl _ _⟩
  · have hi10 : ¬ ((len : Int) < 10) := by omega
    obtain ⟨b, off, rfl, hc⟩ : ∃ b off, x = some ⟨b, off, none⟩ ∧ ∀ j, j < len → w.cell? ⟨b, off + j, none⟩ = some (.int .u8 (z[j]?.getD 0)) := by
      rcases hb.at_ with h0 | h0
      · omega
      · exact h0
    obtain ⟨p, hp⟩ : ∃ p, z[0]?.getD 0 = p := ⟨_, rfl⟩
    obtain ⟨q, hq⟩ : ∃ q, z[1]?.getD 0 = q := ⟨_, rfl⟩
    have gB : ∀ j : Nat, 0 ≤ z[j]?.getD 0 ∧ z[j]?.getD 0 ≤ 255 := fun j => by
      cases hj : z[j]? with
      | none => simp
      | some v => exact hz v (List.mem_of_getElem? hj)
    have hp2 := gB 0
    have hq2 := gB 1
    have c0 := hc 0 (by omega)
    have c1 := hc 1 (by omega)
    rw [hp] at hp2 c0
    rw [hq] at hq2 c1
    rw [Nat.add_zero] at c0
    obtain ⟨hp0, hp255⟩ := hp2
    obtain ⟨hq0, hq255⟩ := hq2
    obtain ⟨n, hn⟩ := Int.eq_ofNat_of_zero_le (show 0 ≤ 10 + p * 256 + q by omega)
    have HT : Veil (dtoldN z = n) := ⟨by unfold dtoldN; rw [hp, hq]; omega⟩
    have HZ : Veil (len = z.length) := ⟨hzl⟩
    have hn10 : 10 ≤ n := by omega
    clear hc gB hp hq hzl
    go_enter Tryz.func72, Tryz.ntmps72
    go_upto_region 3 with fail
    go_quiet ((fail))
    refine forget (p := fun y => Exit.then _ _ _ _ y) (fun X => Below w.heap.size w X) (below_drewN (Below.refl _ _) _) ?_
    intro X hX
    have hbX := hb.below hX
    clear c0 c1 hb
    go_upto_region 4 with fail
    by_cases hlt : len < n
    · have H0 : Veil (firstN z = 0) := ⟨by unfold firstN; rw [if_neg (by rw [← HZ.out]; exact h10), if_pos (by rw [HT.out, ← HZ.out]; exact hlt)]⟩
      have hlti : (len : Int) < (n : Int) := by omega
      clear hbX hn
      go_quiet ((fail))
      go_wp2
      go_ret
      exact ⟨by rw [H0.out]; rfl, below_drewN hX _⟩
    · have hlti : ¬ (len : Int) < (n : Int) := by omega
      have hle := hbX.le
      have hcap : ¬ cap = 0 := by omega
      have hc10 : (10 : Int) ≤ (cap : Int) := by omega
      have hnc : (n : Int) ≤ (cap : Int) := by omega
      have hni : (10 : Int) ≤ (n : Int) := by omega
      have hA := hbX.rangeD 10
      have hAl : (z.take 10).length = 10 := by rw [List.length_take, ← HZ.out]; omega
      obtain ⟨A, hAA⟩ : ∃ A, z.take 10 = A := ⟨_, rfl⟩
      rw [hAA] at hA hAl
      have hcut := hbX.cut3d 10 n hn10 (by omega)
      have hH : ∀ wx, Below X.heap.size X wx → Calls Tryz.prog 37 #[.slice (cutA (some ⟨b, off, none⟩) 10 n) (n - 10) (n - 10)] wx fun e w' => e = .returned (.agg (row .u8 (headL ((z.drop 10).take (n - 10))))) ∧ Below wx.heap.size wx w' := fun wx hx => headOf_any _ _ _ _ wx (hcut.below hx) (by omega) ((hKT.below hX).below hx)
      have hHl := headL_length ((z.drop 10).take (n - 10))
      have HF : Veil (firstN z = if A = headL ((z.drop 10).take (n - 10)) then n else 0) := ⟨by unfold firstN; rw [HT.out, ← HZ.out, if_neg h10, if_neg hlt, hAA]⟩
      obtain ⟨HD, hHD⟩ : ∃ q, headL ((z.drop 10).take (n - 10)) = q := ⟨_, rfl⟩
      rw [hHD] at hH hHl HF
      obtain ⟨y, hy⟩ : ∃ y, cutA (some ⟨b, off, none⟩) 10 n = y := ⟨_, rfl⟩
      rw [hy] at hH
      have HY : Veil (cutA (some ⟨b, off, none⟩) 10 n = y) := ⟨hy⟩
      have hSz : (Tryz.prog.info? 98).map (·.size) = some (A.map (Value.int .u8)).length := by rw [List.length_map, hAl]; exact dsize10
      have hBd := hX.drew
      have hXs : X.heap.size ≤ X.drew.heap.size := Nat.le_refl _
      have hNQ := head_neq A HD hAl hHl
      have hS6 : ∀ wx, (Instr.slice 30 (.slice (some ⟨b, off, none⟩) len cap) none (some (.int .i64 10)) none).run Tryz.prog wx = .ok (.slice (some ⟨b, off, none⟩) 10 cap) wx := fun wx => by
        have := run_cut_h wx (some ⟨b, off, none⟩) len cap 10 (by omega)
        rw [show subA (some ⟨b, off, none⟩) cap 0 = some ⟨b, off, none⟩ by unfold subA; rw [if_neg hcap, Option.map_some, Addr.add_mid']; simp] at this
        exact this
      have hS12 : ∀ wx, (Instr.slice 30 (.slice (some ⟨b, off, none⟩) len cap) (some (.int .i64 10)) (some (.int .i64 n)) (some (.int .i64 n))).run Tryz.prog wx = .ok (.slice y (n - 10) (n - 10)) wx := fun wx => by
        rw [run_slice_lhm wx 30 _ len cap elemB .i64 .i64 .i64 10 n n (by omega) hni (Int.le_refl _) hnc, sizeU8]
        rw [← HY.out]
        simp [sliced, cutA, Result.andThen]
      have hA7 : ∀ wx, (Instr.arrayAt 98 (.slice (some ⟨b, off, none⟩) 10 cap)).run Tryz.prog wx = .ok (.pointer (some ⟨b, off, none⟩)) wx := fun wx => run_arrayAtD Tryz.underlying98 _ 10 cap (Nat.le_refl _) wx
      clear hy hHD hAA hcut hbX HT HZ hn hp0 hp255 hq0 hq255
      refine wp_region_gate (fun w' => w'.rangeAt b off (A.map (Value.int .u8))) 14 (by kernel_rfl) ?_
      have hS : (fun w' : World => w'.rangeAt b off (A.map (Value.int .u8))) X.drew := hA
      refine ga 0 ?_ rfl (by kernel_rfl) (fun _ _ _ h => h) hS ?_ ?_
      rotate_left
      · intro _; go_simp; try with_reducible rfl
      simp only [Act.put, gA, gS, gZ, sI, sZ, sS]
      refine ga 1 ?_ rfl (by kernel_rfl) (fun _ _ _ h => h) hS ?_ ?_
      rotate_left
      · intro _; go_simp; try with_reducible rfl
      simp only [Act.put, gA, gS, gZ, sI, sZ, sS]
      refine ga 2 ?_ rfl (by kernel_rfl) (fun _ _ _ h => h) hS ?_ ?_
      rotate_left
      · intro _; go_simp; try with_reducible rfl
      simp only [Act.put, gA, gS, gZ, sI, sZ, sS]
      refine ga 3 (.bool false) rfl (by kernel_rfl) (fun _ _ _ h => h) hS ?_ ?_
      · intro _; go_simp
      simp only [Act.put, gA, gS, gZ, sI, sZ, sS]
      refine ga 4 ?_ rfl (by kernel_rfl) (fun _ _ _ h => h) hS ?_ ?_
      rotate_left
      · intro _; go_simp; try with_reducible rfl
      simp only [Act.put, gA, gS, gZ, sI, sZ, sS]
      refine ga 5 ?_ rfl (by kernel_rfl) (fun _ _ _ h => h) hS ?_ ?_
      rotate_left
      · intro _; go_simp; try with_reducible rfl
      simp only [Act.put, gA, gS, gZ, sI, sZ, sS]
      refine ga 6 (.slice (some ⟨b, off, none⟩) 10 cap) rfl (by kernel_rfl) (fun _ _ _ h => h) hS ?_ ?_
      · intro _; go_simp
      simp only [Act.put, gA, gS, gZ, sI, sZ, sS]
      refine ga 7 (.pointer (some ⟨b, off, none⟩)) rfl (by kernel_rfl) (fun _ _ _ h => h) hS ?_ ?_
      · intro _; go_simp
      simp only [Act.put, gA, gS, gZ, sI, sZ, sS]
      refine wpAnyG_load (i := 8) (dst := some 26) (ty := 98) (x := .tmp 25) (b := b) (o := (off)) (cs := (A.map (Value.int .u8))) (by kernel_rfl) (by kernel_rfl) (by kernel_rfl) (by kernel_rfl) (by kernel_rfl) (fun _ _ _ h => h) (by kernel_rfl) (by kernel_rfl) (by kernel_rfl) hS (by kernel_rfl) (fun _ h => h) Tryz.underlying98 rfl hSz ?_
      simp only [Act.put, gA, gS, gZ, sI, sZ, sS]
      refine ga 9 ?_ rfl (by kernel_rfl) (fun _ _ _ h => h) hS ?_ ?_
      rotate_left
      · intro _; go_simp; try with_reducible rfl
      simp only [Act.put, gA, gS, gZ, sI, sZ, sS]
      refine ga 10 ?_ rfl (by kernel_rfl) (fun _ _ _ h => h) hS ?_ ?_
      rotate_left
      · intro _; go_simp; try with_reducible rfl
      simp only [Act.put, gA, gS, gZ, sI, sZ, sS]
      refine ga 11 ?_ rfl (by kernel_rfl) (fun _ _ _ h => h) hS ?_ ?_
      rotate_left
      · intro _; go_simp; try with_reducible rfl
      simp only [Act.put, gA, gS, gZ, sI, sZ, sS]
      refine ga 12 (.slice y (n - 10) (n - 10)) rfl (by kernel_rfl) (fun _ _ _ h => h) hS ?_ ?_
      · intro _; go_simp
      simp only [Act.put, gA, gS, gZ, sI, sZ, sS]
      refine wpAnyG_one (i := 13) rfl (by kernel_rfl) (by kernel_rfl) (fun K hK => ?_)
      refine wpx_call _ _ (by kernel_rfl) ((hH _ (Below.refl _ _).drew).mono ?_)
      rintro e w1 ⟨rfl, hb1⟩
      refine ⟨_, rfl, ?_⟩
      replace hS : (fun w' : World => w'.rangeAt b off (A.map (Value.int .u8))) w1 := fun j v hv => by
        have := hA j v hv
        rw [← this]
        exact hb1.cell (p := ⟨b, off + j, none⟩) (block_lt_of_cell this)
      refine hK.out _ _ (fun _ => hS) ?_
      clear hK K
      try simp only [Act.put, gA, gS, gZ, sI, sZ, sS]
      refine wpAnyG_one (i := 14) rfl (by kernel_rfl) (by kernel_rfl) (fun K hK => ?_)
      refine wpx_neq 98 _ _ rfl (.agg (A.map (Value.int .u8)).toArray) (.agg (row .u8 HD)) (.bool (!(A == HD))) rfl rfl (by kernel_rfl) (hNQ w1) ?_
      refine hK.out _ _ (fun h => absurd (show true = false from h) (by decide)) ?_
      clear hK K
      try simp only [Act.put, gA, gS, gZ, sI, sZ, sS]
      refine wpAnyG_one (i := 15) rfl (by kernel_rfl) (by kernel_rfl) (fun K hK => ?_)
      refine wpx_val (.bool (!(A == HD))) w1 ?_ ?_
      · kernel_rfl
      refine hK.out _ _ (fun h => absurd (show true = false from h) (by decide)) ?_
      clear hK K
      try simp only [Act.put, gA, gS, gZ, sI, sZ, sS]
      refine wpAnyG_done (by kernel_rfl) ?_ _
      have hB1 : Below w.heap.size w w1 := hBd.trans (hb1.mono hX.size)
      by_cases hAH : A = HD
      · have e1 : (A == HD) = true := by simp [hAH]
        rw [e1]
        rw [if_pos hAH] at HF
        clear hNQ hH hS hb1 hBd hA
        go_wp2
        go_ret
        exact ⟨by rw [HF.out]; rfl, hB1⟩
      · have e1 : (A == HD) = false := by simp [hAH]
        rw [e1]
        rw [if_neg hAH] at HF
        clear hNQ hH hS hb1 hBd hA
        go_wp2
        go_ret
        exact ⟨by rw [HF.out]; rfl, hB1⟩
open Go.RowKit Go.Shelf
attribute [local go_sem] Oper.semAt_some
theorem whole_any (x : Option Addr) (len cap : Nat) (w : World) :
    Calls Tryz.prog 39 #[.slice x len cap] w fun e w' => e = .returned (.func (.func 71) #[] #[.pointer (some ⟨w.heap.size, 0, none⟩)]) ∧ w' = w.alloc (.cells #[.slice x len cap] 30) := by
  go_enter Tryz.func39, Tryz.ntmps39
  go_wp2
  go_ret
  exact ⟨rfl, rfl⟩
theorem take_finD (N k : Nat) (h : k < N) : (List.finRange N).take (k + 1) = (List.finRange N).take k ++ [⟨k, h⟩] := by
  rw [List.take_succ_eq_append_getElem (by simpa using h)]; simp
theorem grownBy_of_below {w w' : World} (h : Below w.heap.size w w') : w.grownBy w' none := ⟨h.os, h.tape, h.output, h.size, fun k hk _ => h.block k hk⟩
def recV (x : Option Addr) (z : List Int) (k : Nat) : Value := .slice (cutA x (sumK (wholeN z) k) (sumK (wholeN z) k + (wholeN z)[k]?.getD 0)) ((wholeN z)[k]?.getD 0) ((wholeN z)[k]?.getD 0)
structure RestAt (w : World) (x : Option Addr) (cap : Nat) (z : List Int) (k : Nat) (xk : Option Addr) (lk ck : Nat) : Prop where
  bytes : Bytes w xk lk ck (z.drop (sumK (wholeN z) k))
  at_ : k < (wholeN z).length → xk = x.map (·.add (sumK (wholeN z) k * 1))
theorem RestAt.next {w : World} {b0 o0 cap : Nat} {z : List Int} {k : Nat} {xk : Option Addr} {lk ck : Nat} (h : RestAt w (some ⟨b0, o0, none⟩) cap z k xk lk ck) (hk : k < (wholeN z).length) :
    RestAt w (some ⟨b0, o0, none⟩) cap z (k + 1) (subA xk ck (wholeN z)[k]) (lk - (wholeN z)[k]) (ck - (wholeN z)[k]) := by
  have hs := sumK_succ (wholeN z) k hk
  have hle := (wholeN_at _ z rfl (k + 1)).2.2 (by omega)
  have hll := h.bytes.len_eq
  rw [List.length_drop] at hll
  have hlc := h.bytes.le
  refine ⟨?_, fun h1 => ?_⟩
  · have := h.bytes.cut (wholeN z)[k] lk (by omega) (Nat.le_refl _)
    rw [List.drop_drop, ← hs, List.take_of_length_le (by rw [List.length_drop]; omega)] at this
    exact this
  · have h2 := wholeN_pos z (k + 1) h1
    have h3 := sumK_succ (wholeN z) (k + 1) h1
    have h4 := (wholeN_at _ z rfl (k + 2)).2.2 (by omega)
    have e : k + 1 + 1 = k + 2 := rfl
    rw [e] at h3
    unfold subA
    rw [if_neg (by omega), h.at_ hk, hs]
    simp only [Option.map_some, Addr.add_mid', Nat.mul_one, Nat.add_assoc]
theorem RestAt.cut1 {w : World} {b0 o0 cap : Nat} {z : List Int} {k : Nat} {xk : Option Addr} {lk ck : Nat} (h : RestAt w (some ⟨b0, o0, none⟩) cap z k xk lk ck) (hk : k < (wholeN z).length) (wx : World) :
    (Instr.slice 30 (.slice xk lk ck) none (some (.int .i64 ((wholeN z)[k] : Nat))) (some (.int .i64 ((wholeN z)[k] : Nat)))).run Tryz.prog wx = .ok (recV (some ⟨b0, o0, none⟩) z k) wx := by
  have hp := wholeN_pos z k hk
  have hs := sumK_succ (wholeN z) k hk
  have hle := (wholeN_at _ z rfl (k + 1)).2.2 (by omega)
  have hll := h.bytes.len_eq
  rw [List.length_drop] at hll
  have hlc := h.bytes.le
  rw [run_slice_hm wx 30 _ lk ck elemB .i64 .i64 _ _ (by omega) (Int.le_refl _) (by omega), sizeU8]
  unfold recV cutA
  rw [List.getElem?_eq_getElem hk, Option.getD_some, if_neg (by omega), h.at_ hk]
  simp only [Result.andThen, sliced, Int.toNat_natCast]
  rw [if_neg (by omega)]
  simp [Addr.add_mid']
def TopA (x : Option Addr) : Prop := x = none ∨ ∃ g, x = some ⟨g, 0, none⟩
theorem TopA.some {w : World} {x : Option Addr} {cap : Nat} {z : List Int} (h : TopA x) (hb : Bytes w x z.length cap z) (k : Nat) (hk : k < (wholeN z).length) : ∃ g, x = some ⟨g, 0, none⟩ := by
  rcases h with rfl | h
  · have h1 := hb.nil rfl
    have h2 := hb.le
    have : z = [] := List.length_eq_zero_iff.1 (by omega)
    subst this
    rw [wholeN_none [] rfl] at hk
    simp at hk
  · exact h
theorem TopA.zero {x : Option Addr} (h : TopA x) : x.map (·.add (0 * 1)) = x := by
  rcases h with rfl | ⟨g, rfl⟩
  · rfl
  · simp [Addr.add_mid']
def KeepR (Bn B0 : Nat) (A B : World) : Prop := B.heap[Bn]? = A.heap[Bn]? ∧ Below B0 A B
set_option maxHeartbeats 2000000 in
theorem whole1_in (n l Bn : Nat) (x : Option Addr) (cap : Nat) (z : List Int) (w0 : World) (hx : TopA x) (hb : Bytes w0 x z.length cap z) (hz : disB z) (hzl : z.length ≤ 65536) (hKT : S.KTab w0)
    (J Jx : List (Fin (wholeN z).length) → World → Prop) (W : World) (hJ : AbidesFrom W.heap.size J)
    (hY : ∀ pre (i : Fin (wholeN z).length) W1, J pre W1 → pre.length < (wholeN z).length → YieldAt Fence.wide (n - 1) Tryz.prog l #[recV x z i.1] W1 fun e W' =>
      (e = .returned (.bool true) ∧ J (pre ++ [i]) W' ∧ KeepR Bn w0.heap.size W1 W') ∨ (e = .returned (.bool false) ∧ Jx (pre ++ [i]) W'))
    (hW : Below w0.heap.size w0 W) (hBn : W.cell? ⟨Bn, 0, none⟩ = some (.slice x z.length cap)) (h0 : J [] W) :
    CallsIn Fence.wide n Tryz.prog 71 #[.func (.yield l) #[] #[], .pointer (some ⟨Bn, 0, none⟩)] W fun e W' => (∃ v, e = .returned v) ∧
      ((∃ ys, ys = List.finRange (wholeN z).length ∧ J ys W') ∨ (∃ pre, pre <+: List.finRange (wholeN z).length ∧ Jx pre W')) := by
  have hR0 : RestAt w0 x cap z 0 x z.length cap := ⟨by rw [sumK_zero, List.drop_zero]; exact hb, fun _ => by rw [sumK_zero]; exact hx.zero.symm⟩
  have hFS : ∀ k xk lk ck wx, RestAt w0 x cap z k xk lk ck → k ≤ (wholeN z).length → Below w0.heap.size w0 wx → Calls Tryz.prog 72 #[.slice xk lk ck] wx fun e w' => e = .returned (.int .i64 ((wholeN z)[k]?.getD 0 : Nat)) ∧ Below wx.heap.size wx w' := fun k xk lk ck wx hR hk hB => by
    have hll := hR.bytes.len_eq
    rw [List.length_drop] at hll
    have := firstSize_any xk lk ck _ wx (hR.bytes.below hB) (fun v hv => hz v (List.mem_of_mem_drop hv)) (by omega) (hKT.below hB)
    have hN := wholeN_at _ z rfl k
    by_cases h : k < (wholeN z).length
    · rw [hN.1 h] at this
      rw [List.getElem?_eq_getElem h]
      exact this
    · rw [hN.2.1 (by omega)] at this
      rw [List.getElem?_eq_none (by omega)]
      exact this
  have hF0 := hFS 0 x z.length cap W hR0 (Nat.zero_le _) hW
  refine callsIn_of_wp Tryz.func71 rfl trivial ?_ rfl
  simp only [Tryz.ntmps71, List.size_toArray, List.length_cons, List.length_nil, Nat.reduceAdd, Nat.reduceSub, Array.replicate_succ, Array.replicate_zero, List.push_toArray, List.append_toArray, List.nil_append, List.cons_append]
  gi_wp2_with (refine ⟨trivial, (fun h => by cases h), ?_⟩; refine (callsIn_wide.2 hF0).mono ?_; rintro e W1 ⟨rfl, hb1⟩)
  have hJ1 : J [] W1 := hJ _ _ _ none h0 (grownBy_of_below hb1) (fun r e => by cases e)
  have hW1 : Below w0.heap.size w0 W1 := hW.trans (hb1.mono hW.size)
  have hc1 : W1.cell? ⟨Bn, 0, none⟩ = some (.slice x z.length cap) := (hb1.cell (p := ⟨Bn, 0, none⟩) (block_lt_of_cell hBn)).trans hBn
  clear hF0
  gi_loopw [3, 4] (fun r p wr => ∃ k xk lk ck, k ≤ (wholeN z).length ∧ r = .slice xk lk ck ∧ p = .int .i64 ((wholeN z)[k]?.getD 0 : Nat) ∧ RestAt w0 x cap z k xk lk ck ∧ wr.cell? ⟨Bn, 0, none⟩ = some (.slice x z.length cap) ∧ Below w0.heap.size w0 wr ∧ W.heap.size ≤ wr.heap.size ∧ J ((List.finRange (wholeN z).length).take k) wr)
    (fun r _ _ => lenOf r)
  case atStart =>
    exact ⟨0, x, _, cap, Nat.zero_le _, rfl, rfl, hR0, hc1, hW1, hb1.size, by simpa using hJ1⟩
  case round =>
    clear hJ1 hW1 hc1 hb1 hR0
    obtain ⟨k, xk, lk, ck, hk, rfl, rfl, hR, hc, hBr, hsz, hJs⟩ := hrel
    by_cases hlt : k < (wholeN z).length
    · obtain ⟨g, rfl⟩ := hx.some hb k hlt
      obtain ⟨fn, tmps, assign, body, hy, hRd⟩ := hY _ ⟨k, hlt⟩ wr hJs (by simp; omega)
      dsimp only at hy
      rw [← take_finD _ k hlt] at hRd
      have hp := wholeN_pos z k hlt
      have hrec := hR.cut1 hlt
      have hnx := hR.next hlt
      have hF := fun wx => hFS (k + 1) _ _ _ wx hnx hlt
      have hcl := fun wx => run_cut_l wx xk lk ck (wholeN z)[k] (by have h1 := hR.bytes.len_eq; rw [List.length_drop] at h1; have h2 := (wholeN_at _ z rfl (k + 1)).2.2 (by omega); rw [sumK_succ _ _ hlt] at h2; omega)
      rw [List.getElem?_eq_getElem hlt, Option.getD_some]
      obtain ⟨m, hm⟩ : ∃ m, (wholeN z)[k] = m := ⟨_, rfl⟩
      rw [hm] at hp hrec hnx hF hcl ⊢
      have HM := Veil.mk hm
      have hm0 : (0 : Int) < (m : Int) := by omega
      obtain ⟨V, hV⟩ : ∃ V, recV (some ⟨g, 0, none⟩) z k = V := ⟨_, rfl⟩
      rw [hV] at hrec hy
      clear hm hV
      have hm1 : 0 < m := by omega
      have hlk : 10 ≤ lk := by
        have h1 := hR.bytes.len_eq
        rw [List.length_drop] at h1
        have h2 := (wholeN_at _ z rfl (k + 1)).2.2 (by omega)
        rw [sumK_succ _ _ hlt, HM.out] at h2
        omega
      clear hR hb hBn hFS hY h0 hW
      gi_wp2
      refine ⟨(fun h => by cases h), hRd.mono ?_⟩
      rintro e W3 (⟨rfl, hJ3, hk3, hb3⟩ | ⟨rfl, hJx3⟩)
      · have hc3 : W3.cell? ⟨Bn, 0, none⟩ = some (.slice (some ⟨g, 0, none⟩) z.length cap) := (World.cell?_of_block (a := ⟨Bn, 0, none⟩) hk3).trans hc
        have hB3 : Below w0.heap.size w0 W3 := hBr.trans hb3
        have hF3 := hF W3 hB3
        clear hF
        gi_wp2_with (refine ⟨trivial, (fun h => by cases h), ?_⟩; refine (callsIn_wide.2 hF3).mono ?_; rintro e W4 ⟨rfl, hb4⟩)
        go_roundw
        case rel => exact ⟨k + 1, _, _, _, hlt, rfl, rfl, hnx, (hb4.cell (p := ⟨Bn, 0, none⟩) (block_lt_of_cell hc3)).trans hc3, hB3.trans (hb4.mono hB3.size), Nat.le_trans hsz (Nat.le_trans hb3.size hb4.size), hJ _ _ _ none hJ3 (grownBy_of_below hb4) (fun r e => by cases e)⟩
        case measure => simp [lenOf]; omega
      · gi_wp2
        go_end0
        exact ⟨⟨_, rfl⟩, .inr ⟨_, List.take_prefix _ _, hJx3⟩⟩
    · obtain rfl : k = (wholeN z).length := by omega
      rw [List.getElem?_eq_none (Nat.le_refl _), Option.getD_none]
      clear hY hFS hR
      gi_wp2_with (refine ⟨(fun f h => by cases h), ?_⟩)
      go_end0
      exact ⟨⟨_, rfl⟩, .inl ⟨_, rfl, by rwa [List.take_of_length_le (by simp)] at hJs⟩⟩
attribute [local go_sem] Oper.semAt_some
structure DiskAt (w : World) (base D : Nat) (v : Value) (z : List Int) (s : Nat) : Prop where
  box : CellsD w D 92 [v, .int .i64 s]
  buf : BufAt w base v z
  isb : disB z
  len : z.length ≤ 65536
  syn : s ≤ z.length
  baseD : base ≤ D
def diskP (D : Nat) (v : Value) (k : Nat) : Prop := k = D ∨ v.ownBlock = some k
theorem DiskAt.congr {w w' : World} {base D : Nat} {v : Value} {z : List Int} {s : Nat} (h : DiskAt w base D v z s) (hk : ∀ g, diskP D v g → w'.heap[g]? = w.heap[g]?) : DiskAt w' base D v z s :=
  ⟨h.box.congr (hk D (.inl rfl)), h.buf.congr fun g hg => hk g (.inr hg), h.isb, h.len, h.syn, h.baseD⟩
theorem DiskAt.inside {w : World} {base D : Nat} {v : Value} {z : List Int} {s : Nat} (h : DiskAt w base D v z s) (g : Nat) (hg : diskP D v g) : g < w.heap.size ∧ base ≤ g := by
  rcases hg with rfl | hg
  · exact ⟨h.box.lt, h.baseD⟩
  · exact ⟨(h.buf.own g hg).2.1, (h.buf.own g hg).1⟩
theorem DiskAt.far {w w' : World} {base D : Nat} {v : Value} {z : List Int} {s : Nat} (h : DiskAt w base D v z s) (hb : Below w.heap.size w w') : DiskAt w' base D v z s := h.congr fun g hg => hb.block g (h.inside g hg).1
theorem DiskAt.ne {w : World} {base D : Nat} {v : Value} {z : List Int} {s : Nat} (h : DiskAt w base D v z s) : v.ownBlock ≠ some D := fun e => by
  obtain ⟨_, _, cur, hc⟩ := h.buf.own D e
  exact absurd (h.box.typ hc) (by decide)
theorem DiskAt.less {w : World} {base base' D : Nat} {v : Value} {z : List Int} {s : Nat} (h : DiskAt w base D v z s) (hb : base' ≤ base) : DiskAt w base' D v z s :=
  ⟨h.box, h.buf.less hb, h.isb, h.len, h.syn, Nat.le_trans hb h.baseD⟩
def RowsAt (w : World) (base : Nat) (v : Value) (rs : List (List Int)) : Prop :=
  ∃ vals, w.ownsRow base 30 1 v rs.length vals ∧ ∀ j (hj : j < rs.length), ∃ u, vals[j]? = some u ∧ OwnB w base u rs[j]
theorem RowsAt.nil (w : World) (base : Nat) : RowsAt w base (.slice none 0 0) [] := ⟨[], World.ownsRow_nil w base 30 1, fun j hj => by simp at hj⟩
theorem OwnB.keepC {w w' : World} {base : Nat} {v : Value} {z : List Int} (h : OwnB w base v z) (hk : ∀ g cur, base ≤ g → w.heap[g]? = some (.cells cur 5 (0, 0)) → w'.heap[g]? = w.heap[g]?) : OwnB w' base v z := by
  refine ⟨h.1, ?_⟩
  rcases h.2 with h' | ⟨g, cap, cur, h1, h2, h3, h4⟩
  · exact .inl h'
  · exact .inr ⟨g, cap, cur, h1, h2, (hk g cur h2 h3).trans h3, h4⟩
theorem RowsAt.keep {w w' : World} {base : Nat} {v : Value} {rs : List (List Int)} (h : RowsAt w base v rs) (hk : ∀ g cur t, base ≤ g → (t = 5 ∨ t = 30) → w.heap[g]? = some (.cells cur t (0, 0)) → w'.heap[g]? = w.heap[g]?) : RowsAt w' base v rs := by
  obtain ⟨vals, h1, h2⟩ := h
  refine ⟨vals, ⟨h1.1, ?_⟩, fun j hj => ?_⟩
  · rcases h1.2 with h' | ⟨g, cap, cur, e1, e2, e3, e4⟩
    · exact .inl h'
    · exact .inr ⟨g, cap, cur, e1, e2, (hk g cur _ e2 (.inr rfl) e3).trans e3, e4⟩
  · obtain ⟨u, hu, ho⟩ := h2 j hj
    exact ⟨u, hu, ho.keepC fun g cur hg hc => hk g cur _ hg (.inl rfl) hc⟩
theorem RowsAt.isSlice {w : World} {base : Nat} {v : Value} {rs : List (List Int)} (h : RowsAt w base v rs) : ∃ x c, v = .slice x rs.length c := by
  obtain ⟨vals, h1, h2⟩ := h
  rcases h1.2 with ⟨h', h0⟩ | ⟨g, cap, cur, e1, _⟩
  · exact ⟨none, 0, by rw [h', h0]⟩
  · exact ⟨_, _, e1⟩
theorem RowsAt.far {w w' : World} {base : Nat} {v : Value} {rs : List (List Int)} (h : RowsAt w base v rs) (hb : Below w.heap.size w w') : RowsAt w' base v rs :=
  h.keep fun g _ _ _ _ hc => hb.block g (Array.getElem?_eq_some_iff.1 hc).1
set_option maxHeartbeats 2000000 in
theorem sclone_any (x : Option Addr) (n c : Nat) (z : List Int) (w : World) (hb : Bytes w x n c z) (hn : n ≤ 1000000) :
    Calls Tryz.prog 40 #[.slice x n c] w fun e w' => ∃ v, e = .returned v ∧ OwnB w' w.heap.size v z ∧ Below w.heap.size w w' := by
  cases x with
  | none =>
    have hc := hb.nil rfl
    have hle := hb.le
    have hz := hb.len_eq
    obtain rfl : c = 0 := hc
    obtain rfl : n = 0 := by omega
    have hz' : z = [] := List.length_eq_zero_iff.1 hz.symm
    subst hz'
    have hnil : ∀ wx : World, (binOp BinOp.eql 30 (.slice none 0 0) (.slice none 0 0)).run Tryz.prog wx = .ok (.bool true) wx := fun _ => by kernel_rfl
    clear hb hz hle hn
    go_enter Tryz.func40, Tryz.ntmps40
    go_wp2
    go_ret
    exact ⟨_, rfl, OwnB.nil _ _, Below.refl _ _⟩
  | some a =>
    have hE0 : OwnB (w.alloc (.cells #[] 5)) w.heap.size (.slice (some ⟨w.heap.size, 0, none⟩) 0 0) [] := OwnB.ofHolds (Holds.new w .u8 5 []) (Nat.le_refl _) (by simp)
    have hy : Bytes (w.alloc (.cells #[] 5)) (some a) n c z := hb.below ((Below.refl _ _).alloc (Nat.le_refl _) _)
    have hnil : ∀ wx : World, (binOp BinOp.eql 30 (.slice (some a) n c) (.slice none 0 0)).run Tryz.prog wx = .ok (.bool false) wx := fun _ => by kernel_rfl
    clear hb
    go_enter Tryz.func40, Tryz.ntmps40
    go_wp2_with (at_builtin; refine wpList_app rfl _ _ rfl w.heap.size _ [] rfl hE0 (some a) n c z rfl hy (by simp; omega) (by simp) ?_; intro v1 w1 ho1 hg1)
    go_ret
    rw [List.nil_append] at ho1
    exact ⟨_, rfl, ho1, below_grown ((Below.refl _ _).alloc (Nat.le_refl _) _) hE0 hg1 (by simp)⟩
section
variable (base D : Nat) (v : Value) (z : List Int) (s : Nat) (w : World)
end
attribute [local go_sem] Oper.semAt_some
theorem KeepR.putObj {Bn B0 : Nat} (W : World) (l : Nat) (o' : Obj) (h1 : Bn ≠ l) (h2 : B0 ≤ l) (h3 : l < W.heap.size) : KeepR Bn B0 W (W.putObj l o') :=
  ⟨World.putObj_heap_other h1, (Below.refl B0 W).grown (grownBy_putObj' W l o') (by omega) (fun k hk => by cases hk; exact h2)⟩
theorem KeepR.trans {Bn B0 : Nat} {A B C : World} (h : KeepR Bn B0 A B) (k : KeepR Bn B0 B C) : KeepR Bn B0 A C := ⟨k.1.trans h.1, h.2.trans k.2⟩
theorem infoSlD : (Tryz.prog.info? 30).map (fun i => (i.zero, i.size, i.bytes)) = some (some (.slice none 0 0), 1, 24) := by kernel_rfl
section
variable (base D : Nat) (v : Value) (z : List Int) (s : Nat) (w : World)
theorem recV_cut (w : World) (x : Option Addr) (c : Nat) (hx : TopA x) (hb : Bytes w x z.length c z) (k : Nat) (hk : k < (wholeN z).length) :
    ∃ y n, n ≤ z.length ∧ (∀ wx, (Instr.slice 30 (recV x z k) (some (.int .i64 10)) none none).run Tryz.prog wx = .ok (.slice y n n) wx) ∧ Bytes w y n n (dataK z k) := by
  obtain ⟨g, rfl⟩ := hx.some hb k hk
  have hs := sumK_succ (wholeN z) k hk
  have hle := (wholeN_at _ z rfl (k + 1)).2.2 (by omega)
  have hp := wholeN_pos z k hk
  have h1 := hb.cut3d (sumK (wholeN z) k) (sumK (wholeN z) k + (wholeN z)[k]) (by omega) (by omega)
  have e1 : sumK (wholeN z) k + (wholeN z)[k] - sumK (wholeN z) k = (wholeN z)[k] := by omega
  rw [e1] at h1
  have h2 := h1.cut 10 (wholeN z)[k] hp (Nat.le_refl _)
  refine ⟨subA (cutA (some ⟨g, 0, none⟩) (sumK (wholeN z) k) (sumK (wholeN z) k + (wholeN z)[k])) (wholeN z)[k] 10, (wholeN z)[k] - 10, by omega, fun wx => ?_, ?_⟩
  · have := run_cut_l wx (cutA (some ⟨g, 0, none⟩) (sumK (wholeN z) k) (sumK (wholeN z) k + (wholeN z)[k])) (wholeN z)[k] (wholeN z)[k] 10 hp
    unfold recV
    rw [List.getElem?_eq_getElem hk, Option.getD_some]
    exact this
  · have e2 : dataK z k = (((z.drop (sumK (wholeN z) k)).take (wholeN z)[k]).drop 10).take ((wholeN z)[k] - 10) := by
      unfold dataK
      rw [List.getElem?_eq_getElem hk, Option.getD_some, List.drop_take, List.take_take, List.drop_drop]
      congr 1
      omega
    rw [e2]
    exact h2
theorem sumK_ge (k : Nat) (hk : k ≤ (wholeN z).length) : 10 * k ≤ sumK (wholeN z) k := by
  induction k with
  | zero => simp [sumK]
  | succ k ih =>
    have h1 := ih (by omega)
    have h2 := wholeN_pos z k (by omega)
    rw [sumK_succ _ _ (by omega)]
    omega
theorem wholeN_few : 10 * (wholeN z).length ≤ z.length := Nat.le_trans (sumK_ge z _ (Nat.le_refl _)) (trimN_le z)
theorem RowsAt.less {w : World} {base base' : Nat} {v : Value} {rs : List (List Int)} (h : RowsAt w base v rs) (hb : base' ≤ base) : RowsAt w base' v rs := by
  obtain ⟨vals, h1, h2⟩ := h
  refine ⟨vals, ⟨h1.1, ?_⟩, fun j hj => ?_⟩
  · rcases h1.2 with h' | ⟨g, cap, cur, e1, e2, e3⟩
    · exact .inl h'
    · exact .inr ⟨g, cap, cur, e1, by omega, e3⟩
  · obtain ⟨u, hu, ho⟩ := h2 j hj
    exact ⟨u, hu, ho.lessG hb⟩
theorem RowsAt.own {w : World} {base : Nat} {v : Value} {rs : List (List Int)} (h : RowsAt w base v rs) (g : Nat) (hg : v.ownBlock = some g) : base ≤ g ∧ g < w.heap.size ∧ ∃ cur, w.heap[g]? = some (.cells cur 30 (0, 0)) := by
  obtain ⟨vals, h1, h2⟩ := h
  rcases h1.2 with ⟨rfl, _⟩ | ⟨g', cap, cur, rfl, e2, e3, _⟩
  · cases hg
  · simp [Value.ownBlock] at hg
    subst hg
    exact ⟨e2, (Array.getElem?_eq_some_iff.1 e3).1, cur, e3⟩
theorem RowsAt.snoc {w w' : World} {base : Nat} {v' u : Value} {vals : List Value} {rs : List (List Int)} {r : List Int} (hvl : vals.length = rs.length) (h2 : ∀ j (hj : j < rs.length), ∃ u, vals[j]? = some u ∧ OwnB w base u rs[j]) (hu : OwnB w base u r) (hw : w'.ownsRow base 30 1 v' (rs.length + 1) (vals ++ [u]))
    (hk : ∀ g cur, base ≤ g → w.heap[g]? = some (.cells cur 5 (0, 0)) → w'.heap[g]? = w.heap[g]?) : RowsAt w' base v' (rs ++ [r]) := by
  refine ⟨vals ++ [u], by rw [List.length_append, List.length_singleton]; exact hw, fun j hj => ?_⟩
  rw [List.length_append, List.length_singleton] at hj
  by_cases hjj : j < rs.length
  · obtain ⟨u', hu', ho⟩ := h2 j hjj
    refine ⟨u', by rw [List.getElem?_append_left (by omega)]; exact hu', ?_⟩
    rw [List.getElem_append_left hjj]
    exact ho.keepC hk
  · obtain rfl : j = rs.length := by omega
    refine ⟨u, by rw [← hvl, List.getElem?_append_right (Nat.le_refl _)]; simp, ?_⟩
    rw [List.getElem_append_right (Nat.le_refl _)]
    simp only [Nat.sub_self, gZ]
    exact hu.keepC hk
set_option maxHeartbeats 2000000 in
theorem records_in (hD : DiskAt w base D v z s) (hKT : S.KTab w) :
    CallsIn Fence.wide 3 Tryz.prog 18 #[.pointer (some ⟨D, 0, none⟩)] w fun e w' => ∃ v', e = .returned v' ∧ RowsAt w' w.heap.size v' (recsL z) ∧ Below w.heap.size w w' := by
  obtain ⟨x, c, rfl, hb, hx⟩ := hD.buf.bytes
  have hx : TopA x := hx
  have hz := hD.isb
  have hzl := hD.len
  have c0 : (w.alloc (.cells #[.slice none 0 0] 58)).cell? ⟨D, 0, none⟩ = some (.slice x z.length c) := (((Below.refl w.heap.size w).alloc (Nat.le_refl _) _).cell (p := ⟨D, 0, none⟩) hD.box.lt).trans (hD.box.cell 0)
  have HZ : Veil (z.length ≤ 65536) := ⟨hzl⟩
  refine callsIn_of_wp_marks Tryz.func18 rfl trivial ?_ rfl
  simp only [Tryz.ntmps18, List.size_toArray, List.length_cons, List.length_nil, Nat.reduceAdd, Nat.reduceSub, Array.replicate_succ, Array.replicate_zero, List.push_toArray, List.append_toArray, List.nil_append, List.cons_append]
  gi_wp2_with (refine ⟨trivial, ?_⟩; gi_at_call 39; refine (callsIn_wide.2 (whole_any _ _ _ _)).mono ?_; rintro e w3 ⟨rfl, rfl⟩)
  have hw1 : Below w.heap.size w ((w.alloc (.cells #[.slice none 0 0] 58)).alloc (.cells #[.slice x z.length c] 30)) := ((Below.refl _ _).alloc (Nat.le_refl _) _).alloc (by simp) _
  have hBn : ((w.alloc (.cells #[.slice none 0 0] 58)).alloc (.cells #[.slice x z.length c] 30)).cell? ⟨w.heap.size + 1, 0, none⟩ = some (.slice x z.length c) := by
    have := (CellsD.new (w.alloc (.cells #[.slice none 0 0] 58)) 30 [.slice x z.length c]).cell 0
    rw [World.size_alloc] at this
    exact this
  have hBl : Boxed ((w.alloc (.cells #[.slice none 0 0] 58)).alloc (.cells #[.slice x z.length c] 30)) w.heap.size 58 (.slice none 0 0) := (Boxed.new w 58 (.slice none 0 0)).alloc _
  have hsz : ((w.alloc (.cells #[.slice none 0 0] 58)).alloc (.cells #[.slice x z.length c] 30)).heap.size = w.heap.size + 2 := by simp
  obtain ⟨W1, hW1⟩ : ∃ q, (w.alloc (.cells #[.slice none 0 0] 58)).alloc (.cells #[.slice x z.length c] 30) = q := ⟨_, rfl⟩
  rw [hW1] at hw1 hBn hBl hsz ⊢
  clear hW1 c0
  refine wpIn_rangeFunc_ownF rfl (by omega) (gf := 71) (lb := #[.pointer (some ⟨w.heap.size + 1, 0, none⟩)]) rfl trivial (enters_of Tryz.func71 (by kernel_rfl) rfl)
    (encs := fun i : Fin (wholeN z).length => #[recV x z i.1]) (Kp := KeepR (w.heap.size + 1) w.heap.size) (S := fun ys => ys = List.finRange (wholeN z).length) (Sp := fun pre => pre <+: List.finRange (wholeN z).length) (N := (wholeN z).length) (w0 := W1)
    (fun l J Jx W hW hAJ _ hY h0 => whole1_in (3 - 1) l (w.heap.size + 1) x c z w hx hb hz hzl hKT J Jx W hAJ hY (hw1.trans (hW.mono (by omega))) ((hW.cell (p := ⟨w.heap.size + 1, 0, none⟩) (by show w.heap.size + 1 < W1.heap.size; omega)).trans hBn) h0)
    KeepR.trans (fun W l o o' hl ho _ _ => KeepR.putObj W l o' (by omega) (by omega) (Array.getElem?_eq_some_iff.1 ho).1) (Below.refl _ _) (fun _ => rfl)
    (fun pre W => (∃ u, Boxed W w.heap.size 58 u ∧ RowsAt W (w.heap.size + 2) u (pre.map fun i => dataK z i.1)) ∧ Below w.heap.size w W ∧ w.heap.size + 2 ≤ W.heap.size)
    (fun _ _ _ => False)
    (fun pre A B row hI hg hr => ?own)
    (fun _ _ _ _ _ hs _ _ => hs)
    ⟨⟨_, hBl, RowsAt.nil _ _⟩, hw1, by omega⟩
    (fun i => { tmps := #[.pointer (some ⟨D, 0, none⟩), undef, .slice none 0 0, .pointer (some ⟨w.heap.size, 0, none⟩), recV x z i.1, .pointer (some ⟨D, 0, none⟩), .bool false, .pointer (some ⟨D, 0, none⟩), .pointer (some ⟨D, 0, none⟩), .pointer (some ⟨D, 0, none⟩), .slice x z.length c, .func (.func 71) #[] #[.pointer (some ⟨w.heap.size + 1, 0, none⟩)], recV x z i.1, undef, undef, undef, undef, undef, undef, undef], defers := [] }) ?assign ?body ?done ?stop
  case own =>
    obtain ⟨⟨u, h1, h2⟩, h3, h4⟩ := hI
    have hne : ∀ g cur t fr, A.heap[g]? = some (.cells cur t fr) → some g ≠ row := fun g cur t fr hc e => by
      obtain ⟨_, o, ho, hk⟩ := hr g e.symm
      rw [hc] at ho
      cases ho
      cases hk
    refine ⟨⟨u, h1.kept hg (hne _ _ _ _ h1), h2.keep fun g cur t _ _ hc => hg.block g (Array.getElem?_eq_some_iff.1 hc).1 (hne _ _ _ _ hc)⟩, h3.grown hg (by omega) (fun k hk => ?_), Nat.le_trans h4 hg.size⟩
    have := (hr k hk).1
    omega
  case assign =>
    intro l i W K hK
    gi_wp2
    exact hK
  case body =>
    rintro l pre i W ⟨⟨u, hu, hrs⟩, hB, hs2⟩ hpre
    have hfew := wholeN_few z
    have hzl2 := HZ.out
    obtain ⟨y, n, hn, hcl, hy⟩ := recV_cut z w x c hx hb i.1 i.2
    obtain ⟨V, hV⟩ : ∃ q, recV x z i.1 = q := ⟨_, rfl⟩
    rw [hV] at hcl ⊢
    clear hV
    have hcell : W.drew.cell? ⟨w.heap.size, 0, none⟩ = some u := hu.cell
    have hcn := sclone_any y n n (dataK z i.1) W.drew ((hy.below hB).below (Below.refl _ _).drew) (by have := HZ.out; omega)
    have hWd : Below w.heap.size w W.drew := hB.drew
    obtain ⟨iw, hiw, hwz, hws, hwb⟩ := info_parts infoSlD
    refine wpIn_block ?_
    refine wpR_gate (fun w' => w'.cell? ⟨w.heap.size, 0, none⟩ = some u) 5 (by kernel_rfl) (by rintro ⟨a, w', h⟩; exact h) (by kernel_rfl) ?_
    have hS : (fun w' : World => w'.cell? ⟨w.heap.size, 0, none⟩ = some u) W.drew := hcell
    refine gr 0 ?_ rfl (by kernel_rfl) (fun _ _ _ h => h) hS ?_ ?_
    rotate_left
    · intro wx hSw; go_split_ands; go_simp; try with_reducible rfl
    simp only [Act.put, gA, gS, gZ, sI, sZ, sS]
    refine ga 1 ?_ rfl (by kernel_rfl) (fun _ _ _ h => h) hS ?_ ?_
    rotate_left
    · intro _; go_simp; try with_reducible rfl
    simp only [Act.put, gA, gS, gZ, sI, sZ, sS]
    refine ga 2 (.slice y n n) rfl (by kernel_rfl) (fun _ _ _ h => h) hS ?_ ?_
    · intro _; go_simp
    simp only [Act.put, gA, gS, gZ, sI, sZ, sS]
    refine wpAnyG_one (i := 3) rfl (by kernel_rfl) (by kernel_rfl) (fun K hK => ?_)
    refine wpx_call _ _ (by kernel_rfl) (hcn.mono ?_)
    rintro e W2 ⟨u2, rfl, ho2, hb2⟩
    refine ⟨_, rfl, ?_⟩
    have hs2d : w.heap.size + 2 ≤ W.drew.heap.size := hs2
    have hu2 : Boxed W2 w.heap.size 58 u := (hb2.block _ (by omega)).trans hu
    have hrs2 : RowsAt W2 (w.heap.size + 2) u (pre.map fun i => dataK z i.1) := RowsAt.far (w := W.drew) hrs hb2
    have hB2 := hWd.trans (hb2.mono hWd.size)
    have hs22 : w.heap.size + 2 ≤ W2.heap.size := Nat.le_trans hs2d hb2.size
    replace ho2 := ho2.lessG hs2d
    replace hS : (fun w' : World => w'.cell? ⟨w.heap.size, 0, none⟩ = some u) W2 := hu2.cell
    obtain ⟨x2, n2, c2, rfl, hn2⟩ := ho2.isSlice
    refine hK.out _ _ (fun _ => hS) ?_
    clear hK K
    try simp only [Act.put, gA, gS, gZ, sI, sZ, sS]
    refine wpAnyG_one (i := 4) rfl (by kernel_rfl) (by kernel_rfl) (fun K hK => ?_)
    refine wp_buildSlice 58 30 1 _ rfl #[.slice x2 n2 c2] iw _ Tryz.underlying58 hiw hwz (by rw [hws]; decide) (by rw [hws]; decide) (by rw [hws]; kernel_rfl) ?_
    have hb3 : Below W2.heap.size W2 (W2.alloc (.cells #[.slice x2 n2 c2] 30)) := (Below.refl _ _).alloc (Nat.le_refl _) _
    have hnew := (CellsD.new W2 30 [.slice x2 n2 c2]).cell 0
    have hu3 : Boxed (W2.alloc (.cells #[.slice x2 n2 c2] 30)) w.heap.size 58 u := hu2.alloc _
    have hrs3 := hrs2.far hb3
    have ho3 := ho2.keepC (w' := W2.alloc (.cells #[.slice x2 n2 c2] 30)) fun g cur _ hc => hb3.block g (Array.getElem?_eq_some_iff.1 hc).1
    have hB3 := hB2.trans (hb3.mono hB2.size)
    have hs3 : w.heap.size + 2 ≤ (W2.alloc (.cells #[.slice x2 n2 c2] 30)).heap.size := Nat.le_trans hs22 hb3.size
    replace hS : (fun w' : World => w'.cell? ⟨w.heap.size, 0, none⟩ = some u) (W2.alloc (.cells #[.slice x2 n2 c2] 30)) := hu3.cell
    obtain ⟨g3, hg3⟩ : ∃ q, W2.heap.size = q := ⟨_, rfl⟩
    obtain ⟨W3, hW3⟩ : ∃ q, W2.alloc (.cells #[.slice x2 n2 c2] 30) = q := ⟨_, rfl⟩
    have hK03 : KeepsOthers W W3 := by rw [← hW3]; exact ((KeepsOthers.drew W).trans (S.keepsOthers_of_below hb2)).trans (KeepsOthers.alloc _ _)
    have hKR3 : KeepR (w.heap.size + 1) w.heap.size W W3 := by
      rw [← hW3]
      exact ⟨(hb3.block _ (by omega)).trans (hb2.block _ (by omega)), ((Below.refl _ W).drew.trans (hb2.mono (by omega))).trans (hb3.mono (by omega))⟩
    refine hK.out _ _ (fun _ => hS) ?_
    clear hK K
    try simp only [Act.put, gA, gS, gZ, sI, sZ, sS]
    rw [hW3] at hnew hu3 hrs3 ho3 hB3 hs3 hS ⊢
    rw [hg3] at hnew ⊢
    clear hW3 hg3 hb3 hu2 hrs2 hB2 hb2
    refine wpAnyG_one (i := 5) rfl (by kernel_rfl) (by kernel_rfl) (fun K hK => ?_)
    obtain ⟨vals, hv1, hv2⟩ := id hrs3
    refine wp_append_own W3 _ _ 58 rfl (w.heap.size + 2) 30 iw _ 1 24 Tryz.underlying58 hiw hwz hws hwb rfl (by decide) u _ vals rfl hv1 ⟨g3, 0, none⟩ 1 1 [.slice x2 n2 c2] rfl rfl (fun j u' hu' => ?_) (by simp [Value.oneCell']) ?_ ?_ (by omega) ?_
    · match j, hu' with
      | 0, hu' => rw [Addr.add_mid']; exact hnew.trans hu'
      | j + 1, hu' => simp at hu'
    · rw [List.length_map]; simp [maxLen]; omega
    · rw [List.length_map]; omega
    intro u4 W4 ho4 hg4 _
    have hnu : ∀ g, g < w.heap.size + 2 → some g ≠ u.ownBlock := fun g hg e => by have := (hrs3.own g e.symm).1; omega
    have hu4 : Boxed W4 w.heap.size 58 u := hu3.kept hg4 (hnu _ (by omega))
    have hvl : vals.length = (pre.map fun i => dataK z i.1).length := by have := hv1.1; rwa [Nat.mul_one] at this
    obtain ⟨g4, c4, rfl⟩ := ownsRow_succ ho4
    have hK04 : KeepsOthers W W4 := hK03.trans (KeepsOthers.of_grownBy hg4 fun j o e ho => by
      obtain ⟨_, _, cur, hc⟩ := hrs3.own j e
      rw [hc] at ho; cases ho; rfl)
    have hKR4 : KeepR (w.heap.size + 1) w.heap.size W W4 := hKR3.trans ⟨hg4.block _ (by omega) (hnu _ (by omega)), (Below.refl _ _).grown hg4 (by omega) (fun k hk => by have := (hrs3.own k hk).1; omega)⟩
    have hB4 : Below w.heap.size w W4 := hB3.grown hg4 (by omega) (fun k hk => by have := (hrs3.own k hk).1; omega)
    have hkeep : ∀ g cur, w.heap.size + 2 ≤ g → W3.heap[g]? = some (.cells cur 5 (0, 0)) → W4.heap[g]? = W3.heap[g]? := fun g cur _ hc => hg4.block g (Array.getElem?_eq_some_iff.1 hc).1 (fun e => by
      obtain ⟨_, _, cur', hc'⟩ := hrs3.own g e.symm
      rw [hc] at hc'
      injection hc' with hc'
      injection hc' with _ e2 _
      exact absurd e2 (by decide))
    have hs4 : w.heap.size + 2 ≤ W4.heap.size := Nat.le_trans hs3 hg4.size
    have hR4 := RowsAt.snoc (w' := W4) hvl hv2 ho3 ho4 hkeep
    have hcl4 := hu4.cell
    have hfz4 := hu4.frozen
    clear hkeep hK03 hKR3 hB3 hg4 hv1 hv2 ho3 ho4 hrs3 hu3 hnew hcl hcn hS
    refine hK.out _ _ (fun h => absurd (show true = false from h) (by decide)) ?_
    clear hK K
    try simp only [Act.put, gA, gS, gZ, sI, sZ, sS]
    refine wpAnyG_one (i := 6) rfl (by kernel_rfl) (by kernel_rfl) (fun K hK => ?_)
    go_simp
    refine hK.out _ _ (fun h => absurd (show true = false from h) (by decide)) ?_
    clear hK K
    try simp only [Act.put, gA, gS, gZ, sI, sZ, sS]
    refine wpAnyG_done (by kernel_rfl) ?_ _
    rw [List.length_map] at hR4
    refine ⟨hK04.trans (KeepsOthers.setCell _ _ _), hKR4.trans ⟨Below.heap_setCell _ _ _ _ (by show w.heap.size + 1 ≠ w.heap.size; omega), (Below.refl _ W4).setCell (p := ⟨w.heap.size, 0, none⟩) (Nat.le_refl _) _⟩, ⟨_, hu4.set _, ?_⟩, hB4.setCell (p := ⟨w.heap.size, 0, none⟩) (Nat.le_refl _) _, by simpa [World.setCell] using hs4⟩
    rw [List.map_append]
    exact hR4.keep fun g _ _ hg _ _ => Below.heap_setCell _ _ _ g (by show g ≠ w.heap.size; omega)
  case done =>
    rintro E ys W hE rfl ⟨⟨u, hu, hrs⟩, hB, hs2⟩ hK
    have hcu := hu.cell
    have hEl : E < W.heap.size := (Array.getElem?_eq_some_iff.1 hK).1
    gi_wp2
    have hR : RowsAt (W.putObj E (.deferred none)) w.heap.size u (recsL z) := by
      have e : (List.finRange (wholeN z).length).map (fun i => dataK z i.1) = recsL z := by
        unfold recsL
        apply List.ext_getElem <;> simp
      rw [e] at hrs
      refine (hrs.less (by omega)).keep fun g cur t _ _ hc => World.putObj_heap_other fun e => ?_
      subst e
      rw [hK] at hc
      cases hc
    refine ⟨by simp, .inl ⟨_, _, rfl, run_takeDeferred hK, ?_⟩⟩
    exact ⟨_, results_tmp (Tryz.results18) _ _ _, _, rfl, hR, hB.grown (grownBy_putObj' W E _) (by omega) (fun k hk => by cases hk; omega)⟩
  case stop =>
    rintro E c' pre W _ _ h _
    exact h.elim
theorem records_any (hD : DiskAt w base D v z s) (hKT : S.KTab w) :
    Calls Tryz.prog 18 #[.pointer (some ⟨D, 0, none⟩)] w fun e w' => ∃ v', e = .returned v' ∧ RowsAt w' w.heap.size v' (recsL z) ∧ Below w.heap.size w w' := callsIn_wide.1 (records_in base D v z s w hD hKT)
end
theorem wp_meetEd {P : Program} {c : Code} {Q : Exit → Act → World → Prop} {a : Act} {w : World} (R : Act → World → Prop) (h1 : Code.wp P c (fun ex a w => match ex with | .normal => R a w | _ => False) a w) (h2 : ∀ a w, R a w → Q .normal a w) : Code.wp P c Q a w :=
  wp_mono h1 fun e a w h => by
    cases e <;> first | exact h2 a w h | exact h.elim
structure DiskTo (w w' : World) (base D : Nat) (v v' : Value) (z' : List Int) (s' : Nat) : Prop where
  disk : DiskAt w' base D v' z' s'
  turn : TurnD (diskP D v) w w'
  block : v'.ownBlock = v.ownBlock ∨ ∃ g, v'.ownBlock = some g ∧ w.heap.size ≤ g
theorem dNew_any (w : World) :
    Calls Tryz.prog 13 #[] w fun e w' => e = .returned (.pointer (some ⟨w.heap.size, 0, none⟩)) ∧ DiskAt w' w.heap.size w.heap.size (.slice none 0 0) [] 0 ∧ w'.heap.size = w.heap.size + 1 ∧ Below w.heap.size w w' := by
  go_enter Tryz.func13, Tryz.ntmps13
  go_wp2
  go_ret
  exact ⟨rfl, ⟨CellsD.new w 92 [.slice none 0 0, .int .i64 0], BufAt.nil _ _, (fun v hv => by cases hv), by simp, Nat.le_refl _, Nat.le_refl _⟩, by simp, (Below.refl _ _).alloc (Nat.le_refl _) _⟩
section
variable (base D : Nat) (v : Value) (z : List Int) (s : Nat) (w : World)
theorem dcut_any (hD : DiskAt w base D v z s) (n : Nat) (hn : n ≤ z.length) :
    Calls Tryz.prog 38 #[.pointer (some ⟨D, 0, none⟩), .int .i64 n] w fun e w' => (∃ r, e = .returned r) ∧ ∃ v', DiskTo w w' base D v v' (z.take n) n := by
  obtain ⟨x, c, rfl, hb, hx⟩ := hD.buf.bytes
  have c0 : w.cell? ⟨D, 0, none⟩ = some (.slice x z.length c) := hD.box.cell 0
  have c1 : w.cell? ⟨D, 1, none⟩ = some (.int .i64 s) := hD.box.cell 1
  have f0 := hD.box.frozen 0
  have f1 := hD.box.frozen 1
  have hle := hb.le
  have hsl : ∀ wx, (Instr.slice 30 (.slice x z.length c) none (some (.int .i64 n)) (some (.int .i64 n))).run Tryz.prog wx = .ok (.slice x n n) wx := fun wx => by
    rw [run_slice_hm wx 30 _ z.length c elemB .i64 .i64 n n (by omega) (Int.le_refl _) (by omega), sizeU8]
    simp only [sliced, Result.andThen, Int.toNat_natCast, Nat.sub_zero]
    split
    · rfl
    · rw [TopA.zero hx]
  have hDD := Veil.mk hD
  clear hb hx hD
  go_enter Tryz.func38, Tryz.ntmps38
  go_wp2
  go_end0
  have hD := hDD.out
  have hne := hD.ne
  have hbx := (hD.box.set 0 (.slice x n n)).set 1 (.int .i64 n)
  refine ⟨⟨_, rfl⟩, .slice x n n, ⟨hbx, (hD.buf.cut n hn).congr fun g hg => ?_, fun v hv => hD.isb v (List.mem_of_mem_take hv), by rw [List.length_take]; have := hD.len; omega, by rw [List.length_take]; omega, hD.baseD⟩, ?_, .inl (by cases x <;> rfl)⟩
  · have hg : (Value.slice x z.length c).ownBlock = some g := by cases x <;> exact hg
    have hgD : g ≠ D := fun e => hne (by rw [← e]; exact hg)
    rw [Below.heap_setCell _ _ _ g (by exact hgD), Below.heap_setCell _ _ _ g (by exact hgD)]
  · exact (TurnD.of_setCell w (a := ⟨D, 0, none⟩) (.inl rfl) _).trans (TurnD.of_setCell _ (a := ⟨D, 1, none⟩) (.inl rfl) _)
set_option maxHeartbeats 4000000 in
theorem dPower_any (hD : DiskAt w base D v z s) (k : Nat) (hkm : k ≤ 9223372036854775807) :
    Calls Tryz.prog 16 #[.pointer (some ⟨D, 0, none⟩), .int .i64 k] w fun e w' => e = .returned (.int .i64 0) ∧ ∃ v', DiskTo w w' base D v v' (z.take (s + min k (z.length - s))) (s + min k (z.length - s)) := by
  obtain ⟨x, c, rfl, hb, hx⟩ := hD.buf.bytes
  have c0 : w.drew.cell? ⟨D, 0, none⟩ = some (.slice x z.length c) := hD.box.cell 0
  have c1 : w.drew.cell? ⟨D, 1, none⟩ = some (.int .i64 s) := hD.box.cell 1
  have hsy := hD.syn
  have hln := hD.len
  have hcut := dcut_any base D (.slice x z.length c) z s w.drew (hD.far (Below.refl _ _).drew) (s + min k (z.length - s)) (by omega)
  obtain ⟨zl, hzl⟩ : ∃ q, z.length = q := ⟨_, rfl⟩
  rw [hzl] at c0 hsy hln hcut ⊢
  have HZ := Veil.mk hzl
  clear hb hx hD hzl
  have hmin : (if (zl : Int) - (s : Int) < (k : Int) then (zl : Int) - (s : Int) else (k : Int)) = ((min k (zl - s) : Nat) : Int) := by split <;> omega
  obtain ⟨m, hm⟩ : ∃ m, min k (zl - s) = m := ⟨_, rfl⟩
  rw [hm] at hcut hmin ⊢
  have hmz : s + m ≤ zl := by omega
  clear hm
  have hneg : ¬ (k : Int) < 0 := by omega
  have hwr1 : IntKind.i64.wrap ((zl : Int) - (s : Int)) = (zl : Int) - (s : Int) := by rw [IntKind.wrap_i64]; omega
  have hwr2 : IntKind.i64.wrap ((s : Int) + (m : Int)) = (s : Int) + (m : Int) := by rw [IntKind.wrap_i64]; omega
  go_enter Tryz.func16, Tryz.ntmps16
  go_upto_region 5 with fail
  refine wp_meetEd (fun a W => (∃ v1, DiskTo w.drew W base D (.slice x zl c) v1 (z.take (s + m)) (s + m)) ∧ ∃ r : Value, a = { tmps := #[.pointer (some ⟨D, 0, none⟩), .int .i64 k, undef, undef, .int .i64 0, .pointer (some ⟨D, 0, none⟩), .bool false, .int .i64 k, .bool false, .pointer (some ⟨D, 0, none⟩), .pointer (some ⟨D, 0, none⟩), .pointer (some ⟨D, 0, none⟩), .pointer (some ⟨D, 1, none⟩), .int .i64 s, .int .i64 k, .pointer (some ⟨D, 0, none⟩), .pointer (some ⟨D, 0, none⟩), .pointer (some ⟨D, 0, none⟩), .slice x zl c, .int .i64 zl, .pointer (some ⟨D, 0, none⟩), .pointer (some ⟨D, 0, none⟩), .pointer (some ⟨D, 1, none⟩), .int .i64 s, .int .i64 ((zl : Int) - (s : Int)), .int .i64 m, .int .i64 ((s + m : Nat) : Int), r], defers := [] }) ?_ ?_
  · refine wp_region_gate (fun _ => True) 18 (by kernel_rfl) ?_
    have hS : (fun _ : World => True) w.drew := trivial
    refine ga 0 ?_ rfl (by kernel_rfl) (fun _ _ _ h => h) hS ?_ ?_
    rotate_left
    · intro _; go_simp; try with_reducible rfl
    simp only [Act.put, gA, gS, gZ, sI, sZ, sS]
    refine ga 1 ?_ rfl (by kernel_rfl) (fun _ _ _ h => h) hS ?_ ?_
    rotate_left
    · intro _; go_simp; try with_reducible rfl
    simp only [Act.put, gA, gS, gZ, sI, sZ, sS]
    refine ga 2 ?_ rfl (by kernel_rfl) (fun _ _ _ h => h) hS ?_ ?_
    rotate_left
    · intro _; go_simp; try with_reducible rfl
    simp only [Act.put, gA, gS, gZ, sI, sZ, sS]
    refine ga 3 ?_ rfl (by kernel_rfl) (fun _ _ _ h => h) hS ?_ ?_
    rotate_left
    · intro _; go_simp; try with_reducible rfl
    simp only [Act.put, gA, gS, gZ, sI, sZ, sS]
    refine ga 5 ?_ rfl (by kernel_rfl) (fun _ _ _ h => h) hS ?_ ?_
    rotate_left
    · intro _; go_simp; try with_reducible rfl
    simp only [Act.put, gA, gS, gZ, sI, sZ, sS]
    refine ga 6 ?_ rfl (by kernel_rfl) (fun _ _ _ h => h) hS ?_ ?_
    rotate_left
    · intro _; go_simp; try with_reducible rfl
    simp only [Act.put, gA, gS, gZ, sI, sZ, sS]
    refine ga 7 ?_ rfl (by kernel_rfl) (fun _ _ _ h => h) hS ?_ ?_
    rotate_left
    · intro _; go_simp; try with_reducible rfl
    simp only [Act.put, gA, gS, gZ, sI, sZ, sS]
    refine ga 8 ?_ rfl (by kernel_rfl) (fun _ _ _ h => h) hS ?_ ?_
    rotate_left
    · intro _; go_simp; try with_reducible rfl
    simp only [Act.put, gA, gS, gZ, sI, sZ, sS]
    refine ga 11 ?_ rfl (by kernel_rfl) (fun _ _ _ h => h) hS ?_ ?_
    rotate_left
    · intro _; go_simp; try with_reducible rfl
    simp only [Act.put, gA, gS, gZ, sI, sZ, sS]
    refine ga 12 ?_ rfl (by kernel_rfl) (fun _ _ _ h => h) hS ?_ ?_
    rotate_left
    · intro _; go_simp; try with_reducible rfl
    simp only [Act.put, gA, gS, gZ, sI, sZ, sS]
    refine ga 13 ?_ rfl (by kernel_rfl) (fun _ _ _ h => h) hS ?_ ?_
    rotate_left
    · intro _; go_simp; try with_reducible rfl
    simp only [Act.put, gA, gS, gZ, sI, sZ, sS]
    refine wpAnyG_three (i := 4) (j := 9) (l := 14) rfl rfl rfl (by kernel_rfl) (by kernel_rfl) (by kernel_rfl) (by kernel_rfl) (fun K hK => ?_) (fun K hK => ?_) (fun K hK => ?_)
    · skip
      go_simp
      refine hK.out _ _ (fun _ => hS) ?_
      clear hK K
      try simp only [Act.put, gA, gS, gZ, sI, sZ, sS]
      refine wpAnyG_two (i := 9) (j := 14) rfl rfl (by kernel_rfl) (by kernel_rfl) (by kernel_rfl) (fun K hK => ?_) (fun K hK => ?_)
      · skip
        go_simp
        refine hK.out _ _ (fun _ => hS) ?_
        clear hK K
        try simp only [Act.put, gA, gS, gZ, sI, sZ, sS]
        refine ga 10 ?_ rfl (by kernel_rfl) (fun _ _ _ h => h) hS ?_ ?_
        rotate_left
        · intro _; go_simp; try with_reducible rfl
        simp only [Act.put, gA, gS, gZ, sI, sZ, sS]
        refine wpAnyG_one (i := 14) rfl (by kernel_rfl) (by kernel_rfl) (fun K hK => ?_)
        go_simp
        refine hK.out _ _ (fun _ => hS) ?_
        clear hK K
        try simp only [Act.put, gA, gS, gZ, sI, sZ, sS]
        refine ga 15 ?_ rfl (by kernel_rfl) (fun _ _ _ h => h) hS ?_ ?_
        rotate_left
        · intro _; go_simp; try with_reducible rfl
        simp only [Act.put, gA, gS, gZ, sI, sZ, sS]
        refine ga 16 (.int .i64 m) rfl (by kernel_rfl) (fun _ _ _ h => h) hS ?_ ?_
        · intro _; go_simp
        simp only [Act.put, gA, gS, gZ, sI, sZ, sS]
        refine ga 17 (.int .i64 ((s + m : Nat) : Int)) rfl (by kernel_rfl) (fun _ _ _ h => h) hS ?_ ?_
        · intro _; go_simp
        simp only [Act.put, gA, gS, gZ, sI, sZ, sS]
        refine wpAnyG_one (i := 18) rfl (by kernel_rfl) (by kernel_rfl) (fun K hK => ?_)
        refine wpx_call _ _ (by kernel_rfl) (hcut.mono ?_)
        rintro e w1 ⟨⟨r, rfl⟩, v1, hd1⟩
        refine ⟨_, rfl, ?_⟩
        refine hK.out _ _ (fun h => absurd (show true = false from h) (by decide)) ?_
        clear hK K
        try simp only [Act.put, gA, gS, gZ, sI, sZ, sS]
        refine wpAnyG_done (by kernel_rfl) ?_ _
        exact ⟨⟨v1, hd1⟩, r, rfl⟩
      · skip
        go_simp
        refine hK.out _ _ (fun _ => hS) ?_
        clear hK K
        try simp only [Act.put, gA, gS, gZ, sI, sZ, sS]
        refine wpAnyG_one (i := 9) rfl (by kernel_rfl) (by kernel_rfl) (fun K hK => ?_)
        go_simp
        refine hK.out _ _ (fun _ => hS) ?_
        clear hK K
        try simp only [Act.put, gA, gS, gZ, sI, sZ, sS]
        refine ga 10 ?_ rfl (by kernel_rfl) (fun _ _ _ h => h) hS ?_ ?_
        rotate_left
        · intro _; go_simp; try with_reducible rfl
        simp only [Act.put, gA, gS, gZ, sI, sZ, sS]
        refine ga 15 ?_ rfl (by kernel_rfl) (fun _ _ _ h => h) hS ?_ ?_
        rotate_left
        · intro _; go_simp; try with_reducible rfl
        simp only [Act.put, gA, gS, gZ, sI, sZ, sS]
        refine ga 16 (.int .i64 m) rfl (by kernel_rfl) (fun _ _ _ h => h) hS ?_ ?_
        · intro _; go_simp
        simp only [Act.put, gA, gS, gZ, sI, sZ, sS]
        refine ga 17 (.int .i64 ((s + m : Nat) : Int)) rfl (by kernel_rfl) (fun _ _ _ h => h) hS ?_ ?_
        · intro _; go_simp
        simp only [Act.put, gA, gS, gZ, sI, sZ, sS]
        refine wpAnyG_one (i := 18) rfl (by kernel_rfl) (by kernel_rfl) (fun K hK => ?_)
        refine wpx_call _ _ (by kernel_rfl) (hcut.mono ?_)
        rintro e w1 ⟨⟨r, rfl⟩, v1, hd1⟩
        refine ⟨_, rfl, ?_⟩
        refine hK.out _ _ (fun h => absurd (show true = false from h) (by decide)) ?_
        clear hK K
        try simp only [Act.put, gA, gS, gZ, sI, sZ, sS]
        refine wpAnyG_done (by kernel_rfl) ?_ _
        exact ⟨⟨v1, hd1⟩, r, rfl⟩
    · skip
      go_simp
      refine hK.out _ _ (fun _ => hS) ?_
      clear hK K
      try simp only [Act.put, gA, gS, gZ, sI, sZ, sS]
      refine ga 10 ?_ rfl (by kernel_rfl) (fun _ _ _ h => h) hS ?_ ?_
      rotate_left
      · intro _; go_simp; try with_reducible rfl
      simp only [Act.put, gA, gS, gZ, sI, sZ, sS]
      refine wpAnyG_two (i := 4) (j := 14) rfl rfl (by kernel_rfl) (by kernel_rfl) (by kernel_rfl) (fun K hK => ?_) (fun K hK => ?_)
      · skip
        go_simp
        refine hK.out _ _ (fun _ => hS) ?_
        clear hK K
        try simp only [Act.put, gA, gS, gZ, sI, sZ, sS]
        refine wpAnyG_one (i := 14) rfl (by kernel_rfl) (by kernel_rfl) (fun K hK => ?_)
        go_simp
        refine hK.out _ _ (fun _ => hS) ?_
        clear hK K
        try simp only [Act.put, gA, gS, gZ, sI, sZ, sS]
        refine ga 15 ?_ rfl (by kernel_rfl) (fun _ _ _ h => h) hS ?_ ?_
        rotate_left
        · intro _; go_simp; try with_reducible rfl
        simp only [Act.put, gA, gS, gZ, sI, sZ, sS]
        refine ga 16 (.int .i64 m) rfl (by kernel_rfl) (fun _ _ _ h => h) hS ?_ ?_
        · intro _; go_simp
        simp only [Act.put, gA, gS, gZ, sI, sZ, sS]
        refine ga 17 (.int .i64 ((s + m : Nat) : Int)) rfl (by kernel_rfl) (fun _ _ _ h => h) hS ?_ ?_
        · intro _; go_simp
        simp only [Act.put, gA, gS, gZ, sI, sZ, sS]
        refine wpAnyG_one (i := 18) rfl (by kernel_rfl) (by kernel_rfl) (fun K hK => ?_)
        refine wpx_call _ _ (by kernel_rfl) (hcut.mono ?_)
        rintro e w1 ⟨⟨r, rfl⟩, v1, hd1⟩
        refine ⟨_, rfl, ?_⟩
        refine hK.out _ _ (fun h => absurd (show true = false from h) (by decide)) ?_
        clear hK K
        try simp only [Act.put, gA, gS, gZ, sI, sZ, sS]
        refine wpAnyG_done (by kernel_rfl) ?_ _
        exact ⟨⟨v1, hd1⟩, r, rfl⟩
      · skip
        go_simp
        refine hK.out _ _ (fun _ => hS) ?_
        clear hK K
        try simp only [Act.put, gA, gS, gZ, sI, sZ, sS]
        refine ga 15 ?_ rfl (by kernel_rfl) (fun _ _ _ h => h) hS ?_ ?_
        rotate_left
        · intro _; go_simp; try with_reducible rfl
        simp only [Act.put, gA, gS, gZ, sI, sZ, sS]
        refine ga 16 (.int .i64 m) rfl (by kernel_rfl) (fun _ _ _ h => h) hS ?_ ?_
        · intro _; go_simp
        simp only [Act.put, gA, gS, gZ, sI, sZ, sS]
        refine wpAnyG_one (i := 4) rfl (by kernel_rfl) (by kernel_rfl) (fun K hK => ?_)
        go_simp
        refine hK.out _ _ (fun _ => hS) ?_
        clear hK K
        try simp only [Act.put, gA, gS, gZ, sI, sZ, sS]
        refine ga 17 (.int .i64 ((s + m : Nat) : Int)) rfl (by kernel_rfl) (fun _ _ _ h => h) hS ?_ ?_
        · intro _; go_simp
        simp only [Act.put, gA, gS, gZ, sI, sZ, sS]
        refine wpAnyG_one (i := 18) rfl (by kernel_rfl) (by kernel_rfl) (fun K hK => ?_)
        refine wpx_call _ _ (by kernel_rfl) (hcut.mono ?_)
        rintro e w1 ⟨⟨r, rfl⟩, v1, hd1⟩
        refine ⟨_, rfl, ?_⟩
        refine hK.out _ _ (fun h => absurd (show true = false from h) (by decide)) ?_
        clear hK K
        try simp only [Act.put, gA, gS, gZ, sI, sZ, sS]
        refine wpAnyG_done (by kernel_rfl) ?_ _
        exact ⟨⟨v1, hd1⟩, r, rfl⟩
    · skip
      go_simp
      refine hK.out _ _ (fun _ => hS) ?_
      clear hK K
      try simp only [Act.put, gA, gS, gZ, sI, sZ, sS]
      refine wpAnyG_two (i := 4) (j := 9) rfl rfl (by kernel_rfl) (by kernel_rfl) (by kernel_rfl) (fun K hK => ?_) (fun K hK => ?_)
      · skip
        go_simp
        refine hK.out _ _ (fun _ => hS) ?_
        clear hK K
        try simp only [Act.put, gA, gS, gZ, sI, sZ, sS]
        refine wpAnyG_one (i := 9) rfl (by kernel_rfl) (by kernel_rfl) (fun K hK => ?_)
        go_simp
        refine hK.out _ _ (fun _ => hS) ?_
        clear hK K
        try simp only [Act.put, gA, gS, gZ, sI, sZ, sS]
        refine ga 10 ?_ rfl (by kernel_rfl) (fun _ _ _ h => h) hS ?_ ?_
        rotate_left
        · intro _; go_simp; try with_reducible rfl
        simp only [Act.put, gA, gS, gZ, sI, sZ, sS]
        refine ga 15 ?_ rfl (by kernel_rfl) (fun _ _ _ h => h) hS ?_ ?_
        rotate_left
        · intro _; go_simp; try with_reducible rfl
        simp only [Act.put, gA, gS, gZ, sI, sZ, sS]
        refine ga 16 (.int .i64 m) rfl (by kernel_rfl) (fun _ _ _ h => h) hS ?_ ?_
        · intro _; go_simp
        simp only [Act.put, gA, gS, gZ, sI, sZ, sS]
        refine ga 17 (.int .i64 ((s + m : Nat) : Int)) rfl (by kernel_rfl) (fun _ _ _ h => h) hS ?_ ?_
        · intro _; go_simp
        simp only [Act.put, gA, gS, gZ, sI, sZ, sS]
        refine wpAnyG_one (i := 18) rfl (by kernel_rfl) (by kernel_rfl) (fun K hK => ?_)
        refine wpx_call _ _ (by kernel_rfl) (hcut.mono ?_)
        rintro e w1 ⟨⟨r, rfl⟩, v1, hd1⟩
        refine ⟨_, rfl, ?_⟩
        refine hK.out _ _ (fun h => absurd (show true = false from h) (by decide)) ?_
        clear hK K
        try simp only [Act.put, gA, gS, gZ, sI, sZ, sS]
        refine wpAnyG_done (by kernel_rfl) ?_ _
        exact ⟨⟨v1, hd1⟩, r, rfl⟩
      · skip
        go_simp
        refine hK.out _ _ (fun _ => hS) ?_
        clear hK K
        try simp only [Act.put, gA, gS, gZ, sI, sZ, sS]
        refine ga 10 ?_ rfl (by kernel_rfl) (fun _ _ _ h => h) hS ?_ ?_
        rotate_left
        · intro _; go_simp; try with_reducible rfl
        simp only [Act.put, gA, gS, gZ, sI, sZ, sS]
        refine ga 15 ?_ rfl (by kernel_rfl) (fun _ _ _ h => h) hS ?_ ?_
        rotate_left
        · intro _; go_simp; try with_reducible rfl
        simp only [Act.put, gA, gS, gZ, sI, sZ, sS]
        refine ga 16 (.int .i64 m) rfl (by kernel_rfl) (fun _ _ _ h => h) hS ?_ ?_
        · intro _; go_simp
        simp only [Act.put, gA, gS, gZ, sI, sZ, sS]
        refine wpAnyG_one (i := 4) rfl (by kernel_rfl) (by kernel_rfl) (fun K hK => ?_)
        go_simp
        refine hK.out _ _ (fun _ => hS) ?_
        clear hK K
        try simp only [Act.put, gA, gS, gZ, sI, sZ, sS]
        refine ga 17 (.int .i64 ((s + m : Nat) : Int)) rfl (by kernel_rfl) (fun _ _ _ h => h) hS ?_ ?_
        · intro _; go_simp
        simp only [Act.put, gA, gS, gZ, sI, sZ, sS]
        refine wpAnyG_one (i := 18) rfl (by kernel_rfl) (by kernel_rfl) (fun K hK => ?_)
        refine wpx_call _ _ (by kernel_rfl) (hcut.mono ?_)
        rintro e w1 ⟨⟨r, rfl⟩, v1, hd1⟩
        refine ⟨_, rfl, ?_⟩
        refine hK.out _ _ (fun h => absurd (show true = false from h) (by decide)) ?_
        clear hK K
        try simp only [Act.put, gA, gS, gZ, sI, sZ, sS]
        refine wpAnyG_done (by kernel_rfl) ?_ _
        exact ⟨⟨v1, hd1⟩, r, rfl⟩
  · rintro a W ⟨⟨v1, hd1⟩, r, rfl⟩
    clear hcut
    go_wp2
    go_ret
    exact ⟨rfl, v1, ⟨hd1.disk, (TurnD.of_below (w' := w.drew) (Below.refl _ _).drew).trans hd1.turn, hd1.block⟩⟩
end
end Go.Proofs.YtlhajphjppjlgaaGreatDoor
