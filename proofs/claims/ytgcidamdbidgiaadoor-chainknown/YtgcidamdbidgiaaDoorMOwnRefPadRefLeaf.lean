/- Bytes of the call's own: a slice that is appended to. The reference's 'Pad': the same bytes. The reference's leaves: a number turned right, the words K; a row of words of the call's own. -/
import Derived.Test.YtgcidamdbidgiaaDoorMPureBPadSum
import Derived.Maps.AppendAt
import Derived.Laws.AppendOwnNone
import Derived.RangeFuncBox
import Derived.Test.YtgcidamdbidgiaaDoorMSpreadMixedStepJoin
import Derived.Deep.RegionHeldLaw
namespace Go.Proofs.YtgcidamdbidgiaaDoor.S
open Go.RowKit

/-- How long a slice is. -/
def lenOf : Value → Nat | .slice _ n _ => n | _ => 0
/-- The slice v of the call's own holds the bytes z. -/
def OwnB (w : World) (base : Nat) (v : Value) (z : List Int) : Prop := w.ownsRow base 5 1 v z.length (z.map (Value.int .u8))

theorem OwnB.cast {w : World} {base n : Nat} {v : Value} {z : List Int} {xs : List Value} (h : w.ownsRow base 5 1 v n xs) (hn : n = z.length) (hx : xs = z.map (Value.int .u8)) : OwnB w base v z := by
  subst hn hx; exact h

/-- Bytes behind bytes of the call's own. -/
theorem wpList_app {w : World} {ops : Array Oper} {rest : List Oper} {o : Oper} {a : Act} {Q : Exit → Act → World → Prop} (hgd : o.guard = none) (s x : Operand)
    (ho : o.op = .call { callee := .builtin .append, args := #[s, x], argTypes := #[36, 36] }) (base : Nat) (v : Value) (zs : List Int) (hs : a.eval s = v) (hown : OwnB w base v zs)
    (y : Option Addr) (len cap : Nat) (z : List Int) (hx : a.eval x = .slice y len cap) (hb : Bytes w y len cap z) (hln : zs.length + len ≤ 4000000) (hbase : base ≤ w.heap.size)
    (h : ∀ v' w', OwnB w' base v' (zs ++ z) → w.grownBy w' v.ownBlock → wpList Tryd.prog ops Q rest (a.put o.dst v') w') : wpList Tryd.prog ops Q (o :: rest) a w := by
  obtain ⟨i0, hi, hz0, hz1, hz2⟩ := info_parts infoU8
  have hzl := hb.len_eq
  have hcase : ∀ ad : Addr, y = some ad → (∀ j u, (z.map (Value.int .u8))[j]? = some u → w.cell? (ad.add j) = some u) → wpList Tryd.prog ops Q (o :: rest) a w := fun ad hy hsrc => by
    subst hy
    refine wpList_append_own w hgd s x 36 ho base 5 i0 (.int .u8 0) 1 1 Tryd.underlying36 hi hz0 hz1 hz2 rfl (by decide) v zs.length (zs.map (Value.int .u8)) hs hown ad len cap (z.map (Value.int .u8)) hx (by simp [hzl]) hsrc (by simp [Value.oneCell']) (by simp [maxLen]; omega) (by omega) hbase ?_
    intro v' w' h1 h2 _
    exact h v' w' (OwnB.cast h1 (by simp [hzl]) (by simp)) h2
  rcases hb.at_ with h0 | ⟨b, off, hy, hc⟩
  · have hz0' : z = [] := List.length_eq_zero_iff.1 (by omega)
    cases y with
    | none =>
      have hc0 := hb.nil rfl
      subst h0 hc0 hz0'
      refine wpList_append_own_none hgd s x 36 ho base 5 i0 1 Tryd.underlying36 hi v zs.length (zs.map (Value.int .u8)) hs hown hx ?_
      exact h v w (by rw [List.append_nil]; exact hown) ⟨rfl, rfl, rfl, Nat.le_refl _, fun _ _ _ => rfl⟩
    | some ad => exact hcase ad rfl (fun j u hu => by subst hz0'; simp at hu)
  · exact hcase _ hy (fun j u hu => by
      have hj : j < len := by have := (List.getElem?_eq_some_iff.1 hu).1; simpa [hzl] using this
      rw [Addr.add_mid', hc j hj, ← hu, List.getElem?_map, List.getElem?_eq_getElem (by omega)]; rfl)

/-- One byte behind bytes of the call's own: the new byte lies in the block that was made last. -/
theorem wpList_app1 {w : World} {ops : Array Oper} {rest : List Oper} {o : Oper} {a : Act} {Q : Exit → Act → World → Prop} (hgd : o.guard = none) (s x : Operand)
    (ho : o.op = .call { callee := .builtin .append, args := #[s, x], argTypes := #[36, 36] }) (base : Nat) (v : Value) (zs : List Int) (hs : a.eval s = v) (c : Int) (hown : OwnB (w.alloc (.cells #[.int .u8 c] 5)) base v zs)
    (hx : a.eval x = .slice (some ⟨w.heap.size, 0, none⟩) 1 1) (hln : zs.length ≤ 4000000) (hbase : base ≤ w.heap.size)
    (h : ∀ v' w', OwnB w' base v' (zs ++ [c]) → (w.alloc (.cells #[.int .u8 c] 5)).grownBy w' v.ownBlock → wpList Tryd.prog ops Q rest (a.put o.dst v') w') : wpList Tryd.prog ops Q (o :: rest) a (w.alloc (.cells #[.int .u8 c] 5)) := by
  obtain ⟨i0, hi, hz0, hz1, hz2⟩ := info_parts infoU8
  refine wpList_append_own (w.alloc (.cells #[.int .u8 c] 5)) hgd s x 36 ho base 5 i0 (.int .u8 0) 1 1 Tryd.underlying36 hi hz0 hz1 hz2 rfl (by decide) v zs.length (zs.map (Value.int .u8)) hs hown ⟨w.heap.size, 0, none⟩ 1 1 [.int .u8 c] hx rfl (cell_one_new _ _ _) (by simp [Value.oneCell']) (by simp [maxLen]; omega) (by omega) (by simp; omega) ?_
  intro v' w' h1 h2 _
  exact h v' w' (OwnB.cast h1 (by simp) (by simp)) h2

theorem OwnB.nil (w : World) (base : Nat) : OwnB w base (.slice none 0 0) [] := World.ownsRow_nil w base 5 1
theorem OwnB.alloc {w : World} {base : Nat} {v : Value} {z : List Int} (h : OwnB w base v z) (o : Obj) : OwnB (w.alloc o) base v z := World.ownsRow.alloc h o
theorem OwnB.slice {w : World} {base : Nat} {v : Value} {z : List Int} (h : OwnB w base v z) (hz : 0 < z.length) : ∃ g cap, v = .slice (some ⟨g, 0, none⟩) z.length cap ∧ base ≤ g := by
  rcases h.2 with ⟨_, h0⟩ | ⟨g, cap, cur, rfl, hb, _⟩
  · omega
  · exact ⟨g, cap, rfl, hb⟩
theorem below_grown {base : Nat} {w0 w w' : World} {v : Value} {z : List Int} (hb : Below base w0 w) (hown : OwnB w base v z) (hg : w.grownBy w' v.ownBlock) (hbase : base ≤ w.heap.size) : Below base w0 w' :=
  hb.grown hg hbase (fun k hk => by
    rcases hown.2 with ⟨rfl, _⟩ | ⟨g, cap, cur, rfl, hb, _⟩
    · cases hk
    · simp [Value.ownBlock] at hk; omega)

theorem Holds.bytes {w : World} {g : Nat} {t : TypeId} {l : List Int} {n : Nat} (h : Holds w g .u8 t l) (hn : n = l.length) (hl : l.length ≤ 4000000) : Bytes w (some ⟨g, 0, none⟩) n n l := by
  subst hn
  exact ⟨rfl, Nat.le_refl _, by omega, (fun h => by cases h), .inr ⟨g, 0, rfl, fun j hj => by rw [Nat.zero_add]; exact h.cell j hj⟩⟩
theorem OwnB.bytes {w : World} {base : Nat} {x : Option Addr} {n cap : Nat} {z : List Int} (h : OwnB w base (.slice x n cap) z) : n = z.length ∧ Bytes w x n cap z := by
  rcases h.2 with ⟨h1, h0⟩ | ⟨g, cap', cur, h1, _, hg, hc, hm, hs, ht⟩
  · have hz : z = [] := List.length_eq_zero_iff.1 h0
    cases h1
    subst hz
    exact ⟨rfl, bytes_nil w⟩
  · cases h1
    refine ⟨rfl, rfl, hc, by simpa [maxLen] using hm, (fun h => by cases h), .inr ⟨g, 0, rfl, fun j hj => ?_⟩⟩
    rw [Nat.zero_add, cell_of_row w g j _ _ _ hg, ← Array.getElem?_toList]
    have e : (cur.toList.take (z.length * 1))[j]? = (z.map (Value.int .u8))[j]? := by rw [ht]
    rw [Nat.mul_one, List.getElem?_take_of_lt hj, List.getElem?_map, List.getElem?_eq_getElem hj] at e
    rw [e, List.getElem?_eq_getElem hj]; rfl

theorem OwnB.isSlice {w : World} {base : Nat} {v : Value} {z : List Int} (h : OwnB w base v z) : ∃ x n c, v = .slice x n c ∧ n = z.length := by
  rcases h.2 with ⟨rfl, h0⟩ | ⟨g, cap, cur, rfl, _⟩
  · exact ⟨none, 0, 0, rfl, h0.symm⟩
  · exact ⟨_, _, _, rfl, rfl⟩
end Go.Proofs.YtgcidamdbidgiaaDoor.S

namespace Go.Proofs.YtgcidamdbidgiaaDoor.S
open Go.RowKit

set_option maxHeartbeats 1000000 in
theorem refPad_any (x : Option Addr) (len cap : Nat) (z : List Int) (w : World) (hbz : Bytes w x len cap z) (hln : len ≤ 1000000) :
    Calls Tryd.prog 44 #[.slice x len cap] w fun e w' => ∃ v, e = .returned v ∧ OwnB w' w.heap.size v (padL z) ∧ Below w.heap.size w w' := by
  have HZ : Hid (len = z.length) := hbz.len_eq
  have hsp := padSize_ge len
  have hsp2 : padSize len ≤ 2000000 := by unfold padSize; omega
  have hsp3 : padSize len % 64 = 0 := by unfold padSize; omega
  have hsp4 : padSize len ≤ len + 72 := by unfold padSize; omega
  obtain ⟨m, hm⟩ : ∃ m, padSize len = m := ⟨_, rfl⟩
  have HM : Hid (padSize len = m) := hm
  rw [hm] at hsp hsp2 hsp3 hsp4
  clear hm
  go_enter Tryd.func44, Tryd.ntmps44
  go_upto_region 3 with (first
    | (at_builtin; refine wpList_app rfl _ _ rfl w.heap.size _ [] rfl (OwnB.nil _ _) x len cap z rfl hbz (by simp; omega) (Nat.le_refl _) ?_; intro v1 w1 ho1 hg1; have hB1 := below_grown (Below.refl _ _) (OwnB.nil w w.heap.size) hg1 (Nat.le_refl _))
    | (at_builtin; refine wpList_app1 rfl _ _ rfl w.heap.size _ z rfl 128 (ho1.alloc _) rfl (by have := HZ.out; omega) hB1.size ?_; intro v2 w2 ho2 hg2))
  have hB2 : Below w.heap.size w w2 := below_grown (hB1.alloc hB1.size _) (ho1.alloc _) hg2 (by have := hB1.size; simp; omega)
  clear hg2 ho1 hB1 hg1 hbz
  go_loopw [3] (fun v wr => ∃ k : Nat, len + 1 + k ≤ m - 8 ∧ Below w.heap.size w wr ∧ OwnB wr w.heap.size v (z ++ [128] ++ List.replicate k 0)) (fun v _ => m - lenOf v)
  case atStart => exact ⟨0, by omega, hB2, by simpa using ho2⟩
  case round =>
    clear hB2 ho2
    obtain ⟨k, hk, hB, ho⟩ := hrel
    have hlen : (z ++ [128] ++ List.replicate k 0).length = len + 1 + k := by have := HZ.out; simp; omega
    obtain ⟨g, cp, rfl, hg⟩ := ho.slice (by omega)
    rw [hlen]
    by_cases hlt : len + 1 + k < m - 8
    · have hne : (((len : Int) + 1 + (k : Int)) % 64 != 56) = true := by simp; omega
      go_wp2_with (at_builtin; refine wpList_app1 rfl _ _ rfl w.heap.size _ (z ++ [128] ++ List.replicate k 0) (by rw [hlen]; rfl) 0 (ho.alloc _) rfl (by omega) hB.size ?_; intro v3 w3 ho3 hg3)
      obtain ⟨g', cp', hv3, _⟩ := ho3.slice (by simp; omega)
      have hl3 : (z ++ [128] ++ List.replicate k 0 ++ [0]).length = len + 1 + (k + 1) := by rw [List.length_append, hlen]; rfl
      rw [hl3] at hv3
      subst hv3
      go_roundw
      case rel =>
        refine ⟨k + 1, by omega, below_grown (hB.alloc hB.size _) (ho.alloc _) (by rw [hlen]; exact hg3) (by have := hB.size; simp; omega), ?_⟩
        rw [List.replicate_succ', ← List.append_assoc]
        exact ho3
      case measure => simp only [lenOf]; omega
    · obtain rfl : k = m - 9 - len := by omega
      have hne : (((len : Int) + 1 + ((m - 9 - len : Nat) : Int)) % 64 != 56) = false := by simp; omega
      have hpre : z ++ [128] ++ List.replicate (m - 9 - len) 0 = z ++ [128] ++ List.replicate (padSize z.length - z.length - 9) 0 := by
        rw [← HZ.out, HM.out]; congr 2; omega
      rw [hpre] at ho
      have hlp : (z ++ [128] ++ List.replicate (padSize z.length - z.length - 9) 0).length = m - 8 := by rw [← hpre, hlen]; omega
      go_wp2_with fail
      rw [show len + 1 + (m - 9 - len) = m - 8 by omega]
      have HP : Hid (padL z = z ++ [128] ++ List.replicate (padSize z.length - z.length - 9) 0 ++ lenTail z.length 8) := by
        show padK z 8 = _
        simp [padK]
      obtain ⟨pr, hpr⟩ : ∃ pr, z ++ [128] ++ List.replicate (padSize z.length - z.length - 9) 0 = pr := ⟨_, rfl⟩
      rw [hpr] at ho HP hlp
      clear hpr hpre hlen
      go_loopw [3, 5] (fun v i wr => ∃ j : Nat, j ≤ 8 ∧ i = .int .i64 j ∧ Below w.heap.size w wr ∧ OwnB wr w.heap.size v (pr ++ (lenTail len 8).take j)) (fun _ i _ => 8 - (intOf i).toNat)
      case atStart => exact ⟨0, by omega, rfl, hB, by rw [← hlp] ; simpa using ho⟩
      case round =>
        clear hB ho
        obtain ⟨j, hj, rfl, hB, ho⟩ := hrel
        have hlj : (pr ++ (lenTail len 8).take j).length = m - 8 + j := by rw [List.length_append, List.length_take, lenTail_length, hlp]; omega
        obtain ⟨g2, cp2, hv2, hg2⟩ := ho.slice (by omega)
        subst hv2
        rw [hlj]
        by_cases hlt2 : j < 8
        · have hbyte := lenTail_get len 8 j hlt2
          have htk := take_next (lenTail len 8) j (by rw [lenTail_length]; exact hlt2)
          rw [hbyte] at htk
          have HT : Hid ((lenTail len 8).take (j + 1) = (lenTail len 8).take j ++ [lenByte len (8 - 1 - j)]) := htk
          clear hbyte htk
          go_wp2_with (at_builtin; refine wpList_app1 rfl _ _ rfl w.heap.size _ (pr ++ (lenTail len 8).take j) (by rw [hlj]; rfl) _ (ho.alloc _) rfl (by omega) hB.size ?_; intro v3 w3 ho3 hg3)
          go_roundw
          case rel =>
            have hB3 : Below w.heap.size w w3 := below_grown (hB.alloc hB.size _) (ho.alloc _) (by rw [hlj]; exact hg3) (by have := hB.size; simp; omega)
            have ho4 : OwnB w3 w.heap.size v3 (pr ++ (lenTail len 8).take (j + 1)) := by
              rw [HT.out, ← List.append_assoc]
              have e : lenByte len (8 - 1 - j) = (len : Int) * 8 / 2 ^ (56 - 8 * j) % 256 := by unfold lenByte; rw [show 8 * (8 - 1 - j) = 56 - 8 * j by omega]
              rw [e]
              exact ho3
            first
              | exact ⟨j + 1, by omega, by go_num, hB3, ho4⟩
              | ((repeat apply Exists.intro); exact ⟨⟨j + 1, by omega, by go_num, hB3, ho4⟩, rfl⟩)
          case measure => simp [intOf]; omega
        · obtain rfl : j = 8 := by omega
          go_wp2
          go_ret
          refine ⟨_, rfl, ?_, hB⟩
          rw [HP.out, ← HZ.out]
          rw [List.take_of_length_le (by rw [lenTail_length]; omega)] at ho hlj
          rw [← hlj]
          exact ho
end Go.Proofs.YtgcidamdbidgiaaDoor.S

namespace Go.Proofs.YtgcidamdbidgiaaDoor.S
open Go.RowKit
set_option maxRecDepth 20000

theorem refRight_any (x n : Int) (w : World) (hn : rotN n) :
    Calls Tryd.prog 56 #[.int .u32 x, .int .i64 n] w fun e w' => e = .returned (.int .u32 (rr n x)) ∧ ∃ q, w' = w.drewN q := by
  rcases hn with rfl | rfl | rfl | rfl | rfl | rfl | rfl | rfl | rfl | rfl
  all_goals
    go_enter Tryd.func56, Tryd.ntmps56
    go_wp2
    go_quiet ((fail))
    go_wp2
    go_ret
    exact ⟨ret_u32 rfl, _, rfl⟩

/-- An array that is written out. -/
theorem wpList_build {P : Program} {ops : Array Oper} {rest : List Oper} {o : Oper} {a : Act} {w : World} {Q : Exit → Act → World → Prop} (hgd : o.guard = none) (t : TypeId) (parts : Array (Nat × Operand)) (ho : o.op = .build t parts) (v : Value)
    (hrun : ∀ wx, (Instr.build t (parts.map fun (i, x) => (i, a.eval x))).run P wx = .ok v wx) (h : wpList P ops Q rest (a.put o.dst v) w) : wpList P ops Q (o :: rest) a w :=
  wpList_plain hgd fun _ hK => by
    unfold Oper.wp execOp
    simp only [ho, Sem.run_bind, Sem.run_pure, Result.andThen_ok, hrun]
    exact hK _ _ h
theorem refK_any (i : Nat) (w : World) (h : i < 64) :
    Calls Tryd.prog 57 #[.int .i64 i] w fun e w' => e = .returned (.int .u32 (kTab[i]?.getD 0)) ∧ w' = w := by
  have hix := fun wx => run_index_row wx 117 30 64 .u32 kTab i Tryd.underlying117 Tryd.underlying30 size1u32 rfl h
  obtain ⟨V, hV⟩ : ∃ V, kTab[i]?.getD 0 = V := ⟨_, rfl⟩
  rw [hV] at hix ⊢
  clear hV
  go_enter Tryd.func57, Tryd.ntmps57
  go_wp2_with (refine wpList_build rfl 117 _ rfl (.agg (row .u32 kTab)) (fun _ => by kernel_rfl) ?_)
  go_ret
  exact ⟨rfl, rfl⟩

theorem infoU32 : (Tryd.prog.info? 30).map (fun i => (i.zero, i.size, i.bytes)) = some (some (.int .u32 0), 1, 4) := by kernel_rfl
/-- The slice v of the call's own holds the words l. -/
def OwnW (w : World) (base : Nat) (v : Value) (l : List Int) : Prop := w.ownsRow base 30 1 v l.length (l.map (Value.int .u32))
theorem OwnW.cast {w : World} {base n : Nat} {v : Value} {z : List Int} {xs : List Value} (h : w.ownsRow base 30 1 v n xs) (hn : n = z.length) (hx : xs = z.map (Value.int .u32)) : OwnW w base v z := by
  subst hn hx; exact h
theorem OwnW.nil (w : World) (base : Nat) : OwnW w base (.slice none 0 0) [] := World.ownsRow_nil w base 30 1
theorem OwnW.alloc {w : World} {base : Nat} {v : Value} {z : List Int} (h : OwnW w base v z) (o : Obj) : OwnW (w.alloc o) base v z := World.ownsRow.alloc h o
theorem OwnW.drewN {w : World} {base : Nat} {v : Value} {z : List Int} (h : OwnW w base v z) (n : Nat) : OwnW (w.drewN n) base v z := by
  induction n with
  | zero => exact h
  | succ n ih => exact World.ownsRow.drew ih
theorem OwnW.slice {w : World} {base : Nat} {v : Value} {z : List Int} (h : OwnW w base v z) (hz : 0 < z.length) : ∃ g cap, v = .slice (some ⟨g, 0, none⟩) z.length cap ∧ base ≤ g ∧ cap ≤ 9223372036854775807 ∧ z.length ≤ cap ∧ ∀ j, j < z.length → w.cell? ⟨g, j, none⟩ = some (.int .u32 (z[j]?.getD 0)) := by
  rcases h.2 with ⟨_, h0⟩ | ⟨g, cap, cur, rfl, hb, hg, hc, hm, hs, ht⟩
  · omega
  · refine ⟨g, cap, rfl, hb, by simpa [maxLen] using hm, hc, fun j hj => ?_⟩
    rw [cell_of_row w g j _ _ _ hg, ← Array.getElem?_toList]
    have e : (cur.toList.take (z.length * 1))[j]? = (z.map (Value.int .u32))[j]? := by rw [ht]
    rw [Nat.mul_one, List.getElem?_take_of_lt hj, List.getElem?_map, List.getElem?_eq_getElem hj] at e
    rw [e, List.getElem?_eq_getElem hj]; rfl
theorem below_grownW {base : Nat} {w0 w w' : World} {v : Value} {z : List Int} (hb : Below base w0 w) (hown : OwnW w base v z) (hg : w.grownBy w' v.ownBlock) (hbase : base ≤ w.heap.size) : Below base w0 w' :=
  hb.grown hg hbase (fun k hk => by
    rcases hown.2 with ⟨rfl, _⟩ | ⟨g, cap, cur, rfl, hb, _⟩
    · cases hk
    · simp [Value.ownBlock] at hk; omega)

theorem wp_appW {w : World} {o : Oper} {a : Act} {K : Act → World → Prop} {Q : Exit → Act → World → Prop} (s x : Operand)
    (ho : o.op = .call { callee := .builtin .append, args := #[s, x], argTypes := #[102, 102] }) (base : Nat) (v : Value) (zs : List Int) (hs : a.eval s = v) (c : Int) (hown : OwnW w base v zs) (g : Nat)
    (hx : a.eval x = .slice (some ⟨g, 0, none⟩) 1 1) (hc : w.cell? ⟨g, 0, none⟩ = some (.int .u32 c)) (hln : zs.length ≤ 4000000) (hbase : base ≤ w.heap.size)
    (h : ∀ v' w', OwnW w' base v' (zs ++ [c]) → w.grownBy w' v.ownBlock → K (a.put o.dst v') w') : o.wp Tryd.prog a w K Q := by
  obtain ⟨i0, hi, hz0, hz1, hz2⟩ := info_parts infoU32
  refine wp_append_own w s x 102 ho base 30 i0 (.int .u32 0) 1 4 Tryd.underlying102 hi hz0 hz1 hz2 rfl (by decide) v zs.length (zs.map (Value.int .u32)) hs hown ⟨g, 0, none⟩ 1 1 [.int .u32 c] hx rfl ?_ (by simp [Value.oneCell']) (by simp [maxLen]; omega) (by omega) hbase ?_
  · intro j u hj
    cases j with
    | zero => rw [Addr.add_mid']; simp at hj; rw [← hj]; exact hc
    | succ j => simp at hj
  intro v' w' h1 h2 _
  exact h v' w' (OwnW.cast h1 (by simp) (by simp)) h2
theorem wp_appW1 {w : World} {o : Oper} {a : Act} {K : Act → World → Prop} {Q : Exit → Act → World → Prop} (s x : Operand)
    (ho : o.op = .call { callee := .builtin .append, args := #[s, x], argTypes := #[102, 102] }) (base : Nat) (v : Value) (zs : List Int) (hs : a.eval s = v) (c : Int) (hown : OwnW (w.alloc (.cells #[.int .u32 c] 30)) base v zs)
    (hx : a.eval x = .slice (some ⟨w.heap.size, 0, none⟩) 1 1) (hln : zs.length ≤ 4000000) (hbase : base ≤ w.heap.size)
    (h : ∀ v' w', OwnW w' base v' (zs ++ [c]) → (w.alloc (.cells #[.int .u32 c] 30)).grownBy w' v.ownBlock → K (a.put o.dst v') w') : o.wp Tryd.prog a (w.alloc (.cells #[.int .u32 c] 30)) K Q :=
  wp_appW s x ho base v zs hs c hown w.heap.size hx ((cell_of_row _ w.heap.size 0 _ 30 (0, 0) (World.alloc_heap_new w _)).trans rfl) hln (by simp; omega) h
theorem wpList_appW1 {w : World} {ops : Array Oper} {rest : List Oper} {o : Oper} {a : Act} {Q : Exit → Act → World → Prop} (hgd : o.guard = none) (s x : Operand)
    (ho : o.op = .call { callee := .builtin .append, args := #[s, x], argTypes := #[102, 102] }) (base : Nat) (v : Value) (zs : List Int) (hs : a.eval s = v) (c : Int) (hown : OwnW (w.alloc (.cells #[.int .u32 c] 30)) base v zs)
    (hx : a.eval x = .slice (some ⟨w.heap.size, 0, none⟩) 1 1) (hln : zs.length ≤ 4000000) (hbase : base ≤ w.heap.size)
    (h : ∀ v' w', OwnW w' base v' (zs ++ [c]) → (w.alloc (.cells #[.int .u32 c] 30)).grownBy w' v.ownBlock → wpList Tryd.prog ops Q rest (a.put o.dst v') w') : wpList Tryd.prog ops Q (o :: rest) a (w.alloc (.cells #[.int .u32 c] 30)) :=
  wpList_plain hgd fun _ hK => wp_appW1 s x ho base v zs hs c hown hx hln hbase fun v' w' h1 h2 => hK _ _ (h v' w' h1 h2)
end Go.Proofs.YtgcidamdbidgiaaDoor.S
