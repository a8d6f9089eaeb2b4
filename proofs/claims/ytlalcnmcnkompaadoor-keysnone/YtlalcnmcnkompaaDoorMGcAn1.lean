/- Slices that are cut; bytes of the call's own out of a new block; appended to within a region. 'fill', 'lengthOf': the noughts that bytes lack, and their number as bytes. -/
import Derived.Test.YtlalcnmcnkompaaDoorMGbGate
import Derived.Test.YtlalcnmcnkompaaDoorMCyAe0
namespace Go.Proofs.YtlalcnmcnkompaaDoor
open Go.RowKit
set_option maxRecDepth 20000
set_option linter.unusedSimpArgs false

/-- Where a slice goes on that is cut at l. -/
def subA (x : Option Addr) (cap l : Nat) : Option Addr := if cap = l then x else x.map (·.add (l * 1))
theorem Bytes.cut {w : World} {x : Option Addr} {len cap : Nat} {z : List Int} (hb : Bytes w x len cap z) (l h : Nat) (h1 : l ≤ h) (h2 : h ≤ len) : Bytes w (subA x cap l) (h - l) (cap - l) ((z.drop l).take (h - l)) := by
  have hz := hb.len_eq
  have hle := hb.le
  refine ⟨by rw [List.length_take, List.length_drop]; omega, by omega, by have := hb.top; omega, ?_, ?_⟩
  · unfold subA
    split
    · intro _; omega
    · intro hn
      cases x with
      | none => have := hb.nil rfl; omega
      | some a => simp at hn
  · by_cases h0 : h - l = 0
    · exact .inl h0
    · rcases hb.at_ with h00 | ⟨b, off, hx, hc⟩
      · omega
      · refine .inr ⟨b, off + l, ?_, fun j hj => ?_⟩
        · unfold subA
          rw [if_neg (by omega), hx, Option.map_some, Addr.add_mid', Nat.mul_one]
        · rw [Nat.add_assoc, hc (l + j) (by omega), List.getElem?_take_of_lt hj, List.getElem?_drop]
theorem sizeU8 (w : World) : (sizeOf (Tryd.prog.elem 76)).run Tryd.prog w = .ok 1 w := by kernel_rfl
theorem elemB : Tryd.prog.underlying 76 = some (.slice (Tryd.prog.elem 76)) := by kernel_rfl
theorem run_cut_h (w : World) (x : Option Addr) (len cap h : Nat) (hh : h ≤ cap) : (Instr.slice 76 (.slice x len cap) none (some (.int .i64 (h : Int))) none).run Tryd.prog w = .ok (.slice (subA x cap 0) h cap) w := by
  rw [run_slice_h w 76 x len cap elemB .i64 (h : Int) (by omega) (by omega), sizeU8]
  simp [sliced, subA, Result.andThen]
theorem run_cut_l (w : World) (x : Option Addr) (len cap l : Nat) (hl : l ≤ len) : (Instr.slice 76 (.slice x len cap) (some (.int .i64 (l : Int))) none none).run Tryd.prog w = .ok (.slice (subA x cap l) (len - l) (cap - l)) w := by
  rw [run_slice_l w 76 x len cap elemB .i64 (l : Int) (by omega) (by omega), sizeU8]
  simp [sliced, subA, Result.andThen]
theorem OwnB.ofHolds {w : World} {g base : Nat} {l : List Int} (h : Holds w g .u8 5 l) (hb : base ≤ g) (hl : l.length ≤ 4000000) : OwnB w base (.slice (some ⟨g, 0, none⟩) l.length l.length) l :=
  ⟨by simp, .inr ⟨g, l.length, row .u8 l, rfl, hb, h, Nat.le_refl _, by simp [maxLen]; omega, by rw [row_size]; omega, by simp only [row, Nat.mul_one]; exact List.take_of_length_le (by simp)⟩⟩
/-- Bytes behind bytes of the call's own, within a region. -/
theorem wp_app {w : World} {o : Oper} {a : Act} {K : Act → World → Prop} {Q : Exit → Act → World → Prop} (s x : Operand)
    (ho : o.op = .call { callee := .builtin .append, args := #[s, x], argTypes := #[76, 76] }) (base : Nat) (v : Value) (zs : List Int) (hs : a.eval s = v) (hown : OwnB w base v zs)
    (g len cap : Nat) (z : List Int) (hx : a.eval x = .slice (some ⟨g, 0, none⟩) len cap) (hb : Bytes w (some ⟨g, 0, none⟩) len cap z) (hln : zs.length + len ≤ 4000000) (hbase : base ≤ w.heap.size)
    (h : ∀ v' w', OwnB w' base v' (zs ++ z) → w.grownBy w' v.ownBlock → K (a.put o.dst v') w') : o.wp Tryd.prog a w K Q := by
  obtain ⟨i0, hi, hz0, hz1, hz2⟩ := info_parts infoU8
  have hzl := hb.len_eq
  refine wp_append_own w s x 76 ho base 5 i0 (.int .u8 0) 1 1 Tryd.underlying76 hi hz0 hz1 hz2 rfl (by decide) v zs.length (zs.map (Value.int .u8)) hs hown ⟨g, 0, none⟩ len cap (z.map (Value.int .u8)) hx (by simp [hzl]) ?_ (by simp [Value.oneCell']) (by simp [maxLen]; omega) (by omega) hbase ?_
  · intro j u hu
    have hj : j < len := by have := (List.getElem?_eq_some_iff.1 hu).1; simpa [hzl] using this
    rcases hb.at_ with h0 | ⟨b, off, hy, hc⟩
    · omega
    · cases hy
      rw [Addr.add_mid', hc j hj, ← hu, List.getElem?_map, List.getElem?_eq_getElem (by omega)]; rfl
  · intro v' w' h1 h2 _
    exact h v' w' (OwnB.cast h1 (by simp [hzl]) (by simp)) h2

theorem wp_stG {P : Program} {o : Oper} {a : Act} {w : World} {K : Act → World → Prop} {Q : Exit → Act → World → Prop} (ty : TypeId) (x y : Operand) (ho : o.op = .store ty x y)
    (g : Nat) (hx : a.eval x = .pointer (some ⟨g, 0, none⟩)) {k : IntKind} {t : TypeId} {old l : List Int} (hy : a.eval y = .agg (row k l)) (hg : Holds w g k t old)
    (hi : (P.info? ty).map (·.size) = some l.length) (hl : old.length = l.length)
    (h : K (a.put o.dst undef) (w.setRow g (row k l))) : o.wp P a w K Q := by
  unfold Oper.wp execOp
  simp only [ho, hx, hy, Instr.storeAt, Instr.sureAddr, Sem.run_bind, Sem.run_pure, Result.andThen_ok, run_storeVar_row w g ty t k old l hg hl hi]
  exact h
theorem OwnB.lessG {w : World} {base base' : Nat} {v : Value} {z : List Int} (h : OwnB w base v z) (hb : base' ≤ base) : OwnB w base' v z := by
  refine ⟨h.1, ?_⟩
  rcases h.2 with h' | ⟨g, cap, cur, h1, h2, h3⟩
  · exact .inl h'
  · exact .inr ⟨g, cap, cur, h1, by omega, h3⟩
end Go.Proofs.YtlalcnmcnkompaaDoor

namespace Go.Proofs.YtlalcnmcnkompaaDoor
open Go.RowKit
set_option maxRecDepth 20000
set_option linter.unusedSimpArgs false

theorem fillN_lt (n : Nat) : fillN n < 16 := by unfold fillN; omega
set_option maxHeartbeats 1000000 in
theorem afill_any (x : Option Addr) (len cap : Nat) (z : List Int) (w : World) (h : Bytes w x len cap z) :
    Calls Tryd.prog 69 #[.slice x len cap] w fun e w' => e = .returned (.slice (some ⟨w.heap.size, 0, none⟩) (fillN len) (fillN len)) ∧ Holds w' w.heap.size .u8 5 (zerosL (fillN len)) ∧ Below w.heap.size w w' := by
  have htop := h.top
  have hle := h.le
  obtain ⟨F, hF⟩ : ∃ q, fillN len = q := ⟨_, rfl⟩
  have hF16 : F < 16 := by rw [← hF]; exact fillN_lt len
  have hmk : ∀ wx : World, (Instr.makeSlice 76 (.int .i64 (F : Int)) (.int .i64 (F : Int))).run Tryd.prog wx = .ok (.slice (some ⟨wx.heap.size, 0, none⟩) F F) (wx.alloc (.cells (row .u8 (List.replicate F 0)) 5)) := fun wx => by
    have := run_make_row' (P := Tryd.prog) 76 5 (.int .u8 0) 1 Tryd.underlying76 infoU8 rfl .i64 .i64 F (by omega) (by omega) wx
    rw [made_row] at this
    exact this
  obtain ⟨r, hr⟩ : ∃ r : Nat, len % 16 = r := ⟨_, rfl⟩
  obtain ⟨s, hs⟩ : ∃ s : Nat, 16 - r = s := ⟨_, rfl⟩
  have h1 : (len : Int).tmod 16 = (r : Int) := by rw [Int.tmod_eq_emod_of_nonneg (by omega)]; omega
  have h2 : IntKind.i64.wrap (16 - (r : Int)) = (s : Int) := by rw [IntKind.wrap_i64]; omega
  have h3 : (s : Int).tmod 16 = (F : Int) := by
    rw [Int.tmod_eq_emod_of_nonneg (by omega)]
    unfold fillN at hF
    omega
  rw [hF]
  unfold zerosL
  clear hF hr hs
  go_enter Tryd.func69, Tryd.ntmps69
  go_wp2
  go_ret
  exact ⟨rfl, Holds.new w .u8 5 _, (Below.refl _ _).alloc (Nat.le_refl _) _⟩

/-- Byte number i of a length. -/
theorem le8_get (n i : Nat) (hi : i < 8) : (le8 n)[i]?.getD 0 = (n : Int) / 2 ^ (8 * i) % 256 := by
  have hic : i = 0 ∨ i = 1 ∨ i = 2 ∨ i = 3 ∨ i = 4 ∨ i = 5 ∨ i = 6 ∨ i = 7 := by omega
  unfold le8
  rcases hic with rfl | rfl | rfl | rfl | rfl | rfl | rfl | rfl
  all_goals
    simp only [leB, List.getElem?_cons_zero, List.getElem?_cons_succ, Option.getD_some]
    omega
theorem fillB_set (S : List Int) (j n : Nat) (hj : j < n) (hl : n ≤ S.length) : (S.take j ++ List.replicate (n - j) 0).set j (S[j]?.getD 0) = S.take (j + 1) ++ List.replicate (n - (j + 1)) 0 := by
  have h := set_next (S.take j) (n - (j + 1)) (S[j]?.getD 0)
  rw [List.length_take, Nat.min_eq_left (by omega), ← take_next S j (by omega), show n - (j + 1) + 1 = n - j by omega] at h
  exact h
theorem size8b : (Tryd.prog.info? 128).map (·.size) = some 8 := by kernel_rfl
set_option maxHeartbeats 1000000 in
theorem lengthOf_any (x : Option Addr) (len cap : Nat) (z : List Int) (w : World) (h : Bytes w x len cap z) :
    Calls Tryd.prog 68 #[.slice x len cap] w fun e w' => e = .returned (.agg (row .u8 (le8 len))) ∧ Below w.heap.size w w' := by
  have htop := h.top
  have hle := h.le
  have HG : Veil (∀ i, i < 8 → (le8 len)[i]?.getD 0 = (len : Int) / 2 ^ (8 * i) % 256) := ⟨le8_get len⟩
  have HF : Veil (∀ j, j < 8 → ((le8 len).take j ++ List.replicate (8 - j) 0).set j ((le8 len)[j]?.getD 0) = (le8 len).take (j + 1) ++ List.replicate (8 - (j + 1)) 0) := ⟨fun j hj => fillB_set _ j 8 hj (by rw [le8_length]; omega)⟩
  have hL := le8_length len
  obtain ⟨S, hS⟩ : ∃ q, le8 len = q := ⟨_, rfl⟩
  rw [hS] at HG HF hL ⊢
  have HFin : Veil (S.take 8 = S) := ⟨List.take_of_length_le (by omega)⟩
  have h64 : IntKind.u64.wrap (len : Int) = (len : Int) := by simp [IntKind.wrap, IntKind.bits, IntKind.signed]; omega
  clear hS h
  have hR0 := (Holds.new w .u8 128 (List.replicate 8 0)).alloc (.cells (row .u8 (List.replicate 8 0)) 128)
  have hA0 := Holds.new (w.alloc (.cells (row .u8 (List.replicate 8 0)) 128)) .u8 128 (List.replicate 8 0)
  rw [World.size_alloc] at hA0
  have hB0 : Below w.heap.size w ((w.alloc (.cells (row .u8 (List.replicate 8 0)) 128)).alloc (.cells (row .u8 (List.replicate 8 0)) 128)) := ((Below.refl _ _).alloc (Nat.le_refl _) _).alloc (by simp) _
  go_enter Tryd.func68, Tryd.ntmps68
  go_upto_region 2 with fail
  refine forget (p := fun y => Code.wp _ _ _ _ y) (fun W0 => Below w.heap.size w W0 ∧ Holds W0 w.heap.size .u8 128 (List.replicate 8 0) ∧ Holds W0 (w.heap.size + 1) .u8 128 (List.replicate 8 0)) ⟨hB0, hR0, hA0⟩ ?_
  clear hB0 hR0 hA0
  rintro W0 ⟨hB0, hR0, hA0⟩
  go_wp2_with fail
  go_loopw [5] (fun q wr => ∃ j : Nat, j ≤ 8 ∧ q = .int .i64 j ∧ Below w.heap.size w wr ∧ Holds wr w.heap.size .u8 128 (List.replicate 8 0) ∧ Holds wr (w.heap.size + 1) .u8 128 (S.take j ++ List.replicate (8 - j) 0)) (fun q _ => 8 - (intOf q).toNat)
  case atStart => exact ⟨0, by omega, rfl, hB0, hR0, hA0⟩
  case round =>
    clear hB0 hR0 hA0
    obtain ⟨j, hj, rfl, hB, hR, hA⟩ := hrel
    by_cases hlt : j < 8
    · have hst := HF.out j hlt
      have hAl : (S.take j ++ List.replicate (8 - j) 0).length = 8 := by rw [List.length_append, List.length_take, List.length_replicate]; omega
      rw [HG.out j hlt] at hst
      obtain ⟨Z, hZ⟩ : ∃ q, S.take j ++ List.replicate (8 - j) 0 = q := ⟨_, rfl⟩
      rw [hZ] at hst hA hAl
      obtain ⟨m, hm⟩ : ∃ m : Nat, 8 * j = m := ⟨_, rfl⟩
      rw [hm] at hst
      have HST : Veil (Z.set j ((len : Int) / 2 ^ m % 256) = S.take (j + 1) ++ List.replicate (8 - (j + 1)) 0) := ⟨hst⟩
      have ca := hA.cell j (by omega)
      have fa := hA.frozen j
      have hj0 : (0 : Int) ≤ (j : Int) := by omega
      have hj8 : (j : Int) < 8 := by omega
      have r2 : (8 : Int) * (j : Int) = (m : Int) := by omega
      have r3 : IntKind.i64.wrap (m : Int) = (m : Int) := by rw [IntKind.wrap_i64]; omega
      have r4 : (m : Int) < 64 := by omega
      have r8 : IntKind.u8.wrap ((len : Int) / 2 ^ m) = (len : Int) / 2 ^ m % 256 := by simp [IntKind.wrap, IntKind.bits, IntKind.signed]
      clear hst hZ hm
      go_wp2
      go_roundw
      case rel => exact ⟨j + 1, by omega, by go_num, hB.setCell (by simp) _, hR.setOther _ _ (by simp), by rw [← HST.out]; exact hA.set j _⟩
      case measure => simp [intOf]; omega
    · obtain rfl : j = 8 := by omega
      rw [HFin.out, Nat.sub_self, List.replicate_zero, List.append_nil] at hA
      go_wp2_with (first
        | (refine wpList_ld rfl 128 _ rfl _ rfl hA Tryd.underlying128 size8b hL ?_)
        | (refine wpList_st rfl 128 _ _ rfl _ rfl rfl hR (by rw [hL]; exact size8b) (by simp [hL]) ?_))
      refine bodyPost_ret (results_holds (Tryd.results68) _ rfl (hR.setRow _) Tryd.underlying128 size8b hL) rfl ⟨rfl, ?_⟩
      exact below_setRow hB (by omega) _
end Go.Proofs.YtlalcnmcnkompaaDoor
