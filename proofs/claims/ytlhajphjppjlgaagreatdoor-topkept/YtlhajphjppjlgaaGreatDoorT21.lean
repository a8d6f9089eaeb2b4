/- Cy Ae0 An1 An2 Ky1 Own -/
import Derived.Test.YtlhajphjppjlgaaGreatDoorT20
import Derived.Test.YtlhajphjppjlgaaGreatDoorT16
import Derived.Test.YtlhajphjppjlgaaGreatDoorT02
import Derived.Test.YtlhajphjppjlgaaGreatDoorT01
import Derived.Test.YtlhajphjppjlgaaGreatDoorT08
import Derived.Maps.AppendAt
import Derived.Laws.AppendOwnNone
import Derived.RangeFuncBox
namespace Go.Proofs.YtlhajphjppjlgaaGreatDoor
open Go.RowKit
theorem bits_xor_nat8 (a b : Nat) (ha : a < 256) (hb : b < 256) : bits .xor .u8 (a : Int) (b : Int) = ((a ^^^ b : Nat) : Int) := by
  show IntKind.u8.wrap ((BitVec.ofInt 8 (a : Int) ^^^ BitVec.ofInt 8 (b : Int)).toNat : Int) = _
  rw [BitVec.toNat_xor, BitVec.toNat_ofInt, BitVec.toNat_ofInt]
  have e1 : ((a : Int) % (2 ^ 8 : Nat)).toNat = a := by simp; omega
  have e2 : ((b : Int) % (2 ^ 8 : Nat)).toNat = b := by simp; omega
  have hx : a ^^^ b < 2 ^ 8 := Nat.xor_lt_two_pow ha hb
  rw [e1, e2]
  simp [IntKind.wrap, IntKind.bits, IntKind.signed]
  omega
def U8 (x : Int) : Prop := 0 ≤ x ∧ x ≤ 255
theorem U8.nat {x : Int} (h : U8 x) : ∃ n : Nat, n < 256 ∧ x = n := ⟨x.toNat, by have := h.1; have := h.2; omega, by have := h.1; omega⟩
theorem xor_u8 {x y : Int} (hx : U8 x) (hy : U8 y) : U8 (bits .xor .u8 x y) := by
  obtain ⟨a, ha, rfl⟩ := hx.nat
  obtain ⟨b, hb, rfl⟩ := hy.nat
  rw [bits_xor_nat8 a b ha hb]
  have hx : a ^^^ b < 2 ^ 8 := Nat.xor_lt_two_pow ha hb
  exact ⟨by omega, by omega⟩
theorem joinK_u8 (s : List Int) (k : Nat) : ∀ v ∈ joinK s k, U8 v := by
  induction k with
  | zero => intro v hv; cases hv
  | succ k ih =>
    intro v hv
    simp only [joinK, List.mem_append] at hv
    rcases hv with hv | hv
    · exact ih v hv
    · simp only [bytesL, List.mem_cons, List.not_mem_nil, or_false] at hv
      rcases hv with rfl | rfl | rfl | rfl <;> exact ⟨by omega, by omega⟩
theorem getD_u8 {l : List Int} (h : ∀ v ∈ l, U8 v) (i : Nat) : U8 (l[i]?.getD 0) := by
  by_cases hi : i < l.length
  · rw [List.getElem?_eq_getElem hi]; exact h _ (List.getElem_mem hi)
  · rw [List.getElem?_eq_none (by omega)]; exact ⟨by decide, by decide⟩
theorem strm_u8 (k n : List Int) (c : Int) (i : Nat) : U8 (strm k n c i) := getD_u8 (joinK_u8 _ 16) _
theorem xorL_get (k n : List Int) (c : Int) (z : List Int) (i : Nat) (h : i < z.length) : (xorL k n c z)[i]?.getD 0 = bits .xor .u8 (z[i]?.getD 0) (strm k n c i) := by
  simp [xorL, xorK, h]
end Go.Proofs.YtlhajphjppjlgaaGreatDoor
namespace Go.Proofs.YtlhajphjppjlgaaGreatDoor
open Go.RowKit
set_option maxRecDepth 20000
def fillN (n : Nat) : Nat := (16 - n % 16) % 16
def zerosL (n : Nat) : List Int := List.replicate n 0
def le8 (n : Nat) : List Int := leB 8 (n : Int)
theorem leB_length : ∀ (j : Nat) (n : Int), (leB j n).length = j
  | 0, _ => rfl
  | j + 1, n => by rw [leB, List.length_cons, leB_length j]
theorem leB_in : ∀ (j : Nat) (n : Int), ∀ v ∈ leB j n, isB v
  | 0, _, v, h => by simp [leB] at h
  | j + 1, n, v, h => by
    rcases List.mem_cons.1 h with rfl | h
    · unfold isB; omega
    · exact leB_in j _ v h
theorem le8_length (n : Nat) : (le8 n).length = 8 := leB_length 8 _
def framedL (o s : List Int) : List Int := o ++ zerosL (fillN o.length) ++ s ++ zerosL (fillN s.length) ++ le8 o.length ++ le8 s.length
theorem zerosL_length (n : Nat) : (zerosL n).length = n := by simp [zerosL]
theorem zerosL_in (n : Nat) : ∀ v ∈ zerosL n, isB v := fun v hv => by
  rw [(List.mem_replicate.1 hv).2]; unfold isB; omega
theorem framedL_length (o s : List Int) : (framedL o s).length = o.length + fillN o.length + s.length + fillN s.length + 16 := by
  unfold framedL
  simp only [List.length_append, zerosL_length, le8_length]
theorem framedL_in (o s : List Int) (ho : ∀ v ∈ o, isB v) (hs : ∀ v ∈ s, isB v) : ∀ v ∈ framedL o s, isB v := by
  intro v hv
  unfold framedL at hv
  simp only [List.mem_append] at hv
  rcases hv with ((((h | h) | h) | h) | h) | h
  · exact ho v h
  · exact zerosL_in _ v h
  · exact hs v h
  · exact zerosL_in _ v h
  · exact leB_in _ _ v h
  · exact leB_in _ _ v h
def onceL (k n : List Int) : List Int := (blockL k n 0).take 32
def tagL (k n o h : List Int) : List Int := polyL (onceL k n) (framedL o h)
def sealL (k n o b : List Int) : List Int := xorL k n 1 b ++ tagL k n o (xorL k n 1 b)
theorem onceL_length (k n : List Int) : (onceL k n).length = 32 := by
  unfold onceL; rw [List.length_take, blockL_length]; rfl
end Go.Proofs.YtlhajphjppjlgaaGreatDoor
namespace Go.Proofs.YtlhajphjppjlgaaGreatDoor
open Go.RowKit
set_option maxRecDepth 20000
set_option linter.unusedSimpArgs false
theorem fillN_lt (n : Nat) : fillN n < 16 := by unfold fillN; omega
set_option maxHeartbeats 1000000 in
theorem afill_any (x : Option Addr) (len cap : Nat) (z : List Int) (w : World) (h : Bytes w x len cap z) :
    Calls Tryz.prog 136 #[.slice x len cap] w fun e w' => e = .returned (.slice (some ⟨w.heap.size, 0, none⟩) (fillN len) (fillN len)) ∧ Holds w' w.heap.size .u8 5 (zerosL (fillN len)) ∧ Below w.heap.size w w' := by
  have htop := h.top
  have hle := h.le
  obtain ⟨F, hF⟩ : ∃ q, fillN len = q := ⟨_, rfl⟩
  have hF16 : F < 16 := by rw [← hF]; exact fillN_lt len
  have hmk : ∀ wx : World, (Instr.makeSlice 30 (.int .i64 (F : Int)) (.int .i64 (F : Int))).run Tryz.prog wx = .ok (.slice (some ⟨wx.heap.size, 0, none⟩) F F) (wx.alloc (.cells (row .u8 (List.replicate F 0)) 5)) := fun wx => by
    have := run_make_row' (P := Tryz.prog) 30 5 (.int .u8 0) 1 Tryz.underlying30 infoU8 rfl .i64 .i64 F (by omega) (by omega) wx
    rw [made_row] at this
    exact this
  obtain ⟨r, hr⟩ : ∃ r : Nat, len % 16 = r := ⟨_, rfl⟩
  obtain ⟨s, hs⟩ : ∃ s : Nat, 16 - r = s := ⟨_, rfl⟩
  have h1 : (len : Int).tmod 16 = (r : Int) := by rw [Int.tmod_eq_emod_of_nonneg (by omega)]; omega
  have h2 : IntKind.i64.wrap (16 - (r : Int)) = (s : Int) := by rw [IntKind.wrap_i64]; omega
  have h3 : (s : Int).tmod 16 = (F : Int) := by
    rw [Int.tmod_eq_emod_of_nonneg (by omega)]
    unfold fillN at hF
    omega
  rw [hF]
  unfold zerosL
  clear hF hr hs
  go_enter Tryz.func136, Tryz.ntmps136
  go_wp2
  go_ret
  exact ⟨rfl, Holds.new w .u8 5 _, (Below.refl _ _).alloc (Nat.le_refl _) _⟩
theorem le8_get (n i : Nat) (hi : i < 8) : (le8 n)[i]?.getD 0 = (n : Int) / 2 ^ (8 * i) % 256 := by
  have hic : i = 0 ∨ i = 1 ∨ i = 2 ∨ i = 3 ∨ i = 4 ∨ i = 5 ∨ i = 6 ∨ i = 7 := by omega
  unfold le8
  rcases hic with rfl | rfl | rfl | rfl | rfl | rfl | rfl | rfl
  all_goals
    simp only [leB, List.getElem?_cons_zero, List.getElem?_cons_succ, Option.getD_some]
    omega
theorem fillB_set (S : List Int) (j n : Nat) (hj : j < n) (hl : n ≤ S.length) : (S.take j ++ List.replicate (n - j) 0).set j (S[j]?.getD 0) = S.take (j + 1) ++ List.replicate (n - (j + 1)) 0 := by
  have h := set_next (S.take j) (n - (j + 1)) (S[j]?.getD 0)
  rw [List.length_take, Nat.min_eq_left (by omega), ← take_next S j (by omega), show n - (j + 1) + 1 = n - j by omega] at h
  exact h
theorem size8b : (Tryz.prog.info? 222).map (·.size) = some 8 := by kernel_rfl
set_option maxHeartbeats 1000000 in
theorem lengthOf_any (x : Option Addr) (len cap : Nat) (z : List Int) (w : World) (h : Bytes w x len cap z) :
    Calls Tryz.prog 135 #[.slice x len cap] w fun e w' => e = .returned (.agg (row .u8 (le8 len))) ∧ Below w.heap.size w w' := by
  have htop := h.top
  have hle := h.le
  have HG : Veil (∀ i, i < 8 → (le8 len)[i]?.getD 0 = (len : Int) / 2 ^ (8 * i) % 256) := ⟨le8_get len⟩
  have HF : Veil (∀ j, j < 8 → ((le8 len).take j ++ List.replicate (8 - j) 0).set j ((le8 len)[j]?.getD 0) = (le8 len).take (j + 1) ++ List.replicate (8 - (j + 1)) 0) := ⟨fun j hj => fillB_set _ j 8 hj (by rw [le8_length]; omega)⟩
  have hL := le8_length len
  obtain ⟨S, hS⟩ : ∃ q, le8 len = q := ⟨_, rfl⟩
  rw [hS] at HG HF hL ⊢
  have HFin : Veil (S.take 8 = S) := ⟨List.take_of_length_le (by omega)⟩
  have h64 : IntKind.u64.wrap (len : Int) = (len : Int) := by simp [IntKind.wrap, IntKind.bits, IntKind.signed]; omega
  clear hS h
  have hR0 := (Holds.new w .u8 222 (List.replicate 8 0)).alloc (.cells (row .u8 (List.replicate 8 0)) 222)
  have hA0 := Holds.new (w.alloc (.cells (row .u8 (List.replicate 8 0)) 222)) .u8 222 (List.replicate 8 0)
  rw [World.size_alloc] at hA0
  have hB0 : Below w.heap.size w ((w.alloc (.cells (row .u8 (List.replicate 8 0)) 222)).alloc (.cells (row .u8 (List.replicate 8 0)) 222)) := ((Below.refl _ _).alloc (Nat.le_refl _) _).alloc (by simp) _
  go_enter Tryz.func135, Tryz.ntmps135
  go_upto_region 2 with fail
  refine forget (p := fun y => Code.wp _ _ _ _ y) (fun W0 => Below w.heap.size w W0 ∧ Holds W0 w.heap.size .u8 222 (List.replicate 8 0) ∧ Holds W0 (w.heap.size + 1) .u8 222 (List.replicate 8 0)) ⟨hB0, hR0, hA0⟩ ?_
  clear hB0 hR0 hA0
  rintro W0 ⟨hB0, hR0, hA0⟩
  go_wp2_with fail
  go_loopw [5] (fun q wr => ∃ j : Nat, j ≤ 8 ∧ q = .int .i64 j ∧ Below w.heap.size w wr ∧ Holds wr w.heap.size .u8 222 (List.replicate 8 0) ∧ Holds wr (w.heap.size + 1) .u8 222 (S.take j ++ List.replicate (8 - j) 0)) (fun q _ => 8 - (intOf q).toNat)
  case atStart => exact ⟨0, by omega, rfl, hB0, hR0, hA0⟩
  case round =>
    clear hB0 hR0 hA0
    obtain ⟨j, hj, rfl, hB, hR, hA⟩ := hrel
    by_cases hlt : j < 8
    · have hst := HF.out j hlt
      have hAl : (S.take j ++ List.replicate (8 - j) 0).length = 8 := by rw [List.length_append, List.length_take, List.length_replicate]; omega
      rw [HG.out j hlt] at hst
      obtain ⟨Z, hZ⟩ : ∃ q, S.take j ++ List.replicate (8 - j) 0 = q := ⟨_, rfl⟩
      rw [hZ] at hst hA hAl
      obtain ⟨m, hm⟩ : ∃ m : Nat, 8 * j = m := ⟨_, rfl⟩
      rw [hm] at hst
      have HST : Veil (Z.set j ((len : Int) / 2 ^ m % 256) = S.take (j + 1) ++ List.replicate (8 - (j + 1)) 0) := ⟨hst⟩
      have ca := hA.cell j (by omega)
      have fa := hA.frozen j
      have hj0 : (0 : Int) ≤ (j : Int) := by omega
      have hj8 : (j : Int) < 8 := by omega
      have r2 : (8 : Int) * (j : Int) = (m : Int) := by omega
      have r3 : IntKind.i64.wrap (m : Int) = (m : Int) := by rw [IntKind.wrap_i64]; omega
      have r4 : (m : Int) < 64 := by omega
      have r8 : IntKind.u8.wrap ((len : Int) / 2 ^ m) = (len : Int) / 2 ^ m % 256 := by simp [IntKind.wrap, IntKind.bits, IntKind.signed]
      clear hst hZ hm
      go_wp2
      go_roundw
      case rel => exact ⟨j + 1, by omega, by go_num, hB.setCell (by simp) _, hR.setOther _ _ (by simp), by rw [← HST.out]; exact hA.set j _⟩
      case measure => simp [intOf]; omega
    · obtain rfl : j = 8 := by omega
      rw [HFin.out, Nat.sub_self, List.replicate_zero, List.append_nil] at hA
      go_wp2_with (first
        | (refine wpList_ld rfl 222 _ rfl _ rfl hA Tryz.underlying222 size8b hL ?_)
        | (refine wpList_st rfl 222 _ _ rfl _ rfl rfl hR (by rw [hL]; exact size8b) (by simp [hL]) ?_))
      refine bodyPost_ret (results_holds (Tryz.results135) _ rfl (hR.setRow _) Tryz.underlying222 size8b hL) rfl ⟨rfl, ?_⟩
      exact below_setRow hB (by omega) _
end Go.Proofs.YtlhajphjppjlgaaGreatDoor
namespace Go.Proofs.YtlhajphjppjlgaaGreatDoor
open Go.RowKit
set_option maxRecDepth 20000
set_option linter.unusedSimpArgs false
structure Part where
  x : Option Addr
  len : Nat
  cap : Nat
  z : List Int
def Part.val (p : Part) : Value := .slice p.x p.len p.cap
def allZ (ps : List Part) : List Int := (ps.map (·.z)).flatten
def sumN (ps : List Part) : Nat := (allZ ps).length
theorem allZ_append (a b : List Part) : allZ (a ++ b) = allZ a ++ allZ b := by simp [allZ]
theorem allZ_take (ps : List Part) (j : Nat) (hj : j < ps.length) : allZ (ps.take (j + 1)) = allZ (ps.take j) ++ (ps[j]).z := by
  rw [List.take_succ_eq_append_getElem hj, allZ_append]; simp [allZ]
theorem allZ_le (ps : List Part) (j : Nat) : (allZ (ps.take j)).length ≤ (allZ ps).length := by
  have h : allZ (ps.take j) ++ allZ (ps.drop j) = allZ ps := by rw [← allZ_append, List.take_append_drop]
  have := congrArg List.length h
  rw [List.length_append] at this
  omega
structure PartsAt (w : World) (g : Nat) (ps : List Part) : Prop where
  cell : ∀ j (hj : j < ps.length), w.cell? ⟨g, j, none⟩ = some (ps[j]).val
  has : ∀ j (hj : j < ps.length), Bytes w (ps[j]).x (ps[j]).len (ps[j]).cap (ps[j]).z
theorem PartsAt.below {w w' : World} {g : Nat} {ps : List Part} (h : PartsAt w g ps) (hb : Below w.heap.size w w') : PartsAt w' g ps :=
  ⟨fun j hj => (hb.cell (p := ⟨g, j, none⟩) (block_lt_of_cell (h.cell j hj))).trans (h.cell j hj), fun j hj => (h.has j hj).below hb⟩
theorem below_grown_new {w w' : World} (hg : w.grownBy w' none) : Below w.heap.size w w' := (Below.refl _ _).grown hg (Nat.le_refl _) (fun k hk => by cases hk)
set_option maxHeartbeats 2000000 in
theorem joined_any (g n : Nat) (ps : List Part) (w : World) (h : PartsAt w g ps) (hn : n = ps.length) (hn1 : n ≤ 1000) (hs : sumN ps ≤ 1000000) :
    Calls Tryz.prog 93 #[.slice (some ⟨g, 0, none⟩) n n] w fun e w' => ∃ v, e = .returned v ∧ OwnB w' w.heap.size v (allZ ps) ∧ Below w.heap.size w w' := by
  obtain ⟨i0, hi0, hz0, hz1, hz2⟩ := info_parts infoU8
  have HP : Veil (PartsAt w g ps) := ⟨h⟩
  have HN : Veil (n = ps.length) := ⟨hn⟩
  have HS : Veil (∀ j, (allZ (ps.take j)).length ≤ 1000000) := ⟨fun j => by have := allZ_le ps j; unfold sumN at hs; omega⟩
  clear h hn hs
  go_enter Tryz.func93, Tryz.ntmps93
  go_wp2_with fail
  go_loopw [3, 11] (fun sv jv wr => ∃ j : Nat, j ≤ n ∧ jv = .int .i64 j ∧ sv = .int .i64 ((allZ (ps.take j)).length : Int) ∧ wr = w) (fun _ jv _ => n - (intOf jv).toNat)
  case atStart => exact ⟨0, by omega, rfl, rfl, rfl⟩
  case round =>
    obtain ⟨j, hj, rfl, rfl, rfl⟩ := hrel
    by_cases hlt : j < n
    · have hl := HN.out
      have hc := HP.out.cell j (by omega)
      have hb := HP.out.has j (by omega)
      have ht := allZ_take ps j (by omega)
      have hs1 := HS.out (j + 1)
      rw [ht, List.length_append] at hs1
      have HT : Veil (((allZ (ps.take (j + 1))).length : Int) = ((allZ (ps.take j)).length : Int) + ((ps[j]'(by omega)).z.length : Int)) := ⟨by rw [ht, List.length_append]; omega⟩
      have hzl := hb.len_eq
      obtain ⟨p, hp⟩ : ∃ q, ps[j]'(by omega) = q := ⟨_, rfl⟩
      rw [hp] at hc HT hzl hs1
      obtain ⟨px, pl, pc, pz⟩ := p
      simp only [Part.val] at hc
      simp only at hzl HT hs1
      rw [← hzl] at HT hs1
      obtain ⟨A, hA⟩ : ∃ q, (allZ (ps.take j)).length = q := ⟨_, rfl⟩
      rw [hA] at HT hs1 ⊢
      have hw : IntKind.i64.wrap ((A : Int) + (pl : Int)) = (A : Int) + (pl : Int) := by rw [IntKind.wrap_i64]; omega
      have hj0 : (0 : Int) ≤ (j : Int) := by omega
      have hjn : (j : Int) < (n : Int) := by omega
      clear hl hb ht hzl hp hA hs1
      go_wp2
      go_roundw
      case rel => exact ⟨j + 1, by omega, by go_num, by rw [HT.out], trivial⟩
      case measure => simp [intOf]; omega
    · obtain rfl : j = n := by omega
      have hs1 := HS.out j
      have HTK : Veil (ps.take j = ps) := ⟨List.take_of_length_le (by have := HN.out; omega)⟩
      obtain ⟨A, hA⟩ : ∃ q, (allZ (ps.take j)).length = q := ⟨_, rfl⟩
      rw [hA] at hs1 ⊢
      clear hA
      go_wp2_with (at_make; refine wpList_make_own _ rfl _ _ 30 rfl wr.heap.size 5 i0 (.int .u8 0) 1 Tryz.underlying30 hi0 hz0 hz1 .i64 .i64 _ A rfl rfl rfl (by rw [hz2]; omega) (by simp [maxLen]; omega) (by omega) ?_; intro w1 ho1 hg1)
      have hB1 : Below wr.heap.size wr w1 := below_grown_new hg1
      have ho1' : OwnB w1 wr.heap.size (.slice (some ⟨wr.heap.size, 0, none⟩) 0 A) [] := OwnB.cast ho1 rfl rfl
      clear ho1 hg1
      obtain ⟨W, rfl⟩ : ∃ W, W = wr := ⟨_, rfl⟩
      go_loopw [6, 24] (fun v jv wr => ∃ i : Nat, i ≤ j ∧ jv = .int .i64 i ∧ OwnB wr W.heap.size v (allZ (ps.take i)) ∧ Below W.heap.size W wr) (fun _ jv _ => j - (intOf jv).toNat)
      case atStart => exact ⟨0, by omega, rfl, ho1', hB1⟩
      case round =>
        clear ho1' hB1
        obtain ⟨i, hi, rfl, ho, hB⟩ := hrel
        by_cases hlt : i < j
        · have hl := HN.out
          have hc := (HP.out.below hB).cell i (by omega)
          have hb := (HP.out.below hB).has i (by omega)
          have ht := allZ_take ps i (by omega)
          have hs1 := HS.out (i + 1)
          rw [ht, List.length_append] at hs1
          have hzl := hb.len_eq
          have HT : Veil (allZ (ps.take (i + 1)) = allZ (ps.take i) ++ (ps[i]'(by omega)).z) := ⟨ht⟩
          obtain ⟨p, hp⟩ : ∃ q, ps[i]'(by omega) = q := ⟨_, rfl⟩
          rw [hp] at hc HT hzl hs1 hb
          obtain ⟨px, pl, pc, pz⟩ := p
          simp only [Part.val] at hc
          simp only at hzl HT hs1 hb
          obtain ⟨A, hA⟩ : ∃ q, allZ (ps.take i) = q := ⟨_, rfl⟩
          rw [hA] at HT hs1 ho
          have hlen : A.length + pl ≤ 4000000 := by omega
          have hj0 : (0 : Int) ≤ (i : Int) := by omega
          have hjn : (i : Int) < (j : Int) := by omega
          clear hl ht hzl hp hA hs1
          go_wp2_with (at_builtin; refine wpList_app rfl _ _ rfl W.heap.size _ A rfl ho px pl pc pz rfl hb hlen hB.size ?_; intro v3 w3 ho3 hg3)
          go_roundw
          case rel => exact ⟨i + 1, by omega, by go_num, by rw [HT.out]; exact ho3, below_grown hB ho hg3 hB.size⟩
          case measure => simp [intOf]; omega
        · obtain rfl : i = j := by omega
          rw [HTK.out] at ho
          go_wp2
          go_ret
          exact ⟨_, rfl, ho, hB⟩
end Go.Proofs.YtlhajphjppjlgaaGreatDoor
namespace Go.Proofs.YtlhajphjppjlgaaGreatDoor
open Go.RowKit
set_option maxRecDepth 20000
set_option linter.unusedSimpArgs false
def bE4 (n : Int) : List Int := [n / 16777216 % 256, n / 65536 % 256, n / 256 % 256, n % 256]
set_option maxHeartbeats 2000000 in
theorem kjoined_any (g n : Nat) (ps : List Part) (w : World) (h : PartsAt w g ps) (hn : n = ps.length) (hn1 : n ≤ 1000) (hs : sumN ps ≤ 1000000) :
    Calls Tryz.prog 51 #[.slice (some ⟨g, 0, none⟩) n n] w fun e w' => ∃ v, e = .returned v ∧ OwnB w' w.heap.size v (allZ ps) ∧ Below w.heap.size w w' := by
  have HP : Veil (PartsAt w g ps) := ⟨h⟩
  have HN : Veil (n = ps.length) := ⟨hn⟩
  have HS : Veil (∀ j, (allZ (ps.take j)).length ≤ 1000000) := ⟨fun j => by have := allZ_le ps j; unfold sumN at hs; omega⟩
  have HTK : Veil (ps.take n = ps) := ⟨List.take_of_length_le (by omega)⟩
  clear h hn hs
  go_enter Tryz.func51, Tryz.ntmps51
  go_wp2_with fail
  go_loopw [3, 8] (fun v jv wr => ∃ i : Nat, i ≤ n ∧ jv = .int .i64 i ∧ OwnB wr w.heap.size v (allZ (ps.take i)) ∧ Below w.heap.size w wr) (fun _ jv _ => n - (intOf jv).toNat)
  case atStart => exact ⟨0, by omega, rfl, OwnB.nil _ _, Below.refl _ _⟩
  case round =>
    obtain ⟨i, hi, rfl, ho, hB⟩ := hrel
    by_cases hlt : i < n
    · have hl := HN.out
      have hc := (HP.out.below hB).cell i (by omega)
      have hb := (HP.out.below hB).has i (by omega)
      have ht := allZ_take ps i (by omega)
      have hs1 := HS.out (i + 1)
      rw [ht, List.length_append] at hs1
      have hzl := hb.len_eq
      have HT : Veil (allZ (ps.take (i + 1)) = allZ (ps.take i) ++ (ps[i]'(by omega)).z) := ⟨ht⟩
      obtain ⟨p, hp⟩ : ∃ q, ps[i]'(by omega) = q := ⟨_, rfl⟩
      rw [hp] at hc HT hzl hs1 hb
      obtain ⟨px, pl, pc, pz⟩ := p
      simp only [Part.val] at hc
      simp only at hzl HT hs1 hb
      obtain ⟨A, hA⟩ : ∃ q, allZ (ps.take i) = q := ⟨_, rfl⟩
      rw [hA] at HT hs1 ho
      have hlen : A.length + pl ≤ 4000000 := by omega
      have hj0 : (0 : Int) ≤ (i : Int) := by omega
      have hjn : (i : Int) < (n : Int) := by omega
      clear hl ht hzl hp hA hs1
      go_wp2_with (at_builtin; refine wpList_app rfl _ _ rfl w.heap.size _ A rfl ho px pl pc pz rfl hb hlen hB.size ?_; intro v3 w3 ho3 hg3)
      go_roundw
      case rel => exact ⟨i + 1, by omega, by go_num, by rw [HT.out]; exact ho3, below_grown hB ho hg3 hB.size⟩
      case measure => simp [intOf]; omega
    · obtain rfl : i = n := by omega
      rw [HTK.out] at ho
      go_wp2
      go_ret
      exact ⟨_, rfl, ho, hB⟩
set_option maxHeartbeats 1000000 in
theorem kfour_any (n : Int) (w : World) :
    Calls Tryz.prog 94 #[.int .u32 n] w fun e w' => e = .returned (.slice (some ⟨w.heap.size, 0, none⟩) 4 4) ∧ w' = w.alloc (.cells (row .u8 (bE4 n)) 5) := by
  have e1 : IntKind.u8.wrap (n / 16777216) = n / 16777216 % 256 := by simp [IntKind.wrap, IntKind.bits, IntKind.signed]
  have e2 : IntKind.u8.wrap (n / 65536) = n / 65536 % 256 := by simp [IntKind.wrap, IntKind.bits, IntKind.signed]
  have e3 : IntKind.u8.wrap (n / 256) = n / 256 % 256 := by simp [IntKind.wrap, IntKind.bits, IntKind.signed]
  have e4 : IntKind.u8.wrap n = n % 256 := by simp [IntKind.wrap, IntKind.bits, IntKind.signed]
  go_enter Tryz.func94, Tryz.ntmps94
  go_wp2
  go_ret
  exact ⟨rfl, rfl⟩
end Go.Proofs.YtlhajphjppjlgaaGreatDoor
namespace Go.Proofs.YtlhajphjppjlgaaGreatDoor.S
open Go.RowKit
def lenOf : Value → Nat | .slice _ n _ => n | _ => 0
def OwnB (w : World) (base : Nat) (v : Value) (z : List Int) : Prop := w.ownsRow base 5 1 v z.length (z.map (Value.int .u8))
theorem OwnB.cast {w : World} {base n : Nat} {v : Value} {z : List Int} {xs : List Value} (h : w.ownsRow base 5 1 v n xs) (hn : n = z.length) (hx : xs = z.map (Value.int .u8)) : OwnB w base v z := by
  subst hn hx; exact h
theorem wpList_app {w : World} {ops : Array Oper} {rest : List Oper} {o : Oper} {a : Act} {Q : Exit → Act → World → Prop} (hgd : o.guard = none) (s x : Operand)
    (ho : o.op = .call { callee := .builtin .append, args := #[s, x], argTypes := #[30, 30] }) (base : Nat) (v : Value) (zs : List Int) (hs : a.eval s = v) (hown : OwnB w base v zs)
    (y : Option Addr) (len cap : Nat) (z : List Int) (hx : a.eval x = .slice y len cap) (hb : Bytes w y len cap z) (hln : zs.length + len ≤ 4000000) (hbase : base ≤ w.heap.size)
    (h : ∀ v' w', OwnB w' base v' (zs ++ z) → w.grownBy w' v.ownBlock → wpList Tryz.prog ops Q rest (a.put o.dst v') w') : wpList Tryz.prog ops Q (o :: rest) a w := by
  obtain ⟨i0, hi, hz0, hz1, hz2⟩ := info_parts infoU8
  have hzl := hb.len_eq
  have hcase : ∀ ad : Addr, y = some ad → (∀ j u, (z.map (Value.int .u8))[j]? = some u → w.cell? (ad.add j) = some u) → wpList Tryz.prog ops Q (o :: rest) a w := fun ad hy hsrc => by
    subst hy
    refine wpList_append_own w hgd s x 30 ho base 5 i0 (.int .u8 0) 1 1 Tryz.underlying30 hi hz0 hz1 hz2 rfl (by decide) v zs.length (zs.map (Value.int .u8)) hs hown ad len cap (z.map (Value.int .u8)) hx (by simp [hzl]) hsrc (by simp [Value.oneCell']) (by simp [maxLen]; omega) (by omega) hbase ?_
    intro v' w' h1 h2 _
    exact h v' w' (OwnB.cast h1 (by simp [hzl]) (by simp)) h2
  rcases hb.at_ with h0 | ⟨b, off, hy, hc⟩
  · have hz0' : z = [] := List.length_eq_zero_iff.1 (by omega)
    cases y with
    | none =>
      have hc0 := hb.nil rfl
      subst h0 hc0 hz0'
      refine wpList_append_own_none hgd s x 30 ho base 5 i0 1 Tryz.underlying30 hi v zs.length (zs.map (Value.int .u8)) hs hown hx ?_
      exact h v w (by rw [List.append_nil]; exact hown) ⟨rfl, rfl, rfl, Nat.le_refl _, fun _ _ _ => rfl⟩
    | some ad => exact hcase ad rfl (fun j u hu => by subst hz0'; simp at hu)
  · exact hcase _ hy (fun j u hu => by
      have hj : j < len := by have := (List.getElem?_eq_some_iff.1 hu).1; simpa [hzl] using this
      rw [Addr.add_mid', hc j hj, ← hu, List.getElem?_map, List.getElem?_eq_getElem (by omega)]; rfl)
theorem OwnB.nil (w : World) (base : Nat) : OwnB w base (.slice none 0 0) [] := World.ownsRow_nil w base 5 1
theorem OwnB.alloc {w : World} {base : Nat} {v : Value} {z : List Int} (h : OwnB w base v z) (o : Obj) : OwnB (w.alloc o) base v z := World.ownsRow.alloc h o
theorem OwnB.slice {w : World} {base : Nat} {v : Value} {z : List Int} (h : OwnB w base v z) (hz : 0 < z.length) : ∃ g cap, v = .slice (some ⟨g, 0, none⟩) z.length cap ∧ base ≤ g := by
  rcases h.2 with ⟨_, h0⟩ | ⟨g, cap, cur, rfl, hb, _⟩
  · omega
  · exact ⟨g, cap, rfl, hb⟩
theorem below_grown {base : Nat} {w0 w w' : World} {v : Value} {z : List Int} (hb : Below base w0 w) (hown : OwnB w base v z) (hg : w.grownBy w' v.ownBlock) (hbase : base ≤ w.heap.size) : Below base w0 w' :=
  hb.grown hg hbase (fun k hk => by
    rcases hown.2 with ⟨rfl, _⟩ | ⟨g, cap, cur, rfl, hb, _⟩
    · cases hk
    · simp [Value.ownBlock] at hk; omega)
theorem Holds.bytes {w : World} {g : Nat} {t : TypeId} {l : List Int} {n : Nat} (h : Holds w g .u8 t l) (hn : n = l.length) (hl : l.length ≤ 4000000) : Bytes w (some ⟨g, 0, none⟩) n n l := by
  subst hn
  exact ⟨rfl, Nat.le_refl _, by omega, (fun h => by cases h), .inr ⟨g, 0, rfl, fun j hj => by rw [Nat.zero_add]; exact h.cell j hj⟩⟩
theorem OwnB.bytes {w : World} {base : Nat} {x : Option Addr} {n cap : Nat} {z : List Int} (h : OwnB w base (.slice x n cap) z) : n = z.length ∧ Bytes w x n cap z := by
  rcases h.2 with ⟨h1, h0⟩ | ⟨g, cap', cur, h1, _, hg, hc, hm, hs, ht⟩
  · have hz : z = [] := List.length_eq_zero_iff.1 h0
    cases h1
    subst hz
    exact ⟨rfl, bytes_nil w⟩
  · cases h1
    refine ⟨rfl, rfl, hc, by simpa [maxLen] using hm, (fun h => by cases h), .inr ⟨g, 0, rfl, fun j hj => ?_⟩⟩
    rw [Nat.zero_add, cell_of_row w g j _ _ _ hg, ← Array.getElem?_toList]
    have e : (cur.toList.take (z.length * 1))[j]? = (z.map (Value.int .u8))[j]? := by rw [ht]
    rw [Nat.mul_one, List.getElem?_take_of_lt hj, List.getElem?_map, List.getElem?_eq_getElem hj] at e
    rw [e, List.getElem?_eq_getElem hj]; rfl
theorem OwnB.isSlice {w : World} {base : Nat} {v : Value} {z : List Int} (h : OwnB w base v z) : ∃ x n c, v = .slice x n c ∧ n = z.length := by
  rcases h.2 with ⟨rfl, h0⟩ | ⟨g, cap, cur, rfl, _⟩
  · exact ⟨none, 0, 0, rfl, h0.symm⟩
  · exact ⟨_, _, _, rfl, rfl⟩
end Go.Proofs.YtlhajphjppjlgaaGreatDoor.S
