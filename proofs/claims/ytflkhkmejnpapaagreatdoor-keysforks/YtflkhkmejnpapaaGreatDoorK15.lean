/- Cy Ae0 Gc An1 An2 Ev0 -/
import Derived.Test.YtflkhkmejnpapaaGreatDoorK14
import Derived.Test.YtflkhkmejnpapaaGreatDoorK10
import Derived.Test.YtflkhkmejnpapaaGreatDoorK04
import Derived.Deep.MidRow
namespace Go.Proofs.YtflkhkmejnpapaaGreatDoor
open Go.RowKit
theorem bits_xor_nat8 (a b : Nat) (ha : a < 256) (hb : b < 256) : bits .xor .u8 (a : Int) (b : Int) = ((a ^^^ b : Nat) : Int) := by
 show IntKind.u8.wrap ((BitVec.ofInt 8 (a : Int) ^^^ BitVec.ofInt 8 (b : Int)).toNat : Int) = _
 rw [BitVec.toNat_xor, BitVec.toNat_ofInt, BitVec.toNat_ofInt]
 have e1 : ((a : Int) % (2 ^ 8 : Nat)).toNat = a := by simp; omega
 have e2 : ((b : Int) % (2 ^ 8 : Nat)).toNat = b := by simp; omega
 have hx : a ^^^ b < 2 ^ 8 := Nat.xor_lt_two_pow ha hb
 rw [e1, e2]
 simp [IntKind.wrap, IntKind.bits, IntKind.signed]
 omega
def U8 (x : Int) : Prop := 0 ≤ x ∧ x ≤ 255
theorem U8.nat {x : Int} (h : U8 x) : ∃ n : Nat, n < 256 ∧ x = n := ⟨x.toNat, by have := h.1; have := h.2; omega, by have := h.1; omega⟩
theorem xor_u8 {x y : Int} (hx : U8 x) (hy : U8 y) : U8 (bits .xor .u8 x y) := by
 obtain ⟨a, ha, rfl⟩ := hx.nat
 obtain ⟨b, hb, rfl⟩ := hy.nat
 rw [bits_xor_nat8 a b ha hb]
 have hx : a ^^^ b < 2 ^ 8 := Nat.xor_lt_two_pow ha hb
 exact ⟨by omega, by omega⟩
theorem xor_back8 {x y : Int} (hx : U8 x) (hy : U8 y) : bits .xor .u8 (bits .xor .u8 x y) y = x := by
 obtain ⟨a, ha, rfl⟩ := hx.nat
 obtain ⟨b, hb, rfl⟩ := hy.nat
 have hlt : a ^^^ b < 2 ^ 8 := Nat.xor_lt_two_pow ha hb
 rw [bits_xor_nat8 a b ha hb, bits_xor_nat8 _ b hlt hb, Nat.xor_assoc, Nat.xor_self, Nat.xor_zero]
theorem joinK_u8 (s : List Int) (k : Nat) : ∀ v ∈ joinK s k, U8 v := by
 induction k with
 | zero => intro v hv; cases hv
 | succ k ih =>
  intro v hv
  simp only [joinK, List.mem_append] at hv
  rcases hv with hv | hv
  · exact ih v hv
  · simp only [bytesL, List.mem_cons, List.not_mem_nil, or_false] at hv
    rcases hv with rfl | rfl | rfl | rfl <;> exact ⟨by omega, by omega⟩
theorem getD_u8 {l : List Int} (h : ∀ v ∈ l, U8 v) (i : Nat) : U8 (l[i]?.getD 0) := by
 by_cases hi : i < l.length
 · rw [List.getElem?_eq_getElem hi]; exact h _ (List.getElem_mem hi)
 · rw [List.getElem?_eq_none (by omega)]; exact ⟨by decide, by decide⟩
theorem strm_u8 (k n : List Int) (c : Int) (i : Nat) : U8 (strm k n c i) := getD_u8 (joinK_u8 _ 16) _
theorem xorL_get (k n : List Int) (c : Int) (z : List Int) (i : Nat) (h : i < z.length) : (xorL k n c z)[i]?.getD 0 = bits .xor .u8 (z[i]?.getD 0) (strm k n c i) := by
 simp [xorL, xorK, h]
theorem getD_ext {l m : List Int} (h : l.length = m.length) (hg : ∀ i, i < l.length → l[i]?.getD 0 = m[i]?.getD 0) : l = m := by
 apply List.ext_getElem h
 intro i h1 h2
 have := hg i h1
 simpa [h1, h2] using this
theorem xor_twice (k n : List Int) (c : Int) (z : List Int) (hz : ∀ v ∈ z, U8 v) : xorL k n c (xorL k n c z) = z := by
 refine getD_ext (by rw [xorL_length, xorL_length]) fun i hi => ?_
 rw [xorL_length, xorL_length] at hi
 rw [xorL_get _ _ _ _ _ (by rw [xorL_length]; exact hi), xorL_get _ _ _ _ _ hi, xor_back8 (getD_u8 hz i) (strm_u8 _ _ _ _)]
set_option maxRecDepth 20000
def fillN (n : Nat) : Nat := (16 - n % 16) % 16
def zerosL (n : Nat) : List Int := List.replicate n 0
def le8 (n : Nat) : List Int := leB 8 (n : Int)
theorem leB_length : ∀ (j : Nat) (n : Int), (leB j n).length = j
 | 0, _ => rfl
 | j + 1, n => by rw [leB, List.length_cons, leB_length j]
theorem leB_in : ∀ (j : Nat) (n : Int), ∀ v ∈ leB j n, isB v
 | 0, _, v, h => by simp [leB] at h
 | j + 1, n, v, h => by
  rcases List.mem_cons.1 h with rfl | h
  · unfold isB; omega
  · exact leB_in j _ v h
theorem le8_length (n : Nat) : (le8 n).length = 8 := leB_length 8 _
def framedL (o s : List Int) : List Int := o ++ zerosL (fillN o.length) ++ s ++ zerosL (fillN s.length) ++ le8 o.length ++ le8 s.length
theorem zerosL_length (n : Nat) : (zerosL n).length = n := by simp [zerosL]
theorem zerosL_in (n : Nat) : ∀ v ∈ zerosL n, isB v := fun v hv => by
 rw [(List.mem_replicate.1 hv).2]; unfold isB; omega
theorem framedL_length (o s : List Int) : (framedL o s).length = o.length + fillN o.length + s.length + fillN s.length + 16 := by
 unfold framedL
 simp only [List.length_append, zerosL_length, le8_length]
theorem framedL_in (o s : List Int) (ho : ∀ v ∈ o, isB v) (hs : ∀ v ∈ s, isB v) : ∀ v ∈ framedL o s, isB v := by
 intro v hv
 unfold framedL at hv
 simp only [List.mem_append] at hv
 rcases hv with ((((h | h) | h) | h) | h) | h
 · exact ho v h
 · exact zerosL_in _ v h
 · exact hs v h
 · exact zerosL_in _ v h
 · exact leB_in _ _ v h
 · exact leB_in _ _ v h
def onceL (k n : List Int) : List Int := (blockL k n 0).take 32
def tagL (k n o h : List Int) : List Int := polyL (onceL k n) (framedL o h)
def sealL (k n o b : List Int) : List Int := xorL k n 1 b ++ tagL k n o (xorL k n 1 b)
theorem onceL_length (k n : List Int) : (onceL k n).length = 32 := by
 unfold onceL; rw [List.length_take, blockL_length]; rfl
set_option linter.unusedSimpArgs false
def subA (x : Option Addr) (cap l : Nat) : Option Addr := if cap = l then x else x.map (·.add (l * 1))
theorem Bytes.cut {w : World} {x : Option Addr} {len cap : Nat} {z : List Int} (hb : Bytes w x len cap z) (l h : Nat) (h1 : l ≤ h) (h2 : h ≤ len) : Bytes w (subA x cap l) (h - l) (cap - l) ((z.drop l).take (h - l)) := by
 have hz := hb.len_eq
 have hle := hb.le
 refine ⟨by rw [List.length_take, List.length_drop]; omega, by omega, by have := hb.top; omega, ?_, ?_⟩
 · unfold subA
   split
   · intro _; omega
   · intro hn
     cases x with
     | none => have := hb.nil rfl; omega
     | some a => simp at hn
 · by_cases h0 : h - l = 0
   · exact .inl h0
   · rcases hb.at_ with h00 | ⟨b, off, hx, hc⟩
     · omega
     · refine .inr ⟨b, off + l, ?_, fun j hj => ?_⟩
       · unfold subA
         rw [if_neg (by omega), hx, Option.map_some, Addr.add_mid', Nat.mul_one]
       · rw [Nat.add_assoc, hc (l + j) (by omega), List.getElem?_take_of_lt hj, List.getElem?_drop]
theorem sizeU8 (w : World) : (sizeOf (Tryz.prog.elem 74)).run Tryz.prog w = .ok 1 w := by kernel_rfl
theorem elemB : Tryz.prog.underlying 74 = some (.slice (Tryz.prog.elem 74)) := by kernel_rfl
theorem run_cut_h (w : World) (x : Option Addr) (len cap h : Nat) (hh : h ≤ cap) : (Instr.slice 74 (.slice x len cap) none (some (.int .i64 (h : Int))) none).run Tryz.prog w = .ok (.slice (subA x cap 0) h cap) w := by
 rw [run_slice_h w 74 x len cap elemB .i64 (h : Int) (by omega) (by omega), sizeU8]
 simp [sliced, subA, Result.andThen]
theorem run_cut_l (w : World) (x : Option Addr) (len cap l : Nat) (hl : l ≤ len) : (Instr.slice 74 (.slice x len cap) (some (.int .i64 (l : Int))) none none).run Tryz.prog w = .ok (.slice (subA x cap l) (len - l) (cap - l)) w := by
 rw [run_slice_l w 74 x len cap elemB .i64 (l : Int) (by omega) (by omega), sizeU8]
 simp [sliced, subA, Result.andThen]
theorem wp_stG {P : Program} {o : Oper} {a : Act} {w : World} {K : Act → World → Prop} {Q : Exit → Act → World → Prop} (ty : TypeId) (x y : Operand) (ho : o.op = .store ty x y)
    (g : Nat) (hx : a.eval x = .pointer (some ⟨g, 0, none⟩)) {k : IntKind} {t : TypeId} {old l : List Int} (hy : a.eval y = .agg (row k l)) (hg : Holds w g k t old)
    (hi : (P.info? ty).map (·.size) = some l.length) (hl : old.length = l.length)
    (h : K (a.put o.dst undef) (w.setRow g (row k l))) : o.wp P a w K Q := by
 unfold Oper.wp execOp
 simp only [ho, hx, hy, Instr.storeAt, Instr.sureAddr, Sem.run_bind, Sem.run_pure, Result.andThen_ok, run_storeVar_row w g ty t k old l hg hl hi]
 exact h
theorem OwnB.lessG {w : World} {base base' : Nat} {v : Value} {z : List Int} (h : OwnB w base v z) (hb : base' ≤ base) : OwnB w base' v z := by
 refine ⟨h.1, ?_⟩
 rcases h.2 with h' | ⟨g, cap, cur, h1, h2, h3⟩
 · exact .inl h'
 · exact .inr ⟨g, cap, cur, h1, by omega, h3⟩
theorem fillN_lt (n : Nat) : fillN n < 16 := by unfold fillN; omega
set_option maxHeartbeats 1000000 in
theorem afill_any (x : Option Addr) (len cap : Nat) (z : List Int) (w : World) (h : Bytes w x len cap z) :
    Calls Tryz.prog 85 #[.slice x len cap] w fun e w' => e = .returned (.slice (some ⟨w.heap.size, 0, none⟩) (fillN len) (fillN len)) ∧ Holds w' w.heap.size .u8 5 (zerosL (fillN len)) ∧ Below w.heap.size w w' := by
 have htop := h.top
 have hle := h.le
 obtain ⟨F, hF⟩ : ∃ q, fillN len = q := ⟨_, rfl⟩
 have hF16 : F < 16 := by rw [← hF]; exact fillN_lt len
 have hmk : ∀ wx : World, (Instr.makeSlice 74 (.int .i64 (F : Int)) (.int .i64 (F : Int))).run Tryz.prog wx = .ok (.slice (some ⟨wx.heap.size, 0, none⟩) F F) (wx.alloc (.cells (row .u8 (List.replicate F 0)) 5)) := fun wx => by
  have := run_make_row' (P := Tryz.prog) 74 5 (.int .u8 0) 1 Tryz.underlying74 infoU8 rfl .i64 .i64 F (by omega) (by omega) wx
  rw [made_row] at this
  exact this
 obtain ⟨r, hr⟩ : ∃ r : Nat, len % 16 = r := ⟨_, rfl⟩
 obtain ⟨s, hs⟩ : ∃ s : Nat, 16 - r = s := ⟨_, rfl⟩
 have h1 : (len : Int).tmod 16 = (r : Int) := by rw [Int.tmod_eq_emod_of_nonneg (by omega)]; omega
 have h2 : IntKind.i64.wrap (16 - (r : Int)) = (s : Int) := by rw [IntKind.wrap_i64]; omega
 have h3 : (s : Int).tmod 16 = (F : Int) := by
  rw [Int.tmod_eq_emod_of_nonneg (by omega)]
  unfold fillN at hF
  omega
 rw [hF]
 unfold zerosL
 clear hF hr hs
 go_enter Tryz.func85, Tryz.ntmps85
 go_wp2
 go_ret
 exact ⟨rfl, Holds.new w .u8 5 _, (Below.refl _ _).alloc (Nat.le_refl _) _⟩
theorem le8_get (n i : Nat) (hi : i < 8) : (le8 n)[i]?.getD 0 = (n : Int) / 2 ^ (8 * i) % 256 := by
 have hic : i = 0 ∨ i = 1 ∨ i = 2 ∨ i = 3 ∨ i = 4 ∨ i = 5 ∨ i = 6 ∨ i = 7 := by omega
 unfold le8
 rcases hic with rfl | rfl | rfl | rfl | rfl | rfl | rfl | rfl
 all_goals
  simp only [leB, List.getElem?_cons_zero, List.getElem?_cons_succ, Option.getD_some]
  omega
theorem fillB_set (S : List Int) (j n : Nat) (hj : j < n) (hl : n ≤ S.length) : (S.take j ++ List.replicate (n - j) 0).set j (S[j]?.getD 0) = S.take (j + 1) ++ List.replicate (n - (j + 1)) 0 := by
 have h := set_next (S.take j) (n - (j + 1)) (S[j]?.getD 0)
 rw [List.length_take, Nat.min_eq_left (by omega), ← take_next S j (by omega), show n - (j + 1) + 1 = n - j by omega] at h
 exact h
theorem size8b : (Tryz.prog.info? 129).map (·.size) = some 8 := by kernel_rfl
set_option maxHeartbeats 1000000 in
theorem lengthOf_any (x : Option Addr) (len cap : Nat) (z : List Int) (w : World) (h : Bytes w x len cap z) :
    Calls Tryz.prog 84 #[.slice x len cap] w fun e w' => e = .returned (.agg (row .u8 (le8 len))) ∧ Below w.heap.size w w' := by
 have htop := h.top
 have hle := h.le
 have HG : Veil (∀ i, i < 8 → (le8 len)[i]?.getD 0 = (len : Int) / 2 ^ (8 * i) % 256) := ⟨le8_get len⟩
 have HF : Veil (∀ j, j < 8 → ((le8 len).take j ++ List.replicate (8 - j) 0).set j ((le8 len)[j]?.getD 0) = (le8 len).take (j + 1) ++ List.replicate (8 - (j + 1)) 0) := ⟨fun j hj => fillB_set _ j 8 hj (by rw [le8_length]; omega)⟩
 have hL := le8_length len
 obtain ⟨S, hS⟩ : ∃ q, le8 len = q := ⟨_, rfl⟩
 rw [hS] at HG HF hL ⊢
 have HFin : Veil (S.take 8 = S) := ⟨List.take_of_length_le (by omega)⟩
 have h64 : IntKind.u64.wrap (len : Int) = (len : Int) := by simp [IntKind.wrap, IntKind.bits, IntKind.signed]; omega
 clear hS h
 have hR0 := (Holds.new w .u8 129 (List.replicate 8 0)).alloc (.cells (row .u8 (List.replicate 8 0)) 129)
 have hA0 := Holds.new (w.alloc (.cells (row .u8 (List.replicate 8 0)) 129)) .u8 129 (List.replicate 8 0)
 rw [World.size_alloc] at hA0
 have hB0 : Below w.heap.size w ((w.alloc (.cells (row .u8 (List.replicate 8 0)) 129)).alloc (.cells (row .u8 (List.replicate 8 0)) 129)) := ((Below.refl _ _).alloc (Nat.le_refl _) _).alloc (by simp) _
 go_enter Tryz.func84, Tryz.ntmps84
 go_upto_region 2 with fail
 refine forget (p := fun y => Code.wp _ _ _ _ y) (fun W0 => Below w.heap.size w W0 ∧ Holds W0 w.heap.size .u8 129 (List.replicate 8 0) ∧ Holds W0 (w.heap.size + 1) .u8 129 (List.replicate 8 0)) ⟨hB0, hR0, hA0⟩ ?_
 clear hB0 hR0 hA0
 rintro W0 ⟨hB0, hR0, hA0⟩
 go_wp2_with fail
 go_loopw [5] (fun q wr => ∃ j : Nat, j ≤ 8 ∧ q = .int .i64 j ∧ Below w.heap.size w wr ∧ Holds wr w.heap.size .u8 129 (List.replicate 8 0) ∧ Holds wr (w.heap.size + 1) .u8 129 (S.take j ++ List.replicate (8 - j) 0)) (fun q _ => 8 - (intOf q).toNat)
 case atStart => exact ⟨0, by omega, rfl, hB0, hR0, hA0⟩
 case round =>
  clear hB0 hR0 hA0
  obtain ⟨j, hj, rfl, hB, hR, hA⟩ := hrel
  by_cases hlt : j < 8
  · have hst := HF.out j hlt
    have hAl : (S.take j ++ List.replicate (8 - j) 0).length = 8 := by rw [List.length_append, List.length_take, List.length_replicate]; omega
    rw [HG.out j hlt] at hst
    obtain ⟨Z, hZ⟩ : ∃ q, S.take j ++ List.replicate (8 - j) 0 = q := ⟨_, rfl⟩
    rw [hZ] at hst hA hAl
    obtain ⟨m, hm⟩ : ∃ m : Nat, 8 * j = m := ⟨_, rfl⟩
    rw [hm] at hst
    have HST : Veil (Z.set j ((len : Int) / 2 ^ m % 256) = S.take (j + 1) ++ List.replicate (8 - (j + 1)) 0) := ⟨hst⟩
    have ca := hA.cell j (by omega)
    have fa := hA.frozen j
    have hj0 : (0 : Int) ≤ (j : Int) := by omega
    have hj8 : (j : Int) < 8 := by omega
    have r2 : (8 : Int) * (j : Int) = (m : Int) := by omega
    have r3 : IntKind.i64.wrap (m : Int) = (m : Int) := by rw [IntKind.wrap_i64]; omega
    have r4 : (m : Int) < 64 := by omega
    have r8 : IntKind.u8.wrap ((len : Int) / 2 ^ m) = (len : Int) / 2 ^ m % 256 := by simp [IntKind.wrap, IntKind.bits, IntKind.signed]
    clear hst hZ hm
    go_wp2
    go_roundw
    case rel => exact ⟨j + 1, by omega, by go_num, hB.setCell (by simp) _, hR.setOther _ _ (by simp), by rw [← HST.out]; exact hA.set j _⟩
    case measure => simp [intOf]; omega
  · obtain rfl : j = 8 := by omega
    rw [HFin.out, Nat.sub_self, List.replicate_zero, List.append_nil] at hA
    go_wp2_with (first
     | (refine wpList_ld rfl 129 _ rfl _ rfl hA Tryz.underlying129 size8b hL ?_)
     | (refine wpList_st rfl 129 _ _ rfl _ rfl rfl hR (by rw [hL]; exact size8b) (by simp [hL]) ?_))
    refine bodyPost_ret (results_holds (Tryz.results84) _ rfl (hR.setRow _) Tryz.underlying129 size8b hL) rfl ⟨rfl, ?_⟩
    exact below_setRow hB (by omega) _
structure Part where
 x : Option Addr
 len : Nat
 cap : Nat
 z : List Int
def Part.val (p : Part) : Value := .slice p.x p.len p.cap
def allZ (ps : List Part) : List Int := (ps.map (·.z)).flatten
def sumN (ps : List Part) : Nat := (allZ ps).length
theorem allZ_append (a b : List Part) : allZ (a ++ b) = allZ a ++ allZ b := by simp [allZ]
theorem allZ_take (ps : List Part) (j : Nat) (hj : j < ps.length) : allZ (ps.take (j + 1)) = allZ (ps.take j) ++ (ps[j]).z := by
 rw [List.take_succ_eq_append_getElem hj, allZ_append]; simp [allZ]
theorem allZ_le (ps : List Part) (j : Nat) : (allZ (ps.take j)).length ≤ (allZ ps).length := by
 have h : allZ (ps.take j) ++ allZ (ps.drop j) = allZ ps := by rw [← allZ_append, List.take_append_drop]
 have := congrArg List.length h
 rw [List.length_append] at this
 omega
structure PartsAt (w : World) (g : Nat) (ps : List Part) : Prop where
 cell : ∀ j (hj : j < ps.length), w.cell? ⟨g, j, none⟩ = some (ps[j]).val
 has : ∀ j (hj : j < ps.length), Bytes w (ps[j]).x (ps[j]).len (ps[j]).cap (ps[j]).z
theorem PartsAt.below {w w' : World} {g : Nat} {ps : List Part} (h : PartsAt w g ps) (hb : Below w.heap.size w w') : PartsAt w' g ps :=
 ⟨fun j hj => (hb.cell (p := ⟨g, j, none⟩) (block_lt_of_cell (h.cell j hj))).trans (h.cell j hj), fun j hj => (h.has j hj).below hb⟩
theorem below_grown_new {w w' : World} (hg : w.grownBy w' none) : Below w.heap.size w w' := (Below.refl _ _).grown hg (Nat.le_refl _) (fun k hk => by cases hk)
set_option maxHeartbeats 2000000 in
theorem joined_any (g n : Nat) (ps : List Part) (w : World) (h : PartsAt w g ps) (hn : n = ps.length) (hn1 : n ≤ 1000) (hs : sumN ps ≤ 1000000) :
    Calls Tryz.prog 50 #[.slice (some ⟨g, 0, none⟩) n n] w fun e w' => ∃ v, e = .returned v ∧ OwnB w' w.heap.size v (allZ ps) ∧ Below w.heap.size w w' := by
 obtain ⟨i0, hi0, hz0, hz1, hz2⟩ := info_parts infoU8
 have HP : Veil (PartsAt w g ps) := ⟨h⟩
 have HN : Veil (n = ps.length) := ⟨hn⟩
 have HS : Veil (∀ j, (allZ (ps.take j)).length ≤ 1000000) := ⟨fun j => by have := allZ_le ps j; unfold sumN at hs; omega⟩
 clear h hn hs
 go_enter Tryz.func50, Tryz.ntmps50
 go_wp2_with fail
 go_loopw [3, 11] (fun sv jv wr => ∃ j : Nat, j ≤ n ∧ jv = .int .i64 j ∧ sv = .int .i64 ((allZ (ps.take j)).length : Int) ∧ wr = w) (fun _ jv _ => n - (intOf jv).toNat)
 case atStart => exact ⟨0, by omega, rfl, rfl, rfl⟩
 case round =>
  obtain ⟨j, hj, rfl, rfl, rfl⟩ := hrel
  by_cases hlt : j < n
  · have hl := HN.out
    have hc := HP.out.cell j (by omega)
    have hb := HP.out.has j (by omega)
    have ht := allZ_take ps j (by omega)
    have hs1 := HS.out (j + 1)
    rw [ht, List.length_append] at hs1
    have HT : Veil (((allZ (ps.take (j + 1))).length : Int) = ((allZ (ps.take j)).length : Int) + ((ps[j]'(by omega)).z.length : Int)) := ⟨by rw [ht, List.length_append]; omega⟩
    have hzl := hb.len_eq
    obtain ⟨p, hp⟩ : ∃ q, ps[j]'(by omega) = q := ⟨_, rfl⟩
    rw [hp] at hc HT hzl hs1
    obtain ⟨px, pl, pc, pz⟩ := p
    simp only [Part.val] at hc
    simp only at hzl HT hs1
    rw [← hzl] at HT hs1
    obtain ⟨A, hA⟩ : ∃ q, (allZ (ps.take j)).length = q := ⟨_, rfl⟩
    rw [hA] at HT hs1 ⊢
    have hw : IntKind.i64.wrap ((A : Int) + (pl : Int)) = (A : Int) + (pl : Int) := by rw [IntKind.wrap_i64]; omega
    have hj0 : (0 : Int) ≤ (j : Int) := by omega
    have hjn : (j : Int) < (n : Int) := by omega
    clear hl hb ht hzl hp hA hs1
    go_wp2
    go_roundw
    case rel => exact ⟨j + 1, by omega, by go_num, by rw [HT.out], trivial⟩
    case measure => simp [intOf]; omega
  · obtain rfl : j = n := by omega
    have hs1 := HS.out j
    have HTK : Veil (ps.take j = ps) := ⟨List.take_of_length_le (by have := HN.out; omega)⟩
    obtain ⟨A, hA⟩ : ∃ q, (allZ (ps.take j)).length = q := ⟨_, rfl⟩
    rw [hA] at hs1 ⊢
    clear hA
    go_wp2_with (at_make; refine wpList_make_own _ rfl _ _ 74 rfl wr.heap.size 5 i0 (.int .u8 0) 1 Tryz.underlying74 hi0 hz0 hz1 .i64 .i64 _ A rfl rfl rfl (by rw [hz2]; omega) (by simp [maxLen]; omega) (by omega) ?_; intro w1 ho1 hg1)
    have hB1 : Below wr.heap.size wr w1 := below_grown_new hg1
    have ho1' : OwnB w1 wr.heap.size (.slice (some ⟨wr.heap.size, 0, none⟩) 0 A) [] := OwnB.cast ho1 rfl rfl
    clear ho1 hg1
    obtain ⟨W, rfl⟩ : ∃ W, W = wr := ⟨_, rfl⟩
    go_loopw [6, 24] (fun v jv wr => ∃ i : Nat, i ≤ j ∧ jv = .int .i64 i ∧ OwnB wr W.heap.size v (allZ (ps.take i)) ∧ Below W.heap.size W wr) (fun _ jv _ => j - (intOf jv).toNat)
    case atStart => exact ⟨0, by omega, rfl, ho1', hB1⟩
    case round =>
     clear ho1' hB1
     obtain ⟨i, hi, rfl, ho, hB⟩ := hrel
     by_cases hlt : i < j
     · have hl := HN.out
       have hc := (HP.out.below hB).cell i (by omega)
       have hb := (HP.out.below hB).has i (by omega)
       have ht := allZ_take ps i (by omega)
       have hs1 := HS.out (i + 1)
       rw [ht, List.length_append] at hs1
       have hzl := hb.len_eq
       have HT : Veil (allZ (ps.take (i + 1)) = allZ (ps.take i) ++ (ps[i]'(by omega)).z) := ⟨ht⟩
       obtain ⟨p, hp⟩ : ∃ q, ps[i]'(by omega) = q := ⟨_, rfl⟩
       rw [hp] at hc HT hzl hs1 hb
       obtain ⟨px, pl, pc, pz⟩ := p
       simp only [Part.val] at hc
       simp only at hzl HT hs1 hb
       obtain ⟨A, hA⟩ : ∃ q, allZ (ps.take i) = q := ⟨_, rfl⟩
       rw [hA] at HT hs1 ho
       have hlen : A.length + pl ≤ 4000000 := by omega
       have hj0 : (0 : Int) ≤ (i : Int) := by omega
       have hjn : (i : Int) < (j : Int) := by omega
       clear hl ht hzl hp hA hs1
       go_wp2_with (at_builtin; refine wpList_app rfl _ _ rfl W.heap.size _ A rfl ho px pl pc pz rfl hb hlen hB.size ?_; intro v3 w3 ho3 hg3)
       go_roundw
       case rel => exact ⟨i + 1, by omega, by go_num, by rw [HT.out]; exact ho3, below_grown hB ho hg3 hB.size⟩
       case measure => simp [intOf]; omega
     · obtain rfl : i = j := by omega
       rw [HTK.out] at ho
       go_wp2
       go_ret
       exact ⟨_, rfl, ho, hB⟩
theorem wpList_ldv {P : Program} {ops : Array Oper} {rest : List Oper} {o : Oper} {a : Act} {w : World} {Q : Exit → Act → World → Prop} {d : TypeDesc} (hgd : o.guard = none) (ty : TypeId) (x : Operand) (ho : o.op = .load ty x)
    (g off : Nat) (hx : a.eval x = .pointer (some ⟨g, off, none⟩)) (cs : List Value) (hg : w.rangeAt g off cs)
    (hu : P.underlying ty = some d) (hd : d.isRow = true) (hi : (P.info? ty).map (·.size) = some cs.length)
    (h : wpList P ops Q rest (a.put o.dst (.agg cs.toArray)) w) : wpList P ops Q (o :: rest) a w :=
 wpList_plain hgd fun _ hK => wp_load_mid ty x ho g off hx cs _ hg hu hd hi (hK _ _ h)
def CellsAt (w : World) (g : Nat) (t : TypeId) (cs : List Value) : Prop := w.heap[g]? = some (.cells cs.toArray t (0, 0))
theorem CellsAt.new (w : World) (t : TypeId) (cs : List Value) : CellsAt (w.alloc (.cells cs.toArray t)) w.heap.size t cs := heap_alloc_new w _
theorem CellsAt.lt {w : World} {g : Nat} {t : TypeId} {cs : List Value} (h : CellsAt w g t cs) : g < w.heap.size := (Array.getElem?_eq_some_iff.1 h).1
theorem CellsAt.cell {w : World} {g : Nat} {t : TypeId} {cs : List Value} (h : CellsAt w g t cs) (j : Nat) : w.cell? ⟨g, j, none⟩ = cs[j]? := by
 rw [cell_of_row w g j _ _ _ h]; simp
theorem CellsAt.alloc {w : World} {g : Nat} {t : TypeId} {cs : List Value} (h : CellsAt w g t cs) (o : Obj) : CellsAt (w.alloc o) g t cs := by
 have hl := h.lt
 unfold CellsAt at h ⊢; rw [Below.heap_alloc w o g hl]; exact h
theorem CellsAt.range {w : World} {g : Nat} {t : TypeId} {cs : List Value} (h : CellsAt w g t cs) (o n : Nat) : w.rangeAt g o ((cs.drop o).take n) := fun j v hv => by
 rw [h.cell]
 rw [List.getElem?_take] at hv
 split at hv
 · rw [List.getElem?_drop] at hv; exact hv
 · simp at hv
theorem CellsAt.frozen {w : World} {g : Nat} {t : TypeId} {cs : List Value} (h : CellsAt w g t cs) (j : Nat) : w.frozen? ⟨g, j, none⟩ = false := frozen_of_row w g j _ t h
theorem CellsAt.set {w : World} {g : Nat} {t : TypeId} {cs : List Value} (h : CellsAt w g t cs) (j : Nat) (v : Value) : CellsAt (w.setCell ⟨g, j, none⟩ v) g t (cs.set j v) := by
 unfold CellsAt at h ⊢
 simp only [World.setCell, Array.getElem?_modify, h]
 simp
theorem CellsAt.congr {w w' : World} {g : Nat} {t : TypeId} {cs : List Value} (h : CellsAt w g t cs) (he : w'.heap[g]? = w.heap[g]?) : CellsAt w' g t cs := he.trans h
def dotC (a s : Int) : List Value := [.int .u8 a, .int .u32 s]
structure Ev where
 da : Int
 ds : Int
 past : List Int
 kind : Int
 pa : Int
 ps : Int
 right : Bool
 char : Int
 who : Int
 role : Int
def Ev.cells (e : Ev) : List Value := dotC e.da e.ds ++ e.past.map (Value.int .u32) ++ ([.int .u8 e.kind] ++ dotC e.pa e.ps ++ [.bool e.right, .int .u8 e.char, .int .u8 e.who, .int .u8 e.role])
theorem sizeDot : (Tryz.prog.info? 33).map (·.size) = some 2 := by kernel_rfl
theorem run_storeVar_cells {P : Program} (w : World) (g : Nat) (ty t : TypeId) (old cs : List Value) (hg : CellsAt w g t old) (hl : old.length = cs.length) (hi : (P.info? ty).map (·.size) = some cs.length) (h1 : ∀ v ∈ cs, v.oneCell' = true) :
    (storeVar ty ⟨g, 0, none⟩ (.agg cs.toArray)).run P w = .ok () (w.setRow g cs.toArray) := by
 have hst := run_storeCells_at P g 0 t cs 0 old.toArray w hg (by simp [hl]) h1
 cases hq : P.info? ty with
 | none => simp [hq] at hi
 | some i =>
  have hs : i.size = cs.length := by simpa [hq] using hi
  have hsz : cs.toArray.size = i.size := by simp [hs]
  have he : (List.take (0 + 0) old.toArray.toList ++ cs ++ List.drop (0 + 0 + cs.length) old.toArray.toList).toArray = cs.toArray := by
   simp [← hl]
  rw [he] at hst
  simp [storeVar, sizeOf, typeInfo, hq, Value.cells, hs, hst]
theorem wpList_stv {P : Program} {ops : Array Oper} {rest : List Oper} {o : Oper} {a : Act} {w : World} {Q : Exit → Act → World → Prop} (hgd : o.guard = none) (ty : TypeId) (x y : Operand) (ho : o.op = .store ty x y)
    (g : Nat) (hx : a.eval x = .pointer (some ⟨g, 0, none⟩)) {t : TypeId} {old cs : List Value} (hy : a.eval y = .agg cs.toArray) (hg : CellsAt w g t old)
    (hi : (P.info? ty).map (·.size) = some cs.length) (hl : old.length = cs.length) (h1 : ∀ v ∈ cs, v.oneCell' = true)
    (h : wpList P ops Q rest (a.put o.dst undef) (w.setRow g cs.toArray)) : wpList P ops Q (o :: rest) a w :=
 wpList_plain hgd fun _ hK => by
  unfold Oper.wp execOp
  simp only [ho, hx, hy, Instr.storeAt, Instr.sureAddr, Sem.run_bind, Sem.run_pure, Result.andThen_ok, run_storeVar_cells w g ty t old cs hg hl hi h1]
  exact hK _ _ h
theorem CellsAt.setRow {w : World} {g : Nat} {t : TypeId} {cs : List Value} (h : CellsAt w g t cs) (cs' : List Value) : CellsAt (w.setRow g cs'.toArray) g t cs' := by
 unfold CellsAt at h ⊢; exact setRow_heap w g _ _ t _ h
structure Wp where
 too : Int
 ea : Int
 es : Int
 data : List Int
def Wp.cells (e : Wp) : List Value := [.int .u8 e.too] ++ dotC e.ea e.es ++ e.data.map (Value.int .u8)
theorem wp_parts (e : Wp) (h : e.data.length = 48) : e.cells.length = 51 ∧ e.cells[0]? = some (.int .u8 e.too) ∧ (e.cells.drop 1).take 2 = dotC e.ea e.es ∧ (e.cells.drop 3).take 48 = e.data.map (Value.int .u8) ∧ ∀ v ∈ e.cells, v.oneCell' = true := by
 have hd : (e.data.map (Value.int .u8)).length = 48 := by rw [List.length_map, h]
 refine ⟨by unfold Wp.cells; simp [dotC, h], rfl, rfl, ?_, ?_⟩
 · show (e.data.map (Value.int .u8)).take 48 = _
   exact List.take_of_length_le (by omega)
 · intro v hv
   unfold Wp.cells dotC at hv
   simp only [List.mem_append, List.mem_cons, List.not_mem_nil, or_false, List.mem_map] at hv
   rcases hv with (rfl | rfl | rfl) | ⟨x, _, rfl⟩ <;> rfl
end Go.Proofs.YtflkhkmejnpapaaGreatDoor
