/- 'Xor': bytes with those of the stream. Xor of xor are the bytes. Sealed bytes as the document has them: what the tag is of, the tag, sealed, opened. Pure. -/
import Derived.Test.YtfainlfiphdaeaaGreatDoorMCbsChCi
import Derived.Test.YtfainlfiphdaeaaGreatDoorMPlPzPz2
namespace Go.Proofs.YtfainlfiphdaeaaGreatDoor
open Go.RowKit
set_option maxRecDepth 20000

/-- Byte number i of the stream. -/
def strm (k n : List Int) (c : Int) (i : Nat) : Int := (blockL k n ((c + (i / 64 : Nat)) % 4294967296))[i % 64]?.getD 0
/-- Bytes with those of the stream, as far as place i; noughts behind. -/
def xorK (k n : List Int) (c : Int) (z : List Int) (i : Nat) : List Int := (List.range z.length).map fun p => if p < i then bits .xor .u8 (z[p]?.getD 0) (strm k n c p) else 0
def xorL (k n : List Int) (c : Int) (z : List Int) : List Int := xorK k n c z z.length
theorem xorK_length (k n : List Int) (c : Int) (z : List Int) (i : Nat) : (xorK k n c z i).length = z.length := by simp [xorK]
theorem xorL_length (k n : List Int) (c : Int) (z : List Int) : (xorL k n c z).length = z.length := xorK_length _ _ _ _ _
theorem xorK_zero (k n : List Int) (c : Int) (z : List Int) : xorK k n c z 0 = List.replicate z.length 0 := by
  apply List.ext_getElem (by simp [xorK])
  intro i h1 h2
  simp [xorK]
theorem xorK_end (k n : List Int) (c : Int) (z : List Int) (i : Nat) (h : z.length ≤ i) : xorK k n c z i = xorL k n c z := by
  unfold xorL xorK
  apply List.map_congr_left
  intro p hp
  have := List.mem_range.1 hp
  rw [if_pos (by omega), if_pos (by omega)]
theorem xorK_set (k n : List Int) (c : Int) (z : List Int) (i : Nat) : (xorK k n c z i).set i (bits .xor .u8 (z[i]?.getD 0) (strm k n c i)) = xorK k n c z (i + 1) := by
  apply List.ext_getElem (by simp [xorK])
  intro p h1 h2
  by_cases hip : i = p
  · subst hip
    simp [xorK]
  · rw [List.getElem_set_ne hip]
    simp only [xorK, List.getElem_map, List.getElem_range]
    by_cases hlt : p < i
    · rw [if_pos hlt, if_pos (by omega)]
    · rw [if_neg hlt, if_neg (by omega)]

set_option maxHeartbeats 1000000 in
theorem xor_any (k n : List Int) (c : Int) (x : Option Addr) (len cap : Nat) (z : List Int) (w : World) (hk : k.length = 32) (hn : n.length = 12) (hc : U32 c) (hz : Bytes w x len cap z) (hln : len ≤ 1000000) :
    Calls Tryz.prog 106 #[.agg (row .u8 k), .agg (row .u8 n), .int .u32 c, .slice x len cap] w fun e w' => ∃ g, e = .returned (.slice (some ⟨g, 0, none⟩) len len) ∧ w.heap.size ≤ g ∧ Holds w' g .u8 5 (xorL k n c z) ∧ Below w.heap.size w w' := by
  have hmk : ∀ wx : World, (Instr.makeSlice 41 (.int .i64 (len : Int)) (.int .i64 (len : Int))).run Tryz.prog wx = .ok (.slice (some ⟨wx.heap.size, 0, none⟩) len len) (wx.alloc (.cells (row .u8 (List.replicate len 0)) 5)) := fun wx => by
    have := run_make_row' (P := Tryz.prog) 41 5 (.int .u8 0) 1 Tryz.underlying41 infoU8 rfl .i64 .i64 len (by omega) (by omega) wx
    rw [made_row] at this
    exact this
  have hzl := hz.len_eq
  have hle := hz.le
  have htop := hz.top
  have HZ : Veil (len = z.length) := ⟨hzl⟩
  clear hzl
  go_enter Tryz.func106, Tryz.ntmps106
  go_upto_region 2 with fail
  refine forget (p := fun y => Code.wp _ _ _ _ y) (fun W0 => Below w.heap.size w W0 ∧ W0.heap.size = w.heap.size + 1 + 1 + 1 ∧ Holds W0 w.heap.size .u8 23 k ∧ Holds W0 (w.heap.size + 1) .u8 101 n ∧ Holds W0 (w.heap.size + 1 + 1) .u8 5 (xorK k n c z 0)) ⟨?_, by simp, ?_, ?_, ?_⟩ ?_
  · exact (((Below.refl _ _).alloc (Nat.le_refl _) _).alloc (by simp) _).alloc (by simp; omega) _
  · exact ((Holds.new w .u8 23 k).alloc _).alloc _
  · have := (Holds.new (w.alloc (.cells (row .u8 k) 23)) .u8 101 n)
    rw [World.size_alloc] at this
    exact this.alloc _
  · have := (Holds.new ((w.alloc (.cells (row .u8 k) 23)).alloc (.cells (row .u8 n) 101)) .u8 5 (List.replicate len 0))
    rw [World.size_alloc, World.size_alloc] at this
    rw [xorK_zero, ← HZ.out]
    exact this
  rintro W0 ⟨hB0, hs0, hK0, hN0, hO0⟩
  clear hmk
  go_wp2_with fail
  go_loopw [2, 10] (fun cv p wr => ∃ j : Nat, 64 * j < len + 64 ∧ cv = .int .u32 ((c + (j : Int)) % 4294967296) ∧ p = .int .i64 ((64 * j : Nat) : Int) ∧ Below w.heap.size w wr ∧ w.heap.size + 1 + 1 + 1 ≤ wr.heap.size ∧ Holds wr w.heap.size .u8 23 k ∧ Holds wr (w.heap.size + 1) .u8 101 n ∧ Holds wr (w.heap.size + 1 + 1) .u8 5 (xorK k n c z (64 * j)))
    (fun _ p _ => len + 64 - (intOf p).toNat)
  case atStart => exact ⟨0, by omega, by congr 1; have := hc.1; have := hc.2; omega, rfl, hB0, by omega, hK0, hN0, hO0⟩
  case round =>
    clear hB0 hs0 hK0 hN0 hO0
    obtain ⟨j, hj, rfl, rfl, hB, hsz, hK, hN, hO⟩ := hrel
    by_cases hlt : 64 * j < len
    · obtain ⟨b, off, hx, hcell⟩ : ∃ b off, x = some ⟨b, off, none⟩ ∧ ∀ j, j < len → w.cell? ⟨b, off + j, none⟩ = some (.int .u8 (z[j]?.getD 0)) := by
        rcases hz.at_ with h0 | h
        · omega
        · exact h
      subst hx
      have hbl := fun wx => block_any k n ((c + (j : Int)) % 4294967296) wx hk hn
      have hbll := blockL_length k n ((c + (j : Int)) % 4294967296)
      obtain ⟨BL, hBL⟩ : ∃ BL, blockL k n ((c + (j : Int)) % 4294967296) = BL := ⟨_, rfl⟩
      have HBL : Veil (blockL k n ((c + (j : Int)) % 4294967296) = BL) := ⟨hBL⟩
      rw [hBL] at hbl hbll
      clear hBL
      obtain ⟨A, hA⟩ : ∃ A : Nat, 64 * j = A := ⟨_, rfl⟩
      have HA : Veil (64 * j = A) := ⟨hA⟩
      obtain ⟨CC, hCC⟩ : ∃ CC, (c + (j : Int)) % 4294967296 = CC := ⟨_, rfl⟩
      have HC : Veil ((c + (j : Int)) % 4294967296 = CC) := ⟨hCC⟩
      rw [hCC] at hbl ⊢
      rw [hA] at hlt hO ⊢
      clear hA hCC
      have hai : (A : Int) < (len : Int) := by omega
      have hs1 : IntKind.i64.wrap ((len : Int) - (A : Int)) = (len : Int) - (A : Int) := by rw [IntKind.wrap_i64]; omega
      go_upto_region 6 with (first
        | (refine wpList_ld rfl 23 _ rfl _ rfl hK Tryz.underlying23 sizeKey hk ?_)
        | (refine wpList_ld rfl 101 _ rfl _ rfl hN Tryz.underlying101 sizeNonce hn ?_)
        | (go_at_call 152; refine (hbl _).mono ?_; rintro e w1 ⟨rfl, hb1⟩; have hF0 := Holds.new w1 .u8 185 (List.replicate 64 0))
        | (refine wpList_st rfl 185 _ _ rfl _ rfl rfl hF0 (by rw [hbll]; exact size64) (by simp [hbll]) ?_))
      have hsz1 := hb1.size
      have hlb : b < w.heap.size := block_lt_of_cell (hcell 0 (by omega))
      refine forget (p := fun y => Code.wp _ _ _ _ y) (fun W2 => Below w.heap.size w W2 ∧ w1.heap.size + 1 ≤ W2.heap.size ∧ Holds W2 w.heap.size .u8 23 k ∧ Holds W2 (w.heap.size + 1) .u8 101 n ∧ Holds W2 (w.heap.size + 1 + 1) .u8 5 (xorK k n c z A) ∧ Holds W2 w1.heap.size .u8 185 BL) ⟨?_, by simp, ?_, ?_, ?_, hF0.setRow _⟩ ?_
      · exact below_setRow ((hB.trans (hb1.mono hB.size)).alloc (by have := hB.size; omega) _) (by have := hB.size; omega) _
      · exact ((hK.below hb1 (by omega)).alloc _).setRowOther _ (by omega)
      · exact ((hN.below hb1 (by omega)).alloc _).setRowOther _ (by omega)
      · exact ((hO.below hb1 (by omega)).alloc _).setRowOther _ (by omega)
      clear hF0 hB hK hN hO hbl
      rintro W2 ⟨hB2, hs2, hK2, hN2, hO2, hF2⟩
      simp only [Act.put]
      go_cut [30, 31] (fun v u wx => ∃ M : Nat, v = .int .i64 M ∧ u = .int .i64 0 ∧ wx = W2 ∧ M ≤ 64 ∧ A + M ≤ len ∧ (M = 64 ∨ A + M = len))
      case first =>
        go_wp2_with fail
        all_goals go_meet
        · exact ⟨len - A, by congr 1; omega, rfl, rfl, by omega, by omega, by omega⟩
        · exact ⟨64, rfl, rfl, rfl, by omega, by omega, by omega⟩
      case rest =>
        obtain ⟨M, rfl, rfl, rfl, hM1, hM2, hM3⟩ := hcut
        have HM3 : Veil (M = 64 ∨ A + M = len) := ⟨hM3⟩
        clear hM3
        go_wp2_with fail
        go_loopw [31] (fun i wr => ∃ r : Nat, r ≤ M ∧ i = .int .i64 r ∧ Below w.heap.size w wr ∧ w1.heap.size + 1 ≤ wr.heap.size ∧ Holds wr w.heap.size .u8 23 k ∧ Holds wr (w.heap.size + 1) .u8 101 n ∧ Holds wr (w.heap.size + 1 + 1) .u8 5 (xorK k n c z (A + r)) ∧ Holds wr w1.heap.size .u8 185 BL)
          (fun i _ => M - (intOf i).toNat)
        case atStart => exact ⟨0, by omega, rfl, hB2, hs2, hK2, hN2, hO2, hF2⟩
        case round =>
          clear hB2 hs2 hK2 hN2 hO2 hF2
          obtain ⟨r, hr, rfl, hB, hs, hK, hN, hO, hF⟩ := hrel
          by_cases hlt3 : r < M
          · have cb : wr.cell? ⟨b, off + (A + r), none⟩ = some (.int .u8 (z[A + r]?.getD 0)) := (hB.cell (p := ⟨b, off + (A + r), none⟩) hlb).trans (hcell (A + r) (by omega))
            have cF := hF.cell r (by omega)
            have cO := hO.cell (A + r) (by rw [xorK_length, ← HZ.out]; omega)
            have fO := hO.frozen (A + r)
            have HX : Veil ((xorK k n c z (A + r)).set (A + r) (bits .xor .u8 (z[A + r]?.getD 0) (BL[r]?.getD 0)) = xorK k n c z (A + r + 1)) := ⟨by
              have := xorK_set k n c z (A + r)
              have e : strm k n c (A + r) = BL[r]?.getD 0 := by
                have hA := HA.out
                unfold strm
                rw [show (A + r) / 64 = j by omega, show (A + r) % 64 = r by omega, HBL.out]
              rw [e] at this
              exact this⟩
            obtain ⟨ZV, hZV⟩ : ∃ v, z[A + r]?.getD 0 = v := ⟨_, rfl⟩
            obtain ⟨BV, hBV⟩ : ∃ v, BL[r]?.getD 0 = v := ⟨_, rfl⟩
            obtain ⟨P, hP⟩ : ∃ P, A + r = P := ⟨_, rfl⟩
            rw [hZV, hBV] at HX
            rw [hZV] at cb
            rw [hBV] at cF
            rw [hP] at HX cb cO fO hO
            have HP : Veil (A + r = P) := ⟨hP⟩
            have p1 : IntKind.i64.wrap ((A : Int) + (r : Int)) = (P : Int) := by rw [IntKind.wrap_i64]; omega
            have p2 : (P : Int) < (len : Int) := by omega
            have p6 : IntKind.i64.wrap (P : Int) = (P : Int) := by rw [IntKind.wrap_i64]; omega
            have p3 : (r : Int) < 64 := by omega
            have p4 : (r : Int) < (M : Int) := by omega
            have nb1 : ¬ (w.heap.size + 1 + 1 = b) := by omega
            have nb2 : ¬ (w.heap.size + 1 + 1 = w1.heap.size) := by omega
            have p5 : (A : Int) + (r : Int) = (P : Int) := by omega
            clear hZV hBV hP
            go_upto_region 9 with fail
            go_region_held3 (fun w' => w'.cell? ⟨b, off + P, none⟩ = some (.int .u8 ZV) ∧ w'.cell? ⟨w1.heap.size, r, none⟩ = some (.int .u8 BV)) (go_keep) (fail)
            go_wp2
            go_roundw
            case rel =>
              have hP := HP.out
              refine ⟨r + 1, by omega, by go_num, (hB.setCell (by simp; omega) _).drew, by simpa using hs, (hK.setOther _ _ (by simp; omega)).drew, (hN.setOther _ _ (by simp)).drew, ?_, (hF.setOther _ _ (by simp; omega)).drew⟩
              rw [← Nat.add_assoc, hP, ← HX.out]
              exact (hO.set P _).drew
            case measure => simp [intOf]; omega
          · obtain rfl : r = M := by omega
            have hM3 := HM3.out
            have hnext : Holds wr (w.heap.size + 1 + 1) .u8 5 (xorK k n c z (64 * (j + 1))) := by
              have hA := HA.out
              have hZ := HZ.out
              rcases hM3 with h | h
              · subst h
                rw [show 64 * (j + 1) = A + 64 by omega]; exact hO
              · rw [xorK_end k n c z (64 * (j + 1)) (by omega), ← xorK_end k n c z (A + r) (by omega)]; exact hO
            clear hM3 hO
            have hj64 : IntKind.i64.wrap ((A : Int) + 64) = (A : Int) + 64 := by rw [IntKind.wrap_i64]; omega
            go_wp2
            go_roundw
            case rel =>
              have hA := HA.out
              have hC := HC.out
              exact ⟨j + 1, by omega, by congr 1; omega, by congr 1; omega, hB, by omega, hK, hN, hnext⟩
            case measure => simp [intOf]; omega
    · rw [xorK_end k n c z (64 * j) (by rw [← HZ.out]; omega)] at hO
      have nle : ¬ (((64 * j : Nat) : Int) < (len : Int)) := by omega
      go_wp2
      go_ret
      exact ⟨_, rfl, by omega, hO, hB⟩
end Go.Proofs.YtfainlfiphdaeaaGreatDoor

namespace Go.Proofs.YtfainlfiphdaeaaGreatDoor
open Go.RowKit

theorem bits_xor_nat8 (a b : Nat) (ha : a < 256) (hb : b < 256) : bits .xor .u8 (a : Int) (b : Int) = ((a ^^^ b : Nat) : Int) := by
  show IntKind.u8.wrap ((BitVec.ofInt 8 (a : Int) ^^^ BitVec.ofInt 8 (b : Int)).toNat : Int) = _
  rw [BitVec.toNat_xor, BitVec.toNat_ofInt, BitVec.toNat_ofInt]
  have e1 : ((a : Int) % (2 ^ 8 : Nat)).toNat = a := by simp; omega
  have e2 : ((b : Int) % (2 ^ 8 : Nat)).toNat = b := by simp; omega
  have hx : a ^^^ b < 2 ^ 8 := Nat.xor_lt_two_pow ha hb
  rw [e1, e2]
  simp [IntKind.wrap, IntKind.bits, IntKind.signed]
  omega
def U8 (x : Int) : Prop := 0 ≤ x ∧ x ≤ 255
theorem U8.nat {x : Int} (h : U8 x) : ∃ n : Nat, n < 256 ∧ x = n := ⟨x.toNat, by have := h.1; have := h.2; omega, by have := h.1; omega⟩
theorem xor_u8 {x y : Int} (hx : U8 x) (hy : U8 y) : U8 (bits .xor .u8 x y) := by
  obtain ⟨a, ha, rfl⟩ := hx.nat
  obtain ⟨b, hb, rfl⟩ := hy.nat
  rw [bits_xor_nat8 a b ha hb]
  have hx : a ^^^ b < 2 ^ 8 := Nat.xor_lt_two_pow ha hb
  exact ⟨by omega, by omega⟩
theorem xor_back8 {x y : Int} (hx : U8 x) (hy : U8 y) : bits .xor .u8 (bits .xor .u8 x y) y = x := by
  obtain ⟨a, ha, rfl⟩ := hx.nat
  obtain ⟨b, hb, rfl⟩ := hy.nat
  have hlt : a ^^^ b < 2 ^ 8 := Nat.xor_lt_two_pow ha hb
  rw [bits_xor_nat8 a b ha hb, bits_xor_nat8 _ b hlt hb, Nat.xor_assoc, Nat.xor_self, Nat.xor_zero]
theorem xor_zero8 {y : Int} (hy : U8 y) : bits .xor .u8 0 y = y := by
  obtain ⟨b, hb, rfl⟩ := hy.nat
  have := bits_xor_nat8 0 b (by omega) hb
  rw [Nat.zero_xor] at this
  exact this
theorem joinK_u8 (s : List Int) (k : Nat) : ∀ v ∈ joinK s k, U8 v := by
  induction k with
  | zero => intro v hv; cases hv
  | succ k ih =>
    intro v hv
    simp only [joinK, List.mem_append] at hv
    rcases hv with hv | hv
    · exact ih v hv
    · simp only [bytesL, List.mem_cons, List.not_mem_nil, or_false] at hv
      rcases hv with rfl | rfl | rfl | rfl <;> exact ⟨by omega, by omega⟩
theorem getD_u8 {l : List Int} (h : ∀ v ∈ l, U8 v) (i : Nat) : U8 (l[i]?.getD 0) := by
  by_cases hi : i < l.length
  · rw [List.getElem?_eq_getElem hi]; exact h _ (List.getElem_mem hi)
  · rw [List.getElem?_eq_none (by omega)]; exact ⟨by decide, by decide⟩
theorem strm_u8 (k n : List Int) (c : Int) (i : Nat) : U8 (strm k n c i) := getD_u8 (joinK_u8 _ 16) _
theorem xorL_get (k n : List Int) (c : Int) (z : List Int) (i : Nat) (h : i < z.length) : (xorL k n c z)[i]?.getD 0 = bits .xor .u8 (z[i]?.getD 0) (strm k n c i) := by
  simp [xorL, xorK, h]
theorem getD_ext {l m : List Int} (h : l.length = m.length) (hg : ∀ i, i < l.length → l[i]?.getD 0 = m[i]?.getD 0) : l = m := by
  apply List.ext_getElem h
  intro i h1 h2
  have := hg i h1
  simpa [h1, h2] using this
theorem xor_twice (k n : List Int) (c : Int) (z : List Int) (hz : ∀ v ∈ z, U8 v) : xorL k n c (xorL k n c z) = z := by
  refine getD_ext (by rw [xorL_length, xorL_length]) fun i hi => ?_
  rw [xorL_length, xorL_length] at hi
  rw [xorL_get _ _ _ _ _ (by rw [xorL_length]; exact hi), xorL_get _ _ _ _ _ hi, xor_back8 (getD_u8 hz i) (strm_u8 _ _ _ _)]
end Go.Proofs.YtfainlfiphdaeaaGreatDoor

namespace Go.Proofs.YtfainlfiphdaeaaGreatDoor
open Go.RowKit
set_option maxRecDepth 20000

def fillN (n : Nat) : Nat := (16 - n % 16) % 16
def zerosL (n : Nat) : List Int := List.replicate n 0
def le8 (n : Nat) : List Int := leB 8 (n : Int)
theorem leB_length : ∀ (j : Nat) (n : Int), (leB j n).length = j
  | 0, _ => rfl
  | j + 1, n => by rw [leB, List.length_cons, leB_length j]
theorem leB_in : ∀ (j : Nat) (n : Int), ∀ v ∈ leB j n, isB v
  | 0, _, v, h => by simp [leB] at h
  | j + 1, n, v, h => by
    rcases List.mem_cons.1 h with rfl | h
    · unfold isB; omega
    · exact leB_in j _ v h
theorem le8_length (n : Nat) : (le8 n).length = 8 := leB_length 8 _
theorem le8_inj {m n : Nat} (hm : m ≤ 100000) (hn : n ≤ 100000) (h : le8 m = le8 n) : m = n := by
  unfold le8 at h
  simp only [leB, List.cons.injEq, and_true] at h
  omega
/-- The bytes that a tag is of. -/
def framedL (o s : List Int) : List Int := o ++ zerosL (fillN o.length) ++ s ++ zerosL (fillN s.length) ++ le8 o.length ++ le8 s.length
theorem zerosL_length (n : Nat) : (zerosL n).length = n := by simp [zerosL]
theorem zerosL_in (n : Nat) : ∀ v ∈ zerosL n, isB v := fun v hv => by
  rw [(List.mem_replicate.1 hv).2]; unfold isB; omega
theorem framedL_length (o s : List Int) : (framedL o s).length = o.length + fillN o.length + s.length + fillN s.length + 16 := by
  unfold framedL
  simp only [List.length_append, zerosL_length, le8_length]
theorem framedL_mod (o s : List Int) : (framedL o s).length % 16 = 0 := by
  rw [framedL_length]; unfold fillN; omega
theorem framedL_in (o s : List Int) (ho : ∀ v ∈ o, isB v) (hs : ∀ v ∈ s, isB v) : ∀ v ∈ framedL o s, isB v := by
  intro v hv
  unfold framedL at hv
  simp only [List.mem_append] at hv
  rcases hv with ((((h | h) | h) | h) | h) | h
  · exact ho v h
  · exact zerosL_in _ v h
  · exact hs v h
  · exact zerosL_in _ v h
  · exact leB_in _ _ v h
  · exact leB_in _ _ v h
theorem framed_inj (o s o' s' : List Int) (h1 : o.length ≤ 100000) (h2 : s.length ≤ 100000) (h3 : o'.length ≤ 100000) (h4 : s'.length ≤ 100000) (h : framedL o s = framedL o' s') : o = o' ∧ s = s' := by
  unfold framedL at h
  obtain ⟨ha, hb⟩ := List.append_inj' h (by rw [le8_length, le8_length])
  obtain ⟨hc, hd⟩ := List.append_inj' ha (by rw [le8_length, le8_length])
  have e1 := le8_inj h1 h3 hd
  have e2 := le8_inj h2 h4 hb
  rw [e1, e2] at hc
  obtain ⟨he, -⟩ := List.append_inj' hc rfl
  obtain ⟨hf, hg⟩ := List.append_inj' he e2
  obtain ⟨hh, -⟩ := List.append_inj' hf rfl
  exact ⟨hh, hg⟩
/-- The key of the tag, the tag, what is sealed. -/
def onceL (k n : List Int) : List Int := (blockL k n 0).take 32
def tagL (k n o h : List Int) : List Int := polyL (onceL k n) (framedL o h)
def sealL (k n o b : List Int) : List Int := xorL k n 1 b ++ tagL k n o (xorL k n 1 b)
theorem onceL_length (k n : List Int) : (onceL k n).length = 32 := by
  unfold onceL; rw [List.length_take, blockL_length]; rfl
end Go.Proofs.YtfainlfiphdaeaaGreatDoor
