/- The reference of wire: 'Bucket', 'Pad'. -/
import Derived.Test.YtfniachmebppcaaDoorWpad
namespace Go.Proofs.YtfniachmebppcaaDoor
open Go.RowKit
set_option maxRecDepth 20000
set_option linter.unusedSimpArgs false

def bV (i : Nat) : Int := (bTab ++ [8192])[i]?.getD 0
theorem bV_next (i : Nat) (hi : i < 6) : bV (i + 1) = bV i * 2 := by
  have hic : i = 0 ∨ i = 1 ∨ i = 2 ∨ i = 3 ∨ i = 4 ∨ i = 5 := by omega
  rcases hic with rfl | rfl | rfl | rfl | rfl | rfl <;> decide
theorem bV_in (i : Nat) (hi : i < 6) : 128 ≤ bV i ∧ bV i ≤ 4096 := by
  have hic : i = 0 ∨ i = 1 ∨ i = 2 ∨ i = 3 ∨ i = 4 ∨ i = 5 := by omega
  rcases hic with rfl | rfl | rfl | rfl | rfl | rfl <;> decide
theorem bV_tab (i : Nat) (hi : i < 6) : bTab[i]?.getD 0 = bV i := by
  have hic : i = 0 ∨ i = 1 ∨ i = 2 ∨ i = 3 ∨ i = 4 ∨ i = 5 := by omega
  rcases hic with rfl | rfl | rfl | rfl | rfl | rfl <;> rfl
set_option maxHeartbeats 2000000 in
theorem refBucket_any (n : Int) (w : World) :
    Calls Tryd.prog 18 #[.int .i64 n] w fun e w' => e = .returned (.int .i64 (bucketN n)) ∧ w = w' := by
  by_cases hn : n < 0
  · have e0 : bucketN n = 0 := by unfold bucketN; rw [if_pos hn]
    rw [e0]
    clear e0
    go_enter Tryd.func18, Tryd.ntmps18
    go_wp2
    go_ret
    exact ⟨rfl, rfl⟩
  · have e0 : bucketN n = bktL n bTab := by unfold bucketN; rw [if_neg hn]
    rw [e0]
    clear e0
    obtain ⟨R, hR⟩ : ∃ q, bktL n bTab = q := ⟨_, rfl⟩
    have HR : Veil (bktL n (bTab.drop 0) = R) := ⟨hR⟩
    rw [hR]
    clear hR
    go_enter Tryd.func18, Tryd.ntmps18
    go_wp2_with fail
    go_loopw [3] (fun q wr => ∃ j : Nat, j ≤ 6 ∧ q = .int .i64 (bV j) ∧ Veil (bktL n (bTab.drop j) = R) ∧ wr = w) (fun q _ => (8192 - intOf q).toNat)
    case atStart => exact ⟨0, by omega, rfl, HR, rfl⟩
    case round =>
      clear HR
      obtain ⟨j, hj, rfl, HJ, rfl⟩ := hrel
      by_cases hlt : j < 6
      · have hst := bkt_step n j hlt
        have hin := bV_in j hlt
        have hnx := bV_next j hlt
        rw [bV_tab j hlt] at hst
        obtain ⟨B, hB⟩ : ∃ q, bV j = q := ⟨_, rfl⟩
        rw [hB] at hst hin hnx ⊢
        have hwB : IntKind.i64.wrap (B - 2) = B - 2 := by rw [IntKind.wrap_i64]; omega
        have hwM : IntKind.i64.wrap (B * 2) = B * 2 := by rw [IntKind.wrap_i64]; omega
        have hB4 : B ≤ 4096 := hin.2
        have HN : Veil (bV (j + 1) = B * 2) := ⟨hnx⟩
        clear hnx
        by_cases hnb : n ≤ B - 2
        · rw [if_pos hnb] at hst
          have hBR : B = R := by rw [← hst]; exact HJ.out
          subst hBR
          clear hst hB HJ hin
          go_wp2
          go_ret
          exact ⟨rfl, rfl⟩
        · rw [if_neg hnb] at hst
          have HJ2 : Veil (bktL n (bTab.drop (j + 1)) = R) := ⟨by rw [← hst]; exact HJ.out⟩
          have hB1 : 128 ≤ B := hin.1
          clear hst hB HJ hin
          go_wp2
          go_roundw
          case rel => exact ⟨j + 1, by omega, by rw [HN.out], HJ2, trivial⟩
          case measure => simp [intOf]; omega
      · obtain rfl : j = 6 := by omega
        have hR0 : R = 0 := by rw [← HJ.out]; rfl
        subst hR0
        rw [show bV 6 = 8192 from rfl]
        clear HJ
        go_wp2
        go_ret
        exact ⟨rfl, rfl⟩
set_option maxHeartbeats 4000000 in
theorem refPad_none (x : Option Addr) (len cap : Nat) (z : List Int) (w : World) (hb : Bytes w x len cap z) (h0 : bucketN len = 0) :
    Calls Tryd.prog 14 #[.slice x len cap] w fun e w' => e = .returned (.tuple #[.slice none 0 0, .int .i64 2]) ∧ Below w.heap.size w w' := by
  have hbk := refBucket_any len w
  rw [h0] at hbk
  have hle := hb.le
  have htop := hb.top
  clear hb h0
  go_enter Tryd.func14, Tryd.ntmps14
  go_wp2_with (go_at_call 18; refine hbk.mono ?_; rintro e w1 ⟨rfl, rfl⟩)
  go_ret2
  exact ⟨rfl, Below.refl _ _⟩
set_option maxHeartbeats 4000000 in
theorem refPad_any (x : Option Addr) (len cap : Nat) (z : List Int) (w : World) (hb : Bytes w x len cap z) (s : Nat) (hs : bucketN len = (s : Int)) (hs1 : len + 2 ≤ s) (hs2 : s ≤ 4096) :
    Calls Tryd.prog 14 #[.slice x len cap] w fun e w' => ∃ v, e = .returned (.tuple #[v, .int .i64 0]) ∧ OwnB w' w.heap.size v (padL z s) ∧ Below w.heap.size w w' := by
  have hbk := refBucket_any len w
  rw [hs] at hbk
  have hs0 : ¬ (s : Int) = 0 := by omega
  have hle := hb.le
  have htop := hb.top
  have HBL : Veil (z.length = len) := ⟨hb.len_eq.symm⟩
  have e1 : IntKind.u8.wrap ((len : Int) / 2 ^ 8) = (len : Int) / 256 % 256 := by simp [IntKind.wrap, IntKind.bits, IntKind.signed]
  have e2 : IntKind.u8.wrap (len : Int) = (len : Int) % 256 := by simp [IntKind.wrap, IntKind.bits, IntKind.signed]
  have e3 : IntKind.u8.wrap ((len : Int) / 256) = (len : Int) / 256 % 256 := by simp [IntKind.wrap, IntKind.bits, IntKind.signed]
  have hO1 : OwnB (w.alloc (.cells (row .u8 (be2 len)) 5)) w.heap.size (.slice (some ⟨w.heap.size, 0, none⟩) 2 2) (be2 len) := OwnB.ofHolds (Holds.new w .u8 5 (be2 len)) (Nat.le_refl _) (by simp [be2])
  have hB1 : Below w.heap.size w (w.alloc (.cells (row .u8 (be2 len)) 5)) := (Below.refl _ _).alloc (Nat.le_refl _) _
  have hy1 := hb.below hB1
  have HF : Veil (s = (len + 2) + (s - (len + 2))) := ⟨by omega⟩
  clear hb hs
  go_enter Tryd.func14, Tryd.ntmps14
  go_upto_region 5 with (go_at_call 18; refine hbk.mono ?_; rintro e w1 ⟨rfl, rfl⟩)
  go_upto_region 6 with (at_builtin; refine wpList_app rfl _ _ rfl w.heap.size _ (be2 len) rfl hO1 x len cap z rfl hy1 (by simp [be2]; omega) hB1.size ?_; intro v2 w2 ho2 hg2)
  have hB2 : Below w.heap.size w w2 := below_grown hB1 hO1 hg2 hB1.size
  have hl2 : (be2 len ++ z).length = len + 2 := by rw [List.length_append, HBL.out]; simp [be2]; omega
  have HL2 : Veil ((be2 len ++ z).length = len + 2) := ⟨hl2⟩
  obtain ⟨A, hA⟩ : ∃ q, be2 len ++ z = q := ⟨_, rfl⟩
  have HA : Veil (be2 len ++ z = A) := ⟨hA⟩
  rw [hA] at ho2 HL2
  clear hO1 hB1 hy1 hg2 hbk e1 e2 e3 hl2 hA
  go_wp2_with fail
  go_loopw [5] (fun v wr => ∃ j : Nat, j ≤ s - (len + 2) ∧ OwnB wr w.heap.size v (A ++ List.replicate j 0) ∧ Below w.heap.size w wr) (fun v _ => s - lenOf v)
  case atStart => exact ⟨0, by omega, by simpa using ho2, hB2⟩
  case round =>
    clear ho2 hB2
    obtain ⟨j, hj, ho, hB⟩ := hrel
    obtain ⟨x3, n3, c3, hv3, hn3⟩ := ho.isSlice
    subst hv3
    have hn3' : n3 = len + 2 + j := by rw [hn3, List.length_append, HL2.out]; simp
    have hle3 := ho.bytes.2.le
    have htp3 := ho.bytes.2.top
    by_cases hlt : j < s - (len + 2)
    · have hns : (n3 : Int) < (s : Int) := by omega
      have HN3 : Veil (n3 = len + 2 + j) := ⟨hn3'⟩
      have hO4 : OwnB (wr.alloc (.cells (row .u8 [0]) 5)) w.heap.size (.slice x3 n3 c3) (A ++ List.replicate j 0) := ho.alloc _
      have hB4 := hB.alloc hB.size (.cells (row .u8 [0]) 5)
      have hy4 := new_bytes wr [0] (by simp)
      have hln : (A ++ List.replicate j 0).length ≤ 3000000 := by rw [← hn3]; omega
      clear hn3 hn3' ho
      go_wp2_with (at_builtin; refine wpList_app rfl _ _ rfl w.heap.size _ (A ++ List.replicate j 0) rfl hO4 (some ⟨wr.heap.size, 0, none⟩) 1 1 [0] rfl hy4 (by omega) hB4.size ?_; intro v5 w5 ho5 hg5)
      have hB5 : Below w.heap.size w w5 := below_grown hB4 hO4 hg5 hB4.size
      rw [List.append_assoc] at ho5
      have hrep : List.replicate j (0 : Int) ++ [0] = List.replicate (j + 1) 0 := by rw [← List.replicate_succ']
      rw [hrep] at ho5
      obtain ⟨x5, n5, c5, hv5, hn5⟩ := ho5.isSlice
      have hn5' : n5 = len + 2 + (j + 1) := by rw [hn5, List.length_append, HL2.out]; simp
      subst hv5
      clear hn5
      go_roundw
      case rel => exact ⟨j + 1, by omega, ho5, hB5⟩
      case measure =>
        have := HN3.out
        simp [lenOf]; omega
    · have hns : ¬ (n3 : Int) < (s : Int) := by omega
      obtain rfl : j = s - (len + 2) := by omega
      clear hn3 hn3'
      go_wp2
      go_ret2
      refine ⟨_, rfl, ?_, hB⟩
      rw [← HA.out] at ho
      unfold padL
      rw [HBL.out]
      exact ho
theorem refPad_both (x : Option Addr) (len cap : Nat) (z : List Int) (w : World) (hb : Bytes w x len cap z) (s : Nat) (hs : bucketN len = (s : Int)) (h : s = 0 ∨ (len + 2 ≤ s ∧ s ≤ 4096)) :
    Calls Tryd.prog 14 #[.slice x len cap] w fun e w' => ∃ x' n' c', e = .returned (.tuple #[.slice x' n' c', .int .i64 (if s = 0 then 2 else 0)]) ∧ Bytes w' x' n' c' (if s = 0 then [] else padL z s) ∧ Below w.heap.size w w' := by
  rcases h with rfl | ⟨h1, h2⟩
  · simp only [if_true]
    exact (refPad_none x len cap z w hb hs).mono fun e w' ⟨h1, h2⟩ => ⟨none, 0, 0, h1, bytes_nil _, h2⟩
  · rw [if_neg (by omega), if_neg (by omega)]
    exact (refPad_any x len cap z w hb s hs h1 h2).mono fun e w' ⟨v, h1, h2, h3⟩ => by
      obtain ⟨x, n, c, rfl, _⟩ := h2.isSlice
      exact ⟨x, n, c, h1, h2.bytes.2, h3⟩
end Go.Proofs.YtfniachmebppcaaDoor
