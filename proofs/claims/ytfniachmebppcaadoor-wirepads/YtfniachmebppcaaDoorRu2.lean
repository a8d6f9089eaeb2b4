/- The reference of wire: 'Unpad'. -/
import Derived.Test.YtfniachmebppcaaDoorRu1
import Derived.Test.YtfniachmebppcaaDoorRd6
namespace Go.Proofs.YtfniachmebppcaaDoor
open Go.RowKit
set_option maxRecDepth 20000
set_option linter.unusedSimpArgs false

theorem run_cut_2 (w : World) (x : Option Addr) (len cap h : Nat) (h2 : 2 ≤ h) (hh : h ≤ cap) : (Instr.slice 28 (.slice x len cap) (some (.int .i64 2)) (some (.int .i64 (h : Int))) none).run Tryd.prog w = .ok (.slice (subA x cap 2) (h - 2) (cap - 2)) w := by
  rw [run_slice_lh w 28 x len cap elemB .i64 .i64 2 (h : Int) (by omega) (by omega) (by omega), sizeU8]
  simp [sliced, subA, Result.andThen]
theorem unpadOk_ge {z : List Int} (h : unpadOk z) : 128 ≤ z.length ∧ toldN z + 2 ≤ z.length := by
  obtain ⟨h1, h2, _⟩ := h
  obtain ⟨s, hs, hs'⟩ := bucketN_in (toldN z)
  omega
theorem unp_bad {z : List Int} (h : ¬ unpadOk z) : unpB z = [] ∧ unpE z = 3 := by
  unfold unpB unpE
  rw [if_neg h, if_neg h]; exact ⟨rfl, rfl⟩
theorem unp_good {z : List Int} (h : unpadOk z) : unpB z = (z.drop 2).take (toldN z) ∧ unpE z = 0 := by
  unfold unpB unpE
  rw [if_pos h, if_pos h]; exact ⟨rfl, rfl⟩
theorem drop_get (z : List Int) (m j : Nat) : (z.drop m)[j]?.getD 0 = z[m + j]?.getD 0 := by rw [List.getElem?_drop]

set_option maxHeartbeats 4000000 in
theorem refUnpad_few (x : Option Addr) (n c : Nat) (z : List Int) (w : World) (hb : Bytes w x n c z) (hl : n < 128) :
    Calls Tryd.prog 16 #[.slice x n c] w fun e w' => ∃ x' n' c', e = .returned (.tuple #[.slice x' n' c', .int .i64 (unpE z)]) ∧ Bytes w' x' n' c' (unpB z) ∧ Below w.heap.size w w' := by
  have hn := hb.len_eq
  obtain ⟨e1, e2⟩ := unp_bad (z := z) (fun h => by have := (unpadOk_ge h).1; omega)
  rw [e1, e2]
  have hle := hb.le
  have htp := hb.top
  have hli : (n : Int) < 128 := by omega
  clear hb hn e1 e2
  go_enter Tryd.func16, Tryd.ntmps16
  go_wp2
  go_ret2
  exact ⟨none, 0, 0, rfl, bytes_nil _, Below.refl _ _⟩

set_option maxHeartbeats 4000000 in
theorem refUnpad_any (x : Option Addr) (n c : Nat) (z : List Int) (w : World) (hb : Bytes w x n c z) (hz : ∀ v ∈ z, b8 v) (hl : 128 ≤ n) (hl2 : n ≤ 1000000) :
    Calls Tryd.prog 16 #[.slice x n c] w fun e w' => ∃ x' n' c', e = .returned (.tuple #[.slice x' n' c', .int .i64 (unpE z)]) ∧ Bytes w' x' n' c' (unpB z) ∧ Below w.heap.size w w' := by
  obtain ⟨hv, hlt⟩ := told_val z hz
  obtain ⟨s, hs, hs'⟩ := bucketN_in (toldN z)
  have hn := hb.len_eq
  have ha := b8_get hz 0
  have hbb := b8_get hz 1
  have HV := val2_or _ _ ha hbb
  rw [hv] at HV
  have HOK : Veil (unpadOk z ↔ (s = n ∧ ∀ j, j < n - (2 + toldN z) → z[2 + toldN z + j]?.getD 0 = 0)) := ⟨by
    unfold unpadOk; rw [hs, ← hn]; constructor
    · rintro ⟨_, h2, h3⟩; exact ⟨by omega, fun j hj => by rw [← drop_get]; exact h3 j hj⟩
    · rintro ⟨h2, h3⟩; exact ⟨by omega, by omega, fun j hj => by rw [drop_get]; exact h3 j hj⟩⟩
  have HGOOD : Veil (unpadOk z → unpB z = (z.drop 2).take (toldN z) ∧ unpE z = 0) := ⟨unp_good⟩
  have HBAD : Veil (¬ unpadOk z → unpB z = [] ∧ unpE z = 3) := ⟨unp_bad⟩
  obtain ⟨UB, hUB⟩ : ∃ q, unpB z = q := ⟨_, rfl⟩
  obtain ⟨UE, hUE⟩ : ∃ q, unpE z = q := ⟨_, rfl⟩
  obtain ⟨OK, hOK⟩ : ∃ q, unpadOk z = q := ⟨_, rfl⟩
  rw [hUB, hUE, hOK] at HGOOD HBAD
  rw [hOK] at HOK
  rw [hUB, hUE]
  obtain ⟨L, hL⟩ : ∃ q, toldN z = q := ⟨_, rfl⟩
  rw [hL] at hs hs' HOK HGOOD hlt HV
  have hbk := fun wx => refBucket_any (L : Int) wx
  rw [hs] at hbk
  obtain ⟨b, off, rfl, hc⟩ : ∃ b off, x = some ⟨b, off, none⟩ ∧ ∀ j, j < n → w.cell? ⟨b, off + j, none⟩ = some (.int .u8 (z[j]?.getD 0)) := by
    rcases hb.at_ with h0 | h
    · omega
    · exact h
  have HC : Veil (∀ j, j < n → w.cell? ⟨b, off + j, none⟩ = some (.int .u8 (z[j]?.getD 0))) := ⟨hc⟩
  have c0 : w.cell? ⟨b, off, none⟩ = some (.int .u8 (z[0]?.getD 0)) := hc 0 (by omega)
  have c1 := hc 1 (by omega)
  obtain ⟨A, hA⟩ : ∃ q, z[0]?.getD 0 = q := ⟨_, rfl⟩
  obtain ⟨B, hB⟩ : ∃ q, z[1]?.getD 0 = q := ⟨_, rfl⟩
  rw [hA] at ha c0 HV
  rw [hB] at hbb c1 HV
  have f1 : IntKind.i64.wrap A = A := by rw [IntKind.wrap_i64]; omega
  have f2 : IntKind.i64.wrap B = B := by rw [IntKind.wrap_i64]; omega
  have f3 : IntKind.i64.wrap (A * 256) = A * 256 := by rw [IntKind.wrap_i64]; omega
  have hle := hb.le
  have htp := hb.top
  have hli : ¬ (n : Int) < 128 := by omega
  have hn0 : 0 < n := by omega
  have hn1 : (1 : Int) < (n : Int) := by omega
  have HBY : Veil (Bytes w (some ⟨b, off, none⟩) n c z) := ⟨hb⟩
  have HV' : Veil (bits .or .i64 (A * 256) B = (L : Int)) := ⟨HV⟩
  clear hb hz hn hv hs hUB hUE hOK hL hc hA hB HV
  go_enter Tryd.func16, Tryd.ntmps16
  go_upto_region 3 with fail
  refine wp_region_gate (fun w' => w'.cell? ⟨b, off, none⟩ = some (.int .u8 A) ∧ w'.cell? ⟨b, off + 1, none⟩ = some (.int .u8 B)) 10 (by kernel_rfl) ?_
  have hS : w.drew.cell? ⟨b, off, none⟩ = some (.int .u8 A) ∧ w.drew.cell? ⟨b, off + 1, none⟩ = some (.int .u8 B) := ⟨c0, c1⟩
  obtain ⟨W, hW⟩ : ∃ q, w.drew = q := ⟨_, rfl⟩
  have hWB : Below w.heap.size w W := by rw [← hW]; exact (Below.refl _ _).drew
  have HWC : Veil (∀ j, j < n → W.cell? ⟨b, off + j, none⟩ = some (.int .u8 (z[j]?.getD 0))) := ⟨fun j hj => by rw [← hW]; exact HC.out j hj⟩
  rw [hW] at hS ⊢
  clear hW c0 c1 HC
  refine wpAnyG_any (i := 0) (v := ?_) rfl (by kernel_rfl) (by kernel_rfl) (by kernel_rfl) (fun _ _ _ h => h) (by kernel_rfl) (fun _ => hS) (by kernel_rfl) ?_ ?_
  rotate_left
  · intro _; go_simp; try with_reducible rfl
  simp only [Act.put, List.setIfInBounds_toArray, List.set_cons_zero, List.set_cons_succ]
  refine wpAnyG_any (i := 1) (v := ?_) rfl (by kernel_rfl) (by kernel_rfl) (by kernel_rfl) (fun _ _ _ h => h) (by kernel_rfl) (fun _ => hS) (by kernel_rfl) ?_ ?_
  rotate_left
  · intro _; go_simp; try with_reducible rfl
  simp only [Act.put, List.setIfInBounds_toArray, List.set_cons_zero, List.set_cons_succ]
  refine wpAnyG_read (i := 2) (v := ?_) rfl (by kernel_rfl) (by kernel_rfl) (by kernel_rfl) (fun _ _ _ h => h) (by kernel_rfl) (by kernel_rfl) (by kernel_rfl) hS (by kernel_rfl) ?_ ?_
  rotate_left
  · intro wx hSw; go_split_ands; go_simp; try with_reducible rfl
  simp only [Act.put, List.setIfInBounds_toArray, List.set_cons_zero, List.set_cons_succ]
  refine wpAnyG_any (i := 3) (v := ?_) rfl (by kernel_rfl) (by kernel_rfl) (by kernel_rfl) (fun _ _ _ h => h) (by kernel_rfl) (fun _ => hS) (by kernel_rfl) ?_ ?_
  rotate_left
  · intro _; go_simp; try with_reducible rfl
  simp only [Act.put, List.setIfInBounds_toArray, List.set_cons_zero, List.set_cons_succ]
  refine wpAnyG_any (i := 4) (v := ?_) rfl (by kernel_rfl) (by kernel_rfl) (by kernel_rfl) (fun _ _ _ h => h) (by kernel_rfl) (fun _ => hS) (by kernel_rfl) ?_ ?_
  rotate_left
  · intro _; go_simp; try with_reducible rfl
  simp only [Act.put, List.setIfInBounds_toArray, List.set_cons_zero, List.set_cons_succ]
  refine wpAnyG_any (i := 5) (v := ?_) rfl (by kernel_rfl) (by kernel_rfl) (by kernel_rfl) (fun _ _ _ h => h) (by kernel_rfl) (fun _ => hS) (by kernel_rfl) ?_ ?_
  rotate_left
  · intro _; go_simp; try with_reducible rfl
  simp only [Act.put, List.setIfInBounds_toArray, List.set_cons_zero, List.set_cons_succ]
  refine wpAnyG_any (i := 6) (v := ?_) rfl (by kernel_rfl) (by kernel_rfl) (by kernel_rfl) (fun _ _ _ h => h) (by kernel_rfl) (fun _ => hS) (by kernel_rfl) ?_ ?_
  rotate_left
  · intro _; go_simp; try with_reducible rfl
  simp only [Act.put, List.setIfInBounds_toArray, List.set_cons_zero, List.set_cons_succ]
  refine wpAnyG_read (i := 7) (v := ?_) rfl (by kernel_rfl) (by kernel_rfl) (by kernel_rfl) (fun _ _ _ h => h) (by kernel_rfl) (by kernel_rfl) (by kernel_rfl) hS (by kernel_rfl) ?_ ?_
  rotate_left
  · intro wx hSw; go_split_ands; go_simp; try with_reducible rfl
  simp only [Act.put, List.setIfInBounds_toArray, List.set_cons_zero, List.set_cons_succ]
  refine wpAnyG_any (i := 8) (v := ?_) rfl (by kernel_rfl) (by kernel_rfl) (by kernel_rfl) (fun _ _ _ h => h) (by kernel_rfl) (fun _ => hS) (by kernel_rfl) ?_ ?_
  rotate_left
  · intro _; go_simp; try with_reducible rfl
  simp only [Act.put, List.setIfInBounds_toArray, List.set_cons_zero, List.set_cons_succ]
  refine wpAnyG_any (i := 9) (v := ?_) rfl (by kernel_rfl) (by kernel_rfl) (by kernel_rfl) (fun _ _ _ h => h) (by kernel_rfl) (fun _ => hS) (by kernel_rfl) ?_ ?_
  rotate_left
  · intro _; go_simp; try with_reducible rfl
  simp only [Act.put, List.setIfInBounds_toArray, List.set_cons_zero, List.set_cons_succ]
  refine wpAnyG_one (i := 10) rfl (by kernel_rfl) (by kernel_rfl) (fun K hK => ?_)
  go_simp
  refine hK.out _ _ (fun h => absurd (show true = false from h) (by decide)) ?_
  clear hK K
  refine wpAnyG_done (by kernel_rfl) ?_ _
  rw [HV'.out]
  clear hS f1 f2 f3 ha hbb HV'
  have hw2 : IntKind.i64.wrap ((n : Int) - 2) = (n : Int) - 2 := by rw [IntKind.wrap_i64]; omega
  by_cases hb1 : L + 2 ≤ n
  · have g1 : ¬ (L : Int) > (n : Int) - 2 := by omega
    by_cases hsn : s = n
    · subst hsn
      have hw3 : IntKind.i64.wrap ((L : Int) + 2) = ((2 + L : Nat) : Int) := by rw [IntKind.wrap_i64]; omega
      go_upto_region 6 with (go_at_call 18; refine (hbk _).mono ?_; rintro e w1 ⟨rfl, rfl⟩)
      clear hw2 hbk g1
      go_wp2_with fail
      go_loopw [5] (fun q wr => ∃ k : Nat, k ≤ s - (2 + L) ∧ q = .int .i64 ((2 + L + k : Nat) : Int) ∧ Veil (∀ j, j < k → z[2 + L + j]?.getD 0 = 0) ∧ wr = W) (fun q _ => s - (intOf q).toNat)
      case atStart => exact ⟨0, by omega, rfl, ⟨fun j hj => by omega⟩, rfl⟩
      case round =>
        obtain ⟨k, hk, rfl, HK, rfl⟩ := hrel
        by_cases hlt : k < s - (2 + L)
        · have ci := HWC.out (2 + L + k) (by omega)
          have hi0 : (0 : Int) ≤ ((2 + L + k : Nat) : Int) := by omega
          have hin : ((2 + L + k : Nat) : Int) < (s : Int) := by omega
          have hwn : IntKind.i64.wrap (((2 + L + k : Nat) : Int) + 1) = ((2 + L + (k + 1) : Nat) : Int) := by rw [IntKind.wrap_i64]; omega
          by_cases h0 : z[2 + L + k]?.getD 0 = 0
          · rw [h0] at ci
            have HK2 : Veil (∀ j, j < k + 1 → z[2 + L + j]?.getD 0 = 0) := ⟨fun j hj => by
              by_cases h : j = k
              · rw [h]; exact h0
              · exact HK.out j (by omega)⟩
            obtain ⟨i, hi⟩ : ∃ q : Nat, 2 + L + k = q := ⟨_, rfl⟩
            have HI : Veil (2 + L + k = i ∧ i < s) := ⟨hi, by omega⟩
            rw [hi] at ci hi0 hin hwn ⊢
            clear h0 HK hi
            go_wp2
            go_roundw
            case rel => exact ⟨k + 1, by omega, rfl, HK2, trivial⟩
            case measure =>
              have := HI.out
              simp [intOf]; omega
          · have hno : ¬ OK := fun h => h0 ((HOK.out.1 h).2 k (by omega))
            obtain ⟨e1, e2⟩ := HBAD.out hno
            obtain ⟨q, hq⟩ : ∃ q, z[2 + L + k]?.getD 0 = q := ⟨_, rfl⟩
            rw [hq] at h0 ci
            have hqb : (q == 0) = false := by simp [h0]
            obtain ⟨i, hi⟩ : ∃ q : Nat, 2 + L + k = q := ⟨_, rfl⟩
            rw [hi] at ci hi0 hin ⊢
            have HE : Veil (UB = [] ∧ UE = 3) := ⟨e1, e2⟩
            clear e1 e2 hq hi hwn HK
            go_wp2
            go_ret2
            rw [HE.out.1, HE.out.2]
            exact ⟨none, 0, 0, rfl, bytes_nil _, hWB⟩
        · obtain rfl : k = s - (2 + L) := by omega
          have hyes : OK := HOK.out.2 ⟨by first | trivial | rfl, HK.out⟩
          obtain ⟨e1, e2⟩ := HGOOD.out hyes
          have HE : Veil (UB = (z.drop 2).take L ∧ UE = 0) := ⟨e1, e2⟩
          have hks : 2 + L + (s - (2 + L)) = s := by omega
          rw [hks]
          have hbyW := HBY.out.below hWB
          have hct := fun wx => run_cut_2 wx (some ⟨b, off, none⟩) s c (2 + L) (by omega) (by omega)
          have hcb := hbyW.cut 2 (2 + L) (by omega) (by omega)
          have hL2 : 2 + L - 2 = L := by omega
          rw [hL2] at hct hcb
          have hE0 : OwnB (wr.alloc (.cells #[] 5)) wr.heap.size (.slice (some ⟨wr.heap.size, 0, none⟩) 0 0) [] := OwnB.ofHolds (Holds.new wr .u8 5 []) (Nat.le_refl _) (by simp)
          have hcy := hcb.below (w' := wr.alloc (.cells #[] 5)) ((Below.refl _ _).alloc (Nat.le_refl _) _)
          obtain ⟨y, hy⟩ : ∃ q, subA (some ⟨b, off, none⟩) c 2 = q := ⟨_, rfl⟩
          rw [hy] at hct hcy
          obtain ⟨M, hM⟩ : ∃ q : Nat, 2 + L = q := ⟨_, rfl⟩
          have hw4 : IntKind.i64.wrap ((L : Int) + 2) = (M : Int) := by rw [IntKind.wrap_i64]; omega
          rw [hM] at hct
          clear hw3 hM
          clear e1 e2 hks hbyW hcb hL2 hy HK hyes
          go_wp2_with (at_builtin; refine wpList_app rfl _ _ rfl wr.heap.size _ [] rfl hE0 y L (c - 2) ((z.drop 2).take L) rfl hcy (by simp; omega) (by simp) ?_; intro v1 w1 ho1 hg1)
          rw [List.nil_append] at ho1
          have hb1' : Below wr.heap.size wr w1 := below_grown ((Below.refl _ _).alloc (Nat.le_refl _) _) hE0 hg1 (by simp)
          obtain ⟨x1, n1, c1, rfl, hn1⟩ := ho1.isSlice
          have hy1 := ho1.bytes.2
          go_ret2
          rw [HE.out.1, HE.out.2]
          exact ⟨x1, n1, c1, rfl, hy1, hWB.trans (hb1'.mono hWB.size)⟩
    · have hno : ¬ OK := fun h => hsn (HOK.out.1 h).1
      obtain ⟨e1, e2⟩ := HBAD.out hno
      have HE : Veil (UB = [] ∧ UE = 3) := ⟨e1, e2⟩
      have hsb : ((s : Int) == (n : Int)) = false := by simp; omega
      have hsi : ¬ (s : Int) = (n : Int) := by omega
      clear e1 e2
      go_wp2_with (go_at_call 18; refine (hbk _).mono ?_; rintro e w1 ⟨rfl, rfl⟩)
      go_ret2
      rw [HE.out.1, HE.out.2]
      exact ⟨none, 0, 0, rfl, bytes_nil _, hWB⟩
  · have g1 : (L : Int) > (n : Int) - 2 := by omega
    have hno : ¬ OK := fun h => by have := (HOK.out.1 h).1; omega
    obtain ⟨e1, e2⟩ := HBAD.out hno
    have HE : Veil (UB = [] ∧ UE = 3) := ⟨e1, e2⟩
    clear e1 e2 hbk
    go_wp2
    go_ret2
    rw [HE.out.1, HE.out.2]
    exact ⟨none, 0, 0, rfl, bytes_nil _, hWB⟩
theorem refUnpad_both (x : Option Addr) (n c : Nat) (z : List Int) (w : World) (hb : Bytes w x n c z) (hz : ∀ v ∈ z, b8 v) (hl2 : n ≤ 1000000) :
    Calls Tryd.prog 16 #[.slice x n c] w fun e w' => ∃ x' n' c', e = .returned (.tuple #[.slice x' n' c', .int .i64 (unpE z)]) ∧ Bytes w' x' n' c' (unpB z) ∧ Below w.heap.size w w' := by
  by_cases h : n < 128
  · exact refUnpad_few x n c z w hb h
  · exact refUnpad_any x n c z w hb hz (by omega) hl2
end Go.Proofs.YtfniachmebppcaaDoor
