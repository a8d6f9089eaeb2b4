/- The readers of wire: heads. -/
import Derived.Test.YtdfjfafhpjoilaaDoorRk
namespace Go.Proofs.YtdfjfafhpjoilaaDoor
open Go.RowKit
set_option maxRecDepth 20000
set_option linter.unusedSimpArgs false

/-- A head, heads, as cells. -/
def hdC (h : Int × List Int) : List Value := .int .u32 h.1 :: byC h.2
def hdsC (l : List (Int × List Int)) : List Value := (l.map hdC).flatten
def hdOk (l : List (Int × List Int)) : Prop := ∀ h ∈ l, h.2.length = 32
theorem hdC_len (h : Int × List Int) (hl : h.2.length = 32) : (hdC h).length = 33 := by simp [hdC, byC_length, hl]
theorem hdsC_app (a b : List (Int × List Int)) : hdsC (a ++ b) = hdsC a ++ hdsC b := by simp [hdsC]
theorem hdsC_cons (h : Int × List Int) (b : List (Int × List Int)) : hdsC (h :: b) = hdC h ++ hdsC b := by simp [hdsC]
theorem hdsC_len (l : List (Int × List Int)) (hl : hdOk l) : (hdsC l).length = 33 * l.length := by
  induction l with
  | nil => rfl
  | cons h l ih =>
    rw [hdsC_cons, List.length_append, hdC_len h (hl h (by simp)), ih (fun x hx => hl x (by simp [hx])), List.length_cons]; omega
theorem hdsC_one (l : List (Int × List Int)) : ∀ v ∈ hdsC l, v.oneCell' = true := by
  intro v hv
  unfold hdsC at hv
  obtain ⟨c, hc, hvc⟩ := List.mem_flatten.1 hv
  obtain ⟨h, _, rfl⟩ := List.mem_map.1 hc
  unfold hdC at hvc
  rcases List.mem_cons.1 hvc with rfl | h1
  · rfl
  · exact byC_one _ v h1
theorem hds_set (a : List (Int × List Int)) (h : Int × List Int) (b : List (Int × List Int)) (i : Nat) (n : Int) (ha : hdOk a) (hi : a.length = i) : (hdsC (a ++ h :: b)).set (i * 33) (.int .u32 n) = hdsC (a ++ (n, h.2) :: b) := by
  have hl := hdsC_len a ha
  rw [hdsC_app, hdsC_app, hdsC_cons, hdsC_cons, List.set_append_right _ _ (by rw [hl]; omega), hl, show i * 33 - 33 * a.length = 0 by omega]
  rfl
theorem hds_get (a : List (Int × List Int)) (h : Int × List Int) (b : List (Int × List Int)) (i : Nat) (ha : hdOk a) (hi : a.length = i) : (hdsC (a ++ h :: b))[i * 33]? = some (.int .u32 h.1) := by
  have hl := hdsC_len a ha
  rw [hdsC_app, hdsC_cons, List.getElem?_append_right (by rw [hl]; omega), hl, show i * 33 - 33 * a.length = 0 by omega]
  rfl
theorem hds_sum (a : List (Int × List Int)) (h : Int × List Int) (b : List (Int × List Int)) (i : Nat) (s : List Int) (ha : hdOk a) (hi : a.length = i) (hh : h.2.length = 32) (hs : s.length = 32) :
    (hdsC (a ++ h :: b)).take (i * 33 + 1) ++ byC s ++ (hdsC (a ++ h :: b)).drop (i * 33 + 1 + (byC s).length) = hdsC (a ++ (h.1, s) :: b) := by
  have hl := hdsC_len a ha
  have e1 : i * 33 = (hdsC a).length := by rw [hl]; omega
  have t : (hdsC a ++ (hdC h ++ hdsC b)).take ((hdsC a).length + 1) = hdsC a ++ [.int .u32 h.1] := by
    rw [List.take_length_add_append]; rfl
  have d : (hdsC a ++ (hdC h ++ hdsC b)).drop ((hdsC a).length + (1 + (byC s).length)) = hdsC b := by
    rw [List.drop_length_add_append, byC_length, hs]
    exact List.drop_left' (hdC_len h hh)
  rw [hdsC_app, hdsC_app, hdsC_cons, hdsC_cons, e1, t, Nat.add_assoc, d]
  simp [hdC]
theorem hds_part (a : List (Int × List Int)) (h : Int × List Int) (b : List (Int × List Int)) (i : Nat) (ha : hdOk a) (hi : a.length = i) (hh : h.2.length = 32) : ((hdsC (a ++ h :: b)).drop (i * 33)).take 33 = hdC h := by
  have hl := hdsC_len a ha
  have e1 : i * 33 = (hdsC a).length := by rw [hl]; omega
  rw [hdsC_app, hdsC_cons, e1, List.drop_left]
  exact List.take_left' (hdC_len h hh)
def hdZ : List (Int × List Int) := List.replicate 8 (0, keyZ)
theorem hdOk_rep (n : Nat) : hdOk (List.replicate n (0, keyZ)) := fun h hh => by rw [(List.mem_replicate.1 hh).2]; rfl
theorem zeroHeads_info : (Tryd.prog.info? 36).map (fun i => i.zero) = some (some (.agg (hdsC hdZ).toArray)) := by kernel_rfl
theorem zeroHeads (wx : World) : (zeroValue 36).run Tryd.prog wx = .ok (.agg (hdsC hdZ).toArray) wx := by
  have h := zeroHeads_info
  cases hq : Tryd.prog.info? 36 with
  | none => simp [hq] at h
  | some i =>
    have hz : i.zero = some (.agg (hdsC hdZ).toArray) := by simpa [hq] using h
    simp [zeroValue, typeInfo, hq, hz]
theorem zeroHeads_has : ∃ Z : List Value, (∀ wx, (zeroValue 36).run Tryd.prog wx = .ok (.agg Z.toArray) wx) ∧ ¬ Z.toArray = #[] ∧ Z = hdsC hdZ :=
  ⟨_, zeroHeads, by intro h; have := congrArg Array.size h; revert this; decide, rfl⟩
theorem sizeHeads : (Tryd.prog.info? 36).map (·.size) = some 264 := by kernel_rfl
theorem sizeHeadsL (l : List (Int × List Int)) (hl : hdOk l) (h8 : l.length = 8) : (Tryd.prog.info? 36).map (·.size) = some (hdsC l).length := by
  rw [hdsC_len l hl, h8]; exact sizeHeads
/-- What bytes say as heads. -/
def hdAt (z : List Int) (i : Nat) : Int × List Int := (at4 z (36 * i), (z.drop (36 * i + 4)).take 32)
def headsN (z : List Int) (n : Nat) : List (Int × List Int) := (List.range n).map (hdAt z)
theorem headsN_succ (z : List Int) (n : Nat) : headsN z (n + 1) = headsN z n ++ [hdAt z n] := by unfold headsN; rw [List.range_succ, List.map_append]; rfl
theorem headsN_len (z : List Int) (n : Nat) : (headsN z n).length = n := by simp [headsN]
theorem headsN_ok (z : List Int) (n : Nat) (h : 36 * n ≤ z.length) : hdOk (headsN z n) := fun x hx => by
  obtain ⟨i, hi, rfl⟩ := List.mem_map.1 hx
  have := List.mem_range.1 hi
  unfold hdAt
  simp only [List.length_take, List.length_drop]
  omega

set_option maxHeartbeats 8000000 in
theorem rheads_any (R base : Nat) (z : List Int) (w : World) (hR : Rd w R base z) (hz : ∀ v ∈ z, b8 v) :
    Calls Tryd.prog 16 #[.pointer (some ⟨R, 0, none⟩)] w fun e w' =>
      (288 ≤ z.length ∧ e = .returned (.agg (hdsC (headsN z 8)).toArray) ∧ Rd w' R base (z.drop 288) ∧ Took w w' R base) ∨ (z.length < 288 ∧ e = .panicked [wrongP] ∧ Took w w' R base) := by
  have hlt := hR.lt
  have hsz := hR.size
  have hf := fun (j : Nat) wx (h : Rd wx R base (z.drop (36 * j))) => rfour_at R base z (36 * j) wx h hz
  have hk := fun (j : Nat) wx (h : Rd wx R base (z.drop (36 * j + 4))) => rkey_at R base z (36 * j + 4) wx h
  have HS : Veil (∀ j, headsN z (j + 1) = headsN z j ++ [hdAt z j]) := ⟨headsN_succ z⟩
  have HL : Veil (∀ j, (headsN z j).length = j) := ⟨headsN_len z⟩
  have HO : Veil (∀ j, 36 * j ≤ z.length → hdOk (headsN z j)) := ⟨headsN_ok z⟩
  have HA : Veil (∀ j, hdAt z j = (at4 z (36 * j), (z.drop (36 * j + 4)).take 32)) := ⟨fun _ => rfl⟩
  obtain ⟨Z, hzv, hz1, hZ⟩ := zeroHeads_has
  have HZ : Veil (Z = hdsC hdZ) := ⟨hZ⟩
  have hG0 := (CellsAt.new w 36 Z).alloc (.cells Z.toArray 36)
  have hG1 : CellsAt ((w.alloc (.cells Z.toArray 36)).alloc (.cells Z.toArray 36)) (w.heap.size + 1) 36 Z := by
    have := CellsAt.new (w.alloc (.cells Z.toArray 36)) 36 Z
    rw [World.size_alloc] at this
    exact this
  have hR0 := (hR.alloc (.cells Z.toArray 36)).alloc (.cells Z.toArray 36)
  have hT0 : Took w ((w.alloc (.cells Z.toArray 36)).alloc (.cells Z.toArray 36)) R base := (Took.alloc hsz _).trans (Took.alloc (by simp; omega) _)
  have r1 : base ≤ w.heap.size + 1 := by omega
  have r2 : R ≠ w.heap.size + 1 := by omega
  have r3 : R ≠ w.heap.size := by omega
  obtain ⟨HH, hHH⟩ : ∃ q, hdsC (headsN z 8) = q := ⟨_, rfl⟩
  have HHH : Veil (hdsC (headsN z 8) = HH) := ⟨hHH⟩
  rw [hHH]
  clear hR hz hZ hHH
  go_enter Tryd.func16, Tryd.ntmps16
  go_upto_region 2 with fail
  refine forget (p := fun y => Code.wp _ _ _ _ y) (fun W => Rd W R base (z.drop (36 * 0)) ∧ Took w W R base ∧ CellsAt W w.heap.size 36 Z ∧ CellsAt W (w.heap.size + 1) 36 Z) ⟨hR0, hT0, hG0, hG1⟩ ?_
  clear hR0 hT0 hG0 hG1
  rintro W ⟨hR0, hT0, hG0, hG1⟩
  go_wp2_with fail
  go_loopw [4, 5] (fun u q wr => ∃ j : Nat, j ≤ 8 ∧ q = .int .i64 j ∧ 36 * j ≤ z.length ∧ Rd wr R base (z.drop (36 * j)) ∧ Took w wr R base ∧ CellsAt wr w.heap.size 36 Z ∧ CellsAt wr (w.heap.size + 1) 36 (hdsC (headsN z j ++ List.replicate (8 - j) (0, keyZ)))) (fun _ q _ => 8 - (intOf q).toNat)
  case atStart => exact ⟨0, by omega, rfl, by omega, hR0, hT0, hG0, by rw [HZ.out] at hG1; exact hG1⟩
  case round =>
    clear hR0 hT0 hG0 hG1 W
    obtain ⟨j, hj, rfl, hzl, hR0, hT0, hG0, hG1⟩ := hrel
    by_cases hlt8 : j < 8
    · have h1W := hf j wr hR0
      have hk' := hk j
      have hrep : List.replicate (8 - j) ((0 : Int), keyZ) = (0, keyZ) :: List.replicate (8 - (j + 1)) (0, keyZ) := by
        rw [show 8 - j = (8 - (j + 1)) + 1 by omega, List.replicate_succ]
      rw [hrep] at hG1
      have HS1 := HS.out j
      rw [HA.out j] at HS1
      have HOj := HO.out j hzl
      have HLj := HL.out j
      obtain ⟨V, hV⟩ : ∃ q, at4 z (36 * j) = q := ⟨_, rfl⟩
      obtain ⟨S, hS⟩ : ∃ q, (z.drop (36 * j + 4)).take 32 = q := ⟨_, rfl⟩
      have HSL : Veil (36 * j + 36 ≤ z.length → S.length = 32) := ⟨fun h => by rw [← hS, List.length_take, List.length_drop]; omega⟩
      rw [hV, hS] at HS1
      rw [hV] at h1W
      rw [hS] at hk'
      obtain ⟨A, hA⟩ : ∃ q, headsN z j = q := ⟨_, rfl⟩
      obtain ⟨B, hB⟩ : ∃ q, List.replicate (8 - (j + 1)) ((0 : Int), keyZ) = q := ⟨_, rfl⟩
      rw [hA, hB] at hG1
      rw [hA] at HS1 HOj HLj
      have q1 := hds_get A (0, keyZ) B j HOj HLj
      have q2 := hds_set A (0, keyZ) B j V HOj HLj
      have HQ3 : Veil (S.length = 32 → (hdsC (A ++ (V, keyZ) :: B)).take (j * 33 + 1) ++ byC S ++ (hdsC (A ++ (V, keyZ) :: B)).drop (j * 33 + 1 + (byC S).length) = hdsC (A ++ (V, S) :: B)) := ⟨fun h => hds_sum A (V, keyZ) B j S HOj HLj rfl h⟩
      have HE : Veil (headsN z (j + 1) ++ List.replicate (8 - (j + 1)) (0, keyZ) = A ++ (V, S) :: B) := ⟨by rw [HS1, hB]; simp⟩
      have hlc : (hdsC (A ++ (V, keyZ) :: B)).length = 264 := by
        have hBl : B.length = 8 - (j + 1) := by rw [← hB, List.length_replicate]
        have hok : hdOk (A ++ (V, keyZ) :: B) := fun x hx => by
          rcases List.mem_append.1 hx with h | h
          · exact HOj x h
          · rcases List.mem_cons.1 h with rfl | h
            · rfl
            · rw [← hB] at h; exact hdOk_rep _ x h
        rw [hdsC_len _ hok, List.length_append, List.length_cons, HLj, hBl]; omega
      have hj0 : (0 : Int) ≤ (j : Int) := by omega
      have hj8 : (j : Int) < 8 := by omega
      obtain ⟨C0, hC0⟩ : ∃ q, hdsC (A ++ (0, keyZ) :: B) = q := ⟨_, rfl⟩
      obtain ⟨C1, hC1⟩ : ∃ q, hdsC (A ++ (V, keyZ) :: B) = q := ⟨_, rfl⟩
      obtain ⟨C2, hC2⟩ : ∃ q, hdsC (A ++ (V, S) :: B) = q := ⟨_, rfl⟩
      rw [hC0] at hG1 q1 q2
      rw [hC1] at q2 HQ3 hlc
      rw [hC2] at HQ3
      have HE2 : Veil (hdsC (headsN z (j + 1) ++ List.replicate (8 - (j + 1)) (0, keyZ)) = C2) := ⟨by rw [HE.out, hC2]⟩
      have HQ1 : Veil (C0[j * 33]? = some (.int .u32 0)) := ⟨q1⟩
      have HQ2 : Veil (C0.set (j * 33) (.int .u32 V) = C1) := ⟨q2⟩
      have HLC : Veil (C1.length = 264) := ⟨hlc⟩
      clear hrep HS1 HOj HLj hV hS hA hB q1 q2 hlc hC0 hC1 hC2 HE
      by_cases k1 : 36 * j + 4 ≤ z.length
      rotate_left
      · go_wp2_with (go_at_call 23; refine h1W.mono ?_; rintro e wB (⟨hx, _⟩ | ⟨_, rfl, htB⟩); (exfalso; omega))
        exact bodyPost_gone (.inr ⟨by omega, rfl, hT0.trans htB⟩)
      go_upto_region 6 with (go_at_call 23; refine h1W.mono ?_; rintro e w1 (⟨_, rfl, hR1, ht1⟩ | ⟨hx, _⟩); rotate_left; (exfalso; omega); have hH1 := hG1.took ht1 (by omega); have cj := hH1.cell (j * 33); rw [HQ1.out] at cj; have fj := hH1.frozen2 (j * 33))
      have hH0 := hG0.took ht1 (by omega)
      have hH2 := hH1.set2 (j * 33) (.int .u32 V)
      rw [HQ2.out] at hH2
      refine forget (p := fun y => Code.wp _ _ _ _ y) (fun W => Rd W R base (z.drop (36 * j + 4)) ∧ Took w W R base ∧ CellsAt W w.heap.size 36 Z ∧ CellsAt W (w.heap.size + 1) 36 C1) ⟨hR1.setCellO _ _ r1 r2, (hT0.trans ht1).setCellO _ _ (by show w.heap.size ≤ w.heap.size + 1; omega) r1, hH0.setOther2 _ _ (by show w.heap.size ≠ w.heap.size + 1; omega), hH2⟩ ?_
      clear h1W hR0 hT0 hG0 hG1 hH1 hH0 hH2 hR1 ht1 cj fj
      rintro W ⟨hR0, hT0, hG0, hG1⟩
      have h1W := hk' W hR0
      by_cases k2 : 36 * j + 4 + 32 ≤ z.length
      rotate_left
      · go_wp2_with (go_at_call 25; refine h1W.mono ?_; rintro e wB (⟨hx, _⟩ | ⟨_, rfl, htB⟩); (exfalso; omega))
        exact bodyPost_gone (.inr ⟨by omega, rfl, hT0.trans htB⟩)
      have hSL := HSL.out (by omega)
      have iS : (Tryd.prog.info? 27).map (·.size) = some (byC S).length := by rw [byC_length, hSL]; exact sizeKey32
      have h1S := byC_one S
      have hl33 : j * 33 + 1 + (byC S).length ≤ C1.length := by rw [byC_length, hSL, HLC.out]; omega
      have HSL2 : Veil (S.length = 32) := ⟨hSL⟩
      clear hSL
      go_wp2_with (first
        | (go_at_call 25; refine h1W.mono ?_; rintro e w1 (⟨_, rfl, hR1, ht1⟩ | ⟨hx, _⟩); rotate_left; (exfalso; omega); have hH1 := hG1.took ht1 (by omega))
        | (refine wpList_stm rfl 27 _ _ rfl _ (j * 33 + 1) rfl rfl hH1 iS hl33 h1S ?_))
      have hH0 := hG0.took ht1 (by omega)
      have hH2 := hH1.setRow (C1.take (j * 33 + 1) ++ byC S ++ C1.drop (j * 33 + 1 + (byC S).length))
      have e36 : 36 * j + 4 + 32 = 36 * (j + 1) := by omega
      rw [e36] at hR1
      clear e36
      go_roundw
      case rel => exact ⟨j + 1, by omega, by go_num, by omega, hR1.setRowO _ r1 r2, (hT0.trans ht1).setRowO _ (by omega) r1, hH0.setRowOther2 _ (by omega), by rw [HE2.out, ← HQ3.out HSL2.out]; simpa only [List.append_assoc] using hH2⟩
      case measure => simp [intOf]; omega
    · obtain rfl : j = 8 := by omega
      have hP8 : headsN z 8 ++ List.replicate (8 - 8) (0, keyZ) = headsN z 8 := by simp
      rw [hP8, HHH.out] at hG1
      have iH : (Tryd.prog.info? 36).map (·.size) = some HH.length := by rw [← HHH.out]; exact sizeHeadsL _ (HO.out 8 hzl) (HL.out 8)
      have hlH : Z.length = HH.length := by rw [← HHH.out, hdsC_len _ (HO.out 8 hzl), HL.out 8, HZ.out]; rfl
      have h1H : ∀ v ∈ HH, v.oneCell' = true := by rw [← HHH.out]; exact hdsC_one _
      have rH := hG1.whole2
      clear hP8 hf hk
      go_wp2_with (first
        | (refine wpList_ldv rfl 36 _ rfl _ _ rfl HH rH Tryd.underlying36 rfl iH ?_)
        | (refine wpList_stv rfl 36 _ _ rfl _ rfl rfl hG0 iH hlH h1H ?_))
      refine bodyPost_ret (results_cell_row (Tryd.results16) _ _ _ _ _ (0, 0) _ rfl (hG0.setRow HH) Tryd.underlying36 rfl (by rw [iH]; simp)) rfl ?_
      exact .inl ⟨hzl, rfl, hR0.setRowO _ hsz r3, hT0.setRowO _ (Nat.le_refl _) hsz⟩
end Go.Proofs.YtdfjfafhpjoilaaDoor
