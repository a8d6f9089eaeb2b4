/- Bytes that are unlike are unlike as what is digested (the statement ShaUnlike), walked. -/
import Derived.Test.YtdnocgpcfahpgabDoorStr
import Derived.Test.YtdnocgpcfahpgabDoorLive
import Derived.Deep.RegionHeld
namespace Go.Proofs.YtdnocgpcfahpgabDoor
open Go.RowKit
set_option maxRecDepth 20000

theorem padL_inj (a b : List Int) (ha : a.length ≤ 300) (hb : b.length ≤ 300) (h : padL a = padL b) : a = b := by
  have ga := padSize_ge a.length
  have gb := padSize_ge b.length
  have hs : padSize a.length = padSize b.length := by rw [← padL_length, ← padL_length, h]
  have tail : ∀ z : List Int, (padL z).drop (padSize z.length - 8) = lenTail z.length 8 := fun z => by
    have g := padSize_ge z.length
    have hl : (z ++ [128] ++ List.replicate (padSize z.length - z.length - 9) 0).length = padSize z.length - 8 := by simp; omega
    unfold padL padK
    rw [← hl]; simp
  have head : ∀ z : List Int, (padL z).take z.length = z := fun z => by unfold padL padK; rw [List.append_assoc, List.append_assoc, List.append_assoc]; simp
  have ht : lenTail a.length 8 = lenTail b.length 8 := by rw [← tail a, ← tail b, h, hs]
  have h7 : lenByte a.length 0 = lenByte b.length 0 := by
    have := congrArg (fun l => l[7]?.getD 0) ht
    simpa [lenTail_get] using this
  have h6 : lenByte a.length 1 = lenByte b.length 1 := by
    have := congrArg (fun l => l[6]?.getD 0) ht
    simpa [lenTail_get] using this
  have hn : a.length = b.length := by
    unfold lenByte at h6 h7
    simp at h6 h7
    omega
  rw [← head a, ← head b, h, hn]
theorem strOfNums_inj (a b : List Int) (ha : ∀ v ∈ a, 0 ≤ v ∧ v ≤ 255) (hb : ∀ v ∈ b, 0 ≤ v ∧ v ≤ 255) (h : (strOfNums a).toList = (strOfNums b).toList) : a = b := by
  rw [ByteArray.toList_eq, ByteArray.toList_eq] at h
  have h2 : (a.map fun n => UInt8.ofNat n.toNat) = (b.map fun n => UInt8.ofNat n.toNat) := by rw [← strOfNums_data, ← strOfNums_data]; exact h
  have hl : a.length = b.length := by have := congrArg List.length h2; simpa using this
  apply List.ext_getElem hl
  intro i h1 h3
  have e : UInt8.ofNat a[i].toNat = UInt8.ofNat b[i].toNat := by
    have := congrArg (fun l => l[i]?) h2
    simpa [h1, h3] using this
  have ba := ha _ (List.getElem_mem h1)
  have bb := hb _ (List.getElem_mem h3)
  have e2 := congrArg UInt8.toNat e
  simp at e2
  omega
theorem padL_in (z : List Int) (h : ∀ v ∈ z, 0 ≤ v ∧ v ≤ 255) : ∀ v ∈ padL z, 0 ≤ v ∧ v ≤ 255 := by
  have ht : ∀ k, ∀ v ∈ lenTail z.length k, 0 ≤ v ∧ v ≤ 255 := fun k => by
    induction k with
    | zero => intro v hv; simp [lenTail] at hv
    | succ k ih =>
      intro v hv
      simp only [lenTail, List.mem_cons] at hv
      rcases hv with rfl | hv
      · unfold lenByte; omega
      · exact ih v hv
  intro v hv
  unfold padL padK at hv
  simp only [List.mem_append, List.mem_cons, List.not_mem_nil, or_false, List.mem_replicate] at hv
  rcases hv with (((hv | hv) | hv) | hv) | hv
  · exact h v hv
  · omega
  · omega
  · omega
  · exact ht 8 v hv

set_option maxHeartbeats 4000000 in
theorem unlike_walk (x : Option Addr) (len cap : Nat) (z : List Int) (y : Option Addr) (len' cap' : Nat) (z' : List Int) (w : World) (hk : KTab w) (hz : Bytes w x len cap z) (hy : Bytes w y len' cap' z') (hu : ∀ v ∈ z, 0 ≤ v ∧ v ≤ 255) (hu' : ∀ v ∈ z', 0 ≤ v ∧ v ≤ 255) :
    Calls Tryd.prog 3 #[.slice x len cap, .slice y len' cap'] w fun e w' => e = .returned (.bool true) ∧ Below w.heap.size w w' := by
  have hf : Calls Tryd.prog 9 #[.slice x len cap, .int .i64 300] w fun e w' => e = .returned (.slice x (min len 300) cap) ∧ w = w' := few_any x len cap 300 z w hz (by omega) (by omega)
  have hf' : Calls Tryd.prog 9 #[.slice y len' cap', .int .i64 300] w fun e w' => e = .returned (.slice y (min len' 300) cap') ∧ w = w' := few_any y len' cap' 300 z' w hy (by omega) (by omega)
  have hz6 := hz.few 300
  have hy6 := hy.few 300
  have hzl : (z.take 300).length ≤ 300 := by rw [List.length_take]; omega
  have hyl : (z'.take 300).length ≤ 300 := by rw [List.length_take]; omega
  have hu6 : ∀ v ∈ z.take 300, 0 ≤ v ∧ v ≤ 255 := fun v hv => hu v (List.mem_of_mem_take hv)
  have hu6' : ∀ v ∈ z'.take 300, 0 ≤ v ∧ v ≤ 255 := fun v hv => hu' v (List.mem_of_mem_take hv)
  obtain ⟨n, hn⟩ : ∃ l, min len 300 = l := ⟨_, rfl⟩
  obtain ⟨n', hn'⟩ : ∃ l, min len' 300 = l := ⟨_, rfl⟩
  obtain ⟨a, ha⟩ : ∃ l, z.take 300 = l := ⟨_, rfl⟩
  obtain ⟨b, hb⟩ : ∃ l, z'.take 300 = l := ⟨_, rfl⟩
  rw [hn] at hf hz6
  rw [hn'] at hf' hy6
  rw [ha] at hz6 hzl hu6
  rw [hb] at hy6 hyl hu6'
  have hn6 : n ≤ 300 := by omega
  have hn6' : n' ≤ 300 := by omega
  have hpe : (padL a = padL b) ↔ a = b := ⟨padL_inj a b hzl hyl, fun h => by rw [h]⟩
  have t1 : (((strOfNums (padL a)).toList == (strOfNums (padL b)).toList) == ((strOfNums a).toList == (strOfNums b).toList)) = true := by
    by_cases he : a = b
    · subst he; simp
    · have e1 : ((strOfNums (padL a)).toList == (strOfNums (padL b)).toList) = false := by
        rw [beq_eq_false_iff_ne]; intro h; exact he (hpe.1 (strOfNums_inj _ _ (padL_in a hu6) (padL_in b hu6') h))
      have e2 : ((strOfNums a).toList == (strOfNums b).toList) = false := by
        rw [beq_eq_false_iff_ne]; intro h; exact he (strOfNums_inj _ _ hu6 hu6' h)
      rw [e1, e2]; rfl
  have hpl : ∀ l : List Int, l.length ≤ 300 → (padL l).length ≤ 4000000 := fun l hl => by rw [padL_length]; unfold padSize; omega
  have pB : ∀ (x : Option Addr) (n cap : Nat) (a : List Int), Bytes w x n cap a → a.length ≤ 300 → n ≤ 300 → ∀ wx, Below w.heap.size w wx → Calls Tryd.prog 11 #[.slice x n cap] wx fun e w' => ∃ g m, e = .returned (.slice (some ⟨g, 0, none⟩) m m) ∧ Bytes w' (some ⟨g, 0, none⟩) m m (padL a) ∧ Below wx.heap.size wx w' := fun x n cap a hz6 hzl hn6 wx hx =>
    (pad_any x n cap a wx (hz6.below hx) (by omega)).mono fun e w' ⟨g, h1, _, h2, h3⟩ => ⟨g, _, h1, h2.bytes (padL_length _).symm (hpl _ hzl), h3⟩
  have pB1 := pB x n cap a hz6 hzl hn6
  have pB2 := pB y n' cap' b hy6 hyl hn6'
  obtain ⟨SA, hSA⟩ : ∃ s, strOfNums a = s := ⟨_, rfl⟩
  obtain ⟨SB, hSB⟩ : ∃ s, strOfNums b = s := ⟨_, rfl⟩
  obtain ⟨PA, hPA⟩ : ∃ s, strOfNums (padL a) = s := ⟨_, rfl⟩
  obtain ⟨PB, hPB⟩ : ∃ s, strOfNums (padL b) = s := ⟨_, rfl⟩
  have ca : ∀ wx, Below w.heap.size w wx → (convert 22 9 (.slice x n cap)).run Tryd.prog wx = .ok (.string SA) wx := fun wx hx => by rw [← hSA]; exact conv_bytes (hz6.below hx)
  have cb : ∀ wx, Below w.heap.size w wx → (convert 22 9 (.slice y n' cap')).run Tryd.prog wx = .ok (.string SB) wx := fun wx hx => by rw [← hSB]; exact conv_bytes (hy6.below hx)
  have cpa : ∀ wx x m c, Bytes wx x m c (padL a) → (convert 22 9 (.slice x m c)).run Tryd.prog wx = .ok (.string PA) wx := fun wx x m c hx => by rw [← hPA]; exact conv_bytes hx
  have cpb : ∀ wx x m c, Bytes wx x m c (padL b) → (convert 22 9 (.slice x m c)).run Tryd.prog wx = .ok (.string PB) wx := fun wx x m c hx => by rw [← hPB]; exact conv_bytes hx
  rw [hSA, hSB, hPA, hPB] at t1
  clear hn hn' ha hb hz hy hu hu' hpe hpl hSA hSB hPA hPB hu6 hu6' hzl hyl hz6 hy6 pB
  go_enter Tryd.func3, Tryd.ntmps3
  go_upto_region 2 with (first
    | (go_at_call 9; with_reducible refine hf.mono ?_; rintro e w' ⟨rfl, rfl⟩)
    | (go_at_call 9; with_reducible refine hf'.mono ?_; rintro e w' ⟨rfl, rfl⟩))
  clear hf hf'
  go_region_held (fun w' => (convert 22 9 (.slice x n cap)).run Tryd.prog w' = .ok (.string SA) w' ∧ (convert 22 9 (.slice y n' cap')).run Tryd.prog w' = .ok (.string SB) w')
    (first
      | exact ⟨ca _ hbw1, cb _ hbw1⟩ | exact ⟨ca _ hbw2, cb _ hbw2⟩ | exact ⟨ca _ hbw3, cb _ hbw3⟩ | exact ⟨ca _ (Below.refl _ _).drew, cb _ (Below.refl _ _).drew⟩)
    (first
      | (go_at_call 10; refine (live_any _ (hk.below (Below.refl _ _).drew)).mono ?_; rintro e w1 ⟨rfl, hb1⟩; have hbw1 : Below w.heap.size w w1 := ((Below.refl _ _).drew).trans hb1)
      | (go_at_call 11; with_reducible refine (pB1 _ hbw1).mono ?_; rintro e w2 ⟨g, m, rfl, hy2, hb2⟩; have hbw2 : Below w.heap.size w w2 := hbw1.trans (hb2.mono hbw1.size); have cv2 := cpa _ _ _ _ hy2)
      | (go_at_call 11; with_reducible refine (pB2 _ hbw2).mono ?_; rintro e w3 ⟨g', m', rfl, hy3, hb3⟩; have hbw3 : Below w.heap.size w w3 := hbw2.trans (hb3.mono hbw2.size); have cv3 := cpb _ _ _ _ hy3; have cv23 := cpa _ _ _ _ (hy2.below hb3)))
  all_goals go_wp2
  all_goals go_ret
  all_goals exact ⟨rfl, hbw3⟩
end Go.Proofs.YtdnocgpcfahpgabDoor
