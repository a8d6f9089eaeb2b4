/- The statement WirePads, walked. (Written by mkpads.py.) -/
import Derived.Test.YtfniachmebppcaaDoorRu2
import Derived.Test.YtfniachmebppcaaDoorWireUnpadsW
namespace Go.Proofs.YtfniachmebppcaaDoor
open Go.RowKit
set_option maxRecDepth 20000
set_option linter.unusedSimpArgs false

set_option maxHeartbeats 4000000 in
theorem pads_few (x : Option Addr) (len cap : Nat) (z : List Int) (N : Int) (w : World) (hT : BTab w) (hb : Bytes w x len cap z) (hz : ∀ v ∈ z, b8 v) (hl : len ≤ 5000) :
    Calls Tryd.prog 4 #[.slice x len cap, .int .i64 N] w fun e w' => e = .returned (.bool true) ∧ Below w.heap.size w w' := by
  have h5 : ¬ (len : Int) > 5000 := by omega
  obtain ⟨s, hs, hs'⟩ := bucketN_in len
  have hpd := fun wx (h : Below w.heap.size w wx) => Pad_both x len cap z wx (hT.below h) (hb.below h) s hs (by omega)
  have hqd := fun wx (h : Below w.heap.size w wx) => refPad_both x len cap z wx (hb.below h) s hs (by omega)
  have hn := hb.len_eq
  have hud := fun wx (h : Below w.heap.size w wx) => Unpad_any x len cap z wx (hT.below h) (hb.below h) hz (by omega)
  have hvd := fun wx (h : Below w.heap.size w wx) => refUnpad_both x len cap z wx (hb.below h) hz (by omega)
  have hlv := fun wx (h : Below w.heap.size w wx) => live6_any wx (hT.below h)
  have hk1 := fun wx (h : Below w.heap.size w wx) => bucket_any N wx (hT.below h)
  have hk2 := fun wx => refBucket_any N wx
  obtain ⟨K, hK⟩ : ∃ q, bucketN N = q := ⟨_, rfl⟩
  rw [hK] at hk1 hk2
  obtain ⟨PB, hPB⟩ : ∃ q, (if s = 0 then [] else padL z s) = q := ⟨_, rfl⟩
  obtain ⟨PE, hPE⟩ : ∃ q : Int, (if s = 0 then 2 else 0) = q := ⟨_, rfl⟩
  rw [hPB, hPE] at hpd hqd
  obtain ⟨UB, hUB⟩ : ∃ q, unpB z = q := ⟨_, rfl⟩
  obtain ⟨UE, hUE⟩ : ∃ q, unpE z = q := ⟨_, rfl⟩
  rw [hUB, hUE] at hud hvd
  have hle := hb.le
  have htp := hb.top
  obtain ⟨SP, hSP⟩ : ∃ q, strOfNums PB = q := ⟨_, rfl⟩
  obtain ⟨SU, hSU⟩ : ∃ q, strOfNums UB = q := ⟨_, rfl⟩
  have HP : Veil (∀ wx (y : Option Addr) (m d : Nat), Bytes wx y m d PB → (convert 28 9 (.slice y m d)).run Tryd.prog wx = .ok (.string SP) wx) := ⟨fun wx y m d h => by rw [← hSP]; exact conv_bytes h⟩
  have HU : Veil (∀ wx (y : Option Addr) (m d : Nat), Bytes wx y m d UB → (convert 28 9 (.slice y m d)).run Tryd.prog wx = .ok (.string SU) wx) := ⟨fun wx y m d h => by rw [← hSU]; exact conv_bytes h⟩
  clear hT hb hz hs hs' hn hK hPB hPE hUB hUE hSP hSU
  go_enter Tryd.func4, Tryd.ntmps4
  go_upto_region 4 with (go_at_call 13; refine (hpd _ (Below.refl _ _)).mono ?_; rintro e w1 ⟨x1, n1, c1, rfl, hy1, hb1⟩)
  clear hpd
  go_upto_region 5 with (go_at_call 14; refine (hqd _ hb1).mono ?_; rintro e w2 ⟨x2, n2, c2, rfl, hy2, hb2⟩)
  have hB2 := hb1.trans (hb2.mono hb1.size)
  have hy12 := hy1.below hb2
  clear hqd hy1
  go_upto_region 6 with (go_at_call 15; refine (hud _ hB2).mono ?_; rintro e w3 ⟨x3, n3, c3, rfl, hy3, hb3⟩)
  have hB3 := hB2.trans (hb3.mono hB2.size)
  have hy13 := hy12.below hb3
  have hy23 := hy2.below hb3
  clear hud hy12 hy2
  go_upto_region 7 with (go_at_call 16; refine (hvd _ hB3).mono ?_; rintro e w4 ⟨x4, n4, c4, rfl, hy4, hb4⟩)
  have hB4 := hB3.trans (hb4.mono hB3.size)
  have hy14 := hy13.below hb4
  have hy24 := hy23.below hb4
  have hy34 := hy3.below hb4
  have hlv4 := hlv _ hB4
  clear hvd hy13 hy23 hy3 hlv
  go_wp2_with (first
    | (go_at_call 11; refine hlv4.mono ?_; rintro e w5 ⟨rfl, hb5⟩; have hB5 := hB4.trans (hb5.mono hB4.size); have k1 := HP.out w5 x1 n1 c1 (hy14.below hb5); have k2 := HP.out w5 x2 n2 c2 (hy24.below hb5); have k3 := HU.out w5 x3 n3 c3 (hy34.below hb5); have k4 := HU.out w5 x4 n4 c4 (hy4.below hb5); have hq1 := hk1 w5 hB5; have hq2 := hk2 w5)
    | (go_at_call 17; refine hq1.mono ?_; rintro e w6 ⟨rfl, rfl⟩)
    | (go_at_call 18; refine hq2.mono ?_; rintro e w6 ⟨rfl, rfl⟩))
  go_ret
  exact ⟨rfl, hB5⟩
set_option maxHeartbeats 4000000 in
theorem pads_long (x0 : Option Addr) (len0 cap : Nat) (z0 : List Int) (N : Int) (w : World) (hT : BTab w) (hb0 : Bytes w x0 len0 cap z0) (hz0 : ∀ v ∈ z0, b8 v) (hl0 : 5000 < len0) :
    Calls Tryd.prog 4 #[.slice x0 len0 cap, .int .i64 N] w fun e w' => e = .returned (.bool true) ∧ Below w.heap.size w w' := by
  have hb := hb0.cut5000 hl0
  have hz : ∀ v ∈ z0.take 5000, b8 v := fun v hv => hz0 v (List.mem_of_mem_take hv)
  have hcut := fun wx => run_cut5000 wx x0 len0 cap (by have := hb0.le; omega)
  obtain ⟨x, hx⟩ : ∃ q, subA x0 cap 0 = q := ⟨_, rfl⟩
  obtain ⟨z, hzz⟩ : ∃ q, z0.take 5000 = q := ⟨_, rfl⟩
  rw [hx] at hb hcut
  rw [hzz] at hb hz
  have k5 : (len0 : Int) > 5000 := by omega
  have kle := hb0.le
  have ktp := hb0.top
  clear hb0 hz0 hl0 hx hzz
  obtain ⟨len, hlen⟩ : ∃ q : Nat, q = 5000 := ⟨_, rfl⟩
  rw [← hlen] at hb
  have hl : len ≤ 5000 := by omega
  have hcut' : ∀ wx : World, (Instr.slice 28 (.slice x0 len0 cap) none (some (.int .i64 5000)) none).run Tryd.prog wx = .ok (.slice x len cap) wx := fun wx => by rw [hlen]; exact hcut wx
  clear hcut hlen
  obtain ⟨s, hs, hs'⟩ := bucketN_in len
  have hpd := fun wx (h : Below w.heap.size w wx) => Pad_both x len cap z wx (hT.below h) (hb.below h) s hs (by omega)
  have hqd := fun wx (h : Below w.heap.size w wx) => refPad_both x len cap z wx (hb.below h) s hs (by omega)
  have hn := hb.len_eq
  have hud := fun wx (h : Below w.heap.size w wx) => Unpad_any x len cap z wx (hT.below h) (hb.below h) hz (by omega)
  have hvd := fun wx (h : Below w.heap.size w wx) => refUnpad_both x len cap z wx (hb.below h) hz (by omega)
  have hlv := fun wx (h : Below w.heap.size w wx) => live6_any wx (hT.below h)
  have hk1 := fun wx (h : Below w.heap.size w wx) => bucket_any N wx (hT.below h)
  have hk2 := fun wx => refBucket_any N wx
  obtain ⟨K, hK⟩ : ∃ q, bucketN N = q := ⟨_, rfl⟩
  rw [hK] at hk1 hk2
  obtain ⟨PB, hPB⟩ : ∃ q, (if s = 0 then [] else padL z s) = q := ⟨_, rfl⟩
  obtain ⟨PE, hPE⟩ : ∃ q : Int, (if s = 0 then 2 else 0) = q := ⟨_, rfl⟩
  rw [hPB, hPE] at hpd hqd
  obtain ⟨UB, hUB⟩ : ∃ q, unpB z = q := ⟨_, rfl⟩
  obtain ⟨UE, hUE⟩ : ∃ q, unpE z = q := ⟨_, rfl⟩
  rw [hUB, hUE] at hud hvd
  have hle := hb.le
  have htp := hb.top
  obtain ⟨SP, hSP⟩ : ∃ q, strOfNums PB = q := ⟨_, rfl⟩
  obtain ⟨SU, hSU⟩ : ∃ q, strOfNums UB = q := ⟨_, rfl⟩
  have HP : Veil (∀ wx (y : Option Addr) (m d : Nat), Bytes wx y m d PB → (convert 28 9 (.slice y m d)).run Tryd.prog wx = .ok (.string SP) wx) := ⟨fun wx y m d h => by rw [← hSP]; exact conv_bytes h⟩
  have HU : Veil (∀ wx (y : Option Addr) (m d : Nat), Bytes wx y m d UB → (convert 28 9 (.slice y m d)).run Tryd.prog wx = .ok (.string SU) wx) := ⟨fun wx y m d h => by rw [← hSU]; exact conv_bytes h⟩
  clear hT hb hz hs hs' hn hK hPB hPE hUB hUE hSP hSU
  go_enter Tryd.func4, Tryd.ntmps4
  go_upto_region 4 with (go_at_call 13; refine (hpd _ (Below.refl _ _)).mono ?_; rintro e w1 ⟨x1, n1, c1, rfl, hy1, hb1⟩)
  clear hpd
  go_upto_region 5 with (go_at_call 14; refine (hqd _ hb1).mono ?_; rintro e w2 ⟨x2, n2, c2, rfl, hy2, hb2⟩)
  have hB2 := hb1.trans (hb2.mono hb1.size)
  have hy12 := hy1.below hb2
  clear hqd hy1
  go_upto_region 6 with (go_at_call 15; refine (hud _ hB2).mono ?_; rintro e w3 ⟨x3, n3, c3, rfl, hy3, hb3⟩)
  have hB3 := hB2.trans (hb3.mono hB2.size)
  have hy13 := hy12.below hb3
  have hy23 := hy2.below hb3
  clear hud hy12 hy2
  go_upto_region 7 with (go_at_call 16; refine (hvd _ hB3).mono ?_; rintro e w4 ⟨x4, n4, c4, rfl, hy4, hb4⟩)
  have hB4 := hB3.trans (hb4.mono hB3.size)
  have hy14 := hy13.below hb4
  have hy24 := hy23.below hb4
  have hy34 := hy3.below hb4
  have hlv4 := hlv _ hB4
  clear hvd hy13 hy23 hy3 hlv
  go_wp2_with (first
    | (go_at_call 11; refine hlv4.mono ?_; rintro e w5 ⟨rfl, hb5⟩; have hB5 := hB4.trans (hb5.mono hB4.size); have k1 := HP.out w5 x1 n1 c1 (hy14.below hb5); have k2 := HP.out w5 x2 n2 c2 (hy24.below hb5); have k3 := HU.out w5 x3 n3 c3 (hy34.below hb5); have k4 := HU.out w5 x4 n4 c4 (hy4.below hb5); have hq1 := hk1 w5 hB5; have hq2 := hk2 w5)
    | (go_at_call 17; refine hq1.mono ?_; rintro e w6 ⟨rfl, rfl⟩)
    | (go_at_call 18; refine hq2.mono ?_; rintro e w6 ⟨rfl, rfl⟩))
  go_ret
  exact ⟨rfl, hB5⟩
theorem pads_all (x : Option Addr) (len cap : Nat) (z : List Int) (N : Int) (w : World) (hT : BTab w) (hb : Bytes w x len cap z) (hz : ∀ v ∈ z, b8 v) :
    Calls Tryd.prog 4 #[.slice x len cap, .int .i64 N] w fun e w' => e = .returned (.bool true) ∧ Below w.heap.size w w' := by
  by_cases h : 5000 < len
  · exact pads_long x len cap z N w hT hb hz h
  · exact pads_few x len cap z N w hT hb hz (by omega)
end Go.Proofs.YtfniachmebppcaaDoor
