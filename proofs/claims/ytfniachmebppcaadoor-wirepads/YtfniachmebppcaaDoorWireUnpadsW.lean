/- The statement WireUnpads, walked. -/
import Derived.Test.YtfniachmebppcaaDoorRd6
import Derived.Test.YtfniachmebppcaaDoorWl
namespace Go.Proofs.YtfniachmebppcaaDoor
open Go.RowKit
set_option maxRecDepth 20000
set_option linter.unusedSimpArgs false

theorem run_cut5000 (w : World) (x : Option Addr) (len cap : Nat) (hh : 5000 ≤ cap) : (Instr.slice 28 (.slice x len cap) none (some (.int .i64 5000)) none).run Tryd.prog w = .ok (.slice (subA x cap 0) 5000 cap) w := run_cut_h w x len cap 5000 hh
theorem Bytes.cut5000 {w : World} {x : Option Addr} {len cap : Nat} {z : List Int} (hb : Bytes w x len cap z) (h : 5000 < len) : Bytes w (subA x cap 0) 5000 cap (z.take 5000) := by
  have := hb.cut 0 5000 (by omega) (by omega)
  simpa using this
set_option maxHeartbeats 4000000 in
theorem unpads_few (x : Option Addr) (len cap : Nat) (z : List Int) (w : World) (hT : BTab w) (hb : Bytes w x len cap z) (hz : ∀ v ∈ z, b8 v) (hl : len ≤ 5000) :
    Calls Tryd.prog 5 #[.slice x len cap] w fun e w' => e = .returned (.bool true) ∧ Below w.heap.size w w' := by
  obtain ⟨s, hs, hs'⟩ := bucketN_in len
  have hpd := Pad_both x len cap z w hT hb s hs (by omega)
  have hlv := fun wx (h : Below w.heap.size w wx) => live6_any wx (hT.below h)
  have hbk := fun wx (h : Below w.heap.size w wx) => bucket_any len wx (hT.below h)
  rw [hs] at hbk
  have hle := hb.le
  have htp := hb.top
  have hn := hb.len_eq
  have h5 : ¬ (len : Int) > 5000 := by omega
  by_cases h0 : s = 0
  · subst h0
    have h4 : (len : Int) > 4094 := by have := bucketN_none len hs; omega
    rw [if_pos rfl, if_pos rfl] at hpd
    clear hT hb hz hs hs' hbk hn
    go_enter Tryd.func5, Tryd.ntmps5
    go_upto_region 4 with (go_at_call 13; refine hpd.mono ?_; rintro e w1 ⟨x1, n1, c1, rfl, hy1, hb1⟩)
    have hn1 : n1 = 0 := hy1.len_eq
    subst hn1
    have hle1 := hy1.le
    have htp1 := hy1.top
    have hlv1 := hlv _ hb1
    clear hy1 hpd hlv
    go_wp2_with (go_at_call 11; refine hlv1.mono ?_; rintro e w2 ⟨rfl, hb2⟩)
    go_ret
    exact ⟨rfl, hb1.trans (hb2.mono hb1.size)⟩
  · rw [if_neg h0, if_neg h0] at hpd
    have hs1 : len + 2 ≤ s ∧ s ≤ 4096 := by omega
    obtain ⟨hok, hun⟩ := padL_ok z s (by omega) (by omega) (by rw [← hn]; exact hs)
    have hpl := padL_length z s (by omega)
    have hpi := padL_in z s hz
    have hup := fun (y : Option Addr) (m d : Nat) wx (h : Below w.heap.size w wx) (hy : Bytes wx y m d (padL z s)) => Unpad_any y m d (padL z s) wx (hT.below h) hy hpi (by omega)
    have e1 : unpE (padL z s) = 0 := by unfold unpE; rw [if_pos hok]
    have e2 : unpB (padL z s) = z := by unfold unpB; rw [if_pos hok, hun]
    rw [e1, e2] at hup
    obtain ⟨P, hP⟩ : ∃ q, padL z s = q := ⟨_, rfl⟩
    rw [hP] at hpd hpl hup
    obtain ⟨SZ, hSZ⟩ : ∃ q, strOfNums z = q := ⟨_, rfl⟩
    have HC : Veil (∀ wx (y : Option Addr) (m d : Nat), Bytes wx y m d z → (convert 28 9 (.slice y m d)).run Tryd.prog wx = .ok (.string SZ) wx) := ⟨fun wx y m d h => by rw [← hSZ]; exact conv_bytes h⟩
    have HB : Veil (∀ wx, Below w.heap.size w wx → Bytes wx x len cap z) := ⟨fun wx h => hb.below h⟩
    have hge : (s : Int) ≥ (len : Int) + 2 := by omega
    have hwr : IntKind.i64.wrap ((len : Int) + 2) = (len : Int) + 2 := by rw [IntKind.wrap_i64]; omega
    clear hT hb hz hs hs' hn hok hun hpi e1 e2 hP hSZ h0
    go_enter Tryd.func5, Tryd.ntmps5
    go_upto_region 6 with (go_at_call 13; refine hpd.mono ?_; rintro e w1 ⟨x1, n1, c1, rfl, hy1, hb1⟩)
    have hn1 := hy1.len_eq
    rw [hpl] at hn1
    subst hn1
    have hle1 := hy1.le
    have htp1 := hy1.top
    have hup1 := hup x1 n1 c1 w1 hb1 hy1
    clear hy1 hpd hup hpl
    go_upto_region 7 with (go_at_call 15; refine hup1.mono ?_; rintro e w2 ⟨x2, n2, c2, rfl, hy2, hb2⟩)
    have hB2 := hb1.trans (hb2.mono hb1.size)
    have hlv2 := hlv _ hB2
    clear hup1 hlv
    go_wp2_with (first
      | (go_at_call 11; refine hlv2.mono ?_; rintro e w3 ⟨rfl, hb3⟩; have hB3 := hB2.trans (hb3.mono hB2.size); have k1 := HC.out w3 x2 n2 c2 (hy2.below hb3); have k2 := HC.out w3 x len cap (HB.out w3 hB3); have hbk3 := hbk w3 hB3)
      | (go_at_call 17; refine hbk3.mono ?_; rintro e w4 ⟨rfl, rfl⟩))
    go_ret
    exact ⟨rfl, hB3⟩
set_option maxHeartbeats 4000000 in
theorem unpads_long (x0 : Option Addr) (len0 cap : Nat) (z0 : List Int) (w : World) (hT : BTab w) (hb0 : Bytes w x0 len0 cap z0) (hz0 : ∀ v ∈ z0, b8 v) (hl0 : 5000 < len0) :
    Calls Tryd.prog 5 #[.slice x0 len0 cap] w fun e w' => e = .returned (.bool true) ∧ Below w.heap.size w w' := by
  have hb := hb0.cut5000 hl0
  have hz : ∀ v ∈ z0.take 5000, b8 v := fun v hv => hz0 v (List.mem_of_mem_take hv)
  have hcut := fun wx => run_cut5000 wx x0 len0 cap (by have := hb0.le; omega)
  obtain ⟨x, hx⟩ : ∃ q, subA x0 cap 0 = q := ⟨_, rfl⟩
  obtain ⟨z, hzz⟩ : ∃ q, z0.take 5000 = q := ⟨_, rfl⟩
  rw [hx] at hb hcut
  rw [hzz] at hb hz
  have k5 : (len0 : Int) > 5000 := by omega
  have kle := hb0.le
  have ktp := hb0.top
  clear hb0 hz0 hl0 hx hzz
  obtain ⟨len, hlen⟩ : ∃ q : Nat, q = 5000 := ⟨_, rfl⟩
  rw [← hlen] at hb
  have hl : len ≤ 5000 := by omega
  have hcut' : ∀ wx : World, (Instr.slice 28 (.slice x0 len0 cap) none (some (.int .i64 5000)) none).run Tryd.prog wx = .ok (.slice x len cap) wx := fun wx => by rw [hlen]; exact hcut wx
  clear hcut hlen
  obtain ⟨s, hs, hs'⟩ := bucketN_in len
  have hpd := Pad_both x len cap z w hT hb s hs (by omega)
  have hlv := fun wx (h : Below w.heap.size w wx) => live6_any wx (hT.below h)
  have hbk := fun wx (h : Below w.heap.size w wx) => bucket_any len wx (hT.below h)
  rw [hs] at hbk
  have hle := hb.le
  have htp := hb.top
  have hn := hb.len_eq
  by_cases h0 : s = 0
  · subst h0
    have h4 : (len : Int) > 4094 := by have := bucketN_none len hs; omega
    rw [if_pos rfl, if_pos rfl] at hpd
    clear hT hb hz hs hs' hbk hn
    go_enter Tryd.func5, Tryd.ntmps5
    go_upto_region 4 with (go_at_call 13; refine hpd.mono ?_; rintro e w1 ⟨x1, n1, c1, rfl, hy1, hb1⟩)
    have hn1 : n1 = 0 := hy1.len_eq
    subst hn1
    have hle1 := hy1.le
    have htp1 := hy1.top
    have hlv1 := hlv _ hb1
    clear hy1 hpd hlv
    go_wp2_with (go_at_call 11; refine hlv1.mono ?_; rintro e w2 ⟨rfl, hb2⟩)
    go_ret
    exact ⟨rfl, hb1.trans (hb2.mono hb1.size)⟩
  · rw [if_neg h0, if_neg h0] at hpd
    have hs1 : len + 2 ≤ s ∧ s ≤ 4096 := by omega
    obtain ⟨hok, hun⟩ := padL_ok z s (by omega) (by omega) (by rw [← hn]; exact hs)
    have hpl := padL_length z s (by omega)
    have hpi := padL_in z s hz
    have hup := fun (y : Option Addr) (m d : Nat) wx (h : Below w.heap.size w wx) (hy : Bytes wx y m d (padL z s)) => Unpad_any y m d (padL z s) wx (hT.below h) hy hpi (by omega)
    have e1 : unpE (padL z s) = 0 := by unfold unpE; rw [if_pos hok]
    have e2 : unpB (padL z s) = z := by unfold unpB; rw [if_pos hok, hun]
    rw [e1, e2] at hup
    obtain ⟨P, hP⟩ : ∃ q, padL z s = q := ⟨_, rfl⟩
    rw [hP] at hpd hpl hup
    obtain ⟨SZ, hSZ⟩ : ∃ q, strOfNums z = q := ⟨_, rfl⟩
    have HC : Veil (∀ wx (y : Option Addr) (m d : Nat), Bytes wx y m d z → (convert 28 9 (.slice y m d)).run Tryd.prog wx = .ok (.string SZ) wx) := ⟨fun wx y m d h => by rw [← hSZ]; exact conv_bytes h⟩
    have HB : Veil (∀ wx, Below w.heap.size w wx → Bytes wx x len cap z) := ⟨fun wx h => hb.below h⟩
    have hge : (s : Int) ≥ (len : Int) + 2 := by omega
    have hwr : IntKind.i64.wrap ((len : Int) + 2) = (len : Int) + 2 := by rw [IntKind.wrap_i64]; omega
    clear hT hb hz hs hs' hn hok hun hpi e1 e2 hP hSZ h0
    go_enter Tryd.func5, Tryd.ntmps5
    go_upto_region 6 with (go_at_call 13; refine hpd.mono ?_; rintro e w1 ⟨x1, n1, c1, rfl, hy1, hb1⟩)
    have hn1 := hy1.len_eq
    rw [hpl] at hn1
    subst hn1
    have hle1 := hy1.le
    have htp1 := hy1.top
    have hup1 := hup x1 n1 c1 w1 hb1 hy1
    clear hy1 hpd hup hpl
    go_upto_region 7 with (go_at_call 15; refine hup1.mono ?_; rintro e w2 ⟨x2, n2, c2, rfl, hy2, hb2⟩)
    have hB2 := hb1.trans (hb2.mono hb1.size)
    have hlv2 := hlv _ hB2
    clear hup1 hlv
    go_wp2_with (first
      | (go_at_call 11; refine hlv2.mono ?_; rintro e w3 ⟨rfl, hb3⟩; have hB3 := hB2.trans (hb3.mono hB2.size); have k1 := HC.out w3 x2 n2 c2 (hy2.below hb3); have k2 := HC.out w3 x len cap (HB.out w3 hB3); have hbk3 := hbk w3 hB3)
      | (go_at_call 17; refine hbk3.mono ?_; rintro e w4 ⟨rfl, rfl⟩))
    go_ret
    exact ⟨rfl, hB3⟩
theorem unpads_all (x : Option Addr) (len cap : Nat) (z : List Int) (w : World) (hT : BTab w) (hb : Bytes w x len cap z) (hz : ∀ v ∈ z, b8 v) :
    Calls Tryd.prog 5 #[.slice x len cap] w fun e w' => e = .returned (.bool true) ∧ Below w.heap.size w w' := by
  by_cases h : 5000 < len
  · exact unpads_long x len cap z w hT hb hz h
  · exact unpads_few x len cap z w hT hb hz (by omega)
end Go.Proofs.YtfniachmebppcaaDoor
