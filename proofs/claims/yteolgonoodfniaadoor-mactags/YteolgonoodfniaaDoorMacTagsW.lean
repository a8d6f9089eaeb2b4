/- The statement MacTags, walked. -/
import Derived.Test.YteolgonoodfniaaDoorLive2
import Derived.Test.YteolgonoodfniaaDoorRefMac
import Derived.Test.YteolgonoodfniaaDoorStrB
import Derived.Test.YteolgonoodfniaaDoorEq
namespace Go.Proofs.YteolgonoodfniaaDoor
open Go.RowKit
set_option maxRecDepth 20000
set_option linter.unusedSimpArgs false

set_option maxHeartbeats 4000000 in
theorem mactags_walk (x : Option Addr) (len cap : Nat) (z0 : List Int) (y : Option Addr) (lb cb : Nat) (b0 : List Int) (w : World) (hKT : KTab w) (hx : Bytes w x len cap z0) (hy : Bytes w y lb cb b0) :
    Calls Tryd.prog 3 #[.slice x len cap, .slice y lb cb] w fun e w' => e = .returned (.bool true) ∧ Below w.heap.size w w' := by
  have hf1 : Calls Tryd.prog 9 #[.slice x len cap, .int .i64 200] w (fun e w' => e = .returned (.slice x (min len 200) cap) ∧ w = w') := few2_any x len cap 200 z0 w hx (by omega) (by omega)
  have hf2 : Calls Tryd.prog 9 #[.slice y lb cb, .int .i64 300] w (fun e w' => e = .returned (.slice y (min lb 300) cb) ∧ w = w') := few2_any y lb cb 300 b0 w hy (by omega) (by omega)
  have hx6 := hx.fewM 200
  have hy6 := hy.fewM 300
  obtain ⟨m, hm⟩ : ∃ q, min len 200 = q := ⟨_, rfl⟩
  obtain ⟨z, hz⟩ : ∃ q, z0.take 200 = q := ⟨_, rfl⟩
  obtain ⟨k, hk⟩ : ∃ q, min lb 300 = q := ⟨_, rfl⟩
  obtain ⟨b, hb⟩ : ∃ q, b0.take 300 = q := ⟨_, rfl⟩
  have hm6 : m ≤ 200 := by omega
  have hk3 : k ≤ 300 := by omega
  rw [hm] at hf1 hx6
  rw [hk] at hf2 hy6
  rw [hz] at hx6
  rw [hb] at hy6
  clear hm hz hk hb hx hy
  have hTl := tagL_length z b
  have hH : ∀ (x1 : Option Addr) (c1 : Nat) (y1 : Option Addr) (d1 : Nat) (wx : World), Below w.heap.size w wx → Bytes wx x1 m c1 z → Bytes wx y1 k d1 b → Calls Tryd.prog 11 #[.slice x1 m c1, .slice y1 k d1] wx fun e w' => e = .returned (.agg (row .u8 (tagL z b))) ∧ Below wx.heap.size wx w' := fun x1 c1 y1 d1 wx h1 h2 h3 =>
    hmac_any x1 m c1 z y1 k d1 b wx h2 (by omega) h3 (by omega) (hKT.below h1)
  have hR : ∀ (wx : World), Below w.heap.size w wx → Calls Tryd.prog 12 #[.slice x m cap, .slice y k cb] wx fun e w' => e = .returned (.agg (row .u8 (tagL z b))) ∧ Below wx.heap.size wx w' := fun wx h1 =>
    refHmac_any x m cap z y k cb b wx (hx6.below h1) (by omega) (hy6.below h1) (by omega)
  have hgd := guardKey
  obtain ⟨TG, hTG⟩ : ∃ q, tagL z b = q := ⟨_, rfl⟩
  rw [hTG] at hTl hH hR
  have hE := fun wx => eqKey TG TG hTl hTl wx
  rw [beq_self_eq_true] at hE
  clear hTG
  have hzl : VeilM (m = z.length) := ⟨hx6.len_eq⟩
  have hbl : VeilM (k = b.length) := ⟨hy6.len_eq⟩
  have hb0 : Below w.heap.size w (w.alloc (.cells #[] 5)) := (Below.refl _ _).alloc (Nat.le_refl _) _
  have hxA := hx6.below hb0
  have hoA := OwnB.empty w w.heap.size (Nat.le_refl _)
  go_enter Tryd.func3, Tryd.ntmps3
  go_upto_region 2 with (first
    | (go_at_call 9; with_reducible refine hf1.mono ?_; rintro e w' ⟨rfl, rfl⟩)
    | (go_at_call 9; with_reducible refine hf2.mono ?_; rintro e w' ⟨rfl, rfl⟩))
  clear hf1 hf2
  go_upto_region 3 with (first
    | (at_builtin; refine wpList_app rfl _ _ rfl w.heap.size _ [] rfl hoA x m cap z rfl hxA (by simp; omega) (by simp) ?_; intro v1 w1 ho1 hg1; rw [List.nil_append] at ho1; have hB1 : Below w.heap.size w w1 := below_grown hb0 hoA hg1 (by simp); have hoE := OwnB.empty w1 w1.heap.size (Nat.le_refl _); have hb1 : Below w1.heap.size w1 (w1.alloc (.cells #[] 5)) := ((Below.refl _ _).alloc (Nat.le_refl _) _); have hyE := (hy6.below hB1).below hb1)
    | (at_builtin; refine wpList_app rfl _ _ rfl w1.heap.size _ [] rfl hoE y k cb b rfl hyE (by simp; omega) (by simp) ?_; intro v2 w2 ho2 hg2; rw [List.nil_append] at ho2; have hb2 : Below w1.heap.size w1 w2 := below_grown hb1 hoE hg2 (by simp)))
  have hB2 : Below w.heap.size w w2 := hB1.trans (hb2.mono hB1.size)
  have ho3 := ho1.belowM hb2
  obtain ⟨x1, n1, c1, hv1, hn1⟩ := ho3.isSlice
  subst hv1
  obtain ⟨y1, k1, d1, hv2, hn2⟩ := ho2.isSlice
  subst hv2
  obtain rfl : n1 = m := by rw [hn1, hzl.out]
  obtain rfl : k1 = k := by rw [hn2, hbl.out]
  have hk1 := ho3.bytes.2
  have hk2 := ho2.bytes.2
  have cx := fun wx (h : Below w.heap.size w wx) => conv_bytes (hx6.below h)
  have cy := fun wx (h : Below w.heap.size w wx) => conv_bytes (hy6.below h)
  have cx1 := fun wx (h : Below w2.heap.size w2 wx) => conv_bytes (hk1.below h)
  have cy1 := fun wx (h : Below w2.heap.size w2 wx) => conv_bytes (hk2.below h)
  obtain ⟨SA, hSA⟩ : ∃ s, strOfNums z = s := ⟨_, rfl⟩
  obtain ⟨SB, hSB⟩ : ∃ s, strOfNums b = s := ⟨_, rfl⟩
  rw [hSA] at cx cx1
  rw [hSB] at cy cy1
  clear hSA hSB hg1 hg2 hb1 hb2 ho1 ho2 ho3 hoA hoE hxA hyE hb0 hB1 hn1 hn2 hzl hbl hx6 hy6
  go_wp2_with (first
    | (go_at_call 10; refine (live2_any _ (hKT.below hB2)).mono ?_; rintro e w3 ⟨rfl, hb3⟩; have hB3 : Below w.heap.size w w3 := hB2.trans (hb3.mono hB2.size))
    | (go_at_call 11; refine (hH _ _ _ _ _ hB3 (hk1.below hb3) (hk2.below hb3)).mono ?_; rintro e w4 ⟨rfl, hb4⟩; have hB4 : Below w.heap.size w w4 := hB3.trans (hb4.mono hB3.size); have hb24 : Below w2.heap.size w2 w4 := hb3.trans (hb4.mono hb3.size))
    | (go_at_call 12; refine (hR _ hB4).mono ?_; rintro e w5 ⟨rfl, hb5⟩; have hB5 : Below w.heap.size w w5 := hB4.trans (hb5.mono hB4.size); have hb25 : Below w2.heap.size w2 w5 := hb24.trans (hb5.mono hb24.size); have q1 := cx _ hB5; have q2 := cy _ hB5; have q3 := cx1 _ hb25; have q4 := cy1 _ hb25))
  go_ret
  exact ⟨rfl, hB5⟩
end Go.Proofs.YteolgonoodfniaaDoor
