/- The reference's tag, and Seal. Gate: two operations that may come up, in either order; a place where ways meet again. Strings of bytes: the same, if the bytes are. -/
import Derived.Test.YtnblcdpahpcglaaAo2
import Derived.Test.YtnblcdpahpcglaaAn5
import Derived.Test.YtnblcdpahpcglaaCz
import Derived.Test.YtnblcdpahpcglaaRf
import Derived.Test.YtnblcdpahpcglaaGate
import Derived.Test.YtnblcdpahpcglaaGb
namespace Go.Proofs.Ytnblcdpahpcglaa
open Go.RowKit
set_option maxRecDepth 20000
set_option linter.unusedSimpArgs false

theorem OwnB.afar {w w' : World} {base : Nat} {v : Value} {z : List Int} (h : OwnB w base v z) (hb : Below w.heap.size w w') : OwnB w' base v z := h.keep (fun g _ hg => hb.block g hg)
/-- The reference's tag. -/
theorem refTag_any (k n o s : List Int) (v : Value) (base : Nat) (w : World) (ho : OwnB w base v (framedL o s)) (huo : ∀ v ∈ o, isB v) (hus : ∀ v ∈ s, isB v) (hl : (framedL o s).length ≤ 1000000) :
    Calls Try.prog 12 #[.agg (row .u8 (onceL k n)), v] w fun e w' => e = .returned (.agg (row .u8 (tagL k n o s))) ∧ Below w.heap.size w w' := by
  obtain ⟨x', n', c', rfl, hn'⟩ := ho.isSlice
  exact refSum_any (onceL k n) x' n' c' (framedL o s) w (onceL_length k n) (fun v hv => joinK_u8 _ 16 v (List.mem_of_mem_take hv)) ho.bytes.2 (framedL_in o s huo hus) (by rw [hn']; exact hl)

set_option maxHeartbeats 2000000 in
theorem refSeal_any (k n : List Int) (x : Option Addr) (len cap : Nat) (o : List Int) (y : Option Addr) (lb cb : Nat) (b : List Int) (w : World) (hk : k.length = 32) (hn : n.length = 12) (hx : Bytes w x len cap o) (hy : Bytes w y lb cb b) (hl1 : len ≤ 100000) (hl2 : lb ≤ 100000) (huo : ∀ v ∈ o, isB v) (hub : ∀ v ∈ b, isB v) :
    Calls Try.prog 16 #[.agg (row .u8 k), .agg (row .u8 n), .slice x len cap, .slice y lb cb] w fun e w' => ∃ v, e = .returned v ∧ OwnB w' w.heap.size v (sealL k n o b) ∧ Below w.heap.size w w' := by
  have hxor := fun wx (hb : Below w.heap.size w wx) => refXor_any k n 1 y lb cb b wx hk hn (hy.below hb) (by omega)
  have hXl : (xorL k n 1 b).length = lb := by rw [xorL_length]; exact hy.len_eq.symm
  have hXu := xorL_in k n 1 b hub
  have HSE : Veil (xorL k n 1 b ++ tagL k n o (xorL k n 1 b) = sealL k n o b) := ⟨rfl⟩
  have hTl : (tagL k n o (xorL k n 1 b)).length = 16 := polyL_length _ _
  have hon := fun wx => refOnce_any k n wx hk hn
  have HFL : Veil ((framedL o (xorL k n 1 b)).length ≤ 1000000) := ⟨by rw [framedL_length, ← hx.len_eq, hXl]; have := fillN_lt len; have := fillN_lt lb; omega⟩
  have hfr := fun (v : Option Addr) (c : Nat) wx (hb : Below w.heap.size w wx) (hh : Bytes wx v lb c (xorL k n 1 b)) => refFramed_any x len cap o v lb c (xorL k n 1 b) wx (hx.below hb) hh hl1 hl2
  have htg := fun (v : Value) (base : Nat) (wx : World) (ho : OwnB wx base v (framedL o (xorL k n 1 b))) => refTag_any k n o (xorL k n 1 b) v base wx ho huo hXu HFL.out
  obtain ⟨X, hX⟩ : ∃ q, xorL k n 1 b = q := ⟨_, rfl⟩
  rw [hX] at hxor hXl HSE hTl hfr htg
  obtain ⟨T, hT⟩ : ∃ q, tagL k n o X = q := ⟨_, rfl⟩
  rw [hT] at HSE hTl htg
  obtain ⟨F, hF⟩ : ∃ q, framedL o X = q := ⟨_, rfl⟩
  rw [hF] at hfr htg
  obtain ⟨OT, hOT⟩ : ∃ q, onceL k n = q := ⟨_, rfl⟩
  rw [hOT] at hon htg
  have HXL : Veil (X.length = lb) := ⟨hXl⟩
  have hK0 := (Holds.new w .u8 23 k).alloc (.cells (row .u8 n) 32)
  have hN0 := Holds.new (w.alloc (.cells (row .u8 k) 23)) .u8 32 n
  have hB0 : Below w.heap.size w ((w.alloc (.cells (row .u8 k) 23)).alloc (.cells (row .u8 n) 32)) := ((Below.refl _ _).alloc (Nat.le_refl _) _).alloc (by simp) _
  rw [World.size_alloc] at hN0
  clear hX hT hF hOT hx hy huo hub hXu HFL hXl
  go_enter Try.func16, Try.ntmps16
  go_upto_region 1 with fail
  refine forget (p := fun y => Code.wp _ _ _ _ y) (fun W0 => Below w.heap.size w W0 ∧ Holds W0 w.heap.size .u8 23 k ∧ Holds W0 (w.heap.size + 1) .u8 32 n) ⟨hB0, hK0, hN0⟩ ?_
  clear hK0 hN0 hB0
  rintro W0 ⟨hB0, hK0, hN0⟩
  go_upto_region 2 with (first
    | (refine wpList_ld rfl 23 _ rfl _ rfl hK0 Try.underlying23 sizeK hk ?_)
    | (refine wpList_ld rfl 32 _ rfl _ rfl hN0 Try.underlying32 sizeN hn ?_)
    | (go_at_call 36; refine (hxor _ hB0).mono ?_; rintro e w1 ⟨v1, rfl, ho1, hb1⟩))
  have hB1 : Below w.heap.size w w1 := hB0.trans (hb1.mono hB0.size)
  have hK1 := hK0.below hb1 hK0.lt
  have hN1 := hN0.below hb1 hN0.lt
  obtain ⟨x1, n1, c1, rfl, hn1⟩ := ho1.isSlice
  rw [HXL.out] at hn1
  have hn1' := hn1.symm
  clear hn1
  subst hn1'
  have hW0 := hB0.size
  have ho1' := ho1.lessG (base' := w.heap.size) hW0
  have hBy1 := ho1.bytes.2
  clear hxor hK0 hN0 ho1 hb1 hB0
  go_upto_region 3 with (first
    | (refine wpList_ld rfl 23 _ rfl _ rfl hK1 Try.underlying23 sizeK hk ?_)
    | (refine wpList_ld rfl 32 _ rfl _ rfl hN1 Try.underlying32 sizeN hn ?_)
    | (go_at_call 21; refine (hon _).mono ?_; rintro e w2 ⟨rfl, hb2⟩; have hB2 : Below w.heap.size w w2 := hB1.trans (hb2.mono hB1.size); have hfr2 := hfr x1 c1 w2 hB2 (hBy1.below hb2))
    | (go_at_call 22; refine hfr2.mono ?_; rintro e w3 ⟨v3, rfl, ho3, hb3⟩; have htg3 := htg v3 _ w3 ho3)
    | (go_at_call 12; refine htg3.mono ?_; rintro e w4 ⟨rfl, hb4⟩; have hA4 := Holds.new w4 .u8 28 (List.replicate 16 0))
    | (refine wpList_st rfl 28 _ _ rfl _ rfl rfl hA4 (by rw [hTl]; exact sizeT) (by simp [hTl]) ?_))
  have hb14 : Below w1.heap.size w1 w4 := (hb2.trans (hb3.mono hb2.size)).trans (hb4.mono (hb2.trans (hb3.mono hb2.size)).size)
  have hb15 : Below w1.heap.size w1 ((w4.alloc (.cells (row .u8 (List.replicate 16 0)) 28)).setRow w4.heap.size (row .u8 T)) := below_setRow (hb14.alloc hb14.size _) hb14.size _
  refine forget (p := fun y => Code.wp _ _ _ _ y) (fun W5 => Below w.heap.size w W5 ∧ Holds W5 w4.heap.size .u8 28 T ∧ OwnB W5 w.heap.size (.slice x1 lb c1) X) ⟨hB1.trans (hb15.mono hB1.size), hA4.setRow _, ho1'.afar hb15⟩ ?_
  obtain ⟨G, hG⟩ : ∃ q, w4.heap.size = q := ⟨_, rfl⟩
  rw [hG]
  clear hG hb14 hb15 hA4 hb4 htg3 ho3 hb3 hfr2 hB2 hb2 hBy1 ho1' hK1 hN1 hB1 hfr htg hon
  rintro W5 ⟨hB5, hG5, ho5⟩
  have hT5 : Bytes W5 (some ⟨G, 0, none⟩) 16 16 T := hG5.bytes hTl.symm (by omega)
  go_wp2_with (at_builtin; refine wpList_app rfl _ _ rfl w.heap.size _ X rfl ho5 (some ⟨G, 0, none⟩) 16 16 T rfl hT5 (by rw [HXL.out]; omega) hB5.size ?_; intro v6 w6 ho6 hg6)
  rw [HSE.out] at ho6
  go_ret
  exact ⟨_, rfl, ho6, below_grown hB5 ho5 hg6 hB5.size⟩
end Go.Proofs.Ytnblcdpahpcglaa

namespace Go.Proofs.Ytnblcdpahpcglaa
open Go Go.RowKit

section
variable {P : Program} {ops : Array Oper} {Q : Exit → Act → World → Prop} {md : Region.Mode} {S : World → Prop} {D : Nat}
/-- One of the two that may come up comes up. -/
theorem wpAnyG_two {i j : Nat} {oi oj : Oper} {fuel : Nat} {listed : Array Bool} {a : Act} {w : World} (hi : ops[i]? = some oi) (hj : ops[j]? = some oj) (hr : Region.ready md ops listed = [i, j])
    (hwi : Region.wanted oi (yielded ops a.tmps) = true) (hwj : Region.wanted oj (yielded ops a.tmps) = true)
    (h1 : ∀ K' : Act → World → Prop, Shut (∀ a w, ((listed.setIfInBounds i true).getD D true = false → S w) → wpAnyG P md ops Q S D fuel (listed.setIfInBounds i true) a w → K' a w) → Oper.wp P oi a w K' Q)
    (h2 : ∀ K' : Act → World → Prop, Shut (∀ a w, ((listed.setIfInBounds j true).getD D true = false → S w) → wpAnyG P md ops Q S D fuel (listed.setIfInBounds j true) a w → K' a w) → Oper.wp P oj a w K' Q) : wpAnyG P md ops Q S D (fuel + 1) listed a w :=
  ⟨fun h0 => (by rw [hr] at h0; cases h0), fun q hq => by
    rw [hr] at hq
    rcases List.mem_cons.1 hq with rfl | hq
    · refine wpOp_step hi (fun K' hK => ?_)
      rw [if_pos hwi]
      exact h1 K' (fun a w h1 h2 => hK a w ⟨h1, h2⟩)
    · obtain rfl : q = j := by simpa using hq
      refine wpOp_step hj (fun K' hK => ?_)
      rw [if_pos hwj]
      exact h2 K' (fun a w h1 h2 => hK a w ⟨h1, h2⟩)⟩
end
/-- Ways that end alike: the end is proved once. -/
theorem meet {α : Prop} (R : Nat → Value → World → Prop) (C : Nat → Value → World → Prop) (use : Veil (∀ g v w, R g v w → C g v w) → α) (prove : ∀ g v w, R g v w → C g v w) : α := use ⟨prove⟩
end Go.Proofs.Ytnblcdpahpcglaa

namespace Go.Proofs.Ytnblcdpahpcglaa
open Go.RowKit

theorem strOfNums_inj (a b : List Int) (ha : ∀ v ∈ a, 0 ≤ v ∧ v ≤ 255) (hb : ∀ v ∈ b, 0 ≤ v ∧ v ≤ 255) (h : (strOfNums a).toList = (strOfNums b).toList) : a = b := by
  rw [ByteArray.toList_eq, ByteArray.toList_eq] at h
  have h2 : (a.map fun n => UInt8.ofNat n.toNat) = (b.map fun n => UInt8.ofNat n.toNat) := by rw [← strOfNums_data, ← strOfNums_data]; exact h
  have hl : a.length = b.length := by have := congrArg List.length h2; simpa using this
  apply List.ext_getElem hl
  intro i h1 h3
  have e : UInt8.ofNat a[i].toNat = UInt8.ofNat b[i].toNat := by
    have := congrArg (fun l => l[i]?) h2
    simpa [h1, h3] using this
  have ba := ha _ (List.getElem_mem h1)
  have bb := hb _ (List.getElem_mem h3)
  have e2 := congrArg UInt8.toNat e
  simp at e2
  omega
theorem strEq (z b : List Int) (hz : ∀ v ∈ z, 0 ≤ v ∧ v ≤ 255) (hb : ∀ v ∈ b, 0 ≤ v ∧ v ≤ 255) : ((strOfNums z).toList == (strOfNums b).toList) = (z == b) := by
  by_cases he : z = b
  · subst he; rw [beq_self_eq_true, beq_self_eq_true]
  · have e2 : (z == b) = false := by rw [beq_eq_false_iff_ne]; exact he
    rw [e2, beq_eq_false_iff_ne]
    intro h
    exact he (strOfNums_inj _ _ hz hb h)
end Go.Proofs.Ytnblcdpahpcglaa
