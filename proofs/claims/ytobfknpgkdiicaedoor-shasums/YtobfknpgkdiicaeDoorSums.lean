/- The digest is the reference's (the statement ShaSums), walked. -/
import Derived.Test.YtobfknpgkdiicaeDoorEq
import Derived.Test.YtobfknpgkdiicaeDoorRefSum
import Derived.Test.YtobfknpgkdiicaeDoorStr
namespace Go.Proofs.YtobfknpgkdiicaeDoor
open Go.RowKit
set_option maxRecDepth 20000
set_option linter.unusedSimpArgs false

theorem OwnB.ofHoldsR {w : World} {g base : Nat} {l : List Int} (h : Holds w g .u8 5 l) (hb : base ≤ g) (hl : l.length ≤ 4000000) : OwnB w base (.slice (some ⟨g, 0, none⟩) l.length l.length) l :=
  ⟨by simp, .inr ⟨g, l.length, row .u8 l, rfl, hb, h, Nat.le_refl _, by simp [maxLen]; omega, by rw [row_size]; omega, by simp only [row, Nat.mul_one]; exact List.take_of_length_le (by simp)⟩⟩

set_option maxHeartbeats 4000000 in
theorem sums_walk (x : Option Addr) (len cap : Nat) (z : List Int) (w : World) (hk : KTab w) (hz : Bytes w x len cap z) :
    Calls Tryd.prog 4 #[.slice x len cap] w fun e w' => e = .returned (.bool true) ∧ Below w.heap.size w w' := by
  have hf0 := few_any x len cap 600 z w hz (by omega) (by omega)
  have hz5 := hz.few 600
  obtain ⟨m, hm⟩ : ∃ m, min len 600 = m := ⟨_, rfl⟩
  obtain ⟨y, hy⟩ : ∃ y, z.take 600 = y := ⟨_, rfl⟩
  have hm5 : m ≤ 600 := by omega
  rw [hm] at hf0 hz5
  rw [hy] at hz5
  clear hm hy hz
  have hmy := hz5.len_eq
  have s1 : ∀ (x : Option Addr) (len cap : Nat) (wx : World), Bytes wx x len cap y → KTab wx → Calls Tryd.prog 9 #[.slice x len cap] wx fun e w' => e = .returned (.agg (row .u8 (sumL y))) ∧ Below wx.heap.size wx w' := fun x len cap wx h hk => sum_any x len cap y wx h (by have := h.len_eq; omega) hk
  have s2 : ∀ (x : Option Addr) (len cap : Nat) (wx : World), Bytes wx x len cap y → Calls Tryd.prog 10 #[.slice x len cap] wx fun e w' => e = .returned (.agg (row .u8 (sumL y))) ∧ Below wx.heap.size wx w' := fun x len cap wx h => refSum_any x len cap y wx h (by have := h.len_eq; omega)
  have hE := fun wx => eqKey (sumL y) (sumL y) (sumL_length y) (sumL_length y) wx
  have hgd := guardKey
  obtain ⟨D, hD⟩ : ∃ D, sumL y = D := ⟨_, rfl⟩
  rw [hD] at s1 s2 hE
  rw [beq_self_eq_true] at hE
  clear hD
  have hE0 : OwnB (w.alloc (.cells #[] 5)) w.heap.size (.slice (some ⟨w.heap.size, 0, none⟩) 0 0) [] := OwnB.ofHoldsR (Holds.new w .u8 5 []) (Nat.le_refl _) (by simp)
  have hz1 : Bytes (w.alloc (.cells #[] 5)) x m cap y := hz5.below ((Below.refl _ _).alloc (Nat.le_refl _) _)
  have HMY : VeilR (m = y.length) := ⟨hmy⟩
  clear hmy
  go_enter Tryd.func4, Tryd.ntmps4
  go_upto_region 3 with (first
    | (go_at_call 8; refine hf0.mono ?_; rintro e w' ⟨rfl, rfl⟩)
    | (at_builtin; refine wpList_app rfl _ _ rfl w.heap.size _ [] rfl hE0 x m cap y rfl hz1 (by simp; omega) (by simp) ?_; intro v1 w1 ho1 hg1))
  have hB1 : Below w.heap.size w w1 := below_grown ((Below.refl _ _).alloc (Nat.le_refl _) _) hE0 hg1 (by simp)
  rw [List.nil_append] at ho1
  obtain ⟨x1, n1, c1, rfl, hn1⟩ := ho1.isSlice
  have hy1 : Bytes w1 x1 n1 c1 y := ho1.bytes.2
  clear hn1 ho1 hg1 hE0 hz1 hf0
  have hzy : Bytes w1 x m cap y := hz5.below hB1
  have hk1 : KTab w1 := hk.below hB1
  obtain ⟨SY, hSY⟩ : ∃ s, strOfNums y = s := ⟨_, rfl⟩
  have cvs : ∀ wx, Below w1.heap.size w1 wx → (convert 24 9 (.slice x1 n1 c1)).run Tryd.prog wx = .ok (.string SY) wx ∧ (convert 24 9 (.slice x m cap)).run Tryd.prog wx = .ok (.string SY) wx := fun wx hb =>
    ⟨by rw [← hSY]; exact conv_bytes (hy1.below hb), by rw [← hSY]; exact conv_bytes (hzy.below hb)⟩
  clear hSY hk
  go_wp2_with (first
    | (go_at_call 5; refine (live_any _ hk1).mono ?_; rintro e w2 ⟨rfl, hb2⟩)
    | (go_at_call 9; refine (s1 x1 n1 c1 _ (hy1.below hb2) (hk1.below hb2)).mono ?_; rintro e w3 ⟨rfl, hb3⟩; have hB3 : Below w1.heap.size w1 w3 := hb2.trans (hb3.mono hb2.size))
    | (go_at_call 10; refine (s2 x m cap _ (hzy.below hB3)).mono ?_; rintro e w4 ⟨rfl, hb4⟩; have hB4 : Below w1.heap.size w1 w4 := hB3.trans (hb4.mono hB3.size); obtain ⟨cv1, cv2⟩ := cvs _ hB4))
  go_ret
  exact ⟨rfl, hB1.trans (hB4.mono hB1.size)⟩
end Go.Proofs.YtobfknpgkdiicaeDoor
