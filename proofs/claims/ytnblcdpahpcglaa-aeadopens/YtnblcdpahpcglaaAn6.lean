/- Open of Seal; 'few' and 'live' of the statements on aead. -/
import Derived.Test.YtnblcdpahpcglaaAn5
import Derived.Lib.SlBytesConst
namespace Go.Proofs.Ytnblcdpahpcglaa
open Go.RowKit
set_option maxRecDepth 20000
set_option linter.unusedSimpArgs false

theorem sealL_length (k n o b : List Int) : (sealL k n o b).length = b.length + 16 := by
  unfold sealL
  rw [List.length_append, xorL_length, show (tagL k n o (xorL k n 1 b)).length = 16 from polyL_length _ _]
theorem seal_take (k n o b : List Int) (m : Nat) (hm : m = b.length) : (sealL k n o b).take m = xorL k n 1 b := by
  unfold sealL
  rw [List.take_left' (by rw [xorL_length, hm])]
theorem seal_drop (k n o b : List Int) (m : Nat) (hm : m = b.length) : (sealL k n o b).drop m = tagL k n o (xorL k n 1 b) := by
  unfold sealL
  rw [List.drop_left' (by rw [xorL_length, hm])]
theorem sealL_in (k n o b : List Int) (ho : ∀ v ∈ o, isB v) (hb : ∀ v ∈ b, isB v) : ∀ v ∈ sealL k n o b, isB v := by
  intro v hv
  unfold sealL at hv
  rcases List.mem_append.1 hv with h | h
  · exact xorL_in k n 1 b hb v h
  · exact tagL_in k n o _ ho (xorL_in k n 1 b hb) v h
/-- What was sealed is opened. -/
theorem back_any (k n : List Int) (x : Option Addr) (len cap : Nat) (o : List Int) (y : Option Addr) (ly cy : Nat) (b : List Int) (w : World) (hk : k.length = 32) (hn : n.length = 12) (hx : Bytes w x len cap o) (hy : Bytes w y ly cy (sealL k n o b)) (hl1 : len ≤ 100000) (hl2 : b.length ≤ 99000) (huo : ∀ v ∈ o, isB v) (hub : ∀ v ∈ b, isB v) :
    Calls Try.prog 17 #[.agg (row .u8 k), .agg (row .u8 n), .slice x len cap, .slice y ly cy] w fun e w' => ∃ g, e = .returned (.tuple #[.slice (some ⟨g, 0, none⟩) b.length b.length, .int .i64 0]) ∧ w.heap.size ≤ g ∧ Holds w' g .u8 5 b ∧ Below w.heap.size w w' := by
  have hl : ly = b.length + 16 := by rw [hy.len_eq, sealL_length]
  have h := open_ok k n x len cap o y ly cy (sealL k n o b) w hk hn hx hy hl1 (by omega) (by omega) huo (sealL_in k n o b huo hub) (by rw [seal_take k n o b _ (by omega), seal_drop k n o b _ (by omega)])
  rw [seal_take k n o b _ (by omega), xor_twice k n 1 b hub, show ly - 16 = b.length by omega] at h
  exact h
theorem few5_any (x : Option Addr) (len cap n : Nat) (z : List Int) (w : World) (h : Bytes w x len cap z) (hn : 0 < n) (hn2 : n ≤ 1000000) :
    Calls Try.prog 13 #[.slice x len cap, .int .i64 n] w fun e w' => e = .returned (.slice x (min len n) cap) ∧ w = w' := by
  have hle := h.le
  have htop := h.top
  by_cases hlt : n < len
  · obtain ⟨b, off, rfl⟩ : ∃ b off, x = some ⟨b, off, none⟩ := by
      rcases h.at_ with h0 | ⟨b, off, hx, _⟩
      · omega
      · exact ⟨b, off, hx⟩
    rw [Nat.min_eq_right (by omega)]
    go_enter Try.func13, Try.ntmps13
    go_wp2
    go_ret
    exact ⟨rfl, rfl⟩
  · rw [Nat.min_eq_left (by omega)]
    go_enter Try.func13, Try.ntmps13
    go_wp2
    go_ret
    exact ⟨rfl, rfl⟩

def lvK : List Int := 1 :: List.replicate 31 0
def lvN : List Int := 2 :: List.replicate 11 0
theorem lv_text : strOfNums [116, 101, 120, 116] = { data := #[116, 101, 120, 116] } := by decide
set_option maxHeartbeats 2000000 in
theorem live5_any (w : World) :
    Calls Try.prog 14 #[] w fun e w' => e = .returned (.bool true) ∧ Below w.heap.size w w' := by
  have kc := fun (w : World) (C : Array Value) (n c : Nat) => Lib.run_convert_bytes_const (P := Try.prog) w 24 5 C n c Try.underlying24 Try.underlying5
  have kc2 := kc (w.alloc (.cells #[.int .u8 97] 5 (1, 2))) #[.int .u8 116, .int .u8 101, .int .u8 120, .int .u8 116] 4 4
  rw [World.size_alloc] at kc2
  have hua : ∀ v ∈ ([97] : List Int), isB v := fun v hv => by simp at hv; subst hv; exact ⟨by omega, by omega⟩
  have hut : ∀ v ∈ ([116, 101, 120, 116] : List Int), isB v := fun v hv => by simp at hv; unfold isB; omega
  have hseal := fun (wx : World) (x y : Option Addr) (hx : Bytes wx x 1 1 [97]) (hy : Bytes wx y 4 4 [116, 101, 120, 116]) => seal_any lvK lvN x 1 1 [97] y 4 4 [116, 101, 120, 116] wx rfl rfl hx hy (by omega) (by omega)
  have hopen := fun (wx : World) (x y : Option Addr) (ly cy : Nat) (hx : Bytes wx x 1 1 [97]) (hy : Bytes wx y ly cy (sealL lvK lvN [97] [116, 101, 120, 116])) => back_any lvK lvN x 1 1 [97] y ly cy [116, 101, 120, 116] wx rfl rfl hx hy (by omega) (by decide) hua hut
  have hSl := sealL_length lvK lvN [97] [116, 101, 120, 116]
  obtain ⟨SL, hSL⟩ : ∃ q, sealL lvK lvN [97] [116, 101, 120, 116] = q := ⟨_, rfl⟩
  rw [hSL] at hseal hopen hSl
  have hSl' : SL.length = 20 := hSl
  clear hSL hua hut hSl
  have hb1 : Below w.heap.size w ((w.alloc (.cells (row .u8 [97]) 5 (1, 2))).alloc (.cells (row .u8 [116, 101, 120, 116]) 5 (4, 5))) := ((Below.refl _ _).alloc (Nat.le_refl _) _).alloc (by simp) _
  have hA1 := (bytes_marked w [97] (1, 2) (by decide)).below (w' := (w.alloc (.cells (row .u8 [97]) 5 (1, 2))).alloc (.cells (row .u8 [116, 101, 120, 116]) 5 (4, 5))) ((Below.refl _ _).alloc (Nat.le_refl _) _)
  have hT1 := bytes_marked (w.alloc (.cells (row .u8 [97]) 5 (1, 2))) [116, 101, 120, 116] (4, 5) (by decide)
  rw [World.size_alloc] at hT1
  have hs1 := hseal _ _ _ hA1 hT1
  clear hA1 hT1 hseal
  go_enter Try.func14, Try.ntmps14
  go_upto_region 2 with (go_at_call 15; refine hs1.mono ?_; rintro e w3 ⟨v3, rfl, ho3, hb3⟩)
  have hB3 : Below w.heap.size w w3 := hb1.trans (hb3.mono hb1.size)
  obtain ⟨x3, n3, c3, rfl, hn3⟩ := ho3.isSlice
  rw [hSl'] at hn3
  subst hn3
  have hS3 := ho3.bytes.2
  have hb4 : Below w3.heap.size w3 (w3.alloc (.cells (row .u8 [97]) 5 (1, 2))) := (Below.refl _ _).alloc (Nat.le_refl _) _
  have ho4 := hopen _ _ _ _ _ (bytes_marked w3 [97] (1, 2) (by decide)) (hS3.below hb4)
  have hB4 : Below w.heap.size w (w3.alloc (.cells (row .u8 [97]) 5 (1, 2))) := hB3.trans (hb4.mono hB3.size)
  clear hopen hS3 hb4 ho3 hb3 hb1 hs1
  go_upto_region 3 with (go_at_call 17; refine ho4.mono ?_; rintro e w5 ⟨g5, rfl, hg5, hH5, hb5⟩)
  have hcv : (convert 24 9 (.slice (some ⟨g5, 0, none⟩) 4 4)).run Try.prog w5 = .ok (.string { data := #[116, 101, 120, 116] }) w5 := by
    rw [← lv_text]; exact conv_bytes (hH5.bytes rfl (by decide))
  have hB5 : Below w.heap.size w w5 := hB4.trans (hb5.mono hB4.size)
  clear kc kc2 ho4 hH5
  go_wp2
  go_ret
  exact ⟨rfl, hB5⟩
end Go.Proofs.Ytnblcdpahpcglaa
