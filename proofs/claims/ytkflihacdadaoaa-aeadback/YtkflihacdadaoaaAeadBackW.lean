/- The statement AeadBack, walked. -/
import Derived.Test.YtkflihacdadaoaaAn6
import Derived.Test.YtkflihacdadaoaaAa
namespace Go.Proofs.Ytkflihacdadaoaa
open Go.RowKit
set_option maxRecDepth 20000
set_option linter.unusedSimpArgs false

set_option maxHeartbeats 4000000 in
theorem aback_walk (k n : List Int) (x : Option Addr) (len cap : Nat) (o : List Int) (y : Option Addr) (lb cb : Nat) (z : List Int) (w : World) (hk : k.length = 32) (hn : n.length = 12) (hx : Bytes w x len cap o) (huo : ∀ v ∈ o, 0 ≤ v ∧ v ≤ 255) (hz : Bytes w y lb cb z) (huz : ∀ v ∈ z, 0 ≤ v ∧ v ≤ 255) :
    Calls Try.prog 3 #[.agg (ask5Row k n (.slice x len cap)), .slice y lb cb] w fun e w' => e = .returned (.bool true) ∧ Below w.heap.size w w' := by
  have hf1 : ∀ wx, Below w.heap.size w wx → Calls Try.prog 4 #[.slice x len cap, .int .i64 200] wx fun e w' => e = .returned (.slice x (min len 200) cap) ∧ wx = w' := fun wx hb => few5_any x len cap 200 o wx (hx.below hb) (by omega) (by omega)
  have hf2 : ∀ wx, Below w.heap.size w wx → Calls Try.prog 4 #[.slice y lb cb, .int .i64 300] wx fun e w' => e = .returned (.slice y (min lb 300) cb) ∧ wx = w' := fun wx hb => few5_any y lb cb 300 z wx (hz.below hb) (by omega) (by omega)
  have hx2 := hx.few 200
  have hz2 := hz.few 300
  have huo2 : ∀ v ∈ o.take 200, isB v := fun v hv => huo v (List.mem_of_mem_take hv)
  have huz2 : ∀ v ∈ z.take 300, isB v := fun v hv => huz v (List.mem_of_mem_take hv)
  obtain ⟨m1, hm1⟩ : ∃ q, min len 200 = q := ⟨_, rfl⟩
  obtain ⟨m2, hm2⟩ : ∃ q, min lb 300 = q := ⟨_, rfl⟩
  have h1 : m1 ≤ 200 := by omega
  have h2 : m2 ≤ 300 := by omega
  rw [hm1] at hf1 hx2
  rw [hm2] at hf2 hz2
  obtain ⟨O, hO⟩ : ∃ q, o.take 200 = q := ⟨_, rfl⟩
  obtain ⟨Z, hZ⟩ : ∃ q, z.take 300 = q := ⟨_, rfl⟩
  rw [hO] at hx2 huo2
  rw [hZ] at hz2 huz2
  have hzl : Z.length = m2 := hz2.len_eq.symm
  have hseal := fun wx (hb : Below w.heap.size w wx) => seal_any k n x m1 cap O y m2 cb Z wx hk hn (hx2.below hb) (hz2.below hb) (by omega) (by omega)
  have hopen := fun wx (hb : Below w.heap.size w wx) (v : Option Addr) (lv cv : Nat) (hv : Bytes wx v lv cv (sealL k n O Z)) => back_any k n x m1 cap O v lv cv Z wx hk hn (hx2.below hb) hv (by omega) (by omega) huo2 huz2
  have hSl : (sealL k n O Z).length = m2 + 16 := by rw [sealL_length, hzl]
  rw [hzl] at hopen
  obtain ⟨SL, hSL⟩ : ∃ q, sealL k n O Z = q := ⟨_, rfl⟩
  rw [hSL] at hseal hopen hSl
  have hA0 := Ask5At.new w k n (.slice x len cap)
  have hB0 : Below w.heap.size w (w.alloc (.cells (ask5Row k n (.slice x len cap)) 28)) := (Below.refl _ _).alloc (Nat.le_refl _) _
  have HZL : Veil (Z.length = m2) := ⟨hzl⟩
  have HSL : Veil (SL.length = m2 + 16) := ⟨hSl⟩
  clear hm1 hm2 hx hz huo huz hO hZ hSL hzl hSl huo2 huz2
  go_enter Try.func3, Try.ntmps3
  go_upto_region 1 with fail
  obtain ⟨W0, hW0⟩ : ∃ W, w.alloc (.cells (ask5Row k n (.slice x len cap)) 28) = W := ⟨_, rfl⟩
  rw [hW0] at hA0 hB0 ⊢
  clear hW0
  have c44 := hA0.open_ hk hn
  have f44 := hA0.frozen 44
  go_upto_region 2 with (first
    | (go_at_call 4; refine (hf1 _ hB0).mono ?_; rintro e w3 ⟨rfl, rfl⟩; clear hf1)
    | (go_at_call 4; refine (hf2 _ hB0).mono ?_; rintro e w3 ⟨rfl, rfl⟩))
  refine forget (p := fun y => Code.wp _ _ _ _ y) (fun W1 => Below w.heap.size w W1 ∧ Ask5At W1 w.heap.size k n (.slice x m1 cap)) ⟨hB0.setCell (by simp) _, hA0.set hk hn _⟩ ?_
  clear c44 f44 hA0 hB0 hf2
  rintro W1 ⟨hB1, hA1⟩
  have r1 := hA1.key
  have r2 := hA1.nonce hk
  have c44 := hA1.open_ hk hn
  have hs1 := hseal W1 hB1
  go_upto_region 3 with (first
    | (refine wpList_ldr rfl 23 _ rfl _ _ rfl r1 Try.underlying23 sizeK hk ?_)
    | (refine wpList_ldr rfl 25 _ rfl _ _ rfl r2 Try.underlying25 sizeN hn ?_)
    | (go_at_call 5; refine hs1.mono ?_; rintro e w2 ⟨v2, rfl, ho2, hb2⟩))
  obtain ⟨x2, n2, c2, rfl, hn2⟩ := ho2.isSlice
  rw [HSL.out] at hn2
  subst hn2
  have hS2 := ho2.bytes.2
  have hB2 : Below w.heap.size w w2 := hB1.trans (hb2.mono hB1.size)
  have hA2 := hA1.below hb2 hA1.lt
  clear r1 r2 c44 hs1 hseal ho2
  have r1 := hA2.key
  have r2 := hA2.nonce hk
  have c44 := hA2.open_ hk hn
  have ho2 := hopen w2 hB2 x2 (m2 + 16) c2 hS2
  clear hopen
  go_upto_region 4 with (first
    | (refine wpList_ldr rfl 23 _ rfl _ _ rfl r1 Try.underlying23 sizeK hk ?_)
    | (refine wpList_ldr rfl 25 _ rfl _ _ rfl r2 Try.underlying25 sizeN hn ?_)
    | (go_at_call 6; refine ho2.mono ?_; rintro e w3 ⟨g3, rfl, hg3, hH3, hb3⟩))
  have hB3 : Below w.heap.size w w3 := hB2.trans (hb3.mono hB2.size)
  have hY3 := hz2.below hB3
  have hZ3 : Bytes w3 (some ⟨g3, 0, none⟩) m2 m2 Z := hH3.bytes HZL.out.symm (by have := HZL.out; omega)
  obtain ⟨SZ, hSZ⟩ : ∃ s, strOfNums Z = s := ⟨_, rfl⟩
  have hw16 : IntKind.i64.wrap ((m2 : Int) + 16) = (m2 : Int) + 16 := by rw [IntKind.wrap_i64]; omega
  clear r1 r2 c44 ho2 hH3 hS2 hA2 hA1 hz2
  go_wp2_with (go_at_call 7; refine (live5_any _).mono ?_; rintro e w5 ⟨rfl, hb5⟩; have hc1 : (convert 26 9 (.slice (some ⟨g3, 0, none⟩) m2 m2)).run Try.prog w5 = .ok (.string SZ) w5 := (by rw [← hSZ]; exact conv_bytes (hZ3.below hb5)); have hc2 : (convert 26 9 (.slice y m2 cb)).run Try.prog w5 = .ok (.string SZ) w5 := (by rw [← hSZ]; exact conv_bytes (hY3.below hb5)); clear hSZ hZ3 hY3)
  go_ret
  exact ⟨rfl, hB3.trans (hb5.mono hB3.size)⟩
end Go.Proofs.Ytkflihacdadaoaa
