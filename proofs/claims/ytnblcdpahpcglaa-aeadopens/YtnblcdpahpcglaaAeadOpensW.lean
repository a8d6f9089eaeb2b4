/- The statement AeadOpens, walked. -/
import Derived.Test.YtnblcdpahpcglaaAo3
import Derived.Test.YtnblcdpahpcglaaMAn6Aa
namespace Go.Proofs.Ytnblcdpahpcglaa
open Go.RowKit
set_option maxRecDepth 20000
set_option linter.unusedSimpArgs false

/-- Both answer alike. -/
theorem opens_both (k n : List Int) (x : Option Addr) (len cap : Nat) (o : List Int) (y : Option Addr) (lb cb : Nat) (z : List Int) (w : World) (hk : k.length = 32) (hn : n.length = 12) (hx : Bytes w x len cap o) (hy : Bytes w y lb cb z) (hl1 : len ≤ 100000) (hl2 : lb ≤ 100000) (huo : ∀ v ∈ o, isB v) (huz : ∀ v ∈ z, isB v) :
    ∃ (E : Int) (R : List Int),
      (∀ wx, Below w.heap.size w wx → Calls Try.prog 17 #[.agg (row .u8 k), .agg (row .u8 n), .slice x len cap, .slice y lb cb] wx fun e w' => ∃ x' n' c', e = .returned (.tuple #[.slice x' n' c', .int .i64 E]) ∧ Bytes w' x' n' c' R ∧ Below wx.heap.size wx w') ∧
      (∀ wx, Below w.heap.size w wx → Calls Try.prog 18 #[.agg (row .u8 k), .agg (row .u8 n), .slice x len cap, .slice y lb cb] wx fun e w' => ∃ x' n' c', e = .returned (.tuple #[.slice x' n' c', .int .i64 E]) ∧ Bytes w' x' n' c' R ∧ Below wx.heap.size wx w') := by
  by_cases hs : lb < 16
  · exact ⟨3, [], fun wx _ => (open_short k n x len cap y lb cb wx hs).mono fun e w' ⟨h1, h2⟩ => ⟨none, 0, 0, h1, bytes_nil w', h2⟩, fun wx _ => (refOpen_short k n x len cap y lb cb wx hs).mono fun e w' ⟨h1, h2⟩ => ⟨none, 0, 0, h1, bytes_nil w', h2⟩⟩
  · have hzl := hy.len_eq
    by_cases he : tagL k n o (z.take (lb - 16)) = z.drop (lb - 16)
    · refine ⟨0, xorL k n 1 (z.take (lb - 16)), fun wx hb => (open_ok k n x len cap o y lb cb z wx hk hn (hx.below hb) (hy.below hb) hl1 hl2 (by omega) huo huz he).mono fun e w' ⟨g, h1, h2, h3, h4⟩ => ⟨some ⟨g, 0, none⟩, lb - 16, lb - 16, h1, h3.bytes (by rw [xorL_length, List.length_take]; omega) (by rw [xorL_length, List.length_take]; omega), h4⟩, fun wx hb => (refOpen_ok k n x len cap o y lb cb z wx hk hn (hx.below hb) (hy.below hb) hl1 hl2 (by omega) huo huz he).mono fun e w' ⟨v, h1, h2, h3⟩ => ?_⟩
      obtain ⟨x', n', c', rfl, _⟩ := h2.isSlice
      exact ⟨x', n', c', h1, h2.bytes.2, h3⟩
    · exact ⟨4, [], fun wx hb => (open_bad k n x len cap o y lb cb z wx hk hn (hx.below hb) (hy.below hb) hl1 hl2 (by omega) huo huz he).mono fun e w' ⟨h1, h2⟩ => ⟨none, 0, 0, h1, bytes_nil w', h2⟩, fun wx hb => (refOpen_bad k n x len cap o y lb cb z wx hk hn (hx.below hb) (hy.below hb) hl1 hl2 (by omega) huo huz he).mono fun e w' ⟨h1, h2⟩ => ⟨none, 0, 0, h1, bytes_nil w', h2⟩⟩

set_option maxHeartbeats 4000000 in
theorem opens_walk (k n : List Int) (x : Option Addr) (len cap : Nat) (o : List Int) (y : Option Addr) (lb cb : Nat) (z : List Int) (w : World) (hk : k.length = 32) (hn : n.length = 12) (hx : Bytes w x len cap o) (huo : ∀ v ∈ o, 0 ≤ v ∧ v ≤ 255) (hz : Bytes w y lb cb z) (huz : ∀ v ∈ z, 0 ≤ v ∧ v ≤ 255) :
    Calls Try.prog 5 #[.agg (ask5Row k n (.slice x len cap)), .slice y lb cb] w fun e w' => e = .returned (.bool true) ∧ Below w.heap.size w w' := by
  have hf1 : ∀ wx, Below w.heap.size w wx → Calls Try.prog 13 #[.slice x len cap, .int .i64 200] wx fun e w' => e = .returned (.slice x (min len 200) cap) ∧ wx = w' := fun wx hb => few5_any x len cap 200 o wx (hx.below hb) (by omega) (by omega)
  have hf2 : ∀ wx, Below w.heap.size w wx → Calls Try.prog 13 #[.slice y lb cb, .int .i64 300] wx fun e w' => e = .returned (.slice y (min lb 300) cb) ∧ wx = w' := fun wx hb => few5_any y lb cb 300 z wx (hz.below hb) (by omega) (by omega)
  have hx2 := hx.few 200
  have hz2 := hz.few 300
  have huo2 : ∀ v ∈ o.take 200, isB v := fun v hv => huo v (List.mem_of_mem_take hv)
  have huz2 : ∀ v ∈ z.take 300, isB v := fun v hv => huz v (List.mem_of_mem_take hv)
  obtain ⟨E, R, hopen, href⟩ := opens_both k n x (min len 200) cap (o.take 200) y (min lb 300) cb (z.take 300) w hk hn hx2 hz2 (by omega) (by omega) huo2 huz2
  obtain ⟨m1, hm1⟩ : ∃ q, min len 200 = q := ⟨_, rfl⟩
  obtain ⟨m2, hm2⟩ : ∃ q, min lb 300 = q := ⟨_, rfl⟩
  rw [hm1] at hf1 hopen href
  rw [hm2] at hf2 hopen href
  have hA0 := Ask5At.new w k n (.slice x len cap)
  have hB0 : Below w.heap.size w (w.alloc (.cells (ask5Row k n (.slice x len cap)) 34)) := (Below.refl _ _).alloc (Nat.le_refl _) _
  clear hm1 hm2 hx hz huo huz huo2 huz2 hx2 hz2
  go_enter Try.func5, Try.ntmps5
  go_upto_region 1 with fail
  obtain ⟨W0, hW0⟩ : ∃ W, w.alloc (.cells (ask5Row k n (.slice x len cap)) 34) = W := ⟨_, rfl⟩
  rw [hW0] at hA0 hB0 ⊢
  clear hW0
  have c44 := hA0.open_ hk hn
  have f44 := hA0.frozen 44
  go_upto_region 2 with (first
    | (go_at_call 13; refine (hf1 _ hB0).mono ?_; rintro e w3 ⟨rfl, rfl⟩; clear hf1)
    | (go_at_call 13; refine (hf2 _ hB0).mono ?_; rintro e w3 ⟨rfl, rfl⟩))
  refine forget (p := fun y => Code.wp _ _ _ _ y) (fun W1 => Below w.heap.size w W1 ∧ Ask5At W1 w.heap.size k n (.slice x m1 cap)) ⟨hB0.setCell (by simp) _, hA0.set hk hn _⟩ ?_
  clear c44 f44 hA0 hB0 hf2
  rintro W1 ⟨hB1, hA1⟩
  have r1 := hA1.key
  have r2 := hA1.nonce hk
  have c44 := hA1.open_ hk hn
  have hs1 := hopen W1 hB1
  go_upto_region 3 with (first
    | (refine wpList_ldr rfl 23 _ rfl _ _ rfl r1 Try.underlying23 sizeK hk ?_)
    | (refine wpList_ldr rfl 32 _ rfl _ _ rfl r2 Try.underlying32 sizeN hn ?_)
    | (go_at_call 17; refine hs1.mono ?_; rintro e w2 ⟨x2, n2, c2, rfl, hY2, hb2⟩))
  have hB2 : Below w.heap.size w w2 := hB1.trans (hb2.mono hB1.size)
  have hA2 := hA1.below hb2 hA1.lt
  clear r1 r2 c44 hs1 hopen
  have r1 := hA2.key
  have r2 := hA2.nonce hk
  have c44 := hA2.open_ hk hn
  have ho2 := href w2 hB2
  clear href
  go_upto_region 4 with (first
    | (refine wpList_ldr rfl 23 _ rfl _ _ rfl r1 Try.underlying23 sizeK hk ?_)
    | (refine wpList_ldr rfl 32 _ rfl _ _ rfl r2 Try.underlying32 sizeN hn ?_)
    | (go_at_call 18; refine ho2.mono ?_; rintro e w3 ⟨x3, n3, c3, rfl, hY3, hb3⟩))
  have hB3 : Below w.heap.size w w3 := hB2.trans (hb3.mono hB2.size)
  have hY23 := hY2.below hb3
  obtain ⟨SR, hSR⟩ : ∃ s, strOfNums R = s := ⟨_, rfl⟩
  clear r1 r2 c44 ho2 hA2 hA1 hY2
  go_wp2_with (go_at_call 14; refine (live5_any _).mono ?_; rintro e w5 ⟨rfl, hb5⟩; have hc1 : (convert 24 9 (.slice x2 n2 c2)).run Try.prog w5 = .ok (.string SR) w5 := (by rw [← hSR]; exact conv_bytes (hY23.below hb5)); have hc2 : (convert 24 9 (.slice x3 n3 c3)).run Try.prog w5 = .ok (.string SR) w5 := (by rw [← hSR]; exact conv_bytes (hY3.below hb5)); clear hSR hY23 hY3)
  go_ret
  exact ⟨rfl, hB3.trans (hb5.mono hB3.size)⟩
end Go.Proofs.Ytnblcdpahpcglaa
