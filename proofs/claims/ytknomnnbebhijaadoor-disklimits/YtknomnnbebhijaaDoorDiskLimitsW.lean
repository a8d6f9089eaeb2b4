/- The statement DiskLimits, walked. -/
import Derived.Test.YtknomnnbebhijaaDoorDx7
namespace Go.Proofs.YtknomnnbebhijaaDoor
open Go.RowKit Go.Shelf
set_option maxRecDepth 400000
set_option linter.unusedSimpArgs false

theorem make_bytes (n : Nat) (hn : n ≤ 100000) (wx : World) : (Instr.makeSlice 35 (.int .i64 (n : Int)) (.int .i64 (n : Int))).run Tryd.prog wx = .ok (.slice (some ⟨wx.heap.size, 0, none⟩) n n) (wx.alloc (.cells (row .u8 (List.replicate n 0)) 5)) := by
  have := run_make_row' (P := Tryd.prog) 35 5 (.int .u8 0) 1 Tryd.underlying35 infoU8 rfl .i64 .i64 n (by omega) (by omega) wx
  rw [made_row] at this
  exact this
set_option maxHeartbeats 8000000 in
theorem diskLimits_walk (x : Option Addr) (len cap : Nat) (ds : List Dd) (n : Int) (w : World) (hd : DeedsAt w x len cap ds) (hn : 0 ≤ n ∧ n ≤ 255) (hKT : S.KTab w) :
    Calls Tryd.prog 8 #[.slice x len cap, .int .u8 n] w fun e w' => e = .returned (.bool true) ∧ Below w.heap.size w w' := by
  obtain ⟨K, hK⟩ : ∃ K : Nat, n % 12 = (K : Int) := ⟨(n % 12).toNat, by omega⟩
  have hKl : K ≤ 12 := by omega
  have hKt : n.tmod 12 = (K : Int) := by rw [Int.tmod_eq_emod_of_nonneg hn.1]; exact hK
  obtain ⟨hn0, hn1⟩ := hn
  have hP := play_any x len cap ds w hd hKT
  have hmk : ∀ wx : World, (Instr.makeSlice 35 (.int .i64 8192) (.int .i64 8192)).run Tryd.prog wx = .ok (.slice (some ⟨wx.heap.size, 0, none⟩) 8192 8192) (wx.alloc (.cells (row .u8 (List.replicate 8192 0)) 5)) := fun wx => make_bytes 8192 (by omega) wx
  have hmk2 : ∀ wx : World, (Instr.makeSlice 35 (.int .i64 8193) (.int .i64 8193)).run Tryd.prog wx = .ok (.slice (some ⟨wx.heap.size, 0, none⟩) 8193 8193) (wx.alloc (.cells (row .u8 (List.replicate 8193 0)) 5)) := fun wx => make_bytes 8193 (by omega) wx
  obtain ⟨L8, hL8⟩ : ∃ q, List.replicate 8192 (0 : Int) = q := ⟨_, rfl⟩
  obtain ⟨L9, hL9⟩ : ∃ q, List.replicate 8193 (0 : Int) = q := ⟨_, rfl⟩
  have hL8l : L8.length = 8192 := by rw [← hL8, List.length_replicate]
  have hL8B : isB L8 := fun v hv => by rw [← hL8] at hv; rw [List.eq_of_mem_replicate hv]; omega
  rw [hL8] at hmk
  rw [hL9] at hmk2
  clear hL8 hL9 hK
  go_enter Tryd.func8, Tryd.ntmps8
  go_upto_region 4 with (first
    | (go_at_call 9; refine hP.mono ?_; rintro e w1 ⟨D, R, rfl, ⟨v, u, z, s, hB1⟩, hb1⟩)
    | (go_at_call 10; refine (dLive_any w1 (hKT.below hb1)).mono ?_; rintro e w2 ⟨rfl, hb2⟩))
  have hb12 := hb1.trans (hb2.mono hb1.size)
  have hD2 := hB1.d.far hb2
  clear hP hB1 hd hb1 hb2
  have hbA : Below w2.heap.size w2 (w2.alloc (.cells (row .u8 L8) 5)) := (Below.refl _ _).alloc (Nat.le_refl _) _
  have hH3 := Holds.new w2 .u8 5 L8
  have hD3 := hD2.far hbA
  have ho3 : DiskOut w2.heap.size (w2.heap.size + 1) D v := hD2.out _
  have hb13 := hb12.trans (hbA.mono hb12.size)
  have hs3 : w2.heap.size + 1 ≤ (w2.alloc (.cells (row .u8 L8) 5)).heap.size := by simp
  go_wp2
  obtain ⟨W3, hW3⟩ : ∃ q, w2.alloc (.cells (row .u8 L8) 5) = q := ⟨_, rfl⟩
  obtain ⟨G, hG⟩ : ∃ q, w2.heap.size = q := ⟨_, rfl⟩
  rw [hW3] at hH3 hD3 hb13 hs3 ⊢
  rw [hG] at hH3 ho3 hs3 ⊢
  clear hW3 hG hbA hD2
  clear hb12
  go_loopw [9] (fun p wr => ∃ k : Nat, k ≤ K ∧ p = .int .i64 (k : Nat) ∧ (∃ v z s, DiskAt wr w.heap.size D v z s ∧ DiskOut G (G + 1) D v) ∧ Holds wr G .u8 5 L8 ∧ Below w.heap.size w wr) (fun p _ => K - (intOf p).toNat)
  case atStart => exact ⟨0, Nat.zero_le _, rfl, ⟨_, _, _, hD3, ho3⟩, hH3, hb13⟩
  case round =>
    clear hD3 ho3 hH3 hb13 hs3
    obtain ⟨k, hk, rfl, ⟨v4, z4, s4, hD4, ho4⟩, hH4, hb14⟩ := hrel
    have hzl := hD4.len
    have hsy := hD4.syn
    have hG4 := hH4.lt
    have hb1s := hb14.size
    by_cases hlt : k < K
    · have hlti : (k : Int) < (K : Int) := by omega
      have hBy := dBytes_any _ _ _ _ _ wr hD4
      go_upto_region 9 with (go_at_call 14; refine hBy.mono ?_; rintro e w5 ⟨v5, rfl, ho5, hb5⟩; obtain ⟨x5, n5, c5, rfl, hn5⟩ := ho5.isSlice; subst hn5)
      have hD5 := hD4.far hb5
      have hb15 := hb14.trans (hb5.mono hb1s)
      have hH5 := hH4.below hb5 hG4
      have hs5 := hb5.size
      obtain ⟨zl, hzz⟩ : ∃ q, z4.length = q := ⟨_, rfl⟩
      rw [hzz] at hzl hsy ⊢
      have HZ := Veil.mk hzz
      clear hBy hD4 ho5 hb5 hH4 hzz
      have hw1 : IntKind.i64.wrap ((k : Int) + 1) = (k : Int) + 1 := by rw [IntKind.wrap_i64]; omega
      have hw2 : IntKind.i64.wrap ((zl : Int) + 8202) = (zl : Int) + 8202 := by rw [IntKind.wrap_i64]; omega
      by_cases hf : 57334 < zl
      · have hWr := dWrite_full _ _ _ _ _ w5 hD5 (some ⟨G, 0, none⟩) 8192 8192 (by omega) (by rw [HZ.out]; omega)
        have hfi : ¬ (zl : Int) + 8202 ≤ 65536 := by omega
        go_wp2_with (go_at_call 15; refine hWr.mono ?_; rintro e w6 ⟨rfl, rfl⟩)
        go_roundw
        case rel => exact ⟨k + 1, by omega, by push_cast; rfl, ⟨_, _, _, hD5, ho4⟩, hH5, hb15⟩
        case measure => simp [intOf]; omega
      · have hWr := dWrite_any _ _ _ _ _ w5 hD5 (some ⟨G, 0, none⟩) 8192 8192 L8 (hH5.bytes hL8l.symm (by omega)) hL8B (by omega) (by rw [HZ.out]; omega) (fun a _ ha e => by
          cases ha
          rcases ho4 G (.inr e) with h | h <;> omega) hb15.size (hKT.below hb15)
        go_upto_region 10 with (go_at_call 15; refine hWr.mono ?_; rintro e w6 ⟨rfl, v6, hd6⟩)
        have hb16 := hb15.trans (hd6.below hD5 hb15.size)
        have hG5 := hH5.lt
        have hk6 := hd6.range ho4 (by omega)
        have ho6 := hd6.out ho4 (by omega)
        have hH6 : Holds w6 G .u8 5 L8 := (hk6 G (Nat.le_refl _) (by omega)).trans hH5
        have hD6 := hd6.disk
        have hz6 : (z4 ++ recL L8).length = zl + 8202 := by rw [List.length_append, recL_length, hL8l, HZ.out]
        have hBy6 := dBytes_any _ _ _ _ _ w6 hD6
        clear hWr hd6 hD5 hk6 hH5
        go_wp2_with (go_at_call 14; refine hBy6.mono ?_; rintro e w7 ⟨v7, rfl, ho7, hb7⟩; obtain ⟨x7, n7, c7, rfl, hn7⟩ := ho7.isSlice; rw [hz6] at hn7; subst hn7)
        go_roundw
        case rel => exact ⟨k + 1, by omega, by push_cast; rfl, ⟨_, _, _, hD6.far hb7, ho6⟩, hH6.below hb7 hH6.lt, hb16.trans (hb7.mono hb16.size)⟩
        case measure => simp [intOf]; omega
    · have hlti : ¬ (k : Int) < (K : Int) := by omega
      obtain ⟨zl, hzz⟩ : ∃ q, z4.length = q := ⟨_, rfl⟩
      rw [hzz] at hzl hsy
      have hzi : (zl : Int) ≤ 65536 := by omega
      have hsi : (s4 : Int) ≤ (zl : Int) := by omega
      clear hmk
      go_wp2_with (first
        | (go_at_call 14; refine (dBytes_any _ _ _ _ _ wr hD4).mono ?_; rintro e w5 ⟨v5, rfl, ho5, hb5⟩; obtain ⟨x5, n5, c5, rfl, hn5⟩ := ho5.isSlice; rw [hzz] at hn5; subst hn5; have hD5 := hD4.far hb5)
        | (go_at_call 18; refine (dSynced_any _ _ _ _ _ w5 hD5).mono ?_; rintro e w6 ⟨rfl, rfl⟩)
        | (go_at_call 14; refine (dBytes_any _ _ _ _ _ w6 hD5).mono ?_; rintro e w7 ⟨v7, rfl, ho7, hb7⟩; obtain ⟨x7, n7, c7, rfl, hn7⟩ := ho7.isSlice; rw [hzz] at hn7; subst hn7; have hD7 := hD5.far hb7)
        | (go_at_call 15; refine (dWrite_long D _ _ 8193 8193 (by omega)).mono ?_; rintro e w8 ⟨rfl, rfl⟩))
      go_ret
      have h15 := hb14.trans (hb5.mono hb1s)
      have h17 := h15.trans (hb7.mono h15.size)
      exact ⟨rfl, h17.alloc h17.size _⟩
end Go.Proofs.YtknomnnbebhijaaDoor
