/- The bytes of a block's words; a block. -/
import Derived.Test.YtgeiiadlchimhaaDoorCg
import Derived.Test.YtgeiiadlchimhaaDoorCbd
import Derived.Test.YtgeiiadlchimhaaDoorCbs
namespace Go.Proofs.YtgeiiadlchimhaaDoor
open Go.RowKit
set_option maxRecDepth 20000

/-- A word's four bytes, the lowest first. -/
def bytesL (v : Int) : List Int := [v % 256, v / 256 % 256, v / 65536 % 256, v / 16777216 % 256]
/-- The bytes of the first k words. -/
def joinK (s : List Int) : Nat → List Int
  | 0 => []
  | k + 1 => joinK s k ++ bytesL (at' s k)
theorem joinK_length (s : List Int) (k : Nat) : (joinK s k).length = 4 * k := by
  induction k with
  | zero => rfl
  | succ k ih => simp only [joinK, List.length_append, ih, bytesL, List.length_cons, List.length_nil]; omega
theorem size64 : (Tryd.prog.info? 70).map (·.size) = some 64 := by kernel_rfl
theorem size1u32 : (Tryd.prog.info? 26).map (·.size) = some 1 := by kernel_rfl

set_option maxHeartbeats 1000000 in
theorem bytes_any (s : List Int) (w : World) (hs : s.length = 16) :
    Calls Tryd.prog 44 #[.agg (row .u32 s)] w fun e w' => e = .returned (.agg (row .u8 (joinK s 16))) ∧ Below w.heap.size w w' := by
  have h0 : ∀ o1 o2, Holds (((w.alloc (.cells (row .u32 s) 90)).alloc o1).alloc o2) w.heap.size .u32 90 s := fun o1 o2 => ((Holds.new w .u32 90 s).alloc o1).alloc o2
  go_enter Tryd.func44, Tryd.ntmps44
  go_wp2_with (refine wpList_ld rfl 90 _ rfl _ rfl (h0 _ _) Tryd.underlying90 sizeState hs ?_)
  refine forget (p := fun y => Code.wp _ _ _ _ y) (fun W0 => Below w.heap.size w W0 ∧ Holds W0 (w.heap.size + 1) .u8 70 (List.replicate 64 0) ∧ Holds W0 (w.heap.size + 1 + 1) .u8 70 (List.replicate 64 0)) ⟨?_, ?_, ?_⟩ ?_
  · exact (((Below.refl _ _).alloc (Nat.le_refl _) _).alloc (by simp) _).alloc (by simp; omega) _
  · have := (Holds.new (w.alloc (.cells (row .u32 s) 90)) .u8 70 (List.replicate 64 0))
    rw [World.size_alloc] at this
    exact this.alloc _
  · have := (Holds.new ((w.alloc (.cells (row .u32 s) 90)).alloc (.cells (row .u8 (List.replicate 64 0)) 70)) .u8 70 (List.replicate 64 0))
    rw [World.size_alloc, World.size_alloc] at this
    exact this
  clear h0
  rintro W0 ⟨hB0, hR0, hb0⟩
  go_loopw [8] (fun i wr => ∃ k : Nat, k ≤ 16 ∧ i = .int .i64 k ∧ Below w.heap.size w wr ∧ Holds wr (w.heap.size + 1) .u8 70 (List.replicate 64 0) ∧ Holds wr (w.heap.size + 1 + 1) .u8 70 (joinK s k ++ List.replicate (64 - 4 * k) 0))
    (fun i _ => 16 - (intOf i).toNat)
  case atStart => exact ⟨0, by omega, rfl, hB0, hR0, hb0⟩
  case round =>
    clear hB0 hR0 hb0
    obtain ⟨k, hk, rfl, hB, hR, hb⟩ := hrel
    by_cases hlt : k < 16
    · have hix := fun wx => run_index_row (P := Tryd.prog) wx 90 26 16 .u32 s k Tryd.underlying90 Tryd.underlying26 size1u32 hs (by omega)
      have hN : Hid (s[k]?.getD 0 = at' s k) := rfl
      obtain ⟨V, hV⟩ : ∃ V, s[k]?.getD 0 = V := ⟨_, rfl⟩
      rw [hV] at hix
      have HV : Hid (at' s k = V) := hV
      clear hV hN
      obtain ⟨I, hI⟩ : ∃ I : Nat, 4 * k = I := ⟨_, rfl⟩
      have hlen : (joinK s k ++ List.replicate (64 - 4 * k) 0).length = 64 := by rw [List.length_append, joinK_length, List.length_replicate]; omega
      have c0 := hb.cell I (by omega)
      have c1 := hb.cell (I + 1) (by omega)
      have c2 := hb.cell (I + 2) (by omega)
      have c3 := hb.cell (I + 3) (by omega)
      have hf := hb.frozen
      have hI' : (k : Int) * 4 = (I : Int) := by omega
      have i4 : (I : Int) + 3 < 64 := by omega
      have i3 : (I : Int) + 2 < 64 := by omega
      have i2 : (I : Int) + 1 < 64 := by omega
      have i1 : (I : Int) < 64 := by omega
      have j1 : IntKind.i64.wrap ((I : Int) + 1) = (I : Int) + 1 := by rw [IntKind.wrap_i64]; omega
      have j2 : IntKind.i64.wrap ((I : Int) + 2) = (I : Int) + 2 := by rw [IntKind.wrap_i64]; omega
      have j3 : IntKind.i64.wrap ((I : Int) + 3) = (I : Int) + 3 := by rw [IntKind.wrap_i64]; omega
      have n1 : (0 : Int) ≤ (I : Int) + 1 := by omega
      have n2 : (0 : Int) ≤ (I : Int) + 2 := by omega
      have n3 : (0 : Int) ≤ (I : Int) + 3 := by omega
      have t1 : ((I : Int) + 1).toNat = I + 1 := by omega
      have t2 : ((I : Int) + 2).toNat = I + 2 := by omega
      have t3 : ((I : Int) + 3).toNat = I + 3 := by omega
      have HI : Hid (4 * k = I) := hI
      clear hI hlen
      go_wp2
      go_roundw
      case rel =>
        have hI := HI.out
        refine ⟨k + 1, by omega, by go_num, (((hB.setCell (by simp; omega) _).setCell (by simp; omega) _).setCell (by simp; omega) _).setCell (by simp; omega) _, (((hR.setOther _ _ (by simp)).setOther _ _ (by simp)).setOther _ _ (by simp)).setOther _ _ (by simp), ?_⟩
        have := (((hb.set I (V % 256)).set (I + 1) (V / 256 % 256)).set (I + 2) (V / 65536 % 256)).set (I + 3) (V / 16777216 % 256)
        rw [show 64 - 4 * k = (64 - 4 * (k + 1)) + 4 by omega, set_four _ _ _ _ _ _ _ (by rw [joinK_length]; exact hI)] at this
        have e : joinK s (k + 1) = joinK s k ++ [V % 256, V / 256 % 256, V / 65536 % 256, V / 16777216 % 256] := by
          show joinK s k ++ bytesL (at' s k) = _
          rw [HV.out]; rfl
        rw [e]
        exact this
      case measure => simp [intOf]; omega
    · obtain rfl : k = 16 := by omega
      have hb' : Holds wr (w.heap.size + 1 + 1) .u8 70 (joinK s 16) := by simpa using hb
      have hl := joinK_length s 16
      obtain ⟨L, hL⟩ : ∃ L, joinK s 16 = L := ⟨_, rfl⟩
      have HL : Hid (joinK s 16 = L) := hL
      rw [hL] at hb' hl
      clear hb hL
      go_wp2_with (first | (refine wpList_ld rfl 70 _ rfl _ rfl hb' Tryd.underlying70 size64 hl ?_) | (refine wpList_st rfl 70 _ _ rfl _ rfl rfl hR (by rw [hl]; exact size64) (by simp [hl]) ?_))
      refine bodyPost_ret (results_holds (Tryd.results44) _ rfl (hR.setRow _) Tryd.underlying70 size64 hl) rfl ⟨by rw [HL.out], ?_⟩
      exact below_setRow hB (by omega) _
end Go.Proofs.YtgeiiadlchimhaaDoor
