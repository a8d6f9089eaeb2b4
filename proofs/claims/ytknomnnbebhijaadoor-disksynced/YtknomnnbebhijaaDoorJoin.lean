/- 'joined': eight words as 32 bytes. -/
import Derived.Test.YtknomnnbebhijaaDoorStep
namespace Go.Proofs.YtknomnnbebhijaaDoor.S
open Go.RowKit

theorem run_index_row {P : Program} (w : World) (t e : TypeId) (n : Nat) (kd : IntKind) (l : List Int) (k : Nat) (hu : P.underlying t = some (.array n e)) (hue : P.underlying e = some (.int kd)) (hi : (P.info? e).map (·.size) = some 1) (hl : l.length = n) (hk : k < n) :
    (Instr.index t (.agg (row kd l)) (.int .i64 k)).run P w = .ok (.int kd (l[k]?.getD 0)) w := by
  cases hq : P.info? e with
  | none => simp [hq] at hi
  | some i =>
    have hs : i.size = 1 := by simpa [hq] using hi
    have hg := row_get kd l k (by omega)
    simp [Instr.index, asIntOf, run_underlying hu, sizeOf, typeInfo, hq, hs, hk, part, isAgg, run_underlying hue, hg]

theorem joined_any (s : List Int) (w : World) (hs : s.length = 8) :
    Calls Tryd.prog 44 #[.agg (row .u32 s)] w fun e w' => e = .returned (.agg (row .u8 (joinL s))) ∧ Below w.heap.size w w' := by
  have hb0 : ∀ o o', Holds (((w.alloc (.cells (row .u32 s) 71)).alloc o).alloc o') w.heap.size .u32 71 s := fun o o' => ((Holds.new w .u32 71 s).alloc o).alloc o'
  go_enter Tryd.func44, Tryd.ntmps44
  go_wp2_with (refine wpList_ld rfl 71 _ rfl _ rfl (hb0 _ _) Tryd.underlying71 sizeSt hs ?_)
  refine forget (p := fun x => Code.wp _ _ _ _ x) (fun W0 => Below w.heap.size w W0 ∧ Holds W0 (w.heap.size + 1) .u8 66 (List.replicate 32 0) ∧ Holds W0 (w.heap.size + 1 + 1) .u8 66 (List.replicate 32 0)) ⟨(((Below.refl _ _).alloc (Nat.le_refl _) _).alloc (by simp) _).alloc (by simp; omega) _, ?_, ?_⟩ ?_
  · have hn := Holds.new (w.alloc (.cells (row .u32 s) 71)) .u8 66 (List.replicate 32 0)
    rw [World.size_alloc] at hn
    exact hn.alloc _
  · have hn := Holds.new ((w.alloc (.cells (row .u32 s) 71)).alloc (.cells (row .u8 (List.replicate 32 0)) 66)) .u8 66 (List.replicate 32 0)
    rw [World.size_alloc, World.size_alloc] at hn
    exact hn
  clear hb0
  rintro W0 ⟨hB, h1, h2⟩
  go_loopw [8] (fun i wr => ∃ k : Nat, k ≤ 8 ∧ i = .int .i64 k ∧ Below w.heap.size w wr ∧ Holds wr (w.heap.size + 1) .u8 66 (List.replicate 32 0) ∧ Holds wr (w.heap.size + 1 + 1) .u8 66 (joinK s k ++ List.replicate (32 - 4 * k) 0))
    (fun i _ => 8 - (intOf i).toNat)
  case atStart => exact ⟨0, by omega, rfl, hB, h1, h2⟩
  case round =>
    clear hB h1 h2 W0
    obtain ⟨k, hk, rfl, hB, h1, h2⟩ := hrel
    by_cases hlt : k < 8
    · have hix : ∀ wx, (Instr.index 71 (.agg (row .u32 s)) (.int .i64 k)).run Tryd.prog wx = .ok (.int .u32 (s[k]?.getD 0)) wx := fun wx => run_index_row wx 71 69 8 .u32 s k Tryd.underlying71 Tryd.underlying69 size1u32 hs hlt
      have hstep : joinK s (k + 1) = joinK s k ++ bytes4 (s[k]?.getD 0) := rfl
      obtain ⟨V, hV⟩ : ∃ V, s[k]?.getD 0 = V := ⟨_, rfl⟩
      rw [hV] at hix hstep
      have HS : Hid (joinK s (k + 1) = joinK s k ++ bytes4 V) := hstep
      have hln : (joinK s k ++ List.replicate (32 - 4 * k) 0).length = 32 := by rw [List.length_append, joinK_length, List.length_replicate]; omega
      have c0 := h2.cell (k * 4) (by omega)
      have c1 := h2.cell (k * 4 + 1) (by omega)
      have c2 := h2.cell (k * 4 + 2) (by omega)
      have c3 := h2.cell (k * 4 + 3) (by omega)
      have hff := h2.frozen
      clear hV hstep hln
      go_wp2
      go_roundw
      case rel =>
        refine ⟨k + 1, by omega, by go_num, (((hB.setCell (by simp; omega) _).setCell (by simp; omega) _).setCell (by simp; omega) _).setCell (by simp; omega) _, (((h1.setOther _ _ (by simp)).setOther _ _ (by simp)).setOther _ _ (by simp)).setOther _ _ (by simp), ?_⟩
        have := (((h2.set (k * 4) (V / 16777216 % 256)).set (k * 4 + 1) (V / 65536 % 256)).set (k * 4 + 2) (V / 256 % 256)).set (k * 4 + 3) (V % 256)
        have e := set_four (joinK s k) (32 - 4 * (k + 1)) (k * 4) (V / 16777216 % 256) (V / 65536 % 256) (V / 256 % 256) (V % 256) (by rw [joinK_length]; omega)
        rw [show 32 - 4 * k = 32 - 4 * (k + 1) + 4 by omega, e] at this
        rw [HS.out]
        exact this
      case measure => simp [intOf]; omega
    · obtain rfl : k = 8 := by omega
      have h2' : Holds wr (w.heap.size + 1 + 1) .u8 66 (joinL s) := by simpa [joinL] using h2
      clear h2
      go_wp2_with (first | (refine wpList_ld rfl 66 _ rfl _ rfl h2' Tryd.underlying66 sizeKey (joinL_length _) ?_) | (refine wpList_st rfl 66 _ _ rfl _ rfl rfl h1 (by rw [joinL_length]; exact sizeKey) (by simp [joinL_length]) ?_))
      refine bodyPost_ret (results_holds (Tryd.results44) _ rfl (h1.setRow _) Tryd.underlying66 sizeKey (joinL_length _)) rfl ⟨rfl, ?_⟩
      exact below_setRow hB (by omega) _
end Go.Proofs.YtknomnnbebhijaaDoor.S
