/- 'spread': the words of all rounds. -/
import Derived.Test.YtknomnnbebhijabDoorWords
namespace Go.Proofs.YtknomnnbebhijabDoor.S
open Go.RowKit
theorem size1u32 : (Tryd.prog.info? 65).map (·.size) = some 1 := by kernel_rfl
/-- What is known of a world in the place of its text. -/
theorem forget {p : World → Prop} {W : World} (I : World → Prop) (hI : I W) (h : ∀ W0, I W0 → p W0) : p W := h W hI
theorem spread_any (f : List Int) (w : World) (hf : f.length = 16) :
    Calls Tryd.prog 49 #[.agg (row .u32 f)] w fun e w' => e = .returned (.agg (row .u32 (sched f 48))) ∧ Below w.heap.size w w' := by
  go_enter Tryd.func49, Tryd.ntmps49
  go_wp2
  refine forget (p := fun x => Code.wp _ _ _ _ x) (fun W0 => Below w.heap.size w W0 ∧ W0.heap.size = w.heap.size + 3 ∧ Holds W0 w.heap.size .u32 78 f ∧ Holds W0 (w.heap.size + 1) .u32 76 (List.replicate 64 0) ∧ Holds W0 (w.heap.size + 1 + 1) .u32 76 (List.replicate 64 0)) ⟨(((Below.refl _ _).alloc (Nat.le_refl _) _).alloc (by simp) _).alloc (by simp; omega) _, by simp, ?_, ?_, ?_⟩ ?_
  · exact ((Holds.new w .u32 78 f).alloc _).alloc _
  · have hn := Holds.new (w.alloc (.cells (row .u32 f) 78)) .u32 76 (List.replicate 64 0)
    rw [World.size_alloc] at hn
    exact hn.alloc _
  · have hn := Holds.new ((w.alloc (.cells (row .u32 f) 78)).alloc (.cells (row .u32 (List.replicate 64 0)) 76)) .u32 76 (List.replicate 64 0)
    rw [World.size_alloc, World.size_alloc] at hn
    exact hn
  rintro W0 ⟨hB, hsz, h0, h1, h2⟩
  have hcp : ∀ wx : World, wx.heap = W0.heap → (Builtin.copy_ #[80, 80] 3 #[.slice (some ⟨w.heap.size + 1 + 1, 0, none⟩) 64 64, .slice (some ⟨w.heap.size, 0, none⟩) 16 16]).run Tryd.prog wx =
      .ok (.int .i64 16) (wx.setRow (w.heap.size + 1 + 1) (row .u32 (f ++ List.replicate 48 0))) := fun wx hx => by
    have hg : wx.heap[w.heap.size + 1 + 1]? = some (.cells (row .u32 (List.replicate 64 0)) 76 (0, 0)) := by rw [hx]; exact h2
    have hs : wx.heap[w.heap.size]? = some (.cells (row .u32 f) 78 (0, 0)) := by rw [hx]; exact h0
    have := run_copy_row (P := Tryd.prog) wx 80 80 3 65 (w.heap.size + 1 + 1) 0 64 64 ⟨w.heap.size, 0, none⟩ 16 16 _ 76 (row .u32 f).toList Tryd.underlying80 size1u32 hg
      (by simp [row, hf]) (fun j v hv => by
        have : (⟨w.heap.size, 0, none⟩ : Addr).add j = ⟨w.heap.size, j, none⟩ := by unfold Addr.add; split <;> simp_all
        rw [this, cell_of_row wx _ j _ _ _ hs]; simpa using hv) (by simp [row, hf]) (fun v hv => (Array.all_eq_true_iff_forall_mem.1 (row_one .u32 f)) v (by simpa using hv))
    rw [this]
    have e : (List.take 0 (row .u32 (List.replicate 64 0)).toList ++ (row .u32 f).toList ++ List.drop (0 + (row .u32 f).toList.length) (row .u32 (List.replicate 64 0)).toList).toArray = row .u32 (f ++ List.replicate 48 0) := by
      simp [row, hf]
    rw [e]
    have e2 : (row .u32 f).toList.length = 16 := by simp [row, hf]
    rw [e2]; rfl
  have hcp1 := hcp W0.drew rfl
  clear hcp
  go_region
  go_wp2
  refine forget (p := fun x => Code.wp _ _ _ _ x) (fun W1 => Below w.heap.size w W1 ∧ W1.heap.size = w.heap.size + 3 ∧ Holds W1 (w.heap.size + 1) .u32 76 (List.replicate 64 0) ∧ Holds W1 (w.heap.size + 1 + 1) .u32 76 (f ++ List.replicate 48 0)) ⟨below_setRow hB.drew (by omega) _, by simp [hsz], ?_, ?_⟩ ?_
  · exact (show Holds W0.drew _ _ _ _ from h1).setRowOther _ (by omega)
  · exact (show Holds W0.drew _ _ _ _ from h2).setRow _
  clear hcp1 h0 h1 h2 hB hsz
  rintro W1 ⟨hB, hsz, h1, h2⟩
  go_loopw [4] (fun i wr => ∃ m : Nat, m ≤ 48 ∧ i = .int .i64 ((16 + m : Nat) : Int) ∧ Below w.heap.size w wr ∧ wr.heap.size = w.heap.size + 3
      ∧ Holds wr (w.heap.size + 1) .u32 76 (List.replicate 64 0)
      ∧ Holds wr (w.heap.size + 1 + 1) .u32 76 (sched f m ++ List.replicate (48 - m) 0))
    (fun i _ => 64 - (intOf i).toNat)
  case atStart => exact ⟨0, by omega, rfl, hB, hsz, h1, h2⟩
  case round =>
    clear hB hsz h1 h2 W1
    obtain ⟨m, hm, rfl, hB, hsz, h1, h2⟩ := hrel
    by_cases hlt : m < 48
    · have hln : (sched f m ++ List.replicate (48 - m) 0).length = 64 := by rw [List.length_append, sched_length, hf, List.length_replicate]; omega
      have ix : ∀ j, j < 16 + m → (sched f m ++ List.replicate (48 - m) 0)[j]?.getD 0 = (sched f m)[j]?.getD 0 := fun j hj => by rw [List.getElem?_append_left (by rw [sched_length, hf]; omega)]
      have c2 := h2.cell (16 + m - 2) (by omega)
      have c7 := h2.cell (16 + m - 7) (by omega)
      have c15 := h2.cell (16 + m - 15) (by omega)
      have c16 := h2.cell (16 + m - 16) (by omega)
      rw [ix _ (by omega)] at c2 c7 c15 c16
      have cc := h2.cell (16 + m) (by omega)
      have cf := h2.frozen (16 + m)
      clear ix hln
      obtain ⟨k, hk⟩ : ∃ k, 16 + m = k := ⟨_, rfl⟩
      have hk1 : 16 ≤ k := by omega
      have hk2 : k < 64 := by omega
      have HK : Hid (16 + m = k) := hk
      rw [hk] at c2 c7 c15 c16 cc cf ⊢
      clear hk
      go_wp2
      go_quiet ((fail))
      go_wp2_with (go_at_call 53; refine (right_any _ _ _ (by unfold rotN; omega)).mono ?_; rintro e w' ⟨rfl, rfl⟩)
      go_region
      all_goals go_wp2
      all_goals go_roundw
      case rel =>
        refine ⟨m + 1, by omega, ?_, ?_, ?_, ?_, ?_⟩
        · have := HK.out; subst this; go_num
        · exact (below_drewN hB _).setCell (by simp; omega) _
        · simp [hsz]
        · exact (h1.drewN _).setOther _ _ (by simp)
        · have hk := HK.out
          subst hk
          have := (h2.drewN (nq + 1)).set (16 + m) (swdAt (sched f m) (16 + m))
          rw [show 48 - m = (48 - (m + 1)) + 1 by omega] at this
          have e := set_next (sched f m) (48 - (m + 1)) (swdAt (sched f m) (16 + m))
          rw [sched_length, hf] at e
          rw [e] at this
          have e2 : sched f (m + 1) = sched f m ++ [swdAt (sched f m) (16 + m)] := by rw [sched, swd, sched_length, hf]
          rw [e2]
          exact this
      case measure => have := HK.out; simp [intOf]; omega
    · obtain rfl : m = 48 := by omega
      have hl : (sched f 48).length = 64 := by rw [sched_length, hf]
      have h2' : Holds wr (w.heap.size + 1 + 1) .u32 76 (sched f 48) := by simpa using h2
      clear h2
      go_wp2_with (first | (refine wpList_ld rfl 76 _ rfl _ rfl h2' Tryd.underlying76 size64 hl ?_) | (refine wpList_st rfl 76 _ _ rfl _ rfl rfl h1 (by rw [hl]; exact size64) (by simp [hl]) ?_))
      refine bodyPost_ret (results_holds (Tryd.results49) _ rfl (h1.setRow _) Tryd.underlying76 size64 hl) rfl ⟨rfl, ?_⟩
      exact below_setRow hB (by omega) _
end Go.Proofs.YtknomnnbebhijabDoor.S
