/- 'spread': the words of all rounds. 'mixed': the words behind the 64 rounds. -/
import Derived.Test.YtlalcnmcnkompaaDoorMKitWords
namespace Go.Proofs.YtlalcnmcnkompaaDoor.S
open Go.RowKit
theorem size1u32 : (Tryd.prog.info? 34).map (·.size) = some 1 := by kernel_rfl
/-- What is known of a world in the place of its text. -/
theorem forget {p : World → Prop} {W : World} (I : World → Prop) (hI : I W) (h : ∀ W0, I W0 → p W0) : p W := h W hI
theorem spread_any (f : List Int) (w : World) (hf : f.length = 16) :
    Calls Tryd.prog 100 #[.agg (row .u32 f)] w fun e w' => e = .returned (.agg (row .u32 (sched f 48))) ∧ Below w.heap.size w w' := by
  go_enter Tryd.func100, Tryd.ntmps100
  go_wp2
  refine forget (p := fun x => Code.wp _ _ _ _ x) (fun W0 => Below w.heap.size w W0 ∧ W0.heap.size = w.heap.size + 3 ∧ Holds W0 w.heap.size .u32 109 f ∧ Holds W0 (w.heap.size + 1) .u32 168 (List.replicate 64 0) ∧ Holds W0 (w.heap.size + 1 + 1) .u32 168 (List.replicate 64 0)) ⟨(((Below.refl _ _).alloc (Nat.le_refl _) _).alloc (by simp) _).alloc (by simp; omega) _, by simp, ?_, ?_, ?_⟩ ?_
  · exact ((Holds.new w .u32 109 f).alloc _).alloc _
  · have hn := Holds.new (w.alloc (.cells (row .u32 f) 109)) .u32 168 (List.replicate 64 0)
    rw [World.size_alloc] at hn
    exact hn.alloc _
  · have hn := Holds.new ((w.alloc (.cells (row .u32 f) 109)).alloc (.cells (row .u32 (List.replicate 64 0)) 168)) .u32 168 (List.replicate 64 0)
    rw [World.size_alloc, World.size_alloc] at hn
    exact hn
  rintro W0 ⟨hB, hsz, h0, h1, h2⟩
  have hcp : ∀ wx : World, wx.heap = W0.heap → (Builtin.copy_ #[144, 144] 3 #[.slice (some ⟨w.heap.size + 1 + 1, 0, none⟩) 64 64, .slice (some ⟨w.heap.size, 0, none⟩) 16 16]).run Tryd.prog wx =
      .ok (.int .i64 16) (wx.setRow (w.heap.size + 1 + 1) (row .u32 (f ++ List.replicate 48 0))) := fun wx hx => by
    have hg : wx.heap[w.heap.size + 1 + 1]? = some (.cells (row .u32 (List.replicate 64 0)) 168 (0, 0)) := by rw [hx]; exact h2
    have hs : wx.heap[w.heap.size]? = some (.cells (row .u32 f) 109 (0, 0)) := by rw [hx]; exact h0
    have := run_copy_row (P := Tryd.prog) wx 144 144 3 34 (w.heap.size + 1 + 1) 0 64 64 ⟨w.heap.size, 0, none⟩ 16 16 _ 168 (row .u32 f).toList Tryd.underlying144 size1u32 hg
      (by simp [row, hf]) (fun j v hv => by
        have : (⟨w.heap.size, 0, none⟩ : Addr).add j = ⟨w.heap.size, j, none⟩ := by unfold Addr.add; split <;> simp_all
        rw [this, cell_of_row wx _ j _ _ _ hs]; simpa using hv) (by simp [row, hf]) (fun v hv => (Array.all_eq_true_iff_forall_mem.1 (row_one .u32 f)) v (by simpa using hv))
    rw [this]
    have e : (List.take 0 (row .u32 (List.replicate 64 0)).toList ++ (row .u32 f).toList ++ List.drop (0 + (row .u32 f).toList.length) (row .u32 (List.replicate 64 0)).toList).toArray = row .u32 (f ++ List.replicate 48 0) := by
      simp [row, hf]
    rw [e]
    have e2 : (row .u32 f).toList.length = 16 := by simp [row, hf]
    rw [e2]; rfl
  have hcp1 := hcp W0.drew rfl
  clear hcp
  go_region
  go_wp2
  refine forget (p := fun x => Code.wp _ _ _ _ x) (fun W1 => Below w.heap.size w W1 ∧ W1.heap.size = w.heap.size + 3 ∧ Holds W1 (w.heap.size + 1) .u32 168 (List.replicate 64 0) ∧ Holds W1 (w.heap.size + 1 + 1) .u32 168 (f ++ List.replicate 48 0)) ⟨below_setRow hB.drew (by omega) _, by simp [hsz], ?_, ?_⟩ ?_
  · exact (show Holds W0.drew _ _ _ _ from h1).setRowOther _ (by omega)
  · exact (show Holds W0.drew _ _ _ _ from h2).setRow _
  clear hcp1 h0 h1 h2 hB hsz
  rintro W1 ⟨hB, hsz, h1, h2⟩
  go_loopw [4] (fun i wr => ∃ m : Nat, m ≤ 48 ∧ i = .int .i64 ((16 + m : Nat) : Int) ∧ Below w.heap.size w wr ∧ wr.heap.size = w.heap.size + 3
      ∧ Holds wr (w.heap.size + 1) .u32 168 (List.replicate 64 0)
      ∧ Holds wr (w.heap.size + 1 + 1) .u32 168 (sched f m ++ List.replicate (48 - m) 0))
    (fun i _ => 64 - (intOf i).toNat)
  case atStart => exact ⟨0, by omega, rfl, hB, hsz, h1, h2⟩
  case round =>
    clear hB hsz h1 h2 W1
    obtain ⟨m, hm, rfl, hB, hsz, h1, h2⟩ := hrel
    by_cases hlt : m < 48
    · have hln : (sched f m ++ List.replicate (48 - m) 0).length = 64 := by rw [List.length_append, sched_length, hf, List.length_replicate]; omega
      have ix : ∀ j, j < 16 + m → (sched f m ++ List.replicate (48 - m) 0)[j]?.getD 0 = (sched f m)[j]?.getD 0 := fun j hj => by rw [List.getElem?_append_left (by rw [sched_length, hf]; omega)]
      have c2 := h2.cell (16 + m - 2) (by omega)
      have c7 := h2.cell (16 + m - 7) (by omega)
      have c15 := h2.cell (16 + m - 15) (by omega)
      have c16 := h2.cell (16 + m - 16) (by omega)
      rw [ix _ (by omega)] at c2 c7 c15 c16
      have cc := h2.cell (16 + m) (by omega)
      have cf := h2.frozen (16 + m)
      clear ix hln
      obtain ⟨k, hk⟩ : ∃ k, 16 + m = k := ⟨_, rfl⟩
      have hk1 : 16 ≤ k := by omega
      have hk2 : k < 64 := by omega
      have HK : Hid (16 + m = k) := hk
      rw [hk] at c2 c7 c15 c16 cc cf ⊢
      clear hk
      go_wp2
      go_quiet ((fail))
      go_wp2_with (go_at_call 102; refine (right_any _ _ _ (by unfold rotN; omega)).mono ?_; rintro e w' ⟨rfl, rfl⟩)
      go_region
      all_goals go_wp2
      all_goals go_roundw
      case rel =>
        refine ⟨m + 1, by omega, ?_, ?_, ?_, ?_, ?_⟩
        · have := HK.out; subst this; go_num
        · exact (below_drewN hB _).setCell (by simp; omega) _
        · simp [hsz]
        · exact (h1.drewN _).setOther _ _ (by simp)
        · have hk := HK.out
          subst hk
          have := (h2.drewN (nq + 1)).set (16 + m) (swdAt (sched f m) (16 + m))
          rw [show 48 - m = (48 - (m + 1)) + 1 by omega] at this
          have e := set_next (sched f m) (48 - (m + 1)) (swdAt (sched f m) (16 + m))
          rw [sched_length, hf] at e
          rw [e] at this
          have e2 : sched f (m + 1) = sched f m ++ [swdAt (sched f m) (16 + m)] := by rw [sched, swd, sched_length, hf]
          rw [e2]
          exact this
      case measure => have := HK.out; simp [intOf]; omega
    · obtain rfl : m = 48 := by omega
      have hl : (sched f 48).length = 64 := by rw [sched_length, hf]
      have h2' : Holds wr (w.heap.size + 1 + 1) .u32 168 (sched f 48) := by simpa using h2
      clear h2
      go_wp2_with (first | (refine wpList_ld rfl 168 _ rfl _ rfl h2' Tryd.underlying168 size64 hl ?_) | (refine wpList_st rfl 168 _ _ rfl _ rfl rfl h1 (by rw [hl]; exact size64) (by simp [hl]) ?_))
      refine bodyPost_ret (results_holds (Tryd.results100) _ rfl (h1.setRow _) Tryd.underlying168 size64 hl) rfl ⟨rfl, ?_⟩
      exact below_setRow hB (by omega) _
end Go.Proofs.YtlalcnmcnkompaaDoor.S

namespace Go.Proofs.YtlalcnmcnkompaaDoor.S
open Go.RowKit

/-- The table of the words K lies in its variable's block. -/
def KTab (w : World) : Prop := ∀ j, j < 64 → w.cell? ⟨0, j, none⟩ = some (.int .u32 (kTab[j]?.getD 0))
theorem KTab.lt {w : World} (h : KTab w) : 0 < w.heap.size := block_lt_of_cell (h 0 (by omega))
theorem KTab.below {w w' : World} (h : KTab w) (hb : Below w.heap.size w w') : KTab w' := fun j hj => (hb.cell (p := ⟨0, j, none⟩) h.lt).trans (h j hj)

set_option maxRecDepth 20000 in
theorem mixed_any (s ws : List Int) (w : World) (hs : s.length = 8) (hin : InU s) (hw : ws.length = 64) (hk : KTab w) :
    Calls Tryd.prog 99 #[.agg (row .u32 s), .agg (row .u32 ws)] w fun e w' => e = .returned (.agg (row .u32 (rounds ws s 64))) ∧ Below w.heap.size w w' := by
  go_enter Tryd.func99, Tryd.ntmps99
  go_wp2
  refine forget (p := fun x => Code.wp _ _ _ _ x) (fun W0 => Below w.heap.size w W0 ∧ W0.heap.size = w.heap.size + 3 ∧ Holds W0 w.heap.size .u32 153 s ∧ Holds W0 (w.heap.size + 1) .u32 168 ws ∧ Holds W0 (w.heap.size + 1 + 1) .u32 153 (List.replicate 8 0)) ⟨(((Below.refl _ _).alloc (Nat.le_refl _) _).alloc (by simp) _).alloc (by simp; omega) _, by simp, ?_, ?_, ?_⟩ ?_
  · exact ((Holds.new w .u32 153 s).alloc _).alloc _
  · have hn := Holds.new (w.alloc (.cells (row .u32 s) 153)) .u32 168 ws
    rw [World.size_alloc] at hn
    exact hn.alloc _
  · have hn := Holds.new ((w.alloc (.cells (row .u32 s) 153)).alloc (.cells (row .u32 ws) 168)) .u32 153 (List.replicate 8 0)
    rw [World.size_alloc, World.size_alloc] at hn
    exact hn
  rintro W0 ⟨hB, hsz, h0, h1, h2⟩
  obtain ⟨a, b, c, d, e, f, g, h, rfl⟩ := eight hs
  have c0 : W0.cell? ⟨w.heap.size, 0, none⟩ = some (.int .u32 a) := h0.cell 0 (by simp)
  have c1 : W0.cell? ⟨w.heap.size, 1, none⟩ = some (.int .u32 b) := h0.cell 1 (by simp)
  have c2 : W0.cell? ⟨w.heap.size, 2, none⟩ = some (.int .u32 c) := h0.cell 2 (by simp)
  have c3 : W0.cell? ⟨w.heap.size, 3, none⟩ = some (.int .u32 d) := h0.cell 3 (by simp)
  have c4 : W0.cell? ⟨w.heap.size, 4, none⟩ = some (.int .u32 e) := h0.cell 4 (by simp)
  have c5 : W0.cell? ⟨w.heap.size, 5, none⟩ = some (.int .u32 f) := h0.cell 5 (by simp)
  have c6 : W0.cell? ⟨w.heap.size, 6, none⟩ = some (.int .u32 g) := h0.cell 6 (by simp)
  have c7 : W0.cell? ⟨w.heap.size, 7, none⟩ = some (.int .u32 h) := h0.cell 7 (by simp)
  go_quiet ((fail))
  go_wp2
  refine forget (p := fun x => Code.wp _ _ _ _ x) (fun W1 => Below w.heap.size w W1 ∧ W1.heap.size = w.heap.size + 3 ∧ Holds W1 (w.heap.size + 1) .u32 168 ws ∧ Holds W1 (w.heap.size + 1 + 1) .u32 153 (List.replicate 8 0)) ⟨below_drewN hB _, by simp [hsz], h1.drewN _, h2.drewN _⟩ ?_
  clear c0 c1 c2 c3 c4 c5 c6 c7 h0 h1 h2 hB hsz
  rintro W1 ⟨hB, hsz, h1, h2⟩
  go_loopw [5, 6, 7, 8, 9, 10, 11, 12, 32] (fun va vb vc vd ve vf vg vh i wr => ∃ (k : Nat) (a' b' c' d' e' f' g' h' : Int), k ≤ 64 ∧ i = .int .i64 k ∧ rounds ws [a, b, c, d, e, f, g, h] k = [a', b', c', d', e', f', g', h'] ∧
      va = .int .u32 a' ∧ vb = .int .u32 b' ∧ vc = .int .u32 c' ∧ vd = .int .u32 d' ∧ ve = .int .u32 e' ∧ vf = .int .u32 f' ∧ vg = .int .u32 g' ∧ vh = .int .u32 h' ∧
      Below w.heap.size w wr ∧ wr.heap.size = w.heap.size + 3 ∧ Holds wr (w.heap.size + 1) .u32 168 ws ∧ Holds wr (w.heap.size + 1 + 1) .u32 153 (List.replicate 8 0))
    (fun _ _ _ _ _ _ _ _ i _ => 64 - (intOf i).toNat)
  case atStart => exact ⟨0, a, b, c, d, e, f, g, h, by omega, rfl, rfl, rfl, rfl, rfl, rfl, rfl, rfl, rfl, rfl, hB, hsz, h1, h2⟩
  case round =>
    clear hB hsz h1 h2 W1
    obtain ⟨k, a', b', c', d', e', f', g', h', hk64, rfl, HR, rfl, rfl, rfl, rfl, rfl, rfl, rfl, rfl, hB, hsz, h1, h2⟩ := hrel
    have HH : Hid (rounds ws [a, b, c, d, e, f, g, h] k = [a', b', c', d', e', f', g', h']) := HR
    have hin' := rounds_in ws [a, b, c, d, e, f, g, h] k hs hin
    rw [HR] at hin'
    have he := hin' e' (by simp)
    obtain ⟨he0, he1⟩ := he
    clear HR hin'
    by_cases hlt : k < 64
    · have ck : wr.cell? ⟨0, k, none⟩ = some (.int .u32 (kTab[k]?.getD 0)) := (hB.cell (p := ⟨0, k, none⟩) hk.lt).trans (hk k hlt)
      have cw := h1.cell k (by omega)
      obtain ⟨K, hK⟩ : ∃ K, kTab[k]?.getD 0 = K := ⟨_, rfl⟩
      have HK : Hid (kTab[k]?.getD 0 = K) := hK
      rw [hK] at ck
      obtain ⟨V, hV⟩ : ∃ V, ws[k]?.getD 0 = V := ⟨_, rfl⟩
      have HV : Hid (ws[k]?.getD 0 = V) := hV
      rw [hV] at cw
      have HN : Hid (bits .xor .u32 (if IntKind.u32.signed = true then -1 else IntKind.u32.max) e' = 4294967295 - e') := not_u32 e' he0 he1
      clear hK hV
      go_wp2
      go_quiet ((go_at_call 102; exact Calls.quiet_of_same (right_any _ _ _ (by unfold rotN; omega))))
      go_wp2_with (go_at_call 102; refine (right_any _ _ _ (by unfold rotN; omega)).mono ?_; rintro e w' ⟨rfl, rfl⟩)
      go_roundw
      case rel =>
        refine ⟨k + 1, _, _, _, _, _, _, _, _, by omega, by go_num, ?_, rfl, rfl, rfl, rfl, rfl, rfl, rfl, rfl, below_drewN hB _, by simp [hsz], h1.drewN _, h2.drewN _⟩
        show rnd (kTab[k]?.getD 0) (ws[k]?.getD 0) (rounds ws [a, b, c, d, e, f, g, h] k) = _
        rw [HH.out, HK.out, HV.out]
        refine rnd_of ?_ ?_
        · unfold sig1 sig0 chs maj; rw [HN.out]; omega
        · unfold sig1 chs; rw [HN.out]; omega
      case measure => simp [intOf]; omega
    · obtain rfl : k = 64 := by omega
      have hr : rounds ws [a, b, c, d, e, f, g, h] 64 = [a', b', c', d', e', f', g', h'] := HH.out
      go_wp2_with (refine wpList_st rfl 153 _ _ rfl _ rfl (l := [a', b', c', d', e', f', g', h']) rfl h2 sizeSt (by simp) ?_)
      refine bodyPost_ret (results_holds (Tryd.results99) _ rfl (h2.setRow [a', b', c', d', e', f', g', h']) Tryd.underlying153 sizeSt rfl) rfl ⟨by rw [hr], ?_⟩
      exact below_setRow hB (by omega) _
end Go.Proofs.YtlalcnmcnkompaaDoor.S
