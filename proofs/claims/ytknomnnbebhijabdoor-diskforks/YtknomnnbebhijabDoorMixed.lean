/- 'mixed': the words behind the 64 rounds. -/
import Derived.Test.YtknomnnbebhijabDoorSpread
namespace Go.Proofs.YtknomnnbebhijabDoor.S
open Go.RowKit

/-- The table of the words K lies in its variable's block. -/
def KTab (w : World) : Prop := ∀ j, j < 64 → w.cell? ⟨0, j, none⟩ = some (.int .u32 (kTab[j]?.getD 0))
theorem KTab.lt {w : World} (h : KTab w) : 0 < w.heap.size := block_lt_of_cell (h 0 (by omega))
theorem KTab.below {w w' : World} (h : KTab w) (hb : Below w.heap.size w w') : KTab w' := fun j hj => (hb.cell (p := ⟨0, j, none⟩) h.lt).trans (h j hj)

set_option maxRecDepth 20000 in
theorem mixed_any (s ws : List Int) (w : World) (hs : s.length = 8) (hin : InU s) (hw : ws.length = 64) (hk : KTab w) :
    Calls Tryd.prog 48 #[.agg (row .u32 s), .agg (row .u32 ws)] w fun e w' => e = .returned (.agg (row .u32 (rounds ws s 64))) ∧ Below w.heap.size w w' := by
  go_enter Tryd.func48, Tryd.ntmps48
  go_wp2
  refine forget (p := fun x => Code.wp _ _ _ _ x) (fun W0 => Below w.heap.size w W0 ∧ W0.heap.size = w.heap.size + 3 ∧ Holds W0 w.heap.size .u32 67 s ∧ Holds W0 (w.heap.size + 1) .u32 76 ws ∧ Holds W0 (w.heap.size + 1 + 1) .u32 67 (List.replicate 8 0)) ⟨(((Below.refl _ _).alloc (Nat.le_refl _) _).alloc (by simp) _).alloc (by simp; omega) _, by simp, ?_, ?_, ?_⟩ ?_
  · exact ((Holds.new w .u32 67 s).alloc _).alloc _
  · have hn := Holds.new (w.alloc (.cells (row .u32 s) 67)) .u32 76 ws
    rw [World.size_alloc] at hn
    exact hn.alloc _
  · have hn := Holds.new ((w.alloc (.cells (row .u32 s) 67)).alloc (.cells (row .u32 ws) 76)) .u32 67 (List.replicate 8 0)
    rw [World.size_alloc, World.size_alloc] at hn
    exact hn
  rintro W0 ⟨hB, hsz, h0, h1, h2⟩
  obtain ⟨a, b, c, d, e, f, g, h, rfl⟩ := eight hs
  have c0 : W0.cell? ⟨w.heap.size, 0, none⟩ = some (.int .u32 a) := h0.cell 0 (by simp)
  have c1 : W0.cell? ⟨w.heap.size, 1, none⟩ = some (.int .u32 b) := h0.cell 1 (by simp)
  have c2 : W0.cell? ⟨w.heap.size, 2, none⟩ = some (.int .u32 c) := h0.cell 2 (by simp)
  have c3 : W0.cell? ⟨w.heap.size, 3, none⟩ = some (.int .u32 d) := h0.cell 3 (by simp)
  have c4 : W0.cell? ⟨w.heap.size, 4, none⟩ = some (.int .u32 e) := h0.cell 4 (by simp)
  have c5 : W0.cell? ⟨w.heap.size, 5, none⟩ = some (.int .u32 f) := h0.cell 5 (by simp)
  have c6 : W0.cell? ⟨w.heap.size, 6, none⟩ = some (.int .u32 g) := h0.cell 6 (by simp)
  have c7 : W0.cell? ⟨w.heap.size, 7, none⟩ = some (.int .u32 h) := h0.cell 7 (by simp)
  go_quiet ((fail))
  go_wp2
  refine forget (p := fun x => Code.wp _ _ _ _ x) (fun W1 => Below w.heap.size w W1 ∧ W1.heap.size = w.heap.size + 3 ∧ Holds W1 (w.heap.size + 1) .u32 76 ws ∧ Holds W1 (w.heap.size + 1 + 1) .u32 67 (List.replicate 8 0)) ⟨below_drewN hB _, by simp [hsz], h1.drewN _, h2.drewN _⟩ ?_
  clear c0 c1 c2 c3 c4 c5 c6 c7 h0 h1 h2 hB hsz
  rintro W1 ⟨hB, hsz, h1, h2⟩
  go_loopw [5, 6, 7, 8, 9, 10, 11, 12, 32] (fun va vb vc vd ve vf vg vh i wr => ∃ (k : Nat) (a' b' c' d' e' f' g' h' : Int), k ≤ 64 ∧ i = .int .i64 k ∧ rounds ws [a, b, c, d, e, f, g, h] k = [a', b', c', d', e', f', g', h'] ∧
      va = .int .u32 a' ∧ vb = .int .u32 b' ∧ vc = .int .u32 c' ∧ vd = .int .u32 d' ∧ ve = .int .u32 e' ∧ vf = .int .u32 f' ∧ vg = .int .u32 g' ∧ vh = .int .u32 h' ∧
      Below w.heap.size w wr ∧ wr.heap.size = w.heap.size + 3 ∧ Holds wr (w.heap.size + 1) .u32 76 ws ∧ Holds wr (w.heap.size + 1 + 1) .u32 67 (List.replicate 8 0))
    (fun _ _ _ _ _ _ _ _ i _ => 64 - (intOf i).toNat)
  case atStart => exact ⟨0, a, b, c, d, e, f, g, h, by omega, rfl, rfl, rfl, rfl, rfl, rfl, rfl, rfl, rfl, rfl, hB, hsz, h1, h2⟩
  case round =>
    clear hB hsz h1 h2 W1
    obtain ⟨k, a', b', c', d', e', f', g', h', hk64, rfl, HR, rfl, rfl, rfl, rfl, rfl, rfl, rfl, rfl, hB, hsz, h1, h2⟩ := hrel
    have HH : Hid (rounds ws [a, b, c, d, e, f, g, h] k = [a', b', c', d', e', f', g', h']) := HR
    have hin' := rounds_in ws [a, b, c, d, e, f, g, h] k hs hin
    rw [HR] at hin'
    have he := hin' e' (by simp)
    obtain ⟨he0, he1⟩ := he
    clear HR hin'
    by_cases hlt : k < 64
    · have ck : wr.cell? ⟨0, k, none⟩ = some (.int .u32 (kTab[k]?.getD 0)) := (hB.cell (p := ⟨0, k, none⟩) hk.lt).trans (hk k hlt)
      have cw := h1.cell k (by omega)
      obtain ⟨K, hK⟩ : ∃ K, kTab[k]?.getD 0 = K := ⟨_, rfl⟩
      have HK : Hid (kTab[k]?.getD 0 = K) := hK
      rw [hK] at ck
      obtain ⟨V, hV⟩ : ∃ V, ws[k]?.getD 0 = V := ⟨_, rfl⟩
      have HV : Hid (ws[k]?.getD 0 = V) := hV
      rw [hV] at cw
      have HN : Hid (bits .xor .u32 (if IntKind.u32.signed = true then -1 else IntKind.u32.max) e' = 4294967295 - e') := not_u32 e' he0 he1
      clear hK hV
      go_wp2
      go_quiet ((go_at_call 53; exact Calls.quiet_of_same (right_any _ _ _ (by unfold rotN; omega))))
      go_wp2_with (go_at_call 53; refine (right_any _ _ _ (by unfold rotN; omega)).mono ?_; rintro e w' ⟨rfl, rfl⟩)
      go_roundw
      case rel =>
        refine ⟨k + 1, _, _, _, _, _, _, _, _, by omega, by go_num, ?_, rfl, rfl, rfl, rfl, rfl, rfl, rfl, rfl, below_drewN hB _, by simp [hsz], h1.drewN _, h2.drewN _⟩
        show rnd (kTab[k]?.getD 0) (ws[k]?.getD 0) (rounds ws [a, b, c, d, e, f, g, h] k) = _
        rw [HH.out, HK.out, HV.out]
        refine rnd_of ?_ ?_
        · unfold sig1 sig0 chs maj; rw [HN.out]; omega
        · unfold sig1 chs; rw [HN.out]; omega
      case measure => simp [intOf]; omega
    · obtain rfl : k = 64 := by omega
      have hr : rounds ws [a, b, c, d, e, f, g, h] 64 = [a', b', c', d', e', f', g', h'] := HH.out
      go_wp2_with (refine wpList_st rfl 67 _ _ rfl _ rfl (l := [a', b', c', d', e', f', g', h']) rfl h2 sizeSt (by simp) ?_)
      refine bodyPost_ret (results_holds (Tryd.results48) _ rfl (h2.setRow [a', b', c', d', e', f', g', h']) Tryd.underlying67 sizeSt rfl) rfl ⟨by rw [hr], ?_⟩
      exact below_setRow hB (by omega) _
end Go.Proofs.YtknomnnbebhijabDoor.S
