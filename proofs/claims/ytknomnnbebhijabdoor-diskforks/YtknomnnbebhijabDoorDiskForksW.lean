/- The statement DiskForks, walked. -/
import Derived.Test.YtknomnnbebhijabDoorDy
namespace Go.Proofs.YtknomnnbebhijabDoor
open Go.RowKit Go.Shelf
set_option maxRecDepth 20000
set_option linter.unusedSimpArgs false

set_option maxHeartbeats 8000000 in
theorem diskForks_walk (x : Option Addr) (len cap : Nat) (ds : List Dd) (y : Option Addr) (lm cm : Nat) (ms : List Dd) (w : World) (hd : DeedsAt w x len cap ds) (hm : DeedsAt w y lm cm ms) (hKT : S.KTab w) :
    Calls Tryd.prog 3 #[.slice x len cap, .slice y lm cm] w fun e w' => e = .returned (.bool true) ∧ Below w.heap.size w w' := by
  have hP := play_any x len cap ds w hd hKT
  have HDL : Veil (lm = ms.length) := ⟨hm.len_eq⟩
  go_enter Tryd.func3, Tryd.ntmps3
  go_upto_region 4 with (first
    | (go_at_call 5; refine hP.mono ?_; rintro e w1 ⟨D, R, rfl, ⟨v, u, z, s, hB1⟩, hb1⟩)
    | (go_at_call 6; refine (dLive_any w1 (hKT.below hb1)).mono ?_; rintro e w2 ⟨rfl, hb2⟩))
  have hb12 := hb1.trans (hb2.mono hb1.size)
  have hB2 := hB1.far hb2
  have hW2 := hb12.size
  clear hP hB1 hd hb1 hb2
  go_wp2_with (first
    | (go_at_call 7; refine (dFork_any _ _ _ _ _ w2 hB2.d).mono ?_; rintro e w3 ⟨F, vf, rfl, hF3, hb3⟩)
    | (go_at_call 8; refine (rFork_any _ _ _ _ _ w3 (hB2.far hb3).r).mono ?_; rintro e w4 ⟨G, uf, rfl, hG4, hb4⟩))
  have hBf := Both.forked hF3 hb3 hG4 hb4
  have hb24 : Below w2.heap.size w2 w4 := hb3.trans (hb4.mono hb3.size)
  clear hF3 hG4 hb3 hb4
  go_loopw [10] (fun p wr => ∃ k : Nat, k ≤ lm ∧ p = .int .i64 (k : Nat) ∧ (∃ v' u' z' s', Both wr w2.heap.size F v' G u' z' s') ∧ Below w2.heap.size w2 wr) (fun p _ => lm - (intOf p).toNat)
  case atStart => exact ⟨0, Nat.zero_le _, rfl, ⟨_, _, _, _, hBf⟩, hb24⟩
  case round =>
    obtain ⟨k, hk, rfl, ⟨v', u', z', s', hBr⟩, hB⟩ := hrel
    clear hBf hb24
    have hBw : Below w.heap.size w wr := hb12.trans (hB.mono hW2)
    have hexit : True := trivial
    by_cases h12 : k < lm ∧ k < 20
    · obtain ⟨h1, h2⟩ := h12
      have h1i : (k : Int) < (lm : Int) := by omega
      have h2i : (k : Int) < 20 := by omega
      obtain ⟨b, off, rfl, hc⟩ : ∃ b off, y = some ⟨b, off, none⟩ ∧ ∀ j (hj : j < ms.length) (i : Nat) v, ms[j].cells[i]? = some v → wr.cell? ⟨b, off + j * 3 + i, none⟩ = some v := by
        rcases (hm.below hBw).at_ with h0 | h0
        · omega
        · exact h0
      have hkd : k < ms.length := by have := HDL.out; omega
      have e0 := hc k hkd 0 _ rfl
      have e1 := hc k hkd 1 _ rfl
      have e2 := hc k hkd 2 _ rfl
      have hok := hm.ok ms[k] (List.getElem_mem hkd)
      have hdo := do_any w2.heap.size F G v' u' z' s' wr hBr hB.size (hKT.below hBw) ms[k] (hok.below hBw) (fun a hl0 ha => by
        rcases hok.bytes.at_ with h0 | ⟨b', off', hx', hc'⟩
        · exact absurd h0 hl0
        · rw [hx'] at ha
          cases ha
          exact Nat.lt_of_lt_of_le (block_lt_of_cell (hc' 0 (by omega))) hW2)
      clear hc hok hBr
      generalize ms[k] = dk at e0 e1 e2 hdo
      obtain ⟨kind, keep, xx, ll, cc, bb⟩ := dk
      simp only [Dd.cells] at hdo
      simp only at e0 e1 e2
      rw [Nat.add_zero] at e0
      have hw1 : IntKind.i64.wrap ((k : Int) + 1) = (k : Int) + 1 := by rw [IntKind.wrap_i64]; omega
      go_wp2_with (go_at_call 9; refine hdo.mono ?_; rintro e w5 ⟨rfl, hB5, hb5⟩)
      go_roundw
      case rel => exact ⟨k + 1, h1, by push_cast; rfl, hB5, hB.trans hb5⟩
      case measure => simp [intOf]; omega
    · have hBd := hB2.far hB
      have hzl := hBd.d.len
      have hBy := dBytes_any _ _ _ _ _ wr hBd.d
      obtain ⟨n, hn⟩ : ∃ q, z.length = q := ⟨_, rfl⟩
      rw [hn] at hzl
      have hend : Veil (¬ ((k : Int) < (lm : Int) ∧ (k : Int) < 20)) := ⟨by omega⟩
      by_cases h1 : k < lm
      · have h1i : (k : Int) < (lm : Int) := by omega
        have h2i : ¬ (k : Int) < 20 := by omega
        obtain ⟨W5, hW5⟩ : ∃ q, q = wr := ⟨_, rfl⟩
        subst hW5
        go_wp2_with (go_at_call 10; refine hBy.mono ?_; rintro e w6 ⟨v6, rfl, ho6, hb6⟩; obtain ⟨x6, n6, c6, rfl, hn6⟩ := ho6.isSlice)
        rw [hn] at hn6
        subst hn6
        have hr6 := ho6.room
        have hBd6 := Veil.mk hBd
        have hBr6 := Veil.mk hBr
        have hwr := hB.size
        clear hBd hBr hBy ho6 hn hm hB2
        go_loopw [12] (fun p wq => ∃ j : Nat, j ≤ n6 ∧ p = .int .i64 (j : Nat) ∧ RoomB wq x6 n6 W5.heap.size ∧ Below W5.heap.size W5 wq) (fun p _ => n6 - (intOf p).toNat)
        case atStart => exact ⟨0, Nat.zero_le _, rfl, hr6, hb6⟩
        case round =>
          obtain ⟨j, hj, rfl, hrm, hbq⟩ := hrel
          clear hr6 hb6
          by_cases hlt : j < n6
          · have hlti : (j : Int) < (n6 : Int) := by omega
            obtain ⟨g, cs, rfl, hgb, hcs, hat⟩ : ∃ g cs, x6 = some ⟨g, 0, none⟩ ∧ W5.heap.size ≤ g ∧ CellsD wr g 5 cs ∧ ∀ j, j < n6 → ∃ v, cs[j]? = some (.int .u8 v) := by
              rcases hrm with h0 | h0
              · omega
              · exact h0
            obtain ⟨v0, hv0⟩ := hat j hlt
            have c1 : wr.cell? ⟨g, j, none⟩ = some (.int .u8 v0) := (hcs.cell j).trans hv0
            have f1 := hcs.frozen j
            have hrm' := hrm.set j 0
            have hbq' : Below W5.heap.size W5 (wr.setCell ⟨g, j, none⟩ (.int .u8 0)) := hbq.trans ((TurnD.of_setCell (p := fun k => k = g) wr (a := ⟨g, j, none⟩) rfl _).below hbq.size (fun k hk => by rw [hk]; exact hgb))
            have hw1 : IntKind.i64.wrap ((j : Int) + 1) = (j : Int) + 1 := by rw [IntKind.wrap_i64]; omega
            clear hat hcs hv0 hrm hbq
            go_wp2
            go_roundw
            case rel => exact ⟨j + 1, hlt, by push_cast; rfl, hrm', hbq'⟩
            case measure => simp [intOf]; omega
          · have hlti : ¬ (j : Int) < (n6 : Int) := by omega
            have hBd := hBd6.out.far hbq
            have hBr := hBr6.out.far hbq
            have hb17 : Below w.heap.size w wr := hBw.trans (hbq.mono hBw.size)
            clear hrm
            go_wp2_with (first
              | (go_at_call 11; refine (same_any _ F G v' u' z' s' w8 hBr8 (hKT.below hb18)).mono ?_; rintro e w9 ⟨rfl, hb9⟩; have hb19 := hb18.trans (hb9.mono hb18.size))
              | (go_at_call 11; refine (same_any _ D R v u z s wr hBd (hKT.below hb17)).mono ?_; rintro e w8 ⟨rfl, hb8⟩; have hb18 := hb17.trans (hb8.mono hb17.size); have hBr8 := hBr.far hb8))
            go_ret
            exact ⟨rfl, hb19⟩
      · have h1i : ¬ (k : Int) < (lm : Int) := by omega
        obtain ⟨W5, hW5⟩ : ∃ q, q = wr := ⟨_, rfl⟩
        subst hW5
        go_wp2_with (go_at_call 10; refine hBy.mono ?_; rintro e w6 ⟨v6, rfl, ho6, hb6⟩; obtain ⟨x6, n6, c6, rfl, hn6⟩ := ho6.isSlice)
        rw [hn] at hn6
        subst hn6
        have hr6 := ho6.room
        have hBd6 := Veil.mk hBd
        have hBr6 := Veil.mk hBr
        have hwr := hB.size
        clear hBd hBr hBy ho6 hn hm hB2
        go_loopw [12] (fun p wq => ∃ j : Nat, j ≤ n6 ∧ p = .int .i64 (j : Nat) ∧ RoomB wq x6 n6 W5.heap.size ∧ Below W5.heap.size W5 wq) (fun p _ => n6 - (intOf p).toNat)
        case atStart => exact ⟨0, Nat.zero_le _, rfl, hr6, hb6⟩
        case round =>
          obtain ⟨j, hj, rfl, hrm, hbq⟩ := hrel
          clear hr6 hb6
          by_cases hlt : j < n6
          · have hlti : (j : Int) < (n6 : Int) := by omega
            obtain ⟨g, cs, rfl, hgb, hcs, hat⟩ : ∃ g cs, x6 = some ⟨g, 0, none⟩ ∧ W5.heap.size ≤ g ∧ CellsD wr g 5 cs ∧ ∀ j, j < n6 → ∃ v, cs[j]? = some (.int .u8 v) := by
              rcases hrm with h0 | h0
              · omega
              · exact h0
            obtain ⟨v0, hv0⟩ := hat j hlt
            have c1 : wr.cell? ⟨g, j, none⟩ = some (.int .u8 v0) := (hcs.cell j).trans hv0
            have f1 := hcs.frozen j
            have hrm' := hrm.set j 0
            have hbq' : Below W5.heap.size W5 (wr.setCell ⟨g, j, none⟩ (.int .u8 0)) := hbq.trans ((TurnD.of_setCell (p := fun k => k = g) wr (a := ⟨g, j, none⟩) rfl _).below hbq.size (fun k hk => by rw [hk]; exact hgb))
            have hw1 : IntKind.i64.wrap ((j : Int) + 1) = (j : Int) + 1 := by rw [IntKind.wrap_i64]; omega
            clear hat hcs hv0 hrm hbq
            go_wp2
            go_roundw
            case rel => exact ⟨j + 1, hlt, by push_cast; rfl, hrm', hbq'⟩
            case measure => simp [intOf]; omega
          · have hlti : ¬ (j : Int) < (n6 : Int) := by omega
            have hBd := hBd6.out.far hbq
            have hBr := hBr6.out.far hbq
            have hb17 : Below w.heap.size w wr := hBw.trans (hbq.mono hBw.size)
            clear hrm
            go_wp2_with (first
              | (go_at_call 11; refine (same_any _ F G v' u' z' s' w8 hBr8 (hKT.below hb18)).mono ?_; rintro e w9 ⟨rfl, hb9⟩; have hb19 := hb18.trans (hb9.mono hb18.size))
              | (go_at_call 11; refine (same_any _ D R v u z s wr hBd (hKT.below hb17)).mono ?_; rintro e w8 ⟨rfl, hb8⟩; have hb18 := hb17.trans (hb8.mono hb17.size); have hBr8 := hBr.far hb8))
            go_ret
            exact ⟨rfl, hb19⟩
end Go.Proofs.YtknomnnbebhijabDoor
