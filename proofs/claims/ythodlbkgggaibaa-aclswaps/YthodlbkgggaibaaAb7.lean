/- acl: the roles of all; how many there are; which count; an empty one. -/
import Derived.Test.YthodlbkgggaibaaAb6
namespace Go.Proofs.Ythodlbkgggaibaa
open Go.RowKit Go.Shelf
set_option maxRecDepth 20000
set_option linter.unusedSimpArgs false
def memTo (L : List Ent) (v : List Int) (k : Nat) : List Int := (List.range 8).map (fun i => if i < k then roleP L i v else 0)
def membersL (L : List Ent) (v : List Int) : List Int := (List.range 8).map (fun i => roleP L (i : Nat) v)
theorem memTo_len (L : List Ent) (v : List Int) (k : Nat) : (memTo L v k).length = 8 := by unfold memTo; simp
theorem membersL_len (L : List Ent) (v : List Int) : (membersL L v).length = 8 := by unfold membersL; simp
theorem memTo_8 (L : List Ent) (v : List Int) : memTo L v 8 = membersL L v := by
  unfold memTo membersL
  refine List.map_congr_left fun i hi => ?_
  rw [if_pos (List.mem_range.1 hi)]
theorem memTo_set (L : List Ent) (v : List Int) (k : Nat) : memTo L v (k + 1) = (memTo L v k).set k (roleP L (k : Nat) v) := by
  apply List.ext_getElem?
  intro j
  unfold memTo
  rw [List.getElem?_set]
  by_cases hj : j < 8
  · by_cases e : k = j
    · subst e
      simp [hj]
    · rw [if_neg e]
      simp [hj]
      by_cases h : j < k
      · rw [if_pos h, if_pos (by omega)]
      · rw [if_neg h, if_neg (by omega)]
  · by_cases e : k = j
    · subst e; simp [hj]
    · rw [if_neg e]; simp [hj]
theorem holds_farA {w w' : World} {g : Nat} {k : IntKind} {t : TypeId} {l : List Int} (h : Holds w g k t l) (hb : Below w.heap.size w w') : Holds w' g k t l := (hb.block g (Array.getElem?_eq_some_iff.1 h).1).trans h
theorem sizeR8 : (Try.prog.info? 34).map (·.size) = some 8 := by kernel_rfl
set_option maxHeartbeats 2000000 in
theorem members_any (H b : Nat) (L : List Ent) (v : List Int) (w : World) (hB : BookC w H b L) (hv : v.length = 8) :
    Calls Try.prog 16 #[.pointer (some ⟨H, 0, none⟩), .agg (row .u32 v)] w fun e w' => e = .returned (.agg (row .u8 (membersL L v))) ∧ Below w.heap.size w w' := by
  have hv0 := Holds.new w .u32 25 v
  have hr0 := Holds.new (w.alloc (.cells (row .u32 v) 25)) .u8 34 [0, 0, 0, 0, 0, 0, 0, 0]
  rw [World.size_alloc] at hr0
  have hv1 := (hv0.alloc (.cells (row .u8 [0, 0, 0, 0, 0, 0, 0, 0]) 34)).alloc (.cells (row .u8 [0, 0, 0, 0, 0, 0, 0, 0]) 34)
  have hr1 := hr0.alloc (.cells (row .u8 [0, 0, 0, 0, 0, 0, 0, 0]) 34)
  have hs1 := Holds.new ((w.alloc (.cells (row .u32 v) 25)).alloc (.cells (row .u8 [0, 0, 0, 0, 0, 0, 0, 0]) 34)) .u8 34 [0, 0, 0, 0, 0, 0, 0, 0]
  rw [World.size_alloc, World.size_alloc] at hs1
  have hBw : Below w.heap.size w (((w.alloc (.cells (row .u32 v) 25)).alloc (.cells (row .u8 [0, 0, 0, 0, 0, 0, 0, 0]) 34)).alloc (.cells (row .u8 [0, 0, 0, 0, 0, 0, 0, 0]) 34)) := (((Below.refl _ _).alloc (Nat.le_refl _) _).alloc (by simp) _).alloc (by simp; omega) _
  have HRO : Veil (∀ W, Below w.heap.size w W → ∀ who, Calls Try.prog 17 #[.pointer (some ⟨H, 0, none⟩), .int .u8 who, .agg (row .u32 v)] W fun e w' => e = .returned (.int .u8 (roleP L who v)) ∧ Below W.heap.size W w') := ⟨fun W hb who => role_any H b L who v W (hB.far hb) hv⟩
  have HV := Veil.mk hv
  clear hv0 hr0 hB hv
  go_enter Try.func16, Try.ntmps16
  go_wp2_with fail
  obtain ⟨Z, hZ⟩ : ∃ Z : List Int, Z = [0, 0, 0, 0, 0, 0, 0, 0] := ⟨_, rfl⟩
  have HZ : Veil (Z.length = 8) := ⟨by rw [hZ]; rfl⟩
  have hM0 : memTo L v 0 = [0, 0, 0, 0, 0, 0, 0, 0] := rfl
  refine forget (p := fun y => Code.wp _ _ _ _ y) (fun W => Below w.heap.size w W ∧ Holds W w.heap.size .u32 25 v ∧ Holds W (w.heap.size + 1) .u8 34 Z ∧ Holds W (w.heap.size + 1 + 1) .u8 34 (memTo L v 0)) ⟨hBw, hv1, by rw [hZ]; exact hr1, by rw [hM0]; exact hs1⟩ ?_
  clear hBw hv1 hr1 hs1 hZ hM0
  rintro W ⟨hBw, hv1, hr1, hs1⟩
  go_loopw [6, 7] (fun _ i wr => ∃ k : Nat, k ≤ 8 ∧ i = .int .i64 k ∧ Below w.heap.size w wr ∧ Holds wr w.heap.size .u32 25 v ∧ Holds wr (w.heap.size + 1) .u8 34 Z ∧ Holds wr (w.heap.size + 1 + 1) .u8 34 (memTo L v k)) (fun _ i _ => 8 - (intOf i).toNat)
  case atStart => exact ⟨0, by omega, rfl, hBw, hv1, hr1, hs1⟩
  case round =>
    clear hBw hv1 hr1 hs1
    obtain ⟨k, hk, rfl, hB, hv1, hr1, hs1⟩ := hrel
    by_cases hlt : k < 8
    · have hki : (0 : Int) ≤ (k : Int) := by omega
      have hkl : (k : Int) < 8 := by omega
      have hkw : IntKind.u8.wrap (k : Int) = (k : Int) := by simp [IntKind.wrap, IntKind.bits, IntKind.signed]; omega
      have hl8 := HV.out
      have hro := HRO.out wr hB (k : Nat)
      have HSE : Veil (∀ W6, Below wr.heap.size wr W6 → Below w.heap.size w W6 ∧ Holds W6 w.heap.size .u32 25 v ∧ Holds W6 (w.heap.size + 1) .u8 34 Z ∧ Holds W6 (w.heap.size + 1 + 1) .u8 34 (memTo L v k)) := ⟨fun W6 hb => ⟨hB.trans (hb.mono hB.size), holds_farA hv1 hb, holds_farA hr1 hb, holds_farA hs1 hb⟩⟩
      have HST : Veil (memTo L v (k + 1) = (memTo L v k).set k (roleP L (k : Nat) v)) := ⟨memTo_set L v k⟩
      have HLN : Veil ((memTo L v k).length = 8) := ⟨memTo_len L v k⟩
      clear hB hr1 hs1
      generalize roleP L (k : Nat) v = RK at hro HST
      go_wp2_with (first
        | (refine wpList_ld rfl 25 _ rfl _ rfl hv1 Try.underlying25 sizeV8 hl8 ?_)
        | (go_at_call 17; refine hro.mono ?_; rintro z W6 ⟨rfl, hb6⟩; obtain ⟨hB6, hv6, hr6, hs6⟩ := HSE.out W6 hb6; clear hb6; have c6 := hs6.cell k (by rw [HLN.out]; exact hlt); have f6 := hs6.frozen k))
      go_roundw
      case rel => exact ⟨k + 1, by omega, by go_num, hB6.setCell (by simp; omega) _, hv6.setOther _ _ (by simp; omega), hr6.setOther _ _ (by simp), by rw [HST.out]; exact hs6.set k _⟩
      case measure => simp [intOf]; omega
    · obtain rfl : k = 8 := by omega
      have hz8 := HZ.out
      have HJ : Veil (membersL L v = memTo L v 8) := ⟨(memTo_8 L v).symm⟩
      have hj8 := memTo_len L v 8
      obtain ⟨J, hJ⟩ : ∃ J, memTo L v 8 = J := ⟨_, rfl⟩
      rw [hJ] at hs1 HJ hj8
      clear hJ HRO HV
      go_wp2_with (first
        | (refine wpList_ld rfl 34 _ rfl _ rfl hs1 Try.underlying34 sizeR8 hj8 ?_)
        | (refine wpList_st rfl 34 _ _ rfl _ rfl rfl hr1 (by rw [hj8]; exact sizeR8) (by rw [hz8, hj8]) ?_))
      refine bodyPost_ret (results_holds (Try.results16) _ rfl (hr1.setRow _) Try.underlying34 sizeR8 hj8) rfl ⟨?_, ?_⟩
      · rw [HJ.out]
      · exact below_setRow hB (by omega) _
theorem blen_any (H b : Nat) (L : List Ent) (w : World) (hB : BookC w H b L) :
    Calls Try.prog 21 #[.pointer (some ⟨H, 0, none⟩)] w fun e w' => e = .returned (.int .i64 L.length) ∧ w' = w := by
  have cM := hB.mapCell
  have hln := fun ty => hB.map.len Try.underlying69 ty
  clear hB
  generalize (L.length : Int) = n at hln ⊢
  go_enter Try.func21, Try.ntmps21
  go_wp2
  go_ret
  exact ⟨rfl, rfl⟩
theorem blen_nil (w : World) : Calls Try.prog 21 #[.pointer none] w fun e w' => e = .returned (.int .i64 0) ∧ w' = w := by
  go_enter Try.func21, Try.ntmps21
  go_wp2
  go_ret
  exact ⟨rfl, rfl⟩
theorem bnew_any (w : World) : Calls Try.prog 24 #[] w fun e w' => ∃ H b, e = .returned (.pointer (some ⟨H, 0, none⟩)) ∧ BookC w' H b [] ∧ Below w.heap.size w w' ∧ w.heap.size ≤ b ∧ w.heap.size ≤ H := by
  have hM := BookAt.made w
  have hc : CellsAt ((w.alloc (.map #[] 0)).alloc (.cells #[.map (some w.heap.size)] 71)) (w.heap.size + 1) 71 [.map (some w.heap.size)] := by
    have := CellsAt.new (w.alloc (.map #[] 0)) 71 [.map (some w.heap.size)]
    rw [World.size_alloc] at this; exact this
  have HB : Veil (BookC ((w.alloc (.map #[] 0)).alloc (.cells #[.map (some w.heap.size)] 71)) (w.heap.size + 1) w.heap.size [] ∧ Below w.heap.size w ((w.alloc (.map #[] 0)).alloc (.cells #[.map (some w.heap.size)] 71))) := ⟨⟨hc, hM.congr (Below.heap_alloc _ _ _ (by simp))⟩, ((Below.refl _ _).alloc (Nat.le_refl _) _).alloc (by simp) _⟩
  have hmm := @run_makeMap Try.prog
  clear hM hc
  go_enter Try.func24, Try.ntmps24
  go_wp2
  go_ret
  exact ⟨_, _, rfl, HB.out.1, HB.out.2, by omega, by omega⟩
end Go.Proofs.Ythodlbkgggaibaa

