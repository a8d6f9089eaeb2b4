/- keys: what must be whatever is asked ('live'). -/
import Derived.Test.YtlalcnmcnkompaaDoorKz1
namespace Go.Proofs.YtlalcnmcnkompaaDoor
open Go.RowKit
set_option maxRecDepth 20000
set_option linter.unusedSimpArgs false

theorem joinK_in (s : List Int) : ∀ k, ∀ v ∈ S.joinK s k, isB v
  | 0, v, h => by cases h
  | k + 1, v, h => by
    rw [S.joinK, List.mem_append] at h
    rcases h with h | h
    · exact joinK_in s k v h
    · simp only [S.bytes4, List.mem_cons, List.not_mem_nil, or_false] at h
      unfold isB
      rcases h with rfl | rfl | rfl | rfl <;> omega
theorem tK_in (k b : List Int) : ∀ i, ∀ v ∈ S.tK k b i, isB v
  | 0, v, h => by cases h
  | i + 1, v, h => joinK_in _ 8 v h
theorem outK_in (k b : List Int) : ∀ i, ∀ v ∈ S.outK k b i, isB v
  | 0, v, h => by cases h
  | i + 1, v, h => by
    rw [S.outK, List.mem_append] at h
    rcases h with h | h
    · exact outK_in k b i v h
    · exact tK_in k b (i + 1) v h
theorem derL_in (k b : List Int) : ∀ v ∈ derL k b, isB v := fun v h => outK_in k b _ v (List.mem_of_mem_take h)
/-- What is wrapped opens to what it was. -/
theorem wrapOf_data (seed : List Int) (own t a s : Int) (k : List Int) (hk : k.length = 32) (hkB : ∀ v ∈ k, isB v) :
    (wrapOf seed own t a s k).data.length = 48 ∧ (∀ x ∈ (wrapOf seed own t a s k).data, isB x) ∧
    tagL (pairL seed own t) (wrapNL own t a s) [] ((wrapOf seed own t a s k).data.take (48 - 16)) = (wrapOf seed own t a s k).data.drop (48 - 16) ∧ openedL seed own t (wrapOf seed own t a s k) = k := by
  refine ⟨?_, ?_, ?_, ?_⟩
  · show (sealL _ _ _ _).length = 48
    rw [sealL_length, hk]
  · exact sealL_in _ _ _ _ (fun _ h => by cases h) hkB
  · show tagL _ _ [] ((sealL _ _ _ _).take _) = (sealL _ _ _ _).drop _
    rw [seal_take _ _ _ _ _ (by omega), seal_drop _ _ _ _ _ (by omega)]
  · show xorL _ _ 1 ((sealL _ _ _ _).take _) = _
    rw [seal_take _ _ _ _ _ (by omega)]
    exact xor_twice _ _ 1 k hkB
def lvSeed : List Int := 1 :: List.replicate 31 0
theorem lvSeed_built (w : World) : (Instr.build 23 #[(0, .int .u8 1)]).run Tryd.prog w = .ok (.agg (row .u8 lvSeed)) w := by kernel_rfl
set_option maxHeartbeats 4000000 in
theorem klive_any (w : World) (hKT : S.KTab w) :
    Calls Tryd.prog 11 #[] w fun e w' => e = .returned (.bool true) ∧ Below w.heap.size w w' := by
  obtain ⟨SD, hSDl, hSDb⟩ : ∃ SD : List Int, SD.length = 32 ∧ ∀ wx, (Instr.build 23 #[(0, .int .u8 1)]).run Tryd.prog wx = .ok (.agg (row .u8 SD)) wx := ⟨lvSeed, rfl, lvSeed_built⟩
  have HSB := Veil.mk hSDb
  have hEl : (epochL SD).length = 32 := derL_length _ _
  obtain ⟨hW48, hWB, hWT, hWO⟩ := wrapOf_data SD 0 1 0 0 (epochL SD) hEl (derL_in _ _)
  have hn0 : newM 0 SD = putK (fun _ _ => none) 0 0 (epochL SD) := if_pos rfl
  have hn1 : newM 1 SD = (fun _ _ => none) := if_neg (by omega)
  have hA := new_any 0 SD w (by omega) hSDl hKT
  have HB : Veil (∀ W, Below w.heap.size w W → Calls Tryd.prog 9 #[.int .u8 1, .agg (row .u8 SD)] W fun e w' => ∃ H b v, e = .returned (.pointer (some ⟨H, 0, none⟩)) ∧ RingAt w' W.heap.size H 1 SD b (newM 1 SD) v (newD 1) ∧ Below W.heap.size W w') := ⟨fun W hb => new_any 1 SD W (by omega) hSDl (hKT.below hb)⟩
  clear hSDb
  go_enter Tryd.func11, Tryd.ntmps11
  go_upto_region 2 with (first
    | (refine wpList_bldx rfl 23 _ rfl #[(0, .int .u8 1)] (by first | rfl | kernel_rfl) _ (HSB.out _) ?_)
    | (go_at_call 9; first
        | (refine hA.mono ?_; clear hA; rintro e w1 ⟨HA, bA, vA, rfl, hRA, hb1⟩; have hBn := HB.out w1 hb1)
        | (refine hBn.mono ?_; rintro e w2 ⟨HB2, bB, vB, rfl, hRB, hb2⟩)))
  have hB2 : Below w.heap.size w w2 := hb1.trans (hb2.mono hb1.size)
  have hRA2 := hRA.far hb2
  have hinA : ∀ g, ringP HA bA vA g → g < w1.heap.size := fun g hg => (hRA.inside g hg).1
  have hwr := wrap_ok w.heap.size HA 0 SD bA (newM 0 SD) vA (newD 0) w2 1 0 0 (epochL SD) okZ hRA2 (by decide) (by rw [hn0]; rfl) (hKT.below hB2)
  obtain ⟨E, hEq⟩ : ∃ E, wrapOf SD 0 1 0 0 (epochL SD) = E := ⟨_, rfl⟩
  have hE3 : E.too = 1 ∧ E.ea = 0 ∧ E.es = 0 := by rw [← hEq]; exact ⟨rfl, rfl, rfl⟩
  rw [hEq] at hwr hW48 hWB hWT hWO
  have HUN : Veil (∀ W, Below w2.heap.size w2 W → Calls Tryd.prog 21 #[.pointer (some ⟨HB2, 0, none⟩), .int .u8 0, .agg E.cells.toArray] W fun e w' => e = .returned (.int .i64 0) ∧ (∃ v', RingAt w' w1.heap.size HB2 1 SD bB (putK (newM 1 SD) E.ea E.es (epochL SD)) v' (newD 1 ++ [(E.ea, E.es)])) ∧ RingAt w' w.heap.size HA 0 SD bA (newM 0 SD) vA (newD 0) ∧ Below w.heap.size w w') := ⟨fun W hb => by
    have hBW := hB2.trans (hb.mono hB2.size)
    have h := unw_ok w1.heap.size HB2 1 SD bB (newM 1 SD) vB (newD 1) W 0 E (hRB.far hb) (by rw [hE3.2.1, hE3.2.2]; exact okZ) hW48 hWB (by decide) hE3.1 (by rw [hn1]; rfl) (hKT.below hBW) (by rw [hE3.2.1, hE3.2.2]; exact hWT) (by decide) (Nat.le_trans hb2.size hb.size)
    refine h.mono ?_
    rintro e w' ⟨h1, v', h2, h3, h4⟩
    have hinB : ∀ g, ringP HB2 bB vB g → w1.heap.size ≤ g := fun g hg => (hRB.inside g hg).2
    refine ⟨h1, ⟨v', by rw [hWO] at h2; exact h2⟩, (hRA2.far hb).turn h3 (fun g hg hp => by have := hinA g hg; have := hinB g hp; omega), hBW.trans (h3.below hBW.size fun k hk => by have := hinB k hk; have := hb1.size; omega)⟩⟩
  have hCl := wp_cells_length E hW48
  have hC1 := wp_cells_one E
  have HM : Veil ((putK (newM 1 SD) E.ea E.es (epochL SD) 0 0).isSome = true) := ⟨by rw [hE3.2.1, hE3.2.2]; rfl⟩
  obtain ⟨EC, hEC⟩ : ∃ q, E.cells = q := ⟨_, rfl⟩
  rw [hEC] at hCl hC1 hwr HUN
  clear hW48 hWB hWT hWO hEq hE3 hEC hRA hRB hRA2 hBn HB hn0 hn1 hEl
  go_upto_region 4 with (first
    | (go_at_call 18; refine hwr.mono ?_; rintro e w3 ⟨rfl, hb3⟩; have hA3 := CellsAt.new w3 39 wz.cells)
    | (refine wpList_stv rfl 39 _ _ rfl _ rfl rfl hA3 (by rw [hCl]; exact sizeWrapK) (by rw [hCl]; rfl) hC1 ?_; have hb4 := hb3.trans ((below_setRow ((Below.refl _ _).alloc (Nat.le_refl _) (.cells wz.cells.toArray 39)) (Nat.le_refl _) EC.toArray).mono hb3.size); have hun := HUN.out _ hb4; have rE := (hA3.setRow EC).range 0 51; rw [List.drop_zero, List.take_of_length_le (by omega)] at rE)
    | (refine wpList_ldv rfl 39 _ rfl _ _ rfl EC rE Tryd.underlying39 rfl (by rw [hCl]; exact sizeWrapK) ?_)
    | (go_at_call 21; refine hun.mono ?_; rintro e w5 ⟨rfl, ⟨v5, hRB5⟩, hRA5, hB5⟩))
  have hhas := rHas_any w1.heap.size HB2 1 SD bB (putK (newM 1 SD) E.ea E.es (epochL SD)) v5 _ w5 0 0 okZ hRB5
  rw [HM.out] at hhas
  have HOA : Veil (∀ W, Below w5.heap.size w5 W → Calls Tryd.prog 12 #[.pointer (some ⟨HA, 0, none⟩)] W fun e w' => e = .returned (.int .u8 0) ∧ w' = W) := ⟨fun W hb => rOwn_any w.heap.size HA 0 SD bA (newM 0 SD) vA (newD 0) W (hRA5.far hb)⟩
  have HOB : Veil (∀ W, Below w5.heap.size w5 W → Calls Tryd.prog 12 #[.pointer (some ⟨HB2, 0, none⟩)] W fun e w' => e = .returned (.int .u8 1) ∧ w' = W) := ⟨fun W hb => rOwn_any w1.heap.size HB2 1 SD bB _ v5 _ W (hRB5.far hb)⟩
  clear hRB5 hRA5 hun hA3 hb4 rE HUN hwr
  go_wp2_with (first
    | (go_at_call 20; refine hhas.mono ?_; rintro e w6 ⟨rfl, hb6⟩; have hoa := HOA.out w6 hb6; have hob := HOB.out w6 hb6)
    | (go_at_call 12; first
        | (refine hoa.mono ?_; clear hoa; rintro e w7 ⟨rfl, rfl⟩)
        | (refine hob.mono ?_; rintro e w8 ⟨rfl, rfl⟩)))
  go_ret
  exact ⟨rfl, hB5.trans (hb6.mono hB5.size)⟩
end Go.Proofs.YtlalcnmcnkompaaDoor
