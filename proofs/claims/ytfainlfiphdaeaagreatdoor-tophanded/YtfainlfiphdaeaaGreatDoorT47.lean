/- Frg Fq Flv -/
import Derived.Test.YtfainlfiphdaeaaGreatDoorT33
import Derived.Test.YtfainlfiphdaeaaGreatDoorT41
namespace Go.Proofs.YtfainlfiphdaeaaGreatDoor
open Go.RowKit
set_option maxRecDepth 20000
set_option linter.unusedSimpArgs false
end Go.Proofs.YtfainlfiphdaeaaGreatDoor
namespace Go.Proofs.YtfainlfiphdaeaaGreatDoor
open Go.RowKit
set_option maxRecDepth 20000
set_option linter.unusedSimpArgs false
theorem padL_in9 (z : List Int) (s : Nat) (hz : ∀ v ∈ z, b8 v) : ∀ v ∈ padL z s, b8 v := by
  intro v hv
  unfold padL at hv
  rcases List.mem_append.1 hv with h | h
  · rcases List.mem_append.1 h with h | h
    · unfold be2 at h
      simp only [List.mem_cons, List.not_mem_nil, or_false] at h
      unfold b8
      rcases h with rfl | rfl <;> omega
    · exact hz v h
  · have := (List.mem_replicate.1 h).2
    subst this
    exact ⟨by omega, by omega⟩
theorem seal_zero {n : Int} {lw : Nat} {E : Ev} {own : Int} {m : Option (List Int)} (h : sealE n lw E own m = 0) : mayB n = true ∧ lw ≤ 64 ∧ rightB E = true ∧ E.da = own ∧ E.ds = n ∧ own < 8 ∧ m ≠ none := by
  unfold sealE at h
  split at h
  · rename_i h1
    split at h
    · rename_i h2
      split at h
      · rename_i h3
        simp only [Bool.and_eq_true, beq_iff_eq] at h2
        refine ⟨h1.1, h1.2, h2.1, h2.2.1, h2.2.2, h3, fun q => ?_⟩
        rw [q] at h
        exact absurd h (by decide)
      · omega
    · omega
  · omega
theorem seal_of {n : Int} {lw : Nat} {E : Ev} {own : Int} {k : List Int} (h1 : mayB n = true) (h2 : lw ≤ 64) (h3 : rightB E = true) (h4 : E.da = own) (h5 : E.ds = n) (h6 : own < 8) : sealE n lw E own (some k) = 0 := by
  unfold sealE
  rw [if_pos ⟨h1, h2⟩, if_pos (by rw [h3, h4, h5]; simp), if_pos h6]
theorem sealed_opens {seed : List Int} {n : Int} {lw : Nat} {E : Ev} {own : Int} {k : List Int} {F : Fr} {ws : List Wp} (hE : E.In) (h : sealE n lw E own (some k) = 0) (ha : F.author = own) (hn : F.number = n) (hm : F.mac = ftagL seed F ws (sbodyL k F ws E)) :
    checkE seed F lw ws 144 (sbodyL k F ws E) = 0 ∧ openK k F ws 144 (sbodyL k F ws E) = 0 ∧ openV k F 144 (sbodyL k F ws E) = E := by
  obtain ⟨h1, h2, h3, h4, h5, h6, -⟩ := seal_zero h
  have hel := eventL_length E hE.plen
  have hpl : (padL (eventL E) 128).length = 128 := padL_length _ _ (by rw [hel]; omega)
  have hPi : ∀ v ∈ padL (eventL E) 128, b8 v := padL_in9 _ _ (event_in E hE)
  have hP : openP k F 144 (sbodyL k F ws E) = padL (eventL E) 128 := by
    unfold openP sbodyL
    rw [show 144 - 16 = 128 from rfl, seal_take _ _ _ _ 128 hpl.symm]
    exact xor_twice _ _ _ _ hPi
  have hu := padL_ok (eventL E) 128 (by rw [hel]; omega) (by rw [hel]; omega) (by rw [hel]; decide)
  have hU : unpE (padL (eventL E) 128) = 0 ∧ unpB (padL (eventL E) 128) = eventL E := by
    unfold unpE unpB
    rw [if_pos hu.1, if_pos hu.1]
    exact ⟨rfl, hu.2⟩
  have he := event_back E hE
  have hR : revE (eventL E) = 0 ∧ revB (eventL E) = E := by
    unfold revE revB
    rw [if_pos he.1, if_pos he.1]
    exact ⟨rfl, he.2⟩
  have hV : openV k F 144 (sbodyL k F ws E) = E := by
    unfold openV
    rw [hP, hU.2, hR.2]
  refine ⟨?_, ?_, hV⟩
  · unfold checkE
    rw [ha, hn, if_pos ⟨h6, h1⟩, if_pos ⟨h2, by decide⟩, if_pos hm.symm]
  · unfold openK
    rw [if_neg (by decide), if_pos, hP, hU.1, if_pos rfl, hU.2, hR.1, if_pos rfl, hV, if_pos]
    · unfold fitsB
      rw [h3, ha, hn, h4, h5]; simp
    · unfold sbodyL
      rw [show 144 - 16 = 128 from rfl, seal_take _ _ _ _ 128 hpl.symm, seal_drop _ _ _ _ 128 hpl.symm]
theorem sbodyL_in {k : List Int} {F : Fr} {ws : List Wp} {E : Ev} (hF : F.In) (hi : ∀ e ∈ ws, e.In) (hw : ws.length ≤ 64) (hE : E.In) : ∀ v ∈ sbodyL k F ws E, isB v :=
  sealL_in _ _ _ _ (openL_in9 F ws hF hi hw) (padL_in9 _ _ (event_in E hE))
end Go.Proofs.YtfainlfiphdaeaaGreatDoor
namespace Go.Proofs.YtfainlfiphdaeaaGreatDoor
open Go.RowKit
set_option maxRecDepth 20000
set_option linter.unusedSimpArgs false
end Go.Proofs.YtfainlfiphdaeaaGreatDoor
