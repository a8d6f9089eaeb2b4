/- acl: what one event more changes, pure. -/
import Derived.Test.YthodlbkgggaibaaRk6
namespace Go.Proofs.Ythodlbkgggaibaa
open Go.RowKit Go.Shelf
set_option maxRecDepth 20000
set_option linter.unusedSimpArgs false
theorem roleP_told {L M : List Ent} {who : Int} {v : List Int} (h : toldL L who v = toldL M who v) : roleP L who v = roleP M who v := by unfold roleP; rw [h]
theorem members_told {L M : List Ent} {v : List Int} (h : ∀ who, toldL L who v = toldL M who v) : membersL L v = membersL M v := by
  unfold membersL
  exact List.map_congr_left fun i _ => roleP_told (h _)
theorem addB_eq (L : List Ent) (e : Ev) : addB L e = L ∨ (refB L e = 0 ∧ addB L e = L ++ [(e, roleP L e.da e.past == 3)]) := by
  unfold addB
  split
  · rename_i h; exact .inr ⟨h, rfl⟩
  · exact .inl rfl
/-- What is not seen by a vector changes no role by it. -/
theorem later_same (L : List Ent) (e : Ev) (v : List Int) (h : hasB v e.da e.ds = false) : membersL (addB L e) v = membersL L v := by
  refine members_told fun who => ?_
  rcases addB_eq L e with q | ⟨_, q⟩
  · rw [q]
  · rw [q, toldL_app]
    unfold tellB
    rw [h]; simp
theorem refB_none {L : List Ent} {e : Ev} (h : refB L e = 0) : lookB L e.dot = none ∧ rightB e = true ∧ (e.kind = 3 ∨ e.kind = 4) := by
  unfold refB at h
  split at h
  · cases h
  · rename_i h1
    split at h
    · cases h
    · rename_i h2
      split at h
      · cases h
      · rename_i hs
        exact ⟨by simpa using hs, by simpa using h1, by omega⟩
theorem cntB_add (L : List Ent) (e : Ev) (h : refB L e = 0) : cntB (addB L e) (e.da, e.ds) = (roleP L e.da e.past == 3) := by
  unfold addB
  rw [if_pos h]
  unfold cntB
  rw [lookB_app _ (refB_none h).1, if_pos (show (e.da, e.ds) = (e, roleP L e.da e.past == 3).fst.dot from rfl)]
/-- What an author who was no admin writes changes no role. -/
theorem noadmin_same (L : List Ent) (e : Ev) (v : List Int) (h : refB L e = 0) (hr : roleP L e.da e.past ≠ 3) : membersL (addB L e) v = membersL L v := by
  refine members_told fun who => ?_
  unfold addB
  rw [if_pos h, toldL_app]
  have : (roleP L e.da e.past == 3) = false := by simpa using hr
  simp [this]
/-- What a revoke that counts, and that saw all else, takes away. -/
theorem taken_none (L : List Ent) (hG : GoodB L) (e : Ev) (he : e.Ok) (h : refB L e = 0) (hk : e.kind = 4) (hc : (roleP L e.da e.past == 3) = true) (hs : ∀ y ∈ L, hasB y.1.past e.da e.ds = false) (n : Nat) (hn : e.da = n) :
    roleP (addB L e) e.who (e.past.set n (e.past[n]?.getD 0 + 1)) = 0 := by
  obtain ⟨_, hr, hkk⟩ := refB_none h
  have hgr := good_role hr hkk
  have hd := (Bool.and_eq_true_iff.1 hr).1
  unfold rightDotB at hd
  simp only [Bool.and_eq_true, decide_eq_true_eq, Bool.not_eq_true', beq_eq_false_iff_ne, beq_iff_eq] at hd
  obtain ⟨h8, h0, hm, hp, _⟩ := hd
  have hn8 : n < 8 := by omega
  have hpn : e.past[n]?.getD 0 = e.ds - 1 := by rw [← hp, hn]; rfl
  have hds := he.dot.2.1
  have hG2 := hG.add e he
  have hself : hasB e.past e.da e.ds = false := by
    unfold hasB
    rw [hn, Int.toNat_natCast, hpn]
    have : ¬ e.ds ≤ e.ds - 1 := by omega
    simp [this]
  have hsee : hasB (e.past.set n (e.past[n]?.getD 0 + 1)) e.da e.ds = true := by
    unfold hasB
    rw [hn, Int.toNat_natCast, List.getElem?_set_self (by rw [he.past]; exact hn8), hpn]
    simp
    omega
  have hadd : addB L e = L ++ [(e, true)] := by unfold addB; rw [if_pos h, hc]
  have hmem : e ∈ toldL (addB L e) e.who (e.past.set n (e.past[n]?.getD 0 + 1)) := by
    rw [hadd, toldL_app]
    have : ((e, true).snd && tellB e.who (e.past.set n (e.past[n]?.getD 0 + 1)) (e, true).fst) = true := by
      unfold tellB
      rw [hsee]; simp
    rw [if_pos this]; simp
  refine roleP_zero (addB L e) hG2 e.who _ (by omega) e hmem ?_ hk
  unfold lastQ
  rw [Bool.not_eq_true', List.any_eq_false]
  intro y hy
  unfold toldL at hy
  obtain ⟨z, hz, rfl⟩ := List.mem_map.1 hy
  have hz := (List.mem_filter.1 hz).1
  rw [hadd] at hz
  rcases List.mem_append.1 hz with q | q
  · rw [hs z q]; decide
  · rw [List.mem_singleton.1 q, hself]; decide
end Go.Proofs.Ythodlbkgggaibaa

