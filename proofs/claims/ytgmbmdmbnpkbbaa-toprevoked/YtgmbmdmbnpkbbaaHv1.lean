/- top05, TopRevoked: what comes of a revoke and an edit, pure. -/
import Derived.Test.YtgmbmdmbnpkbbaaHt1
namespace Go.Proofs.Ytgmbmdmbnpkbbaa
open Go.RowKit Go.Shelf
set_option maxRecDepth 20000
def vE1 : Ev := nextE newS 0 (evK 3 (0, 0) false 0 1 2)
def vS1 : Ds := apS newS vE1
def vEA : Ev := nextE vS1 0 (evK 4 (0, 0) false 0 1 0)
def vET (c : Int) : Ev := nextE vS1 1 (evK 1 (0, 0) true c 0 0)
def vF1 : Ds := apS vS1 vEA
def vF2 (c : Int) : Ds := apS vF1 (vET c)
def vG1 (c : Int) : Ds := apS vS1 (vET c)
def vG2 (c : Int) : Ds := apS (vG1 c) vEA
def vEL (c : Int) : Ev := ⟨1, 2, [2, 1, 0, 0, 0, 0, 0, 0], 1, 0, 0, true, c, 0, 0⟩
def vF3 (c : Int) : Ds := apS (vF2 c) (vEL c)
def vG3 (c : Int) : Ds := apS (vG2 c) (vEL c)
def revB (c : Int) : Bool :=
  decide (forbN newS 0 (fitG 1 2) 3 = 0) && decide (refD newS vE1 = 0) && decide (forbN vS1 0 (decide ((1 : Int) < 8)) 3 = 0) && decide (forbN vS1 1 (decide (1 ≤ c) && decide (c ≤ 127)) 2 = 0) && decide ((placeN vS1.N 0).2.2 = 0) && decide ((placeN vS1.N 0).1 = (0, 0)) && decide ((placeN vS1.N 0).2.1 = true)
  && decide (refD vS1 vEA = 0) && decide (refD vF1 (vET c) = 0) && decide (refD vS1 (vET c) = 0) && decide (refD (vG1 c) vEA = 0) && decide ((vF2 c).S = [2, 1, 0, 0, 0, 0, 0, 0]) && decide (refD (vF2 c) (vEL c) = 0) && decide (refD (vG2 c) (vEL c) = 0)
  && decide ((1, 1) ∈ (vF3 c).F) && decide ((1, 1) ∈ (vG3 c).F) && decide ((1, 2) ∉ (vF3 c).F) && decide ((1, 2) ∉ (vG3 c).F) && decide (textN (vF3 c).N = [c]) && decide (textN (vG3 c).N = [c]) && decide (membersL (vF3 c).B (vF3 c).S = membersL (vG3 c).B (vG3 c).S) && decide ((membersL (vF3 c).B (vF3 c).S)[1]?.getD 9 = 0)
theorem rev_all : ((List.range 127).all fun x => revB ((x : Int) + 1)) = true := by kernel_rfl
structure Rev (c : Int) : Prop where
  f1 : forbN newS 0 (fitG 1 2) 3 = 0
  r1 : refD newS vE1 = 0
  f2 : forbN vS1 0 (decide ((1 : Int) < 8)) 3 = 0
  f3 : forbN vS1 1 (decide (1 ≤ c) && decide (c ≤ 127)) 2 = 0
  pl : (placeN vS1.N 0).2.2 = 0
  pp : (placeN vS1.N 0).1 = (0, 0)
  pr : (placeN vS1.N 0).2.1 = true
  ra : refD vS1 vEA = 0
  rt : refD vF1 (vET c) = 0
  rt2 : refD vS1 (vET c) = 0
  ra2 : refD (vG1 c) vEA = 0
  sv : (vF2 c).S = [2, 1, 0, 0, 0, 0, 0, 0]
  rl : refD (vF2 c) (vEL c) = 0
  rl2 : refD (vG2 c) (vEL c) = 0
  t1 : (1, 1) ∈ (vF3 c).F
  t2 : (1, 1) ∈ (vG3 c).F
  t3 : (1, 2) ∉ (vF3 c).F
  t4 : (1, 2) ∉ (vG3 c).F
  x1 : textN (vF3 c).N = [c]
  x2 : textN (vG3 c).N = [c]
  m1 : membersL (vF3 c).B (vF3 c).S = membersL (vG3 c).B (vG3 c).S
  m2 : (membersL (vF3 c).B (vF3 c).S)[1]?.getD 9 = 0
theorem rev_at {c : Nat} (h1 : 1 ≤ c) (h2 : c ≤ 127) : Rev (c : Int) := by
  have h := rev_all
  rw [List.all_eq_true] at h
  have h3 := h (c - 1) (List.mem_range.2 (by omega))
  have e1 : (((c - 1 : Nat) : Int) + 1) = (c : Int) := by omega
  rw [e1] at h3
  unfold revB at h3
  simp only [Bool.and_eq_true, decide_eq_true_eq] at h3
  obtain ⟨⟨⟨⟨⟨⟨⟨⟨⟨⟨⟨⟨⟨⟨⟨⟨⟨⟨⟨⟨⟨a1, a2⟩, a3⟩, a4⟩, a5⟩, a6⟩, a7⟩, a8⟩, a9⟩, a10⟩, a11⟩, a12⟩, a13⟩, a14⟩, a15⟩, a16⟩, a17⟩, a18⟩, a19⟩, a20⟩, a21⟩, a22⟩ := h3
  refine ⟨a1, a2, a3, ?_, a5, a6, a7, a8, a9, a10, a11, a12, a13, a14, a15, a16, a17, a18, a19, a20, a21, a22⟩
  simpa using a4
end Go.Proofs.Ytgmbmdmbnpkbbaa

