/- top05, TopHeirs: what comes of three events, pure. -/
import Derived.Test.YtgmbmdmbnpkbbaaMDc11Dc12
namespace Go.Proofs.Ytgmbmdmbnpkbbaa
open Go.RowKit Go.Shelf
set_option maxRecDepth 20000
def fitG (who role : Int) : Bool := decide (who < 8) && (decide (1 ≤ role) && decide (role ≤ 3))
def hE1 (a : Int) : Ev := nextE newS 0 (evK 3 (0, 0) false 0 a 3)
def hS1 (a : Int) : Ds := apS newS (hE1 a)
def hE2 (a b : Int) : Ev := nextE (hS1 a) a.toNat (evK 3 (0, 0) false 0 b 2)
def hS2 (a b : Int) : Ds := apS (hS1 a) (hE2 a b)
def hE3 (a b : Int) : Ev := nextE (hS2 a b) 0 (evK 4 (0, 0) false 0 a 0)
def hS3 (a b : Int) : Ds := apS (hS2 a b) (hE3 a b)
def heirsB (a b : Int) : Bool :=
  decide (forbN newS 0 (fitG a 3) 3 = 0) && decide (refD newS (hE1 a) = 0) && decide (forbN (hS1 a) a (fitG b 2) 3 = 0) && decide (refD (hS1 a) (hE2 a b) = 0) && decide (forbN (hS2 a b) 0 (decide (a < 8)) 3 = 0) && decide (refD (hS2 a b) (hE3 a b) = 0) && decide ((membersL (hS3 a b).B (hS3 a b).S)[a.toNat]?.getD 9 = 0) && decide ((membersL (hS3 a b).B (hS3 a b).S)[b.toNat]?.getD 9 = 2) && decide (forbN (hS3 a b) a (fitG b 3) 3 = 8)
theorem heirs_all : ((List.range 7).all fun x => (List.range 7).all fun y => (x == y) || heirsB ((x : Int) + 1) ((y : Int) + 1)) = true := by kernel_rfl
theorem heirs_at {a b : Nat} (ha : 1 ≤ a ∧ a ≤ 7) (hb : 1 ≤ b ∧ b ≤ 7) (hab : a ≠ b) : heirsB (a : Int) (b : Int) = true := by
  have h := heirs_all
  rw [List.all_eq_true] at h
  have h1 := h (a - 1) (List.mem_range.2 (by omega))
  rw [List.all_eq_true] at h1
  have h2 := h1 (b - 1) (List.mem_range.2 (by omega))
  have e1 : (((a - 1 : Nat) : Int) + 1) = (a : Int) := by omega
  have e2 : (((b - 1 : Nat) : Int) + 1) = (b : Int) := by omega
  rw [e1, e2, Bool.or_eq_true] at h2
  rcases h2 with q | q
  · have : a - 1 = b - 1 := by simpa using q
    omega
  · exact q
structure Heirs (a b : Int) : Prop where
  f1 : forbN newS 0 (fitG a 3) 3 = 0
  r1 : refD newS (hE1 a) = 0
  f2 : forbN (hS1 a) a (fitG b 2) 3 = 0
  r2 : refD (hS1 a) (hE2 a b) = 0
  f3 : forbN (hS2 a b) 0 (decide (a < 8)) 3 = 0
  r3 : refD (hS2 a b) (hE3 a b) = 0
  ma : (membersL (hS3 a b).B (hS3 a b).S)[a.toNat]?.getD 9 = 0
  mb : (membersL (hS3 a b).B (hS3 a b).S)[b.toNat]?.getD 9 = 2
  f4 : forbN (hS3 a b) a (fitG b 3) 3 = 8
theorem heirs {a b : Nat} (ha : 1 ≤ a ∧ a ≤ 7) (hb : 1 ≤ b ∧ b ≤ 7) (hab : a ≠ b) : Heirs (a : Int) (b : Int) := by
  have h := heirs_at ha hb hab
  unfold heirsB at h
  simp only [Bool.and_eq_true, decide_eq_true_eq] at h
  obtain ⟨⟨⟨⟨⟨⟨⟨⟨h1, h2⟩, h3⟩, h4⟩, h5⟩, h6⟩, h7⟩, h8⟩, h9⟩ := h
  exact ⟨h1, h2, h3, h4, h5, h6, h7, h8, h9⟩
theorem tellG_ok {st : Ds} {a who role : Int} (h : forbN st a (fitG who role) 3 = 0) : tellG st a who role = (nextE st a.toNat (evK 3 (0, 0) false 0 who role), 0) := if_neg (by unfold fitG at h; rw [h]; simp)
theorem tellT_ok {st : Ds} {a who : Int} (h : forbN st a (decide (who < 8)) 3 = 0) : tellT st a who = (nextE st a.toNat (evK 4 (0, 0) false 0 who 0), 0) := if_neg (by rw [h]; simp)
theorem tellG_bad {st : Ds} {a who role n : Int} (h : forbN st a (fitG who role) 3 = n) (hn : n ≠ 0) : tellG st a who role = (evZ0, n) := by
  have : tellG st a who role = (evZ0, forbN st a (fitG who role) 3) := if_pos (by unfold fitG at h; rw [h]; exact hn)
  rw [this, h]
theorem nextE_ok {st : Ds} (hG : GoodD st) {a : Nat} (ha : a < 8) {k who role : Int} (hk : 0 ≤ k ∧ k ≤ 255) (hw : 0 ≤ who ∧ who ≤ 255) (hr : 0 ≤ role ∧ role ≤ 255) : (nextE st a (evK k (0, 0) false 0 who role)).Ok where
  dot := by
    have := hG.seen ha
    have := hG.llen
    unfold nextE okD
    simp only
    omega
  past := hG.slen
  pastB := fun x hx => by have := hG.sval x hx; have := hG.llen; omega
  par := by unfold nextE evK okD; simp
  kind := hk
  char := by unfold nextE evK; simp
  who := hw
  role := hr
end Go.Proofs.Ytgmbmdmbnpkbbaa

