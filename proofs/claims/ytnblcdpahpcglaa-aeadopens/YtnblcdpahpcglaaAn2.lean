/- 'joined': parts one behind the other, in a list of their own. -/
import Derived.Test.YtnblcdpahpcglaaAn1
namespace Go.Proofs.Ytnblcdpahpcglaa
open Go.RowKit
set_option maxRecDepth 20000
set_option linter.unusedSimpArgs false

/-- A part: a slice, and the bytes that it has. -/
structure Part where
  x : Option Addr
  len : Nat
  cap : Nat
  z : List Int
def Part.val (p : Part) : Value := .slice p.x p.len p.cap
def allZ (ps : List Part) : List Int := (ps.map (·.z)).flatten
def sumN (ps : List Part) : Nat := (allZ ps).length
theorem allZ_append (a b : List Part) : allZ (a ++ b) = allZ a ++ allZ b := by simp [allZ]
theorem allZ_take (ps : List Part) (j : Nat) (hj : j < ps.length) : allZ (ps.take (j + 1)) = allZ (ps.take j) ++ (ps[j]).z := by
  rw [List.take_succ_eq_append_getElem hj, allZ_append]; simp [allZ]
theorem allZ_le (ps : List Part) (j : Nat) : (allZ (ps.take j)).length ≤ (allZ ps).length := by
  have h : allZ (ps.take j) ++ allZ (ps.drop j) = allZ ps := by rw [← allZ_append, List.take_append_drop]
  have := congrArg List.length h
  rw [List.length_append] at this
  omega
/-- Block g holds the parts. -/
structure PartsAt (w : World) (g : Nat) (ps : List Part) : Prop where
  cell : ∀ j (hj : j < ps.length), w.cell? ⟨g, j, none⟩ = some (ps[j]).val
  has : ∀ j (hj : j < ps.length), Bytes w (ps[j]).x (ps[j]).len (ps[j]).cap (ps[j]).z
theorem PartsAt.below {w w' : World} {g : Nat} {ps : List Part} (h : PartsAt w g ps) (hb : Below w.heap.size w w') : PartsAt w' g ps :=
  ⟨fun j hj => (hb.cell (p := ⟨g, j, none⟩) (block_lt_of_cell (h.cell j hj))).trans (h.cell j hj), fun j hj => (h.has j hj).below hb⟩

theorem below_grown_new {w w' : World} (hg : w.grownBy w' none) : Below w.heap.size w w' := (Below.refl _ _).grown hg (Nat.le_refl _) (fun k hk => by cases hk)

set_option maxHeartbeats 2000000 in
theorem joined_any (g n : Nat) (ps : List Part) (w : World) (h : PartsAt w g ps) (hn : n = ps.length) (hn1 : n ≤ 1000) (hs : sumN ps ≤ 1000000) :
    Calls Try.prog 35 #[.slice (some ⟨g, 0, none⟩) n n] w fun e w' => ∃ v, e = .returned v ∧ OwnB w' w.heap.size v (allZ ps) ∧ Below w.heap.size w w' := by
  obtain ⟨i0, hi0, hz0, hz1, hz2⟩ := info_parts infoU8
  have HP : Veil (PartsAt w g ps) := ⟨h⟩
  have HN : Veil (n = ps.length) := ⟨hn⟩
  have HS : Veil (∀ j, (allZ (ps.take j)).length ≤ 1000000) := ⟨fun j => by have := allZ_le ps j; unfold sumN at hs; omega⟩
  clear h hn hs
  go_enter Try.func35, Try.ntmps35
  go_wp2_with fail
  go_loopw [3, 11] (fun sv jv wr => ∃ j : Nat, j ≤ n ∧ jv = .int .i64 j ∧ sv = .int .i64 ((allZ (ps.take j)).length : Int) ∧ wr = w) (fun _ jv _ => n - (intOf jv).toNat)
  case atStart => exact ⟨0, by omega, rfl, rfl, rfl⟩
  case round =>
    obtain ⟨j, hj, rfl, rfl, rfl⟩ := hrel
    by_cases hlt : j < n
    · have hl := HN.out
      have hc := HP.out.cell j (by omega)
      have hb := HP.out.has j (by omega)
      have ht := allZ_take ps j (by omega)
      have hs1 := HS.out (j + 1)
      rw [ht, List.length_append] at hs1
      have HT : Veil (((allZ (ps.take (j + 1))).length : Int) = ((allZ (ps.take j)).length : Int) + ((ps[j]'(by omega)).z.length : Int)) := ⟨by rw [ht, List.length_append]; omega⟩
      have hzl := hb.len_eq
      obtain ⟨p, hp⟩ : ∃ q, ps[j]'(by omega) = q := ⟨_, rfl⟩
      rw [hp] at hc HT hzl hs1
      obtain ⟨px, pl, pc, pz⟩ := p
      simp only [Part.val] at hc
      simp only at hzl HT hs1
      rw [← hzl] at HT hs1
      obtain ⟨A, hA⟩ : ∃ q, (allZ (ps.take j)).length = q := ⟨_, rfl⟩
      rw [hA] at HT hs1 ⊢
      have hw : IntKind.i64.wrap ((A : Int) + (pl : Int)) = (A : Int) + (pl : Int) := by rw [IntKind.wrap_i64]; omega
      have hj0 : (0 : Int) ≤ (j : Int) := by omega
      have hjn : (j : Int) < (n : Int) := by omega
      clear hl hb ht hzl hp hA hs1
      go_wp2
      go_roundw
      case rel => exact ⟨j + 1, by omega, by go_num, by rw [HT.out], trivial⟩
      case measure => simp [intOf]; omega
    · obtain rfl : j = n := by omega
      have hs1 := HS.out j
      have HTK : Veil (ps.take j = ps) := ⟨List.take_of_length_le (by have := HN.out; omega)⟩
      obtain ⟨A, hA⟩ : ∃ q, (allZ (ps.take j)).length = q := ⟨_, rfl⟩
      rw [hA] at hs1 ⊢
      clear hA
      go_wp2_with (at_make; refine wpList_make_own _ rfl _ _ 24 rfl wr.heap.size 5 i0 (.int .u8 0) 1 Try.underlying24 hi0 hz0 hz1 .i64 .i64 _ A rfl rfl rfl (by rw [hz2]; omega) (by simp [maxLen]; omega) (by omega) ?_; intro w1 ho1 hg1)
      have hB1 : Below wr.heap.size wr w1 := below_grown_new hg1
      have ho1' : OwnB w1 wr.heap.size (.slice (some ⟨wr.heap.size, 0, none⟩) 0 A) [] := OwnB.cast ho1 rfl rfl
      clear ho1 hg1
      obtain ⟨W, rfl⟩ : ∃ W, W = wr := ⟨_, rfl⟩
      go_loopw [6, 24] (fun v jv wr => ∃ i : Nat, i ≤ j ∧ jv = .int .i64 i ∧ OwnB wr W.heap.size v (allZ (ps.take i)) ∧ Below W.heap.size W wr) (fun _ jv _ => j - (intOf jv).toNat)
      case atStart => exact ⟨0, by omega, rfl, ho1', hB1⟩
      case round =>
        clear ho1' hB1
        obtain ⟨i, hi, rfl, ho, hB⟩ := hrel
        by_cases hlt : i < j
        · have hl := HN.out
          have hc := (HP.out.below hB).cell i (by omega)
          have hb := (HP.out.below hB).has i (by omega)
          have ht := allZ_take ps i (by omega)
          have hs1 := HS.out (i + 1)
          rw [ht, List.length_append] at hs1
          have hzl := hb.len_eq
          have HT : Veil (allZ (ps.take (i + 1)) = allZ (ps.take i) ++ (ps[i]'(by omega)).z) := ⟨ht⟩
          obtain ⟨p, hp⟩ : ∃ q, ps[i]'(by omega) = q := ⟨_, rfl⟩
          rw [hp] at hc HT hzl hs1 hb
          obtain ⟨px, pl, pc, pz⟩ := p
          simp only [Part.val] at hc
          simp only at hzl HT hs1 hb
          obtain ⟨A, hA⟩ : ∃ q, allZ (ps.take i) = q := ⟨_, rfl⟩
          rw [hA] at HT hs1 ho
          have hlen : A.length + pl ≤ 4000000 := by omega
          have hj0 : (0 : Int) ≤ (i : Int) := by omega
          have hjn : (i : Int) < (j : Int) := by omega
          clear hl ht hzl hp hA hs1
          go_wp2_with (at_builtin; refine wpList_app rfl _ _ rfl W.heap.size _ A rfl ho px pl pc pz rfl hb hlen hB.size ?_; intro v3 w3 ho3 hg3)
          go_roundw
          case rel => exact ⟨i + 1, by omega, by go_num, by rw [HT.out]; exact ho3, below_grown hB ho hg3 hB.size⟩
          case measure => simp [intOf]; omega
        · obtain rfl : i = j := by omega
          rw [HTK.out] at ho
          go_wp2
          go_ret
          exact ⟨_, rfl, ho, hB⟩
end Go.Proofs.Ytnblcdpahpcglaa
