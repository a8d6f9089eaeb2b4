/- Structs that are built of parts, where a part is a row of letters: nothing of one program. keys: 'refuse', 'Key', 'Has', 'Own', 'Pair', 'MacKey'. -/
import Derived.Laws.Tables
import Derived.Test.YtlalcnmcnkompaaDoorMBaseKGk
import Derived.Test.YtlalcnmcnkompaaDoorMGdKy3
namespace Go.Proofs.YtlalcnmcnkompaaDoor
open Go.RowKit
set_option maxRecDepth 20000

theorem fold_set (off : Nat) : ∀ (cs : List Value) (k : Nat) (old : List Value), off + k + cs.length ≤ old.length →
    (cs.zipIdx k).foldl (fun (a : Array Value) (p : Value × Nat) => a.setIfInBounds (off + p.2) p.1) old.toArray = (old.take (off + k) ++ cs ++ old.drop (off + k + cs.length)).toArray
  | [], k, old, _ => by simp
  | c :: cs, k, old, h => by
    rw [List.length_cons] at h
    rw [List.zipIdx_cons, List.foldl_cons, List.setIfInBounds_toArray, fold_set off cs (k + 1) (old.set (off + k) c) (by rw [List.length_set]; omega)]
    congr 1
    have e1 : (old.set (off + k) c).take (off + (k + 1)) = old.take (off + k) ++ [c] := by
      rw [show off + (k + 1) = (off + k) + 1 by omega, List.take_add_one, List.take_set_of_le (Nat.le_refl _), List.getElem?_set_self (by omega)]
      rfl
    have e2 : (old.set (off + k) c).drop (off + (k + 1) + cs.length) = old.drop (off + k + (c :: cs).length) := by
      rw [List.drop_set_of_lt (by omega), List.length_cons]
      congr 1; omega
    rw [e1, e2]
    simp
theorem fill_cons (place : Nat → Option (Nat × Nat)) (old cs : List Value) (i off size : Nat) (v : Value) (rest : List (Nat × Value)) (hp : place i = some (off, size)) (hv : v.cells = cs.toArray) (hs : cs.length = size) (hl : off + size ≤ old.length) :
    Instr.fill place old.toArray ((i, v) :: rest) = Instr.fill place (old.take off ++ cs ++ old.drop (off + size)).toArray rest := by
  rw [Instr.fill, hp]
  simp only [hv, List.size_toArray, hs]
  rw [if_neg (by simp; omega), ← Array.foldl_toList, Array.toList_zipIdx]
  have := fold_set off cs 0 old (by omega)
  simp only [Nat.add_zero] at this
  rw [hs] at this
  rw [← this]
theorem built_of {P : Program} {t : TypeId} {fields : Array Field} {z : List Value} {places : List (Nat × Nat)} (hz : (P.info? t).map (·.zero) = some (some (.agg z.toArray))) (hu : P.underlying t = some (.struct fields)) (hp : fields.toList.mapM (fun f => (P.info? f.type).map fun i => (f.offset, i.size)) = some places) (parts : List (Nat × Value)) :
    P.built t parts = Instr.fill (places.toArray[·]?) z.toArray parts := by
  unfold Program.built
  cases hi : P.info? t with
  | none => simp [hi] at hz
  | some it =>
    have hz' : it.zero = some (.agg z.toArray) := by simpa [hi] using hz
    simp only [hu, hz', hp, Value.cells]
end Go.Proofs.YtlalcnmcnkompaaDoor

namespace Go.Proofs.YtlalcnmcnkompaaDoor
open Go.RowKit
set_option maxRecDepth 20000
set_option linter.unusedSimpArgs false

section
variable (base H : Nat) (own : Int) (seed : List Int) (b : Nat) (M : Int → Int → Option (List Int)) (v : Value) (L : List (Int × Int)) (w : World)
/-- Why keys don't go between oneself and a member. -/
def refuseE (own o : Int) : Int := if 8 ≤ o then 2 else if o = own then 12 else 0
set_option maxHeartbeats 1000000 in
theorem refuse_any (o : Int) (hR : RingAt w base H own seed b M v L) :
    Calls Tryd.prog 31 #[.pointer (some ⟨H, 0, none⟩), .int .u8 o] w fun e w' => e = .returned (.int .i64 (refuseE own o)) ∧ w' = w := by
  have c0 := hR.box.cell 0
  rw [ringC_own] at c0
  by_cases h8 : 8 ≤ o
  · have HE : Veil (refuseE own o = 2) := ⟨if_pos h8⟩
    go_enter Tryd.func31, Tryd.ntmps31
    go_wp2
    go_ret
    exact ⟨by rw [HE.out]; rfl, rfl⟩
  · by_cases ho : o = own
    · have HE : Veil (refuseE own o = 12) := ⟨by unfold refuseE; rw [if_neg h8, if_pos ho]⟩
      subst ho
      go_enter Tryd.func31, Tryd.ntmps31
      go_wp2
      go_ret
      exact ⟨by rw [HE.out]; rfl, rfl⟩
    · have HE : Veil (refuseE own o = 0) := ⟨by unfold refuseE; rw [if_neg h8, if_neg ho]⟩
      have hbe : (o == own) = false := by simpa using ho
      go_enter Tryd.func31, Tryd.ntmps31
      go_wp2
      go_ret
      exact ⟨by rw [HE.out]; rfl, rfl⟩
set_option maxHeartbeats 1000000 in
theorem rOwn_any (hR : RingAt w base H own seed b M v L) :
    Calls Tryd.prog 12 #[.pointer (some ⟨H, 0, none⟩)] w fun e w' => e = .returned (.int .u8 own) ∧ w' = w := by
  have c0 := hR.box.cell 0
  rw [ringC_own] at c0
  go_enter Tryd.func12, Tryd.ntmps12
  go_wp2
  go_ret
  exact ⟨rfl, rfl⟩
end
end Go.Proofs.YtlalcnmcnkompaaDoor
