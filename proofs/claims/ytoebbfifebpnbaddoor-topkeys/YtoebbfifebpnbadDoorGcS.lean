/- Slices that are cut; a place where ways meet; blocks that stay when another one grows. -/
import Derived.Test.YtoebbfifebpnbadDoorGateS5
import Derived.Test.YtoebbfifebpnbadDoorMacEq
namespace Go.Proofs.YtoebbfifebpnbadDoor
open Go.RowKit
set_option maxRecDepth 20000
set_option linter.unusedSimpArgs false

/-- Where a slice goes on that is cut at l. -/
def subA (x : Option Addr) (cap l : Nat) : Option Addr := if cap = l then x else x.map (·.add (l * 1))
theorem Bytes.cut {w : World} {x : Option Addr} {len cap : Nat} {z : List Int} (hb : Bytes w x len cap z) (l h : Nat) (h1 : l ≤ h) (h2 : h ≤ len) : Bytes w (subA x cap l) (h - l) (cap - l) ((z.drop l).take (h - l)) := by
  have hz := hb.len_eq
  have hle := hb.le
  refine ⟨by rw [List.length_take, List.length_drop]; omega, by omega, by have := hb.top; omega, ?_, ?_⟩
  · unfold subA
    split
    · intro _; omega
    · intro hn
      cases x with
      | none => have := hb.nil rfl; omega
      | some a => simp at hn
  · by_cases h0 : h - l = 0
    · exact .inl h0
    · rcases hb.at_ with h00 | ⟨b, off, hx, hc⟩
      · omega
      · refine .inr ⟨b, off + l, ?_, fun j hj => ?_⟩
        · unfold subA
          rw [if_neg (by omega), hx, Option.map_some, Addr.add_mid', Nat.mul_one]
        · rw [Nat.add_assoc, hc (l + j) (by omega), List.getElem?_take_of_lt hj, List.getElem?_drop]
theorem sizeU8 (w : World) : (sizeOf (Tryd.prog.elem 24)).run Tryd.prog w = .ok 1 w := by kernel_rfl
theorem elemB : Tryd.prog.underlying 24 = some (.slice (Tryd.prog.elem 24)) := by kernel_rfl
theorem run_cut_h (w : World) (x : Option Addr) (len cap h : Nat) (hh : h ≤ cap) : (Instr.slice 24 (.slice x len cap) none (some (.int .i64 (h : Int))) none).run Tryd.prog w = .ok (.slice (subA x cap 0) h cap) w := by
  rw [run_slice_h w 24 x len cap elemB .i64 (h : Int) (by omega) (by omega), sizeU8]
  simp [sliced, subA, Result.andThen]
theorem run_cut_l (w : World) (x : Option Addr) (len cap l : Nat) (hl : l ≤ len) : (Instr.slice 24 (.slice x len cap) (some (.int .i64 (l : Int))) none none).run Tryd.prog w = .ok (.slice (subA x cap l) (len - l) (cap - l)) w := by
  rw [run_slice_l w 24 x len cap elemB .i64 (l : Int) (by omega) (by omega), sizeU8]
  simp [sliced, subA, Result.andThen]

/-- Ways that end alike: what is behind them is proved once. -/
theorem wp_meet {P : Program} {c : Code} {Q : Exit → Act → World → Prop} {a : Act} {w : World} (R : Act → World → Prop) (h1 : Code.wp P c (fun ex a w => match ex with | .normal => R a w | _ => False) a w) (h2 : ∀ a w, R a w → Q .normal a w) : Code.wp P c Q a w :=
  Code.wp_mono (fun e a w q => by cases e <;> first | exact h2 _ _ q | exact q.elim) h1
/-- A block that is shorter than the row that grows is not the one that grows. -/
theorem holds_grownL {w w' : World} {g base : Nat} {t : TypeId} {l z : List Int} {v : Value} (h : Holds w g .u8 t l) (hv : OwnB w base v z) (hg : w.grownBy w' v.ownBlock) (hl : l.length < z.length) : Holds w' g .u8 t l := by
  have hlt := h.lt
  unfold Holds at h ⊢
  rw [hg.block g hlt (fun e => by
    rcases hv.2 with ⟨rfl, _⟩ | ⟨g', cap, cur, rfl, _, h3, _, _, _, h7⟩
    · cases e
    · simp [Value.ownBlock] at e
      subst e
      rw [h] at h3
      simp at h3
      have := congrArg List.length h7
      rw [← h3.1] at this
      simp [row] at this
      omega)]
  exact h
theorem equal_below (x : Option Addr) (len cap : Nat) (z : List Int) (y : Option Addr) (lb cb : Nat) (w : World) (hx : Bytes w x len cap z) (hy : Bytes w y lb cb z) (hz : ∀ v ∈ z, 0 ≤ v ∧ v ≤ 255) :
    Calls Tryd.prog 7 #[.slice x len cap, .slice y lb cb] w fun e w' => e = .returned (.bool true) ∧ Below w.heap.size w w' := by
  have h := equal_any x len cap z y lb cb z w hx hy hz hz
  rw [beq_self_eq_true] at h
  exact h.mono fun e w' ⟨h1, n, h2⟩ => ⟨h1, by rw [h2]; exact below_drewN (Below.refl _ _) n⟩
end Go.Proofs.YtoebbfifebpnbadDoor
