/- fugue: the text as bytes; what an Insert keeps; live. -/
import Derived.Test.YtgmbmdmbnpkbbaaFg23
import Derived.Test.YtgmbmdmbnpkbbaaStrC
namespace Go.Proofs.Ytgmbmdmbnpkbbaa
open Go.RowKit Go.Shelf
set_option maxRecDepth 20000
set_option linter.unusedSimpArgs false
theorem flat_one (z : List Int) : (z.map fun c => [Value.int .u8 c]).flatten = z.map (Value.int .u8) := by
  induction z with
  | nil => rfl
  | cons a z ih => simp only [List.map_cons, List.flatten_cons, ih]; rfl
theorem OwnI.toB {w : World} {base : Nat} {v : Value} {z : List Int} (h : OwnI w base 5 1 v (z.map fun c => [.int .u8 c])) : OwnB w base v z := by
  have := h.own
  rw [List.length_map, flat_one] at this
  exact this
theorem text_map (N : List Nd) : (wrN N).map (chrC N) = (textN N).map fun c => [Value.int .u8 c] := by unfold textN; rw [List.map_map]; rfl
theorem textB_any (base R bc bn : Nat) (N : List Nd) (V : (Int × Int) × Bool → Value) (hN : TreeOk N) (hlen : N.length ≤ 1000) (w : World) (hTr : TreeAt w base R bc bn N V) :
    Calls Try.prog 32 #[.pointer (some ⟨R, 0, none⟩)] w fun e w' => ∃ v, e = .returned v ∧ OwnB w' w.heap.size v (textN N) ∧ Below w.heap.size w w' :=
  (textT_any base R bc bn N V hN hlen w hTr).mono fun e w' ⟨v, h1, h2, h3⟩ => ⟨v, h1, by rw [text_map] at h2; exact h2.toB, h3⟩
theorem TreeOk.nil : TreeOk [] := ⟨Rooted.nil, fun _ h => by simp at h⟩
theorem refI_ok {N : List Nd} {n : Nd} (h : refI N n = 0) : n.id ≠ (0, 0) ∧ 1 ≤ n.chr ∧ n.chr ≤ 127 ∧ (n.side.1 = (0, 0) → n.side.2 = true) ∧ (chrN N n.id).isSome = false ∧ (n.side.1 = (0, 0) ∨ (chrN N n.side.1).isSome = true) ∧ N.length < 512 := by
  unfold refI at h
  split at h
  · cases h
  · next h1 =>
    split at h
    · cases h
    · next h2 =>
      split at h
      · cases h
      · next h3 =>
        split at h
        · cases h
        · next h4 =>
          simp only [not_or, not_and] at h1
          refine ⟨h1.1, by omega, by omega, fun q => by simpa using h1.2.2.2 q, by simpa using h2, ?_, by omega⟩
          by_cases q : n.side.1 = (0, 0)
          · exact .inl q
          · refine .inr ?_
            cases q2 : (chrN N n.side.1).isSome with
            | false => exact absurd ⟨q, q2⟩ h3
            | true => rfl
theorem TreeOk.ins {N : List Nd} (h : TreeOk N) (n : Nd) : TreeOk (insN N n) := by
  unfold insN
  split
  · next hr =>
    obtain ⟨h1, -, -, h4, h5, h6, -⟩ := refI_ok hr
    refine ⟨h.rooted.snoc n h1 (chrN_fresh h5) (h6.imp id fun q => ?_), fun m hm hq => ?_⟩
    · obtain ⟨m, hm, e⟩ := chrN_some.1 q
      exact ⟨m, hm, e⟩
    · rcases List.mem_append.1 hm with q | q
      · exact h.right m q hq
      · rw [List.mem_singleton.1 q] at hq ⊢; exact h4 hq
  · exact h
theorem insN_len {N : List Nd} {n : Nd} : (insN N n).length ≤ N.length + 1 := by
  unfold insN
  split
  · simp
  · omega
abbrev n1L : Nd := ⟨(1, 1), ((0, 0), true), 97⟩
abbrev n2L : Nd := ⟨(1, 2), ((1, 1), true), 98⟩
abbrev n3L : Nd := ⟨(2, 1), ((1, 2), false), 99⟩
end Go.Proofs.Ytgmbmdmbnpkbbaa

