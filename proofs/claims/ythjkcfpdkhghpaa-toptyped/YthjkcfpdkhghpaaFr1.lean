/- fugue, the reference: the nodes as they came; none, at. -/
import Derived.Test.YthjkcfpdkhghpaaFg16
import Derived.Test.YthjkcfpdkhghpaaMEqdCv3Evl
namespace Go.Proofs.Ythjkcfpdkhghpaa
open Go.RowKit Go.Shelf
set_option maxRecDepth 20000
set_option linter.unusedSimpArgs false
/-- A node's cells. -/
def ndC (n : Nd) : List Value := encF n.id ++ encF n.side.1 ++ [.bool n.side.2] ++ [.int .u8 n.chr]
theorem ndC_len (n : Nd) : (ndC n).length = 6 := rfl
theorem ndC_one (n : Nd) : ∀ u ∈ ndC n, u.oneCell' = true := by
  intro u hu
  simp only [ndC, encF, dotC, List.mem_append, List.mem_cons, List.not_mem_nil, or_false] at hu
  rcases hu with (((rfl | rfl) | (rfl | rfl)) | rfl) | rfl <;> rfl
def refP (R : Nat) (v : Value) (k : Nat) : Prop := k = R ∨ v.ownBlock = some k
/-- A node's place; -1: it is none. -/
def idxN (N : List Nd) (x : Int × Int) : Int := match N.findIdx? (fun n => decide (n.id = x)) with | some i => (i : Nat) | none => -1
theorem idxN_at {N : List Nd} {x : Int × Int} {i : Nat} (hi : i < N.length) (h1 : ∀ j (hj : j < N.length), j < i → N[j].id ≠ x) (h2 : N[i].id = x) : idxN N x = (i : Nat) := by
  unfold idxN
  have : N.findIdx? (fun n => decide (n.id = x)) = some i := by
    rw [List.findIdx?_eq_some_iff_getElem]
    exact ⟨hi, by simpa using h2, fun j hj => by simpa using h1 j (by omega) hj⟩
  rw [this]
theorem idxN_none {N : List Nd} {x : Int × Int} (h1 : ∀ j (hj : j < N.length), N[j].id ≠ x) : idxN N x = -1 := by
  unfold idxN
  have : N.findIdx? (fun n => decide (n.id = x)) = none := by
    rw [List.findIdx?_eq_none_iff]
    intro n hn
    obtain ⟨j, hj, rfl⟩ := List.getElem_of_mem hn
    simpa using h1 j hj
  rw [this]
theorem idxN_cases (N : List Nd) (x : Int × Int) : (idxN N x = -1 ∧ (chrN N x).isSome = false) ∨ ∃ i, ∃ hi : i < N.length, idxN N x = (i : Nat) ∧ N[i].id = x ∧ (chrN N x).isSome = true := by
  unfold idxN
  cases h : N.findIdx? (fun n => decide (n.id = x)) with
  | none =>
    refine .inl ⟨rfl, ?_⟩
    rw [List.findIdx?_eq_none_iff] at h
    cases hq : (chrN N x).isSome with
    | false => rfl
    | true =>
      obtain ⟨n, hn, e⟩ := chrN_some.1 hq
      have := h n hn
      simp [e] at this
  | some i =>
    rw [List.findIdx?_eq_some_iff_getElem] at h
    obtain ⟨hi, h1, _⟩ := h
    exact .inr ⟨i, hi, rfl, by simpa using h1, chrN_some.2 ⟨N[i], List.getElem_mem hi, by simpa using h1⟩⟩
theorem exec_eqF {P : Program} {ρ : Operand → Value} {o : Oper} {w : World} {op : BinOp} {t u : TypeId} {x y : Operand} (ho : o.op = .binOp op t x y u) {xv yv v : Value} (hx : ρ x = xv) (hy : ρ y = yv) (hg : (eqGuard op t x y xv yv).run P w = .ok () w) (hrun : (binOp op t xv yv).run P w = .ok v w) : (execOp ρ o).run P w = .ok (.value v) w := by
  unfold execOp
  simp only [ho, hx, hy, Sem.run_bind, hg, hrun, Result.andThen_ok, Sem.run_pure]
end Go.Proofs.Ythjkcfpdkhghpaa

