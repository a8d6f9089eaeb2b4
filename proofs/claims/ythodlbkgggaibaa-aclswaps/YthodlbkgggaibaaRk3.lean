/- The reference's book: an event is written in. -/
import Derived.Test.YthodlbkgggaibaaRk2
import Derived.Test.YthodlbkgggaibaaGx
namespace Go.Proofs.Ythodlbkgggaibaa
open Go.RowKit Go.Shelf
set_option maxRecDepth 20000
set_option linter.unusedSimpArgs false
/-- What the writing in may write. -/
def OwnR (R : Nat) (v u : Value) (k : Nat) : Prop := k = R ∨ v.ownBlock = some k ∨ u.ownBlock = some k
theorem infoBA : (Try.prog.info? 4).map (fun i => (i.zero, i.size, i.bytes)) = some (some (.bool false), 1, 1) := by kernel_rfl
theorem refApp1 {B : Nat} {A : World} {R n : Nat} {vs bs : List (List Value)} {v u : Value} (hc : CellsAt A R 75 [v, u]) (hv : OwnI A B 41 17 v vs) (hu : OwnI A B 4 1 u bs) (hBA : B ≤ A.heap.size) (hn : vs.length = n) (hL : n ≤ 1000) (E : List Value) (he1 : E.length = 17) (he2 : ∀ q ∈ E, q.oneCell' = true) :
    ∃ x7 c7 W7, (Builtin.append_ #[22, 22] 22 #[v, .slice (some ⟨A.heap.size, 0, none⟩) 1 1]).run Try.prog (A.alloc (.cells E.toArray 41)) = .ok (.slice x7 (n + 1) c7) W7 ∧ W7.cell? ⟨R, 0, none⟩ = some v ∧ W7.frozen? ⟨R, 0, none⟩ = false ∧
      CellsAt (W7.setCell ⟨R, 0, none⟩ (.slice x7 (n + 1) c7)) R 75 [.slice x7 (n + 1) c7, u] ∧ OwnI (W7.setCell ⟨R, 0, none⟩ (.slice x7 (n + 1) c7)) B 41 17 (.slice x7 (n + 1) c7) (vs ++ [E]) ∧ OwnI (W7.setCell ⟨R, 0, none⟩ (.slice x7 (n + 1) c7)) B 4 1 u bs ∧ Turn (OwnR R v u) A (W7.setCell ⟨R, 0, none⟩ (.slice x7 (n + 1) c7)) ∧ (∀ k, (Value.slice x7 (n + 1) c7).ownBlock = some k → v.ownBlock = some k ∨ A.heap.size ≤ k) ∧ (∀ k, k < A.heap.size → k ≠ R → v.ownBlock ≠ some k → W7.heap[k]? = A.heap[k]?) := by
  have hal : Below A.heap.size A (A.alloc (.cells E.toArray 41)) := (Below.refl _ _).alloc (Nat.le_refl _) _
  obtain ⟨v7, W7, hrun, ho7, hg7, hb8⟩ := (hv.far hal).app (P := Try.prog) 22 22 Try.underlying22 infoE17A rfl (by decide) E he1 he2 A.heap.size (CellsAt.new A 41 E).wholeM (by omega) (by decide) (by rw [World.size_alloc]; omega)
  obtain ⟨x7, c7, rfl⟩ := ho7.isSlice
  have hln : (vs ++ [E]).length = n + 1 := by rw [List.length_append, hn]; rfl
  rw [hln] at hrun ho7 hb8
  have hvR : ∀ g, v.ownBlock = some g → g ≠ R := ownNeA hv hc (by decide)
  have huR : ∀ g, u.ownBlock = some g → g ≠ R := ownNeA hu hc (by decide)
  have huv : ∀ g g', v.ownBlock = some g → u.ownBlock = some g' → g ≠ g' := ownNeB hv hu (by decide)
  have hblk : ∀ k, k < A.heap.size → v.ownBlock ≠ some k → W7.heap[k]? = A.heap[k]? := fun k hk hne => (hg7.block k (by rw [World.size_alloc]; omega) (fun q => hne q.symm)).trans (Below.heap_alloc _ _ _ hk)
  have hc7 : CellsAt W7 R 75 [v, u] := hc.congr (hblk R hc.lt (fun q => hvR R q rfl))
  have h7R : ∀ g, (Value.slice x7 (n + 1) c7).ownBlock = some g → g ≠ R := fun g hg => by
    rcases hb8 with q | q
    · rw [q] at hg; exact hvR g hg
    · rw [q] at hg
      have := Option.some.inj hg
      have := hc.lt
      rw [World.size_alloc] at *
      omega
  refine ⟨x7, c7, W7, hrun, hc7.cell 0, hc7.frozen 0, hc7.set 0 _, ho7.congr (fun g hg => Below.heap_setCell _ _ _ _ (h7R g hg)), (hu.congr (fun g hg => hblk g (hu.blockLt g hg).1 (fun q => huv g g q hg rfl))).congr (fun g hg => Below.heap_setCell _ _ _ _ (huR g hg)), ?_, ?_, fun k hk _ hne => hblk k hk hne⟩
  · refine ((Turn.of_below hal).trans (Turn.of_grown hg7 (fun k e => .inr (.inl e)))).trans (Turn.of_setCell _ ?_ _)
    exact .inl rfl
  · intro k hk
    rcases hb8 with q | q
    · rw [q] at hk; exact .inl hk
    · rw [q] at hk
      have := Option.some.inj hk
      rw [World.size_alloc] at this
      exact .inr (by omega)
theorem refApp2 {B : Nat} {A : World} {R n : Nat} {vs bs : List (List Value)} {v u : Value} (hc : CellsAt A R 75 [v, u]) (hv : OwnI A B 41 17 v vs) (hu : OwnI A B 4 1 u bs) (hBA : B ≤ A.heap.size) (hn : bs.length = n) (hL : n ≤ 1000) (b : Bool) :
    ∃ x7 c7 W7, (Builtin.append_ #[73, 73] 73 #[u, .slice (some ⟨A.heap.size, 0, none⟩) 1 1]).run Try.prog (A.alloc (.cells #[.bool b] 4)) = .ok (.slice x7 (n + 1) c7) W7 ∧ W7.cell? ⟨R, 1, none⟩ = some u ∧ W7.frozen? ⟨R, 1, none⟩ = false ∧
      CellsAt (W7.setCell ⟨R, 1, none⟩ (.slice x7 (n + 1) c7)) R 75 [v, .slice x7 (n + 1) c7] ∧ OwnI (W7.setCell ⟨R, 1, none⟩ (.slice x7 (n + 1) c7)) B 4 1 (.slice x7 (n + 1) c7) (bs ++ [[.bool b]]) ∧ OwnI (W7.setCell ⟨R, 1, none⟩ (.slice x7 (n + 1) c7)) B 41 17 v vs ∧ Turn (OwnR R v u) A (W7.setCell ⟨R, 1, none⟩ (.slice x7 (n + 1) c7)) := by
  have hal : Below A.heap.size A (A.alloc (.cells #[.bool b] 4)) := (Below.refl _ _).alloc (Nat.le_refl _) _
  obtain ⟨v7, W7, hrun, ho7, hg7, hb8⟩ := (hu.far hal).app (P := Try.prog) 73 73 Try.underlying73 infoBA rfl (by decide) [.bool b] rfl (by simp [Value.oneCell']) A.heap.size (CellsAt.new A 4 [.bool b]).wholeM (by omega) (by decide) (by rw [World.size_alloc]; omega)
  obtain ⟨x7, c7, rfl⟩ := ho7.isSlice
  have hln : (bs ++ [[Value.bool b]]).length = n + 1 := by rw [List.length_append, hn]; rfl
  rw [hln] at hrun ho7 hb8
  have hvR : ∀ g, v.ownBlock = some g → g ≠ R := ownNeA hv hc (by decide)
  have huR : ∀ g, u.ownBlock = some g → g ≠ R := ownNeA hu hc (by decide)
  have huv : ∀ g g', v.ownBlock = some g → u.ownBlock = some g' → g ≠ g' := ownNeB hv hu (by decide)
  have hblk : ∀ k, k < A.heap.size → u.ownBlock ≠ some k → W7.heap[k]? = A.heap[k]? := fun k hk hne => (hg7.block k (by rw [World.size_alloc]; omega) (fun q => hne q.symm)).trans (Below.heap_alloc _ _ _ hk)
  have hc7 : CellsAt W7 R 75 [v, u] := hc.congr (hblk R hc.lt (fun q => huR R q rfl))
  have h7R : ∀ g, (Value.slice x7 (n + 1) c7).ownBlock = some g → g ≠ R := fun g hg => by
    rcases hb8 with q | q
    · rw [q] at hg; exact huR g hg
    · rw [q] at hg
      have := Option.some.inj hg
      have := hc.lt
      rw [World.size_alloc] at *
      omega
  refine ⟨x7, c7, W7, hrun, hc7.cell 1, hc7.frozen 1, hc7.set 1 _, ho7.congr (fun g hg => Below.heap_setCell _ _ _ _ (h7R g hg)), (hv.congr (fun g hg => hblk g (hv.blockLt g hg).1 (fun q => huv g g hg q rfl))).congr (fun g hg => Below.heap_setCell _ _ _ _ (hvR g hg)), ?_⟩
  refine ((Turn.of_below hal).trans (Turn.of_grown hg7 (fun k e => .inr (.inr e)))).trans (Turn.of_setCell _ ?_ _)
  exact .inl rfl
end Go.Proofs.Ythodlbkgggaibaa

