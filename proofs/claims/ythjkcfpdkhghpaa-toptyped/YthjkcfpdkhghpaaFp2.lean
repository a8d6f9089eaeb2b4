/- fugue, pure: what is deleted is gone from the text; dots compared. -/
import Derived.Test.YthjkcfpdkhghpaaFp1
namespace Go.Proofs.Ythjkcfpdkhghpaa
open Go.RowKit Go.Shelf
set_option maxRecDepth 20000
set_option linter.unusedSimpArgs false
theorem chr0_del (N : List Nd) (x y : Int × Int) : chr0 (delN N x) y = if y = x then 0 else chr0 N y := by
  unfold chr0
  rw [chrN_del]
  split
  · cases chrN N x <;> rfl
  · rfl
theorem filter_ne_at {l : List (Int × Int)} (hl : l.Nodup) {k : Nat} (hk : k < l.length) : l.filter (fun y => decide (y ≠ l[k])) = l.take k ++ l.drop (k + 1) := by
  have e : l = l.take k ++ l[k] :: l.drop (k + 1) := by rw [← List.drop_eq_getElem_cons hk, List.take_append_drop]
  generalize l[k] = x at *
  generalize l.take k = A at *
  generalize l.drop (k + 1) = B at *
  subst e
  have hA : ∀ y ∈ A, y ≠ x := fun y hy q => by
    rw [List.nodup_append] at hl
    exact hl.2.2 y hy x (by simp) q
  have hB : ∀ y ∈ B, y ≠ x := fun y hy q => by
    rw [List.nodup_append] at hl
    exact (List.nodup_cons.1 hl.2.1).1 (q ▸ hy)
  rw [List.filter_append, List.filter_cons_of_neg (by simp), List.filter_eq_self.2 (fun y hy => by simpa using hA y hy), List.filter_eq_self.2 (fun y hy => by simpa using hB y hy)]
theorem wrN_del {N : List Nd} (hN : TreeOk N) {k : Nat} (hk : k < (wrN N).length) : wrN (delN N (wrN N)[k]) = (wrN N).take k ++ (wrN N).drop (k + 1) := by
  rw [← filter_ne_at (wrN_nodup hN) hk]
  generalize (wrN N)[k] = x
  unfold wrN
  rw [walk_delN hN.rooted, List.filter_filter]
  refine List.filter_congr fun y _ => ?_
  unfold writB
  rw [chr0_del]
  by_cases h : y = x <;> simp [h]
theorem textN_del {N : List Nd} (hN : TreeOk N) {k : Nat} (hk : k < (wrN N).length) : textN (delN N (wrN N)[k]) = (textN N).take k ++ (textN N).drop (k + 1) := by
  have h1 := wrN_del hN hk
  have hnd := wrN_nodup hN
  have hne : ∀ y ∈ (wrN N).take k ++ (wrN N).drop (k + 1), y ≠ (wrN N)[k] := fun y hy => by
    rw [← filter_ne_at hnd hk] at hy
    simpa using (List.mem_filter.1 hy).2
  unfold textN
  rw [h1, ← List.map_take, ← List.map_drop, ← List.map_append]
  exact List.map_congr_left fun y hy => by rw [chr0_del, if_neg (hne y hy)]
end Go.Proofs.Ythjkcfpdkhghpaa

