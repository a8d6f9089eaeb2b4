/- Tt1 Fp2 Fp3 -/
import Derived.Test.YtnmjplngbleopaaF33
namespace Go.Proofs.Ytnmjplngbleopaa
open Go.RowKit Go.Shelf
set_option maxRecDepth 20000
set_option linter.unusedSimpArgs false
theorem len_le_of_subset {α : Type} [DecidableEq α] : ∀ (l m : List α), l.Nodup → (∀ x ∈ l, x ∈ m) → l.length ≤ m.length
  | [], _, _, _ => by simp
  | a :: l, m, hl, hs => by
    obtain ⟨h1, h2⟩ := List.nodup_cons.1 hl
    have hm : a ∈ m := hs a (by simp)
    have := len_le_of_subset l (m.erase a) h2 (fun x hx => (List.mem_erase_of_ne (fun e => h1 (by rw [← e]; exact hx))).2 (hs x (by simp [hx])))
    rw [List.length_erase_of_mem hm] at this
    have := List.length_pos_of_mem hm
    simp only [List.length_cons]; omega
theorem sorted_unique : ∀ (l m : List (Int × Int)), inOrderD l → inOrderD m → (∀ x, x ∈ l ↔ x ∈ m) → l = m
  | [], [], _, _, _ => rfl
  | [], b :: m, _, _, h => by have := (h b).2 (by simp); simp at this
  | a :: l, [], _, _, h => by have := (h a).1 (by simp); simp at this
  | a :: l, b :: m, hl, hm, h => by
    obtain ⟨l1, l2⟩ := List.pairwise_cons.1 hl
    obtain ⟨m1, m2⟩ := List.pairwise_cons.1 hm
    have hab : a = b := by
      rcases List.mem_cons.1 ((h a).1 (by simp)) with q | q
      · exact q
      · rcases List.mem_cons.1 ((h b).2 (by simp)) with r | r
        · exact r.symm
        · exact absurd ((m1 a q).trans (l1 b r)) (aheadD.irrefl _)
    subst hab
    congr 1
    refine sorted_unique l m l2 m2 fun x => ⟨fun hx => ?_, fun hx => ?_⟩
    · rcases List.mem_cons.1 ((h x).1 (by simp [hx])) with q | q
      · rw [q] at hx; exact absurd (l1 a hx) (aheadD.irrefl _)
      · exact q
    · rcases List.mem_cons.1 ((h x).2 (by simp [hx])) with q | q
      · rw [q] at hx; exact absurd (m1 a hx) (aheadD.irrefl _)
      · exact q
theorem id_unique {N : List Nd} (hN : (N.map (·.id)).Nodup) {m n : Nd} (hm : m ∈ N) (hn : n ∈ N) (h : m.id = n.id) : m = n := by
  obtain ⟨i, hi, rfl⟩ := List.getElem_of_mem hm
  obtain ⟨j, hj, rfl⟩ := List.getElem_of_mem hn
  have h3 := (List.getElem_inj (h₀ := by simpa using hi) (h₁ := by simpa using hj) hN (i := i) (j := j)).1 (by simp only [List.getElem_map]; exact h)
  subst h3; rfl
theorem chrN_mem {N : List Nd} (hN : (N.map (·.id)).Nodup) {n : Nd} (hn : n ∈ N) : chrN N n.id = some n.chr := by
  unfold chrN
  cases h : N.find? (fun m => decide (m.id = n.id)) with
  | none => have := List.find?_eq_none.1 h n hn; simp at this
  | some m =>
    have h1 := List.mem_of_find?_eq_some h
    have h2 := List.find?_some h
    have := id_unique hN h1 hn (by simpa using h2)
    rw [this]; rfl
def Built (G : List Nd) : Prop := ∀ r (hr : r < G.length), refI (G.take r) G[r] = 0
theorem Built.nil : Built [] := fun r hr => by simp at hr
theorem Built.snoc {G : List Nd} (h : Built G) {n : Nd} (hn : refI G n = 0) : Built (G ++ [n]) := fun r hr => by
  by_cases q : r < G.length
  · rw [List.getElem_append_left q, List.take_append_of_le_length (by omega)]; exact h r q
  · have : r = G.length := by simp at hr; omega
    subst this
    rw [List.getElem_concat_length rfl, List.take_append_of_le_length (Nat.le_refl _), List.take_length]; exact hn
def againN (M : List Nd) (n : Nd) : List Nd := if (chrN M n.id).isSome = true then M else insN M n
structure Again (G M : List Nd) : Prop where
  ok : TreeOk M
  sub : ∀ m ∈ M, m ∈ G
theorem Again.step {G M : List Nd} (h : Again G M) {n : Nd} (hn : n ∈ G) : Again G (againN M n) ∧ ∀ m ∈ M, m ∈ againN M n := by
  unfold againN
  split
  · exact ⟨h, fun m hm => hm⟩
  · refine ⟨⟨h.ok.ins n, fun m hm => ?_⟩, fun m hm => ?_⟩
    · unfold insN at hm
      split at hm
      · rcases List.mem_append.1 hm with q | q
        · exact h.sub m q
        · rw [List.mem_singleton.1 q]; exact hn
      · exact h.sub m hm
    · unfold insN
      split
      · exact List.mem_append_left _ hm
      · exact hm
theorem Again.len {G M : List Nd} (h : Again G M) (hG : G.length ≤ 40) : M.length ≤ 40 := by
  have := len_le_of_subset (M.map (·.id)) (G.map (·.id)) h.ok.rooted.nodup (fun x hx => by
    obtain ⟨m, hm, rfl⟩ := List.mem_map.1 hx
    exact List.mem_map_of_mem (h.sub m hm))
  simp at this; omega
end Go.Proofs.Ytnmjplngbleopaa
