/- Fh1 -/
import Derived.Test.YthjkcfpdkhghpaaH27
namespace Go.Proofs.Ythjkcfpdkhghpaa
theorem walk_ind {N : List Nd} (hN : Rooted N) {C : (Int × Int) × Bool → Prop} (h : ∀ s, (∀ x ∈ kids N s, ∀ b, C (x, b)) → C s) (s : (Int × Int) × Bool) : C s := by
  have key : ∀ (k : Nat) (s : (Int × Int) × Bool), (∀ j (hj : j < N.length), N[j].side = s → N.length ≤ j + k) → C s := by
    intro k
    induction k with
    | zero =>
      intro s hs
      refine h s fun x hx => ?_
      obtain ⟨n, hn, h1, _⟩ := mem_kids.1 hx
      obtain ⟨j, hj, rfl⟩ := List.getElem_of_mem hn
      have := hs j hj h1
      omega
    | succ k ih =>
      intro s hs
      refine h s fun x hx b => ih (x, b) fun i hi e => ?_
      obtain ⟨n, hn, h1, h2⟩ := mem_kids.1 hx
      obtain ⟨j, hj, rfl⟩ := List.getElem_of_mem hn
      have hj' := hs j hj h1
      rcases hN.above i hi with h | ⟨m, hm, h⟩
      · rw [e] at h; exact absurd (h2.trans h) (hN.id _ hn)
      · rw [e] at h
        have h3 := (List.getElem_inj (h₀ := by simp; omega) (h₁ := by simp; omega) hN.nodup (i := m) (j := j)).1 (by simp only [List.getElem_map]; exact h.trans h2.symm)
        omega
  exact key N.length s fun j hj _ => by omega
def blockN (N : List Nd) (x : Int × Int) : List (Int × Int) := walkA N (x, false) ++ [x] ++ walkA N (x, true)
theorem walkA_blocks {N : List Nd} (hN : Rooted N) (s : (Int × Int) × Bool) : walkA N s = (kids N s).flatMap (blockN N) := walkA_eq hN s
theorem mem_block {N : List Nd} {x y : Int × Int} : y ∈ blockN N x ↔ y ∈ walkA N (x, false) ∨ y = x ∨ y ∈ walkA N (x, true) := by
  unfold blockN
  simp only [List.mem_append, List.mem_singleton]
  constructor
  · rintro ((h | h) | h)
    · exact .inl h
    · exact .inr (.inl h)
    · exact .inr (.inr h)
  · rintro (h | h | h)
    · exact .inl (.inl h)
    · exact .inl (.inr h)
    · exact .inr h
theorem mem_walk {N : List Nd} (hN : Rooted N) (s : (Int × Int) × Bool) : ∀ x ∈ walkA N s, ∃ n ∈ N, n.id = x := by
  refine walk_ind hN (C := fun s => ∀ x ∈ walkA N s, ∃ n ∈ N, n.id = x) (fun s ih x hx => ?_) s
  rw [walkA_blocks hN] at hx
  obtain ⟨k, hk, hx⟩ := List.mem_flatMap.1 hx
  rcases mem_block.1 hx with h | rfl | h
  · exact ih k hk false x h
  · obtain ⟨n, hn, _, e⟩ := mem_kids.1 hk
    exact ⟨n, hn, e⟩
  · exact ih k hk true x h
theorem split_walk {N : List Nd} (hN : Rooted N) (s : (Int × Int) × Bool) (x : Int × Int) : x ∈ walkA N s → ∃ A B, walkA N s = A ++ blockN N x ++ B := by
  refine walk_ind hN (C := fun s => x ∈ walkA N s → ∃ A B, walkA N s = A ++ blockN N x ++ B) (fun s ih hx => ?_) s
  rw [walkA_blocks hN] at hx ⊢
  obtain ⟨k, hk, hx⟩ := List.mem_flatMap.1 hx
  obtain ⟨K1, K2, hK⟩ := List.append_of_mem hk
  rw [hK, List.flatMap_append, List.flatMap_cons]
  rcases mem_block.1 hx with h | rfl | h
  · obtain ⟨A, B, e⟩ := ih k hk false h
    refine ⟨K1.flatMap (blockN N) ++ A, B ++ [k] ++ walkA N (k, true) ++ K2.flatMap (blockN N), ?_⟩
    rw [show blockN N k = A ++ blockN N x ++ B ++ [k] ++ walkA N (k, true) by rw [← e]; rfl]
    simp only [List.append_assoc]
  · exact ⟨_, _, by rw [List.append_assoc]⟩
  · obtain ⟨A, B, e⟩ := ih k hk true h
    refine ⟨K1.flatMap (blockN N) ++ (walkA N (k, false) ++ [k] ++ A), B ++ K2.flatMap (blockN N), ?_⟩
    rw [show blockN N k = walkA N (k, false) ++ [k] ++ (A ++ blockN N x ++ B) by rw [← e]; rfl]
    simp only [List.append_assoc]
theorem mem_below {N : List Nd} (hN : Rooted N) {s : (Int × Int) × Bool} {n : Nd} (hn : n ∈ N) (h : n.side.1 ∈ walkA N s) : n.id ∈ walkA N s := by
  obtain ⟨A, B, e⟩ := split_walk hN s _ h
  have : n.id ∈ walkA N n.side := by
    rw [walkA_blocks hN]
    exact List.mem_flatMap.2 ⟨n.id, mem_kids.2 ⟨n, hn, rfl, rfl⟩, mem_block.2 (.inr (.inl rfl))⟩
  rw [e]
  refine List.mem_append_left _ (List.mem_append_right _ (mem_block.2 ?_))
  rcases hs : n.side with ⟨p, b⟩
  rw [hs] at this
  cases b
  · exact .inl (by simpa using this)
  · exact .inr (.inr (by simpa using this))
def rootS : (Int × Int) × Bool := ((0, 0), true)
structure TreeOk (N : List Nd) : Prop where
  rooted : Rooted N
  right : ∀ n ∈ N, n.side.1 = (0, 0) → n.side.2 = true
theorem TreeOk.all_in {N : List Nd} (h : TreeOk N) : ∀ n ∈ N, n.id ∈ walkA N rootS := by
  have key : ∀ k j (hj : j < N.length), j ≤ k → N[j].id ∈ walkA N rootS := by
    intro k
    induction k with
    | zero =>
      intro j hj hk
      rcases h.rooted.above j hj with e | ⟨i, hi, _⟩
      · rw [walkA_blocks h.rooted]
        refine List.mem_flatMap.2 ⟨_, mem_kids.2 ⟨N[j], List.getElem_mem hj, ?_, rfl⟩, mem_block.2 (.inr (.inl rfl))⟩
        have := h.right _ (List.getElem_mem hj) e
        exact Prod.ext e this
      · omega
    | succ k ih =>
      intro j hj hk
      rcases h.rooted.above j hj with e | ⟨i, hi, e⟩
      · rw [walkA_blocks h.rooted]
        refine List.mem_flatMap.2 ⟨_, mem_kids.2 ⟨N[j], List.getElem_mem hj, ?_, rfl⟩, mem_block.2 (.inr (.inl rfl))⟩
        exact Prod.ext e (h.right _ (List.getElem_mem hj) e)
      · exact mem_below h.rooted (List.getElem_mem hj) (by rw [← e]; exact ih i (by omega) (by omega))
  intro n hn
  obtain ⟨j, hj, rfl⟩ := List.getElem_of_mem hn
  exact key j j hj (Nat.le_refl _)
theorem sum_add {α : Type} (f g : α → Nat) : ∀ l : List α, (l.map fun x => f x + g x).sum = (l.map f).sum + (l.map g).sum
  | [] => rfl
  | a :: l => by simp only [List.map_cons, List.sum_cons, sum_add f g l]; omega
theorem sum_count (p : Int × Int) : ∀ l : List (Int × Int), (l.map fun k => if k = p then 1 else 0).sum = l.count p
  | [] => rfl
  | a :: l => by rw [List.map_cons, List.sum_cons, sum_count p l, List.count_cons]; simp only [beq_iff_eq]; omega
theorem count_block (N : List Nd) (x y : Int × Int) : (blockN N y).count x = (walkA N (y, false)).count x + (if y = x then 1 else 0) + (walkA N (y, true)).count x := by
  unfold blockN
  rw [List.count_append, List.count_append, List.count_singleton]
  simp only [beq_iff_eq]
theorem count_walk {N : List Nd} (hN : Rooted N) (n : Nd) (hn : n ∈ N) (s : (Int × Int) × Bool) : (walkA N s).count n.id = (if s = n.side then 1 else 0) + (walkA N s).count n.side.1 := by
  refine walk_ind hN (C := fun s => (walkA N s).count n.id = (if s = n.side then 1 else 0) + (walkA N s).count n.side.1) (fun s ih => ?_) s
  have hk : (kids N s).count n.id = if s = n.side then 1 else 0 := by
    have hnd : (kids N s).Nodup := (kids_order hN.nodup s).imp fun {a b} h e => by rw [e] at h; exact aheadD.irrefl _ h
    by_cases e : s = n.side
    · rw [if_pos e]
      rw [hnd.count, if_pos (mem_kids.2 ⟨n, hn, e.symm, rfl⟩)]
    · rw [if_neg e]
      refine List.count_eq_zero_of_not_mem fun h => ?_
      obtain ⟨m, hm, h1, h2⟩ := mem_kids.1 h
      obtain ⟨i, hi, rfl⟩ := List.getElem_of_mem hm
      obtain ⟨j, hj, rfl⟩ := List.getElem_of_mem hn
      have h3 := (List.getElem_inj (h₀ := by simpa using hi) (h₁ := by simpa using hj) hN.nodup (i := i) (j := j)).1 (by simp only [List.getElem_map]; exact h2)
      subst h3
      exact e h1.symm
  rw [walkA_blocks hN, List.count_flatMap, List.count_flatMap]
  have e1 : ((kids N s).map (List.count n.id ∘ blockN N)) = (kids N s).map fun k => (if k = n.id then 1 else 0) + ((List.count n.side.1 ∘ blockN N) k) := by
    refine List.map_congr_left fun k hk => ?_
    have h1 := ih k hk false
    have h2 := ih k hk true
    simp only [Function.comp_apply]
    rw [count_block, count_block, h1, h2]
    rcases hs : n.side with ⟨p, b⟩
    simp only
    have e2 : (if (k, false) = (p, b) then 1 else 0) + (if (k, true) = (p, b) then 1 else 0) = if k = p then 1 else 0 := by
      by_cases e : k = p
      · subst e
        cases b <;> simp
      · rw [if_neg (fun q => e (congrArg Prod.fst q)), if_neg (fun q => e (congrArg Prod.fst q)), if_neg e]
    omega
  rw [e1, sum_add, sum_count, hk]
theorem not_mem_root {N : List Nd} (hN : Rooted N) (s : (Int × Int) × Bool) : (0, 0) ∉ walkA N s := fun h => by
  obtain ⟨n, hn, e⟩ := mem_walk hN s _ h
  exact hN.id n hn e
theorem nodup_walk {N : List Nd} (hN : Rooted N) (s : (Int × Int) × Bool) (hns : s.1 ∉ walkA N s) : (walkA N s).Nodup := by
  have key : ∀ k j (hj : j < N.length), j ≤ k → (walkA N s).count N[j].id ≤ 1 := by
    intro k
    induction k with
    | zero =>
      intro j hj hk
      rw [count_walk hN _ (List.getElem_mem hj)]
      rcases hN.above j hj with e | ⟨i, hi, _⟩
      · rw [e, List.count_eq_zero_of_not_mem (not_mem_root hN s)]; split <;> omega
      · omega
    | succ k ih =>
      intro j hj hk
      rw [count_walk hN _ (List.getElem_mem hj)]
      rcases hN.above j hj with e | ⟨i, hi, e⟩
      · rw [e, List.count_eq_zero_of_not_mem (not_mem_root hN s)]; split <;> omega
      · have := ih i (by omega) (by omega)
        by_cases e2 : s = N[j].side
        · rw [if_pos e2, List.count_eq_zero_of_not_mem (by rw [← e2]; exact hns)]; omega
        · rw [if_neg e2, ← e]; omega
  refine List.nodup_iff_count.2 fun x => ?_
  by_cases hx : x ∈ walkA N s
  · obtain ⟨n, hn, rfl⟩ := mem_walk hN s x hx
    obtain ⟨j, hj, rfl⟩ := List.getElem_of_mem hn
    exact key j j hj (Nat.le_refl _)
  · rw [List.count_eq_zero_of_not_mem hx]; omega
theorem nodup_root {N : List Nd} (hN : Rooted N) : (walkA N rootS).Nodup := nodup_walk hN _ (not_mem_root hN _)
theorem TreeOk.perm {N : List Nd} (h : TreeOk N) : (walkA N rootS).Perm (N.map (·.id)) := by
  refine (List.perm_ext_iff_of_nodup (nodup_root h.rooted) h.rooted.nodup).2 fun x => ?_
  constructor
  · intro hx
    obtain ⟨n, hn, rfl⟩ := mem_walk h.rooted _ x hx
    exact List.mem_map_of_mem hn
  · intro hx
    obtain ⟨n, hn, rfl⟩ := List.mem_map.1 hx
    exact h.all_in n hn
theorem TreeOk.len {N : List Nd} (h : TreeOk N) : (walkA N rootS).length = N.length := by rw [h.perm.length_eq, List.length_map]
theorem walk_same {N M : List Nd} (hN : Rooted N) (hM : Rooted M) (h : ∀ s, kids N s = kids M s) (s : (Int × Int) × Bool) : walkA N s = walkA M s := by
  refine walk_ind hN (C := fun s => walkA N s = walkA M s) (fun s ih => ?_) s
  rw [walkA_blocks hN, walkA_blocks hM, ← h s]
  refine flatMap_same fun x hx => ?_
  unfold blockN
  rw [ih x hx false, ih x hx true]
theorem kids_other {N : List Nd} {n : Nd} {s : (Int × Int) × Bool} (h : s ≠ n.side) : kids (N ++ [n]) s = kids N s := by rw [kids_snoc, if_neg (Ne.symm h)]
theorem Rooted.low {N : List Nd} (hN : Rooted N) {n : Nd} (hN' : Rooted (N ++ [n])) (b : Bool) : kids N (n.id, b) = [] := by
  refine List.eq_nil_iff_forall_not_mem.2 fun x hx => ?_
  obtain ⟨m, hm, h1, h2⟩ := mem_kids.1 hx
  obtain ⟨j, hj, rfl⟩ := List.getElem_of_mem hm
  rcases hN.above j hj with e | ⟨i, hi, e⟩
  · rw [h1] at e
    exact hN'.id n (by simp) e
  · rw [h1] at e
    have := hN'.nodup
    rw [List.map_append, List.nodup_append] at this
    exact this.2.2 N[i].id (List.mem_map_of_mem (List.getElem_mem (by omega))) n.id (by simp) e
def beside (p t : Int × Int) (b : Bool) (x : Int × Int) : List (Int × Int) := if x = p then (if b then [x, t] else [t, x]) else [x]
end Go.Proofs.Ythjkcfpdkhghpaa
