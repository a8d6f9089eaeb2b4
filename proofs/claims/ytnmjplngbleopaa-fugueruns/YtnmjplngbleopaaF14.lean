/- Fg10 Fg11 Fg12 Fh1 -/
import Derived.Test.YtnmjplngbleopaaF13
namespace Go.Proofs.Ytnmjplngbleopaa
open Go.RowKit Go.Shelf
set_option maxRecDepth 20000
set_option linter.unusedSimpArgs false
def chrN (N : List Nd) (x : Int × Int) : Option Int := (N.find? (fun n => decide (n.id = x))).map (·.chr)
theorem chrN_some {N : List Nd} {x : Int × Int} : (chrN N x).isSome = true ↔ ∃ n ∈ N, n.id = x := by
  unfold chrN
  rw [Option.isSome_map, List.find?_isSome]
  simp
theorem chrN_snoc (N : List Nd) (n : Nd) (hn : ∀ m ∈ N, m.id ≠ n.id) (x : Int × Int) : chrN (N ++ [n]) x = if x = n.id then some n.chr else chrN N x := by
  unfold chrN
  rw [List.find?_append]
  by_cases h : x = n.id
  · rw [if_pos h, List.find?_eq_none.2 (fun m hm => by rw [h]; simpa using hn m hm)]
    simp [h]
  · rw [if_neg h]
    have : ([n].find? (fun m => decide (m.id = x))) = none := by simp [Ne.symm h]
    rw [this, Option.or_none]
def chrM (N : List Nd) (x : Int × Int) : Option Value := (chrN N x).map (Value.int .u8)
structure SidesAt (w : World) (base R bc bn : Nat) (N : List Nd) (V : (Int × Int) × Bool → Value) : Prop where
  own : ∀ s, okS s → OwnI w base 32 2 (V s) ((kids N s).map encF)
  apart : ∀ s t, okS s → okS t → s ≠ t → ∀ k, (V s).ownBlock = some k → (V t).ownBlock ≠ some k
  far : ∀ s, okS s → (V s).ownBlock ≠ some R ∧ (V s).ownBlock ≠ some bc ∧ (V s).ownBlock ≠ some bn
def sideM (N : List Nd) (V : (Int × Int) × Bool → Value) (s : (Int × Int) × Bool) : Option Value := if kids N s = [] then none else some (V s)
structure TreeAt (w : World) (base R bc bn : Nat) (N : List Nd) (V : (Int × Int) × Bool → Value) : Prop where
  box : CellsAt w R 51 [.map (some bc), .map (some bn)]
  chars : MapX Try.prog 32 encDF okDF w bc N.length (chrM N)
  nodes : MapG Try.prog 56 encS okS w bn N.length (sideM N V)
  sides : SidesAt w base R bc bn N V
  empty : ∀ s, okS s → kids N s = [] → V s = .slice none 0 0
  nodup : (N.map (·.id)).Nodup
  okId : ∀ n ∈ N, okDF n.id ∧ okS n.side
  okChr : ∀ n ∈ N, 0 ≤ n.chr ∧ n.chr ≤ 127
  ne : bc ≠ bn
def treeP (R bc bn : Nat) (V : (Int × Int) × Bool → Value) (k : Nat) : Prop := k = R ∨ k = bc ∨ k = bn ∨ ∃ s, okS s ∧ (V s).ownBlock = some k
theorem TreeAt.congr {w w' : World} {base R bc bn : Nat} {N : List Nd} {V : (Int × Int) × Bool → Value} (h : TreeAt w base R bc bn N V) (hk : ∀ k, treeP R bc bn V k → w'.heap[k]? = w.heap[k]?) : TreeAt w' base R bc bn N V :=
  { box := h.box.congr (hk R (.inl rfl))
    chars := h.chars.congr (hk bc (.inr (.inl rfl)))
    nodes := h.nodes.congr (hk bn (.inr (.inr (.inl rfl))))
    sides := ⟨fun s hs => (h.sides.own s hs).congr fun g hg => hk g (.inr (.inr (.inr ⟨s, hs, hg⟩))), h.sides.apart, h.sides.far⟩
    empty := h.empty, nodup := h.nodup, okId := h.okId, okChr := h.okChr, ne := h.ne }
theorem TreeAt.blockLt {w : World} {base R bc bn : Nat} {N : List Nd} {V : (Int × Int) × Bool → Value} (h : TreeAt w base R bc bn N V) (k : Nat) (hk : treeP R bc bn V k) : k < w.heap.size := by
  rcases hk with rfl | rfl | rfl | ⟨s, hs, hk⟩
  · exact h.box.lt
  · exact h.chars.lt
  · exact h.nodes.lt
  · exact ((h.sides.own s hs).blockLt k hk).1
theorem TreeAt.far {w w' : World} {base R bc bn : Nat} {N : List Nd} {V : (Int × Int) × Bool → Value} (h : TreeAt w base R bc bn N V) (hb : Below w.heap.size w w') : TreeAt w' base R bc bn N V := h.congr fun k hk => hb.block k (h.blockLt k hk)
def walkL (N : List Nd) : Nat → (Int × Int) × Bool → List (Int × Int)
  | 0, _ => []
  | d + 1, s => (kids N s).flatMap fun x => walkL N d (x, false) ++ [x] ++ walkL N d (x, true)
structure Rooted (N : List Nd) : Prop where
  nodup : (N.map (·.id)).Nodup
  id : ∀ n ∈ N, n.id ≠ (0, 0)
  above : ∀ j (hj : j < N.length), N[j].side.1 = (0, 0) ∨ ∃ i, ∃ hi : i < j, (N[i]'(by omega)).id = N[j].side.1
theorem flatMap_same {α β : Type} {f g : α → List β} {l : List α} (h : ∀ x ∈ l, f x = g x) : l.flatMap f = l.flatMap g := by
  induction l with
  | nil => rfl
  | cons a l ih => rw [List.flatMap_cons, List.flatMap_cons, h a (by simp), ih (fun x hx => h x (by simp [hx]))]
theorem walkL_enough {N : List Nd} (hN : Rooted N) (k : Nat) : ∀ (s : (Int × Int) × Bool) (d : Nat), (∀ j (hj : j < N.length), N[j].side = s → N.length ≤ j + k) → k ≤ d → walkL N d s = walkL N k s := by
  induction k with
  | zero =>
    intro s d hs _
    have : kids N s = [] := by
      refine List.eq_nil_iff_forall_not_mem.2 fun x hx => ?_
      obtain ⟨n, hn, h1, _⟩ := mem_kids.1 hx
      obtain ⟨j, hj, rfl⟩ := List.getElem_of_mem hn
      have := hs j hj h1
      omega
    cases d with
    | zero => rfl
    | succ d => simp [walkL, this]
  | succ k ih =>
    intro s d hs hd
    obtain ⟨d, rfl⟩ : ∃ q, d = q + 1 := ⟨d - 1, by omega⟩
    unfold walkL
    refine flatMap_same fun x hx => ?_
    obtain ⟨n, hn, h1, h2⟩ := mem_kids.1 hx
    obtain ⟨j, hj, rfl⟩ := List.getElem_of_mem hn
    have hj' := hs j hj h1
    have hx0 := hN.id _ hn
    have hlow : ∀ b, ∀ i (hi : i < N.length), N[i].side = (x, b) → N.length ≤ i + k := fun b i hi e => by
      rcases hN.above i hi with h | ⟨m, hm, h⟩
      · rw [e] at h; exact absurd (h2.trans h) hx0
      · rw [e] at h
        have : m = j := by
          have h3 := (List.getElem_inj (h₀ := by simp; omega) (h₁ := by simp; omega) hN.nodup (i := m) (j := j)).1 (by simp only [List.getElem_map]; exact h.trans h2.symm)
          exact h3
        omega
    rw [ih (x, false) d (hlow false) (by omega), ih (x, true) d (hlow true) (by omega)]
def walkA (N : List Nd) (s : (Int × Int) × Bool) : List (Int × Int) := walkL N N.length s
theorem walkA_eq {N : List Nd} (hN : Rooted N) (s : (Int × Int) × Bool) : walkA N s = (kids N s).flatMap fun x => walkA N (x, false) ++ [x] ++ walkA N (x, true) := by
  unfold walkA
  rw [← walkL_enough hN N.length s (N.length + 1) (fun j hj _ => by omega) (by omega)]
  rfl
theorem Rooted.nil : Rooted [] := ⟨List.nodup_nil, fun _ h => by simp at h, fun _ h => by simp at h⟩
theorem Rooted.snoc {N : List Nd} (hN : Rooted N) (n : Nd) (h0 : n.id ≠ (0, 0)) (hn : ∀ m ∈ N, m.id ≠ n.id) (ha : n.side.1 = (0, 0) ∨ ∃ m ∈ N, m.id = n.side.1) : Rooted (N ++ [n]) where
  nodup := by
    rw [List.map_append, List.nodup_append]
    refine ⟨hN.nodup, by simp, fun a ha b hb => ?_⟩
    obtain ⟨m, hm, rfl⟩ := List.mem_map.1 ha
    have : b = n.id := by simpa using hb
    rw [this]
    exact hn m hm
  id := fun m hm => by
    rcases List.mem_append.1 hm with hm | hm
    · exact hN.id m hm
    · rw [List.mem_singleton.1 hm]; exact h0
  above := fun j hj => by
    by_cases h : j < N.length
    · rw [List.getElem_append_left h]
      rcases hN.above j h with h' | ⟨i, hi, h'⟩
      · exact .inl h'
      · exact .inr ⟨i, hi, by rw [List.getElem_append_left (by omega)]; exact h'⟩
    · have e : j = N.length := by simp at hj; omega
      subst e
      rw [List.getElem_concat_length rfl]
      rcases ha with h' | ⟨m, hm, h'⟩
      · exact .inl h'
      · obtain ⟨i, hi, rfl⟩ := List.getElem_of_mem hm
        exact .inr ⟨i, hi, by rw [List.getElem_append_left hi]; exact h'⟩
set_option maxHeartbeats 4000000 in
theorem lenT_any (base R bc bn : Nat) (N : List Nd) (V : (Int × Int) × Bool → Value) (w : World) (hT : TreeAt w base R bc bn N V) :
    Calls Try.prog 6 #[.pointer (some ⟨R, 0, none⟩)] w fun e w' => e = .returned (.int .i64 (N.length : Nat)) ∧ w' = w := by
  have hc : w.cell? ⟨R, 0, none⟩ = some (.map (some bc)) := hT.box.cell 0
  have hl := hT.chars.len (t := 48) Try.underlying48 3
  clear hT
  generalize N.length = n at hl
  go_enter Try.func6, Try.ntmps6
  go_wp2
  go_ret
  exact ⟨rfl, rfl⟩
theorem walk_ind {N : List Nd} (hN : Rooted N) {C : (Int × Int) × Bool → Prop} (h : ∀ s, (∀ x ∈ kids N s, ∀ b, C (x, b)) → C s) (s : (Int × Int) × Bool) : C s := by
  have key : ∀ (k : Nat) (s : (Int × Int) × Bool), (∀ j (hj : j < N.length), N[j].side = s → N.length ≤ j + k) → C s := by
    intro k
    induction k with
    | zero =>
      intro s hs
      refine h s fun x hx => ?_
      obtain ⟨n, hn, h1, _⟩ := mem_kids.1 hx
      obtain ⟨j, hj, rfl⟩ := List.getElem_of_mem hn
      have := hs j hj h1
      omega
    | succ k ih =>
      intro s hs
      refine h s fun x hx b => ih (x, b) fun i hi e => ?_
      obtain ⟨n, hn, h1, h2⟩ := mem_kids.1 hx
      obtain ⟨j, hj, rfl⟩ := List.getElem_of_mem hn
      have hj' := hs j hj h1
      rcases hN.above i hi with h | ⟨m, hm, h⟩
      · rw [e] at h; exact absurd (h2.trans h) (hN.id _ hn)
      · rw [e] at h
        have h3 := (List.getElem_inj (h₀ := by simp; omega) (h₁ := by simp; omega) hN.nodup (i := m) (j := j)).1 (by simp only [List.getElem_map]; exact h.trans h2.symm)
        omega
  exact key N.length s fun j hj _ => by omega
def blockN (N : List Nd) (x : Int × Int) : List (Int × Int) := walkA N (x, false) ++ [x] ++ walkA N (x, true)
theorem walkA_blocks {N : List Nd} (hN : Rooted N) (s : (Int × Int) × Bool) : walkA N s = (kids N s).flatMap (blockN N) := walkA_eq hN s
theorem mem_block {N : List Nd} {x y : Int × Int} : y ∈ blockN N x ↔ y ∈ walkA N (x, false) ∨ y = x ∨ y ∈ walkA N (x, true) := by
  unfold blockN
  simp only [List.mem_append, List.mem_singleton]
  constructor
  · rintro ((h | h) | h)
    · exact .inl h
    · exact .inr (.inl h)
    · exact .inr (.inr h)
  · rintro (h | h | h)
    · exact .inl (.inl h)
    · exact .inl (.inr h)
    · exact .inr h
theorem mem_walk {N : List Nd} (hN : Rooted N) (s : (Int × Int) × Bool) : ∀ x ∈ walkA N s, ∃ n ∈ N, n.id = x := by
  refine walk_ind hN (C := fun s => ∀ x ∈ walkA N s, ∃ n ∈ N, n.id = x) (fun s ih x hx => ?_) s
  rw [walkA_blocks hN] at hx
  obtain ⟨k, hk, hx⟩ := List.mem_flatMap.1 hx
  rcases mem_block.1 hx with h | rfl | h
  · exact ih k hk false x h
  · obtain ⟨n, hn, _, e⟩ := mem_kids.1 hk
    exact ⟨n, hn, e⟩
  · exact ih k hk true x h
theorem split_walk {N : List Nd} (hN : Rooted N) (s : (Int × Int) × Bool) (x : Int × Int) : x ∈ walkA N s → ∃ A B, walkA N s = A ++ blockN N x ++ B := by
  refine walk_ind hN (C := fun s => x ∈ walkA N s → ∃ A B, walkA N s = A ++ blockN N x ++ B) (fun s ih hx => ?_) s
  rw [walkA_blocks hN] at hx ⊢
  obtain ⟨k, hk, hx⟩ := List.mem_flatMap.1 hx
  obtain ⟨K1, K2, hK⟩ := List.append_of_mem hk
  rw [hK, List.flatMap_append, List.flatMap_cons]
  rcases mem_block.1 hx with h | rfl | h
  · obtain ⟨A, B, e⟩ := ih k hk false h
    refine ⟨K1.flatMap (blockN N) ++ A, B ++ [k] ++ walkA N (k, true) ++ K2.flatMap (blockN N), ?_⟩
    rw [show blockN N k = A ++ blockN N x ++ B ++ [k] ++ walkA N (k, true) by rw [← e]; rfl]
    simp only [List.append_assoc]
  · exact ⟨_, _, by rw [List.append_assoc]⟩
  · obtain ⟨A, B, e⟩ := ih k hk true h
    refine ⟨K1.flatMap (blockN N) ++ (walkA N (k, false) ++ [k] ++ A), B ++ K2.flatMap (blockN N), ?_⟩
    rw [show blockN N k = walkA N (k, false) ++ [k] ++ (A ++ blockN N x ++ B) by rw [← e]; rfl]
    simp only [List.append_assoc]
theorem mem_below {N : List Nd} (hN : Rooted N) {s : (Int × Int) × Bool} {n : Nd} (hn : n ∈ N) (h : n.side.1 ∈ walkA N s) : n.id ∈ walkA N s := by
  obtain ⟨A, B, e⟩ := split_walk hN s _ h
  have : n.id ∈ walkA N n.side := by
    rw [walkA_blocks hN]
    exact List.mem_flatMap.2 ⟨n.id, mem_kids.2 ⟨n, hn, rfl, rfl⟩, mem_block.2 (.inr (.inl rfl))⟩
  rw [e]
  refine List.mem_append_left _ (List.mem_append_right _ (mem_block.2 ?_))
  rcases hs : n.side with ⟨p, b⟩
  rw [hs] at this
  cases b
  · exact .inl (by simpa using this)
  · exact .inr (.inr (by simpa using this))
def rootS : (Int × Int) × Bool := ((0, 0), true)
structure TreeOk (N : List Nd) : Prop where
  rooted : Rooted N
  right : ∀ n ∈ N, n.side.1 = (0, 0) → n.side.2 = true
theorem TreeOk.all_in {N : List Nd} (h : TreeOk N) : ∀ n ∈ N, n.id ∈ walkA N rootS := by
  have key : ∀ k j (hj : j < N.length), j ≤ k → N[j].id ∈ walkA N rootS := by
    intro k
    induction k with
    | zero =>
      intro j hj hk
      rcases h.rooted.above j hj with e | ⟨i, hi, _⟩
      · rw [walkA_blocks h.rooted]
        refine List.mem_flatMap.2 ⟨_, mem_kids.2 ⟨N[j], List.getElem_mem hj, ?_, rfl⟩, mem_block.2 (.inr (.inl rfl))⟩
        have := h.right _ (List.getElem_mem hj) e
        exact Prod.ext e this
      · omega
    | succ k ih =>
      intro j hj hk
      rcases h.rooted.above j hj with e | ⟨i, hi, e⟩
      · rw [walkA_blocks h.rooted]
        refine List.mem_flatMap.2 ⟨_, mem_kids.2 ⟨N[j], List.getElem_mem hj, ?_, rfl⟩, mem_block.2 (.inr (.inl rfl))⟩
        exact Prod.ext e (h.right _ (List.getElem_mem hj) e)
      · exact mem_below h.rooted (List.getElem_mem hj) (by rw [← e]; exact ih i (by omega) (by omega))
  intro n hn
  obtain ⟨j, hj, rfl⟩ := List.getElem_of_mem hn
  exact key j j hj (Nat.le_refl _)
theorem sum_add {α : Type} (f g : α → Nat) : ∀ l : List α, (l.map fun x => f x + g x).sum = (l.map f).sum + (l.map g).sum
  | [] => rfl
  | a :: l => by simp only [List.map_cons, List.sum_cons, sum_add f g l]; omega
theorem sum_count (p : Int × Int) : ∀ l : List (Int × Int), (l.map fun k => if k = p then 1 else 0).sum = l.count p
  | [] => rfl
  | a :: l => by rw [List.map_cons, List.sum_cons, sum_count p l, List.count_cons]; simp only [beq_iff_eq]; omega
theorem count_block (N : List Nd) (x y : Int × Int) : (blockN N y).count x = (walkA N (y, false)).count x + (if y = x then 1 else 0) + (walkA N (y, true)).count x := by
  unfold blockN
  rw [List.count_append, List.count_append, List.count_singleton]
  simp only [beq_iff_eq]
theorem count_walk {N : List Nd} (hN : Rooted N) (n : Nd) (hn : n ∈ N) (s : (Int × Int) × Bool) : (walkA N s).count n.id = (if s = n.side then 1 else 0) + (walkA N s).count n.side.1 := by
  refine walk_ind hN (C := fun s => (walkA N s).count n.id = (if s = n.side then 1 else 0) + (walkA N s).count n.side.1) (fun s ih => ?_) s
  have hk : (kids N s).count n.id = if s = n.side then 1 else 0 := by
    have hnd : (kids N s).Nodup := (kids_order hN.nodup s).imp fun {a b} h e => by rw [e] at h; exact aheadD.irrefl _ h
    by_cases e : s = n.side
    · rw [if_pos e]
      rw [hnd.count, if_pos (mem_kids.2 ⟨n, hn, e.symm, rfl⟩)]
    · rw [if_neg e]
      refine List.count_eq_zero_of_not_mem fun h => ?_
      obtain ⟨m, hm, h1, h2⟩ := mem_kids.1 h
      obtain ⟨i, hi, rfl⟩ := List.getElem_of_mem hm
      obtain ⟨j, hj, rfl⟩ := List.getElem_of_mem hn
      have h3 := (List.getElem_inj (h₀ := by simpa using hi) (h₁ := by simpa using hj) hN.nodup (i := i) (j := j)).1 (by simp only [List.getElem_map]; exact h2)
      subst h3
      exact e h1.symm
  rw [walkA_blocks hN, List.count_flatMap, List.count_flatMap]
  have e1 : ((kids N s).map (List.count n.id ∘ blockN N)) = (kids N s).map fun k => (if k = n.id then 1 else 0) + ((List.count n.side.1 ∘ blockN N) k) := by
    refine List.map_congr_left fun k hk => ?_
    have h1 := ih k hk false
    have h2 := ih k hk true
    simp only [Function.comp_apply]
    rw [count_block, count_block, h1, h2]
    rcases hs : n.side with ⟨p, b⟩
    simp only
    have e2 : (if (k, false) = (p, b) then 1 else 0) + (if (k, true) = (p, b) then 1 else 0) = if k = p then 1 else 0 := by
      by_cases e : k = p
      · subst e
        cases b <;> simp
      · rw [if_neg (fun q => e (congrArg Prod.fst q)), if_neg (fun q => e (congrArg Prod.fst q)), if_neg e]
    omega
  rw [e1, sum_add, sum_count, hk]
theorem not_mem_root {N : List Nd} (hN : Rooted N) (s : (Int × Int) × Bool) : (0, 0) ∉ walkA N s := fun h => by
  obtain ⟨n, hn, e⟩ := mem_walk hN s _ h
  exact hN.id n hn e
theorem nodup_walk {N : List Nd} (hN : Rooted N) (s : (Int × Int) × Bool) (hns : s.1 ∉ walkA N s) : (walkA N s).Nodup := by
  have key : ∀ k j (hj : j < N.length), j ≤ k → (walkA N s).count N[j].id ≤ 1 := by
    intro k
    induction k with
    | zero =>
      intro j hj hk
      rw [count_walk hN _ (List.getElem_mem hj)]
      rcases hN.above j hj with e | ⟨i, hi, _⟩
      · rw [e, List.count_eq_zero_of_not_mem (not_mem_root hN s)]; split <;> omega
      · omega
    | succ k ih =>
      intro j hj hk
      rw [count_walk hN _ (List.getElem_mem hj)]
      rcases hN.above j hj with e | ⟨i, hi, e⟩
      · rw [e, List.count_eq_zero_of_not_mem (not_mem_root hN s)]; split <;> omega
      · have := ih i (by omega) (by omega)
        by_cases e2 : s = N[j].side
        · rw [if_pos e2, List.count_eq_zero_of_not_mem (by rw [← e2]; exact hns)]; omega
        · rw [if_neg e2, ← e]; omega
  refine List.nodup_iff_count.2 fun x => ?_
  by_cases hx : x ∈ walkA N s
  · obtain ⟨n, hn, rfl⟩ := mem_walk hN s x hx
    obtain ⟨j, hj, rfl⟩ := List.getElem_of_mem hn
    exact key j j hj (Nat.le_refl _)
  · rw [List.count_eq_zero_of_not_mem hx]; omega
theorem nodup_root {N : List Nd} (hN : Rooted N) : (walkA N rootS).Nodup := nodup_walk hN _ (not_mem_root hN _)
theorem TreeOk.perm {N : List Nd} (h : TreeOk N) : (walkA N rootS).Perm (N.map (·.id)) := by
  refine (List.perm_ext_iff_of_nodup (nodup_root h.rooted) h.rooted.nodup).2 fun x => ?_
  constructor
  · intro hx
    obtain ⟨n, hn, rfl⟩ := mem_walk h.rooted _ x hx
    exact List.mem_map_of_mem hn
  · intro hx
    obtain ⟨n, hn, rfl⟩ := List.mem_map.1 hx
    exact h.all_in n hn
theorem TreeOk.len {N : List Nd} (h : TreeOk N) : (walkA N rootS).length = N.length := by rw [h.perm.length_eq, List.length_map]
theorem kids_leaf {N : List Nd} {n : Nd} (h : kids N n.side = []) : kids (N ++ [n]) n.side = [n.id] := by rw [kids_snoc, if_pos rfl, h, insD_nil]
theorem kids_other {N : List Nd} {n : Nd} {s : (Int × Int) × Bool} (h : s ≠ n.side) : kids (N ++ [n]) s = kids N s := by rw [kids_snoc, if_neg (Ne.symm h)]
theorem Rooted.low {N : List Nd} (hN : Rooted N) {n : Nd} (hN' : Rooted (N ++ [n])) (b : Bool) : kids N (n.id, b) = [] := by
  refine List.eq_nil_iff_forall_not_mem.2 fun x hx => ?_
  obtain ⟨m, hm, h1, h2⟩ := mem_kids.1 hx
  obtain ⟨j, hj, rfl⟩ := List.getElem_of_mem hm
  rcases hN.above j hj with e | ⟨i, hi, e⟩
  · rw [h1] at e
    exact hN'.id n (by simp) e
  · rw [h1] at e
    have := hN'.nodup
    rw [List.map_append, List.nodup_append] at this
    exact this.2.2 N[i].id (List.mem_map_of_mem (List.getElem_mem (by omega))) n.id (by simp) e
theorem walk_empty {N : List Nd} (hN : Rooted N) {s : (Int × Int) × Bool} (h : kids N s = []) : walkA N s = [] := by rw [walkA_blocks hN, h]; rfl
theorem walk_nil {N : List Nd} (hN : Rooted N) {s : (Int × Int) × Bool} (h : walkA N s = []) : kids N s = [] := by
  rw [walkA_blocks hN] at h
  cases hk : kids N s with
  | nil => rfl
  | cons x l => rw [hk, List.flatMap_cons] at h; simp [blockN] at h
theorem walk_leaf {N : List Nd} (hN : Rooted N) {n : Nd} (hN' : Rooted (N ++ [n])) (h : kids N n.side = []) : walkA (N ++ [n]) n.side = [n.id] := by
  have hne : ∀ b, (n.id, b) ≠ n.side := fun b e => by
    have := hN'.above N.length (by simp)
    rw [List.getElem_concat_length rfl] at this
    rcases this with e2 | ⟨i, hi, e2⟩
    · rw [← e] at e2; exact hN'.id n (by simp) e2
    · rw [← e, List.getElem_append_left hi] at e2
      have := hN'.nodup
      rw [List.map_append, List.nodup_append] at this
      exact this.2.2 N[i].id (List.mem_map_of_mem (List.getElem_mem hi)) n.id (by simp) e2
  rw [walkA_blocks hN', kids_leaf h, List.flatMap_cons, List.flatMap_nil]
  unfold blockN
  rw [walk_empty hN' (by rw [kids_other (hne false)]; exact hN.low hN' false), walk_empty hN' (by rw [kids_other (hne true)]; exact hN.low hN' true)]
  rfl
def beside (p t : Int × Int) (b : Bool) (x : Int × Int) : List (Int × Int) := if x = p then (if b then [x, t] else [t, x]) else [x]
theorem walk_beside {N : List Nd} (hN : Rooted N) {n : Nd} (hN' : Rooted (N ++ [n])) (h : kids N n.side = []) (s : (Int × Int) × Bool) : s ≠ n.side → walkA (N ++ [n]) s = (walkA N s).flatMap (beside n.side.1 n.id n.side.2) := by
  refine walk_ind hN (C := fun s => s ≠ n.side → walkA (N ++ [n]) s = (walkA N s).flatMap (beside n.side.1 n.id n.side.2)) (fun s ih hs => ?_) s
  rw [walkA_blocks hN', walkA_blocks hN, kids_other hs, List.flatMap_assoc]
  refine flatMap_same fun x hx => ?_
  unfold blockN
  rw [List.flatMap_append, List.flatMap_append, List.flatMap_cons, List.flatMap_nil, List.append_nil]
  by_cases hp : x = n.side.1
  · rcases hsd : n.side with ⟨p, b⟩
    rw [hsd] at hp ih h
    simp only at hp ih h
    have hl := walk_leaf hN hN' (by rw [hsd]; exact h)
    rw [hsd] at hl
    subst hp
    cases b
    · rw [hl, ih x hx true (by simp), walk_empty hN h]
      simp [beside]
    · rw [hl, ih x hx false (by simp), walk_empty hN h]
      simp [beside]
  · rw [ih x hx false (fun e => hp (by rw [← e])), ih x hx true (fun e => hp (by rw [← e]))]
    have : beside n.side.1 n.id n.side.2 x = [x] := by unfold beside; rw [if_neg hp]
    rw [this]
theorem beside_not {p t : Int × Int} {b : Bool} : ∀ {l : List (Int × Int)}, p ∉ l → l.flatMap (beside p t b) = l
  | [], _ => rfl
  | x :: l, h => by
    rw [List.flatMap_cons, beside_not (l := l) (fun e => h (List.mem_cons_of_mem _ e))]
    have : beside p t b x = [x] := by unfold beside; rw [if_neg (fun e => h (by rw [e]; exact List.mem_cons_self))]
    rw [this]; rfl
theorem beside_at {p t : Int × Int} {b : Bool} {A B : List (Int × Int)} (h : (A ++ [p] ++ B).Nodup) : (A ++ [p] ++ B).flatMap (beside p t b) = A ++ (if b then [p, t] else [t, p]) ++ B := by
  have h1 : p ∉ A := fun e => by
    rw [List.append_assoc, List.nodup_append] at h
    exact h.2.2 p e p (by simp) rfl
  have h2 : p ∉ B := fun e => by
    rw [List.nodup_append] at h
    exact h.2.2 p (by simp) p e rfl
  rw [List.flatMap_append, List.flatMap_append, beside_not h1, beside_not h2, List.flatMap_cons, List.flatMap_nil]
  simp [beside]
end Go.Proofs.Ytnmjplngbleopaa
