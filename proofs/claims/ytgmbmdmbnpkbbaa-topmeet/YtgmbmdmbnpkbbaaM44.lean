/- Tt1 Tt2 Fp2 Tt3 Fp3 -/
import Derived.Test.YtgmbmdmbnpkbbaaM43
import Derived.Test.YtgmbmdmbnpkbbaaM35
namespace Go.Proofs.Ytgmbmdmbnpkbbaa
theorem insD_last {t : Int × Int} : ∀ {l : List (Int × Int)}, (∀ x ∈ l, aheadD x t) → insD l t = l ++ [t]
  | [], _ => rfl
  | a :: l, h => by
    rw [insD_cons, if_pos ((cmpD_neg _ _).2 (h a (by simp))), insD_last (l := l) (fun x hx => h x (by simp [hx]))]
    rfl
theorem walk_end {N : List Nd} (hN : TreeOk N) {n : Nd} (hN' : Rooted (N ++ [n])) (hs : n.side = rootS) (ha : ∀ m ∈ N, aheadD m.id n.id) : walkA (N ++ [n]) rootS = walkA N rootS ++ [n.id] := by
  have other : ∀ s, s ≠ rootS → walkA (N ++ [n]) s = walkA N s := fun s => by
    refine walk_ind hN.rooted (C := fun s => s ≠ rootS → walkA (N ++ [n]) s = walkA N s) (fun s ih hne => ?_) s
    rw [walkA_blocks hN', walkA_blocks hN.rooted, kids_other (by rw [hs]; exact hne)]
    refine flatMap_same fun x hx => ?_
    have hx0 : ∀ b, ((x, b) : (Int × Int) × Bool) ≠ rootS := fun b e => by
      obtain ⟨m, hm, _, e2⟩ := mem_kids.1 hx
      have : x = (0, 0) := congrArg Prod.fst e
      exact hN.rooted.id m hm (e2.trans this)
    unfold blockN
    rw [ih x hx false (hx0 false), ih x hx true (hx0 true)]
  have hk : kids (N ++ [n]) rootS = kids N rootS ++ [n.id] := by
    rw [kids_snoc, if_pos hs]
    exact insD_last fun x hx => by
      obtain ⟨m, hm, _, e⟩ := mem_kids.1 hx
      rw [← e]; exact ha m hm
  have hid : ∀ b, ((n.id, b) : (Int × Int) × Bool) ≠ rootS := fun b e => hN'.id n (by simp) (congrArg Prod.fst e)
  rw [walkA_blocks hN', hk, List.flatMap_append, walkA_blocks hN.rooted]
  congr 1
  · refine flatMap_same fun x hx => ?_
    have hx0 : ∀ b, ((x, b) : (Int × Int) × Bool) ≠ rootS := fun b e => by
      obtain ⟨m, hm, _, e2⟩ := mem_kids.1 hx
      have : x = (0, 0) := congrArg Prod.fst e
      exact hN.rooted.id m hm (e2.trans this)
    unfold blockN
    rw [other _ (hx0 false), other _ (hx0 true)]
  · rw [List.flatMap_cons, List.flatMap_nil, List.append_nil]
    unfold blockN
    rw [other _ (hid false), other _ (hid true), walk_empty hN.rooted (hN.rooted.low hN' false), walk_empty hN.rooted (hN.rooted.low hN' true)]
    rfl
open Go.RowKit Go.Shelf
set_option maxRecDepth 20000
set_option linter.unusedSimpArgs false
theorem chr0_del (N : List Nd) (x y : Int × Int) : chr0 (delN N x) y = if y = x then 0 else chr0 N y := by
  unfold chr0
  rw [chrN_del]
  split
  · cases chrN N x <;> rfl
  · rfl
theorem filter_ne_at {l : List (Int × Int)} (hl : l.Nodup) {k : Nat} (hk : k < l.length) : l.filter (fun y => decide (y ≠ l[k])) = l.take k ++ l.drop (k + 1) := by
  have e : l = l.take k ++ l[k] :: l.drop (k + 1) := by rw [← List.drop_eq_getElem_cons hk, List.take_append_drop]
  generalize l[k] = x at *
  generalize l.take k = A at *
  generalize l.drop (k + 1) = B at *
  subst e
  have hA : ∀ y ∈ A, y ≠ x := fun y hy q => by
    rw [List.nodup_append] at hl
    exact hl.2.2 y hy x (by simp) q
  have hB : ∀ y ∈ B, y ≠ x := fun y hy q => by
    rw [List.nodup_append] at hl
    exact (List.nodup_cons.1 hl.2.1).1 (q ▸ hy)
  rw [List.filter_append, List.filter_cons_of_neg (by simp), List.filter_eq_self.2 (fun y hy => by simpa using hA y hy), List.filter_eq_self.2 (fun y hy => by simpa using hB y hy)]
theorem wrN_del {N : List Nd} (hN : TreeOk N) {k : Nat} (hk : k < (wrN N).length) : wrN (delN N (wrN N)[k]) = (wrN N).take k ++ (wrN N).drop (k + 1) := by
  rw [← filter_ne_at (wrN_nodup hN) hk]
  generalize (wrN N)[k] = x
  unfold wrN
  rw [walk_delN hN.rooted, List.filter_filter]
  refine List.filter_congr fun y _ => ?_
  unfold writB
  rw [chr0_del]
  by_cases h : y = x <;> simp [h]
theorem textN_del {N : List Nd} (hN : TreeOk N) {k : Nat} (hk : k < (wrN N).length) : textN (delN N (wrN N)[k]) = (textN N).take k ++ (textN N).drop (k + 1) := by
  have h1 := wrN_del hN hk
  have hnd := wrN_nodup hN
  have hne : ∀ y ∈ (wrN N).take k ++ (wrN N).drop (k + 1), y ≠ (wrN N)[k] := fun y hy => by
    rw [← filter_ne_at hnd hk] at hy
    simpa using (List.mem_filter.1 hy).2
  unfold textN
  rw [h1, ← List.map_take, ← List.map_drop, ← List.map_append]
  exact List.map_congr_left fun y hy => by rw [chr0_del, if_neg (hne y hy)]
structure Typed (N : List Nd) (z : List Int) (i : Nat) : Prop where
  ok : TreeOk N
  text : textN N = z
  len : N.length ≤ i
  ids : ∀ n ∈ N, n.id.1 = 1 ∧ n.id.2 ≤ (i : Int)
theorem Typed.nil : Typed [] [] 0 := ⟨TreeOk.nil, rfl, Nat.le_refl _, fun _ h => by simp at h⟩
theorem Typed.wr {N : List Nd} {z : List Int} {i : Nat} (h : Typed N z i) : (wrN N).length = z.length := by rw [← h.text]; unfold textN; rw [List.length_map]
theorem Typed.few {N : List Nd} {z : List Int} {i : Nat} (h : Typed N z i) : z.length ≤ i := by
  rw [← h.wr]
  unfold wrN
  have h1 := List.length_filter_le (writB N) (walkA N rootS)
  rw [h.ok.len] at h1
  have := h.len
  omega
theorem Typed.del {N : List Nd} {z : List Int} {i k : Nat} (h : Typed N z i) (hk : k < (wrN N).length) : Typed (delN N (wrN N)[k]) (z.take k ++ z.drop (k + 1)) (i + 1) where
  ok := h.ok.del _
  text := by rw [textN_del h.ok hk, h.text]
  len := by have := h.len; unfold delN; rw [List.length_map]; omega
  ids := fun n hn => by
    unfold delN at hn
    obtain ⟨m, hm, rfl⟩ := List.mem_map.1 hn
    have h1 := h.ids m hm
    have h2 : (gone (wrN N)[k] m).id = m.id := by unfold gone; split <;> rfl
    rw [h2]
    exact ⟨h1.1, by push_cast; omega⟩
theorem refI_zero {N : List Nd} {n : Nd} (h1 : n.id ≠ (0, 0)) (h2 : 1 ≤ n.chr) (h3 : n.chr ≤ 127) (h4 : n.side.1 = (0, 0) → n.side.2 = true) (h5 : ∀ m ∈ N, m.id ≠ n.id) (h6 : n.side.1 = (0, 0) ∨ (chrN N n.side.1).isSome = true) (h7 : N.length < 512) : refI N n = 0 := by
  have h5b : (chrN N n.id).isSome = false := by
    cases hq : (chrN N n.id).isSome with
    | false => rfl
    | true => obtain ⟨m, hm, e⟩ := chrN_some.1 hq; exact absurd e (h5 m hm)
  unfold refI
  rw [if_neg, if_neg (by rw [h5b]; simp), if_neg, if_neg (by omega)]
  · rintro ⟨a, b⟩
    rcases h6 with q | q
    · exact a q
    · rw [q] at b; cases b
  · rintro (q | q | q | ⟨q, r⟩)
    · exact h1 q
    · omega
    · omega
    · rw [h4 q] at r; cases r
theorem Typed.ins {N : List Nd} {z : List Int} {i k : Nat} (h : Typed N z i) (hi : i < 60) (hk : k ≤ z.length) {c : Int} (hc1 : 1 ≤ c) (hc2 : c ≤ 127) : (placeN N (k : Nat)).2.2 = 0 ∧ refI N ⟨(1, (i : Int) + 1), ((placeN N (k : Nat)).1, (placeN N (k : Nat)).2.1), c⟩ = 0 ∧ Typed (insN N ⟨(1, (i : Int) + 1), ((placeN N (k : Nat)).1, (placeN N (k : Nat)).2.1), c⟩) (z.take k ++ [c] ++ z.drop k) (i + 1) := by
  have hkw : k ≤ (wrN N).length := by rw [h.wr]; exact hk
  obtain ⟨p1, p2, p3⟩ := place_ok h.ok hkw
  have hln := h.len
  have hr : refI N ⟨(1, (i : Int) + 1), ((placeN N (k : Nat)).1, (placeN N (k : Nat)).2.1), c⟩ = 0 := refI_zero (by simp) hc1 hc2 p2 (fun m hm e => by
    have h1 := (h.ids m hm).2
    have h2 : m.id.2 = (i : Int) + 1 := congrArg Prod.snd e
    omega) p3 (by omega)
  have hin : insN N ⟨(1, (i : Int) + 1), ((placeN N (k : Nat)).1, (placeN N (k : Nat)).2.1), c⟩ = N ++ [⟨(1, (i : Int) + 1), ((placeN N (k : Nat)).1, (placeN N (k : Nat)).2.1), c⟩] := by unfold insN; rw [if_pos hr]
  refine ⟨p1, hr, ⟨h.ok.ins _, ?_, ?_, fun n hn => ?_⟩⟩
  · rw [hin, place_text h.ok hkw rfl hr, h.text]
  · rw [hin, List.length_append, List.length_singleton]; omega
  · rw [hin] at hn
    rcases List.mem_append.1 hn with q | q
    · have := h.ids n q
      exact ⟨this.1, by push_cast; omega⟩
    · rw [List.mem_singleton.1 q]
      exact ⟨rfl, by push_cast; exact Int.le_refl _⟩
theorem len_le_of_subset {α : Type} [DecidableEq α] : ∀ (l m : List α), l.Nodup → (∀ x ∈ l, x ∈ m) → l.length ≤ m.length
  | [], _, _, _ => by simp
  | a :: l, m, hl, hs => by
    obtain ⟨h1, h2⟩ := List.nodup_cons.1 hl
    have hm : a ∈ m := hs a (by simp)
    have := len_le_of_subset l (m.erase a) h2 (fun x hx => (List.mem_erase_of_ne (fun e => h1 (by rw [← e]; exact hx))).2 (hs x (by simp [hx])))
    rw [List.length_erase_of_mem hm] at this
    have := List.length_pos_of_mem hm
    simp only [List.length_cons]; omega
theorem sorted_unique : ∀ (l m : List (Int × Int)), inOrderD l → inOrderD m → (∀ x, x ∈ l ↔ x ∈ m) → l = m
  | [], [], _, _, _ => rfl
  | [], b :: m, _, _, h => by have := (h b).2 (by simp); simp at this
  | a :: l, [], _, _, h => by have := (h a).1 (by simp); simp at this
  | a :: l, b :: m, hl, hm, h => by
    obtain ⟨l1, l2⟩ := List.pairwise_cons.1 hl
    obtain ⟨m1, m2⟩ := List.pairwise_cons.1 hm
    have hab : a = b := by
      rcases List.mem_cons.1 ((h a).1 (by simp)) with q | q
      · exact q
      · rcases List.mem_cons.1 ((h b).2 (by simp)) with r | r
        · exact r.symm
        · exact absurd ((m1 a q).trans (l1 b r)) (aheadD.irrefl _)
    subst hab
    congr 1
    refine sorted_unique l m l2 m2 fun x => ⟨fun hx => ?_, fun hx => ?_⟩
    · rcases List.mem_cons.1 ((h x).1 (by simp [hx])) with q | q
      · rw [q] at hx; exact absurd (l1 a hx) (aheadD.irrefl _)
      · exact q
    · rcases List.mem_cons.1 ((h x).2 (by simp [hx])) with q | q
      · rw [q] at hx; exact absurd (m1 a hx) (aheadD.irrefl _)
      · exact q
theorem id_unique {N : List Nd} (hN : (N.map (·.id)).Nodup) {m n : Nd} (hm : m ∈ N) (hn : n ∈ N) (h : m.id = n.id) : m = n := by
  obtain ⟨i, hi, rfl⟩ := List.getElem_of_mem hm
  obtain ⟨j, hj, rfl⟩ := List.getElem_of_mem hn
  have h3 := (List.getElem_inj (h₀ := by simpa using hi) (h₁ := by simpa using hj) hN (i := i) (j := j)).1 (by simp only [List.getElem_map]; exact h)
  subst h3; rfl
theorem chrN_mem {N : List Nd} (hN : (N.map (·.id)).Nodup) {n : Nd} (hn : n ∈ N) : chrN N n.id = some n.chr := by
  unfold chrN
  cases h : N.find? (fun m => decide (m.id = n.id)) with
  | none => have := List.find?_eq_none.1 h n hn; simp at this
  | some m =>
    have h1 := List.mem_of_find?_eq_some h
    have h2 := List.find?_some h
    have := id_unique hN h1 hn (by simpa using h2)
    rw [this]; rfl
theorem same_nodes {M G : List Nd} (hM : TreeOk M) (hG : TreeOk G) (h : ∀ n, n ∈ M ↔ n ∈ G) : walkA M rootS = walkA G rootS ∧ textN M = textN G ∧ M.length = G.length := by
  have hk : ∀ s, kids M s = kids G s := fun s => sorted_unique _ _ (kids_order hM.rooted.nodup s) (kids_order hG.rooted.nodup s) fun x => by
    rw [mem_kids, mem_kids]
    exact ⟨fun ⟨n, hn, q⟩ => ⟨n, (h n).1 hn, q⟩, fun ⟨n, hn, q⟩ => ⟨n, (h n).2 hn, q⟩⟩
  have hw := walk_same hM.rooted hG.rooted hk rootS
  have hc : ∀ x ∈ walkA G rootS, chr0 M x = chr0 G x := fun x hx => by
    obtain ⟨n, hn, rfl⟩ := mem_walk hG.rooted rootS x hx
    unfold chr0
    rw [chrN_mem hG.rooted.nodup hn, chrN_mem hM.rooted.nodup ((h n).2 hn)]
  refine ⟨hw, ?_, by rw [← hM.len, ← hG.len, hw]⟩
  unfold textN wrN
  rw [hw]
  have e1 : (walkA G rootS).filter (writB M) = (walkA G rootS).filter (writB G) := List.filter_congr fun x hx => by unfold writB; rw [hc x hx]
  rw [e1]
  exact List.map_congr_left fun x hx => hc x (List.mem_filter.1 hx).1
def Built (G : List Nd) : Prop := ∀ r (hr : r < G.length), refI (G.take r) G[r] = 0
theorem Built.nil : Built [] := fun r hr => by simp at hr
theorem Built.snoc {G : List Nd} (h : Built G) {n : Nd} (hn : refI G n = 0) : Built (G ++ [n]) := fun r hr => by
  by_cases q : r < G.length
  · rw [List.getElem_append_left q, List.take_append_of_le_length (by omega)]; exact h r q
  · have : r = G.length := by simp at hr; omega
    subst this
    rw [List.getElem_concat_length rfl, List.take_append_of_le_length (Nat.le_refl _), List.take_length]; exact hn
def againN (M : List Nd) (n : Nd) : List Nd := if (chrN M n.id).isSome = true then M else insN M n
structure Again (G M : List Nd) : Prop where
  ok : TreeOk M
  sub : ∀ m ∈ M, m ∈ G
theorem Again.step {G M : List Nd} (h : Again G M) {n : Nd} (hn : n ∈ G) : Again G (againN M n) ∧ ∀ m ∈ M, m ∈ againN M n := by
  unfold againN
  split
  · exact ⟨h, fun m hm => hm⟩
  · refine ⟨⟨h.ok.ins n, fun m hm => ?_⟩, fun m hm => ?_⟩
    · unfold insN at hm
      split at hm
      · rcases List.mem_append.1 hm with q | q
        · exact h.sub m q
        · rw [List.mem_singleton.1 q]; exact hn
      · exact h.sub m hm
    · unfold insN
      split
      · exact List.mem_append_left _ hm
      · exact hm
theorem Again.len {G M : List Nd} (h : Again G M) (hG : G.length ≤ 40) : M.length ≤ 40 := by
  have := len_le_of_subset (M.map (·.id)) (G.map (·.id)) h.ok.rooted.nodup (fun x hx => by
    obtain ⟨m, hm, rfl⟩ := List.mem_map.1 hx
    exact List.mem_map_of_mem (h.sub m hm))
  simp at this; omega
end Go.Proofs.Ytgmbmdmbnpkbbaa
