/- StrC Fg24 Fr2 Fr3 GoU Fr4 Fr5 Fp1 Fp2 Fp3 -/
import Derived.Test.YthjkcfpdkhghpaaH37
import Derived.Test.YthjkcfpdkhghpaaH38
import Derived.Test.YthjkcfpdkhghpaaH33
import Derived.Test.YthjkcfpdkhghpaaH09
import Derived.Test.YthjkcfpdkhghpaaH26
namespace Go.Proofs.Ythjkcfpdkhghpaa
open Go.RowKit
open Go.RowKit Go.Shelf
set_option maxRecDepth 20000
set_option linter.unusedSimpArgs false
theorem flat_one (z : List Int) : (z.map fun c => [Value.int .u8 c]).flatten = z.map (Value.int .u8) := by
  induction z with
  | nil => rfl
  | cons a z ih => simp only [List.map_cons, List.flatten_cons, ih]; rfl
theorem OwnI.toB {w : World} {base : Nat} {v : Value} {z : List Int} (h : OwnI w base 5 1 v (z.map fun c => [.int .u8 c])) : OwnB w base v z := by
  have := h.own
  rw [List.length_map, flat_one] at this
  exact this
theorem text_map (N : List Nd) : (wrN N).map (chrC N) = (textN N).map fun c => [Value.int .u8 c] := by unfold textN; rw [List.map_map]; rfl
theorem textB_any (base R bc bn : Nat) (N : List Nd) (V : (Int × Int) × Bool → Value) (hN : TreeOk N) (hlen : N.length ≤ 1000) (w : World) (hTr : TreeAt w base R bc bn N V) :
    Calls Try.prog 11 #[.pointer (some ⟨R, 0, none⟩)] w fun e w' => ∃ v, e = .returned v ∧ OwnB w' w.heap.size v (textN N) ∧ Below w.heap.size w w' :=
  (textT_any base R bc bn N V hN hlen w hTr).mono fun e w' ⟨v, h1, h2, h3⟩ => ⟨v, h1, by rw [text_map] at h2; exact h2.toB, h3⟩
theorem TreeOk.nil : TreeOk [] := ⟨Rooted.nil, fun _ h => by simp at h⟩
theorem refI_ok {N : List Nd} {n : Nd} (h : refI N n = 0) : n.id ≠ (0, 0) ∧ 1 ≤ n.chr ∧ n.chr ≤ 127 ∧ (n.side.1 = (0, 0) → n.side.2 = true) ∧ (chrN N n.id).isSome = false ∧ (n.side.1 = (0, 0) ∨ (chrN N n.side.1).isSome = true) ∧ N.length < 512 := by
  unfold refI at h
  split at h
  · cases h
  · next h1 =>
    split at h
    · cases h
    · next h2 =>
      split at h
      · cases h
      · next h3 =>
        split at h
        · cases h
        · next h4 =>
          simp only [not_or, not_and] at h1
          refine ⟨h1.1, by omega, by omega, fun q => by simpa using h1.2.2.2 q, by simpa using h2, ?_, by omega⟩
          by_cases q : n.side.1 = (0, 0)
          · exact .inl q
          · refine .inr ?_
            cases q2 : (chrN N n.side.1).isSome with
            | false => exact absurd ⟨q, q2⟩ h3
            | true => rfl
theorem TreeOk.ins {N : List Nd} (h : TreeOk N) (n : Nd) : TreeOk (insN N n) := by
  unfold insN
  split
  · next hr =>
    obtain ⟨h1, -, -, h4, h5, h6, -⟩ := refI_ok hr
    refine ⟨h.rooted.snoc n h1 (chrN_fresh h5) (h6.imp id fun q => ?_), fun m hm hq => ?_⟩
    · obtain ⟨m, hm, e⟩ := chrN_some.1 q
      exact ⟨m, hm, e⟩
    · rcases List.mem_append.1 hm with q | q
      · exact h.right m q hq
      · rw [List.mem_singleton.1 q] at hq ⊢; exact h4 hq
  · exact h
theorem insN_len {N : List Nd} {n : Nd} : (insN N n).length ≤ N.length + 1 := by
  unfold insN
  split
  · simp
  · omega
structure RefTo (R : Nat) (v v' : Value) (w w' : World) : Prop where
  turn : Turn (refP R v) w w'
  own : ∀ k, refP R v' k → refP R v k ∨ w.heap.size ≤ k
theorem RefTo.of_below {R : Nat} {v : Value} {w w' : World} (h : Below w.heap.size w w') : RefTo R v v w w' := ⟨Turn.of_below h, fun _ hk => .inl hk⟩
open Go.ChangeShapes Go.WideShapes Go.ChangeAt Go.RowKit
structure Dd8 where
  kind : Int
  id : Int × Int
  par : Int × Int
  right : Bool
  chr : Int
def Dd8.cells (d : Dd8) : List Value := [.int .i64 d.kind] ++ encF d.id ++ encF d.par ++ [.bool d.right] ++ [.int .u8 d.chr]
structure Dd8.Ok (d : Dd8) : Prop where
  id : okDF d.id
  par : okDF d.par
  chr : 0 ≤ d.chr ∧ d.chr ≤ 255
structure DeedsAt (w : World) (x : Option Addr) (len cap : Nat) (ds : List Dd8) : Prop where
  len_eq : len = ds.length
  le : len ≤ cap
  top : cap ≤ 9223372036854775807
  at_ : len = 0 ∨ ∃ b off, x = some ⟨b, off, none⟩ ∧ ∀ j (hj : j < ds.length) (i : Nat) v, ds[j].cells[i]? = some v → w.cell? ⟨b, off + j * 7 + i, none⟩ = some v
  ok : ∀ d ∈ ds, d.Ok
theorem DeedsAt.below {w w' : World} {x : Option Addr} {len cap : Nat} {ds : List Dd8} (h : DeedsAt w x len cap ds) (hb : Below w.heap.size w w') : DeedsAt w' x len cap ds :=
  ⟨h.len_eq, h.le, h.top, by
    rcases h.at_ with h0 | ⟨b, off, hx, hc⟩
    · exact .inl h0
    · refine .inr ⟨b, off, hx, fun j hj i v hv => ?_⟩
      have := hc j hj i v hv
      exact (hb.cell (p := ⟨b, off + j * 7 + i, none⟩) (block_lt_of_cell this)).trans this, h.ok⟩
theorem len_le_of_subset {α : Type} [DecidableEq α] : ∀ (l m : List α), l.Nodup → (∀ x ∈ l, x ∈ m) → l.length ≤ m.length
  | [], _, _, _ => by simp
  | a :: l, m, hl, hs => by
    obtain ⟨h1, h2⟩ := List.nodup_cons.1 hl
    have hm : a ∈ m := hs a (by simp)
    have := len_le_of_subset l (m.erase a) h2 (fun x hx => (List.mem_erase_of_ne (fun e => h1 (by rw [← e]; exact hx))).2 (hs x (by simp [hx])))
    rw [List.length_erase_of_mem hm] at this
    have := List.length_pos_of_mem hm
    simp only [List.length_cons]; omega
theorem sorted_unique : ∀ (l m : List (Int × Int)), inOrderD l → inOrderD m → (∀ x, x ∈ l ↔ x ∈ m) → l = m
  | [], [], _, _, _ => rfl
  | [], b :: m, _, _, h => by have := (h b).2 (by simp); simp at this
  | a :: l, [], _, _, h => by have := (h a).1 (by simp); simp at this
  | a :: l, b :: m, hl, hm, h => by
    obtain ⟨l1, l2⟩ := List.pairwise_cons.1 hl
    obtain ⟨m1, m2⟩ := List.pairwise_cons.1 hm
    have hab : a = b := by
      rcases List.mem_cons.1 ((h a).1 (by simp)) with q | q
      · exact q
      · rcases List.mem_cons.1 ((h b).2 (by simp)) with r | r
        · exact r.symm
        · exact absurd ((m1 a q).trans (l1 b r)) (aheadD.irrefl _)
    subst hab
    congr 1
    refine sorted_unique l m l2 m2 fun x => ⟨fun hx => ?_, fun hx => ?_⟩
    · rcases List.mem_cons.1 ((h x).1 (by simp [hx])) with q | q
      · rw [q] at hx; exact absurd (l1 a hx) (aheadD.irrefl _)
      · exact q
    · rcases List.mem_cons.1 ((h x).2 (by simp [hx])) with q | q
      · rw [q] at hx; exact absurd (m1 a hx) (aheadD.irrefl _)
      · exact q
theorem id_unique {N : List Nd} (hN : (N.map (·.id)).Nodup) {m n : Nd} (hm : m ∈ N) (hn : n ∈ N) (h : m.id = n.id) : m = n := by
  obtain ⟨i, hi, rfl⟩ := List.getElem_of_mem hm
  obtain ⟨j, hj, rfl⟩ := List.getElem_of_mem hn
  have h3 := (List.getElem_inj (h₀ := by simpa using hi) (h₁ := by simpa using hj) hN (i := i) (j := j)).1 (by simp only [List.getElem_map]; exact h)
  subst h3; rfl
theorem chrN_mem {N : List Nd} (hN : (N.map (·.id)).Nodup) {n : Nd} (hn : n ∈ N) : chrN N n.id = some n.chr := by
  unfold chrN
  cases h : N.find? (fun m => decide (m.id = n.id)) with
  | none => have := List.find?_eq_none.1 h n hn; simp at this
  | some m =>
    have h1 := List.mem_of_find?_eq_some h
    have h2 := List.find?_some h
    have := id_unique hN h1 hn (by simpa using h2)
    rw [this]; rfl
theorem same_nodes {M G : List Nd} (hM : TreeOk M) (hG : TreeOk G) (h : ∀ n, n ∈ M ↔ n ∈ G) : walkA M rootS = walkA G rootS ∧ textN M = textN G ∧ M.length = G.length := by
  have hk : ∀ s, kids M s = kids G s := fun s => sorted_unique _ _ (kids_order hM.rooted.nodup s) (kids_order hG.rooted.nodup s) fun x => by
    rw [mem_kids, mem_kids]
    exact ⟨fun ⟨n, hn, q⟩ => ⟨n, (h n).1 hn, q⟩, fun ⟨n, hn, q⟩ => ⟨n, (h n).2 hn, q⟩⟩
  have hw := walk_same hM.rooted hG.rooted hk rootS
  have hc : ∀ x ∈ walkA G rootS, chr0 M x = chr0 G x := fun x hx => by
    obtain ⟨n, hn, rfl⟩ := mem_walk hG.rooted rootS x hx
    unfold chr0
    rw [chrN_mem hG.rooted.nodup hn, chrN_mem hM.rooted.nodup ((h n).2 hn)]
  refine ⟨hw, ?_, by rw [← hM.len, ← hG.len, hw]⟩
  unfold textN wrN
  rw [hw]
  have e1 : (walkA G rootS).filter (writB M) = (walkA G rootS).filter (writB G) := List.filter_congr fun x hx => by unfold writB; rw [hc x hx]
  rw [e1]
  exact List.map_congr_left fun x hx => hc x (List.mem_filter.1 hx).1
def Built (G : List Nd) : Prop := ∀ r (hr : r < G.length), refI (G.take r) G[r] = 0
theorem Built.nil : Built [] := fun r hr => by simp at hr
theorem Built.snoc {G : List Nd} (h : Built G) {n : Nd} (hn : refI G n = 0) : Built (G ++ [n]) := fun r hr => by
  by_cases q : r < G.length
  · rw [List.getElem_append_left q, List.take_append_of_le_length (by omega)]; exact h r q
  · have : r = G.length := by simp at hr; omega
    subst this
    rw [List.getElem_concat_length rfl, List.take_append_of_le_length (Nat.le_refl _), List.take_length]; exact hn
def againN (M : List Nd) (n : Nd) : List Nd := if (chrN M n.id).isSome = true then M else insN M n
structure Again (G M : List Nd) : Prop where
  ok : TreeOk M
  sub : ∀ m ∈ M, m ∈ G
theorem Again.step {G M : List Nd} (h : Again G M) {n : Nd} (hn : n ∈ G) : Again G (againN M n) ∧ ∀ m ∈ M, m ∈ againN M n := by
  unfold againN
  split
  · exact ⟨h, fun m hm => hm⟩
  · refine ⟨⟨h.ok.ins n, fun m hm => ?_⟩, fun m hm => ?_⟩
    · unfold insN at hm
      split at hm
      · rcases List.mem_append.1 hm with q | q
        · exact h.sub m q
        · rw [List.mem_singleton.1 q]; exact hn
      · exact h.sub m hm
    · unfold insN
      split
      · exact List.mem_append_left _ hm
      · exact hm
theorem Again.len {G M : List Nd} (h : Again G M) (hG : G.length ≤ 40) : M.length ≤ 40 := by
  have := len_le_of_subset (M.map (·.id)) (G.map (·.id)) h.ok.rooted.nodup (fun x hx => by
    obtain ⟨m, hm, rfl⟩ := List.mem_map.1 hx
    exact List.mem_map_of_mem (h.sub m hm))
  simp at this; omega
end Go.Proofs.Ythjkcfpdkhghpaa
