/- Fu1 -/
import Derived.Test.YtnmjplngbleopaaF34
namespace Go.Proofs.Ytnmjplngbleopaa
open Go.RowKit Go.Shelf
set_option maxRecDepth 20000
set_option linter.unusedSimpArgs false
theorem refI_zeroU {N : List Nd} {n : Nd} (h1 : n.id ≠ (0, 0)) (h2 : 1 ≤ n.chr) (h3 : n.chr ≤ 127) (h4 : n.side.1 = (0, 0) → n.side.2 = true) (h5 : ∀ m ∈ N, m.id ≠ n.id) (h6 : n.side.1 = (0, 0) ∨ (chrN N n.side.1).isSome = true) (h7 : N.length < 512) : refI N n = 0 := by
  have h5b : (chrN N n.id).isSome = false := by
    cases hq : (chrN N n.id).isSome with
    | false => rfl
    | true => obtain ⟨m, hm, e⟩ := chrN_some.1 hq; exact absurd e (h5 m hm)
  unfold refI
  rw [if_neg, if_neg (by rw [h5b]; simp), if_neg, if_neg (by omega)]
  · rintro ⟨a, b⟩
    rcases h6 with q | q
    · exact a q
    · rw [q] at b; cases b
  · rintro (q | q | q | q)
    · exact h1 q
    · omega
    · omega
    · have := h4 q.1
      rw [q.2] at this; cases this
theorem kids_noneU {N : List Nd} {s : (Int × Int) × Bool} (h : ∀ n ∈ N, n.side ≠ s) : kids N s = [] := by
  rw [List.eq_nil_iff_forall_not_mem]
  intro x hx
  obtain ⟨n, hn, h1, -⟩ := mem_kids.1 hx
  exact h n hn h1
theorem place_found {N : List Nd} (hN : TreeOk N) {k : Nat} (hk : k ≤ (wrN N).length) {n : Nd} (hs : n.side = ((placeN N (k : Nat)).1, (placeN N (k : Nat)).2.1)) (hr : refI N n = 0) : (wrN (N ++ [n]))[k]? = some n.id ∧ (wrN (N ++ [n])).length = (wrN N).length + 1 := by
  obtain ⟨P, S, h1, h2, h3⟩ := place_walk hN hk hs hr
  obtain ⟨-, hc1, -, -, hnew, -, -⟩ := refI_ok hr
  have hn : ∀ m ∈ N, m.id ≠ n.id := fun m hm q => by
    rw [chrN_some.2 ⟨m, hm, q⟩] at hnew; cases hnew
  have hin : ∀ x ∈ walkA N rootS, writB (N ++ [n]) x = writB N x := fun x hx => by
    obtain ⟨m, hm, e⟩ := mem_walk hN.rooted rootS x hx
    unfold writB
    rw [chr0_snoc hn, if_neg (fun q => hn m hm (e.trans q))]
  have hself : writB (N ++ [n]) n.id = true := by
    unfold writB
    rw [chr0_snoc hn, if_pos rfl]
    simp; omega
  have hP : P.filter (writB (N ++ [n])) = P.filter (writB N) := List.filter_congr fun x hx => hin x (by rw [h1]; exact List.mem_append_left _ hx)
  have hS : S.filter (writB (N ++ [n])) = S.filter (writB N) := List.filter_congr fun x hx => hin x (by rw [h1]; exact List.mem_append_right _ hx)
  have e1 : wrN (N ++ [n]) = P.filter (writB N) ++ [n.id] ++ S.filter (writB N) := by
    unfold wrN
    rw [h2, List.filter_append, List.filter_append, hP, hS, List.filter_cons_of_pos hself]
    rfl
  have e2 : wrN N = P.filter (writB N) ++ S.filter (writB N) := by
    unfold wrN
    rw [h1, List.filter_append]
  rw [e1, e2]
  constructor
  · rw [List.append_assoc, List.getElem?_append_right (by omega), h3, Nat.sub_self]
    rfl
  · simp only [List.length_append, List.length_singleton]; omega
def idW (w k : Nat) : Int × Int := ((w : Int) + 6, (k : Int) + 1)
def chW (w k : Nat) : Int := 65 + 32 * (w : Int) + (k : Int)
def sideN (N : List Nd) (at_ : Nat) : (Int × Int) × Bool := ((placeN N (at_ : Nat)).1, (placeN N (at_ : Nat)).2.1)
def ndR (s0 : (Int × Int) × Bool) (w k : Nat) : Nd := ⟨idW w k, if k = 0 then s0 else (idW w (k - 1), true), chW w k⟩
theorem idW_inj {w w' k k' : Nat} (h : idW w k = idW w' k') : w = w' ∧ k = k' := by
  unfold idW at h
  rw [Prod.mk.injEq] at h
  omega
def MgN (N : List Nd) (s0 : (Int × Int) × Bool) (i j : Nat) : List Nd := N ++ (List.range i).map (ndR s0 0) ++ (List.range j).map (ndR s0 1)
structure Old (N : List Nd) (s0 : (Int × Int) × Bool) : Prop where
  ok : TreeOk N
  len : N.length ≤ 60
  ids : ∀ n ∈ N, n.id.1 < 6
  s0r : s0.1 = (0, 0) → s0.2 = true
  s0in : s0.1 = (0, 0) ∨ ∃ n ∈ N, n.id = s0.1
theorem Old.par {N : List Nd} {s0 : (Int × Int) × Bool} (h : Old N s0) : ∀ n ∈ N, n.side.1.1 < 6 := fun n hn => by
  obtain ⟨j, hj, rfl⟩ := List.getElem_of_mem hn
  rcases h.ok.rooted.above j hj with q | ⟨i, hi, q⟩
  · rw [q]; decide
  · rw [← q]; exact h.ids _ (List.getElem_mem _)
theorem Old.s0low {N : List Nd} {s0 : (Int × Int) × Bool} (h : Old N s0) : s0.1.1 < 6 := by
  rcases h.s0in with q | ⟨n, hn, q⟩
  · rw [q]; decide
  · rw [← q]; exact h.ids n hn
theorem Old.place {N : List Nd} (hN : TreeOk N) (hl : N.length ≤ 60) (hi : ∀ n ∈ N, n.id.1 < 6) {k : Nat} (hk : k ≤ (wrN N).length) : Old N (sideN N k) where
  ok := hN
  len := hl
  ids := hi
  s0r := (place_ok hN hk).2.1
  s0in := by
    rcases (place_ok hN hk).2.2 with q | q
    · exact .inl q
    · exact .inr (chrN_some.1 q)
theorem mem_Mg {N : List Nd} {s0 : (Int × Int) × Bool} {i j : Nat} {n : Nd} : n ∈ MgN N s0 i j ↔ n ∈ N ∨ (∃ k, k < i ∧ n = ndR s0 0 k) ∨ (∃ k, k < j ∧ n = ndR s0 1 k) := by
  unfold MgN
  rw [List.mem_append, List.mem_append, List.mem_map, List.mem_map]
  constructor
  · rintro ((q | ⟨k, hk, rfl⟩) | ⟨k, hk, rfl⟩)
    · exact .inl q
    · exact .inr (.inl ⟨k, List.mem_range.1 hk, rfl⟩)
    · exact .inr (.inr ⟨k, List.mem_range.1 hk, rfl⟩)
  · rintro (q | ⟨k, hk, rfl⟩ | ⟨k, hk, rfl⟩)
    · exact .inl (.inl q)
    · exact .inl (.inr ⟨k, List.mem_range.2 hk, rfl⟩)
    · exact .inr ⟨k, List.mem_range.2 hk, rfl⟩
theorem Mg_zero (N : List Nd) (s0 : (Int × Int) × Bool) : MgN N s0 0 0 = N := by unfold MgN; simp
theorem Mg_nextA (N : List Nd) (s0 : (Int × Int) × Bool) (i : Nat) : MgN N s0 (i + 1) 0 = MgN N s0 i 0 ++ [ndR s0 0 i] := by unfold MgN; simp [List.range_succ]
theorem Mg_nextB (N : List Nd) (s0 : (Int × Int) × Bool) (i j : Nat) : MgN N s0 i (j + 1) = MgN N s0 i j ++ [ndR s0 1 j] := by unfold MgN; simp [List.range_succ]
theorem Mg_len (N : List Nd) (s0 : (Int × Int) × Bool) (i j : Nat) : (MgN N s0 i j).length = N.length + i + j := by unfold MgN; simp; omega
theorem ndR_id (s0 : (Int × Int) × Bool) (w k : Nat) : (ndR s0 w k).id = idW w k := rfl
theorem Old.fresh {N : List Nd} {s0 : (Int × Int) × Bool} (h : Old N s0) {i j w k : Nat} (hw : (w = 0 → i ≤ k) ∧ (w = 1 → j ≤ k)) : ∀ m ∈ MgN N s0 i j, m.id ≠ idW w k := fun m hm q => by
  rcases mem_Mg.1 hm with r | ⟨l, hl, rfl⟩ | ⟨l, hl, rfl⟩
  · have := h.ids m r
    rw [q] at this
    unfold idW at this; simp only at this; omega
  · obtain ⟨e1, e2⟩ := idW_inj ((ndR_id s0 0 l).symm.trans q)
    have := hw.1 e1.symm; omega
  · obtain ⟨e1, e2⟩ := idW_inj ((ndR_id s0 1 l).symm.trans q)
    have := hw.2 e1.symm; omega
theorem Old.ref {N : List Nd} {s0 : (Int × Int) × Bool} (h : Old N s0) {i j w k : Nat} (hi : i ≤ 12) (hj : j ≤ 12) (hk : k < 12) (hw : (w = 0 ∧ i = k) ∨ (w = 1 ∧ j = k)) : refI (MgN N s0 i j) (ndR s0 w k) = 0 := by
  have hl := h.len
  refine refI_zeroU ?_ ?_ ?_ ?_ (h.fresh ⟨fun e => by omega, fun e => by omega⟩) ?_ (by rw [Mg_len]; omega)
  · rw [ndR_id]; unfold idW; simp; omega
  · show 1 ≤ chW w k
    unfold chW; omega
  · show chW w k ≤ 127
    unfold chW; omega
  · unfold ndR
    by_cases h0 : k = 0
    · simp only [h0, if_true]; exact h.s0r
    · simp only [h0, if_false]; exact fun _ => trivial
  · unfold ndR
    by_cases h0 : k = 0
    · simp only [h0, if_true]
      rcases h.s0in with q | ⟨n, hn, q⟩
      · exact .inl q
      · exact .inr (chrN_some.2 ⟨n, mem_Mg.2 (.inl hn), q⟩)
    · simp only [h0, if_false]
      refine .inr (chrN_some.2 ?_)
      rcases hw with ⟨e1, e2⟩ | ⟨e1, e2⟩
      · exact ⟨_, mem_Mg.2 (.inr (.inl ⟨k - 1, by omega, rfl⟩)), by rw [e1]; rfl⟩
      · exact ⟨_, mem_Mg.2 (.inr (.inr ⟨k - 1, by omega, rfl⟩)), by rw [e1]; rfl⟩
theorem Old.insA {N : List Nd} {s0 : (Int × Int) × Bool} (h : Old N s0) {i : Nat} (hi : i < 12) : refI (MgN N s0 i 0) (ndR s0 0 i) = 0 ∧ insN (MgN N s0 i 0) (ndR s0 0 i) = MgN N s0 (i + 1) 0 := by
  have hr := h.ref (i := i) (j := 0) (w := 0) (k := i) (by omega) (by omega) hi (.inl ⟨rfl, rfl⟩)
  refine ⟨hr, ?_⟩
  unfold insN
  rw [if_pos hr, Mg_nextA]
theorem Old.insB {N : List Nd} {s0 : (Int × Int) × Bool} (h : Old N s0) {i j : Nat} (hi : i ≤ 12) (hj : j < 12) : refI (MgN N s0 i j) (ndR s0 1 j) = 0 ∧ insN (MgN N s0 i j) (ndR s0 1 j) = MgN N s0 i (j + 1) := by
  have hr := h.ref (i := i) (j := j) (w := 1) (k := j) hi (by omega) hj (.inr ⟨rfl, rfl⟩)
  refine ⟨hr, ?_⟩
  unfold insN
  rw [if_pos hr, Mg_nextB]
theorem Old.okMg {N : List Nd} {s0 : (Int × Int) × Bool} (h : Old N s0) : ∀ i, i ≤ 12 → ∀ j, j ≤ 12 → TreeOk (MgN N s0 i j)
  | 0, _, 0, _ => by rw [Mg_zero]; exact h.ok
  | i + 1, hi, 0, _ => by
    rw [← (h.insA (show i < 12 by omega)).2]
    exact (h.okMg i (by omega) 0 (by omega)).ins _
  | i, hi, j + 1, hj => by
    rw [← (h.insB hi (show j < 12 by omega)).2]
    exact (h.okMg i hi j (by omega)).ins _
theorem Old.under {N : List Nd} {s0 : (Int × Int) × Bool} (h : Old N s0) {i j w k : Nat} (hw : w < 2) {b : Bool} : (b = false → kids (MgN N s0 i j) (idW w k, b) = []) ∧ (∀ n ∈ MgN N s0 i j, n.side = (idW w k, b) → n = ndR s0 w (k + 1)) := by
  have key : ∀ n ∈ MgN N s0 i j, n.side = (idW w k, b) → n = ndR s0 w (k + 1) ∧ b = true := fun n hn q => by
    have hlow : ∀ s : (Int × Int) × Bool, s.1.1 < 6 → s ≠ (idW w k, b) := fun s hs e => by
      rw [e] at hs
      unfold idW at hs; simp only at hs; omega
    have hch : ∀ v l, (ndR s0 v l).side = (idW w k, b) → ndR s0 v l = ndR s0 w (k + 1) ∧ b = true := fun v l e => by
      unfold ndR at e
      by_cases h0 : l = 0
      · simp only [h0, if_true] at e
        exact absurd e (hlow _ h.s0low)
      · simp only [h0, if_false, Prod.mk.injEq] at e
        obtain ⟨e1, e2⟩ := idW_inj e.1
        obtain rfl : l = k + 1 := by omega
        rw [e1]
        exact ⟨rfl, e.2.symm⟩
    rcases mem_Mg.1 hn with r | ⟨l, hl, rfl⟩ | ⟨l, hl, rfl⟩
    · exact absurd q (hlow _ (h.par n r))
    · exact hch 0 l q
    · exact hch 1 l q
  refine ⟨fun hb => kids_noneU fun n hn q => ?_, fun n hn q => (key n hn q).1⟩
  have := (key n hn q).2
  rw [hb] at this; cases this
theorem sole {l : List (Int × Int)} (h : inOrderD l) {x : Int × Int} (hx : ∀ y, y ∈ l ↔ y = x) : l = [x] := sorted_unique l [x] h (List.pairwise_singleton _ _) (fun y => by rw [hx, List.mem_singleton])
def cntW (i j w : Nat) : Nat := if w = 0 then i else j
theorem mem_word {N : List Nd} {s0 : (Int × Int) × Bool} {i j w k : Nat} (hw : w < 2) (hk : k < cntW i j w) : ndR s0 w k ∈ MgN N s0 i j := by
  unfold cntW at hk
  by_cases h0 : w = 0
  · rw [if_pos h0] at hk
    subst h0
    exact mem_Mg.2 (.inr (.inl ⟨k, hk, rfl⟩))
  · rw [if_neg h0] at hk
    obtain rfl : w = 1 := by omega
    exact mem_Mg.2 (.inr (.inr ⟨k, hk, rfl⟩))
theorem not_word {N : List Nd} {s0 : (Int × Int) × Bool} (h : Old N s0) {i j w k : Nat} (hk : cntW i j w ≤ k) : ndR s0 w k ∉ MgN N s0 i j := fun q => by
  unfold cntW at hk
  refine h.fresh (i := i) (j := j) (w := w) (k := k) ⟨fun e => ?_, fun e => ?_⟩ _ q rfl
  · rwa [if_pos e] at hk
  · rw [if_neg (by omega)] at hk; exact hk
theorem Old.block {N : List Nd} {s0 : (Int × Int) × Bool} (h : Old N s0) {i j w : Nat} (hi : i ≤ 12) (hj : j ≤ 12) (hw : w < 2) : ∀ d k, k + d + 1 = cntW i j w → blockN (MgN N s0 i j) (idW w k) = (List.range' k (d + 1)).map (idW w)
  | d, k, hkd => by
    have hok := h.okMg i hi j hj
    have hl : walkA (MgN N s0 i j) (idW w k, false) = [] := walk_empty hok.rooted ((h.under hw).1 rfl)
    unfold blockN
    rw [hl, List.nil_append]
    match d, hkd with
    | 0, hkd =>
      have hr : walkA (MgN N s0 i j) (idW w k, true) = [] := walk_empty hok.rooted (kids_noneU fun n hn q => by
        have e := (h.under hw).2 n hn q
        rw [e] at hn
        exact not_word h (by omega) hn)
      rw [hr]
      rfl
    | d + 1, hkd =>
      have hkids : kids (MgN N s0 i j) (idW w k, true) = [idW w (k + 1)] := sole (kids_order hok.rooted.nodup _) fun y => by
        rw [mem_kids]
        constructor
        · rintro ⟨n, hn, q, rfl⟩
          rw [(h.under hw).2 n hn q]; rfl
        · rintro rfl
          exact ⟨ndR s0 w (k + 1), mem_word hw (by omega), by unfold ndR; rw [if_neg (by omega)]; rfl, rfl⟩
      rw [walkA_blocks hok.rooted (idW w k, true), hkids, List.flatMap_cons, List.flatMap_nil, List.append_nil, h.block hi hj hw d (k + 1) (by omega)]
      rw [show List.range' k (d + 1 + 1) = k :: List.range' (k + 1) (d + 1) from rfl, List.map_cons]
      rfl
def wordW (w m : Nat) : List Int := (List.range m).map (chW w)
theorem Old.whole {N : List Nd} {s0 : (Int × Int) × Bool} (h : Old N s0) {i j w : Nat} (hi : i ≤ 12) (hj : j ≤ 12) (hw : w < 2) : ∃ A B, textN (MgN N s0 i j) = A ++ wordW w (cntW i j w) ++ B := by
  have hok := h.okMg i hi j hj
  by_cases h0 : cntW i j w = 0
  · refine ⟨[], textN (MgN N s0 i j), ?_⟩
    rw [h0]; rfl
  · obtain ⟨A, B, hAB⟩ := split_walk hok.rooted rootS (idW w 0) (hok.all_in _ (mem_word hw (show 0 < cntW i j w by omega)))
    rw [h.block hi hj hw (cntW i j w - 1) 0 (by omega), show cntW i j w - 1 + 1 = cntW i j w by omega] at hAB
    have hchr : ∀ k, k < cntW i j w → chr0 (MgN N s0 i j) (idW w k) = chW w k := fun k hk => by
      unfold chr0
      rw [← ndR_id s0 w k, chrN_mem hok.rooted.nodup (mem_word hw hk)]
      rfl
    have hfl : ((List.range' 0 (cntW i j w)).map (idW w)).filter (writB (MgN N s0 i j)) = (List.range' 0 (cntW i j w)).map (idW w) := by
      rw [List.filter_eq_self]
      intro x hx
      obtain ⟨k, hk, rfl⟩ := List.mem_map.1 hx
      have hk' : k < cntW i j w := by have := List.mem_range'_1.1 hk; omega
      unfold writB
      rw [hchr k hk']
      unfold chW; simp; omega
    refine ⟨(A.filter (writB (MgN N s0 i j))).map (chr0 (MgN N s0 i j)), (B.filter (writB (MgN N s0 i j))).map (chr0 (MgN N s0 i j)), ?_⟩
    unfold textN wrN
    rw [hAB, List.filter_append, List.filter_append, hfl, List.map_append, List.map_append, List.map_map]
    congr 2
    unfold wordW
    rw [List.range_eq_range']
    exact List.map_congr_left fun k hk => hchr k (by have := List.mem_range'_1.1 hk; omega)
end Go.Proofs.Ytnmjplngbleopaa
