/- Mt2 -/
import Derived.Test.YtgmbmdmbnpkbbaaM45
import Derived.Test.YtgmbmdmbnpkbbaaM46
namespace Go.Proofs.Ytgmbmdmbnpkbbaa
open Go.RowKit Go.Shelf
set_option maxRecDepth 20000
set_option linter.unusedSimpArgs false
theorem kids_none {N : List Nd} {s : (Int × Int) × Bool} (h : ∀ n ∈ N, n.side ≠ s) : kids N s = [] := by
  rw [List.eq_nil_iff_forall_not_mem]
  intro x hx
  obtain ⟨n, hn, h1, -⟩ := mem_kids.1 hx
  exact h n hn h1
theorem walk_tail {N : List Nd} {n : Nd} {p : Int × Int} {A : List (Int × Int)} (hN : TreeOk N) (hN' : Rooted (N ++ [n])) (hs : n.side = (p, true)) (hp : p ≠ (0, 0)) (hk : kids N (p, true) = []) (hw : walkA N rootS = A ++ [p]) : walkA (N ++ [n]) rootS = A ++ [p] ++ [n.id] := by
  have h1 := walk_beside hN.rooted hN' (by rw [hs]; exact hk) rootS (by rw [hs]; intro q; exact hp (congrArg Prod.fst q).symm)
  have h2 := nodup_root hN.rooted
  rw [hw] at h1 h2
  have h3 := beside_at (p := p) (t := n.id) (b := true) (A := A) (B := []) (by rw [List.append_nil]; exact h2)
  rw [List.append_nil] at h3
  rw [h1, hs, h3]
  simp
structure WI (a b : List Int) (st : Ds) (i j : Nat) : Prop where
  mi : MI a b st i j
  hi : i ≤ a.length
  hj : j ≤ b.length
  walk : walkA st.N rootS = (List.range i).map idA ++ (List.range j).map idB
theorem range_last {i : Nat} (h : i ≠ 0) (f : Nat → Int × Int) : (List.range i).map f = (List.range (i - 1)).map f ++ [f (i - 1)] := by
  conv => lhs; rw [show i = (i - 1) + 1 by omega, List.range_succ, List.map_append]
  rfl
theorem range_next (i : Nat) (f : Nat → Int × Int) : (List.range (i + 1)).map f = (List.range i).map f ++ [f i] := by rw [List.range_succ, List.map_append]; rfl
theorem MI.noKid {a b : List Int} {st : Ds} {i j : Nat} (h : MI a b st i j) : (i ≠ 0 → kids st.N (idA (i - 1), true) = []) ∧ (j ≠ 0 → kids st.N (idB (j - 1), true) = []) := by
  refine ⟨fun h0 => kids_none fun n hn q => ?_, fun h0 => kids_none fun n hn q => ?_⟩
  · rcases (h.N n).1 hn with ⟨k, hk, rfl⟩ | ⟨k, hk, rfl⟩
    · rw [ndA_side] at q
      by_cases hk0 : k = 0
      · rw [if_pos hk0] at q
        have := congrArg (fun x => x.1.2) q
        simp [rootS, idA] at this; omega
      · rw [if_neg hk0] at q
        have := idA_inj (congrArg Prod.fst q)
        omega
    · rw [ndB_side] at q
      by_cases hk0 : k = 0
      · rw [if_pos hk0] at q
        have := congrArg (fun x => x.1.2) q
        simp [rootS, idA] at this; omega
      · rw [if_neg hk0] at q
        exact idAB _ _ (congrArg Prod.fst q).symm
  · rcases (h.N n).1 hn with ⟨k, hk, rfl⟩ | ⟨k, hk, rfl⟩
    · rw [ndA_side] at q
      by_cases hk0 : k = 0
      · rw [if_pos hk0] at q
        have := congrArg (fun x => x.1.1) q
        simp [rootS, idB] at this
      · rw [if_neg hk0] at q
        exact idAB _ _ (congrArg Prod.fst q)
    · rw [ndB_side] at q
      by_cases hk0 : k = 0
      · rw [if_pos hk0] at q
        have := congrArg (fun x => x.1.1) q
        simp [rootS, idB] at this
      · rw [if_neg hk0] at q
        have := idB_inj (congrArg Prod.fst q)
        omega
theorem WI.first (r1 : refD newS vE1 = 0) (a b : List Int) : WI a b vS1 0 0 := ⟨MI.first r1 a b, Nat.zero_le _, Nat.zero_le _, by rw [show vS1.N = [] by kernel_rfl]; rfl⟩
theorem WI.putA {a b : List Int} {st : Ds} {i : Nat} (h : WI a b st i 0) (hw : WordOk a) (hi : i < a.length) : WI a b (apS st (evA a i)) (i + 1) 0 := by
  obtain ⟨h1, h2⟩ := h.mi.putA hw hi (by omega)
  refine ⟨h1, hi, h.hj, ?_⟩
  have hR := h1.good.tree.rooted
  rw [h2] at hR ⊢
  have hs := ndA_side a i
  have hwk := h.walk
  simp only [List.range_zero, List.map_nil, List.append_nil] at hwk ⊢
  rw [range_next]
  by_cases h0 : i = 0
  · rw [if_pos h0] at hs
    rw [walk_end h.mi.good.tree hR hs (fun m hm => by
      rcases h.mi.ids.1 ⟨m, hm, rfl⟩ with ⟨k, hk, -⟩ | ⟨k, hk, -⟩ <;> omega), hwk]
    rfl
  · rw [if_neg h0] at hs
    rw [range_last h0] at hwk ⊢
    exact walk_tail h.mi.good.tree hR hs (by simp [idA]; omega) (h.mi.noKid.1 h0) hwk
theorem WI.putB {a b : List Int} {st : Ds} {i j : Nat} (h : WI a b st i j) (hw : WordOk b) (hj : j < b.length) (hi : i ≤ 10) : WI a b (apS st (evB b j)) i (j + 1) := by
  obtain ⟨h1, h2⟩ := h.mi.putB hw hj hi
  refine ⟨h1, h.hi, hj, ?_⟩
  have hR := h1.good.tree.rooted
  rw [h2] at hR ⊢
  have hs := ndB_side b j
  have hwk := h.walk
  rw [range_next, ← List.append_assoc]
  by_cases h0 : j = 0
  · rw [if_pos h0] at hs
    rw [walk_end h.mi.good.tree hR hs (fun m hm => by
      rcases h.mi.ids.1 ⟨m, hm, rfl⟩ with ⟨k, hk, e⟩ | ⟨k, hk, e⟩
      · rw [e, ndB_id]; exact .inl (by simp [idA, idB])
      · omega), hwk]
    rfl
  · rw [if_neg h0] at hs
    rw [range_last h0, ← List.append_assoc] at hwk ⊢
    exact walk_tail h.mi.good.tree hR hs (by simp [idB]) (h.mi.noKid.2 h0) hwk
theorem MI.chrA {a b : List Int} {st : Ds} {i j : Nat} (h : MI a b st i j) {k : Nat} (hk : k < i) : chr0 st.N (idA k) = a[k]?.getD 0 := by
  unfold chr0
  rw [← ndA_id a k, chrN_mem h.good.tree.rooted.nodup ((h.N _).2 (.inl ⟨k, hk, rfl⟩))]
  rfl
theorem MI.chrB {a b : List Int} {st : Ds} {i j : Nat} (h : MI a b st i j) {k : Nat} (hk : k < j) : chr0 st.N (idB k) = b[k]?.getD 0 := by
  unfold chr0
  rw [← ndB_id b k, chrN_mem h.good.tree.rooted.nodup ((h.N _).2 (.inr ⟨k, hk, rfl⟩))]
  rfl
theorem WI.wr {a b : List Int} {st : Ds} {i j : Nat} (h : WI a b st i j) (ha : WordOk a) (hb : WordOk b) : wrN st.N = (List.range i).map idA ++ (List.range j).map idB := by
  unfold wrN
  rw [h.walk, List.filter_eq_self]
  intro x hx
  rcases List.mem_append.1 hx with q | q
  · obtain ⟨k, hk, rfl⟩ := List.mem_map.1 q
    have hk := List.mem_range.1 hk
    have := ha.chr k (by have := h.hi; omega)
    unfold writB
    rw [h.mi.chrA hk]
    simp; omega
  · obtain ⟨k, hk, rfl⟩ := List.mem_map.1 q
    have hk := List.mem_range.1 hk
    have := hb.chr k (by have := h.hj; omega)
    unfold writB
    rw [h.mi.chrB hk]
    simp; omega
theorem range_all (w : List Int) : (List.range w.length).map (fun k => w[k]?.getD 0) = w := by
  refine List.ext_getElem (by simp) fun k h1 h2 => ?_
  rw [List.getElem_map, List.getElem_range, List.getElem?_eq_getElem h2]
  rfl
theorem WI.text {a b : List Int} {st : Ds} (h : WI a b st a.length b.length) (ha : WordOk a) (hb : WordOk b) : textN st.N = a ++ b := by
  unfold textN
  rw [h.wr ha hb, List.map_append, List.map_map, List.map_map]
  congr 1
  · conv => rhs; rw [← range_all a]
    exact List.map_congr_left fun k hk => h.mi.chrA (List.mem_range.1 hk)
  · conv => rhs; rw [← range_all b]
    exact List.map_congr_left fun k hk => h.mi.chrB (List.mem_range.1 hk)
theorem place_tail {N : List Nd} {i : Nat} {P : Int × Int} (hl : leftN N (i : Int) = (P, 0)) (hw : walkA N (P, true) = []) : placeN N (i : Int) = (P, true, 0) := by
  unfold placeN
  rw [hl]
  simp [hw]
theorem left_tail {N : List Nd} {i : Nat} {l : List (Int × Int)} (h0 : i ≠ 0) (hw : wrN N = l) (hi : i - 1 < l.length) : leftN N (i : Int) = (l[i - 1], 0) := by
  unfold leftN atN
  rw [if_neg (by omega), if_neg (by omega), if_neg (by omega), hw, show ((i : Int) - 1).toNat = i - 1 by omega, List.getElem?_eq_getElem hi]
  rfl
theorem WI.placeA {a b : List Int} {st : Ds} {i : Nat} (h : WI a b st i 0) (ha : WordOk a) (hb : WordOk b) : placeN st.N (i : Int) = ((0, if i = 0 then 0 else (i : Int) + 1), true, 0) := by
  have hwr := h.wr ha hb
  have hwk := h.walk
  simp only [List.range_zero, List.map_nil, List.append_nil] at hwr hwk
  by_cases h0 : i = 0
  · subst h0
    refine place_tail rfl ?_
    exact hwk
  · rw [if_neg h0]
    have hl := left_tail h0 hwr (by simp; omega)
    rw [List.getElem_map, List.getElem_range] at hl
    have e : idA (i - 1) = (0, (i : Int) + 1) := by unfold idA; simp; omega
    rw [← e]
    exact place_tail hl (walk_empty h.mi.good.tree.rooted (h.mi.noKid.1 h0))
theorem WI.placeB {a b : List Int} {st : Ds} {j : Nat} (h : WI a b st 0 j) (ha : WordOk a) (hb : WordOk b) : placeN st.N (j : Int) = ((if j = 0 then 0 else 1, (j : Int)), true, 0) := by
  have hwr := h.wr ha hb
  have hwk := h.walk
  simp only [List.range_zero, List.map_nil, List.nil_append] at hwr hwk
  by_cases h0 : j = 0
  · subst h0
    refine place_tail rfl ?_
    exact hwk
  · rw [if_neg h0]
    have hl := left_tail h0 hwr (by simp; omega)
    rw [List.getElem_map, List.getElem_range] at hl
    have e : idB (j - 1) = (1, (j : Int)) := by unfold idB; simp; omega
    rw [← e]
    exact place_tail hl (walk_empty h.mi.good.tree.rooted (h.mi.noKid.2 h0))
theorem WI.tellA {a b : List Int} {st : Ds} {i : Nat} (h : WI a b st i 0) (ha : WordOk a) (hb : WordOk b) (hi : i < a.length) : tellW st 0 (i : Int) (a[i]?.getD 0) = (evA a i, 0) := by
  have hc := ha.chr i hi
  have hl := ha.len
  have hL := h.mi.L
  have hf : forbN st 0 (decide (1 ≤ a[i]?.getD 0) && decide (a[i]?.getD 0 ≤ 127)) 2 = 0 := by
    have := (rolesM_at (show i < 11 by omega)).1
    unfold forbN
    rw [if_neg (by omega), if_neg (by simp; omega), if_neg (by omega), h.mi.B, h.mi.S, if_neg]
    push_cast at this ⊢
    rw [this]; omega
  unfold tellW
  rw [if_neg (by rw [hf]; simp), h.placeA ha hb, if_neg (by simp)]
  unfold nextE evK evA
  rw [h.mi.S]
  simp
  omega
theorem WI.tellB {a b : List Int} {st : Ds} {j : Nat} (h : WI a b st 0 j) (ha : WordOk a) (hb : WordOk b) (hj : j < b.length) : tellW st 1 (j : Int) (b[j]?.getD 0) = (evB b j, 0) := by
  have hc := hb.chr j hj
  have hl := hb.len
  have hL := h.mi.L
  have hf : forbN st 1 (decide (1 ≤ b[j]?.getD 0) && decide (b[j]?.getD 0 ≤ 127)) 2 = 0 := by
    have := (rolesM_at (show j < 11 by omega)).2
    unfold forbN
    rw [if_neg (by omega), if_neg (by simp; omega), if_neg (by omega), h.mi.B, h.mi.S, if_neg]
    push_cast at this ⊢
    rw [this]; omega
  unfold tellW
  rw [if_neg (by rw [hf]; simp), h.placeB ha hb, if_neg (by simp)]
  unfold nextE evK evB
  rw [h.mi.S]
  simp
def stA (a : List Int) (i : Nat) : Ds := ((List.range i).map (evA a)).foldl doS vS1
def stB (b : List Int) (j : Nat) : Ds := ((List.range j).map (evB b)).foldl doS vS1
theorem stA_succ (a : List Int) (i : Nat) : stA a (i + 1) = doS (stA a i) (evA a i) := by unfold stA; rw [List.range_succ, List.map_append, List.foldl_append, List.map_cons, List.map_nil, List.foldl_cons, List.foldl_nil]
theorem stB_succ (b : List Int) (j : Nat) : stB b (j + 1) = doS (stB b j) (evB b j) := by unfold stB; rw [List.range_succ, List.map_append, List.foldl_append, List.map_cons, List.map_nil, List.foldl_cons, List.foldl_nil]
theorem stA_ok (r1 : refD newS vE1 = 0) {a b : List Int} (ha : WordOk a) : ∀ i, i ≤ a.length → WI a b (stA a i) i 0 ∧ (stA a i).L = vE1 :: (List.range i).map (evA a)
  | 0, _ => ⟨WI.first r1 a b, rfl⟩
  | i + 1, hi => by
    obtain ⟨h, hL⟩ := stA_ok r1 (b := b) ha i (by omega)
    have hr := h.mi.refA ha hi (by omega)
    have e : stA a (i + 1) = apS (stA a i) (evA a i) := (stA_succ a i).trans (if_pos hr)
    rw [e]
    refine ⟨h.putA ha hi, ?_⟩
    show (stA a i).L ++ [_] = _
    rw [hL, List.range_succ, List.map_append]
    rfl
theorem stB_ok (r1 : refD newS vE1 = 0) {a b : List Int} (hb : WordOk b) : ∀ j, j ≤ b.length → WI a b (stB b j) 0 j ∧ (stB b j).L = vE1 :: (List.range j).map (evB b)
  | 0, _ => ⟨WI.first r1 a b, rfl⟩
  | j + 1, hj => by
    obtain ⟨h, hL⟩ := stB_ok r1 (a := a) hb j (by omega)
    have hr := h.mi.refB hb hj (by omega)
    have e : stB b (j + 1) = apS (stB b j) (evB b j) := (stB_succ b j).trans (if_pos hr)
    rw [e]
    refine ⟨h.putB hb hj (by omega), ?_⟩
    show (stB b j).L ++ [_] = _
    rw [hL, List.range_succ, List.map_append]
    rfl
theorem MI.again {a b : List Int} {st : Ds} {i j : Nat} (h : MI a b st i j) : doS st vE1 = st := by
  have h1 : rightB vE1 = true := by kernel_rfl
  have h2 : vE1.da = 0 := rfl
  have h3 : vE1.ds = 1 := by kernel_rfl
  unfold doS
  rw [if_neg]
  unfold refD
  rw [h1, h2, h3, h.S, if_neg (by simp), if_pos (by simp [hasB]; omega)]
  omega
theorem hearB {a b : List Int} (ha : WordOk a) (hb : WordOk b) {st : Ds} (h : WI a b st a.length 0) : ∀ j, j ≤ b.length → WI a b ((vE1 :: (List.range j).map (evB b)).foldl doS st) a.length j
  | 0, _ => by
    rw [List.range_zero, List.map_nil, List.foldl_cons, List.foldl_nil, h.mi.again]; exact h
  | j + 1, hj => by
    have h1 := hearB ha hb h j (by omega)
    rw [List.range_succ, List.map_append, ← List.cons_append, List.foldl_append]
    generalize (vE1 :: (List.range j).map (evB b)).foldl doS st = q at h1 ⊢
    have hr := h1.mi.refB hb hj ha.len
    rw [List.map_cons, List.map_nil, List.foldl_cons, List.foldl_nil, show doS q (evB b j) = apS q (evB b j) from if_pos hr]
    exact h1.putB hb hj ha.len
theorem hearA {a b : List Int} (ha : WordOk a) (hb : WordOk b) {st : Ds} (h : MI a b st 0 b.length) : ∀ i, i ≤ a.length → MI a b ((vE1 :: (List.range i).map (evA a)).foldl doS st) i b.length
  | 0, _ => by
    rw [List.range_zero, List.map_nil, List.foldl_cons, List.foldl_nil, h.again]; exact h
  | i + 1, hi => by
    have h1 := hearA ha hb h i (by omega)
    rw [List.range_succ, List.map_append, ← List.cons_append, List.foldl_append]
    generalize (vE1 :: (List.range i).map (evA a)).foldl doS st = q at h1 ⊢
    have hr := h1.refA ha hi hb.len
    rw [List.map_cons, List.map_nil, List.foldl_cons, List.foldl_nil, show doS q (evA a i) = apS q (evA a i) from if_pos hr]
    exact (h1.putA ha hi hb.len).1
theorem vE1_ok : vE1.Ok := nextE_ok GoodD.new (by omega) (by omega) (by omega) (by omega)
structure Meet (a b : List Int) (X Y : Ds) : Prop where
  gx : GoodD X
  gy : GoodD Y
  xL : X.L = vE1 :: (List.range a.length).map (evA a)
  yL : Y.L = vE1 :: (List.range b.length).map (evB b)
  tx : textN (Y.L.foldl doS X).N = a ++ b
  ty : textN (X.L.foldl doS Y).N = a ++ b
  lx : X.L.length ≤ 11
  ly : Y.L.length ≤ 11
theorem meetM (r1 : refD newS vE1 = 0) {a b : List Int} (ha : WordOk a) (hb : WordOk b) : Meet a b (stA a a.length) (stB b b.length) := by
  obtain ⟨h1, h2⟩ := stA_ok r1 (b := b) ha a.length (Nat.le_refl _)
  obtain ⟨h3, h4⟩ := stB_ok r1 (a := a) hb b.length (Nat.le_refl _)
  have h5 := hearB ha hb h1 b.length (Nat.le_refl _)
  have h6 := hearA ha hb h3.mi a.length (Nat.le_refl _)
  have h7 := h5.text ha hb
  have l1 := ha.len
  have l2 := hb.len
  refine ⟨h1.mi.good, h3.mi.good, h2, h4, by rw [h4]; exact h7, ?_, by rw [h2]; simp; omega, by rw [h4]; simp; omega⟩
  rw [h2, ← h7]
  exact ((same_nodes h5.mi.good.tree h6.good.tree fun n => (h5.mi.N n).trans (h6.N n).symm).2.1).symm
end Go.Proofs.Ytgmbmdmbnpkbbaa
