/- Fg6 Fg7 Fg8 Fg9 -/
import Derived.Test.YthjkcfpdkhghpaaH25
import Derived.Test.YthjkcfpdkhghpaaH18
namespace Go.Proofs.Ythjkcfpdkhghpaa
open Go.RowKit Go.Shelf
set_option maxRecDepth 20000
set_option linter.unusedSimpArgs false
theorem flat_take {k : Nat} (L : List (List Value)) (hL : ∀ c ∈ L, c.length = k) (i : Nat) : (L.take i).flatten = L.flatten.take (i * k) := by
  induction L generalizing i with
  | nil => simp
  | cons e L ih =>
    have he : e.length = k := hL e (by simp)
    cases i with
    | zero => simp
    | succ i =>
      rw [List.take_succ_cons, List.flatten_cons, List.flatten_cons, ih (fun c hc => hL c (by simp [hc])), show (i + 1) * k = e.length + i * k by rw [he, Nat.add_mul]; omega, List.take_length_add_append]
theorem flat_drop {k : Nat} (L : List (List Value)) (hL : ∀ c ∈ L, c.length = k) (i : Nat) : (L.drop i).flatten = L.flatten.drop (i * k) := by
  have h1 := flat_take L hL i
  have h2 : (L.take i).flatten ++ (L.drop i).flatten = L.flatten := by rw [← List.flatten_append, List.take_append_drop]
  have h3 : (L.take i).flatten ++ L.flatten.drop (i * k) = L.flatten := by rw [h1, List.take_append_drop]
  exact List.append_cancel_left (h2.trans h3.symm)
theorem insD_any (base : Nat) (x : Option Addr) (n c i : Nat) (L : List (List Value)) (T : List Value) (gv : Nat) (w : World) (hO : OwnI w base 32 2 (.slice x n c) L) (hi : i ≤ n) (hL1 : ∀ e ∈ L, ∀ u ∈ e, u.oneCell' = true) (hT2 : T.length = 2) (hT1 : ∀ u ∈ T, u.oneCell' = true) (hg : CellsAt w gv 32 T) (hne : (Value.slice x n c).ownBlock ≠ some gv) (hbase : base ≤ w.heap.size) (hlen : n ≤ 100000) :
    Calls Try.prog 38 #[.slice x n c, .int .i64 (i : Nat), .slice (some ⟨gv, 0, none⟩) 1 1] w fun e w' => ∃ v', e = .returned v' ∧ InsP base (.slice x n c) w (L.take i ++ [T] ++ L.drop i) v' w' := by
  have hnL : n = L.length := by
    obtain ⟨y, d, e⟩ := hO.isSlice
    injection e
  have hflat1 : ∀ u ∈ L.flatten, u.oneCell' = true := fun u hu => by
    obtain ⟨e, he, hu⟩ := List.mem_flatten.1 hu
    exact hL1 e he u hu
  have hnew : ∀ e ∈ L.take i ++ [T] ++ L.drop i, e.length = 2 := fun e he => by
    rcases List.mem_append.1 he with he | he
    · rcases List.mem_append.1 he with he | he
      · exact hO.each e (List.mem_of_mem_take he)
      · rw [List.mem_singleton.1 he]; exact hT2
    · exact hO.each e (List.mem_of_mem_drop he)
  have hnl : (L.take i ++ [T] ++ L.drop i).length = n + 1 := by
    simp only [List.length_append, List.length_take, List.length_drop, List.length_singleton]; omega
  have hnf : (L.take i ++ [T] ++ L.drop i).flatten = L.flatten.take (i * 2) ++ T ++ L.flatten.drop (i * 2) := by
    rw [List.flatten_append, List.flatten_append, flat_take L hO.each, flat_drop L hO.each]; simp
  have hfl : L.flatten.length = n * 2 := by rw [flat_len L hO.each, hnL]
  have hnfl := flat_len _ hnew
  have hc : n ≤ c := by
    rcases hO.own.2 with ⟨h1, h0⟩ | ⟨g, cap, cur, h1, _, _, h4, _⟩
    · omega
    · injection h1 with _ _ h1; omega
  by_cases hin : i = n
  · subst hin
    rw [List.take_of_length_le (by omega), List.drop_of_length_le (by omega), List.append_nil]
    exact insD_end base x i c L T gv w hO hnL.symm hc hT2 hT1 hg hbase hlen
  · rcases hO.own.2 with ⟨h1, h0⟩ | ⟨g, cap, cur, h1, hb, hgc, h4, h5, h6, h7⟩
    · omega
    · injection h1 with hx _ hcc
      subst hx hcc
      have hcl : cur.toList.length = c * 2 := by rw [Array.length_toList]; exact h6
      rw [← hnL] at h7
      have hgn : gv ≠ g := fun e => hne (by rw [e]; rfl)
      have hgc' : w.heap[g]? = some (.cells cur.toList.toArray 32 (0, 0)) := by rw [Array.toArray_toList]; exact hgc
      by_cases hroom : n + 1 ≤ c
      · refine (insD_room g n c i cur.toList T gv w hgc' hcl (by omega) hroom hT2 hT1 (by rw [h7]; exact hflat1) hg hgn h5).mono ?_
        rintro e w' ⟨he, hh, hgr⟩
        refine ⟨_, he, ⟨⟨?_, .inr ⟨g, c, _, by rw [hnl], hb, hh, by rw [hnl]; exact hroom, h5, ?_, ?_⟩⟩, hnew⟩, hgr, .inl rfl⟩
        · exact hnfl
        · simp only [List.size_toArray, List.length_append, List.length_take, List.length_drop, hcl, hT2]; omega
        · rw [hnl, hnf, ← h7]
          simp only [List.toList_toArray]
          rw [List.take_left' (by simp only [List.length_append, List.length_take, List.length_drop, hcl, hT2]; omega), List.take_take, List.drop_take, Nat.min_eq_left (by omega), show n * 2 - i * 2 = (n - i) * 2 by omega, List.append_assoc]
      · obtain rfl : c = n := by omega
        have h8 : cur.toList = L.flatten := by rw [← h7]; exact (List.take_of_length_le (by omega)).symm
        refine (insD_grow g c i cur.toList T gv w hgc' hcl (by omega) hT2 hT1 (by rw [h8]; exact hflat1) hg hlen).mono ?_
        rintro e w' ⟨q, he, ⟨R, hh, hRl, hRt⟩, hq1, hq2, hB⟩
        refine ⟨_, he, ⟨⟨?_, .inr ⟨w.heap.size, q, _, by rw [hnl], hbase, hh, by rw [hnl]; exact hq1, hq2, ?_, ?_⟩⟩, hnew⟩, ⟨hB.os, hB.tape, hB.output, hB.size, fun k hk _ => hB.block k hk⟩, .inr ⟨_, rfl, Nat.le_refl _⟩⟩
        · exact hnfl
        · simpa using hRl
        · rw [hnl, hnf, ← h8]; exact hRt
def okDF (x : Int × Int) : Prop := (0 ≤ x.1 ∧ x.1 ≤ 255) ∧ (0 ≤ x.2 ∧ x.2 ≤ 4294967295)
theorem encF_inj {x y : Int × Int} (e : encF x = encF y) : x = y := by
  obtain ⟨a, b⟩ := x
  obtain ⟨c, d⟩ := y
  simp only [encF, dotC] at e
  injection e with e1 e2
  injection e2 with e2 _
  injection e1 with _ e1
  injection e2 with _ e2
  rw [e1, e2]
theorem flatDotF (d : Nat) (x : Int × Int) (h : okDF x) : Flat Try.prog (d + 1 + 1) 32 (encF x) :=
  flat_struct Try.underlying32 (by kernel_rfl) (by show (2 : Nat) = _; kernel_rfl) (tl := [(5, 0, 1), (30, 1, 1)]) (by kernel_rfl) fun p hp => by
    simp only [List.mem_cons, List.not_mem_nil, or_false] at hp
    rcases hp with rfl | rfl
    · exact flat_u8 Try.underlying5 _ h.1.1 h.1.2
    · exact flat_u32 Try.underlying30 _ h.2.1 h.2.2
def encDF (x : Int × Int) : Value := .agg (encF x).toArray
theorem keyEncDF : KeyEnc Try.prog 32 encDF okDF where
  keyed := Go.Maps.Keyed.of_law (deep_law (m := 4) (by omega) (by kernel_rfl) (by kernel_rfl) (by kernel_rfl))
  has := fun k h => by
    obtain ⟨m, hm⟩ := manyTypes
    exact key_of_flat (by kernel_rfl) (by kernel_rfl) (by show (2 : Nat) = _; kernel_rfl) (by rw [hm]; exact flatDotF _ k h)
  inj := fun x y _ _ e => encF_inj (by unfold encDF at e; injection e with e; simpa using e)
def sideC (s : (Int × Int) × Bool) : List Value := encF s.1 ++ [.bool s.2]
def encS (s : (Int × Int) × Bool) : Value := .agg (sideC s).toArray
def okS (s : (Int × Int) × Bool) : Prop := okDF s.1
theorem sideC_len (s : (Int × Int) × Bool) : (sideC s).length = 3 := rfl
theorem sideC_inj {s t : (Int × Int) × Bool} (e : sideC s = sideC t) : s = t := by
  obtain ⟨x, a⟩ := s
  obtain ⟨y, b⟩ := t
  unfold sideC at e
  obtain ⟨e1, e2⟩ := List.append_inj e rfl
  injection e2 with e2 _
  injection e2 with e2
  simp only at e1 e2
  rw [encF_inj e1, e2]
theorem flatSide (d : Nat) (s : (Int × Int) × Bool) (h : okS s) : Flat Try.prog (d + 1 + 1 + 1) 71 (sideC s) :=
  flat_struct Try.underlying71 (by kernel_rfl) (by rw [sideC_len]; kernel_rfl) (tl := [(32, 0, 2), (4, 2, 1)]) (by kernel_rfl) fun p hp => by
    simp only [List.mem_cons, List.not_mem_nil, or_false] at hp
    rcases hp with rfl | rfl
    · exact flatDotF d _ h
    · exact flat_bool Try.underlying4 _
theorem keyEncS : KeyEnc Try.prog 71 encS okS where
  keyed := Go.Maps.Keyed.of_law (deep_law (m := 5) (by omega) (by kernel_rfl) (by kernel_rfl) (by kernel_rfl))
  has := fun k h => by
    obtain ⟨m, hm⟩ := manyTypes
    exact key_of_flat (by kernel_rfl) (by kernel_rfl) (by rw [sideC_len]; kernel_rfl) (by rw [hm]; exact flatSide _ k h)
  inj := fun x y _ _ e => sideC_inj (by unfold encS at e; injection e with e; simpa using e)
def aheadD (x y : Int × Int) : Prop := x.1 < y.1 ∨ x.1 = y.1 ∧ x.2 < y.2
theorem cmpD_neg (x y : Int × Int) : cmpD x y < 0 ↔ aheadD x y := by
  unfold cmpD aheadD cmpI
  repeat' split
  all_goals omega
theorem aheadD.trans {x y z : Int × Int} (h : aheadD x y) (h' : aheadD y z) : aheadD x z := by unfold aheadD at *; omega
theorem aheadD.irrefl (x : Int × Int) : ¬ aheadD x x := by unfold aheadD; omega
theorem aheadD_or {x y : Int × Int} (h : x ≠ y) : aheadD x y ∨ aheadD y x := by
  obtain ⟨a, b⟩ := x
  obtain ⟨c, d⟩ := y
  have : ¬ (a = c ∧ b = d) := fun e => h (by rw [e.1, e.2])
  unfold aheadD
  simp only
  omega
abbrev inOrderD (ds : List (Int × Int)) : Prop := ds.Pairwise aheadD
theorem inOrderD.mono {ds : List (Int × Int)} (h : inOrderD ds) (t : Int × Int) (i j : Nat) (hj : j < ds.length) (hij : i ≤ j) (hc : cmpD ds[j] t < 0) : cmpD (ds[i]'(by omega)) t < 0 := by
  rcases Nat.lt_or_eq_of_le hij with h1 | rfl
  · exact (cmpD_neg _ _).2 ((List.pairwise_iff_getElem.1 h i j (by omega) hj h1).trans ((cmpD_neg _ _).1 hc))
  · exact hc
def insD (ds : List (Int × Int)) (t : Int × Int) : List (Int × Int) := ds.take (posD ds t) ++ [t] ++ ds.drop (posD ds t)
theorem insD_nil (t : Int × Int) : insD [] t = [t] := rfl
theorem insD_cons (a t : Int × Int) (ds : List (Int × Int)) : insD (a :: ds) t = if cmpD a t < 0 then a :: insD ds t else t :: a :: ds := by
  unfold insD posD
  by_cases h : cmpD a t < 0
  · rw [List.takeWhile_cons_of_pos (by simpa using h), if_pos h]; simp
  · rw [List.takeWhile_cons_of_neg (by simpa using h), if_neg h]; simp
theorem mem_insD {ds : List (Int × Int)} {t x : Int × Int} : x ∈ insD ds t ↔ x = t ∨ x ∈ ds := by
  induction ds with
  | nil => simp [insD_nil]
  | cons a ds ih =>
    rw [insD_cons]
    split
    · rw [List.mem_cons, ih, List.mem_cons]
      constructor
      · rintro (h | h | h)
        · exact .inr (.inl h)
        · exact .inl h
        · exact .inr (.inr h)
      · rintro (h | h | h)
        · exact .inr (.inl h)
        · exact .inl h
        · exact .inr (.inr h)
    · exact List.mem_cons
theorem length_insD (ds : List (Int × Int)) (t : Int × Int) : (insD ds t).length = ds.length + 1 := by
  induction ds with
  | nil => rfl
  | cons a ds ih => rw [insD_cons]; split <;> simp [ih]
theorem sorted_insD {ds : List (Int × Int)} (h : inOrderD ds) (t : Int × Int) (hn : t ∉ ds) : inOrderD (insD ds t) := by
  induction ds with
  | nil => rw [insD_nil]; exact List.pairwise_singleton _ _
  | cons a ds ih =>
    obtain ⟨h1, h2⟩ := List.pairwise_cons.1 h
    rw [insD_cons]
    split
    · next hc =>
      refine List.pairwise_cons.2 ⟨fun x hx => ?_, ih h2 (fun e => hn (List.mem_cons_of_mem _ e))⟩
      rcases mem_insD.1 hx with rfl | hx
      · exact (cmpD_neg _ _).1 hc
      · exact h1 x hx
    · next hc =>
      have hlt : aheadD t a := by
        rcases aheadD_or (x := t) (y := a) (fun e => hn (by rw [e]; exact List.mem_cons_self)) with h | h
        · exact h
        · exact absurd ((cmpD_neg _ _).2 h) hc
      refine List.pairwise_cons.2 ⟨fun x hx => ?_, h⟩
      rcases List.mem_cons.1 hx with rfl | hx
      · exact hlt
      · exact hlt.trans (h1 x hx)
theorem posD_le (ds : List (Int × Int)) (t : Int × Int) : posD ds t ≤ ds.length := (List.takeWhile_prefix _).length_le
theorem map_insD (ds : List (Int × Int)) (t : Int × Int) : (ds.map encF).take (posD ds t) ++ [encF t] ++ (ds.map encF).drop (posD ds t) = (insD ds t).map encF := by
  simp [insD]
structure Nd where
  id : Int × Int
  side : (Int × Int) × Bool
  chr : Int
deriving DecidableEq
def kids (N : List Nd) (s : (Int × Int) × Bool) : List (Int × Int) := N.foldl (fun l n => if n.side = s then insD l n.id else l) []
theorem kids_nil (s : (Int × Int) × Bool) : kids [] s = [] := rfl
theorem kids_snoc (N : List Nd) (n : Nd) (s : (Int × Int) × Bool) : kids (N ++ [n]) s = if n.side = s then insD (kids N s) n.id else kids N s := by
  unfold kids; rw [List.foldl_append]; rfl
theorem snoc_ind {α : Type} {p : List α → Prop} (h0 : p []) (h1 : ∀ l a, p l → p (l ++ [a])) (l : List α) : p l := by
  have : ∀ l : List α, p l.reverse := fun l => by
    induction l with
    | nil => exact h0
    | cons a l ih => rw [List.reverse_cons]; exact h1 _ _ ih
  have h := this l.reverse
  rwa [List.reverse_reverse] at h
theorem mem_kids {N : List Nd} {s : (Int × Int) × Bool} {x : Int × Int} : x ∈ kids N s ↔ ∃ n ∈ N, n.side = s ∧ n.id = x := by
  induction N using snoc_ind with
  | h0 => simp [kids_nil]
  | h1 N n ih =>
    rw [kids_snoc]
    split
    · next h =>
      rw [mem_insD, ih]
      constructor
      · rintro (h' | ⟨m, hm, h'⟩)
        · exact ⟨n, by simp, h, h'.symm⟩
        · exact ⟨m, by simp [hm], h'⟩
      · rintro ⟨m, hm, h1, h2⟩
        rcases List.mem_append.1 hm with hm | hm
        · exact .inr ⟨m, hm, h1, h2⟩
        · rw [List.mem_singleton.1 hm] at h2; exact .inl h2.symm
    · next h =>
      rw [ih]
      constructor
      · rintro ⟨m, hm, h'⟩
        exact ⟨m, by simp [hm], h'⟩
      · rintro ⟨m, hm, h1, h2⟩
        rcases List.mem_append.1 hm with hm | hm
        · exact ⟨m, hm, h1, h2⟩
        · rw [List.mem_singleton.1 hm] at h1; exact absurd h1 h
theorem kids_order {N : List Nd} (hN : (N.map (·.id)).Nodup) (s : (Int × Int) × Bool) : inOrderD (kids N s) := by
  induction N using snoc_ind with
  | h0 => exact List.Pairwise.nil
  | h1 N n ih =>
    rw [List.map_append, List.nodup_append] at hN
    obtain ⟨h1, _, h3⟩ := hN
    rw [kids_snoc]
    split
    · refine sorted_insD (ih h1) _ fun e => ?_
      obtain ⟨m, hm, _, e⟩ := mem_kids.1 e
      exact h3 m.id (List.mem_map_of_mem hm) n.id (by simp) e
    · exact ih h1
theorem kids_few (N : List Nd) (s : (Int × Int) × Bool) : (kids N s).length ≤ N.length := by
  induction N using snoc_ind with
  | h0 => simp [kids_nil]
  | h1 N n ih =>
    rw [kids_snoc, List.length_append, List.length_singleton]
    split
    · rw [length_insD]; omega
    · omega
end Go.Proofs.Ythjkcfpdkhghpaa
