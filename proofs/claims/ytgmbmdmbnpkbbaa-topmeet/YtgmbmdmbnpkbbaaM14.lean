/- Gb Gou Fg8 Fg9 Mx -/
import Derived.Test.YtgmbmdmbnpkbbaaM01
import Derived.Deep.OwnRows
import Derived.Maps.AppendAt
import Derived.Laws.AppendOwnNone
import Derived.RangeFuncBox
import Derived.Laws.BytesString
import Derived.Laws.BytesArg
import Derived.Test.YtgmbmdmbnpkbbaaM13
import Derived.Deep.DeepHandedRow
import Derived.Test.YtgmbmdmbnpkbbaaM08
namespace Go.Proofs.Ytgmbmdmbnpkbbaa
open Go.RowKit
theorem Addr.add_mid' (b o j : Nat) : (⟨b, o, none⟩ : Addr).add j = ⟨b, o + j, none⟩ := by unfold Addr.add; split <;> simp_all
structure Bytes (w : World) (x : Option Addr) (len cap : Nat) (z : List Int) : Prop where
  len_eq : len = z.length
  le : len ≤ cap
  top : cap ≤ 9223372036854775807
  nil : x = none → cap = 0
  at_ : len = 0 ∨ ∃ b off, x = some ⟨b, off, none⟩ ∧ ∀ j, j < len → w.cell? ⟨b, off + j, none⟩ = some (.int .u8 (z[j]?.getD 0))
theorem Bytes.below {w w' : World} {x : Option Addr} {len cap : Nat} {z : List Int} (h : Bytes w x len cap z) (hb : Below w.heap.size w w') : Bytes w' x len cap z :=
  ⟨h.len_eq, h.le, h.top, h.nil, by
    rcases h.at_ with h0 | ⟨b, off, hx, hc⟩
    · exact .inl h0
    · by_cases hl : len = 0
      · exact .inl hl
      · exact .inr ⟨b, off, hx, fun j hj => (hb.cell (p := ⟨b, off + j, none⟩) (block_lt_of_cell (hc j hj))).trans (hc j hj)⟩⟩
theorem bytes_nil (w : World) : Bytes w none 0 0 [] := ⟨rfl, by omega, by omega, fun _ => rfl, .inl rfl⟩
theorem infoU8 : (Try.prog.info? 5).map (fun i => (i.zero, i.size, i.bytes)) = some (some (.int .u8 0), 1, 1) := by kernel_rfl
def lenOf : Value → Nat | .slice _ n _ => n | _ => 0
def OwnB (w : World) (base : Nat) (v : Value) (z : List Int) : Prop := w.ownsRow base 5 1 v z.length (z.map (Value.int .u8))
theorem OwnB.cast {w : World} {base n : Nat} {v : Value} {z : List Int} {xs : List Value} (h : w.ownsRow base 5 1 v n xs) (hn : n = z.length) (hx : xs = z.map (Value.int .u8)) : OwnB w base v z := by
  subst hn hx; exact h
theorem wpList_app1 {w : World} {ops : Array Oper} {rest : List Oper} {o : Oper} {a : Act} {Q : Exit → Act → World → Prop} (hgd : o.guard = none) (s x : Operand)
    (ho : o.op = .call { callee := .builtin .append, args := #[s, x], argTypes := #[43, 43] }) (base : Nat) (v : Value) (zs : List Int) (hs : a.eval s = v) (c : Int) (hown : OwnB (w.alloc (.cells #[.int .u8 c] 5)) base v zs)
    (hx : a.eval x = .slice (some ⟨w.heap.size, 0, none⟩) 1 1) (hln : zs.length ≤ 4000000) (hbase : base ≤ w.heap.size)
    (h : ∀ v' w', OwnB w' base v' (zs ++ [c]) → (w.alloc (.cells #[.int .u8 c] 5)).grownBy w' v.ownBlock → wpList Try.prog ops Q rest (a.put o.dst v') w') : wpList Try.prog ops Q (o :: rest) a (w.alloc (.cells #[.int .u8 c] 5)) := by
  obtain ⟨i0, hi, hz0, hz1, hz2⟩ := info_parts infoU8
  refine wpList_append_own (w.alloc (.cells #[.int .u8 c] 5)) hgd s x 43 ho base 5 i0 (.int .u8 0) 1 1 Try.underlying43 hi hz0 hz1 hz2 rfl (by decide) v zs.length (zs.map (Value.int .u8)) hs hown ⟨w.heap.size, 0, none⟩ 1 1 [.int .u8 c] hx rfl (cell_one_new _ _ _) (by simp [Value.oneCell']) (by simp [maxLen]; omega) (by omega) (by simp; omega) ?_
  intro v' w' h1 h2 _
  exact h v' w' (OwnB.cast h1 (by simp) (by simp)) h2
theorem OwnB.nil (w : World) (base : Nat) : OwnB w base (.slice none 0 0) [] := World.ownsRow_nil w base 5 1
theorem OwnB.alloc {w : World} {base : Nat} {v : Value} {z : List Int} (h : OwnB w base v z) (o : Obj) : OwnB (w.alloc o) base v z := World.ownsRow.alloc h o
theorem OwnB.slice {w : World} {base : Nat} {v : Value} {z : List Int} (h : OwnB w base v z) (hz : 0 < z.length) : ∃ g cap, v = .slice (some ⟨g, 0, none⟩) z.length cap ∧ base ≤ g := by
  rcases h.2 with ⟨_, h0⟩ | ⟨g, cap, cur, rfl, hb, _⟩
  · omega
  · exact ⟨g, cap, rfl, hb⟩
theorem below_grown {base : Nat} {w0 w w' : World} {v : Value} {z : List Int} (hb : Below base w0 w) (hown : OwnB w base v z) (hg : w.grownBy w' v.ownBlock) (hbase : base ≤ w.heap.size) : Below base w0 w' :=
  hb.grown hg hbase (fun k hk => by
    rcases hown.2 with ⟨rfl, _⟩ | ⟨g, cap, cur, rfl, hb, _⟩
    · cases hk
    · simp [Value.ownBlock] at hk; omega)
theorem Holds.bytes {w : World} {g : Nat} {t : TypeId} {l : List Int} {n : Nat} (h : Holds w g .u8 t l) (hn : n = l.length) (hl : l.length ≤ 4000000) : Bytes w (some ⟨g, 0, none⟩) n n l := by
  subst hn
  exact ⟨rfl, Nat.le_refl _, by omega, (fun h => by cases h), .inr ⟨g, 0, rfl, fun j hj => by rw [Nat.zero_add]; exact h.cell j hj⟩⟩
theorem OwnB.bytes {w : World} {base : Nat} {x : Option Addr} {n cap : Nat} {z : List Int} (h : OwnB w base (.slice x n cap) z) : n = z.length ∧ Bytes w x n cap z := by
  rcases h.2 with ⟨h1, h0⟩ | ⟨g, cap', cur, h1, _, hg, hc, hm, hs, ht⟩
  · have hz : z = [] := List.length_eq_zero_iff.1 h0
    cases h1
    subst hz
    exact ⟨rfl, bytes_nil w⟩
  · cases h1
    refine ⟨rfl, rfl, hc, by simpa [maxLen] using hm, (fun h => by cases h), .inr ⟨g, 0, rfl, fun j hj => ?_⟩⟩
    rw [Nat.zero_add, cell_of_row w g j _ _ _ hg, ← Array.getElem?_toList]
    have e : (cur.toList.take (z.length * 1))[j]? = (z.map (Value.int .u8))[j]? := by rw [ht]
    rw [Nat.mul_one, List.getElem?_take_of_lt hj, List.getElem?_map, List.getElem?_eq_getElem hj] at e
    rw [e, List.getElem?_eq_getElem hj]; rfl
theorem OwnB.isSlice {w : World} {base : Nat} {v : Value} {z : List Int} (h : OwnB w base v z) : ∃ x n c, v = .slice x n c ∧ n = z.length := by
  rcases h.2 with ⟨rfl, h0⟩ | ⟨g, cap, cur, rfl, _⟩
  · exact ⟨none, 0, 0, rfl, h0.symm⟩
  · exact ⟨_, _, _, rfl, rfl⟩
theorem conv_bytes {w : World} {x : Option Addr} {len cap : Nat} {z : List Int} (h : Bytes w x len cap z) : (convert 43 9 (.slice x len cap)).run Try.prog w = .ok (.string (strOfNums z)) w := by
  rw [run_convert_bytes_string w 43 9 5 x len cap Try.underlying43 Try.underlying5 Try.underlying9]
  have hz := h.len_eq
  have hcase : ∀ a : Addr, x = some a → (∀ j u, (z.map (Value.int .u8))[j]? = some u → w.cell? (a.add j) = some u) → (Conv.bytesToString (.slice x len cap)).run Try.prog w = .ok (.string (strOfNums z)) w := fun a hx hsrc => by
    subst hx
    have hl := run_loadCells_list (P := Try.prog) w a (z.map (Value.int .u8)) hsrc
    rw [List.length_map, ← hz] at hl
    rw [run_bytesToString w a len cap z hl, foldl_push_bytes]
    simp [strOfNums]
  rcases h.at_ with h0 | ⟨b, off, hx, hc⟩
  · have hz0 : z = [] := List.length_eq_zero_iff.1 (by omega)
    cases x with
    | none =>
      subst hz0 h0
      simp only [Conv.bytesToString, Sem.run_pure]; rfl
    | some a => exact hcase a rfl (fun j u hu => by subst hz0; simp at hu)
  · exact hcase _ hx (fun j u hu => by
      have hj : j < len := by have := (List.getElem?_eq_some_iff.1 hu).1; simpa [hz] using this
      rw [Addr.add_mid', hc j hj, ← hu, List.getElem?_map, List.getElem?_eq_getElem (by omega)]; rfl)
theorem Bytes.few {w : World} {x : Option Addr} {len cap : Nat} {z : List Int} (h : Bytes w x len cap z) (n : Nat) : Bytes w x (min len n) cap (z.take n) := by
  have hz := h.len_eq
  refine ⟨by rw [List.length_take]; omega, by have := h.le; omega, h.top, h.nil, ?_⟩
  rcases h.at_ with h0 | ⟨b, off, hx, hc⟩
  · exact .inl (by omega)
  · exact .inr ⟨b, off, hx, fun j hj => by rw [List.getElem?_take_of_lt (by omega)]; exact hc j (by omega)⟩
theorem Bytes.drewN {w : World} {x : Option Addr} {len cap : Nat} {z : List Int} (h : Bytes w x len cap z) (n : Nat) : Bytes (w.drewN n) x len cap z := h.below (below_drewN (Below.refl _ _) n)
open Go.ChangeShapes Go.WideShapes Go.ChangeAt Go.RowKit
theorem cellsU8 : Try.prog.cellsOf 5 = 1 := by kernel_rfl
theorem open_bytes {H : Type} {enc : TypeId × Value → H} {W : World} {x : Option Addr} {len cap : Nat} {d : DataW H} {p : List MemPlace} (h : DataW.Trod enc Try.prog W 0 (fun _ => true) true 43 (.slice x len cap) d p) :
    ∃ z, Bytes W x len cap z ∧ (∀ v ∈ z, 0 ≤ v ∧ v ≤ 255) := by
  obtain ⟨fuel, hf⟩ := h
  rcases open_ints Try.underlying43 Try.underlying5 cellsU8 hf with ⟨hcs, _⟩ | ⟨a, l, c, zs, hcs, _, hl, hm, hz, _, hcell, hwz⟩
  · simp [Value.cells] at hcs
    obtain ⟨rfl, rfl, rfl⟩ := hcs
    exact ⟨[], bytes_nil W, by simp⟩
  · simp [Value.cells] at hcs
    obtain ⟨rfl, rfl, rfl⟩ := hcs
    simp only [if_true] at hz
    refine ⟨zs.take len, ⟨by simp; omega, hl, by simpa [maxLen] using hm, (fun h => by cases h), ?_⟩, fun v hv => bounds_u8 (hwz v (List.mem_of_mem_take hv))⟩
    by_cases h0 : len = 0
    · exact .inl h0
    · obtain ⟨b, off, rfl, hc⟩ := ints_at hcell (by omega)
      refine .inr ⟨b, off, rfl, fun j hj => ?_⟩
      have := hc j (by omega)
      rw [List.getElem?_take_of_lt hj]
      rw [List.getD_eq_getElem?_getD] at this
      exact this
def aheadD (x y : Int × Int) : Prop := x.1 < y.1 ∨ x.1 = y.1 ∧ x.2 < y.2
theorem cmpD_neg (x y : Int × Int) : cmpD x y < 0 ↔ aheadD x y := by
  unfold cmpD aheadD cmpI
  repeat' split
  all_goals omega
theorem aheadD.trans {x y z : Int × Int} (h : aheadD x y) (h' : aheadD y z) : aheadD x z := by unfold aheadD at *; omega
theorem aheadD.irrefl (x : Int × Int) : ¬ aheadD x x := by unfold aheadD; omega
theorem aheadD_or {x y : Int × Int} (h : x ≠ y) : aheadD x y ∨ aheadD y x := by
  obtain ⟨a, b⟩ := x
  obtain ⟨c, d⟩ := y
  have : ¬ (a = c ∧ b = d) := fun e => h (by rw [e.1, e.2])
  unfold aheadD
  simp only
  omega
abbrev inOrderD (ds : List (Int × Int)) : Prop := ds.Pairwise aheadD
theorem inOrderD.mono {ds : List (Int × Int)} (h : inOrderD ds) (t : Int × Int) (i j : Nat) (hj : j < ds.length) (hij : i ≤ j) (hc : cmpD ds[j] t < 0) : cmpD (ds[i]'(by omega)) t < 0 := by
  rcases Nat.lt_or_eq_of_le hij with h1 | rfl
  · exact (cmpD_neg _ _).2 ((List.pairwise_iff_getElem.1 h i j (by omega) hj h1).trans ((cmpD_neg _ _).1 hc))
  · exact hc
def insD (ds : List (Int × Int)) (t : Int × Int) : List (Int × Int) := ds.take (posD ds t) ++ [t] ++ ds.drop (posD ds t)
theorem insD_nil (t : Int × Int) : insD [] t = [t] := rfl
theorem insD_cons (a t : Int × Int) (ds : List (Int × Int)) : insD (a :: ds) t = if cmpD a t < 0 then a :: insD ds t else t :: a :: ds := by
  unfold insD posD
  by_cases h : cmpD a t < 0
  · rw [List.takeWhile_cons_of_pos (by simpa using h), if_pos h]; simp
  · rw [List.takeWhile_cons_of_neg (by simpa using h), if_neg h]; simp
theorem mem_insD {ds : List (Int × Int)} {t x : Int × Int} : x ∈ insD ds t ↔ x = t ∨ x ∈ ds := by
  induction ds with
  | nil => simp [insD_nil]
  | cons a ds ih =>
    rw [insD_cons]
    split
    · rw [List.mem_cons, ih, List.mem_cons]
      constructor
      · rintro (h | h | h)
        · exact .inr (.inl h)
        · exact .inl h
        · exact .inr (.inr h)
      · rintro (h | h | h)
        · exact .inr (.inl h)
        · exact .inl h
        · exact .inr (.inr h)
    · exact List.mem_cons
theorem length_insD (ds : List (Int × Int)) (t : Int × Int) : (insD ds t).length = ds.length + 1 := by
  induction ds with
  | nil => rfl
  | cons a ds ih => rw [insD_cons]; split <;> simp [ih]
theorem sorted_insD {ds : List (Int × Int)} (h : inOrderD ds) (t : Int × Int) (hn : t ∉ ds) : inOrderD (insD ds t) := by
  induction ds with
  | nil => rw [insD_nil]; exact List.pairwise_singleton _ _
  | cons a ds ih =>
    obtain ⟨h1, h2⟩ := List.pairwise_cons.1 h
    rw [insD_cons]
    split
    · next hc =>
      refine List.pairwise_cons.2 ⟨fun x hx => ?_, ih h2 (fun e => hn (List.mem_cons_of_mem _ e))⟩
      rcases mem_insD.1 hx with rfl | hx
      · exact (cmpD_neg _ _).1 hc
      · exact h1 x hx
    · next hc =>
      have hlt : aheadD t a := by
        rcases aheadD_or (x := t) (y := a) (fun e => hn (by rw [e]; exact List.mem_cons_self)) with h | h
        · exact h
        · exact absurd ((cmpD_neg _ _).2 h) hc
      refine List.pairwise_cons.2 ⟨fun x hx => ?_, h⟩
      rcases List.mem_cons.1 hx with rfl | hx
      · exact hlt
      · exact hlt.trans (h1 x hx)
theorem posD_le (ds : List (Int × Int)) (t : Int × Int) : posD ds t ≤ ds.length := (List.takeWhile_prefix _).length_le
theorem map_insD (ds : List (Int × Int)) (t : Int × Int) : (ds.map encF).take (posD ds t) ++ [encF t] ++ (ds.map encF).drop (posD ds t) = (insD ds t).map encF := by
  simp [insD]
structure Nd where
  id : Int × Int
  side : (Int × Int) × Bool
  chr : Int
deriving DecidableEq
def kids (N : List Nd) (s : (Int × Int) × Bool) : List (Int × Int) := N.foldl (fun l n => if n.side = s then insD l n.id else l) []
theorem kids_nil (s : (Int × Int) × Bool) : kids [] s = [] := rfl
theorem kids_snoc (N : List Nd) (n : Nd) (s : (Int × Int) × Bool) : kids (N ++ [n]) s = if n.side = s then insD (kids N s) n.id else kids N s := by
  unfold kids; rw [List.foldl_append]; rfl
theorem snoc_ind {α : Type} {p : List α → Prop} (h0 : p []) (h1 : ∀ l a, p l → p (l ++ [a])) (l : List α) : p l := by
  have : ∀ l : List α, p l.reverse := fun l => by
    induction l with
    | nil => exact h0
    | cons a l ih => rw [List.reverse_cons]; exact h1 _ _ ih
  have h := this l.reverse
  rwa [List.reverse_reverse] at h
theorem mem_kids {N : List Nd} {s : (Int × Int) × Bool} {x : Int × Int} : x ∈ kids N s ↔ ∃ n ∈ N, n.side = s ∧ n.id = x := by
  induction N using snoc_ind with
  | h0 => simp [kids_nil]
  | h1 N n ih =>
    rw [kids_snoc]
    split
    · next h =>
      rw [mem_insD, ih]
      constructor
      · rintro (h' | ⟨m, hm, h'⟩)
        · exact ⟨n, by simp, h, h'.symm⟩
        · exact ⟨m, by simp [hm], h'⟩
      · rintro ⟨m, hm, h1, h2⟩
        rcases List.mem_append.1 hm with hm | hm
        · exact .inr ⟨m, hm, h1, h2⟩
        · rw [List.mem_singleton.1 hm] at h2; exact .inl h2.symm
    · next h =>
      rw [ih]
      constructor
      · rintro ⟨m, hm, h'⟩
        exact ⟨m, by simp [hm], h'⟩
      · rintro ⟨m, hm, h1, h2⟩
        rcases List.mem_append.1 hm with hm | hm
        · exact ⟨m, hm, h1, h2⟩
        · rw [List.mem_singleton.1 hm] at h1; exact absurd h1 h
theorem kids_order {N : List Nd} (hN : (N.map (·.id)).Nodup) (s : (Int × Int) × Bool) : inOrderD (kids N s) := by
  induction N using snoc_ind with
  | h0 => exact List.Pairwise.nil
  | h1 N n ih =>
    rw [List.map_append, List.nodup_append] at hN
    obtain ⟨h1, _, h3⟩ := hN
    rw [kids_snoc]
    split
    · refine sorted_insD (ih h1) _ fun e => ?_
      obtain ⟨m, hm, _, e⟩ := mem_kids.1 e
      exact h3 m.id (List.mem_map_of_mem hm) n.id (by simp) e
    · exact ih h1
theorem kids_few (N : List Nd) (s : (Int × Int) × Bool) : (kids N s).length ≤ N.length := by
  induction N using snoc_ind with
  | h0 => simp [kids_nil]
  | h1 N n ih =>
    rw [kids_snoc, List.length_append, List.length_singleton]
    split
    · rw [length_insD]; omega
    · omega
set_option maxRecDepth 20000
set_option linter.unusedSectionVars false
section
variable {P : Program} {kt : TypeId} {α : Type} [DecidableEq α] {enc : α → Value} {ok : α → Prop}
def MapX (P : Program) (kt : TypeId) (enc : α → Value) (ok : α → Prop) (w : World) (b n : Nat) (M : α → Option Value) : Prop :=
  ∃ D : DataW Value, w.ownsMap P kt rawE b n D ∧ Maps.size D = n ∧ ∀ x, ok x → ∀ l, keyOf P kt (enc x) = some l → ∀ z, D.atKey l z = (match M x with | some v => .held v | none => z)
theorem MapX.g {w : World} {b n : Nat} {M : α → Option Value} (h : MapX P kt enc ok w b n M) : MapG P kt enc ok w b n M := by
  obtain ⟨D, h, _, h'⟩ := h
  exact ⟨D, h, h'⟩
theorem MapX.made (w : World) : MapX P kt enc ok (w.alloc (.map #[] 0)) w.heap.size 0 (fun _ => none) := ⟨_, World.ownsMap_made w _ _ _, rfl, fun _ _ _ _ _ => rfl⟩
theorem MapX.lt {w : World} {b n : Nat} {M : α → Option Value} (h : MapX P kt enc ok w b n M) : b < w.heap.size := h.g.lt
theorem MapX.congr {w w' : World} {b n : Nat} {M : α → Option Value} (h : MapX P kt enc ok w b n M) (he : w'.heap[b]? = w.heap[b]?) : MapX P kt enc ok w' b n M := by
  obtain ⟨D, ⟨es, cl, hb, r⟩, hM⟩ := h
  exact ⟨D, ⟨es, cl, he.trans hb, r⟩, hM⟩
theorem MapX.len {w : World} {b n : Nat} {M : α → Option Value} (h : MapX P kt enc ok w b n M) {t e : TypeId} (ht : P.underlying t = some (.map kt e)) (ty : TypeId) : (Builtin.len_ #[t] ty #[.map (some b)]).run P w = .ok (.int .i64 n) w := by
  obtain ⟨D, hD, hsz, _⟩ := h
  rw [hD.len ht ty, hsz]
theorem MapX.store (K : KeyEnc P kt enc ok) {w : World} {b n : Nat} {M : α → Option Value} (h : MapX P kt enc ok w b n M) {t e : TypeId} (ht : P.underlying t = some (.map kt e)) (hn : n < maxLen) (x : α) (hx : ok x) (v : Value) :
    ∃ w', (Instr.mapUpdate t (.map (some b)) (enc x) v).run P w = .ok () w' ∧ MapX P kt enc ok w' b (if (M x).isSome then n else n + 1) (putG M x v) ∧ w.grownBy w' (some b) := by
  obtain ⟨D, hD, hsz, hM⟩ := h
  obtain ⟨l, hl⟩ := K.has x hx
  have h2 := hM x hx l hl
  have h1 : Maps.has D l = (M x).isSome := by
    cases hv : M x with
    | none => exact Maps.has_false_of_atKey fun z => by rw [h2, hv]
    | some v => exact Maps.has_true_of_atKey (y := .held v) fun z => by rw [h2, hv]
  obtain ⟨w', hrun, hown, ht'⟩ := hD.store K.keyed ht hn hl (d := .held v) (ps := []) rfl
  have hs := Maps.size_put (k := l) (hD.tidy K.keyed) (.held v)
  rw [h1, hsz] at hs
  have hown' := owns_tight hown
  rw [hs] at hown'
  refine ⟨w', hrun, ⟨_, hown', hs, fun y hy ly hly z => ?_⟩, ht'.grown⟩
  unfold putG
  by_cases e : y = x
  · subst e
    obtain rfl : ly = l := by rw [hl] at hly; injection hly with h; exact h.symm
    rw [if_pos rfl, Maps.atKey_put_same hD.isMap (K.keyed.key hl)]
  · rw [if_neg e, Maps.atKey_put_other (fun q : ly = l => e (K.lit_inj hy hx hly (by rw [q]; exact hl))), hM y hy ly hly]
end
end Go.Proofs.Ytgmbmdmbnpkbbaa
