/- GoU Fg8 Fg9 Mx -/
import Derived.Test.YtnmjplngbleopaaF05
import Derived.Test.YtnmjplngbleopaaF12
namespace Go.Proofs.Ytnmjplngbleopaa
open Go.ChangeShapes Go.WideShapes Go.ChangeAt Go.RowKit
set_option maxRecDepth 20000
set_option linter.unusedSimpArgs false
structure Dd8 where
  kind : Int
  id : Int × Int
  par : Int × Int
  right : Bool
  chr : Int
def Dd8.cells (d : Dd8) : List Value := [.int .i64 d.kind] ++ encF d.id ++ encF d.par ++ [.bool d.right] ++ [.int .u8 d.chr]
structure Dd8.Ok (d : Dd8) : Prop where
  id : okDF d.id
  par : okDF d.par
  chr : 0 ≤ d.chr ∧ d.chr ≤ 255
theorem deed_of_trod {H : Type} {enc : TypeId × Value → H} {W : World} {fuel : Nat} {l : List Value} {x : DataW H × List MemPlace} (h : DataW.trod enc Try.prog W 0 (fun _ => true) true fuel 34 l = some x) : ∃ E : Dd8, l = E.cells ∧ E.Ok := by
  obtain ⟨xs, m, _, _, hl, hlen, hfd⟩ := DataW.trod_struct Try.underlying34 h
  have hc : Try.prog.cellsOf 34 = 7 := by kernel_rfl
  have h8 : Try.prog.cellsOf 5 = 1 := by kernel_rfl
  have hi1 : Try.prog.cellsOf 3 = 1 := by kernel_rfl
  have hb1 : Try.prog.cellsOf 4 = 1 := by kernel_rfl
  have hd : Try.prog.cellsOf 32 = 2 := by kernel_rfl
  rw [hc] at hl
  have g0 : DataW.trod enc Try.prog W 0 (fun _ => true) true m 3 (List.take (Try.prog.cellsOf 3) (List.drop 0 l)) = xs[0]? := hfd 0 _ rfl
  have g1 : DataW.trod enc Try.prog W 0 (fun _ => true) true m 32 (List.take (Try.prog.cellsOf 32) (List.drop 1 l)) = xs[1]? := hfd 1 _ rfl
  have g2 : DataW.trod enc Try.prog W 0 (fun _ => true) true m 32 (List.take (Try.prog.cellsOf 32) (List.drop 3 l)) = xs[2]? := hfd 2 _ rfl
  have g3 : DataW.trod enc Try.prog W 0 (fun _ => true) true m 4 (List.take (Try.prog.cellsOf 4) (List.drop 5 l)) = xs[3]? := hfd 3 _ rfl
  have g4 : DataW.trod enc Try.prog W 0 (fun _ => true) true m 5 (List.take (Try.prog.cellsOf 5) (List.drop 6 l)) = xs[4]? := hfd 4 _ rfl
  simp only [List.size_toArray, List.length_cons, List.length_nil, Nat.reduceAdd] at hlen
  rw [hi1, List.getElem?_eq_getElem (by omega)] at g0
  rw [hd, List.getElem?_eq_getElem (by omega)] at g1 g2
  rw [hb1, List.getElem?_eq_getElem (by omega)] at g3
  rw [h8, List.getElem?_eq_getElem (by omega)] at g4
  obtain ⟨k, ek, _, _⟩ := DataW.trod_int Try.underlying3 g0
  obtain ⟨a, s, ed, wd⟩ := dot_of_trodC g1
  obtain ⟨pa, ps, ep, wp⟩ := dot_of_trodC g2
  obtain ⟨b, eb, _⟩ := DataW.trod_bool Try.underlying4 g3
  obtain ⟨c, ec, _, wc⟩ := DataW.trod_int Try.underlying5 g4
  refine ⟨⟨k, (a, s), (pa, ps), b, c⟩, ?_, ⟨⟨wd.1, wd.2⟩, ⟨wp.1, wp.2⟩, wfU8 wc⟩⟩
  show l = [.int .i64 k] ++ dotC a s ++ dotC pa ps ++ [.bool b] ++ [.int .u8 c]
  rw [← ek, ← ed, ← ep, ← eb, ← ec, List.drop_zero]
  have sp : ∀ a n m : Nat, a + n = m → l.take a ++ (l.drop a).take n = l.take m := fun a n m h => by rw [← h, List.take_add]
  rw [sp 1 2 3 rfl, sp 3 2 5 rfl, sp 5 1 6 rfl, sp 6 1 7 rfl, List.take_of_length_le (by omega)]
structure DeedsAt (w : World) (x : Option Addr) (len cap : Nat) (ds : List Dd8) : Prop where
  len_eq : len = ds.length
  le : len ≤ cap
  top : cap ≤ 9223372036854775807
  at_ : len = 0 ∨ ∃ b off, x = some ⟨b, off, none⟩ ∧ ∀ j (hj : j < ds.length) (i : Nat) v, ds[j].cells[i]? = some v → w.cell? ⟨b, off + j * 7 + i, none⟩ = some v
  ok : ∀ d ∈ ds, d.Ok
theorem DeedsAt.below {w w' : World} {x : Option Addr} {len cap : Nat} {ds : List Dd8} (h : DeedsAt w x len cap ds) (hb : Below w.heap.size w w') : DeedsAt w' x len cap ds :=
  ⟨h.len_eq, h.le, h.top, by
    rcases h.at_ with h0 | ⟨b, off, hx, hc⟩
    · exact .inl h0
    · refine .inr ⟨b, off, hx, fun j hj i v hv => ?_⟩
      have := hc j hj i v hv
      exact (hb.cell (p := ⟨b, off + j * 7 + i, none⟩) (block_lt_of_cell this)).trans this, h.ok⟩
theorem deeds_of_trod {H : Type} {enc : TypeId × Value → H} {W : World} {fuel : Nat} {cs : List Value} {x : DataW H × List MemPlace} (h : DataW.trod enc Try.prog W 0 (fun _ => true) true fuel 22 cs = some x) : ∃ y len cap ds, cs = [.slice y len cap] ∧ DeedsAt W y len cap ds := by
  have hc : Try.prog.cellsOf 34 = 7 := by kernel_rfl
  rcases DataW.trod_slice Try.underlying22 h with ⟨hcs, _⟩ | ⟨a, len, cap, elems, rest, m, _, hcs, _, _, hl, hm, hlen, hel, _⟩
  · exact ⟨none, 0, 0, [], hcs, ⟨rfl, by omega, by omega, .inl rfl, (fun e he => by cases he)⟩⟩
  · have each : ∀ i, i < len → ∃ e : Dd8, (∀ (j : Nat) v, e.cells[j]? = some v → W.cell? ((a.add (i * 7)).add j) = some v) ∧ e.Ok := fun i hi => by
      have h1 := hel i hi
      rw [hc, List.getElem?_eq_getElem (by omega), Option.bind_eq_some_iff] at h1
      obtain ⟨ci, hci, hti⟩ := h1
      obtain ⟨e, rfl, hin⟩ := deed_of_trod hti
      have hs := World.cells?_some hci
      refine ⟨e, fun j v hv => ?_, hin⟩
      have hj : j < 7 := by
        have := (List.getElem?_eq_some_iff.1 hv).1
        have := hs.2.1
        omega
      rw [hs.2.2 j hj]; exact hv
    obtain ⟨ds, hdl, hds⟩ := exists_listC len _ each
    refine ⟨some a, len, cap, ds, hcs, ⟨hdl.symm, hl, by simpa [maxLen] using hm, ?_, fun e he => ?_⟩⟩
    · by_cases h0 : len = 0
      · exact .inl h0
      · obtain ⟨b, off, spot⟩ := a
        obtain ⟨hl0, h00, _⟩ := hds 0 (by omega)
        have h00 := h00 0 (.int .i64 (ds[0]).kind) rfl
        have hspot : spot = none := by
          have := World.cell?_spot h00
          simpa [Addr.add] using this
        subst hspot
        refine .inr ⟨b, off, rfl, fun j hj i v hv => ?_⟩
        obtain ⟨_, hj2, _⟩ := hds j (by omega)
        have := hj2 i v hv
        rw [addC_mid, addC_mid] at this
        exact this
    · obtain ⟨i, hi, rfl⟩ := List.mem_iff_getElem.1 he
      obtain ⟨_, _, h2⟩ := hds i (by omega)
      exact h2
theorem open_deeds {H : Type} {enc : TypeId × Value → H} {W : World} {x : Option Addr} {len cap : Nat} {d : DataW H} {p : List MemPlace} (h : DataW.Trod enc Try.prog W 0 (fun _ => true) true 22 (.slice x len cap) d p) : ∃ ds, DeedsAt W x len cap ds := by
  obtain ⟨fuel, hf⟩ := h
  obtain ⟨y, l, c, ds, hcs, hd⟩ := deeds_of_trod hf
  simp [Value.cells] at hcs
  obtain ⟨rfl, rfl, rfl⟩ := hcs
  exact ⟨ds, hd⟩
def aheadD (x y : Int × Int) : Prop := x.1 < y.1 ∨ x.1 = y.1 ∧ x.2 < y.2
theorem cmpD_neg (x y : Int × Int) : cmpD x y < 0 ↔ aheadD x y := by
  unfold cmpD aheadD cmpI
  repeat' split
  all_goals omega
theorem aheadD.trans {x y z : Int × Int} (h : aheadD x y) (h' : aheadD y z) : aheadD x z := by unfold aheadD at *; omega
theorem aheadD.irrefl (x : Int × Int) : ¬ aheadD x x := by unfold aheadD; omega
theorem aheadD_or {x y : Int × Int} (h : x ≠ y) : aheadD x y ∨ aheadD y x := by
  obtain ⟨a, b⟩ := x
  obtain ⟨c, d⟩ := y
  have : ¬ (a = c ∧ b = d) := fun e => h (by rw [e.1, e.2])
  unfold aheadD
  simp only
  omega
abbrev inOrderD (ds : List (Int × Int)) : Prop := ds.Pairwise aheadD
theorem inOrderD.mono {ds : List (Int × Int)} (h : inOrderD ds) (t : Int × Int) (i j : Nat) (hj : j < ds.length) (hij : i ≤ j) (hc : cmpD ds[j] t < 0) : cmpD (ds[i]'(by omega)) t < 0 := by
  rcases Nat.lt_or_eq_of_le hij with h1 | rfl
  · exact (cmpD_neg _ _).2 ((List.pairwise_iff_getElem.1 h i j (by omega) hj h1).trans ((cmpD_neg _ _).1 hc))
  · exact hc
def insD (ds : List (Int × Int)) (t : Int × Int) : List (Int × Int) := ds.take (posD ds t) ++ [t] ++ ds.drop (posD ds t)
theorem insD_nil (t : Int × Int) : insD [] t = [t] := rfl
theorem insD_cons (a t : Int × Int) (ds : List (Int × Int)) : insD (a :: ds) t = if cmpD a t < 0 then a :: insD ds t else t :: a :: ds := by
  unfold insD posD
  by_cases h : cmpD a t < 0
  · rw [List.takeWhile_cons_of_pos (by simpa using h), if_pos h]; simp
  · rw [List.takeWhile_cons_of_neg (by simpa using h), if_neg h]; simp
theorem mem_insD {ds : List (Int × Int)} {t x : Int × Int} : x ∈ insD ds t ↔ x = t ∨ x ∈ ds := by
  induction ds with
  | nil => simp [insD_nil]
  | cons a ds ih =>
    rw [insD_cons]
    split
    · rw [List.mem_cons, ih, List.mem_cons]
      constructor
      · rintro (h | h | h)
        · exact .inr (.inl h)
        · exact .inl h
        · exact .inr (.inr h)
      · rintro (h | h | h)
        · exact .inr (.inl h)
        · exact .inl h
        · exact .inr (.inr h)
    · exact List.mem_cons
theorem length_insD (ds : List (Int × Int)) (t : Int × Int) : (insD ds t).length = ds.length + 1 := by
  induction ds with
  | nil => rfl
  | cons a ds ih => rw [insD_cons]; split <;> simp [ih]
theorem sorted_insD {ds : List (Int × Int)} (h : inOrderD ds) (t : Int × Int) (hn : t ∉ ds) : inOrderD (insD ds t) := by
  induction ds with
  | nil => rw [insD_nil]; exact List.pairwise_singleton _ _
  | cons a ds ih =>
    obtain ⟨h1, h2⟩ := List.pairwise_cons.1 h
    rw [insD_cons]
    split
    · next hc =>
      refine List.pairwise_cons.2 ⟨fun x hx => ?_, ih h2 (fun e => hn (List.mem_cons_of_mem _ e))⟩
      rcases mem_insD.1 hx with rfl | hx
      · exact (cmpD_neg _ _).1 hc
      · exact h1 x hx
    · next hc =>
      have hlt : aheadD t a := by
        rcases aheadD_or (x := t) (y := a) (fun e => hn (by rw [e]; exact List.mem_cons_self)) with h | h
        · exact h
        · exact absurd ((cmpD_neg _ _).2 h) hc
      refine List.pairwise_cons.2 ⟨fun x hx => ?_, h⟩
      rcases List.mem_cons.1 hx with rfl | hx
      · exact hlt
      · exact hlt.trans (h1 x hx)
theorem posD_le (ds : List (Int × Int)) (t : Int × Int) : posD ds t ≤ ds.length := (List.takeWhile_prefix _).length_le
theorem map_insD (ds : List (Int × Int)) (t : Int × Int) : (ds.map encF).take (posD ds t) ++ [encF t] ++ (ds.map encF).drop (posD ds t) = (insD ds t).map encF := by
  simp [insD]
structure Nd where
  id : Int × Int
  side : (Int × Int) × Bool
  chr : Int
deriving DecidableEq
def kids (N : List Nd) (s : (Int × Int) × Bool) : List (Int × Int) := N.foldl (fun l n => if n.side = s then insD l n.id else l) []
theorem kids_nil (s : (Int × Int) × Bool) : kids [] s = [] := rfl
theorem kids_snoc (N : List Nd) (n : Nd) (s : (Int × Int) × Bool) : kids (N ++ [n]) s = if n.side = s then insD (kids N s) n.id else kids N s := by
  unfold kids; rw [List.foldl_append]; rfl
theorem snoc_ind {α : Type} {p : List α → Prop} (h0 : p []) (h1 : ∀ l a, p l → p (l ++ [a])) (l : List α) : p l := by
  have : ∀ l : List α, p l.reverse := fun l => by
    induction l with
    | nil => exact h0
    | cons a l ih => rw [List.reverse_cons]; exact h1 _ _ ih
  have h := this l.reverse
  rwa [List.reverse_reverse] at h
theorem mem_kids {N : List Nd} {s : (Int × Int) × Bool} {x : Int × Int} : x ∈ kids N s ↔ ∃ n ∈ N, n.side = s ∧ n.id = x := by
  induction N using snoc_ind with
  | h0 => simp [kids_nil]
  | h1 N n ih =>
    rw [kids_snoc]
    split
    · next h =>
      rw [mem_insD, ih]
      constructor
      · rintro (h' | ⟨m, hm, h'⟩)
        · exact ⟨n, by simp, h, h'.symm⟩
        · exact ⟨m, by simp [hm], h'⟩
      · rintro ⟨m, hm, h1, h2⟩
        rcases List.mem_append.1 hm with hm | hm
        · exact .inr ⟨m, hm, h1, h2⟩
        · rw [List.mem_singleton.1 hm] at h2; exact .inl h2.symm
    · next h =>
      rw [ih]
      constructor
      · rintro ⟨m, hm, h'⟩
        exact ⟨m, by simp [hm], h'⟩
      · rintro ⟨m, hm, h1, h2⟩
        rcases List.mem_append.1 hm with hm | hm
        · exact ⟨m, hm, h1, h2⟩
        · rw [List.mem_singleton.1 hm] at h1; exact absurd h1 h
theorem kids_order {N : List Nd} (hN : (N.map (·.id)).Nodup) (s : (Int × Int) × Bool) : inOrderD (kids N s) := by
  induction N using snoc_ind with
  | h0 => exact List.Pairwise.nil
  | h1 N n ih =>
    rw [List.map_append, List.nodup_append] at hN
    obtain ⟨h1, _, h3⟩ := hN
    rw [kids_snoc]
    split
    · refine sorted_insD (ih h1) _ fun e => ?_
      obtain ⟨m, hm, _, e⟩ := mem_kids.1 e
      exact h3 m.id (List.mem_map_of_mem hm) n.id (by simp) e
    · exact ih h1
theorem kids_few (N : List Nd) (s : (Int × Int) × Bool) : (kids N s).length ≤ N.length := by
  induction N using snoc_ind with
  | h0 => simp [kids_nil]
  | h1 N n ih =>
    rw [kids_snoc, List.length_append, List.length_singleton]
    split
    · rw [length_insD]; omega
    · omega
open Go.RowKit
set_option linter.unusedSectionVars false
section
variable {P : Program} {kt : TypeId} {α : Type} [DecidableEq α] {enc : α → Value} {ok : α → Prop}
def MapX (P : Program) (kt : TypeId) (enc : α → Value) (ok : α → Prop) (w : World) (b n : Nat) (M : α → Option Value) : Prop :=
  ∃ D : DataW Value, w.ownsMap P kt rawE b n D ∧ Maps.size D = n ∧ ∀ x, ok x → ∀ l, keyOf P kt (enc x) = some l → ∀ z, D.atKey l z = (match M x with | some v => .held v | none => z)
theorem MapX.g {w : World} {b n : Nat} {M : α → Option Value} (h : MapX P kt enc ok w b n M) : MapG P kt enc ok w b n M := by
  obtain ⟨D, h, _, h'⟩ := h
  exact ⟨D, h, h'⟩
theorem MapX.made (w : World) : MapX P kt enc ok (w.alloc (.map #[] 0)) w.heap.size 0 (fun _ => none) := ⟨_, World.ownsMap_made w _ _ _, rfl, fun _ _ _ _ _ => rfl⟩
theorem MapX.lt {w : World} {b n : Nat} {M : α → Option Value} (h : MapX P kt enc ok w b n M) : b < w.heap.size := h.g.lt
theorem MapX.congr {w w' : World} {b n : Nat} {M : α → Option Value} (h : MapX P kt enc ok w b n M) (he : w'.heap[b]? = w.heap[b]?) : MapX P kt enc ok w' b n M := by
  obtain ⟨D, ⟨es, cl, hb, r⟩, hM⟩ := h
  exact ⟨D, ⟨es, cl, he.trans hb, r⟩, hM⟩
theorem MapX.len {w : World} {b n : Nat} {M : α → Option Value} (h : MapX P kt enc ok w b n M) {t e : TypeId} (ht : P.underlying t = some (.map kt e)) (ty : TypeId) : (Builtin.len_ #[t] ty #[.map (some b)]).run P w = .ok (.int .i64 n) w := by
  obtain ⟨D, hD, hsz, _⟩ := h
  rw [hD.len ht ty, hsz]
theorem MapX.store (K : KeyEnc P kt enc ok) {w : World} {b n : Nat} {M : α → Option Value} (h : MapX P kt enc ok w b n M) {t e : TypeId} (ht : P.underlying t = some (.map kt e)) (hn : n < maxLen) (x : α) (hx : ok x) (v : Value) :
    ∃ w', (Instr.mapUpdate t (.map (some b)) (enc x) v).run P w = .ok () w' ∧ MapX P kt enc ok w' b (if (M x).isSome then n else n + 1) (putG M x v) ∧ w.grownBy w' (some b) := by
  obtain ⟨D, hD, hsz, hM⟩ := h
  obtain ⟨l, hl⟩ := K.has x hx
  have h2 := hM x hx l hl
  have h1 : Maps.has D l = (M x).isSome := by
    cases hv : M x with
    | none => exact Maps.has_false_of_atKey fun z => by rw [h2, hv]
    | some v => exact Maps.has_true_of_atKey (y := .held v) fun z => by rw [h2, hv]
  obtain ⟨w', hrun, hown, ht'⟩ := hD.store K.keyed ht hn hl (d := .held v) (ps := []) rfl
  have hs := Maps.size_put (k := l) (hD.tidy K.keyed) (.held v)
  rw [h1, hsz] at hs
  have hown' := owns_tight hown
  rw [hs] at hown'
  refine ⟨w', hrun, ⟨_, hown', hs, fun y hy ly hly z => ?_⟩, ht'.grown⟩
  unfold putG
  by_cases e : y = x
  · subst e
    obtain rfl : ly = l := by rw [hl] at hly; injection hly with h; exact h.symm
    rw [if_pos rfl, Maps.atKey_put_same hD.isMap (K.keyed.key hl)]
  · rw [if_neg e, Maps.atKey_put_other (fun q : ly = l => e (K.lit_inj hy hx hly (by rw [q]; exact hl))), hM y hy ly hly]
end
end Go.Proofs.Ytnmjplngbleopaa
