/- Mx Fg10 Fg11 Fg12 -/
import Derived.Test.YthjkcfpdkhghpaaH18
import Derived.Test.YthjkcfpdkhghpaaH08
import Derived.Test.YthjkcfpdkhghpaaH26
namespace Go.Proofs.Ythjkcfpdkhghpaa
open Go.RowKit
set_option maxRecDepth 20000
set_option linter.unusedSectionVars false
section
variable {P : Program} {kt : TypeId} {α : Type} [DecidableEq α] {enc : α → Value} {ok : α → Prop}
def MapX (P : Program) (kt : TypeId) (enc : α → Value) (ok : α → Prop) (w : World) (b n : Nat) (M : α → Option Value) : Prop :=
  ∃ D : DataW Value, w.ownsMap P kt rawE b n D ∧ Maps.size D = n ∧ ∀ x, ok x → ∀ l, keyOf P kt (enc x) = some l → ∀ z, D.atKey l z = (match M x with | some v => .held v | none => z)
theorem MapX.g {w : World} {b n : Nat} {M : α → Option Value} (h : MapX P kt enc ok w b n M) : MapG P kt enc ok w b n M := by
  obtain ⟨D, h, _, h'⟩ := h
  exact ⟨D, h, h'⟩
theorem MapX.made (w : World) : MapX P kt enc ok (w.alloc (.map #[] 0)) w.heap.size 0 (fun _ => none) := ⟨_, World.ownsMap_made w _ _ _, rfl, fun _ _ _ _ _ => rfl⟩
theorem MapX.lt {w : World} {b n : Nat} {M : α → Option Value} (h : MapX P kt enc ok w b n M) : b < w.heap.size := h.g.lt
theorem MapX.congr {w w' : World} {b n : Nat} {M : α → Option Value} (h : MapX P kt enc ok w b n M) (he : w'.heap[b]? = w.heap[b]?) : MapX P kt enc ok w' b n M := by
  obtain ⟨D, ⟨es, cl, hb, r⟩, hM⟩ := h
  exact ⟨D, ⟨es, cl, he.trans hb, r⟩, hM⟩
theorem MapX.len {w : World} {b n : Nat} {M : α → Option Value} (h : MapX P kt enc ok w b n M) {t e : TypeId} (ht : P.underlying t = some (.map kt e)) (ty : TypeId) : (Builtin.len_ #[t] ty #[.map (some b)]).run P w = .ok (.int .i64 n) w := by
  obtain ⟨D, hD, hsz, _⟩ := h
  rw [hD.len ht ty, hsz]
theorem MapX.store (K : KeyEnc P kt enc ok) {w : World} {b n : Nat} {M : α → Option Value} (h : MapX P kt enc ok w b n M) {t e : TypeId} (ht : P.underlying t = some (.map kt e)) (hn : n < maxLen) (x : α) (hx : ok x) (v : Value) :
    ∃ w', (Instr.mapUpdate t (.map (some b)) (enc x) v).run P w = .ok () w' ∧ MapX P kt enc ok w' b (if (M x).isSome then n else n + 1) (putG M x v) ∧ w.grownBy w' (some b) := by
  obtain ⟨D, hD, hsz, hM⟩ := h
  obtain ⟨l, hl⟩ := K.has x hx
  have h2 := hM x hx l hl
  have h1 : Maps.has D l = (M x).isSome := by
    cases hv : M x with
    | none => exact Maps.has_false_of_atKey fun z => by rw [h2, hv]
    | some v => exact Maps.has_true_of_atKey (y := .held v) fun z => by rw [h2, hv]
  obtain ⟨w', hrun, hown, ht'⟩ := hD.store K.keyed ht hn hl (d := .held v) (ps := []) rfl
  have hs := Maps.size_put (k := l) (hD.tidy K.keyed) (.held v)
  rw [h1, hsz] at hs
  have hown' := owns_tight hown
  rw [hs] at hown'
  refine ⟨w', hrun, ⟨_, hown', hs, fun y hy ly hly z => ?_⟩, ht'.grown⟩
  unfold putG
  by_cases e : y = x
  · subst e
    obtain rfl : ly = l := by rw [hl] at hly; injection hly with h; exact h.symm
    rw [if_pos rfl, Maps.atKey_put_same hD.isMap (K.keyed.key hl)]
  · rw [if_neg e, Maps.atKey_put_other (fun q : ly = l => e (K.lit_inj hy hx hly (by rw [q]; exact hl))), hM y hy ly hly]
end
open Go.RowKit Go.Shelf
set_option linter.unusedSimpArgs false
def chrN (N : List Nd) (x : Int × Int) : Option Int := (N.find? (fun n => decide (n.id = x))).map (·.chr)
theorem chrN_some {N : List Nd} {x : Int × Int} : (chrN N x).isSome = true ↔ ∃ n ∈ N, n.id = x := by
  unfold chrN
  rw [Option.isSome_map, List.find?_isSome]
  simp
theorem chrN_snoc (N : List Nd) (n : Nd) (hn : ∀ m ∈ N, m.id ≠ n.id) (x : Int × Int) : chrN (N ++ [n]) x = if x = n.id then some n.chr else chrN N x := by
  unfold chrN
  rw [List.find?_append]
  by_cases h : x = n.id
  · rw [if_pos h, List.find?_eq_none.2 (fun m hm => by rw [h]; simpa using hn m hm)]
    simp [h]
  · rw [if_neg h]
    have : ([n].find? (fun m => decide (m.id = x))) = none := by simp [Ne.symm h]
    rw [this, Option.or_none]
def chrM (N : List Nd) (x : Int × Int) : Option Value := (chrN N x).map (Value.int .u8)
structure SidesAt (w : World) (base R bc bn : Nat) (N : List Nd) (V : (Int × Int) × Bool → Value) : Prop where
  own : ∀ s, okS s → OwnI w base 32 2 (V s) ((kids N s).map encF)
  apart : ∀ s t, okS s → okS t → s ≠ t → ∀ k, (V s).ownBlock = some k → (V t).ownBlock ≠ some k
  far : ∀ s, okS s → (V s).ownBlock ≠ some R ∧ (V s).ownBlock ≠ some bc ∧ (V s).ownBlock ≠ some bn
def sideM (N : List Nd) (V : (Int × Int) × Bool → Value) (s : (Int × Int) × Bool) : Option Value := if kids N s = [] then none else some (V s)
structure TreeAt (w : World) (base R bc bn : Nat) (N : List Nd) (V : (Int × Int) × Bool → Value) : Prop where
  box : CellsAt w R 58 [.map (some bc), .map (some bn)]
  chars : MapX Try.prog 32 encDF okDF w bc N.length (chrM N)
  nodes : MapG Try.prog 71 encS okS w bn N.length (sideM N V)
  sides : SidesAt w base R bc bn N V
  empty : ∀ s, okS s → kids N s = [] → V s = .slice none 0 0
  nodup : (N.map (·.id)).Nodup
  okId : ∀ n ∈ N, okDF n.id ∧ okS n.side
  okChr : ∀ n ∈ N, 0 ≤ n.chr ∧ n.chr ≤ 127
  ne : bc ≠ bn
def treeP (R bc bn : Nat) (V : (Int × Int) × Bool → Value) (k : Nat) : Prop := k = R ∨ k = bc ∨ k = bn ∨ ∃ s, okS s ∧ (V s).ownBlock = some k
theorem TreeAt.congr {w w' : World} {base R bc bn : Nat} {N : List Nd} {V : (Int × Int) × Bool → Value} (h : TreeAt w base R bc bn N V) (hk : ∀ k, treeP R bc bn V k → w'.heap[k]? = w.heap[k]?) : TreeAt w' base R bc bn N V :=
  { box := h.box.congr (hk R (.inl rfl))
    chars := h.chars.congr (hk bc (.inr (.inl rfl)))
    nodes := h.nodes.congr (hk bn (.inr (.inr (.inl rfl))))
    sides := ⟨fun s hs => (h.sides.own s hs).congr fun g hg => hk g (.inr (.inr (.inr ⟨s, hs, hg⟩))), h.sides.apart, h.sides.far⟩
    empty := h.empty, nodup := h.nodup, okId := h.okId, okChr := h.okChr, ne := h.ne }
theorem TreeAt.blockLt {w : World} {base R bc bn : Nat} {N : List Nd} {V : (Int × Int) × Bool → Value} (h : TreeAt w base R bc bn N V) (k : Nat) (hk : treeP R bc bn V k) : k < w.heap.size := by
  rcases hk with rfl | rfl | rfl | ⟨s, hs, hk⟩
  · exact h.box.lt
  · exact h.chars.lt
  · exact h.nodes.lt
  · exact ((h.sides.own s hs).blockLt k hk).1
theorem TreeAt.far {w w' : World} {base R bc bn : Nat} {N : List Nd} {V : (Int × Int) × Bool → Value} (h : TreeAt w base R bc bn N V) (hb : Below w.heap.size w w') : TreeAt w' base R bc bn N V := h.congr fun k hk => hb.block k (h.blockLt k hk)
def walkL (N : List Nd) : Nat → (Int × Int) × Bool → List (Int × Int)
  | 0, _ => []
  | d + 1, s => (kids N s).flatMap fun x => walkL N d (x, false) ++ [x] ++ walkL N d (x, true)
structure Rooted (N : List Nd) : Prop where
  nodup : (N.map (·.id)).Nodup
  id : ∀ n ∈ N, n.id ≠ (0, 0)
  above : ∀ j (hj : j < N.length), N[j].side.1 = (0, 0) ∨ ∃ i, ∃ hi : i < j, (N[i]'(by omega)).id = N[j].side.1
theorem flatMap_same {α β : Type} {f g : α → List β} {l : List α} (h : ∀ x ∈ l, f x = g x) : l.flatMap f = l.flatMap g := by
  induction l with
  | nil => rfl
  | cons a l ih => rw [List.flatMap_cons, List.flatMap_cons, h a (by simp), ih (fun x hx => h x (by simp [hx]))]
theorem walkL_enough {N : List Nd} (hN : Rooted N) (k : Nat) : ∀ (s : (Int × Int) × Bool) (d : Nat), (∀ j (hj : j < N.length), N[j].side = s → N.length ≤ j + k) → k ≤ d → walkL N d s = walkL N k s := by
  induction k with
  | zero =>
    intro s d hs _
    have : kids N s = [] := by
      refine List.eq_nil_iff_forall_not_mem.2 fun x hx => ?_
      obtain ⟨n, hn, h1, _⟩ := mem_kids.1 hx
      obtain ⟨j, hj, rfl⟩ := List.getElem_of_mem hn
      have := hs j hj h1
      omega
    cases d with
    | zero => rfl
    | succ d => simp [walkL, this]
  | succ k ih =>
    intro s d hs hd
    obtain ⟨d, rfl⟩ : ∃ q, d = q + 1 := ⟨d - 1, by omega⟩
    unfold walkL
    refine flatMap_same fun x hx => ?_
    obtain ⟨n, hn, h1, h2⟩ := mem_kids.1 hx
    obtain ⟨j, hj, rfl⟩ := List.getElem_of_mem hn
    have hj' := hs j hj h1
    have hx0 := hN.id _ hn
    have hlow : ∀ b, ∀ i (hi : i < N.length), N[i].side = (x, b) → N.length ≤ i + k := fun b i hi e => by
      rcases hN.above i hi with h | ⟨m, hm, h⟩
      · rw [e] at h; exact absurd (h2.trans h) hx0
      · rw [e] at h
        have : m = j := by
          have h3 := (List.getElem_inj (h₀ := by simp; omega) (h₁ := by simp; omega) hN.nodup (i := m) (j := j)).1 (by simp only [List.getElem_map]; exact h.trans h2.symm)
          exact h3
        omega
    rw [ih (x, false) d (hlow false) (by omega), ih (x, true) d (hlow true) (by omega)]
def walkA (N : List Nd) (s : (Int × Int) × Bool) : List (Int × Int) := walkL N N.length s
theorem walkA_eq {N : List Nd} (hN : Rooted N) (s : (Int × Int) × Bool) : walkA N s = (kids N s).flatMap fun x => walkA N (x, false) ++ [x] ++ walkA N (x, true) := by
  unfold walkA
  rw [← walkL_enough hN N.length s (N.length + 1) (fun j hj _ => by omega) (by omega)]
  rfl
theorem Rooted.nil : Rooted [] := ⟨List.nodup_nil, fun _ h => by simp at h, fun _ h => by simp at h⟩
theorem Rooted.snoc {N : List Nd} (hN : Rooted N) (n : Nd) (h0 : n.id ≠ (0, 0)) (hn : ∀ m ∈ N, m.id ≠ n.id) (ha : n.side.1 = (0, 0) ∨ ∃ m ∈ N, m.id = n.side.1) : Rooted (N ++ [n]) where
  nodup := by
    rw [List.map_append, List.nodup_append]
    refine ⟨hN.nodup, by simp, fun a ha b hb => ?_⟩
    obtain ⟨m, hm, rfl⟩ := List.mem_map.1 ha
    have : b = n.id := by simpa using hb
    rw [this]
    exact hn m hm
  id := fun m hm => by
    rcases List.mem_append.1 hm with hm | hm
    · exact hN.id m hm
    · rw [List.mem_singleton.1 hm]; exact h0
  above := fun j hj => by
    by_cases h : j < N.length
    · rw [List.getElem_append_left h]
      rcases hN.above j h with h' | ⟨i, hi, h'⟩
      · exact .inl h'
      · exact .inr ⟨i, hi, by rw [List.getElem_append_left (by omega)]; exact h'⟩
    · have e : j = N.length := by simp at hj; omega
      subst e
      rw [List.getElem_concat_length rfl]
      rcases ha with h' | ⟨m, hm, h'⟩
      · exact .inl h'
      · obtain ⟨i, hi, rfl⟩ := List.getElem_of_mem hm
        exact .inr ⟨i, hi, by rw [List.getElem_append_left hi]; exact h'⟩
set_option maxHeartbeats 4000000 in
theorem lenT_any (base R bc bn : Nat) (N : List Nd) (V : (Int × Int) × Bool → Value) (w : World) (hT : TreeAt w base R bc bn N V) :
    Calls Try.prog 8 #[.pointer (some ⟨R, 0, none⟩)] w fun e w' => e = .returned (.int .i64 (N.length : Nat)) ∧ w' = w := by
  have hc : w.cell? ⟨R, 0, none⟩ = some (.map (some bc)) := hT.box.cell 0
  have hl := hT.chars.len (t := 55) Try.underlying55 3
  clear hT
  generalize N.length = n at hl
  go_enter Try.func8, Try.ntmps8
  go_wp2
  go_ret
  exact ⟨rfl, rfl⟩
end Go.Proofs.Ythjkcfpdkhghpaa
