/- Ab1 Ab2 -/
import Derived.Test.YtgmbmdmbnpkbbaaM10
import Derived.Test.YtgmbmdmbnpkbbaaM19
import Derived.Test.YtgmbmdmbnpkbbaaM05
namespace Go.Proofs.Ytgmbmdmbnpkbbaa
open Go.RowKit Go.Shelf
set_option maxRecDepth 20000
set_option linter.unusedSimpArgs false
abbrev Ent := Ev × Bool
def entC (x : Ent) : List Value := x.1.cells ++ [.bool x.2]
def lookB (L : List Ent) (d : Int × Int) : Option Ent := L.find? (fun x => x.1.dot == d)
def nodB (L : List Ent) : Prop := (L.map (fun x => x.1.dot)).Nodup
theorem lookB_none {L : List Ent} {d : Int × Int} : lookB L d = none ↔ ∀ x ∈ L, x.1.dot ≠ d := by
  unfold lookB; rw [List.find?_eq_none]; simp
theorem lookB_mem {L : List Ent} {d : Int × Int} {x : Ent} (h : lookB L d = some x) : x ∈ L ∧ x.1.dot = d := ⟨List.mem_of_find?_eq_some h, by simpa using List.find?_some h⟩
theorem nodB_eq {L : List Ent} (hn : nodB L) {x y : Ent} (hx : x ∈ L) (hy : y ∈ L) (h : x.1.dot = y.1.dot) : x = y := by
  induction L with
  | nil => cases hx
  | cons z L ih =>
    unfold nodB at hn
    rw [List.map_cons, List.nodup_cons] at hn
    rcases List.mem_cons.1 hx with hxz | hx
    · rcases List.mem_cons.1 hy with hyz | hy
      · rw [hxz, hyz]
      · exact absurd (List.mem_map.2 ⟨y, hy, by rw [← hxz]; exact h.symm⟩) hn.1
    · rcases List.mem_cons.1 hy with hyz | hy
      · exact absurd (List.mem_map.2 ⟨x, hx, by rw [← hyz]; exact h⟩) hn.1
      · exact ih hn.2 hx hy
theorem lookB_some {L : List Ent} (hn : nodB L) {x : Ent} (hx : x ∈ L) : lookB L x.1.dot = some x := by
  cases h : lookB L x.1.dot with
  | none => exact absurd rfl (lookB_none.1 h x hx)
  | some y =>
    obtain ⟨h1, h2⟩ := lookB_mem h
    rw [nodB_eq hn h1 hx h2]
theorem lookB_app {L : List Ent} (x : Ent) (hn : lookB L x.1.dot = none) (d : Int × Int) : lookB (L ++ [x]) d = if d = x.1.dot then some x else lookB L d := by
  unfold lookB
  rw [List.find?_append]
  by_cases h : d = x.1.dot
  · rw [if_pos h]
    subst h
    unfold lookB at hn
    rw [hn]; simp
  · rw [if_neg h, List.find?_cons_of_neg (by simpa using fun e => h e.symm), List.find?_nil, Option.or_none]
theorem nodB_app {L : List Ent} (hL : nodB L) (x : Ent) (hn : lookB L x.1.dot = none) : nodB (L ++ [x]) := by
  unfold nodB at *
  rw [List.map_append, List.map_cons, List.map_nil]
  refine List.nodup_append.2 ⟨hL, by simp, fun a ha b hb e => ?_⟩
  rw [List.mem_singleton.1 hb] at e
  obtain ⟨y, hy, rfl⟩ := List.mem_map.1 ha
  exact lookB_none.1 hn y hy e
def BookAt (w : World) (b : Nat) (L : List Ent) : Prop :=
  ∃ D : DataW Value, w.ownsMap Try.prog 26 rawElem b L.length D ∧ (∀ a s, okD a s → ∀ z, D.atKey (dotLit a s) z = (match lookB L (a, s) with | some x => .held (.agg (entC x).toArray) | none => z)) ∧ Maps.size D = L.length ∧ nodB L ∧ ∀ x ∈ L, x.1.Ok
theorem BookAt.ok {w : World} {b : Nat} {L : List Ent} (h : BookAt w b L) : ∀ x ∈ L, x.1.Ok := by obtain ⟨D, _, _, _, _, h⟩ := h; exact h
theorem BookAt.lt {w : World} {b : Nat} {L : List Ent} (h : BookAt w b L) : b < w.heap.size := by obtain ⟨D, h, _⟩ := h; exact h.lt
theorem BookAt.congr {w w' : World} {b : Nat} {L : List Ent} (h : BookAt w b L) (he : w'.heap[b]? = w.heap[b]?) : BookAt w' b L := by
  obtain ⟨D, ⟨es, cl, hb, r⟩, hM⟩ := h
  exact ⟨D, ⟨es, cl, he.trans hb, r⟩, hM⟩
theorem BookAt.far {w w' : World} {b : Nat} {L : List Ent} (h : BookAt w b L) (hb : Below w.heap.size w w') : BookAt w' b L := h.congr (hb.block b h.lt)
theorem BookAt.made (w : World) : BookAt (w.alloc (.map #[] 0)) w.heap.size [] := ⟨_, World.ownsMap_made w _ _ _, fun _ _ _ _ => rfl, rfl, List.Pairwise.nil, by simp⟩
theorem BookAt.cellsNe {w : World} {b g : Nat} {L : List Ent} (h : BookAt w b L) {t : TypeId} {cs : List Value} (hg : CellsAt w g t cs) : b ≠ g := by
  intro e
  subst e
  obtain ⟨D, ⟨es, cl, hb, _⟩, _⟩ := h
  unfold CellsAt at hg
  rw [hb] at hg
  cases hg
theorem BookAt.mapAt {w : World} {b : Nat} {L : List Ent} (h : BookAt w b L) : MapAt w b L.length (fun a s => (lookB L (a, s)).map fun e => .agg (entC e).toArray) := by
  obtain ⟨D, hD, hM, _⟩ := h
  refine ⟨D, hD, fun a s ho z => ?_⟩
  rw [hM a s ho z]
  show _ = match Option.map (fun e => Value.agg (entC e).toArray) (lookB L (a, s)) with | some v => DataW.held v | none => z
  cases lookB L (a, s) <;> rfl
theorem book_has {L : List Ent} {D : DataW Value} (hM : ∀ a s, okD a s → ∀ z, D.atKey (dotLit a s) z = (match lookB L (a, s) with | some e => .held (.agg (entC e).toArray) | none => z)) (a s : Int) (ho : okD a s) : Maps.has D (dotLit a s) = (lookB L (a, s)).isSome := by
  cases hv : lookB L (a, s) with
  | none => exact Maps.has_false_of_atKey fun z => by rw [hM a s ho, hv]
  | some v => exact Maps.has_true_of_atKey (y := .held (.agg (entC v).toArray)) fun z => by rw [hM a s ho, hv]
theorem BookAt.store {w : World} {b : Nat} {L : List Ent} (h : BookAt w b L) {t et : TypeId} (ht : Try.prog.underlying t = some (.map 26 et)) (hn : L.length < 100000) (x : Ent) (he : x.1.Ok) (hl : lookB L x.1.dot = none) :
    ∃ w', (Instr.mapUpdate t (.map (some b)) (.agg (dotC x.1.da x.1.ds).toArray) (.agg (entC x).toArray)).run Try.prog w = .ok () w' ∧ BookAt w' b (L ++ [x]) ∧ w.grownBy w' (some b) := by
  obtain ⟨D, hD, hM, hsz, hso, hok⟩ := h
  obtain ⟨w', hrun, hown, ht'⟩ := hD.store dotKeyed ht (by simp [maxLen]; omega) (dotKey x.1.da x.1.ds he.dot) (d := .held (.agg (entC x).toArray)) (ps := []) rfl
  refine ⟨w', hrun, ⟨_, by rw [List.length_append]; exact hown, fun a' s' ho' z => ?_, ?_, nodB_app hso x hl, fun y hy => ?_⟩, ht'.grown⟩
  · rw [lookB_app x hl]
    by_cases q : (a', s') = x.1.dot
    · rw [if_pos q]
      injection q with q1 q2
      subst q1 q2
      rw [Maps.atKey_put_same hD.isMap (dotKeyLit _ _)]
    · rw [if_neg q, Maps.atKey_put_other (fun q' => q (by have := dotLit_inj ho' he.dot q'; unfold Ev.dot; rw [this.1, this.2])), hM a' s' ho']
  · have hh : Maps.has D (dotLit x.1.da x.1.ds) = false := by rw [book_has hM x.1.da x.1.ds he.dot]; rw [show (x.1.da, x.1.ds) = x.1.dot from rfl, hl]; rfl
    rw [Maps.size_put (hD.tidy dotKeyed), hh, List.length_append, hsz]; rfl
  · rcases List.mem_append.1 hy with q | q
    · exact hok y q
    · rw [List.mem_singleton.1 q]; exact he
theorem BookAt.len {w : World} {b : Nat} {L : List Ent} (h : BookAt w b L) {t et : TypeId} (ht : Try.prog.underlying t = some (.map 26 et)) (ty : TypeId) : (Builtin.len_ #[t] ty #[.map (some b)]).run Try.prog w = .ok (.int .i64 L.length) w := by
  obtain ⟨D, hD, _, hsz, _⟩ := h
  rw [hD.len ht ty, hsz]
structure CollB (L : List Ent) (left : Lit → Bool) (xs : List Ent) : Prop where
  nodup : nodB xs
  iff : ∀ a s, okD a s → ((a, s) ∈ xs.map (fun x => x.1.dot) ↔ ((lookB L (a, s)).isSome = true ∧ left (dotLit a s) = false))
  mem : ∀ x ∈ xs, x ∈ L
theorem CollB.step {L : List Ent} {left : Lit → Bool} {xs : List Ent} (h : CollB L left xs) {x : Ent} (hx : x ∈ L) (ho : okD x.1.da x.1.ds) (hn : nodB L) (hl : left (dotLit x.1.da x.1.ds) = true) : CollB L (fun z => left z && !z.sameKey (dotLit x.1.da x.1.ds)) (xs ++ [x]) := by
  have hs : (lookB L (x.1.da, x.1.ds)).isSome = true := by rw [show (x.1.da, x.1.ds) = x.1.dot from rfl, lookB_some hn hx]; rfl
  have hnx : lookB xs x.1.dot = none := lookB_none.2 fun y hy e => by
    have h1 := ((h.iff x.1.da x.1.ds ho).1 (List.mem_map.2 ⟨y, hy, e⟩)).2
    rw [hl] at h1; cases h1
  refine ⟨nodB_app h.nodup x hnx, fun a' s' ho' => ?_, fun y hy => ?_⟩
  · have hk := dotLit_same ho' ho
    rw [List.map_append, List.map_cons, List.map_nil, List.mem_append, List.mem_singleton, h.iff a' s' ho']
    by_cases q : (a', s') = (x.1.da, x.1.ds)
    · have e : (dotLit a' s').sameKey (dotLit x.1.da x.1.ds) = true := hk.2 q
      injection q with q1 q2
      subst q1 q2
      simp only [hs, e, Bool.not_true, Bool.and_false, and_self, iff_true]
      exact .inr rfl
    · have e : (dotLit a' s').sameKey (dotLit x.1.da x.1.ds) = false := by
        cases e : (dotLit a' s').sameKey (dotLit x.1.da x.1.ds) with
        | false => rfl
        | true => exact absurd (hk.1 e) q
      simp only [e, Bool.not_false, Bool.and_true]
      constructor
      · rintro (r | r)
        · exact r
        · exact absurd r q
      · exact .inl
  · rcases List.mem_append.1 hy with q | q
    · exact h.mem y q
    · rw [List.mem_singleton.1 q]; exact hx
theorem nodB_nodup {L : List Ent} (h : nodB L) : L.Nodup := by
  unfold nodB List.Nodup at *
  rw [List.pairwise_map] at h
  exact h.imp fun hne e => hne (by rw [e])
theorem CollB.perm {L : List Ent} {left : Lit → Bool} {xs : List Ent} (h : CollB L left xs) (hn : nodB L) (hok : ∀ x ∈ L, x.1.Ok) (hl : ∀ k, left k = false) : xs.Perm L := by
  refine (List.perm_ext_iff_of_nodup (nodB_nodup h.nodup) (nodB_nodup hn)).2 fun x => ⟨h.mem x, fun hx => ?_⟩
  have h1 := (h.iff x.1.da x.1.ds (hok x hx).dot).2 ⟨by rw [show (x.1.da, x.1.ds) = x.1.dot from rfl, lookB_some hn hx]; rfl, hl _⟩
  obtain ⟨y, hy, e⟩ := List.mem_map.1 h1
  rw [← nodB_eq hn (h.mem y hy) hx e]; exact hy
structure BookC (w : World) (H b : Nat) (L : List Ent) : Prop where
  cells : CellsAt w H 77 [.map (some b)]
  map : BookAt w b L
theorem BookC.congr {w w' : World} {H b : Nat} {L : List Ent} (h : BookC w H b L) (h1 : w'.heap[H]? = w.heap[H]?) (h2 : w'.heap[b]? = w.heap[b]?) : BookC w' H b L := ⟨h.cells.congr h1, h.map.congr h2⟩
theorem BookC.far {w w' : World} {H b : Nat} {L : List Ent} (h : BookC w H b L) (hb : Below w.heap.size w w') : BookC w' H b L := h.congr (hb.block H h.cells.lt) (hb.block b h.map.lt)
theorem BookC.mapCell {w : World} {H b : Nat} {L : List Ent} (h : BookC w H b L) : w.cell? ⟨H, 0, none⟩ = some (.map (some b)) := h.cells.cell 0
def tellB (who : Int) (v : List Int) (e : Ev) : Bool := (e.who == who) && hasB v e.da e.ds
def toldL (L : List Ent) (who : Int) (v : List Int) : List Ev := (L.filter (fun x => x.2 && tellB who v x.1)).map Prod.fst
def lastL (l : List Ev) : List Ev := l.filter (fun e => !(l.any fun x => hasB x.past e.da e.ds))
def leastS (s : Int × Bool) (e : Ev) : Int × Bool := if s.2 = false ∨ e.role < s.1 then (e.role, true) else s
def leastL (l : List Ev) : Int × Bool := l.foldl leastS (0, false)
def roleP (L : List Ent) (who : Int) (v : List Int) : Int := if 8 ≤ who then 0 else if (leastL (lastL (toldL L who v))).2 = true then (leastL (lastL (toldL L who v))).1 else if who = 0 then 3 else 0
theorem leastS_comm (s : Int × Bool) (e f : Ev) : leastS (leastS s e) f = leastS (leastS s f) e := by
  unfold leastS
  obtain ⟨r, t⟩ := s
  cases t <;> simp <;> repeat' split
  all_goals (try simp_all) <;> omega
theorem leastL_perm {l m : List Ev} (h : l.Perm m) : leastL l = leastL m := h.foldl_eq' (fun x _ y _ z => leastS_comm z x y) _
def seenJ (l : List Ev) : List Int := l.foldl (fun s e => joinV s e.past) [0, 0, 0, 0, 0, 0, 0, 0]
theorem joinTo_get (a b : List Int) : ∀ n, n ≤ a.length → ∀ j, (joinTo a b n)[j]?.getD 0 = if j < n ∧ a[j]?.getD 0 < b[j]?.getD 0 then b[j]?.getD 0 else a[j]?.getD 0
  | 0, _, j => by rw [if_neg (by omega)]; rfl
  | n + 1, hn, j => by
    rw [joinTo]
    by_cases e : j = n
    · subst e
      rw [List.getElem?_set_self (by rw [joinTo_length]; omega), Option.getD_some]
      by_cases h : a[j]?.getD 0 < b[j]?.getD 0
      · rw [if_pos h, if_pos ⟨by omega, h⟩]
      · rw [if_neg h, if_neg (fun q => h q.2)]
    · rw [List.getElem?_set_ne (by omega), joinTo_get a b n (by omega) j]
      by_cases h : j < n ∧ a[j]?.getD 0 < b[j]?.getD 0
      · rw [if_pos h, if_pos ⟨by omega, h.2⟩]
      · rw [if_neg h, if_neg (fun q => h ⟨by omega, q.2⟩)]
theorem join_has (a b : List Int) (ha : a.length = 8) (x s : Int) (hx : 0 ≤ x) : hasB (joinV a b) x s = (hasB a x s || hasB b x s) := by
  unfold hasB joinV
  by_cases h8 : x < 8
  · rw [joinTo_get a b 8 (by omega)]
    rw [Bool.eq_iff_iff]
    by_cases hs : s = 0
    · simp [hs]
    · by_cases hlt : a[x.toNat]?.getD 0 < b[x.toNat]?.getD 0
      · rw [if_pos ⟨by omega, hlt⟩]
        simp [h8, hs]
        omega
      · rw [if_neg (fun q => hlt q.2)]
        simp [h8, hs]
        omega
  · simp [h8]
theorem joinV_len (a b : List Int) : (joinV a b).length = a.length := joinTo_length a b 8
theorem seen_fold : ∀ (l : List Ev) (s : List Int), s.length = 8 → (l.foldl (fun s e => joinV s e.past) s).length = 8 ∧ ∀ x q, 0 ≤ x → hasB (l.foldl (fun s e => joinV s e.past) s) x q = (hasB s x q || l.any fun e => hasB e.past x q)
  | [], s, hs => ⟨hs, fun x q _ => by simp⟩
  | e :: l, s, hs => by
    have h1 : (joinV s e.past).length = 8 := by rw [joinV_len]; exact hs
    obtain ⟨h2, h3⟩ := seen_fold l (joinV s e.past) h1
    refine ⟨h2, fun x q hx => ?_⟩
    rw [List.foldl_cons, h3 x q hx, join_has s e.past hs x q hx, List.any_cons, Bool.or_assoc]
theorem seenJ_len (l : List Ev) : (seenJ l).length = 8 := (seen_fold l _ rfl).1
theorem zero_has (x s : Int) (hs : 0 ≤ s) : hasB [0, 0, 0, 0, 0, 0, 0, 0] x s = false := by
  unfold hasB
  have : ([0, 0, 0, 0, 0, 0, 0, 0] : List Int)[x.toNat]?.getD 0 = 0 := by
    generalize x.toNat = k
    match k with
    | 0 => rfl
    | 1 => rfl
    | 2 => rfl
    | 3 => rfl
    | 4 => rfl
    | 5 => rfl
    | 6 => rfl
    | 7 => rfl
    | k + 8 => rfl
  rw [this]
  by_cases h : s = 0
  · simp [h]
  · have : ¬ s ≤ 0 := by omega
    simp [h, this]
theorem seenJ_has (l : List Ev) (x s : Int) (hx : 0 ≤ x) (hs : 0 ≤ s) : hasB (seenJ l) x s = l.any fun e => hasB e.past x s := by
  rw [seenJ, (seen_fold l _ rfl).2 x s hx, zero_has x s hs, Bool.false_or]
theorem seenJ_app (l : List Ev) (e : Ev) : seenJ (l ++ [e]) = joinV (seenJ l) e.past := by unfold seenJ; rw [List.foldl_append]; rfl
attribute [local go_sem] Oper.semAt_some
theorem aev_len (e : Ev) (h : e.past.length = 8) : e.cells.length = 17 := (ev_cell15 e h).2.2.2.2
theorem aev_one (e : Ev) : ∀ u ∈ e.cells, u.oneCell' = true := by
  unfold Ev.cells dotC
  intro u hu
  simp at hu
  rcases hu with rfl | rfl | ⟨x, _, rfl⟩ | rfl | rfl | rfl | rfl | rfl | rfl | rfl <;> rfl
theorem wpLI_stv {P : Program} {ops : Array Oper} {rest : List Oper} {o : Oper} {a : Act} {w : World} {n : Nat} {Q : Exit → Act → World → Prop} (hgd : o.guard = none) (ty : TypeId) (x y : Operand) (ho : o.op = .store ty x y)
    (g : Nat) (hx : a.eval x = .pointer (some ⟨g, 0, none⟩)) {t : TypeId} {old cs : List Value} (hy : a.eval y = .agg cs.toArray) (hg : CellsAt w g t old)
    (hi : (P.info? ty).map (·.size) = some cs.length) (hl : old.length = cs.length) (h1 : ∀ v ∈ cs, v.oneCell' = true)
    (h : wpListIn Fence.wide n P ops Q rest (a.put o.dst undef) (w.setRow g cs.toArray)) : wpListIn Fence.wide n P ops Q (o :: rest) a w :=
  wpListIn_plain hgd fun _ hK => wpI_op (wp_stvE ty x y ho g hx hy hg hi hl h1 (hK _ _ h))
structure CtF (w : World) (B1 B2 H b Bw Bv : Nat) (L : List Ent) (who : Int) (v : List Int) : Prop where
  c1 : w.cell? ⟨B1, 0, none⟩ = some (.pointer (some ⟨H, 0, none⟩))
  c2 : w.cell? ⟨B2, 0, none⟩ = some (.func (.func 36) #[] #[.pointer (some ⟨Bw, 0, none⟩), .pointer (some ⟨Bv, 0, none⟩)])
  book : BookC w H b L
  cw : w.cell? ⟨Bw, 0, none⟩ = some (.int .u8 who)
  cv : w.rangeAt Bv 0 (v.map (Value.int .u32))
  len : v.length = 8
theorem CtF.keep {w W : World} {B1 B2 H b Bw Bv : Nat} {L : List Ent} {who : Int} {v : List Int} (h : CtF w B1 B2 H b Bw Bv L who v) (hk : ∀ k, k < w.heap.size → W.heap[k]? = w.heap[k]?) : CtF W B1 B2 H b Bw Bv L who v :=
  ⟨(World.cell?_of_block (a := ⟨B1, 0, none⟩) (hk _ (block_lt_of_cell h.c1))).trans h.c1, (World.cell?_of_block (a := ⟨B2, 0, none⟩) (hk _ (block_lt_of_cell h.c2))).trans h.c2, h.book.congr (hk _ h.book.cells.lt) (hk _ h.book.map.lt), (World.cell?_of_block (a := ⟨Bw, 0, none⟩) (hk _ (block_lt_of_cell h.cw))).trans h.cw, fun i u hu => (World.cell?_of_block (a := ⟨Bv, 0 + i, none⟩) (hk _ (block_lt_of_cell (h.cv i u hu)))).trans (h.cv i u hu), h.len⟩
set_option maxHeartbeats 4000000 in
theorem role1_any (Bw Bv : Nat) (who : Int) (v : List Int) (e : Ev) (w : World) (hw : w.cell? ⟨Bw, 0, none⟩ = some (.int .u8 who)) (hv : w.rangeAt Bv 0 (v.map (Value.int .u32))) (hl : v.length = 8) (he : e.Ok) :
    Calls Try.prog 36 #[.agg e.cells.toArray, .pointer (some ⟨Bw, 0, none⟩), .pointer (some ⟨Bv, 0, none⟩)] w fun r w' => r = .returned (.bool (tellB who v e)) ∧ Below w.heap.size w w' := by
  have hB0 : Below w.heap.size w (w.alloc (.cells e.cells.toArray 32)) := (Below.refl _ _).alloc (Nat.le_refl _) _
  have hx0 := CellsAt.new w 32 e.cells
  have c15 : (w.alloc (.cells e.cells.toArray 32)).cell? ⟨w.heap.size, 15, none⟩ = some (.int .u8 e.who) := (hx0.cell 15).trans (ev_cell15 e he.past).2.2.1
  have hd1 := hx0.range 0 2
  rw [(ev_parts e he.past).1] at hd1
  have hw1 := (hB0.cell (p := ⟨Bw, 0, none⟩) (block_lt_of_cell hw)).trans hw
  have hv1 : (w.alloc (.cells e.cells.toArray 32)).rangeAt Bv 0 (v.map (Value.int .u32)) := fun i u hu => (hB0.cell (block_lt_of_cell (hv i u hu))).trans (hv i u hu)
  have iD : (Try.prog.info? 26).map (·.size) = some (dotC e.da e.ds).length := sizeDot
  have iV : (Try.prog.info? 28).map (·.size) = some (v.map (Value.int .u32)).length := by rw [List.length_map, hl]; exact sizeV8c
  have uD := Try.underlying26
  have uV := Try.underlying28
  have hh : Calls Try.prog 37 #[.agg (v.map (Value.int .u32)).toArray, .agg (dotC e.da e.ds).toArray] (w.alloc (.cells e.cells.toArray 32)) fun r w' => r = .returned (.bool (hasB v e.da e.ds)) ∧ Below (w.alloc (.cells e.cells.toArray 32)).heap.size (w.alloc (.cells e.cells.toArray 32)) w' := chas_any v e.da e.ds (w.alloc (.cells e.cells.toArray 32)) hl he.dot.1.1 he.dot.2.1
  have HT : Veil (tellB who v e = ((e.who == who) && hasB v e.da e.ds)) := ⟨rfl⟩
  generalize tellB who v e = TB at HT ⊢
  generalize hasB v e.da e.ds = HB at HT hh
  generalize v.map (Value.int .u32) = SV at hv1 iV hh
  generalize dotC e.da e.ds = DV at hd1 iD hh
  generalize e.cells = E at hB0 hx0 c15 hd1 hw1 hv1 hh ⊢
  generalize e.who = ew at c15 HT
  clear hv hw he hx0
  go_enter Try.func36, Try.ntmps36
  by_cases hq : ew = who
  · subst hq
    replace HT : Veil (TB = HB) := ⟨by rw [HT.out]; simp⟩
    have hqb : (ew == ew) = true := beq_self_eq_true ew
    go_wp2_with (first
      | (refine wpList_ldgv (by kernel_rfl) 28 _ rfl Bv 0 rfl SV hv1 uV rfl iV ?_)
      | (refine wpList_ldgv (by kernel_rfl) 26 _ rfl w.heap.size 0 rfl DV hd1 uD rfl iD ?_)
      | (go_at_call 37; refine hh.mono ?_; rintro x W1 ⟨rfl, hb1⟩))
    go_ret
    exact ⟨by rw [HT.out]; rfl, hB0.trans (hb1.mono hB0.size)⟩
  · have hqb : (ew == who) = false := by simpa using hq
    replace HT : Veil (TB = false) := ⟨by rw [HT.out, hqb]; rfl⟩
    go_wp2
    go_ret
    exact ⟨by rw [HT.out]; rfl, hB0⟩
set_option maxHeartbeats 2000000 in
theorem counting_any (H Bw Bv : Nat) (w : World) :
    Calls Try.prog 35 #[.pointer (some ⟨H, 0, none⟩), .func (.func 36) #[] #[.pointer (some ⟨Bw, 0, none⟩), .pointer (some ⟨Bv, 0, none⟩)]] w fun e w' => e = .returned (.func (.func 49) #[] #[.pointer (some ⟨w.heap.size, 0, none⟩), .pointer (some ⟨w.heap.size + 1, 0, none⟩)]) ∧ Below w.heap.size w w' ∧ w'.heap.size = w.heap.size + 2 ∧ w'.cell? ⟨w.heap.size, 0, none⟩ = some (.pointer (some ⟨H, 0, none⟩)) ∧ w'.cell? ⟨w.heap.size + 1, 0, none⟩ = some (.func (.func 36) #[] #[.pointer (some ⟨Bw, 0, none⟩), .pointer (some ⟨Bv, 0, none⟩)]) := by
  have hb : Veil (Below w.heap.size w ((w.alloc (.cells #[.pointer (some ⟨H, 0, none⟩)] 54)).alloc (.cells #[.func (.func 36) #[] #[.pointer (some ⟨Bw, 0, none⟩), .pointer (some ⟨Bv, 0, none⟩)]] 82)) ∧ ((w.alloc (.cells #[.pointer (some ⟨H, 0, none⟩)] 54)).alloc (.cells #[.func (.func 36) #[] #[.pointer (some ⟨Bw, 0, none⟩), .pointer (some ⟨Bv, 0, none⟩)]] 82)).heap.size = w.heap.size + 2 ∧ ((w.alloc (.cells #[.pointer (some ⟨H, 0, none⟩)] 54)).alloc (.cells #[.func (.func 36) #[] #[.pointer (some ⟨Bw, 0, none⟩), .pointer (some ⟨Bv, 0, none⟩)]] 82)).cell? ⟨w.heap.size, 0, none⟩ = some (.pointer (some ⟨H, 0, none⟩)) ∧ ((w.alloc (.cells #[.pointer (some ⟨H, 0, none⟩)] 54)).alloc (.cells #[.func (.func 36) #[] #[.pointer (some ⟨Bw, 0, none⟩), .pointer (some ⟨Bv, 0, none⟩)]] 82)).cell? ⟨w.heap.size + 1, 0, none⟩ = some (.func (.func 36) #[] #[.pointer (some ⟨Bw, 0, none⟩), .pointer (some ⟨Bv, 0, none⟩)])) := by
    refine ⟨((Below.refl _ _).alloc (Nat.le_refl _) _).alloc (by simp) _, by simp, ((CellsAt.new w 54 [.pointer (some ⟨H, 0, none⟩)]).alloc _).cell 0, ?_⟩
    have := (CellsAt.new (w.alloc (.cells #[.pointer (some ⟨H, 0, none⟩)] 54)) 82 [.func (.func 36) #[] #[.pointer (some ⟨Bw, 0, none⟩), .pointer (some ⟨Bv, 0, none⟩)]]).cell 0
    rw [World.size_alloc] at this; exact this
  go_enter Try.func35, Try.ntmps35
  go_wp2
  go_ret
  exact ⟨rfl, hb.out⟩
end Go.Proofs.Ytgmbmdmbnpkbbaa
