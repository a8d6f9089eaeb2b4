/- Dc5 Dc6 -/
import Derived.Test.YtgmbmdmbnpkbbaaM37
namespace Go.Proofs.Ytgmbmdmbnpkbbaa
open Go.RowKit Go.Shelf
set_option maxRecDepth 20000
set_option linter.unusedSimpArgs false
def encKD (k : Int) : Value := .int .u8 k
def okKD (k : Int) : Prop := k = 1 ∨ k = 2 ∨ k = 3 ∨ k = 4
theorem keyEncKD : KeyEnc Try.prog 29 encKD okKD where
  keyed := Go.Maps.int_keyed (q := .u8) Try.underlying29
  has := fun k h => by
    rcases h with rfl | rfl | rfl | rfl
    · exact ⟨.int .u8 1, by kernel_rfl⟩
    · exact ⟨.int .u8 2, by kernel_rfl⟩
    · exact ⟨.int .u8 3, by kernel_rfl⟩
    · exact ⟨.int .u8 4, by kernel_rfl⟩
  inj := fun x y _ _ e => by unfold encKD at e; injection e
def deedV (D f : Nat) : Value := .func (.func f) #[.pointer (some ⟨D, 0, none⟩)] #[]
def deedF (k : Int) : Nat := if k = 1 then 59 else if k = 2 then 60 else 61
def deedM (D : Nat) : Int → Option Value := putG (putG (putG (putG (fun _ => none) 1 (deedV D 59)) 2 (deedV D 60)) 3 (deedV D 61)) 4 (deedV D 61)
theorem deedM_at (D : Nat) {k : Int} (h : okKD k) : deedM D k = some (deedV D (deedF k)) := by
  rcases h with rfl | rfl | rfl | rfl <;> rfl
set_option maxHeartbeats 4000000 in
theorem ddeeds_any (D : Nat) (w : World) :
    Calls Try.prog 47 #[.pointer (some ⟨D, 0, none⟩)] w fun r w' => ∃ mb, r = .returned (.map (some mb)) ∧ Below w.heap.size w w' ∧ MapG Try.prog 29 encKD okKD w' mb 4 (deedM D) := by
  have hmk := @run_makeMap Try.prog
  have hb0 : Below w.heap.size w (w.alloc (.map #[] 0)) := (Below.refl _ _).alloc (Nat.le_refl _) _
  have ut := Try.underlying97
  obtain ⟨W1, r1, m1, g1⟩ := (MapG.made (P := Try.prog) (kt := 29) (enc := encKD) (ok := okKD) w).store keyEncKD ut (by simp [maxLen]) 1 (.inl rfl) (deedV D 59)
  obtain ⟨W2, r2, m2, g2⟩ := m1.store keyEncKD ut (by simp [maxLen]) 2 (.inr (.inl rfl)) (deedV D 60)
  obtain ⟨W3, r3, m3, g3⟩ := m2.store keyEncKD ut (by simp [maxLen]) 3 (.inr (.inr (.inl rfl))) (deedV D 61)
  obtain ⟨W4, r4, m4, g4⟩ := m3.store keyEncKD ut (by simp [maxLen]) 4 (.inr (.inr (.inr rfl))) (deedV D 61)
  have tb : ∀ {a b : World}, a.grownBy b (some w.heap.size) → Below w.heap.size w a → Below w.heap.size w b := fun {a b} g h => h.trans ((Turn.of_grown (p := fun k => k = w.heap.size) g fun k e => by injection e with e; exact e.symm).below h.size fun k e => by omega)
  have HB := Veil.mk (tb g4 (tb g3 (tb g2 (tb g1 hb0))))
  have HM := Veil.mk m4
  unfold encKD deedV at r1 r2 r3 r4
  clear tb g1 g2 g3 g4 m1 m2 m3 m4 hb0
  go_enter Try.func47, Try.ntmps47
  go_wp2
  go_ret
  exact ⟨_, rfl, HB.out, HM.out⟩
theorem dact_any (base : Nat) (st : Ds) (p : Pl) (e : Ev) (w : World) (hD : DocAt w base st p) (hG : GoodD st) (he : e.Ok) (hk : okKD e.kind) (hbase : base ≤ w.heap.size) :
    Calls Try.prog (deedF e.kind) #[.pointer (some ⟨p.D, 0, none⟩), .agg e.cells.toArray] w fun r w' => r = .returned (.bool (actB st e)) ∧ ∃ p', DocAt w' base { st with N := actN st e, B := actK st e } p' ∧ DocTo p p' w w' := by
  rcases hk with h | h | h | h
  · have e1 : deedF e.kind = 59 := if_pos h
    have e2 : actB st e = (mayB st e 2 && (refI st.N e.nd == 0)) := if_pos h
    have e3 : actN st e = (if mayB st e 2 = true then insN st.N e.nd else st.N) := if_pos h
    have e4 : actK st e = st.B := if_pos (Or.inl h)
    rw [e1, e2, e3, e4]
    exact dinsert_any base st p e w hD hG he hbase
  · have h1 : ¬ e.kind = 1 := by omega
    have e1 : deedF e.kind = 60 := (if_neg h1).trans (if_pos h)
    have e2 : actB st e = (mayB st e 2 && (chrN st.N e.par).isSome) := (if_neg h1).trans (if_pos h)
    have e3 : actN st e = (if mayB st e 2 = true then delN st.N e.par else st.N) := (if_neg h1).trans (if_pos h)
    have e4 : actK st e = st.B := if_pos (Or.inr h)
    rw [e1, e2, e3, e4]
    exact derase_any base st p e w hD hG he hbase
  all_goals
    have h1 : ¬ e.kind = 1 := by omega
    have h2 : ¬ e.kind = 2 := by omega
    have e1 : deedF e.kind = 61 := (if_neg h1).trans (if_neg h2)
    have e2 : actB st e = (mayB st e 3 && (refB st.B e == 0)) := (if_neg h1).trans (if_neg h2)
    have e3 : actN st e = st.N := (if_neg h1).trans (if_neg h2)
    have e4 : actK st e = (if mayB st e 3 = true then addB st.B e else st.B) := if_neg (by omega)
    rw [e1, e2, e3, e4]
    exact denter_any base st p e w hD hG he hbase
theorem infoE17D : (Try.prog.info? 32).map (fun i => (i.zero, i.size, i.bytes)) = some (some (.agg #[.int .u8 0, .int .u32 0, .int .u32 0, .int .u32 0, .int .u32 0, .int .u32 0, .int .u32 0, .int .u32 0, .int .u32 0, .int .u32 0, .int .u8 0, .int .u8 0, .int .u32 0, .bool false, .int .u8 0, .int .u8 0, .int .u8 0]), 17, 56) := by kernel_rfl
theorem OwnI.pushD {w : World} {base : Nat} {t : TypeId} {k : Nat} {v : Value} {L : List (List Value)} (h : OwnI w base t k v L) (st : TypeId) {z : Value} {by_ : Nat} (hst : Try.prog.underlying st = some (.slice t)) (hi : (Try.prog.info? t).map (fun i => (i.zero, i.size, i.bytes)) = some (some z, k, by_)) (hz : z.cells.size = k) (hk : 0 < k)
    (c : List Value) (hc : c.length = k) (h1 : ∀ u ∈ c, u.oneCell' = true) (hln : L.length ≤ 1000000) (hby : by_ ≤ 1000) (hbase : base ≤ w.heap.size) :
    ∃ x cp W, (Builtin.append_ #[st, st] st #[v, .slice (some ⟨w.heap.size, 0, none⟩) 1 1]).run Try.prog (w.alloc (.cells c.toArray t)) = .ok (.slice x (L.length + 1) cp) W ∧ OwnI W base t k (.slice x (L.length + 1) cp) (L ++ [c]) ∧ Turn (fun j => v.ownBlock = some j) w W ∧ ∀ g, (Value.slice x (L.length + 1) cp).ownBlock = some g → v.ownBlock = some g ∨ w.heap.size ≤ g := by
  have hal : Below w.heap.size w (w.alloc (.cells c.toArray t)) := (Below.refl _ _).alloc (Nat.le_refl _) _
  obtain ⟨v', W, hrun, ho, hg, hb⟩ := (h.far hal).app (P := Try.prog) st st hst hi hz hk c hc h1 w.heap.size (CellsAt.new w t c).wholeM hln hby (by rw [World.size_alloc]; omega)
  obtain ⟨x, cp, rfl⟩ := ho.isSlice
  rw [List.length_append, List.length_singleton] at hrun ho hb
  refine ⟨x, cp, W, hrun, ho, (Turn.of_below hal).trans (Turn.of_grown hg fun j hj => hj), fun g hgg => ?_⟩
  rcases hb with q | q
  · exact .inl (by rw [← q]; exact hgg)
  · rw [q] at hgg
    have := Option.some.inj hgg
    rw [World.size_alloc] at this
    exact .inr (by omega)
theorem docC_ev (st : Ds) (p : Pl) (h : st.S.length = 8) (L : List Ev) (v : Value) : (docC st p).set 10 v = docC { st with L := L } { p with v := v } := by
  obtain ⟨N, B, S, L, F⟩ := st
  match S, h with
  | [_, _, _, _, _, _, _, _], _ => rfl
theorem docC_seen (st : Ds) (p : Pl) (h : st.S.length = 8) (a : Nat) (ha : a < 8) (y : Int) : (docC st p).set (2 + a) (.int .u32 y) = docC { st with S := st.S.set a y } p := by
  obtain ⟨N, B, S, L, F⟩ := st
  match S, h, a, ha with
  | [_, _, _, _, _, _, _, _], _, 0, _ => rfl
  | [_, _, _, _, _, _, _, _], _, 1, _ => rfl
  | [_, _, _, _, _, _, _, _], _, 2, _ => rfl
  | [_, _, _, _, _, _, _, _], _, 3, _ => rfl
  | [_, _, _, _, _, _, _, _], _, 4, _ => rfl
  | [_, _, _, _, _, _, _, _], _, 5, _ => rfl
  | [_, _, _, _, _, _, _, _], _, 6, _ => rfl
  | [_, _, _, _, _, _, _, _], _, 7, _ => rfl
section
variable {w : World} {base : Nat} {st : Ds} {p : Pl}
theorem DocAt.evTo (h : DocAt w base st p) (hs : st.S.length = 8) (hb : base ≤ w.heap.size) (hL : st.L.length ≤ 1000) (e : Ev) (he : e.past.length = 8) :
    ∃ x c W, (Builtin.append_ #[50, 50] 50 #[p.v, .slice (some ⟨w.heap.size, 0, none⟩) 1 1]).run Try.prog (w.alloc (.cells e.cells.toArray 32)) = .ok (.slice x (st.L.length + 1) c) W ∧ W.cell? ⟨p.D, 10, none⟩ = some p.v ∧ W.frozen? ⟨p.D, 10, none⟩ = false ∧ (∀ k, k < w.heap.size → p.v.ownBlock ≠ some k → W.heap[k]? = w.heap[k]?) ∧
      DocAt (W.setCell ⟨p.D, 10, none⟩ (.slice x (st.L.length + 1) c)) base { st with L := st.L ++ [e] } { p with v := .slice x (st.L.length + 1) c } ∧ DocTo p { p with v := .slice x (st.L.length + 1) c } w (W.setCell ⟨p.D, 10, none⟩ (.slice x (st.L.length + 1) c)) := by
  obtain ⟨x, c, W, hrun, ho, ht, hown⟩ := h.evs.pushD 50 Try.underlying50 infoE17D rfl (by decide) e.cells (aev_len e he) (aev_one e) (by rw [List.length_map]; omega) (by decide) hb
  rw [List.length_map] at hrun ho hown
  have hblk : ∀ k, k < w.heap.size → p.v.ownBlock ≠ some k → W.heap[k]? = w.heap[k]? := fun k hk hn => ht.block k hk hn
  have hD : W.heap[p.D]? = w.heap[p.D]? := hblk _ h.box.lt h.apart.d.2.2.2
  have hbox := h.box.congr hD
  have hv : (Value.slice x (st.L.length + 1) c).ownBlock ≠ some p.D := fun q => by
    rcases hown _ q with r | r
    · exact h.apart.d.2.2.2 r
    · have := h.box.lt; omega
  have hk : ∀ k, docP p k → k ≠ p.D → p.v.ownBlock ≠ some k → (W.setCell ⟨p.D, 10, none⟩ (.slice x (st.L.length + 1) c)).heap[k]? = w.heap[k]? := fun k q r s => (Below.heap_setCell W _ _ k r).trans (hblk k (h.blockLt k q) s)
  refine ⟨x, c, W, hrun, (hbox.cell 10).trans (docC_parts st p hs).2.2.2.1, hbox.frozen 10, hblk, ⟨?_, ?_, ?_, ?_, ?_, ?_⟩, ?_, ?_, rfl⟩
  · have := hbox.set 10 (.slice x (st.L.length + 1) c)
    rw [docC_ev st p hs (st.L ++ [e])] at this
    exact this
  · exact h.tree.congr fun k q => hk k (.inr (.inl q)) (h.apart.tree k q).1 (h.apart.tree k q).2.2.2.2
  · exact h.book.congr (hk _ (.inr (.inr (.inl rfl))) (Ne.symm h.apart.d.1) h.apart.b.2.2.1) (hk _ (.inr (.inr (.inr (.inl rfl)))) (Ne.symm h.apart.d.2.1) h.apart.b.2.2.2.2.1)
  · rw [List.map_append, List.map_singleton]
    exact ho.congr fun g hg => Below.heap_setCell _ _ _ _ (fun q : g = p.D => hv (by rw [← q]; exact hg))
  · exact h.force.congr (hk _ (.inr (.inr (.inr (.inr (.inr rfl))))) (Ne.symm h.apart.d.2.2.1) h.apart.b.2.2.2.2.2)
  · have n1 : ∀ k, k < w.heap.size → p.v.ownBlock ≠ some k → (Value.slice x (st.L.length + 1) c).ownBlock ≠ some k := fun k hk hn q => by
      rcases hown _ q with r | r
      · exact hn r
      · omega
    exact ⟨fun k q => ⟨(h.apart.tree k q).1, (h.apart.tree k q).2.1, (h.apart.tree k q).2.2.1, (h.apart.tree k q).2.2.2.1, n1 k (h.tree.blockLt k q) (h.apart.tree k q).2.2.2.2⟩, ⟨h.apart.d.1, h.apart.d.2.1, h.apart.d.2.2.1, hv⟩, ⟨h.apart.b.1, h.apart.b.2.1, n1 _ h.book.cells.lt h.apart.b.2.2.1, h.apart.b.2.2.2.1, n1 _ h.book.map.lt h.apart.b.2.2.2.2.1, n1 _ h.force.lt h.apart.b.2.2.2.2.2⟩⟩
  · exact (ht.mono fun k _ q => .inr (.inr (.inr (.inr (.inl q))))).trans (Turn.of_setCell W (.inl rfl) _)
  · intro k q
    rcases q with q | q | q | q | q | q
    · exact .inl (.inl q)
    · exact .inl (.inr (.inl q))
    · exact .inl (.inr (.inr (.inl q)))
    · exact .inl (.inr (.inr (.inr (.inl q))))
    · rcases hown _ q with r | r
      · exact .inl (.inr (.inr (.inr (.inr (.inl r)))))
      · exact .inr r
    · exact .inl (.inr (.inr (.inr (.inr (.inr q)))))
theorem DocAt.seenTo (h : DocAt w base st p) (hs : st.S.length = 8) (a : Nat) (ha : a < 8) (y : Int) : DocAt (w.setCell ⟨p.D, 2 + a, none⟩ (.int .u32 y)) base { st with S := st.S.set a y } p ∧ DocTo p p w (w.setCell ⟨p.D, 2 + a, none⟩ (.int .u32 y)) := by
  have hk : ∀ k, docP p k → k ≠ p.D → (w.setCell ⟨p.D, 2 + a, none⟩ (.int .u32 y)).heap[k]? = w.heap[k]? := fun k q r => Below.heap_setCell w _ _ k r
  refine ⟨⟨?_, h.tree.congr fun k q => hk k (.inr (.inl q)) (h.apart.tree k q).1, h.book.congr (hk _ (.inr (.inr (.inl rfl))) (Ne.symm h.apart.d.1)) (hk _ (.inr (.inr (.inr (.inl rfl)))) (Ne.symm h.apart.d.2.1)), h.evs.congr fun g q => hk g (.inr (.inr (.inr (.inr (.inl q))))) (fun r => h.apart.d.2.2.2 (r ▸ q)), h.force.congr (hk _ (.inr (.inr (.inr (.inr (.inr rfl))))) (Ne.symm h.apart.d.2.2.1)), h.apart⟩, Turn.of_setCell w (.inl rfl) _, fun k q => .inl q, rfl⟩
  have := h.box.set (2 + a) (.int .u32 y)
  rw [docC_seen st p hs a ha y] at this
  exact this
end
theorem forM_snoc (F : List (Int × Int)) (x : Int × Int) : putG (forM F) x (.agg #[]) = forM (F ++ [x]) := by
  funext y
  unfold putG forM
  by_cases e : y = x
  · rw [if_pos e, if_pos (by rw [e]; simp)]
  · rw [if_neg e]
    by_cases q : y ∈ F
    · rw [if_pos q, if_pos (by simp [q])]
    · rw [if_neg q, if_neg (by simp [q, e])]
end Go.Proofs.Ytgmbmdmbnpkbbaa
