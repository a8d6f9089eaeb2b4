/- Dc5 Dc6 Fr1 -/
import Derived.Test.YtmbdohnmbkpfaaaGreatV28
import Derived.Test.YtmbdohnmbkpfaaaGreatV15
import Derived.Test.YtmbdohnmbkpfaaaGreatV02
namespace Go.Proofs.YtmbdohnmbkpfaaaGreat
open Go.RowKit Go.Shelf
set_option maxRecDepth 20000
set_option linter.unusedSimpArgs false
def encKD (k : Int) : Value := .int .u8 k
def okKD (k : Int) : Prop := k = 1 ∨ k = 2 ∨ k = 3 ∨ k = 4
theorem keyEncKD : KeyEnc Tryz.prog 41 encKD okKD where
 keyed := Go.Maps.int_keyed (q := .u8) Tryz.underlying41
 has := fun k h => by
  rcases h with rfl | rfl | rfl | rfl
  · exact ⟨.int .u8 1, by kernel_rfl⟩
  · exact ⟨.int .u8 2, by kernel_rfl⟩
  · exact ⟨.int .u8 3, by kernel_rfl⟩
  · exact ⟨.int .u8 4, by kernel_rfl⟩
 inj := fun x y _ _ e => by unfold encKD at e; injection e
def deedV (D f : Nat) : Value := .func (.func f) #[.pointer (some ⟨D, 0, none⟩)] #[]
def deedF (k : Int) : Nat := if k = 1 then 96 else if k = 2 then 97 else 98
def deedM (D : Nat) : Int → Option Value := putG (putG (putG (putG (fun _ => none) 1 (deedV D 96)) 2 (deedV D 97)) 3 (deedV D 98)) 4 (deedV D 98)
theorem deedM_at (D : Nat) {k : Int} (h : okKD k) : deedM D k = some (deedV D (deedF k)) := by
 rcases h with rfl | rfl | rfl | rfl <;> rfl
set_option maxHeartbeats 4000000 in
theorem ddeeds_any (D : Nat) (w : World) :
    Calls Tryz.prog 77 #[.pointer (some ⟨D, 0, none⟩)] w fun r w' => ∃ mb, r = .returned (.map (some mb)) ∧ Below w.heap.size w w' ∧ MapG Tryz.prog 41 encKD okKD w' mb 4 (deedM D) := by
 have hmk := @run_makeMap Tryz.prog
 have hb0 : Below w.heap.size w (w.alloc (.map #[] 0)) := (Below.refl _ _).alloc (Nat.le_refl _) _
 have ut := Tryz.underlying105
 obtain ⟨W1, r1, m1, g1⟩ := (MapG.made (P := Tryz.prog) (kt := 41) (enc := encKD) (ok := okKD) w).store keyEncKD ut (by simp [maxLen]) 1 (.inl rfl) (deedV D 96)
 obtain ⟨W2, r2, m2, g2⟩ := m1.store keyEncKD ut (by simp [maxLen]) 2 (.inr (.inl rfl)) (deedV D 97)
 obtain ⟨W3, r3, m3, g3⟩ := m2.store keyEncKD ut (by simp [maxLen]) 3 (.inr (.inr (.inl rfl))) (deedV D 98)
 obtain ⟨W4, r4, m4, g4⟩ := m3.store keyEncKD ut (by simp [maxLen]) 4 (.inr (.inr (.inr rfl))) (deedV D 98)
 have tb : ∀ {a b : World}, a.grownBy b (some w.heap.size) → Below w.heap.size w a → Below w.heap.size w b := fun {a b} g h => h.trans ((Turn.of_grown (p := fun k => k = w.heap.size) g fun k e => by injection e with e; exact e.symm).below h.size fun k e => by omega)
 have HB := Veil.mk (tb g4 (tb g3 (tb g2 (tb g1 hb0))))
 have HM := Veil.mk m4
 unfold encKD deedV at r1 r2 r3 r4
 clear tb g1 g2 g3 g4 m1 m2 m3 m4 hb0
 go_enter Tryz.func77, Tryz.ntmps77
 go_wp2
 go_ret
 exact ⟨_, rfl, HB.out, HM.out⟩
theorem dact_any (base : Nat) (st : Ds) (p : Pl) (e : Ev) (w : World) (hD : DocAt w base st p) (hG : GoodD st) (he : e.Ok) (hk : okKD e.kind) (hbase : base ≤ w.heap.size) :
    Calls Tryz.prog (deedF e.kind) #[.pointer (some ⟨p.D, 0, none⟩), .agg e.cells.toArray] w fun r w' => r = .returned (.bool (actB st e)) ∧ ∃ p', DocAt w' base { st with N := actN st e, B := actK st e } p' ∧ DocTo p p' w w' := by
 rcases hk with h | h | h | h
 · have e1 : deedF e.kind = 96 := if_pos h
   have e2 : actB st e = (mayB st e 2 && (refI st.N e.nd == 0)) := if_pos h
   have e3 : actN st e = (if mayB st e 2 = true then insN st.N e.nd else st.N) := if_pos h
   have e4 : actK st e = st.B := if_pos (Or.inl h)
   rw [e1, e2, e3, e4]
   exact dinsert_any base st p e w hD hG he hbase
 · have h1 : ¬ e.kind = 1 := by omega
   have e1 : deedF e.kind = 97 := (if_neg h1).trans (if_pos h)
   have e2 : actB st e = (mayB st e 2 && (chrN st.N e.par).isSome) := (if_neg h1).trans (if_pos h)
   have e3 : actN st e = (if mayB st e 2 = true then delN st.N e.par else st.N) := (if_neg h1).trans (if_pos h)
   have e4 : actK st e = st.B := if_pos (Or.inr h)
   rw [e1, e2, e3, e4]
   exact derase_any base st p e w hD hG he hbase
 all_goals
  have h1 : ¬ e.kind = 1 := by omega
  have h2 : ¬ e.kind = 2 := by omega
  have e1 : deedF e.kind = 98 := (if_neg h1).trans (if_neg h2)
  have e2 : actB st e = (mayB st e 3 && (refB st.B e == 0)) := (if_neg h1).trans (if_neg h2)
  have e3 : actN st e = st.N := (if_neg h1).trans (if_neg h2)
  have e4 : actK st e = (if mayB st e 3 = true then addB st.B e else st.B) := if_neg (by omega)
  rw [e1, e2, e3, e4]
  exact denter_any base st p e w hD hG he hbase
theorem infoE17D : (Tryz.prog.info? 44).map (fun i => (i.zero, i.size, i.bytes)) = some (some (.agg #[.int .u8 0, .int .u32 0, .int .u32 0, .int .u32 0, .int .u32 0, .int .u32 0, .int .u32 0, .int .u32 0, .int .u32 0, .int .u32 0, .int .u8 0, .int .u8 0, .int .u32 0, .bool false, .int .u8 0, .int .u8 0, .int .u8 0]), 17, 56) := by kernel_rfl
theorem OwnI.pushD {w : World} {base : Nat} {t : TypeId} {k : Nat} {v : Value} {L : List (List Value)} (h : OwnI w base t k v L) (st : TypeId) {z : Value} {by_ : Nat} (hst : Tryz.prog.underlying st = some (.slice t)) (hi : (Tryz.prog.info? t).map (fun i => (i.zero, i.size, i.bytes)) = some (some z, k, by_)) (hz : z.cells.size = k) (hk : 0 < k)
    (c : List Value) (hc : c.length = k) (h1 : ∀ u ∈ c, u.oneCell' = true) (hln : L.length ≤ 1000000) (hby : by_ ≤ 1000) (hbase : base ≤ w.heap.size) :
    ∃ x cp W, (Builtin.append_ #[st, st] st #[v, .slice (some ⟨w.heap.size, 0, none⟩) 1 1]).run Tryz.prog (w.alloc (.cells c.toArray t)) = .ok (.slice x (L.length + 1) cp) W ∧ OwnI W base t k (.slice x (L.length + 1) cp) (L ++ [c]) ∧ Turn (fun j => v.ownBlock = some j) w W ∧ ∀ g, (Value.slice x (L.length + 1) cp).ownBlock = some g → v.ownBlock = some g ∨ w.heap.size ≤ g := by
 have hal : Below w.heap.size w (w.alloc (.cells c.toArray t)) := (Below.refl _ _).alloc (Nat.le_refl _) _
 obtain ⟨v', W, hrun, ho, hg, hb⟩ := (h.far hal).app (P := Tryz.prog) st st hst hi hz hk c hc h1 w.heap.size (CellsAt.new w t c).wholeM hln hby (by rw [World.size_alloc]; omega)
 obtain ⟨x, cp, rfl⟩ := ho.isSlice
 rw [List.length_append, List.length_singleton] at hrun ho hb
 refine ⟨x, cp, W, hrun, ho, (Turn.of_below hal).trans (Turn.of_grown hg fun j hj => hj), fun g hgg => ?_⟩
 rcases hb with q | q
 · exact .inl (by rw [← q]; exact hgg)
 · rw [q] at hgg
   have := Option.some.inj hgg
   rw [World.size_alloc] at this
   exact .inr (by omega)
theorem docC_ev (st : Ds) (p : Pl) (h : st.S.length = 8) (L : List Ev) (v : Value) : (docC st p).set 10 v = docC { st with L := L } { p with v := v } := by
 obtain ⟨N, B, S, L, F⟩ := st
 match S, h with
 | [_, _, _, _, _, _, _, _], _ => rfl
theorem docC_seen (st : Ds) (p : Pl) (h : st.S.length = 8) (a : Nat) (ha : a < 8) (y : Int) : (docC st p).set (2 + a) (.int .u32 y) = docC { st with S := st.S.set a y } p := by
 obtain ⟨N, B, S, L, F⟩ := st
 match S, h, a, ha with
 | [_, _, _, _, _, _, _, _], _, 0, _ => rfl
 | [_, _, _, _, _, _, _, _], _, 1, _ => rfl
 | [_, _, _, _, _, _, _, _], _, 2, _ => rfl
 | [_, _, _, _, _, _, _, _], _, 3, _ => rfl
 | [_, _, _, _, _, _, _, _], _, 4, _ => rfl
 | [_, _, _, _, _, _, _, _], _, 5, _ => rfl
 | [_, _, _, _, _, _, _, _], _, 6, _ => rfl
 | [_, _, _, _, _, _, _, _], _, 7, _ => rfl
section
variable {w : World} {base : Nat} {st : Ds} {p : Pl}
theorem DocAt.evTo (h : DocAt w base st p) (hs : st.S.length = 8) (hb : base ≤ w.heap.size) (hL : st.L.length ≤ 1000) (e : Ev) (he : e.past.length = 8) :
    ∃ x c W, (Builtin.append_ #[31, 31] 31 #[p.v, .slice (some ⟨w.heap.size, 0, none⟩) 1 1]).run Tryz.prog (w.alloc (.cells e.cells.toArray 44)) = .ok (.slice x (st.L.length + 1) c) W ∧ W.cell? ⟨p.D, 10, none⟩ = some p.v ∧ W.frozen? ⟨p.D, 10, none⟩ = false ∧ (∀ k, k < w.heap.size → p.v.ownBlock ≠ some k → W.heap[k]? = w.heap[k]?) ∧
     DocAt (W.setCell ⟨p.D, 10, none⟩ (.slice x (st.L.length + 1) c)) base { st with L := st.L ++ [e] } { p with v := .slice x (st.L.length + 1) c } ∧ DocTo p { p with v := .slice x (st.L.length + 1) c } w (W.setCell ⟨p.D, 10, none⟩ (.slice x (st.L.length + 1) c)) := by
 obtain ⟨x, c, W, hrun, ho, ht, hown⟩ := h.evs.pushD 31 Tryz.underlying31 infoE17D rfl (by decide) e.cells (aev_len e he) (aev_one e) (by rw [List.length_map]; omega) (by decide) hb
 rw [List.length_map] at hrun ho hown
 have hblk : ∀ k, k < w.heap.size → p.v.ownBlock ≠ some k → W.heap[k]? = w.heap[k]? := fun k hk hn => ht.block k hk hn
 have hD : W.heap[p.D]? = w.heap[p.D]? := hblk _ h.box.lt h.apart.d.2.2.2
 have hbox := h.box.congr hD
 have hv : (Value.slice x (st.L.length + 1) c).ownBlock ≠ some p.D := fun q => by
  rcases hown _ q with r | r
  · exact h.apart.d.2.2.2 r
  · have := h.box.lt; omega
 have hk : ∀ k, docP p k → k ≠ p.D → p.v.ownBlock ≠ some k → (W.setCell ⟨p.D, 10, none⟩ (.slice x (st.L.length + 1) c)).heap[k]? = w.heap[k]? := fun k q r s => (Below.heap_setCell W _ _ k r).trans (hblk k (h.blockLt k q) s)
 refine ⟨x, c, W, hrun, (hbox.cell 10).trans (docC_parts st p hs).2.2.2.1, hbox.frozen 10, hblk, ⟨?_, ?_, ?_, ?_, ?_, ?_⟩, ?_, ?_, rfl⟩
 · have := hbox.set 10 (.slice x (st.L.length + 1) c)
   rw [docC_ev st p hs (st.L ++ [e])] at this
   exact this
 · exact h.tree.congr fun k q => hk k (.inr (.inl q)) (h.apart.tree k q).1 (h.apart.tree k q).2.2.2.2
 · exact h.book.congr (hk _ (.inr (.inr (.inl rfl))) (Ne.symm h.apart.d.1) h.apart.b.2.2.1) (hk _ (.inr (.inr (.inr (.inl rfl)))) (Ne.symm h.apart.d.2.1) h.apart.b.2.2.2.2.1)
 · rw [List.map_append, List.map_singleton]
   exact ho.congr fun g hg => Below.heap_setCell _ _ _ _ (fun q : g = p.D => hv (by rw [← q]; exact hg))
 · exact h.force.congr (hk _ (.inr (.inr (.inr (.inr (.inr rfl))))) (Ne.symm h.apart.d.2.2.1) h.apart.b.2.2.2.2.2)
 · have n1 : ∀ k, k < w.heap.size → p.v.ownBlock ≠ some k → (Value.slice x (st.L.length + 1) c).ownBlock ≠ some k := fun k hk hn q => by
    rcases hown _ q with r | r
    · exact hn r
    · omega
   exact ⟨fun k q => ⟨(h.apart.tree k q).1, (h.apart.tree k q).2.1, (h.apart.tree k q).2.2.1, (h.apart.tree k q).2.2.2.1, n1 k (h.tree.blockLt k q) (h.apart.tree k q).2.2.2.2⟩, ⟨h.apart.d.1, h.apart.d.2.1, h.apart.d.2.2.1, hv⟩, ⟨h.apart.b.1, h.apart.b.2.1, n1 _ h.book.cells.lt h.apart.b.2.2.1, h.apart.b.2.2.2.1, n1 _ h.book.map.lt h.apart.b.2.2.2.2.1, n1 _ h.force.lt h.apart.b.2.2.2.2.2⟩⟩
 · exact (ht.mono fun k _ q => .inr (.inr (.inr (.inr (.inl q))))).trans (Turn.of_setCell W (.inl rfl) _)
 · intro k q
   rcases q with q | q | q | q | q | q
   · exact .inl (.inl q)
   · exact .inl (.inr (.inl q))
   · exact .inl (.inr (.inr (.inl q)))
   · exact .inl (.inr (.inr (.inr (.inl q))))
   · rcases hown _ q with r | r
     · exact .inl (.inr (.inr (.inr (.inr (.inl r)))))
     · exact .inr r
   · exact .inl (.inr (.inr (.inr (.inr (.inr q)))))
theorem DocAt.seenTo (h : DocAt w base st p) (hs : st.S.length = 8) (a : Nat) (ha : a < 8) (y : Int) : DocAt (w.setCell ⟨p.D, 2 + a, none⟩ (.int .u32 y)) base { st with S := st.S.set a y } p ∧ DocTo p p w (w.setCell ⟨p.D, 2 + a, none⟩ (.int .u32 y)) := by
 have hk : ∀ k, docP p k → k ≠ p.D → (w.setCell ⟨p.D, 2 + a, none⟩ (.int .u32 y)).heap[k]? = w.heap[k]? := fun k q r => Below.heap_setCell w _ _ k r
 refine ⟨⟨?_, h.tree.congr fun k q => hk k (.inr (.inl q)) (h.apart.tree k q).1, h.book.congr (hk _ (.inr (.inr (.inl rfl))) (Ne.symm h.apart.d.1)) (hk _ (.inr (.inr (.inr (.inl rfl)))) (Ne.symm h.apart.d.2.1)), h.evs.congr fun g q => hk g (.inr (.inr (.inr (.inr (.inl q))))) (fun r => h.apart.d.2.2.2 (r ▸ q)), h.force.congr (hk _ (.inr (.inr (.inr (.inr (.inr rfl))))) (Ne.symm h.apart.d.2.2.1)), h.apart⟩, Turn.of_setCell w (.inl rfl) _, fun k q => .inl q, rfl⟩
 have := h.box.set (2 + a) (.int .u32 y)
 rw [docC_seen st p hs a ha y] at this
 exact this
end
theorem forM_snoc (F : List (Int × Int)) (x : Int × Int) : putG (forM F) x (.agg #[]) = forM (F ++ [x]) := by
 funext y
 unfold putG forM
 by_cases e : y = x
 · rw [if_pos e, if_pos (by rw [e]; simp)]
 · rw [if_neg e]
   by_cases q : y ∈ F
   · rw [if_pos q, if_pos (by simp [q])]
   · rw [if_neg q, if_neg (by simp [q, e])]
def ndC (n : Nd) : List Value := encF n.id ++ encF n.side.1 ++ [.bool n.side.2] ++ [.int .u8 n.chr]
theorem ndC_one (n : Nd) : ∀ u ∈ ndC n, u.oneCell' = true := by
 intro u hu
 simp only [ndC, encF, dotC, List.mem_append, List.mem_cons, List.not_mem_nil, or_false] at hu
 rcases hu with (((rfl | rfl) | (rfl | rfl)) | rfl) | rfl <;> rfl
structure RefT (w : World) (base R : Nat) (v : Value) (N : List Nd) : Prop where
 box : CellsAt w R 122 [v]
 own : OwnI w base 124 6 v (N.map ndC)
 len : N.length ≤ 1000
def refP (R : Nat) (v : Value) (k : Nat) : Prop := k = R ∨ v.ownBlock = some k
theorem RefT.ne {w : World} {base R : Nat} {v : Value} {N : List Nd} (h : RefT w base R v N) : v.ownBlock ≠ some R := fun q => by
 obtain ⟨_, _, cur, h2⟩ := h.own.blockLt R q
 have := h.box
 unfold CellsAt at this
 rw [h2] at this
 injection this with this
 injection this with _ e _
 exact absurd e (by decide)
theorem RefT.congr {w w' : World} {base R : Nat} {v : Value} {N : List Nd} (h : RefT w base R v N) (hk : ∀ k, refP R v k → w'.heap[k]? = w.heap[k]?) : RefT w' base R v N := ⟨h.box.congr (hk R (.inl rfl)), h.own.congr fun g hg => hk g (.inr hg), h.len⟩
theorem RefT.blockLt {w : World} {base R : Nat} {v : Value} {N : List Nd} (h : RefT w base R v N) (k : Nat) (hk : refP R v k) : k < w.heap.size := by
 rcases hk with rfl | hk
 · exact h.box.lt
 · exact (h.own.blockLt k hk).1
theorem RefT.far {w w' : World} {base R : Nat} {v : Value} {N : List Nd} (h : RefT w base R v N) (hb : Below w.heap.size w w') : RefT w' base R v N := h.congr fun k hk => hb.block k (h.blockLt k hk)
theorem rnone8_any (x : Int × Int) (w : World) : Calls Tryz.prog 85 #[.agg (encF x).toArray] w fun e w' => e = .returned (.bool (decide (x = (0, 0)))) ∧ Below w.heap.size w w' := by
 obtain ⟨a, s⟩ := x
 have hB : Below w.heap.size w (w.alloc (.cells #[.int .u8 a, .int .u32 s] 40)) := (Below.refl _ _).alloc (Nat.le_refl _) _
 simp only [encF, dotC]
 by_cases h1 : a = 0
 · by_cases h2 : s = 0
   · subst h1 h2
     go_enter Tryz.func85, Tryz.ntmps85
     go_wp2
     go_ret
     exact ⟨rfl, hB⟩
   · subst h1
     have hd : decide (((0 : Int), s) = (0, 0)) = false := by simp [h2]
     have h2b : (s == 0) = false := by simpa using h2
     rw [hd]
     go_enter Tryz.func85, Tryz.ntmps85
     go_wp2
     go_ret
     exact ⟨rfl, hB⟩
 · have hd : decide ((a, s) = (0, 0)) = false := by simp [h1]
   have h1b : (a == 0) = false := by simpa using h1
   rw [hd]
   go_enter Tryz.func85, Tryz.ntmps85
   go_wp2
   go_ret
   exact ⟨rfl, hB⟩
def idxN (N : List Nd) (x : Int × Int) : Int := match N.findIdx? (fun n => decide (n.id = x)) with | some i => (i : Nat) | none => -1
theorem idxN_at {N : List Nd} {x : Int × Int} {i : Nat} (hi : i < N.length) (h1 : ∀ j (hj : j < N.length), j < i → N[j].id ≠ x) (h2 : N[i].id = x) : idxN N x = (i : Nat) := by
 unfold idxN
 have : N.findIdx? (fun n => decide (n.id = x)) = some i := by
  rw [List.findIdx?_eq_some_iff_getElem]
  exact ⟨hi, by simpa using h2, fun j hj => by simpa using h1 j (by omega) hj⟩
 rw [this]
theorem idxN_none {N : List Nd} {x : Int × Int} (h1 : ∀ j (hj : j < N.length), N[j].id ≠ x) : idxN N x = -1 := by
 unfold idxN
 have : N.findIdx? (fun n => decide (n.id = x)) = none := by
  rw [List.findIdx?_eq_none_iff]
  intro n hn
  obtain ⟨j, hj, rfl⟩ := List.getElem_of_mem hn
  simpa using h1 j hj
 rw [this]
theorem idxN_cases (N : List Nd) (x : Int × Int) : (idxN N x = -1 ∧ (chrN N x).isSome = false) ∨ ∃ i, ∃ hi : i < N.length, idxN N x = (i : Nat) ∧ N[i].id = x ∧ (chrN N x).isSome = true := by
 unfold idxN
 cases h : N.findIdx? (fun n => decide (n.id = x)) with
 | none =>
  refine .inl ⟨rfl, ?_⟩
  rw [List.findIdx?_eq_none_iff] at h
  cases hq : (chrN N x).isSome with
  | false => rfl
  | true =>
   obtain ⟨n, hn, e⟩ := chrN_some.1 hq
   have := h n hn
   simp [e] at this
 | some i =>
  rw [List.findIdx?_eq_some_iff_getElem] at h
  obtain ⟨hi, h1, _⟩ := h
  exact .inr ⟨i, hi, rfl, by simpa using h1, chrN_some.2 ⟨N[i], List.getElem_mem hi, by simpa using h1⟩⟩
theorem exec_eqF {P : Program} {ρ : Operand → Value} {o : Oper} {w : World} {op : BinOp} {t u : TypeId} {x y : Operand} (ho : o.op = .binOp op t x y u) {xv yv v : Value} (hx : ρ x = xv) (hy : ρ y = yv) (hg : (eqGuard op t x y xv yv).run P w = .ok () w) (hrun : (binOp op t xv yv).run P w = .ok v w) : (execOp ρ o).run P w = .ok (.value v) w := by
 unfold execOp
 simp only [ho, hx, hy, Sem.run_bind, hg, hrun, Result.andThen_ok, Sem.run_pure]
set_option maxHeartbeats 4000000 in
theorem ratT_any (base R : Nat) (v : Value) (N : List Nd) (x : Int × Int) (w : World) (hT : RefT w base R v N) :
    Calls Tryz.prog 86 #[.pointer (some ⟨R, 0, none⟩), .agg (encF x).toArray] w fun e w' => e = .returned (.int .i64 (idxN N x)) ∧ Below w.heap.size w w' := by
 have hd0 := CellsAt.new w 40 (encF x)
 have hB : Below w.heap.size w (w.alloc (.cells (encF x).toArray 40)) := (Below.refl _ _).alloc (Nat.le_refl _) _
 have uD := Tryz.underlying40
 have iD : ∀ y : Int × Int, (Tryz.prog.info? 40).map (·.size) = some (encF y).length := fun y => sizeDot
 have iX := iD x
 have HEQ : Veil (∀ (y : Int × Int) (wx : World), (binOp BinOp.eql 40 (.agg (encF y).toArray) (.agg (encF x).toArray)).run Tryz.prog wx = .ok (.bool (decide (y = x))) wx) := ⟨fun y wx => by
  rw [dot_eql y.1 y.2 x.1 x.2 wx]
  congr 2
  obtain ⟨a, b⟩ := y
  obtain ⟨c, d⟩ := x
  by_cases h1 : a = c <;> by_cases h2 : b = d <;> simp [h1, h2]⟩
 obtain ⟨sx, sc, hsl⟩ := hT.own.isSlice
 rw [List.length_map] at hsl
 have hln := hT.len
 subst hsl
 have HT := Veil.mk hT
 obtain ⟨n, hn⟩ : ∃ q, N.length = q := ⟨_, rfl⟩
 have HN := Veil.mk hn
 rw [hn] at HT hln
 have HX0 : Veil (∀ i, i ≤ N.length → (∀ j (hj : j < N.length), j < i → N[j].id ≠ x) → ∀ hi : i < N.length, N[i].id = x → idxN N x = (i : Nat)) := ⟨fun i _ h1 hi h2 => idxN_at hi h1 h2⟩
 have HX1 : Veil ((∀ j (hj : j < N.length), N[j].id ≠ x) → idxN N x = -1) := ⟨idxN_none⟩
 obtain ⟨DX, hDX⟩ : ∃ q, encF x = q := ⟨_, rfl⟩
 rw [hDX] at hd0 hB iX HEQ ⊢
 clear hDX hT hn
 generalize idxN N x = RX at HX0 HX1 ⊢
 go_enter Tryz.func86, Tryz.ntmps86
 go_upto_region 1 with fail
 refine forget (p := fun y => Code.wp _ _ _ _ y) (fun W => Below w.heap.size w W ∧ CellsAt W w.heap.size 40 DX) ⟨hB, hd0⟩ ?_
 clear hB hd0
 rintro W0 ⟨hB0, hd0⟩
 go_wp2_with fail
 go_loopw [5] (fun p wr => ∃ i : Nat, p = .int .i64 (i : Nat) ∧ i ≤ n ∧ (∀ j (hj : j < N.length), j < i → N[j].id ≠ x) ∧ Below w.heap.size w wr ∧ CellsAt wr w.heap.size 40 DX) (fun p _ => n - (intOf p).toNat)
 case atStart => exact ⟨0, rfl, Nat.zero_le _, fun j hj h => by omega, hB0, hd0⟩
 case round =>
  obtain ⟨i, rfl, hi, hlo, hB, hd⟩ := hrel
  clear hB0 hd0
  have hTr := HT.out.far hB
  have cR : wr.cell? ⟨R, 0, none⟩ = some (.slice sx n sc) := hTr.box.cell 0
  have HLO := Veil.mk hlo
  clear hlo
  by_cases hlt : i < n
  · have hli : (i : Int) < (n : Int) := by omega
    have hli0 : (0 : Int) ≤ (i : Int) := by omega
    have hki : i < N.length := by rw [HN.out]; exact hlt
    obtain ⟨g, rfl, -, hr⟩ := hTr.own.at_ i (by rw [List.length_map]; exact hki)
    rw [List.getElem_map] at hr
    have hr2 : wr.rangeAt g (i * 6) (encF N[i].id) := fun q u hu => by
     refine hr q u ?_
     have hq : q < 2 := by have := (List.getElem?_eq_some_iff.1 hu).1; exact this
     unfold ndC
     rw [List.append_assoc, List.append_assoc, List.getElem?_append_left hq]; exact hu
    have hdx := hd.wholeM
    have iH := iD N[i].id
    have heq := HEQ.out N[i].id
    have HYES : Veil (N[i].id = x → RX = (i : Nat)) := ⟨fun h => HX0.out i (by omega) HLO.out hki h⟩
    have HNO : Veil (N[i].id ≠ x → ∀ j (hj : j < N.length), j < i + 1 → N[j].id ≠ x) := ⟨fun h j hj hji => by
     rcases Nat.lt_or_eq_of_le (Nat.le_of_lt_succ hji) with q | q
     · exact HLO.out j hj q
     · subst q; exact h⟩
    generalize N[i].id = y at hr2 iH heq HYES HNO
    generalize encF y = DH at hr2 iH heq
    have hww : IntKind.i64.wrap ((i : Int) + 1) = (i : Int) + 1 := by rw [IntKind.wrap_i64]; omega
    clear hTr hr hki
    go_upto_region 4 with fail
    refine wp_region_gateT (fun w' => w'.cell? ⟨R, 0, none⟩ = some (.slice (some ⟨g, 0, none⟩) n sc) ∧ w'.rangeAt g (i * 6) DH ∧ w'.rangeAt w.heap.size 0 DX) (fun _ => True) 99 (by kernel_rfl) ?_
    have hT : (fun w' : World => w'.cell? ⟨R, 0, none⟩ = some (.slice (some ⟨g, 0, none⟩) n sc) ∧ w'.rangeAt g (i * 6) DH ∧ w'.rangeAt w.heap.size 0 DX) wr.drew := ⟨cR, hr2, hdx⟩
    have hS : (fun _ : World => True) wr.drew := trivial
    by_cases he : y = x
    · have hde : decide (y = x) = true := by simpa using he
      rw [hde] at heq
      refine ghA 0 _ hT hS ?_
      simp only [Act.put, gA, gS, gZ, sI, sZ, sS]
      refine ghA 1 _ hT hS ?_
      simp only [Act.put, gA, gS, gZ, sI, sZ, sS]
      refine ghA 2 _ hT hS ?_
      simp only [Act.put, gA, gS, gZ, sI, sZ, sS]
      refine ghA 3 _ hT hS ?_
      simp only [Act.put, gA, gS, gZ, sI, sZ, sS]
      refine ghA 4 _ hT hS ?_
      simp only [Act.put, gA, gS, gZ, sI, sZ, sS]
      refine ghA 5 _ hT hS ?_
      simp only [Act.put, gA, gS, gZ, sI, sZ, sS]
      refine ghA 6 _ hT hS ?_
      simp only [Act.put, gA, gS, gZ, sI, sZ, sS]
      refine gl 7 26 40 25 g (i * 6) DH (by kernel_rfl) (by kernel_rfl) (by kernel_rfl) (fun _ _ _ h => h) hT hS (by kernel_rfl) (fun _ h => h.2.1) uD rfl iH ?_
      simp only [Act.put, gA, gS, gZ, sI, sZ, sS]
      refine gl 8 27 40 3 w.heap.size 0 DX (by kernel_rfl) (by kernel_rfl) (by kernel_rfl) (fun _ _ _ h => h) hT hS (by kernel_rfl) (fun _ h => h.2.2) uD rfl iX ?_
      simp only [Act.put, gA, gS, gZ, sI, sZ, sS]
      refine wpAnyT_held (i := 9) (v := (.bool true)) rfl (by kernel_rfl) (by kernel_rfl) (by kernel_rfl) (fun _ _ _ h => h) (by kernel_rfl) hT (fun _ => hS) (by kernel_rfl) (fun wx h => exec_eqF rfl rfl rfl (by go_simp) (heq wx)) ?_
      simp only [Act.put, gA, gS, gZ, sI, sZ, sS]
      refine wpAnyT_done (by kernel_rfl) ?_ _
      have HR := Veil.mk (HYES.out he)
      clear hT hS heq hr2 hdx hde HYES HNO
      go_wp2
      go_ret
      exact ⟨by rw [HR.out]; rfl, hB.drew⟩
    · have hde : decide (y = x) = false := by simpa using he
      rw [hde] at heq
      refine ghA 0 _ hT hS ?_
      simp only [Act.put, gA, gS, gZ, sI, sZ, sS]
      refine ghA 1 _ hT hS ?_
      simp only [Act.put, gA, gS, gZ, sI, sZ, sS]
      refine ghA 2 _ hT hS ?_
      simp only [Act.put, gA, gS, gZ, sI, sZ, sS]
      refine ghA 3 _ hT hS ?_
      simp only [Act.put, gA, gS, gZ, sI, sZ, sS]
      refine ghA 4 _ hT hS ?_
      simp only [Act.put, gA, gS, gZ, sI, sZ, sS]
      refine ghA 5 _ hT hS ?_
      simp only [Act.put, gA, gS, gZ, sI, sZ, sS]
      refine ghA 6 _ hT hS ?_
      simp only [Act.put, gA, gS, gZ, sI, sZ, sS]
      refine gl 7 26 40 25 g (i * 6) DH (by kernel_rfl) (by kernel_rfl) (by kernel_rfl) (fun _ _ _ h => h) hT hS (by kernel_rfl) (fun _ h => h.2.1) uD rfl iH ?_
      simp only [Act.put, gA, gS, gZ, sI, sZ, sS]
      refine gl 8 27 40 3 w.heap.size 0 DX (by kernel_rfl) (by kernel_rfl) (by kernel_rfl) (fun _ _ _ h => h) hT hS (by kernel_rfl) (fun _ h => h.2.2) uD rfl iX ?_
      simp only [Act.put, gA, gS, gZ, sI, sZ, sS]
      refine wpAnyT_held (i := 9) (v := (.bool false)) rfl (by kernel_rfl) (by kernel_rfl) (by kernel_rfl) (fun _ _ _ h => h) (by kernel_rfl) hT (fun _ => hS) (by kernel_rfl) (fun wx h => exec_eqF rfl rfl rfl (by go_simp) (heq wx)) ?_
      simp only [Act.put, gA, gS, gZ, sI, sZ, sS]
      refine wpAnyT_done (by kernel_rfl) ?_ _
      have HR := Veil.mk (HNO.out he)
      have HBD := Veil.mk (And.intro hB.drew (hd.congr (w' := wr.drew) rfl))
      clear hT hS heq hr2 hdx hde HYES HNO hB hd cR
      go_wp2
      go_roundw
      case rel => exact ⟨i + 1, by push_cast; rfl, hlt, HR.out, HBD.out.1, HBD.out.2⟩
      case measure => simp [intOf]; omega
  · obtain rfl : i = n := by omega
    have hli : ¬ (i : Int) < (i : Int) := by omega
    have HR := Veil.mk (HX1.out (fun j hj => HLO.out j hj (by rw [← HN.out]; exact hj)))
    go_wp2
    go_ret
    exact ⟨by rw [HR.out]; rfl, hB⟩
end Go.Proofs.YtmbdohnmbkpfaaaGreat
