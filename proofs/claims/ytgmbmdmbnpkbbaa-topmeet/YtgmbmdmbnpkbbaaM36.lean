/- Dc3 -/
import Derived.Test.YtgmbmdmbnpkbbaaM35
namespace Go.Proofs.Ytgmbmdmbnpkbbaa
open Go.RowKit Go.Shelf
set_option maxRecDepth 20000
set_option linter.unusedSimpArgs false
section
variable {w w' : World} {base : Nat} {st : Ds} {p : Pl}
theorem DocAt.treeTo (h : DocAt w base st p) {N' : List Nd} {V' : (Int × Int) × Bool → Value} (hT : TreeAt w' base p.R p.bc p.bn N' V') (ht : TreeTo p.R p.bc p.bn p.V V' w w') : DocAt w' base { st with N := N' } { p with V := V' } ∧ DocTo p { p with V := V' } w w' := by
  have hk : ∀ k, docP p k → ¬ treeP p.R p.bc p.bn p.V k → w'.heap[k]? = w.heap[k]? := fun k q r => ht.turn.block k (h.blockLt k q) r
  have n1 : ¬ treeP p.R p.bc p.bn p.V p.D := fun q => (h.apart.tree _ q).1 rfl
  have n2 : ¬ treeP p.R p.bc p.bn p.V p.H := fun q => (h.apart.tree _ q).2.1 rfl
  have n3 : ¬ treeP p.R p.bc p.bn p.V p.bk := fun q => (h.apart.tree _ q).2.2.1 rfl
  have n4 : ¬ treeP p.R p.bc p.bn p.V p.fm := fun q => (h.apart.tree _ q).2.2.2.1 rfl
  have n5 : ∀ g, p.v.ownBlock = some g → ¬ treeP p.R p.bc p.bn p.V g := fun g hg q => (h.apart.tree _ q).2.2.2.2 hg
  refine ⟨⟨h.box.congr (hk _ (.inl rfl) n1), hT, h.book.congr (hk _ (.inr (.inr (.inl rfl))) n2) (hk _ (.inr (.inr (.inr (.inl rfl)))) n3), h.evs.congr fun g q => hk g (.inr (.inr (.inr (.inr (.inl q))))) (n5 g q), h.force.congr (hk _ (.inr (.inr (.inr (.inr (.inr rfl))))) n4), ⟨fun k q => ?_, h.apart.d, h.apart.b⟩⟩, ⟨ht.turn.mono fun k _ q => .inr (.inl q), fun k q => ?_, rfl⟩⟩
  · show k ≠ p.D ∧ k ≠ p.H ∧ k ≠ p.bk ∧ k ≠ p.fm ∧ p.v.ownBlock ≠ some k
    rcases ht.own k q with r | r
    · exact h.apart.tree k r
    · have l1 := h.box.lt
      have l2 := h.book.cells.lt
      have l3 := h.book.map.lt
      have l4 := h.force.lt
      exact ⟨fun e => by omega, fun e => by omega, fun e => by omega, fun e => by omega, fun e => by have := (h.evs.blockLt k e).1; omega⟩
  · rcases q with q | q | q | q | q | q
    · exact .inl (.inl q)
    · rcases ht.own k q with r | r
      · exact .inl (.inr (.inl r))
      · exact .inr r
    · exact .inl (.inr (.inr (.inl q)))
    · exact .inl (.inr (.inr (.inr (.inl q))))
    · exact .inl (.inr (.inr (.inr (.inr (.inl q)))))
    · exact .inl (.inr (.inr (.inr (.inr (.inr q)))))
theorem DocAt.bookTo (h : DocAt w base st p) {B' : List Ent} (hK : BookC w' p.H p.bk B') (ht : Turn (fun k => k = p.bk) w w') : DocAt w' base { st with B := B' } p ∧ DocTo p p w w' := by
  have hk : ∀ k, docP p k → k ≠ p.bk → w'.heap[k]? = w.heap[k]? := fun k q r => ht.block k (h.blockLt k q) r
  refine ⟨⟨h.box.congr (hk _ (.inl rfl) h.apart.d.2.1), h.tree.congr fun k q => hk k (.inr (.inl q)) (h.apart.tree k q).2.2.1, hK, h.evs.congr fun g q => hk g (.inr (.inr (.inr (.inr (.inl q))))) (fun e => h.apart.b.2.2.2.2.1 (e ▸ q)), h.force.congr (hk _ (.inr (.inr (.inr (.inr (.inr rfl))))) (Ne.symm h.apart.b.2.2.2.1)), h.apart⟩, ⟨ht.mono fun k _ q => .inr (.inr (.inr (.inl q))), fun k q => .inl q, rfl⟩⟩
theorem DocAt.forceTo (h : DocAt w base st p) {F' : List (Int × Int)} (hF : MapG Try.prog 26 encDF okDF w' p.fm F'.length (forM F')) (hg : w.grownBy w' (some p.fm)) : DocAt w' base { st with F := F' } p ∧ DocTo p p w w' := by
  have ht : Turn (fun k => k = p.fm) w w' := Turn.of_grown hg fun k e => by injection e with e; exact e.symm
  have hk : ∀ k, docP p k → k ≠ p.fm → w'.heap[k]? = w.heap[k]? := fun k q r => ht.block k (h.blockLt k q) r
  refine ⟨⟨h.box.congr (hk _ (.inl rfl) h.apart.d.2.2.1), h.tree.congr fun k q => hk k (.inr (.inl q)) (h.apart.tree k q).2.2.2.1, h.book.congr (hk _ (.inr (.inr (.inl rfl))) h.apart.b.2.1) (hk _ (.inr (.inr (.inr (.inl rfl)))) h.apart.b.2.2.2.1), h.evs.congr fun g q => hk g (.inr (.inr (.inr (.inr (.inl q))))) (fun e => h.apart.b.2.2.2.2.2 (e ▸ q)), hF, h.apart⟩, ⟨ht.mono fun k _ q => .inr (.inr (.inr (.inr (.inr q)))), fun k q => .inl q, rfl⟩⟩
end
set_option maxHeartbeats 8000000 in
theorem dallowed_any (base : Nat) (st : Ds) (p : Pl) (e : Ev) (least : Int) (w : World) (hD : DocAt w base st p) (hG : GoodD st) (he : e.Ok) :
    Calls Try.prog 66 #[.pointer (some ⟨p.D, 0, none⟩), .agg e.cells.toArray, .int .u8 least] w fun r w' => r = .returned (.bool (mayB st e least)) ∧ Below w.heap.size w w' := by
  have hB0 : Below w.heap.size w (w.alloc (.cells e.cells.toArray 32)) := (Below.refl _ _).alloc (Nat.le_refl _) _
  have hx0 := CellsAt.new w 32 e.cells
  have iV : (Try.prog.info? 28).map (·.size) = some (e.past.map (Value.int .u32)).length := by rw [List.length_map, he.past]; kernel_rfl
  have uV := Try.underlying28
  have HT : Veil (∀ W, Below w.heap.size w W → CellsAt W w.heap.size 32 e.cells → W.cell? ⟨p.D, 1, none⟩ = some (.pointer (some ⟨p.H, 0, none⟩)) ∧ W.cell? ⟨w.heap.size, 0, none⟩ = some (.int .u8 e.da) ∧ W.rangeAt w.heap.size 2 (e.past.map (Value.int .u32)) ∧ BookC W p.H p.bk st.B) := ⟨fun W hb hx => by
    have h1 := hx.range 2 8
    rw [(ev_parts e he.past).2.1] at h1
    have hD1 := hD.far hb
    exact ⟨hD1.cH hG.slen, (hx.cell 0).trans rfl, h1, hD1.book⟩⟩
  have HRO : Veil (∀ W, BookC W p.H p.bk st.B → Calls Try.prog 22 #[.pointer (some ⟨p.H, 0, none⟩), .int .u8 e.da, .agg (e.past.map (Value.int .u32)).toArray] W fun x w' => x = .returned (.int .u8 (roleP st.B e.da e.past)) ∧ Below W.heap.size W w') := ⟨fun W hb => role_any p.H p.bk st.B e.da e.past W hb he.past⟩
  obtain ⟨E, hE⟩ : ∃ E, e.cells = E := ⟨_, rfl⟩
  unfold mayB
  rw [hE] at hB0 hx0 HT
  rw [hE]
  generalize roleP st.B e.da e.past = RO at HRO ⊢
  generalize e.past.map (Value.int .u32) = PV at HRO HT iV
  generalize p.D = D at HT ⊢
  generalize p.H = H at HT HRO
  generalize p.bk = bk at HT HRO
  clear hE hD hG he
  go_enter Try.func66, Try.ntmps66
  go_upto_region 1 with fail
  refine forget (p := fun y => Code.wp _ _ _ _ y) (fun W => Below w.heap.size w W ∧ CellsAt W w.heap.size 32 E) ⟨hB0, hx0⟩ ?_
  clear hB0 hx0
  rintro W ⟨hB, hx⟩
  have hb0 : Below W.heap.size W W.drew := (Below.refl _ _).drew
  have HTT : Veil (∀ W2, Below W.heap.size W W2 → W2.cell? ⟨D, 1, none⟩ = some (.pointer (some ⟨H, 0, none⟩)) ∧ W2.cell? ⟨w.heap.size, 0, none⟩ = some (.int .u8 e.da) ∧ W2.rangeAt w.heap.size 2 PV ∧ BookC W2 H bk st.B) := ⟨fun W2 hb => HT.out W2 (hB.trans (hb.mono hB.size)) (hx.farM hb)⟩
  obtain ⟨q1, q2, q3, q4⟩ := HTT.out _ hb0
  have hT : (fun W : World => W.cell? ⟨D, 1, none⟩ = some (.pointer (some ⟨H, 0, none⟩)) ∧ W.cell? ⟨w.heap.size, 0, none⟩ = some (.int .u8 e.da) ∧ W.rangeAt w.heap.size 2 PV) W.drew := ⟨q1, q2, q3⟩
  have hS : (fun _ : World => True) W.drew := trivial
  have hro := HRO.out _ q4
  clear q1 q2 q3 q4
  refine wp_region_gateT (fun W : World => W.cell? ⟨D, 1, none⟩ = some (.pointer (some ⟨H, 0, none⟩)) ∧ W.cell? ⟨w.heap.size, 0, none⟩ = some (.int .u8 e.da) ∧ W.rangeAt w.heap.size 2 PV) (fun _ => True) 99 (by kernel_rfl) ?_
  refine wpAnyT_held (i := 0) (v := ?_) rfl (by kernel_rfl) (by kernel_rfl) (by kernel_rfl) (fun _ _ _ h => h) (by kernel_rfl) hT (fun _ => hS) (by kernel_rfl) ?_ ?_
  rotate_left
  · intro wx hSw; go_split_ands; go_simp; try with_reducible rfl
  simp only [Act.put, List.getElem_toArray, List.getElem_cons_succ, List.getElem_cons_zero, List.setIfInBounds_toArray, List.set_cons_zero, List.set_cons_succ]
  refine wpAnyT_held (i := 1) (v := ?_) rfl (by kernel_rfl) (by kernel_rfl) (by kernel_rfl) (fun _ _ _ h => h) (by kernel_rfl) hT (fun _ => hS) (by kernel_rfl) ?_ ?_
  rotate_left
  · intro wx hSw; go_split_ands; go_simp; try with_reducible rfl
  simp only [Act.put, List.getElem_toArray, List.getElem_cons_succ, List.getElem_cons_zero, List.setIfInBounds_toArray, List.set_cons_zero, List.set_cons_succ]
  refine wpAnyT_held (i := 2) (v := ?_) rfl (by kernel_rfl) (by kernel_rfl) (by kernel_rfl) (fun _ _ _ h => h) (by kernel_rfl) hT (fun _ => hS) (by kernel_rfl) ?_ ?_
  rotate_left
  · intro wx hSw; go_split_ands; go_simp; try with_reducible rfl
  simp only [Act.put, List.getElem_toArray, List.getElem_cons_succ, List.getElem_cons_zero, List.setIfInBounds_toArray, List.set_cons_zero, List.set_cons_succ]
  refine wpAnyT_held (i := 3) (v := ?_) rfl (by kernel_rfl) (by kernel_rfl) (by kernel_rfl) (fun _ _ _ h => h) (by kernel_rfl) hT (fun _ => hS) (by kernel_rfl) ?_ ?_
  rotate_left
  · intro wx hSw; go_split_ands; go_simp; try with_reducible rfl
  simp only [Act.put, List.getElem_toArray, List.getElem_cons_succ, List.getElem_cons_zero, List.setIfInBounds_toArray, List.set_cons_zero, List.set_cons_succ]
  refine wpAnyT_held (i := 4) (v := ?_) rfl (by kernel_rfl) (by kernel_rfl) (by kernel_rfl) (fun _ _ _ h => h) (by kernel_rfl) hT (fun _ => hS) (by kernel_rfl) ?_ ?_
  rotate_left
  · intro wx hSw; go_split_ands; go_simp; try with_reducible rfl
  simp only [Act.put, List.getElem_toArray, List.getElem_cons_succ, List.getElem_cons_zero, List.setIfInBounds_toArray, List.set_cons_zero, List.set_cons_succ]
  refine wpAnyT_held (i := 5) (v := ?_) rfl (by kernel_rfl) (by kernel_rfl) (by kernel_rfl) (fun _ _ _ h => h) (by kernel_rfl) hT (fun _ => hS) (by kernel_rfl) ?_ ?_
  rotate_left
  · intro wx hSw; go_split_ands; go_simp; try with_reducible rfl
  simp only [Act.put, List.getElem_toArray, List.getElem_cons_succ, List.getElem_cons_zero, List.setIfInBounds_toArray, List.set_cons_zero, List.set_cons_succ]
  refine wpAnyT_held (i := 6) (v := ?_) rfl (by kernel_rfl) (by kernel_rfl) (by kernel_rfl) (fun _ _ _ h => h) (by kernel_rfl) hT (fun _ => hS) (by kernel_rfl) ?_ ?_
  rotate_left
  · intro wx hSw; go_split_ands; go_simp; try with_reducible rfl
  simp only [Act.put, List.getElem_toArray, List.getElem_cons_succ, List.getElem_cons_zero, List.setIfInBounds_toArray, List.set_cons_zero, List.set_cons_succ]
  refine wpAnyT_held (i := 7) (v := ?_) rfl (by kernel_rfl) (by kernel_rfl) (by kernel_rfl) (fun _ _ _ h => h) (by kernel_rfl) hT (fun _ => hS) (by kernel_rfl) ?_ ?_
  rotate_left
  · intro wx hSw; go_split_ands; go_simp; try with_reducible rfl
  simp only [Act.put, List.getElem_toArray, List.getElem_cons_succ, List.getElem_cons_zero, List.setIfInBounds_toArray, List.set_cons_zero, List.set_cons_succ]
  refine wpAnyT_load (i := 8) (dst := some 15) (ty := 28) (x := .tmp 14) (b := w.heap.size) (o := (2)) (cs := PV) (by kernel_rfl) (by kernel_rfl) (by kernel_rfl) (by kernel_rfl) (by kernel_rfl) (fun _ _ _ h => h) (by kernel_rfl) hT (fun _ => hS) (by kernel_rfl) (fun _ h => h.2.2) uV rfl iV ?_
  simp only [Act.put, List.getElem_toArray, List.getElem_cons_succ, List.getElem_cons_zero, List.setIfInBounds_toArray, List.set_cons_zero, List.set_cons_succ]
  refine wpAnyT_held (i := 10) (v := ?_) rfl (by kernel_rfl) (by kernel_rfl) (by kernel_rfl) (fun _ _ _ h => h) (by kernel_rfl) hT (fun _ => hS) (by kernel_rfl) ?_ ?_
  rotate_left
  · intro wx hSw; go_split_ands; go_simp; try with_reducible rfl
  simp only [Act.put, List.getElem_toArray, List.getElem_cons_succ, List.getElem_cons_zero, List.setIfInBounds_toArray, List.set_cons_zero, List.set_cons_succ]
  refine wpAnyT_one (i := 9) rfl (by kernel_rfl) (by kernel_rfl) (fun K hK => ?_)
  refine wpx_call _ _ (by kernel_rfl) (hro.mono ?_)
  rintro y W2 ⟨rfl, hb2⟩
  refine ⟨_, rfl, ?_⟩
  replace hb2 : Below W.heap.size W W2 := hb0.trans hb2
  have hT : (fun W : World => W.cell? ⟨D, 1, none⟩ = some (.pointer (some ⟨H, 0, none⟩)) ∧ W.cell? ⟨w.heap.size, 0, none⟩ = some (.int .u8 e.da) ∧ W.rangeAt w.heap.size 2 PV) W2 := ⟨(HTT.out W2 hb2).1, (HTT.out W2 hb2).2.1, (HTT.out W2 hb2).2.2.1⟩
  replace hS : (fun _ : World => True) W2 := trivial
  refine hK.out _ _ hT (fun _ => hS) ?_
  clear hK K
  try simp only [Act.put, List.getElem_toArray, List.getElem_cons_succ, List.getElem_cons_zero, List.setIfInBounds_toArray, List.set_cons_zero, List.set_cons_succ]
  refine wpAnyT_held (i := 11) (v := ?_) rfl (by kernel_rfl) (by kernel_rfl) (by kernel_rfl) (fun _ _ _ h => h) (by kernel_rfl) hT (fun _ => hS) (by kernel_rfl) ?_ ?_
  rotate_left
  · intro wx hSw; go_split_ands; go_simp; try with_reducible rfl
  simp only [Act.put, List.getElem_toArray, List.getElem_cons_succ, List.getElem_cons_zero, List.setIfInBounds_toArray, List.set_cons_zero, List.set_cons_succ]
  refine wpAnyT_held (i := 12) (v := ?_) rfl (by kernel_rfl) (by kernel_rfl) (by kernel_rfl) (fun _ _ _ h => h) (by kernel_rfl) hT (fun _ => hS) (by kernel_rfl) ?_ ?_
  rotate_left
  · intro wx hSw; go_split_ands; go_simp; try with_reducible rfl
  simp only [Act.put, List.getElem_toArray, List.getElem_cons_succ, List.getElem_cons_zero, List.setIfInBounds_toArray, List.set_cons_zero, List.set_cons_succ]
  refine wpAnyT_done (by kernel_rfl) ?_ _
  have HQ := Veil.mk (hB.trans (hb2.mono hB.size))
  clear hT hS hro hb2
  go_wp2
  go_ret
  exact ⟨ret_bC (by simp), HQ.out⟩
end Go.Proofs.Ytgmbmdmbnpkbbaa
