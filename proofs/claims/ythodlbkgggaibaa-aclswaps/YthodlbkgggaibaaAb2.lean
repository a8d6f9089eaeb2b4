/- acl: which events tell of a member; the iterator over those that count. -/
import Derived.Test.YthodlbkgggaibaaAb1
import Derived.Test.YthodlbkgggaibaaCv5
namespace Go.Proofs.Ythodlbkgggaibaa
open Go.RowKit Go.Shelf
attribute [local go_sem] Oper.semAt_some
set_option maxRecDepth 20000
set_option linter.unusedSimpArgs false
theorem aev_len (e : Ev) (h : e.past.length = 8) : e.cells.length = 17 := (ev_cell15 e h).2.2.2.2
theorem aev_one (e : Ev) : ∀ u ∈ e.cells, u.oneCell' = true := by
  unfold Ev.cells dotC
  intro u hu
  simp at hu
  rcases hu with rfl | rfl | ⟨x, _, rfl⟩ | rfl | rfl | rfl | rfl | rfl | rfl | rfl <;> rfl
theorem wpLI_stv {P : Program} {ops : Array Oper} {rest : List Oper} {o : Oper} {a : Act} {w : World} {n : Nat} {Q : Exit → Act → World → Prop} (hgd : o.guard = none) (ty : TypeId) (x y : Operand) (ho : o.op = .store ty x y)
    (g : Nat) (hx : a.eval x = .pointer (some ⟨g, 0, none⟩)) {t : TypeId} {old cs : List Value} (hy : a.eval y = .agg cs.toArray) (hg : CellsAt w g t old)
    (hi : (P.info? ty).map (·.size) = some cs.length) (hl : old.length = cs.length) (h1 : ∀ v ∈ cs, v.oneCell' = true)
    (h : wpListIn Fence.wide n P ops Q rest (a.put o.dst undef) (w.setRow g cs.toArray)) : wpListIn Fence.wide n P ops Q (o :: rest) a w :=
  wpListIn_plain hgd fun _ hK => wpI_op (wp_stvE ty x y ho g hx hy hg hi hl h1 (hK _ _ h))
theorem wpLI_ldv {P : Program} {ops : Array Oper} {rest : List Oper} {o : Oper} {a : Act} {w : World} {n : Nat} {Q : Exit → Act → World → Prop} {d : TypeDesc} (hgd : o.guard = none) (ty : TypeId) (x : Operand) (ho : o.op = .load ty x)
    (g off : Nat) (hx : a.eval x = .pointer (some ⟨g, off, none⟩)) (cs : List Value) (hg : w.rangeAt g off cs)
    (hu : P.underlying ty = some d) (hd : d.isRow = true) (hi : (P.info? ty).map (·.size) = some cs.length)
    (h : wpListIn Fence.wide n P ops Q rest (a.put o.dst (.agg cs.toArray)) w) : wpListIn Fence.wide n P ops Q (o :: rest) a w :=
  wpListIn_plain hgd fun _ hK => wpI_op (wp_load_mid ty x ho g off hx cs _ hg hu hd hi (hK _ _ h))
/-- What the iterator reads. -/
structure CtF (w : World) (B1 B2 H b Bw Bv : Nat) (L : List Ent) (who : Int) (v : List Int) : Prop where
  c1 : w.cell? ⟨B1, 0, none⟩ = some (.pointer (some ⟨H, 0, none⟩))
  c2 : w.cell? ⟨B2, 0, none⟩ = some (.func (.func 32) #[] #[.pointer (some ⟨Bw, 0, none⟩), .pointer (some ⟨Bv, 0, none⟩)])
  book : BookC w H b L
  cw : w.cell? ⟨Bw, 0, none⟩ = some (.int .u8 who)
  cv : w.rangeAt Bv 0 (v.map (Value.int .u32))
  len : v.length = 8
theorem CtF.keep {w W : World} {B1 B2 H b Bw Bv : Nat} {L : List Ent} {who : Int} {v : List Int} (h : CtF w B1 B2 H b Bw Bv L who v) (hk : ∀ k, k < w.heap.size → W.heap[k]? = w.heap[k]?) : CtF W B1 B2 H b Bw Bv L who v :=
  ⟨(World.cell?_of_block (a := ⟨B1, 0, none⟩) (hk _ (block_lt_of_cell h.c1))).trans h.c1, (World.cell?_of_block (a := ⟨B2, 0, none⟩) (hk _ (block_lt_of_cell h.c2))).trans h.c2, h.book.congr (hk _ h.book.cells.lt) (hk _ h.book.map.lt), (World.cell?_of_block (a := ⟨Bw, 0, none⟩) (hk _ (block_lt_of_cell h.cw))).trans h.cw, fun i u hu => (World.cell?_of_block (a := ⟨Bv, 0 + i, none⟩) (hk _ (block_lt_of_cell (h.cv i u hu)))).trans (h.cv i u hu), h.len⟩
set_option maxHeartbeats 4000000 in
theorem role1_any (Bw Bv : Nat) (who : Int) (v : List Int) (e : Ev) (w : World) (hw : w.cell? ⟨Bw, 0, none⟩ = some (.int .u8 who)) (hv : w.rangeAt Bv 0 (v.map (Value.int .u32))) (hl : v.length = 8) (he : e.Ok) :
    Calls Try.prog 32 #[.agg e.cells.toArray, .pointer (some ⟨Bw, 0, none⟩), .pointer (some ⟨Bv, 0, none⟩)] w fun r w' => r = .returned (.bool (tellB who v e)) ∧ Below w.heap.size w w' := by
  have hB0 : Below w.heap.size w (w.alloc (.cells e.cells.toArray 41)) := (Below.refl _ _).alloc (Nat.le_refl _) _
  have hx0 := CellsAt.new w 41 e.cells
  have c15 : (w.alloc (.cells e.cells.toArray 41)).cell? ⟨w.heap.size, 15, none⟩ = some (.int .u8 e.who) := (hx0.cell 15).trans (ev_cell15 e he.past).2.2.1
  have hd1 := hx0.range 0 2
  rw [(ev_parts e he.past).1] at hd1
  have hw1 := (hB0.cell (p := ⟨Bw, 0, none⟩) (block_lt_of_cell hw)).trans hw
  have hv1 : (w.alloc (.cells e.cells.toArray 41)).rangeAt Bv 0 (v.map (Value.int .u32)) := fun i u hu => (hB0.cell (block_lt_of_cell (hv i u hu))).trans (hv i u hu)
  have iD : (Try.prog.info? 38).map (·.size) = some (dotC e.da e.ds).length := sizeDot
  have iV : (Try.prog.info? 25).map (·.size) = some (v.map (Value.int .u32)).length := by rw [List.length_map, hl]; exact sizeV8c
  have uD := Try.underlying38
  have uV := Try.underlying25
  have hh : Calls Try.prog 33 #[.agg (v.map (Value.int .u32)).toArray, .agg (dotC e.da e.ds).toArray] (w.alloc (.cells e.cells.toArray 41)) fun r w' => r = .returned (.bool (hasB v e.da e.ds)) ∧ Below (w.alloc (.cells e.cells.toArray 41)).heap.size (w.alloc (.cells e.cells.toArray 41)) w' := chas_any v e.da e.ds (w.alloc (.cells e.cells.toArray 41)) hl he.dot.1.1 he.dot.2.1
  have HT : Veil (tellB who v e = ((e.who == who) && hasB v e.da e.ds)) := ⟨rfl⟩
  generalize tellB who v e = TB at HT ⊢
  generalize hasB v e.da e.ds = HB at HT hh
  generalize v.map (Value.int .u32) = SV at hv1 iV hh
  generalize dotC e.da e.ds = DV at hd1 iD hh
  generalize e.cells = E at hB0 hx0 c15 hd1 hw1 hv1 hh ⊢
  generalize e.who = ew at c15 HT
  clear hv hw he hx0
  go_enter Try.func32, Try.ntmps32
  by_cases hq : ew = who
  · subst hq
    replace HT : Veil (TB = HB) := ⟨by rw [HT.out]; simp⟩
    have hqb : (ew == ew) = true := beq_self_eq_true ew
    go_wp2_with (first
      | (refine wpList_ldgv (by kernel_rfl) 25 _ rfl Bv 0 rfl SV hv1 uV rfl iV ?_)
      | (refine wpList_ldgv (by kernel_rfl) 38 _ rfl w.heap.size 0 rfl DV hd1 uD rfl iD ?_)
      | (go_at_call 33; refine hh.mono ?_; rintro x W1 ⟨rfl, hb1⟩))
    go_ret
    exact ⟨by rw [HT.out]; rfl, hB0.trans (hb1.mono hB0.size)⟩
  · have hqb : (ew == who) = false := by simpa using hq
    replace HT : Veil (TB = false) := ⟨by rw [HT.out, hqb]; rfl⟩
    go_wp2
    go_ret
    exact ⟨by rw [HT.out]; rfl, hB0⟩
set_option maxHeartbeats 2000000 in
theorem counting_any (H Bw Bv : Nat) (w : World) :
    Calls Try.prog 31 #[.pointer (some ⟨H, 0, none⟩), .func (.func 32) #[] #[.pointer (some ⟨Bw, 0, none⟩), .pointer (some ⟨Bv, 0, none⟩)]] w fun e w' => e = .returned (.func (.func 41) #[] #[.pointer (some ⟨w.heap.size, 0, none⟩), .pointer (some ⟨w.heap.size + 1, 0, none⟩)]) ∧ Below w.heap.size w w' ∧ w'.heap.size = w.heap.size + 2 ∧ w'.cell? ⟨w.heap.size, 0, none⟩ = some (.pointer (some ⟨H, 0, none⟩)) ∧ w'.cell? ⟨w.heap.size + 1, 0, none⟩ = some (.func (.func 32) #[] #[.pointer (some ⟨Bw, 0, none⟩), .pointer (some ⟨Bv, 0, none⟩)]) := by
  have hb : Veil (Below w.heap.size w ((w.alloc (.cells #[.pointer (some ⟨H, 0, none⟩)] 26)).alloc (.cells #[.func (.func 32) #[] #[.pointer (some ⟨Bw, 0, none⟩), .pointer (some ⟨Bv, 0, none⟩)]] 57)) ∧ ((w.alloc (.cells #[.pointer (some ⟨H, 0, none⟩)] 26)).alloc (.cells #[.func (.func 32) #[] #[.pointer (some ⟨Bw, 0, none⟩), .pointer (some ⟨Bv, 0, none⟩)]] 57)).heap.size = w.heap.size + 2 ∧ ((w.alloc (.cells #[.pointer (some ⟨H, 0, none⟩)] 26)).alloc (.cells #[.func (.func 32) #[] #[.pointer (some ⟨Bw, 0, none⟩), .pointer (some ⟨Bv, 0, none⟩)]] 57)).cell? ⟨w.heap.size, 0, none⟩ = some (.pointer (some ⟨H, 0, none⟩)) ∧ ((w.alloc (.cells #[.pointer (some ⟨H, 0, none⟩)] 26)).alloc (.cells #[.func (.func 32) #[] #[.pointer (some ⟨Bw, 0, none⟩), .pointer (some ⟨Bv, 0, none⟩)]] 57)).cell? ⟨w.heap.size + 1, 0, none⟩ = some (.func (.func 32) #[] #[.pointer (some ⟨Bw, 0, none⟩), .pointer (some ⟨Bv, 0, none⟩)])) := by
    refine ⟨((Below.refl _ _).alloc (Nat.le_refl _) _).alloc (by simp) _, by simp, ((CellsAt.new w 26 [.pointer (some ⟨H, 0, none⟩)]).alloc _).cell 0, ?_⟩
    have := (CellsAt.new (w.alloc (.cells #[.pointer (some ⟨H, 0, none⟩)] 26)) 57 [.func (.func 32) #[] #[.pointer (some ⟨Bw, 0, none⟩), .pointer (some ⟨Bv, 0, none⟩)]]).cell 0
    rw [World.size_alloc] at this; exact this
  go_enter Try.func31, Try.ntmps31
  go_wp2
  go_ret
  exact ⟨rfl, hb.out⟩
end Go.Proofs.Ythodlbkgggaibaa

