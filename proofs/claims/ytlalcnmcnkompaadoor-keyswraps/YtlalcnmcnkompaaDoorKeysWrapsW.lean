/- keys: what one wraps for another one, that one unwraps to the same key. -/
import Derived.Test.YtlalcnmcnkompaaDoorMEvmKz3
import Derived.Test.YtlalcnmcnkompaaDoorMEqdEvl
import Derived.Test.YtlalcnmcnkompaaDoorKd
namespace Go.Proofs.YtlalcnmcnkompaaDoor
open Go.RowKit
set_option maxRecDepth 20000
set_option linter.unusedSimpArgs false

theorem deed_dot (d : Deed) : (d.cells.drop 1).take 2 = dotC d.ea d.es := rfl
theorem deed_key (d : Deed) (h : d.k.length = 32) : (d.cells.drop 3).take 32 = d.k.map (Value.int .u8) := by
  have e : d.cells.drop 3 = d.k.map (Value.int .u8) ++ ([.int .u8 d.from_] ++ d.w.cells) := by
    show (d.k.map (Value.int .u8) ++ [.int .u8 d.from_]) ++ d.w.cells = _
    rw [List.append_assoc]
  rw [e, List.take_left' (by simp [h])]
theorem wpList_bldgx {P : Program} {ops : Array Oper} {rest : List Oper} {o : Oper} {a : Act} {w : World} {Q : Exit → Act → World → Prop} (hw : Region.wanted o (yielded ops a.tmps) = true) (t : TypeId) (parts : Array (Nat × Operand)) (ho : o.op = .build t parts) (vals : Array (Nat × Value)) (hv : (parts.map fun (i, x) => (i, a.eval x)) = vals) (v : Value) (hrun : (Instr.build t vals).run P w = .ok v w)
    (h : wpList P ops Q rest (a.put o.dst v) w) : wpList P ops Q (o :: rest) a w :=
  wpList_step fun K hK => by
    rw [if_pos hw]
    exact wpx_bld t parts ho vals hv v hrun (hK _ _ h)
theorem wpList_eqgx {P : Program} {ops : Array Oper} {rest : List Oper} {o : Oper} {a : Act} {w : World} {Q : Exit → Act → World → Prop} (hw : Region.wanted o (yielded ops a.tmps) = true) (t u : TypeId) (x y : Operand) (ho : o.op = .binOp .eql t x y u) (xv yv v : Value) (hx : a.eval x = xv) (hy : a.eval y = yv) (hgd : (eqGuard .eql t x y xv yv).run P w = .ok () w) (hrun : (binOp .eql t xv yv).run P w = .ok v w)
    (h : wpList P ops Q rest (a.put o.dst v) w) : wpList P ops Q (o :: rest) a w :=
  wpList_step fun K hK => by
    rw [if_pos hw]
    unfold Oper.wp execOp
    simp only [ho, hx, hy, Sem.run_bind, hgd, hrun, Result.andThen_ok, Sem.run_pure]
    exact hK _ _ h
section
variable (base H : Nat) (own : Int) (seed : List Int) (b : Nat) (v : Value) (w : World)
/-- A new ring to which an epoch is added has it then. -/
theorem addNew (a s : Int) (k : List Int) (ho : okD a s) (hk : k.length = 32) (hkB : ∀ x ∈ k, isB x) (hR : RingAt w base H own seed b (newM own seed) v (newD own)) (hbase : base ≤ w.heap.size) :
    Calls Tryd.prog 17 #[.pointer (some ⟨H, 0, none⟩), .agg (dotC a s).toArray, .agg (row .u8 k)] w fun e w' => ∃ (E : Int) (kk : List Int) (M1 : Int → Int → Option (List Int)) (v1 : Value) (L1 : List (Int × Int)), e = .returned (.int .i64 E) ∧ (E = 0 ∨ E = 5) ∧ RingAt w' base H own seed b M1 v1 L1 ∧ M1 a s = some kk ∧ kk.length = 32 ∧ (∀ x ∈ kk, isB x) ∧ Turn (ringP H b v) w w' := by
  have hl1 : (newD own).length ≤ 1 := by unfold newD; split <;> simp
  cases hm : newM own seed a s with
  | some kk =>
    refine (add_known base H own seed b _ v _ w a s k ho hR (by rw [hm]; rfl)).mono fun e w' ⟨h1, h2⟩ => ⟨5, kk, _, v, _, h1, .inr rfl, hR.far h2, hm, hR.is32 a s kk hm, ?_, Turn.of_below h2⟩
    unfold newM at hm
    split at hm
    · unfold putK at hm
      split at hm
      · injection hm with hm; rw [← hm]; exact derL_in _ _
      · cases hm
    · cases hm
  | none =>
    refine (add_ok base H own seed b _ v _ w a s k ho hk hR (by rw [hm]; rfl) (by omega) hbase).mono fun e w' ⟨h1, v1, h2, h3, _⟩ => ⟨0, k, _, v1, _, h1, .inl rfl, h2, ?_, hk, hkB, h3⟩
    unfold putK
    rw [if_pos ⟨rfl, rfl⟩]
end
theorem wz_eq (w : World) : (binOp BinOp.eql 39 (.agg wz.cells.toArray) (.agg wz.cells.toArray)).run Tryd.prog w = .ok (.bool true) w := by
  rw [run_eql_struct, wrap_eqIn wz wz rfl rfl, (wpEq_iff wz wz).2 rfl]; rfl
set_option maxHeartbeats 8000000 in
theorem wraps_walk (l : List Int) (seed : List Int) (D : Deed) (w : World) (hl : l.length = 2) (hlB : ∀ x ∈ l, 0 ≤ x ∧ x ≤ 255) (hs : seed.length = 32) (hD : D.Ok) (hKT : S.KTab w) :
    Calls Tryd.prog 4 #[.agg (row .u8 l), .agg (row .u8 seed), .agg D.cells.toArray] w fun e w' => e = .returned (.bool true) ∧ Below w.heap.size w w' := by
  obtain ⟨p, q, rfl⟩ : ∃ p q, l = [p, q] := by
    match l, hl with
    | [p, q], _ => exact ⟨p, q, rfl⟩
  have hp := hlB p (by simp)
  have hq := hlB q (by simp)
  have tp := Int.tmod_eq_emod_of_nonneg (b := 8) hp.1
  have tq := Int.tmod_eq_emod_of_nonneg (b := 8) hq.1
  obtain ⟨A, hA⟩ : ∃ A, p.tmod 8 = A := ⟨_, rfl⟩
  obtain ⟨B, hB'⟩ : ∃ A, q.tmod 8 = A := ⟨_, rfl⟩
  have hA8 : 0 ≤ A ∧ A < 8 := by rw [← hA, tp]; omega
  have hB8 : 0 ≤ B ∧ B < 8 := by rw [← hB', tq]; omega
  have wA : IntKind.u8.wrap A = A := by simp [IntKind.wrap, IntKind.bits, IntKind.signed]; omega
  have wB : IntKind.u8.wrap B = B := by simp [IntKind.wrap, IntKind.bits, IntKind.signed]; omega
  have HLV : Veil (∀ W, Below w.heap.size w W → Calls Tryd.prog 11 #[] W fun e w' => e = .returned (.bool true) ∧ Below W.heap.size W w') := ⟨fun W hb => klive_any W (hKT.below hb)⟩
  have hp0 := ((Holds.new w .u8 24 [p, q]).alloc (.cells (row .u8 seed) 23)).alloc (.cells D.cells.toArray 41)
  have hk0 := (Holds.new (w.alloc (.cells (row .u8 [p, q]) 24)) .u8 23 seed).alloc (.cells D.cells.toArray 41)
  have hd0 := CellsAt.new ((w.alloc (.cells (row .u8 [p, q]) 24)).alloc (.cells (row .u8 seed) 23)) 41 D.cells
  rw [World.size_alloc] at hk0 hd0
  rw [World.size_alloc] at hd0
  have hB0 : Below w.heap.size w (((w.alloc (.cells (row .u8 [p, q]) 24)).alloc (.cells (row .u8 seed) 23)).alloc (.cells D.cells.toArray 41)) := (((Below.refl _ _).alloc (Nat.le_refl _) _).alloc (by simp) _).alloc (by simp; omega) _
  clear hlB tp tq
  go_enter Tryd.func4, Tryd.ntmps4
  go_upto_region 1 with fail
  refine forget (p := fun y => Code.wp _ _ _ _ y) (fun W => Below w.heap.size w W ∧ W.cell? ⟨w.heap.size, 0, none⟩ = some (.int .u8 p) ∧ W.cell? ⟨w.heap.size, 1, none⟩ = some (.int .u8 q) ∧ Holds W (w.heap.size + 1) .u8 23 seed ∧ CellsAt W (w.heap.size + 1 + 1) 41 D.cells) ⟨hB0, hp0.cell 0 (by simp), hp0.cell 1 (by simp), hk0, hd0⟩ ?_
  clear hB0 hp0 hk0 hd0
  rintro W ⟨hB0, c0, c1, hk0, hd0⟩
  go_quiet ((fail))
  refine forget (p := fun y => Exit.then _ _ _ _ y) (fun W => Below w.heap.size w W ∧ Holds W (w.heap.size + 1) .u8 23 seed ∧ CellsAt W (w.heap.size + 1 + 1) 41 D.cells) ⟨below_drewN hB0 _, hk0.drewN _, hd0.congr ((below_drewN (Below.refl (W.heap.size) W) nq).block _ hd0.lt)⟩ ?_
  clear hB0 c0 c1 hk0 hd0
  clear W
  rintro W ⟨hB0, hk0, hd0⟩
  go_upto_region 2 with fail
  have HKT : Veil (∀ W, Below w.heap.size w W → S.KTab W) := ⟨fun W hb => hKT.below hb⟩
  obtain ⟨uK, iK⟩ : Tryd.prog.underlying 23 = some _ ∧ (Tryd.prog.info? 23).map (·.size) = some (seed.map (Value.int .u8)).length := ⟨Tryd.underlying23, by rw [List.length_map, hs]; exact sizeKeyD⟩
  have HT : ∀ V, Holds V (w.heap.size + 1) .u8 23 seed → (fun w' => w'.rangeAt (w.heap.size + 1) 0 (seed.map (Value.int .u8))) V := fun V h => by
    have := h.rangeSub 32
    rw [List.take_of_length_le (by omega)] at this
    exact this
  obtain ⟨V0, hV0⟩ : ∃ q, W.drew = q := ⟨_, rfl⟩
  have hBd : Below w.heap.size w V0 := by rw [← hV0]; exact hB0.drew
  have hkd : Holds V0 (w.heap.size + 1) .u8 23 seed := by rw [← hV0]; exact hk0
  have hdd : CellsAt V0 (w.heap.size + 1 + 1) 41 D.cells := by rw [← hV0]; exact hd0
  refine wp_region_gateT (fun w' => w'.rangeAt (w.heap.size + 1) 0 (seed.map (Value.int .u8))) (fun _ => True) 5 (by kernel_rfl) ?_
  rw [hV0]
  clear hV0 hB0 hk0 hd0
  clear W
  have hT := HT V0 hkd
  have hS : (fun _ : World => True) V0 := trivial
  refine wpAnyT_held (i := 0) (v := ?_) rfl (by kernel_rfl) (by kernel_rfl) (by kernel_rfl) (fun _ _ _ h => h) (by kernel_rfl) hT (fun _ => hS) (by kernel_rfl) ?_ ?_
  rotate_left
  · intro wx hSw; go_split_ands; go_simp; try with_reducible rfl
  simp only [Act.put, List.getElem_toArray, List.getElem_cons_succ, List.getElem_cons_zero, List.setIfInBounds_toArray, List.set_cons_zero, List.set_cons_succ]
  refine wpAnyT_held (i := 3) (v := ?_) rfl (by kernel_rfl) (by kernel_rfl) (by kernel_rfl) (fun _ _ _ h => h) (by kernel_rfl) hT (fun _ => hS) (by kernel_rfl) ?_ ?_
  rotate_left
  · intro wx hSw; go_split_ands; go_simp; try with_reducible rfl
  simp only [Act.put, List.getElem_toArray, List.getElem_cons_succ, List.getElem_cons_zero, List.setIfInBounds_toArray, List.set_cons_zero, List.set_cons_succ]
  refine wpAnyT_load (i := 1) (dst := some 27) (ty := 23) (x := .tmp 4) (b := (w.heap.size + 1)) (o := (0)) (cs := (seed.map (Value.int .u8))) (by kernel_rfl) (by kernel_rfl) (by kernel_rfl) (by kernel_rfl) (by kernel_rfl) (fun _ _ _ h => h) (by kernel_rfl) hT (fun _ => hS) (by kernel_rfl) (fun _ h => h) uK rfl iK ?_
  simp only [Act.put, List.getElem_toArray, List.getElem_cons_succ, List.getElem_cons_zero, List.setIfInBounds_toArray, List.set_cons_zero, List.set_cons_succ]
  refine wpAnyT_load (i := 4) (dst := some 30) (ty := 23) (x := .tmp 4) (b := (w.heap.size + 1)) (o := (0)) (cs := (seed.map (Value.int .u8))) (by kernel_rfl) (by kernel_rfl) (by kernel_rfl) (by kernel_rfl) (by kernel_rfl) (fun _ _ _ h => h) (by kernel_rfl) hT (fun _ => hS) (by kernel_rfl) (fun _ h => h) uK rfl iK ?_
  simp only [Act.put, List.getElem_toArray, List.getElem_cons_succ, List.getElem_cons_zero, List.setIfInBounds_toArray, List.set_cons_zero, List.set_cons_succ]
  refine wpAnyT_one (i := 2) rfl (by kernel_rfl) (by kernel_rfl) (fun K hK => ?_)
  refine wpx_call _ _ (by kernel_rfl) ((new_any A seed V0 hA8.2 hs (HKT.out V0 hBd)).mono ?_)
  rintro e W1 ⟨H1, b1, v1, rfl, hR1, hb1⟩
  refine ⟨_, rfl, ?_⟩
  have hB1 := hBd.trans (hb1.mono hBd.size)
  have hk1 := hkd.below hb1 hkd.lt
  have hd1 := hdd.congr (hb1.block _ hdd.lt)
  replace hT := HT W1 hk1
  refine hK.out _ _ hT (fun _ => hS) ?_
  clear hK K
  try simp only [Act.put, List.getElem_toArray, List.getElem_cons_succ, List.getElem_cons_zero, List.setIfInBounds_toArray, List.set_cons_zero, List.set_cons_succ]
  refine wpAnyT_one (i := 5) rfl (by kernel_rfl) (by kernel_rfl) (fun K hK => ?_)
  refine wpx_call _ _ (by kernel_rfl) ((new_any B seed W1 hB8.2 hs (HKT.out W1 hB1)).mono ?_)
  rintro e W2 ⟨H2, b2, v2, rfl, hR2, hb2⟩
  refine ⟨_, rfl, ?_⟩
  have hB2 := hB1.trans (hb2.mono hB1.size)
  have hd2 := hd1.congr (hb2.block _ hd1.lt)
  have hk2 := hk1.below hb2 hk1.lt
  replace hT := HT W2 hk2
  refine hK.out _ _ hT (fun h => absurd (show true = false from h) (by decide)) ?_
  clear hK K
  try simp only [Act.put, List.getElem_toArray, List.getElem_cons_succ, List.getElem_cons_zero, List.setIfInBounds_toArray, List.set_cons_zero, List.set_cons_succ]
  refine wpAnyT_held (i := 6) (v := ?_) rfl (by kernel_rfl) (by kernel_rfl) (by kernel_rfl) (fun _ _ _ h => h) (by kernel_rfl) hT (fun h => absurd (show true = false from h) (by decide)) (by kernel_rfl) ?_ ?_
  rotate_left
  · intro wx hSw; go_split_ands; go_simp; try with_reducible rfl
  simp only [Act.put, List.getElem_toArray, List.getElem_cons_succ, List.getElem_cons_zero, List.setIfInBounds_toArray, List.set_cons_zero, List.set_cons_succ]
  refine wpAnyT_held (i := 7) (v := ?_) rfl (by kernel_rfl) (by kernel_rfl) (by kernel_rfl) (fun _ _ _ h => h) (by kernel_rfl) hT (fun h => absurd (show true = false from h) (by decide)) (by kernel_rfl) ?_ ?_
  rotate_left
  · intro wx hSw; go_split_ands; go_simp; try with_reducible rfl
  simp only [Act.put, List.getElem_toArray, List.getElem_cons_succ, List.getElem_cons_zero, List.setIfInBounds_toArray, List.set_cons_zero, List.set_cons_succ]
  refine wpAnyT_done (by kernel_rfl) ?_ _
  have HIN : Veil (∀ g, ringP H1 b1 v1 g → g < W1.heap.size ∧ V0.heap.size ≤ g) := ⟨fun g hg => hR1.inside g hg⟩
  have hR1' := hR1.far hb2
  have hsz : w.heap.size + 1 + 1 < V0.heap.size ∧ V0.heap.size ≤ W1.heap.size ∧ W1.heap.size ≤ W2.heap.size := ⟨hdd.lt, hb1.size, hb2.size⟩
  clear hT hS HT hk2 hk1 hkd hd1 hdd hB1 hBd hb1 hb2 hR1 uK iK
  generalize hc1 : V0.heap.size = c1 at hsz HIN hR1'
  generalize hc2 : W1.heap.size = c2 at hsz HIN hR2
  clear hc1 hc2
  clear V0 W1
  obtain ⟨hDt, hDo, hDk, hDB⟩ : (D.cells.drop 1).take 2 = dotC D.ea D.es ∧ okD D.ea D.es ∧ D.k.length = 32 ∧ ∀ x ∈ D.k, isB x := ⟨deed_dot D, hD.dot, hD.k32, hD.kB⟩
  have rD := hd2.range 1 2
  have rK := hd2.range 3 32
  rw [deed_key D hDk] at rK
  rw [hDt] at rD
  have hadd : Calls Tryd.prog 17 #[.pointer (some ⟨H1, 0, none⟩), .agg (dotC D.ea D.es).toArray, .agg (D.k.map (Value.int .u8)).toArray] W2 _ := addNew c1 H1 A seed b1 v1 W2 D.ea D.es D.k hDo hDk hDB hR1' (by omega)
  go_upto_region 4 with (first
    | (refine wpList_ldv rfl 36 _ rfl _ _ rfl (dotC D.ea D.es) rD Tryd.underlying36 rfl sizeDotK ?_)
    | (refine wpList_ldv rfl 23 _ rfl _ _ rfl (D.k.map (Value.int .u8)) rK Tryd.underlying23 rfl (by rw [List.length_map, hDk]; exact sizeKeyD) ?_)
    | (go_at_call 17; refine hadd.mono ?_; rintro e W3 ⟨E, kk, M1, v1', L1, rfl, hE, hR3, hM1, hkk, hkkB, hT3⟩))
  have hd3 := hd2.congr (hT3.block _ hd2.lt (fun hp => by have := HIN.out _ hp; omega))
  have hB3 := hB2.trans (hT3.below hB2.size (fun k hk => by have := HIN.out k hk; omega))
  have hQ3 := hR2.turn hT3 (fun g hg hp => by have := HIN.out g hp; have := (hR2.inside g hg).2; omega)
  have hs3 := hT3.size
  clear hadd rD rK hd2 hB2 hR2 hR1' hT3 HIN
  obtain ⟨X, EE, hX48, hcase, hwrap⟩ : ∃ (X : Wp) (EE : Int), X.data.length = 48 ∧ ((A = B ∧ X = wz ∧ EE = 12) ∨ (A ≠ B ∧ X = wrapOf seed A B D.ea D.es kk ∧ EE = 0)) ∧ Calls Tryd.prog 18 #[.pointer (some ⟨H1, 0, none⟩), .int .u8 B, .agg (dotC D.ea D.es).toArray] W3 fun e w' => e = .returned (.tuple #[.agg X.cells.toArray, .int .i64 EE]) ∧ Below W3.heap.size W3 w' := by
    by_cases hAB : A = B
    · have he : refuseE A B = 12 := by unfold refuseE; rw [if_neg (by omega), if_pos hAB.symm]
      have := wrap_no c1 H1 A seed b1 M1 v1' L1 W3 B D.ea D.es hR3 (by rw [he]; decide)
      rw [he] at this
      exact ⟨wz, 12, rfl, .inl ⟨hAB, rfl, rfl⟩, this⟩
    · have he : refuseE A B = 0 := by unfold refuseE; rw [if_neg (by omega), if_neg (fun h => hAB h.symm)]
      exact ⟨wrapOf seed A B D.ea D.es kk, 0, (wrapOf_data seed A B D.ea D.es kk hkk hkkB).1, .inr ⟨hAB, rfl, rfl⟩, wrap_ok c1 H1 A seed b1 M1 v1' L1 W3 B D.ea D.es kk hDo hR3 he hM1 (HKT.out W3 hB3)⟩
  have rD := hd3.range 1 2
  rw [hDt] at rD
  obtain ⟨XC, hXC⟩ : ∃ q, X.cells = q := ⟨_, rfl⟩
  have hXl : XC.length = 51 := by rw [← hXC]; exact wp_cells_length X hX48
  have hX1 : ∀ u ∈ XC, u.oneCell' = true := by rw [← hXC]; exact wp_cells_one X
  rw [hXC] at hwrap
  go_upto_region 5 with (first
    | (refine wpList_ldv rfl 36 _ rfl _ _ rfl (dotC D.ea D.es) rD Tryd.underlying36 rfl sizeDotK ?_)
    | (go_at_call 18; refine hwrap.mono ?_; rintro e W4 ⟨rfl, hb4⟩; have hA4 := CellsAt.new W4 39 wz.cells)
    | (refine wpList_stv rfl 39 _ _ rfl _ rfl (cs := XC) rfl hA4 (by rw [hXl]; exact sizeWrapK) (by rw [hXl]; rfl) hX1 ?_))
  have hb5 : Below W3.heap.size W3 ((W4.alloc (.cells wz.cells.toArray 39)).setRow W4.heap.size XC.toArray) := hb4.trans ((below_setRow ((Below.refl _ _).alloc (Nat.le_refl _) _) (Nat.le_refl _) _).mono hb4.size)
  refine forget (p := fun y => Code.wp _ _ _ _ y) (fun V => Below w.heap.size w V ∧ RingAt V c1 H1 A seed b1 M1 v1' L1 ∧ RingAt V c2 H2 B seed b2 (newM B seed) v2 (newD B) ∧ CellsAt V (w.heap.size + 1 + 1) 41 D.cells ∧ CellsAt V W4.heap.size 39 XC ∧ W4.heap.size ≤ V.heap.size) ⟨hB3.trans (hb5.mono hB3.size), hR3.far hb5, hQ3.far hb5, hd3.congr (hb5.block _ hd3.lt), hA4.setRow _, by simp⟩ ?_
  have HQI : Veil (∀ g, ringP H2 b2 v2 g → g < W4.heap.size ∧ c2 ≤ g) := ⟨fun g hg => by have := hQ3.inside g hg; have := hb4.size; omega⟩
  have hs4 : W3.heap.size ≤ W4.heap.size := hb4.size
  obtain ⟨G, hG⟩ : ∃ q, W4.heap.size = q := ⟨_, rfl⟩
  rw [hG] at hs4 HQI ⊢
  clear hb5 hb4 hA4 hwrap rD hd3 hB3 hQ3 hR3 hG
  clear W4
  have hsz' : w.heap.size + 1 + 1 < c1 ∧ c1 ≤ c2 ∧ c2 ≤ G := by omega
  clear hsz hs3 hs4
  clear W3 W2
  rintro V ⟨hB, hR1, hR2, hd, hx, hGV⟩
  rcases hcase with ⟨hAB, rfl, rfl⟩ | ⟨hAB, rfl, rfl⟩
  · subst hAB
    have hlv := HLV.out V hB
    have HX : Veil (∀ W, Below V.heap.size V W → W.rangeAt G 0 XC) := ⟨fun W hb => by
      have := (hx.congr (hb.block _ hx.lt)).range 0 51
      rw [List.drop_zero, List.take_of_length_le (by omega)] at this
      exact this⟩
    have hweq : ∀ wx, (binOp BinOp.eql 39 (.agg XC.toArray) (.agg XC.toArray)).run Tryd.prog wx = .ok (.bool true) wx := by rw [← hXC]; exact wz_eq
    have hwbl : ∀ wx, (Instr.build 39 #[]).run Tryd.prog wx = .ok (.agg XC.toArray) wx := by rw [← hXC]; exact wz_built
    clear hR1 hR2 hd hx HQI hXC hX48
    go_wp2_with (first
      | (go_at_call 11; refine hlv.mono ?_; rintro e V1 ⟨rfl, hb1⟩; have rX := HX.out V1 hb1)
      | (refine wpList_ldgv (by kernel_rfl) 39 _ rfl _ _ rfl XC rX Tryd.underlying39 rfl (by rw [hXl]; exact sizeWrapK) ?_; refine wpList_bldgx (by kernel_rfl) 39 _ rfl #[] (by first | rfl | kernel_rfl | simp) _ (hwbl _) ?_; refine wpList_eqgx (by kernel_rfl) 39 _ _ _ rfl (.agg XC.toArray) (.agg XC.toArray) _ rfl rfl (by kernel_rfl) (hweq _) ?_))
    go_ret
    exact ⟨rfl, hB.trans (hb1.mono hB.size)⟩
  · have hABb : (A == B) = false := by simpa using hAB
    have rD := hd.range 1 2
    rw [hDt] at rD
    have hkey := rKey_any c1 H1 A seed b1 M1 v1' L1 V D.ea D.es hDo hR1
    have hka : keyAt M1 D.ea D.es = kk := by unfold keyAt; rw [hM1]; rfl
    rw [hka, hM1] at hkey
    go_upto_region 8 with (first
      | (refine wpList_ldv rfl 36 _ rfl _ _ rfl (dotC D.ea D.es) rD Tryd.underlying36 rfl sizeDotK ?_)
      | (go_at_call 19; refine hkey.mono ?_; rintro e V1 ⟨rfl, hb1⟩; have hA1 := CellsAt.new V1 23 ((List.replicate 32 (0 : Int)).map (Value.int .u8)))
      | (refine wpList_stv rfl 23 _ _ rfl _ rfl (cs := kk.map (Value.int .u8)) rfl hA1 (by rw [List.length_map, hkk]; exact sizeKeyD) (by rw [List.length_map, List.length_map, hkk]; rfl) (fun u hu => by simp only [List.mem_map] at hu; obtain ⟨_, _, rfl⟩ := hu; rfl) ?_))
    have hb5 : Below V.heap.size V ((V1.alloc (.cells ((List.replicate 32 (0 : Int)).map (Value.int .u8)).toArray 23)).setRow V1.heap.size (kk.map (Value.int .u8)).toArray) := hb1.trans ((below_setRow ((Below.refl _ _).alloc (Nat.le_refl _) _) (Nat.le_refl _) _).mono hb1.size)
    refine forget (p := fun y => Code.wp _ _ _ _ y) (fun V => Below w.heap.size w V ∧ RingAt V c2 H2 B seed b2 (newM B seed) v2 (newD B) ∧ CellsAt V (w.heap.size + 1 + 1) 41 D.cells ∧ CellsAt V G 39 XC ∧ CellsAt V V1.heap.size 23 (kk.map (Value.int .u8)) ∧ V1.heap.size < V.heap.size) ⟨hB.trans (hb5.mono hB.size), hR2.far hb5, hd.congr (hb5.block _ hd.lt), hx.congr (hb5.block _ hx.lt), hA1.setRow _, by simp⟩ ?_
    have hG1 : G < V1.heap.size := Nat.lt_of_lt_of_le hx.lt hb1.size
    obtain ⟨G1, hG1e⟩ : ∃ q, V1.heap.size = q := ⟨_, rfl⟩
    rw [hG1e] at hG1 ⊢
    clear hb5 hb1 hA1 hkey hka rD hd hx hB hR1 hR2 hGV hG1e
    clear V1 V
    rintro V ⟨hB, hR2, hd, hx, hk, hGV⟩
    have rD := hd.range 1 2
    rw [hDt] at rD
    have hhas := rHas_any c2 H2 B seed b2 _ v2 _ V D.ea D.es hDo hR2
    obtain ⟨had, hhad⟩ : ∃ q, (newM B seed D.ea D.es).isSome = q := ⟨_, rfl⟩
    rw [hhad] at hhas
    go_upto_region 9 with (first
      | (refine wpList_ldv rfl 36 _ rfl _ _ rfl (dotC D.ea D.es) rD Tryd.underlying36 rfl sizeDotK ?_)
      | (go_at_call 20; refine hhas.mono ?_; rintro e V1 ⟨rfl, hb1⟩))
    have hB1 := hB.trans (hb1.mono hB.size)
    have hR3 := hR2.far hb1
    have hd1 := hd.congr (hb1.block _ hd.lt)
    have hx1 := hx.congr (hb1.block _ hx.lt)
    have hk1 := hk.congr (hb1.block _ hk.lt)
    have hs1 := hb1.size
    have hne : refuseE B A = 0 := by unfold refuseE; rw [if_neg (by omega), if_neg hAB]
    have rX := hx1.range 0 51
    rw [show (XC.drop 0).take 51 = XC from by rw [List.drop_zero, List.take_of_length_le (by omega)]] at rX
    have hl1 : (newD B).length ≤ 1 := by unfold newD; split <;> simp
    obtain ⟨_, hw2, hw3, hw4⟩ := wrapOf_data seed A B D.ea D.es kk hkk hkkB
    clear hR2 hd hx hk hb1 hB hhas rD
    cases had with
    | true =>
      have hun := unw_known c2 H2 B seed b2 _ v2 _ V1 A (wrapOf seed A B D.ea D.es kk) hR3 hDo hne rfl hhad
      rw [hXC] at hun
      have HL2 : Veil (∀ W, Below V1.heap.size V1 W → Calls Tryd.prog 11 #[] W fun e w' => e = .returned (.bool true) ∧ Below W.heap.size W w') := ⟨fun W hb => HLV.out W (hB1.trans (hb.mono hB1.size))⟩
      clear hR3 hd1 hx1 hk1 hw2 hw3 hw4
      go_wp2_with (first
        | (refine wpList_ldv rfl 39 _ rfl _ _ rfl XC rX Tryd.underlying39 rfl (by rw [hXl]; exact sizeWrapK) ?_)
        | (go_at_call 21; refine hun.mono ?_; rintro e V2 ⟨rfl, hb2⟩; have hlv := HL2.out V2 hb2)
        | (go_at_call 11; refine hlv.mono ?_; rintro e V3 ⟨rfl, hb3⟩))
      go_ret
      have hB2 := hB1.trans (hb2.mono hB1.size)
      exact ⟨rfl, hB2.trans (hb3.mono hB2.size)⟩
    | false =>
      have hun := unw_ok c2 H2 B seed b2 _ v2 _ V1 A (wrapOf seed A B D.ea D.es kk) hR3 hDo hX48 hw2 hne rfl hhad (HKT.out V1 hB1) hw3 (by omega) (by omega)
      rw [hXC, hw4] at hun
      go_upto_region 12 with (first
        | (refine wpList_ldv rfl 39 _ rfl _ _ rfl XC rX Tryd.underlying39 rfl (by rw [hXl]; exact sizeWrapK) ?_)
        | (go_at_call 21; refine hun.mono ?_; rintro e V2 ⟨rfl, v2', hR4, hT4, _⟩))
      have hd2 := hd1.congr (hT4.block _ hd1.lt (fun hp => by have := HQI.out _ hp; omega))
      have hx2 := hx1.congr (hT4.block _ hx1.lt (fun hp => by have := HQI.out _ hp; omega))
      have hk2 := hk1.congr (hT4.block _ hk1.lt (fun hp => by have := HQI.out _ hp; omega))
      have hB2 := hB1.trans (hT4.below hB1.size (fun k hk => by have := HQI.out k hk; omega))
      have rD := hd2.range 1 2
      rw [hDt] at rD
      have hkey := rKey_any c2 H2 B seed b2 _ v2' _ V2 D.ea D.es hDo hR4
      have hpk : putK (newM B seed) (wrapOf seed A B D.ea D.es kk).ea (wrapOf seed A B D.ea D.es kk).es kk D.ea D.es = some kk := if_pos ⟨rfl, rfl⟩
      have hka : keyAt (putK (newM B seed) (wrapOf seed A B D.ea D.es kk).ea (wrapOf seed A B D.ea D.es kk).es kk) D.ea D.es = kk := by unfold keyAt; rw [hpk]; rfl
      rw [hka, hpk] at hkey
      clear hun rX hd1 hx1 hk1 hB1 hR3 hR4 hT4
      go_upto_region 13 with (first
        | (refine wpList_ldv rfl 36 _ rfl _ _ rfl (dotC D.ea D.es) rD Tryd.underlying36 rfl sizeDotK ?_)
        | (go_at_call 19; refine hkey.mono ?_; rintro e V3 ⟨rfl, hb3⟩; have hA3 := CellsAt.new V3 23 ((List.replicate 32 (0 : Int)).map (Value.int .u8)))
        | (refine wpList_stv rfl 23 _ _ rfl _ rfl (cs := kk.map (Value.int .u8)) rfl hA3 (by rw [List.length_map, hkk]; exact sizeKeyD) (by rw [List.length_map, List.length_map, hkk]; rfl) (fun u hu => by simp only [List.mem_map] at hu; obtain ⟨_, _, rfl⟩ := hu; rfl) ?_))
      have hb5 : Below V2.heap.size V2 ((V3.alloc (.cells ((List.replicate 32 (0 : Int)).map (Value.int .u8)).toArray 23)).setRow V3.heap.size (kk.map (Value.int .u8)).toArray) := hb3.trans ((below_setRow ((Below.refl _ _).alloc (Nat.le_refl _) _) (Nat.le_refl _) _).mono hb3.size)
      refine forget (p := fun y => Code.wp _ _ _ _ y) (fun V => Below w.heap.size w V ∧ CellsAt V (w.heap.size + 1 + 1) 41 D.cells ∧ CellsAt V G 39 XC ∧ CellsAt V G1 23 (kk.map (Value.int .u8)) ∧ CellsAt V V3.heap.size 23 (kk.map (Value.int .u8))) ⟨hB2.trans (hb5.mono hB2.size), hd2.congr (hb5.block _ hd2.lt), hx2.congr (hb5.block _ hx2.lt), hk2.congr (hb5.block _ hk2.lt), hA3.setRow _⟩ ?_
      obtain ⟨G3, hG3⟩ : ∃ q, V3.heap.size = q := ⟨_, rfl⟩
      rw [hG3]
      clear hb5 hb3 hA3 hkey hka hpk rD hd2 hx2 hB2 hk2 hGV hG3 hs1
      rintro U ⟨hB, hd, hx, hk, hy⟩
      have hlv := HLV.out U hB
      have hkeq : ∀ wx, (binOp BinOp.eql 23 (.agg (kk.map (Value.int .u8)).toArray) (.agg (kk.map (Value.int .u8)).toArray)).run Tryd.prog wx = .ok (.bool true) wx := fun wx => by rw [key_eql kk kk hkk hkk]; simp
      have hdeq : ∀ wx, (binOp BinOp.eql 36 (.agg (dotC D.ea D.es).toArray) (.agg (dotC D.ea D.es).toArray)).run Tryd.prog wx = .ok (.bool true) wx := fun wx => by rw [dot_eql]; simp
      have HAFT : Veil (∀ U', Below U.heap.size U U' → U'.rangeAt (w.heap.size + 1 + 1) 1 (dotC D.ea D.es) ∧ U'.rangeAt G 1 (dotC D.ea D.es) ∧ U'.rangeAt G1 0 (kk.map (Value.int .u8)) ∧ U'.rangeAt G3 0 (kk.map (Value.int .u8)) ∧ U'.cell? ⟨G, 0, none⟩ = some (.int .u8 B)) := ⟨fun U' hb => by
        have h1 := (hd.congr (hb.block _ hd.lt)).range 1 2
        have h2 := (hx.congr (hb.block _ hx.lt)).range 1 2
        have h3 := (hk.congr (hb.block _ hk.lt)).range 0 32
        have h4 := (hy.congr (hb.block _ hy.lt)).range 0 32
        have h5 := (hx.congr (hb.block _ hx.lt)).cell 0
        rw [hDt] at h1
        rw [← hXC, wp_dot] at h2
        rw [← hXC, wp_too] at h5
        rw [List.drop_zero, List.take_of_length_le (by rw [List.length_map]; omega)] at h3 h4
        exact ⟨h1, h2, h3, h4, h5⟩⟩
      clear hd hx hk hy HQI hDt hXC
      have hKl : (Tryd.prog.info? 23).map (·.size) = some (kk.map (Value.int .u8)).length := by rw [List.length_map, hkk]; exact sizeKeyD
      have hEb : ((E == 0) = true) ∨ ((E == 0) = false ∧ (E == 5) = true) := by
        rcases hE with h | h
        · left; rw [h]; rfl
        · right; rw [h]; exact ⟨rfl, rfl⟩
      rcases hE with rfl | rfl
      all_goals
        go_wp2_with (first
          | (go_at_call 11; refine hlv.mono ?_; rintro e U1 ⟨rfl, hb1⟩; obtain ⟨r1, r2, r3, r4, r5⟩ := HAFT.out U1 hb1)
          | (refine wpList_ldgv (by kernel_rfl) 23 _ rfl _ _ rfl (kk.map (Value.int .u8)) r4 Tryd.underlying23 rfl hKl ?_)
          | (refine wpList_ldgv (by kernel_rfl) 23 _ rfl _ _ rfl (kk.map (Value.int .u8)) r3 Tryd.underlying23 rfl hKl ?_)
          | (refine wpList_ldgv (by kernel_rfl) 36 _ rfl _ _ rfl (dotC D.ea D.es) r2 Tryd.underlying36 rfl sizeDotK ?_)
          | (refine wpList_ldgv (by kernel_rfl) 36 _ rfl _ _ rfl (dotC D.ea D.es) r1 Tryd.underlying36 rfl sizeDotK ?_))
        go_ret
        exact ⟨by simp, hB.trans (hb1.mono hB.size)⟩
end Go.Proofs.YtlalcnmcnkompaaDoor
