/- De12 De13 Dlv -/
import Derived.Test.YtmbdohnmbkpfaaaGreatV43
import Derived.Test.YtmbdohnmbkpfaaaGreatV08
import Derived.Test.YtmbdohnmbkpfaaaGreatV37
import Derived.Test.YtmbdohnmbkpfaaaGreatV42
namespace Go.Proofs.YtmbdohnmbkpfaaaGreat
open Go.RowKit Go.Shelf
set_option maxRecDepth 20000
set_option linter.unusedSimpArgs false
theorem BothD.keep2 {B : Nat} {W W' : World} {s1 s2 : Ds} {D Q : Nat} (h : BothD B W s1 s2 D Q []) (hb : Below W.heap.size W W') {b b' : Nat} {cs cs' : List Value} (hc : CellsAt W' b 44 cs) (hl : W.heap.size ≤ b) (hc' : CellsAt W' b' 44 cs') (hl' : W.heap.size ≤ b') : BothD B W' s1 s2 D Q ((b, cs) :: (b', cs') :: []) := by
 obtain ⟨p, q, h1, h2, h⟩ := h
 refine ⟨p, q, h1, h2, ⟨h.d.far hb, h.r.far hb, h.g1, h.g2, h.rel, h.a1, h.a2, h.apart, fun x hx => ?_⟩⟩
 have n1 : ∀ k, W.heap.size ≤ k → ¬ docP p k ∧ ¬ rdocP q k := fun k hk => ⟨fun q => by have := h.d.blockLt _ q; omega, fun q => by have := h.r.blockLt _ q; omega⟩
 simp only [List.mem_cons, List.not_mem_nil, or_false] at hx
 rcases hx with rfl | rfl
 · exact ⟨hc, n1 _ hl⟩
 · exact ⟨hc', n1 _ hl'⟩
theorem wpList_binE {P : Program} {ops : Array Oper} {rest : List Oper} {o : Oper} {a : Act} {w : World} {Q : Exit → Act → World → Prop} (hgd : o.guard = none) (op : BinOp) (t : TypeId) (x y : Operand) (u : TypeId) (ho : o.op = .binOp op t x y u) (xv yv v : Value) (hx : a.eval x = xv) (hy : a.eval y = yv) (hg : (eqGuard op t x y xv yv).run P w = .ok () w) (hrun : (binOp op t xv yv).run P w = .ok v w) (h : wpList P ops Q rest (a.put o.dst v) w) : wpList P ops Q (o :: rest) a w :=
 wpList_plain hgd fun _ hK => by
  unfold Oper.wp execOp
  simp only [ho, hx, hy, Sem.run_bind, hg, hrun, Result.andThen_ok, Sem.run_pure]
  exact hK _ _ h
theorem evGuardD (C : Array Value) (x y : Nat) (w : World) : (eqGuard .neq 44 (.tmp x) (.tmp y) (.agg C) (.agg C)).run Tryz.prog w = .ok () w := by
 go_simp
theorem tellD0 {st : Ds} {X : Ed} (h : X.kind = 0) : tellD st X = tellW st X.au X.i X.c := if_pos h
theorem tellD1 {st : Ds} {X : Ed} (h : X.kind = 1) : tellD st X = tellE st X.au X.i := (if_neg (by omega)).trans (if_pos h)
theorem tellD2 {st : Ds} {X : Ed} (h : X.kind = 2) : tellD st X = tellG st X.au X.who X.role := (if_neg (by omega)).trans ((if_neg (by omega)).trans (if_pos h))
theorem tellD3 {st : Ds} {X : Ed} (h : X.kind = 3) : tellD st X = tellT st X.au X.who := (if_neg (by omega)).trans ((if_neg (by omega)).trans ((if_neg (by omega)).trans (if_pos h)))
theorem tellD4 {st : Ds} {X : Ed} (h : X.kind = 4) : tellD st X = (X.e, 0) := (if_neg (by omega)).trans ((if_neg (by omega)).trans ((if_neg (by omega)).trans (if_neg (by omega))))
set_option maxHeartbeats 32000000 in
theorem do10_any (base : Nat) (st : Ds) (D Q : Nat) (X : Ed) (w : World) (hB : BothD base w st st D Q []) (hX : X.Ok) (hbase : base ≤ w.heap.size) :
    Calls Tryz.prog 33 #[.pointer (some ⟨D, 0, none⟩), .pointer (some ⟨Q, 0, none⟩), .agg X.cells.toArray] w fun r w' => r = .returned (.bool true) ∧ BothD base w' (stepX st X) (stepX st X) D Q [] ∧ Below base w w' := by
 have hTok := tellD_ok hB.good hB.ids hX
 have hx0 := ((CellsAt.new w 56 X.cells).alloc (.cells zC.toArray 44)).alloc (.cells zC.toArray 44)
 have h70 := (CellsAt.new (w.alloc (.cells X.cells.toArray 56)) 44 zC).alloc (.cells zC.toArray 44)
 have h80 := CellsAt.new ((w.alloc (.cells X.cells.toArray 56)).alloc (.cells zC.toArray 44)) 44 zC
 rw [World.size_alloc] at h70
 rw [World.size_alloc, World.size_alloc] at h80
 have hB0 : Below w.heap.size w (((w.alloc (.cells X.cells.toArray 56)).alloc (.cells zC.toArray 44)).alloc (.cells zC.toArray 44)) := (((Below.refl _ _).alloc (Nat.le_refl _) _).alloc (by simp) _).alloc (by simp; omega) _
 have HK0 : Veil (X.kind = 0 → ∀ W, Below w.heap.size w W → (Calls Tryz.prog 25 #[.pointer (some ⟨D, 0, none⟩), .int .u8 X.au, .int .i64 X.i, .int .u8 X.c] W fun r w' => r = .returned (.tuple #[.agg (tellD st X).1.cells.toArray, .int .i64 (tellD st X).2]) ∧ Below W.heap.size W w') ∧ (Calls Tryz.prog 63 #[.pointer (some ⟨Q, 0, none⟩), .int .u8 X.au, .int .i64 X.i, .int .u8 X.c] W fun r w' => r = .returned (.tuple #[.agg (tellD st X).1.cells.toArray, .int .i64 (tellD st X).2]) ∧ Below W.heap.size W w')) := ⟨fun hk W hb => by
  obtain ⟨p, q, rfl, rfl, h⟩ := hB.far hb
  rw [tellD0 hk]
  exact ⟨dWrite_any base st p X.au X.i X.c W h.d h.g1 hX.au.1 hX.i.2, rWrite_any base st q X.au X.i X.c W h.r h.g2 h.rel hX.au.1⟩⟩
 have HK1 : Veil (X.kind = 1 → ∀ W, Below w.heap.size w W → (Calls Tryz.prog 26 #[.pointer (some ⟨D, 0, none⟩), .int .u8 X.au, .int .i64 X.i] W fun r w' => r = .returned (.tuple #[.agg (tellD st X).1.cells.toArray, .int .i64 (tellD st X).2]) ∧ Below W.heap.size W w') ∧ (Calls Tryz.prog 64 #[.pointer (some ⟨Q, 0, none⟩), .int .u8 X.au, .int .i64 X.i] W fun r w' => r = .returned (.tuple #[.agg (tellD st X).1.cells.toArray, .int .i64 (tellD st X).2]) ∧ Below W.heap.size W w')) := ⟨fun hk W hb => by
  obtain ⟨p, q, rfl, rfl, h⟩ := hB.far hb
  rw [tellD1 hk]
  exact ⟨dErase_any base st p X.au X.i W h.d h.g1 hX.au.1, rErase_any base st q X.au X.i W h.r h.g2 h.rel hX.au.1⟩⟩
 have HK2 : Veil (X.kind = 2 → ∀ W, Below w.heap.size w W → (Calls Tryz.prog 27 #[.pointer (some ⟨D, 0, none⟩), .int .u8 X.au, .int .u8 X.who, .int .u8 X.role] W fun r w' => r = .returned (.tuple #[.agg (tellD st X).1.cells.toArray, .int .i64 (tellD st X).2]) ∧ Below W.heap.size W w') ∧ (Calls Tryz.prog 65 #[.pointer (some ⟨Q, 0, none⟩), .int .u8 X.au, .int .u8 X.who, .int .u8 X.role] W fun r w' => r = .returned (.tuple #[.agg (tellD st X).1.cells.toArray, .int .i64 (tellD st X).2]) ∧ Below W.heap.size W w')) := ⟨fun hk W hb => by
  obtain ⟨p, q, rfl, rfl, h⟩ := hB.far hb
  rw [tellD2 hk]
  exact ⟨dGive_any base st p X.au X.who X.role W h.d h.g1 hX.au.1, rGive_any base st q X.au X.who X.role W h.r h.g2 h.rel hX.au.1⟩⟩
 have HK3 : Veil (X.kind = 3 → ∀ W, Below w.heap.size w W → (Calls Tryz.prog 28 #[.pointer (some ⟨D, 0, none⟩), .int .u8 X.au, .int .u8 X.who] W fun r w' => r = .returned (.tuple #[.agg (tellD st X).1.cells.toArray, .int .i64 (tellD st X).2]) ∧ Below W.heap.size W w') ∧ (Calls Tryz.prog 66 #[.pointer (some ⟨Q, 0, none⟩), .int .u8 X.au, .int .u8 X.who] W fun r w' => r = .returned (.tuple #[.agg (tellD st X).1.cells.toArray, .int .i64 (tellD st X).2]) ∧ Below W.heap.size W w')) := ⟨fun hk W hb => by
  obtain ⟨p, q, rfl, rfl, h⟩ := hB.far hb
  rw [tellD3 hk]
  exact ⟨dTake_any base st p X.au X.who W h.d h.g1 hX.au.1, rTake_any base st q X.au X.who W h.r h.g2 h.rel hX.au.1⟩⟩
 have HK4 : Veil (X.kind = 4 → X.e.cells = (tellD st X).1.cells ∧ (tellD st X).2 = 0) := ⟨fun hk => by rw [tellD4 hk]; exact ⟨rfl, rfl⟩⟩
 have HA1 : Veil (∀ W K, BothD base W st st D Q K → base ≤ W.heap.size → Calls Tryz.prog 18 #[.pointer (some ⟨D, 0, none⟩), .agg (tellD st X).1.cells.toArray] W fun r w' => r = .returned (.int .i64 (refD st (tellD st X).1)) ∧ BothD base w' (doS st (tellD st X).1) st D Q K ∧ Below base W w') := ⟨fun W K h hb => h.applyD hTok hb⟩
 have HA2 : Veil (∀ W K, BothD base W (doS st (tellD st X).1) st D Q K → base ≤ W.heap.size → Calls Tryz.prog 31 #[.pointer (some ⟨Q, 0, none⟩), .agg (tellD st X).1.cells.toArray] W fun r w' => r = .returned (.int .i64 (refD st (tellD st X).1)) ∧ BothD base w' (doS st (tellD st X).1) (doS st (tellD st X).1) D Q K ∧ Below base W w') := ⟨fun W K h hb => h.applyR hTok hb⟩
 have HS0 : Veil ((X.kind = 0 ∨ X.kind = 1 ∨ X.kind = 2 ∨ X.kind = 3 ∨ X.kind = 4) → (tellD st X).2 = 0 → stepX st X = doS st (tellD st X).1) := ⟨fun h h0 => (if_pos h).trans (if_pos h0)⟩
 have HSN : Veil ((X.kind = 0 ∨ X.kind = 1 ∨ X.kind = 2 ∨ X.kind = 3 ∨ X.kind = 4) → (tellD st X).2 ≠ 0 → stepX st X = st) := ⟨fun h h0 => (if_pos h).trans (if_neg h0)⟩
 have HSO : Veil (¬ (X.kind = 0 ∨ X.kind = 1 ∨ X.kind = 2 ∨ X.kind = 3 ∨ X.kind = 4) → stepX st X = st) := ⟨fun h => if_neg h⟩
 have HX : Veil (∀ W, CellsAt W w.heap.size 56 X.cells → W.cell? ⟨w.heap.size, 0, none⟩ = some (.int .i64 X.kind) ∧ W.cell? ⟨w.heap.size, 1, none⟩ = some (.int .u8 X.au) ∧ W.cell? ⟨w.heap.size, 2, none⟩ = some (.int .u8 X.who) ∧ W.cell? ⟨w.heap.size, 3, none⟩ = some (.int .i64 X.i) ∧ W.cell? ⟨w.heap.size, 4, none⟩ = some (.int .u8 X.c) ∧ W.cell? ⟨w.heap.size, 5, none⟩ = some (.int .u8 X.role) ∧ W.rangeAt w.heap.size 6 X.e.cells) := ⟨fun W hx => by
  obtain ⟨q0, q1, q2, q3, q4, q5, q6, -, -⟩ := ed_parts X hX.e.past
  have h1 := hx.range 6 17
  rw [q6] at h1
  exact ⟨(hx.cell 0).trans q0, (hx.cell 1).trans q1, (hx.cell 2).trans q2, (hx.cell 3).trans q3, (hx.cell 4).trans q4, (hx.cell 5).trans q5, h1⟩⟩
 have heq : ∀ wx, (binOp .neq 44 (.agg (tellD st X).1.cells.toArray) (.agg (tellD st X).1.cells.toArray)).run Tryz.prog wx = .ok (.bool false) wx := fun wx => by rw [ev_neq _ _ hTok hTok, evEqD_refl]; rfl
 have HL17 : Veil ((tellD st X).1.cells.length = 17) := ⟨aev_len _ hTok.past⟩
 have iT : (Tryz.prog.info? 44).map (·.size) = some (tellD st X).1.cells.length := by rw [HL17.out]; kernel_rfl
 have h1T : ∀ u ∈ (tellD st X).1.cells, u.oneCell' = true := aev_one _
 have HBD : Veil (∀ W, Below w.heap.size w W → BothD base W st st D Q []) := ⟨fun W hb => hB.far hb⟩
 have HB0 := Veil.mk hB
 have uE := Tryz.underlying44
 generalize refD st (tellD st X).1 = RN at HA1 HA2
 generalize doS st (tellD st X).1 = SD at HA1 HA2 HS0
 generalize stepX st X = SX at HS0 HSN HSO ⊢
 generalize (tellD st X).1.cells = TC at HK0 HK1 HK2 HK3 HK4 HA1 HA2 heq HL17 iT h1T
 generalize (tellD st X).2 = TN at HK0 HK1 HK2 HK3 HK4 HS0 HSN
 generalize X.kind = KD at HK0 HK1 HK2 HK3 HK4 HS0 HSN HSO HX
 generalize X.au = au at HK0 HK1 HK2 HK3 HX
 generalize X.who = wo at HK2 HK3 HX
 generalize X.i = ii at HK0 HK1 HX
 generalize X.c = cc at HK0 HX
 generalize X.role = ro at HK2 HX
 generalize X.e.cells = EC at HK4 HX
 generalize X.cells = XC at HX hx0 h70 h80 hB0 ⊢
 have HEQ := Veil.mk heq
 clear heq
 have hne : (TN != TN) = false := by simp
 have hrn : (RN == RN) = true := by simp
 obtain ⟨Z, hZ⟩ : ∃ Z, Z = zC := ⟨_, rfl⟩
 have HZT : Veil (Z.length = TC.length) := ⟨by rw [hZ, HL17.out]; rfl⟩
 have hZ2 := hZ
 unfold zC at hx0 h70 h80 hB0 hZ2
 clear hB hX hTok
 go_enter Tryz.func33, Tryz.ntmps33
 go_upto_region 3 with fail
 refine forget (p := fun y => Code.wp _ _ _ _ y) (fun W => Below w.heap.size w W ∧ CellsAt W w.heap.size 56 XC ∧ CellsAt W (w.heap.size + 1) 44 Z ∧ CellsAt W (w.heap.size + 1 + 1) 44 Z) ⟨hB0, hx0, by rw [hZ2]; exact h70, by rw [hZ2]; exact h80⟩ ?_
 clear hB0 hx0 h70 h80 hZ hZ2
 rintro W ⟨hb, hx, h7, h8⟩
 have l7 : w.heap.size ≤ w.heap.size + 1 := by omega
 have l8 : w.heap.size ≤ w.heap.size + 1 + 1 := by omega
 obtain ⟨c0, c1, c2, c3, c4, c5, c6⟩ := HX.out W hx
 have hkd : KD = 0 ∨ KD = 1 ∨ KD = 2 ∨ KD = 3 ∨ KD = 4 ∨ (KD ≠ 0 ∧ KD ≠ 1 ∧ KD ≠ 2 ∧ KD ≠ 3 ∧ KD ≠ 4) := by clear HK0 HK1 HK2 HK3 HK4 HS0 HSN HSO HX c0; omega
 rcases hkd with rfl | rfl | rfl | rfl | rfl | ⟨k0, k1, k2, k3, k4⟩
 case' inl =>
  have HK := Veil.mk (HK0.out rfl)
  replace HS0 := Veil.mk (HS0.out (by simp))
  replace HSN := Veil.mk (HSN.out (by simp))
  clear HK0 HK1 HK2 HK3 HK4 HSO
  have hcl := (HK.out W hb).1
  go_upto_region 7 with (first
   | (go_at_call 25; refine hcl.mono ?_; rintro z W1 ⟨rfl, hb1⟩; have hz7 := h7.farM hb1; clear hcl)
   | (refine wpList_stv (cs := TC) rfl 44 _ _ rfl (w.heap.size + 1) rfl rfl hz7 iT HZT.out h1T ?_))
  refine forget (p := fun y => Code.wp _ _ _ _ y) (fun W => Below w.heap.size w W ∧ CellsAt W w.heap.size 56 XC ∧ CellsAt W (w.heap.size + 1) 44 TC ∧ CellsAt W (w.heap.size + 1 + 1) 44 Z) ⟨below_setRow (hb.trans (hb1.mono hb.size)) l7 _, (hx.farM hb1).setRowM _ (by omega), hz7.setRow TC, (h8.farM hb1).setRowM _ (by omega)⟩ ?_
  clear hb hx h7 h8 c0 c1 c2 c3 c4 c5 c6 hb1 hz7 W W1
  rintro W ⟨hb, hx, h7, h8⟩
  obtain ⟨c0, c1, c2, c3, c4, c5, c6⟩ := HX.out W hx
  have hcl := (HK.out W hb).2
  go_upto_region 19 with (first
   | (go_at_call 63; refine hcl.mono ?_; rintro z W1 ⟨rfl, hb1⟩; have hz8 := h8.farM hb1; clear hcl)
   | (refine wpList_stv (cs := TC) rfl 44 _ _ rfl (w.heap.size + 1 + 1) rfl rfl hz8 iT HZT.out h1T ?_))
  refine forget (p := fun y => Code.wp _ _ _ _ y) (fun W => Below w.heap.size w W ∧ CellsAt W (w.heap.size + 1) 44 TC ∧ CellsAt W (w.heap.size + 1 + 1) 44 TC) ⟨below_setRow (hb.trans (hb1.mono hb.size)) l8 _, (h7.farM hb1).setRowM _ (by omega), hz8.setRow TC⟩ ?_
  clear hb hx h7 h8 c0 c1 c2 c3 c4 c5 c6 hb1 hz8 HK W W1
  rintro W ⟨hb, h7, h8⟩
 case' inr.inl =>
  have HK := Veil.mk (HK1.out rfl)
  replace HS0 := Veil.mk (HS0.out (by simp))
  replace HSN := Veil.mk (HSN.out (by simp))
  clear HK0 HK1 HK2 HK3 HK4 HSO
  have hcl := (HK.out W hb).1
  go_upto_region 10 with (first
   | (go_at_call 26; refine hcl.mono ?_; rintro z W1 ⟨rfl, hb1⟩; have hz7 := h7.farM hb1; clear hcl)
   | (refine wpList_stv (cs := TC) rfl 44 _ _ rfl (w.heap.size + 1) rfl rfl hz7 iT HZT.out h1T ?_))
  refine forget (p := fun y => Code.wp _ _ _ _ y) (fun W => Below w.heap.size w W ∧ CellsAt W w.heap.size 56 XC ∧ CellsAt W (w.heap.size + 1) 44 TC ∧ CellsAt W (w.heap.size + 1 + 1) 44 Z) ⟨below_setRow (hb.trans (hb1.mono hb.size)) l7 _, (hx.farM hb1).setRowM _ (by omega), hz7.setRow TC, (h8.farM hb1).setRowM _ (by omega)⟩ ?_
  clear hb hx h7 h8 c0 c1 c2 c3 c4 c5 c6 hb1 hz7 W W1
  rintro W ⟨hb, hx, h7, h8⟩
  obtain ⟨c0, c1, c2, c3, c4, c5, c6⟩ := HX.out W hx
  have hcl := (HK.out W hb).2
  go_upto_region 19 with (first
   | (go_at_call 64; refine hcl.mono ?_; rintro z W1 ⟨rfl, hb1⟩; have hz8 := h8.farM hb1; clear hcl)
   | (refine wpList_stv (cs := TC) rfl 44 _ _ rfl (w.heap.size + 1 + 1) rfl rfl hz8 iT HZT.out h1T ?_))
  refine forget (p := fun y => Code.wp _ _ _ _ y) (fun W => Below w.heap.size w W ∧ CellsAt W (w.heap.size + 1) 44 TC ∧ CellsAt W (w.heap.size + 1 + 1) 44 TC) ⟨below_setRow (hb.trans (hb1.mono hb.size)) l8 _, (h7.farM hb1).setRowM _ (by omega), hz8.setRow TC⟩ ?_
  clear hb hx h7 h8 c0 c1 c2 c3 c4 c5 c6 hb1 hz8 HK W W1
  rintro W ⟨hb, h7, h8⟩
 case' inr.inr.inl =>
  have HK := Veil.mk (HK2.out rfl)
  replace HS0 := Veil.mk (HS0.out (by simp))
  replace HSN := Veil.mk (HSN.out (by simp))
  clear HK0 HK1 HK2 HK3 HK4 HSO
  have hcl := (HK.out W hb).1
  go_upto_region 13 with (first
   | (go_at_call 27; refine hcl.mono ?_; rintro z W1 ⟨rfl, hb1⟩; have hz7 := h7.farM hb1; clear hcl)
   | (refine wpList_stv (cs := TC) rfl 44 _ _ rfl (w.heap.size + 1) rfl rfl hz7 iT HZT.out h1T ?_))
  refine forget (p := fun y => Code.wp _ _ _ _ y) (fun W => Below w.heap.size w W ∧ CellsAt W w.heap.size 56 XC ∧ CellsAt W (w.heap.size + 1) 44 TC ∧ CellsAt W (w.heap.size + 1 + 1) 44 Z) ⟨below_setRow (hb.trans (hb1.mono hb.size)) l7 _, (hx.farM hb1).setRowM _ (by omega), hz7.setRow TC, (h8.farM hb1).setRowM _ (by omega)⟩ ?_
  clear hb hx h7 h8 c0 c1 c2 c3 c4 c5 c6 hb1 hz7 W W1
  rintro W ⟨hb, hx, h7, h8⟩
  obtain ⟨c0, c1, c2, c3, c4, c5, c6⟩ := HX.out W hx
  have hcl := (HK.out W hb).2
  go_upto_region 19 with (first
   | (go_at_call 65; refine hcl.mono ?_; rintro z W1 ⟨rfl, hb1⟩; have hz8 := h8.farM hb1; clear hcl)
   | (refine wpList_stv (cs := TC) rfl 44 _ _ rfl (w.heap.size + 1 + 1) rfl rfl hz8 iT HZT.out h1T ?_))
  refine forget (p := fun y => Code.wp _ _ _ _ y) (fun W => Below w.heap.size w W ∧ CellsAt W (w.heap.size + 1) 44 TC ∧ CellsAt W (w.heap.size + 1 + 1) 44 TC) ⟨below_setRow (hb.trans (hb1.mono hb.size)) l8 _, (h7.farM hb1).setRowM _ (by omega), hz8.setRow TC⟩ ?_
  clear hb hx h7 h8 c0 c1 c2 c3 c4 c5 c6 hb1 hz8 HK W W1
  rintro W ⟨hb, h7, h8⟩
 case' inr.inr.inr.inl =>
  have HK := Veil.mk (HK3.out rfl)
  replace HS0 := Veil.mk (HS0.out (by simp))
  replace HSN := Veil.mk (HSN.out (by simp))
  clear HK0 HK1 HK2 HK3 HK4 HSO
  have hcl := (HK.out W hb).1
  go_upto_region 16 with (first
   | (go_at_call 28; refine hcl.mono ?_; rintro z W1 ⟨rfl, hb1⟩; have hz7 := h7.farM hb1; clear hcl)
   | (refine wpList_stv (cs := TC) rfl 44 _ _ rfl (w.heap.size + 1) rfl rfl hz7 iT HZT.out h1T ?_))
  refine forget (p := fun y => Code.wp _ _ _ _ y) (fun W => Below w.heap.size w W ∧ CellsAt W w.heap.size 56 XC ∧ CellsAt W (w.heap.size + 1) 44 TC ∧ CellsAt W (w.heap.size + 1 + 1) 44 Z) ⟨below_setRow (hb.trans (hb1.mono hb.size)) l7 _, (hx.farM hb1).setRowM _ (by omega), hz7.setRow TC, (h8.farM hb1).setRowM _ (by omega)⟩ ?_
  clear hb hx h7 h8 c0 c1 c2 c3 c4 c5 c6 hb1 hz7 W W1
  rintro W ⟨hb, hx, h7, h8⟩
  obtain ⟨c0, c1, c2, c3, c4, c5, c6⟩ := HX.out W hx
  have hcl := (HK.out W hb).2
  go_upto_region 19 with (first
   | (go_at_call 66; refine hcl.mono ?_; rintro z W1 ⟨rfl, hb1⟩; have hz8 := h8.farM hb1; clear hcl)
   | (refine wpList_stv (cs := TC) rfl 44 _ _ rfl (w.heap.size + 1 + 1) rfl rfl hz8 iT HZT.out h1T ?_))
  refine forget (p := fun y => Code.wp _ _ _ _ y) (fun W => Below w.heap.size w W ∧ CellsAt W (w.heap.size + 1) 44 TC ∧ CellsAt W (w.heap.size + 1 + 1) 44 TC) ⟨below_setRow (hb.trans (hb1.mono hb.size)) l8 _, (h7.farM hb1).setRowM _ (by omega), hz8.setRow TC⟩ ?_
  clear hb hx h7 h8 c0 c1 c2 c3 c4 c5 c6 hb1 hz8 HK W W1
  rintro W ⟨hb, h7, h8⟩
 case' inr.inr.inr.inr.inl =>
  obtain ⟨e1, e2⟩ := HK4.out rfl
  subst e2
  have HE4 := Veil.mk e1
  clear e1
  have HQ := Veil.mk (HS0.out (by simp) rfl)
  clear HK0 HK1 HK2 HK3 HK4 HSN HSO HS0
  go_upto_region 18 with fail
  have hT : (fun W : World => W.rangeAt w.heap.size 6 TC) W.drew := by rw [← HE4.out]; exact c6
  have hS : (fun _ : World => True) W.drew := trivial
  have h7d : CellsAt W.drew (w.heap.size + 1) 44 Z := h7.congr rfl
  have h8d : CellsAt W.drew (w.heap.size + 1 + 1) 44 Z := h8.congr rfl
  have hxd : CellsAt W.drew w.heap.size 56 XC := hx.congr rfl
  have hbd := hb.drew
  clear c0 c1 c2 c3 c4 c5 c6 h7 h8 hx hb
  refine wp_region_gateT (fun W : World => W.rangeAt w.heap.size 6 TC) (fun _ => True) 99 (by kernel_rfl) ?_
  refine ghA 0 _ hT hS ?_
  simp only [Act.put, gA, gS, gZ, sI, sZ, sS]
  refine gl 1 104 44 103 w.heap.size 6 TC (by kernel_rfl) (by kernel_rfl) (by kernel_rfl) (fun _ _ _ h => h) hT hS (by kernel_rfl) (fun _ h => h) uE rfl iT ?_
  simp only [Act.put, gA, gS, gZ, sI, sZ, sS]
  refine ghA 2 _ hT hS ?_
  simp only [Act.put, gA, gS, gZ, sI, sZ, sS]
  refine gl 3 106 44 105 w.heap.size 6 TC (by kernel_rfl) (by kernel_rfl) (by kernel_rfl) (fun _ _ _ h => h) hT hS (by kernel_rfl) (fun _ h => h) uE rfl iT ?_
  simp only [Act.put, gA, gS, gZ, sI, sZ, sS]
  refine wpAnyT_one (i := 4) rfl (by kernel_rfl) (by kernel_rfl) (fun K hK => ?_)
  refine wp_stvE (cs := TC) 44 _ _ rfl (w.heap.size + 1) rfl rfl h7d iT HZT.out h1T ?_
  have h7e := h7d.setRow TC
  have h8e := h8d.setRowM TC.toArray (g' := w.heap.size + 1) (by omega)
  have hxe := hxd.setRowM TC.toArray (g' := w.heap.size + 1) (by omega)
  have hbe := below_setRow hbd l7 TC.toArray
  replace hT : (fun W : World => W.rangeAt w.heap.size 6 TC) (W.drew.setRow (w.heap.size + 1) TC.toArray) := by rw [← HE4.out]; rw [← HE4.out] at hxe; exact (HX.out _ hxe).2.2.2.2.2.2
  replace hS : (fun _ : World => True) (W.drew.setRow (w.heap.size + 1) TC.toArray) := trivial
  clear h7d h8d hxd hbd
  refine hK.out _ _ hT (fun _ => hS) ?_
  clear hK K
  try simp only [Act.put, gA, gS, gZ, sI, sZ, sS]
  refine wpAnyT_one (i := 5) rfl (by kernel_rfl) (by kernel_rfl) (fun K hK => ?_)
  refine wp_stvE (cs := TC) 44 _ _ rfl (w.heap.size + 1 + 1) rfl rfl h8e iT HZT.out h1T ?_
  have h7f := h7e.setRowM TC.toArray (g' := w.heap.size + 1 + 1) (by omega)
  have h8f := h8e.setRow TC
  have hxf := hxe.setRowM TC.toArray (g' := w.heap.size + 1 + 1) (by omega)
  have hbf := below_setRow hbe l8 TC.toArray
  replace hT : (fun W : World => W.rangeAt w.heap.size 6 TC) ((W.drew.setRow (w.heap.size + 1) TC.toArray).setRow (w.heap.size + 1 + 1) TC.toArray) := by rw [← HE4.out]; rw [← HE4.out] at hxf; exact (HX.out _ hxf).2.2.2.2.2.2
  replace hS : (fun _ : World => True) ((W.drew.setRow (w.heap.size + 1) TC.toArray).setRow (w.heap.size + 1 + 1) TC.toArray) := trivial
  clear h7e h8e hxe hbe hxf
  refine hK.out _ _ hT (fun _ => hS) ?_
  clear hK K
  try simp only [Act.put, gA, gS, gZ, sI, sZ, sS]
  refine wpAnyT_done (by kernel_rfl) ?_ _
  clear hT hS HE4 HX
  go_upto_region 19 with fail
  refine forget (p := fun y => Code.wp _ _ _ _ y) (fun W => Below w.heap.size w W ∧ CellsAt W (w.heap.size + 1) 44 TC ∧ CellsAt W (w.heap.size + 1 + 1) 44 TC) ⟨hbf, h7f, h8f⟩ ?_
  clear hbf h7f h8f W
  rintro W ⟨hb, h7, h8⟩
  have r7 := h7.wholeM
  have r8 := h8.wholeM
  go_upto_region 21 with (first
   | (refine wpList_ldv rfl 44 _ rfl (w.heap.size + 1) 0 rfl TC r7 uE rfl iT ?_)
   | (refine wpList_ldv rfl 44 _ rfl (w.heap.size + 1 + 1) 0 rfl TC r8 uE rfl iT ?_)
   | (refine wpList_binE rfl .neq 44 (.tmp 107) (.tmp 108) 44 rfl (.agg TC.toArray) (.agg TC.toArray) (.bool false) rfl rfl (evGuardD _ _ _ _) (HEQ.out _) ?_))
  clear r7 r8
  have hb0 : Below W.heap.size W W.drew := (Below.refl _ _).drew
  have hZ1 := HB0.out.keep2 (hb.trans (hb0.mono hb.size)) (h7.farM hb0) l7 (h8.farM hb0) l8
  have hsz : base ≤ W.drew.heap.size := Nat.le_trans hbase hb.size
  have hT : (fun W : World => W.rangeAt (w.heap.size + 1) 0 TC ∧ W.rangeAt (w.heap.size + 1 + 1) 0 TC) W.drew := ⟨(hZ1.cells (x := (w.heap.size + 1, TC)) (by simp)).wholeM, (hZ1.cells (x := (w.heap.size + 1 + 1, TC)) (by simp)).wholeM⟩
  have hS : (fun _ : World => True) W.drew := trivial
  have hbB : Below base w W.drew := (hb.trans (hb0.mono hb.size)).mono hbase
  clear h7 h8 hb hb0
  refine wp_region_gateT (fun W : World => W.rangeAt (w.heap.size + 1) 0 TC ∧ W.rangeAt (w.heap.size + 1 + 1) 0 TC) (fun _ => True) 99 (by kernel_rfl) ?_
  refine ghA 0 _ hT hS ?_
  simp only [Act.put, gA, gS, gZ, sI, sZ, sS]
  refine ghA 1 _ hT hS ?_
  simp only [Act.put, gA, gS, gZ, sI, sZ, sS]
  refine ghA 2 _ hT hS ?_
  simp only [Act.put, gA, gS, gZ, sI, sZ, sS]
  refine ghA 3 _ hT hS ?_
  simp only [Act.put, gA, gS, gZ, sI, sZ, sS]
  refine gl 4 119 44 7 (w.heap.size + 1) 0 TC (by kernel_rfl) (by kernel_rfl) (by kernel_rfl) (fun _ _ _ h => h) hT hS (by kernel_rfl) (fun _ h => h.1) uE rfl iT ?_
  simp only [Act.put, gA, gS, gZ, sI, sZ, sS]
  refine ghA 6 _ hT hS ?_
  simp only [Act.put, gA, gS, gZ, sI, sZ, sS]
  refine gl 7 122 44 8 (w.heap.size + 1 + 1) 0 TC (by kernel_rfl) (by kernel_rfl) (by kernel_rfl) (fun _ _ _ h => h) hT hS (by kernel_rfl) (fun _ h => h.2) uE rfl iT ?_
  simp only [Act.put, gA, gS, gZ, sI, sZ, sS]
  refine wpAnyT_one (i := 5) rfl (by kernel_rfl) (by kernel_rfl) (fun K hK => ?_)
  refine wpx_call _ _ (by kernel_rfl) ((HA1.out _ _ hZ1 hsz).mono ?_)
  rintro y W2 ⟨rfl, hZ2, hb2⟩
  refine ⟨_, rfl, ?_⟩
  have hs2 : base ≤ W2.heap.size := Nat.le_trans hsz hb2.size
  replace hbB := hbB.trans hb2
  replace hT : (fun W : World => W.rangeAt (w.heap.size + 1) 0 TC ∧ W.rangeAt (w.heap.size + 1 + 1) 0 TC) W2 := ⟨(hZ2.cells (x := (w.heap.size + 1, TC)) (by simp)).wholeM, (hZ2.cells (x := (w.heap.size + 1 + 1, TC)) (by simp)).wholeM⟩
  replace hS : (fun _ : World => True) W2 := trivial
  clear hZ1 hb2 hsz
  refine hK.out _ _ hT (fun _ => hS) ?_
  clear hK K
  try simp only [Act.put, gA, gS, gZ, sI, sZ, sS]
  refine wpAnyT_one (i := 8) rfl (by kernel_rfl) (by kernel_rfl) (fun K hK => ?_)
  refine wpx_call _ _ (by kernel_rfl) ((HA2.out _ _ hZ2 hs2).mono ?_)
  rintro y W3 ⟨rfl, hZ3, hb3⟩
  refine ⟨_, rfl, ?_⟩
  replace hbB := hbB.trans hb3
  replace hT : (fun W : World => W.rangeAt (w.heap.size + 1) 0 TC ∧ W.rangeAt (w.heap.size + 1 + 1) 0 TC) W3 := ⟨(hZ3.cells (x := (w.heap.size + 1, TC)) (by simp)).wholeM, (hZ3.cells (x := (w.heap.size + 1 + 1, TC)) (by simp)).wholeM⟩
  replace hS : (fun _ : World => True) W3 := trivial
  have HF := Veil.mk (And.intro hZ3.drop hbB)
  clear hZ2 hb3 hs2 hZ3 hbB
  refine hK.out _ _ hT (fun _ => hS) ?_
  clear hK K
  try simp only [Act.put, gA, gS, gZ, sI, sZ, sS]
  refine ghA 9 (.bool true) hT hS ?_
  simp only [Act.put, gA, gS, gZ, sI, sZ, sS]
  refine ghA 10 _ hT hS ?_
  simp only [Act.put, gA, gS, gZ, sI, sZ, sS]
  refine ghA 11 _ hT hS ?_
  simp only [Act.put, gA, gS, gZ, sI, sZ, sS]
  refine wpAnyT_done (by kernel_rfl) ?_ _
  clear hT hS
  go_wp2
  go_ret
  exact ⟨rfl, by rw [HQ.out]; exact HF.out.1, HF.out.2⟩
 case' inr.inr.inr.inr.inr =>
  have k0b : (KD == 0) = false := by simpa using k0
  have k1b : (KD == 1) = false := by simpa using k1
  have k2b : (KD == 2) = false := by simpa using k2
  have k3b : (KD == 3) = false := by simpa using k3
  have k4b : (KD == 4) = false := by simpa using k4
  have HQ := Veil.mk (HSO.out (by simp [k0, k1, k2, k3, k4]))
  clear HK0 HK1 HK2 HK3 HK4 HS0 HSN HSO c1 c2 c3 c4 c5 c6
  go_wp2
  go_ret
  exact ⟨rfl, by rw [HQ.out]; exact HBD.out _ hb, hb.mono hbase⟩
 all_goals
  have r7 := h7.wholeM
  have r8 := h8.wholeM
  go_upto_region 21 with (first
   | (refine wpList_ldv rfl 44 _ rfl (w.heap.size + 1) 0 rfl TC r7 uE rfl iT ?_)
   | (refine wpList_ldv rfl 44 _ rfl (w.heap.size + 1 + 1) 0 rfl TC r8 uE rfl iT ?_)
   | (refine wpList_binE rfl .neq 44 (.tmp 107) (.tmp 108) 44 rfl (.agg TC.toArray) (.agg TC.toArray) (.bool false) rfl rfl (evGuardD _ _ _ _) (HEQ.out _) ?_))
  clear r7 r8
  by_cases h0 : TN = 0
  · subst h0
    have HQ := Veil.mk (HS0.out rfl)
    clear HS0 HSN
    have hb0 : Below W.heap.size W W.drew := (Below.refl _ _).drew
    have hZ1 := HB0.out.keep2 (hb.trans (hb0.mono hb.size)) (h7.farM hb0) l7 (h8.farM hb0) l8
    have hsz : base ≤ W.drew.heap.size := Nat.le_trans hbase hb.size
    have hT : (fun W : World => W.rangeAt (w.heap.size + 1) 0 TC ∧ W.rangeAt (w.heap.size + 1 + 1) 0 TC) W.drew := ⟨(hZ1.cells (x := (w.heap.size + 1, TC)) (by simp)).wholeM, (hZ1.cells (x := (w.heap.size + 1 + 1, TC)) (by simp)).wholeM⟩
    have hS : (fun _ : World => True) W.drew := trivial
    have hbB : Below base w W.drew := (hb.trans (hb0.mono hb.size)).mono hbase
    clear h7 h8 hb hb0
    refine wp_region_gateT (fun W : World => W.rangeAt (w.heap.size + 1) 0 TC ∧ W.rangeAt (w.heap.size + 1 + 1) 0 TC) (fun _ => True) 99 (by kernel_rfl) ?_
    refine ghA 0 _ hT hS ?_
    simp only [Act.put, gA, gS, gZ, sI, sZ, sS]
    refine ghA 1 _ hT hS ?_
    simp only [Act.put, gA, gS, gZ, sI, sZ, sS]
    refine ghA 2 _ hT hS ?_
    simp only [Act.put, gA, gS, gZ, sI, sZ, sS]
    refine ghA 3 _ hT hS ?_
    simp only [Act.put, gA, gS, gZ, sI, sZ, sS]
    refine gl 4 119 44 7 (w.heap.size + 1) 0 TC (by kernel_rfl) (by kernel_rfl) (by kernel_rfl) (fun _ _ _ h => h) hT hS (by kernel_rfl) (fun _ h => h.1) uE rfl iT ?_
    simp only [Act.put, gA, gS, gZ, sI, sZ, sS]
    refine ghA 6 _ hT hS ?_
    simp only [Act.put, gA, gS, gZ, sI, sZ, sS]
    refine gl 7 122 44 8 (w.heap.size + 1 + 1) 0 TC (by kernel_rfl) (by kernel_rfl) (by kernel_rfl) (fun _ _ _ h => h) hT hS (by kernel_rfl) (fun _ h => h.2) uE rfl iT ?_
    simp only [Act.put, gA, gS, gZ, sI, sZ, sS]
    refine wpAnyT_one (i := 5) rfl (by kernel_rfl) (by kernel_rfl) (fun K hK => ?_)
    refine wpx_call _ _ (by kernel_rfl) ((HA1.out _ _ hZ1 hsz).mono ?_)
    rintro y W2 ⟨rfl, hZ2, hb2⟩
    refine ⟨_, rfl, ?_⟩
    have hs2 : base ≤ W2.heap.size := Nat.le_trans hsz hb2.size
    replace hbB := hbB.trans hb2
    replace hT : (fun W : World => W.rangeAt (w.heap.size + 1) 0 TC ∧ W.rangeAt (w.heap.size + 1 + 1) 0 TC) W2 := ⟨(hZ2.cells (x := (w.heap.size + 1, TC)) (by simp)).wholeM, (hZ2.cells (x := (w.heap.size + 1 + 1, TC)) (by simp)).wholeM⟩
    replace hS : (fun _ : World => True) W2 := trivial
    clear hZ1 hb2 hsz
    refine hK.out _ _ hT (fun _ => hS) ?_
    clear hK K
    try simp only [Act.put, gA, gS, gZ, sI, sZ, sS]
    refine wpAnyT_one (i := 8) rfl (by kernel_rfl) (by kernel_rfl) (fun K hK => ?_)
    refine wpx_call _ _ (by kernel_rfl) ((HA2.out _ _ hZ2 hs2).mono ?_)
    rintro y W3 ⟨rfl, hZ3, hb3⟩
    refine ⟨_, rfl, ?_⟩
    replace hbB := hbB.trans hb3
    replace hT : (fun W : World => W.rangeAt (w.heap.size + 1) 0 TC ∧ W.rangeAt (w.heap.size + 1 + 1) 0 TC) W3 := ⟨(hZ3.cells (x := (w.heap.size + 1, TC)) (by simp)).wholeM, (hZ3.cells (x := (w.heap.size + 1 + 1, TC)) (by simp)).wholeM⟩
    replace hS : (fun _ : World => True) W3 := trivial
    have HF := Veil.mk (And.intro hZ3.drop hbB)
    clear hZ2 hb3 hs2 hZ3 hbB
    refine hK.out _ _ hT (fun _ => hS) ?_
    clear hK K
    try simp only [Act.put, gA, gS, gZ, sI, sZ, sS]
    refine ghA 9 (.bool true) hT hS ?_
    simp only [Act.put, gA, gS, gZ, sI, sZ, sS]
    refine ghA 10 _ hT hS ?_
    simp only [Act.put, gA, gS, gZ, sI, sZ, sS]
    refine ghA 11 _ hT hS ?_
    simp only [Act.put, gA, gS, gZ, sI, sZ, sS]
    refine wpAnyT_done (by kernel_rfl) ?_ _
    clear hT hS
    go_wp2
    go_ret
    exact ⟨rfl, by rw [HQ.out]; exact HF.out.1, HF.out.2⟩
  · have h0b : (TN != 0) = true := by simpa using h0
    have HQ := Veil.mk (HSN.out h0)
    clear HS0 HSN h0
    have hb0 : Below W.heap.size W W.drew := (Below.refl _ _).drew
    have HF := Veil.mk (hb.trans (hb0.mono hb.size))
    have hT : (fun _ : World => True) W.drew := trivial
    have hS : (fun _ : World => True) W.drew := trivial
    clear h7 h8 hb hb0
    refine wp_region_gateT (fun _ : World => True) (fun _ => True) 99 (by kernel_rfl) ?_
    refine ghA 0 _ hT hS ?_
    simp only [Act.put, gA, gS, gZ, sI, sZ, sS]
    refine ghA 1 _ hT hS ?_
    simp only [Act.put, gA, gS, gZ, sI, sZ, sS]
    refine ghA 2 _ hT hS ?_
    simp only [Act.put, gA, gS, gZ, sI, sZ, sS]
    refine gs 3 hT hS ?_
    simp only [Act.put, gA, gS, gZ, sI, sZ, sS]
    refine gs 4 hT hS ?_
    simp only [Act.put, gA, gS, gZ, sI, sZ, sS]
    refine gs 5 hT hS ?_
    simp only [Act.put, gA, gS, gZ, sI, sZ, sS]
    refine gs 6 hT hS ?_
    simp only [Act.put, gA, gS, gZ, sI, sZ, sS]
    refine gs 7 hT hS ?_
    simp only [Act.put, gA, gS, gZ, sI, sZ, sS]
    refine gs 8 hT hS ?_
    simp only [Act.put, gA, gS, gZ, sI, sZ, sS]
    refine gs 9 hT hS ?_
    simp only [Act.put, gA, gS, gZ, sI, sZ, sS]
    refine ghA 10 _ hT hS ?_
    simp only [Act.put, gA, gS, gZ, sI, sZ, sS]
    refine ghA 11 _ hT hS ?_
    simp only [Act.put, gA, gS, gZ, sI, sZ, sS]
    refine wpAnyT_done (by kernel_rfl) ?_ _
    clear hT hS
    go_wp2
    go_ret
    exact ⟨rfl, by rw [HQ.out]; exact HBD.out _ HF.out, HF.out.mono hbase⟩
def playX (L : List Ed) : Ds := L.foldl stepX newS
theorem playX_snoc (L : List Ed) (d : Ed) : playX (L ++ [d]) = stepX (playX L) d := by unfold playX; rw [List.foldl_append]; rfl
structure PlayX (w : World) (L : List Ed) (v0 : Value) (w' : World) : Prop where
 out : ∃ D Q, v0 = .tuple #[.pointer (some ⟨D, 0, none⟩), .pointer (some ⟨Q, 0, none⟩), .bool true] ∧ BothD w.heap.size w' (playX (L.take 50)) (playX (L.take 50)) D Q [] ∧ Below w.heap.size w w'
set_option maxHeartbeats 8000000 in
theorem play10_any (x : Option Addr) (len cap : Nat) (L : List Ed) (w : World) (hL : EdsAt w x len cap L) :
    Calls Tryz.prog 11 #[.slice x len cap] w fun e w' => ∃ v0, e = .returned v0 ∧ PlayX w L v0 w' := by
 have hnew := dNew_any w
 have HRN : Veil (∀ W, Calls Tryz.prog 34 #[] W fun r w' => ∃ p, r = .returned (.pointer (some ⟨p.D, 0, none⟩)) ∧ RDocAt w' W.heap.size newS p ∧ GoodR newS p.K p.G ∧ Below W.heap.size W w' ∧ ∀ k, rdocP p k → W.heap.size ≤ k) := ⟨fun W => rnew10_any W⟩
 have HL := Veil.mk hL
 have hle := hL.le
 have htop := hL.top
 have HLE := Veil.mk hL.len_eq
 clear hL
 go_enter Tryz.func11, Tryz.ntmps11
 go_upto_region 2 with (first
  | (go_at_call 15; refine hnew.mono ?_; rintro z W1 ⟨p, rfl, hT, hb1, hl1⟩; have hrn := HRN.out W1; clear hnew)
  | (go_at_call 34; refine hrn.mono ?_; rintro z W2 ⟨q, rfl, hQ, hR, hb2, hl2⟩))
 have hz1 := hb1.size
 have hBT : BothD w.heap.size W2 (playX (L.take 0)) (playX (L.take 0)) p.D q.D [] := by
  refine ⟨p, q, rfl, rfl, ⟨hT.far hb2, ⟨hQ.box, ⟨hQ.tree.box, hQ.tree.own.less hz1, hQ.tree.len⟩, ⟨hQ.book.cells, hQ.book.ev.less hz1, hQ.book.bo.less hz1⟩, hQ.evs.less hz1, hQ.flags.less hz1, hQ.apart1, hQ.apart2⟩, GoodD.new, GoodD.new, hR, hl1, fun k hk => Nat.le_trans hz1 (hl2 k hk), fun k hk hq => ?_, fun x hx => by cases hx⟩⟩
  have := hT.blockLt k hk
  have := hl2 k hq
  omega
 have hB2 : Below w.heap.size w W2 := hb1.trans (hb2.mono hb1.size)
 refine forget (p := fun y => Code.wp _ _ _ _ y) (fun W => BothD w.heap.size W (playX (L.take 0)) (playX (L.take 0)) p.D q.D [] ∧ Below w.heap.size w W) ⟨hBT, hB2⟩ ?_
 generalize p.D = D
 generalize q.D = Q
 clear hBT hB2 hb1 hb2 hT hQ hR hrn hz1 HRN hl1 hl2 W1 W2 p q
 rintro W0 h0
 go_wp2_with fail
 go_loopw [7] (fun p wr => ∃ (i : Nat), p = .int .i64 (i : Nat) ∧ i ≤ len ∧ i ≤ 50 ∧ BothD w.heap.size wr (playX (L.take i)) (playX (L.take i)) D Q [] ∧ Below w.heap.size w wr) (fun p _ => 50 - (intOf p).toNat)
 case atStart => exact ⟨0, rfl, Nat.zero_le _, Nat.zero_le _, h0.1, h0.2⟩
 case round =>
  obtain ⟨i, rfl, hi, hi60, hBT, hB⟩ := hrel
  clear h0
  have HB := Veil.mk hB
  have HBT := Veil.mk hBT
  clear hB hBT
  by_cases hlt : i < len
  · have hli : decide ((i : Int) < (len : Int)) = true := by simp; omega
    by_cases h60 : i < 50
    · have hl6 : decide ((i : Int) < 50) = true := by simp; omega
      have hil : i < L.length := by have := HLE.out; omega
      have hi0 : (0 : Int) ≤ (i : Int) := by omega
      have hlti : (i : Int) < (len : Int) := by omega
      obtain ⟨g, off, hxg, hcl⟩ : ∃ g off, x = some ⟨g, off, none⟩ ∧ wr.rangeAt g (off + i * 23) L[i].cells := by
       rcases (HL.out.below HB.out).at_ with h | ⟨g, off, hx, hc⟩
       · omega
       · exact ⟨g, off, hx, fun q u hu => hc i hil q u hu⟩
      have hok := HL.out.ok _ (List.getElem_mem hil)
      have hdo := do10_any w.heap.size (playX (L.take i)) D Q L[i] wr HBT.out hok HB.out.size
      have HNX : Veil (stepX (playX (L.take i)) L[i] = playX (L.take (i + 1))) := ⟨by rw [List.take_succ_eq_append_getElem hil, playX_snoc]⟩
      have iC : (Tryz.prog.info? 56).map (·.size) = some L[i].cells.length := by rw [(ed_parts L[i] hok.e.past).2.2.2.2.2.2.2.2]; kernel_rfl
      have uC := Tryz.underlying56
      generalize stepX (playX (L.take i)) L[i] = DO at hdo HNX
      generalize L[i].cells = DC at hcl hdo iC
      have hww : IntKind.i64.wrap ((i : Int) + 1) = (i : Int) + 1 := by rw [IntKind.wrap_i64]; omega
      clear hil hok
      subst hxg
      go_wp2_with (first
       | (refine wpList_ldv rfl 56 (.tmp 24) rfl g (off + i * 23) rfl DC hcl uC rfl iC ?_)
       | (go_at_call 33; refine hdo.mono ?_; rintro z W3 ⟨rfl, hq3⟩; have HQ3 := Veil.mk hq3; clear hq3 hdo))
      go_roundw
      case rel => exact ⟨i + 1, by push_cast; rfl, hlt, h60, by rw [← HNX.out]; exact HQ3.out.1, HB.out.trans HQ3.out.2⟩
      case measure => simp [intOf]; omega
    · have hl6 : decide ((i : Int) < 50) = false := by simp; omega
      have HE : Veil (L.take i = L.take 50) := ⟨by rw [show i = 50 by omega]⟩
      have HPR : Veil (PlayX w L (.tuple #[.pointer (some ⟨D, 0, none⟩), .pointer (some ⟨Q, 0, none⟩), .bool true]) wr) := ⟨⟨D, Q, rfl, by rw [← HE.out]; exact HBT.out, HB.out⟩⟩
      go_wp2
      refine bodyPost_ret (results_tmp3 rfl _ _ _) rfl ?_
      exact ⟨_, rfl, HPR.out⟩
  · have hli : decide ((i : Int) < (len : Int)) = false := by simp; omega
    have HE : Veil (L.take i = L.take 50) := ⟨by have := HLE.out; rw [List.take_of_length_le (by omega), List.take_of_length_le (by omega)]⟩
    have HPR : Veil (PlayX w L (.tuple #[.pointer (some ⟨D, 0, none⟩), .pointer (some ⟨Q, 0, none⟩), .bool true]) wr) := ⟨⟨D, Q, rfl, by rw [← HE.out]; exact HBT.out, HB.out⟩⟩
    go_wp2
    refine bodyPost_ret (results_tmp3 rfl _ _ _) rfl ?_
    exact ⟨_, rfl, HPR.out⟩
def e1L : Ev := ⟨0, 1, [0, 0, 0, 0, 0, 0, 0, 0], 1, 0, 0, true, 97, 0, 0⟩
def s1L : Ds := ⟨[⟨(0, 1), ((0, 0), true), 97⟩], [], [1, 0, 0, 0, 0, 0, 0, 0], [e1L], [(0, 1)]⟩
theorem tell1L : tellW newS 0 0 97 = (e1L, 0) := rfl
theorem ref1L : refD newS e1L = 0 := by decide
theorem do1L : doS newS e1L = s1L := rfl
theorem text1L : textN s1L.N = [97] := by decide
theorem mem1L : membersL s1L.B s1L.S = [3, 0, 0, 0, 0, 0, 0, 0] := by decide
theorem e1L_ok : e1L.Ok := ⟨⟨by decide, by decide⟩, rfl, (fun x hx => by
 have h0 : x = 0 := (by simpa [e1L] using hx)
 subst h0; decide), ⟨by decide, by decide⟩, by decide, by decide, by decide, by decide⟩
set_option maxHeartbeats 8000000 in
theorem live10_any (w : World) : Calls Tryz.prog 12 #[] w fun e w' => e = .returned (.bool true) ∧ Below w.heap.size w w' := by
 have hG1 : GoodD s1L := by rw [← do1L]; exact GoodD.new.does e1L_ok
 have HWR : Veil (∀ W p, DocAt W w.heap.size newS p → Calls Tryz.prog 25 #[.pointer (some ⟨p.D, 0, none⟩), .int .u8 0, .int .i64 0, .int .u8 97] W fun r w' => r = .returned (.tuple #[.agg (evKC 1 0 0 true 97 0 0 |>.set 1 (.int .u32 1)).toArray, .int .i64 0]) ∧ Below W.heap.size W w') := ⟨fun W p h => by
  have := dWrite_any w.heap.size newS p 0 0 97 W h GoodD.new (by decide) (by decide)
  rw [tell1L] at this
  exact this⟩
 have HAP : Veil (∀ W p, DocAt W w.heap.size newS p → w.heap.size ≤ W.heap.size → Calls Tryz.prog 18 #[.pointer (some ⟨p.D, 0, none⟩), .agg (evKC 1 0 0 true 97 0 0 |>.set 1 (.int .u32 1)).toArray] W fun r w' => r = .returned (.int .i64 0) ∧ ∃ p', DocAt w' w.heap.size s1L p' ∧ DocTo p p' W w') := ⟨fun W p h hb => by
  have := dApply_any w.heap.size newS p e1L W h GoodD.new e1L_ok hb
  rw [ref1L, do1L] at this
  exact this⟩
 have HTX : Veil (∀ W p, DocAt W w.heap.size s1L p → Calls Tryz.prog 20 #[.pointer (some ⟨p.D, 0, none⟩)] W fun e w' => ∃ x c, e = .returned (.slice x 1 c) ∧ (convert 30 9 (.slice x 1 c)).run Tryz.prog w' = .ok (.string (strOfNums [97])) w' ∧ Below W.heap.size W w') := ⟨fun W p h => (dText_any w.heap.size s1L p W h hG1).mono fun e w' ⟨v, h1, h2, h3⟩ => by
  rw [text1L] at h2
  obtain ⟨x, c, rfl⟩ : ∃ x c, v = .slice x 1 c := by
   rcases h2.2 with ⟨rfl, h0⟩ | ⟨g, cap, cur, rfl, _⟩
   · simp at h0
   · exact ⟨_, _, rfl⟩
  exact ⟨x, c, h1, conv_bytes h2.bytes.2, h3⟩⟩
 have HME : Veil (∀ W p, DocAt W w.heap.size s1L p → Calls Tryz.prog 21 #[.pointer (some ⟨p.D, 0, none⟩)] W fun r w' => r = .returned (.agg #[.int .u8 3, .int .u8 0, .int .u8 0, .int .u8 0, .int .u8 0, .int .u8 0, .int .u8 0, .int .u8 0]) ∧ Below W.heap.size W w') := ⟨fun W p h => by
  have := dMembers_any w.heap.size s1L p W h hG1
  rw [mem1L] at this
  exact this⟩
 have HFO : Veil (∀ W p, DocAt W w.heap.size s1L p → Calls Tryz.prog 19 #[.pointer (some ⟨p.D, 0, none⟩), .agg #[.int .u8 0, .int .u32 1]] W fun r w' => r = .returned (.bool true) ∧ Below W.heap.size W w') := ⟨fun W p h => by
  have := dForce_any w.heap.size s1L p (0, 1) ⟨⟨by decide, by decide⟩, ⟨by decide, by decide⟩⟩ W h hG1
  rw [show decide ((0, 1) ∈ s1L.F) = true by decide] at this
  exact this⟩
 have HS : Veil (((strOfNums [97]).toList == [97]) = true) := ⟨by rw [show (strOfNums [97]).toList = [97] by rw [ByteArray.toList_eq]; show (strOfNums [97]).data.toList = _; rw [strOfNums_data]; rfl]; rfl⟩
 have hnew := dNew_any w
 have uE := Tryz.underlying44
 have uD := Tryz.underlying40
 obtain ⟨EC, hEC⟩ : ∃ q, (evKC 1 0 0 true 97 0 0 |>.set 1 (.int .u32 1)) = q := ⟨_, rfl⟩
 rw [hEC] at HWR HAP
 have iE : (Tryz.prog.info? 44).map (·.size) = some EC.length := by rw [← hEC]; show _ = some 17; kernel_rfl
 have h1E : ∀ v ∈ EC, v.oneCell' = true := by rw [← hEC]; exact aev_one e1L
 have hE17 : EC.length = 17 := by rw [← hEC]; rfl
 have HE2 : Veil (EC.take 2 = [.int .u8 0, .int .u32 1]) := ⟨by rw [← hEC]; rfl⟩
 have i01 : (Tryz.prog.info? 40).map (·.size) = some [Value.int .u8 0, Value.int .u32 1].length := sizeDot
 have HZ : Veil (∀ W : World, CellsAt (W.alloc (.cells zC.toArray 44)) W.heap.size 44 zC) := ⟨fun W => CellsAt.new W 44 zC⟩
 unfold zC at HZ
 clear hG1 hEC
 go_enter Tryz.func12, Tryz.ntmps12
 go_upto_region 3 with (first
  | (go_at_call 15; refine hnew.mono ?_; rintro z W1 ⟨p1, rfl, hD1, hB1, hab⟩; have hwr := HWR.out W1 p1 hD1; clear hnew)
  | (go_at_call 25; refine hwr.mono ?_; rintro z W2 ⟨rfl, hb2⟩; have hz2 := HZ.out W2; clear hwr)
  | (refine wpList_stv (cs := EC) rfl 44 _ _ rfl W2.heap.size rfl rfl hz2 iE (by rw [hE17]; rfl) h1E ?_))
 have hb3 : Below W2.heap.size W2 ((W2.alloc (.cells zC.toArray 44)).setRow W2.heap.size EC.toArray) := below_setRow ((Below.refl _ _).alloc (Nat.le_refl _) _) (Nat.le_refl _) _
 have hb13 := hb2.trans (hb3.mono hb2.size)
 have hx3 := hz2.setRow EC
 refine forget (p := fun y => Code.wp _ _ _ _ y) (fun W => Below W1.heap.size W1 W ∧ CellsAt W W2.heap.size 44 EC) ⟨hb13, hx3⟩ ?_
 have HNE : Veil (¬ docP p1 W2.heap.size) := ⟨fun q => by have := hD1.blockLt _ q; have := hb2.size; omega⟩
 generalize W2.heap.size = be at HNE
 clear hb13 hb3 hb2 hz2 hx3 W2
 rintro W3 ⟨hb3, hx3⟩
 have hD3 := hD1.far hb3
 have hB3 := hB1.trans (hb3.mono hB1.size)
 have hap := HAP.out W3 p1 hD3 hB3.size
 have hr3 := hx3.wholeM
 have HAB := Veil.mk hab
 clear hD1 hB1 hb3 hab W1
 go_upto_region 4 with (first
  | (refine wpList_ldv rfl 44 _ rfl be 0 rfl EC hr3 uE rfl iE ?_)
  | (go_at_call 18; refine hap.mono ?_; rintro z W4 ⟨rfl, p4, hD4, ht4⟩; clear hap))
 have hx4 := hx3.congr (ht4.turn.block _ hx3.lt HNE.out)
 have hB4 : Below w.heap.size w W4 := hB3.trans (ht4.turn.below hB3.size fun k q => HAB.out k q)
 have HPD : Veil (p4.D = p1.D) := ⟨ht4.at_⟩
 have htx := HTX.out W4 p4 hD4
 rw [HPD.out] at htx
 have HD4 := Veil.mk hD4
 have HB4 := Veil.mk hB4
 have HX4 := Veil.mk hx4
 have HS2 := HS.out
 have hix : ∀ W : World, (Instr.index 49 (.agg #[.int .u8 3, .int .u8 0, .int .u8 0, .int .u8 0, .int .u8 0, .int .u8 0, .int .u8 0, .int .u8 0]) (.int .i64 0)).run Tryz.prog W = .ok (.int .u8 3) W := fun W => by kernel_rfl
 have HRD : Veil (∀ W, Below W4.heap.size W4 W → W.rangeAt be 0 [.int .u8 0, .int .u32 1]) := ⟨fun W hb => by
  have := (HX4.out.farM hb).range 0 2
  rw [List.drop_zero, HE2.out] at this
  exact this⟩
 clear hx3 hr3 hD3 hB3 hD4 ht4 hx4 hB4 W3
 go_wp2_with (first
  | (go_at_call 20; refine htx.mono ?_; rintro z W5 ⟨tx, tc, rfl, hcv, hb5⟩; have hme := HME.out W5 p4 (HD4.out.far hb5); rw [HPD.out] at hme; clear htx)
  | (go_at_call 21; refine hme.mono ?_; rintro z W6 ⟨rfl, hb6⟩; have hb46 := hb5.trans (hb6.mono hb5.size); have hfo := HFO.out W6 p4 (HD4.out.far hb46); rw [HPD.out] at hfo; have hrd := HRD.out W6 hb46; clear hme)
  | (refine wpList_ldgv (by kernel_rfl) 40 _ rfl be 0 rfl [.int .u8 0, .int .u32 1] hrd uD rfl i01 ?_)
  | (go_at_call 19; refine hfo.mono ?_; rintro z W7 ⟨rfl, hb7⟩; have HQ := Veil.mk (HB4.out.trans ((hb46.trans (hb7.mono hb46.size)).mono HB4.out.size)); clear hfo))
 go_ret
 exact ⟨rfl, HQ.out⟩
end Go.Proofs.YtmbdohnmbkpfaaaGreat
