/- TopRevoked, walked. -/
import Derived.Test.YtgmbmdmbnpkbbaaHv1
import Derived.Test.YtgmbmdmbnpkbbaaHv2
import Derived.Test.YtgmbmdmbnpkbbaaTopHeirsW
import Derived.Test.YtgmbmdmbnpkbbaaGate6
namespace Go.Proofs.Ytgmbmdmbnpkbbaa
open Go.RowKit Go.Shelf
set_option maxRecDepth 20000
set_option linter.unusedSimpArgs false
theorem TwoD.keepLow {B : Nat} {W : World} {s1 s2 : Ds} {D1 D2 : Nat} {K : List (Nat × List Value)} (h : TwoD B W s1 s2 D1 D2 K) {b : Nat} {cs : List Value} (hc : CellsAt W b 32 cs) (hl : b < B) : TwoD B W s1 s2 D1 D2 ((b, cs) :: K) := by
  obtain ⟨p1, p2, h1, h2, h⟩ := h
  refine ⟨p1, p2, h1, h2, ⟨h.d1, h.d2, h.a1, h.a2, h.apart, fun x hx => ?_⟩⟩
  rcases List.mem_cons.1 hx with rfl | q
  · exact ⟨hc, fun q => by have := h.a1 _ q; omega, fun q => by have := h.a2 _ q; omega⟩
  · exact h.kept x q
theorem vET_ok {c : Nat} (hc : c ≤ 127) (g1 : GoodD vS1) : (vET (c : Int)).Ok where
  dot := by
    have := g1.seen (a := 1) (by omega)
    have := g1.llen
    unfold vET nextE okD
    simp only
    omega
  past := g1.slen
  pastB := fun x hx => by have := g1.sval x hx; have := g1.llen; omega
  par := by unfold vET nextE evK okD; simp
  kind := by unfold vET nextE evK; simp
  char := by unfold vET nextE evK; simp only; omega
  who := by unfold vET nextE evK; simp
  role := by unfold vET nextE evK; simp
theorem vEL_ok {c : Nat} (hc : c ≤ 127) : (vEL (c : Int)).Ok where
  dot := by unfold vEL okD; simp
  past := rfl
  pastB := fun x hx => by
    simp [vEL] at hx
    omega
  par := by unfold vEL okD; simp
  kind := by unfold vEL; simp
  char := by unfold vEL; simp only; omega
  who := by unfold vEL; simp
  role := by unfold vEL; simp
theorem tellW_rev {c : Int} (h : Rev c) : tellW vS1 1 0 c = (vET c, 0) := by
  have : tellW vS1 1 0 c = (nextE vS1 (1 : Int).toNat (evK 1 (placeN vS1.N 0).1 (placeN vS1.N 0).2.1 c 0 0), 0) := (if_neg (by rw [h.f3]; simp)).trans (if_neg (by rw [h.pl]; simp))
  rw [this, h.pp, h.pr]
  rfl
set_option maxHeartbeats 32000000 in
theorem revoked_walk (x : Int) (hx : 0 ≤ x ∧ x ≤ 255) (w : World) :
    Calls Try.prog 3 #[.int .u8 x] w fun e w' => e = .returned (.bool true) ∧ Below w.heap.size w w' := by
  obtain ⟨xr, c, hxm, hxw, hc1, hc7⟩ : ∃ (xr : Int) (c : Nat), x.tmod 127 = xr ∧ IntKind.u8.wrap (xr + 1) = (c : Int) ∧ 1 ≤ c ∧ c ≤ 127 := by
    refine ⟨x % 127, (x % 127 + 1).toNat, Int.tmod_eq_emod_of_nonneg hx.1, ?_, by omega, by omega⟩
    rw [IntKind.wrap_u8]; omega
  clear hx
  have hR := rev_at hc1 hc7
  have g0 := GoodD.new
  have o1 : vE1.Ok := nextE_ok g0 (by omega) (by omega) (by omega) (by omega)
  have g1 : GoodD vS1 := g0.ap o1 hR.r1
  have oA : vEA.Ok := nextE_ok g1 (by omega) (by omega) (by omega) (by omega)
  have oT := vET_ok hc7 g1
  have oL := vEL_ok hc7
  have gF1 : GoodD vF1 := g1.ap oA hR.ra
  have gF2 : GoodD (vF2 (c : Int)) := gF1.ap oT hR.rt
  have gG1 : GoodD (vG1 (c : Int)) := g1.ap oT hR.rt2
  have gG2 : GoodD (vG2 (c : Int)) := gG1.ap oA hR.ra2
  have gF3 : GoodD (vF3 (c : Int)) := gF2.ap oL hR.rl
  have gG3 : GoodD (vG3 (c : Int)) := gG2.ap oL hR.rl2
  have hmd : Made vS1 := Made.new.ap hR.r1
  have HG1 : Veil (∀ W D, AtD w.heap.size W newS D → Calls Try.prog 7 #[.pointer (some ⟨D, 0, none⟩), .int .u8 0, .int .u8 1, .int .u8 2] W fun r w' => r = .returned (.tuple #[.agg vE1.cells.toArray, .int .i64 0]) ∧ Below W.heap.size W w') := ⟨fun W D h => by
    have := h.give g0 0 1 2 (by omega)
    rw [tellG_ok hR.f1] at this
    exact this⟩
  have HA1 : Veil (∀ W D, AtD w.heap.size W newS D → w.heap.size ≤ W.heap.size → Calls Try.prog 8 #[.pointer (some ⟨D, 0, none⟩), .agg vE1.cells.toArray, .int .i64 0] W fun r w' => r = .returned (.bool true) ∧ AtD w.heap.size w' vS1 D ∧ Below w.heap.size W w') := ⟨fun W D h hb => applied_any _ newS D _ W h g0 o1 hR.r1 hb⟩
  have HTA : Veil (∀ W D, AtD w.heap.size W vS1 D → Calls Try.prog 9 #[.pointer (some ⟨D, 0, none⟩), .int .u8 0, .int .u8 1] W fun r w' => r = .returned (.tuple #[.agg vEA.cells.toArray, .int .i64 0]) ∧ Below W.heap.size W w') := ⟨fun W D h => by
    have := h.take g1 0 1 (by omega)
    rw [tellT_ok hR.f2] at this
    exact this⟩
  have HWR : Veil (∀ W D, AtD w.heap.size W vS1 D → Calls Try.prog 10 #[.pointer (some ⟨D, 0, none⟩), .int .u8 1, .int .i64 0, .int .u8 (c : Int)] W fun r w' => r = .returned (.tuple #[.agg (vET (c : Int)).cells.toArray, .int .i64 0]) ∧ Below W.heap.size W w') := ⟨fun W D h => by
    have := h.write g1 1 0 (c : Int) (by omega) (by omega)
    rw [tellW_rev hR] at this
    exact this⟩
  have HCO : Veil (∀ W D, AtD w.heap.size W vS1 D → Calls Try.prog 11 #[.pointer (some ⟨D, 0, none⟩)] W fun r w' => ∃ D', r = .returned (.pointer (some ⟨D', 0, none⟩)) ∧ AtD W.heap.size w' vS1 D' ∧ Below W.heap.size W w') := ⟨fun W D h => copied_any _ vS1 D W h g1 hmd⟩
  have H1 : Veil (∀ W D1 D2 K B, TwoD B W vS1 vS1 D1 D2 K → B ≤ W.heap.size → Calls Try.prog 12 #[.pointer (some ⟨D1, 0, none⟩), .agg vEA.cells.toArray] W fun r w' => r = .returned (.int .i64 0) ∧ TwoD B w' vF1 vS1 D1 D2 K ∧ Below B W w') := ⟨fun W D1 D2 K B h hb => h.apply g1 oA hR.ra hb⟩
  have H2 : Veil (∀ W D1 D2 K B, TwoD B W vF1 vS1 D1 D2 K → B ≤ W.heap.size → Calls Try.prog 12 #[.pointer (some ⟨D1, 0, none⟩), .agg (vET (c : Int)).cells.toArray] W fun r w' => r = .returned (.int .i64 0) ∧ TwoD B w' (vF2 (c : Int)) vS1 D1 D2 K ∧ Below B W w') := ⟨fun W D1 D2 K B h hb => h.apply gF1 oT hR.rt hb⟩
  have H3 : Veil (∀ W D1 D2 K B, TwoD B W (vF2 (c : Int)) vS1 D1 D2 K → B ≤ W.heap.size → Calls Try.prog 12 #[.pointer (some ⟨D2, 0, none⟩), .agg (vET (c : Int)).cells.toArray] W fun r w' => r = .returned (.int .i64 0) ∧ TwoD B w' (vF2 (c : Int)) (vG1 (c : Int)) D1 D2 K ∧ Below B W w') := ⟨fun W D1 D2 K B h hb => (h.swap.apply g1 oT hR.rt2 hb).mono fun _ _ ⟨q1, q2, q3⟩ => ⟨q1, q2.swap, q3⟩⟩
  have H4 : Veil (∀ W D1 D2 K B, TwoD B W (vF2 (c : Int)) (vG1 (c : Int)) D1 D2 K → B ≤ W.heap.size → Calls Try.prog 12 #[.pointer (some ⟨D2, 0, none⟩), .agg vEA.cells.toArray] W fun r w' => r = .returned (.int .i64 0) ∧ TwoD B w' (vF2 (c : Int)) (vG2 (c : Int)) D1 D2 K ∧ Below B W w') := ⟨fun W D1 D2 K B h hb => (h.swap.apply gG1 oA hR.ra2 hb).mono fun _ _ ⟨q1, q2, q3⟩ => ⟨q1, q2.swap, q3⟩⟩
  have H5 : Veil (∀ W D1 D2 K B, TwoD B W (vF2 (c : Int)) (vG2 (c : Int)) D1 D2 K → B ≤ W.heap.size → Calls Try.prog 12 #[.pointer (some ⟨D1, 0, none⟩), .agg (vEL (c : Int)).cells.toArray] W fun r w' => r = .returned (.int .i64 0) ∧ TwoD B w' (vF3 (c : Int)) (vG2 (c : Int)) D1 D2 K ∧ Below B W w') := ⟨fun W D1 D2 K B h hb => h.apply gF2 oL hR.rl hb⟩
  have H6 : Veil (∀ W D1 D2 K B, TwoD B W (vF3 (c : Int)) (vG2 (c : Int)) D1 D2 K → B ≤ W.heap.size → Calls Try.prog 12 #[.pointer (some ⟨D2, 0, none⟩), .agg (vEL (c : Int)).cells.toArray] W fun r w' => r = .returned (.int .i64 0) ∧ TwoD B w' (vF3 (c : Int)) (vG3 (c : Int)) D1 D2 K ∧ Below B W w') := ⟨fun W D1 D2 K B h hb => (h.swap.apply gG2 oL hR.rl2 hb).mono fun _ _ ⟨q1, q2, q3⟩ => ⟨q1, q2.swap, q3⟩⟩
  have HVE : Veil (∀ W D1 D2 K B, TwoD B W (vF2 (c : Int)) (vG2 (c : Int)) D1 D2 K → Calls Try.prog 13 #[.pointer (some ⟨D1, 0, none⟩)] W fun r w' => r = .returned (.agg #[.int .u32 2, .int .u32 1, .int .u32 0, .int .u32 0, .int .u32 0, .int .u32 0, .int .u32 0, .int .u32 0]) ∧ Below W.heap.size W w') := ⟨fun W D1 D2 K B h => by
    have := h.fst.vector gF2
    rw [hR.sv] at this
    exact this⟩
  have HF : Veil (∀ W D1 D2 K B, TwoD B W (vF3 (c : Int)) (vG3 (c : Int)) D1 D2 K → (∀ b : Bool, Calls Try.prog 14 #[.pointer (some ⟨if b = true then D1 else D2, 0, none⟩), .agg #[.int .u8 1, .int .u32 1]] W fun r w' => r = .returned (.bool true) ∧ Below W.heap.size W w') ∧ (∀ b : Bool, Calls Try.prog 14 #[.pointer (some ⟨if b = true then D1 else D2, 0, none⟩), .agg #[.int .u8 1, .int .u32 2]] W fun r w' => r = .returned (.bool false) ∧ Below W.heap.size W w')) := ⟨fun W D1 D2 K B h => by
    have ok1 : okDF (1, 1) := ⟨⟨by decide, by decide⟩, ⟨by decide, by decide⟩⟩
    have ok2 : okDF (1, 2) := ⟨⟨by decide, by decide⟩, ⟨by decide, by decide⟩⟩
    refine ⟨fun b => ?_, fun b => ?_⟩
    · cases b
      · have := h.swap.fst.force gG3 (1, 1) ok1
        rw [decide_eq_true hR.t2] at this; exact this
      · have := h.fst.force gF3 (1, 1) ok1
        rw [decide_eq_true hR.t1] at this; exact this
    · cases b
      · have := h.swap.fst.force gG3 (1, 2) ok2
        rw [decide_eq_false hR.t4] at this; exact this
      · have := h.fst.force gF3 (1, 2) ok2
        rw [decide_eq_false hR.t3] at this; exact this⟩
  have HTX : Veil (∀ W D1 D2 K B, TwoD B W (vF3 (c : Int)) (vG3 (c : Int)) D1 D2 K → ∀ b : Bool, Calls Try.prog 15 #[.pointer (some ⟨if b = true then D1 else D2, 0, none⟩)] W fun r w' => ∃ tx tc, r = .returned (.slice tx 1 tc) ∧ Bytes w' tx 1 tc [(c : Int)] ∧ Below W.heap.size W w') := ⟨fun W D1 D2 K B h b => by
    have key : ∀ {st : Ds} {D : Nat}, AtD B W st D → GoodD st → textN st.N = [(c : Int)] → Calls Try.prog 15 #[.pointer (some ⟨D, 0, none⟩)] W fun r w' => ∃ tx tc, r = .returned (.slice tx 1 tc) ∧ Bytes w' tx 1 tc [(c : Int)] ∧ Below W.heap.size W w' := fun ha hg ht => by
      refine (ha.text hg).mono ?_
      rintro r w' ⟨v, h1, h2, h3⟩
      rw [ht] at h2
      obtain ⟨y, n, cc, rfl, hn⟩ := h2.isSlice
      obtain rfl : n = 1 := hn
      exact ⟨y, cc, h1, h2.bytes.2, h3⟩
    cases b
    · exact key h.swap.fst gG3 hR.x2
    · exact key h.fst gF3 hR.x1⟩
  obtain ⟨J, hJ⟩ : ∃ q, membersL (vF3 (c : Int)).B (vF3 (c : Int)).S = q := ⟨_, rfl⟩
  have hJ8 : J.length = 8 := by rw [← hJ]; exact membersL_len _ _
  have hJ1 : J[1]?.getD 0 = 0 := by
    have := hR.m2
    rw [hJ, List.getElem?_eq_getElem (by omega)] at this
    rw [List.getElem?_eq_getElem (by omega)]; exact this
  have HME : Veil (∀ W D1 D2 K B, TwoD B W (vF3 (c : Int)) (vG3 (c : Int)) D1 D2 K → ∀ b : Bool, Calls Try.prog 16 #[.pointer (some ⟨if b = true then D1 else D2, 0, none⟩)] W fun r w' => r = .returned (.agg (row .u8 J)) ∧ Below W.heap.size W w') := ⟨fun W D1 D2 K B h b => by
    cases b
    · have := h.swap.fst.members gG3
      rw [← hR.m1, hJ] at this; exact this
    · have := h.fst.members gF3
      rw [hJ] at this; exact this⟩
  have HLC : Veil ((vEL (c : Int)).cells = [.int .u8 1, .int .u32 2, .int .u32 2, .int .u32 1, .int .u32 0, .int .u32 0, .int .u32 0, .int .u32 0, .int .u32 0, .int .u32 0, .int .u8 1, .int .u8 0, .int .u32 0, .bool true, .int .u8 (c : Int), .int .u8 0, .int .u8 0]) := ⟨rfl⟩
  have HDT : Veil ((vET (c : Int)).cells.take 2 = [.int .u8 1, .int .u32 1]) := ⟨by rfl⟩
  have l1 : vE1.cells.length = 17 := aev_len _ o1.past
  have n1 : ∀ v ∈ vE1.cells, v.oneCell' = true := aev_one _
  have i1 : (Try.prog.info? 32).map (·.size) = some vE1.cells.length := by rw [l1]; kernel_rfl
  have lA : vEA.cells.length = 17 := aev_len _ oA.past
  have nA : ∀ v ∈ vEA.cells, v.oneCell' = true := aev_one _
  have iA : (Try.prog.info? 32).map (·.size) = some vEA.cells.length := by rw [lA]; kernel_rfl
  have lT : (vET (c : Int)).cells.length = 17 := aev_len _ oT.past
  have nT : ∀ v ∈ (vET (c : Int)).cells, v.oneCell' = true := aev_one _
  have iT : (Try.prog.info? 32).map (·.size) = some (vET (c : Int)).cells.length := by rw [lT]; kernel_rfl
  have lL : (vEL (c : Int)).cells.length = 17 := aev_len _ oL.past
  have nL : ∀ v ∈ (vEL (c : Int)).cells, v.oneCell' = true := aev_one _
  have iL : (Try.prog.info? 32).map (·.size) = some (vEL (c : Int)).cells.length := by rw [lL]; kernel_rfl
  generalize vE1.cells = C1 at HG1 HA1 l1 n1 i1
  generalize vEA.cells = CA at HTA H1 H4 lA nA iA
  generalize (vET (c : Int)).cells = CT at HWR H2 H3 lT nT iT HDT
  generalize (vEL (c : Int)).cells = CL at H5 H6 lL nL iL HLC
  have HZ : Veil (∀ (W : World) (C : List Value), CellsAt (W.alloc (.cells zC.toArray 32)) W.heap.size 32 zC ∧ Below W.heap.size W ((W.alloc (.cells zC.toArray 32)).setRow W.heap.size C.toArray)) := ⟨fun W C => ⟨CellsAt.new W 32 zC, below_setRow ((Below.refl _ _).alloc (Nat.le_refl _) _) (Nat.le_refl _) _⟩⟩
  unfold zC at HZ
  have uE := Try.underlying32
  have uD := Try.underlying26
  have i11 : (Try.prog.info? 26).map (·.size) = some [Value.int .u8 1, Value.int .u32 1].length := sizeDot
  have i12 : (Try.prog.info? 26).map (·.size) = some [Value.int .u8 1, Value.int .u32 2].length := sizeDot
  have hnew := AtD.new w
  clear hR g0 g1 o1 oA oT oL gF1 gF2 gG1 gG2 gF3 gG3 hmd hJ hc1 hc7
  go_enter Try.func3, Try.ntmps3
  go_upto_region 2 with (go_at_call 6; refine hnew.mono ?_; rintro z W ⟨D, rfl, hA, hB⟩; clear hnew)
  have hcl := HG1.out W D hA
  go_upto_region 3 with (first
    | (go_at_call 7; refine hcl.mono ?_; rintro z W1 ⟨rfl, hb1⟩; have hz1 := (HZ.out W1 C1).1; clear hcl)
    | (refine wpList_stv (cs := C1) rfl 32 _ _ rfl W1.heap.size rfl rfl hz1 i1 (by rw [l1]; rfl) n1 ?_))
  have hb2 := (HZ.out W1 C1).2
  have hz2 := hz1.setRow C1
  have hb12 := hb1.trans (hb2.mono hb1.size)
  refine forget (p := fun y => Code.wp _ _ _ _ y) (fun W2 => Below W.heap.size W W2 ∧ CellsAt W2 W1.heap.size 32 C1) ⟨hb12, hz2⟩ ?_
  generalize W1.heap.size = be
  clear hb1 hb2 hb12 hz1 hz2 HG1 W1
  rintro W2 ⟨hb2, hxbe⟩
  have hr2 := hxbe.wholeM
  have hB2 := hB.trans (hb2.mono hB.size)
  have hap := HA1.out W2 D (hA.far hb2) hB2.size
  clear hb2 hxbe hA hB HA1 W
  go_upto_region 5 with (first
    | (refine wpList_ldv rfl 32 _ rfl be 0 rfl C1 hr2 uE rfl i1 ?_)
    | (go_at_call 8; refine hap.mono ?_; rintro z W ⟨rfl, hA, hB3⟩; clear hap))
  have hB := hB2.trans hB3
  clear hB2 hB3 hr2 W2
  go_upto_region 6 with fail
  have hcl := HTA.out W D hA
  go_upto_region 7 with (first
    | (go_at_call 9; refine hcl.mono ?_; rintro z W1 ⟨rfl, hb1⟩; have hz1 := (HZ.out W1 CA).1; clear hcl)
    | (refine wpList_stv (cs := CA) rfl 32 _ _ rfl W1.heap.size rfl rfl hz1 iA (by rw [lA]; rfl) nA ?_))
  have hb2 := (HZ.out W1 CA).2
  have hz2 := hz1.setRow CA
  have hb12 := hb1.trans (hb2.mono hb1.size)
  refine forget (p := fun y => Code.wp _ _ _ _ y) (fun W2 => Below W.heap.size W W2 ∧ CellsAt W2 W1.heap.size 32 CA) ⟨hb12, hz2⟩ ?_
  generalize W1.heap.size = ba
  clear hb1 hb2 hb12 hz1 hz2 HTA W1
  rintro W2 ⟨hb2, hxba⟩
  replace hA := hA.far hb2
  replace hB := hB.trans (hb2.mono hB.size)
  clear hb2 W
  rename World => W
  have hcl := HWR.out W D hA
  go_upto_region 8 with (first
    | (go_at_call 10; refine hcl.mono ?_; rintro z W1 ⟨rfl, hb1⟩; have hz1 := (HZ.out W1 CT).1; clear hcl)
    | (refine wpList_stv (cs := CT) rfl 32 _ _ rfl W1.heap.size rfl rfl hz1 iT (by rw [lT]; rfl) nT ?_))
  have hb2 := (HZ.out W1 CT).2
  have hz2 := hz1.setRow CT
  have hb12 := hb1.trans (hb2.mono hb1.size)
  refine forget (p := fun y => Code.wp _ _ _ _ y) (fun W2 => Below W.heap.size W W2 ∧ CellsAt W2 W1.heap.size 32 CT) ⟨hb12, hz2⟩ ?_
  generalize W1.heap.size = bt
  clear hb1 hb2 hb12 hz1 hz2 HWR W1
  rintro W2 ⟨hb2, hxbt⟩
  replace hA := hA.far hb2
  replace hB := hB.trans (hb2.mono hB.size)
  replace hxba := hxba.farM hb2
  clear hb2 W
  rename World => W
  have hco := HCO.out W D hA
  go_upto_region 9 with (first
    | (go_at_call 11; refine hco.mono ?_; rintro z W3 ⟨D1, rfl, hA1, hb3⟩; have hcp := HCO.out W3 D (hA.far hb3); clear hco)
    | (go_at_call 11; refine hcp.mono ?_; rintro z W4 ⟨D2, rfl, hA2, hb4⟩; clear hcp))
  have hb34 := hb3.trans (hb4.mono hb3.size)
  have h2 := ((TwoD.made hA1 hb4 hA2 hb3.size (Nat.le_refl _)).keepLow (hxba.farM hb34) hxba.lt).keepLow (hxbt.farM hb34) hxbt.lt
  have hBB := hb34.size
  have HB4 : Veil (∀ W', Below W.heap.size W4 W' → Below w.heap.size w W' ∧ W.heap.size ≤ W'.heap.size) := ⟨fun W' hb => ⟨(hB.trans (hb34.mono hB.size)).trans (hb.mono hB.size), Nat.le_trans hBB hb.size⟩⟩
  generalize W.heap.size = BB at h2 hBB HB4
  clear hA hB hA1 hA2 hb3 hb4 hb34 hxba hxbt HCO W W3
  have ra := (h2.cells (x := (ba, CA)) (by simp)).wholeM
  have ha1 := H1.out W4 D1 D2 _ BB h2 hBB
  clear h2 H1
  go_upto_region 11 with (first
    | (refine wpList_ldgv (by kernel_rfl) 32 (.tmp 6) rfl ba 0 rfl CA ra uE rfl iA ?_)
    | (refine wpList_ldgv (by kernel_rfl) 32 (.tmp 8) rfl bt 0 rfl CT rt uE rfl iT ?_)
    | (refine wpList_ldgv (by kernel_rfl) 32 (.tmp 8) rfl bt 0 rfl CT ru uE rfl iT ?_)
    | (refine wpList_ldgv (by kernel_rfl) 32 (.tmp 6) rfl ba 0 rfl CA rb uE rfl iA ?_)
    | (go_at_call 12; refine ha1.mono ?_; rintro z W5 ⟨rfl, h5, hb5⟩; have ha2 := H2.out W5 D1 D2 _ BB h5 (Nat.le_trans hBB hb5.size); have rt := (h5.cells (x := (bt, CT)) (by simp)).wholeM; clear ha1 h5 H2 ra)
    | (go_at_call 12; refine ha2.mono ?_; rintro z W6 ⟨rfl, h6, hb6⟩; replace hb6 := hb5.trans hb6; have ha3 := H3.out W6 D1 D2 _ BB h6 (Nat.le_trans hBB hb6.size); have ru := (h6.cells (x := (bt, CT)) (by simp)).wholeM; clear ha2 h6 H3 rt hb5)
    | (go_at_call 12; refine ha3.mono ?_; rintro z W7 ⟨rfl, h7, hb7⟩; replace hb7 := hb6.trans hb7; have ha4 := H4.out W7 D1 D2 _ BB h7 (Nat.le_trans hBB hb7.size); have rb := (h7.cells (x := (ba, CA)) (by simp)).wholeM; clear ha3 h7 H4 ru hb6)
    | (go_at_call 12; refine ha4.mono ?_; rintro z W8 ⟨rfl, h8, hb8⟩; replace hb8 := hb7.trans hb8; have hve := HVE.out W8 D1 D2 _ BB h8; clear ha4 rb hb7))
  go_upto_region 12 with (first
    | (go_at_call 13; refine hve.mono ?_; rintro z W9 ⟨rfl, hb9⟩; have hz9 := (HZ.out W9 CL).1; clear hve)
    | (refine wpList_stv (cs := [.int .u8 1, .int .u32 2, .int .u32 2, .int .u32 1, .int .u32 0, .int .u32 0, .int .u32 0, .int .u32 0, .int .u32 0, .int .u32 0, .int .u8 1, .int .u8 0, .int .u32 0, .bool true, .int .u8 (c : Int), .int .u8 0, .int .u8 0]) rfl 32 _ _ rfl W9.heap.size rfl rfl hz9 (by rw [← HLC.out]; exact iL) rfl (by rw [← HLC.out]; exact nL) ?_))
  rw [← HLC.out]
  have hbA := (HZ.out W9 CL).2
  have hxL := hz9.setRow CL
  have hb9A := hb9.trans (hbA.mono hb9.size)
  have h9 := h8.keep hb9A hxL hb9.size
  have hb4A := hb8.trans (hb9A.mono (Nat.le_trans hBB hb8.size))
  refine forget (p := fun y => Code.wp _ _ _ _ y) (fun W => Below BB W4 W ∧ TwoD BB W (vF2 (c : Int)) (vG2 (c : Int)) D1 D2 ((W9.heap.size, CL) :: (bt, CT) :: (ba, CA) :: [])) ⟨hb4A, h9⟩ ?_
  generalize W9.heap.size = bl
  clear hbA hxL hb9A h9 hb4A hb9 hz9 h8 hb8 HZ HVE W5 W6 W7 W8 W9
  rintro W ⟨hb, h2⟩
  have hb0 : Below W.heap.size W W.drew := (Below.refl _ _).drew
  have hsz : BB ≤ W.heap.size := Nat.le_trans hBB hb.size
  refine wp_region_gateT (fun W : World => W.rangeAt bl 0 CL) (fun _ => True) 99 (by kernel_rfl) ?_
  have hT : (fun W : World => W.rangeAt bl 0 CL) W.drew := ((h2.far hb0).cells (x := (bl, CL)) (by simp)).wholeM
  have hS : (fun _ : World => True) W.drew := trivial
  refine wpAnyT_held (i := 0) (v := ?_) rfl (by kernel_rfl) (by kernel_rfl) (by kernel_rfl) (fun _ _ _ h => h) (by kernel_rfl) hT (fun _ => hS) (by kernel_rfl) ?_ ?_
  rotate_left
  · intro wx hSw; go_split_ands; go_simp; try with_reducible rfl
  simp only [Act.put, List.getElem_toArray, List.getElem_cons_succ, List.getElem_cons_zero, List.setIfInBounds_toArray, List.set_cons_zero, List.set_cons_succ]
  refine wpAnyT_load (i := 1) (dst := some 80) (ty := 32) (x := .tmp 12) (b := bl) (o := (0)) (cs := CL) (by kernel_rfl) (by kernel_rfl) (by kernel_rfl) (by kernel_rfl) (by kernel_rfl) (fun _ _ _ h => h) (by kernel_rfl) hT (fun _ => hS) (by kernel_rfl) (fun _ h => h) uE rfl iL ?_
  simp only [Act.put, List.getElem_toArray, List.getElem_cons_succ, List.getElem_cons_zero, List.setIfInBounds_toArray, List.set_cons_zero, List.set_cons_succ]
  refine wpAnyT_held (i := 3) (v := ?_) rfl (by kernel_rfl) (by kernel_rfl) (by kernel_rfl) (fun _ _ _ h => h) (by kernel_rfl) hT (fun _ => hS) (by kernel_rfl) ?_ ?_
  rotate_left
  · intro wx hSw; go_split_ands; go_simp; try with_reducible rfl
  simp only [Act.put, List.getElem_toArray, List.getElem_cons_succ, List.getElem_cons_zero, List.setIfInBounds_toArray, List.set_cons_zero, List.set_cons_succ]
  refine wpAnyT_load (i := 4) (dst := some 83) (ty := 32) (x := .tmp 12) (b := bl) (o := (0)) (cs := CL) (by kernel_rfl) (by kernel_rfl) (by kernel_rfl) (by kernel_rfl) (by kernel_rfl) (fun _ _ _ h => h) (by kernel_rfl) hT (fun _ => hS) (by kernel_rfl) (fun _ h => h) uE rfl iL ?_
  simp only [Act.put, List.getElem_toArray, List.getElem_cons_succ, List.getElem_cons_zero, List.setIfInBounds_toArray, List.set_cons_zero, List.set_cons_succ]
  refine wpAnyT_one (i := 2) rfl (by kernel_rfl) (by kernel_rfl) (fun K hK => ?_)
  refine wpx_call _ _ (by kernel_rfl) ((H5.out _ D1 D2 _ BB (h2.far hb0) hsz).mono ?_)
  rintro z W5 ⟨rfl, h5, hb5⟩
  refine ⟨_, rfl, ?_⟩
  have hb15 := (hb.trans (hb0.mono hsz)).trans hb5
  replace hT : (fun W : World => W.rangeAt bl 0 CL) W5 := (h5.cells (x := (bl, CL)) (by simp)).wholeM
  replace hS : (fun _ : World => True) W5 := trivial
  clear h2 hb0 hsz hb H5 hb5
  refine hK.out _ _ hT (fun _ => hS) ?_
  clear hK K
  try simp only [Act.put, List.getElem_toArray, List.getElem_cons_succ, List.getElem_cons_zero, List.setIfInBounds_toArray, List.set_cons_zero, List.set_cons_succ]
  refine wpAnyT_one (i := 5) rfl (by kernel_rfl) (by kernel_rfl) (fun K hK => ?_)
  refine wpx_call _ _ (by kernel_rfl) ((H6.out _ D1 D2 _ BB h5 (Nat.le_trans hBB hb15.size)).mono ?_)
  rintro z W6 ⟨rfl, h6, hb6⟩
  refine ⟨_, rfl, ?_⟩
  have hb16 := hb15.trans hb6
  replace hT : (fun W : World => W.rangeAt bl 0 CL) W6 := (h6.cells (x := (bl, CL)) (by simp)).wholeM
  replace hS : (fun _ : World => True) W6 := trivial
  clear h5 hb15 hb6 H6
  refine hK.out _ _ hT (fun _ => hS) ?_
  clear hK K
  try simp only [Act.put, List.getElem_toArray, List.getElem_cons_succ, List.getElem_cons_zero, List.setIfInBounds_toArray, List.set_cons_zero, List.set_cons_succ]
  refine wpAnyT_held (i := 6) (v := ?_) rfl (by kernel_rfl) (by kernel_rfl) (by kernel_rfl) (fun _ _ _ h => h) (by kernel_rfl) hT (fun _ => hS) (by kernel_rfl) ?_ ?_
  rotate_left
  · intro wx hSw; go_split_ands; go_simp; try with_reducible rfl
  simp only [Act.put, List.getElem_toArray, List.getElem_cons_succ, List.getElem_cons_zero, List.setIfInBounds_toArray, List.set_cons_zero, List.set_cons_succ]
  refine wpAnyT_held (i := 7) (v := ?_) rfl (by kernel_rfl) (by kernel_rfl) (by kernel_rfl) (fun _ _ _ h => h) (by kernel_rfl) hT (fun _ => hS) (by kernel_rfl) ?_ ?_
  rotate_left
  · intro wx hSw; go_split_ands; go_simp; try with_reducible rfl
  simp only [Act.put, List.getElem_toArray, List.getElem_cons_succ, List.getElem_cons_zero, List.setIfInBounds_toArray, List.set_cons_zero, List.set_cons_succ]
  refine wpAnyT_done (by kernel_rfl) ?_ _
  clear hT hS W W5
  have H2 := Veil.mk h6
  have HB6 : Veil (∀ W', Below W6.heap.size W6 W' → Below w.heap.size w W') := ⟨fun W' hb => (HB4.out W' (hb16.trans (hb.mono (Nat.le_trans hBB hb16.size)))).1⟩
  have HT : Veil (∀ W', Below W6.heap.size W6 W' → W'.rangeAt bt 0 [Value.int .u8 1, Value.int .u32 1] ∧ W'.rangeAt bl 0 [Value.int .u8 1, Value.int .u32 2]) := ⟨fun W' hb => by
    have q1 := ((H2.out.far hb).cells (x := (bt, CT)) (by simp)).range 0 2
    have q2 := ((H2.out.far hb).cells (x := (bl, CL)) (by simp)).range 0 2
    rw [List.drop_zero, HDT.out] at q1
    rw [List.drop_zero, HLC.out] at q2
    exact ⟨q1, q2⟩⟩
  have HCV : Veil (∀ x n cp W, Bytes W x n cp [(c : Int)] → (convert 43 9 (.slice x n cp)).run Try.prog W = .ok (.string (strOfNums [(c : Int)])) W) := ⟨fun x n cp W h => conv_bytes h⟩
  generalize strOfNums [(c : Int)] = SC at HCV
  have HNB : Veil (∀ W : World, Bytes (W.alloc (.cells (row .u8 [(c : Int)]) 5)) (some ⟨W.heap.size, 0, none⟩) 1 1 [(c : Int)] ∧ Below W.heap.size W (W.alloc (.cells (row .u8 [(c : Int)]) 5))) := ⟨fun W => ⟨(Holds.new W .u8 5 [(c : Int)]).bytes rfl (by simp), (Below.refl _ _).alloc (Nat.le_refl _) _⟩⟩
  obtain ⟨iu, hiu, huz, hus, -⟩ := info_parts infoU8
  have heq : ∀ wx, (Op.equalIn 10000 45 (.agg (row .u8 J)) (.agg (row .u8 J))).run Try.prog wx = .ok true wx := fun wx => by
    have := run_equalIn_rows (P := Try.prog) wx 9998 (t := 45) .u8 J J Try.underlying45 Try.underlying30 (by kernel_rfl) (by kernel_rfl) hJ8 hJ8
    rw [show (J == J) = true by simp] at this
    exact this
  have hix : ∀ wx, (Instr.index 45 (.agg (row .u8 J)) (.int .i64 1)).run Try.prog wx = .ok (.int .u8 0) wx := fun wx => by
    have := run_index_row (P := Try.prog) wx 45 30 8 .u8 J 1 Try.underlying45 Try.underlying30 (by kernel_rfl) hJ8 (by decide)
    rw [hJ1] at this
    exact this
  generalize hAJ : row .u8 J = AJ at HME heq hix
  clear h6 hb16 HB4 HLC HDT hAJ hJ8 hJ1 lA lT lL nA nT nL l1 n1 i1 iA iT iL
  have hbV : Below W6.heap.size W6 W6.drew := (Below.refl _ _).drew
  go_upto_region 13 with fail
  refine wp_region_gateT (fun W : World => W.rangeAt bt 0 [Value.int .u8 1, Value.int .u32 1] ∧ W.rangeAt bl 0 [Value.int .u8 1, Value.int .u32 2]) (fun _ => True) 99 (by kernel_rfl) ?_
  have hT : (fun W : World => W.rangeAt bt 0 [Value.int .u8 1, Value.int .u32 1] ∧ W.rangeAt bl 0 [Value.int .u8 1, Value.int .u32 2]) W6.drew := HT.out _ hbV
  have hS : (fun _ : World => True) W6.drew := trivial
  refine wpAnyT_held (i := 0) (v := ?_) rfl (by kernel_rfl) (by kernel_rfl) (by kernel_rfl) (fun _ _ _ h => h) (by kernel_rfl) hT (fun _ => hS) (by kernel_rfl) ?_ ?_
  rotate_left
  · intro wx hSw; go_split_ands; go_simp; try with_reducible rfl
  simp only [Act.put, List.getElem_toArray, List.getElem_cons_succ, List.getElem_cons_zero, List.setIfInBounds_toArray, List.set_cons_zero, List.set_cons_succ]
  refine wpAnyT_held (i := 1) (v := ?_) rfl (by kernel_rfl) (by kernel_rfl) (by kernel_rfl) (fun _ _ _ h => h) (by kernel_rfl) hT (fun _ => hS) (by kernel_rfl) ?_ ?_
  rotate_left
  · intro wx hSw; go_split_ands; go_simp; try with_reducible rfl
  simp only [Act.put, List.getElem_toArray, List.getElem_cons_succ, List.getElem_cons_zero, List.setIfInBounds_toArray, List.set_cons_zero, List.set_cons_succ]
  refine wpAnyT_held (i := 2) (v := ?_) rfl (by kernel_rfl) (by kernel_rfl) (by kernel_rfl) (fun _ _ _ h => h) (by kernel_rfl) hT (fun _ => hS) (by kernel_rfl) ?_ ?_
  rotate_left
  · intro wx hSw; go_split_ands; go_simp; try with_reducible rfl
  simp only [Act.put, List.getElem_toArray, List.getElem_cons_succ, List.getElem_cons_zero, List.setIfInBounds_toArray, List.set_cons_zero, List.set_cons_succ]
  refine wpAnyT_held (i := 3) (v := ?_) rfl (by kernel_rfl) (by kernel_rfl) (by kernel_rfl) (fun _ _ _ h => h) (by kernel_rfl) hT (fun _ => hS) (by kernel_rfl) ?_ ?_
  rotate_left
  · intro wx hSw; go_split_ands; go_simp; try with_reducible rfl
  simp only [Act.put, List.getElem_toArray, List.getElem_cons_succ, List.getElem_cons_zero, List.setIfInBounds_toArray, List.set_cons_zero, List.set_cons_succ]
  refine wpAnyT_held (i := 4) (v := ?_) rfl (by kernel_rfl) (by kernel_rfl) (by kernel_rfl) (fun _ _ _ h => h) (by kernel_rfl) hT (fun _ => hS) (by kernel_rfl) ?_ ?_
  rotate_left
  · intro wx hSw; go_split_ands; go_simp; try with_reducible rfl
  simp only [Act.put, List.getElem_toArray, List.getElem_cons_succ, List.getElem_cons_zero, List.setIfInBounds_toArray, List.set_cons_zero, List.set_cons_succ]
  refine wpAnyT_held (i := 5) (v := ?_) rfl (by kernel_rfl) (by kernel_rfl) (by kernel_rfl) (fun _ _ _ h => h) (by kernel_rfl) hT (fun _ => hS) (by kernel_rfl) ?_ ?_
  rotate_left
  · intro wx hSw; go_split_ands; go_simp; try with_reducible rfl
  simp only [Act.put, List.getElem_toArray, List.getElem_cons_succ, List.getElem_cons_zero, List.setIfInBounds_toArray, List.set_cons_zero, List.set_cons_succ]
  refine wpAnyT_held (i := 6) (v := ?_) rfl (by kernel_rfl) (by kernel_rfl) (by kernel_rfl) (fun _ _ _ h => h) (by kernel_rfl) hT (fun _ => hS) (by kernel_rfl) ?_ ?_
  rotate_left
  · intro wx hSw; go_split_ands; go_simp; try with_reducible rfl
  simp only [Act.put, List.getElem_toArray, List.getElem_cons_succ, List.getElem_cons_zero, List.setIfInBounds_toArray, List.set_cons_zero, List.set_cons_succ]
  refine wpAnyT_held (i := 7) (v := ?_) rfl (by kernel_rfl) (by kernel_rfl) (by kernel_rfl) (fun _ _ _ h => h) (by kernel_rfl) hT (fun _ => hS) (by kernel_rfl) ?_ ?_
  rotate_left
  · intro wx hSw; go_split_ands; go_simp; try with_reducible rfl
  simp only [Act.put, List.getElem_toArray, List.getElem_cons_succ, List.getElem_cons_zero, List.setIfInBounds_toArray, List.set_cons_zero, List.set_cons_succ]
  refine wpAnyT_held (i := 8) (v := ?_) rfl (by kernel_rfl) (by kernel_rfl) (by kernel_rfl) (fun _ _ _ h => h) (by kernel_rfl) hT (fun _ => hS) (by kernel_rfl) ?_ ?_
  rotate_left
  · intro wx hSw; go_split_ands; go_simp; try with_reducible rfl
  simp only [Act.put, List.getElem_toArray, List.getElem_cons_succ, List.getElem_cons_zero, List.setIfInBounds_toArray, List.set_cons_zero, List.set_cons_succ]
  refine wpAnyT_load (i := 9) (dst := some 94) (ty := 26) (x := .tmp 93) (b := bt) (o := (0)) (cs := [Value.int .u8 1, Value.int .u32 1]) (by kernel_rfl) (by kernel_rfl) (by kernel_rfl) (by kernel_rfl) (by kernel_rfl) (fun _ _ _ h => h) (by kernel_rfl) hT (fun _ => hS) (by kernel_rfl) (fun _ h => h.1) uD rfl i11 ?_
  simp only [Act.put, List.getElem_toArray, List.getElem_cons_succ, List.getElem_cons_zero, List.setIfInBounds_toArray, List.set_cons_zero, List.set_cons_succ]
  refine wpAnyT_one (i := 10) rfl (by kernel_rfl) (by kernel_rfl) (fun K hK => ?_)
  refine wpx_call _ _ (by kernel_rfl) (((HF.out _ D1 D2 _ BB (H2.out.far hbV)).1 true).mono ?_)
  rintro z V1 ⟨rfl, hbn⟩
  refine ⟨_, rfl, ?_⟩
  replace hbV := hbV.trans (hbn.mono hbV.size)
  clear hbn
  replace hT : (fun W : World => W.rangeAt bt 0 [Value.int .u8 1, Value.int .u32 1] ∧ W.rangeAt bl 0 [Value.int .u8 1, Value.int .u32 2]) V1 := HT.out V1 hbV
  replace hS : (fun _ : World => True) V1 := trivial
  refine hK.out _ _ hT (fun _ => hS) ?_
  clear hK K
  try simp only [Act.put, List.getElem_toArray, List.getElem_cons_succ, List.getElem_cons_zero, List.setIfInBounds_toArray, List.set_cons_zero, List.set_cons_succ]
  refine wpAnyT_held (i := 11) (v := ?_) rfl (by kernel_rfl) (by kernel_rfl) (by kernel_rfl) (fun _ _ _ h => h) (by kernel_rfl) hT (fun _ => hS) (by kernel_rfl) ?_ ?_
  rotate_left
  · intro wx hSw; go_split_ands; go_simp; try with_reducible rfl
  simp only [Act.put, List.getElem_toArray, List.getElem_cons_succ, List.getElem_cons_zero, List.setIfInBounds_toArray, List.set_cons_zero, List.set_cons_succ]
  refine wpAnyT_held (i := 12) (v := ?_) rfl (by kernel_rfl) (by kernel_rfl) (by kernel_rfl) (fun _ _ _ h => h) (by kernel_rfl) hT (fun _ => hS) (by kernel_rfl) ?_ ?_
  rotate_left
  · intro wx hSw; go_split_ands; go_simp; try with_reducible rfl
  simp only [Act.put, List.getElem_toArray, List.getElem_cons_succ, List.getElem_cons_zero, List.setIfInBounds_toArray, List.set_cons_zero, List.set_cons_succ]
  refine wpAnyT_held (i := 13) (v := ?_) rfl (by kernel_rfl) (by kernel_rfl) (by kernel_rfl) (fun _ _ _ h => h) (by kernel_rfl) hT (fun _ => hS) (by kernel_rfl) ?_ ?_
  rotate_left
  · intro wx hSw; go_split_ands; go_simp; try with_reducible rfl
  simp only [Act.put, List.getElem_toArray, List.getElem_cons_succ, List.getElem_cons_zero, List.setIfInBounds_toArray, List.set_cons_zero, List.set_cons_succ]
  refine wpAnyT_held (i := 14) (v := ?_) rfl (by kernel_rfl) (by kernel_rfl) (by kernel_rfl) (fun _ _ _ h => h) (by kernel_rfl) hT (fun _ => hS) (by kernel_rfl) ?_ ?_
  rotate_left
  · intro wx hSw; go_split_ands; go_simp; try with_reducible rfl
  simp only [Act.put, List.getElem_toArray, List.getElem_cons_succ, List.getElem_cons_zero, List.setIfInBounds_toArray, List.set_cons_zero, List.set_cons_succ]
  refine wpAnyT_load (i := 15) (dst := some 100) (ty := 26) (x := .tmp 99) (b := bt) (o := (0)) (cs := [Value.int .u8 1, Value.int .u32 1]) (by kernel_rfl) (by kernel_rfl) (by kernel_rfl) (by kernel_rfl) (by kernel_rfl) (fun _ _ _ h => h) (by kernel_rfl) hT (fun _ => hS) (by kernel_rfl) (fun _ h => h.1) uD rfl i11 ?_
  simp only [Act.put, List.getElem_toArray, List.getElem_cons_succ, List.getElem_cons_zero, List.setIfInBounds_toArray, List.set_cons_zero, List.set_cons_succ]
  refine wpAnyT_one (i := 16) rfl (by kernel_rfl) (by kernel_rfl) (fun K hK => ?_)
  refine wpx_call _ _ (by kernel_rfl) (((HF.out _ D1 D2 _ BB (H2.out.far hbV)).1 false).mono ?_)
  rintro z V2 ⟨rfl, hbn⟩
  refine ⟨_, rfl, ?_⟩
  replace hbV := hbV.trans (hbn.mono hbV.size)
  clear hbn
  replace hT : (fun W : World => W.rangeAt bt 0 [Value.int .u8 1, Value.int .u32 1] ∧ W.rangeAt bl 0 [Value.int .u8 1, Value.int .u32 2]) V2 := HT.out V2 hbV
  replace hS : (fun _ : World => True) V2 := trivial
  refine hK.out _ _ hT (fun _ => hS) ?_
  clear hK K
  try simp only [Act.put, List.getElem_toArray, List.getElem_cons_succ, List.getElem_cons_zero, List.setIfInBounds_toArray, List.set_cons_zero, List.set_cons_succ]
  refine wpAnyT_held (i := 17) (v := ?_) rfl (by kernel_rfl) (by kernel_rfl) (by kernel_rfl) (fun _ _ _ h => h) (by kernel_rfl) hT (fun _ => hS) (by kernel_rfl) ?_ ?_
  rotate_left
  · intro wx hSw; go_split_ands; go_simp; try with_reducible rfl
  simp only [Act.put, List.getElem_toArray, List.getElem_cons_succ, List.getElem_cons_zero, List.setIfInBounds_toArray, List.set_cons_zero, List.set_cons_succ]
  refine wpAnyT_held (i := 18) (v := ?_) rfl (by kernel_rfl) (by kernel_rfl) (by kernel_rfl) (fun _ _ _ h => h) (by kernel_rfl) hT (fun _ => hS) (by kernel_rfl) ?_ ?_
  rotate_left
  · intro wx hSw; go_split_ands; go_simp; try with_reducible rfl
  simp only [Act.put, List.getElem_toArray, List.getElem_cons_succ, List.getElem_cons_zero, List.setIfInBounds_toArray, List.set_cons_zero, List.set_cons_succ]
  refine wpAnyT_held (i := 19) (v := ?_) rfl (by kernel_rfl) (by kernel_rfl) (by kernel_rfl) (fun _ _ _ h => h) (by kernel_rfl) hT (fun _ => hS) (by kernel_rfl) ?_ ?_
  rotate_left
  · intro wx hSw; go_split_ands; go_simp; try with_reducible rfl
  simp only [Act.put, List.getElem_toArray, List.getElem_cons_succ, List.getElem_cons_zero, List.setIfInBounds_toArray, List.set_cons_zero, List.set_cons_succ]
  refine wpAnyT_held (i := 20) (v := ?_) rfl (by kernel_rfl) (by kernel_rfl) (by kernel_rfl) (fun _ _ _ h => h) (by kernel_rfl) hT (fun _ => hS) (by kernel_rfl) ?_ ?_
  rotate_left
  · intro wx hSw; go_split_ands; go_simp; try with_reducible rfl
  simp only [Act.put, List.getElem_toArray, List.getElem_cons_succ, List.getElem_cons_zero, List.setIfInBounds_toArray, List.set_cons_zero, List.set_cons_succ]
  refine wpAnyT_load (i := 21) (dst := some 106) (ty := 26) (x := .tmp 105) (b := bl) (o := (0)) (cs := [Value.int .u8 1, Value.int .u32 2]) (by kernel_rfl) (by kernel_rfl) (by kernel_rfl) (by kernel_rfl) (by kernel_rfl) (fun _ _ _ h => h) (by kernel_rfl) hT (fun _ => hS) (by kernel_rfl) (fun _ h => h.2) uD rfl i12 ?_
  simp only [Act.put, List.getElem_toArray, List.getElem_cons_succ, List.getElem_cons_zero, List.setIfInBounds_toArray, List.set_cons_zero, List.set_cons_succ]
  refine wpAnyT_one (i := 22) rfl (by kernel_rfl) (by kernel_rfl) (fun K hK => ?_)
  refine wpx_call _ _ (by kernel_rfl) (((HF.out _ D1 D2 _ BB (H2.out.far hbV)).2 true).mono ?_)
  rintro z V3 ⟨rfl, hbn⟩
  refine ⟨_, rfl, ?_⟩
  replace hbV := hbV.trans (hbn.mono hbV.size)
  clear hbn
  replace hT : (fun W : World => W.rangeAt bt 0 [Value.int .u8 1, Value.int .u32 1] ∧ W.rangeAt bl 0 [Value.int .u8 1, Value.int .u32 2]) V3 := HT.out V3 hbV
  replace hS : (fun _ : World => True) V3 := trivial
  refine hK.out _ _ hT (fun _ => hS) ?_
  clear hK K
  try simp only [Act.put, List.getElem_toArray, List.getElem_cons_succ, List.getElem_cons_zero, List.setIfInBounds_toArray, List.set_cons_zero, List.set_cons_succ]
  refine wpAnyT_held (i := 23) (v := ?_) rfl (by kernel_rfl) (by kernel_rfl) (by kernel_rfl) (fun _ _ _ h => h) (by kernel_rfl) hT (fun _ => hS) (by kernel_rfl) ?_ ?_
  rotate_left
  · intro wx hSw; go_split_ands; go_simp; try with_reducible rfl
  simp only [Act.put, List.getElem_toArray, List.getElem_cons_succ, List.getElem_cons_zero, List.setIfInBounds_toArray, List.set_cons_zero, List.set_cons_succ]
  refine wpAnyT_held (i := 24) (v := ?_) rfl (by kernel_rfl) (by kernel_rfl) (by kernel_rfl) (fun _ _ _ h => h) (by kernel_rfl) hT (fun _ => hS) (by kernel_rfl) ?_ ?_
  rotate_left
  · intro wx hSw; go_split_ands; go_simp; try with_reducible rfl
  simp only [Act.put, List.getElem_toArray, List.getElem_cons_succ, List.getElem_cons_zero, List.setIfInBounds_toArray, List.set_cons_zero, List.set_cons_succ]
  refine wpAnyT_held (i := 25) (v := ?_) rfl (by kernel_rfl) (by kernel_rfl) (by kernel_rfl) (fun _ _ _ h => h) (by kernel_rfl) hT (fun _ => hS) (by kernel_rfl) ?_ ?_
  rotate_left
  · intro wx hSw; go_split_ands; go_simp; try with_reducible rfl
  simp only [Act.put, List.getElem_toArray, List.getElem_cons_succ, List.getElem_cons_zero, List.setIfInBounds_toArray, List.set_cons_zero, List.set_cons_succ]
  refine wpAnyT_held (i := 26) (v := ?_) rfl (by kernel_rfl) (by kernel_rfl) (by kernel_rfl) (fun _ _ _ h => h) (by kernel_rfl) hT (fun _ => hS) (by kernel_rfl) ?_ ?_
  rotate_left
  · intro wx hSw; go_split_ands; go_simp; try with_reducible rfl
  simp only [Act.put, List.getElem_toArray, List.getElem_cons_succ, List.getElem_cons_zero, List.setIfInBounds_toArray, List.set_cons_zero, List.set_cons_succ]
  refine wpAnyT_held (i := 27) (v := ?_) rfl (by kernel_rfl) (by kernel_rfl) (by kernel_rfl) (fun _ _ _ h => h) (by kernel_rfl) hT (fun _ => hS) (by kernel_rfl) ?_ ?_
  rotate_left
  · intro wx hSw; go_split_ands; go_simp; try with_reducible rfl
  simp only [Act.put, List.getElem_toArray, List.getElem_cons_succ, List.getElem_cons_zero, List.setIfInBounds_toArray, List.set_cons_zero, List.set_cons_succ]
  refine wpAnyT_load (i := 28) (dst := some 113) (ty := 26) (x := .tmp 112) (b := bl) (o := (0)) (cs := [Value.int .u8 1, Value.int .u32 2]) (by kernel_rfl) (by kernel_rfl) (by kernel_rfl) (by kernel_rfl) (by kernel_rfl) (fun _ _ _ h => h) (by kernel_rfl) hT (fun _ => hS) (by kernel_rfl) (fun _ h => h.2) uD rfl i12 ?_
  simp only [Act.put, List.getElem_toArray, List.getElem_cons_succ, List.getElem_cons_zero, List.setIfInBounds_toArray, List.set_cons_zero, List.set_cons_succ]
  refine wpAnyT_one (i := 29) rfl (by kernel_rfl) (by kernel_rfl) (fun K hK => ?_)
  refine wpx_call _ _ (by kernel_rfl) (((HF.out _ D1 D2 _ BB (H2.out.far hbV)).2 false).mono ?_)
  rintro z V4 ⟨rfl, hbn⟩
  refine ⟨_, rfl, ?_⟩
  replace hbV := hbV.trans (hbn.mono hbV.size)
  clear hbn
  replace hT : (fun W : World => W.rangeAt bt 0 [Value.int .u8 1, Value.int .u32 1] ∧ W.rangeAt bl 0 [Value.int .u8 1, Value.int .u32 2]) V4 := HT.out V4 hbV
  replace hS : (fun _ : World => True) V4 := trivial
  refine hK.out _ _ hT (fun _ => hS) ?_
  clear hK K
  try simp only [Act.put, List.getElem_toArray, List.getElem_cons_succ, List.getElem_cons_zero, List.setIfInBounds_toArray, List.set_cons_zero, List.set_cons_succ]
  refine wpAnyT_held (i := 30) (v := ?_) rfl (by kernel_rfl) (by kernel_rfl) (by kernel_rfl) (fun _ _ _ h => h) (by kernel_rfl) hT (fun _ => hS) (by kernel_rfl) ?_ ?_
  rotate_left
  · intro wx hSw; go_split_ands; go_simp; try with_reducible rfl
  simp only [Act.put, List.getElem_toArray, List.getElem_cons_succ, List.getElem_cons_zero, List.setIfInBounds_toArray, List.set_cons_zero, List.set_cons_succ]
  refine wpAnyT_held (i := 31) (v := ?_) rfl (by kernel_rfl) (by kernel_rfl) (by kernel_rfl) (fun _ _ _ h => h) (by kernel_rfl) hT (fun _ => hS) (by kernel_rfl) ?_ ?_
  rotate_left
  · intro wx hSw; go_split_ands; go_simp; try with_reducible rfl
  simp only [Act.put, List.getElem_toArray, List.getElem_cons_succ, List.getElem_cons_zero, List.setIfInBounds_toArray, List.set_cons_zero, List.set_cons_succ]
  refine wpAnyT_held (i := 32) (v := ?_) rfl (by kernel_rfl) (by kernel_rfl) (by kernel_rfl) (fun _ _ _ h => h) (by kernel_rfl) hT (fun _ => hS) (by kernel_rfl) ?_ ?_
  rotate_left
  · intro wx hSw; go_split_ands; go_simp; try with_reducible rfl
  simp only [Act.put, List.getElem_toArray, List.getElem_cons_succ, List.getElem_cons_zero, List.setIfInBounds_toArray, List.set_cons_zero, List.set_cons_succ]
  refine wpAnyT_held (i := 33) (v := ?_) rfl (by kernel_rfl) (by kernel_rfl) (by kernel_rfl) (fun _ _ _ h => h) (by kernel_rfl) hT (fun _ => hS) (by kernel_rfl) ?_ ?_
  rotate_left
  · intro wx hSw; go_split_ands; go_simp; try with_reducible rfl
  simp only [Act.put, List.getElem_toArray, List.getElem_cons_succ, List.getElem_cons_zero, List.setIfInBounds_toArray, List.set_cons_zero, List.set_cons_succ]
  refine wpAnyT_held (i := 36) (v := ?_) rfl (by kernel_rfl) (by kernel_rfl) (by kernel_rfl) (fun _ _ _ h => h) (by kernel_rfl) hT (fun _ => hS) (by kernel_rfl) ?_ ?_
  rotate_left
  · intro wx hSw; go_split_ands; go_simp; try with_reducible rfl
  simp only [Act.put, List.getElem_toArray, List.getElem_cons_succ, List.getElem_cons_zero, List.setIfInBounds_toArray, List.set_cons_zero, List.set_cons_succ]
  refine wpAnyT_two (i := 34) (j := 37) rfl rfl (by kernel_rfl) (by kernel_rfl) (by kernel_rfl) (fun K hK => ?_) (fun K hK => ?_)
  · have hmk := trivial
    refine wpx_call _ _ (by kernel_rfl) ((HTX.out _ D1 D2 _ BB (H2.out.far hbV) true).mono ?_)
    rintro z V5 ⟨txa, tca, rfl, hya, hbn⟩
    refine ⟨_, rfl, ?_⟩
    have HYa := Veil.mk hya
    clear hya
    replace hbV := hbV.trans (hbn.mono hbV.size)
    clear hbn
    replace hT : (fun W : World => W.rangeAt bt 0 [Value.int .u8 1, Value.int .u32 1] ∧ W.rangeAt bl 0 [Value.int .u8 1, Value.int .u32 2]) V5 := HT.out V5 hbV
    replace hS : (fun _ : World => True) V5 := trivial
    refine hK.out _ _ hT (fun _ => hS) ?_
    clear hK K
    try simp only [Act.put, List.getElem_toArray, List.getElem_cons_succ, List.getElem_cons_zero, List.setIfInBounds_toArray, List.set_cons_zero, List.set_cons_succ]
    refine wpAnyT_more (T' := fun W : World => W.rangeAt bt 0 [Value.int .u8 1, Value.int .u32 1] ∧ W.rangeAt bl 0 [Value.int .u8 1, Value.int .u32 2] ∧ (convert 43 9 (.slice txa 1 tca)).run Try.prog W = .ok (.string SC) W) (fun _ h => ⟨h.1, h.2.1⟩) _ _ _ _ ?_
    replace hT : (fun W : World => W.rangeAt bt 0 [Value.int .u8 1, Value.int .u32 1] ∧ W.rangeAt bl 0 [Value.int .u8 1, Value.int .u32 2] ∧ (convert 43 9 (.slice txa 1 tca)).run Try.prog W = .ok (.string SC) W) V5 := ⟨(HT.out V5 hbV).1, (HT.out V5 hbV).2, HCV.out _ _ _ _ HYa.out⟩
    refine wpAnyT_held (i := 35) (v := ?_) rfl (by kernel_rfl) (by kernel_rfl) (by kernel_rfl) (fun _ _ _ h => h) (by kernel_rfl) hT (fun _ => hS) (by kernel_rfl) ?_ ?_
    rotate_left
    · intro wx hSw; go_split_ands; go_simp; try with_reducible rfl
    simp only [Act.put, List.getElem_toArray, List.getElem_cons_succ, List.getElem_cons_zero, List.setIfInBounds_toArray, List.set_cons_zero, List.set_cons_succ]
    refine wpAnyT_one (i := 37) rfl (by kernel_rfl) (by kernel_rfl) (fun K hK => ?_)
    refine wp_buildSlice 43 5 1 _ rfl (row .u8 [(c : Int)]) iu _ Try.underlying43 hiu huz (by rw [hus]; decide) (by rw [hus]; decide) (by rw [hus]; kernel_rfl) ?_
    have hbn := (HNB.out V5).2
    have HXa := Veil.mk (HNB.out V5).1
    have HYaba := Veil.mk (HYa.out.below hbn)
    replace hbV := hbV.trans (hbn.mono hbV.size)
    clear hbn
    replace hT : (fun W : World => W.rangeAt bt 0 [Value.int .u8 1, Value.int .u32 1] ∧ W.rangeAt bl 0 [Value.int .u8 1, Value.int .u32 2] ∧ (convert 43 9 (.slice txa 1 tca)).run Try.prog W = .ok (.string SC) W) (V5.alloc (.cells (row .u8 [(c : Int)]) 5)) := ⟨(HT.out (V5.alloc (.cells (row .u8 [(c : Int)]) 5)) hbV).1, (HT.out (V5.alloc (.cells (row .u8 [(c : Int)]) 5)) hbV).2, HCV.out _ _ _ _ HYaba.out⟩
    replace hS : (fun _ : World => True) (V5.alloc (.cells (row .u8 [(c : Int)]) 5)) := trivial
    refine hK.out _ _ hT (fun _ => hS) ?_
    clear hK K
    try simp only [Act.put, List.getElem_toArray, List.getElem_cons_succ, List.getElem_cons_zero, List.setIfInBounds_toArray, List.set_cons_zero, List.set_cons_succ]
    refine wpAnyT_more (T' := fun W : World => W.rangeAt bt 0 [Value.int .u8 1, Value.int .u32 1] ∧ W.rangeAt bl 0 [Value.int .u8 1, Value.int .u32 2] ∧ (convert 43 9 (.slice txa 1 tca)).run Try.prog W = .ok (.string SC) W ∧ (convert 43 9 (.slice (some ⟨V5.heap.size, 0, none⟩) 1 1)).run Try.prog W = .ok (.string SC) W) (fun _ h => ⟨h.1, h.2.1, h.2.2.1⟩) _ _ _ _ ?_
    replace hT : (fun W : World => W.rangeAt bt 0 [Value.int .u8 1, Value.int .u32 1] ∧ W.rangeAt bl 0 [Value.int .u8 1, Value.int .u32 2] ∧ (convert 43 9 (.slice txa 1 tca)).run Try.prog W = .ok (.string SC) W ∧ (convert 43 9 (.slice (some ⟨V5.heap.size, 0, none⟩) 1 1)).run Try.prog W = .ok (.string SC) W) (V5.alloc (.cells (row .u8 [(c : Int)]) 5)) := ⟨(HT.out (V5.alloc (.cells (row .u8 [(c : Int)]) 5)) hbV).1, (HT.out (V5.alloc (.cells (row .u8 [(c : Int)]) 5)) hbV).2, HCV.out _ _ _ _ HYaba.out, HCV.out _ _ _ _ HXa.out⟩
    refine wpAnyT_held (i := 38) (v := ?_) rfl (by kernel_rfl) (by kernel_rfl) (by kernel_rfl) (fun _ _ _ h => h) (by kernel_rfl) hT (fun _ => hS) (by kernel_rfl) ?_ ?_
    rotate_left
    · intro wx hSw; go_split_ands; go_simp; try with_reducible rfl
    simp only [Act.put, List.getElem_toArray, List.getElem_cons_succ, List.getElem_cons_zero, List.setIfInBounds_toArray, List.set_cons_zero, List.set_cons_succ]
    refine wpAnyT_held (i := 39) (v := .bool true) rfl (by kernel_rfl) (by kernel_rfl) (by kernel_rfl) (fun _ _ _ h => h) (by kernel_rfl) hT (fun _ => hS) (by kernel_rfl) ?_ ?_
    · intro wx hSw; go_split_ands; go_simp
    simp only [Act.put, List.getElem_toArray, List.getElem_cons_succ, List.getElem_cons_zero, List.setIfInBounds_toArray, List.set_cons_zero, List.set_cons_succ]
    generalize (V5.alloc (.cells (row .u8 [(c : Int)]) 5)) = Ua at hbV hT hS HYaba HXa ⊢
    refine wpAnyT_held (i := 40) (v := ?_) rfl (by kernel_rfl) (by kernel_rfl) (by kernel_rfl) (fun _ _ _ h => h) (by kernel_rfl) hT (fun _ => hS) (by kernel_rfl) ?_ ?_
    rotate_left
    · intro wx hSw; go_split_ands; go_simp; try with_reducible rfl
    simp only [Act.put, List.getElem_toArray, List.getElem_cons_succ, List.getElem_cons_zero, List.setIfInBounds_toArray, List.set_cons_zero, List.set_cons_succ]
    refine wpAnyT_held (i := 41) (v := ?_) rfl (by kernel_rfl) (by kernel_rfl) (by kernel_rfl) (fun _ _ _ h => h) (by kernel_rfl) hT (fun _ => hS) (by kernel_rfl) ?_ ?_
    rotate_left
    · intro wx hSw; go_split_ands; go_simp; try with_reducible rfl
    simp only [Act.put, List.getElem_toArray, List.getElem_cons_succ, List.getElem_cons_zero, List.setIfInBounds_toArray, List.set_cons_zero, List.set_cons_succ]
    refine wpAnyT_held (i := 42) (v := ?_) rfl (by kernel_rfl) (by kernel_rfl) (by kernel_rfl) (fun _ _ _ h => h) (by kernel_rfl) hT (fun _ => hS) (by kernel_rfl) ?_ ?_
    rotate_left
    · intro wx hSw; go_split_ands; go_simp; try with_reducible rfl
    simp only [Act.put, List.getElem_toArray, List.getElem_cons_succ, List.getElem_cons_zero, List.setIfInBounds_toArray, List.set_cons_zero, List.set_cons_succ]
    refine wpAnyT_held (i := 45) (v := ?_) rfl (by kernel_rfl) (by kernel_rfl) (by kernel_rfl) (fun _ _ _ h => h) (by kernel_rfl) hT (fun _ => hS) (by kernel_rfl) ?_ ?_
    rotate_left
    · intro wx hSw; go_split_ands; go_simp; try with_reducible rfl
    simp only [Act.put, List.getElem_toArray, List.getElem_cons_succ, List.getElem_cons_zero, List.setIfInBounds_toArray, List.set_cons_zero, List.set_cons_succ]
    refine wpAnyT_two (i := 43) (j := 46) rfl rfl (by kernel_rfl) (by kernel_rfl) (by kernel_rfl) (fun K hK => ?_) (fun K hK => ?_)
    · have hmk := trivial
      refine wpx_call _ _ (by kernel_rfl) ((HTX.out _ D1 D2 _ BB (H2.out.far hbV) false).mono ?_)
      rintro z V6 ⟨txb, tcb, rfl, hyb, hbn⟩
      refine ⟨_, rfl, ?_⟩
      have HYabaV6 := Veil.mk (HYaba.out.below hbn)
      have HXaV6 := Veil.mk (HXa.out.below hbn)
      have HYb := Veil.mk hyb
      clear hyb
      replace hbV := hbV.trans (hbn.mono hbV.size)
      clear hbn
      replace hT : (fun W : World => W.rangeAt bt 0 [Value.int .u8 1, Value.int .u32 1] ∧ W.rangeAt bl 0 [Value.int .u8 1, Value.int .u32 2] ∧ (convert 43 9 (.slice txa 1 tca)).run Try.prog W = .ok (.string SC) W ∧ (convert 43 9 (.slice (some ⟨V5.heap.size, 0, none⟩) 1 1)).run Try.prog W = .ok (.string SC) W) V6 := ⟨(HT.out V6 hbV).1, (HT.out V6 hbV).2, HCV.out _ _ _ _ HYabaV6.out, HCV.out _ _ _ _ HXaV6.out⟩
      replace hS : (fun _ : World => True) V6 := trivial
      refine hK.out _ _ hT (fun _ => hS) ?_
      clear hK K
      try simp only [Act.put, List.getElem_toArray, List.getElem_cons_succ, List.getElem_cons_zero, List.setIfInBounds_toArray, List.set_cons_zero, List.set_cons_succ]
      refine wpAnyT_more (T' := fun W : World => W.rangeAt bt 0 [Value.int .u8 1, Value.int .u32 1] ∧ W.rangeAt bl 0 [Value.int .u8 1, Value.int .u32 2] ∧ (convert 43 9 (.slice txa 1 tca)).run Try.prog W = .ok (.string SC) W ∧ (convert 43 9 (.slice (some ⟨V5.heap.size, 0, none⟩) 1 1)).run Try.prog W = .ok (.string SC) W ∧ (convert 43 9 (.slice txb 1 tcb)).run Try.prog W = .ok (.string SC) W) (fun _ h => ⟨h.1, h.2.1, h.2.2.1, h.2.2.2.1⟩) _ _ _ _ ?_
      replace hT : (fun W : World => W.rangeAt bt 0 [Value.int .u8 1, Value.int .u32 1] ∧ W.rangeAt bl 0 [Value.int .u8 1, Value.int .u32 2] ∧ (convert 43 9 (.slice txa 1 tca)).run Try.prog W = .ok (.string SC) W ∧ (convert 43 9 (.slice (some ⟨V5.heap.size, 0, none⟩) 1 1)).run Try.prog W = .ok (.string SC) W ∧ (convert 43 9 (.slice txb 1 tcb)).run Try.prog W = .ok (.string SC) W) V6 := ⟨(HT.out V6 hbV).1, (HT.out V6 hbV).2, HCV.out _ _ _ _ HYabaV6.out, HCV.out _ _ _ _ HXaV6.out, HCV.out _ _ _ _ HYb.out⟩
      refine wpAnyT_held (i := 44) (v := ?_) rfl (by kernel_rfl) (by kernel_rfl) (by kernel_rfl) (fun _ _ _ h => h) (by kernel_rfl) hT (fun _ => hS) (by kernel_rfl) ?_ ?_
      rotate_left
      · intro wx hSw; go_split_ands; go_simp; try with_reducible rfl
      simp only [Act.put, List.getElem_toArray, List.getElem_cons_succ, List.getElem_cons_zero, List.setIfInBounds_toArray, List.set_cons_zero, List.set_cons_succ]
      refine wpAnyT_one (i := 46) rfl (by kernel_rfl) (by kernel_rfl) (fun K hK => ?_)
      refine wp_buildSlice 43 5 1 _ rfl (row .u8 [(c : Int)]) iu _ Try.underlying43 hiu huz (by rw [hus]; decide) (by rw [hus]; decide) (by rw [hus]; kernel_rfl) ?_
      have hbn := (HNB.out V6).2
      have HXb := Veil.mk (HNB.out V6).1
      have HYabaV6bb := Veil.mk (HYabaV6.out.below hbn)
      have HXaV6bb := Veil.mk (HXaV6.out.below hbn)
      have HYbbb := Veil.mk (HYb.out.below hbn)
      replace hbV := hbV.trans (hbn.mono hbV.size)
      clear hbn
      replace hT : (fun W : World => W.rangeAt bt 0 [Value.int .u8 1, Value.int .u32 1] ∧ W.rangeAt bl 0 [Value.int .u8 1, Value.int .u32 2] ∧ (convert 43 9 (.slice txa 1 tca)).run Try.prog W = .ok (.string SC) W ∧ (convert 43 9 (.slice (some ⟨V5.heap.size, 0, none⟩) 1 1)).run Try.prog W = .ok (.string SC) W ∧ (convert 43 9 (.slice txb 1 tcb)).run Try.prog W = .ok (.string SC) W) (V6.alloc (.cells (row .u8 [(c : Int)]) 5)) := ⟨(HT.out (V6.alloc (.cells (row .u8 [(c : Int)]) 5)) hbV).1, (HT.out (V6.alloc (.cells (row .u8 [(c : Int)]) 5)) hbV).2, HCV.out _ _ _ _ HYabaV6bb.out, HCV.out _ _ _ _ HXaV6bb.out, HCV.out _ _ _ _ HYbbb.out⟩
      replace hS : (fun _ : World => True) (V6.alloc (.cells (row .u8 [(c : Int)]) 5)) := trivial
      refine hK.out _ _ hT (fun _ => hS) ?_
      clear hK K
      try simp only [Act.put, List.getElem_toArray, List.getElem_cons_succ, List.getElem_cons_zero, List.setIfInBounds_toArray, List.set_cons_zero, List.set_cons_succ]
      refine wpAnyT_more (T' := fun W : World => W.rangeAt bt 0 [Value.int .u8 1, Value.int .u32 1] ∧ W.rangeAt bl 0 [Value.int .u8 1, Value.int .u32 2] ∧ (convert 43 9 (.slice txa 1 tca)).run Try.prog W = .ok (.string SC) W ∧ (convert 43 9 (.slice (some ⟨V5.heap.size, 0, none⟩) 1 1)).run Try.prog W = .ok (.string SC) W ∧ (convert 43 9 (.slice txb 1 tcb)).run Try.prog W = .ok (.string SC) W ∧ (convert 43 9 (.slice (some ⟨V6.heap.size, 0, none⟩) 1 1)).run Try.prog W = .ok (.string SC) W) (fun _ h => ⟨h.1, h.2.1, h.2.2.1, h.2.2.2.1, h.2.2.2.2.1⟩) _ _ _ _ ?_
      replace hT : (fun W : World => W.rangeAt bt 0 [Value.int .u8 1, Value.int .u32 1] ∧ W.rangeAt bl 0 [Value.int .u8 1, Value.int .u32 2] ∧ (convert 43 9 (.slice txa 1 tca)).run Try.prog W = .ok (.string SC) W ∧ (convert 43 9 (.slice (some ⟨V5.heap.size, 0, none⟩) 1 1)).run Try.prog W = .ok (.string SC) W ∧ (convert 43 9 (.slice txb 1 tcb)).run Try.prog W = .ok (.string SC) W ∧ (convert 43 9 (.slice (some ⟨V6.heap.size, 0, none⟩) 1 1)).run Try.prog W = .ok (.string SC) W) (V6.alloc (.cells (row .u8 [(c : Int)]) 5)) := ⟨(HT.out (V6.alloc (.cells (row .u8 [(c : Int)]) 5)) hbV).1, (HT.out (V6.alloc (.cells (row .u8 [(c : Int)]) 5)) hbV).2, HCV.out _ _ _ _ HYabaV6bb.out, HCV.out _ _ _ _ HXaV6bb.out, HCV.out _ _ _ _ HYbbb.out, HCV.out _ _ _ _ HXb.out⟩
      refine wpAnyT_held (i := 47) (v := ?_) rfl (by kernel_rfl) (by kernel_rfl) (by kernel_rfl) (fun _ _ _ h => h) (by kernel_rfl) hT (fun _ => hS) (by kernel_rfl) ?_ ?_
      rotate_left
      · intro wx hSw; go_split_ands; go_simp; try with_reducible rfl
      simp only [Act.put, List.getElem_toArray, List.getElem_cons_succ, List.getElem_cons_zero, List.setIfInBounds_toArray, List.set_cons_zero, List.set_cons_succ]
      refine wpAnyT_held (i := 48) (v := .bool true) rfl (by kernel_rfl) (by kernel_rfl) (by kernel_rfl) (fun _ _ _ h => h) (by kernel_rfl) hT (fun _ => hS) (by kernel_rfl) ?_ ?_
      · intro wx hSw; go_split_ands; go_simp
      simp only [Act.put, List.getElem_toArray, List.getElem_cons_succ, List.getElem_cons_zero, List.setIfInBounds_toArray, List.set_cons_zero, List.set_cons_succ]
      generalize (V6.alloc (.cells (row .u8 [(c : Int)]) 5)) = Ub at hbV hT hS HYabaV6bb HXaV6bb HYbbb HXb ⊢
      refine wpAnyT_held (i := 49) (v := ?_) rfl (by kernel_rfl) (by kernel_rfl) (by kernel_rfl) (fun _ _ _ h => h) (by kernel_rfl) hT (fun _ => hS) (by kernel_rfl) ?_ ?_
      rotate_left
      · intro wx hSw; go_split_ands; go_simp; try with_reducible rfl
      simp only [Act.put, List.getElem_toArray, List.getElem_cons_succ, List.getElem_cons_zero, List.setIfInBounds_toArray, List.set_cons_zero, List.set_cons_succ]
      refine wpAnyT_held (i := 50) (v := ?_) rfl (by kernel_rfl) (by kernel_rfl) (by kernel_rfl) (fun _ _ _ h => h) (by kernel_rfl) hT (fun _ => hS) (by kernel_rfl) ?_ ?_
      rotate_left
      · intro wx hSw; go_split_ands; go_simp; try with_reducible rfl
      simp only [Act.put, List.getElem_toArray, List.getElem_cons_succ, List.getElem_cons_zero, List.setIfInBounds_toArray, List.set_cons_zero, List.set_cons_succ]
      refine wpAnyT_held (i := 51) (v := ?_) rfl (by kernel_rfl) (by kernel_rfl) (by kernel_rfl) (fun _ _ _ h => h) (by kernel_rfl) hT (fun _ => hS) (by kernel_rfl) ?_ ?_
      rotate_left
      · intro wx hSw; go_split_ands; go_simp; try with_reducible rfl
      simp only [Act.put, List.getElem_toArray, List.getElem_cons_succ, List.getElem_cons_zero, List.setIfInBounds_toArray, List.set_cons_zero, List.set_cons_succ]
      refine wpAnyT_held (i := 53) (v := ?_) rfl (by kernel_rfl) (by kernel_rfl) (by kernel_rfl) (fun _ _ _ h => h) (by kernel_rfl) hT (fun _ => hS) (by kernel_rfl) ?_ ?_
      rotate_left
      · intro wx hSw; go_split_ands; go_simp; try with_reducible rfl
      simp only [Act.put, List.getElem_toArray, List.getElem_cons_succ, List.getElem_cons_zero, List.setIfInBounds_toArray, List.set_cons_zero, List.set_cons_succ]
      refine wpAnyT_one (i := 52) rfl (by kernel_rfl) (by kernel_rfl) (fun K hK => ?_)
      refine wpx_call _ _ (by kernel_rfl) ((HME.out _ D1 D2 _ BB (H2.out.far hbV) true).mono ?_)
      rintro z V7 ⟨rfl, hbn⟩
      refine ⟨_, rfl, ?_⟩
      have HYabaV6bbV7 := Veil.mk (HYabaV6bb.out.below hbn)
      have HXaV6bbV7 := Veil.mk (HXaV6bb.out.below hbn)
      have HYbbbV7 := Veil.mk (HYbbb.out.below hbn)
      have HXbV7 := Veil.mk (HXb.out.below hbn)
      replace hbV := hbV.trans (hbn.mono hbV.size)
      clear hbn
      replace hT : (fun W : World => W.rangeAt bt 0 [Value.int .u8 1, Value.int .u32 1] ∧ W.rangeAt bl 0 [Value.int .u8 1, Value.int .u32 2] ∧ (convert 43 9 (.slice txa 1 tca)).run Try.prog W = .ok (.string SC) W ∧ (convert 43 9 (.slice (some ⟨V5.heap.size, 0, none⟩) 1 1)).run Try.prog W = .ok (.string SC) W ∧ (convert 43 9 (.slice txb 1 tcb)).run Try.prog W = .ok (.string SC) W ∧ (convert 43 9 (.slice (some ⟨V6.heap.size, 0, none⟩) 1 1)).run Try.prog W = .ok (.string SC) W) V7 := ⟨(HT.out V7 hbV).1, (HT.out V7 hbV).2, HCV.out _ _ _ _ HYabaV6bbV7.out, HCV.out _ _ _ _ HXaV6bbV7.out, HCV.out _ _ _ _ HYbbbV7.out, HCV.out _ _ _ _ HXbV7.out⟩
      replace hS : (fun _ : World => True) V7 := trivial
      refine hK.out _ _ hT (fun _ => hS) ?_
      clear hK K
      try simp only [Act.put, List.getElem_toArray, List.getElem_cons_succ, List.getElem_cons_zero, List.setIfInBounds_toArray, List.set_cons_zero, List.set_cons_succ]
      refine wpAnyT_one (i := 54) rfl (by kernel_rfl) (by kernel_rfl) (fun K hK => ?_)
      refine wpx_call _ _ (by kernel_rfl) ((HME.out _ D1 D2 _ BB (H2.out.far hbV) false).mono ?_)
      rintro z V8 ⟨rfl, hbn⟩
      refine ⟨_, rfl, ?_⟩
      have HYabaV6bbV7V8 := Veil.mk (HYabaV6bbV7.out.below hbn)
      have HXaV6bbV7V8 := Veil.mk (HXaV6bbV7.out.below hbn)
      have HYbbbV7V8 := Veil.mk (HYbbbV7.out.below hbn)
      have HXbV7V8 := Veil.mk (HXbV7.out.below hbn)
      replace hbV := hbV.trans (hbn.mono hbV.size)
      clear hbn
      replace hT : (fun W : World => W.rangeAt bt 0 [Value.int .u8 1, Value.int .u32 1] ∧ W.rangeAt bl 0 [Value.int .u8 1, Value.int .u32 2] ∧ (convert 43 9 (.slice txa 1 tca)).run Try.prog W = .ok (.string SC) W ∧ (convert 43 9 (.slice (some ⟨V5.heap.size, 0, none⟩) 1 1)).run Try.prog W = .ok (.string SC) W ∧ (convert 43 9 (.slice txb 1 tcb)).run Try.prog W = .ok (.string SC) W ∧ (convert 43 9 (.slice (some ⟨V6.heap.size, 0, none⟩) 1 1)).run Try.prog W = .ok (.string SC) W) V8 := ⟨(HT.out V8 hbV).1, (HT.out V8 hbV).2, HCV.out _ _ _ _ HYabaV6bbV7V8.out, HCV.out _ _ _ _ HXaV6bbV7V8.out, HCV.out _ _ _ _ HYbbbV7V8.out, HCV.out _ _ _ _ HXbV7V8.out⟩
      replace hS : (fun _ : World => True) V8 := trivial
      refine hK.out _ _ hT (fun _ => hS) ?_
      clear hK K
      try simp only [Act.put, List.getElem_toArray, List.getElem_cons_succ, List.getElem_cons_zero, List.setIfInBounds_toArray, List.set_cons_zero, List.set_cons_succ]
      refine wpAnyT_held (i := 55) (v := .bool true) rfl (by kernel_rfl) (by kernel_rfl) (by kernel_rfl) (fun _ _ _ h => h) (by kernel_rfl) hT (fun _ => hS) (by kernel_rfl) ?_ ?_
      · intro wx hSw; go_split_ands; go_simp
      simp only [Act.put, List.getElem_toArray, List.getElem_cons_succ, List.getElem_cons_zero, List.setIfInBounds_toArray, List.set_cons_zero, List.set_cons_succ]
      refine wpAnyT_held (i := 56) (v := ?_) rfl (by kernel_rfl) (by kernel_rfl) (by kernel_rfl) (fun _ _ _ h => h) (by kernel_rfl) hT (fun _ => hS) (by kernel_rfl) ?_ ?_
      rotate_left
      · intro wx hSw; go_split_ands; go_simp; try with_reducible rfl
      simp only [Act.put, List.getElem_toArray, List.getElem_cons_succ, List.getElem_cons_zero, List.setIfInBounds_toArray, List.set_cons_zero, List.set_cons_succ]
      refine wpAnyT_held (i := 57) (v := ?_) rfl (by kernel_rfl) (by kernel_rfl) (by kernel_rfl) (fun _ _ _ h => h) (by kernel_rfl) hT (fun _ => hS) (by kernel_rfl) ?_ ?_
      rotate_left
      · intro wx hSw; go_split_ands; go_simp; try with_reducible rfl
      simp only [Act.put, List.getElem_toArray, List.getElem_cons_succ, List.getElem_cons_zero, List.setIfInBounds_toArray, List.set_cons_zero, List.set_cons_succ]
      refine wpAnyT_held (i := 58) (v := ?_) rfl (by kernel_rfl) (by kernel_rfl) (by kernel_rfl) (fun _ _ _ h => h) (by kernel_rfl) hT (fun _ => hS) (by kernel_rfl) ?_ ?_
      rotate_left
      · intro wx hSw; go_split_ands; go_simp; try with_reducible rfl
      simp only [Act.put, List.getElem_toArray, List.getElem_cons_succ, List.getElem_cons_zero, List.setIfInBounds_toArray, List.set_cons_zero, List.set_cons_succ]
      refine wpAnyT_one (i := 59) rfl (by kernel_rfl) (by kernel_rfl) (fun K hK => ?_)
      refine wpx_call _ _ (by kernel_rfl) ((HME.out _ D1 D2 _ BB (H2.out.far hbV) true).mono ?_)
      rintro z V9 ⟨rfl, hbn⟩
      refine ⟨_, rfl, ?_⟩
      have HYabaV6bbV7V8V9 := Veil.mk (HYabaV6bbV7V8.out.below hbn)
      have HXaV6bbV7V8V9 := Veil.mk (HXaV6bbV7V8.out.below hbn)
      have HYbbbV7V8V9 := Veil.mk (HYbbbV7V8.out.below hbn)
      have HXbV7V8V9 := Veil.mk (HXbV7V8.out.below hbn)
      replace hbV := hbV.trans (hbn.mono hbV.size)
      clear hbn
      replace hT : (fun W : World => W.rangeAt bt 0 [Value.int .u8 1, Value.int .u32 1] ∧ W.rangeAt bl 0 [Value.int .u8 1, Value.int .u32 2] ∧ (convert 43 9 (.slice txa 1 tca)).run Try.prog W = .ok (.string SC) W ∧ (convert 43 9 (.slice (some ⟨V5.heap.size, 0, none⟩) 1 1)).run Try.prog W = .ok (.string SC) W ∧ (convert 43 9 (.slice txb 1 tcb)).run Try.prog W = .ok (.string SC) W ∧ (convert 43 9 (.slice (some ⟨V6.heap.size, 0, none⟩) 1 1)).run Try.prog W = .ok (.string SC) W) V9 := ⟨(HT.out V9 hbV).1, (HT.out V9 hbV).2, HCV.out _ _ _ _ HYabaV6bbV7V8V9.out, HCV.out _ _ _ _ HXaV6bbV7V8V9.out, HCV.out _ _ _ _ HYbbbV7V8V9.out, HCV.out _ _ _ _ HXbV7V8V9.out⟩
      replace hS : (fun _ : World => True) V9 := trivial
      refine hK.out _ _ hT (fun _ => hS) ?_
      clear hK K
      try simp only [Act.put, List.getElem_toArray, List.getElem_cons_succ, List.getElem_cons_zero, List.setIfInBounds_toArray, List.set_cons_zero, List.set_cons_succ]
      refine wpAnyT_held (i := 60) (v := .int .u8 0) rfl (by kernel_rfl) (by kernel_rfl) (by kernel_rfl) (fun _ _ _ h => h) (by kernel_rfl) hT (fun _ => hS) (by kernel_rfl) ?_ ?_
      · intro wx hSw; go_split_ands; go_simp
      simp only [Act.put, List.getElem_toArray, List.getElem_cons_succ, List.getElem_cons_zero, List.setIfInBounds_toArray, List.set_cons_zero, List.set_cons_succ]
      refine wpAnyT_held (i := 61) (v := ?_) rfl (by kernel_rfl) (by kernel_rfl) (by kernel_rfl) (fun _ _ _ h => h) (by kernel_rfl) hT (fun _ => hS) (by kernel_rfl) ?_ ?_
      rotate_left
      · intro wx hSw; go_split_ands; go_simp; try with_reducible rfl
      simp only [Act.put, List.getElem_toArray, List.getElem_cons_succ, List.getElem_cons_zero, List.setIfInBounds_toArray, List.set_cons_zero, List.set_cons_succ]
      refine wpAnyT_held (i := 62) (v := ?_) rfl (by kernel_rfl) (by kernel_rfl) (by kernel_rfl) (fun _ _ _ h => h) (by kernel_rfl) hT (fun _ => hS) (by kernel_rfl) ?_ ?_
      rotate_left
      · intro wx hSw; go_split_ands; go_simp; try with_reducible rfl
      simp only [Act.put, List.getElem_toArray, List.getElem_cons_succ, List.getElem_cons_zero, List.setIfInBounds_toArray, List.set_cons_zero, List.set_cons_succ]
      refine wpAnyT_held (i := 63) (v := ?_) rfl (by kernel_rfl) (by kernel_rfl) (by kernel_rfl) (fun _ _ _ h => h) (by kernel_rfl) hT (fun _ => hS) (by kernel_rfl) ?_ ?_
      rotate_left
      · intro wx hSw; go_split_ands; go_simp; try with_reducible rfl
      simp only [Act.put, List.getElem_toArray, List.getElem_cons_succ, List.getElem_cons_zero, List.setIfInBounds_toArray, List.set_cons_zero, List.set_cons_succ]
      refine wpAnyT_done (by kernel_rfl) ?_ _
      clear hT hS
      have HQ := Veil.mk (HB6.out _ hbV)
      clear hbV
      go_wp2
      go_ret
      exact ⟨rfl, HQ.out⟩
    · have hmk := trivial
      refine wp_buildSlice 43 5 1 _ rfl (row .u8 [(c : Int)]) iu _ Try.underlying43 hiu huz (by rw [hus]; decide) (by rw [hus]; decide) (by rw [hus]; kernel_rfl) ?_
      have hbn := (HNB.out Ua).2
      have HXb := Veil.mk (HNB.out Ua).1
      have HYabacb := Veil.mk (HYaba.out.below hbn)
      have HXacb := Veil.mk (HXa.out.below hbn)
      replace hbV := hbV.trans (hbn.mono hbV.size)
      clear hbn
      replace hT : (fun W : World => W.rangeAt bt 0 [Value.int .u8 1, Value.int .u32 1] ∧ W.rangeAt bl 0 [Value.int .u8 1, Value.int .u32 2] ∧ (convert 43 9 (.slice txa 1 tca)).run Try.prog W = .ok (.string SC) W ∧ (convert 43 9 (.slice (some ⟨V5.heap.size, 0, none⟩) 1 1)).run Try.prog W = .ok (.string SC) W) (Ua.alloc (.cells (row .u8 [(c : Int)]) 5)) := ⟨(HT.out (Ua.alloc (.cells (row .u8 [(c : Int)]) 5)) hbV).1, (HT.out (Ua.alloc (.cells (row .u8 [(c : Int)]) 5)) hbV).2, HCV.out _ _ _ _ HYabacb.out, HCV.out _ _ _ _ HXacb.out⟩
      replace hS : (fun _ : World => True) (Ua.alloc (.cells (row .u8 [(c : Int)]) 5)) := trivial
      refine hK.out _ _ hT (fun _ => hS) ?_
      clear hK K
      try simp only [Act.put, List.getElem_toArray, List.getElem_cons_succ, List.getElem_cons_zero, List.setIfInBounds_toArray, List.set_cons_zero, List.set_cons_succ]
      refine wpAnyT_more (T' := fun W : World => W.rangeAt bt 0 [Value.int .u8 1, Value.int .u32 1] ∧ W.rangeAt bl 0 [Value.int .u8 1, Value.int .u32 2] ∧ (convert 43 9 (.slice txa 1 tca)).run Try.prog W = .ok (.string SC) W ∧ (convert 43 9 (.slice (some ⟨V5.heap.size, 0, none⟩) 1 1)).run Try.prog W = .ok (.string SC) W ∧ (convert 43 9 (.slice (some ⟨Ua.heap.size, 0, none⟩) 1 1)).run Try.prog W = .ok (.string SC) W) (fun _ h => ⟨h.1, h.2.1, h.2.2.1, h.2.2.2.1⟩) _ _ _ _ ?_
      replace hT : (fun W : World => W.rangeAt bt 0 [Value.int .u8 1, Value.int .u32 1] ∧ W.rangeAt bl 0 [Value.int .u8 1, Value.int .u32 2] ∧ (convert 43 9 (.slice txa 1 tca)).run Try.prog W = .ok (.string SC) W ∧ (convert 43 9 (.slice (some ⟨V5.heap.size, 0, none⟩) 1 1)).run Try.prog W = .ok (.string SC) W ∧ (convert 43 9 (.slice (some ⟨Ua.heap.size, 0, none⟩) 1 1)).run Try.prog W = .ok (.string SC) W) (Ua.alloc (.cells (row .u8 [(c : Int)]) 5)) := ⟨(HT.out (Ua.alloc (.cells (row .u8 [(c : Int)]) 5)) hbV).1, (HT.out (Ua.alloc (.cells (row .u8 [(c : Int)]) 5)) hbV).2, HCV.out _ _ _ _ HYabacb.out, HCV.out _ _ _ _ HXacb.out, HCV.out _ _ _ _ HXb.out⟩
      refine wpAnyT_held (i := 47) (v := ?_) rfl (by kernel_rfl) (by kernel_rfl) (by kernel_rfl) (fun _ _ _ h => h) (by kernel_rfl) hT (fun _ => hS) (by kernel_rfl) ?_ ?_
      rotate_left
      · intro wx hSw; go_split_ands; go_simp; try with_reducible rfl
      simp only [Act.put, List.getElem_toArray, List.getElem_cons_succ, List.getElem_cons_zero, List.setIfInBounds_toArray, List.set_cons_zero, List.set_cons_succ]
      refine wpAnyT_one (i := 43) rfl (by kernel_rfl) (by kernel_rfl) (fun K hK => ?_)
      refine wpx_call _ _ (by kernel_rfl) ((HTX.out _ D1 D2 _ BB (H2.out.far hbV) false).mono ?_)
      rintro z V10 ⟨txb, tcb, rfl, hyb, hbn⟩
      refine ⟨_, rfl, ?_⟩
      have HYabacbV10 := Veil.mk (HYabacb.out.below hbn)
      have HXacbV10 := Veil.mk (HXacb.out.below hbn)
      have HXbV10 := Veil.mk (HXb.out.below hbn)
      have HYb := Veil.mk hyb
      clear hyb
      replace hbV := hbV.trans (hbn.mono hbV.size)
      clear hbn
      replace hT : (fun W : World => W.rangeAt bt 0 [Value.int .u8 1, Value.int .u32 1] ∧ W.rangeAt bl 0 [Value.int .u8 1, Value.int .u32 2] ∧ (convert 43 9 (.slice txa 1 tca)).run Try.prog W = .ok (.string SC) W ∧ (convert 43 9 (.slice (some ⟨V5.heap.size, 0, none⟩) 1 1)).run Try.prog W = .ok (.string SC) W ∧ (convert 43 9 (.slice (some ⟨Ua.heap.size, 0, none⟩) 1 1)).run Try.prog W = .ok (.string SC) W) V10 := ⟨(HT.out V10 hbV).1, (HT.out V10 hbV).2, HCV.out _ _ _ _ HYabacbV10.out, HCV.out _ _ _ _ HXacbV10.out, HCV.out _ _ _ _ HXbV10.out⟩
      replace hS : (fun _ : World => True) V10 := trivial
      refine hK.out _ _ hT (fun _ => hS) ?_
      clear hK K
      try simp only [Act.put, List.getElem_toArray, List.getElem_cons_succ, List.getElem_cons_zero, List.setIfInBounds_toArray, List.set_cons_zero, List.set_cons_succ]
      refine wpAnyT_more (T' := fun W : World => W.rangeAt bt 0 [Value.int .u8 1, Value.int .u32 1] ∧ W.rangeAt bl 0 [Value.int .u8 1, Value.int .u32 2] ∧ (convert 43 9 (.slice txa 1 tca)).run Try.prog W = .ok (.string SC) W ∧ (convert 43 9 (.slice (some ⟨V5.heap.size, 0, none⟩) 1 1)).run Try.prog W = .ok (.string SC) W ∧ (convert 43 9 (.slice (some ⟨Ua.heap.size, 0, none⟩) 1 1)).run Try.prog W = .ok (.string SC) W ∧ (convert 43 9 (.slice txb 1 tcb)).run Try.prog W = .ok (.string SC) W) (fun _ h => ⟨h.1, h.2.1, h.2.2.1, h.2.2.2.1, h.2.2.2.2.1⟩) _ _ _ _ ?_
      replace hT : (fun W : World => W.rangeAt bt 0 [Value.int .u8 1, Value.int .u32 1] ∧ W.rangeAt bl 0 [Value.int .u8 1, Value.int .u32 2] ∧ (convert 43 9 (.slice txa 1 tca)).run Try.prog W = .ok (.string SC) W ∧ (convert 43 9 (.slice (some ⟨V5.heap.size, 0, none⟩) 1 1)).run Try.prog W = .ok (.string SC) W ∧ (convert 43 9 (.slice (some ⟨Ua.heap.size, 0, none⟩) 1 1)).run Try.prog W = .ok (.string SC) W ∧ (convert 43 9 (.slice txb 1 tcb)).run Try.prog W = .ok (.string SC) W) V10 := ⟨(HT.out V10 hbV).1, (HT.out V10 hbV).2, HCV.out _ _ _ _ HYabacbV10.out, HCV.out _ _ _ _ HXacbV10.out, HCV.out _ _ _ _ HXbV10.out, HCV.out _ _ _ _ HYb.out⟩
      refine wpAnyT_held (i := 44) (v := ?_) rfl (by kernel_rfl) (by kernel_rfl) (by kernel_rfl) (fun _ _ _ h => h) (by kernel_rfl) hT (fun _ => hS) (by kernel_rfl) ?_ ?_
      rotate_left
      · intro wx hSw; go_split_ands; go_simp; try with_reducible rfl
      simp only [Act.put, List.getElem_toArray, List.getElem_cons_succ, List.getElem_cons_zero, List.setIfInBounds_toArray, List.set_cons_zero, List.set_cons_succ]
      refine wpAnyT_held (i := 48) (v := .bool true) rfl (by kernel_rfl) (by kernel_rfl) (by kernel_rfl) (fun _ _ _ h => h) (by kernel_rfl) hT (fun _ => hS) (by kernel_rfl) ?_ ?_
      · intro wx hSw; go_split_ands; go_simp
      simp only [Act.put, List.getElem_toArray, List.getElem_cons_succ, List.getElem_cons_zero, List.setIfInBounds_toArray, List.set_cons_zero, List.set_cons_succ]
      refine wpAnyT_held (i := 49) (v := ?_) rfl (by kernel_rfl) (by kernel_rfl) (by kernel_rfl) (fun _ _ _ h => h) (by kernel_rfl) hT (fun _ => hS) (by kernel_rfl) ?_ ?_
      rotate_left
      · intro wx hSw; go_split_ands; go_simp; try with_reducible rfl
      simp only [Act.put, List.getElem_toArray, List.getElem_cons_succ, List.getElem_cons_zero, List.setIfInBounds_toArray, List.set_cons_zero, List.set_cons_succ]
      refine wpAnyT_held (i := 50) (v := ?_) rfl (by kernel_rfl) (by kernel_rfl) (by kernel_rfl) (fun _ _ _ h => h) (by kernel_rfl) hT (fun _ => hS) (by kernel_rfl) ?_ ?_
      rotate_left
      · intro wx hSw; go_split_ands; go_simp; try with_reducible rfl
      simp only [Act.put, List.getElem_toArray, List.getElem_cons_succ, List.getElem_cons_zero, List.setIfInBounds_toArray, List.set_cons_zero, List.set_cons_succ]
      refine wpAnyT_held (i := 51) (v := ?_) rfl (by kernel_rfl) (by kernel_rfl) (by kernel_rfl) (fun _ _ _ h => h) (by kernel_rfl) hT (fun _ => hS) (by kernel_rfl) ?_ ?_
      rotate_left
      · intro wx hSw; go_split_ands; go_simp; try with_reducible rfl
      simp only [Act.put, List.getElem_toArray, List.getElem_cons_succ, List.getElem_cons_zero, List.setIfInBounds_toArray, List.set_cons_zero, List.set_cons_succ]
      refine wpAnyT_held (i := 53) (v := ?_) rfl (by kernel_rfl) (by kernel_rfl) (by kernel_rfl) (fun _ _ _ h => h) (by kernel_rfl) hT (fun _ => hS) (by kernel_rfl) ?_ ?_
      rotate_left
      · intro wx hSw; go_split_ands; go_simp; try with_reducible rfl
      simp only [Act.put, List.getElem_toArray, List.getElem_cons_succ, List.getElem_cons_zero, List.setIfInBounds_toArray, List.set_cons_zero, List.set_cons_succ]
      refine wpAnyT_one (i := 52) rfl (by kernel_rfl) (by kernel_rfl) (fun K hK => ?_)
      refine wpx_call _ _ (by kernel_rfl) ((HME.out _ D1 D2 _ BB (H2.out.far hbV) true).mono ?_)
      rintro z V11 ⟨rfl, hbn⟩
      refine ⟨_, rfl, ?_⟩
      have HYabacbV10V11 := Veil.mk (HYabacbV10.out.below hbn)
      have HXacbV10V11 := Veil.mk (HXacbV10.out.below hbn)
      have HXbV10V11 := Veil.mk (HXbV10.out.below hbn)
      have HYbV11 := Veil.mk (HYb.out.below hbn)
      replace hbV := hbV.trans (hbn.mono hbV.size)
      clear hbn
      replace hT : (fun W : World => W.rangeAt bt 0 [Value.int .u8 1, Value.int .u32 1] ∧ W.rangeAt bl 0 [Value.int .u8 1, Value.int .u32 2] ∧ (convert 43 9 (.slice txa 1 tca)).run Try.prog W = .ok (.string SC) W ∧ (convert 43 9 (.slice (some ⟨V5.heap.size, 0, none⟩) 1 1)).run Try.prog W = .ok (.string SC) W ∧ (convert 43 9 (.slice (some ⟨Ua.heap.size, 0, none⟩) 1 1)).run Try.prog W = .ok (.string SC) W ∧ (convert 43 9 (.slice txb 1 tcb)).run Try.prog W = .ok (.string SC) W) V11 := ⟨(HT.out V11 hbV).1, (HT.out V11 hbV).2, HCV.out _ _ _ _ HYabacbV10V11.out, HCV.out _ _ _ _ HXacbV10V11.out, HCV.out _ _ _ _ HXbV10V11.out, HCV.out _ _ _ _ HYbV11.out⟩
      replace hS : (fun _ : World => True) V11 := trivial
      refine hK.out _ _ hT (fun _ => hS) ?_
      clear hK K
      try simp only [Act.put, List.getElem_toArray, List.getElem_cons_succ, List.getElem_cons_zero, List.setIfInBounds_toArray, List.set_cons_zero, List.set_cons_succ]
      refine wpAnyT_one (i := 54) rfl (by kernel_rfl) (by kernel_rfl) (fun K hK => ?_)
      refine wpx_call _ _ (by kernel_rfl) ((HME.out _ D1 D2 _ BB (H2.out.far hbV) false).mono ?_)
      rintro z V12 ⟨rfl, hbn⟩
      refine ⟨_, rfl, ?_⟩
      have HYabacbV10V11V12 := Veil.mk (HYabacbV10V11.out.below hbn)
      have HXacbV10V11V12 := Veil.mk (HXacbV10V11.out.below hbn)
      have HXbV10V11V12 := Veil.mk (HXbV10V11.out.below hbn)
      have HYbV11V12 := Veil.mk (HYbV11.out.below hbn)
      replace hbV := hbV.trans (hbn.mono hbV.size)
      clear hbn
      replace hT : (fun W : World => W.rangeAt bt 0 [Value.int .u8 1, Value.int .u32 1] ∧ W.rangeAt bl 0 [Value.int .u8 1, Value.int .u32 2] ∧ (convert 43 9 (.slice txa 1 tca)).run Try.prog W = .ok (.string SC) W ∧ (convert 43 9 (.slice (some ⟨V5.heap.size, 0, none⟩) 1 1)).run Try.prog W = .ok (.string SC) W ∧ (convert 43 9 (.slice (some ⟨Ua.heap.size, 0, none⟩) 1 1)).run Try.prog W = .ok (.string SC) W ∧ (convert 43 9 (.slice txb 1 tcb)).run Try.prog W = .ok (.string SC) W) V12 := ⟨(HT.out V12 hbV).1, (HT.out V12 hbV).2, HCV.out _ _ _ _ HYabacbV10V11V12.out, HCV.out _ _ _ _ HXacbV10V11V12.out, HCV.out _ _ _ _ HXbV10V11V12.out, HCV.out _ _ _ _ HYbV11V12.out⟩
      replace hS : (fun _ : World => True) V12 := trivial
      refine hK.out _ _ hT (fun _ => hS) ?_
      clear hK K
      try simp only [Act.put, List.getElem_toArray, List.getElem_cons_succ, List.getElem_cons_zero, List.setIfInBounds_toArray, List.set_cons_zero, List.set_cons_succ]
      refine wpAnyT_held (i := 55) (v := .bool true) rfl (by kernel_rfl) (by kernel_rfl) (by kernel_rfl) (fun _ _ _ h => h) (by kernel_rfl) hT (fun _ => hS) (by kernel_rfl) ?_ ?_
      · intro wx hSw; go_split_ands; go_simp
      simp only [Act.put, List.getElem_toArray, List.getElem_cons_succ, List.getElem_cons_zero, List.setIfInBounds_toArray, List.set_cons_zero, List.set_cons_succ]
      refine wpAnyT_held (i := 56) (v := ?_) rfl (by kernel_rfl) (by kernel_rfl) (by kernel_rfl) (fun _ _ _ h => h) (by kernel_rfl) hT (fun _ => hS) (by kernel_rfl) ?_ ?_
      rotate_left
      · intro wx hSw; go_split_ands; go_simp; try with_reducible rfl
      simp only [Act.put, List.getElem_toArray, List.getElem_cons_succ, List.getElem_cons_zero, List.setIfInBounds_toArray, List.set_cons_zero, List.set_cons_succ]
      refine wpAnyT_held (i := 57) (v := ?_) rfl (by kernel_rfl) (by kernel_rfl) (by kernel_rfl) (fun _ _ _ h => h) (by kernel_rfl) hT (fun _ => hS) (by kernel_rfl) ?_ ?_
      rotate_left
      · intro wx hSw; go_split_ands; go_simp; try with_reducible rfl
      simp only [Act.put, List.getElem_toArray, List.getElem_cons_succ, List.getElem_cons_zero, List.setIfInBounds_toArray, List.set_cons_zero, List.set_cons_succ]
      refine wpAnyT_held (i := 58) (v := ?_) rfl (by kernel_rfl) (by kernel_rfl) (by kernel_rfl) (fun _ _ _ h => h) (by kernel_rfl) hT (fun _ => hS) (by kernel_rfl) ?_ ?_
      rotate_left
      · intro wx hSw; go_split_ands; go_simp; try with_reducible rfl
      simp only [Act.put, List.getElem_toArray, List.getElem_cons_succ, List.getElem_cons_zero, List.setIfInBounds_toArray, List.set_cons_zero, List.set_cons_succ]
      refine wpAnyT_one (i := 59) rfl (by kernel_rfl) (by kernel_rfl) (fun K hK => ?_)
      refine wpx_call _ _ (by kernel_rfl) ((HME.out _ D1 D2 _ BB (H2.out.far hbV) true).mono ?_)
      rintro z V13 ⟨rfl, hbn⟩
      refine ⟨_, rfl, ?_⟩
      have HYabacbV10V11V12V13 := Veil.mk (HYabacbV10V11V12.out.below hbn)
      have HXacbV10V11V12V13 := Veil.mk (HXacbV10V11V12.out.below hbn)
      have HXbV10V11V12V13 := Veil.mk (HXbV10V11V12.out.below hbn)
      have HYbV11V12V13 := Veil.mk (HYbV11V12.out.below hbn)
      replace hbV := hbV.trans (hbn.mono hbV.size)
      clear hbn
      replace hT : (fun W : World => W.rangeAt bt 0 [Value.int .u8 1, Value.int .u32 1] ∧ W.rangeAt bl 0 [Value.int .u8 1, Value.int .u32 2] ∧ (convert 43 9 (.slice txa 1 tca)).run Try.prog W = .ok (.string SC) W ∧ (convert 43 9 (.slice (some ⟨V5.heap.size, 0, none⟩) 1 1)).run Try.prog W = .ok (.string SC) W ∧ (convert 43 9 (.slice (some ⟨Ua.heap.size, 0, none⟩) 1 1)).run Try.prog W = .ok (.string SC) W ∧ (convert 43 9 (.slice txb 1 tcb)).run Try.prog W = .ok (.string SC) W) V13 := ⟨(HT.out V13 hbV).1, (HT.out V13 hbV).2, HCV.out _ _ _ _ HYabacbV10V11V12V13.out, HCV.out _ _ _ _ HXacbV10V11V12V13.out, HCV.out _ _ _ _ HXbV10V11V12V13.out, HCV.out _ _ _ _ HYbV11V12V13.out⟩
      replace hS : (fun _ : World => True) V13 := trivial
      refine hK.out _ _ hT (fun _ => hS) ?_
      clear hK K
      try simp only [Act.put, List.getElem_toArray, List.getElem_cons_succ, List.getElem_cons_zero, List.setIfInBounds_toArray, List.set_cons_zero, List.set_cons_succ]
      refine wpAnyT_held (i := 60) (v := .int .u8 0) rfl (by kernel_rfl) (by kernel_rfl) (by kernel_rfl) (fun _ _ _ h => h) (by kernel_rfl) hT (fun _ => hS) (by kernel_rfl) ?_ ?_
      · intro wx hSw; go_split_ands; go_simp
      simp only [Act.put, List.getElem_toArray, List.getElem_cons_succ, List.getElem_cons_zero, List.setIfInBounds_toArray, List.set_cons_zero, List.set_cons_succ]
      refine wpAnyT_held (i := 61) (v := ?_) rfl (by kernel_rfl) (by kernel_rfl) (by kernel_rfl) (fun _ _ _ h => h) (by kernel_rfl) hT (fun _ => hS) (by kernel_rfl) ?_ ?_
      rotate_left
      · intro wx hSw; go_split_ands; go_simp; try with_reducible rfl
      simp only [Act.put, List.getElem_toArray, List.getElem_cons_succ, List.getElem_cons_zero, List.setIfInBounds_toArray, List.set_cons_zero, List.set_cons_succ]
      refine wpAnyT_held (i := 62) (v := ?_) rfl (by kernel_rfl) (by kernel_rfl) (by kernel_rfl) (fun _ _ _ h => h) (by kernel_rfl) hT (fun _ => hS) (by kernel_rfl) ?_ ?_
      rotate_left
      · intro wx hSw; go_split_ands; go_simp; try with_reducible rfl
      simp only [Act.put, List.getElem_toArray, List.getElem_cons_succ, List.getElem_cons_zero, List.setIfInBounds_toArray, List.set_cons_zero, List.set_cons_succ]
      refine wpAnyT_held (i := 63) (v := ?_) rfl (by kernel_rfl) (by kernel_rfl) (by kernel_rfl) (fun _ _ _ h => h) (by kernel_rfl) hT (fun _ => hS) (by kernel_rfl) ?_ ?_
      rotate_left
      · intro wx hSw; go_split_ands; go_simp; try with_reducible rfl
      simp only [Act.put, List.getElem_toArray, List.getElem_cons_succ, List.getElem_cons_zero, List.setIfInBounds_toArray, List.set_cons_zero, List.set_cons_succ]
      refine wpAnyT_done (by kernel_rfl) ?_ _
      clear hT hS
      have HQ := Veil.mk (HB6.out _ hbV)
      clear hbV
      go_wp2
      go_ret
      exact ⟨rfl, HQ.out⟩
  · have hmk := trivial
    refine wp_buildSlice 43 5 1 _ rfl (row .u8 [(c : Int)]) iu _ Try.underlying43 hiu huz (by rw [hus]; decide) (by rw [hus]; decide) (by rw [hus]; kernel_rfl) ?_
    have hbn := (HNB.out V4).2
    have HXa := Veil.mk (HNB.out V4).1
    replace hbV := hbV.trans (hbn.mono hbV.size)
    clear hbn
    replace hT : (fun W : World => W.rangeAt bt 0 [Value.int .u8 1, Value.int .u32 1] ∧ W.rangeAt bl 0 [Value.int .u8 1, Value.int .u32 2]) (V4.alloc (.cells (row .u8 [(c : Int)]) 5)) := HT.out (V4.alloc (.cells (row .u8 [(c : Int)]) 5)) hbV
    replace hS : (fun _ : World => True) (V4.alloc (.cells (row .u8 [(c : Int)]) 5)) := trivial
    refine hK.out _ _ hT (fun _ => hS) ?_
    clear hK K
    try simp only [Act.put, List.getElem_toArray, List.getElem_cons_succ, List.getElem_cons_zero, List.setIfInBounds_toArray, List.set_cons_zero, List.set_cons_succ]
    refine wpAnyT_more (T' := fun W : World => W.rangeAt bt 0 [Value.int .u8 1, Value.int .u32 1] ∧ W.rangeAt bl 0 [Value.int .u8 1, Value.int .u32 2] ∧ (convert 43 9 (.slice (some ⟨V4.heap.size, 0, none⟩) 1 1)).run Try.prog W = .ok (.string SC) W) (fun _ h => ⟨h.1, h.2.1⟩) _ _ _ _ ?_
    replace hT : (fun W : World => W.rangeAt bt 0 [Value.int .u8 1, Value.int .u32 1] ∧ W.rangeAt bl 0 [Value.int .u8 1, Value.int .u32 2] ∧ (convert 43 9 (.slice (some ⟨V4.heap.size, 0, none⟩) 1 1)).run Try.prog W = .ok (.string SC) W) (V4.alloc (.cells (row .u8 [(c : Int)]) 5)) := ⟨(HT.out (V4.alloc (.cells (row .u8 [(c : Int)]) 5)) hbV).1, (HT.out (V4.alloc (.cells (row .u8 [(c : Int)]) 5)) hbV).2, HCV.out _ _ _ _ HXa.out⟩
    refine wpAnyT_held (i := 38) (v := ?_) rfl (by kernel_rfl) (by kernel_rfl) (by kernel_rfl) (fun _ _ _ h => h) (by kernel_rfl) hT (fun _ => hS) (by kernel_rfl) ?_ ?_
    rotate_left
    · intro wx hSw; go_split_ands; go_simp; try with_reducible rfl
    simp only [Act.put, List.getElem_toArray, List.getElem_cons_succ, List.getElem_cons_zero, List.setIfInBounds_toArray, List.set_cons_zero, List.set_cons_succ]
    refine wpAnyT_one (i := 34) rfl (by kernel_rfl) (by kernel_rfl) (fun K hK => ?_)
    refine wpx_call _ _ (by kernel_rfl) ((HTX.out _ D1 D2 _ BB (H2.out.far hbV) true).mono ?_)
    rintro z V14 ⟨txa, tca, rfl, hya, hbn⟩
    refine ⟨_, rfl, ?_⟩
    have HXaV14 := Veil.mk (HXa.out.below hbn)
    have HYa := Veil.mk hya
    clear hya
    replace hbV := hbV.trans (hbn.mono hbV.size)
    clear hbn
    replace hT : (fun W : World => W.rangeAt bt 0 [Value.int .u8 1, Value.int .u32 1] ∧ W.rangeAt bl 0 [Value.int .u8 1, Value.int .u32 2] ∧ (convert 43 9 (.slice (some ⟨V4.heap.size, 0, none⟩) 1 1)).run Try.prog W = .ok (.string SC) W) V14 := ⟨(HT.out V14 hbV).1, (HT.out V14 hbV).2, HCV.out _ _ _ _ HXaV14.out⟩
    replace hS : (fun _ : World => True) V14 := trivial
    refine hK.out _ _ hT (fun _ => hS) ?_
    clear hK K
    try simp only [Act.put, List.getElem_toArray, List.getElem_cons_succ, List.getElem_cons_zero, List.setIfInBounds_toArray, List.set_cons_zero, List.set_cons_succ]
    refine wpAnyT_more (T' := fun W : World => W.rangeAt bt 0 [Value.int .u8 1, Value.int .u32 1] ∧ W.rangeAt bl 0 [Value.int .u8 1, Value.int .u32 2] ∧ (convert 43 9 (.slice (some ⟨V4.heap.size, 0, none⟩) 1 1)).run Try.prog W = .ok (.string SC) W ∧ (convert 43 9 (.slice txa 1 tca)).run Try.prog W = .ok (.string SC) W) (fun _ h => ⟨h.1, h.2.1, h.2.2.1⟩) _ _ _ _ ?_
    replace hT : (fun W : World => W.rangeAt bt 0 [Value.int .u8 1, Value.int .u32 1] ∧ W.rangeAt bl 0 [Value.int .u8 1, Value.int .u32 2] ∧ (convert 43 9 (.slice (some ⟨V4.heap.size, 0, none⟩) 1 1)).run Try.prog W = .ok (.string SC) W ∧ (convert 43 9 (.slice txa 1 tca)).run Try.prog W = .ok (.string SC) W) V14 := ⟨(HT.out V14 hbV).1, (HT.out V14 hbV).2, HCV.out _ _ _ _ HXaV14.out, HCV.out _ _ _ _ HYa.out⟩
    refine wpAnyT_held (i := 35) (v := ?_) rfl (by kernel_rfl) (by kernel_rfl) (by kernel_rfl) (fun _ _ _ h => h) (by kernel_rfl) hT (fun _ => hS) (by kernel_rfl) ?_ ?_
    rotate_left
    · intro wx hSw; go_split_ands; go_simp; try with_reducible rfl
    simp only [Act.put, List.getElem_toArray, List.getElem_cons_succ, List.getElem_cons_zero, List.setIfInBounds_toArray, List.set_cons_zero, List.set_cons_succ]
    refine wpAnyT_held (i := 39) (v := .bool true) rfl (by kernel_rfl) (by kernel_rfl) (by kernel_rfl) (fun _ _ _ h => h) (by kernel_rfl) hT (fun _ => hS) (by kernel_rfl) ?_ ?_
    · intro wx hSw; go_split_ands; go_simp
    simp only [Act.put, List.getElem_toArray, List.getElem_cons_succ, List.getElem_cons_zero, List.setIfInBounds_toArray, List.set_cons_zero, List.set_cons_succ]
    refine wpAnyT_held (i := 40) (v := ?_) rfl (by kernel_rfl) (by kernel_rfl) (by kernel_rfl) (fun _ _ _ h => h) (by kernel_rfl) hT (fun _ => hS) (by kernel_rfl) ?_ ?_
    rotate_left
    · intro wx hSw; go_split_ands; go_simp; try with_reducible rfl
    simp only [Act.put, List.getElem_toArray, List.getElem_cons_succ, List.getElem_cons_zero, List.setIfInBounds_toArray, List.set_cons_zero, List.set_cons_succ]
    refine wpAnyT_held (i := 41) (v := ?_) rfl (by kernel_rfl) (by kernel_rfl) (by kernel_rfl) (fun _ _ _ h => h) (by kernel_rfl) hT (fun _ => hS) (by kernel_rfl) ?_ ?_
    rotate_left
    · intro wx hSw; go_split_ands; go_simp; try with_reducible rfl
    simp only [Act.put, List.getElem_toArray, List.getElem_cons_succ, List.getElem_cons_zero, List.setIfInBounds_toArray, List.set_cons_zero, List.set_cons_succ]
    refine wpAnyT_held (i := 42) (v := ?_) rfl (by kernel_rfl) (by kernel_rfl) (by kernel_rfl) (fun _ _ _ h => h) (by kernel_rfl) hT (fun _ => hS) (by kernel_rfl) ?_ ?_
    rotate_left
    · intro wx hSw; go_split_ands; go_simp; try with_reducible rfl
    simp only [Act.put, List.getElem_toArray, List.getElem_cons_succ, List.getElem_cons_zero, List.setIfInBounds_toArray, List.set_cons_zero, List.set_cons_succ]
    refine wpAnyT_held (i := 45) (v := ?_) rfl (by kernel_rfl) (by kernel_rfl) (by kernel_rfl) (fun _ _ _ h => h) (by kernel_rfl) hT (fun _ => hS) (by kernel_rfl) ?_ ?_
    rotate_left
    · intro wx hSw; go_split_ands; go_simp; try with_reducible rfl
    simp only [Act.put, List.getElem_toArray, List.getElem_cons_succ, List.getElem_cons_zero, List.setIfInBounds_toArray, List.set_cons_zero, List.set_cons_succ]
    refine wpAnyT_two (i := 43) (j := 46) rfl rfl (by kernel_rfl) (by kernel_rfl) (by kernel_rfl) (fun K hK => ?_) (fun K hK => ?_)
    · have hmk := trivial
      refine wpx_call _ _ (by kernel_rfl) ((HTX.out _ D1 D2 _ BB (H2.out.far hbV) false).mono ?_)
      rintro z V15 ⟨txb, tcb, rfl, hyb, hbn⟩
      refine ⟨_, rfl, ?_⟩
      have HXaV14V15 := Veil.mk (HXaV14.out.below hbn)
      have HYaV15 := Veil.mk (HYa.out.below hbn)
      have HYb := Veil.mk hyb
      clear hyb
      replace hbV := hbV.trans (hbn.mono hbV.size)
      clear hbn
      replace hT : (fun W : World => W.rangeAt bt 0 [Value.int .u8 1, Value.int .u32 1] ∧ W.rangeAt bl 0 [Value.int .u8 1, Value.int .u32 2] ∧ (convert 43 9 (.slice (some ⟨V4.heap.size, 0, none⟩) 1 1)).run Try.prog W = .ok (.string SC) W ∧ (convert 43 9 (.slice txa 1 tca)).run Try.prog W = .ok (.string SC) W) V15 := ⟨(HT.out V15 hbV).1, (HT.out V15 hbV).2, HCV.out _ _ _ _ HXaV14V15.out, HCV.out _ _ _ _ HYaV15.out⟩
      replace hS : (fun _ : World => True) V15 := trivial
      refine hK.out _ _ hT (fun _ => hS) ?_
      clear hK K
      try simp only [Act.put, List.getElem_toArray, List.getElem_cons_succ, List.getElem_cons_zero, List.setIfInBounds_toArray, List.set_cons_zero, List.set_cons_succ]
      refine wpAnyT_more (T' := fun W : World => W.rangeAt bt 0 [Value.int .u8 1, Value.int .u32 1] ∧ W.rangeAt bl 0 [Value.int .u8 1, Value.int .u32 2] ∧ (convert 43 9 (.slice (some ⟨V4.heap.size, 0, none⟩) 1 1)).run Try.prog W = .ok (.string SC) W ∧ (convert 43 9 (.slice txa 1 tca)).run Try.prog W = .ok (.string SC) W ∧ (convert 43 9 (.slice txb 1 tcb)).run Try.prog W = .ok (.string SC) W) (fun _ h => ⟨h.1, h.2.1, h.2.2.1, h.2.2.2.1⟩) _ _ _ _ ?_
      replace hT : (fun W : World => W.rangeAt bt 0 [Value.int .u8 1, Value.int .u32 1] ∧ W.rangeAt bl 0 [Value.int .u8 1, Value.int .u32 2] ∧ (convert 43 9 (.slice (some ⟨V4.heap.size, 0, none⟩) 1 1)).run Try.prog W = .ok (.string SC) W ∧ (convert 43 9 (.slice txa 1 tca)).run Try.prog W = .ok (.string SC) W ∧ (convert 43 9 (.slice txb 1 tcb)).run Try.prog W = .ok (.string SC) W) V15 := ⟨(HT.out V15 hbV).1, (HT.out V15 hbV).2, HCV.out _ _ _ _ HXaV14V15.out, HCV.out _ _ _ _ HYaV15.out, HCV.out _ _ _ _ HYb.out⟩
      refine wpAnyT_held (i := 44) (v := ?_) rfl (by kernel_rfl) (by kernel_rfl) (by kernel_rfl) (fun _ _ _ h => h) (by kernel_rfl) hT (fun _ => hS) (by kernel_rfl) ?_ ?_
      rotate_left
      · intro wx hSw; go_split_ands; go_simp; try with_reducible rfl
      simp only [Act.put, List.getElem_toArray, List.getElem_cons_succ, List.getElem_cons_zero, List.setIfInBounds_toArray, List.set_cons_zero, List.set_cons_succ]
      refine wpAnyT_one (i := 46) rfl (by kernel_rfl) (by kernel_rfl) (fun K hK => ?_)
      refine wp_buildSlice 43 5 1 _ rfl (row .u8 [(c : Int)]) iu _ Try.underlying43 hiu huz (by rw [hus]; decide) (by rw [hus]; decide) (by rw [hus]; kernel_rfl) ?_
      have hbn := (HNB.out V15).2
      have HXb := Veil.mk (HNB.out V15).1
      have HXaV14V15bb := Veil.mk (HXaV14V15.out.below hbn)
      have HYaV15bb := Veil.mk (HYaV15.out.below hbn)
      have HYbbb := Veil.mk (HYb.out.below hbn)
      replace hbV := hbV.trans (hbn.mono hbV.size)
      clear hbn
      replace hT : (fun W : World => W.rangeAt bt 0 [Value.int .u8 1, Value.int .u32 1] ∧ W.rangeAt bl 0 [Value.int .u8 1, Value.int .u32 2] ∧ (convert 43 9 (.slice (some ⟨V4.heap.size, 0, none⟩) 1 1)).run Try.prog W = .ok (.string SC) W ∧ (convert 43 9 (.slice txa 1 tca)).run Try.prog W = .ok (.string SC) W ∧ (convert 43 9 (.slice txb 1 tcb)).run Try.prog W = .ok (.string SC) W) (V15.alloc (.cells (row .u8 [(c : Int)]) 5)) := ⟨(HT.out (V15.alloc (.cells (row .u8 [(c : Int)]) 5)) hbV).1, (HT.out (V15.alloc (.cells (row .u8 [(c : Int)]) 5)) hbV).2, HCV.out _ _ _ _ HXaV14V15bb.out, HCV.out _ _ _ _ HYaV15bb.out, HCV.out _ _ _ _ HYbbb.out⟩
      replace hS : (fun _ : World => True) (V15.alloc (.cells (row .u8 [(c : Int)]) 5)) := trivial
      refine hK.out _ _ hT (fun _ => hS) ?_
      clear hK K
      try simp only [Act.put, List.getElem_toArray, List.getElem_cons_succ, List.getElem_cons_zero, List.setIfInBounds_toArray, List.set_cons_zero, List.set_cons_succ]
      refine wpAnyT_more (T' := fun W : World => W.rangeAt bt 0 [Value.int .u8 1, Value.int .u32 1] ∧ W.rangeAt bl 0 [Value.int .u8 1, Value.int .u32 2] ∧ (convert 43 9 (.slice (some ⟨V4.heap.size, 0, none⟩) 1 1)).run Try.prog W = .ok (.string SC) W ∧ (convert 43 9 (.slice txa 1 tca)).run Try.prog W = .ok (.string SC) W ∧ (convert 43 9 (.slice txb 1 tcb)).run Try.prog W = .ok (.string SC) W ∧ (convert 43 9 (.slice (some ⟨V15.heap.size, 0, none⟩) 1 1)).run Try.prog W = .ok (.string SC) W) (fun _ h => ⟨h.1, h.2.1, h.2.2.1, h.2.2.2.1, h.2.2.2.2.1⟩) _ _ _ _ ?_
      replace hT : (fun W : World => W.rangeAt bt 0 [Value.int .u8 1, Value.int .u32 1] ∧ W.rangeAt bl 0 [Value.int .u8 1, Value.int .u32 2] ∧ (convert 43 9 (.slice (some ⟨V4.heap.size, 0, none⟩) 1 1)).run Try.prog W = .ok (.string SC) W ∧ (convert 43 9 (.slice txa 1 tca)).run Try.prog W = .ok (.string SC) W ∧ (convert 43 9 (.slice txb 1 tcb)).run Try.prog W = .ok (.string SC) W ∧ (convert 43 9 (.slice (some ⟨V15.heap.size, 0, none⟩) 1 1)).run Try.prog W = .ok (.string SC) W) (V15.alloc (.cells (row .u8 [(c : Int)]) 5)) := ⟨(HT.out (V15.alloc (.cells (row .u8 [(c : Int)]) 5)) hbV).1, (HT.out (V15.alloc (.cells (row .u8 [(c : Int)]) 5)) hbV).2, HCV.out _ _ _ _ HXaV14V15bb.out, HCV.out _ _ _ _ HYaV15bb.out, HCV.out _ _ _ _ HYbbb.out, HCV.out _ _ _ _ HXb.out⟩
      refine wpAnyT_held (i := 47) (v := ?_) rfl (by kernel_rfl) (by kernel_rfl) (by kernel_rfl) (fun _ _ _ h => h) (by kernel_rfl) hT (fun _ => hS) (by kernel_rfl) ?_ ?_
      rotate_left
      · intro wx hSw; go_split_ands; go_simp; try with_reducible rfl
      simp only [Act.put, List.getElem_toArray, List.getElem_cons_succ, List.getElem_cons_zero, List.setIfInBounds_toArray, List.set_cons_zero, List.set_cons_succ]
      refine wpAnyT_held (i := 48) (v := .bool true) rfl (by kernel_rfl) (by kernel_rfl) (by kernel_rfl) (fun _ _ _ h => h) (by kernel_rfl) hT (fun _ => hS) (by kernel_rfl) ?_ ?_
      · intro wx hSw; go_split_ands; go_simp
      simp only [Act.put, List.getElem_toArray, List.getElem_cons_succ, List.getElem_cons_zero, List.setIfInBounds_toArray, List.set_cons_zero, List.set_cons_succ]
      generalize (V15.alloc (.cells (row .u8 [(c : Int)]) 5)) = Ub at hbV hT hS HXaV14V15bb HYaV15bb HYbbb HXb ⊢
      refine wpAnyT_held (i := 49) (v := ?_) rfl (by kernel_rfl) (by kernel_rfl) (by kernel_rfl) (fun _ _ _ h => h) (by kernel_rfl) hT (fun _ => hS) (by kernel_rfl) ?_ ?_
      rotate_left
      · intro wx hSw; go_split_ands; go_simp; try with_reducible rfl
      simp only [Act.put, List.getElem_toArray, List.getElem_cons_succ, List.getElem_cons_zero, List.setIfInBounds_toArray, List.set_cons_zero, List.set_cons_succ]
      refine wpAnyT_held (i := 50) (v := ?_) rfl (by kernel_rfl) (by kernel_rfl) (by kernel_rfl) (fun _ _ _ h => h) (by kernel_rfl) hT (fun _ => hS) (by kernel_rfl) ?_ ?_
      rotate_left
      · intro wx hSw; go_split_ands; go_simp; try with_reducible rfl
      simp only [Act.put, List.getElem_toArray, List.getElem_cons_succ, List.getElem_cons_zero, List.setIfInBounds_toArray, List.set_cons_zero, List.set_cons_succ]
      refine wpAnyT_held (i := 51) (v := ?_) rfl (by kernel_rfl) (by kernel_rfl) (by kernel_rfl) (fun _ _ _ h => h) (by kernel_rfl) hT (fun _ => hS) (by kernel_rfl) ?_ ?_
      rotate_left
      · intro wx hSw; go_split_ands; go_simp; try with_reducible rfl
      simp only [Act.put, List.getElem_toArray, List.getElem_cons_succ, List.getElem_cons_zero, List.setIfInBounds_toArray, List.set_cons_zero, List.set_cons_succ]
      refine wpAnyT_held (i := 53) (v := ?_) rfl (by kernel_rfl) (by kernel_rfl) (by kernel_rfl) (fun _ _ _ h => h) (by kernel_rfl) hT (fun _ => hS) (by kernel_rfl) ?_ ?_
      rotate_left
      · intro wx hSw; go_split_ands; go_simp; try with_reducible rfl
      simp only [Act.put, List.getElem_toArray, List.getElem_cons_succ, List.getElem_cons_zero, List.setIfInBounds_toArray, List.set_cons_zero, List.set_cons_succ]
      refine wpAnyT_one (i := 52) rfl (by kernel_rfl) (by kernel_rfl) (fun K hK => ?_)
      refine wpx_call _ _ (by kernel_rfl) ((HME.out _ D1 D2 _ BB (H2.out.far hbV) true).mono ?_)
      rintro z V16 ⟨rfl, hbn⟩
      refine ⟨_, rfl, ?_⟩
      have HXaV14V15bbV16 := Veil.mk (HXaV14V15bb.out.below hbn)
      have HYaV15bbV16 := Veil.mk (HYaV15bb.out.below hbn)
      have HYbbbV16 := Veil.mk (HYbbb.out.below hbn)
      have HXbV16 := Veil.mk (HXb.out.below hbn)
      replace hbV := hbV.trans (hbn.mono hbV.size)
      clear hbn
      replace hT : (fun W : World => W.rangeAt bt 0 [Value.int .u8 1, Value.int .u32 1] ∧ W.rangeAt bl 0 [Value.int .u8 1, Value.int .u32 2] ∧ (convert 43 9 (.slice (some ⟨V4.heap.size, 0, none⟩) 1 1)).run Try.prog W = .ok (.string SC) W ∧ (convert 43 9 (.slice txa 1 tca)).run Try.prog W = .ok (.string SC) W ∧ (convert 43 9 (.slice txb 1 tcb)).run Try.prog W = .ok (.string SC) W ∧ (convert 43 9 (.slice (some ⟨V15.heap.size, 0, none⟩) 1 1)).run Try.prog W = .ok (.string SC) W) V16 := ⟨(HT.out V16 hbV).1, (HT.out V16 hbV).2, HCV.out _ _ _ _ HXaV14V15bbV16.out, HCV.out _ _ _ _ HYaV15bbV16.out, HCV.out _ _ _ _ HYbbbV16.out, HCV.out _ _ _ _ HXbV16.out⟩
      replace hS : (fun _ : World => True) V16 := trivial
      refine hK.out _ _ hT (fun _ => hS) ?_
      clear hK K
      try simp only [Act.put, List.getElem_toArray, List.getElem_cons_succ, List.getElem_cons_zero, List.setIfInBounds_toArray, List.set_cons_zero, List.set_cons_succ]
      refine wpAnyT_one (i := 54) rfl (by kernel_rfl) (by kernel_rfl) (fun K hK => ?_)
      refine wpx_call _ _ (by kernel_rfl) ((HME.out _ D1 D2 _ BB (H2.out.far hbV) false).mono ?_)
      rintro z V17 ⟨rfl, hbn⟩
      refine ⟨_, rfl, ?_⟩
      have HXaV14V15bbV16V17 := Veil.mk (HXaV14V15bbV16.out.below hbn)
      have HYaV15bbV16V17 := Veil.mk (HYaV15bbV16.out.below hbn)
      have HYbbbV16V17 := Veil.mk (HYbbbV16.out.below hbn)
      have HXbV16V17 := Veil.mk (HXbV16.out.below hbn)
      replace hbV := hbV.trans (hbn.mono hbV.size)
      clear hbn
      replace hT : (fun W : World => W.rangeAt bt 0 [Value.int .u8 1, Value.int .u32 1] ∧ W.rangeAt bl 0 [Value.int .u8 1, Value.int .u32 2] ∧ (convert 43 9 (.slice (some ⟨V4.heap.size, 0, none⟩) 1 1)).run Try.prog W = .ok (.string SC) W ∧ (convert 43 9 (.slice txa 1 tca)).run Try.prog W = .ok (.string SC) W ∧ (convert 43 9 (.slice txb 1 tcb)).run Try.prog W = .ok (.string SC) W ∧ (convert 43 9 (.slice (some ⟨V15.heap.size, 0, none⟩) 1 1)).run Try.prog W = .ok (.string SC) W) V17 := ⟨(HT.out V17 hbV).1, (HT.out V17 hbV).2, HCV.out _ _ _ _ HXaV14V15bbV16V17.out, HCV.out _ _ _ _ HYaV15bbV16V17.out, HCV.out _ _ _ _ HYbbbV16V17.out, HCV.out _ _ _ _ HXbV16V17.out⟩
      replace hS : (fun _ : World => True) V17 := trivial
      refine hK.out _ _ hT (fun _ => hS) ?_
      clear hK K
      try simp only [Act.put, List.getElem_toArray, List.getElem_cons_succ, List.getElem_cons_zero, List.setIfInBounds_toArray, List.set_cons_zero, List.set_cons_succ]
      refine wpAnyT_held (i := 55) (v := .bool true) rfl (by kernel_rfl) (by kernel_rfl) (by kernel_rfl) (fun _ _ _ h => h) (by kernel_rfl) hT (fun _ => hS) (by kernel_rfl) ?_ ?_
      · intro wx hSw; go_split_ands; go_simp
      simp only [Act.put, List.getElem_toArray, List.getElem_cons_succ, List.getElem_cons_zero, List.setIfInBounds_toArray, List.set_cons_zero, List.set_cons_succ]
      refine wpAnyT_held (i := 56) (v := ?_) rfl (by kernel_rfl) (by kernel_rfl) (by kernel_rfl) (fun _ _ _ h => h) (by kernel_rfl) hT (fun _ => hS) (by kernel_rfl) ?_ ?_
      rotate_left
      · intro wx hSw; go_split_ands; go_simp; try with_reducible rfl
      simp only [Act.put, List.getElem_toArray, List.getElem_cons_succ, List.getElem_cons_zero, List.setIfInBounds_toArray, List.set_cons_zero, List.set_cons_succ]
      refine wpAnyT_held (i := 57) (v := ?_) rfl (by kernel_rfl) (by kernel_rfl) (by kernel_rfl) (fun _ _ _ h => h) (by kernel_rfl) hT (fun _ => hS) (by kernel_rfl) ?_ ?_
      rotate_left
      · intro wx hSw; go_split_ands; go_simp; try with_reducible rfl
      simp only [Act.put, List.getElem_toArray, List.getElem_cons_succ, List.getElem_cons_zero, List.setIfInBounds_toArray, List.set_cons_zero, List.set_cons_succ]
      refine wpAnyT_held (i := 58) (v := ?_) rfl (by kernel_rfl) (by kernel_rfl) (by kernel_rfl) (fun _ _ _ h => h) (by kernel_rfl) hT (fun _ => hS) (by kernel_rfl) ?_ ?_
      rotate_left
      · intro wx hSw; go_split_ands; go_simp; try with_reducible rfl
      simp only [Act.put, List.getElem_toArray, List.getElem_cons_succ, List.getElem_cons_zero, List.setIfInBounds_toArray, List.set_cons_zero, List.set_cons_succ]
      refine wpAnyT_one (i := 59) rfl (by kernel_rfl) (by kernel_rfl) (fun K hK => ?_)
      refine wpx_call _ _ (by kernel_rfl) ((HME.out _ D1 D2 _ BB (H2.out.far hbV) true).mono ?_)
      rintro z V18 ⟨rfl, hbn⟩
      refine ⟨_, rfl, ?_⟩
      have HXaV14V15bbV16V17V18 := Veil.mk (HXaV14V15bbV16V17.out.below hbn)
      have HYaV15bbV16V17V18 := Veil.mk (HYaV15bbV16V17.out.below hbn)
      have HYbbbV16V17V18 := Veil.mk (HYbbbV16V17.out.below hbn)
      have HXbV16V17V18 := Veil.mk (HXbV16V17.out.below hbn)
      replace hbV := hbV.trans (hbn.mono hbV.size)
      clear hbn
      replace hT : (fun W : World => W.rangeAt bt 0 [Value.int .u8 1, Value.int .u32 1] ∧ W.rangeAt bl 0 [Value.int .u8 1, Value.int .u32 2] ∧ (convert 43 9 (.slice (some ⟨V4.heap.size, 0, none⟩) 1 1)).run Try.prog W = .ok (.string SC) W ∧ (convert 43 9 (.slice txa 1 tca)).run Try.prog W = .ok (.string SC) W ∧ (convert 43 9 (.slice txb 1 tcb)).run Try.prog W = .ok (.string SC) W ∧ (convert 43 9 (.slice (some ⟨V15.heap.size, 0, none⟩) 1 1)).run Try.prog W = .ok (.string SC) W) V18 := ⟨(HT.out V18 hbV).1, (HT.out V18 hbV).2, HCV.out _ _ _ _ HXaV14V15bbV16V17V18.out, HCV.out _ _ _ _ HYaV15bbV16V17V18.out, HCV.out _ _ _ _ HYbbbV16V17V18.out, HCV.out _ _ _ _ HXbV16V17V18.out⟩
      replace hS : (fun _ : World => True) V18 := trivial
      refine hK.out _ _ hT (fun _ => hS) ?_
      clear hK K
      try simp only [Act.put, List.getElem_toArray, List.getElem_cons_succ, List.getElem_cons_zero, List.setIfInBounds_toArray, List.set_cons_zero, List.set_cons_succ]
      refine wpAnyT_held (i := 60) (v := .int .u8 0) rfl (by kernel_rfl) (by kernel_rfl) (by kernel_rfl) (fun _ _ _ h => h) (by kernel_rfl) hT (fun _ => hS) (by kernel_rfl) ?_ ?_
      · intro wx hSw; go_split_ands; go_simp
      simp only [Act.put, List.getElem_toArray, List.getElem_cons_succ, List.getElem_cons_zero, List.setIfInBounds_toArray, List.set_cons_zero, List.set_cons_succ]
      refine wpAnyT_held (i := 61) (v := ?_) rfl (by kernel_rfl) (by kernel_rfl) (by kernel_rfl) (fun _ _ _ h => h) (by kernel_rfl) hT (fun _ => hS) (by kernel_rfl) ?_ ?_
      rotate_left
      · intro wx hSw; go_split_ands; go_simp; try with_reducible rfl
      simp only [Act.put, List.getElem_toArray, List.getElem_cons_succ, List.getElem_cons_zero, List.setIfInBounds_toArray, List.set_cons_zero, List.set_cons_succ]
      refine wpAnyT_held (i := 62) (v := ?_) rfl (by kernel_rfl) (by kernel_rfl) (by kernel_rfl) (fun _ _ _ h => h) (by kernel_rfl) hT (fun _ => hS) (by kernel_rfl) ?_ ?_
      rotate_left
      · intro wx hSw; go_split_ands; go_simp; try with_reducible rfl
      simp only [Act.put, List.getElem_toArray, List.getElem_cons_succ, List.getElem_cons_zero, List.setIfInBounds_toArray, List.set_cons_zero, List.set_cons_succ]
      refine wpAnyT_held (i := 63) (v := ?_) rfl (by kernel_rfl) (by kernel_rfl) (by kernel_rfl) (fun _ _ _ h => h) (by kernel_rfl) hT (fun _ => hS) (by kernel_rfl) ?_ ?_
      rotate_left
      · intro wx hSw; go_split_ands; go_simp; try with_reducible rfl
      simp only [Act.put, List.getElem_toArray, List.getElem_cons_succ, List.getElem_cons_zero, List.setIfInBounds_toArray, List.set_cons_zero, List.set_cons_succ]
      refine wpAnyT_done (by kernel_rfl) ?_ _
      clear hT hS
      have HQ := Veil.mk (HB6.out _ hbV)
      clear hbV
      go_wp2
      go_ret
      exact ⟨rfl, HQ.out⟩
    · have hmk := trivial
      refine wp_buildSlice 43 5 1 _ rfl (row .u8 [(c : Int)]) iu _ Try.underlying43 hiu huz (by rw [hus]; decide) (by rw [hus]; decide) (by rw [hus]; kernel_rfl) ?_
      have hbn := (HNB.out V14).2
      have HXb := Veil.mk (HNB.out V14).1
      have HXaV14cb := Veil.mk (HXaV14.out.below hbn)
      have HYacb := Veil.mk (HYa.out.below hbn)
      replace hbV := hbV.trans (hbn.mono hbV.size)
      clear hbn
      replace hT : (fun W : World => W.rangeAt bt 0 [Value.int .u8 1, Value.int .u32 1] ∧ W.rangeAt bl 0 [Value.int .u8 1, Value.int .u32 2] ∧ (convert 43 9 (.slice (some ⟨V4.heap.size, 0, none⟩) 1 1)).run Try.prog W = .ok (.string SC) W ∧ (convert 43 9 (.slice txa 1 tca)).run Try.prog W = .ok (.string SC) W) (V14.alloc (.cells (row .u8 [(c : Int)]) 5)) := ⟨(HT.out (V14.alloc (.cells (row .u8 [(c : Int)]) 5)) hbV).1, (HT.out (V14.alloc (.cells (row .u8 [(c : Int)]) 5)) hbV).2, HCV.out _ _ _ _ HXaV14cb.out, HCV.out _ _ _ _ HYacb.out⟩
      replace hS : (fun _ : World => True) (V14.alloc (.cells (row .u8 [(c : Int)]) 5)) := trivial
      refine hK.out _ _ hT (fun _ => hS) ?_
      clear hK K
      try simp only [Act.put, List.getElem_toArray, List.getElem_cons_succ, List.getElem_cons_zero, List.setIfInBounds_toArray, List.set_cons_zero, List.set_cons_succ]
      refine wpAnyT_more (T' := fun W : World => W.rangeAt bt 0 [Value.int .u8 1, Value.int .u32 1] ∧ W.rangeAt bl 0 [Value.int .u8 1, Value.int .u32 2] ∧ (convert 43 9 (.slice (some ⟨V4.heap.size, 0, none⟩) 1 1)).run Try.prog W = .ok (.string SC) W ∧ (convert 43 9 (.slice txa 1 tca)).run Try.prog W = .ok (.string SC) W ∧ (convert 43 9 (.slice (some ⟨V14.heap.size, 0, none⟩) 1 1)).run Try.prog W = .ok (.string SC) W) (fun _ h => ⟨h.1, h.2.1, h.2.2.1, h.2.2.2.1⟩) _ _ _ _ ?_
      replace hT : (fun W : World => W.rangeAt bt 0 [Value.int .u8 1, Value.int .u32 1] ∧ W.rangeAt bl 0 [Value.int .u8 1, Value.int .u32 2] ∧ (convert 43 9 (.slice (some ⟨V4.heap.size, 0, none⟩) 1 1)).run Try.prog W = .ok (.string SC) W ∧ (convert 43 9 (.slice txa 1 tca)).run Try.prog W = .ok (.string SC) W ∧ (convert 43 9 (.slice (some ⟨V14.heap.size, 0, none⟩) 1 1)).run Try.prog W = .ok (.string SC) W) (V14.alloc (.cells (row .u8 [(c : Int)]) 5)) := ⟨(HT.out (V14.alloc (.cells (row .u8 [(c : Int)]) 5)) hbV).1, (HT.out (V14.alloc (.cells (row .u8 [(c : Int)]) 5)) hbV).2, HCV.out _ _ _ _ HXaV14cb.out, HCV.out _ _ _ _ HYacb.out, HCV.out _ _ _ _ HXb.out⟩
      refine wpAnyT_held (i := 47) (v := ?_) rfl (by kernel_rfl) (by kernel_rfl) (by kernel_rfl) (fun _ _ _ h => h) (by kernel_rfl) hT (fun _ => hS) (by kernel_rfl) ?_ ?_
      rotate_left
      · intro wx hSw; go_split_ands; go_simp; try with_reducible rfl
      simp only [Act.put, List.getElem_toArray, List.getElem_cons_succ, List.getElem_cons_zero, List.setIfInBounds_toArray, List.set_cons_zero, List.set_cons_succ]
      refine wpAnyT_one (i := 43) rfl (by kernel_rfl) (by kernel_rfl) (fun K hK => ?_)
      refine wpx_call _ _ (by kernel_rfl) ((HTX.out _ D1 D2 _ BB (H2.out.far hbV) false).mono ?_)
      rintro z V19 ⟨txb, tcb, rfl, hyb, hbn⟩
      refine ⟨_, rfl, ?_⟩
      have HXaV14cbV19 := Veil.mk (HXaV14cb.out.below hbn)
      have HYacbV19 := Veil.mk (HYacb.out.below hbn)
      have HXbV19 := Veil.mk (HXb.out.below hbn)
      have HYb := Veil.mk hyb
      clear hyb
      replace hbV := hbV.trans (hbn.mono hbV.size)
      clear hbn
      replace hT : (fun W : World => W.rangeAt bt 0 [Value.int .u8 1, Value.int .u32 1] ∧ W.rangeAt bl 0 [Value.int .u8 1, Value.int .u32 2] ∧ (convert 43 9 (.slice (some ⟨V4.heap.size, 0, none⟩) 1 1)).run Try.prog W = .ok (.string SC) W ∧ (convert 43 9 (.slice txa 1 tca)).run Try.prog W = .ok (.string SC) W ∧ (convert 43 9 (.slice (some ⟨V14.heap.size, 0, none⟩) 1 1)).run Try.prog W = .ok (.string SC) W) V19 := ⟨(HT.out V19 hbV).1, (HT.out V19 hbV).2, HCV.out _ _ _ _ HXaV14cbV19.out, HCV.out _ _ _ _ HYacbV19.out, HCV.out _ _ _ _ HXbV19.out⟩
      replace hS : (fun _ : World => True) V19 := trivial
      refine hK.out _ _ hT (fun _ => hS) ?_
      clear hK K
      try simp only [Act.put, List.getElem_toArray, List.getElem_cons_succ, List.getElem_cons_zero, List.setIfInBounds_toArray, List.set_cons_zero, List.set_cons_succ]
      refine wpAnyT_more (T' := fun W : World => W.rangeAt bt 0 [Value.int .u8 1, Value.int .u32 1] ∧ W.rangeAt bl 0 [Value.int .u8 1, Value.int .u32 2] ∧ (convert 43 9 (.slice (some ⟨V4.heap.size, 0, none⟩) 1 1)).run Try.prog W = .ok (.string SC) W ∧ (convert 43 9 (.slice txa 1 tca)).run Try.prog W = .ok (.string SC) W ∧ (convert 43 9 (.slice (some ⟨V14.heap.size, 0, none⟩) 1 1)).run Try.prog W = .ok (.string SC) W ∧ (convert 43 9 (.slice txb 1 tcb)).run Try.prog W = .ok (.string SC) W) (fun _ h => ⟨h.1, h.2.1, h.2.2.1, h.2.2.2.1, h.2.2.2.2.1⟩) _ _ _ _ ?_
      replace hT : (fun W : World => W.rangeAt bt 0 [Value.int .u8 1, Value.int .u32 1] ∧ W.rangeAt bl 0 [Value.int .u8 1, Value.int .u32 2] ∧ (convert 43 9 (.slice (some ⟨V4.heap.size, 0, none⟩) 1 1)).run Try.prog W = .ok (.string SC) W ∧ (convert 43 9 (.slice txa 1 tca)).run Try.prog W = .ok (.string SC) W ∧ (convert 43 9 (.slice (some ⟨V14.heap.size, 0, none⟩) 1 1)).run Try.prog W = .ok (.string SC) W ∧ (convert 43 9 (.slice txb 1 tcb)).run Try.prog W = .ok (.string SC) W) V19 := ⟨(HT.out V19 hbV).1, (HT.out V19 hbV).2, HCV.out _ _ _ _ HXaV14cbV19.out, HCV.out _ _ _ _ HYacbV19.out, HCV.out _ _ _ _ HXbV19.out, HCV.out _ _ _ _ HYb.out⟩
      refine wpAnyT_held (i := 44) (v := ?_) rfl (by kernel_rfl) (by kernel_rfl) (by kernel_rfl) (fun _ _ _ h => h) (by kernel_rfl) hT (fun _ => hS) (by kernel_rfl) ?_ ?_
      rotate_left
      · intro wx hSw; go_split_ands; go_simp; try with_reducible rfl
      simp only [Act.put, List.getElem_toArray, List.getElem_cons_succ, List.getElem_cons_zero, List.setIfInBounds_toArray, List.set_cons_zero, List.set_cons_succ]
      refine wpAnyT_held (i := 48) (v := .bool true) rfl (by kernel_rfl) (by kernel_rfl) (by kernel_rfl) (fun _ _ _ h => h) (by kernel_rfl) hT (fun _ => hS) (by kernel_rfl) ?_ ?_
      · intro wx hSw; go_split_ands; go_simp
      simp only [Act.put, List.getElem_toArray, List.getElem_cons_succ, List.getElem_cons_zero, List.setIfInBounds_toArray, List.set_cons_zero, List.set_cons_succ]
      refine wpAnyT_held (i := 49) (v := ?_) rfl (by kernel_rfl) (by kernel_rfl) (by kernel_rfl) (fun _ _ _ h => h) (by kernel_rfl) hT (fun _ => hS) (by kernel_rfl) ?_ ?_
      rotate_left
      · intro wx hSw; go_split_ands; go_simp; try with_reducible rfl
      simp only [Act.put, List.getElem_toArray, List.getElem_cons_succ, List.getElem_cons_zero, List.setIfInBounds_toArray, List.set_cons_zero, List.set_cons_succ]
      refine wpAnyT_held (i := 50) (v := ?_) rfl (by kernel_rfl) (by kernel_rfl) (by kernel_rfl) (fun _ _ _ h => h) (by kernel_rfl) hT (fun _ => hS) (by kernel_rfl) ?_ ?_
      rotate_left
      · intro wx hSw; go_split_ands; go_simp; try with_reducible rfl
      simp only [Act.put, List.getElem_toArray, List.getElem_cons_succ, List.getElem_cons_zero, List.setIfInBounds_toArray, List.set_cons_zero, List.set_cons_succ]
      refine wpAnyT_held (i := 51) (v := ?_) rfl (by kernel_rfl) (by kernel_rfl) (by kernel_rfl) (fun _ _ _ h => h) (by kernel_rfl) hT (fun _ => hS) (by kernel_rfl) ?_ ?_
      rotate_left
      · intro wx hSw; go_split_ands; go_simp; try with_reducible rfl
      simp only [Act.put, List.getElem_toArray, List.getElem_cons_succ, List.getElem_cons_zero, List.setIfInBounds_toArray, List.set_cons_zero, List.set_cons_succ]
      refine wpAnyT_held (i := 53) (v := ?_) rfl (by kernel_rfl) (by kernel_rfl) (by kernel_rfl) (fun _ _ _ h => h) (by kernel_rfl) hT (fun _ => hS) (by kernel_rfl) ?_ ?_
      rotate_left
      · intro wx hSw; go_split_ands; go_simp; try with_reducible rfl
      simp only [Act.put, List.getElem_toArray, List.getElem_cons_succ, List.getElem_cons_zero, List.setIfInBounds_toArray, List.set_cons_zero, List.set_cons_succ]
      refine wpAnyT_one (i := 52) rfl (by kernel_rfl) (by kernel_rfl) (fun K hK => ?_)
      refine wpx_call _ _ (by kernel_rfl) ((HME.out _ D1 D2 _ BB (H2.out.far hbV) true).mono ?_)
      rintro z V20 ⟨rfl, hbn⟩
      refine ⟨_, rfl, ?_⟩
      have HXaV14cbV19V20 := Veil.mk (HXaV14cbV19.out.below hbn)
      have HYacbV19V20 := Veil.mk (HYacbV19.out.below hbn)
      have HXbV19V20 := Veil.mk (HXbV19.out.below hbn)
      have HYbV20 := Veil.mk (HYb.out.below hbn)
      replace hbV := hbV.trans (hbn.mono hbV.size)
      clear hbn
      replace hT : (fun W : World => W.rangeAt bt 0 [Value.int .u8 1, Value.int .u32 1] ∧ W.rangeAt bl 0 [Value.int .u8 1, Value.int .u32 2] ∧ (convert 43 9 (.slice (some ⟨V4.heap.size, 0, none⟩) 1 1)).run Try.prog W = .ok (.string SC) W ∧ (convert 43 9 (.slice txa 1 tca)).run Try.prog W = .ok (.string SC) W ∧ (convert 43 9 (.slice (some ⟨V14.heap.size, 0, none⟩) 1 1)).run Try.prog W = .ok (.string SC) W ∧ (convert 43 9 (.slice txb 1 tcb)).run Try.prog W = .ok (.string SC) W) V20 := ⟨(HT.out V20 hbV).1, (HT.out V20 hbV).2, HCV.out _ _ _ _ HXaV14cbV19V20.out, HCV.out _ _ _ _ HYacbV19V20.out, HCV.out _ _ _ _ HXbV19V20.out, HCV.out _ _ _ _ HYbV20.out⟩
      replace hS : (fun _ : World => True) V20 := trivial
      refine hK.out _ _ hT (fun _ => hS) ?_
      clear hK K
      try simp only [Act.put, List.getElem_toArray, List.getElem_cons_succ, List.getElem_cons_zero, List.setIfInBounds_toArray, List.set_cons_zero, List.set_cons_succ]
      refine wpAnyT_one (i := 54) rfl (by kernel_rfl) (by kernel_rfl) (fun K hK => ?_)
      refine wpx_call _ _ (by kernel_rfl) ((HME.out _ D1 D2 _ BB (H2.out.far hbV) false).mono ?_)
      rintro z V21 ⟨rfl, hbn⟩
      refine ⟨_, rfl, ?_⟩
      have HXaV14cbV19V20V21 := Veil.mk (HXaV14cbV19V20.out.below hbn)
      have HYacbV19V20V21 := Veil.mk (HYacbV19V20.out.below hbn)
      have HXbV19V20V21 := Veil.mk (HXbV19V20.out.below hbn)
      have HYbV20V21 := Veil.mk (HYbV20.out.below hbn)
      replace hbV := hbV.trans (hbn.mono hbV.size)
      clear hbn
      replace hT : (fun W : World => W.rangeAt bt 0 [Value.int .u8 1, Value.int .u32 1] ∧ W.rangeAt bl 0 [Value.int .u8 1, Value.int .u32 2] ∧ (convert 43 9 (.slice (some ⟨V4.heap.size, 0, none⟩) 1 1)).run Try.prog W = .ok (.string SC) W ∧ (convert 43 9 (.slice txa 1 tca)).run Try.prog W = .ok (.string SC) W ∧ (convert 43 9 (.slice (some ⟨V14.heap.size, 0, none⟩) 1 1)).run Try.prog W = .ok (.string SC) W ∧ (convert 43 9 (.slice txb 1 tcb)).run Try.prog W = .ok (.string SC) W) V21 := ⟨(HT.out V21 hbV).1, (HT.out V21 hbV).2, HCV.out _ _ _ _ HXaV14cbV19V20V21.out, HCV.out _ _ _ _ HYacbV19V20V21.out, HCV.out _ _ _ _ HXbV19V20V21.out, HCV.out _ _ _ _ HYbV20V21.out⟩
      replace hS : (fun _ : World => True) V21 := trivial
      refine hK.out _ _ hT (fun _ => hS) ?_
      clear hK K
      try simp only [Act.put, List.getElem_toArray, List.getElem_cons_succ, List.getElem_cons_zero, List.setIfInBounds_toArray, List.set_cons_zero, List.set_cons_succ]
      refine wpAnyT_held (i := 55) (v := .bool true) rfl (by kernel_rfl) (by kernel_rfl) (by kernel_rfl) (fun _ _ _ h => h) (by kernel_rfl) hT (fun _ => hS) (by kernel_rfl) ?_ ?_
      · intro wx hSw; go_split_ands; go_simp
      simp only [Act.put, List.getElem_toArray, List.getElem_cons_succ, List.getElem_cons_zero, List.setIfInBounds_toArray, List.set_cons_zero, List.set_cons_succ]
      refine wpAnyT_held (i := 56) (v := ?_) rfl (by kernel_rfl) (by kernel_rfl) (by kernel_rfl) (fun _ _ _ h => h) (by kernel_rfl) hT (fun _ => hS) (by kernel_rfl) ?_ ?_
      rotate_left
      · intro wx hSw; go_split_ands; go_simp; try with_reducible rfl
      simp only [Act.put, List.getElem_toArray, List.getElem_cons_succ, List.getElem_cons_zero, List.setIfInBounds_toArray, List.set_cons_zero, List.set_cons_succ]
      refine wpAnyT_held (i := 57) (v := ?_) rfl (by kernel_rfl) (by kernel_rfl) (by kernel_rfl) (fun _ _ _ h => h) (by kernel_rfl) hT (fun _ => hS) (by kernel_rfl) ?_ ?_
      rotate_left
      · intro wx hSw; go_split_ands; go_simp; try with_reducible rfl
      simp only [Act.put, List.getElem_toArray, List.getElem_cons_succ, List.getElem_cons_zero, List.setIfInBounds_toArray, List.set_cons_zero, List.set_cons_succ]
      refine wpAnyT_held (i := 58) (v := ?_) rfl (by kernel_rfl) (by kernel_rfl) (by kernel_rfl) (fun _ _ _ h => h) (by kernel_rfl) hT (fun _ => hS) (by kernel_rfl) ?_ ?_
      rotate_left
      · intro wx hSw; go_split_ands; go_simp; try with_reducible rfl
      simp only [Act.put, List.getElem_toArray, List.getElem_cons_succ, List.getElem_cons_zero, List.setIfInBounds_toArray, List.set_cons_zero, List.set_cons_succ]
      refine wpAnyT_one (i := 59) rfl (by kernel_rfl) (by kernel_rfl) (fun K hK => ?_)
      refine wpx_call _ _ (by kernel_rfl) ((HME.out _ D1 D2 _ BB (H2.out.far hbV) true).mono ?_)
      rintro z V22 ⟨rfl, hbn⟩
      refine ⟨_, rfl, ?_⟩
      have HXaV14cbV19V20V21V22 := Veil.mk (HXaV14cbV19V20V21.out.below hbn)
      have HYacbV19V20V21V22 := Veil.mk (HYacbV19V20V21.out.below hbn)
      have HXbV19V20V21V22 := Veil.mk (HXbV19V20V21.out.below hbn)
      have HYbV20V21V22 := Veil.mk (HYbV20V21.out.below hbn)
      replace hbV := hbV.trans (hbn.mono hbV.size)
      clear hbn
      replace hT : (fun W : World => W.rangeAt bt 0 [Value.int .u8 1, Value.int .u32 1] ∧ W.rangeAt bl 0 [Value.int .u8 1, Value.int .u32 2] ∧ (convert 43 9 (.slice (some ⟨V4.heap.size, 0, none⟩) 1 1)).run Try.prog W = .ok (.string SC) W ∧ (convert 43 9 (.slice txa 1 tca)).run Try.prog W = .ok (.string SC) W ∧ (convert 43 9 (.slice (some ⟨V14.heap.size, 0, none⟩) 1 1)).run Try.prog W = .ok (.string SC) W ∧ (convert 43 9 (.slice txb 1 tcb)).run Try.prog W = .ok (.string SC) W) V22 := ⟨(HT.out V22 hbV).1, (HT.out V22 hbV).2, HCV.out _ _ _ _ HXaV14cbV19V20V21V22.out, HCV.out _ _ _ _ HYacbV19V20V21V22.out, HCV.out _ _ _ _ HXbV19V20V21V22.out, HCV.out _ _ _ _ HYbV20V21V22.out⟩
      replace hS : (fun _ : World => True) V22 := trivial
      refine hK.out _ _ hT (fun _ => hS) ?_
      clear hK K
      try simp only [Act.put, List.getElem_toArray, List.getElem_cons_succ, List.getElem_cons_zero, List.setIfInBounds_toArray, List.set_cons_zero, List.set_cons_succ]
      refine wpAnyT_held (i := 60) (v := .int .u8 0) rfl (by kernel_rfl) (by kernel_rfl) (by kernel_rfl) (fun _ _ _ h => h) (by kernel_rfl) hT (fun _ => hS) (by kernel_rfl) ?_ ?_
      · intro wx hSw; go_split_ands; go_simp
      simp only [Act.put, List.getElem_toArray, List.getElem_cons_succ, List.getElem_cons_zero, List.setIfInBounds_toArray, List.set_cons_zero, List.set_cons_succ]
      refine wpAnyT_held (i := 61) (v := ?_) rfl (by kernel_rfl) (by kernel_rfl) (by kernel_rfl) (fun _ _ _ h => h) (by kernel_rfl) hT (fun _ => hS) (by kernel_rfl) ?_ ?_
      rotate_left
      · intro wx hSw; go_split_ands; go_simp; try with_reducible rfl
      simp only [Act.put, List.getElem_toArray, List.getElem_cons_succ, List.getElem_cons_zero, List.setIfInBounds_toArray, List.set_cons_zero, List.set_cons_succ]
      refine wpAnyT_held (i := 62) (v := ?_) rfl (by kernel_rfl) (by kernel_rfl) (by kernel_rfl) (fun _ _ _ h => h) (by kernel_rfl) hT (fun _ => hS) (by kernel_rfl) ?_ ?_
      rotate_left
      · intro wx hSw; go_split_ands; go_simp; try with_reducible rfl
      simp only [Act.put, List.getElem_toArray, List.getElem_cons_succ, List.getElem_cons_zero, List.setIfInBounds_toArray, List.set_cons_zero, List.set_cons_succ]
      refine wpAnyT_held (i := 63) (v := ?_) rfl (by kernel_rfl) (by kernel_rfl) (by kernel_rfl) (fun _ _ _ h => h) (by kernel_rfl) hT (fun _ => hS) (by kernel_rfl) ?_ ?_
      rotate_left
      · intro wx hSw; go_split_ands; go_simp; try with_reducible rfl
      simp only [Act.put, List.getElem_toArray, List.getElem_cons_succ, List.getElem_cons_zero, List.setIfInBounds_toArray, List.set_cons_zero, List.set_cons_succ]
      refine wpAnyT_done (by kernel_rfl) ?_ _
      clear hT hS
      have HQ := Veil.mk (HB6.out _ hbV)
      clear hbV
      go_wp2
      go_ret
      exact ⟨rfl, HQ.out⟩
end Go.Proofs.Ytgmbmdmbnpkbbaa

