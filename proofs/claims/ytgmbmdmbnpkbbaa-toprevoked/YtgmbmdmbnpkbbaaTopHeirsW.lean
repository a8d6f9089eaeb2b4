/- TopHeirs, walked. -/
import Derived.Test.YtgmbmdmbnpkbbaaHt1
import Derived.Test.YtgmbmdmbnpkbbaaMHt2Dc18Ht3
namespace Go.Proofs.Ytgmbmdmbnpkbbaa
open Go.RowKit Go.Shelf
set_option maxRecDepth 20000
set_option linter.unusedSimpArgs false
theorem AtD.give {base : Nat} {W : World} {st : Ds} {D : Nat} (h : AtD base W st D) (hG : GoodD st) (a who role : Int) (ha : 0 ≤ a) : Calls Try.prog 7 #[.pointer (some ⟨D, 0, none⟩), .int .u8 a, .int .u8 who, .int .u8 role] W fun r w' => r = .returned (.tuple #[.agg (tellG st a who role).1.cells.toArray, .int .i64 (tellG st a who role).2]) ∧ Below W.heap.size W w' := by
  obtain ⟨p, rfl, hD, -⟩ := h
  exact dGive_any base st p a who role W hD hG ha
theorem AtD.take {base : Nat} {W : World} {st : Ds} {D : Nat} (h : AtD base W st D) (hG : GoodD st) (a who : Int) (ha : 0 ≤ a) : Calls Try.prog 9 #[.pointer (some ⟨D, 0, none⟩), .int .u8 a, .int .u8 who] W fun r w' => r = .returned (.tuple #[.agg (tellT st a who).1.cells.toArray, .int .i64 (tellT st a who).2]) ∧ Below W.heap.size W w' := by
  obtain ⟨p, rfl, hD, -⟩ := h
  exact dTake_any base st p a who W hD hG ha
theorem AtD.members {base : Nat} {W : World} {st : Ds} {D : Nat} (h : AtD base W st D) (hG : GoodD st) : Calls Try.prog 16 #[.pointer (some ⟨D, 0, none⟩)] W fun r w' => r = .returned (.agg (row .u8 (membersL st.B st.S))) ∧ Below W.heap.size W w' := by
  obtain ⟨p, rfl, hD, -⟩ := h
  exact dMembers_any base st p W hD hG
set_option maxHeartbeats 16000000 in
theorem heirs_walk (x y : Int) (hx : 0 ≤ x ∧ x ≤ 255) (hy : 0 ≤ y ∧ y ≤ 255) (w : World) :
    Calls Try.prog 5 #[.int .u8 x, .int .u8 y] w fun e w' => e = .returned (.bool true) ∧ Below w.heap.size w w' := by
  obtain ⟨xr, a, hxm, hxw, ha1, ha7⟩ : ∃ (xr : Int) (a : Nat), x.tmod 7 = xr ∧ IntKind.u8.wrap (xr + 1) = (a : Int) ∧ 1 ≤ a ∧ a ≤ 7 := by
    refine ⟨x % 7, (x % 7 + 1).toNat, Int.tmod_eq_emod_of_nonneg hx.1, ?_, by omega, by omega⟩
    rw [IntKind.wrap_u8]; omega
  obtain ⟨yr, b, hym, hyw, hb1, hb7⟩ : ∃ (yr : Int) (b : Nat), y.tmod 7 = yr ∧ IntKind.u8.wrap (yr + 1) = (b : Int) ∧ 1 ≤ b ∧ b ≤ 7 := by
    refine ⟨y % 7, (y % 7 + 1).toNat, Int.tmod_eq_emod_of_nonneg hy.1, ?_, by omega, by omega⟩
    rw [IntKind.wrap_u8]; omega
  clear hx hy
  by_cases hab : a = b
  · subst hab
    have hnb := bnew_any w
    have haa : ((a : Int) == (a : Int)) = true := by simp
    have HRO : Veil (∀ W H bk, BookC W H bk [] → Calls Try.prog 22 #[.pointer (some ⟨H, 0, none⟩), .int .u8 0, .agg #[.int .u32 0, .int .u32 0, .int .u32 0, .int .u32 0, .int .u32 0, .int .u32 0, .int .u32 0, .int .u32 0]] W fun r w' => r = .returned (.int .u8 3) ∧ Below W.heap.size W w') := ⟨fun W H bk h => by
      have := role_any H bk [] 0 [0, 0, 0, 0, 0, 0, 0, 0] W h rfl
      rw [show roleP [] 0 [0, 0, 0, 0, 0, 0, 0, 0] = 3 by decide] at this
      exact this⟩
    go_enter Try.func5, Try.ntmps5
    go_wp2_with (first
      | (go_at_call 21; refine hnb.mono ?_; rintro z W1 ⟨H, bk, rfl, hK, hb1, -, -⟩; have hro := HRO.out W1 H bk hK; clear hnb)
      | (go_at_call 22; refine hro.mono ?_; rintro z W2 ⟨rfl, hb2⟩; clear hro))
    go_ret
    exact ⟨rfl, hb1.trans (hb2.mono hb1.size)⟩
  have hH := heirs ⟨ha1, ha7⟩ ⟨hb1, hb7⟩ hab
  have habb : ((a : Int) == (b : Int)) = false := by simp; omega
  have habz : ¬ (a : Int) = (b : Int) := by omega
  obtain ⟨A, hA⟩ : ∃ q : Int, (a : Int) = q := ⟨_, rfl⟩
  obtain ⟨B, hB⟩ : ∃ q : Int, (b : Int) = q := ⟨_, rfl⟩
  have g0 := GoodD.new
  have o1 : (hE1 (a : Int)).Ok := nextE_ok g0 (by omega) (by omega) (by omega) (by omega)
  have g1 : GoodD (hS1 (a : Int)) := g0.ap o1 hH.r1
  have o2 : (hE2 (a : Int) (b : Int)).Ok := nextE_ok g1 (by omega) (by omega) (by omega) (by omega)
  have g2 : GoodD (hS2 (a : Int) (b : Int)) := g1.ap o2 hH.r2
  have o3 : (hE3 (a : Int) (b : Int)).Ok := nextE_ok g2 (by omega) (by omega) (by omega) (by omega)
  have g3 : GoodD (hS3 (a : Int) (b : Int)) := g2.ap o3 hH.r3
  have HG1 : Veil (∀ W D, AtD w.heap.size W newS D → Calls Try.prog 7 #[.pointer (some ⟨D, 0, none⟩), .int .u8 0, .int .u8 (a : Int), .int .u8 3] W fun r w' => r = .returned (.tuple #[.agg (hE1 (a : Int)).cells.toArray, .int .i64 0]) ∧ Below W.heap.size W w') := ⟨fun W D h => by
    have := h.give g0 0 (a : Int) 3 (by omega)
    rw [tellG_ok hH.f1] at this
    exact this⟩
  have HG2 : Veil (∀ W D, AtD w.heap.size W (hS1 (a : Int)) D → Calls Try.prog 7 #[.pointer (some ⟨D, 0, none⟩), .int .u8 (a : Int), .int .u8 (b : Int), .int .u8 2] W fun r w' => r = .returned (.tuple #[.agg (hE2 (a : Int) (b : Int)).cells.toArray, .int .i64 0]) ∧ Below W.heap.size W w') := ⟨fun W D h => by
    have := h.give g1 (a : Int) (b : Int) 2 (by omega)
    rw [tellG_ok hH.f2] at this
    exact this⟩
  have HG3 : Veil (∀ W D, AtD w.heap.size W (hS2 (a : Int) (b : Int)) D → Calls Try.prog 9 #[.pointer (some ⟨D, 0, none⟩), .int .u8 0, .int .u8 (a : Int)] W fun r w' => r = .returned (.tuple #[.agg (hE3 (a : Int) (b : Int)).cells.toArray, .int .i64 0]) ∧ Below W.heap.size W w') := ⟨fun W D h => by
    have := h.take g2 0 (a : Int) (by omega)
    rw [tellT_ok hH.f3] at this
    exact this⟩
  have HG4 : Veil (∀ W D, AtD w.heap.size W (hS3 (a : Int) (b : Int)) D → Calls Try.prog 7 #[.pointer (some ⟨D, 0, none⟩), .int .u8 (a : Int), .int .u8 (b : Int), .int .u8 3] W fun r w' => r = .returned (.tuple #[.agg zC.toArray, .int .i64 8]) ∧ Below W.heap.size W w') := ⟨fun W D h => by
    have := h.give g3 (a : Int) (b : Int) 3 (by omega)
    rw [tellG_bad hH.f4 (by decide)] at this
    exact this⟩
  have HA1 : Veil (∀ W D, AtD w.heap.size W newS D → w.heap.size ≤ W.heap.size → Calls Try.prog 8 #[.pointer (some ⟨D, 0, none⟩), .agg (hE1 (a : Int)).cells.toArray, .int .i64 0] W fun r w' => r = .returned (.bool true) ∧ AtD w.heap.size w' (hS1 (a : Int)) D ∧ Below w.heap.size W w') := ⟨fun W D h hb => applied_any _ newS D _ W h g0 o1 hH.r1 hb⟩
  have HA2 : Veil (∀ W D, AtD w.heap.size W (hS1 (a : Int)) D → w.heap.size ≤ W.heap.size → Calls Try.prog 8 #[.pointer (some ⟨D, 0, none⟩), .agg (hE2 (a : Int) (b : Int)).cells.toArray, .int .i64 0] W fun r w' => r = .returned (.bool true) ∧ AtD w.heap.size w' (hS2 (a : Int) (b : Int)) D ∧ Below w.heap.size W w') := ⟨fun W D h hb => applied_any _ _ D _ W h g1 o2 hH.r2 hb⟩
  have HA3 : Veil (∀ W D, AtD w.heap.size W (hS2 (a : Int) (b : Int)) D → w.heap.size ≤ W.heap.size → Calls Try.prog 8 #[.pointer (some ⟨D, 0, none⟩), .agg (hE3 (a : Int) (b : Int)).cells.toArray, .int .i64 0] W fun r w' => r = .returned (.bool true) ∧ AtD w.heap.size w' (hS3 (a : Int) (b : Int)) D ∧ Below w.heap.size W w') := ⟨fun W D h hb => applied_any _ _ D _ W h g2 o3 hH.r3 hb⟩
  obtain ⟨J, hJ⟩ : ∃ q, membersL (hS3 (a : Int) (b : Int)).B (hS3 (a : Int) (b : Int)).S = q := ⟨_, rfl⟩
  have hJ8 : J.length = 8 := by rw [← hJ]; exact membersL_len _ _
  have HME : Veil (∀ W D, AtD w.heap.size W (hS3 (a : Int) (b : Int)) D → Calls Try.prog 16 #[.pointer (some ⟨D, 0, none⟩)] W fun r w' => r = .returned (.agg (row .u8 J)) ∧ Below W.heap.size W w') := ⟨fun W D h => by rw [← hJ]; exact h.members g3⟩
  have hja : J[a]?.getD 0 = 0 := by
    have := hH.ma
    rw [hJ, Int.toNat_natCast, List.getElem?_eq_getElem (by omega)] at this
    rw [List.getElem?_eq_getElem (by omega)]; exact this
  have hjb : J[b]?.getD 0 = 2 := by
    have := hH.mb
    rw [hJ, Int.toNat_natCast, List.getElem?_eq_getElem (by omega)] at this
    rw [List.getElem?_eq_getElem (by omega)]; exact this
  have HJA := Veil.mk (And.intro hja hjb)
  have l1 : (hE1 (a : Int)).cells.length = 17 := aev_len _ o1.past
  have n1 : ∀ v ∈ (hE1 (a : Int)).cells, v.oneCell' = true := aev_one _
  have i1 : (Try.prog.info? 32).map (·.size) = some (hE1 (a : Int)).cells.length := by rw [l1]; kernel_rfl
  generalize (hE1 (a : Int)).cells = C1 at HG1 HA1 l1 n1 i1
  have l2 : (hE2 (a : Int) (b : Int)).cells.length = 17 := aev_len _ o2.past
  have n2 : ∀ v ∈ (hE2 (a : Int) (b : Int)).cells, v.oneCell' = true := aev_one _
  have i2 : (Try.prog.info? 32).map (·.size) = some (hE2 (a : Int) (b : Int)).cells.length := by rw [l2]; kernel_rfl
  generalize (hE2 (a : Int) (b : Int)).cells = C2 at HG2 HA2 l2 n2 i2
  have l3 : (hE3 (a : Int) (b : Int)).cells.length = 17 := aev_len _ o3.past
  have n3 : ∀ v ∈ (hE3 (a : Int) (b : Int)).cells, v.oneCell' = true := aev_one _
  have i3 : (Try.prog.info? 32).map (·.size) = some (hE3 (a : Int) (b : Int)).cells.length := by rw [l3]; kernel_rfl
  generalize (hE3 (a : Int) (b : Int)).cells = C3 at HG3 HA3 l3 n3 i3
  obtain ⟨C4, hC4⟩ : ∃ q, zC = q := ⟨_, rfl⟩
  have l4 : C4.length = 17 := by rw [← hC4]; rfl
  have n4 : ∀ v ∈ C4, v.oneCell' = true := by rw [← hC4]; exact zC_one
  have i4 : (Try.prog.info? 32).map (·.size) = some C4.length := by rw [l4]; kernel_rfl
  rw [hC4] at HG4
  have HZ : Veil (∀ (W : World) (C : List Value), CellsAt (W.alloc (.cells zC.toArray 32)) W.heap.size 32 zC ∧ Below W.heap.size W ((W.alloc (.cells zC.toArray 32)).setRow W.heap.size C.toArray)) := ⟨fun W C => ⟨CellsAt.new W 32 zC, below_setRow ((Below.refl _ _).alloc (Nat.le_refl _) _) (Nat.le_refl _) _⟩⟩
  have HZM : Veil (∀ (W : World), Holds (W.alloc (.cells (row .u8 [0, 0, 0, 0, 0, 0, 0, 0]) 45)) W.heap.size .u8 45 [0, 0, 0, 0, 0, 0, 0, 0] ∧ Below W.heap.size W ((W.alloc (.cells (row .u8 [0, 0, 0, 0, 0, 0, 0, 0]) 45)).setRow W.heap.size (row .u8 J))) := ⟨fun W => ⟨Holds.new W .u8 45 _, below_setRow ((Below.refl _ _).alloc (Nat.le_refl _) _) (Nat.le_refl _) _⟩⟩
  unfold zC at HZ
  have uE := Try.underlying32
  have hnew := AtD.new w
  have ha0 : (0 : Int) ≤ (a : Int) := by omega
  have ha8 : (a : Int) < 8 := by omega
  have hat : ((a : Int)).toNat = a := Int.toNat_natCast a
  have hb0 : (0 : Int) ≤ (b : Int) := by omega
  have hb8 : (b : Int) < 8 := by omega
  have hbt : ((b : Int)).toNat = b := Int.toNat_natCast b
  have HAB : Veil (a < 8 ∧ b < 8) := ⟨by omega, by omega⟩
  clear hH hA hB g0 g1 g2 g3 o1 o2 o3 hJ hja hjb hC4 hab ha1 ha7 hb1 hb7 A B
  go_enter Try.func5, Try.ntmps5
  go_upto_region 5 with (go_at_call 6; refine hnew.mono ?_; rintro z W ⟨D, rfl, hA, hB⟩; clear hnew)
  have hcl := HG1.out W D hA
  go_upto_region 6 with (first
    | (go_at_call 7; refine hcl.mono ?_; rintro z W1 ⟨rfl, hb1⟩; have hz1 := (HZ.out W1 C1).1; clear hcl)
    | (refine wpList_stv (cs := C1) rfl 32 _ _ rfl W1.heap.size rfl rfl hz1 i1 (by rw [l1]; rfl) n1 ?_))
  have hb2 := (HZ.out W1 C1).2
  have hz2 := hz1.setRow C1
  have hb12 := hb1.trans (hb2.mono hb1.size)
  refine forget (p := fun y => Code.wp _ _ _ _ y) (fun W2 => Below W.heap.size W W2 ∧ CellsAt W2 W1.heap.size 32 C1) ⟨hb12, hz2⟩ ?_
  generalize W1.heap.size = e1
  clear hb1 hb2 hb12 hz1 hz2 HG1 W1
  rintro W2 ⟨hb2, hx2⟩
  have hr2 := hx2.wholeM
  have hB2 := hB.trans (hb2.mono hB.size)
  have hap := HA1.out W2 D (hA.far hb2) hB2.size
  clear hb2 hx2 hA hB HA1 W
  go_upto_region 8 with (first
    | (refine wpList_ldv rfl 32 _ rfl e1 0 rfl C1 hr2 uE rfl i1 ?_)
    | (go_at_call 8; refine hap.mono ?_; rintro z W ⟨rfl, hA, hB3⟩; clear hap))
  have hB := hB2.trans hB3
  clear hB2 hB3 hr2 W2
  have hcl := HG2.out W D hA
  go_upto_region 9 with (first
    | (go_at_call 7; refine hcl.mono ?_; rintro z W1 ⟨rfl, hb1⟩; have hz1 := (HZ.out W1 C2).1; clear hcl)
    | (refine wpList_stv (cs := C2) rfl 32 _ _ rfl W1.heap.size rfl rfl hz1 i2 (by rw [l2]; rfl) n2 ?_))
  have hb2 := (HZ.out W1 C2).2
  have hz2 := hz1.setRow C2
  have hb12 := hb1.trans (hb2.mono hb1.size)
  refine forget (p := fun y => Code.wp _ _ _ _ y) (fun W2 => Below W.heap.size W W2 ∧ CellsAt W2 W1.heap.size 32 C2) ⟨hb12, hz2⟩ ?_
  generalize W1.heap.size = e2
  clear hb1 hb2 hb12 hz1 hz2 HG2 W1
  rintro W2 ⟨hb2, hx2⟩
  have hr2 := hx2.wholeM
  have hB2 := hB.trans (hb2.mono hB.size)
  have hap := HA2.out W2 D (hA.far hb2) hB2.size
  clear hb2 hx2 hA hB HA2 W
  go_upto_region 11 with (first
    | (refine wpList_ldv rfl 32 _ rfl e2 0 rfl C2 hr2 uE rfl i2 ?_)
    | (go_at_call 8; refine hap.mono ?_; rintro z W ⟨rfl, hA, hB3⟩; clear hap))
  have hB := hB2.trans hB3
  clear hB2 hB3 hr2 W2
  have hcl := HG3.out W D hA
  go_upto_region 12 with (first
    | (go_at_call 9; refine hcl.mono ?_; rintro z W1 ⟨rfl, hb1⟩; have hz1 := (HZ.out W1 C3).1; clear hcl)
    | (refine wpList_stv (cs := C3) rfl 32 _ _ rfl W1.heap.size rfl rfl hz1 i3 (by rw [l3]; rfl) n3 ?_))
  have hb2 := (HZ.out W1 C3).2
  have hz2 := hz1.setRow C3
  have hb12 := hb1.trans (hb2.mono hb1.size)
  refine forget (p := fun y => Code.wp _ _ _ _ y) (fun W2 => Below W.heap.size W W2 ∧ CellsAt W2 W1.heap.size 32 C3) ⟨hb12, hz2⟩ ?_
  generalize W1.heap.size = e3
  clear hb1 hb2 hb12 hz1 hz2 HG3 W1
  rintro W2 ⟨hb2, hx2⟩
  have hr2 := hx2.wholeM
  have hB2 := hB.trans (hb2.mono hB.size)
  have hap := HA3.out W2 D (hA.far hb2) hB2.size
  clear hb2 hx2 hA hB HA3 W
  go_upto_region 14 with (first
    | (refine wpList_ldv rfl 32 _ rfl e3 0 rfl C3 hr2 uE rfl i3 ?_)
    | (go_at_call 8; refine hap.mono ?_; rintro z W ⟨rfl, hA, hB3⟩; clear hap))
  have hB := hB2.trans hB3
  clear hB2 hB3 hr2 W2
  have hcl := HME.out W D hA
  go_upto_region 15 with (first
    | (go_at_call 16; refine hcl.mono ?_; rintro z W1 ⟨rfl, hb1⟩; have hz1 := (HZM.out W1).1; clear hcl)
    | (refine wpList_st (l := J) rfl 45 _ _ rfl W1.heap.size rfl rfl hz1 (by rw [hJ8]; exact sizeR8) (by rw [hJ8]; rfl) ?_))
  have hb2 := (HZM.out W1).2
  have hz2 := hz1.setRow J
  have hb12 := hb1.trans (hb2.mono hb1.size)
  refine forget (p := fun y => Code.wp _ _ _ _ y) (fun W2 => Below W.heap.size W W2 ∧ Holds W2 W1.heap.size .u8 45 J) ⟨hb12, hz2⟩ ?_
  generalize W1.heap.size = bm
  clear hb1 hb2 hb12 hz1 hz2 HME W1
  rintro W2 ⟨hb2, hm2⟩
  have hB2 := hB.trans (hb2.mono hB.size)
  have hcl := HG4.out W2 D (hA.far hb2)
  clear hb2 hA hB HG4 W
  go_upto_region 16 with (first
    | (go_at_call 7; refine hcl.mono ?_; rintro z W1 ⟨rfl, hb1⟩; have hz1 := (HZ.out W1 C4).1; clear hcl)
    | (refine wpList_stv (cs := C4) rfl 32 _ _ rfl W1.heap.size rfl rfl hz1 i4 (by rw [l4]; rfl) n4 ?_))
  have hb2 := (HZ.out W1 C4).2
  have hb12 := hb1.trans (hb2.mono hb1.size)
  refine forget (p := fun y => Code.wp _ _ _ _ y) (fun W3 => Below W2.heap.size W2 W3) hb12 ?_
  generalize W1.heap.size = e4
  clear hb1 hb2 hb12 hz1 W1
  intro W3 hb3
  have hm3 := holds_farA hm2 hb3
  have ca := hm3.cell a (by rw [hJ8]; exact HAB.out.1)
  have cb := hm3.cell b (by rw [hJ8]; exact HAB.out.2)
  rw [HJA.out.1] at ca
  rw [HJA.out.2] at cb
  have HBE := Veil.mk (hB2.trans (hb3.mono hB2.size))
  clear hm2 hm3 hb3 hB2
  go_wp2
  go_ret
  exact ⟨rfl, HBE.out⟩
end Go.Proofs.Ytgmbmdmbnpkbbaa

