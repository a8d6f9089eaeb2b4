/- AclBoth, walked. -/
import Derived.Test.YthodlbkgggaibaaAclFirstW
namespace Go.Proofs.Ythodlbkgggaibaa
open Go.RowKit Go.Shelf
set_option maxRecDepth 20000
set_option linter.unusedSimpArgs false
abbrev z8 : List Int := [0, 0, 0, 0, 0, 0, 0, 0]
abbrev b1 (a : Int) : Ev := ⟨0, 1, z8, 3, 0, 0, false, 0, a, 3⟩
abbrev b2 (c : Int) : Ev := ⟨0, 2, [1, 0, 0, 0, 0, 0, 0, 0], 3, 0, 0, false, 0, c, 3⟩
abbrev b3 (a c : Int) : Ev := ⟨a, 1, [2, 0, 0, 0, 0, 0, 0, 0], 4, 0, 0, false, 0, c, 0⟩
def bl1 (a : Int) : List Ent := addB [] (b1 a)
def bl2 (a c : Int) : List Ent := addB (bl1 a) (b2 c)
def bl3 (a c : Int) : List Ent := addB (bl2 a c) (b3 a c)
def bl4 (a c : Int) : List Ent := addB (bl3 a c) (b3 c a)
def bv (a c : Nat) : List Int := (([2, 0, 0, 0, 0, 0, 0, 0] : List Int).set a 1).set c 1
def bothOk (a c : Nat) : Bool := (refB [] (b1 a) == 0) && (refB (bl1 a) (b2 c) == 0) && (refB (bl2 a c) (b3 a c) == 0) && (refB (bl3 a c) (b3 c a) == 0) && ((membersL (bl4 a c) [2, 0, 0, 0, 0, 0, 0, 0])[a]?.getD 0 == 3) && ((membersL (bl4 a c) [2, 0, 0, 0, 0, 0, 0, 0])[c]?.getD 0 == 3) && ((membersL (bl4 a c) (bv a c))[a]?.getD 0 == 0) && ((membersL (bl4 a c) (bv a c))[c]?.getD 0 == 0) && ((membersL (bl4 a c) (bv a c))[0]?.getD 0 == 3)
theorem both_all : ∀ a : Fin 8, ∀ c : Fin 8, a.val ≠ 0 → c.val ≠ 0 → a ≠ c → bothOk a.val c.val = true := by decide +kernel
theorem blen4 (a c : Int) : (bl1 a).length ≤ 1 ∧ (bl2 a c).length ≤ 2 ∧ (bl3 a c).length ≤ 3 := by
  have h1 : (bl1 a).length ≤ 1 := by unfold bl1 addB; split <;> simp
  have h2 : (bl2 a c).length ≤ (bl1 a).length + 1 := by unfold bl2 addB; split <;> simp
  have h3 : (bl3 a c).length ≤ (bl2 a c).length + 1 := by unfold bl3 addB; split <;> simp
  omega
theorem b_ok (n : Int) (h : 0 ≤ n ∧ n ≤ 255) : (b1 n).Ok ∧ (b2 n).Ok := by
  constructor <;> constructor <;> (try unfold okD) <;> (try simp) <;> omega
theorem b3_ok (a c : Int) (h : 0 ≤ a ∧ a ≤ 255) (h' : 0 ≤ c ∧ c ≤ 255) : (b3 a c).Ok := by
  constructor <;> (try unfold okD) <;> (try simp) <;> omega
set_option maxHeartbeats 16000000 in
theorem abo_walk (x y : Int) (w : World) (hx : 0 ≤ x ∧ x ≤ 255) (hy : 0 ≤ y ∧ y ≤ 255) :
    Calls Try.prog 8 #[.int .u8 x, .int .u8 y] w fun r w' => r = .returned (.bool true) ∧ Below w.heap.size w w' := by
  obtain ⟨A, hA⟩ : ∃ A : Nat, x % 7 + 1 = (A : Int) := Int.eq_ofNat_of_zero_le (by omega)
  obtain ⟨C, hC⟩ : ∃ C : Nat, y % 7 + 1 = (C : Int) := Int.eq_ofNat_of_zero_le (by omega)
  have hA8 : 1 ≤ A ∧ A < 8 := by omega
  have hC8 : 1 ≤ C ∧ C < 8 := by omega
  have hrx : x.tmod 7 = (A : Int) - 1 := by rw [Int.tmod_eq_emod_of_nonneg hx.1]; omega
  have hry : y.tmod 7 = (C : Int) - 1 := by rw [Int.tmod_eq_emod_of_nonneg hy.1]; omega
  have hwA : IntKind.u8.wrap ((A : Int) - 1 + 1) = (A : Int) := by simp [IntKind.wrap, IntKind.bits, IntKind.signed]; omega
  have hwC : IntKind.u8.wrap ((C : Int) - 1 + 1) = (C : Int) := by simp [IntKind.wrap, IntKind.bits, IntKind.signed]; omega
  clear hA hC hx hy
  have hlv := @live9_any
  by_cases hne : A = C
  · subst hne
    have hbe : ((A : Int) == (A : Int)) = true := beq_self_eq_true _
    go_enter Try.func8, Try.ntmps8
    go_wp2_with (go_at_call 14; refine (hlv w).mono ?_; rintro z w1 ⟨rfl, g1⟩)
    go_ret
    exact ⟨rfl, g1⟩
  have hbe : ((A : Int) == (C : Int)) = false := by simp; omega
  have hok := both_all ⟨A, hA8.2⟩ ⟨C, hC8.2⟩ (by show A ≠ 0; omega) (by show C ≠ 0; omega) (fun h => hne (by injection h))
  have hok : bothOk A C = true := hok
  unfold bothOk at hok
  simp only [Bool.and_eq_true, beq_iff_eq] at hok
  obtain ⟨⟨⟨⟨⟨⟨⟨⟨k1, k2⟩, k3⟩, k4⟩, m1⟩, m2⟩, m3⟩, m4⟩, m5⟩ := hok
  have okA := b_ok (A : Int) (by omega)
  have okC := b_ok (C : Int) (by omega)
  have ok3 := b3_ok (A : Int) (C : Int) (by omega) (by omega)
  have ok4 := b3_ok (C : Int) (A : Int) (by omega) (by omega)
  have hadd1 : ∀ W H b, BookC W H b ([]) → Calls Try.prog 18 #[.pointer (some ⟨H, 0, none⟩), .agg #[.int .u8 0, .int .u32 1, .int .u32 0, .int .u32 0, .int .u32 0, .int .u32 0, .int .u32 0, .int .u32 0, .int .u32 0, .int .u32 0, .int .u8 3, .int .u8 0, .int .u32 0, .bool false, .int .u8 0, .int .u8 (A : Int), .int .u8 3]] W fun r w' => r = .returned (.int .i64 0) ∧ BookC w' H b (bl1 A) ∧ Turn (fun k => k = b) W w' := fun W H b hC => by
    have := badd_any H b ([]) (b1 A) W hC (okA.1) (by have := blen4 (A : Int) (C : Int); simp)
    rw [k1] at this
    exact this
  have hadd2 : ∀ W H b, BookC W H b (bl1 A) → Calls Try.prog 18 #[.pointer (some ⟨H, 0, none⟩), .agg #[.int .u8 0, .int .u32 2, .int .u32 1, .int .u32 0, .int .u32 0, .int .u32 0, .int .u32 0, .int .u32 0, .int .u32 0, .int .u32 0, .int .u8 3, .int .u8 0, .int .u32 0, .bool false, .int .u8 0, .int .u8 (C : Int), .int .u8 3]] W fun r w' => r = .returned (.int .i64 0) ∧ BookC w' H b (bl2 A C) ∧ Turn (fun k => k = b) W w' := fun W H b hC => by
    have := badd_any H b (bl1 A) (b2 C) W hC (okC.2) (by have := blen4 (A : Int) (C : Int); omega)
    rw [k2] at this
    exact this
  have hadd3 : ∀ W H b, BookC W H b (bl2 A C) → Calls Try.prog 18 #[.pointer (some ⟨H, 0, none⟩), .agg #[.int .u8 (A : Int), .int .u32 1, .int .u32 2, .int .u32 0, .int .u32 0, .int .u32 0, .int .u32 0, .int .u32 0, .int .u32 0, .int .u32 0, .int .u8 4, .int .u8 0, .int .u32 0, .bool false, .int .u8 0, .int .u8 (C : Int), .int .u8 0]] W fun r w' => r = .returned (.int .i64 0) ∧ BookC w' H b (bl3 A C) ∧ Turn (fun k => k = b) W w' := fun W H b hC => by
    have := badd_any H b (bl2 A C) (b3 A C) W hC (ok3) (by have := blen4 (A : Int) (C : Int); omega)
    rw [k3] at this
    exact this
  have hadd4 : ∀ W H b, BookC W H b (bl3 A C) → Calls Try.prog 18 #[.pointer (some ⟨H, 0, none⟩), .agg #[.int .u8 (C : Int), .int .u32 1, .int .u32 2, .int .u32 0, .int .u32 0, .int .u32 0, .int .u32 0, .int .u32 0, .int .u32 0, .int .u32 0, .int .u8 4, .int .u8 0, .int .u32 0, .bool false, .int .u8 0, .int .u8 (A : Int), .int .u8 0]] W fun r w' => r = .returned (.int .i64 0) ∧ BookC w' H b (bl4 A C) ∧ Turn (fun k => k = b) W w' := fun W H b hC => by
    have := badd_any H b (bl3 A C) (b3 C A) W hC (ok4) (by have := blen4 (A : Int) (C : Int); omega)
    rw [k4] at this
    exact this

  have HME : Veil (∀ W H b (u : List Int), u.length = 8 → BookC W H b (bl4 A C) → Calls Try.prog 16 #[.pointer (some ⟨H, 0, none⟩), .agg (row .u32 u)] W fun e w' => e = .returned (.agg (row .u8 (membersL (bl4 A C) u))) ∧ Below W.heap.size W w') := ⟨fun W H b u hu hC => members_any H b (bl4 A C) u W hC hu⟩
  have H1 := Veil.mk hadd1
  have H2 := Veil.mk hadd2
  have H3 := Veil.mk hadd3
  have H4 := Veil.mk hadd4
  have hE1 : ∀ W, (Instr.build 41 #[(0, .agg #[.int .u8 0, .int .u32 1]), (2, .int .u8 3), (6, .int .u8 (A : Int)), (7, .int .u8 3)]).run Try.prog W = .ok (.agg #[.int .u8 0, .int .u32 1, .int .u32 0, .int .u32 0, .int .u32 0, .int .u32 0, .int .u32 0, .int .u32 0, .int .u32 0, .int .u32 0, .int .u8 3, .int .u8 0, .int .u32 0, .bool false, .int .u8 0, .int .u8 (A : Int), .int .u8 3]) W := fun W => by kernel_rfl
  have hE2 : ∀ W, (Instr.build 41 #[(0, .agg #[.int .u8 0, .int .u32 2]), (1, .agg #[.int .u32 1, .int .u32 0, .int .u32 0, .int .u32 0, .int .u32 0, .int .u32 0, .int .u32 0, .int .u32 0]), (2, .int .u8 3), (6, .int .u8 (C : Int)), (7, .int .u8 3)]).run Try.prog W = .ok (.agg #[.int .u8 0, .int .u32 2, .int .u32 1, .int .u32 0, .int .u32 0, .int .u32 0, .int .u32 0, .int .u32 0, .int .u32 0, .int .u32 0, .int .u8 3, .int .u8 0, .int .u32 0, .bool false, .int .u8 0, .int .u8 (C : Int), .int .u8 3]) W := fun W => by kernel_rfl
  have hE3 : ∀ W, (Instr.build 41 #[(0, .agg #[.int .u8 (A : Int), .int .u32 1]), (1, .agg #[.int .u32 2, .int .u32 0, .int .u32 0, .int .u32 0, .int .u32 0, .int .u32 0, .int .u32 0, .int .u32 0]), (2, .int .u8 4), (6, .int .u8 (C : Int))]).run Try.prog W = .ok (.agg #[.int .u8 (A : Int), .int .u32 1, .int .u32 2, .int .u32 0, .int .u32 0, .int .u32 0, .int .u32 0, .int .u32 0, .int .u32 0, .int .u32 0, .int .u8 4, .int .u8 0, .int .u32 0, .bool false, .int .u8 0, .int .u8 (C : Int), .int .u8 0]) W := fun W => by kernel_rfl
  have hE4 : ∀ W, (Instr.build 41 #[(0, .agg #[.int .u8 (C : Int), .int .u32 1]), (1, .agg #[.int .u32 2, .int .u32 0, .int .u32 0, .int .u32 0, .int .u32 0, .int .u32 0, .int .u32 0, .int .u32 0]), (2, .int .u8 4), (6, .int .u8 (A : Int))]).run Try.prog W = .ok (.agg #[.int .u8 (C : Int), .int .u32 1, .int .u32 2, .int .u32 0, .int .u32 0, .int .u32 0, .int .u32 0, .int .u32 0, .int .u32 0, .int .u32 0, .int .u8 4, .int .u8 0, .int .u32 0, .bool false, .int .u8 0, .int .u8 (A : Int), .int .u8 0]) W := fun W => by kernel_rfl
  have hnew := bnew_any w
  clear hadd1 hadd2 hadd3 hadd4 k1 k2 k3 k4 okA okC ok3 ok4
  go_enter Try.func8, Try.ntmps8
  go_upto_region 9 with (first
    | (go_at_call 18; refine (H4.out W4 H b hC4).mono ?_; rintro z W5 ⟨rfl, hC5, ht5⟩)
    | (go_at_call 18; refine (H3.out W3 H b hC3).mono ?_; rintro z W4 ⟨rfl, hC4, ht4⟩; clear H3)
    | (go_at_call 18; refine (H2.out W2 H b hC2).mono ?_; rintro z W3 ⟨rfl, hC3, ht3⟩; clear H2)
    | (go_at_call 18; refine (H1.out W1 H b hC1).mono ?_; rintro z W2 ⟨rfl, hC2, ht2⟩; clear H1)
    | (go_at_call 24; refine hnew.mono ?_; rintro z W1 ⟨H, b, rfl, hC1, hb1, hlb, hlH⟩))
  have ht := ((ht2.trans ht3).trans ht4).trans ht5
  have hB5 : Below w.heap.size w W5 := hb1.trans (ht.below hb1.size (fun q hq => by rw [hq]; exact hlb))
  clear ht ht2 ht3 ht4 ht5 hC1 hC2 hC3 hC4 hnew H4 hE1 hE2 hE3 hE4 hb1
  have hzv := CellsAt.new W5 25 [.int .u32 0, .int .u32 0, .int .u32 0, .int .u32 0, .int .u32 0, .int .u32 0, .int .u32 0, .int .u32 0]
  have iV : (Try.prog.info? 25).map (·.size) = some ([.int .u32 2, .int .u32 0, .int .u32 0, .int .u32 0, .int .u32 0, .int .u32 0, .int .u32 0, .int .u32 0] : List Value).length := by kernel_rfl
  have HA : Veil (Holds ((W5.alloc (.cells #[.int .u32 0, .int .u32 0, .int .u32 0, .int .u32 0, .int .u32 0, .int .u32 0, .int .u32 0, .int .u32 0] 25)).setRow W5.heap.size #[.int .u32 2, .int .u32 0, .int .u32 0, .int .u32 0, .int .u32 0, .int .u32 0, .int .u32 0, .int .u32 0]) W5.heap.size .u32 25 [2, 0, 0, 0, 0, 0, 0, 0] ∧ Below W5.heap.size W5 ((W5.alloc (.cells #[.int .u32 0, .int .u32 0, .int .u32 0, .int .u32 0, .int .u32 0, .int .u32 0, .int .u32 0, .int .u32 0] 25)).setRow W5.heap.size #[.int .u32 2, .int .u32 0, .int .u32 0, .int .u32 0, .int .u32 0, .int .u32 0, .int .u32 0, .int .u32 0])) := ⟨hzv.setRow [.int .u32 2, .int .u32 0, .int .u32 0, .int .u32 0, .int .u32 0, .int .u32 0, .int .u32 0, .int .u32 0], below_setRow ((Below.refl _ _).alloc (Nat.le_refl _) _) (Nat.le_refl _) _⟩
  go_upto_region 10 with (refine wpList_stv (cs := [.int .u32 2, .int .u32 0, .int .u32 0, .int .u32 0, .int .u32 0, .int .u32 0, .int .u32 0, .int .u32 0]) rfl 25 _ _ rfl W5.heap.size rfl rfl hzv iV rfl (by decide) ?_)
  refine forget (p := fun y => Code.wp _ _ _ _ y) (fun W => Holds W W5.heap.size .u32 25 [2, 0, 0, 0, 0, 0, 0, 0] ∧ BookC W H b (bl4 A C) ∧ Below w.heap.size w W) ⟨HA.out.1, hC5.far HA.out.2, hB5.trans (HA.out.2.mono hB5.size)⟩ ?_
  rintro W6 ⟨hv6, hC6, hB6⟩
  have hvw : Veil (w.heap.size ≤ W5.heap.size ∧ b ≠ W5.heap.size ∧ H ≠ W5.heap.size) := ⟨hB5.size, by have := hC5.map.lt; omega, by have := hC5.cells.lt; omega⟩
  generalize W5.heap.size = vB at hv6 hvw ⊢
  clear hzv iV HA hC5 hB5
  obtain ⟨U, hU⟩ : ∃ U : List Int, [2, 0, 0, 0, 0, 0, 0, 0] = U := ⟨_, rfl⟩
  have hU8 : U.length = 8 := by rw [← hU]; rfl
  have HU := Veil.mk hU
  rw [hU] at hv6 m1 m2
  clear hU
  have hme := HME.out W6 H b U hU8 hC6
  obtain ⟨ML, hML⟩ : ∃ q, membersL (bl4 A C) U = q := ⟨_, rfl⟩
  rw [hML] at hme m1 m2
  have hM8 : ML.length = 8 := by rw [← hML]; exact membersL_len _ _
  clear hML
  have hz5 := fun W5 => Holds.new W5 .u8 34 [0, 0, 0, 0, 0, 0, 0, 0]
  go_upto_region 11 with (first
    | (refine wpList_ld rfl 25 _ rfl _ rfl hv6 Try.underlying25 sizeV8 hU8 ?_)
    | (go_at_call 16; refine hme.mono ?_; rintro z W7 ⟨rfl, g7⟩; have hz := hz5 W7)
    | (refine wpList_st rfl 34 _ _ rfl _ rfl rfl hz (by rw [hM8]; exact sizeR8) (by rw [hM8]; rfl) ?_))
  have hbA : Below W7.heap.size W7 ((W7.alloc (.cells (row .u8 [0, 0, 0, 0, 0, 0, 0, 0]) 34)).setRow W7.heap.size (row .u8 ML)) := below_setRow ((Below.refl _ _).alloc (Nat.le_refl _) _) (Nat.le_refl _) _
  have hB7 := hB6.trans (g7.mono hB6.size)
  refine forget (p := fun y => Code.wp _ _ _ _ y) (fun W => Holds W vB .u32 25 U ∧ BookC W H b (bl4 A C) ∧ Below w.heap.size w W ∧ Holds W W7.heap.size .u8 34 ML) ⟨holds_farA (holds_farA hv6 g7) hbA, (hC6.far g7).far hbA, hB7.trans (hbA.mono hB7.size), hz.setRow ML⟩ ?_
  have hmv : Veil (W7.heap.size ≠ vB) := ⟨by have := (Array.getElem?_eq_some_iff.1 (holds_farA hv6 g7)).1; omega⟩
  rintro W8 ⟨hv8, hK8, hB8, hm8⟩
  generalize W7.heap.size = mB at hm8 hmv ⊢
  clear hbA hB7 hz hz5 hme hv6 hC6 hB6 g7
  have hAi : (A : Int) < 8 := by omega
  have hA0 : (0 : Int) ≤ (A : Int) := by omega
  have hCi : (C : Int) < 8 := by omega
  have hC0 : (0 : Int) ≤ (C : Int) := by omega
  have cA := hv8.cell A (by rw [hU8]; exact hA8.2)
  have fA := hv8.frozen A
  have hv9 := hv8.set A 1
  have cC := hv9.cell C (by rw [List.length_set, hU8]; exact hC8.2)
  have fC := hv9.frozen C
  have hv10 := hv9.set C 1
  have HX : Veil (BookC ((W8.setCell ⟨vB, A, none⟩ (.int .u32 1)).setCell ⟨vB, C, none⟩ (.int .u32 1)) H b (bl4 A C) ∧ Below w.heap.size w ((W8.setCell ⟨vB, A, none⟩ (.int .u32 1)).setCell ⟨vB, C, none⟩ (.int .u32 1)) ∧ Holds ((W8.setCell ⟨vB, A, none⟩ (.int .u32 1)).setCell ⟨vB, C, none⟩ (.int .u32 1)) mB .u8 34 ML) := ⟨(hK8.congr (Below.heap_setCell _ _ _ _ hvw.out.2.2) (Below.heap_setCell _ _ _ _ hvw.out.2.1)).congr (Below.heap_setCell _ _ _ _ hvw.out.2.2) (Below.heap_setCell _ _ _ _ hvw.out.2.1), (hB8.setCell (by simpa using hvw.out.1) _).setCell (by simpa using hvw.out.1) _, (hm8.setOther _ _ (by simpa using hmv.out)).setOther _ _ (by simpa using hmv.out)⟩
  go_upto_region 12 with fail
  refine forget (p := fun y => Code.wp _ _ _ _ y) (fun W => Holds W vB .u32 25 ((U.set A 1).set C 1) ∧ BookC W H b (bl4 A C) ∧ Below w.heap.size w W ∧ Holds W mB .u8 34 ML) ⟨hv10, HX.out.1, HX.out.2.1, HX.out.2.2⟩ ?_
  clear hv8 hK8 hB8 hm8 cA fA hv9 cC fC hv10 HX
  rintro W9 ⟨hv9, hC9, hB9, hm9⟩
  have hY8 : ((U.set A 1).set C 1).length = 8 := by rw [List.length_set, List.length_set]; exact hU8
  have hbv : bv A C = (U.set A 1).set C 1 := by unfold bv; rw [HU.out]
  rw [hbv] at m3 m4 m5
  generalize (U.set A 1).set C 1 = Y at hv9 hY8 m3 m4 m5
  clear hbv
  have hme := HME.out W9 H b Y hY8 hC9
  obtain ⟨NL, hNL⟩ : ∃ q, membersL (bl4 A C) Y = q := ⟨_, rfl⟩
  rw [hNL] at hme m3 m4 m5
  have hN8 : NL.length = 8 := by rw [← hNL]; exact membersL_len _ _
  clear hNL
  have hz5 := fun W5 => Holds.new W5 .u8 34 [0, 0, 0, 0, 0, 0, 0, 0]
  go_upto_region 13 with (first
    | (refine wpList_ld rfl 25 _ rfl _ rfl hv9 Try.underlying25 sizeV8 hY8 ?_)
    | (go_at_call 16; refine hme.mono ?_; rintro z W7 ⟨rfl, g7⟩; have hz := hz5 W7)
    | (refine wpList_st rfl 34 _ _ rfl _ rfl rfl hz (by rw [hN8]; exact sizeR8) (by rw [hN8]; rfl) ?_))
  have hbA : Below W7.heap.size W7 ((W7.alloc (.cells (row .u8 [0, 0, 0, 0, 0, 0, 0, 0]) 34)).setRow W7.heap.size (row .u8 NL)) := below_setRow ((Below.refl _ _).alloc (Nat.le_refl _) _) (Nat.le_refl _) _
  have hB7 := hB9.trans (g7.mono hB9.size)
  refine forget (p := fun y => Code.wp _ _ _ _ y) (fun W => Below w.heap.size w W ∧ Holds W mB .u8 34 ML ∧ Holds W W7.heap.size .u8 34 NL) ⟨hB7.trans (hbA.mono hB7.size), holds_farA (holds_farA hm9 g7) hbA, hz.setRow NL⟩ ?_
  rintro W10 ⟨hB10, hm10, hn10⟩
  generalize W7.heap.size = nB at hn10 ⊢
  clear hbA hB7 hz hz5 hme hv9 hC9 hB9 hm9 g7
  have HL : Veil (∀ W, Below W10.heap.size W10 W → W.cell? ⟨mB, A, none⟩ = some (.int .u8 3) ∧ W.cell? ⟨mB, C, none⟩ = some (.int .u8 3) ∧ W.cell? ⟨nB, A, none⟩ = some (.int .u8 0) ∧ W.cell? ⟨nB, C, none⟩ = some (.int .u8 0) ∧ W.cell? ⟨nB, 0, none⟩ = some (.int .u8 3)) := ⟨fun W hb => by
    have a1 := (holds_farA hm10 hb).cell A (by rw [hM8]; exact hA8.2)
    have a2 := (holds_farA hm10 hb).cell C (by rw [hM8]; exact hC8.2)
    have a3 := (holds_farA hn10 hb).cell A (by rw [hN8]; exact hA8.2)
    have a4 := (holds_farA hn10 hb).cell C (by rw [hN8]; exact hC8.2)
    have a5 := (holds_farA hn10 hb).cell 0 (by rw [hN8]; decide)
    rw [m1] at a1
    rw [m2] at a2
    rw [m3] at a3
    rw [m4] at a4
    rw [m5] at a5
    exact ⟨a1, a2, a3, a4, a5⟩⟩
  clear hm10 hn10 m1 m2 m3 m4 m5 HME
  go_wp2_with (go_at_call 14; refine (hlv W10).mono ?_; rintro z W11 ⟨rfl, g11⟩; obtain ⟨a1, a2, a3, a4, a5⟩ := HL.out W11 g11)
  go_ret
  exact ⟨rfl, hB10.trans (g11.mono hB10.size)⟩
end Go.Proofs.Ythodlbkgggaibaa

