/- fugue: same: both tell the same. (Written by mksame8.py.) -/
import Derived.Test.YtdkkenlehdblpaaFr11
import Derived.Test.YtdkkenlehdblpaaFr5
import Derived.Test.YtdkkenlehdblpaaMFp1Fp2Fp3
import Derived.Test.YtdkkenlehdblpaaGate7
import Derived.Test.YtdkkenlehdblpaaFg22
namespace Go.Proofs.Ytdkkenlehdblpaa
open Go.RowKit Go.Shelf
set_option maxRecDepth 20000
set_option linter.unusedSimpArgs false
set_option maxHeartbeats 16000000 in
theorem same8_any (base R bc bn : Nat) (V : (Int × Int) × Bool → Value) (Q : Nat) (v : Value) (N : List Nd) (hlen : N.length ≤ 1000) (i : Int) (hi : i ≤ 9223372036854775807) (w : World) (hB : BothT w base R bc bn V Q v N) :
    Calls Try.prog 13 #[.pointer (some ⟨R, 0, none⟩), .pointer (some ⟨Q, 0, none⟩), .int .i64 i] w fun e w' => e = .returned (.bool true) ∧ Below w.heap.size w w' := by
  have hN := hB.ok
  have HA : Veil (∀ W, Below w.heap.size w W → Calls Try.prog 24 #[.pointer (some ⟨R, 0, none⟩), .int .i64 i] W fun e w' => e = .returned (.tuple #[.agg (encF (atD (atN N i))).toArray, .int .i64 (atE (atN N i))]) ∧ Below W.heap.size W w') := ⟨fun W h => atT2_any base R bc bn N V hN hlen i W (hB.far h).tree⟩
  have HA2 : Veil (∀ W, Below w.heap.size w W → Calls Try.prog 29 #[.pointer (some ⟨Q, 0, none⟩), .int .i64 i] W fun e w' => e = .returned (.tuple #[.agg (encF (atD (atN N i))).toArray, .int .i64 (atE (atN N i))]) ∧ Below W.heap.size W w') := ⟨fun W h => rat2_any base Q v N hN hlen i W (hB.far h).ref⟩
  have HP : Veil (∀ W, Below w.heap.size w W → Calls Try.prog 15 #[.pointer (some ⟨R, 0, none⟩), .int .i64 i] W fun e w' => e = .returned (.tuple #[.agg (encF (placeN N i).1).toArray, .bool (placeN N i).2.1, .int .i64 (placeN N i).2.2]) ∧ Below W.heap.size W w') := ⟨fun W h => placeT_any base R bc bn N V hN hlen i hi W (hB.far h).tree⟩
  have HP2 : Veil (∀ W, Below w.heap.size w W → Calls Try.prog 30 #[.pointer (some ⟨Q, 0, none⟩), .int .i64 i] W fun e w' => e = .returned (.tuple #[.agg (encF (placeN N i).1).toArray, .bool (placeN N i).2.1, .int .i64 (placeN N i).2.2]) ∧ Below W.heap.size W w') := ⟨fun W h => rplace_any base Q v N hN hlen i W (hB.far h).ref⟩
  obtain ⟨ORD, hORD⟩ : ∃ q, walkA N rootS = q := ⟨_, rfl⟩
  obtain ⟨z, hz⟩ : ∃ q, textN N = q := ⟨_, rfl⟩
  obtain ⟨tn, htn⟩ : ∃ q, z.length = q := ⟨_, rfl⟩
  have hol : ORD.length ≤ 1000 := by rw [← hORD, hN.len]; exact hlen
  have HT1 : Veil (∀ W, Below w.heap.size w W → Calls Try.prog 14 #[.pointer (some ⟨R, 0, none⟩)] W fun e w' => ∃ tx tc, e = .returned (.slice tx tn tc) ∧ Bytes w' tx tn tc z ∧ Below W.heap.size W w') := ⟨fun W h => (textB_any base R bc bn N V hN hlen W (hB.far h).tree).mono (by
    rintro e w' ⟨v, q1, q2, q3⟩
    rw [hz] at q2
    obtain ⟨y, n, c, rfl, hn⟩ := q2.isSlice
    obtain rfl : n = tn := by rw [hn]; exact htn
    exact ⟨y, c, q1, q2.bytes.2, q3⟩)⟩
  have HT2 : Veil (∀ W, Below w.heap.size w W → Calls Try.prog 31 #[.pointer (some ⟨Q, 0, none⟩)] W fun e w' => ∃ tx tc, e = .returned (.slice tx tn tc) ∧ Bytes w' tx tn tc z ∧ Below W.heap.size W w') := ⟨fun W h => (rtext_any base Q v N hN hlen W (hB.far h).ref).mono (by
    rintro e w' ⟨v, q1, q2, q3⟩
    rw [hz] at q2
    obtain ⟨y, n, c, rfl, hn⟩ := q2.isSlice
    obtain rfl : n = tn := by rw [hn]; exact htn
    exact ⟨y, c, q1, q2.bytes.2, q3⟩)⟩
  have HO1 : Veil (∀ W, Below w.heap.size w W → Calls Try.prog 21 #[.pointer (some ⟨R, 0, none⟩)] W fun e w' => ∃ ox oc, e = .returned (.slice ox ORD.length oc) ∧ OwnI w' W.heap.size 32 2 (.slice ox ORD.length oc) (ORD.map encF) ∧ Below W.heap.size W w') := ⟨fun W h => (orderT_any base R bc bn N V hN hlen W (hB.far h).tree).mono (by
    rintro e w' ⟨v, q1, q2, q3⟩
    rw [hORD] at q2
    obtain ⟨y, c, hv⟩ := q2.isSlice
    rw [List.length_map] at hv
    exact ⟨y, c, by rw [q1, hv], by rw [← hv]; exact q2, q3⟩)⟩
  have HO2 : Veil (∀ W, Below w.heap.size w W → Calls Try.prog 32 #[.pointer (some ⟨Q, 0, none⟩)] W fun e w' => ∃ ox oc, e = .returned (.slice ox ORD.length oc) ∧ OwnI w' W.heap.size 32 2 (.slice ox ORD.length oc) (ORD.map encF) ∧ Below W.heap.size W w') := ⟨fun W h => (rorder_any base Q v N hN hlen W (hB.far h).ref).mono (by
    rintro e w' ⟨v, q1, q2, q3⟩
    rw [hORD] at q2
    obtain ⟨y, c, hv⟩ := q2.isSlice
    rw [List.length_map] at hv
    exact ⟨y, c, by rw [q1, hv], by rw [← hv]; exact q2, q3⟩)⟩
  have HSD : Veil (∀ b1 b2 x1 x2 c1 c2 W, OwnI W b1 32 2 (.slice x1 ORD.length c1) (ORD.map encF) → OwnI W b2 32 2 (.slice x2 ORD.length c2) (ORD.map encF) → Calls Try.prog 20 #[.slice x1 ORD.length c1, .slice x2 ORD.length c2] W fun e w' => e = .returned (.bool true) ∧ Below W.heap.size W w') := ⟨fun b1 b2 x1 x2 c1 c2 W h1 h2 => sameDots_any b1 b2 x1 x2 c1 c2 ORD hol W h1 h2⟩
  have HL1 : Veil (∀ W, Below w.heap.size w W → Calls Try.prog 19 #[.pointer (some ⟨R, 0, none⟩)] W fun e w' => e = .returned (.int .i64 (N.length : Nat)) ∧ w' = W) := ⟨fun W h => lenT_any base R bc bn N V W (hB.far h).tree⟩
  have HL2 : Veil (∀ W, Below w.heap.size w W → Calls Try.prog 33 #[.pointer (some ⟨Q, 0, none⟩)] W fun e w' => e = .returned (.int .i64 (N.length : Nat)) ∧ Below W.heap.size W w') := ⟨fun W h => (rlenT_any base Q v N W (hB.far h).ref).mono fun e w' q => ⟨q.1, by rw [q.2]; exact Below.refl _ _⟩⟩
  have HCV : Veil (∀ w' tx tc, Bytes w' tx tn tc z → (convert 35 9 (.slice tx tn tc)).run Try.prog w' = .ok (.string (strOfNums z)) w') := ⟨fun w' tx tc h => conv_bytes h⟩
  generalize ORD.map encF = OC at HO1 HO2 HSD
  generalize ORD.length = on at HO1 HO2 HSD hol
  obtain ⟨SZ, hSZ⟩ : ∃ q, strOfNums z = q := ⟨_, rfl⟩
  rw [hSZ] at HCV
  generalize N.length = n at HL1 HL2
  have hnn : ((n : Int) == (n : Int)) = true := by simp
  generalize atD (atN N i) = xA at HA HA2
  generalize atE (atN N i) = EA at HA HA2
  generalize placeN N i = PL at HP HP2
  obtain ⟨xC, RB, EC⟩ := PL
  simp only at HP HP2
  have hea : (EA == EA) = true := beq_self_eq_true _
  have hec : (EC == EC) = true := beq_self_eq_true _
  have hrb : (RB == RB) = true := beq_self_eq_true _
  have uD := Try.underlying32
  have HEQA : Veil (∀ wx : World, (binOp BinOp.eql 32 (.agg (encF xA).toArray) (.agg (encF xA).toArray)).run Try.prog wx = .ok (.bool true) wx) := ⟨fun wx => by rw [show encF xA = dotC xA.1 xA.2 from rfl, dot_eql]; simp⟩
  have HEQC : Veil (∀ wx : World, (binOp BinOp.eql 32 (.agg (encF xC).toArray) (.agg (encF xC).toArray)).run Try.prog wx = .ok (.bool true) wx) := ⟨fun wx => by rw [show encF xC = dotC xC.1 xC.2 from rfl, dot_eql]; simp⟩
  have iA : (Try.prog.info? 32).map (·.size) = some (encF xA).length := sizeDot
  have iC : (Try.prog.info? 32).map (·.size) = some (encF xC).length := sizeDot
  have h1A := encF_one xA
  have h1C := encF_one xC
  have h2A : [Value.int .u8 0, Value.int .u32 0].length = (encF xA).length := rfl
  have h2C : [Value.int .u8 0, Value.int .u32 0].length = (encF xC).length := rfl
  generalize encF xA = DA at HA HA2 HEQA iA h1A h2A
  generalize encF xC = DC at HP HP2 HEQC iC h1C h2C
  have heqA := HEQA.out
  have heqC := HEQC.out
  have H2A := Veil.mk h2A
  have H2C := Veil.mk h2C
  clear hN hORD hz htn hSZ hB HEQA HEQC h2A h2C
  have ha := HA.out w (Below.refl _ _)
  go_enter Try.func13, Try.ntmps13
  go_upto_region 2 with (first
    | (go_at_call 24; refine ha.mono ?_; rintro z U1 ⟨rfl, hbu1⟩; clear ha)
    | (refine wpList_stv rfl 32 (.tmp 7) _ rfl U1.heap.size rfl (cs := DA) rfl (CellsAt.new U1 32 [.int .u8 0, .int .u32 0]) iA H2A.out h1A ?_))
  have hbw1 : Below w.heap.size w U1 := ((Below.refl w.heap.size w).trans (hbu1.mono (Nat.le_refl _)))
  refine forget (p := fun y => Code.wp _ _ _ _ y) (fun W => Below w.heap.size w W ∧ CellsAt W U1.heap.size 32 DA) ⟨below_setRowN (hbw1.alloc hbw1.size _) hbw1.size _, (CellsAt.new U1 32 [.int .u8 0, .int .u32 0]).setRow DA⟩ ?_
  rintro W1 hq1
  obtain ⟨b7, hB7⟩ : ∃ q, U1.heap.size = q := ⟨_, rfl⟩
  rw [hB7] at hq1 ⊢
  have HW1 := Veil.mk hq1
  clear hq1 hB7 hbu1 hbw1
  have hb := HA2.out W1 HW1.out.1
  go_upto_region 3 with (first
    | (go_at_call 29; refine hb.mono ?_; rintro z U2 ⟨rfl, hbu2⟩; clear hb)
    | (refine wpList_stv rfl 32 (.tmp 9) _ rfl U2.heap.size rfl (cs := DA) rfl (CellsAt.new U2 32 [.int .u8 0, .int .u32 0]) iA H2A.out h1A ?_))
  have hbw2 : Below w.heap.size w U2 := (HW1.out.1.trans (hbu2.mono HW1.out.1.size))
  refine forget (p := fun y => Code.wp _ _ _ _ y) (fun W => Below w.heap.size w W ∧ CellsAt W b7 32 DA ∧ CellsAt W U2.heap.size 32 DA) ⟨below_setRowN (hbw2.alloc hbw2.size _) hbw2.size _, (((HW1.out.2).farM hbu2).alloc _).setRowM _ (by have := ((HW1.out.2).farM hbu2).lt; omega), (CellsAt.new U2 32 [.int .u8 0, .int .u32 0]).setRow DA⟩ ?_
  rintro W2 hq2
  obtain ⟨b9, hB9⟩ : ∃ q, U2.heap.size = q := ⟨_, rfl⟩
  rw [hB9] at hq2 ⊢
  have HW2 := Veil.mk hq2
  clear hq2 hB9 hbu2 hbw2
  have hc := HP.out W2 HW2.out.1
  go_upto_region 4 with (first
    | (go_at_call 15; refine hc.mono ?_; rintro z U3 ⟨rfl, hbu3⟩; clear hc)
    | (refine wpList_stv rfl 32 (.tmp 11) _ rfl U3.heap.size rfl (cs := DC) rfl (CellsAt.new U3 32 [.int .u8 0, .int .u32 0]) iC H2C.out h1C ?_))
  have hbw3 : Below w.heap.size w U3 := (HW2.out.1.trans (hbu3.mono HW2.out.1.size))
  refine forget (p := fun y => Code.wp _ _ _ _ y) (fun W => Below w.heap.size w W ∧ CellsAt W b7 32 DA ∧ CellsAt W b9 32 DA ∧ CellsAt W U3.heap.size 32 DC) ⟨below_setRowN (hbw3.alloc hbw3.size _) hbw3.size _, (((HW2.out.2.1).farM hbu3).alloc _).setRowM _ (by have := ((HW2.out.2.1).farM hbu3).lt; omega), (((HW2.out.2.2).farM hbu3).alloc _).setRowM _ (by have := ((HW2.out.2.2).farM hbu3).lt; omega), (CellsAt.new U3 32 [.int .u8 0, .int .u32 0]).setRow DC⟩ ?_
  rintro W3 hq3
  obtain ⟨b11, hB11⟩ : ∃ q, U3.heap.size = q := ⟨_, rfl⟩
  rw [hB11] at hq3 ⊢
  have HW3 := Veil.mk hq3
  clear hq3 hB11 hbu3 hbw3
  have hd := HP2.out W3 HW3.out.1
  go_upto_region 5 with (first
    | (go_at_call 30; refine hd.mono ?_; rintro z U4 ⟨rfl, hbu4⟩; clear hd)
    | (refine wpList_stv rfl 32 (.tmp 14) _ rfl U4.heap.size rfl (cs := DC) rfl (CellsAt.new U4 32 [.int .u8 0, .int .u32 0]) iC H2C.out h1C ?_))
  have hbw4 : Below w.heap.size w U4 := (HW3.out.1.trans (hbu4.mono HW3.out.1.size))
  refine forget (p := fun y => Code.wp _ _ _ _ y) (fun W => Below w.heap.size w W ∧ CellsAt W b7 32 DA ∧ CellsAt W b9 32 DA ∧ CellsAt W b11 32 DC ∧ CellsAt W U4.heap.size 32 DC) ⟨below_setRowN (hbw4.alloc hbw4.size _) hbw4.size _, (((HW3.out.2.1).farM hbu4).alloc _).setRowM _ (by have := ((HW3.out.2.1).farM hbu4).lt; omega), (((HW3.out.2.2.1).farM hbu4).alloc _).setRowM _ (by have := ((HW3.out.2.2.1).farM hbu4).lt; omega), (((HW3.out.2.2.2).farM hbu4).alloc _).setRowM _ (by have := ((HW3.out.2.2.2).farM hbu4).lt; omega), (CellsAt.new U4 32 [.int .u8 0, .int .u32 0]).setRow DC⟩ ?_
  rintro W4 hq4
  obtain ⟨b14, hB14⟩ : ∃ q, U4.heap.size = q := ⟨_, rfl⟩
  rw [hB14] at hq4 ⊢
  have HW4 := Veil.mk hq4
  clear hq4 hB14 hbu4 hbw4
  have HRW : Veil (∀ W, Below W4.heap.size W4 W → (fun w' : World => w'.rangeAt b7 0 DA ∧ w'.rangeAt b9 0 DA ∧ w'.rangeAt b11 0 DC ∧ w'.rangeAt b14 0 DC) W) := ⟨fun W hb => by
    obtain ⟨-, q1, q2, q3, q4⟩ := HW4.out
    exact ⟨(q1.farM hb).wholeM, (q2.farM hb).wholeM, (q3.farM hb).wholeM, (q4.farM hb).wholeM⟩⟩
  have HBW : Veil (∀ W, Below W4.heap.size W4 W → Below w.heap.size w W) := ⟨fun W hb => HW4.out.1.trans (hb.mono HW4.out.1.size)⟩
  clear HW1 HW2 HW3 HW4 HA HA2 HP HP2 H2A H2C h1A h1C
  have hb0 : Below W4.heap.size W4 W4.drew := (Below.refl _ _).drew
  have htx := HT1.out W4.drew (HBW.out _ hb0)
  refine wp_region_gateT (fun w' : World => w'.rangeAt b7 0 DA ∧ w'.rangeAt b9 0 DA ∧ w'.rangeAt b11 0 DC ∧ w'.rangeAt b14 0 DC) (fun _ => True) 99 (by kernel_rfl) ?_
  have hT : (fun w' : World => w'.rangeAt b7 0 DA ∧ w'.rangeAt b9 0 DA ∧ w'.rangeAt b11 0 DC ∧ w'.rangeAt b14 0 DC) W4.drew := HRW.out _ hb0
  have hS : (fun _ : World => True) W4.drew := trivial
  refine wpAnyT_held (i := 0) (v := ?_) rfl (by kernel_rfl) (by kernel_rfl) (by kernel_rfl) (fun _ _ _ h => h) (by kernel_rfl) hT (fun _ => hS) (by kernel_rfl) ?_ ?_
  rotate_left
  · intro wx hSw; go_split_ands; go_simp; try with_reducible rfl
  simp only [Act.put, List.getElem_toArray, List.getElem_cons_succ, List.getElem_cons_zero, List.setIfInBounds_toArray, List.set_cons_zero, List.set_cons_succ]
  refine wpAnyT_held (i := 3) (v := ?_) rfl (by kernel_rfl) (by kernel_rfl) (by kernel_rfl) (fun _ _ _ h => h) (by kernel_rfl) hT (fun _ => hS) (by kernel_rfl) ?_ ?_
  rotate_left
  · intro wx hSw; go_split_ands; go_simp; try with_reducible rfl
  simp only [Act.put, List.getElem_toArray, List.getElem_cons_succ, List.getElem_cons_zero, List.setIfInBounds_toArray, List.set_cons_zero, List.set_cons_succ]
  refine wpAnyT_one (i := 1) rfl (by kernel_rfl) (by kernel_rfl) (fun K hK => ?_)
  refine wpx_call _ _ (by kernel_rfl) (htx.mono ?_)
  rintro zz U3 ⟨tx, tc, rfl, hz3, hb3⟩
  refine ⟨_, rfl, ?_⟩
  replace hb3 : Below W4.heap.size W4 U3 := hb0.trans hb3
  replace hT : (fun w' : World => w'.rangeAt b7 0 DA ∧ w'.rangeAt b9 0 DA ∧ w'.rangeAt b11 0 DC ∧ w'.rangeAt b14 0 DC) U3 := HRW.out _ hb3
  replace hS : (fun _ : World => True) U3 := trivial
  have htx2 := HT2.out U3 (HBW.out _ hb3)
  have HZ3 := Veil.mk hz3
  clear htx hz3 hb0
  refine hK.out _ _ hT (fun _ => hS) ?_
  clear hK K
  try simp only [Act.put, List.getElem_toArray, List.getElem_cons_succ, List.getElem_cons_zero, List.setIfInBounds_toArray, List.set_cons_zero, List.set_cons_succ]
  refine wpAnyT_more (T' := fun w' : World => (convert 35 9 (.slice tx tn tc)).run Try.prog w' = .ok (.string SZ) w' ∧ w'.rangeAt b7 0 DA ∧ w'.rangeAt b9 0 DA ∧ w'.rangeAt b11 0 DC ∧ w'.rangeAt b14 0 DC) (fun _ h => h.2) _ _ _ _ ?_
  replace hT : (fun w' : World => (convert 35 9 (.slice tx tn tc)).run Try.prog w' = .ok (.string SZ) w' ∧ w'.rangeAt b7 0 DA ∧ w'.rangeAt b9 0 DA ∧ w'.rangeAt b11 0 DC ∧ w'.rangeAt b14 0 DC) U3 := ⟨HCV.out _ _ _ HZ3.out, hT⟩
  refine wpAnyT_held (i := 2) (v := ?_) rfl (by kernel_rfl) (by kernel_rfl) (by kernel_rfl) (fun _ _ _ h => h) (by kernel_rfl) hT (fun _ => hS) (by kernel_rfl) ?_ ?_
  rotate_left
  · intro wx hSw; go_split_ands; go_simp; try with_reducible rfl
  simp only [Act.put, List.getElem_toArray, List.getElem_cons_succ, List.getElem_cons_zero, List.setIfInBounds_toArray, List.set_cons_zero, List.set_cons_succ]
  refine wpAnyT_one (i := 4) rfl (by kernel_rfl) (by kernel_rfl) (fun K hK => ?_)
  refine wpx_call _ _ (by kernel_rfl) (htx2.mono ?_)
  rintro zz U4 ⟨tx2, tc2, rfl, hz4, hb4⟩
  refine ⟨_, rfl, ?_⟩
  have HZ4 := Veil.mk (And.intro (HZ3.out.below hb4) hz4)
  replace hb4 : Below W4.heap.size W4 U4 := hb3.trans (hb4.mono hb3.size)
  replace hT : (fun w' : World => (convert 35 9 (.slice tx tn tc)).run Try.prog w' = .ok (.string SZ) w' ∧ w'.rangeAt b7 0 DA ∧ w'.rangeAt b9 0 DA ∧ w'.rangeAt b11 0 DC ∧ w'.rangeAt b14 0 DC) U4 := ⟨HCV.out _ _ _ HZ4.out.1, HRW.out _ hb4⟩
  replace hS : (fun _ : World => True) U4 := trivial
  have hor := HO1.out U4 (HBW.out _ hb4)
  clear htx2 hz4 hb3 HZ3
  refine hK.out _ _ hT (fun _ => hS) ?_
  clear hK K
  try simp only [Act.put, List.getElem_toArray, List.getElem_cons_succ, List.getElem_cons_zero, List.setIfInBounds_toArray, List.set_cons_zero, List.set_cons_succ]
  refine wpAnyT_more (T' := fun w' : World => (convert 35 9 (.slice tx tn tc)).run Try.prog w' = .ok (.string SZ) w' ∧ (convert 35 9 (.slice tx2 tn tc2)).run Try.prog w' = .ok (.string SZ) w' ∧ w'.rangeAt b7 0 DA ∧ w'.rangeAt b9 0 DA ∧ w'.rangeAt b11 0 DC ∧ w'.rangeAt b14 0 DC) (fun _ h => ⟨h.1, h.2.2⟩) _ _ _ _ ?_
  replace hT : (fun w' : World => (convert 35 9 (.slice tx tn tc)).run Try.prog w' = .ok (.string SZ) w' ∧ (convert 35 9 (.slice tx2 tn tc2)).run Try.prog w' = .ok (.string SZ) w' ∧ w'.rangeAt b7 0 DA ∧ w'.rangeAt b9 0 DA ∧ w'.rangeAt b11 0 DC ∧ w'.rangeAt b14 0 DC) U4 := ⟨HCV.out _ _ _ HZ4.out.1, HCV.out _ _ _ HZ4.out.2, HRW.out _ hb4⟩
  refine wpAnyT_held (i := 5) (v := ?_) rfl (by kernel_rfl) (by kernel_rfl) (by kernel_rfl) (fun _ _ _ h => h) (by kernel_rfl) hT (fun _ => hS) (by kernel_rfl) ?_ ?_
  rotate_left
  · intro wx hSw; go_split_ands; go_simp; try with_reducible rfl
  simp only [Act.put, List.getElem_toArray, List.getElem_cons_succ, List.getElem_cons_zero, List.setIfInBounds_toArray, List.set_cons_zero, List.set_cons_succ]
  refine wpAnyT_held (i := 6) (v := .bool true) rfl (by kernel_rfl) (by kernel_rfl) (by kernel_rfl) (fun _ _ _ h => h) (by kernel_rfl) hT (fun _ => hS) (by kernel_rfl) ?_ ?_
  · intro wx hSw; go_split_ands; go_simp
  simp only [Act.put, List.getElem_toArray, List.getElem_cons_succ, List.getElem_cons_zero, List.setIfInBounds_toArray, List.set_cons_zero, List.set_cons_succ]
  refine wpAnyT_held (i := 7) (v := ?_) rfl (by kernel_rfl) (by kernel_rfl) (by kernel_rfl) (fun _ _ _ h => h) (by kernel_rfl) hT (fun _ => hS) (by kernel_rfl) ?_ ?_
  rotate_left
  · intro wx hSw; go_split_ands; go_simp; try with_reducible rfl
  simp only [Act.put, List.getElem_toArray, List.getElem_cons_succ, List.getElem_cons_zero, List.setIfInBounds_toArray, List.set_cons_zero, List.set_cons_succ]
  refine wpAnyT_held (i := 8) (v := ?_) rfl (by kernel_rfl) (by kernel_rfl) (by kernel_rfl) (fun _ _ _ h => h) (by kernel_rfl) hT (fun _ => hS) (by kernel_rfl) ?_ ?_
  rotate_left
  · intro wx hSw; go_split_ands; go_simp; try with_reducible rfl
  simp only [Act.put, List.getElem_toArray, List.getElem_cons_succ, List.getElem_cons_zero, List.setIfInBounds_toArray, List.set_cons_zero, List.set_cons_succ]
  refine wpAnyT_held (i := 10) (v := ?_) rfl (by kernel_rfl) (by kernel_rfl) (by kernel_rfl) (fun _ _ _ h => h) (by kernel_rfl) hT (fun _ => hS) (by kernel_rfl) ?_ ?_
  rotate_left
  · intro wx hSw; go_split_ands; go_simp; try with_reducible rfl
  simp only [Act.put, List.getElem_toArray, List.getElem_cons_succ, List.getElem_cons_zero, List.setIfInBounds_toArray, List.set_cons_zero, List.set_cons_succ]
  refine wpAnyT_one (i := 9) rfl (by kernel_rfl) (by kernel_rfl) (fun K hK => ?_)
  refine wpx_call _ _ (by kernel_rfl) (hor.mono ?_)
  rintro zz U5 ⟨ox, oc, rfl, hO5, hb5⟩
  refine ⟨_, rfl, ?_⟩
  have HZ5 := Veil.mk (And.intro (HZ4.out.1.below hb5) (And.intro (HZ4.out.2.below hb5) hO5))
  replace hb5 : Below W4.heap.size W4 U5 := hb4.trans (hb5.mono hb4.size)
  replace hT : (fun w' : World => (convert 35 9 (.slice tx tn tc)).run Try.prog w' = .ok (.string SZ) w' ∧ (convert 35 9 (.slice tx2 tn tc2)).run Try.prog w' = .ok (.string SZ) w' ∧ w'.rangeAt b7 0 DA ∧ w'.rangeAt b9 0 DA ∧ w'.rangeAt b11 0 DC ∧ w'.rangeAt b14 0 DC) U5 := ⟨HCV.out _ _ _ HZ5.out.1, HCV.out _ _ _ HZ5.out.2.1, HRW.out _ hb5⟩
  replace hS : (fun _ : World => True) U5 := trivial
  have hor2 := HO2.out U5 (HBW.out _ hb5)
  clear hor hO5 HZ4 hb4
  refine hK.out _ _ hT (fun _ => hS) ?_
  clear hK K
  try simp only [Act.put, List.getElem_toArray, List.getElem_cons_succ, List.getElem_cons_zero, List.setIfInBounds_toArray, List.set_cons_zero, List.set_cons_succ]
  refine wpAnyT_one (i := 11) rfl (by kernel_rfl) (by kernel_rfl) (fun K hK => ?_)
  refine wpx_call _ _ (by kernel_rfl) (hor2.mono ?_)
  rintro zz U6 ⟨ox2, oc2, rfl, hO6, hb6⟩
  refine ⟨_, rfl, ?_⟩
  have hsd := HSD.out _ _ ox ox2 oc oc2 U6 (HZ5.out.2.2.far hb6) hO6
  have HZ6 := Veil.mk (And.intro (HZ5.out.1.below hb6) (HZ5.out.2.1.below hb6))
  replace hb6 : Below W4.heap.size W4 U6 := hb5.trans (hb6.mono hb5.size)
  replace hT : (fun w' : World => (convert 35 9 (.slice tx tn tc)).run Try.prog w' = .ok (.string SZ) w' ∧ (convert 35 9 (.slice tx2 tn tc2)).run Try.prog w' = .ok (.string SZ) w' ∧ w'.rangeAt b7 0 DA ∧ w'.rangeAt b9 0 DA ∧ w'.rangeAt b11 0 DC ∧ w'.rangeAt b14 0 DC) U6 := ⟨HCV.out _ _ _ HZ6.out.1, HCV.out _ _ _ HZ6.out.2, HRW.out _ hb6⟩
  replace hS : (fun _ : World => True) U6 := trivial
  clear hor2 hO6 HZ5 hb5
  refine hK.out _ _ hT (fun _ => hS) ?_
  clear hK K
  try simp only [Act.put, List.getElem_toArray, List.getElem_cons_succ, List.getElem_cons_zero, List.setIfInBounds_toArray, List.set_cons_zero, List.set_cons_succ]
  refine wpAnyT_one (i := 12) rfl (by kernel_rfl) (by kernel_rfl) (fun K hK => ?_)
  refine wpx_call _ _ (by kernel_rfl) (hsd.mono ?_)
  rintro zz U7 ⟨rfl, hb7⟩
  refine ⟨_, rfl, ?_⟩
  have HZ7 := Veil.mk (And.intro (HZ6.out.1.below hb7) (HZ6.out.2.below hb7))
  replace hb7 : Below W4.heap.size W4 U7 := hb6.trans (hb7.mono hb6.size)
  replace hT : (fun w' : World => (convert 35 9 (.slice tx tn tc)).run Try.prog w' = .ok (.string SZ) w' ∧ (convert 35 9 (.slice tx2 tn tc2)).run Try.prog w' = .ok (.string SZ) w' ∧ w'.rangeAt b7 0 DA ∧ w'.rangeAt b9 0 DA ∧ w'.rangeAt b11 0 DC ∧ w'.rangeAt b14 0 DC) U7 := ⟨HCV.out _ _ _ HZ7.out.1, HCV.out _ _ _ HZ7.out.2, HRW.out _ hb7⟩
  replace hS : (fun _ : World => True) U7 := trivial
  have hln := HL1.out U7 (HBW.out _ hb7)
  clear hsd hb6 HZ6
  refine hK.out _ _ hT (fun _ => hS) ?_
  clear hK K
  try simp only [Act.put, List.getElem_toArray, List.getElem_cons_succ, List.getElem_cons_zero, List.setIfInBounds_toArray, List.set_cons_zero, List.set_cons_succ]
  refine wpAnyT_held (i := 13) (v := ?_) rfl (by kernel_rfl) (by kernel_rfl) (by kernel_rfl) (fun _ _ _ h => h) (by kernel_rfl) hT (fun _ => hS) (by kernel_rfl) ?_ ?_
  rotate_left
  · intro wx hSw; go_split_ands; go_simp; try with_reducible rfl
  simp only [Act.put, List.getElem_toArray, List.getElem_cons_succ, List.getElem_cons_zero, List.setIfInBounds_toArray, List.set_cons_zero, List.set_cons_succ]
  refine wpAnyT_held (i := 14) (v := ?_) rfl (by kernel_rfl) (by kernel_rfl) (by kernel_rfl) (fun _ _ _ h => h) (by kernel_rfl) hT (fun _ => hS) (by kernel_rfl) ?_ ?_
  rotate_left
  · intro wx hSw; go_split_ands; go_simp; try with_reducible rfl
  simp only [Act.put, List.getElem_toArray, List.getElem_cons_succ, List.getElem_cons_zero, List.setIfInBounds_toArray, List.set_cons_zero, List.set_cons_succ]
  refine wpAnyT_held (i := 15) (v := ?_) rfl (by kernel_rfl) (by kernel_rfl) (by kernel_rfl) (fun _ _ _ h => h) (by kernel_rfl) hT (fun _ => hS) (by kernel_rfl) ?_ ?_
  rotate_left
  · intro wx hSw; go_split_ands; go_simp; try with_reducible rfl
  simp only [Act.put, List.getElem_toArray, List.getElem_cons_succ, List.getElem_cons_zero, List.setIfInBounds_toArray, List.set_cons_zero, List.set_cons_succ]
  refine wpAnyT_held (i := 17) (v := ?_) rfl (by kernel_rfl) (by kernel_rfl) (by kernel_rfl) (fun _ _ _ h => h) (by kernel_rfl) hT (fun _ => hS) (by kernel_rfl) ?_ ?_
  rotate_left
  · intro wx hSw; go_split_ands; go_simp; try with_reducible rfl
  simp only [Act.put, List.getElem_toArray, List.getElem_cons_succ, List.getElem_cons_zero, List.setIfInBounds_toArray, List.set_cons_zero, List.set_cons_succ]
  refine wpAnyT_one (i := 16) rfl (by kernel_rfl) (by kernel_rfl) (fun K hK => ?_)
  refine wpx_call _ _ (by kernel_rfl) (hln.mono ?_)
  rintro zz U8 ⟨rfl, hU8⟩
  refine ⟨_, rfl, ?_⟩
  subst hU8
  have hln2 := HL2.out U8 (HBW.out _ hb7)
  clear hln
  refine hK.out _ _ hT (fun _ => hS) ?_
  clear hK K
  try simp only [Act.put, List.getElem_toArray, List.getElem_cons_succ, List.getElem_cons_zero, List.setIfInBounds_toArray, List.set_cons_zero, List.set_cons_succ]
  refine wpAnyT_one (i := 18) rfl (by kernel_rfl) (by kernel_rfl) (fun K hK => ?_)
  refine wpx_call _ _ (by kernel_rfl) (hln2.mono ?_)
  rintro zz U9 ⟨rfl, hb9⟩
  refine ⟨_, rfl, ?_⟩
  have HZ9 := Veil.mk (And.intro (HZ7.out.1.below hb9) (HZ7.out.2.below hb9))
  replace hb9 : Below W4.heap.size W4 U9 := hb7.trans (hb9.mono hb7.size)
  replace hT : (fun w' : World => (convert 35 9 (.slice tx tn tc)).run Try.prog w' = .ok (.string SZ) w' ∧ (convert 35 9 (.slice tx2 tn tc2)).run Try.prog w' = .ok (.string SZ) w' ∧ w'.rangeAt b7 0 DA ∧ w'.rangeAt b9 0 DA ∧ w'.rangeAt b11 0 DC ∧ w'.rangeAt b14 0 DC) U9 := ⟨HCV.out _ _ _ HZ9.out.1, HCV.out _ _ _ HZ9.out.2, HRW.out _ hb9⟩
  replace hS : (fun _ : World => True) U9 := trivial
  clear hln2 hb7 HZ7
  refine hK.out _ _ hT (fun _ => hS) ?_
  clear hK K
  try simp only [Act.put, List.getElem_toArray, List.getElem_cons_succ, List.getElem_cons_zero, List.setIfInBounds_toArray, List.set_cons_zero, List.set_cons_succ]
  refine wpAnyT_held (i := 19) (v := .bool true) rfl (by kernel_rfl) (by kernel_rfl) (by kernel_rfl) (fun _ _ _ h => h) (by kernel_rfl) hT (fun _ => hS) (by kernel_rfl) ?_ ?_
  · intro wx hSw; go_split_ands; go_simp
  simp only [Act.put, List.getElem_toArray, List.getElem_cons_succ, List.getElem_cons_zero, List.setIfInBounds_toArray, List.set_cons_zero, List.set_cons_succ]
  refine wpAnyT_held (i := 20) (v := ?_) rfl (by kernel_rfl) (by kernel_rfl) (by kernel_rfl) (fun _ _ _ h => h) (by kernel_rfl) hT (fun _ => hS) (by kernel_rfl) ?_ ?_
  rotate_left
  · intro wx hSw; go_split_ands; go_simp; try with_reducible rfl
  simp only [Act.put, List.getElem_toArray, List.getElem_cons_succ, List.getElem_cons_zero, List.setIfInBounds_toArray, List.set_cons_zero, List.set_cons_succ]
  refine wpAnyT_held (i := 21) (v := ?_) rfl (by kernel_rfl) (by kernel_rfl) (by kernel_rfl) (fun _ _ _ h => h) (by kernel_rfl) hT (fun _ => hS) (by kernel_rfl) ?_ ?_
  rotate_left
  · intro wx hSw; go_split_ands; go_simp; try with_reducible rfl
  simp only [Act.put, List.getElem_toArray, List.getElem_cons_succ, List.getElem_cons_zero, List.setIfInBounds_toArray, List.set_cons_zero, List.set_cons_succ]
  refine wpAnyT_load (i := 22) (dst := some 65) (ty := 32) (x := .tmp 7) (b := b7) (o := (0)) (cs := DA) (by kernel_rfl) (by kernel_rfl) (by kernel_rfl) (by kernel_rfl) (by kernel_rfl) (fun _ _ _ h => h) (by kernel_rfl) hT (fun _ => hS) (by kernel_rfl) (fun _ h => h.2.2.1) uD rfl iA ?_
  simp only [Act.put, List.getElem_toArray, List.getElem_cons_succ, List.getElem_cons_zero, List.setIfInBounds_toArray, List.set_cons_zero, List.set_cons_succ]
  refine wpAnyT_load (i := 23) (dst := some 66) (ty := 32) (x := .tmp 9) (b := b9) (o := (0)) (cs := DA) (by kernel_rfl) (by kernel_rfl) (by kernel_rfl) (by kernel_rfl) (by kernel_rfl) (fun _ _ _ h => h) (by kernel_rfl) hT (fun _ => hS) (by kernel_rfl) (fun _ h => h.2.2.2.1) uD rfl iA ?_
  simp only [Act.put, List.getElem_toArray, List.getElem_cons_succ, List.getElem_cons_zero, List.setIfInBounds_toArray, List.set_cons_zero, List.set_cons_succ]
  refine wpAnyT_held (i := 24) (v := .bool true) rfl (by kernel_rfl) (by kernel_rfl) (by kernel_rfl) (fun _ _ _ h => h) (by kernel_rfl) hT (fun _ => hS) (by kernel_rfl) (fun wx h => exec_eqF rfl rfl rfl (by go_simp) (heqA wx)) ?_
  simp only [Act.put, List.getElem_toArray, List.getElem_cons_succ, List.getElem_cons_zero, List.setIfInBounds_toArray, List.set_cons_zero, List.set_cons_succ]
  refine wpAnyT_held (i := 25) (v := ?_) rfl (by kernel_rfl) (by kernel_rfl) (by kernel_rfl) (fun _ _ _ h => h) (by kernel_rfl) hT (fun _ => hS) (by kernel_rfl) ?_ ?_
  rotate_left
  · intro wx hSw; go_split_ands; go_simp; try with_reducible rfl
  simp only [Act.put, List.getElem_toArray, List.getElem_cons_succ, List.getElem_cons_zero, List.setIfInBounds_toArray, List.set_cons_zero, List.set_cons_succ]
  refine wpAnyT_held (i := 26) (v := ?_) rfl (by kernel_rfl) (by kernel_rfl) (by kernel_rfl) (fun _ _ _ h => h) (by kernel_rfl) hT (fun _ => hS) (by kernel_rfl) ?_ ?_
  rotate_left
  · intro wx hSw; go_split_ands; go_simp; try with_reducible rfl
  simp only [Act.put, List.getElem_toArray, List.getElem_cons_succ, List.getElem_cons_zero, List.setIfInBounds_toArray, List.set_cons_zero, List.set_cons_succ]
  refine wpAnyT_held (i := 27) (v := ?_) rfl (by kernel_rfl) (by kernel_rfl) (by kernel_rfl) (fun _ _ _ h => h) (by kernel_rfl) hT (fun _ => hS) (by kernel_rfl) ?_ ?_
  rotate_left
  · intro wx hSw; go_split_ands; go_simp; try with_reducible rfl
  simp only [Act.put, List.getElem_toArray, List.getElem_cons_succ, List.getElem_cons_zero, List.setIfInBounds_toArray, List.set_cons_zero, List.set_cons_succ]
  refine wpAnyT_held (i := 28) (v := ?_) rfl (by kernel_rfl) (by kernel_rfl) (by kernel_rfl) (fun _ _ _ h => h) (by kernel_rfl) hT (fun _ => hS) (by kernel_rfl) ?_ ?_
  rotate_left
  · intro wx hSw; go_split_ands; go_simp; try with_reducible rfl
  simp only [Act.put, List.getElem_toArray, List.getElem_cons_succ, List.getElem_cons_zero, List.setIfInBounds_toArray, List.set_cons_zero, List.set_cons_succ]
  refine wpAnyT_held (i := 29) (v := .bool true) rfl (by kernel_rfl) (by kernel_rfl) (by kernel_rfl) (fun _ _ _ h => h) (by kernel_rfl) hT (fun _ => hS) (by kernel_rfl) ?_ ?_
  · intro wx hSw; go_split_ands; go_simp
  simp only [Act.put, List.getElem_toArray, List.getElem_cons_succ, List.getElem_cons_zero, List.setIfInBounds_toArray, List.set_cons_zero, List.set_cons_succ]
  refine wpAnyT_held (i := 30) (v := ?_) rfl (by kernel_rfl) (by kernel_rfl) (by kernel_rfl) (fun _ _ _ h => h) (by kernel_rfl) hT (fun _ => hS) (by kernel_rfl) ?_ ?_
  rotate_left
  · intro wx hSw; go_split_ands; go_simp; try with_reducible rfl
  simp only [Act.put, List.getElem_toArray, List.getElem_cons_succ, List.getElem_cons_zero, List.setIfInBounds_toArray, List.set_cons_zero, List.set_cons_succ]
  refine wpAnyT_held (i := 31) (v := ?_) rfl (by kernel_rfl) (by kernel_rfl) (by kernel_rfl) (fun _ _ _ h => h) (by kernel_rfl) hT (fun _ => hS) (by kernel_rfl) ?_ ?_
  rotate_left
  · intro wx hSw; go_split_ands; go_simp; try with_reducible rfl
  simp only [Act.put, List.getElem_toArray, List.getElem_cons_succ, List.getElem_cons_zero, List.setIfInBounds_toArray, List.set_cons_zero, List.set_cons_succ]
  refine wpAnyT_load (i := 32) (dst := some 75) (ty := 32) (x := .tmp 11) (b := b11) (o := (0)) (cs := DC) (by kernel_rfl) (by kernel_rfl) (by kernel_rfl) (by kernel_rfl) (by kernel_rfl) (fun _ _ _ h => h) (by kernel_rfl) hT (fun _ => hS) (by kernel_rfl) (fun _ h => h.2.2.2.2.1) uD rfl iC ?_
  simp only [Act.put, List.getElem_toArray, List.getElem_cons_succ, List.getElem_cons_zero, List.setIfInBounds_toArray, List.set_cons_zero, List.set_cons_succ]
  refine wpAnyT_load (i := 33) (dst := some 76) (ty := 32) (x := .tmp 14) (b := b14) (o := (0)) (cs := DC) (by kernel_rfl) (by kernel_rfl) (by kernel_rfl) (by kernel_rfl) (by kernel_rfl) (fun _ _ _ h => h) (by kernel_rfl) hT (fun _ => hS) (by kernel_rfl) (fun _ h => h.2.2.2.2.2) uD rfl iC ?_
  simp only [Act.put, List.getElem_toArray, List.getElem_cons_succ, List.getElem_cons_zero, List.setIfInBounds_toArray, List.set_cons_zero, List.set_cons_succ]
  refine wpAnyT_held (i := 34) (v := .bool true) rfl (by kernel_rfl) (by kernel_rfl) (by kernel_rfl) (fun _ _ _ h => h) (by kernel_rfl) hT (fun _ => hS) (by kernel_rfl) (fun wx h => exec_eqF rfl rfl rfl (by go_simp) (heqC wx)) ?_
  simp only [Act.put, List.getElem_toArray, List.getElem_cons_succ, List.getElem_cons_zero, List.setIfInBounds_toArray, List.set_cons_zero, List.set_cons_succ]
  refine wpAnyT_held (i := 35) (v := ?_) rfl (by kernel_rfl) (by kernel_rfl) (by kernel_rfl) (fun _ _ _ h => h) (by kernel_rfl) hT (fun _ => hS) (by kernel_rfl) ?_ ?_
  rotate_left
  · intro wx hSw; go_split_ands; go_simp; try with_reducible rfl
  simp only [Act.put, List.getElem_toArray, List.getElem_cons_succ, List.getElem_cons_zero, List.setIfInBounds_toArray, List.set_cons_zero, List.set_cons_succ]
  refine wpAnyT_held (i := 36) (v := ?_) rfl (by kernel_rfl) (by kernel_rfl) (by kernel_rfl) (fun _ _ _ h => h) (by kernel_rfl) hT (fun _ => hS) (by kernel_rfl) ?_ ?_
  rotate_left
  · intro wx hSw; go_split_ands; go_simp; try with_reducible rfl
  simp only [Act.put, List.getElem_toArray, List.getElem_cons_succ, List.getElem_cons_zero, List.setIfInBounds_toArray, List.set_cons_zero, List.set_cons_succ]
  refine wpAnyT_held (i := 37) (v := ?_) rfl (by kernel_rfl) (by kernel_rfl) (by kernel_rfl) (fun _ _ _ h => h) (by kernel_rfl) hT (fun _ => hS) (by kernel_rfl) ?_ ?_
  rotate_left
  · intro wx hSw; go_split_ands; go_simp; try with_reducible rfl
  simp only [Act.put, List.getElem_toArray, List.getElem_cons_succ, List.getElem_cons_zero, List.setIfInBounds_toArray, List.set_cons_zero, List.set_cons_succ]
  refine wpAnyT_held (i := 38) (v := ?_) rfl (by kernel_rfl) (by kernel_rfl) (by kernel_rfl) (fun _ _ _ h => h) (by kernel_rfl) hT (fun _ => hS) (by kernel_rfl) ?_ ?_
  rotate_left
  · intro wx hSw; go_split_ands; go_simp; try with_reducible rfl
  simp only [Act.put, List.getElem_toArray, List.getElem_cons_succ, List.getElem_cons_zero, List.setIfInBounds_toArray, List.set_cons_zero, List.set_cons_succ]
  refine wpAnyT_held (i := 39) (v := .bool true) rfl (by kernel_rfl) (by kernel_rfl) (by kernel_rfl) (fun _ _ _ h => h) (by kernel_rfl) hT (fun _ => hS) (by kernel_rfl) ?_ ?_
  · intro wx hSw; go_split_ands; go_simp
  simp only [Act.put, List.getElem_toArray, List.getElem_cons_succ, List.getElem_cons_zero, List.setIfInBounds_toArray, List.set_cons_zero, List.set_cons_succ]
  refine wpAnyT_held (i := 40) (v := ?_) rfl (by kernel_rfl) (by kernel_rfl) (by kernel_rfl) (fun _ _ _ h => h) (by kernel_rfl) hT (fun _ => hS) (by kernel_rfl) ?_ ?_
  rotate_left
  · intro wx hSw; go_split_ands; go_simp; try with_reducible rfl
  simp only [Act.put, List.getElem_toArray, List.getElem_cons_succ, List.getElem_cons_zero, List.setIfInBounds_toArray, List.set_cons_zero, List.set_cons_succ]
  refine wpAnyT_held (i := 41) (v := ?_) rfl (by kernel_rfl) (by kernel_rfl) (by kernel_rfl) (fun _ _ _ h => h) (by kernel_rfl) hT (fun _ => hS) (by kernel_rfl) ?_ ?_
  rotate_left
  · intro wx hSw; go_split_ands; go_simp; try with_reducible rfl
  simp only [Act.put, List.getElem_toArray, List.getElem_cons_succ, List.getElem_cons_zero, List.setIfInBounds_toArray, List.set_cons_zero, List.set_cons_succ]
  refine wpAnyT_held (i := 42) (v := ?_) rfl (by kernel_rfl) (by kernel_rfl) (by kernel_rfl) (fun _ _ _ h => h) (by kernel_rfl) hT (fun _ => hS) (by kernel_rfl) ?_ ?_
  rotate_left
  · intro wx hSw; go_split_ands; go_simp; try with_reducible rfl
  simp only [Act.put, List.getElem_toArray, List.getElem_cons_succ, List.getElem_cons_zero, List.setIfInBounds_toArray, List.set_cons_zero, List.set_cons_succ]
  refine wpAnyT_held (i := 43) (v := ?_) rfl (by kernel_rfl) (by kernel_rfl) (by kernel_rfl) (fun _ _ _ h => h) (by kernel_rfl) hT (fun _ => hS) (by kernel_rfl) ?_ ?_
  rotate_left
  · intro wx hSw; go_split_ands; go_simp; try with_reducible rfl
  simp only [Act.put, List.getElem_toArray, List.getElem_cons_succ, List.getElem_cons_zero, List.setIfInBounds_toArray, List.set_cons_zero, List.set_cons_succ]
  refine wpAnyT_held (i := 44) (v := .bool true) rfl (by kernel_rfl) (by kernel_rfl) (by kernel_rfl) (fun _ _ _ h => h) (by kernel_rfl) hT (fun _ => hS) (by kernel_rfl) ?_ ?_
  · intro wx hSw; go_split_ands; go_simp
  simp only [Act.put, List.getElem_toArray, List.getElem_cons_succ, List.getElem_cons_zero, List.setIfInBounds_toArray, List.set_cons_zero, List.set_cons_succ]
  refine wpAnyT_held (i := 45) (v := ?_) rfl (by kernel_rfl) (by kernel_rfl) (by kernel_rfl) (fun _ _ _ h => h) (by kernel_rfl) hT (fun _ => hS) (by kernel_rfl) ?_ ?_
  rotate_left
  · intro wx hSw; go_split_ands; go_simp; try with_reducible rfl
  simp only [Act.put, List.getElem_toArray, List.getElem_cons_succ, List.getElem_cons_zero, List.setIfInBounds_toArray, List.set_cons_zero, List.set_cons_succ]
  refine wpAnyT_held (i := 46) (v := ?_) rfl (by kernel_rfl) (by kernel_rfl) (by kernel_rfl) (fun _ _ _ h => h) (by kernel_rfl) hT (fun _ => hS) (by kernel_rfl) ?_ ?_
  rotate_left
  · intro wx hSw; go_split_ands; go_simp; try with_reducible rfl
  simp only [Act.put, List.getElem_toArray, List.getElem_cons_succ, List.getElem_cons_zero, List.setIfInBounds_toArray, List.set_cons_zero, List.set_cons_succ]
  refine wpAnyT_done (by kernel_rfl) ?_ _
  have HQ := Veil.mk (HBW.out _ hb9)
  clear hT hS
  go_wp2
  go_ret
  exact ⟨rfl, HQ.out⟩
end Go.Proofs.Ytdkkenlehdblpaa

