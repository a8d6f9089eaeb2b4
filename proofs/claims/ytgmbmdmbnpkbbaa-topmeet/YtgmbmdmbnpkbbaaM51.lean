/- TopMeetW -/
import Derived.Test.YtgmbmdmbnpkbbaaM50
namespace Go.Proofs.Ytgmbmdmbnpkbbaa
open Go.RowKit Go.Shelf
set_option maxRecDepth 20000
set_option linter.unusedSimpArgs false
set_option maxHeartbeats 32000000 in
theorem meet_walk (px : Option Addr) (pn pc : Nat) (P : List Int) (qx : Option Addr) (qn qc : Nat) (Q : List Int) (w : World) (hP : Bytes w px pn pc P) (hQ : Bytes w qx qn qc Q) (hP8 : ∀ v ∈ P, 0 ≤ v ∧ v ≤ 255) (hQ8 : ∀ v ∈ Q, 0 ≤ v ∧ v ≤ 255) :
    Calls Try.prog 4 #[.slice px pn pc, .slice qx qn qc] w fun e w' => e = .returned (.bool true) ∧ Below w.heap.size w w' := by
  have hR := rev_at (c := 1) (by omega) (by omega)
  have r1 := hR.r1
  have g0 := GoodD.new
  have o1 : vE1.Ok := vE1_ok
  have g1 : GoodD vS1 := g0.ap o1 r1
  have hmd : Made vS1 := Made.new.ap r1
  have hf1 := fewT_any px pn pc 10 P w hP (by omega) (by omega)
  have hf2 := fewT_any qx qn qc 10 Q w hQ (by omega) (by omega)
  rw [show ((10 : Nat) : Int) = 10 from rfl] at hf1 hf2
  have hBP := hP.few 10
  have hBQ := hQ.few 10
  have h8P : ∀ v ∈ P.take 10, 0 ≤ v ∧ v ≤ 255 := fun v hv => hP8 v (List.mem_of_mem_take hv)
  have h8Q : ∀ v ∈ Q.take 10, 0 ≤ v ∧ v ≤ 255 := fun v hv => hQ8 v (List.mem_of_mem_take hv)
  have hlP : (P.take 10).length ≤ 10 := by rw [List.length_take]; omega
  have hlQ : (Q.take 10).length ≤ 10 := by rw [List.length_take]; omega
  generalize P.take 10 = A at hBP h8P hlP
  generalize Q.take 10 = C at hBQ h8Q hlQ
  generalize min pn 10 = n at hf1 hBP
  generalize min qn 10 = m at hf2 hBQ
  obtain rfl : n = A.length := hBP.len_eq
  obtain rfl : m = C.length := hBQ.len_eq
  have HME := Veil.mk (meetM r1 (wordL_ok hlP) (wordL_ok hlQ))
  rw [wordL_len, wordL_len] at HME
  have hSA := stepsA r1 hlP
  have hSC := stepsB r1 hlQ
  have HG1 : Veil (∀ W D, AtD w.heap.size W newS D → Calls Try.prog 7 #[.pointer (some ⟨D, 0, none⟩), .int .u8 0, .int .u8 1, .int .u8 2] W fun r w' => r = .returned (.tuple #[.agg vE1.cells.toArray, .int .i64 0]) ∧ Below W.heap.size W w') := ⟨fun W D h => by
    have := h.give g0 0 1 2 (by omega)
    rw [tellG_ok hR.f1] at this
    exact this⟩
  have HA1 : Veil (∀ W D, AtD w.heap.size W newS D → w.heap.size ≤ W.heap.size → Calls Try.prog 8 #[.pointer (some ⟨D, 0, none⟩), .agg vE1.cells.toArray, .int .i64 0] W fun r w' => r = .returned (.bool true) ∧ AtD w.heap.size w' vS1 D ∧ Below w.heap.size W w') := ⟨fun W D h hb => applied_any _ newS D _ W h g0 o1 r1 hb⟩
  have HCO : Veil (∀ W D, AtD w.heap.size W vS1 D → Calls Try.prog 11 #[.pointer (some ⟨D, 0, none⟩)] W fun r w' => ∃ D', r = .returned (.pointer (some ⟨D', 0, none⟩)) ∧ AtD W.heap.size w' vS1 D' ∧ Below W.heap.size W w') := ⟨fun W D h => copied_any _ vS1 D W h g1 hmd⟩
  have HT1 : Veil (∀ B W D1 D2, Below w.heap.size w W → TwoD B W vS1 vS1 D1 D2 [] → B ≤ W.heap.size → Calls Try.prog 18 #[.pointer (some ⟨D1, 0, none⟩), .int .u8 0, .slice px A.length pc] W fun r w' => r = .returned (.bool true) ∧ TwoD B w' (stA (wordL A) A.length) vS1 D1 D2 [] ∧ Below B W w') := ⟨fun B W D1 D2 hb h hB => typed_any hSA (by omega) px A.length pc W h (hBP.below hb) h8P hlP hB⟩
  have HT2 : Veil (∀ B W D1 D2, Below w.heap.size w W → TwoD B W (stA (wordL A) A.length) vS1 D1 D2 [] → B ≤ W.heap.size → Calls Try.prog 18 #[.pointer (some ⟨D2, 0, none⟩), .int .u8 1, .slice qx C.length qc] W fun r w' => r = .returned (.bool true) ∧ TwoD B w' (stA (wordL A) A.length) (stB (wordL C) C.length) D1 D2 [] ∧ Below B W w') := ⟨fun B W D1 D2 hb h hB => (typed_any hSC (by omega) qx C.length qc W h.swap (hBQ.below hb) h8Q hlQ hB).mono fun _ _ ⟨q1, q2, q3⟩ => ⟨q1, q2.swap, q3⟩⟩
  have HW1 : Veil (∀ W, Below w.heap.size w W → Calls Try.prog 20 #[.slice px A.length pc] W fun r w' => r = .returned (.string (strOfNums (wordL A))) ∧ Below W.heap.size W w') := ⟨fun W hb => word_any px A.length pc A W (hBP.below hb) h8P (by omega)⟩
  have HW2 : Veil (∀ W, Below w.heap.size w W → Calls Try.prog 20 #[.slice qx C.length qc] W fun r w' => r = .returned (.string (strOfNums (wordL C))) ∧ Below W.heap.size W w') := ⟨fun W hb => word_any qx C.length qc C W (hBQ.below hb) h8Q (by omega)⟩
  have hsz : (strOfNums (wordL A)).size + (strOfNums (wordL C)).size ≤ 20 := by rw [strOfNums_size, strOfNums_size, wordL_len, wordL_len]; omega
  have hadd := str_add (wordL A) (wordL C)
  generalize stA (wordL A) A.length = X at HME HT1 HT2
  generalize stB (wordL C) C.length = Y at HME HT2
  generalize strOfNums (wordL A) = SA at HW1 hsz hadd
  generalize strOfNums (wordL C) = SC at HW2 hsz hadd
  obtain ⟨T, hT⟩ : ∃ q, wordL A ++ wordL C = q := ⟨_, rfl⟩
  have HMX := Veil.mk (And.intro HME.out.gx HME.out.gy)
  have HTX : Veil (textN (Y.L.foldl doS X).N = T ∧ textN (X.L.foldl doS Y).N = T) := ⟨HME.out.tx.trans hT, HME.out.ty.trans hT⟩
  rw [hT] at hadd
  obtain ⟨tn, htn⟩ : ∃ q, T.length = q := ⟨_, rfl⟩
  have HTN := Veil.mk htn
  have HOX := Veil.mk HMX.out.1.lok
  have HOY := Veil.mk HMX.out.2.lok
  obtain ⟨L, hL⟩ : ∃ q, X.L = q := ⟨_, rfl⟩
  obtain ⟨M, hM⟩ : ∃ q, Y.L = q := ⟨_, rfl⟩
  obtain ⟨ln, hln⟩ : ∃ q, L.length = q := ⟨_, rfl⟩
  obtain ⟨mn, hmn⟩ : ∃ q, M.length = q := ⟨_, rfl⟩
  have hl11 : ln ≤ 11 := by rw [← hln, ← hL]; exact HME.out.lx
  have hm11 : mn ≤ 11 := by rw [← hmn, ← hM]; exact HME.out.ly
  have HEX : Veil (∀ B W D, AtD B W X D → Calls Try.prog 19 #[.pointer (some ⟨D, 0, none⟩)] W fun r w' => ∃ x c, r = .returned (.slice x ln c) ∧ OwnI w' W.heap.size 32 17 (.slice x ln c) (L.map Ev.cells) ∧ Below W.heap.size W w') := ⟨fun B W D h => by
    have := h.events HMX.out.1
    rw [hL, hln] at this
    exact this⟩
  have HEY : Veil (∀ B W D, AtD B W Y D → Calls Try.prog 19 #[.pointer (some ⟨D, 0, none⟩)] W fun r w' => ∃ x c, r = .returned (.slice x mn c) ∧ OwnI w' W.heap.size 32 17 (.slice x mn c) (M.map Ev.cells) ∧ Below W.heap.size W w') := ⟨fun B W D h => by
    have := h.events HMX.out.2
    rw [hM, hmn] at this
    exact this⟩
  rw [hL, hM] at HTX
  rw [hL] at HOX
  rw [hM] at HOY
  have HLN := Veil.mk hln
  have HMN := Veil.mk hmn
  have hnew := AtD.new w
  have l1 : vE1.cells.length = 17 := aev_len _ o1.past
  have n1 : ∀ v ∈ vE1.cells, v.oneCell' = true := aev_one _
  have i1 : (Try.prog.info? 32).map (·.size) = some vE1.cells.length := by rw [l1]; kernel_rfl
  generalize vE1.cells = C1 at HG1 HA1 l1 n1 i1
  have HZ : Veil (∀ (W : World) (C : List Value), CellsAt (W.alloc (.cells zC.toArray 32)) W.heap.size 32 zC ∧ Below W.heap.size W ((W.alloc (.cells zC.toArray 32)).setRow W.heap.size C.toArray)) := ⟨fun W C => ⟨CellsAt.new W 32 zC, below_setRow ((Below.refl _ _).alloc (Nat.le_refl _) _) (Nat.le_refl _) _⟩⟩
  unfold zC at HZ
  have uE := Try.underlying32
  have HTT : Veil (∀ B W D, (AtD B W (M.foldl doS X) D ∨ AtD B W (L.foldl doS Y) D) → Calls Try.prog 15 #[.pointer (some ⟨D, 0, none⟩)] W fun r w' => ∃ tx tc, r = .returned (.slice tx tn tc) ∧ Bytes w' tx tn tc T ∧ Below W.heap.size W w') := ⟨fun B W D h => by
    have key : ∀ {st : Ds}, AtD B W st D → GoodD st → textN st.N = T → Calls Try.prog 15 #[.pointer (some ⟨D, 0, none⟩)] W fun r w' => ∃ tx tc, r = .returned (.slice tx tn tc) ∧ Bytes w' tx tn tc T ∧ Below W.heap.size W w' := fun ha hg ht => by
      refine (ha.text hg).mono ?_
      rintro r w' ⟨v, h1, h2, h3⟩
      rw [ht] at h2
      obtain ⟨y, k, cc, rfl, hk⟩ := h2.isSlice
      obtain rfl : k = tn := hk.trans HTN.out
      exact ⟨y, cc, h1, h2.bytes.2, h3⟩
    rcases h with h | h
    · exact key h (HMX.out.1.plays HOY.out) HTX.out.1
    · exact key h (HMX.out.2.plays HOX.out) HTX.out.2⟩
  have HCV : Veil (∀ w' tx tc, Bytes w' tx tn tc T → (convert 43 9 (.slice tx tn tc)).run Try.prog w' = .ok (.string (SA ++ SC)) w') := ⟨fun w' tx tc h => by rw [hadd]; exact conv_bytes h⟩
  have HF2 := Veil.mk hf2
  clear hf2 hT htn hL hM hln hmn hR r1 g0 o1 g1 hmd hSA hSC hBP hBQ h8P h8Q hlP hlQ hP hQ hP8 hQ8 hadd HME HTX HTN
  go_enter Try.func4, Try.ntmps4
  go_upto_region 2 with (first
    | (go_at_call 17; refine hf2.mono ?_; rintro z W ⟨rfl, rfl⟩; clear hf2)
    | (go_at_call 17; refine hf1.mono ?_; rintro z W ⟨rfl, rfl⟩; have hf2 := HF2.out; clear hf1))
  go_upto_region 3 with (go_at_call 6; refine hnew.mono ?_; rintro z W ⟨D, rfl, hA, hB⟩; clear hnew)
  have hcl := HG1.out W D hA
  go_upto_region 4 with (first
    | (go_at_call 7; refine hcl.mono ?_; rintro z W1 ⟨rfl, hb1⟩; have hz1 := (HZ.out W1 C1).1; clear hcl)
    | (refine wpList_stv (cs := C1) rfl 32 _ _ rfl W1.heap.size rfl rfl hz1 i1 (by rw [l1]; rfl) n1 ?_))
  have hb2 := (HZ.out W1 C1).2
  have hz2 := hz1.setRow C1
  have hb12 := hb1.trans (hb2.mono hb1.size)
  refine forget (p := fun y => Code.wp _ _ _ _ y) (fun W2 => Below W.heap.size W W2 ∧ CellsAt W2 W1.heap.size 32 C1) ⟨hb12, hz2⟩ ?_
  generalize W1.heap.size = e1
  clear hb1 hb2 hb12 hz1 hz2 HG1 HZ W1
  rintro W2 ⟨hb2, hx2⟩
  have hr2 := hx2.wholeM
  have hB2 := hB.trans (hb2.mono hB.size)
  have hap := HA1.out W2 D (hA.far hb2) hB2.size
  clear hb2 hx2 hA hB HA1 W
  go_upto_region 6 with (first
    | (refine wpList_ldv rfl 32 _ rfl e1 0 rfl C1 hr2 uE rfl i1 ?_)
    | (go_at_call 8; refine hap.mono ?_; rintro z W ⟨rfl, hA, hB3⟩; clear hap))
  have hB := hB2.trans hB3
  clear hB2 hB3 hr2 W2 l1 n1 i1
  have hc1 := HCO.out W D hA
  go_upto_region 7 with (first
    | (go_at_call 11; refine hc2.mono ?_; rintro z W2 ⟨D2, rfl, hA2, hb2⟩; clear hc2)
    | (go_at_call 11; refine hc1.mono ?_; rintro z W1 ⟨D1, rfl, hA1, hb1⟩; have hc2 := HCO.out W1 D (hA.far hb1); clear hc1))
  have hTwo : TwoD W.heap.size W2 vS1 vS1 D1 D2 [] := TwoD.made hA1 hb2 hA2 hb1.size (Nat.le_refl _)
  have hB2 : Below w.heap.size w W2 := hB.trans ((hb1.trans (hb2.mono hb1.size)).mono hB.size)
  have hBW2 : W.heap.size ≤ W2.heap.size := Nat.le_trans hb1.size hb2.size
  have hwB : w.heap.size ≤ W.heap.size := hB.size
  generalize W.heap.size = B at hTwo hBW2 hwB
  clear hA hB hA1 hA2 hb1 hb2 HCO W W1
  have ht1 := HT1.out B W2 D1 D2 hB2 hTwo hBW2
  go_upto_region 9 with (first
    | (go_at_call 18; refine ht2.mono ?_; rintro z W4 ⟨rfl, hT4, hb4⟩; clear ht2)
    | (go_at_call 18; refine ht1.mono ?_; rintro z W3 ⟨rfl, hT3, hb3⟩; have ht2 := HT2.out B W3 D1 D2 (hB2.trans (hb3.mono hwB)) hT3 (Nat.le_trans hBW2 hb3.size); clear ht1))
  have hBW4 : B ≤ W4.heap.size := Nat.le_trans hBW2 (Nat.le_trans hb3.size hb4.size)
  have hB4 : Below w.heap.size w W4 := (hB2.trans (hb3.mono hwB)).trans (hb4.mono hwB)
  clear hTwo hB2 hBW2 hT3 hb3 hb4 HT1 HT2 W2 W3
  have he1 := HEX.out B W4 D1 hT4.fst
  go_upto_region 10 with (first
    | (go_at_call 19; refine he2.mono ?_; rintro z W6 ⟨y, d, rfl, om, hb6⟩; clear he2)
    | (go_at_call 19; refine he1.mono ?_; rintro z W5 ⟨x, c, rfl, ol, hb5⟩; have he2 := HEY.out B W5 D2 (hT4.swap.fst.far hb5); clear he1))
  have hH := Hear.made hT4 hBW4 hb5 ol hb6 om
  have hB6 : Below w.heap.size w W6 := (hB4.trans (hb5.mono hB4.size)).trans (hb6.mono (Nat.le_trans hB4.size hb5.size))
  have hBW6 : B ≤ W6.heap.size := Nat.le_trans hBW4 (Nat.le_trans hb5.size hb6.size)
  clear hT4 hB4 hBW4 ol om hb5 hb6 HEX HEY W4 W5
  go_wp2_with fail
  go_loopw [12] (fun iv wr => ∃ i : Nat, iv = .int .i64 (i : Nat) ∧ i ≤ mn ∧ Hear B wr ((M.take i).foldl doS X) Y D1 D2 (.slice x ln c) (.slice y mn d) L M ∧ Below w.heap.size w wr ∧ B ≤ wr.heap.size) (fun iv _ => mn - (intOf iv).toNat)
  case atStart => exact ⟨0, rfl, Nat.zero_le _, hH, hB6, hBW6⟩
  case round =>
    clear hH hB6 hBW6
    obtain ⟨i, rfl, hi, hH, hBr, hBB⟩ := hrel
    by_cases hlt : i < mn
    · have hiM : i < M.length := by have := HMN.out; omega
      have d1 : decide ((i : Int) < (mn : Int)) = true := by simp; omega
      have l1 : (i : Int) < (mn : Int) := by omega
      have hi0 : (0 : Int) ≤ (i : Int) := by omega
      have hww : IntKind.i64.wrap ((i : Int) + 1) = (i : Int) + 1 := by rw [IntKind.wrap_i64]; omega
      obtain ⟨g, rfl, -, hrg⟩ := hH.om.at_ i (by rw [List.length_map]; exact hiM)
      rw [List.getElem_map] at hrg
      have hap := hH.hear (HMX.out.1.plays fun e he => HOY.out e (List.mem_of_mem_take he)) (HOY.out _ (List.getElem_mem hiM)) hBB
      rw [← plays_next X hiM] at hap
      have he1 := aev_len M[i] (HOY.out _ (List.getElem_mem hiM)).past
      have iE : (Try.prog.info? 32).map (·.size) = some M[i].cells.length := by rw [he1]; kernel_rfl
      generalize refD ((M.take i).foldl doS X) M[i] = RN at hap
      generalize M[i].cells = E at hap hrg iE he1
      have HBr := Veil.mk hBr
      have HBB := Veil.mk hBB
      clear hH hiM he1 hBr hBB
      go_wp2_with (first
        | (refine wpList_ldv rfl 32 _ rfl g (i * 17) rfl E hrg uE rfl iE ?_)
        | (go_at_call 12; refine hap.mono ?_; rintro z W7 ⟨rfl, hH7, hb7⟩; clear hap))
      go_roundw
      case rel => exact ⟨i + 1, by push_cast; rfl, hlt, hH7, HBr.out.trans (hb7.mono hwB), Nat.le_trans HBB.out hb7.size⟩
      case measure => simp [intOf]; omega
    · obtain rfl : i = mn := by omega
      have d1 : decide ((i : Int) < (i : Int)) = false := by simp
      have l1 : ¬ (i : Int) < (i : Int) := by omega
      rw [List.take_of_length_le (by have := HMN.out; omega)] at hH
      generalize M.foldl doS X = X2 at hH HTT
      go_wp2_with fail
      go_loopw [13] (fun iv wr => ∃ k : Nat, iv = .int .i64 (k : Nat) ∧ k ≤ ln ∧ Hear B wr X2 ((L.take k).foldl doS Y) D1 D2 (.slice x ln c) (.slice y i d) L M ∧ Below w.heap.size w wr ∧ B ≤ wr.heap.size) (fun iv _ => ln - (intOf iv).toNat)
      case atStart => exact ⟨0, rfl, Nat.zero_le _, hH, hBr, hBB⟩
      case round =>
        clear hH hBr hBB
        obtain ⟨k, rfl, hk, hH, hBr, hBB⟩ := hrel
        by_cases hlt : k < ln
        · have hkL : k < L.length := by have := HLN.out; omega
          have d2 : decide ((k : Int) < (ln : Int)) = true := by simp; omega
          have l2 : (k : Int) < (ln : Int) := by omega
          have hi0 : (0 : Int) ≤ (k : Int) := by omega
          have hww : IntKind.i64.wrap ((k : Int) + 1) = (k : Int) + 1 := by rw [IntKind.wrap_i64]; omega
          obtain ⟨g, rfl, -, hrg⟩ := hH.ol.at_ k (by rw [List.length_map]; exact hkL)
          rw [List.getElem_map] at hrg
          have hap := hH.swap.hear (HMX.out.2.plays fun e he => HOX.out e (List.mem_of_mem_take he)) (HOX.out _ (List.getElem_mem hkL)) hBB
          rw [← plays_next Y hkL] at hap
          have he1 := aev_len L[k] (HOX.out _ (List.getElem_mem hkL)).past
          have iE : (Try.prog.info? 32).map (·.size) = some L[k].cells.length := by rw [he1]; kernel_rfl
          generalize refD ((L.take k).foldl doS Y) L[k] = RN at hap
          generalize L[k].cells = E at hap hrg iE he1
          have HBr := Veil.mk hBr
          have HBB := Veil.mk hBB
          clear hH hkL he1 hBr hBB
          go_wp2_with (first
            | (refine wpList_ldv rfl 32 _ rfl g (k * 17) rfl E hrg uE rfl iE ?_)
            | (go_at_call 12; refine hap.mono ?_; rintro z W7 ⟨rfl, hH7, hb7⟩; clear hap))
          go_roundw
          case rel => exact ⟨k + 1, by push_cast; rfl, hlt, hH7.swap, HBr.out.trans (hb7.mono hwB), Nat.le_trans HBB.out hb7.size⟩
          case measure => simp [intOf]; omega
        · obtain rfl : k = ln := by omega
          have d2 : decide ((k : Int) < (k : Int)) = false := by simp
          have l2 : ¬ (k : Int) < (k : Int) := by omega
          rw [List.take_of_length_le (by have := HLN.out; omega)] at hH
          have ht1 := HTT.out B wr D1 (.inl hH.twoD.fst)
          have HT2' : Veil (∀ W, Below wr.heap.size wr W → Calls Try.prog 15 #[.pointer (some ⟨D2, 0, none⟩)] W fun r w' => ∃ tx tc, r = .returned (.slice tx tn tc) ∧ Bytes w' tx tn tc T ∧ Below W.heap.size W w') := ⟨fun W hb => HTT.out B W D2 (.inr (hH.twoD.swap.fst.far hb))⟩
          have HBr := Veil.mk hBr
          have hlim : ¬ (9223372036854775807 < SA.size + SC.size) := by omega
          have hlim2 : ¬ (SA.size + SC.size > 9223372036854775807) := by omega
          clear hH hBr hBB hsz HTT HMX HOX HOY
          go_upto_region 19 with (go_at_call 15; refine ht1.mono ?_; rintro z W7 ⟨tx, tc, rfl, hz7, hb7⟩; have hcv := HCV.out _ _ _ hz7; clear ht1)
          have ht2 := HT2'.out W7 hb7
          have hB7 := HBr.out.trans (hb7.mono HBr.out.size)
          clear hcv hz7 hb7 HT2' HBr
          go_wp2_with (first
            | (go_at_call 15; refine ht2.mono ?_; rintro z W8 ⟨ty, td, rfl, hz8, hb8⟩; have hcv := HCV.out _ _ _ hz8; have hB8 := hB7.trans (hb8.mono hB7.size); have hw1 := HW1.out W8 hB8; clear ht2 hz8)
            | (go_at_call 20; refine hw2.mono ?_; rintro z W10 ⟨rfl, hb10⟩; clear hw2)
            | (go_at_call 20; refine hw1.mono ?_; rintro z W9 ⟨rfl, hb9⟩; have hB9 := hB8.trans (hb9.mono hB8.size); have hw2 := HW2.out W9 hB9; clear hw1 hcv))
          go_ret
          exact ⟨rfl, hB9.trans (hb10.mono hB9.size)⟩
end Go.Proofs.Ytgmbmdmbnpkbbaa
