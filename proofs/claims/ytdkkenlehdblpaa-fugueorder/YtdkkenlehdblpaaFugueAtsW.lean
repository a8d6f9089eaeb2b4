/- FugueAts, walked. -/
import Derived.Test.YtdkkenlehdblpaaFr5
namespace Go.Proofs.Ytdkkenlehdblpaa
open Go.RowKit Go.Shelf
set_option maxRecDepth 20000
set_option linter.unusedSimpArgs false
theorem atN_in {N : List Nd} {i : Nat} (hi : i < (wrN N).length) : atN N (i : Nat) = some (wrN N)[i] := by
  unfold atN
  rw [if_neg (by omega), Int.toNat_natCast, List.getElem?_eq_getElem hi]
theorem atN_out {N : List Nd} {i : Nat} (hi : (wrN N).length ≤ i) : atN N (i : Nat) = none := by
  unfold atN
  rw [if_neg (by omega), Int.toNat_natCast, List.getElem?_eq_none hi]
theorem wrN_node {N : List Nd} (hN : TreeOk N) {x : Int × Int} (hx : x ∈ wrN N) : (chrN N x).isSome = true := by
  obtain ⟨n, hn, e⟩ := mem_walk hN.rooted rootS x (List.mem_filter.1 hx).1
  exact chrN_some.2 ⟨n, hn, e⟩
theorem wrN_okDF {w : World} {base R bc bn : Nat} {N : List Nd} {V : (Int × Int) × Bool → Value} (hN : TreeOk N) (hT : TreeAt w base R bc bn N V) {x : Int × Int} (hx : x ∈ wrN N) : okDF x := by
  obtain ⟨n, hn, e⟩ := mem_walk hN.rooted rootS x (List.mem_filter.1 hx).1
  rw [← e]; exact (hT.okId n hn).1
set_option maxHeartbeats 8000000 in
theorem fat_walk (x : Option Addr) (len cap : Nat) (L : List Dd8) (w : World) (hL : DeedsAt w x len cap L) :
    Calls Try.prog 10 #[.slice x len cap] w fun e w' => e = .returned (.bool true) ∧ Below w.heap.size w w' := by
  have hpl := play8_any x len cap L w hL
  obtain ⟨N, hNN⟩ : ∃ q, playN (L.take 60) = q := ⟨_, rfl⟩
  have hok : TreeOk N := by rw [← hNN]; exact playN_ok _
  have hln : N.length ≤ 60 := by rw [← hNN]; have := playN_len (L.take 60); have := List.length_take_le 60 L; omega
  have HPL : Veil (∀ v0 W, PlayR w L v0 W → ∃ R bc bn V Q, v0 = .tuple #[.pointer (some ⟨R, 0, none⟩), .pointer (some ⟨Q, 0, none⟩), .bool true] ∧ TreeAt W w.heap.size R bc bn N V ∧ Below w.heap.size w W) := ⟨fun v0 W ⟨R, bc, bn, V, Q, v, h1, h2, h3⟩ => ⟨R, bc, bn, V, Q, h1, by rw [hNN] at h2; exact h2.tree, h3⟩⟩
  clear hNN hL
  have HOK := Veil.mk hok
  have HLN := Veil.mk hln
  obtain ⟨ORD, hORD⟩ : ∃ q, walkA N rootS = q := ⟨_, rfl⟩
  obtain ⟨p, hp⟩ : ∃ q, writB N = q := ⟨_, rfl⟩
  obtain ⟨WR, hWR⟩ : ∃ q, wrN N = q := ⟨_, rfl⟩
  have HF : Veil (ORD.filter p = WR) := ⟨by rw [← hORD, ← hp, ← hWR]; rfl⟩
  have HOL : Veil (ORD.length = N.length) := ⟨by rw [← hORD]; exact hok.len⟩
  have HTL : Veil ((textN N).length = WR.length) := ⟨by rw [← hWR]; unfold textN; rw [List.length_map]⟩
  have HAT : Veil (∀ i (hi : i < WR.length), atN N (i : Nat) = some WR[i] ∧ (chrN N WR[i]).isSome = true ∧ p WR[i] = true) := by
    subst hWR
    refine ⟨fun i hi => ?_⟩
    have hm := List.getElem_mem hi
    exact ⟨atN_in hi, wrN_node hok hm, by rw [← hp]; exact (List.mem_filter.1 hm).2⟩
  have HWR : Veil (∀ R bc bn V W, TreeAt W w.heap.size R bc bn N V → ∀ x ∈ WR, okDF x) := ⟨fun R bc bn V W hT x hx => wrN_okDF hok hT (by rw [hWR]; exact hx)⟩
  have HAO : Veil (atN N (WR.length : Nat) = none) := ⟨by rw [← hWR]; exact atN_out (Nat.le_refl _)⟩
  have HCO : Veil (∀ R bc bn V W, TreeAt W w.heap.size R bc bn N V → (Calls Try.prog 14 #[.pointer (some ⟨R, 0, none⟩)] W fun e w' => ∃ tx tc, e = .returned (.slice tx WR.length tc) ∧ Below W.heap.size W w') ∧ (Calls Try.prog 21 #[.pointer (some ⟨R, 0, none⟩)] W fun e w' => ∃ ox oc, e = .returned (.slice ox ORD.length oc) ∧ OwnI w' W.heap.size 32 2 (.slice ox ORD.length oc) (ORD.map encF) ∧ Below W.heap.size W w') ∧ (∀ i : Int, Calls Try.prog 24 #[.pointer (some ⟨R, 0, none⟩), .int .i64 i] W fun e w' => e = .returned (.tuple #[.agg (encF (atD (atN N i))).toArray, .int .i64 (atE (atN N i))]) ∧ Below W.heap.size W w') ∧ (∀ y, okDF y → Calls Try.prog 18 #[.pointer (some ⟨R, 0, none⟩), .agg (encF y).toArray] W fun e w' => e = .returned (.bool (chrN N y).isSome) ∧ Below W.heap.size W w') ∧ (Calls Try.prog 19 #[.pointer (some ⟨R, 0, none⟩)] W fun e w' => e = .returned (.int .i64 (N.length : Nat)) ∧ w' = W)) := ⟨fun R bc bn V W hT => by
    refine ⟨(textB_any _ R bc bn N V hok (by omega) W hT).mono ?_, (orderT_any _ R bc bn N V hok (by omega) W hT).mono ?_, fun i => atT2_any _ R bc bn N V hok (by omega) i W hT, fun y hy => hasT_any _ R bc bn N V y hy W hT, lenT_any _ R bc bn N V W hT⟩
    · rintro e w' ⟨v, h1, h2, h3⟩
      obtain ⟨y, c, rfl⟩ : ∃ y c, v = .slice y (textN N).length c := by
        rcases h2.2 with ⟨rfl, h0⟩ | ⟨g, cap, cur, rfl, _⟩
        · exact ⟨none, 0, by rw [h0]⟩
        · exact ⟨_, _, rfl⟩
      exact ⟨y, c, by rw [h1, HTL.out], h3⟩
    · rintro e w' ⟨v, h1, h2, h3⟩
      rw [hORD] at h2
      obtain ⟨y, c, hv⟩ := h2.isSlice
      rw [List.length_map] at hv
      exact ⟨y, c, by rw [h1, hv], by rw [← hv]; exact h2, h3⟩⟩
  have HLV : Veil (∀ W, Calls Try.prog 12 #[] W fun e w' => e = .returned (.bool true) ∧ Below W.heap.size W w') := ⟨fun W => live8_any W⟩
  clear hok hln hORD hp hWR
  go_enter Try.func10, Try.ntmps10
  go_upto_region 8 with (first
    | (go_at_call 11; refine hpl.mono ?_; rintro z W1 ⟨v0, rfl, hpr⟩; obtain ⟨R, bc, bn, V, Q, rfl, hT1, hB1⟩ := HPL.out v0 W1 hpr; have hlv := HLV.out W1; clear hpl hpr)
    | (go_at_call 12; refine hlv.mono ?_; rintro z W2 ⟨rfl, hb2⟩; have hT2 := hT1.far hb2; have htx := (HCO.out R bc bn V W2 hT2).1; clear hlv)
    | (go_at_call 14; refine htx.mono ?_; rintro z W3 ⟨tx, tc, rfl, hb3⟩; have hT3 := hT2.far hb3; have hor := (HCO.out R bc bn V W3 hT3).2.1; clear htx)
    | (go_at_call 21; refine hor.mono ?_; rintro z W4 ⟨ox, oc, rfl, hO4, hb4⟩; have hT4 := hT3.far hb4; clear hor))
  have hB4 : Below w.heap.size w W4 := hB1.trans ((hb2.trans ((hb3.trans (hb4.mono hb3.size)).mono hb2.size)).mono hB1.size)
  have hzz := hB4.size
  have hz3 := hb3.size
  have HOD := Veil.mk (HWR.out R bc bn V W4 hT4)
  refine forget (p := fun y => Code.wp _ _ _ _ y) (fun W => TreeAt W w.heap.size R bc bn N V ∧ OwnI W W3.heap.size 32 2 (.slice ox ORD.length oc) (ORD.map encF) ∧ Below w.heap.size w W) ⟨hT4, hO4, hB4⟩ ?_
  generalize W3.heap.size = ob
  clear hT4 hO4 hB4 hzz hz3 hT1 hB1 hb2 hT2 hb3 hT3 hb4 HWR HPL HLV W1 W2 W3 W4
  rintro W0 h0
  have HFAR : Veil (∀ W W', (TreeAt W w.heap.size R bc bn N V ∧ OwnI W ob 32 2 (.slice ox ORD.length oc) (ORD.map encF) ∧ Below w.heap.size w W) → Below W.heap.size W W' → (TreeAt W' w.heap.size R bc bn N V ∧ OwnI W' ob 32 2 (.slice ox ORD.length oc) (ORD.map encF) ∧ Below w.heap.size w W')) := ⟨fun W W' ⟨h1, h2, h3⟩ hb => ⟨h1.far hb, h2.far hb, h3.trans (hb.mono h3.size)⟩⟩
  have hol : ORD.length ≤ 60 := by have := HOL.out; have := HLN.out; omega
  have HWL : Veil (WR.length ≤ ORD.length) := ⟨by rw [← HF.out]; exact List.length_filter_le _ _⟩
  have hwl : WR.length ≤ 60 := by have := HWL.out; omega
  obtain ⟨wn, hwn⟩ : ∃ q, WR.length = q := ⟨_, rfl⟩
  obtain ⟨on, hon⟩ : ∃ q, ORD.length = q := ⟨_, rfl⟩
  have HWN := Veil.mk hwn
  have HON := Veil.mk hon
  rw [hwn] at hwl HAO ⊢
  rw [hon] at hol HFAR h0 ⊢
  clear hwn hon
  go_wp2_with fail
  go_loopw [8, 9, 10, 11] (fun pa pi _ _ wr => ∃ a i : Nat, pa = .int .i64 (a : Nat) ∧ pi = .int .i64 (i : Nat) ∧ a ≤ on ∧ i ≤ wn ∧ (ORD.drop a).filter p = WR.drop i ∧ (TreeAt wr w.heap.size R bc bn N V ∧ OwnI wr ob 32 2 (.slice ox on oc) (ORD.map encF) ∧ Below w.heap.size w wr)) (fun _ pi _ _ _ => wn - (intOf pi).toNat)
  case atStart => exact ⟨0, 0, rfl, rfl, Nat.zero_le _, Nat.zero_le _, by rw [List.drop_zero, List.drop_zero]; exact HF.out, h0⟩
  case round =>
    obtain ⟨a, i, rfl, rfl, ha, hi, hfl, hz⟩ := hrel
    clear h0
    have HZ := Veil.mk hz
    have HFL := Veil.mk hfl
    clear hz hfl
    by_cases hlt : i < wn
    · have hli : (i : Int) < (wn : Int) := by omega
      have hiW : i < WR.length := by rw [HWN.out]; exact hlt
      obtain ⟨e1, e2, e4⟩ := HAT.out i hiW
      have e3 := HOD.out _ (List.getElem_mem hiW)
      have hat := (HCO.out R bc bn V wr HZ.out.1).2.2.1 (i : Nat)
      rw [e1] at hat
      have HDR : Veil (WR.drop i = WR[i] :: WR.drop (i + 1)) := ⟨List.drop_eq_getElem_cons hiW⟩
      have HHA : Veil (∀ W, TreeAt W w.heap.size R bc bn N V → Calls Try.prog 18 #[.pointer (some ⟨R, 0, none⟩), .agg (encF WR[i]).toArray] W fun e w' => e = .returned (.bool true) ∧ Below W.heap.size W w') := ⟨fun W hT => by have := (HCO.out R bc bn V W hT).2.2.2.1 _ e3; rw [e2] at this; exact this⟩
      have HP := Veil.mk e4
      simp only [show atE (some WR[i]) = 0 from rfl, show atD (some WR[i]) = WR[i] from rfl] at hat
      generalize WR[i] = y at hat HDR HHA HP
      obtain ⟨ya, yb⟩ := y
      have HNE : Veil (∀ (u : Int × Int) (wx : World), (binOp BinOp.neq 32 (.agg (encF u).toArray) (.agg #[.int .u8 ya, .int .u32 yb])).run Try.prog wx = .ok (.bool (!decide (u = (ya, yb)))) wx) := ⟨fun u wx => by
        have := dot_neq u.1 u.2 ya yb wx
        rw [show (.agg #[.int .u8 ya, .int .u32 yb] : Value) = .agg (dotC ya yb).toArray from rfl, this]
        congr 3
        obtain ⟨c, d⟩ := u
        by_cases h1 : c = ya <;> by_cases h2 : d = yb <;> simp [h1, h2]⟩
      simp only [encF, dotC] at hat HHA
      clear e1 e2 e3 e4 hiW
      go_upto_region 11 with (go_at_call 24; refine hat.mono ?_; rintro z W5 ⟨rfl, hb5⟩; clear hat)
      have hz5 := HFAR.out _ _ HZ.out hb5
      have hb6 : Below W5.heap.size W5 (W5.alloc (.cells #[.int .u8 ya, .int .u32 yb] 32)) := (Below.refl _ _).alloc (Nat.le_refl _) _
      refine forget (p := fun y => Code.wp _ _ _ _ y) (fun W => (TreeAt W w.heap.size R bc bn N V ∧ OwnI W ob 32 2 (.slice ox on oc) (ORD.map encF) ∧ Below w.heap.size w W) ∧ CellsAt W W5.heap.size 32 [.int .u8 ya, .int .u32 yb]) ⟨HFAR.out _ _ hz5 hb6, CellsAt.new W5 32 [.int .u8 ya, .int .u32 yb]⟩ ?_
      generalize W5.heap.size = b10
      clear hz5 hb6 hb5 W5
      rintro W6 ⟨hz6, hd6⟩
      have hha := HHA.out W6 hz6.1
      have hr6 := hd6.wholeM
      have uD := Try.underlying32
      have iY : (Try.prog.info? 32).map (·.size) = some [Value.int .u8 ya, Value.int .u32 yb].length := sizeDot
      have HD6 := Veil.mk hd6
      have HZ6 := Veil.mk hz6
      clear hd6 hz6
      go_upto_region 13 with (first
        | (refine wpList_ldgv (by kernel_rfl) 32 (.tmp 10) rfl b10 0 rfl [.int .u8 ya, .int .u32 yb] hr6 uD rfl iY ?_)
        | (go_at_call 18; refine hha.mono ?_; rintro z W7 ⟨rfl, hb7⟩; clear hha hr6))
      have hz7 := HFAR.out _ _ HZ6.out hb7
      have hd7 := HD6.out.farM hb7
      have h7 : (∃ a' : Nat, a = a' ∧ a' ≤ on ∧ (ORD.drop a').filter p = WR.drop i) ∧ (TreeAt W7 w.heap.size R bc bn N V ∧ OwnI W7 ob 32 2 (.slice ox on oc) (ORD.map encF) ∧ Below w.heap.size w W7) ∧ CellsAt W7 b10 32 [.int .u8 ya, .int .u32 yb] := ⟨⟨a, rfl, ha, HFL.out⟩, hz7, hd7⟩
      have H7 := Veil.mk h7
      clear h7 hz7 hd7 hb7 HD6 HZ6 HZ HHA HFL W6 wr
      go_wp2_with fail
      go_loopw [8] (fun pa wr => ∃ a' : Nat, pa = .int .i64 (a' : Nat) ∧ a' ≤ on ∧ (ORD.drop a').filter p = WR.drop i ∧ (TreeAt wr w.heap.size R bc bn N V ∧ OwnI wr ob 32 2 (.slice ox on oc) (ORD.map encF) ∧ Below w.heap.size w wr) ∧ CellsAt wr b10 32 [.int .u8 ya, .int .u32 yb]) (fun pa _ => on - (intOf pa).toNat)
      case atStart =>
        obtain ⟨⟨a', rfl, h1, h2⟩, h3, h4⟩ := H7.out
        exact ⟨a, rfl, h1, h2, h3, h4⟩
      case round =>
        obtain ⟨a', rfl, ha', hfl, hz, hd⟩ := hrel
        clear H7
        have ha2 : a' < on := by
          rcases Nat.lt_or_eq_of_le ha' with q | q
          · exact q
          · rw [HDR.out, List.drop_of_length_le (by rw [HON.out]; omega)] at hfl
            simp at hfl
        have hao : a' < ORD.length := by rw [HON.out]; exact ha2
        have hai : decide ((a' : Int) < (on : Int)) = true := by simp; omega
        have hai2 : (a' : Int) < (on : Int) := by omega
        have hai0 : (0 : Int) ≤ (a' : Int) := by omega
        obtain ⟨g, hxg, -, hr⟩ := hz.2.1.at_ a' (by rw [List.length_map]; exact hao)
        rw [List.getElem_map] at hr
        have hrd := hd.wholeM
        have hne := HNE.out ORD[a']
        have iH : (Try.prog.info? 32).map (·.size) = some (encF ORD[a']).length := sizeDot
        have HC : Veil (ORD.drop a' = ORD[a'] :: ORD.drop (a' + 1)) := ⟨List.drop_eq_getElem_cons hao⟩
        have HYES : Veil (ORD[a'] = (ya, yb) → (ORD.drop (a' + 1)).filter p = WR.drop (i + 1)) := ⟨fun h => by
          rw [HC.out, HDR.out, h, List.filter_cons_of_pos HP.out] at hfl
          exact (List.cons.inj hfl).2⟩
        have HNO : Veil (ORD[a'] ≠ (ya, yb) → (ORD.drop (a' + 1)).filter p = WR.drop i) := ⟨fun h => by
          by_cases hq : p ORD[a'] = true
          · rw [HC.out, HDR.out, List.filter_cons_of_pos hq] at hfl
            exact absurd (List.cons.inj hfl).1 h
          · rw [HC.out, List.filter_cons_of_neg hq] at hfl
            exact hfl⟩
        have HZD : Veil ((TreeAt wr.drew w.heap.size R bc bn N V ∧ OwnI wr.drew ob 32 2 (.slice ox on oc) (ORD.map encF) ∧ Below w.heap.size w wr.drew) ∧ CellsAt wr.drew b10 32 [.int .u8 ya, .int .u32 yb]) := ⟨HFAR.out _ _ hz (Below.refl _ _).drew, hd.congr rfl⟩
        generalize ORD[a'] = u at hr hne iH HYES HNO HC
        generalize encF u = DH at hr hne iH
        have hww : IntKind.i64.wrap ((a' : Int) + 1) = (a' : Int) + 1 := by rw [IntKind.wrap_i64]; omega
        have hwi : IntKind.i64.wrap ((i : Int) + 1) = (i : Int) + 1 := by rw [IntKind.wrap_i64]; omega
        clear hz hd hfl HC hao
        subst hxg
        go_upto_region 13 with fail
        refine wp_region_gateT (fun w' => w'.rangeAt g (a' * 2) DH ∧ w'.rangeAt b10 0 [.int .u8 ya, .int .u32 yb]) (fun _ => True) 99 (by kernel_rfl) ?_
        have hT : (fun w' : World => w'.rangeAt g (a' * 2) DH ∧ w'.rangeAt b10 0 [.int .u8 ya, .int .u32 yb]) wr.drew := ⟨hr, hrd⟩
        have hS : (fun _ : World => True) wr.drew := trivial
        by_cases he : u = (ya, yb)
        · have hde : (!decide (u = (ya, yb))) = false := by simpa using he
          rw [hde] at hne
          refine wpAnyT_held (i := 0) (v := ?_) rfl (by kernel_rfl) (by kernel_rfl) (by kernel_rfl) (fun _ _ _ h => h) (by kernel_rfl) hT (fun _ => hS) (by kernel_rfl) ?_ ?_
          rotate_left
          · intro wx hSw; go_split_ands; go_simp; try with_reducible rfl
          simp only [Act.put, List.getElem_toArray, List.getElem_cons_succ, List.getElem_cons_zero, List.setIfInBounds_toArray, List.set_cons_zero, List.set_cons_succ]
          refine wpAnyT_held (i := 1) (v := ?_) rfl (by kernel_rfl) (by kernel_rfl) (by kernel_rfl) (fun _ _ _ h => h) (by kernel_rfl) hT (fun _ => hS) (by kernel_rfl) ?_ ?_
          rotate_left
          · intro wx hSw; go_split_ands; go_simp; try with_reducible rfl
          simp only [Act.put, List.getElem_toArray, List.getElem_cons_succ, List.getElem_cons_zero, List.setIfInBounds_toArray, List.set_cons_zero, List.set_cons_succ]
          refine wpAnyT_held (i := 2) (v := ?_) rfl (by kernel_rfl) (by kernel_rfl) (by kernel_rfl) (fun _ _ _ h => h) (by kernel_rfl) hT (fun _ => hS) (by kernel_rfl) ?_ ?_
          rotate_left
          · intro wx hSw; go_split_ands; go_simp; try with_reducible rfl
          simp only [Act.put, List.getElem_toArray, List.getElem_cons_succ, List.getElem_cons_zero, List.setIfInBounds_toArray, List.set_cons_zero, List.set_cons_succ]
          refine wpAnyT_held (i := 3) (v := .bool true) rfl (by kernel_rfl) (by kernel_rfl) (by kernel_rfl) (fun _ _ _ h => h) (by kernel_rfl) hT (fun _ => hS) (by kernel_rfl) ?_ ?_
          · intro wx hSw; go_split_ands; go_simp
          simp only [Act.put, List.getElem_toArray, List.getElem_cons_succ, List.getElem_cons_zero, List.setIfInBounds_toArray, List.set_cons_zero, List.set_cons_succ]
          refine wpAnyT_held (i := 4) (v := ?_) rfl (by kernel_rfl) (by kernel_rfl) (by kernel_rfl) (fun _ _ _ h => h) (by kernel_rfl) hT (fun _ => hS) (by kernel_rfl) ?_ ?_
          rotate_left
          · intro wx hSw; go_split_ands; go_simp; try with_reducible rfl
          simp only [Act.put, List.getElem_toArray, List.getElem_cons_succ, List.getElem_cons_zero, List.setIfInBounds_toArray, List.set_cons_zero, List.set_cons_succ]
          refine wpAnyT_held (i := 5) (v := ?_) rfl (by kernel_rfl) (by kernel_rfl) (by kernel_rfl) (fun _ _ _ h => h) (by kernel_rfl) hT (fun _ => hS) (by kernel_rfl) ?_ ?_
          rotate_left
          · intro wx hSw; go_split_ands; go_simp; try with_reducible rfl
          simp only [Act.put, List.getElem_toArray, List.getElem_cons_succ, List.getElem_cons_zero, List.setIfInBounds_toArray, List.set_cons_zero, List.set_cons_succ]
          refine wpAnyT_held (i := 6) (v := ?_) rfl (by kernel_rfl) (by kernel_rfl) (by kernel_rfl) (fun _ _ _ h => h) (by kernel_rfl) hT (fun _ => hS) (by kernel_rfl) ?_ ?_
          rotate_left
          · intro wx hSw; go_split_ands; go_simp; try with_reducible rfl
          simp only [Act.put, List.getElem_toArray, List.getElem_cons_succ, List.getElem_cons_zero, List.setIfInBounds_toArray, List.set_cons_zero, List.set_cons_succ]
          refine wpAnyT_held (i := 7) (v := ?_) rfl (by kernel_rfl) (by kernel_rfl) (by kernel_rfl) (fun _ _ _ h => h) (by kernel_rfl) hT (fun _ => hS) (by kernel_rfl) ?_ ?_
          rotate_left
          · intro wx hSw; go_split_ands; go_simp; try with_reducible rfl
          simp only [Act.put, List.getElem_toArray, List.getElem_cons_succ, List.getElem_cons_zero, List.setIfInBounds_toArray, List.set_cons_zero, List.set_cons_succ]
          refine wpAnyT_load (i := 8) (dst := some 58) (ty := 32) (x := .tmp 57) (b := g) (o := ((a' * 2))) (cs := DH) (by kernel_rfl) (by kernel_rfl) (by kernel_rfl) (by kernel_rfl) (by kernel_rfl) (fun _ _ _ h => h) (by kernel_rfl) hT (fun _ => hS) (by kernel_rfl) (fun _ h => h.1) uD rfl iH ?_
          simp only [Act.put, List.getElem_toArray, List.getElem_cons_succ, List.getElem_cons_zero, List.setIfInBounds_toArray, List.set_cons_zero, List.set_cons_succ]
          refine wpAnyT_load (i := 9) (dst := some 59) (ty := 32) (x := .tmp 10) (b := b10) (o := (0)) (cs := [.int .u8 ya, .int .u32 yb]) (by kernel_rfl) (by kernel_rfl) (by kernel_rfl) (by kernel_rfl) (by kernel_rfl) (fun _ _ _ h => h) (by kernel_rfl) hT (fun _ => hS) (by kernel_rfl) (fun _ h => h.2) uD rfl iY ?_
          simp only [Act.put, List.getElem_toArray, List.getElem_cons_succ, List.getElem_cons_zero, List.setIfInBounds_toArray, List.set_cons_zero, List.set_cons_succ]
          refine wpAnyT_held (i := 10) (v := .bool false) rfl (by kernel_rfl) (by kernel_rfl) (by kernel_rfl) (fun _ _ _ h => h) (by kernel_rfl) hT (fun _ => hS) (by kernel_rfl) (fun wx h => exec_eqF rfl rfl rfl (by go_simp) (hne wx)) ?_
          simp only [Act.put, List.getElem_toArray, List.getElem_cons_succ, List.getElem_cons_zero, List.setIfInBounds_toArray, List.set_cons_zero, List.set_cons_succ]
          refine wpAnyT_held (i := 11) (v := ?_) rfl (by kernel_rfl) (by kernel_rfl) (by kernel_rfl) (fun _ _ _ h => h) (by kernel_rfl) hT (fun _ => hS) (by kernel_rfl) ?_ ?_
          rotate_left
          · intro wx hSw; go_split_ands; go_simp; try with_reducible rfl
          simp only [Act.put, List.getElem_toArray, List.getElem_cons_succ, List.getElem_cons_zero, List.setIfInBounds_toArray, List.set_cons_zero, List.set_cons_succ]
          refine wpAnyT_done (by kernel_rfl) ?_ _
          have HR := Veil.mk (HYES.out he)
          have hbe : ((a' : Int) == (on : Int)) = false := by simp; omega
          clear hT hS hne hr hrd hde HYES HNO he iH hai
          go_wp2
          go_roundw
          case rel => exact ⟨a' + 1, i + 1, by push_cast; rfl, by push_cast; rfl, ha2, hlt, HR.out, HZD.out.1⟩
          case measure => simp [intOf]; omega
        · have hde : (!decide (u = (ya, yb))) = true := by simpa using he
          rw [hde] at hne
          refine wpAnyT_held (i := 0) (v := ?_) rfl (by kernel_rfl) (by kernel_rfl) (by kernel_rfl) (fun _ _ _ h => h) (by kernel_rfl) hT (fun _ => hS) (by kernel_rfl) ?_ ?_
          rotate_left
          · intro wx hSw; go_split_ands; go_simp; try with_reducible rfl
          simp only [Act.put, List.getElem_toArray, List.getElem_cons_succ, List.getElem_cons_zero, List.setIfInBounds_toArray, List.set_cons_zero, List.set_cons_succ]
          refine wpAnyT_held (i := 1) (v := ?_) rfl (by kernel_rfl) (by kernel_rfl) (by kernel_rfl) (fun _ _ _ h => h) (by kernel_rfl) hT (fun _ => hS) (by kernel_rfl) ?_ ?_
          rotate_left
          · intro wx hSw; go_split_ands; go_simp; try with_reducible rfl
          simp only [Act.put, List.getElem_toArray, List.getElem_cons_succ, List.getElem_cons_zero, List.setIfInBounds_toArray, List.set_cons_zero, List.set_cons_succ]
          refine wpAnyT_held (i := 2) (v := ?_) rfl (by kernel_rfl) (by kernel_rfl) (by kernel_rfl) (fun _ _ _ h => h) (by kernel_rfl) hT (fun _ => hS) (by kernel_rfl) ?_ ?_
          rotate_left
          · intro wx hSw; go_split_ands; go_simp; try with_reducible rfl
          simp only [Act.put, List.getElem_toArray, List.getElem_cons_succ, List.getElem_cons_zero, List.setIfInBounds_toArray, List.set_cons_zero, List.set_cons_succ]
          refine wpAnyT_held (i := 3) (v := .bool true) rfl (by kernel_rfl) (by kernel_rfl) (by kernel_rfl) (fun _ _ _ h => h) (by kernel_rfl) hT (fun _ => hS) (by kernel_rfl) ?_ ?_
          · intro wx hSw; go_split_ands; go_simp
          simp only [Act.put, List.getElem_toArray, List.getElem_cons_succ, List.getElem_cons_zero, List.setIfInBounds_toArray, List.set_cons_zero, List.set_cons_succ]
          refine wpAnyT_held (i := 4) (v := ?_) rfl (by kernel_rfl) (by kernel_rfl) (by kernel_rfl) (fun _ _ _ h => h) (by kernel_rfl) hT (fun _ => hS) (by kernel_rfl) ?_ ?_
          rotate_left
          · intro wx hSw; go_split_ands; go_simp; try with_reducible rfl
          simp only [Act.put, List.getElem_toArray, List.getElem_cons_succ, List.getElem_cons_zero, List.setIfInBounds_toArray, List.set_cons_zero, List.set_cons_succ]
          refine wpAnyT_held (i := 5) (v := ?_) rfl (by kernel_rfl) (by kernel_rfl) (by kernel_rfl) (fun _ _ _ h => h) (by kernel_rfl) hT (fun _ => hS) (by kernel_rfl) ?_ ?_
          rotate_left
          · intro wx hSw; go_split_ands; go_simp; try with_reducible rfl
          simp only [Act.put, List.getElem_toArray, List.getElem_cons_succ, List.getElem_cons_zero, List.setIfInBounds_toArray, List.set_cons_zero, List.set_cons_succ]
          refine wpAnyT_held (i := 6) (v := ?_) rfl (by kernel_rfl) (by kernel_rfl) (by kernel_rfl) (fun _ _ _ h => h) (by kernel_rfl) hT (fun _ => hS) (by kernel_rfl) ?_ ?_
          rotate_left
          · intro wx hSw; go_split_ands; go_simp; try with_reducible rfl
          simp only [Act.put, List.getElem_toArray, List.getElem_cons_succ, List.getElem_cons_zero, List.setIfInBounds_toArray, List.set_cons_zero, List.set_cons_succ]
          refine wpAnyT_held (i := 7) (v := ?_) rfl (by kernel_rfl) (by kernel_rfl) (by kernel_rfl) (fun _ _ _ h => h) (by kernel_rfl) hT (fun _ => hS) (by kernel_rfl) ?_ ?_
          rotate_left
          · intro wx hSw; go_split_ands; go_simp; try with_reducible rfl
          simp only [Act.put, List.getElem_toArray, List.getElem_cons_succ, List.getElem_cons_zero, List.setIfInBounds_toArray, List.set_cons_zero, List.set_cons_succ]
          refine wpAnyT_load (i := 8) (dst := some 58) (ty := 32) (x := .tmp 57) (b := g) (o := ((a' * 2))) (cs := DH) (by kernel_rfl) (by kernel_rfl) (by kernel_rfl) (by kernel_rfl) (by kernel_rfl) (fun _ _ _ h => h) (by kernel_rfl) hT (fun _ => hS) (by kernel_rfl) (fun _ h => h.1) uD rfl iH ?_
          simp only [Act.put, List.getElem_toArray, List.getElem_cons_succ, List.getElem_cons_zero, List.setIfInBounds_toArray, List.set_cons_zero, List.set_cons_succ]
          refine wpAnyT_load (i := 9) (dst := some 59) (ty := 32) (x := .tmp 10) (b := b10) (o := (0)) (cs := [.int .u8 ya, .int .u32 yb]) (by kernel_rfl) (by kernel_rfl) (by kernel_rfl) (by kernel_rfl) (by kernel_rfl) (fun _ _ _ h => h) (by kernel_rfl) hT (fun _ => hS) (by kernel_rfl) (fun _ h => h.2) uD rfl iY ?_
          simp only [Act.put, List.getElem_toArray, List.getElem_cons_succ, List.getElem_cons_zero, List.setIfInBounds_toArray, List.set_cons_zero, List.set_cons_succ]
          refine wpAnyT_held (i := 10) (v := .bool true) rfl (by kernel_rfl) (by kernel_rfl) (by kernel_rfl) (fun _ _ _ h => h) (by kernel_rfl) hT (fun _ => hS) (by kernel_rfl) (fun wx h => exec_eqF rfl rfl rfl (by go_simp) (hne wx)) ?_
          simp only [Act.put, List.getElem_toArray, List.getElem_cons_succ, List.getElem_cons_zero, List.setIfInBounds_toArray, List.set_cons_zero, List.set_cons_succ]
          refine wpAnyT_held (i := 11) (v := ?_) rfl (by kernel_rfl) (by kernel_rfl) (by kernel_rfl) (fun _ _ _ h => h) (by kernel_rfl) hT (fun _ => hS) (by kernel_rfl) ?_ ?_
          rotate_left
          · intro wx hSw; go_split_ands; go_simp; try with_reducible rfl
          simp only [Act.put, List.getElem_toArray, List.getElem_cons_succ, List.getElem_cons_zero, List.setIfInBounds_toArray, List.set_cons_zero, List.set_cons_succ]
          refine wpAnyT_done (by kernel_rfl) ?_ _
          have HR := Veil.mk (HNO.out he)
          clear hT hS hne hr hrd hde HYES HNO he iH hai
          go_wp2
          go_roundw
          case rel => exact ⟨a' + 1, by push_cast; rfl, ha2, HR.out, HZD.out.1, HZD.out.2⟩
          case measure => simp [intOf]; omega
    · obtain rfl : i = wn := by omega
      have hli : ¬ (i : Int) < (i : Int) := by omega
      have hat := (HCO.out R bc bn V wr HZ.out.1).2.2.1 (i : Nat)
      rw [HAO.out] at hat
      simp only [show atE none = 2 from rfl, show encF (atD none) = [.int .u8 0, .int .u32 0] from rfl] at hat
      have HLQ : Veil (∀ W, TreeAt W w.heap.size R bc bn N V → Calls Try.prog 19 #[.pointer (some ⟨R, 0, none⟩)] W fun e w' => e = .returned (.int .i64 (on : Nat)) ∧ w' = W) := ⟨fun W hT => by have := (HCO.out R bc bn V W hT).2.2.2.2; rw [← HOL.out, HON.out] at this; exact this⟩
      have HLE : Veil (decide (i ≤ on) = true) := ⟨by have := HWL.out; rw [HWN.out, HON.out] at this; simpa using this⟩
      have hbe : ((on : Int) == (on : Int)) = true := by simp
      go_upto_region 19 with (go_at_call 24; refine hat.mono ?_; rintro z W5 ⟨rfl, hb5⟩; clear hat)
      have hz5 := HFAR.out _ _ HZ.out hb5
      have hb6 : Below W5.heap.size W5 (W5.alloc (.cells #[.int .u8 0, .int .u32 0] 32)) := (Below.refl _ _).alloc (Nat.le_refl _) _
      refine forget (p := fun y => Code.wp _ _ _ _ y) (fun W => (TreeAt W w.heap.size R bc bn N V ∧ OwnI W ob 32 2 (.slice ox on oc) (ORD.map encF) ∧ Below w.heap.size w W)) (HFAR.out _ _ hz5 hb6) ?_
      generalize W5.heap.size = b12
      clear hz5 hb6 hb5 W5 HZ HFL
      rintro W6 hz6
      have hln := HLQ.out W6 hz6.1
      have HB6 := Veil.mk hz6.2.2
      clear hz6 HLQ
      go_wp2_with (go_at_call 19; refine hln.mono ?_; rintro z W7 ⟨rfl, rfl⟩; clear hln)
      go_ret
      exact ⟨by rw [← HLE.out]; rfl, HB6.out⟩
end Go.Proofs.Ytdkkenlehdblpaa

