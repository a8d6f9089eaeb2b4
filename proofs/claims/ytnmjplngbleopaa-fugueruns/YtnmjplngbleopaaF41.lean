/- FugueRunsW -/
import Derived.Test.YtnmjplngbleopaaF40
import Derived.Test.YtnmjplngbleopaaF36
namespace Go.Proofs.Ytnmjplngbleopaa
open Go.RowKit Go.Shelf
set_option maxRecDepth 20000
set_option linter.unusedSimpArgs false
theorem DeedsAt.author {w : World} {x : Option Addr} {len cap : Nat} {L : List Dd8} (h : DeedsAt w x len cap L) {i : Nat} (hi : i < L.length) : ∃ b off, x = some ⟨b, off, none⟩ ∧ w.cell? ⟨b, off + i * 7 + 1, none⟩ = some (.int .u8 L[i].id.1) := by
  have hl := h.len_eq
  rcases h.at_ with h0 | ⟨b, off, hx, hc⟩
  · omega
  · exact ⟨b, off, hx, hc i hi 1 _ rfl⟩
set_option maxHeartbeats 64000000 in
theorem runs_walk (x : Option Addr) (len cap : Nat) (L : List Dd8) (iv : Int) (n0 n1 : Int) (w : World) (hL : DeedsAt w x len cap L) (hiv : 0 ≤ iv ∧ iv ≤ 255) (hn0 : 0 ≤ n0 ∧ n0 ≤ 255) (hn1 : 0 ≤ n1 ∧ n1 ≤ 255) :
    Calls Try.prog 3 #[.slice x len cap, .int .u8 iv, .agg #[.int .u8 n0, .int .u8 n1]] w fun e w' => e = .returned (.bool true) ∧ Below w.heap.size w w' := by
  obtain ⟨N, hNN⟩ : ∃ q, playN (L.take 60) = q := ⟨_, rfl⟩
  have hok : TreeOk N := by rw [← hNN]; exact playN_ok _
  have hln : N.length ≤ 60 := by rw [← hNN]; have := playN_len (L.take 60); have := List.length_take_le 60 L; omega
  have hids : ∀ n ∈ N, ∃ j, j < 60 ∧ ∃ h : j < L.length, n.id = L[j].id := fun n hn => by
    rw [← hNN] at hn
    obtain ⟨d, hd, e⟩ := playN_ids _ n hn
    obtain ⟨j, hj, rfl⟩ := List.getElem_of_mem hd
    rw [List.length_take] at hj
    exact ⟨j, by omega, by omega, by rw [e, List.getElem_take]⟩
  have HPL : Veil (∀ W1, Below w.heap.size w W1 → Calls Try.prog 4 #[.slice x len cap] W1 fun e w' => ∃ R bc bn V Q v, e = .returned (.tuple #[.pointer (some ⟨R, 0, none⟩), .pointer (some ⟨Q, 0, none⟩), .bool true]) ∧ Veil (TreeAt w' W1.heap.size R bc bn N V ∧ (∀ k, treeP R bc bn V k → W1.heap.size ≤ k) ∧ Below W1.heap.size W1 w')) := ⟨fun W1 hb => by
    refine (play8_any x len cap L W1 (hL.below hb)).mono ?_
    rintro e w' ⟨v0, rfl, R, bc, bn, V, Q, v, h1, h2, h3⟩
    rw [hNN] at h2
    exact ⟨R, bc, bn, V, Q, v, by rw [h1], ⟨h2.tree, fun k hk => h2.above k (.inl hk), h3⟩⟩⟩
  have HLV : Veil (∀ W, Calls Try.prog 5 #[] W fun e w' => e = .returned (.bool true) ∧ Below W.heap.size W w') := ⟨fun W => live8_any W⟩
  have HOK := Veil.mk hok
  have HIDS := Veil.mk hids
  have HL := Veil.mk hL
  have hle := hL.le
  have htop := hL.top
  have HLE := Veil.mk hL.len_eq
  have hbox : Below w.heap.size w (w.alloc (.cells (row .u8 [n0, n1]) 23)) := (Below.refl _ _).alloc (Nat.le_refl _) _
  have hboxc := Holds.new w .u8 23 [n0, n1]
  clear hNN hok hids hL
  go_enter Try.func3, Try.ntmps3
  go_upto_region 1 with fail
  refine forget (p := fun y => Code.wp _ _ _ _ y) (fun W1 => Below w.heap.size w W1 ∧ Holds W1 w.heap.size .u8 23 [n0, n1]) ⟨hbox, hboxc⟩ ?_
  clear hbox hboxc
  obtain ⟨b5, hb5⟩ : ∃ q, w.heap.size = q := ⟨_, rfl⟩
  rintro W1 ⟨hbw, hbox⟩
  have HBW := Veil.mk hbw
  have HBX := Veil.mk hbox
  have hpl := HPL.out W1 hbw
  rw [hb5] at HBX ⊢
  clear hb5 hbw hbox HPL
  go_upto_region 2 with (go_at_call 4; refine hpl.mono ?_; rintro z W2 ⟨R, bc, bn, V, Q, v, rfl, HT2⟩; clear hpl)
  have hlv := HLV.out W2
  have HLN : Veil (∀ W, Below W2.heap.size W2 W → Calls Try.prog 6 #[.pointer (some ⟨R, 0, none⟩)] W fun e w' => e = .returned (.int .i64 (N.length : Nat)) ∧ w' = W) := ⟨fun W hb => lenT_any _ R bc bn N V W (HT2.out.1.far hb)⟩
  have l60 : ¬ (60 : Int) < (N.length : Int) := by omega
  have d60 : decide ((N.length : Int) > 60) = false := by simp; omega
  obtain ⟨nl, hnl⟩ : ∃ q, N.length = q := ⟨_, rfl⟩
  rw [hnl] at HLN l60 d60 hln
  have HNL := Veil.mk hnl
  clear hnl
  go_upto_region 4 with (first
    | (go_at_call 5; refine hlv.mono ?_; rintro z W3 ⟨rfl, hb3⟩; have hlen := HLN.out W3 hb3; clear hlv)
    | (go_at_call 6; refine hlen.mono ?_; rintro z W4 ⟨rfl, rfl⟩; clear hlen))
  have HT3 : Veil (TreeAt W4 W1.heap.size R bc bn N V ∧ (∀ k, treeP R bc bn V k → W1.heap.size ≤ k) ∧ Below W1.heap.size W1 W4) := ⟨HT2.out.1.far hb3, HT2.out.2.1, HT2.out.2.2.trans (hb3.mono HT2.out.2.2.size)⟩
  clear HT2 HLN HLV hb3 W2
  go_wp2_with fail
  go_loopw [10] (fun p wr => ∃ i : Nat, p = .int .i64 (i : Nat) ∧ i ≤ len ∧ i ≤ 60 ∧ (∀ j (h : j < L.length), j < i → L[j].id.1 < 6) ∧ Below W4.heap.size W4 wr) (fun p _ => 60 - (intOf p).toNat)
  case atStart => exact ⟨0, rfl, Nat.zero_le _, Nat.zero_le _, fun j _ h => by omega, Below.refl _ _⟩
  case round =>
    obtain ⟨i, rfl, hi, hi60, hlow, hbr⟩ := hrel
    by_cases hin : i < len ∧ i < 60
    · obtain ⟨h1, h2⟩ := hin
      have hiL : i < L.length := by have := HLE.out; omega
      have d1 : decide ((i : Int) < (len : Int)) = true := by simp; omega
      have d2 : decide ((i : Int) < 60) = true := by simp; omega
      have l1 : (i : Int) < (len : Int) := by omega
      have l2 : (i : Int) < 60 := by omega
      have hi0 : (0 : Int) ≤ (i : Int) := by omega
      have hww : IntKind.i64.wrap ((i : Int) + 1) = (i : Int) + 1 := by rw [IntKind.wrap_i64]; omega
      have HBR : Veil (Below w.heap.size w wr ∧ Below W4.heap.size W4 wr) := ⟨HBW.out.trans ((HT3.out.2.2.trans (hbr.mono HT3.out.2.2.size)).mono HBW.out.size), hbr⟩
      obtain ⟨b, off, rfl, hca⟩ := (HL.out.below HBR.out.1).author hiL
      have hlw := hlow
      obtain ⟨au, hau⟩ : ∃ q, L[i].id.1 = q := ⟨_, rfl⟩
      rw [hau] at hca
      have HAU := Veil.mk hau
      have HLO := Veil.mk hlow
      clear hlow hlw hau hbr
      by_cases h6 : au < 6
      · have d6 : decide (au ≥ 6) = false := by simp; omega
        have l6 : ¬ 6 ≤ au := by omega
        go_wp2_with fail
        go_roundw
        case rel => exact ⟨i + 1, by push_cast; rfl, h1, h2, fun j h hj => by
          by_cases hji : j = i
          · subst hji; rw [HAU.out]; exact h6
          · exact HLO.out j h (by omega), HBR.out.2⟩
        case measure => simp [intOf]; omega
      · have d6 : decide (au ≥ 6) = true := by simp; omega
        have l6 : 6 ≤ au := by omega
        go_wp2
        go_ret
        exact ⟨rfl, HBR.out.1⟩
    · have hcase : i = len ∨ (i < len ∧ i = 60) := by omega
      rcases hcase with hA | ⟨hA, hA60⟩
      · have l1 : ¬ (i : Int) < (len : Int) := by omega
        have d1 : decide ((i : Int) < (len : Int)) = false := decide_eq_false l1
        have hold : ∀ n ∈ N, n.id.1 < 6 := fun n hn => by
          obtain ⟨j, hj60, hjL, e⟩ := HIDS.out n hn
          rw [e]
          exact hlow j hjL (by have := HLE.out; omega)
        have htxl : (textN N).length = (wrN N).length := by unfold textN; rw [List.length_map]
        have hwl : (wrN N).length ≤ nl := by
          unfold wrN
          have h1 := List.length_filter_le (writB N) (walkA N rootS)
          rw [HOK.out.len] at h1
          have := HNL.out; omega
        obtain ⟨tl, htl⟩ : ∃ q, (wrN N).length = q := ⟨_, rfl⟩
        rw [htl] at htxl hwl
        obtain ⟨t, htm, hat⟩ : ∃ t : Nat, iv.tmod ((tl : Int) + 1) = (t : Int) ∧ t ≤ tl := by
          refine ⟨(iv % ((tl : Int) + 1)).toNat, ?_, ?_⟩
          · rw [Int.tmod_eq_emod_of_nonneg hiv.1, Int.toNat_of_nonneg (Int.emod_nonneg _ (by omega))]
          · have := Int.emod_lt_of_pos iv (show (0 : Int) < (tl : Int) + 1 by omega)
            have := Int.emod_nonneg iv (show ((tl : Int) + 1) ≠ 0 by omega)
            omega
        have htm2 : iv % ((tl : Int) + 1) = (t : Int) := by rw [← htm, Int.tmod_eq_emod_of_nonneg hiv.1]
        have hwi : IntKind.i64.wrap iv = iv := by rw [IntKind.wrap_i64]; omega
        have hwn : IntKind.i64.wrap ((tl : Int) + 1) = (tl : Int) + 1 := by rw [IntKind.wrap_i64]; omega
        have hnz : ¬ ((tl : Int) + 1 = 0) := by omega
        have HOLD := Veil.mk (Old.place HOK.out (by have := HNL.out; omega) hold (k := t) (by rw [htl]; exact hat))
        have HFW : Veil (∀ j, j < 2 → ∀ k, k < 12 → Fwd N (sideN N t) t j k) := ⟨fun j hj k hk => HOLD.out.fwd (by rw [htl]; exact hat) hj k hk⟩
        have htx := textB_any W1.heap.size R bc bn N V HOK.out (by have := HNL.out; omega) wr (HT3.out.1.far hbr)
        have HBR : Veil (Below W4.heap.size W4 wr) := ⟨hbr⟩
        have HTL := Veil.mk htxl
        have htb : t ≤ 60 := by omega
        generalize sideN N t = s0 at HOLD HFW
        clear hold htxl htl hbr hlow HIDS HLE HL
        go_upto_region 11 with (go_at_call 7; refine htx.mono ?_; rintro z W5 ⟨tv, rfl, hown, hb5⟩; obtain ⟨tx, tn, tc, rfl, htn⟩ := hown.isSlice; obtain rfl : tn = tl := htn.trans HTL.out; clear htx hown htn)
        have hz5 := CellsAt.new W5 37 [.slice none 0 0, .slice none 0 0]
        have hT5 : Below W4.heap.size W4 W5 := HBR.out.trans (hb5.mono HBR.out.size)
        refine forget (p := fun y => Code.wp _ _ _ _ y) (fun W6 => Ph W1 W6 R bc bn V N W5.heap.size (fun _ => .slice none 0 0) (fun _ => [])) (Ph.made (HT3.out.1.far hT5) HT3.out.2.1 (HT3.out.2.2.trans (hT5.mono HT3.out.2.2.size)) ((Below.refl _ _).alloc (Nat.le_refl _) _) hz5 (Nat.le_refl _)) ?_
        generalize W5.heap.size = c
        clear hz5 hT5 hb5 HBR HT3 HTL hwi hwn hnz htm htm2 hwl
        rintro W6 hPh6
        obtain ⟨c0, hc0, hc0b⟩ : ∃ q : Nat, n0.tmod 12 = (q : Int) ∧ q < 12 := ⟨(n0 % 12).toNat, by rw [Int.tmod_eq_emod_of_nonneg hn0.1]; omega, by omega⟩
        obtain ⟨c1, hc1, hc1b⟩ : ∃ q : Nat, n1.tmod 12 = (q : Int) ∧ q < 12 := ⟨(n1 % 12).toNat, by rw [Int.tmod_eq_emod_of_nonneg hn1.1]; omega, by omega⟩
        have HCN : Veil (∀ j, j < 2 → cntW c0 c1 j < 12 ∧ ∃ nb : Int, 0 ≤ nb ∧ nb ≤ 255 ∧ nb.tmod 12 = ((cntW c0 c1 j : Nat) : Int) ∧ ∀ W, Below W1.heap.size W1 W → W.cell? ⟨b5, j, none⟩ = some (.int .u8 nb)) := ⟨fun j hj => by
          have hcell : ∀ W, Below W1.heap.size W1 W → Holds W b5 .u8 23 [n0, n1] := fun W hb => (hb.block b5 (Array.getElem?_eq_some_iff.1 HBX.out).1).trans HBX.out
          rcases (by omega : j = 0 ∨ j = 1) with rfl | rfl
          · exact ⟨hc0b, n0, hn0.1, hn0.2, hc0, fun W hb => (hcell W hb).cell 0 (by simp)⟩
          · exact ⟨hc1b, n1, hn1.1, hn1.2, hc1, fun W hb => (hcell W hb).cell 1 (by simp)⟩⟩
        clear hc0 hc1 hc0b hc1b hn0 hn1 hiv HBX
        go_wp2_with fail
        go_loopw [13, 14, 15, 16, 17, 18, 19] (fun wv _ _ _ _ _ _ wr => ∃ (j : Nat) (vs : Nat → Value) (Ls : Nat → List (List Value)), wv = .int .i64 (j : Nat) ∧ j ≤ 2 ∧ Ph W1 wr R bc bn V N c vs Ls ∧ ∀ i, i < 2 → Ls i = if i < j then wlW s0 i (cntW c0 c1 i) else []) (fun wv _ _ _ _ _ _ _ => 2 - (intOf wv).toNat)
        case atStart => exact ⟨0, _, _, rfl, by omega, hPh6, fun i _ => by rw [if_neg (by omega)]⟩
        case round =>
          clear hPh6
          obtain ⟨j, vs, Ls, rfl, hj2, hPh, hLs⟩ := hrel
          by_cases hj : j < 2
          · have lj : (j : Int) < 2 := by omega
            have dj : decide ((j : Int) < 2) = true := by simp; omega
            have hj0 : (0 : Int) ≤ (j : Int) := by omega
            have hjw : IntKind.i64.wrap ((j : Int) + 1) = (j : Int) + 1 := by rw [IntKind.wrap_i64]; omega
            have hfk := forkT_any W1.heap.size R bc bn N V (by have := HNL.out; omega) wr hPh.tree
            go_upto_region 15 with (go_at_call 8; refine hfk.mono ?_; rintro z W7 ⟨R', bc', bn', U, rfl, hT7, hb7, hB7⟩; clear hfk)
            have hFk7 : FkS W1 W7 R bc bn V N c vs Ls R' bc' bn' U (FkN N s0 j 0) := by rw [Fk_zero]; exact FkS.made hPh hT7 hb7 hB7
            have HLS := Veil.mk hLs
            clear hPh hT7 hb7 hB7 hLs
            go_wp2_with fail
            go_loopw [15, 16, 17, 18, 19] (fun kv _ _ _ _ wr => ∃ (k : Nat) (us : Nat → Value) (Ks : Nat → List (List Value)) (U : (Int × Int) × Bool → Value), kv = .int .i64 (k : Nat) ∧ k ≤ cntW c0 c1 j ∧ FkS W1 wr R bc bn V N c us Ks R' bc' bn' U (FkN N s0 j k) ∧ ∀ i, i < 2 → Ks i = if i = j then wlW s0 j k else if i < j then wlW s0 i (cntW c0 c1 i) else []) (fun kv _ _ _ _ _ => cntW c0 c1 j - (intOf kv).toNat)
            case atStart => exact ⟨0, _, _, _, rfl, Nat.zero_le _, hFk7, fun i hi => by
              rw [HLS.out i hi]
              by_cases hij : i = j
              · rw [if_pos hij, if_neg (by omega)]; rfl
              · rw [if_neg hij]⟩
            case round =>
              clear hFk7
              obtain ⟨k, us, Ks, U, rfl, hk, hFk, hKs⟩ := hrel
              obtain ⟨hc12, nb, hnb0, hnb1, hnbt, hnbc⟩ := HCN.out j hj
              have hcb := hnbc wr hFk.ph.below
              have hwb : IntKind.i64.wrap nb = nb := by rw [IntKind.wrap_i64]; omega
              obtain ⟨cn, hcn⟩ : ∃ q, cntW c0 c1 j = q := ⟨_, rfl⟩
              rw [hcn] at hk hc12 hnbt
              have HCNE := Veil.mk hcn
              clear hcn hnbc
              by_cases hkc : k < cn
              · have lk : (k : Int) < (cn : Int) := by omega
                have dk : decide ((k : Int) < (cn : Int)) = true := by simp; omega
                have hk0 : (0 : Int) ≤ (k : Int) := by omega
                have hkw : IntKind.i64.wrap ((k : Int) + 1) = (k : Int) + 1 := by rw [IntKind.wrap_i64]; omega
                have hpl := placeT_any W1.heap.size R' bc' bn' (FkN N s0 j k) U (HOLD.out.okFk j (by omega)) (by rw [Fk_len]; have := HNL.out; omega) ((t + k : Nat) : Int) (by omega) wr hFk.ft
                rw [(HFW.out j hj k (by omega)).place] at hpl
                obtain ⟨tk, htk⟩ : ∃ q, t + k = q := ⟨_, rfl⟩
                have hwA : IntKind.i64.wrap ((t : Int) + (k : Int)) = (tk : Int) := by rw [IntKind.wrap_i64]; omega
                rw [htk] at hpl
                clear htk
                obtain ⟨SD, hSD⟩ : ∃ q, (ndR s0 j k).side = q := ⟨_, rfl⟩
                obtain ⟨⟨pa, pb⟩, pr⟩ := SD
                rw [hSD] at hpl
                have HSD := Veil.mk hSD
                have HFK := Veil.mk (And.intro hFk hKs)
                simp only [encF, dotC] at hpl
                clear hFk hKs hSD
                have iD : (Try.prog.info? 32).map (·.size) = some [Value.int .u8 pa, Value.int .u32 pb].length := sizeDot
                have nD : ∀ v ∈ [Value.int .u8 pa, Value.int .u32 pb], v.oneCell' = true := by simp [Value.oneCell']
                go_upto_region 19 with (first
                  | (go_at_call 9; refine hpl.mono ?_; rintro z W8 ⟨rfl, hb8⟩; have hz8 := CellsAt.new W8 32 [.int .u8 0, .int .u32 0]; clear hpl)
                  | (refine wpList_stv (cs := [.int .u8 pa, .int .u32 pb]) rfl 32 _ _ rfl W8.heap.size rfl rfl hz8 iD (by rfl) nD ?_))
                have hz9 := hz8.setRow [.int .u8 pa, .int .u32 pb]
                have hb9 : Below W8.heap.size W8 ((W8.alloc (.cells #[.int .u8 0, .int .u32 0] 32)).setRow W8.heap.size #[.int .u8 pa, .int .u32 pb]) := below_setRow ((Below.refl _ _).alloc (Nat.le_refl _) _) (Nat.le_refl _) _
                refine forget (p := fun y => Code.wp _ _ _ _ y) (fun W9 => Below wr.heap.size wr W9 ∧ CellsAt W9 W8.heap.size 32 [.int .u8 pa, .int .u32 pb]) ⟨hb8.trans (hb9.mono hb8.size), hz9⟩ ?_
                generalize W8.heap.size = e16
                clear hz8 hz9 hb9 hb8 W8
                rintro W9 ⟨hb9, hx9⟩
                have hr9 := hx9.wholeM
                have uD := Try.underlying32
                have hd7 : dW s0 j k = [.int .i64 0, .int .u8 ((j : Int) + 6), .int .u32 ((k : Int) + 1), .int .u8 pa, .int .u32 pb, .bool pr, .int .u8 (chW j k)] := by
                  unfold dW
                  rw [HSD.out]
                  rfl
                obtain ⟨chv, hchv⟩ : ∃ q, chW j k = q := ⟨_, rfl⟩
                have hcv : chv = 65 + 32 * (j : Int) + (k : Int) := by rw [← hchv]; rfl
                rw [hchv] at hd7
                obtain ⟨ja, hja⟩ : ∃ q : Int, (j : Int) + 6 = q := ⟨_, rfl⟩
                obtain ⟨k1, hk1⟩ : ∃ q : Int, (k : Int) + 1 = q := ⟨_, rfl⟩
                have hw6 : IntKind.i64.wrap (6 + (j : Int)) = ja := by rw [IntKind.wrap_i64]; omega
                have hu6 : IntKind.u8.wrap ja = ja := by rw [IntKind.wrap_u8]; omega
                have hkw1 : IntKind.i64.wrap ((k : Int) + 1) = k1 := by rw [IntKind.wrap_i64]; omega
                have hku : IntKind.u32.wrap k1 = k1 := by rw [IntKind.wrap_u32]; omega
                obtain ⟨j32, hj32⟩ : ∃ q : Int, 32 * (j : Int) = q := ⟨_, rfl⟩
                have hw32 : IntKind.i64.wrap (32 * (j : Int)) = j32 := by rw [IntKind.wrap_i64]; omega
                obtain ⟨j65, hj65⟩ : ∃ q : Int, 65 + j32 = q := ⟨_, rfl⟩
                have hw65 : IntKind.i64.wrap (65 + j32) = j65 := by rw [IntKind.wrap_i64]; omega
                have hwc : IntKind.i64.wrap (j65 + (k : Int)) = chv := by rw [IntKind.wrap_i64]; omega
                have huc : IntKind.u8.wrap chv = chv := by rw [IntKind.wrap_u8]; omega
                rw [hja, hk1] at hd7
                have HCH := Veil.mk (And.intro hchv (And.intro hja hk1))
                have HD7 := Veil.mk hd7
                have i7 : (Try.prog.info? 34).map (·.size) = some [Value.int .i64 0, .int .u8 ja, .int .u32 k1, .int .u8 pa, .int .u32 pb, .bool pr, .int .u8 chv].length := by kernel_rfl
                have n7 : ∀ v ∈ [Value.int .i64 0, .int .u8 ja, .int .u32 k1, .int .u8 pa, .int .u32 pb, .bool pr, .int .u8 chv], v.oneCell' = true := by simp [Value.oneCell']
                have hz9 := CellsAt.new W9 34 [.int .i64 0, .int .u8 0, .int .u32 0, .int .u8 0, .int .u32 0, .bool false, .int .u8 0]
                have hkwk := hkw
                clear hchv hja hk1 hj32 hj65 hd7 hcv hkw
                go_upto_region 20 with (first
                  | (refine wpList_ldv rfl 32 _ rfl e16 0 rfl [.int .u8 pa, .int .u32 pb] hr9 uD rfl iD ?_)
                  | (refine wpList_stv (cs := [.int .i64 0, .int .u8 ja, .int .u32 k1, .int .u8 pa, .int .u32 pb, .bool pr, .int .u8 chv]) rfl 34 _ _ rfl W9.heap.size rfl rfl hz9 i7 (by rfl) n7 ?_))
                have hx10 := hz9.setRow [.int .i64 0, .int .u8 ja, .int .u32 k1, .int .u8 pa, .int .u32 pb, .bool pr, .int .u8 chv]
                have hb10 : Below W9.heap.size W9 ((W9.alloc (.cells #[.int .i64 0, .int .u8 0, .int .u32 0, .int .u8 0, .int .u32 0, .bool false, .int .u8 0] 34)).setRow W9.heap.size #[.int .i64 0, .int .u8 ja, .int .u32 k1, .int .u8 pa, .int .u32 pb, .bool pr, .int .u8 chv]) := below_setRow ((Below.refl _ _).alloc (Nat.le_refl _) _) (Nat.le_refl _) _
                have hsz9 : wr.heap.size ≤ W9.heap.size := hb9.size
                refine forget (p := fun y => Code.wp _ _ _ _ y) (fun W10 => Below wr.heap.size wr W10 ∧ CellsAt W10 W9.heap.size 34 [.int .i64 0, .int .u8 ja, .int .u32 k1, .int .u8 pa, .int .u32 pb, .bool pr, .int .u8 chv]) ⟨hb9.trans (hb10.mono hb9.size), hx10⟩ ?_
                generalize W9.heap.size = e19 at hsz9 ⊢
                clear hz9 hx10 hb10 hb9 hx9 hr9 hcb hw6 hu6 hkw1 hku hw32 hw65 hwc huc W9
                rintro W10 ⟨hb10, hx10⟩
                have hins := HFK.out.1.insert hb10 HOLD.out hj (by omega) HSD.out hsz9 hx10
                rw [HCH.out.1, HCH.out.2.1, HCH.out.2.2] at hins
                have r1 : W10.rangeAt e19 1 [.int .u8 ja, .int .u32 k1] := hx10.range 1 2
                have r3 : W10.rangeAt e19 3 [.int .u8 pa, .int .u32 pb] := hx10.range 3 2
                have c5 : W10.cell? ⟨e19, 5, none⟩ = some (.bool pr) := hx10.cell 5
                have c6 : W10.cell? ⟨e19, 6, none⟩ = some (.int .u8 chv) := hx10.cell 6
                have iJ : (Try.prog.info? 32).map (·.size) = some [Value.int .u8 ja, .int .u32 k1].length := sizeDot
                clear hx10 hb10
                go_upto_region 22 with (first
                  | (refine wpList_ldgv (by kernel_rfl) 32 (.tmp 114) rfl e19 1 rfl [.int .u8 ja, .int .u32 k1] r1 uD rfl iJ ?_)
                  | (refine wpList_ldgv (by kernel_rfl) 32 (.tmp 116) rfl e19 3 rfl [.int .u8 pa, .int .u32 pb] r3 uD rfl iD ?_)
                  | (go_at_call 10; refine hins.mono ?_; rintro z W11 ⟨rfl, HF11⟩; clear hins))
                have hne19 : (us j).ownBlock ≠ some e19 := fun q => by have := ((HFK.out.1.ph.own j hj).blockLt e19 q).1; omega
                clear r1 r3 c5 c6 iJ iD nD uD hsz9
                obtain ⟨⟨U2, hF11⟩, hx11⟩ := HF11
                have hKs := HFK.out.2
                clear HFK
                have hFd := hF11.far (Below.refl _ _).drew
                have hxd : CellsAt W11.drew e19 34 [.int .i64 0, .int .u8 ja, .int .u32 k1, .int .u8 pa, .int .u32 pb, .bool pr, .int .u8 chv] := hx11
                have hKj : Ks j = wlW s0 j k := by rw [hKs j hj, if_pos rfl]
                have hoj := hFd.ph.own j hj
                obtain ⟨ux, uc, hu⟩ := hoj.isSlice
                have hKl : (Ks j).length = k := by rw [hKj, wlW_len]
                rw [hKl] at hu
                obtain ⟨x4, c4, W12, hrun, ho, ht, hn⟩ := hoj.push 22 Try.underlying22 infoDeed7 rfl (by decide) [.int .i64 0, .int .u8 ja, .int .u32 k1, .int .u8 pa, .int .u32 pb, .bool pr, .int .u8 chv] rfl n7 (by rw [hKl]; omega) (by decide) hFd.ph.below.size
                rw [hKl] at hrun ho hn
                have hPU := hFd.push hj ho ht hn
                rw [hu] at hrun
                have hwd := hFd.ph.words
                have hwd12 := hwd.congr (ht.block c hwd.lt fun q => (hFd.ph.tw j hj c q).2 rfl)
                have hcell : ∀ W, CellsAt W c 37 [us 0, us 1] → W.cell? ⟨c, j, none⟩ = some (.slice ux k uc) ∧ W.frozen? ⟨c, j, none⟩ = false := fun W hW => by
                  refine ⟨?_, hW.frozen j⟩
                  rw [hW.cell j, ← hu]
                  rcases (by omega : j = 0 ∨ j = 1) with rfl | rfl <;> rfl
                have hv0 := (hcell _ hwd).1
                have hva := (hcell _ (hwd.alloc (.cells ([.int .i64 0, .int .u8 ja, .int .u32 k1, .int .u8 pa, .int .u32 pb, .bool pr, .int .u8 chv] : List Value).toArray 34))).1
                have hv12 := (hcell _ hwd12).1
                have hf12 := (hcell _ hwd12).2
                have hra := (hxd.alloc (.cells ([.int .i64 0, .int .u8 ja, .int .u32 k1, .int .u8 pa, .int .u32 pb, .bool pr, .int .u8 chv] : List Value).toArray 34)).wholeM
                have hr0 := hxd.wholeM
                have hr12 := (hxd.congr (ht.block e19 hxd.lt fun q => hne19 q)).wholeM
                have uE7 := Try.underlying34
                have uS7 := Try.underlying22
                have HKS := Veil.mk (And.intro hKs hKj)
                have HPU := Veil.mk hPU
                clear hwd hwd12 hcell hFd hF11 hxd hx11 hoj ho ht hn hKs hKj hKl hPU hu hne19
                refine wp_region_gate (fun w' : World => w'.cell? ⟨c, j, none⟩ = some (.slice ux k uc) ∧ w'.rangeAt e19 0 [.int .i64 0, .int .u8 ja, .int .u32 k1, .int .u8 pa, .int .u32 pb, .bool pr, .int .u8 chv]) 8 (by kernel_rfl) ?_
                have hS : (fun w' : World => w'.cell? ⟨c, j, none⟩ = some (.slice ux k uc) ∧ w'.rangeAt e19 0 [.int .i64 0, .int .u8 ja, .int .u32 k1, .int .u8 pa, .int .u32 pb, .bool pr, .int .u8 chv]) W11.drew := ⟨hv0, hr0⟩
                refine wpAnyG_any (i := 0) (v := ?_) rfl (by kernel_rfl) (by kernel_rfl) (by kernel_rfl) (fun _ _ _ h => h) (by kernel_rfl) (fun _ => hS) (by kernel_rfl) ?_ ?_
                rotate_left
                · intro _; go_simp; try with_reducible rfl
                simp only [Act.put, List.getElem_toArray, List.getElem_cons_succ, List.getElem_cons_zero, List.setIfInBounds_toArray, List.set_cons_zero, List.set_cons_succ]
                refine wpAnyG_any (i := 1) (v := ?_) rfl (by kernel_rfl) (by kernel_rfl) (by kernel_rfl) (fun _ _ _ h => h) (by kernel_rfl) (fun _ => hS) (by kernel_rfl) ?_ ?_
                rotate_left
                · intro _; go_simp; try with_reducible rfl
                simp only [Act.put, List.getElem_toArray, List.getElem_cons_succ, List.getElem_cons_zero, List.setIfInBounds_toArray, List.set_cons_zero, List.set_cons_succ]
                refine wpAnyG_any (i := 2) (v := ?_) rfl (by kernel_rfl) (by kernel_rfl) (by kernel_rfl) (fun _ _ _ h => h) (by kernel_rfl) (fun _ => hS) (by kernel_rfl) ?_ ?_
                rotate_left
                · intro _; go_simp; try with_reducible rfl
                simp only [Act.put, List.getElem_toArray, List.getElem_cons_succ, List.getElem_cons_zero, List.setIfInBounds_toArray, List.set_cons_zero, List.set_cons_succ]
                refine wpAnyG_read (i := 3) (v := ?_) rfl (by kernel_rfl) (by kernel_rfl) (by kernel_rfl) (fun _ _ _ h => h) (by kernel_rfl) (by kernel_rfl) (by kernel_rfl) hS (by kernel_rfl) ?_ ?_
                rotate_left
                · intro wx hSw; go_split_ands; go_simp; try with_reducible rfl
                simp only [Act.put, List.getElem_toArray, List.getElem_cons_succ, List.getElem_cons_zero, List.setIfInBounds_toArray, List.set_cons_zero, List.set_cons_succ]
                refine wpAnyG_load (i := 4) (dst := some 129) (ty := 34) (x := .tmp 19) (b := e19) (o := (0)) (cs := [.int .i64 0, .int .u8 ja, .int .u32 k1, .int .u8 pa, .int .u32 pb, .bool pr, .int .u8 chv]) (by kernel_rfl) (by kernel_rfl) (by kernel_rfl) (by kernel_rfl) (by kernel_rfl) (fun _ _ _ h => h) (by kernel_rfl) (by kernel_rfl) (by kernel_rfl) hS (by kernel_rfl) (fun _ h => h.2) uE7 rfl i7 ?_
                simp only [Act.put, List.getElem_toArray, List.getElem_cons_succ, List.getElem_cons_zero, List.setIfInBounds_toArray, List.set_cons_zero, List.set_cons_succ]
                refine wpAnyG_one (i := 5) rfl (by kernel_rfl) (by kernel_rfl) (fun K hK => ?_)
                refine wp_bs1 22 34 _ rfl [.int .i64 0, .int .u8 ja, .int .u32 k1, .int .u8 pa, .int .u32 pb, .bool pr, .int .u8 chv] rfl uS7 infoDeed7 (by decide) (by decide) rfl ?_
                replace hS : (fun w' : World => w'.cell? ⟨c, j, none⟩ = some (.slice ux k uc) ∧ w'.rangeAt e19 0 [.int .i64 0, .int .u8 ja, .int .u32 k1, .int .u8 pa, .int .u32 pb, .bool pr, .int .u8 chv]) (W11.drew.alloc (.cells ([.int .i64 0, .int .u8 ja, .int .u32 k1, .int .u8 pa, .int .u32 pb, .bool pr, .int .u8 chv] : List Value).toArray 34)) := ⟨hva, hra⟩
                refine hK.out _ _ (fun _ => hS) ?_
                clear hK K
                try simp only [Act.put, List.getElem_toArray, List.getElem_cons_succ, List.getElem_cons_zero, List.setIfInBounds_toArray, List.set_cons_zero, List.set_cons_succ]
                refine wpAnyG_one (i := 6) rfl (by kernel_rfl) (by kernel_rfl) (fun K hK => ?_)
                refine wpx_app _ _ 22 22 rfl _ _ _ W12 rfl rfl hrun ?_
                replace hS : (fun w' : World => w'.cell? ⟨c, j, none⟩ = some (.slice ux k uc) ∧ w'.rangeAt e19 0 [.int .i64 0, .int .u8 ja, .int .u32 k1, .int .u8 pa, .int .u32 pb, .bool pr, .int .u8 chv]) W12 := ⟨hv12, hr12⟩
                refine hK.out _ _ (fun _ => hS) ?_
                clear hK K
                try simp only [Act.put, List.getElem_toArray, List.getElem_cons_succ, List.getElem_cons_zero, List.setIfInBounds_toArray, List.set_cons_zero, List.set_cons_succ]
                refine wpAnyG_any (i := 7) (v := ?_) rfl (by kernel_rfl) (by kernel_rfl) (by kernel_rfl) (fun _ _ _ h => h) (by kernel_rfl) (fun _ => hS) (by kernel_rfl) ?_ ?_
                rotate_left
                · intro _; go_simp; try with_reducible rfl
                simp only [Act.put, List.getElem_toArray, List.getElem_cons_succ, List.getElem_cons_zero, List.setIfInBounds_toArray, List.set_cons_zero, List.set_cons_succ]
                refine wpAnyG_one (i := 8) rfl (by kernel_rfl) (by kernel_rfl) (fun K hK => ?_)
                clear hv0 hva hra hr0 hr12 hrun
                go_simp
                refine hK.out _ _ (fun h => absurd (show true = false from h) (by decide)) ?_
                clear hK K
                try simp only [Act.put, List.getElem_toArray, List.getElem_cons_succ, List.getElem_cons_zero, List.setIfInBounds_toArray, List.set_cons_zero, List.set_cons_succ]
                refine wpAnyG_done (by kernel_rfl) ?_ _
                clear hS hv12 hf12
                go_wp2_with fail
                go_roundw
                case rel => exact ⟨k + 1, _, _, U2, by push_cast; rfl, by rw [HCNE.out]; exact hkc, HPU.out, fun i hi => by
                  by_cases hij : i = j
                  · subst hij
                    rw [if_pos rfl, upW_self, HKS.out.2, wlW_next, HD7.out]
                  · rw [if_neg hij, upW_other _ _ hij, HKS.out.1 i hi, if_neg hij]⟩
                case measure => have := HCNE.out; simp [intOf]; omega
              · obtain rfl : k = cn := by omega
                have lk : ¬ (k : Int) < (k : Int) := by omega
                have dk : decide ((k : Int) < (k : Int)) = false := decide_eq_false lk
                have HP := Veil.mk (And.intro hFk.ph hKs)
                clear hFk hKs
                go_wp2_with fail
                go_roundw
                case rel => exact ⟨j + 1, us, Ks, by push_cast; rfl, by omega, HP.out.1, fun i hi => by
                  rw [HP.out.2 i hi]
                  by_cases hij : i = j
                  · subst hij
                    rw [if_pos rfl, if_pos (by omega), HCNE.out]
                  · rw [if_neg hij]
                    by_cases h2 : i < j
                    · rw [if_pos h2, if_pos (by omega)]
                    · rw [if_neg h2, if_neg (by omega)]⟩
                case measure => simp [intOf]; omega
          · obtain rfl : j = 2 := by omega
            rw [show ((2 : Nat) : Int) = 2 from rfl]
            have HL2 : Veil (∀ i, i < 2 → Ls i = wlW s0 i (cntW c0 c1 i)) := ⟨fun i hi => by rw [hLs i hi, if_pos hi]⟩
            clear hLs
            go_upto_region 24 with fail
            have HW0 : Wn W1 (wr.alloc (.cells #[.string ⟨#[]⟩, .string ⟨#[]⟩] 43)) R bc bn V (MW N s0 c0 c1 0 0) c vs Ls wr.heap.size (fun i => strOfNums (wordW i (ccW c0 c1 0 0 i))) := by
              rw [MW_zero]
              exact Wn.made hPh ((Below.refl _ _).alloc (Nat.le_refl _) _) (CellsAt.new wr 43 [.string ⟨#[]⟩, .string ⟨#[]⟩]) (Nat.le_refl _)
            refine forget (p := fun y => Code.wp _ _ _ _ y) (fun W13 => Wn W1 W13 R bc bn V (MW N s0 c0 c1 0 0) c vs Ls wr.heap.size (fun i => strOfNums (wordW i (ccW c0 c1 0 0 i)))) HW0 ?_
            generalize wr.heap.size = d
            clear HW0 hPh HFW
            rintro W13 hW13
            have hc0 : c0 < 12 := (HCN.out 0 (by omega)).1
            have hc1 : c1 < 12 := (HCN.out 1 (by omega)).1
            have HC01 := Veil.mk (And.intro hc0 hc1)
            clear hc0 hc1
            go_wp2_with fail
            go_loopw [21, 22, 23] (fun wv _ _ wr => ∃ (j : Nat) (V : (Int × Int) × Bool → Value) (ss : Nat → ByteArray), wv = .int .i64 (j : Nat) ∧ j ≤ 2 ∧ Wn W1 wr R bc bn V (MW N s0 c0 c1 j 0) c vs Ls d ss ∧ ∀ i, i < 2 → ss i = strOfNums (wordW i (ccW c0 c1 j 0 i))) (fun wv _ _ _ => 2 - (intOf wv).toNat)
            case atStart => exact ⟨0, _, _, rfl, by omega, hW13, fun i _ => rfl⟩
            case round =>
              clear hW13
              obtain ⟨j, V, ss, rfl, hj2, hW, hss⟩ := hrel
              by_cases hj : j < 2
              · have lj : (j : Int) < 2 := by omega
                have dj : decide ((j : Int) < 2) = true := by simp; omega
                have hj0 : (0 : Int) ≤ (j : Int) := by omega
                have hjw : IntKind.i64.wrap ((j : Int) + 1) = (j : Int) + 1 := by rw [IntKind.wrap_i64]; omega
                have hc12 := (HCN.out j hj).1
                have HLj := Veil.mk (HL2.out j hj)
                obtain ⟨cn, hcn⟩ : ∃ q, cntW c0 c1 j = q := ⟨_, rfl⟩
                rw [hcn] at hc12 HLj
                have HCNE := Veil.mk hcn
                obtain ⟨vx, vc, hvs⟩ := (hW.ph.own j hj).isSlice
                rw [HLj.out, wlW_len] at hvs
                have HVS := Veil.mk hvs
                clear hcn hvs
                go_wp2_with fail
                go_loopw [22, 23] (fun kv _ wr => ∃ (k : Nat) (V : (Int × Int) × Bool → Value) (ts : Nat → ByteArray), kv = .int .i64 (k : Nat) ∧ k ≤ cn ∧ Wn W1 wr R bc bn V (MW N s0 c0 c1 j k) c vs Ls d ts ∧ ∀ i, i < 2 → ts i = strOfNums (wordW i (ccW c0 c1 j k i))) (fun kv _ _ => cn - (intOf kv).toNat)
                case atStart => exact ⟨0, V, ss, rfl, Nat.zero_le _, hW, hss⟩
                case round =>
                  clear hW hss
                  obtain ⟨k, V, ts, rfl, hk, hW, hts⟩ := hrel
                  have hcw : wr.cell? ⟨c, j, none⟩ = some (.slice vx cn vc) := by
                    rw [hW.ph.words.cell j, ← HVS.out]
                    rcases (by omega : j = 0 ∨ j = 1) with rfl | rfl <;> rfl
                  by_cases hkc : k < cn
                  · have lk : (k : Int) < (cn : Int) := by omega
                    have dk : decide ((k : Int) < (cn : Int)) = true := decide_eq_true lk
                    have hk0 : (0 : Int) ≤ (k : Int) := by omega
                    have hkw : IntKind.i64.wrap ((k : Int) + 1) = (k : Int) + 1 := by rw [IntKind.wrap_i64]; omega
                    have hov := hW.ph.own j hj
                    rw [HVS.out, HLj.out] at hov
                    obtain ⟨g, rfl, -, hrg⟩ := hov.at_ k (by rw [wlW_len]; exact hkc)
                    rw [wlW_at s0 hkc] at hrg
                    obtain ⟨SD, hSD⟩ : ∃ q, (ndR s0 j k).side = q := ⟨_, rfl⟩
                    obtain ⟨⟨pa, pb⟩, pr⟩ := SD
                    have HSD := Veil.mk hSD
                    have hd7 : dW s0 j k = [.int .i64 0, .int .u8 ((j : Int) + 6), .int .u32 ((k : Int) + 1), .int .u8 pa, .int .u32 pb, .bool pr, .int .u8 (chW j k)] := by
                      unfold dW
                      rw [HSD.out]
                      rfl
                    obtain ⟨chv, hchv⟩ : ∃ q, chW j k = q := ⟨_, rfl⟩
                    obtain ⟨ja, hja⟩ : ∃ q : Int, (j : Int) + 6 = q := ⟨_, rfl⟩
                    obtain ⟨k1, hk1⟩ : ∃ q : Int, (k : Int) + 1 = q := ⟨_, rfl⟩
                    rw [hchv, hja, hk1] at hd7
                    rw [hd7] at hrg
                    have HCH := Veil.mk (And.intro hchv (And.intro hja hk1))
                    have i7 : (Try.prog.info? 34).map (·.size) = some [Value.int .i64 0, .int .u8 ja, .int .u32 k1, .int .u8 pa, .int .u32 pb, .bool pr, .int .u8 chv].length := by kernel_rfl
                    have n7 : ∀ v ∈ [Value.int .i64 0, .int .u8 ja, .int .u32 k1, .int .u8 pa, .int .u32 pb, .bool pr, .int .u8 chv], v.oneCell' = true := by simp [Value.oneCell']
                    have hz9 := CellsAt.new wr 34 [.int .i64 0, .int .u8 0, .int .u32 0, .int .u8 0, .int .u32 0, .bool false, .int .u8 0]
                    have uE7 := Try.underlying34
                    have uD := Try.underlying32
                    have iD : (Try.prog.info? 32).map (·.size) = some [Value.int .u8 pa, Value.int .u32 pb].length := sizeDot
                    have iJ : (Try.prog.info? 32).map (·.size) = some [Value.int .u8 ja, Value.int .u32 k1].length := sizeDot
                    have HW := Veil.mk (And.intro hW hts)
                    clear hov hSD hd7 hchv hja hk1 hW hts
                    go_upto_region 31 with (first
                      | (refine wpList_ldv rfl 34 (.tmp 149) rfl g (k * 7) rfl [.int .i64 0, .int .u8 ja, .int .u32 k1, .int .u8 pa, .int .u32 pb, .bool pr, .int .u8 chv] hrg uE7 rfl i7 ?_)
                      | (refine wpList_stv (cs := [.int .i64 0, .int .u8 ja, .int .u32 k1, .int .u8 pa, .int .u32 pb, .bool pr, .int .u8 chv]) rfl 34 _ _ rfl wr.heap.size rfl rfl hz9 i7 (by rfl) n7 ?_))
                    have hx10 := hz9.setRow [.int .i64 0, .int .u8 ja, .int .u32 k1, .int .u8 pa, .int .u32 pb, .bool pr, .int .u8 chv]
                    have hb10 : Below wr.heap.size wr ((wr.alloc (.cells #[.int .i64 0, .int .u8 0, .int .u32 0, .int .u8 0, .int .u32 0, .bool false, .int .u8 0] 34)).setRow wr.heap.size #[.int .i64 0, .int .u8 ja, .int .u32 k1, .int .u8 pa, .int .u32 pb, .bool pr, .int .u8 chv]) := below_setRow ((Below.refl _ _).alloc (Nat.le_refl _) _) (Nat.le_refl _) _
                    refine forget (p := fun y => Code.wp _ _ _ _ y) (fun W14 => Below wr.heap.size wr W14 ∧ CellsAt W14 wr.heap.size 34 [.int .i64 0, .int .u8 ja, .int .u32 k1, .int .u8 pa, .int .u32 pb, .bool pr, .int .u8 chv]) ⟨hb10, hx10⟩ ?_
                    obtain ⟨e23, he23⟩ : ∃ q, wr.heap.size = q := ⟨_, rfl⟩
                    have hle23 : wr.heap.size ≤ e23 := Nat.le_of_eq he23
                    clear hz9 hx10 hb10 hrg hcw
                    rintro W14 ⟨hb14, hx14⟩
                    rw [he23] at hx14 ⊢
                    clear he23
                    have hins := HW.out.1.insert hb14 HOLD.out HC01.out.1 HC01.out.2 hj (by omega) HSD.out hle23 hx14
                    rw [HCH.out.1, HCH.out.2.1, HCH.out.2.2] at hins
                    have r1 : W14.rangeAt e23 1 [.int .u8 ja, .int .u32 k1] := hx14.range 1 2
                    have r3 : W14.rangeAt e23 3 [.int .u8 pa, .int .u32 pb] := hx14.range 3 2
                    have c5 : W14.cell? ⟨e23, 5, none⟩ = some (.bool pr) := hx14.cell 5
                    have c6 : W14.cell? ⟨e23, 6, none⟩ = some (.int .u8 chv) := hx14.cell 6
                    clear hx14 hb14 hle23
                    go_upto_region 33 with (first
                      | (refine wpList_ldv rfl 32 (.tmp 152) rfl e23 1 rfl [.int .u8 ja, .int .u32 k1] r1 uD rfl iJ ?_)
                      | (refine wpList_ldv rfl 32 (.tmp 154) rfl e23 3 rfl [.int .u8 pa, .int .u32 pb] r3 uD rfl iD ?_)
                      | (go_at_call 10; refine hins.mono ?_; rintro z W15 ⟨rfl, HW15⟩; clear hins))
                    clear r1 r3 c5 c6 iJ iD uD i7 n7 uE7
                    obtain ⟨⟨V2, hW15⟩, hx15⟩ := HW15
                    have hts := HW.out.2
                    clear HW
                    have hal : Below W15.heap.size W15 (W15.drew.alloc (.cells #[.int .u8 chv] 5)) := (Below.refl _ _).drew.alloc (Nat.le_refl _) _
                    have hWa := hW15.far hal
                    have hcd : ∀ W (s : ByteArray), s = ts j → CellsAt W d 43 [.string (ts 0), .string (ts 1)] → W.cell? ⟨d, j, none⟩ = some (.string s) ∧ W.frozen? ⟨d, j, none⟩ = false := fun W s hs hW => by
                      refine ⟨?_, hW.frozen j⟩
                      rw [hW.cell j, hs]
                      rcases (by omega : j = 0 ∨ j = 1) with rfl | rfl <;> rfl
                    obtain ⟨S, hS0⟩ : ∃ q, q = ts j := ⟨_, rfl⟩
                    have hsz : S.size ≤ 12 := by
                      rw [hS0, hts j hj, strOfNums_size, wordW_len]
                      unfold ccW
                      rw [if_neg (by omega), if_pos rfl]; omega
                    have hv0 : W15.drew.cell? ⟨d, j, none⟩ = some (.string S) := (hcd _ S hS0 (hW15.far (Below.refl _ _).drew).want).1
                    have hva := (hcd _ S hS0 hWa.want).1
                    have hfa := (hcd _ S hS0 hWa.want).2
                    have hva2 : (W15.alloc (.cells #[.int .u8 chv] 5)).cell? ⟨d, j, none⟩ = some (.string S) := hva
                    have hfa2 : (W15.alloc (.cells #[.int .u8 chv] 5)).frozen? ⟨d, j, none⟩ = false := hfa
                    have hc6 : W15.drew.cell? ⟨e23, 6, none⟩ = some (.int .u8 chv) := hx15.cell 6
                    have hca : (W15.drew.alloc (.cells #[.int .u8 chv] 5)).cell? ⟨e23, 6, none⟩ = some (.int .u8 chv) := (CellsAt.congr hx15 (hal.block e23 hx15.lt)).cell 6
                    have hcvb : (convert 35 9 (.slice (some ⟨W15.drew.heap.size, 0, none⟩) 1 1)).run Try.prog (W15.drew.alloc (.cells #[.int .u8 chv] 5)) = .ok (.string (strOfNums [chv])) (W15.drew.alloc (.cells #[.int .u8 chv] 5)) := conv_bytes (Holds.bytes (Holds.new W15.drew .u8 5 [chv]) rfl (by simp))
                    have hs1 : (strOfNums [chv]).size = 1 := by rw [strOfNums_size]; rfl
                    have HPUT := Veil.mk (hWa.put hj (S ++ strOfNums [chv]))
                    have HTS := Veil.mk (And.intro hts hS0)
                    obtain ⟨T1, hT1⟩ : ∃ q, strOfNums [chv] = q := ⟨_, rfl⟩
                    have HT1 := Veil.mk hT1
                    rw [hT1] at hcvb hs1 HPUT
                    have hlim : ¬ (9223372036854775807 < S.size + 1) := by omega
                    clear hcd hal hWa hW15 hx15 hts hS0 hT1
                    refine wp_region_gate (fun w' : World => w'.cell? ⟨d, j, none⟩ = some (.string S) ∧ w'.cell? ⟨e23, 6, none⟩ = some (.int .u8 chv)) 9 (by kernel_rfl) ?_
                    have hS : (fun w' : World => w'.cell? ⟨d, j, none⟩ = some (.string S) ∧ w'.cell? ⟨e23, 6, none⟩ = some (.int .u8 chv)) W15.drew := ⟨hv0, hc6⟩
                    refine wpAnyG_any (i := 0) (v := ?_) rfl (by kernel_rfl) (by kernel_rfl) (by kernel_rfl) (fun _ _ _ h => h) (by kernel_rfl) (fun _ => hS) (by kernel_rfl) ?_ ?_
                    rotate_left
                    · intro _; go_simp; try with_reducible rfl
                    simp only [Act.put, List.getElem_toArray, List.getElem_cons_succ, List.getElem_cons_zero, List.setIfInBounds_toArray, List.set_cons_zero, List.set_cons_succ]
                    refine wpAnyG_any (i := 1) (v := ?_) rfl (by kernel_rfl) (by kernel_rfl) (by kernel_rfl) (fun _ _ _ h => h) (by kernel_rfl) (fun _ => hS) (by kernel_rfl) ?_ ?_
                    rotate_left
                    · intro _; go_simp; try with_reducible rfl
                    simp only [Act.put, List.getElem_toArray, List.getElem_cons_succ, List.getElem_cons_zero, List.setIfInBounds_toArray, List.set_cons_zero, List.set_cons_succ]
                    refine wpAnyG_read (i := 2) (v := ?_) rfl (by kernel_rfl) (by kernel_rfl) (by kernel_rfl) (fun _ _ _ h => h) (by kernel_rfl) (by kernel_rfl) (by kernel_rfl) hS (by kernel_rfl) ?_ ?_
                    rotate_left
                    · intro wx hSw; go_split_ands; go_simp; try with_reducible rfl
                    simp only [Act.put, List.getElem_toArray, List.getElem_cons_succ, List.getElem_cons_zero, List.setIfInBounds_toArray, List.set_cons_zero, List.set_cons_succ]
                    refine wpAnyG_any (i := 3) (v := ?_) rfl (by kernel_rfl) (by kernel_rfl) (by kernel_rfl) (fun _ _ _ h => h) (by kernel_rfl) (fun _ => hS) (by kernel_rfl) ?_ ?_
                    rotate_left
                    · intro _; go_simp; try with_reducible rfl
                    simp only [Act.put, List.getElem_toArray, List.getElem_cons_succ, List.getElem_cons_zero, List.setIfInBounds_toArray, List.set_cons_zero, List.set_cons_succ]
                    refine wpAnyG_read (i := 4) (v := ?_) rfl (by kernel_rfl) (by kernel_rfl) (by kernel_rfl) (fun _ _ _ h => h) (by kernel_rfl) (by kernel_rfl) (by kernel_rfl) hS (by kernel_rfl) ?_ ?_
                    rotate_left
                    · intro wx hSw; go_split_ands; go_simp; try with_reducible rfl
                    simp only [Act.put, List.getElem_toArray, List.getElem_cons_succ, List.getElem_cons_zero, List.setIfInBounds_toArray, List.set_cons_zero, List.set_cons_succ]
                    refine wpAnyG_one (i := 5) rfl (by kernel_rfl) (by kernel_rfl) (fun K hK => ?_)
                    go_simp
                    replace hS : (fun w' : World => w'.cell? ⟨d, j, none⟩ = some (.string S) ∧ w'.cell? ⟨e23, 6, none⟩ = some (.int .u8 chv)) (W15.drew.alloc (.cells #[.int .u8 chv] 5)) := ⟨hva, hca⟩
                    refine hK.out _ _ (fun _ => hS) ?_
                    clear hK K
                    try simp only [Act.put, List.getElem_toArray, List.getElem_cons_succ, List.getElem_cons_zero, List.setIfInBounds_toArray, List.set_cons_zero, List.set_cons_succ]
                    refine wpAnyG_one (i := 6) rfl (by kernel_rfl) (by kernel_rfl) (fun K hK => ?_)
                    refine wpx_conv _ _ _ rfl _ _ _ rfl hcvb ?_
                    refine hK.out _ _ (fun _ => hS) ?_
                    clear hK K
                    try simp only [Act.put, List.getElem_toArray, List.getElem_cons_succ, List.getElem_cons_zero, List.setIfInBounds_toArray, List.set_cons_zero, List.set_cons_succ]
                    refine wpAnyG_any (i := 7) (v := ?_) rfl (by kernel_rfl) (by kernel_rfl) (by kernel_rfl) (fun _ _ _ h => h) (by kernel_rfl) (fun _ => hS) (by kernel_rfl) ?_ ?_
                    rotate_left
                    · intro _; go_simp; try with_reducible rfl
                    simp only [Act.put, List.getElem_toArray, List.getElem_cons_succ, List.getElem_cons_zero, List.setIfInBounds_toArray, List.set_cons_zero, List.set_cons_succ]
                    refine wpAnyG_any (i := 8) (v := ?_) rfl (by kernel_rfl) (by kernel_rfl) (by kernel_rfl) (fun _ _ _ h => h) (by kernel_rfl) (fun _ => hS) (by kernel_rfl) ?_ ?_
                    rotate_left
                    · intro _; go_simp; try with_reducible rfl
                    simp only [Act.put, List.getElem_toArray, List.getElem_cons_succ, List.getElem_cons_zero, List.setIfInBounds_toArray, List.set_cons_zero, List.set_cons_succ]
                    refine wpAnyG_one (i := 9) rfl (by kernel_rfl) (by kernel_rfl) (fun K hK => ?_)
                    clear hv0 hc6 hca hcvb
                    go_simp
                    refine hK.out _ _ (fun h => absurd (show true = false from h) (by decide)) ?_
                    clear hK K
                    try simp only [Act.put, List.getElem_toArray, List.getElem_cons_succ, List.getElem_cons_zero, List.setIfInBounds_toArray, List.set_cons_zero, List.set_cons_succ]
                    refine wpAnyG_done (by kernel_rfl) ?_ _
                    clear hS hva hfa hva2 hfa2 hlim hsz hs1
                    go_wp2_with fail
                    go_roundw
                    case rel => exact ⟨k + 1, V2, _, by push_cast; rfl, hkc, HPUT.out, fun i hi => by
                      by_cases hij : i = j
                      · subst hij
                        rw [upW_self, HTS.out.2, HTS.out.1 i hi, ← HT1.out, ← HCH.out.1]
                        have e1 : ccW c0 c1 i k i = k := by unfold ccW; rw [if_neg (by omega), if_pos rfl]
                        have e2 : ccW c0 c1 i (k + 1) i = k + 1 := by unfold ccW; rw [if_neg (by omega), if_pos rfl]
                        rw [e1, e2, word_str]
                      · rw [upW_other _ _ hij, HTS.out.1 i hi]
                        have e1 : ccW c0 c1 j k i = ccW c0 c1 j (k + 1) i := by unfold ccW; rw [if_neg hij, if_neg hij]
                        rw [e1]⟩
                    case measure => simp [intOf]; omega
                  · obtain rfl : k = cn := by omega
                    have lk : ¬ (k : Int) < (k : Int) := by omega
                    have dk : decide ((k : Int) < (k : Int)) = false := decide_eq_false lk
                    have HP := Veil.mk (And.intro hW hts)
                    clear hW hts
                    go_wp2_with fail
                    go_roundw
                    case rel => exact ⟨j + 1, V, ts, by push_cast; rfl, by omega, by rw [← MW_next, HCNE.out]; exact HP.out.1, fun i hi => by rw [HP.out.2 i hi, ← cc_next, HCNE.out]⟩
                    case measure => simp [intOf]; omega
              · obtain rfl : j = 2 := by omega
                have hW2 : Wn W1 wr R bc bn V (MgN N s0 c0 c1) c vs Ls d ss := hW
                have hMok := HOLD.out.okMg c0 (by have := HC01.out.1; omega) c1 (by have := HC01.out.2; omega)
                have hMl : (MgN N s0 c0 c1).length ≤ 100 := by rw [Mg_len]; have := HOLD.out.len; have := HC01.out.1; have := HC01.out.2; omega
                have htl := text_few hMok
                have htx := textB_any W1.heap.size R bc bn (MgN N s0 c0 c1) V hMok (by omega) wr hW2.ph.tree
                obtain ⟨ka, ha1, ha2, ha3⟩ := HOLD.out.hasW HC01.out.1 HC01.out.2 (show 0 < 2 by omega)
                obtain ⟨kb, hb1, hb2, hb3⟩ := HOLD.out.hasW HC01.out.1 HC01.out.2 (show 1 < 2 by omega)
                have hs0 : ss 0 = strOfNums (wordW 0 (cntW c0 c1 0)) := hss 0 (by omega)
                have hs1 : ss 1 = strOfNums (wordW 1 (cntW c0 c1 1)) := hss 1 (by omega)
                rw [← hs0] at ha1 ha3
                rw [← hs1] at hb1 hb3
                have hz : (strOfNums (textN (MgN N s0 c0 c1))).size = (textN (MgN N s0 c0 c1)).length := strOfNums_size _
                have HH : Veil (∀ W, (Calls Try.prog 11 #[.string (strOfNums (textN (MgN N s0 c0 c1))), .string (ss 0)] W fun r w' => r = .returned (.bool true) ∧ Below W.heap.size W w') ∧ (Calls Try.prog 11 #[.string (strOfNums (textN (MgN N s0 c0 c1))), .string (ss 1)] W fun r w' => r = .returned (.bool true) ∧ Below W.heap.size W w')) := ⟨fun W => ⟨has_any _ _ ka _ _ ha1 hz ha2 ha3 (by omega) W, has_any _ _ kb _ _ hb1 hz hb2 hb3 (by omega) W⟩⟩
                have HCV : Veil (∀ w' v, OwnB w' wr.heap.size v (textN (MgN N s0 c0 c1)) → (convert 35 9 v).run Try.prog w' = .ok (.string (strOfNums (textN (MgN N s0 c0 c1)))) w') := ⟨fun w' v h => by
                  obtain ⟨y, n, cc, rfl, -⟩ := h.isSlice
                  exact conv_bytes h.bytes.2⟩
                have HB : Veil (Below w.heap.size w wr) := ⟨HBW.out.trans (hW2.ph.below.mono HBW.out.size)⟩
                have hwa : ∀ W, Below wr.heap.size wr W → W.cell? ⟨d, 0, none⟩ = some (.string (ss 0)) ∧ W.cell? ⟨d, 1, none⟩ = some (.string (ss 1)) := fun W hb => ⟨(hW2.far hb).want.cell 0, (hW2.far hb).want.cell 1⟩
                have HWA := Veil.mk hwa
                generalize textN (MgN N s0 c0 c1) = TX at htx HH HCV
                generalize strOfNums TX = TS at HH HCV
                generalize ss 0 = S0 at HH HWA
                generalize ss 1 = S1 at HH HWA
                clear hMok hMl htl ha1 ha2 ha3 hb1 hb2 hb3 hs0 hs1 hz hwa hW hW2 hss HOLD HC01 HCN
                go_upto_region 35 with (go_at_call 7; refine htx.mono ?_; rintro z W16 ⟨tv, rfl, hown, hb16⟩; have hcv := HCV.out _ _ hown; clear htx hown)
                have hwc := HWA.out _ hb16
                have hh1 := (HH.out W16).1
                have HB16 := Veil.mk hb16
                clear hcv hb16
                go_split_ands
                go_wp2_with (first
                  | (go_at_call 11; refine hh2.mono ?_; rintro z W18 ⟨rfl, hb18⟩; clear hh2)
                  | (go_at_call 11; refine hh1.mono ?_; rintro z W17 ⟨rfl, hb17⟩; have hwc := HWA.out _ (HB16.out.trans (hb17.mono HB16.out.size)); obtain ⟨hwc0, hwc1⟩ := hwc; have hh2 := (HH.out W17).2; clear hh1))
                go_ret
                exact ⟨rfl, HB.out.trans ((HB16.out.trans ((hb17.trans (hb18.mono hb17.size)).mono HB16.out.size)).mono HB.out.size)⟩
      · have l1 : (i : Int) < (len : Int) := by omega
        have d1 : decide ((i : Int) < (len : Int)) = true := decide_eq_true l1
        have l2 : ¬ (i : Int) < 60 := by omega
        have d2 : decide ((i : Int) < 60) = false := decide_eq_false l2
        have hold : ∀ n ∈ N, n.id.1 < 6 := fun n hn => by
          obtain ⟨j, hj60, hjL, e⟩ := HIDS.out n hn
          rw [e]
          exact hlow j hjL (by have := HLE.out; omega)
        have htxl : (textN N).length = (wrN N).length := by unfold textN; rw [List.length_map]
        have hwl : (wrN N).length ≤ nl := by
          unfold wrN
          have h1 := List.length_filter_le (writB N) (walkA N rootS)
          rw [HOK.out.len] at h1
          have := HNL.out; omega
        obtain ⟨tl, htl⟩ : ∃ q, (wrN N).length = q := ⟨_, rfl⟩
        rw [htl] at htxl hwl
        obtain ⟨t, htm, hat⟩ : ∃ t : Nat, iv.tmod ((tl : Int) + 1) = (t : Int) ∧ t ≤ tl := by
          refine ⟨(iv % ((tl : Int) + 1)).toNat, ?_, ?_⟩
          · rw [Int.tmod_eq_emod_of_nonneg hiv.1, Int.toNat_of_nonneg (Int.emod_nonneg _ (by omega))]
          · have := Int.emod_lt_of_pos iv (show (0 : Int) < (tl : Int) + 1 by omega)
            have := Int.emod_nonneg iv (show ((tl : Int) + 1) ≠ 0 by omega)
            omega
        have htm2 : iv % ((tl : Int) + 1) = (t : Int) := by rw [← htm, Int.tmod_eq_emod_of_nonneg hiv.1]
        have hwi : IntKind.i64.wrap iv = iv := by rw [IntKind.wrap_i64]; omega
        have hwn : IntKind.i64.wrap ((tl : Int) + 1) = (tl : Int) + 1 := by rw [IntKind.wrap_i64]; omega
        have hnz : ¬ ((tl : Int) + 1 = 0) := by omega
        have HOLD := Veil.mk (Old.place HOK.out (by have := HNL.out; omega) hold (k := t) (by rw [htl]; exact hat))
        have HFW : Veil (∀ j, j < 2 → ∀ k, k < 12 → Fwd N (sideN N t) t j k) := ⟨fun j hj k hk => HOLD.out.fwd (by rw [htl]; exact hat) hj k hk⟩
        have htx := textB_any W1.heap.size R bc bn N V HOK.out (by have := HNL.out; omega) wr (HT3.out.1.far hbr)
        have HBR : Veil (Below W4.heap.size W4 wr) := ⟨hbr⟩
        have HTL := Veil.mk htxl
        have htb : t ≤ 60 := by omega
        generalize sideN N t = s0 at HOLD HFW
        clear hold htxl htl hbr hlow HIDS HLE HL
        go_upto_region 11 with (go_at_call 7; refine htx.mono ?_; rintro z W5 ⟨tv, rfl, hown, hb5⟩; obtain ⟨tx, tn, tc, rfl, htn⟩ := hown.isSlice; obtain rfl : tn = tl := htn.trans HTL.out; clear htx hown htn)
        have hz5 := CellsAt.new W5 37 [.slice none 0 0, .slice none 0 0]
        have hT5 : Below W4.heap.size W4 W5 := HBR.out.trans (hb5.mono HBR.out.size)
        refine forget (p := fun y => Code.wp _ _ _ _ y) (fun W6 => Ph W1 W6 R bc bn V N W5.heap.size (fun _ => .slice none 0 0) (fun _ => [])) (Ph.made (HT3.out.1.far hT5) HT3.out.2.1 (HT3.out.2.2.trans (hT5.mono HT3.out.2.2.size)) ((Below.refl _ _).alloc (Nat.le_refl _) _) hz5 (Nat.le_refl _)) ?_
        generalize W5.heap.size = c
        clear hz5 hT5 hb5 HBR HT3 HTL hwi hwn hnz htm htm2 hwl
        rintro W6 hPh6
        obtain ⟨c0, hc0, hc0b⟩ : ∃ q : Nat, n0.tmod 12 = (q : Int) ∧ q < 12 := ⟨(n0 % 12).toNat, by rw [Int.tmod_eq_emod_of_nonneg hn0.1]; omega, by omega⟩
        obtain ⟨c1, hc1, hc1b⟩ : ∃ q : Nat, n1.tmod 12 = (q : Int) ∧ q < 12 := ⟨(n1 % 12).toNat, by rw [Int.tmod_eq_emod_of_nonneg hn1.1]; omega, by omega⟩
        have HCN : Veil (∀ j, j < 2 → cntW c0 c1 j < 12 ∧ ∃ nb : Int, 0 ≤ nb ∧ nb ≤ 255 ∧ nb.tmod 12 = ((cntW c0 c1 j : Nat) : Int) ∧ ∀ W, Below W1.heap.size W1 W → W.cell? ⟨b5, j, none⟩ = some (.int .u8 nb)) := ⟨fun j hj => by
          have hcell : ∀ W, Below W1.heap.size W1 W → Holds W b5 .u8 23 [n0, n1] := fun W hb => (hb.block b5 (Array.getElem?_eq_some_iff.1 HBX.out).1).trans HBX.out
          rcases (by omega : j = 0 ∨ j = 1) with rfl | rfl
          · exact ⟨hc0b, n0, hn0.1, hn0.2, hc0, fun W hb => (hcell W hb).cell 0 (by simp)⟩
          · exact ⟨hc1b, n1, hn1.1, hn1.2, hc1, fun W hb => (hcell W hb).cell 1 (by simp)⟩⟩
        clear hc0 hc1 hc0b hc1b hn0 hn1 hiv HBX
        go_wp2_with fail
        go_loopw [13, 14, 15, 16, 17, 18, 19] (fun wv _ _ _ _ _ _ wr => ∃ (j : Nat) (vs : Nat → Value) (Ls : Nat → List (List Value)), wv = .int .i64 (j : Nat) ∧ j ≤ 2 ∧ Ph W1 wr R bc bn V N c vs Ls ∧ ∀ i, i < 2 → Ls i = if i < j then wlW s0 i (cntW c0 c1 i) else []) (fun wv _ _ _ _ _ _ _ => 2 - (intOf wv).toNat)
        case atStart => exact ⟨0, _, _, rfl, by omega, hPh6, fun i _ => by rw [if_neg (by omega)]⟩
        case round =>
          clear hPh6
          obtain ⟨j, vs, Ls, rfl, hj2, hPh, hLs⟩ := hrel
          by_cases hj : j < 2
          · have lj : (j : Int) < 2 := by omega
            have dj : decide ((j : Int) < 2) = true := by simp; omega
            have hj0 : (0 : Int) ≤ (j : Int) := by omega
            have hjw : IntKind.i64.wrap ((j : Int) + 1) = (j : Int) + 1 := by rw [IntKind.wrap_i64]; omega
            have hfk := forkT_any W1.heap.size R bc bn N V (by have := HNL.out; omega) wr hPh.tree
            go_upto_region 15 with (go_at_call 8; refine hfk.mono ?_; rintro z W7 ⟨R', bc', bn', U, rfl, hT7, hb7, hB7⟩; clear hfk)
            have hFk7 : FkS W1 W7 R bc bn V N c vs Ls R' bc' bn' U (FkN N s0 j 0) := by rw [Fk_zero]; exact FkS.made hPh hT7 hb7 hB7
            have HLS := Veil.mk hLs
            clear hPh hT7 hb7 hB7 hLs
            go_wp2_with fail
            go_loopw [15, 16, 17, 18, 19] (fun kv _ _ _ _ wr => ∃ (k : Nat) (us : Nat → Value) (Ks : Nat → List (List Value)) (U : (Int × Int) × Bool → Value), kv = .int .i64 (k : Nat) ∧ k ≤ cntW c0 c1 j ∧ FkS W1 wr R bc bn V N c us Ks R' bc' bn' U (FkN N s0 j k) ∧ ∀ i, i < 2 → Ks i = if i = j then wlW s0 j k else if i < j then wlW s0 i (cntW c0 c1 i) else []) (fun kv _ _ _ _ _ => cntW c0 c1 j - (intOf kv).toNat)
            case atStart => exact ⟨0, _, _, _, rfl, Nat.zero_le _, hFk7, fun i hi => by
              rw [HLS.out i hi]
              by_cases hij : i = j
              · rw [if_pos hij, if_neg (by omega)]; rfl
              · rw [if_neg hij]⟩
            case round =>
              clear hFk7
              obtain ⟨k, us, Ks, U, rfl, hk, hFk, hKs⟩ := hrel
              obtain ⟨hc12, nb, hnb0, hnb1, hnbt, hnbc⟩ := HCN.out j hj
              have hcb := hnbc wr hFk.ph.below
              have hwb : IntKind.i64.wrap nb = nb := by rw [IntKind.wrap_i64]; omega
              obtain ⟨cn, hcn⟩ : ∃ q, cntW c0 c1 j = q := ⟨_, rfl⟩
              rw [hcn] at hk hc12 hnbt
              have HCNE := Veil.mk hcn
              clear hcn hnbc
              by_cases hkc : k < cn
              · have lk : (k : Int) < (cn : Int) := by omega
                have dk : decide ((k : Int) < (cn : Int)) = true := by simp; omega
                have hk0 : (0 : Int) ≤ (k : Int) := by omega
                have hkw : IntKind.i64.wrap ((k : Int) + 1) = (k : Int) + 1 := by rw [IntKind.wrap_i64]; omega
                have hpl := placeT_any W1.heap.size R' bc' bn' (FkN N s0 j k) U (HOLD.out.okFk j (by omega)) (by rw [Fk_len]; have := HNL.out; omega) ((t + k : Nat) : Int) (by omega) wr hFk.ft
                rw [(HFW.out j hj k (by omega)).place] at hpl
                obtain ⟨tk, htk⟩ : ∃ q, t + k = q := ⟨_, rfl⟩
                have hwA : IntKind.i64.wrap ((t : Int) + (k : Int)) = (tk : Int) := by rw [IntKind.wrap_i64]; omega
                rw [htk] at hpl
                clear htk
                obtain ⟨SD, hSD⟩ : ∃ q, (ndR s0 j k).side = q := ⟨_, rfl⟩
                obtain ⟨⟨pa, pb⟩, pr⟩ := SD
                rw [hSD] at hpl
                have HSD := Veil.mk hSD
                have HFK := Veil.mk (And.intro hFk hKs)
                simp only [encF, dotC] at hpl
                clear hFk hKs hSD
                have iD : (Try.prog.info? 32).map (·.size) = some [Value.int .u8 pa, Value.int .u32 pb].length := sizeDot
                have nD : ∀ v ∈ [Value.int .u8 pa, Value.int .u32 pb], v.oneCell' = true := by simp [Value.oneCell']
                go_upto_region 19 with (first
                  | (go_at_call 9; refine hpl.mono ?_; rintro z W8 ⟨rfl, hb8⟩; have hz8 := CellsAt.new W8 32 [.int .u8 0, .int .u32 0]; clear hpl)
                  | (refine wpList_stv (cs := [.int .u8 pa, .int .u32 pb]) rfl 32 _ _ rfl W8.heap.size rfl rfl hz8 iD (by rfl) nD ?_))
                have hz9 := hz8.setRow [.int .u8 pa, .int .u32 pb]
                have hb9 : Below W8.heap.size W8 ((W8.alloc (.cells #[.int .u8 0, .int .u32 0] 32)).setRow W8.heap.size #[.int .u8 pa, .int .u32 pb]) := below_setRow ((Below.refl _ _).alloc (Nat.le_refl _) _) (Nat.le_refl _) _
                refine forget (p := fun y => Code.wp _ _ _ _ y) (fun W9 => Below wr.heap.size wr W9 ∧ CellsAt W9 W8.heap.size 32 [.int .u8 pa, .int .u32 pb]) ⟨hb8.trans (hb9.mono hb8.size), hz9⟩ ?_
                generalize W8.heap.size = e16
                clear hz8 hz9 hb9 hb8 W8
                rintro W9 ⟨hb9, hx9⟩
                have hr9 := hx9.wholeM
                have uD := Try.underlying32
                have hd7 : dW s0 j k = [.int .i64 0, .int .u8 ((j : Int) + 6), .int .u32 ((k : Int) + 1), .int .u8 pa, .int .u32 pb, .bool pr, .int .u8 (chW j k)] := by
                  unfold dW
                  rw [HSD.out]
                  rfl
                obtain ⟨chv, hchv⟩ : ∃ q, chW j k = q := ⟨_, rfl⟩
                have hcv : chv = 65 + 32 * (j : Int) + (k : Int) := by rw [← hchv]; rfl
                rw [hchv] at hd7
                obtain ⟨ja, hja⟩ : ∃ q : Int, (j : Int) + 6 = q := ⟨_, rfl⟩
                obtain ⟨k1, hk1⟩ : ∃ q : Int, (k : Int) + 1 = q := ⟨_, rfl⟩
                have hw6 : IntKind.i64.wrap (6 + (j : Int)) = ja := by rw [IntKind.wrap_i64]; omega
                have hu6 : IntKind.u8.wrap ja = ja := by rw [IntKind.wrap_u8]; omega
                have hkw1 : IntKind.i64.wrap ((k : Int) + 1) = k1 := by rw [IntKind.wrap_i64]; omega
                have hku : IntKind.u32.wrap k1 = k1 := by rw [IntKind.wrap_u32]; omega
                obtain ⟨j32, hj32⟩ : ∃ q : Int, 32 * (j : Int) = q := ⟨_, rfl⟩
                have hw32 : IntKind.i64.wrap (32 * (j : Int)) = j32 := by rw [IntKind.wrap_i64]; omega
                obtain ⟨j65, hj65⟩ : ∃ q : Int, 65 + j32 = q := ⟨_, rfl⟩
                have hw65 : IntKind.i64.wrap (65 + j32) = j65 := by rw [IntKind.wrap_i64]; omega
                have hwc : IntKind.i64.wrap (j65 + (k : Int)) = chv := by rw [IntKind.wrap_i64]; omega
                have huc : IntKind.u8.wrap chv = chv := by rw [IntKind.wrap_u8]; omega
                rw [hja, hk1] at hd7
                have HCH := Veil.mk (And.intro hchv (And.intro hja hk1))
                have HD7 := Veil.mk hd7
                have i7 : (Try.prog.info? 34).map (·.size) = some [Value.int .i64 0, .int .u8 ja, .int .u32 k1, .int .u8 pa, .int .u32 pb, .bool pr, .int .u8 chv].length := by kernel_rfl
                have n7 : ∀ v ∈ [Value.int .i64 0, .int .u8 ja, .int .u32 k1, .int .u8 pa, .int .u32 pb, .bool pr, .int .u8 chv], v.oneCell' = true := by simp [Value.oneCell']
                have hz9 := CellsAt.new W9 34 [.int .i64 0, .int .u8 0, .int .u32 0, .int .u8 0, .int .u32 0, .bool false, .int .u8 0]
                have hkwk := hkw
                clear hchv hja hk1 hj32 hj65 hd7 hcv hkw
                go_upto_region 20 with (first
                  | (refine wpList_ldv rfl 32 _ rfl e16 0 rfl [.int .u8 pa, .int .u32 pb] hr9 uD rfl iD ?_)
                  | (refine wpList_stv (cs := [.int .i64 0, .int .u8 ja, .int .u32 k1, .int .u8 pa, .int .u32 pb, .bool pr, .int .u8 chv]) rfl 34 _ _ rfl W9.heap.size rfl rfl hz9 i7 (by rfl) n7 ?_))
                have hx10 := hz9.setRow [.int .i64 0, .int .u8 ja, .int .u32 k1, .int .u8 pa, .int .u32 pb, .bool pr, .int .u8 chv]
                have hb10 : Below W9.heap.size W9 ((W9.alloc (.cells #[.int .i64 0, .int .u8 0, .int .u32 0, .int .u8 0, .int .u32 0, .bool false, .int .u8 0] 34)).setRow W9.heap.size #[.int .i64 0, .int .u8 ja, .int .u32 k1, .int .u8 pa, .int .u32 pb, .bool pr, .int .u8 chv]) := below_setRow ((Below.refl _ _).alloc (Nat.le_refl _) _) (Nat.le_refl _) _
                have hsz9 : wr.heap.size ≤ W9.heap.size := hb9.size
                refine forget (p := fun y => Code.wp _ _ _ _ y) (fun W10 => Below wr.heap.size wr W10 ∧ CellsAt W10 W9.heap.size 34 [.int .i64 0, .int .u8 ja, .int .u32 k1, .int .u8 pa, .int .u32 pb, .bool pr, .int .u8 chv]) ⟨hb9.trans (hb10.mono hb9.size), hx10⟩ ?_
                generalize W9.heap.size = e19 at hsz9 ⊢
                clear hz9 hx10 hb10 hb9 hx9 hr9 hcb hw6 hu6 hkw1 hku hw32 hw65 hwc huc W9
                rintro W10 ⟨hb10, hx10⟩
                have hins := HFK.out.1.insert hb10 HOLD.out hj (by omega) HSD.out hsz9 hx10
                rw [HCH.out.1, HCH.out.2.1, HCH.out.2.2] at hins
                have r1 : W10.rangeAt e19 1 [.int .u8 ja, .int .u32 k1] := hx10.range 1 2
                have r3 : W10.rangeAt e19 3 [.int .u8 pa, .int .u32 pb] := hx10.range 3 2
                have c5 : W10.cell? ⟨e19, 5, none⟩ = some (.bool pr) := hx10.cell 5
                have c6 : W10.cell? ⟨e19, 6, none⟩ = some (.int .u8 chv) := hx10.cell 6
                have iJ : (Try.prog.info? 32).map (·.size) = some [Value.int .u8 ja, .int .u32 k1].length := sizeDot
                clear hx10 hb10
                go_upto_region 22 with (first
                  | (refine wpList_ldgv (by kernel_rfl) 32 (.tmp 114) rfl e19 1 rfl [.int .u8 ja, .int .u32 k1] r1 uD rfl iJ ?_)
                  | (refine wpList_ldgv (by kernel_rfl) 32 (.tmp 116) rfl e19 3 rfl [.int .u8 pa, .int .u32 pb] r3 uD rfl iD ?_)
                  | (go_at_call 10; refine hins.mono ?_; rintro z W11 ⟨rfl, HF11⟩; clear hins))
                have hne19 : (us j).ownBlock ≠ some e19 := fun q => by have := ((HFK.out.1.ph.own j hj).blockLt e19 q).1; omega
                clear r1 r3 c5 c6 iJ iD nD uD hsz9
                obtain ⟨⟨U2, hF11⟩, hx11⟩ := HF11
                have hKs := HFK.out.2
                clear HFK
                have hFd := hF11.far (Below.refl _ _).drew
                have hxd : CellsAt W11.drew e19 34 [.int .i64 0, .int .u8 ja, .int .u32 k1, .int .u8 pa, .int .u32 pb, .bool pr, .int .u8 chv] := hx11
                have hKj : Ks j = wlW s0 j k := by rw [hKs j hj, if_pos rfl]
                have hoj := hFd.ph.own j hj
                obtain ⟨ux, uc, hu⟩ := hoj.isSlice
                have hKl : (Ks j).length = k := by rw [hKj, wlW_len]
                rw [hKl] at hu
                obtain ⟨x4, c4, W12, hrun, ho, ht, hn⟩ := hoj.push 22 Try.underlying22 infoDeed7 rfl (by decide) [.int .i64 0, .int .u8 ja, .int .u32 k1, .int .u8 pa, .int .u32 pb, .bool pr, .int .u8 chv] rfl n7 (by rw [hKl]; omega) (by decide) hFd.ph.below.size
                rw [hKl] at hrun ho hn
                have hPU := hFd.push hj ho ht hn
                rw [hu] at hrun
                have hwd := hFd.ph.words
                have hwd12 := hwd.congr (ht.block c hwd.lt fun q => (hFd.ph.tw j hj c q).2 rfl)
                have hcell : ∀ W, CellsAt W c 37 [us 0, us 1] → W.cell? ⟨c, j, none⟩ = some (.slice ux k uc) ∧ W.frozen? ⟨c, j, none⟩ = false := fun W hW => by
                  refine ⟨?_, hW.frozen j⟩
                  rw [hW.cell j, ← hu]
                  rcases (by omega : j = 0 ∨ j = 1) with rfl | rfl <;> rfl
                have hv0 := (hcell _ hwd).1
                have hva := (hcell _ (hwd.alloc (.cells ([.int .i64 0, .int .u8 ja, .int .u32 k1, .int .u8 pa, .int .u32 pb, .bool pr, .int .u8 chv] : List Value).toArray 34))).1
                have hv12 := (hcell _ hwd12).1
                have hf12 := (hcell _ hwd12).2
                have hra := (hxd.alloc (.cells ([.int .i64 0, .int .u8 ja, .int .u32 k1, .int .u8 pa, .int .u32 pb, .bool pr, .int .u8 chv] : List Value).toArray 34)).wholeM
                have hr0 := hxd.wholeM
                have hr12 := (hxd.congr (ht.block e19 hxd.lt fun q => hne19 q)).wholeM
                have uE7 := Try.underlying34
                have uS7 := Try.underlying22
                have HKS := Veil.mk (And.intro hKs hKj)
                have HPU := Veil.mk hPU
                clear hwd hwd12 hcell hFd hF11 hxd hx11 hoj ho ht hn hKs hKj hKl hPU hu hne19
                refine wp_region_gate (fun w' : World => w'.cell? ⟨c, j, none⟩ = some (.slice ux k uc) ∧ w'.rangeAt e19 0 [.int .i64 0, .int .u8 ja, .int .u32 k1, .int .u8 pa, .int .u32 pb, .bool pr, .int .u8 chv]) 8 (by kernel_rfl) ?_
                have hS : (fun w' : World => w'.cell? ⟨c, j, none⟩ = some (.slice ux k uc) ∧ w'.rangeAt e19 0 [.int .i64 0, .int .u8 ja, .int .u32 k1, .int .u8 pa, .int .u32 pb, .bool pr, .int .u8 chv]) W11.drew := ⟨hv0, hr0⟩
                refine wpAnyG_any (i := 0) (v := ?_) rfl (by kernel_rfl) (by kernel_rfl) (by kernel_rfl) (fun _ _ _ h => h) (by kernel_rfl) (fun _ => hS) (by kernel_rfl) ?_ ?_
                rotate_left
                · intro _; go_simp; try with_reducible rfl
                simp only [Act.put, List.getElem_toArray, List.getElem_cons_succ, List.getElem_cons_zero, List.setIfInBounds_toArray, List.set_cons_zero, List.set_cons_succ]
                refine wpAnyG_any (i := 1) (v := ?_) rfl (by kernel_rfl) (by kernel_rfl) (by kernel_rfl) (fun _ _ _ h => h) (by kernel_rfl) (fun _ => hS) (by kernel_rfl) ?_ ?_
                rotate_left
                · intro _; go_simp; try with_reducible rfl
                simp only [Act.put, List.getElem_toArray, List.getElem_cons_succ, List.getElem_cons_zero, List.setIfInBounds_toArray, List.set_cons_zero, List.set_cons_succ]
                refine wpAnyG_any (i := 2) (v := ?_) rfl (by kernel_rfl) (by kernel_rfl) (by kernel_rfl) (fun _ _ _ h => h) (by kernel_rfl) (fun _ => hS) (by kernel_rfl) ?_ ?_
                rotate_left
                · intro _; go_simp; try with_reducible rfl
                simp only [Act.put, List.getElem_toArray, List.getElem_cons_succ, List.getElem_cons_zero, List.setIfInBounds_toArray, List.set_cons_zero, List.set_cons_succ]
                refine wpAnyG_read (i := 3) (v := ?_) rfl (by kernel_rfl) (by kernel_rfl) (by kernel_rfl) (fun _ _ _ h => h) (by kernel_rfl) (by kernel_rfl) (by kernel_rfl) hS (by kernel_rfl) ?_ ?_
                rotate_left
                · intro wx hSw; go_split_ands; go_simp; try with_reducible rfl
                simp only [Act.put, List.getElem_toArray, List.getElem_cons_succ, List.getElem_cons_zero, List.setIfInBounds_toArray, List.set_cons_zero, List.set_cons_succ]
                refine wpAnyG_load (i := 4) (dst := some 129) (ty := 34) (x := .tmp 19) (b := e19) (o := (0)) (cs := [.int .i64 0, .int .u8 ja, .int .u32 k1, .int .u8 pa, .int .u32 pb, .bool pr, .int .u8 chv]) (by kernel_rfl) (by kernel_rfl) (by kernel_rfl) (by kernel_rfl) (by kernel_rfl) (fun _ _ _ h => h) (by kernel_rfl) (by kernel_rfl) (by kernel_rfl) hS (by kernel_rfl) (fun _ h => h.2) uE7 rfl i7 ?_
                simp only [Act.put, List.getElem_toArray, List.getElem_cons_succ, List.getElem_cons_zero, List.setIfInBounds_toArray, List.set_cons_zero, List.set_cons_succ]
                refine wpAnyG_one (i := 5) rfl (by kernel_rfl) (by kernel_rfl) (fun K hK => ?_)
                refine wp_bs1 22 34 _ rfl [.int .i64 0, .int .u8 ja, .int .u32 k1, .int .u8 pa, .int .u32 pb, .bool pr, .int .u8 chv] rfl uS7 infoDeed7 (by decide) (by decide) rfl ?_
                replace hS : (fun w' : World => w'.cell? ⟨c, j, none⟩ = some (.slice ux k uc) ∧ w'.rangeAt e19 0 [.int .i64 0, .int .u8 ja, .int .u32 k1, .int .u8 pa, .int .u32 pb, .bool pr, .int .u8 chv]) (W11.drew.alloc (.cells ([.int .i64 0, .int .u8 ja, .int .u32 k1, .int .u8 pa, .int .u32 pb, .bool pr, .int .u8 chv] : List Value).toArray 34)) := ⟨hva, hra⟩
                refine hK.out _ _ (fun _ => hS) ?_
                clear hK K
                try simp only [Act.put, List.getElem_toArray, List.getElem_cons_succ, List.getElem_cons_zero, List.setIfInBounds_toArray, List.set_cons_zero, List.set_cons_succ]
                refine wpAnyG_one (i := 6) rfl (by kernel_rfl) (by kernel_rfl) (fun K hK => ?_)
                refine wpx_app _ _ 22 22 rfl _ _ _ W12 rfl rfl hrun ?_
                replace hS : (fun w' : World => w'.cell? ⟨c, j, none⟩ = some (.slice ux k uc) ∧ w'.rangeAt e19 0 [.int .i64 0, .int .u8 ja, .int .u32 k1, .int .u8 pa, .int .u32 pb, .bool pr, .int .u8 chv]) W12 := ⟨hv12, hr12⟩
                refine hK.out _ _ (fun _ => hS) ?_
                clear hK K
                try simp only [Act.put, List.getElem_toArray, List.getElem_cons_succ, List.getElem_cons_zero, List.setIfInBounds_toArray, List.set_cons_zero, List.set_cons_succ]
                refine wpAnyG_any (i := 7) (v := ?_) rfl (by kernel_rfl) (by kernel_rfl) (by kernel_rfl) (fun _ _ _ h => h) (by kernel_rfl) (fun _ => hS) (by kernel_rfl) ?_ ?_
                rotate_left
                · intro _; go_simp; try with_reducible rfl
                simp only [Act.put, List.getElem_toArray, List.getElem_cons_succ, List.getElem_cons_zero, List.setIfInBounds_toArray, List.set_cons_zero, List.set_cons_succ]
                refine wpAnyG_one (i := 8) rfl (by kernel_rfl) (by kernel_rfl) (fun K hK => ?_)
                clear hv0 hva hra hr0 hr12 hrun
                go_simp
                refine hK.out _ _ (fun h => absurd (show true = false from h) (by decide)) ?_
                clear hK K
                try simp only [Act.put, List.getElem_toArray, List.getElem_cons_succ, List.getElem_cons_zero, List.setIfInBounds_toArray, List.set_cons_zero, List.set_cons_succ]
                refine wpAnyG_done (by kernel_rfl) ?_ _
                clear hS hv12 hf12
                go_wp2_with fail
                go_roundw
                case rel => exact ⟨k + 1, _, _, U2, by push_cast; rfl, by rw [HCNE.out]; exact hkc, HPU.out, fun i hi => by
                  by_cases hij : i = j
                  · subst hij
                    rw [if_pos rfl, upW_self, HKS.out.2, wlW_next, HD7.out]
                  · rw [if_neg hij, upW_other _ _ hij, HKS.out.1 i hi, if_neg hij]⟩
                case measure => have := HCNE.out; simp [intOf]; omega
              · obtain rfl : k = cn := by omega
                have lk : ¬ (k : Int) < (k : Int) := by omega
                have dk : decide ((k : Int) < (k : Int)) = false := decide_eq_false lk
                have HP := Veil.mk (And.intro hFk.ph hKs)
                clear hFk hKs
                go_wp2_with fail
                go_roundw
                case rel => exact ⟨j + 1, us, Ks, by push_cast; rfl, by omega, HP.out.1, fun i hi => by
                  rw [HP.out.2 i hi]
                  by_cases hij : i = j
                  · subst hij
                    rw [if_pos rfl, if_pos (by omega), HCNE.out]
                  · rw [if_neg hij]
                    by_cases h2 : i < j
                    · rw [if_pos h2, if_pos (by omega)]
                    · rw [if_neg h2, if_neg (by omega)]⟩
                case measure => simp [intOf]; omega
          · obtain rfl : j = 2 := by omega
            rw [show ((2 : Nat) : Int) = 2 from rfl]
            have HL2 : Veil (∀ i, i < 2 → Ls i = wlW s0 i (cntW c0 c1 i)) := ⟨fun i hi => by rw [hLs i hi, if_pos hi]⟩
            clear hLs
            go_upto_region 24 with fail
            have HW0 : Wn W1 (wr.alloc (.cells #[.string ⟨#[]⟩, .string ⟨#[]⟩] 43)) R bc bn V (MW N s0 c0 c1 0 0) c vs Ls wr.heap.size (fun i => strOfNums (wordW i (ccW c0 c1 0 0 i))) := by
              rw [MW_zero]
              exact Wn.made hPh ((Below.refl _ _).alloc (Nat.le_refl _) _) (CellsAt.new wr 43 [.string ⟨#[]⟩, .string ⟨#[]⟩]) (Nat.le_refl _)
            refine forget (p := fun y => Code.wp _ _ _ _ y) (fun W13 => Wn W1 W13 R bc bn V (MW N s0 c0 c1 0 0) c vs Ls wr.heap.size (fun i => strOfNums (wordW i (ccW c0 c1 0 0 i)))) HW0 ?_
            generalize wr.heap.size = d
            clear HW0 hPh HFW
            rintro W13 hW13
            have hc0 : c0 < 12 := (HCN.out 0 (by omega)).1
            have hc1 : c1 < 12 := (HCN.out 1 (by omega)).1
            have HC01 := Veil.mk (And.intro hc0 hc1)
            clear hc0 hc1
            go_wp2_with fail
            go_loopw [21, 22, 23] (fun wv _ _ wr => ∃ (j : Nat) (V : (Int × Int) × Bool → Value) (ss : Nat → ByteArray), wv = .int .i64 (j : Nat) ∧ j ≤ 2 ∧ Wn W1 wr R bc bn V (MW N s0 c0 c1 j 0) c vs Ls d ss ∧ ∀ i, i < 2 → ss i = strOfNums (wordW i (ccW c0 c1 j 0 i))) (fun wv _ _ _ => 2 - (intOf wv).toNat)
            case atStart => exact ⟨0, _, _, rfl, by omega, hW13, fun i _ => rfl⟩
            case round =>
              clear hW13
              obtain ⟨j, V, ss, rfl, hj2, hW, hss⟩ := hrel
              by_cases hj : j < 2
              · have lj : (j : Int) < 2 := by omega
                have dj : decide ((j : Int) < 2) = true := by simp; omega
                have hj0 : (0 : Int) ≤ (j : Int) := by omega
                have hjw : IntKind.i64.wrap ((j : Int) + 1) = (j : Int) + 1 := by rw [IntKind.wrap_i64]; omega
                have hc12 := (HCN.out j hj).1
                have HLj := Veil.mk (HL2.out j hj)
                obtain ⟨cn, hcn⟩ : ∃ q, cntW c0 c1 j = q := ⟨_, rfl⟩
                rw [hcn] at hc12 HLj
                have HCNE := Veil.mk hcn
                obtain ⟨vx, vc, hvs⟩ := (hW.ph.own j hj).isSlice
                rw [HLj.out, wlW_len] at hvs
                have HVS := Veil.mk hvs
                clear hcn hvs
                go_wp2_with fail
                go_loopw [22, 23] (fun kv _ wr => ∃ (k : Nat) (V : (Int × Int) × Bool → Value) (ts : Nat → ByteArray), kv = .int .i64 (k : Nat) ∧ k ≤ cn ∧ Wn W1 wr R bc bn V (MW N s0 c0 c1 j k) c vs Ls d ts ∧ ∀ i, i < 2 → ts i = strOfNums (wordW i (ccW c0 c1 j k i))) (fun kv _ _ => cn - (intOf kv).toNat)
                case atStart => exact ⟨0, V, ss, rfl, Nat.zero_le _, hW, hss⟩
                case round =>
                  clear hW hss
                  obtain ⟨k, V, ts, rfl, hk, hW, hts⟩ := hrel
                  have hcw : wr.cell? ⟨c, j, none⟩ = some (.slice vx cn vc) := by
                    rw [hW.ph.words.cell j, ← HVS.out]
                    rcases (by omega : j = 0 ∨ j = 1) with rfl | rfl <;> rfl
                  by_cases hkc : k < cn
                  · have lk : (k : Int) < (cn : Int) := by omega
                    have dk : decide ((k : Int) < (cn : Int)) = true := decide_eq_true lk
                    have hk0 : (0 : Int) ≤ (k : Int) := by omega
                    have hkw : IntKind.i64.wrap ((k : Int) + 1) = (k : Int) + 1 := by rw [IntKind.wrap_i64]; omega
                    have hov := hW.ph.own j hj
                    rw [HVS.out, HLj.out] at hov
                    obtain ⟨g, rfl, -, hrg⟩ := hov.at_ k (by rw [wlW_len]; exact hkc)
                    rw [wlW_at s0 hkc] at hrg
                    obtain ⟨SD, hSD⟩ : ∃ q, (ndR s0 j k).side = q := ⟨_, rfl⟩
                    obtain ⟨⟨pa, pb⟩, pr⟩ := SD
                    have HSD := Veil.mk hSD
                    have hd7 : dW s0 j k = [.int .i64 0, .int .u8 ((j : Int) + 6), .int .u32 ((k : Int) + 1), .int .u8 pa, .int .u32 pb, .bool pr, .int .u8 (chW j k)] := by
                      unfold dW
                      rw [HSD.out]
                      rfl
                    obtain ⟨chv, hchv⟩ : ∃ q, chW j k = q := ⟨_, rfl⟩
                    obtain ⟨ja, hja⟩ : ∃ q : Int, (j : Int) + 6 = q := ⟨_, rfl⟩
                    obtain ⟨k1, hk1⟩ : ∃ q : Int, (k : Int) + 1 = q := ⟨_, rfl⟩
                    rw [hchv, hja, hk1] at hd7
                    rw [hd7] at hrg
                    have HCH := Veil.mk (And.intro hchv (And.intro hja hk1))
                    have i7 : (Try.prog.info? 34).map (·.size) = some [Value.int .i64 0, .int .u8 ja, .int .u32 k1, .int .u8 pa, .int .u32 pb, .bool pr, .int .u8 chv].length := by kernel_rfl
                    have n7 : ∀ v ∈ [Value.int .i64 0, .int .u8 ja, .int .u32 k1, .int .u8 pa, .int .u32 pb, .bool pr, .int .u8 chv], v.oneCell' = true := by simp [Value.oneCell']
                    have hz9 := CellsAt.new wr 34 [.int .i64 0, .int .u8 0, .int .u32 0, .int .u8 0, .int .u32 0, .bool false, .int .u8 0]
                    have uE7 := Try.underlying34
                    have uD := Try.underlying32
                    have iD : (Try.prog.info? 32).map (·.size) = some [Value.int .u8 pa, Value.int .u32 pb].length := sizeDot
                    have iJ : (Try.prog.info? 32).map (·.size) = some [Value.int .u8 ja, Value.int .u32 k1].length := sizeDot
                    have HW := Veil.mk (And.intro hW hts)
                    clear hov hSD hd7 hchv hja hk1 hW hts
                    go_upto_region 31 with (first
                      | (refine wpList_ldv rfl 34 (.tmp 149) rfl g (k * 7) rfl [.int .i64 0, .int .u8 ja, .int .u32 k1, .int .u8 pa, .int .u32 pb, .bool pr, .int .u8 chv] hrg uE7 rfl i7 ?_)
                      | (refine wpList_stv (cs := [.int .i64 0, .int .u8 ja, .int .u32 k1, .int .u8 pa, .int .u32 pb, .bool pr, .int .u8 chv]) rfl 34 _ _ rfl wr.heap.size rfl rfl hz9 i7 (by rfl) n7 ?_))
                    have hx10 := hz9.setRow [.int .i64 0, .int .u8 ja, .int .u32 k1, .int .u8 pa, .int .u32 pb, .bool pr, .int .u8 chv]
                    have hb10 : Below wr.heap.size wr ((wr.alloc (.cells #[.int .i64 0, .int .u8 0, .int .u32 0, .int .u8 0, .int .u32 0, .bool false, .int .u8 0] 34)).setRow wr.heap.size #[.int .i64 0, .int .u8 ja, .int .u32 k1, .int .u8 pa, .int .u32 pb, .bool pr, .int .u8 chv]) := below_setRow ((Below.refl _ _).alloc (Nat.le_refl _) _) (Nat.le_refl _) _
                    refine forget (p := fun y => Code.wp _ _ _ _ y) (fun W14 => Below wr.heap.size wr W14 ∧ CellsAt W14 wr.heap.size 34 [.int .i64 0, .int .u8 ja, .int .u32 k1, .int .u8 pa, .int .u32 pb, .bool pr, .int .u8 chv]) ⟨hb10, hx10⟩ ?_
                    obtain ⟨e23, he23⟩ : ∃ q, wr.heap.size = q := ⟨_, rfl⟩
                    have hle23 : wr.heap.size ≤ e23 := Nat.le_of_eq he23
                    clear hz9 hx10 hb10 hrg hcw
                    rintro W14 ⟨hb14, hx14⟩
                    rw [he23] at hx14 ⊢
                    clear he23
                    have hins := HW.out.1.insert hb14 HOLD.out HC01.out.1 HC01.out.2 hj (by omega) HSD.out hle23 hx14
                    rw [HCH.out.1, HCH.out.2.1, HCH.out.2.2] at hins
                    have r1 : W14.rangeAt e23 1 [.int .u8 ja, .int .u32 k1] := hx14.range 1 2
                    have r3 : W14.rangeAt e23 3 [.int .u8 pa, .int .u32 pb] := hx14.range 3 2
                    have c5 : W14.cell? ⟨e23, 5, none⟩ = some (.bool pr) := hx14.cell 5
                    have c6 : W14.cell? ⟨e23, 6, none⟩ = some (.int .u8 chv) := hx14.cell 6
                    clear hx14 hb14 hle23
                    go_upto_region 33 with (first
                      | (refine wpList_ldv rfl 32 (.tmp 152) rfl e23 1 rfl [.int .u8 ja, .int .u32 k1] r1 uD rfl iJ ?_)
                      | (refine wpList_ldv rfl 32 (.tmp 154) rfl e23 3 rfl [.int .u8 pa, .int .u32 pb] r3 uD rfl iD ?_)
                      | (go_at_call 10; refine hins.mono ?_; rintro z W15 ⟨rfl, HW15⟩; clear hins))
                    clear r1 r3 c5 c6 iJ iD uD i7 n7 uE7
                    obtain ⟨⟨V2, hW15⟩, hx15⟩ := HW15
                    have hts := HW.out.2
                    clear HW
                    have hal : Below W15.heap.size W15 (W15.drew.alloc (.cells #[.int .u8 chv] 5)) := (Below.refl _ _).drew.alloc (Nat.le_refl _) _
                    have hWa := hW15.far hal
                    have hcd : ∀ W (s : ByteArray), s = ts j → CellsAt W d 43 [.string (ts 0), .string (ts 1)] → W.cell? ⟨d, j, none⟩ = some (.string s) ∧ W.frozen? ⟨d, j, none⟩ = false := fun W s hs hW => by
                      refine ⟨?_, hW.frozen j⟩
                      rw [hW.cell j, hs]
                      rcases (by omega : j = 0 ∨ j = 1) with rfl | rfl <;> rfl
                    obtain ⟨S, hS0⟩ : ∃ q, q = ts j := ⟨_, rfl⟩
                    have hsz : S.size ≤ 12 := by
                      rw [hS0, hts j hj, strOfNums_size, wordW_len]
                      unfold ccW
                      rw [if_neg (by omega), if_pos rfl]; omega
                    have hv0 : W15.drew.cell? ⟨d, j, none⟩ = some (.string S) := (hcd _ S hS0 (hW15.far (Below.refl _ _).drew).want).1
                    have hva := (hcd _ S hS0 hWa.want).1
                    have hfa := (hcd _ S hS0 hWa.want).2
                    have hva2 : (W15.alloc (.cells #[.int .u8 chv] 5)).cell? ⟨d, j, none⟩ = some (.string S) := hva
                    have hfa2 : (W15.alloc (.cells #[.int .u8 chv] 5)).frozen? ⟨d, j, none⟩ = false := hfa
                    have hc6 : W15.drew.cell? ⟨e23, 6, none⟩ = some (.int .u8 chv) := hx15.cell 6
                    have hca : (W15.drew.alloc (.cells #[.int .u8 chv] 5)).cell? ⟨e23, 6, none⟩ = some (.int .u8 chv) := (CellsAt.congr hx15 (hal.block e23 hx15.lt)).cell 6
                    have hcvb : (convert 35 9 (.slice (some ⟨W15.drew.heap.size, 0, none⟩) 1 1)).run Try.prog (W15.drew.alloc (.cells #[.int .u8 chv] 5)) = .ok (.string (strOfNums [chv])) (W15.drew.alloc (.cells #[.int .u8 chv] 5)) := conv_bytes (Holds.bytes (Holds.new W15.drew .u8 5 [chv]) rfl (by simp))
                    have hs1 : (strOfNums [chv]).size = 1 := by rw [strOfNums_size]; rfl
                    have HPUT := Veil.mk (hWa.put hj (S ++ strOfNums [chv]))
                    have HTS := Veil.mk (And.intro hts hS0)
                    obtain ⟨T1, hT1⟩ : ∃ q, strOfNums [chv] = q := ⟨_, rfl⟩
                    have HT1 := Veil.mk hT1
                    rw [hT1] at hcvb hs1 HPUT
                    have hlim : ¬ (9223372036854775807 < S.size + 1) := by omega
                    clear hcd hal hWa hW15 hx15 hts hS0 hT1
                    refine wp_region_gate (fun w' : World => w'.cell? ⟨d, j, none⟩ = some (.string S) ∧ w'.cell? ⟨e23, 6, none⟩ = some (.int .u8 chv)) 9 (by kernel_rfl) ?_
                    have hS : (fun w' : World => w'.cell? ⟨d, j, none⟩ = some (.string S) ∧ w'.cell? ⟨e23, 6, none⟩ = some (.int .u8 chv)) W15.drew := ⟨hv0, hc6⟩
                    refine wpAnyG_any (i := 0) (v := ?_) rfl (by kernel_rfl) (by kernel_rfl) (by kernel_rfl) (fun _ _ _ h => h) (by kernel_rfl) (fun _ => hS) (by kernel_rfl) ?_ ?_
                    rotate_left
                    · intro _; go_simp; try with_reducible rfl
                    simp only [Act.put, List.getElem_toArray, List.getElem_cons_succ, List.getElem_cons_zero, List.setIfInBounds_toArray, List.set_cons_zero, List.set_cons_succ]
                    refine wpAnyG_any (i := 1) (v := ?_) rfl (by kernel_rfl) (by kernel_rfl) (by kernel_rfl) (fun _ _ _ h => h) (by kernel_rfl) (fun _ => hS) (by kernel_rfl) ?_ ?_
                    rotate_left
                    · intro _; go_simp; try with_reducible rfl
                    simp only [Act.put, List.getElem_toArray, List.getElem_cons_succ, List.getElem_cons_zero, List.setIfInBounds_toArray, List.set_cons_zero, List.set_cons_succ]
                    refine wpAnyG_read (i := 2) (v := ?_) rfl (by kernel_rfl) (by kernel_rfl) (by kernel_rfl) (fun _ _ _ h => h) (by kernel_rfl) (by kernel_rfl) (by kernel_rfl) hS (by kernel_rfl) ?_ ?_
                    rotate_left
                    · intro wx hSw; go_split_ands; go_simp; try with_reducible rfl
                    simp only [Act.put, List.getElem_toArray, List.getElem_cons_succ, List.getElem_cons_zero, List.setIfInBounds_toArray, List.set_cons_zero, List.set_cons_succ]
                    refine wpAnyG_any (i := 3) (v := ?_) rfl (by kernel_rfl) (by kernel_rfl) (by kernel_rfl) (fun _ _ _ h => h) (by kernel_rfl) (fun _ => hS) (by kernel_rfl) ?_ ?_
                    rotate_left
                    · intro _; go_simp; try with_reducible rfl
                    simp only [Act.put, List.getElem_toArray, List.getElem_cons_succ, List.getElem_cons_zero, List.setIfInBounds_toArray, List.set_cons_zero, List.set_cons_succ]
                    refine wpAnyG_read (i := 4) (v := ?_) rfl (by kernel_rfl) (by kernel_rfl) (by kernel_rfl) (fun _ _ _ h => h) (by kernel_rfl) (by kernel_rfl) (by kernel_rfl) hS (by kernel_rfl) ?_ ?_
                    rotate_left
                    · intro wx hSw; go_split_ands; go_simp; try with_reducible rfl
                    simp only [Act.put, List.getElem_toArray, List.getElem_cons_succ, List.getElem_cons_zero, List.setIfInBounds_toArray, List.set_cons_zero, List.set_cons_succ]
                    refine wpAnyG_one (i := 5) rfl (by kernel_rfl) (by kernel_rfl) (fun K hK => ?_)
                    go_simp
                    replace hS : (fun w' : World => w'.cell? ⟨d, j, none⟩ = some (.string S) ∧ w'.cell? ⟨e23, 6, none⟩ = some (.int .u8 chv)) (W15.drew.alloc (.cells #[.int .u8 chv] 5)) := ⟨hva, hca⟩
                    refine hK.out _ _ (fun _ => hS) ?_
                    clear hK K
                    try simp only [Act.put, List.getElem_toArray, List.getElem_cons_succ, List.getElem_cons_zero, List.setIfInBounds_toArray, List.set_cons_zero, List.set_cons_succ]
                    refine wpAnyG_one (i := 6) rfl (by kernel_rfl) (by kernel_rfl) (fun K hK => ?_)
                    refine wpx_conv _ _ _ rfl _ _ _ rfl hcvb ?_
                    refine hK.out _ _ (fun _ => hS) ?_
                    clear hK K
                    try simp only [Act.put, List.getElem_toArray, List.getElem_cons_succ, List.getElem_cons_zero, List.setIfInBounds_toArray, List.set_cons_zero, List.set_cons_succ]
                    refine wpAnyG_any (i := 7) (v := ?_) rfl (by kernel_rfl) (by kernel_rfl) (by kernel_rfl) (fun _ _ _ h => h) (by kernel_rfl) (fun _ => hS) (by kernel_rfl) ?_ ?_
                    rotate_left
                    · intro _; go_simp; try with_reducible rfl
                    simp only [Act.put, List.getElem_toArray, List.getElem_cons_succ, List.getElem_cons_zero, List.setIfInBounds_toArray, List.set_cons_zero, List.set_cons_succ]
                    refine wpAnyG_any (i := 8) (v := ?_) rfl (by kernel_rfl) (by kernel_rfl) (by kernel_rfl) (fun _ _ _ h => h) (by kernel_rfl) (fun _ => hS) (by kernel_rfl) ?_ ?_
                    rotate_left
                    · intro _; go_simp; try with_reducible rfl
                    simp only [Act.put, List.getElem_toArray, List.getElem_cons_succ, List.getElem_cons_zero, List.setIfInBounds_toArray, List.set_cons_zero, List.set_cons_succ]
                    refine wpAnyG_one (i := 9) rfl (by kernel_rfl) (by kernel_rfl) (fun K hK => ?_)
                    clear hv0 hc6 hca hcvb
                    go_simp
                    refine hK.out _ _ (fun h => absurd (show true = false from h) (by decide)) ?_
                    clear hK K
                    try simp only [Act.put, List.getElem_toArray, List.getElem_cons_succ, List.getElem_cons_zero, List.setIfInBounds_toArray, List.set_cons_zero, List.set_cons_succ]
                    refine wpAnyG_done (by kernel_rfl) ?_ _
                    clear hS hva hfa hva2 hfa2 hlim hsz hs1
                    go_wp2_with fail
                    go_roundw
                    case rel => exact ⟨k + 1, V2, _, by push_cast; rfl, hkc, HPUT.out, fun i hi => by
                      by_cases hij : i = j
                      · subst hij
                        rw [upW_self, HTS.out.2, HTS.out.1 i hi, ← HT1.out, ← HCH.out.1]
                        have e1 : ccW c0 c1 i k i = k := by unfold ccW; rw [if_neg (by omega), if_pos rfl]
                        have e2 : ccW c0 c1 i (k + 1) i = k + 1 := by unfold ccW; rw [if_neg (by omega), if_pos rfl]
                        rw [e1, e2, word_str]
                      · rw [upW_other _ _ hij, HTS.out.1 i hi]
                        have e1 : ccW c0 c1 j k i = ccW c0 c1 j (k + 1) i := by unfold ccW; rw [if_neg hij, if_neg hij]
                        rw [e1]⟩
                    case measure => simp [intOf]; omega
                  · obtain rfl : k = cn := by omega
                    have lk : ¬ (k : Int) < (k : Int) := by omega
                    have dk : decide ((k : Int) < (k : Int)) = false := decide_eq_false lk
                    have HP := Veil.mk (And.intro hW hts)
                    clear hW hts
                    go_wp2_with fail
                    go_roundw
                    case rel => exact ⟨j + 1, V, ts, by push_cast; rfl, by omega, by rw [← MW_next, HCNE.out]; exact HP.out.1, fun i hi => by rw [HP.out.2 i hi, ← cc_next, HCNE.out]⟩
                    case measure => simp [intOf]; omega
              · obtain rfl : j = 2 := by omega
                have hW2 : Wn W1 wr R bc bn V (MgN N s0 c0 c1) c vs Ls d ss := hW
                have hMok := HOLD.out.okMg c0 (by have := HC01.out.1; omega) c1 (by have := HC01.out.2; omega)
                have hMl : (MgN N s0 c0 c1).length ≤ 100 := by rw [Mg_len]; have := HOLD.out.len; have := HC01.out.1; have := HC01.out.2; omega
                have htl := text_few hMok
                have htx := textB_any W1.heap.size R bc bn (MgN N s0 c0 c1) V hMok (by omega) wr hW2.ph.tree
                obtain ⟨ka, ha1, ha2, ha3⟩ := HOLD.out.hasW HC01.out.1 HC01.out.2 (show 0 < 2 by omega)
                obtain ⟨kb, hb1, hb2, hb3⟩ := HOLD.out.hasW HC01.out.1 HC01.out.2 (show 1 < 2 by omega)
                have hs0 : ss 0 = strOfNums (wordW 0 (cntW c0 c1 0)) := hss 0 (by omega)
                have hs1 : ss 1 = strOfNums (wordW 1 (cntW c0 c1 1)) := hss 1 (by omega)
                rw [← hs0] at ha1 ha3
                rw [← hs1] at hb1 hb3
                have hz : (strOfNums (textN (MgN N s0 c0 c1))).size = (textN (MgN N s0 c0 c1)).length := strOfNums_size _
                have HH : Veil (∀ W, (Calls Try.prog 11 #[.string (strOfNums (textN (MgN N s0 c0 c1))), .string (ss 0)] W fun r w' => r = .returned (.bool true) ∧ Below W.heap.size W w') ∧ (Calls Try.prog 11 #[.string (strOfNums (textN (MgN N s0 c0 c1))), .string (ss 1)] W fun r w' => r = .returned (.bool true) ∧ Below W.heap.size W w')) := ⟨fun W => ⟨has_any _ _ ka _ _ ha1 hz ha2 ha3 (by omega) W, has_any _ _ kb _ _ hb1 hz hb2 hb3 (by omega) W⟩⟩
                have HCV : Veil (∀ w' v, OwnB w' wr.heap.size v (textN (MgN N s0 c0 c1)) → (convert 35 9 v).run Try.prog w' = .ok (.string (strOfNums (textN (MgN N s0 c0 c1)))) w') := ⟨fun w' v h => by
                  obtain ⟨y, n, cc, rfl, -⟩ := h.isSlice
                  exact conv_bytes h.bytes.2⟩
                have HB : Veil (Below w.heap.size w wr) := ⟨HBW.out.trans (hW2.ph.below.mono HBW.out.size)⟩
                have hwa : ∀ W, Below wr.heap.size wr W → W.cell? ⟨d, 0, none⟩ = some (.string (ss 0)) ∧ W.cell? ⟨d, 1, none⟩ = some (.string (ss 1)) := fun W hb => ⟨(hW2.far hb).want.cell 0, (hW2.far hb).want.cell 1⟩
                have HWA := Veil.mk hwa
                generalize textN (MgN N s0 c0 c1) = TX at htx HH HCV
                generalize strOfNums TX = TS at HH HCV
                generalize ss 0 = S0 at HH HWA
                generalize ss 1 = S1 at HH HWA
                clear hMok hMl htl ha1 ha2 ha3 hb1 hb2 hb3 hs0 hs1 hz hwa hW hW2 hss HOLD HC01 HCN
                go_upto_region 35 with (go_at_call 7; refine htx.mono ?_; rintro z W16 ⟨tv, rfl, hown, hb16⟩; have hcv := HCV.out _ _ hown; clear htx hown)
                have hwc := HWA.out _ hb16
                have hh1 := (HH.out W16).1
                have HB16 := Veil.mk hb16
                clear hcv hb16
                go_split_ands
                go_wp2_with (first
                  | (go_at_call 11; refine hh2.mono ?_; rintro z W18 ⟨rfl, hb18⟩; clear hh2)
                  | (go_at_call 11; refine hh1.mono ?_; rintro z W17 ⟨rfl, hb17⟩; have hwc := HWA.out _ (HB16.out.trans (hb17.mono HB16.out.size)); obtain ⟨hwc0, hwc1⟩ := hwc; have hh2 := (HH.out W17).2; clear hh1))
                go_ret
                exact ⟨rfl, HB.out.trans ((HB16.out.trans ((hb17.trans (hb18.mono hb17.size)).mono HB16.out.size)).mono HB.out.size)⟩
end Go.Proofs.Ytnmjplngbleopaa
