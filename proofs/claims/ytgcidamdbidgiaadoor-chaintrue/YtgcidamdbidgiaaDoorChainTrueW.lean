/- The statement ChainTrue, walked. -/
import Derived.Test.YtgcidamdbidgiaaDoorHx
namespace Go.Proofs.YtgcidamdbidgiaaDoor
open Go.RowKit
set_option maxRecDepth 20000
set_option linter.unusedSimpArgs false

set_option maxHeartbeats 32000000 in
theorem chainTrue_walk (x : Option Addr) (len cap : Nat) (ds : List Dc) (m : Nat) (w : World) (hd : DeedsC w x len cap ds) (hm : m ≤ 255) (hKT : S.KTab w) :
    Calls Tryd.prog 5 #[.slice x len cap, .int .u8 (m : Int)] w fun e w' => e = .returned (.bool true) ∧ Below w.heap.size w w' := by
  have hN := chNew_any w
  obtain ⟨Z, hzv, hz1, hZ⟩ := zeroFrameH
  have hZl : Z.length = 70 := by rw [hZ]; rfl
  obtain ⟨ZH, hzvH, hz1H, hZH⟩ := zeroHeadsH
  have HZH := Veil.mk hZH
  have HKT : Veil (∀ W, Below w.heap.size w W → S.KTab W) := ⟨fun W hb => hKT.below hb⟩
  have HD := Veil.mk hd
  have hlen := hd.top
  have hle := hd.le
  clear hZ hKT hd hZH
  have hm0 : (0 : Int) ≤ (m : Int) := by omega
  have hm5 : (m : Int) ≤ 255 := by omega
  obtain ⟨N, hNN⟩ : ∃ N : Nat, N = if 40 < len then 40 else len := ⟨_, rfl⟩
  obtain ⟨NI, hNI⟩ : ∃ NI : Int, NI = if 40 < len then 40 else (len : Int) := ⟨_, rfl⟩
  have HNE : Veil (NI = (N : Int)) := ⟨by rw [hNI, hNN]; split <;> rfl⟩
  have hNl : N ≤ len := by rw [hNN]; split <;> omega
  clear hNN
  have HREM : Veil (∀ k : Nat, k < N → (m : Int).tmod NI = ((m % N : Nat) : Int) ∧ ((m % N : Nat) : Int) ≤ 255 ∧ 0 < NI) := ⟨fun k hk => by
    have e := HNE.out
    refine ⟨by rw [e, Int.tmod_eq_emod_of_nonneg (by omega)]; rfl, ?_, by omega⟩
    have : m % N ≤ m := Nat.mod_le _ _
    omega⟩
  have hlv := fun W (hb : Below w.heap.size w W) => live_any W (HKT.out W hb)
  have HLV := Veil.mk hlv
  clear hlv
  by_cases h40 : 40 < len
  all_goals (
    first | have h40i : (len : Int) > 40 := by omega | have h40i : ¬ (len : Int) > 40 := by omega
    simp only [h40, if_true, if_false] at hNI
    subst hNI
    clear h40
    go_enter Tryd.func5, Tryd.ntmps5
    go_upto_region 6 with (first
      | (go_at_call 19; refine hN.mono ?_; rintro e w1 ⟨rfl, hC1, hs1, hb1⟩; have hN2 := chNew_any w1; have HS1 := Veil.mk hs1; clear hN hs1)
      | (go_at_call 19; refine hN2.mono ?_; rintro e w2 ⟨rfl, hC2, hs2, hb2⟩; have HS2 := Veil.mk hs2; clear hN2 hs2))
    have hs1 := HS1.out
    have hs2 := HS2.out
    have hb3 : Below w2.heap.size w2 (w2.alloc (.cells ZH.toArray 41)) := (Below.refl _ _).alloc (Nat.le_refl _) _
    have hg3 := CellsAt.new w2 41 ZH
    rw [HZH.out] at hb3 hg3 ⊢
    have hB3 := (hb1.trans (hb2.mono hb1.size)).trans (hb3.mono (hb1.trans (hb2.mono hb1.size)).size)
    have hTwo : TwoAt (w2.alloc (.cells (headsC (headsOf noS)).toArray 41)) w.heap.size w1.heap.size (w.heap.size + 1) w.heap.size (w1.heap.size + 1) w1.heap.size w2.heap.size (.slice none 0 0) (.slice none 0 0) noS noS (headsOf noS) :=
      ⟨(hC1.far hb2).far hb3, hC2.far hb3, hg3, fun k hk hd => (by have := chainP_new hk; have := chainP_new hd; omega), fun hk => (by have := chainP_new hk; omega), fun hk => (by have := chainP_new hk; omega), TrueHs.of okS_no, by omega, by omega⟩
    clear hs1 hs2 HS1 HS2 hC1 hC2 hb1 hb2 hb3 hg3 HZH hzvH hz1H
    refine forget (p := fun y => Code.wp _ _ _ _ y) (fun W => Below w.heap.size w W ∧ TwoAt W w.heap.size w1.heap.size (w.heap.size + 1) w.heap.size (w1.heap.size + 1) w1.heap.size w2.heap.size (.slice none 0 0) (.slice none 0 0) noS noS (headsOf noS)) ⟨hB3, hTwo⟩ ?_
    clear hB3 hTwo
    generalize w1.heap.size + 1 = H2
    generalize w.heap.size + 1 = H1
    generalize w2.heap.size = G
    generalize w1.heap.size = B2
    clear w1 w2
    rintro W0 ⟨hB0, hTwo0⟩
    go_wp2
    go_loopw [9, 10] (fun p _ wr => ∃ k : Nat, k ≤ N ∧ p = .int .i64 (k : Nat) ∧ (∃ v1 v2 T hs, TwoAt wr w.heap.size B2 H1 w.heap.size H2 B2 G v1 v2 T T hs) ∧ Below w.heap.size w wr) (fun p _ _ => N - (intOf p).toNat)
    case atStart => exact ⟨0, Nat.zero_le _, rfl, ⟨_, _, _, _, hTwo0⟩, hB0⟩
    case round =>
      obtain ⟨k, hk, rfl, ⟨v1, v2, T, hs, hTw⟩, hB⟩ := hrel
      clear hB0 hTwo0
      by_cases hkN : k < N
      · have hki : (k : Int) < _ := (HNE.out ▸ (by omega : (k : Int) < (N : Int)))
        have hk0 : (0 : Int) ≤ (k : Int) := by omega
        have HW1 : Veil (IntKind.i64.wrap ((k : Int) + 1) = (k : Int) + 1) := ⟨by rw [IntKind.wrap_i64]; omega⟩
        have HRK := Veil.mk (HREM.out k hkN)
        have hkl : (k : Int) < (len : Int) := by omega
        obtain ⟨b, off, hxx, hc⟩ : ∃ b off, x = some ⟨b, off, none⟩ ∧ ∀ j (hj : j < ds.length) (i : Nat) v, ds[j].cells[i]? = some v → wr.cell? ⟨b, off + j * 336 + i, none⟩ = some v := by
          rcases (HD.out.below hB).at_ with h0 | h0
          · omega
          · exact h0
        have hkd : k < ds.length := by have := HD.out.len_eq; omega
        have hok := HD.out.ok ds[k] (List.getElem_mem hkd)
        have hck := hc k hkd
        clear hc
        generalize ds[k] = dk at hok hck
        obtain ⟨F, xw, lw, cw, ws, xb, lb, cb, body, fits, cmp, hs0⟩ := dk
        have hFr : FrIn w F xw lw cw ws xb lb cb body := hok.fr
        have hh8 : okHs8 hs0 := hok.hs8
        clear hok
        obtain ⟨f70, f0, f1, -, -, f36, f37, -⟩ := fr_parts F hFr.prev hFr.mac
        obtain ⟨-, -, -, d71, -⟩ := deedC_parts F fits cmp hs0 f70 hh8
        have dF : ∀ (i : Nat) v, F.cells[i]? = some v → (deedC F fits cmp hs0)[i]? = some v := fun i v h => by
          unfold deedC
          rw [List.getElem?_append_left (List.getElem?_eq_some_iff.1 h).1]; exact h
        have e71 := hck 71 _ d71
        have e37 := hck 37 _ (dF 37 _ f37)
        have e36 := hck 36 _ (dF 36 _ f36)
        rw [hFr.body_] at e37
        rw [hFr.wraps] at e36
        have rF : wr.rangeAt b (off + k * 336) F.cells := fun i v h => hck i v (dF i v h)
        have hlb0 : (0 : Int) ≤ (lb : Int) := by omega
        have HFR := Veil.mk hFr
        have iF : (Tryd.prog.info? 38).map (·.size) = some F.cells.length := by rw [f70]; exact sizeFrame
        clear hck dF d71 hh8 f36 f37 hFr
        have HF01 := Veil.mk (And.intro f0 f1)
        have hFl := f70
        clear f0 f1 f70
        subst hxx
        by_cases hskip : cmp = true ∨ 300 < lb ∨ 3 < lw
        · have hw1 := HW1.out
          cases cmp with
          | true =>
            go_wp2
            go_roundw
            case rel => exact ⟨k + 1, hkN, by push_cast; rfl, ⟨_, _, _, _, hTw⟩, hB⟩
            case measure => simp [intOf]; omega
          | false =>
            by_cases hlb : (lb : Int) > 300
            · go_wp2
              go_roundw
              case rel => exact ⟨k + 1, hkN, by push_cast; rfl, ⟨_, _, _, _, hTw⟩, hB⟩
              case measure => simp [intOf]; omega
            · have hlw : (lw : Int) > 3 := by
                rcases hskip with h | h | h
                · cases h
                · omega
                · omega
              go_wp2
              go_roundw
              case rel => exact ⟨k + 1, hkN, by push_cast; rfl, ⟨_, _, _, _, hTw⟩, hB⟩
              case measure => simp [intOf]; omega
        · have hcmp : cmp = false := by cases cmp with
            | false => rfl
            | true => exact absurd (.inl rfl) hskip
          subst hcmp
          have hlb : ¬ (lb : Int) > 300 := fun h => hskip (.inr (.inl (by omega)))
          have hlw : ¬ (lw : Int) > 3 := fun h => hskip (.inr (.inr (by omega)))
          clear hskip
          have hA := CellsAt.new wr 38 Z
          have h1F := fr_one F HFR.out.wraps HFR.out.body_
          go_upto_region 10 with fail
          go_upto_region 11 with (first
            | (refine wpList_ldv rfl 38 _ rfl _ _ rfl F.cells rF Tryd.underlying38 rfl iF ?_)
            | (refine wpList_stv rfl 38 _ _ rfl _ rfl rfl hA iF (by rw [hFl, hZl]) h1F ?_))
          have hRd := hTw.frame (F := F) hB.size Z
          have hbA : Below wr.heap.size wr ((wr.alloc (.cells Z.toArray 38)).setRow wr.heap.size F.cells.toArray) := below_setRow ((Below.refl _ _).alloc (Nat.le_refl _) _) (Nat.le_refl _) _
          have hBA := hB.trans (hbA.mono hB.size)
          refine forget (p := fun y => Code.wp _ _ _ _ y) (fun W => Below w.heap.size w W ∧ RdAt W w.heap.size B2 H1 w.heap.size H2 B2 G v1 v2 T T hs wr.heap.size F) ⟨hBA, hRd⟩ ?_
          clear hRd hBA hbA hA e71 e37 e36 rF hTw hB iF h1F hlb hlw hlb0
          generalize wr.heap.size = A
          clear wr
          rintro W ⟨hB, hR⟩
          obtain ⟨a, ha⟩ : ∃ a : Nat, F.author = (a : Int) := Int.eq_ofNat_of_zero_le HFR.out.inF.author.1
          obtain ⟨n, hn⟩ : ∃ n : Nat, F.number = (n : Int) := Int.eq_ofNat_of_zero_le HFR.out.inF.number.1
          have HAN := Veil.mk (And.intro ha hn)
          have HA0 : Veil (∀ (W : World) (F' : Fr), F'.author = (a : Int) → CellsAt W A 38 F'.cells → W.cell? ⟨A, 0, none⟩ = some (.int .u8 (a : Int))) := ⟨fun W F' h1 h2 => by have := h2.cell 0; rw [← h1]; exact this⟩
          clear HF01
          have a0 := HA0.out W F ha hR.a
          have ha0 : (0 : Int) ≤ (a : Int) := by omega
          have hok := hR.c.ok
          clear ha hn
          by_cases ha8 : a < 8
          focus
            have ha8i : (a : Int) < 8 := by omega
            go_upto_region 12 with fail
            have hR0 := hR.far (Below.refl _ W).drew
            have hB0 := hB.drew
            have hhd := chHeads_any _ _ _ _ _ _ W.drew hR0.c
            have HIX := Veil.mk (headIx hok a ha8)
            have hKl := (hok.at_ok a (cnt T a)).1
            have hKok := hok.at_ok a (cnt T a)
            have HFD : Veil (∀ wx, (Instr.field 40 (.agg (headC (headOf T a)).toArray) 1).run Tryd.prog wx = .ok (.agg (row .u8 (atN T a (cnt T a)))) wx) := ⟨headSum _ _ hKl⟩
            have HFR2 := Veil.mk (HFR.out.withPrev hKok)
            have HAN2 : Veil ((F.withPrev (atN T a (cnt T a))).author = (a : Int) ∧ (F.withPrev (atN T a (cnt T a))).number = (n : Int)) := ⟨HAN.out⟩
            have HWP := Veil.mk (withPrev_cells F (atN T a (cnt T a)) HFR.out.prev)
            generalize atN T a (cnt T a) = KP at HFD hKl hKok HFR2 HAN2 HWP
            generalize headOf T a = HD0 at HIX HFD
            have iK : (Tryd.prog.info? 34).map (·.size) = some (KP.map (Value.int .u8)).length := by rw [List.length_map, hKl]; exact sizeKeyH
            have h1K : ∀ v ∈ KP.map (Value.int .u8), v.oneCell' = true := fun v hv => by obtain ⟨x, _, rfl⟩ := List.mem_map.1 hv; rfl
            refine wp_region_gateT (fun w' => w'.cell? ⟨A, 0, none⟩ = some (.int .u8 (a : Int))) (fun _ => True) 99 (by kernel_rfl) ?_
            have hT : (fun w' : World => w'.cell? ⟨A, 0, none⟩ = some (.int .u8 (a : Int))) W.drew := a0
            have hS := trivial
            refine wpAnyT_held (i := 0) (v := ?_) rfl (by kernel_rfl) (by kernel_rfl) (by kernel_rfl) (fun _ _ _ h => h) (by kernel_rfl) hT (fun _ => hS) (by kernel_rfl) ?_ ?_
            rotate_left
            · intro wx hSw; go_split_ands; go_simp; try with_reducible rfl
            simp only [Act.put, List.getElem_toArray, List.getElem_cons_succ, List.getElem_cons_zero, List.setIfInBounds_toArray, List.set_cons_zero, List.set_cons_succ]
            refine wpAnyT_held (i := 2) (v := ?_) rfl (by kernel_rfl) (by kernel_rfl) (by kernel_rfl) (fun _ _ _ h => h) (by kernel_rfl) hT (fun _ => hS) (by kernel_rfl) ?_ ?_
            rotate_left
            · intro wx hSw; go_split_ands; go_simp; try with_reducible rfl
            simp only [Act.put, List.getElem_toArray, List.getElem_cons_succ, List.getElem_cons_zero, List.setIfInBounds_toArray, List.set_cons_zero, List.set_cons_succ]
            refine wpAnyT_held (i := 3) (v := ?_) rfl (by kernel_rfl) (by kernel_rfl) (by kernel_rfl) (fun _ _ _ h => h) (by kernel_rfl) hT (fun _ => hS) (by kernel_rfl) ?_ ?_
            rotate_left
            · intro wx hSw; go_split_ands; go_simp; try with_reducible rfl
            simp only [Act.put, List.getElem_toArray, List.getElem_cons_succ, List.getElem_cons_zero, List.setIfInBounds_toArray, List.set_cons_zero, List.set_cons_succ]
            refine wpAnyT_one (i := 1) rfl (by kernel_rfl) (by kernel_rfl) (fun K hK => ?_)
            refine wpx_call _ _ (by kernel_rfl) (hhd.mono ?_)
            rintro e w2 ⟨rfl, hb2⟩
            refine ⟨_, rfl, ?_⟩
            have hR2 := hR0.far hb2
            have hB2 := hB0.trans (hb2.mono hB0.size)
            replace hT : (fun w' : World => w'.cell? ⟨A, 0, none⟩ = some (.int .u8 (a : Int))) w2 := HA0.out w2 F HAN.out.1 hR2.a
            refine hK.out _ _ hT (fun _ => hS) ?_
            clear hK K
            try simp only [Act.put, List.getElem_toArray, List.getElem_cons_succ, List.getElem_cons_zero, List.setIfInBounds_toArray, List.set_cons_zero, List.set_cons_succ]
            refine wpAnyT_held (i := 4) (v := .agg (headC HD0).toArray) rfl (by kernel_rfl) (by kernel_rfl) (by kernel_rfl) (fun _ _ _ h => h) (by kernel_rfl) hT (fun _ => hS) (by kernel_rfl) (fun wx h => exec_ixH rfl rfl rfl (HIX.out wx)) ?_
            simp only [Act.put, List.getElem_toArray, List.getElem_cons_succ, List.getElem_cons_zero, List.setIfInBounds_toArray, List.set_cons_zero, List.set_cons_succ]
            refine wpAnyT_held (i := 5) (v := .agg (row .u8 KP)) rfl (by kernel_rfl) (by kernel_rfl) (by kernel_rfl) (fun _ _ _ h => h) (by kernel_rfl) hT (fun _ => hS) (by kernel_rfl) (fun wx h => exec_fdH rfl rfl (HFD.out wx)) ?_
            simp only [Act.put, List.getElem_toArray, List.getElem_cons_succ, List.getElem_cons_zero, List.setIfInBounds_toArray, List.set_cons_zero, List.set_cons_succ]
            refine wpAnyT_held (i := 6) (v := ?_) rfl (by kernel_rfl) (by kernel_rfl) (by kernel_rfl) (fun _ _ _ h => h) (by kernel_rfl) hT (fun _ => hS) (by kernel_rfl) ?_ ?_
            rotate_left
            · intro wx hSw; go_split_ands; go_simp; try with_reducible rfl
            simp only [Act.put, List.getElem_toArray, List.getElem_cons_succ, List.getElem_cons_zero, List.setIfInBounds_toArray, List.set_cons_zero, List.set_cons_succ]
            refine wpAnyT_one (i := 7) rfl (by kernel_rfl) (by kernel_rfl) (fun K hK => ?_)
            refine wp_stmE 34 _ _ rfl A 4 rfl (cs := KP.map (Value.int .u8)) rfl hR2.a iK (by rw [List.length_map, hKl, hFl]; omega) h1K ?_
            rw [List.length_map, hKl, HWP.out]
            have hR3 := hR2.setPrev (F.withPrev KP)
            have hB3 : Below w.heap.size w (w2.setRow A (F.withPrev KP).cells.toArray) := below_setRow hB2 hR2.sA _
            replace hT : (fun w' : World => w'.cell? ⟨A, 0, none⟩ = some (.int .u8 (a : Int))) (w2.setRow A (F.withPrev KP).cells.toArray) := HA0.out _ (F.withPrev KP) HAN2.out.1 hR3.a
            refine hK.out _ _ hT (fun _ => hS) ?_
            clear hK K
            try simp only [Act.put, List.getElem_toArray, List.getElem_cons_succ, List.getElem_cons_zero, List.setIfInBounds_toArray, List.set_cons_zero, List.set_cons_succ]
            refine wpAnyT_done (by kernel_rfl) ?_ _
            refine forget (p := fun y => Exit.then _ _ _ _ y) (fun W => Below w.heap.size w W ∧ RdAt W w.heap.size B2 H1 w.heap.size H2 B2 G v1 v2 T T hs A (F.withPrev KP)) ⟨hB3, hR3⟩ ?_
            clear hT hS hR3 hB3 hR2 hB2 hb2 hhd hR0 hB0 hR hB a0 HIX HFD HWP hKl hKok iK h1K HFR HAN HA0 hFl
            clear w2 W
            generalize F.withPrev KP = F' at HFR2 HAN2
            rintro W ⟨hB, hR⟩
            go_upto_region 13 with fail
          rotate_left
          focus
            have ha8i : ¬ (a : Int) < 8 := by omega
            go_upto_region 13 with fail
            have HFR2 := HFR
            have HAN2 := HAN
            clear HFR HAN HA0 hFl a0
            generalize F = F' at HFR2 HAN2 hR
          all_goals (
            have rA := hR.a.wholeM
            have iF2 : (Tryd.prog.info? 38).map (·.size) = some F'.cells.length := by rw [(fr_parts F' HFR2.out.prev HFR2.out.mac).1]; exact sizeFrame
            have hlk := look_any _ _ _ _ _ _ W F' xw lw cw ws xb lb cb body a n hR.c (HFR2.out.below hB) (HKT.out W hB) HAN2.out.1 HAN2.out.2
            have HADC : Veil (∀ W1, Below W.heap.size W W1 → lookN T a n F'.prev (fsum F' lw lb ws body) = 0 → W1.rangeAt A 0 F'.cells ∧ Calls Tryd.prog 15 #[.pointer (some ⟨H1, 0, none⟩), .agg F'.cells.toArray] W1 fun e w' => e = .returned (.int .i64 0) ∧ ∃ v', ChainTo W1 w' w.heap.size H1 w.heap.size v1 v' (addS T a (fsum F' lw lb ws body)) []) := ⟨fun W1 hb h0 => by
              have hB1 := hB.trans (hb.mono hB.size)
              have hR1 := hR.far hb
              have := add_any _ _ _ _ _ _ W1 F' xw lw cw ws xb lb cb body a n hR1.c (HFR2.out.below hB1) (HKT.out W1 hB1) HAN2.out.1 HAN2.out.2 hB1.size
              unfold addSt at this
              simp only [h0, if_true] at this
              exact ⟨hR1.a.wholeM, this⟩⟩
            have HADD : Veil (∀ W1 w3 v3, Below W.heap.size W W1 → lookN T a n F'.prev (fsum F' lw lb ws body) = 0 → ChainTo W1 w3 w.heap.size H1 w.heap.size v1 v3 (addS T a (fsum F' lw lb ws body)) [] → (w3.rangeAt A 0 F'.cells ∧ Below w.heap.size w w3 ∧ RdAt w3 w.heap.size B2 H1 w.heap.size H2 B2 G v3 v2 (addS T a (fsum F' lw lb ws body)) T hs A F') ∧ Calls Tryd.prog 15 #[.pointer (some ⟨H2, 0, none⟩), .agg F'.cells.toArray] w3 fun e w' => e = .returned (.int .i64 0) ∧ ∃ v', ChainTo w3 w' B2 H2 B2 v2 v' (addS T a (fsum F' lw lb ws body)) []) := ⟨fun W1 w3 v3 hb h0 hto => by
              have hB1 := hB.trans (hb.mono hB.size)
              have hR1 := hR.far hb
              have hR3 := hR1.stepC hto (hR1.tr.add hok a _)
              have hB3 := hB1.trans (hto.below hR1.c hB1.size)
              have := add_any _ _ _ _ _ _ w3 F' xw lw cw ws xb lb cb body a n hR3.d (HFR2.out.below hB3) (HKT.out w3 hB3) HAN2.out.1 HAN2.out.2 (by have := (hR3.d.inside H2 (.inl rfl)); omega)
              unfold addSt at this
              simp only [h0, if_true] at this
              exact ⟨⟨hR3.a.wholeM, hB3, hR3⟩, this⟩⟩
            generalize fsum F' lw lb ws body = SM at hlk HADC HADD
            clear HFR2 HAN2
            by_cases h0 : lookN T a n F'.prev SM = 0
            focus
              have HADC2 := Veil.mk (fun W1 hb => HADC.out W1 hb h0)
              have HADD2 := Veil.mk (fun W1 w3 v3 hb => HADD.out W1 w3 v3 hb h0)
              rw [h0] at hlk
              clear HADC HADD h0
              generalize addS T a SM = TX at HADC2 HADD2
              go_upto_region 16 with (first
                | (refine wpList_ldv rfl 38 _ rfl _ _ rfl F'.cells rA Tryd.underlying38 rfl iF2 ?_)
                | (refine wpList_ldv rfl 38 _ rfl _ _ rfl F'.cells rA2 Tryd.underlying38 rfl iF2 ?_)
                | (refine wpList_ldv rfl 38 _ rfl _ _ rfl F'.cells rA3 Tryd.underlying38 rfl iF2 ?_)
                | (go_at_call 17; refine hlk.mono ?_; rintro e w2 ⟨rfl, hb2⟩; obtain ⟨rA2, hac⟩ := HADC2.out w2 hb2; clear hlk rA)
                | (go_at_call 15; refine had.mono ?_; rintro e w4 ⟨rfl, v4, hto4⟩)
                | (go_at_call 15; refine hac.mono ?_; rintro e w3 ⟨rfl, v3, hto3⟩; obtain ⟨⟨rA3, hB3, hR3⟩, had⟩ := HADD2.out w2 w3 v3 hb2 hto3; clear hac rA2))
              have hB4 := hB3.trans ((hto4.below hR3.d (by have := (hR3.d.inside H2 (.inl rfl)); omega)).mono hR3.sb)
              refine forget (p := fun y => Code.wp _ _ _ _ y) (fun W => Below w.heap.size w W ∧ ∃ v1 v2 T, TwoAt W w.heap.size B2 H1 w.heap.size H2 B2 G v1 v2 T T hs) ⟨hB4, _, _, _, (hR3.toTwoAt.stepD hto4)⟩ ?_
              clear hB4 hto4 hto3 hR3 hB3 hb2 had rA3 HADC2 HADD2 hR hB hok
            rotate_left
            focus
              have e0 : (lookN T a n F'.prev SM == 0) = false := by simpa using h0
              generalize lookN T a n F'.prev SM = LN at hlk e0
              go_upto_region 16 with (first
                | (refine wpList_ldv rfl 38 _ rfl _ _ rfl F'.cells rA Tryd.underlying38 rfl iF2 ?_)
                | (go_at_call 17; refine hlk.mono ?_; rintro e w2 ⟨rfl, hb2⟩))
              refine forget (p := fun y => Code.wp _ _ _ _ y) (fun W => Below w.heap.size w W ∧ ∃ v1 v2 T, TwoAt W w.heap.size B2 H1 w.heap.size H2 B2 G v1 v2 T T hs) ⟨hB.trans (hb2.mono hB.size), _, _, _, (hR.toTwoAt.far hb2)⟩ ?_
              clear hb2 hlk HADC HADD hR hB hok rA
            all_goals (
              rintro W5 ⟨hB5, v5, u5, T5, hTw5⟩
              obtain ⟨hrem, hrm5, hNpos⟩ := HRK.out
              have hw1 := HW1.out
              generalize m % N = R at hrem hrm5
              have hR0 : (0 : Int) ≤ (R : Int) := by omega
              have hhd := chHeads_any _ _ _ _ _ _ W5 hTw5.c
              have hl5 := hTw5.c.ok.headsLen
              have hls : (headsC hs).length = 264 := by rw [headsC_len hs hTw5.tr.ok.1, hTw5.tr.ok.2]
              have h1H := headsC_one (headsOf T5)
              have HSG : Veil (∀ W6, Below W5.heap.size W5 W6 → CellsAt W6 G 41 (headsC hs) ∧ Below w.heap.size w (W6.setRow G (headsC (headsOf T5)).toArray) ∧ TwoAt (W6.setRow G (headsC (headsOf T5)).toArray) w.heap.size B2 H1 w.heap.size H2 B2 G v5 u5 T5 T5 (headsOf T5)) := ⟨fun W6 hb => ⟨(hTw5.far hb).g, below_setRow (hB5.trans (hb.mono hB5.size)) hTw5.sG _, (hTw5.far hb).setG _ (TrueHs.of hTw5.c.ok)⟩⟩
              have iH : (Tryd.prog.info? 41).map (·.size) = some (headsC (headsOf T5)).length := by rw [hl5]; exact sizeHeads
              by_cases hkR : k = R
              · have hbe : ((k : Int) == (R : Int)) = true := by simp [hkR]
                clear hkR
                go_wp2_with (first
                  | (go_at_call 14; refine hhd.mono ?_; rintro e w6 ⟨rfl, hb6⟩; obtain ⟨hg6, hB6, hTw6⟩ := HSG.out w6 hb6)
                  | (refine wpList_stv rfl 41 _ _ rfl _ rfl rfl hg6 iH (by rw [hl5, hls]) h1H ?_))
                go_roundw
                case rel => exact ⟨k + 1, hkN, by push_cast; rfl, ⟨_, _, _, _, hTw6⟩, hB6⟩
                case measure => simp [intOf]; omega
              · have hbe : ((k : Int) == (R : Int)) = false := by simp; omega
                clear hkR hhd
                go_wp2
                go_roundw
                case rel => exact ⟨k + 1, hkN, by push_cast; rfl, ⟨_, _, _, _, hTw5⟩, hB5⟩
                case measure => simp [intOf]; omega))
      · have hki : ¬ (k : Int) < _ := (HNE.out ▸ (by omega : ¬ (k : Int) < (N : Int)))
        have hls : (headsC hs).length = 264 := by rw [headsC_len hs hTw.tr.ok.1, hTw.tr.ok.2]
        have iG : (Tryd.prog.info? 41).map (·.size) = some (headsC hs).length := by rw [hls]; exact sizeHeads
        have rG := hTw.g.wholeM
        have hcp := compare_any _ _ _ _ _ _ wr hs hTw.tr.ok.2 hTw.tr.ok.1 hTw.c hB.size
        rw [hTw.tr.found 8] at hcp
        have HS2 : Veil (∀ w2 v', ChainTo wr w2 w.heap.size H1 w.heap.size v1 v' T [] → Below w.heap.size w w2 ∧ TwoAt w2 w.heap.size B2 H1 w.heap.size H2 B2 G v' v2 T T hs) := ⟨fun w2 v' h => ⟨hB.trans (h.below hTw.c hB.size), hTw.stepC h hTw.tr⟩⟩
        have HS3 : Veil (∀ w3 v', Below w.heap.size w w3 → TwoAt w3 w.heap.size B2 H1 w.heap.size H2 B2 G v' v2 T T hs → Calls Tryd.prog 20 #[.pointer (some ⟨H2, 0, none⟩), .agg (headsC (headsOf T)).toArray] w3 fun e w' => ∃ f v'', e = .returned f ∧ OwnI w' w3.heap.size 49 66 f (([] : List Pf).map proofC) ∧ TwoAt w' w.heap.size B2 H1 w.heap.size H2 B2 G v' v'' T T hs ∧ Below w.heap.size w w') := ⟨fun w3 v' hb h => by
          have hin := (h.d.inside H2 (.inl rfl))
          have := compare_any _ _ _ _ _ _ w3 (headsOf T) h.c.ok.heads8.2 h.c.ok.heads8.1 h.d (by omega)
          rw [(TrueHs.of h.c.ok).found 8] at this
          refine this.mono ?_
          rintro e w' ⟨f, v'', he, ho, hto, _⟩
          exact ⟨f, v'', he, ho, h.stepD hto, hb.trans ((hto.below h.d (by omega)).mono h.sb)⟩⟩
        clear hk
        go_wp2_with (first
          | (refine wpList_ldv rfl 41 _ rfl _ _ rfl (headsC hs) rG Tryd.underlying41 rfl iG ?_)
          | (go_at_call 20; refine hcp.mono ?_; rintro e w2 ⟨f2, v2', rfl, ho2, hto2, -⟩; obtain ⟨x2, c2, rfl⟩ := ho2.isSlice; obtain ⟨hB2, hTw2⟩ := HS2.out w2 v2' hto2; have hhd := chHeads_any _ _ _ _ _ _ w2 hTw2.c; clear hcp ho2 rG hto2)
          | (go_at_call 14; refine hhd.mono ?_; rintro e w3 ⟨rfl, hb3⟩; have hTw3 := hTw2.far hb3; have hB3 := hB2.trans (hb3.mono hB2.size); have hcp2 := HS3.out w3 v2' hB3 hTw3; clear hhd)
          | (go_at_call 20; refine hcp2.mono ?_; rintro e w4 ⟨f4, v4, rfl, ho4, hTw4, hB4⟩; obtain ⟨x4, c4, rfl⟩ := ho4.isSlice; have hlv := HLV.out w4 hB4; clear hcp2 ho4)
          | (go_at_call 12; refine hlv.mono ?_; rintro e w5 ⟨rfl, hb5⟩; have hTw5 := hTw4.far hb5; have hB5 := hB4.trans (hb5.mono hB4.size); have hp5 := chProofs_any _ _ _ _ _ _ w5 hTw5.c; clear hlv)
          | (go_at_call 18; refine hp5.mono ?_; rintro e w6 ⟨f6, rfl, ho6, hb6⟩; obtain ⟨x6, c6, rfl⟩ := ho6.isSlice; have hTw6 := hTw5.far hb6; have hB6 := hB5.trans (hb6.mono hB5.size); have hp6 := chProofs_any _ _ _ _ _ _ w6 hTw6.d; clear hp5 ho6)
          | (go_at_call 18; refine hp6.mono ?_; rintro e w7 ⟨f7, rfl, ho7, hb7⟩; obtain ⟨x7, c7, rfl⟩ := ho7.isSlice; have hB7 := hB6.trans (hb7.mono hB6.size); clear ho7))
        go_ret
        exact ⟨rfl, hB7⟩)
theorem chainTrue_walkI (x : Option Addr) (len cap : Nat) (ds : List Dc) (n : Int) (w : World) (hd : DeedsC w x len cap ds) (hn : 0 ≤ n ∧ n ≤ 255) (hKT : S.KTab w) :
    Calls Tryd.prog 5 #[.slice x len cap, .int .u8 n] w fun e w' => e = .returned (.bool true) ∧ Below w.heap.size w w' := by
  obtain ⟨m, rfl⟩ := Int.eq_ofNat_of_zero_le hn.1
  exact chainTrue_walk x len cap ds m w hd (by omega) hKT
end Go.Proofs.YtgcidamdbidgiaaDoor
