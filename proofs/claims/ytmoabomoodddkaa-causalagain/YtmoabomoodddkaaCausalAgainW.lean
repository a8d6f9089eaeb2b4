/- CausalAgain, walked. -/
import Derived.Test.YtmoabomoodddkaaRb5
import Derived.Test.YtmoabomoodddkaaGoC
namespace Go.Proofs.Ytmoabomoodddkaa
open Go.RowKit Go.Shelf
set_option maxRecDepth 20000
set_option linter.unusedSimpArgs false
theorem refN_known {S : List Int} {L : List Ev} {e : Ev} (hr : rightB e = true) (hh : hasB S e.da e.ds = true) : refN S L e = 5 := by
  unfold refN
  rw [if_neg (by rw [hr]; decide), if_pos hh]
theorem refN_waits {S : List Int} {L : List Ev} {e : Ev} (hr : rightB e = true) (hs : sortedE L) (he : e ∈ L) : refN S L e = 5 := by
  unfold refN
  rw [if_neg (by rw [hr]; decide)]
  by_cases hh : hasB S e.da e.ds = true
  · rw [if_pos hh]
  · rw [if_neg hh, lookE_some hs he]
    simp only
    rw [if_pos (evEq_refl e)]
theorem BothB.known {n : Nat} {w w' : World} {H b R : Nat} {S : List Int} {L : List Ev} (h : BothB n w H b R S L) (hC : BufC w' H b S L) (hT : Turn (fun k => k = b ∨ k = H) w w') : BothB n w' H b R S L :=
  ⟨hC, by obtain ⟨x, c, hr⟩ := h.ref; exact ⟨x, c, hr.turn h.code hT⟩, h.good, h.rt⟩
theorem put_known (n H b : Nat) (S : List Int) (L : List Ev) (e : Ev) (w : World) (hC : BufC w H b S L) (g : Good n S L) (he : e.Ok) (hn : refN S L e = 5) :
    Calls Try.prog 28 #[.pointer (some ⟨H, 0, none⟩), .agg e.cells.toArray] w fun r w' => r = .returned (.tuple #[.slice none 0 0, .int .i64 5]) ∧ Below w.heap.size w w' := by
  have := put_no H b S L e w hC he g.few (by rw [hn]; decide)
  rw [hn] at this; exact this
set_option maxHeartbeats 16000000 in
theorem cag_walk (x : Option Addr) (len cap : Nat) (ds : List Ev) (w : World) (hd : EvsAt w x len cap ds) :
    Calls Try.prog 9 #[.slice x len cap] w fun e w' => e = .returned (.bool true) ∧ Below w.heap.size w w' := by
  have hdl := hd.len_eq
  have HDL := Veil.mk hdl
  clear hdl
  have uE := Try.underlying37
  have uD := Try.underlying26
  have hpl := play_any x len cap ds w hd
  go_enter Try.func9, Try.ntmps9
  go_wp2_with (first
    | (go_at_call 12; refine (clive_any _).mono ?_; rintro e w2 ⟨rfl, g2⟩)
    | (go_at_call 25; refine hpl.mono ?_; rintro e w1 ⟨H, b, R, rfl, ⟨n, hn, S, L, hBB⟩, hB1, -, -, -⟩))
  have hBB2 := hBB.far g2
  have hB2 := hB1.trans (g2.mono hB1.size)
  clear hpl hBB hB1 g2
  go_loopw [6] (fun p wr => ∃ k : Nat, k ≤ len ∧ k ≤ 80 ∧ p = .int .i64 (k : Nat) ∧ BothB n wr H b R S L ∧ Below w.heap.size w wr) (fun p _ => len - (intOf p).toNat)
  case atStart => exact ⟨0, Nat.zero_le _, by omega, rfl, hBB2, hB2⟩
  case round =>
    obtain ⟨k, hk, hk80, rfl, hBB, hB⟩ := hrel
    clear hBB2 hB2
    by_cases h12 : k < len ∧ k < 80
    · obtain ⟨h1, h2⟩ := h12
      have h1i : (k : Int) < (len : Int) := by omega
      have h2i : (k : Int) < 80 := by omega
      have hkd : k < ds.length := by have := HDL.out; omega
      obtain ⟨eb, off, rfl, hre0⟩ := hd.rng k hkd
      have hok := hd.ok ds[k] (List.getElem_mem hkd)
      have HBB := Veil.mk hBB
      have HOK := Veil.mk hok
      have hw1 : IntKind.i64.wrap ((k : Int) + 1) = (k : Int) + 1 := by rw [IntKind.wrap_i64]; omega
      have iE : (Try.prog.info? 37).map (·.size) = some ds[k].cells.length := by rw [ev_len _ hok.past]; kernel_rfl
      have iD : (Try.prog.info? 26).map (·.size) = some (dotC ds[k].da ds[k].ds).length := sizeDot
      have hrd0 : w.rangeAt eb (off + k * 17) (dotC ds[k].da ds[k].ds) := fun j u hu => hre0 j u (by
        have := (ev_parts ds[k] hok.past).1
        rw [← this, List.drop_zero, List.getElem?_take] at hu
        split at hu
        · exact hu
        · cases hu)
      have HRE : Veil (∀ W, Below w.heap.size w W → W.rangeAt eb (off + k * 17) ds[k].cells ∧ W.rangeAt eb (off + k * 17) (dotC ds[k].da ds[k].ds)) := ⟨fun W hq => ⟨fun i v hv => (hq.cell (block_lt_of_cell (hre0 i v hv))).trans (hre0 i v hv), fun i v hv => (hq.cell (block_lt_of_cell (hrd0 i v hv))).trans (hrd0 i v hv)⟩⟩
      have HSN : Veil (∀ W, BufC W H b S L → Calls Try.prog 29 #[.pointer (some ⟨H, 0, none⟩)] W fun r w' => r = .returned (.agg (S.map (Value.int .u32)).toArray) ∧ Below W.heap.size W w') := ⟨fun W h => seen_any H b S L W h⟩
      have HHS : Veil (∀ W, Calls Try.prog 14 #[.agg (S.map (Value.int .u32)).toArray, .agg (dotC ds[k].da ds[k].ds).toArray] W fun x w' => x = .returned (.bool (hasB S ds[k].da ds[k].ds)) ∧ Below W.heap.size W w') := ⟨fun W => rhas_ok S _ _ W hBB.good.len hok.dot⟩
      have HRT : Veil (∀ W, Calls Try.prog 20 #[.agg ds[k].cells.toArray] W fun x w' => x = .returned (.bool (rightB ds[k])) ∧ Below W.heap.size W w') := ⟨fun W => rright_ok _ W hok⟩
      have HPK : Veil (rightB ds[k] = true → hasB S ds[k].da ds[k].ds = true → ∀ W, BufC W H b S L → Calls Try.prog 28 #[.pointer (some ⟨H, 0, none⟩), .agg ds[k].cells.toArray] W fun r w' => r = .returned (.tuple #[.slice none 0 0, .int .i64 5]) ∧ Below W.heap.size W w') := ⟨fun q1 q2 W h => put_known n H b S L _ W h hBB.good hok (refN_known q1 q2)⟩
      generalize hasB S ds[k].da ds[k].ds = HS at HHS HPK
      generalize rightB ds[k] = RT at HRT HPK
      generalize dotC ds[k].da ds[k].ds = DV at HRE HHS iD
      generalize ds[k].cells = E at HRE HRT iE HPK
      generalize S.map (Value.int .u32) = SV at HSN HHS
      clear hre0 hrd0 hok hBB
      go_upto_region 7 with fail
      refine wp_region_gateT (fun w' => w'.rangeAt eb (off + k * 17) E ∧ w'.rangeAt eb (off + k * 17) DV) (fun _ => True) 99 (by kernel_rfl) ?_
      have hT : (fun w' : World => w'.rangeAt eb (off + k * 17) E ∧ w'.rangeAt eb (off + k * 17) DV) wr.drew := HRE.out _ hB.drew
      have hS : (fun _ : World => True) wr.drew := trivial
      refine wpAnyT_held (i := 0) (v := ?_) rfl (by kernel_rfl) (by kernel_rfl) (by kernel_rfl) (fun _ _ _ h => h) (by kernel_rfl) hT (fun _ => hS) (by kernel_rfl) ?_ ?_
      rotate_left
      · intro wx hSw; go_split_ands; go_simp; try with_reducible rfl
      simp only [Act.put, List.getElem_toArray, List.getElem_cons_succ, List.getElem_cons_zero, List.setIfInBounds_toArray, List.set_cons_zero, List.set_cons_succ]
      refine wpAnyT_held (i := 2) (v := ?_) rfl (by kernel_rfl) (by kernel_rfl) (by kernel_rfl) (fun _ _ _ h => h) (by kernel_rfl) hT (fun _ => hS) (by kernel_rfl) ?_ ?_
      rotate_left
      · intro wx hSw; go_split_ands; go_simp; try with_reducible rfl
      simp only [Act.put, List.getElem_toArray, List.getElem_cons_succ, List.getElem_cons_zero, List.setIfInBounds_toArray, List.set_cons_zero, List.set_cons_succ]
      refine wpAnyT_held (i := 3) (v := ?_) rfl (by kernel_rfl) (by kernel_rfl) (by kernel_rfl) (fun _ _ _ h => h) (by kernel_rfl) hT (fun _ => hS) (by kernel_rfl) ?_ ?_
      rotate_left
      · intro wx hSw; go_split_ands; go_simp; try with_reducible rfl
      simp only [Act.put, List.getElem_toArray, List.getElem_cons_succ, List.getElem_cons_zero, List.setIfInBounds_toArray, List.set_cons_zero, List.set_cons_succ]
      refine wpAnyT_held (i := 4) (v := ?_) rfl (by kernel_rfl) (by kernel_rfl) (by kernel_rfl) (fun _ _ _ h => h) (by kernel_rfl) hT (fun _ => hS) (by kernel_rfl) ?_ ?_
      rotate_left
      · intro wx hSw; go_split_ands; go_simp; try with_reducible rfl
      simp only [Act.put, List.getElem_toArray, List.getElem_cons_succ, List.getElem_cons_zero, List.setIfInBounds_toArray, List.set_cons_zero, List.set_cons_succ]
      refine wpAnyT_held (i := 5) (v := ?_) rfl (by kernel_rfl) (by kernel_rfl) (by kernel_rfl) (fun _ _ _ h => h) (by kernel_rfl) hT (fun _ => hS) (by kernel_rfl) ?_ ?_
      rotate_left
      · intro wx hSw; go_split_ands; go_simp; try with_reducible rfl
      simp only [Act.put, List.getElem_toArray, List.getElem_cons_succ, List.getElem_cons_zero, List.setIfInBounds_toArray, List.set_cons_zero, List.set_cons_succ]
      refine wpAnyT_load (i := 6) (dst := some 41) (ty := 26) (x := .tmp 40) (b := eb) (o := ((off + k * 17))) (cs := DV) (by kernel_rfl) (by kernel_rfl) (by kernel_rfl) (by kernel_rfl) (by kernel_rfl) (fun _ _ _ h => h) (by kernel_rfl) hT (fun _ => hS) (by kernel_rfl) (fun _ h => h.2) uD rfl iD ?_
      simp only [Act.put, List.getElem_toArray, List.getElem_cons_succ, List.getElem_cons_zero, List.setIfInBounds_toArray, List.set_cons_zero, List.set_cons_succ]
      refine wpAnyT_one (i := 1) rfl (by kernel_rfl) (by kernel_rfl) (fun K hK => ?_)
      refine wpx_call _ _ (by kernel_rfl) ((HSN.out wr.drew (HBB.out.code.far (Below.refl _ _).drew)).mono ?_)
      rintro z W1 ⟨rfl, q1⟩
      refine ⟨_, rfl, ?_⟩
      have b1 : Below wr.heap.size wr W1 := ((Below.refl _ _).drew).trans (q1.mono (Nat.le_refl _))
      have hB1 := hB.trans (b1.mono hB.size)
      replace hT : (fun w' : World => w'.rangeAt eb (off + k * 17) E ∧ w'.rangeAt eb (off + k * 17) DV) W1 := HRE.out _ hB1
      replace hS : (fun _ : World => True) W1 := trivial
      refine hK.out _ _ hT (fun _ => hS) ?_
      clear hK K
      try simp only [Act.put, List.getElem_toArray, List.getElem_cons_succ, List.getElem_cons_zero, List.setIfInBounds_toArray, List.set_cons_zero, List.set_cons_succ]
      refine wpAnyT_one (i := 7) rfl (by kernel_rfl) (by kernel_rfl) (fun K hK => ?_)
      refine wpx_call _ _ (by kernel_rfl) ((HHS.out W1).mono ?_)
      rintro z W2 ⟨rfl, q2⟩
      refine ⟨_, rfl, ?_⟩
      have b2 : Below wr.heap.size wr W2 := b1.trans (q2.mono b1.size)
      have hB2 := hB.trans (b2.mono hB.size)
      replace hT : (fun w' : World => w'.rangeAt eb (off + k * 17) E ∧ w'.rangeAt eb (off + k * 17) DV) W2 := HRE.out _ hB2
      replace hS : (fun _ : World => True) W2 := trivial
      refine hK.out _ _ hT (fun _ => hS) ?_
      clear hK K
      try simp only [Act.put, List.getElem_toArray, List.getElem_cons_succ, List.getElem_cons_zero, List.setIfInBounds_toArray, List.set_cons_zero, List.set_cons_succ]
      clear q1 q2 b1 hB1
      cases HS
      · skip
        refine wpAnyT_held (i := 8) (v := ?_) rfl (by kernel_rfl) (by kernel_rfl) (by kernel_rfl) (fun _ _ _ h => h) (by kernel_rfl) hT (fun _ => hS) (by kernel_rfl) ?_ ?_
        rotate_left
        · intro wx hSw; go_split_ands; go_simp; try with_reducible rfl
        simp only [Act.put, List.getElem_toArray, List.getElem_cons_succ, List.getElem_cons_zero, List.setIfInBounds_toArray, List.set_cons_zero, List.set_cons_succ]
        refine wpAnyT_held (i := 9) (v := ?_) rfl (by kernel_rfl) (by kernel_rfl) (by kernel_rfl) (fun _ _ _ h => h) (by kernel_rfl) hT (fun _ => hS) (by kernel_rfl) ?_ ?_
        rotate_left
        · intro wx hSw; go_split_ands; go_simp; try with_reducible rfl
        simp only [Act.put, List.getElem_toArray, List.getElem_cons_succ, List.getElem_cons_zero, List.setIfInBounds_toArray, List.set_cons_zero, List.set_cons_succ]
        refine wpAnyT_skip (i := 10) rfl (by kernel_rfl) (by kernel_rfl) (by kernel_rfl) (fun _ _ _ h => h) (by kernel_rfl) hT (fun _ => hS) (by kernel_rfl) ?_
        simp only [Act.put, List.getElem_toArray, List.getElem_cons_succ, List.getElem_cons_zero, List.setIfInBounds_toArray, List.set_cons_zero, List.set_cons_succ]
        refine wpAnyT_skip (i := 11) rfl (by kernel_rfl) (by kernel_rfl) (by kernel_rfl) (fun _ _ _ h => h) (by kernel_rfl) hT (fun _ => hS) (by kernel_rfl) ?_
        simp only [Act.put, List.getElem_toArray, List.getElem_cons_succ, List.getElem_cons_zero, List.setIfInBounds_toArray, List.set_cons_zero, List.set_cons_succ]
        refine wpAnyT_skip (i := 12) rfl (by kernel_rfl) (by kernel_rfl) (by kernel_rfl) (fun _ _ _ h => h) (by kernel_rfl) hT (fun _ => hS) (by kernel_rfl) ?_
        simp only [Act.put, List.getElem_toArray, List.getElem_cons_succ, List.getElem_cons_zero, List.setIfInBounds_toArray, List.set_cons_zero, List.set_cons_succ]
        refine wpAnyT_skip (i := 13) rfl (by kernel_rfl) (by kernel_rfl) (by kernel_rfl) (fun _ _ _ h => h) (by kernel_rfl) hT (fun _ => hS) (by kernel_rfl) ?_
        simp only [Act.put, List.getElem_toArray, List.getElem_cons_succ, List.getElem_cons_zero, List.setIfInBounds_toArray, List.set_cons_zero, List.set_cons_succ]
        refine wpAnyT_skip (i := 14) rfl (by kernel_rfl) (by kernel_rfl) (by kernel_rfl) (fun _ _ _ h => h) (by kernel_rfl) hT (fun _ => hS) (by kernel_rfl) ?_
        simp only [Act.put, List.getElem_toArray, List.getElem_cons_succ, List.getElem_cons_zero, List.setIfInBounds_toArray, List.set_cons_zero, List.set_cons_succ]
        refine wpAnyT_skip (i := 15) rfl (by kernel_rfl) (by kernel_rfl) (by kernel_rfl) (fun _ _ _ h => h) (by kernel_rfl) hT (fun _ => hS) (by kernel_rfl) ?_
        simp only [Act.put, List.getElem_toArray, List.getElem_cons_succ, List.getElem_cons_zero, List.setIfInBounds_toArray, List.set_cons_zero, List.set_cons_succ]
        refine wpAnyT_held (i := 16) (v := .bool true) rfl (by kernel_rfl) (by kernel_rfl) (by kernel_rfl) (fun _ _ _ h => h) (by kernel_rfl) hT (fun _ => hS) (by kernel_rfl) ?_ ?_
        · intro wx hSw; go_split_ands; go_simp
        simp only [Act.put, List.getElem_toArray, List.getElem_cons_succ, List.getElem_cons_zero, List.setIfInBounds_toArray, List.set_cons_zero, List.set_cons_succ]
        refine wpAnyT_done (by kernel_rfl) ?_ _
        clear hT hS
        go_wp2
        go_roundw
        case rel => exact ⟨k + 1, h1, h2, by push_cast; rfl, HBB.out.far b2, hB2⟩
        case measure => simp [intOf]; omega
      · skip
        refine wpAnyT_held (i := 8) (v := ?_) rfl (by kernel_rfl) (by kernel_rfl) (by kernel_rfl) (fun _ _ _ h => h) (by kernel_rfl) hT (fun _ => hS) (by kernel_rfl) ?_ ?_
        rotate_left
        · intro wx hSw; go_split_ands; go_simp; try with_reducible rfl
        simp only [Act.put, List.getElem_toArray, List.getElem_cons_succ, List.getElem_cons_zero, List.setIfInBounds_toArray, List.set_cons_zero, List.set_cons_succ]
        refine wpAnyT_held (i := 9) (v := ?_) rfl (by kernel_rfl) (by kernel_rfl) (by kernel_rfl) (fun _ _ _ h => h) (by kernel_rfl) hT (fun _ => hS) (by kernel_rfl) ?_ ?_
        rotate_left
        · intro wx hSw; go_split_ands; go_simp; try with_reducible rfl
        simp only [Act.put, List.getElem_toArray, List.getElem_cons_succ, List.getElem_cons_zero, List.setIfInBounds_toArray, List.set_cons_zero, List.set_cons_succ]
        refine wpAnyT_held (i := 10) (v := ?_) rfl (by kernel_rfl) (by kernel_rfl) (by kernel_rfl) (fun _ _ _ h => h) (by kernel_rfl) hT (fun _ => hS) (by kernel_rfl) ?_ ?_
        rotate_left
        · intro wx hSw; go_split_ands; go_simp; try with_reducible rfl
        simp only [Act.put, List.getElem_toArray, List.getElem_cons_succ, List.getElem_cons_zero, List.setIfInBounds_toArray, List.set_cons_zero, List.set_cons_succ]
        refine wpAnyT_held (i := 11) (v := ?_) rfl (by kernel_rfl) (by kernel_rfl) (by kernel_rfl) (fun _ _ _ h => h) (by kernel_rfl) hT (fun _ => hS) (by kernel_rfl) ?_ ?_
        rotate_left
        · intro wx hSw; go_split_ands; go_simp; try with_reducible rfl
        simp only [Act.put, List.getElem_toArray, List.getElem_cons_succ, List.getElem_cons_zero, List.setIfInBounds_toArray, List.set_cons_zero, List.set_cons_succ]
        refine wpAnyT_held (i := 12) (v := ?_) rfl (by kernel_rfl) (by kernel_rfl) (by kernel_rfl) (fun _ _ _ h => h) (by kernel_rfl) hT (fun _ => hS) (by kernel_rfl) ?_ ?_
        rotate_left
        · intro wx hSw; go_split_ands; go_simp; try with_reducible rfl
        simp only [Act.put, List.getElem_toArray, List.getElem_cons_succ, List.getElem_cons_zero, List.setIfInBounds_toArray, List.set_cons_zero, List.set_cons_succ]
        refine wpAnyT_load (i := 13) (dst := some 48) (ty := 37) (x := .tmp 47) (b := eb) (o := ((off + k * 17))) (cs := E) (by kernel_rfl) (by kernel_rfl) (by kernel_rfl) (by kernel_rfl) (by kernel_rfl) (fun _ _ _ h => h) (by kernel_rfl) hT (fun _ => hS) (by kernel_rfl) (fun _ h => h.1) uE rfl iE ?_
        simp only [Act.put, List.getElem_toArray, List.getElem_cons_succ, List.getElem_cons_zero, List.setIfInBounds_toArray, List.set_cons_zero, List.set_cons_succ]
        refine wpAnyT_one (i := 14) rfl (by kernel_rfl) (by kernel_rfl) (fun K hK => ?_)
        refine wpx_call _ _ (by kernel_rfl) ((HRT.out W2).mono ?_)
        rintro z W3 ⟨rfl, q3⟩
        refine ⟨_, rfl, ?_⟩
        have b3 : Below wr.heap.size wr W3 := b2.trans (q3.mono b2.size)
        have hB3 := hB.trans (b3.mono hB.size)
        replace hT : (fun w' : World => w'.rangeAt eb (off + k * 17) E ∧ w'.rangeAt eb (off + k * 17) DV) W3 := HRE.out _ hB3
        replace hS : (fun _ : World => True) W3 := trivial
        refine hK.out _ _ hT (fun _ => hS) ?_
        clear hK K
        try simp only [Act.put, List.getElem_toArray, List.getElem_cons_succ, List.getElem_cons_zero, List.setIfInBounds_toArray, List.set_cons_zero, List.set_cons_succ]
        clear q3 b2 hB2
        cases RT
        · skip
          refine wpAnyT_held (i := 15) (v := ?_) rfl (by kernel_rfl) (by kernel_rfl) (by kernel_rfl) (fun _ _ _ h => h) (by kernel_rfl) hT (fun _ => hS) (by kernel_rfl) ?_ ?_
          rotate_left
          · intro wx hSw; go_split_ands; go_simp; try with_reducible rfl
          simp only [Act.put, List.getElem_toArray, List.getElem_cons_succ, List.getElem_cons_zero, List.setIfInBounds_toArray, List.set_cons_zero, List.set_cons_succ]
          refine wpAnyT_held (i := 16) (v := .bool true) rfl (by kernel_rfl) (by kernel_rfl) (by kernel_rfl) (fun _ _ _ h => h) (by kernel_rfl) hT (fun _ => hS) (by kernel_rfl) ?_ ?_
          · intro wx hSw; go_split_ands; go_simp
          simp only [Act.put, List.getElem_toArray, List.getElem_cons_succ, List.getElem_cons_zero, List.setIfInBounds_toArray, List.set_cons_zero, List.set_cons_succ]
          refine wpAnyT_done (by kernel_rfl) ?_ _
          clear hT hS
          go_wp2
          go_roundw
          case rel => exact ⟨k + 1, h1, h2, by push_cast; rfl, HBB.out.far b3, hB3⟩
          case measure => simp [intOf]; omega
        · skip
          refine wpAnyT_held (i := 15) (v := ?_) rfl (by kernel_rfl) (by kernel_rfl) (by kernel_rfl) (fun _ _ _ h => h) (by kernel_rfl) hT (fun _ => hS) (by kernel_rfl) ?_ ?_
          rotate_left
          · intro wx hSw; go_split_ands; go_simp; try with_reducible rfl
          simp only [Act.put, List.getElem_toArray, List.getElem_cons_succ, List.getElem_cons_zero, List.setIfInBounds_toArray, List.set_cons_zero, List.set_cons_succ]
          refine wpAnyT_held (i := 16) (v := .bool false) rfl (by kernel_rfl) (by kernel_rfl) (by kernel_rfl) (fun _ _ _ h => h) (by kernel_rfl) hT (fun _ => hS) (by kernel_rfl) ?_ ?_
          · intro wx hSw; go_split_ands; go_simp
          simp only [Act.put, List.getElem_toArray, List.getElem_cons_succ, List.getElem_cons_zero, List.setIfInBounds_toArray, List.set_cons_zero, List.set_cons_succ]
          refine wpAnyT_done (by kernel_rfl) ?_ _
          clear hT hS
          have hre := (HRE.out W3 hB3).1
          have hpk := HPK.out rfl rfl W3 (HBB.out.code.far b3)
          go_wp2_with (first
            | (refine wpList_ldv rfl 37 _ rfl eb (off + k * 17) rfl E hre uE rfl iE ?_)
            | (go_at_call 28; refine hpk.mono ?_; rintro e W4 ⟨rfl, q4⟩))
          have b4 : Below wr.heap.size wr W4 := b3.trans (q4.mono b3.size)
          go_roundw
          case rel => exact ⟨k + 1, h1, h2, by push_cast; rfl, HBB.out.far b4, hB.trans (b4.mono hB.size)⟩
          case measure => simp [intOf]; omega
    · have hcase : ¬ (k : Int) < (len : Int) ∨ ((k : Int) < (len : Int) ∧ ¬ (k : Int) < 80) := by omega
      have HBB := Veil.mk hBB
      have hwt := waiting_any H b S L wr hBB.code hBB.good.few
      have hok := hBB.good.ok
      have HPK : Veil (∀ e ∈ L, ∀ W, BufC W H b S L → Calls Try.prog 28 #[.pointer (some ⟨H, 0, none⟩), .agg e.cells.toArray] W fun r w' => r = .returned (.tuple #[.slice none 0 0, .int .i64 5]) ∧ Below W.heap.size W w') := ⟨fun e he W h => put_known n H b S L _ W h hBB.good (hBB.good.ok e he) (refN_waits (hBB.rt e he) hBB.good.srt he)⟩
      have HSA : Veil (∀ W, BothB n W H b R S L → Calls Try.prog 26 #[.pointer (some ⟨H, 0, none⟩), .pointer (some ⟨R, 0, none⟩)] W fun e w' => e = .returned (.bool true) ∧ Below W.heap.size W w') := ⟨fun W h => bsame_any n H b R S L W h⟩
      have HLL : Veil (L.length ≤ 16) := ⟨hBB.good.few⟩
      clear hBB hd hk
      rcases hcase with h1i | ⟨h1i, h2i⟩
      all_goals
        go_wp2_with (go_at_call 30; refine hwt.mono ?_; rintro e W1 ⟨v, rfl, hO, q1⟩; obtain ⟨y, c, rfl⟩ := hO.isSlice; rw [List.length_map] at hO ⊢)
        have hB1 := hB.trans (q1.mono hB.size)
        have HO := Veil.mk hO
        have HB1 := Veil.mk (HBB.out.far q1)
        clear hO hwt
        go_loopw [10] (fun p wr2 => ∃ j : Nat, j ≤ L.length ∧ p = .int .i64 (j : Nat) ∧ Below W1.heap.size W1 wr2) (fun p _ => L.length - (intOf p).toNat)
        case atStart => exact ⟨0, Nat.zero_le _, rfl, Below.refl _ _⟩
        case round =>
          obtain ⟨j, hj, rfl, hbj⟩ := hrel
          by_cases hjl : j < L.length
          · have hji : (j : Int) < (L.length : Int) := by omega
            obtain ⟨g, rfl, -, hxr⟩ := (HO.out.far hbj).at_ j (by rw [List.length_map]; exact hjl)
            rw [List.getElem_map] at hxr
            have hxk := hok L[j] (List.getElem_mem hjl)
            have iX : (Try.prog.info? 37).map (·.size) = some L[j].cells.length := by rw [ev_len _ hxk.past]; kernel_rfl
            have hpk := HPK.out L[j] (List.getElem_mem hjl) wr (HB1.out.code.far hbj)
            have hw2 : IntKind.i64.wrap ((j : Int) + 1) = (j : Int) + 1 := by rw [IntKind.wrap_i64]; have := HLL.out; omega
            generalize L[j].cells = XC at hxr iX hpk
            clear hxk
            go_wp2_with (first
              | (refine wpList_ldv rfl 37 _ rfl g (j * 17) rfl XC hxr uE rfl iX ?_)
              | (go_at_call 28; refine hpk.mono ?_; rintro e W4 ⟨rfl, q4⟩))
            go_roundw
            case rel => exact ⟨j + 1, hjl, by push_cast; rfl, hbj.trans (q4.mono hbj.size)⟩
            case measure => simp [intOf]; omega
          · have hji : ¬ (j : Int) < (L.length : Int) := by omega
            have hsa := HSA.out wr (HB1.out.far hbj)
            go_wp2_with (go_at_call 26; refine hsa.mono ?_; rintro e W5 ⟨rfl, q5⟩)
            go_ret
            have b5 := hbj.trans (q5.mono hbj.size)
            exact ⟨rfl, hB1.trans (b5.mono hB1.size)⟩
end Go.Proofs.Ytmoabomoodddkaa
