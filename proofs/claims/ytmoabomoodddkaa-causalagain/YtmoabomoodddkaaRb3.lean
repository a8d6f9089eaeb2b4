/- The reference's 'answer': those that may be taken now, one behind the other. -/
import Derived.Test.YtmoabomoodddkaaRb2
namespace Go.Proofs.Ytmoabomoodddkaa
open Go.RowKit Go.Shelf
set_option maxRecDepth 20000
set_option linter.unusedSimpArgs false
structure AnsP (R : Nat) (S : List Int) (L : List Ev) (w : World) (v : Value) (w' : World) : Prop where
  out : ∃ ys S2 L2 x2 c2, Takes S L ys S2 L2 ∧ RefC w' R S2 L2 x2 c2 ∧ OwnI w' w.heap.size 37 17 v (ys.map Ev.cells) ∧ Turn (fun k => k = R) w w'
set_option maxHeartbeats 16000000 in
theorem answer_any (R : Nat) (S : List Int) (L : List Ev) (x : Option Addr) (c : Nat) (w : World) (hC : RefC w R S L x c) (hG : Gd S L) (hL : L.length ≤ 1000) :
    Calls Try.prog 48 #[.pointer (some ⟨R, 0, none⟩)] w fun r w' => ∃ v, r = .returned v ∧ AnsP R S L w v w' := by
  have uE := Try.underlying37
  have uV := Try.underlying24
  go_enter Try.func48, Try.ntmps48
  go_wp2
  go_loopw [3] (fun p wr => ∃ S1 L1 x1 c1 ys, RefC wr R S1 L1 x1 c1 ∧ OwnI wr w.heap.size 37 17 p (ys.map Ev.cells) ∧ Turn (fun k => k = R) w wr ∧ Gd S1 L1 ∧ ys.length + L1.length ≤ 1000 ∧ (∀ zs S2 L2, Takes S1 L1 zs S2 L2 → Takes S L (ys ++ zs) S2 L2)) (fun _ wr => waitLen wr R)
  case atStart => exact ⟨S, L, x, c, [], hC, OwnI.nil _ _ _ _, Turn.refl _ _, hG, by simpa using hL, fun zs S2 L2 h => h⟩
  case round =>
    obtain ⟨S1, L1, x1, c1, ys, hC1, hO1, hT1, hG1, hl1, hTK⟩ := hrel
    clear hC hG hL
    have HTK := Veil.mk hTK
    have HG1 := Veil.mk hG1
    obtain ⟨sx, sc, rfl⟩ := hO1.isSlice
    rw [List.length_map] at hO1 ⊢
    clear hTK hG1
    go_wp2
    go_loopw [4, 5] (fun p q wr2 => ∃ i : Nat, i ≤ L1.length ∧ q = .int .i64 (i : Nat) ∧ Below wr.heap.size wr wr2 ∧ ((p = .int .i64 (-1) ∧ ∀ j (hj : j < L1.length), j < i → readyB S1 L1[j] = false) ∨ ∃ a : Nat, p = .int .i64 (a : Nat) ∧ ∃ ha : a < L1.length, readyB S1 L1[a] = true ∧ ∀ j (hj : j < L1.length), j < a → readyB S1 L1[j] = false)) (fun _ q _ => L1.length - (intOf q).toNat)
    case atStart => exact ⟨0, Nat.zero_le _, rfl, Below.refl _ _, .inl ⟨rfl, fun j _ h => absurd h (Nat.not_lt_zero _)⟩⟩
    case round =>
      obtain ⟨i, hi, rfl, hb, hp⟩ := hrel
      have hC2 := hC1.far hb
      have hwc := hC2.waitC
      rcases hp with ⟨rfl, hno⟩ | ⟨a, rfl, ha, hra, hno⟩
      · by_cases hil : i < L1.length
        · have hii : (i : Int) < (L1.length : Int) := by omega
          obtain ⟨g, rfl, -, hxr⟩ := hC2.own.at_ i (by rw [List.length_map]; exact hil)
          rw [List.getElem_map] at hxr
          have hsr := hC2.seenR
          have hxk := HG1.out.ok L1[i] (List.getElem_mem hil)
          have HRD : Veil (∀ W, Calls Try.prog 22 #[.agg (S1.map (Value.int .u32)).toArray, .agg L1[i].cells.toArray] W fun r w' => r = .returned (.bool (readyB S1 L1[i])) ∧ Below W.heap.size W w') := ⟨fun W => rready_any S1 L1[i] W hC2.len (fun q hq => by have := HG1.out.rng q hq; omega) hxk.past hxk.dot.1.1 hxk.dot.2.1 (by have := hxk.dot.2.2; omega) hxk.par.1.1 hxk.par.2.1⟩
          have iV : (Try.prog.info? 24).map (·.size) = some (S1.map (Value.int .u32)).length := by rw [List.length_map, hC2.len]; exact sizeV8c
          have iX : (Try.prog.info? 37).map (·.size) = some L1[i].cells.length := by rw [ev_len _ hxk.past]; kernel_rfl
          have HT : Veil (∀ W, Below wr.heap.size wr W → W.rangeAt R 0 (S1.map (Value.int .u32)) ∧ W.cell? ⟨R, 9, none⟩ = some (.slice (some ⟨g, 0, none⟩) L1.length c1) ∧ W.rangeAt g (i * 17) L1[i].cells) := ⟨fun W hq => ⟨(hC2.far hq).seenR, (hC2.far hq).waitC, fun i v hv => (hq.cell (block_lt_of_cell (hxr i v hv))).trans (hxr i v hv)⟩⟩
          have hw2 : IntKind.i64.wrap ((i : Int) + 1) = (i : Int) + 1 := by rw [IntKind.wrap_i64]; omega
          have HRB : Veil (∃ RB, readyB S1 L1[i] = RB) := ⟨_, rfl⟩
          obtain ⟨RB, hRB⟩ := HRB.out
          have HRB2 := Veil.mk hRB
          rw [hRB] at HRD
          generalize L1[i].cells = XC at HRD iX HT
          generalize S1.map (Value.int .u32) = SV at HRD iV HT
          clear hxr hxk hsr HRB hRB hC2
          go_upto_region 6 with fail
          refine wp_region_gateT (fun w' => w'.rangeAt R 0 SV ∧ w'.cell? ⟨R, 9, none⟩ = some (.slice (some ⟨g, 0, none⟩) L1.length c1) ∧ w'.rangeAt g (i * 17) XC) (fun _ => True) 99 (by kernel_rfl) ?_
          have hT : (fun w' : World => w'.rangeAt R 0 SV ∧ w'.cell? ⟨R, 9, none⟩ = some (.slice (some ⟨g, 0, none⟩) L1.length c1) ∧ w'.rangeAt g (i * 17) XC) wr.drew := HT.out _ (Below.refl _ _).drew
          have hS : (fun _ : World => True) wr.drew := trivial
          refine wpAnyT_held (i := 0) (v := ?_) rfl (by kernel_rfl) (by kernel_rfl) (by kernel_rfl) (fun _ _ _ h => h) (by kernel_rfl) hT (fun _ => hS) (by kernel_rfl) ?_ ?_
          rotate_left
          · intro wx hSw; go_split_ands; go_simp; try with_reducible rfl
          simp only [Act.put, List.getElem_toArray, List.getElem_cons_succ, List.getElem_cons_zero, List.setIfInBounds_toArray, List.set_cons_zero, List.set_cons_succ]
          refine wpAnyT_held (i := 1) (v := ?_) rfl (by kernel_rfl) (by kernel_rfl) (by kernel_rfl) (fun _ _ _ h => h) (by kernel_rfl) hT (fun _ => hS) (by kernel_rfl) ?_ ?_
          rotate_left
          · intro wx hSw; go_split_ands; go_simp; try with_reducible rfl
          simp only [Act.put, List.getElem_toArray, List.getElem_cons_succ, List.getElem_cons_zero, List.setIfInBounds_toArray, List.set_cons_zero, List.set_cons_succ]
          refine wpAnyT_held (i := 2) (v := ?_) rfl (by kernel_rfl) (by kernel_rfl) (by kernel_rfl) (fun _ _ _ h => h) (by kernel_rfl) hT (fun _ => hS) (by kernel_rfl) ?_ ?_
          rotate_left
          · intro wx hSw; go_split_ands; go_simp; try with_reducible rfl
          simp only [Act.put, List.getElem_toArray, List.getElem_cons_succ, List.getElem_cons_zero, List.setIfInBounds_toArray, List.set_cons_zero, List.set_cons_succ]
          refine wpAnyT_load (i := 3) (dst := some 24) (ty := 24) (x := .tmp 23) (b := R) (o := (0)) (cs := SV) (by kernel_rfl) (by kernel_rfl) (by kernel_rfl) (by kernel_rfl) (by kernel_rfl) (fun _ _ _ h => h) (by kernel_rfl) hT (fun _ => hS) (by kernel_rfl) (fun _ h => h.1) uV rfl iV ?_
          simp only [Act.put, List.getElem_toArray, List.getElem_cons_succ, List.getElem_cons_zero, List.setIfInBounds_toArray, List.set_cons_zero, List.set_cons_succ]
          refine wpAnyT_held (i := 4) (v := ?_) rfl (by kernel_rfl) (by kernel_rfl) (by kernel_rfl) (fun _ _ _ h => h) (by kernel_rfl) hT (fun _ => hS) (by kernel_rfl) ?_ ?_
          rotate_left
          · intro wx hSw; go_split_ands; go_simp; try with_reducible rfl
          simp only [Act.put, List.getElem_toArray, List.getElem_cons_succ, List.getElem_cons_zero, List.setIfInBounds_toArray, List.set_cons_zero, List.set_cons_succ]
          refine wpAnyT_held (i := 5) (v := ?_) rfl (by kernel_rfl) (by kernel_rfl) (by kernel_rfl) (fun _ _ _ h => h) (by kernel_rfl) hT (fun _ => hS) (by kernel_rfl) ?_ ?_
          rotate_left
          · intro wx hSw; go_split_ands; go_simp; try with_reducible rfl
          simp only [Act.put, List.getElem_toArray, List.getElem_cons_succ, List.getElem_cons_zero, List.setIfInBounds_toArray, List.set_cons_zero, List.set_cons_succ]
          refine wpAnyT_held (i := 6) (v := ?_) rfl (by kernel_rfl) (by kernel_rfl) (by kernel_rfl) (fun _ _ _ h => h) (by kernel_rfl) hT (fun _ => hS) (by kernel_rfl) ?_ ?_
          rotate_left
          · intro wx hSw; go_split_ands; go_simp; try with_reducible rfl
          simp only [Act.put, List.getElem_toArray, List.getElem_cons_succ, List.getElem_cons_zero, List.setIfInBounds_toArray, List.set_cons_zero, List.set_cons_succ]
          refine wpAnyT_held (i := 7) (v := ?_) rfl (by kernel_rfl) (by kernel_rfl) (by kernel_rfl) (fun _ _ _ h => h) (by kernel_rfl) hT (fun _ => hS) (by kernel_rfl) ?_ ?_
          rotate_left
          · intro wx hSw; go_split_ands; go_simp; try with_reducible rfl
          simp only [Act.put, List.getElem_toArray, List.getElem_cons_succ, List.getElem_cons_zero, List.setIfInBounds_toArray, List.set_cons_zero, List.set_cons_succ]
          refine wpAnyT_held (i := 8) (v := ?_) rfl (by kernel_rfl) (by kernel_rfl) (by kernel_rfl) (fun _ _ _ h => h) (by kernel_rfl) hT (fun _ => hS) (by kernel_rfl) ?_ ?_
          rotate_left
          · intro wx hSw; go_split_ands; go_simp; try with_reducible rfl
          simp only [Act.put, List.getElem_toArray, List.getElem_cons_succ, List.getElem_cons_zero, List.setIfInBounds_toArray, List.set_cons_zero, List.set_cons_succ]
          refine wpAnyT_held (i := 9) (v := ?_) rfl (by kernel_rfl) (by kernel_rfl) (by kernel_rfl) (fun _ _ _ h => h) (by kernel_rfl) hT (fun _ => hS) (by kernel_rfl) ?_ ?_
          rotate_left
          · intro wx hSw; go_split_ands; go_simp; try with_reducible rfl
          simp only [Act.put, List.getElem_toArray, List.getElem_cons_succ, List.getElem_cons_zero, List.setIfInBounds_toArray, List.set_cons_zero, List.set_cons_succ]
          refine wpAnyT_load (i := 10) (dst := some 31) (ty := 37) (x := .tmp 30) (b := g) (o := ((i * 17))) (cs := XC) (by kernel_rfl) (by kernel_rfl) (by kernel_rfl) (by kernel_rfl) (by kernel_rfl) (fun _ _ _ h => h) (by kernel_rfl) hT (fun _ => hS) (by kernel_rfl) (fun _ h => h.2.2) uE rfl iX ?_
          simp only [Act.put, List.getElem_toArray, List.getElem_cons_succ, List.getElem_cons_zero, List.setIfInBounds_toArray, List.set_cons_zero, List.set_cons_succ]
          refine wpAnyT_one (i := 11) rfl (by kernel_rfl) (by kernel_rfl) (fun K hK => ?_)
          refine wpx_call _ _ (by kernel_rfl) ((HRD.out _).mono ?_)
          rintro x W3 ⟨rfl, hq⟩
          refine ⟨_, rfl, ?_⟩
          have hb3 : Below wr.heap.size wr W3 := ((Below.refl _ _).drew).trans (hq.mono (Nat.le_refl _))
          clear hq
          replace hT : (fun w' : World => w'.rangeAt R 0 SV ∧ w'.cell? ⟨R, 9, none⟩ = some (.slice (some ⟨g, 0, none⟩) L1.length c1) ∧ w'.rangeAt g (i * 17) XC) W3 := HT.out _ hb3
          replace hS : (fun _ : World => True) W3 := trivial
          refine hK.out _ _ hT (fun _ => hS) ?_
          clear hK K
          try simp only [Act.put, List.getElem_toArray, List.getElem_cons_succ, List.getElem_cons_zero, List.setIfInBounds_toArray, List.set_cons_zero, List.set_cons_succ]
          refine wpAnyT_done (by kernel_rfl) ?_ _
          clear hT hS
          cases RB
          · go_wp2
            go_roundw
            case rel =>
              refine ⟨i + 1, hil, by push_cast; rfl, hb.trans (hb3.mono hb.size), .inl ⟨rfl, fun j hj hji => ?_⟩⟩
              by_cases e : j = i
              · subst e; exact HRB2.out
              · exact hno j hj (by omega)
            case measure => simp [intOf]; omega
          · go_wp2
            go_roundw
            case rel => exact ⟨i + 1, hil, by push_cast; rfl, hb.trans (hb3.mono hb.size), .inr ⟨i, rfl, hil, HRB2.out, hno⟩⟩
            case measure => simp [intOf]; omega
        · have hii : ¬ (i : Int) < (L1.length : Int) := by omega
          have hFN : Veil (firstR S1 L1 = none) := ⟨by
            unfold firstR
            rw [List.find?_eq_none]
            intro e he
            obtain ⟨j, hj, rfl⟩ := List.getElem_of_mem he
            rw [hno j hj (by omega)]; simp⟩
          go_wp2
          go_ret
          refine ⟨_, rfl, ⟨ys, S1, L1, x1, c1, ?_, hC2, hO1.far hb, hT1.trans (Turn.of_below hb)⟩⟩
          have := HTK.out [] S1 L1 (Takes.done S1 L1 (.inr hFN.out))
          rw [List.append_nil] at this; exact this
      · have hFS : Veil (firstR S1 L1 = some L1[a]) := ⟨by
          unfold firstR
          rw [List.find?_eq_some_iff_getElem]
          exact ⟨hra, a, ha, rfl, fun j hj => by rw [hno j (by omega) hj]; rfl⟩⟩
        have hcase : (i : Int) < (L1.length : Int) ∨ ¬ (i : Int) < (L1.length : Int) := by omega
        have hmc := hC2.manyC
        have han : ¬ (a : Int) < 0 := by omega
        rcases hcase with hii | hii
        all_goals
          by_cases hfu : 512 ≤ sumS S1
          · have HFU : Veil (fullB S1 = true) := ⟨decide_eq_true hfu⟩
            generalize sumS S1 = MS at hmc hfu
            go_wp2
            go_ret
            refine ⟨_, rfl, ⟨ys, S1, L1, x1, c1, ?_, hC2, hO1.far hb, hT1.trans (Turn.of_below hb)⟩⟩
            have := HTK.out [] S1 L1 (Takes.done S1 L1 (.inl HFU.out))
            rw [List.append_nil] at this; exact this
          · have HFU : Veil (fullB S1 = false) := ⟨decide_eq_false hfu⟩
            obtain ⟨g, rfl, -, hxr⟩ := hC2.own.at_ a (by rw [List.length_map]; exact ha)
            rw [List.getElem_map] at hxr
            have hxk := HG1.out.ok L1[a] (List.getElem_mem ha)
            have HXK := Veil.mk hxk
            have iX : (Try.prog.info? 37).map (·.size) = some L1[a].cells.length := by rw [ev_len _ hxk.past]; kernel_rfl
            have hZE : evZ17.length = L1[a].cells.length := by rw [ev_len _ hxk.past]; rfl
            have h1X := ev_one L1[a]
            have haI : (a : Int) < (L1.length : Int) := by omega
            have hMn := sumS_nn HG1.out.rng
            have HNO : Veil (∀ j (hj : j < L1.length), j < a → readyB S1 L1[j] = false) := ⟨hno⟩
            have HRA := Veil.mk hra
            obtain ⟨XC, hXC⟩ : ∃ XC, L1[a].cells = XC := ⟨_, rfl⟩
            rw [hXC] at hxr iX hZE h1X
            obtain ⟨MS, hMS⟩ : ∃ MS, sumS S1 = MS := ⟨_, rfl⟩
            have HMS := Veil.mk hMS
            have HXC := Veil.mk hXC
            rw [hMS] at hmc hfu hMn
            have HMW : Veil (IntKind.i64.wrap (MS + 1) = MS + 1) := ⟨by rw [IntKind.wrap_i64]; omega⟩
            clear hxk hno hra hMS hXC
            go_upto_region 12 with (first
              | (refine wpList_ldv rfl 37 _ rfl g (a * 17) rfl XC hxr uE rfl iX ?_)
              | (refine wpList_stv rfl 37 _ _ rfl wr.heap.size rfl rfl (CellsAt.new wr 37 evZ17) iX hZE h1X ?_))
            have hB1 : Below wr.heap.size wr ((wr.alloc (.cells evZ17.toArray 37)).setRow wr.heap.size XC.toArray) := ⟨rfl, rfl, rfl, by simp [World.setRow, World.putObj], fun k hk => (setRow_other _ _ _ _ (by omega)).trans (Below.heap_alloc wr _ k hk)⟩
            refine forget (p := fun y => Code.wp _ _ _ _ y) (fun W => Below wr.heap.size wr W ∧ CellsAt W wr.heap.size 37 XC) ⟨hB1, (CellsAt.new wr 37 evZ17).setRow XC⟩ ?_
            clear hB1 hxr hwc hmc hZE
            rintro W1 ⟨hB1, hE6⟩
            have hC3 := (hC2.far hB1).far (Below.refl W1.heap.size W1).drew
            have hwc3 := hC3.waitC
            have hok1 := HG1.out.ok
            have hcap : L1.length ≤ c1 := by
              rcases hC3.own.own.2 with ⟨q, _⟩ | ⟨_, _, _, q, _, _, h, _⟩
              · cases q
              · injection q with _ _ q3
                rw [List.length_map, ← q3] at h; exact h
            obtain ⟨v1, V2, hr1, ho1, hg1, hb1⟩ := (OwnI.nil W1.drew W1.heap.size 37 17).appAt ⟨g, 0, none⟩ c1 ((L1.take a).map Ev.cells) (evLen (fun e he => hok1 e (List.mem_of_mem_take he))) (evOne _) (sub_src hC3.own hok1 [] (L1.take a) (L1.drop a) (by simp)) (by simp; omega) (Nat.le_refl _)
            have hC4 := hC3.congr (hg1.block R hC3.cells.lt (fun q => by cases q)) (fun k hk => hg1.block k (hC3.own.blockLt k hk).1 (fun q => by cases q))
            have hwc4 := hC4.waitC
            obtain ⟨A2, hA2⟩ : ∃ A2 : Addr, (if c1 = a + 1 then some (⟨g, 0, none⟩ : Addr) else some ⟨g, (a + 1) * 17, none⟩) = some A2 := by split <;> exact ⟨_, rfl⟩
            obtain ⟨v2, V3, hr2, ho2, hg2, hb2⟩ := ho1.appAt A2 (c1 - (a + 1)) ((L1.drop (a + 1)).map Ev.cells) (evLen (fun e he => hok1 e (List.mem_of_mem_drop he))) (evOne _) (fun j u hu => by
              split at hA2
              · rw [List.drop_of_length_le (by omega)] at hu; cases hu
              · cases hA2
                have := sub_src hC4.own hok1 (L1.take (a + 1)) (L1.drop (a + 1)) [] (by simp) j u hu
                rw [List.length_take, Nat.min_eq_left (by omega)] at this; exact this) (by simp; omega) hg1.size
            rw [List.length_map, List.length_take, Nat.min_eq_left (by omega)] at hr1
            rw [List.length_map, List.length_drop] at hr2
            have haw : IntKind.i64.wrap ((a : Int) + 1) = (a : Int) + 1 := by rw [IntKind.wrap_i64]; omega
            have hac : (a : Int) ≤ (c1 : Int) := by omega
            have ha0 : (0 : Int) ≤ (a : Int) + 1 := by omega
            have htn : ((a : Int) + 1).toNat = a + 1 := by omega
            have haL : (a : Int) + 1 ≤ (L1.length : Int) := by omega
            have hLc : (L1.length : Int) ≤ (c1 : Int) := by omega
            have hRv : ∀ k, v1.ownBlock = some k → k ≠ R := fun k hk e => by
              have h1 := (ho1.blockLt k hk).2.1
              have h2 := hC3.cells.lt
              have h3 : R < W1.heap.size := h2
              omega
            have hT3 : V3.cell? ⟨R, 9, none⟩ = some (.slice (some ⟨g, 0, none⟩) L1.length c1) := (World.cell?_of_block (a := ⟨R, 9, none⟩) (hg2.block R hC4.cells.lt (fun q => hRv R q.symm rfl))).trans hwc4
            obtain ⟨y2, d2, hv2⟩ := ho2.isSlice
            obtain ⟨n2, hn2⟩ : ∃ n, (([] ++ (L1.take a).map Ev.cells) ++ (L1.drop (a + 1)).map Ev.cells).length = n := ⟨_, rfl⟩
            rw [hn2] at hv2
            have HN2 := Veil.mk hn2
            clear hn2
            subst hv2
            have HR3 : Veil (CellsAt V3 R 68 (refCells S1 (.slice (some ⟨g, 0, none⟩) L1.length c1))) := ⟨hC4.cells.congr (hg2.block R hC4.cells.lt (fun q => hRv R q.symm rfl))⟩
            have HE7 : Veil (CellsAt V3 wr.heap.size 37 XC) := ⟨((hE6.congr (w' := W1.drew) rfl).congr (hg1.block _ hE6.lt (fun q => by cases q))).congr (hg2.block _ (Nat.lt_of_lt_of_le hE6.lt hg1.size) (fun q => by have := (ho1.blockLt _ q.symm).2.1; have := hE6.lt; omega))⟩
            have HBV : Veil (Below wr.heap.size wr V3) := ⟨((hB1.drew).grown hg1 hB1.size (fun q e => by cases e)).grown hg2 (Nat.le_trans hB1.size hg1.size) (fun k hk => by have h1 := (ho1.blockLt k hk).2.1; have h2 := hB1.size; omega)⟩
            have HR1 := Veil.mk hr1
            have HR2 := Veil.mk hr2
            have HO2 := Veil.mk ho2
            have HG2 := Veil.mk hg2
            have HG3 := Veil.mk hg1
            have HHB := Veil.mk (And.intro hb1 hb2)
            have HC4 := Veil.mk hC4
            have HE6 := Veil.mk hE6
            have HC1 := Veil.mk hC1
            have HC2 := Veil.mk hC2
            have HO1 := Veil.mk (hO1.far hb)
            clear hr1 hr2 ho2 hg2 hg1 hb1 hb2 hC4 hE6 hC1 hC2 hO1 ho1 hRv hcap hC3 hok1 hfu
            refine wp_region_gateT (fun w' => w'.cell? ⟨R, 9, none⟩ = some (.slice (some ⟨g, 0, none⟩) L1.length c1)) (fun _ => True) 99 (by kernel_rfl) ?_
            have hT : (fun w' : World => w'.cell? ⟨R, 9, none⟩ = some (.slice (some ⟨g, 0, none⟩) L1.length c1)) W1.drew := hwc3
            have hS : (fun _ : World => True) W1.drew := trivial
            refine wpAnyT_held (i := 0) (v := ?_) rfl (by kernel_rfl) (by kernel_rfl) (by kernel_rfl) (fun _ _ _ h => h) (by kernel_rfl) hT (fun _ => hS) (by kernel_rfl) ?_ ?_
            rotate_left
            · intro wx hSw; go_split_ands; go_simp; try with_reducible rfl
            simp only [Act.put, List.getElem_toArray, List.getElem_cons_succ, List.getElem_cons_zero, List.setIfInBounds_toArray, List.set_cons_zero, List.set_cons_succ]
            refine wpAnyT_held (i := 1) (v := ?_) rfl (by kernel_rfl) (by kernel_rfl) (by kernel_rfl) (fun _ _ _ h => h) (by kernel_rfl) hT (fun _ => hS) (by kernel_rfl) ?_ ?_
            rotate_left
            · intro wx hSw; go_split_ands; go_simp; try with_reducible rfl
            simp only [Act.put, List.getElem_toArray, List.getElem_cons_succ, List.getElem_cons_zero, List.setIfInBounds_toArray, List.set_cons_zero, List.set_cons_succ]
            refine wpAnyT_held (i := 2) (v := ?_) rfl (by kernel_rfl) (by kernel_rfl) (by kernel_rfl) (fun _ _ _ h => h) (by kernel_rfl) hT (fun _ => hS) (by kernel_rfl) ?_ ?_
            rotate_left
            · intro wx hSw; go_split_ands; go_simp; try with_reducible rfl
            simp only [Act.put, List.getElem_toArray, List.getElem_cons_succ, List.getElem_cons_zero, List.setIfInBounds_toArray, List.set_cons_zero, List.set_cons_succ]
            refine wpAnyT_held (i := 3) (v := ?_) rfl (by kernel_rfl) (by kernel_rfl) (by kernel_rfl) (fun _ _ _ h => h) (by kernel_rfl) hT (fun _ => hS) (by kernel_rfl) ?_ ?_
            rotate_left
            · intro wx hSw; go_split_ands; go_simp; try with_reducible rfl
            simp only [Act.put, List.getElem_toArray, List.getElem_cons_succ, List.getElem_cons_zero, List.setIfInBounds_toArray, List.set_cons_zero, List.set_cons_succ]
            refine wpAnyT_held (i := 4) (v := ?_) rfl (by kernel_rfl) (by kernel_rfl) (by kernel_rfl) (fun _ _ _ h => h) (by kernel_rfl) hT (fun _ => hS) (by kernel_rfl) ?_ ?_
            rotate_left
            · intro wx hSw; go_split_ands; go_simp; try with_reducible rfl
            simp only [Act.put, List.getElem_toArray, List.getElem_cons_succ, List.getElem_cons_zero, List.setIfInBounds_toArray, List.set_cons_zero, List.set_cons_succ]
            refine wpAnyT_held (i := 5) (v := ?_) rfl (by kernel_rfl) (by kernel_rfl) (by kernel_rfl) (fun _ _ _ h => h) (by kernel_rfl) hT (fun _ => hS) (by kernel_rfl) ?_ ?_
            rotate_left
            · intro wx hSw; go_split_ands; go_simp; try with_reducible rfl
            simp only [Act.put, List.getElem_toArray, List.getElem_cons_succ, List.getElem_cons_zero, List.setIfInBounds_toArray, List.set_cons_zero, List.set_cons_succ]
            refine wpAnyT_held (i := 6) (v := ?_) rfl (by kernel_rfl) (by kernel_rfl) (by kernel_rfl) (fun _ _ _ h => h) (by kernel_rfl) hT (fun _ => hS) (by kernel_rfl) ?_ ?_
            rotate_left
            · intro wx hSw; go_split_ands; go_simp; try with_reducible rfl
            simp only [Act.put, List.getElem_toArray, List.getElem_cons_succ, List.getElem_cons_zero, List.setIfInBounds_toArray, List.set_cons_zero, List.set_cons_succ]
            refine wpAnyT_held (i := 8) (v := ?_) rfl (by kernel_rfl) (by kernel_rfl) (by kernel_rfl) (fun _ _ _ h => h) (by kernel_rfl) hT (fun _ => hS) (by kernel_rfl) ?_ ?_
            rotate_left
            · intro wx hSw; go_split_ands; go_simp; try with_reducible rfl
            simp only [Act.put, List.getElem_toArray, List.getElem_cons_succ, List.getElem_cons_zero, List.setIfInBounds_toArray, List.set_cons_zero, List.set_cons_succ]
            refine wpAnyT_held (i := 9) (v := ?_) rfl (by kernel_rfl) (by kernel_rfl) (by kernel_rfl) (fun _ _ _ h => h) (by kernel_rfl) hT (fun _ => hS) (by kernel_rfl) ?_ ?_
            rotate_left
            · intro wx hSw; go_split_ands; go_simp; try with_reducible rfl
            simp only [Act.put, List.getElem_toArray, List.getElem_cons_succ, List.getElem_cons_zero, List.setIfInBounds_toArray, List.set_cons_zero, List.set_cons_succ]
            refine wpAnyT_held (i := 10) (v := ?_) rfl (by kernel_rfl) (by kernel_rfl) (by kernel_rfl) (fun _ _ _ h => h) (by kernel_rfl) hT (fun _ => hS) (by kernel_rfl) ?_ ?_
            rotate_left
            · intro wx hSw; go_split_ands; go_simp; try with_reducible rfl
            simp only [Act.put, List.getElem_toArray, List.getElem_cons_succ, List.getElem_cons_zero, List.setIfInBounds_toArray, List.set_cons_zero, List.set_cons_succ]
            refine wpAnyT_held (i := 11) (v := ?_) rfl (by kernel_rfl) (by kernel_rfl) (by kernel_rfl) (fun _ _ _ h => h) (by kernel_rfl) hT (fun _ => hS) (by kernel_rfl) ?_ ?_
            rotate_left
            · intro wx hSw; go_split_ands; go_simp; try with_reducible rfl
            simp only [Act.put, List.getElem_toArray, List.getElem_cons_succ, List.getElem_cons_zero, List.setIfInBounds_toArray, List.set_cons_zero, List.set_cons_succ]
            refine wpAnyT_held (i := 12) (v := ?_) rfl (by kernel_rfl) (by kernel_rfl) (by kernel_rfl) (fun _ _ _ h => h) (by kernel_rfl) hT (fun _ => hS) (by kernel_rfl) ?_ ?_
            rotate_left
            · intro wx hSw; go_split_ands; go_simp; try with_reducible rfl
            simp only [Act.put, List.getElem_toArray, List.getElem_cons_succ, List.getElem_cons_zero, List.setIfInBounds_toArray, List.set_cons_zero, List.set_cons_succ]
            refine wpAnyT_held (i := 13) (v := ?_) rfl (by kernel_rfl) (by kernel_rfl) (by kernel_rfl) (fun _ _ _ h => h) (by kernel_rfl) hT (fun _ => hS) (by kernel_rfl) ?_ ?_
            rotate_left
            · intro wx hSw; go_split_ands; go_simp; try with_reducible rfl
            simp only [Act.put, List.getElem_toArray, List.getElem_cons_succ, List.getElem_cons_zero, List.setIfInBounds_toArray, List.set_cons_zero, List.set_cons_succ]
            refine wpAnyT_held (i := 14) (v := .slice (some A2) (L1.length - (a + 1)) (c1 - (a + 1))) rfl (by kernel_rfl) (by kernel_rfl) (by kernel_rfl) (fun _ _ _ h => h) (by kernel_rfl) hT (fun _ => hS) (by kernel_rfl) ?_ ?_
            · intro wx hSw; go_split_ands; go_simp
            simp only [Act.put, List.getElem_toArray, List.getElem_cons_succ, List.getElem_cons_zero, List.setIfInBounds_toArray, List.set_cons_zero, List.set_cons_succ]
            refine wpAnyT_one (i := 7) rfl (by kernel_rfl) (by kernel_rfl) (fun K hK => ?_)
            refine wpx_app _ _ _ _ rfl _ _ _ V2 rfl rfl HR1.out ?_
            replace hT : (fun w' : World => w'.cell? ⟨R, 9, none⟩ = some (.slice (some ⟨g, 0, none⟩) L1.length c1)) V2 := hwc4
            replace hS : (fun _ : World => True) V2 := trivial
            refine hK.out _ _ hT (fun _ => hS) ?_
            clear hK K
            try simp only [Act.put, List.getElem_toArray, List.getElem_cons_succ, List.getElem_cons_zero, List.setIfInBounds_toArray, List.set_cons_zero, List.set_cons_succ]
            refine wpAnyT_one (i := 15) rfl (by kernel_rfl) (by kernel_rfl) (fun K hK => ?_)
            refine wpx_app _ _ _ _ rfl _ _ _ V3 rfl rfl HR2.out ?_
            replace hT : (fun w' : World => w'.cell? ⟨R, 9, none⟩ = some (.slice (some ⟨g, 0, none⟩) L1.length c1)) V3 := hT3
            replace hS : (fun _ : World => True) V3 := trivial
            refine hK.out _ _ hT (fun _ => hS) ?_
            clear hK K
            try simp only [Act.put, List.getElem_toArray, List.getElem_cons_succ, List.getElem_cons_zero, List.setIfInBounds_toArray, List.set_cons_zero, List.set_cons_succ]
            refine wpAnyT_held (i := 16) (v := ?_) rfl (by kernel_rfl) (by kernel_rfl) (by kernel_rfl) (fun _ _ _ h => h) (by kernel_rfl) hT (fun _ => hS) (by kernel_rfl) ?_ ?_
            rotate_left
            · intro wx hSw; go_split_ands; go_simp; try with_reducible rfl
            simp only [Act.put, List.getElem_toArray, List.getElem_cons_succ, List.getElem_cons_zero, List.setIfInBounds_toArray, List.set_cons_zero, List.set_cons_succ]
            refine wpAnyT_done (by kernel_rfl) ?_ _
            clear hT hS hwc3 hwc4 haw hac ha0 htn haL hLc
            have hf9 := HR3.out.frozen 9
            go_upto_region 14 with fail
            refine forget (p := fun y => Code.wp _ _ _ _ y) (fun W => CellsAt W R 68 ((refCells S1 (.slice (some ⟨g, 0, none⟩) L1.length c1)).set 9 (.slice y2 n2 d2)) ∧ Turn (fun k => k = R) V3 W) ⟨HR3.out.set 9 _, Turn.of_setCell (p := fun k => k = R) V3 (a := ⟨R, 9, none⟩) rfl _⟩ ?_
            clear hf9
            rintro W5 ⟨hR5, hT5⟩
            have hl8 := HC2.out.len
            have hm5 : W5.cell? ⟨R, 8, none⟩ = some (.int .i64 MS) := by
              rw [hR5.cell, List.getElem?_set_ne (by omega), refCells, List.getElem?_append_right (by rw [List.length_map, hl8]; exact Nat.le_refl _), List.length_map, hl8, HMS.out]; rfl
            have hf8 := hR5.frozen 8
            have hMw := HMW.out
            have HR5 := Veil.mk hR5
            clear hR5
            go_upto_region 15 with fail
            refine forget (p := fun y => Code.wp _ _ _ _ y) (fun W => CellsAt W R 68 (((refCells S1 (.slice (some ⟨g, 0, none⟩) L1.length c1)).set 9 (.slice y2 n2 d2)).set 8 (.int .i64 (MS + 1))) ∧ Turn (fun k => k = R) W5 W) ⟨HR5.out.set 8 _, Turn.of_setCell (p := fun k => k = R) W5 (a := ⟨R, 8, none⟩) rfl _⟩ ?_
            clear hf8 hMw hm5
            rintro W6 ⟨hR6, hT6⟩
            have hRB : R ≠ wr.heap.size := fun q => by have := HC2.out.cells.lt; omega
            have hE8 : CellsAt W6 wr.heap.size 37 XC := (HE7.out.congr (hT5.block _ HE7.out.lt (fun q => hRB q.symm))).congr (hT6.block _ (Nat.lt_of_lt_of_le HE7.out.lt hT5.size) (fun q => hRB q.symm))
            obtain ⟨hrb, hsd⟩ := ready_right HRA.out
            have hbd := right_bounds HXK.out.dot.2.1 hrb
            obtain ⟨dn, hdn⟩ := Int.eq_ofNat_of_zero_le HXK.out.dot.1.1
            have hdn8 : dn < 8 := by omega
            have hdi : (dn : Int) < 8 := by omega
            have hdi0 : (0 : Int) ≤ (dn : Int) := by omega
            obtain ⟨q, hq⟩ : ∃ q, S1[dn]?.getD 0 = q := ⟨_, rfl⟩
            have hqr : q = L1[a].ds - 1 := by rw [← hq, ← hsd, hdn]; rfl
            have hqw : IntKind.u32.wrap (q + 1) = q + 1 := by simp [IntKind.wrap, IntKind.bits, IntKind.signed]; omega
            have cx6 : W6.cell? ⟨R, dn, none⟩ = some (.int .u32 q) := by
              rw [hR6.cell, List.getElem?_set_ne (by omega), List.getElem?_set_ne (by omega), refCells, List.getElem?_append_left (by rw [List.length_map]; omega), List.getElem?_map, List.getElem?_eq_getElem (by omega), ← hq, List.getElem?_eq_getElem (by omega)]; rfl
            have fx6 := hR6.frozen dn
            have ca6 : W6.cell? ⟨wr.heap.size, 0, none⟩ = some (.int .u8 (dn : Int)) := by rw [hE8.cell, ← HXC.out, ← hdn]; rfl
            have HR6 : Veil (CellsAt (W6.drew.setCell ⟨R, dn, none⟩ (.int .u32 (q + 1))) R 68 (refCells (incS S1 L1[a].da) (.slice y2 n2 d2))) := ⟨by
              have h7 := (hR6.congr (w' := W6.drew) rfl).set dn (.int .u32 (q + 1))
              rw [← HMS.out, ← hq, refCells_upd S1 _ _ dn hl8 hdn8, ← hdn, hq] at h7
              exact h7⟩
            have HE8 := Veil.mk hE8
            have HT6 := Veil.mk (hT5.trans hT6)
            clear hq hqr hsd hrb hbd hdn hE8 hR6 hT5 hT6 hRB
            refine wp_region_gate (fun w' => w'.cell? ⟨wr.heap.size, 0, none⟩ = some (.int .u8 (dn : Int)) ∧ w'.cell? ⟨R, dn, none⟩ = some (.int .u32 q)) 12 (by kernel_rfl) ?_
            have hS : (fun w' : World => w'.cell? ⟨wr.heap.size, 0, none⟩ = some (.int .u8 (dn : Int)) ∧ w'.cell? ⟨R, dn, none⟩ = some (.int .u32 q)) W6.drew := ⟨ca6, cx6⟩
            refine wpAnyG_any (i := 0) (v := ?_) rfl (by kernel_rfl) (by kernel_rfl) (by kernel_rfl) (fun _ _ _ h => h) (by kernel_rfl) (fun _ => hS) (by kernel_rfl) ?_ ?_
            rotate_left
            · intro _; go_simp; try with_reducible rfl
            simp only [Act.put, List.getElem_toArray, List.getElem_cons_succ, List.getElem_cons_zero, List.setIfInBounds_toArray, List.set_cons_zero, List.set_cons_succ]
            refine wpAnyG_any (i := 1) (v := ?_) rfl (by kernel_rfl) (by kernel_rfl) (by kernel_rfl) (fun _ _ _ h => h) (by kernel_rfl) (fun _ => hS) (by kernel_rfl) ?_ ?_
            rotate_left
            · intro _; go_simp; try with_reducible rfl
            simp only [Act.put, List.getElem_toArray, List.getElem_cons_succ, List.getElem_cons_zero, List.setIfInBounds_toArray, List.set_cons_zero, List.set_cons_succ]
            refine wpAnyG_any (i := 2) (v := ?_) rfl (by kernel_rfl) (by kernel_rfl) (by kernel_rfl) (fun _ _ _ h => h) (by kernel_rfl) (fun _ => hS) (by kernel_rfl) ?_ ?_
            rotate_left
            · intro _; go_simp; try with_reducible rfl
            simp only [Act.put, List.getElem_toArray, List.getElem_cons_succ, List.getElem_cons_zero, List.setIfInBounds_toArray, List.set_cons_zero, List.set_cons_succ]
            refine wpAnyG_read (i := 3) (v := ?_) rfl (by kernel_rfl) (by kernel_rfl) (by kernel_rfl) (fun _ _ _ h => h) (by kernel_rfl) (by kernel_rfl) (by kernel_rfl) hS (by kernel_rfl) ?_ ?_
            rotate_left
            · intro wx hSw; go_split_ands; go_simp; try with_reducible rfl
            simp only [Act.put, List.getElem_toArray, List.getElem_cons_succ, List.getElem_cons_zero, List.setIfInBounds_toArray, List.set_cons_zero, List.set_cons_succ]
            refine wpAnyG_any (i := 4) (v := ?_) rfl (by kernel_rfl) (by kernel_rfl) (by kernel_rfl) (fun _ _ _ h => h) (by kernel_rfl) (fun _ => hS) (by kernel_rfl) ?_ ?_
            rotate_left
            · intro _; go_simp; try with_reducible rfl
            simp only [Act.put, List.getElem_toArray, List.getElem_cons_succ, List.getElem_cons_zero, List.setIfInBounds_toArray, List.set_cons_zero, List.set_cons_succ]
            refine wpAnyG_any (i := 5) (v := ?_) rfl (by kernel_rfl) (by kernel_rfl) (by kernel_rfl) (fun _ _ _ h => h) (by kernel_rfl) (fun _ => hS) (by kernel_rfl) ?_ ?_
            rotate_left
            · intro _; go_simp; try with_reducible rfl
            simp only [Act.put, List.getElem_toArray, List.getElem_cons_succ, List.getElem_cons_zero, List.setIfInBounds_toArray, List.set_cons_zero, List.set_cons_succ]
            refine wpAnyG_any (i := 6) (v := ?_) rfl (by kernel_rfl) (by kernel_rfl) (by kernel_rfl) (fun _ _ _ h => h) (by kernel_rfl) (fun _ => hS) (by kernel_rfl) ?_ ?_
            rotate_left
            · intro _; go_simp; try with_reducible rfl
            simp only [Act.put, List.getElem_toArray, List.getElem_cons_succ, List.getElem_cons_zero, List.setIfInBounds_toArray, List.set_cons_zero, List.set_cons_succ]
            refine wpAnyG_read (i := 7) (v := ?_) rfl (by kernel_rfl) (by kernel_rfl) (by kernel_rfl) (fun _ _ _ h => h) (by kernel_rfl) (by kernel_rfl) (by kernel_rfl) hS (by kernel_rfl) ?_ ?_
            rotate_left
            · intro wx hSw; go_split_ands; go_simp; try with_reducible rfl
            simp only [Act.put, List.getElem_toArray, List.getElem_cons_succ, List.getElem_cons_zero, List.setIfInBounds_toArray, List.set_cons_zero, List.set_cons_succ]
            refine wpAnyG_any (i := 8) (v := .int .u32 (q + 1)) rfl (by kernel_rfl) (by kernel_rfl) (by kernel_rfl) (fun _ _ _ h => h) (by kernel_rfl) (fun _ => hS) (by kernel_rfl) ?_ ?_
            · intro _; go_simp
            simp only [Act.put, List.getElem_toArray, List.getElem_cons_succ, List.getElem_cons_zero, List.setIfInBounds_toArray, List.set_cons_zero, List.set_cons_succ]
            refine wpAnyG_any (i := 9) (v := ?_) rfl (by kernel_rfl) (by kernel_rfl) (by kernel_rfl) (fun _ _ _ h => h) (by kernel_rfl) (fun _ => hS) (by kernel_rfl) ?_ ?_
            rotate_left
            · intro _; go_simp; try with_reducible rfl
            simp only [Act.put, List.getElem_toArray, List.getElem_cons_succ, List.getElem_cons_zero, List.setIfInBounds_toArray, List.set_cons_zero, List.set_cons_succ]
            refine wpAnyG_any (i := 10) (v := ?_) rfl (by kernel_rfl) (by kernel_rfl) (by kernel_rfl) (fun _ _ _ h => h) (by kernel_rfl) (fun _ => hS) (by kernel_rfl) ?_ ?_
            rotate_left
            · intro _; go_simp; try with_reducible rfl
            simp only [Act.put, List.getElem_toArray, List.getElem_cons_succ, List.getElem_cons_zero, List.setIfInBounds_toArray, List.set_cons_zero, List.set_cons_succ]
            refine wpAnyG_any (i := 11) (v := ?_) rfl (by kernel_rfl) (by kernel_rfl) (by kernel_rfl) (fun _ _ _ h => h) (by kernel_rfl) (fun _ => hS) (by kernel_rfl) ?_ ?_
            rotate_left
            · intro _; go_simp; try with_reducible rfl
            simp only [Act.put, List.getElem_toArray, List.getElem_cons_succ, List.getElem_cons_zero, List.setIfInBounds_toArray, List.set_cons_zero, List.set_cons_succ]
            refine wpAnyG_one (i := 12) rfl (by kernel_rfl) (by kernel_rfl) (fun K hK => ?_)
            go_simp
            refine hK.out _ _ (fun h => absurd (show true = false from h) (by decide)) ?_
            clear hK K
            try simp only [Act.put, List.getElem_toArray, List.getElem_cons_succ, List.getElem_cons_zero, List.setIfInBounds_toArray, List.set_cons_zero, List.set_cons_succ]
            refine wpAnyG_done (by kernel_rfl) ?_ _
            have HT7 : Veil (Turn (fun k => k = R) V3 (W6.drew.setCell ⟨R, dn, none⟩ (.int .u32 (q + 1)))) := ⟨HT6.out.trans ((Turn.of_below (Below.refl _ _).drew).trans (Turn.of_setCell (p := fun k => k = R) W6.drew (a := ⟨R, dn, none⟩) rfl _))⟩
            have hRl : R < wr.heap.size := HC2.out.cells.lt
            rw [show (W6.setCell ⟨R, dn, none⟩ (.int .u32 (q + 1))).drew = W6.drew.setCell ⟨R, dn, none⟩ (.int .u32 (q + 1)) from rfl]
            refine forget (p := fun y => Exit.then _ _ _ _ y) (fun W => CellsAt W R 68 (refCells (incS S1 L1[a].da) (.slice y2 n2 d2)) ∧ CellsAt W wr.heap.size 37 XC ∧ OwnI W W1.heap.size 37 17 (.slice y2 n2 d2) (([] ++ (L1.take a).map Ev.cells) ++ (L1.drop (a + 1)).map Ev.cells) ∧ OwnI W w.heap.size 37 17 (.slice sx ys.length sc) (ys.map Ev.cells) ∧ Turn (fun k => k = R) wr W) ⟨HR6.out, (HE8.out.congr (w' := W6.drew) rfl).setOtherB _ _ (by show wr.heap.size ≠ R; omega), HO2.out.congr (fun k hk => HT7.out.block k (HO2.out.blockLt k hk).1 (by have h1 := (HO2.out.blockLt k hk).2.1; have h2 := hB1.size; omega)), (HO1.out.far HBV.out).congr (fun k hk => HT7.out.block k ((HO1.out.far HBV.out).blockLt k hk).1 (ownNe HO1.out HC2.out.cells (by decide) k hk)), (Turn.of_below HBV.out).trans HT7.out⟩ ?_
            rintro W7 ⟨hR7, hE7, hN7, hO7, hT7⟩
            have he1 : XC.length = 17 := by rw [← HXC.out]; exact ev_len _ HXK.out.past
            have hrB := hE7.wholeM
            have uS := Try.underlying42
            have hal : Below W7.heap.size W7 (W7.alloc (.cells XC.toArray 37)) := (Below.refl _ _).alloc (Nat.le_refl _) _
            obtain ⟨v9, W9, hrun, ho9, hg9, hb9⟩ := (hO7.far hal).app (P := Try.prog) 42 42 uS infoE17x rfl (by decide) XC he1 h1X W7.heap.size (CellsAt.new W7 37 XC).wholeM (by rw [List.length_map]; omega) (by decide) (by rw [World.size_alloc]; have h1 := hT1.size; have h2 := hb.size; have h3 := hT7.size; omega)
            have hne9 : ∀ k, (Value.slice sx ys.length sc).ownBlock = some k → k ≠ R := ownNe hO7 hR7 (by decide)
            have HR9 : Veil (CellsAt W9 R 68 (refCells (incS S1 L1[a].da) (.slice y2 n2 d2))) := ⟨(hR7.alloc _).congr (hg9.block R (by rw [World.size_alloc]; have := hR7.lt; omega) (fun e => hne9 R e.symm rfl))⟩
            have HN9 : Veil (OwnI W9 0 37 17 (.slice y2 n2 d2) ((L1.take a ++ L1.drop (a + 1)).map Ev.cells)) := ⟨by
              rw [List.map_append]
              rw [List.nil_append] at hN7
              refine ((hN7.far hal).congr (fun k hk => hg9.block k ((hN7.far hal).blockLt k hk).1 (fun e => ?_))).less (Nat.zero_le _)
              have h1 := (hN7.blockLt k hk).2.1
              have h2 := (HO1.out.blockLt k e.symm).1
              have h3 := hB1.size
              omega⟩
            have HT9 : Veil (Turn (fun k => k = R) w W9) := ⟨by
              have h := (hT1.trans (Turn.of_below hb)).trans hT7
              refine ⟨hg9.os.trans h.os, hg9.tape.trans h.tape, hg9.output.trans h.output, Nat.le_trans h.size (Nat.le_trans hal.size hg9.size), fun k hk hn => ?_⟩
              have hk7 : k < W7.heap.size := Nat.lt_of_lt_of_le hk h.size
              exact (hg9.block k (Nat.lt_of_lt_of_le hk7 hal.size) (fun e => by have := (hO7.blockLt k e.symm).2.1; omega)).trans ((Below.heap_alloc W7 _ k hk7).trans (h.block k hk hn))⟩
            have HO9 : Veil (OwnI W9 w.heap.size 37 17 v9 ((ys ++ [L1[a]]).map Ev.cells)) := ⟨by rw [List.map_append, List.map_cons, List.map_nil, HXC.out]; exact ho9⟩
            obtain ⟨s9x, s9c, hv9⟩ := ho9.isSlice
            rw [List.length_append, List.length_map] at hv9
            obtain ⟨n9, hn9⟩ : ∃ n, ys.length + [XC].length = n := ⟨_, rfl⟩
            rw [hn9] at hv9
            obtain ⟨W8, hW8⟩ : ∃ W8, W7.alloc (.cells XC.toArray 37) = W8 := ⟨_, rfl⟩
            clear hb9 hn9 hne9 ho9 hg9 hal hT7 hN7 hR7 hE7 hO7 hRl hW8
            subst hv9
            have hlL : Veil (n2 = (L1.take a ++ L1.drop (a + 1)).length) := ⟨by rw [← HN2.out, List.nil_append, List.length_append, List.length_append, List.length_map, List.length_map]⟩
            go_wp2_with (first
              | (refine wpList_ldv rfl 37 _ rfl wr.heap.size 0 rfl XC hrB uE rfl iX ?_)
              | (refine wpList_bs1 rfl 42 37 _ rfl XC rfl uS (infoE17x) (by decide) (by decide) he1 ?_)
              | (refine wpList_appx rfl _ _ _ _ rfl _ _ _ W9 rfl rfl hrun ?_))
            have HD := del_at HG1.out.srt a ha
            have HRC : RefC W9 R (incS S1 L1[a].da) (L1.take a ++ L1.drop (a + 1)) y2 d2 := ⟨by rw [← hlL.out]; exact HR9.out, by rw [← hlL.out]; exact HN9.out, by rw [incS_len]; exact HC2.out.len⟩
            have hll : (L1.take a ++ L1.drop (a + 1)).length + 1 = L1.length := by rw [List.length_append, List.length_take, List.length_drop]; omega
            go_roundw
            case rel =>
              refine ⟨incS S1 L1[a].da, L1.take a ++ L1.drop (a + 1), y2, d2, ys ++ [L1[a]], HRC, HO9.out, HT9.out, ⟨incS_rng HXK.out.dot.2.1 HG1.out.rng HRA.out, by rw [← HD]; exact sorted_delE HG1.out.srt _, fun e he => HG1.out.ok e (mem_delE (d := L1[a].dot) (by rw [HD]; exact he))⟩, by rw [List.length_append, List.length_singleton]; omega, fun zs S2 L2 h => ?_⟩
              rw [← HD] at h
              have := HTK.out (L1[a] :: zs) S2 L2 (Takes.step S1 L1 L1[a] zs S2 L2 HFU.out hFS.out h)
              rw [List.append_assoc]; exact this
            case measure =>
              rw [HRC.wl, HC1.out.wl]; omega
end Go.Proofs.Ytmoabomoodddkaa
