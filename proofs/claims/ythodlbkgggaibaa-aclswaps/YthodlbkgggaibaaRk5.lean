/- Both books, side by side: what 'play' leaves, and 'same'. -/
import Derived.Test.YthodlbkgggaibaaRk4
import Derived.Test.YthodlbkgggaibaaGoC
namespace Go.Proofs.Ythodlbkgggaibaa
open Go.RowKit Go.Shelf
set_option maxRecDepth 20000
set_option linter.unusedSimpArgs false
theorem EvsAt.rngA {w : World} {x : Option Addr} {len cap : Nat} {ds : List Ev} (h : EvsAt w x len cap ds) (k : Nat) (hk : k < ds.length) : ∃ b off, x = some ⟨b, off, none⟩ ∧ w.rangeAt b (off + k * 17) ds[k].cells := by
  rcases h.at_ with h0 | ⟨b, off, hx, hc⟩
  · have := h.len_eq; omega
  · exact ⟨b, off, hx, fun j v hv => hc k hk j v hv⟩
theorem typesNe {w : World} {k k' t t' : Nat} {cs cs' : List Value} (h : CellsAt w k t cs) (h' : CellsAt w k' t' cs') (ht : t ≠ t') : k ≠ k' := fun e => by
  subst e
  have a : w.heap[k]? = some (.cells cs.toArray t) := h
  have b : w.heap[k]? = some (.cells cs'.toArray t') := h'
  rw [a] at b
  injection b with b
  injection b with _ h2 _
  exact ht h2
theorem mapNeOwn {w : World} {b B t s : Nat} {L : List Ent} {v : Value} {vs : List (List Value)} (h : BookAt w b L) (ho : OwnI w B t s v vs) : ∀ g, v.ownBlock = some g → g ≠ b := fun g hg e => by
  obtain ⟨_, _, cur, hc⟩ := ho.blockLt g hg
  obtain ⟨D, ⟨es, cl, hb, _⟩, _⟩ := h
  rw [e, hb] at hc
  cases hc
theorem RefB.turnB {B : Nat} {w w' : World} {R H b : Nat} {L L1 : List Ent} {x bx : Option Addr} {c bc : Nat} (h : RefB B w R L x c bx bc) (hC : BookC w H b L1) (hT : Turn (fun k => k = b) w w') : RefB B w' R L x c bx bc :=
  h.congr (hT.block R h.cells.lt (fun q => hC.map.cellsNe h.cells q.symm)) (fun g hg => hT.block g (h.ev.blockLt g hg).1 (fun q => mapNeOwn hC.map h.ev g hg q)) (fun g hg => hT.block g (h.bo.blockLt g hg).1 (fun q => mapNeOwn hC.map h.bo g hg q))
theorem BookC.turnO {B : Nat} {w w' : World} {R H b : Nat} {L L1 : List Ent} {x bx : Option Addr} {c bc : Nat} (hC : BookC w H b L1) (h : RefB B w R L x c bx bc) (hT : Turn (OwnR R (.slice x L.length c) (.slice bx L.length bc)) w w') : BookC w' H b L1 := by
  refine hC.congr (hT.block H hC.cells.lt (fun q => ?_)) (hT.block b hC.map.lt (fun q => ?_))
  · rcases q with q | q | q
    · exact typesNe hC.cells h.cells (by decide) q
    · exact ownNeA h.ev hC.cells (by decide) _ q rfl
    · exact ownNeA h.bo hC.cells (by decide) _ q rfl
  · rcases q with q | q | q
    · exact hC.map.cellsNe h.cells q
    · exact mapNeOwn hC.map h.ev _ q rfl
    · exact mapNeOwn hC.map h.bo _ q rfl
/-- Both tell of the same events. -/
structure BothA (B n : Nat) (w : World) (H b R : Nat) (L : List Ent) : Prop where
  code : BookC w H b L
  ref : ∃ x c bx bc, RefB B w R L x c bx bc
  good : GoodB L
  len : L.length ≤ n
  low : B ≤ H ∧ B ≤ b ∧ B ≤ R
theorem BothA.far {B n : Nat} {w w' : World} {H b R : Nat} {L : List Ent} (h : BothA B n w H b R L) (hb : Below w.heap.size w w') : BothA B n w' H b R L :=
  ⟨h.code.far hb, by obtain ⟨x, c, bx, bc, hr⟩ := h.ref; exact ⟨x, c, bx, bc, hr.far hb⟩, h.good, h.len, h.low⟩
/-- All are of these. -/
structure FromL (L : List Ent) (ls : List Ev) : Prop where
  out : ∀ y ∈ L, y.1 ∈ ls
theorem addB_len (L : List Ent) (e : Ev) : (addB L e).length ≤ L.length + 1 := by unfold addB; split <;> simp
theorem addB_mem {L : List Ent} {e : Ev} {y : Ent} (h : y ∈ addB L e) : y ∈ L ∨ y.1 = e := by
  unfold addB at h
  split at h
  · rcases List.mem_append.1 h with q | q
    · exact .inl q
    · rw [List.mem_singleton.1 q]; exact .inr rfl
  · exact .inl h
set_option maxHeartbeats 16000000 in
theorem aplay_any (x : Option Addr) (len cap : Nat) (ds : List Ev) (w : World) (hd : EvsAt w x len cap ds) :
    Calls Try.prog 13 #[.slice x len cap] w fun e w' => ∃ H b R, e = .returned (.tuple #[.pointer (some ⟨H, 0, none⟩), .pointer (some ⟨R, 0, none⟩), .bool true]) ∧ (∃ L, BothA w.heap.size 40 w' H b R L ∧ FromL L (ds.take 40)) ∧ Below w.heap.size w w' := by
  have hdl := hd.len_eq
  have HDL := Veil.mk hdl
  clear hdl
  have uE := Try.underlying41
  have hnew := bnew_any w
  go_enter Try.func13, Try.ntmps13
  go_wp2_with (first
    | (go_at_call 26; refine (rbnew_any w.heap.size w1).mono ?_; rintro e w2 ⟨rfl, hR2, hB2⟩)
    | (go_at_call 24; refine hnew.mono ?_; rintro e w1 ⟨H, b, rfl, hC1, hB1, hb1, hH1⟩))
  have hBw := hB1.trans (hB2.mono hB1.size)
  have hC2 := hC1.far hB2
  have hR0 := hB1.size
  generalize w1.heap.size = R at hR2 hR0 ⊢
  clear hC1 hB1 hB2
  go_loopw [7] (fun p wr => ∃ k : Nat, k ≤ len ∧ k ≤ 40 ∧ p = .int .i64 (k : Nat) ∧ ∃ L, BothA w.heap.size k wr H b R L ∧ (∀ y ∈ L, y.1 ∈ ds.take k) ∧ Below w.heap.size w wr) (fun p _ => len - (intOf p).toNat)
  case atStart => exact ⟨0, Nat.zero_le _, by omega, rfl, [], ⟨hC2, ⟨_, _, _, _, hR2⟩, (fun x hx => by cases hx), by simp, hH1, hb1, hR0⟩, by simp, hBw⟩
  case round =>
    obtain ⟨k, hk, hk40, rfl, L, hBB, hmem, hB⟩ := hrel
    clear hC2 hR2 hBw
    by_cases h12 : k < len ∧ k < 40
    · obtain ⟨h1, h2⟩ := h12
      have h1i : (k : Int) < (len : Int) := by omega
      have h2i : (k : Int) < 40 := by omega
      have hk0 : (0 : Int) ≤ (k : Int) := by omega
      have hkd : k < ds.length := by have := HDL.out; omega
      obtain ⟨eb, off, rfl, hre0⟩ := hd.rngA k hkd
      have hok := hd.ok ds[k] (List.getElem_mem hkd)
      obtain ⟨rx, rc, rbx, rbc, hrf⟩ := hBB.ref
      have hlB := hBB.len
      have hadd := badd_any H b L ds[k] wr.drew (hBB.code.congr rfl rfl) hok (by omega)
      have HRA : Veil (∀ W1, RefB w.heap.size W1 R L rx rc rbx rbc → w.heap.size ≤ W1.heap.size → Calls Try.prog 27 #[.pointer (some ⟨R, 0, none⟩), .agg ds[k].cells.toArray] W1 fun r w' => r = .returned (.int .i64 (refB L ds[k])) ∧ (∃ x' c' bx' bc', RefB w.heap.size w' R (addB L ds[k]) x' c' bx' bc') ∧ Turn (OwnR R (.slice rx L.length rc) (.slice rbx L.length rbc)) W1 w') := ⟨fun W1 h hb => radd_any R L rx rbx rc rbc ds[k] W1 h hok (by omega) hBB.good hb⟩
      have iE : (Try.prog.info? 41).map (·.size) = some ds[k].cells.length := by rw [aev_len _ hok.past]; kernel_rfl
      have hw1 : IntKind.i64.wrap ((k : Int) + 1) = (k : Int) + 1 := by rw [IntKind.wrap_i64]; omega
      have HGA := Veil.mk (hBB.good.add ds[k] hok)
      have HMM : Veil (∀ y ∈ addB L ds[k], y.1 ∈ ds.take (k + 1)) := ⟨fun y hy => by
        rw [List.take_add_one, List.getElem?_eq_getElem hkd]
        rcases addB_mem hy with q | q
        · exact List.mem_append_left _ (hmem y q)
        · exact List.mem_append_right _ (by rw [q]; simp)⟩
      have HLA : Veil ((addB L ds[k]).length ≤ k + 1) := ⟨Nat.le_trans (addB_len L ds[k]) (by omega)⟩
      have hE17 : 0 < ds[k].cells.length := by rw [aev_len _ hok.past]; omega
      have HRE : Veil (eb < w.heap.size ∧ ∀ W, Below w.heap.size w W → W.rangeAt eb (off + k * 17) ds[k].cells) := ⟨block_lt_of_cell (hre0 0 _ (List.getElem?_eq_getElem hE17)), fun W hb i u hu => (hb.cell (block_lt_of_cell (hre0 i u hu))).trans (hre0 i u hu)⟩
      generalize hEK : ds[k] = ek at hadd iE HRA HGA HMM HLA HRE
      obtain ⟨RN, hRN⟩ : ∃ q, refB L ek = q := ⟨_, rfl⟩
      rw [hRN] at hadd HRA
      obtain ⟨AL, hAL⟩ : ∃ q, addB L ek = q := ⟨_, rfl⟩
      rw [hAL] at hadd HRA HGA HMM HLA
      obtain ⟨E, hE⟩ : ∃ E, ek.cells = E := ⟨_, rfl⟩
      rw [hE] at HRE hadd iE HRA
      have HBB := Veil.mk hBB
      have HRF := Veil.mk hrf
      have HB := Veil.mk hB
      clear hEK hE hok hRN hBB hrf hmem hre0 hE17 hAL hlB hB
      have hre := HRE.out.2 wr.drew HB.out.drew
      go_upto_region 5 with fail
      refine wp_region_gateT (fun w' => w'.rangeAt eb (off + k * 17) E) (fun _ => True) 99 (by kernel_rfl) ?_
      have hT : (fun w' : World => w'.rangeAt eb (off + k * 17) E) wr.drew := hre
      have hS : (fun _ : World => True) wr.drew := trivial
      refine wpAnyT_held (i := 0) (v := ?_) rfl (by kernel_rfl) (by kernel_rfl) (by kernel_rfl) (fun _ _ _ h => h) (by kernel_rfl) hT (fun _ => hS) (by kernel_rfl) ?_ ?_
      rotate_left
      · intro wx hSw; go_split_ands; go_simp; try with_reducible rfl
      simp only [Act.put, List.getElem_toArray, List.getElem_cons_succ, List.getElem_cons_zero, List.setIfInBounds_toArray, List.set_cons_zero, List.set_cons_succ]
      refine wpAnyT_held (i := 1) (v := ?_) rfl (by kernel_rfl) (by kernel_rfl) (by kernel_rfl) (fun _ _ _ h => h) (by kernel_rfl) hT (fun _ => hS) (by kernel_rfl) ?_ ?_
      rotate_left
      · intro wx hSw; go_split_ands; go_simp; try with_reducible rfl
      simp only [Act.put, List.getElem_toArray, List.getElem_cons_succ, List.getElem_cons_zero, List.setIfInBounds_toArray, List.set_cons_zero, List.set_cons_succ]
      refine wpAnyT_held (i := 2) (v := ?_) rfl (by kernel_rfl) (by kernel_rfl) (by kernel_rfl) (fun _ _ _ h => h) (by kernel_rfl) hT (fun _ => hS) (by kernel_rfl) ?_ ?_
      rotate_left
      · intro wx hSw; go_split_ands; go_simp; try with_reducible rfl
      simp only [Act.put, List.getElem_toArray, List.getElem_cons_succ, List.getElem_cons_zero, List.setIfInBounds_toArray, List.set_cons_zero, List.set_cons_succ]
      refine wpAnyT_held (i := 3) (v := ?_) rfl (by kernel_rfl) (by kernel_rfl) (by kernel_rfl) (fun _ _ _ h => h) (by kernel_rfl) hT (fun _ => hS) (by kernel_rfl) ?_ ?_
      rotate_left
      · intro wx hSw; go_split_ands; go_simp; try with_reducible rfl
      simp only [Act.put, List.getElem_toArray, List.getElem_cons_succ, List.getElem_cons_zero, List.setIfInBounds_toArray, List.set_cons_zero, List.set_cons_succ]
      refine wpAnyT_load (i := 4) (dst := some 24) (ty := 41) (x := .tmp 23) (b := eb) (o := ((off + k * 17))) (cs := E) (by kernel_rfl) (by kernel_rfl) (by kernel_rfl) (by kernel_rfl) (by kernel_rfl) (fun _ _ _ h => h) (by kernel_rfl) hT (fun _ => hS) (by kernel_rfl) (fun _ h => h) uE rfl iE ?_
      simp only [Act.put, List.getElem_toArray, List.getElem_cons_succ, List.getElem_cons_zero, List.setIfInBounds_toArray, List.set_cons_zero, List.set_cons_succ]
      refine wpAnyT_held (i := 6) (v := ?_) rfl (by kernel_rfl) (by kernel_rfl) (by kernel_rfl) (fun _ _ _ h => h) (by kernel_rfl) hT (fun _ => hS) (by kernel_rfl) ?_ ?_
      rotate_left
      · intro wx hSw; go_split_ands; go_simp; try with_reducible rfl
      simp only [Act.put, List.getElem_toArray, List.getElem_cons_succ, List.getElem_cons_zero, List.setIfInBounds_toArray, List.set_cons_zero, List.set_cons_succ]
      refine wpAnyT_held (i := 7) (v := ?_) rfl (by kernel_rfl) (by kernel_rfl) (by kernel_rfl) (fun _ _ _ h => h) (by kernel_rfl) hT (fun _ => hS) (by kernel_rfl) ?_ ?_
      rotate_left
      · intro wx hSw; go_split_ands; go_simp; try with_reducible rfl
      simp only [Act.put, List.getElem_toArray, List.getElem_cons_succ, List.getElem_cons_zero, List.setIfInBounds_toArray, List.set_cons_zero, List.set_cons_succ]
      refine wpAnyT_held (i := 8) (v := ?_) rfl (by kernel_rfl) (by kernel_rfl) (by kernel_rfl) (fun _ _ _ h => h) (by kernel_rfl) hT (fun _ => hS) (by kernel_rfl) ?_ ?_
      rotate_left
      · intro wx hSw; go_split_ands; go_simp; try with_reducible rfl
      simp only [Act.put, List.getElem_toArray, List.getElem_cons_succ, List.getElem_cons_zero, List.setIfInBounds_toArray, List.set_cons_zero, List.set_cons_succ]
      refine wpAnyT_held (i := 9) (v := ?_) rfl (by kernel_rfl) (by kernel_rfl) (by kernel_rfl) (fun _ _ _ h => h) (by kernel_rfl) hT (fun _ => hS) (by kernel_rfl) ?_ ?_
      rotate_left
      · intro wx hSw; go_split_ands; go_simp; try with_reducible rfl
      simp only [Act.put, List.getElem_toArray, List.getElem_cons_succ, List.getElem_cons_zero, List.setIfInBounds_toArray, List.set_cons_zero, List.set_cons_succ]
      refine wpAnyT_load (i := 10) (dst := some 30) (ty := 41) (x := .tmp 29) (b := eb) (o := ((off + k * 17))) (cs := E) (by kernel_rfl) (by kernel_rfl) (by kernel_rfl) (by kernel_rfl) (by kernel_rfl) (fun _ _ _ h => h) (by kernel_rfl) hT (fun _ => hS) (by kernel_rfl) (fun _ h => h) uE rfl iE ?_
      simp only [Act.put, List.getElem_toArray, List.getElem_cons_succ, List.getElem_cons_zero, List.setIfInBounds_toArray, List.set_cons_zero, List.set_cons_succ]
      refine wpAnyT_one (i := 5) rfl (by kernel_rfl) (by kernel_rfl) (fun K hK => ?_)
      refine wpx_call _ _ (by kernel_rfl) (hadd.mono ?_)
      rintro z W1 ⟨rfl, hC1, hT1⟩
      refine ⟨_, rfl, ?_⟩
      have hR1 : RefB w.heap.size W1 R L rx rc rbx rbc := (HRF.out.congr (w' := wr.drew) rfl (fun _ _ => rfl) (fun _ _ => rfl)).turnB (HBB.out.code.congr (w' := wr.drew) rfl rfl) hT1
      have hB1 : Below w.heap.size w W1 := HB.out.drew.trans (hT1.below HB.out.size (fun q hq => by rw [hq]; exact HBB.out.low.2.1))
      have hra := HRA.out W1 hR1 hB1.size
      replace hT : (fun w' : World => w'.rangeAt eb (off + k * 17) E) W1 := HRE.out.2 W1 hB1
      replace hS : (fun _ : World => True) W1 := trivial
      refine hK.out _ _ hT (fun _ => hS) ?_
      clear hK K
      try simp only [Act.put, List.getElem_toArray, List.getElem_cons_succ, List.getElem_cons_zero, List.setIfInBounds_toArray, List.set_cons_zero, List.set_cons_succ]
      refine wpAnyT_one (i := 11) rfl (by kernel_rfl) (by kernel_rfl) (fun K hK => ?_)
      refine wpx_call _ _ (by kernel_rfl) (hra.mono ?_)
      rintro z W2 ⟨rfl, hR2, hT2⟩
      refine ⟨_, rfl, ?_⟩
      have hC2 := hC1.turnO hR1 hT2
      have hB2 : Below w.heap.size w W2 := hB1.trans (hT2.below hB1.size (fun q hq => by
        rcases hq with hq | hq | hq
        · rw [hq]; exact HBB.out.low.2.2
        · exact (hR1.ev.blockLt q hq).2.1
        · exact (hR1.bo.blockLt q hq).2.1))
      have hne : (RN != RN) = false := by simp
      replace hT : (fun w' : World => w'.rangeAt eb (off + k * 17) E) W2 := HRE.out.2 W2 hB2
      replace hS : (fun _ : World => True) W2 := trivial
      refine hK.out _ _ hT (fun _ => hS) ?_
      clear hK K
      try simp only [Act.put, List.getElem_toArray, List.getElem_cons_succ, List.getElem_cons_zero, List.setIfInBounds_toArray, List.set_cons_zero, List.set_cons_succ]
      refine wpAnyT_held (i := 12) (v := .bool false) rfl (by kernel_rfl) (by kernel_rfl) (by kernel_rfl) (fun _ _ _ h => h) (by kernel_rfl) hT (fun _ => hS) (by kernel_rfl) ?_ ?_
      · intro wx hSw; go_split_ands; go_simp
      simp only [Act.put, List.getElem_toArray, List.getElem_cons_succ, List.getElem_cons_zero, List.setIfInBounds_toArray, List.set_cons_zero, List.set_cons_succ]
      refine wpAnyT_done (by kernel_rfl) ?_ _
      clear hT hS hra hadd hT1 hT2 hR1 hC1 hre hne
      go_wp2
      go_roundw
      case rel => exact ⟨k + 1, h1, h2, by push_cast; rfl, AL, ⟨hC2, hR2, HGA.out, HLA.out, HBB.out.low⟩, HMM.out, hB2⟩
      case measure => simp [intOf]; omega
    · have hcase : ¬ (k : Int) < (len : Int) ∨ ((k : Int) < (len : Int) ∧ ¬ (k : Int) < 40) := by omega
      have HBB := Veil.mk hBB
      have HMT : Veil (∀ y ∈ L, y.1 ∈ ds.take 40) := ⟨fun y hy => by
        have h1 := hmem y hy
        obtain ⟨i, hi, he⟩ := List.mem_iff_getElem.1 h1
        rw [List.length_take] at hi
        exact List.mem_iff_getElem.2 ⟨i, by rw [List.length_take]; omega, by rw [← he]; simp⟩⟩
      clear hBB hmem
      rcases hcase with h1i | ⟨h1i, h2i⟩
      all_goals
        go_wp2
        refine bodyPost_ret (results_tmp3 rfl _ _ _) rfl ?_
        exact ⟨H, b, R, rfl, ⟨L, ⟨HBB.out.code, HBB.out.ref, HBB.out.good, by have := HBB.out.len; omega, HBB.out.low⟩, ⟨HMT.out⟩⟩, hB⟩
end Go.Proofs.Ythodlbkgggaibaa

