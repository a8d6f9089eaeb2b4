/- FugueOrder, walked. -/
import Derived.Test.YtdkkenlehdblpaaFo1
import Derived.Test.YtdkkenlehdblpaaGate7
namespace Go.Proofs.Ytdkkenlehdblpaa
open Go.RowKit Go.Shelf
set_option maxRecDepth 20000
set_option linter.unusedSimpArgs false
theorem deed_parts {W : World} {g o : Nat} {D : Dd8} (hcl : W.rangeAt g o D.cells) : W.rangeAt g (o + 1) (encF D.id) ∧ W.rangeAt g (o + 3) (encF D.par) ∧ W.cell? ⟨g, o + 5, none⟩ = some (.bool D.right) ∧ W.cell? ⟨g, o + 6, none⟩ = some (.int .u8 D.chr) := by
  refine ⟨fun q u hu => ?_, fun q u hu => ?_, hcl 5 _ rfl, hcl 6 _ rfl⟩
  · rw [Nat.add_assoc]
    refine hcl (1 + q) u ?_
    match q, hu with
    | 0, hu => exact hu
    | 1, hu => exact hu
  · rw [Nat.add_assoc]
    refine hcl (3 + q) u ?_
    match q, hu with
    | 0, hu => exact hu
    | 1, hu => exact hu
set_option maxHeartbeats 16000000 in
theorem for_walk (x : Option Addr) (len cap : Nat) (L : List Dd8) (w : World) (hL : DeedsAt w x len cap L) :
    Calls Try.prog 5 #[.slice x len cap] w fun e w' => e = .returned (.bool true) ∧ Below w.heap.size w w' := by
  have hnew := newT_any w
  obtain ⟨n, hn⟩ : ∃ q : Nat, q = 40 := ⟨_, rfl⟩
  have cut : 40 < len → ∀ wx, (Instr.slice 22 (.slice x len cap) none (some (.int .i64 40)) none).run Try.prog wx = .ok (.slice x n cap) wx := fun hl wx => by
    have h := run_deeds_h wx x len cap 40 (by have := hL.le; omega)
    rw [hn]
    rcases hL.at_ with h0 | ⟨b, off, rfl, _⟩
    · omega
    · have : subA (some ⟨b, off, none⟩) cap 0 = some ⟨b, off, none⟩ := by unfold subA; split <;> rfl
      rw [this] at h; exact h
  go_enter Try.func5, Try.ntmps5
  by_cases hl : 40 < len
  case' pos =>
    have hl1 : decide ((40 : Int) < (len : Int)) = true := by simp; omega
    replace cut := cut hl
    have HL := Veil.mk (And.intro (hn ▸ hL.cut 40 hl : DeedsAt w x n cap (L.take 40)) (Nat.le_of_eq hn))
    clear hL hn hl
    go_upto_region 3 with fail
    clear cut hl1
    generalize L.take 40 = L at HL
  case' neg =>
    have hl1 : decide ((40 : Int) < (len : Int)) = false := by simp; omega
    subst hn
    have HL := Veil.mk (And.intro hL (by omega : len ≤ 40))
    clear hL cut hl
    go_upto_region 3 with fail
    clear hl1
    generalize len = n at HL ⊢
  all_goals
    go_upto_region 4 with (go_at_call 17; refine hnew.mono ?_; rintro z W1 ⟨R, bc, bn, rfl, hT, hb1, hR, hbc, hbn⟩; clear hnew)
    have hG0 : GoodT W1 w.heap.size R bc bn (fun _ => .slice none 0 0) (.slice none 0 0) [] := by
      refine ⟨hT, OwnI.nil _ _ _ _, TreeOk.nil, Built.nil, fun d hd => by simp at hd, fun k _ => (by intro q; cases q), fun k hk => ?_, hb1.size⟩
      rcases hk with q | q | q | ⟨s, _, q⟩
      · omega
      · omega
      · omega
      · cases q
    have H0 := Veil.mk (And.intro hG0 hb1)
    clear hG0 hb1 hT hR hbc hbn
    go_wp2_with fail
    go_loopw [4, 5] (fun gv iv wr => ∃ (i : Nat) (V : (Int × Int) × Bool → Value) (y : Option Addr) (c : Nat) (G : List Dd8), iv = .int .i64 (i : Nat) ∧ gv = .slice y G.length c ∧ i ≤ n ∧ G.length ≤ i ∧ GoodT wr w.heap.size R bc bn V (.slice y G.length c) G ∧ Below w.heap.size w wr) (fun _ iv _ => n - (intOf iv).toNat)
    case atStart => exact ⟨0, _, none, 0, [], rfl, rfl, Nat.zero_le _, Nat.le_refl _, H0.out.1, H0.out.2⟩
    case round =>
      obtain ⟨i, V, y, c, G, rfl, rfl, hi, hgi, hG, hB⟩ := hrel
      clear H0
      by_cases hlt : i < n
      · have hli : decide ((i : Int) < (n : Int)) = true := by simp; omega
        obtain ⟨hLW, hn40⟩ := HL.out
        have hil : i < L.length := by have := hLW.len_eq; omega
        have hi0 : (0 : Int) ≤ (i : Int) := by omega
        have hlti : (i : Int) < (n : Int) := by omega
        obtain ⟨g, off, hxg, HDC⟩ : ∃ g off, x = some ⟨g, off, none⟩ ∧ Veil (∀ W, Below w.heap.size w W → W.rangeAt g (off + i * 7) L[i].cells) := by
          rcases hLW.at_ with h | ⟨g, off, hx, hc⟩
          · omega
          · refine ⟨g, off, hx, ⟨fun W hb q u hu => ?_⟩⟩
            rcases (hLW.below hb).at_ with h | ⟨g', off', hx', hc'⟩
            · omega
            · rw [hx] at hx'; cases hx'
              exact hc' i hil q u hu
        have hok := hLW.ok _ (List.getElem_mem hil)
        generalize L[i] = D at HDC hok
        replace hG := hG.far (Below.refl _ _).drew
        replace hB := hB.drew
        go_upto_region 8 with fail
        obtain ⟨WD, hWD⟩ : ∃ q, wr.drew = q := ⟨_, rfl⟩
        rw [hWD] at hG hB
        have HTT0 : Veil (∀ W, Below w.heap.size w W → (fun w' : World => w'.rangeAt g (off + i * 7 + 1) (encF D.id) ∧ w'.rangeAt g (off + i * 7 + 3) (encF D.par) ∧ w'.cell? ⟨g, off + i * 7 + 5, none⟩ = some (.bool D.right) ∧ w'.cell? ⟨g, off + i * 7 + 6, none⟩ = some (.int .u8 D.chr)) W) := ⟨fun W hb => deed_parts (HDC.out W hb)⟩
        have hins : Calls Try.prog 16 #[.pointer (some ⟨R, 0, none⟩), .agg (encF D.id).toArray, .agg (encF D.par).toArray, .bool D.right, .int .u8 D.chr] WD fun e w' => e = .returned (.int .i64 (refI (G.map Dd8.nd) D.nd)) ∧ ∃ V', TreeAt w' w.heap.size R bc bn (insN (G.map Dd8.nd) D.nd) V' ∧ TreeTo R bc bn V V' WD w' := insT_any w.heap.size R bc bn (G.map Dd8.nd) V D.nd hok.id hok.par (by rw [List.length_map]; omega) WD hG.low hG.tree
        have uD := Try.underlying32
        have iI : (Try.prog.info? 32).map (·.size) = some (encF D.id).length := sizeDot
        have iP : (Try.prog.info? 32).map (·.size) = some (encF D.par).length := sizeDot
        have iC : (Try.prog.info? 34).map (·.size) = some D.cells.length := by show _ = some 7; kernel_rfl
        have uC := Try.underlying34
        have hww : IntKind.i64.wrap ((i : Int) + 1) = (i : Int) + 1 := by rw [IntKind.wrap_i64]; omega
        have HB := Veil.mk hB
        by_cases hr : refI (G.map Dd8.nd) D.nd = 0
        · have HY : Veil (∀ V' W, TreeAt W w.heap.size R bc bn (insN (G.map Dd8.nd) D.nd) V' → TreeTo R bc bn V V' WD W → Below w.heap.size w W ∧ ∃ x2 c2 W1, (Builtin.append_ #[22, 22] 22 #[.slice y G.length c, .slice (some ⟨W.heap.size, 0, none⟩) 1 1]).run Try.prog (W.alloc (.cells D.cells.toArray 34)) = .ok (.slice x2 (G.length + 1) c2) W1 ∧ GoodT W1 w.heap.size R bc bn V' (.slice x2 (G.length + 1) c2) (G ++ [D]) ∧ Below w.heap.size WD W1) := ⟨fun V' W h1 h2 => ⟨hB.trans (below_turn h2.turn hG.above hG.low), hG.yes hok (by omega) hr h1 h2⟩⟩
          have HDW : Veil (∀ W, Below w.heap.size w W → W.rangeAt g (off + i * 7) D.cells) := HDC
          obtain ⟨gl, hgl⟩ : ∃ q, G.length = q := ⟨_, rfl⟩
          rw [hr] at hins
          rw [hgl] at HY
          have HGL := Veil.mk hgl
          have HTT : Veil (∀ W, Below w.heap.size w W → (fun w' : World => w'.rangeAt g (off + i * 7 + 1) (encF D.id) ∧ w'.rangeAt g (off + i * 7 + 3) (encF D.par) ∧ w'.cell? ⟨g, off + i * 7 + 5, none⟩ = some (.bool D.right) ∧ w'.cell? ⟨g, off + i * 7 + 6, none⟩ = some (.int .u8 D.chr)) W) := HTT0
          have hc7 : D.cells.length = 7 := rfl
          generalize D.cells = DC at HDW HY iC hc7
          generalize encF D.id = DI at hins iI HTT
          generalize encF D.par = DP at hins iP HTT
          generalize D.right = rg at hins HTT
          generalize D.chr = ch at hins HTT
          rw [hgl]
          have h00 : ((0 : Int) == 0) = true := rfl
          clear hG hB hLW HL HDC HTT0 hok hr hgl
          subst hxg
          refine wp_region_gateT (fun w' : World => w'.rangeAt g (off + i * 7 + 1) DI ∧ w'.rangeAt g (off + i * 7 + 3) DP ∧ w'.cell? ⟨g, off + i * 7 + 5, none⟩ = some (.bool rg) ∧ w'.cell? ⟨g, off + i * 7 + 6, none⟩ = some (.int .u8 ch)) (fun _ => True) 99 (by kernel_rfl) ?_
          rw [hWD]
          have hT : (fun w' : World => w'.rangeAt g (off + i * 7 + 1) DI ∧ w'.rangeAt g (off + i * 7 + 3) DP ∧ w'.cell? ⟨g, off + i * 7 + 5, none⟩ = some (.bool rg) ∧ w'.cell? ⟨g, off + i * 7 + 6, none⟩ = some (.int .u8 ch)) WD := HTT.out WD HB.out
          have hS : (fun _ : World => True) WD := trivial
          refine wpAnyT_held (i := 0) (v := ?_) rfl (by kernel_rfl) (by kernel_rfl) (by kernel_rfl) (fun _ _ _ h => h) (by kernel_rfl) hT (fun _ => hS) (by kernel_rfl) ?_ ?_
          rotate_left
          · intro wx hSw; go_split_ands; go_simp; try with_reducible rfl
          simp only [Act.put, List.getElem_toArray, List.getElem_cons_succ, List.getElem_cons_zero, List.setIfInBounds_toArray, List.set_cons_zero, List.set_cons_succ]
          refine wpAnyT_held (i := 1) (v := ?_) rfl (by kernel_rfl) (by kernel_rfl) (by kernel_rfl) (fun _ _ _ h => h) (by kernel_rfl) hT (fun _ => hS) (by kernel_rfl) ?_ ?_
          rotate_left
          · intro wx hSw; go_split_ands; go_simp; try with_reducible rfl
          simp only [Act.put, List.getElem_toArray, List.getElem_cons_succ, List.getElem_cons_zero, List.setIfInBounds_toArray, List.set_cons_zero, List.set_cons_succ]
          refine wpAnyT_held (i := 2) (v := ?_) rfl (by kernel_rfl) (by kernel_rfl) (by kernel_rfl) (fun _ _ _ h => h) (by kernel_rfl) hT (fun _ => hS) (by kernel_rfl) ?_ ?_
          rotate_left
          · intro wx hSw; go_split_ands; go_simp; try with_reducible rfl
          simp only [Act.put, List.getElem_toArray, List.getElem_cons_succ, List.getElem_cons_zero, List.setIfInBounds_toArray, List.set_cons_zero, List.set_cons_succ]
          refine wpAnyT_held (i := 3) (v := ?_) rfl (by kernel_rfl) (by kernel_rfl) (by kernel_rfl) (fun _ _ _ h => h) (by kernel_rfl) hT (fun _ => hS) (by kernel_rfl) ?_ ?_
          rotate_left
          · intro wx hSw; go_split_ands; go_simp; try with_reducible rfl
          simp only [Act.put, List.getElem_toArray, List.getElem_cons_succ, List.getElem_cons_zero, List.setIfInBounds_toArray, List.set_cons_zero, List.set_cons_succ]
          refine wpAnyT_held (i := 4) (v := ?_) rfl (by kernel_rfl) (by kernel_rfl) (by kernel_rfl) (fun _ _ _ h => h) (by kernel_rfl) hT (fun _ => hS) (by kernel_rfl) ?_ ?_
          rotate_left
          · intro wx hSw; go_split_ands; go_simp; try with_reducible rfl
          simp only [Act.put, List.getElem_toArray, List.getElem_cons_succ, List.getElem_cons_zero, List.setIfInBounds_toArray, List.set_cons_zero, List.set_cons_succ]
          refine wpAnyT_load (i := 5) (dst := some 26) (ty := 32) (x := .tmp 25) (b := g) (o := ((off + i * 7 + 1))) (cs := DI) (by kernel_rfl) (by kernel_rfl) (by kernel_rfl) (by kernel_rfl) (by kernel_rfl) (fun _ _ _ h => h) (by kernel_rfl) hT (fun _ => hS) (by kernel_rfl) (fun _ h => h.1) uD rfl iI ?_
          simp only [Act.put, List.getElem_toArray, List.getElem_cons_succ, List.getElem_cons_zero, List.setIfInBounds_toArray, List.set_cons_zero, List.set_cons_succ]
          refine wpAnyT_held (i := 6) (v := ?_) rfl (by kernel_rfl) (by kernel_rfl) (by kernel_rfl) (fun _ _ _ h => h) (by kernel_rfl) hT (fun _ => hS) (by kernel_rfl) ?_ ?_
          rotate_left
          · intro wx hSw; go_split_ands; go_simp; try with_reducible rfl
          simp only [Act.put, List.getElem_toArray, List.getElem_cons_succ, List.getElem_cons_zero, List.setIfInBounds_toArray, List.set_cons_zero, List.set_cons_succ]
          refine wpAnyT_held (i := 7) (v := ?_) rfl (by kernel_rfl) (by kernel_rfl) (by kernel_rfl) (fun _ _ _ h => h) (by kernel_rfl) hT (fun _ => hS) (by kernel_rfl) ?_ ?_
          rotate_left
          · intro wx hSw; go_split_ands; go_simp; try with_reducible rfl
          simp only [Act.put, List.getElem_toArray, List.getElem_cons_succ, List.getElem_cons_zero, List.setIfInBounds_toArray, List.set_cons_zero, List.set_cons_succ]
          refine wpAnyT_held (i := 8) (v := ?_) rfl (by kernel_rfl) (by kernel_rfl) (by kernel_rfl) (fun _ _ _ h => h) (by kernel_rfl) hT (fun _ => hS) (by kernel_rfl) ?_ ?_
          rotate_left
          · intro wx hSw; go_split_ands; go_simp; try with_reducible rfl
          simp only [Act.put, List.getElem_toArray, List.getElem_cons_succ, List.getElem_cons_zero, List.setIfInBounds_toArray, List.set_cons_zero, List.set_cons_succ]
          refine wpAnyT_held (i := 9) (v := ?_) rfl (by kernel_rfl) (by kernel_rfl) (by kernel_rfl) (fun _ _ _ h => h) (by kernel_rfl) hT (fun _ => hS) (by kernel_rfl) ?_ ?_
          rotate_left
          · intro wx hSw; go_split_ands; go_simp; try with_reducible rfl
          simp only [Act.put, List.getElem_toArray, List.getElem_cons_succ, List.getElem_cons_zero, List.setIfInBounds_toArray, List.set_cons_zero, List.set_cons_succ]
          refine wpAnyT_load (i := 10) (dst := some 31) (ty := 32) (x := .tmp 30) (b := g) (o := ((off + i * 7 + 3))) (cs := DP) (by kernel_rfl) (by kernel_rfl) (by kernel_rfl) (by kernel_rfl) (by kernel_rfl) (fun _ _ _ h => h) (by kernel_rfl) hT (fun _ => hS) (by kernel_rfl) (fun _ h => h.2.1) uD rfl iP ?_
          simp only [Act.put, List.getElem_toArray, List.getElem_cons_succ, List.getElem_cons_zero, List.setIfInBounds_toArray, List.set_cons_zero, List.set_cons_succ]
          refine wpAnyT_held (i := 11) (v := ?_) rfl (by kernel_rfl) (by kernel_rfl) (by kernel_rfl) (fun _ _ _ h => h) (by kernel_rfl) hT (fun _ => hS) (by kernel_rfl) ?_ ?_
          rotate_left
          · intro wx hSw; go_split_ands; go_simp; try with_reducible rfl
          simp only [Act.put, List.getElem_toArray, List.getElem_cons_succ, List.getElem_cons_zero, List.setIfInBounds_toArray, List.set_cons_zero, List.set_cons_succ]
          refine wpAnyT_held (i := 12) (v := ?_) rfl (by kernel_rfl) (by kernel_rfl) (by kernel_rfl) (fun _ _ _ h => h) (by kernel_rfl) hT (fun _ => hS) (by kernel_rfl) ?_ ?_
          rotate_left
          · intro wx hSw; go_split_ands; go_simp; try with_reducible rfl
          simp only [Act.put, List.getElem_toArray, List.getElem_cons_succ, List.getElem_cons_zero, List.setIfInBounds_toArray, List.set_cons_zero, List.set_cons_succ]
          refine wpAnyT_held (i := 13) (v := ?_) rfl (by kernel_rfl) (by kernel_rfl) (by kernel_rfl) (fun _ _ _ h => h) (by kernel_rfl) hT (fun _ => hS) (by kernel_rfl) ?_ ?_
          rotate_left
          · intro wx hSw; go_split_ands; go_simp; try with_reducible rfl
          simp only [Act.put, List.getElem_toArray, List.getElem_cons_succ, List.getElem_cons_zero, List.setIfInBounds_toArray, List.set_cons_zero, List.set_cons_succ]
          refine wpAnyT_held (i := 14) (v := ?_) rfl (by kernel_rfl) (by kernel_rfl) (by kernel_rfl) (fun _ _ _ h => h) (by kernel_rfl) hT (fun _ => hS) (by kernel_rfl) ?_ ?_
          rotate_left
          · intro wx hSw; go_split_ands; go_simp; try with_reducible rfl
          simp only [Act.put, List.getElem_toArray, List.getElem_cons_succ, List.getElem_cons_zero, List.setIfInBounds_toArray, List.set_cons_zero, List.set_cons_succ]
          refine wpAnyT_held (i := 15) (v := ?_) rfl (by kernel_rfl) (by kernel_rfl) (by kernel_rfl) (fun _ _ _ h => h) (by kernel_rfl) hT (fun _ => hS) (by kernel_rfl) ?_ ?_
          rotate_left
          · intro wx hSw; go_split_ands; go_simp; try with_reducible rfl
          simp only [Act.put, List.getElem_toArray, List.getElem_cons_succ, List.getElem_cons_zero, List.setIfInBounds_toArray, List.set_cons_zero, List.set_cons_succ]
          refine wpAnyT_held (i := 16) (v := ?_) rfl (by kernel_rfl) (by kernel_rfl) (by kernel_rfl) (fun _ _ _ h => h) (by kernel_rfl) hT (fun _ => hS) (by kernel_rfl) ?_ ?_
          rotate_left
          · intro wx hSw; go_split_ands; go_simp; try with_reducible rfl
          simp only [Act.put, List.getElem_toArray, List.getElem_cons_succ, List.getElem_cons_zero, List.setIfInBounds_toArray, List.set_cons_zero, List.set_cons_succ]
          refine wpAnyT_held (i := 17) (v := ?_) rfl (by kernel_rfl) (by kernel_rfl) (by kernel_rfl) (fun _ _ _ h => h) (by kernel_rfl) hT (fun _ => hS) (by kernel_rfl) ?_ ?_
          rotate_left
          · intro wx hSw; go_split_ands; go_simp; try with_reducible rfl
          simp only [Act.put, List.getElem_toArray, List.getElem_cons_succ, List.getElem_cons_zero, List.setIfInBounds_toArray, List.set_cons_zero, List.set_cons_succ]
          refine wpAnyT_held (i := 18) (v := ?_) rfl (by kernel_rfl) (by kernel_rfl) (by kernel_rfl) (fun _ _ _ h => h) (by kernel_rfl) hT (fun _ => hS) (by kernel_rfl) ?_ ?_
          rotate_left
          · intro wx hSw; go_split_ands; go_simp; try with_reducible rfl
          simp only [Act.put, List.getElem_toArray, List.getElem_cons_succ, List.getElem_cons_zero, List.setIfInBounds_toArray, List.set_cons_zero, List.set_cons_succ]
          refine wpAnyT_held (i := 19) (v := ?_) rfl (by kernel_rfl) (by kernel_rfl) (by kernel_rfl) (fun _ _ _ h => h) (by kernel_rfl) hT (fun _ => hS) (by kernel_rfl) ?_ ?_
          rotate_left
          · intro wx hSw; go_split_ands; go_simp; try with_reducible rfl
          simp only [Act.put, List.getElem_toArray, List.getElem_cons_succ, List.getElem_cons_zero, List.setIfInBounds_toArray, List.set_cons_zero, List.set_cons_succ]
          refine wpAnyT_held (i := 20) (v := ?_) rfl (by kernel_rfl) (by kernel_rfl) (by kernel_rfl) (fun _ _ _ h => h) (by kernel_rfl) hT (fun _ => hS) (by kernel_rfl) ?_ ?_
          rotate_left
          · intro wx hSw; go_split_ands; go_simp; try with_reducible rfl
          simp only [Act.put, List.getElem_toArray, List.getElem_cons_succ, List.getElem_cons_zero, List.setIfInBounds_toArray, List.set_cons_zero, List.set_cons_succ]
          refine wpAnyT_one (i := 21) rfl (by kernel_rfl) (by kernel_rfl) (fun K hK => ?_)
          refine wpx_call _ _ (by kernel_rfl) (hins.mono ?_)
          rintro z W3 ⟨rfl, V3, hT3, ht3⟩
          refine ⟨_, rfl, ?_⟩
          obtain ⟨hB3, x4, c4, W4, hrun, hG4, hB4⟩ := HY.out V3 W3 hT3 ht3
          have hr3 := HDW.out W3 hB3
          have H4 := Veil.mk (And.intro hG4 (HB.out.trans hB4))
          replace hT := HTT.out W3 hB3
          replace hS : (fun _ : World => True) W3 := trivial
          clear hT3 ht3 hB3 hG4 hB4 hins
          refine hK.out _ _ hT (fun _ => hS) ?_
          clear hK K
          try simp only [Act.put, List.getElem_toArray, List.getElem_cons_succ, List.getElem_cons_zero, List.setIfInBounds_toArray, List.set_cons_zero, List.set_cons_succ]
          refine wpAnyT_held (i := 22) (v := ?_) rfl (by kernel_rfl) (by kernel_rfl) (by kernel_rfl) (fun _ _ _ h => h) (by kernel_rfl) hT (fun _ => hS) (by kernel_rfl) ?_ ?_
          rotate_left
          · intro wx hSw; go_split_ands; go_simp; try with_reducible rfl
          simp only [Act.put, List.getElem_toArray, List.getElem_cons_succ, List.getElem_cons_zero, List.setIfInBounds_toArray, List.set_cons_zero, List.set_cons_succ]
          refine wpAnyT_done (by kernel_rfl) ?_ _
          clear hT hS
          go_wp2_with (first
            | (refine wpList_ldv rfl 34 (.tmp 47) rfl g (off + i * 7) rfl DC hr3 uC rfl iC ?_)
            | (refine wpList_bs1 rfl 22 34 _ rfl DC rfl Try.underlying22 infoD7 (by decide) (by decide) hc7 ?_)
            | (refine wpList_appx rfl _ _ _ _ rfl _ _ _ W4 rfl rfl hrun ?_; clear hrun hr3))
          go_roundw
          case rel =>
            have e1 : (G ++ [D]).length = gl + 1 := by rw [List.length_append, List.length_singleton, HGL.out]
            have e2 := HGL.out
            refine ⟨i + 1, V3, x4, c4, G ++ [D], by push_cast; rfl, by rw [e1], hlt, by omega, ?_, H4.out.2⟩
            rw [e1]; exact H4.out.1
          case measure => simp [intOf]; omega
        · have HY : Veil (∀ V' W, TreeAt W w.heap.size R bc bn (insN (G.map Dd8.nd) D.nd) V' → TreeTo R bc bn V V' WD W → GoodT W w.heap.size R bc bn V' (.slice y G.length c) G ∧ Below w.heap.size w W) := ⟨fun V' W h1 h2 => ⟨(hG.no hr h1 h2).1, hB.trans (hG.no hr h1 h2).2⟩⟩
          obtain ⟨gl, hgl⟩ : ∃ q, G.length = q := ⟨_, rfl⟩
          obtain ⟨RN, hRN⟩ : ∃ q, refI (G.map Dd8.nd) D.nd = q := ⟨_, rfl⟩
          rw [hRN] at hins
          have hrb : (RN == 0) = false := by rw [← hRN]; simpa using hr
          have hrz : ¬ RN = 0 := by rw [← hRN]; exact hr
          have HGL := Veil.mk hgl
          have HTT : Veil (∀ W, Below w.heap.size w W → (fun w' : World => w'.rangeAt g (off + i * 7 + 1) (encF D.id) ∧ w'.rangeAt g (off + i * 7 + 3) (encF D.par) ∧ w'.cell? ⟨g, off + i * 7 + 5, none⟩ = some (.bool D.right) ∧ w'.cell? ⟨g, off + i * 7 + 6, none⟩ = some (.int .u8 D.chr)) W) := HTT0
          generalize encF D.id = DI at hins iI HTT
          generalize encF D.par = DP at hins iP HTT
          generalize D.right = rg at hins HTT
          generalize D.chr = ch at hins HTT
          rw [hgl]
          clear hG hB hLW HL HDC HTT0 hok hr hgl hRN iC uC
          subst hxg
          refine wp_region_gateT (fun w' : World => w'.rangeAt g (off + i * 7 + 1) DI ∧ w'.rangeAt g (off + i * 7 + 3) DP ∧ w'.cell? ⟨g, off + i * 7 + 5, none⟩ = some (.bool rg) ∧ w'.cell? ⟨g, off + i * 7 + 6, none⟩ = some (.int .u8 ch)) (fun _ => True) 99 (by kernel_rfl) ?_
          rw [hWD]
          have hT : (fun w' : World => w'.rangeAt g (off + i * 7 + 1) DI ∧ w'.rangeAt g (off + i * 7 + 3) DP ∧ w'.cell? ⟨g, off + i * 7 + 5, none⟩ = some (.bool rg) ∧ w'.cell? ⟨g, off + i * 7 + 6, none⟩ = some (.int .u8 ch)) WD := HTT.out WD HB.out
          have hS : (fun _ : World => True) WD := trivial
          refine wpAnyT_held (i := 0) (v := ?_) rfl (by kernel_rfl) (by kernel_rfl) (by kernel_rfl) (fun _ _ _ h => h) (by kernel_rfl) hT (fun _ => hS) (by kernel_rfl) ?_ ?_
          rotate_left
          · intro wx hSw; go_split_ands; go_simp; try with_reducible rfl
          simp only [Act.put, List.getElem_toArray, List.getElem_cons_succ, List.getElem_cons_zero, List.setIfInBounds_toArray, List.set_cons_zero, List.set_cons_succ]
          refine wpAnyT_held (i := 1) (v := ?_) rfl (by kernel_rfl) (by kernel_rfl) (by kernel_rfl) (fun _ _ _ h => h) (by kernel_rfl) hT (fun _ => hS) (by kernel_rfl) ?_ ?_
          rotate_left
          · intro wx hSw; go_split_ands; go_simp; try with_reducible rfl
          simp only [Act.put, List.getElem_toArray, List.getElem_cons_succ, List.getElem_cons_zero, List.setIfInBounds_toArray, List.set_cons_zero, List.set_cons_succ]
          refine wpAnyT_held (i := 2) (v := ?_) rfl (by kernel_rfl) (by kernel_rfl) (by kernel_rfl) (fun _ _ _ h => h) (by kernel_rfl) hT (fun _ => hS) (by kernel_rfl) ?_ ?_
          rotate_left
          · intro wx hSw; go_split_ands; go_simp; try with_reducible rfl
          simp only [Act.put, List.getElem_toArray, List.getElem_cons_succ, List.getElem_cons_zero, List.setIfInBounds_toArray, List.set_cons_zero, List.set_cons_succ]
          refine wpAnyT_held (i := 3) (v := ?_) rfl (by kernel_rfl) (by kernel_rfl) (by kernel_rfl) (fun _ _ _ h => h) (by kernel_rfl) hT (fun _ => hS) (by kernel_rfl) ?_ ?_
          rotate_left
          · intro wx hSw; go_split_ands; go_simp; try with_reducible rfl
          simp only [Act.put, List.getElem_toArray, List.getElem_cons_succ, List.getElem_cons_zero, List.setIfInBounds_toArray, List.set_cons_zero, List.set_cons_succ]
          refine wpAnyT_held (i := 4) (v := ?_) rfl (by kernel_rfl) (by kernel_rfl) (by kernel_rfl) (fun _ _ _ h => h) (by kernel_rfl) hT (fun _ => hS) (by kernel_rfl) ?_ ?_
          rotate_left
          · intro wx hSw; go_split_ands; go_simp; try with_reducible rfl
          simp only [Act.put, List.getElem_toArray, List.getElem_cons_succ, List.getElem_cons_zero, List.setIfInBounds_toArray, List.set_cons_zero, List.set_cons_succ]
          refine wpAnyT_load (i := 5) (dst := some 26) (ty := 32) (x := .tmp 25) (b := g) (o := ((off + i * 7 + 1))) (cs := DI) (by kernel_rfl) (by kernel_rfl) (by kernel_rfl) (by kernel_rfl) (by kernel_rfl) (fun _ _ _ h => h) (by kernel_rfl) hT (fun _ => hS) (by kernel_rfl) (fun _ h => h.1) uD rfl iI ?_
          simp only [Act.put, List.getElem_toArray, List.getElem_cons_succ, List.getElem_cons_zero, List.setIfInBounds_toArray, List.set_cons_zero, List.set_cons_succ]
          refine wpAnyT_held (i := 6) (v := ?_) rfl (by kernel_rfl) (by kernel_rfl) (by kernel_rfl) (fun _ _ _ h => h) (by kernel_rfl) hT (fun _ => hS) (by kernel_rfl) ?_ ?_
          rotate_left
          · intro wx hSw; go_split_ands; go_simp; try with_reducible rfl
          simp only [Act.put, List.getElem_toArray, List.getElem_cons_succ, List.getElem_cons_zero, List.setIfInBounds_toArray, List.set_cons_zero, List.set_cons_succ]
          refine wpAnyT_held (i := 7) (v := ?_) rfl (by kernel_rfl) (by kernel_rfl) (by kernel_rfl) (fun _ _ _ h => h) (by kernel_rfl) hT (fun _ => hS) (by kernel_rfl) ?_ ?_
          rotate_left
          · intro wx hSw; go_split_ands; go_simp; try with_reducible rfl
          simp only [Act.put, List.getElem_toArray, List.getElem_cons_succ, List.getElem_cons_zero, List.setIfInBounds_toArray, List.set_cons_zero, List.set_cons_succ]
          refine wpAnyT_held (i := 8) (v := ?_) rfl (by kernel_rfl) (by kernel_rfl) (by kernel_rfl) (fun _ _ _ h => h) (by kernel_rfl) hT (fun _ => hS) (by kernel_rfl) ?_ ?_
          rotate_left
          · intro wx hSw; go_split_ands; go_simp; try with_reducible rfl
          simp only [Act.put, List.getElem_toArray, List.getElem_cons_succ, List.getElem_cons_zero, List.setIfInBounds_toArray, List.set_cons_zero, List.set_cons_succ]
          refine wpAnyT_held (i := 9) (v := ?_) rfl (by kernel_rfl) (by kernel_rfl) (by kernel_rfl) (fun _ _ _ h => h) (by kernel_rfl) hT (fun _ => hS) (by kernel_rfl) ?_ ?_
          rotate_left
          · intro wx hSw; go_split_ands; go_simp; try with_reducible rfl
          simp only [Act.put, List.getElem_toArray, List.getElem_cons_succ, List.getElem_cons_zero, List.setIfInBounds_toArray, List.set_cons_zero, List.set_cons_succ]
          refine wpAnyT_load (i := 10) (dst := some 31) (ty := 32) (x := .tmp 30) (b := g) (o := ((off + i * 7 + 3))) (cs := DP) (by kernel_rfl) (by kernel_rfl) (by kernel_rfl) (by kernel_rfl) (by kernel_rfl) (fun _ _ _ h => h) (by kernel_rfl) hT (fun _ => hS) (by kernel_rfl) (fun _ h => h.2.1) uD rfl iP ?_
          simp only [Act.put, List.getElem_toArray, List.getElem_cons_succ, List.getElem_cons_zero, List.setIfInBounds_toArray, List.set_cons_zero, List.set_cons_succ]
          refine wpAnyT_held (i := 11) (v := ?_) rfl (by kernel_rfl) (by kernel_rfl) (by kernel_rfl) (fun _ _ _ h => h) (by kernel_rfl) hT (fun _ => hS) (by kernel_rfl) ?_ ?_
          rotate_left
          · intro wx hSw; go_split_ands; go_simp; try with_reducible rfl
          simp only [Act.put, List.getElem_toArray, List.getElem_cons_succ, List.getElem_cons_zero, List.setIfInBounds_toArray, List.set_cons_zero, List.set_cons_succ]
          refine wpAnyT_held (i := 12) (v := ?_) rfl (by kernel_rfl) (by kernel_rfl) (by kernel_rfl) (fun _ _ _ h => h) (by kernel_rfl) hT (fun _ => hS) (by kernel_rfl) ?_ ?_
          rotate_left
          · intro wx hSw; go_split_ands; go_simp; try with_reducible rfl
          simp only [Act.put, List.getElem_toArray, List.getElem_cons_succ, List.getElem_cons_zero, List.setIfInBounds_toArray, List.set_cons_zero, List.set_cons_succ]
          refine wpAnyT_held (i := 13) (v := ?_) rfl (by kernel_rfl) (by kernel_rfl) (by kernel_rfl) (fun _ _ _ h => h) (by kernel_rfl) hT (fun _ => hS) (by kernel_rfl) ?_ ?_
          rotate_left
          · intro wx hSw; go_split_ands; go_simp; try with_reducible rfl
          simp only [Act.put, List.getElem_toArray, List.getElem_cons_succ, List.getElem_cons_zero, List.setIfInBounds_toArray, List.set_cons_zero, List.set_cons_succ]
          refine wpAnyT_held (i := 14) (v := ?_) rfl (by kernel_rfl) (by kernel_rfl) (by kernel_rfl) (fun _ _ _ h => h) (by kernel_rfl) hT (fun _ => hS) (by kernel_rfl) ?_ ?_
          rotate_left
          · intro wx hSw; go_split_ands; go_simp; try with_reducible rfl
          simp only [Act.put, List.getElem_toArray, List.getElem_cons_succ, List.getElem_cons_zero, List.setIfInBounds_toArray, List.set_cons_zero, List.set_cons_succ]
          refine wpAnyT_held (i := 15) (v := ?_) rfl (by kernel_rfl) (by kernel_rfl) (by kernel_rfl) (fun _ _ _ h => h) (by kernel_rfl) hT (fun _ => hS) (by kernel_rfl) ?_ ?_
          rotate_left
          · intro wx hSw; go_split_ands; go_simp; try with_reducible rfl
          simp only [Act.put, List.getElem_toArray, List.getElem_cons_succ, List.getElem_cons_zero, List.setIfInBounds_toArray, List.set_cons_zero, List.set_cons_succ]
          refine wpAnyT_held (i := 16) (v := ?_) rfl (by kernel_rfl) (by kernel_rfl) (by kernel_rfl) (fun _ _ _ h => h) (by kernel_rfl) hT (fun _ => hS) (by kernel_rfl) ?_ ?_
          rotate_left
          · intro wx hSw; go_split_ands; go_simp; try with_reducible rfl
          simp only [Act.put, List.getElem_toArray, List.getElem_cons_succ, List.getElem_cons_zero, List.setIfInBounds_toArray, List.set_cons_zero, List.set_cons_succ]
          refine wpAnyT_held (i := 17) (v := ?_) rfl (by kernel_rfl) (by kernel_rfl) (by kernel_rfl) (fun _ _ _ h => h) (by kernel_rfl) hT (fun _ => hS) (by kernel_rfl) ?_ ?_
          rotate_left
          · intro wx hSw; go_split_ands; go_simp; try with_reducible rfl
          simp only [Act.put, List.getElem_toArray, List.getElem_cons_succ, List.getElem_cons_zero, List.setIfInBounds_toArray, List.set_cons_zero, List.set_cons_succ]
          refine wpAnyT_held (i := 18) (v := ?_) rfl (by kernel_rfl) (by kernel_rfl) (by kernel_rfl) (fun _ _ _ h => h) (by kernel_rfl) hT (fun _ => hS) (by kernel_rfl) ?_ ?_
          rotate_left
          · intro wx hSw; go_split_ands; go_simp; try with_reducible rfl
          simp only [Act.put, List.getElem_toArray, List.getElem_cons_succ, List.getElem_cons_zero, List.setIfInBounds_toArray, List.set_cons_zero, List.set_cons_succ]
          refine wpAnyT_held (i := 19) (v := ?_) rfl (by kernel_rfl) (by kernel_rfl) (by kernel_rfl) (fun _ _ _ h => h) (by kernel_rfl) hT (fun _ => hS) (by kernel_rfl) ?_ ?_
          rotate_left
          · intro wx hSw; go_split_ands; go_simp; try with_reducible rfl
          simp only [Act.put, List.getElem_toArray, List.getElem_cons_succ, List.getElem_cons_zero, List.setIfInBounds_toArray, List.set_cons_zero, List.set_cons_succ]
          refine wpAnyT_held (i := 20) (v := ?_) rfl (by kernel_rfl) (by kernel_rfl) (by kernel_rfl) (fun _ _ _ h => h) (by kernel_rfl) hT (fun _ => hS) (by kernel_rfl) ?_ ?_
          rotate_left
          · intro wx hSw; go_split_ands; go_simp; try with_reducible rfl
          simp only [Act.put, List.getElem_toArray, List.getElem_cons_succ, List.getElem_cons_zero, List.setIfInBounds_toArray, List.set_cons_zero, List.set_cons_succ]
          refine wpAnyT_one (i := 21) rfl (by kernel_rfl) (by kernel_rfl) (fun K hK => ?_)
          refine wpx_call _ _ (by kernel_rfl) (hins.mono ?_)
          rintro z W3 ⟨rfl, V3, hT3, ht3⟩
          refine ⟨_, rfl, ?_⟩
          obtain ⟨hG4, hB3⟩ := HY.out V3 W3 hT3 ht3
          have H4 := Veil.mk (And.intro hG4 hB3)
          replace hT := HTT.out W3 hB3
          replace hS : (fun _ : World => True) W3 := trivial
          clear hT3 ht3 hB3 hG4 hins
          refine hK.out _ _ hT (fun _ => hS) ?_
          clear hK K
          try simp only [Act.put, List.getElem_toArray, List.getElem_cons_succ, List.getElem_cons_zero, List.setIfInBounds_toArray, List.set_cons_zero, List.set_cons_succ]
          refine wpAnyT_held (i := 22) (v := ?_) rfl (by kernel_rfl) (by kernel_rfl) (by kernel_rfl) (fun _ _ _ h => h) (by kernel_rfl) hT (fun _ => hS) (by kernel_rfl) ?_ ?_
          rotate_left
          · intro wx hSw; go_split_ands; go_simp; try with_reducible rfl
          simp only [Act.put, List.getElem_toArray, List.getElem_cons_succ, List.getElem_cons_zero, List.setIfInBounds_toArray, List.set_cons_zero, List.set_cons_succ]
          refine wpAnyT_done (by kernel_rfl) ?_ _
          clear hT hS
          go_wp2
          go_roundw
          case rel =>
            have e2 := HGL.out
            subst e2
            exact ⟨i + 1, V3, y, c, G, by push_cast; rfl, rfl, hlt, by omega, H4.out.1, H4.out.2⟩
          case measure => simp [intOf]; omega
      · have hli : decide ((i : Int) < (n : Int)) = false := by simp; omega
        have H5 := Veil.mk (And.intro hG hB)
        have hl40 : G.length ≤ 40 := by have := HL.out.2; omega
        have hnew := newT_any wr
        clear hG hB HL hi hgi
        go_upto_region 12 with (go_at_call 17; refine hnew.mono ?_; rintro z W6 ⟨R2, bc2, bn2, rfl, hT6, hb6, hR6, hbc6, hbn6⟩; clear hnew)
        have H6 := Veil.mk (And.intro (SecT.new H5.out.1 hT6 hb6 hR6 hbc6 hbn6) (H5.out.2.trans (hb6.mono H5.out.2.size)))
        clear hT6 hb6 hR6 hbc6 hbn6 H5
        obtain ⟨gl, hgl⟩ : ∃ q, G.length = q := ⟨_, rfl⟩
        rw [hgl] at H6 hl40 ⊢
        have HGL := Veil.mk hgl
        clear hgl hlt hli
        go_wp2_with fail
        go_loopw [7, 8] (fun nv _ wr => ∃ (r : Nat) (V2 : (Int × Int) × Bool → Value) (M : List Nd), nv = .int .i64 (r : Nat) ∧ r ≤ gl ∧ AllIn (G.map Dd8.nd) M r ∧ SecT wr w.heap.size R bc bn V (.slice y gl c) G R2 bc2 bn2 V2 M ∧ Below w.heap.size w wr) (fun nv _ _ => gl - (intOf nv).toNat)
        case atStart => exact ⟨0, _, [], rfl, Nat.zero_le _, AllIn.nil _, H6.out.1, H6.out.2⟩
        case round =>
          obtain ⟨r, V2, M, rfl, hrl, hall, hS7, hB7⟩ := hrel
          clear H6
          have H7 := Veil.mk (And.intro hall (And.intro hS7 hB7))
          clear hall hS7 hB7
          by_cases hrlt : r < gl
          · have hli : decide ((r : Int) < (gl : Int)) = true := by simp; omega
            have hws : IntKind.i64.wrap ((gl : Int) - 1) = (gl : Int) - 1 := by rw [IntKind.wrap_i64]; omega
            have hwr : IntKind.i64.wrap ((r : Int) + 1) = (r : Int) + 1 := by rw [IntKind.wrap_i64]; omega
            go_wp2_with fail
            go_loopw [8] (fun iv wr => ∃ (k : Nat) (V3 : (Int × Int) × Bool → Value) (M3 : List Nd), iv = .int .i64 ((k : Int) - 1) ∧ k ≤ gl ∧ downN (G.map Dd8.nd) k M3 = downN (G.map Dd8.nd) gl M ∧ SecT wr w.heap.size R bc bn V (.slice y gl c) G R2 bc2 bn2 V3 M3 ∧ Below w.heap.size w wr) (fun iv _ => (intOf iv + 1).toNat)
            case atStart => exact ⟨gl, V2, M, rfl, Nat.le_refl _, rfl, H7.out.2.1, H7.out.2.2⟩
            case round =>
              obtain ⟨k, V3, M3, rfl, hk, hdn, hS8, hB8⟩ := hrel
              by_cases hk0 : k = 0
              · subst hk0
                have e : ((0 : Nat) : Int) - 1 = -1 := rfl
                rw [e]
                have H9 : Veil (AllIn (G.map Dd8.nd) M3 (r + 1) ∧ SecT wr w.heap.size R bc bn V (.slice y gl c) G R2 bc2 bn2 V3 M3 ∧ Below w.heap.size w wr) := ⟨by
                  refine ⟨?_, hS8, hB8⟩
                  have e1 : (G.map Dd8.nd).length = gl := by rw [List.length_map]; exact HGL.out
                  have := AllIn.round hS8.one.ok hS8.one.built (by omega) H7.out.1 (by omega)
                  rw [e1, ← hdn] at this
                  exact this⟩
                clear hS8 hB8 hdn hk H7 e
                go_wp2
                go_roundw
                case rel => exact ⟨r + 1, V3, M3, by push_cast; rfl, hrlt, H9.out.1, H9.out.2.1, H9.out.2.2⟩
                case measure => simp [intOf]; omega
              · obtain ⟨j, rfl⟩ : ∃ j, k = j + 1 := ⟨k - 1, by omega⟩
                have e : ((j + 1 : Nat) : Int) - 1 = (j : Int) := by omega
                rw [e]
                have hgl := HGL.out
                have hjl : j < G.length := by omega
                have hj0 : (0 : Int) ≤ (j : Int) := by omega
                have hjg : (j : Int) < (gl : Int) := by omega
                have hdj : decide ((0 : Int) ≤ (j : Int)) = true := by simp
                have hwj : IntKind.i64.wrap ((j : Int) - 1) = (j : Int) - 1 := by rw [IntKind.wrap_i64]; omega
                obtain ⟨g, hyg, -, -⟩ := hS8.one.good.at_ j (by rw [List.length_map]; exact hjl)
                have hok := hS8.one.all _ (List.getElem_mem hjl)
                have HPT : Veil (∀ W V4 M4, SecT W w.heap.size R bc bn V (.slice y gl c) G R2 bc2 bn2 V4 M4 → W.rangeAt g (j * 7 + 1) (encF G[j].id) ∧ W.rangeAt g (j * 7 + 3) (encF G[j].par) ∧ W.cell? ⟨g, j * 7 + 5, none⟩ = some (.bool G[j].right) ∧ W.cell? ⟨g, j * 7 + 6, none⟩ = some (.int .u8 G[j].chr)) := ⟨fun W V4 M4 h => by
                  obtain ⟨g', hg', _, hc⟩ := h.one.good.at_ j (by rw [List.length_map]; exact hjl)
                  rw [hyg] at hg'
                  obtain rfl : g = g' := by injection hg' with q; injection q
                  rw [List.getElem_map] at hc
                  exact deed_parts hc⟩
                have hdn2 : downN (G.map Dd8.nd) j (againN M3 G[j].nd) = downN (G.map Dd8.nd) gl M := by
                  rw [← hdn, downN_succ (by rw [List.length_map]; exact hjl), List.getElem_map]
                have hhas := hasT_any w.heap.size R2 bc2 bn2 M3 V3 G[j].id hok.id wr hS8.tree
                have HINS : Veil (∀ W, SecT W w.heap.size R bc bn V (.slice y gl c) G R2 bc2 bn2 V3 M3 → (chrN M3 G[j].id).isSome = false → Calls Try.prog 16 #[.pointer (some ⟨R2, 0, none⟩), .agg (encF G[j].id).toArray, .agg (encF G[j].par).toArray, .bool G[j].right, .int .u8 G[j].chr] W fun e w' => ∃ ec, e = .returned (.int .i64 ec) ∧ ∃ V4, SecT w' w.heap.size R bc bn V (.slice y gl c) G R2 bc2 bn2 V4 (againN M3 G[j].nd) ∧ Below w.heap.size W w') := ⟨fun W h hn => by
                  have hl4 := h.again.len (by rw [List.length_map]; omega)
                  refine (insT_any w.heap.size R2 bc2 bn2 M3 V3 G[j].nd hok.id hok.par (by omega) W h.one.low h.tree).mono ?_
                  rintro e w' ⟨h1, V4, h2, h3⟩
                  obtain ⟨h4, h5⟩ := h.ins (List.getElem_mem hjl) (by show ¬ (chrN M3 G[j].id).isSome = true; rw [hn]; simp) h2 h3
                  exact ⟨_, h1, V4, h4, h5⟩⟩
                have hsame : (chrN M3 G[j].id).isSome = true → againN M3 G[j].nd = M3 := fun h => by unfold againN; exact if_pos h
                have HAG : Veil (((chrN M3 G[j].id).isSome = true → againN M3 G[j].nd = M3) ∧ downN (G.map Dd8.nd) j (againN M3 G[j].nd) = downN (G.map Dd8.nd) gl M) := ⟨hsame, hdn2⟩
                have uD := Try.underlying32
                have iI : (Try.prog.info? 32).map (·.size) = some (encF G[j].id).length := sizeDot
                have iP : (Try.prog.info? 32).map (·.size) = some (encF G[j].par).length := sizeDot
                have H8 := Veil.mk (And.intro hS8 hB8)
                have r1 := (HPT.out wr V3 M3 hS8).1
                clear hsame hdn2 hdn hS8 hB8 hok e hgl H7 hk
                generalize againN M3 G[j].nd = M4 at HINS HAG
                generalize (chrN M3 G[j].id).isSome = sm at HINS HAG hhas
                generalize encF G[j].id = DI at HPT HINS hhas iI r1
                generalize encF G[j].par = DP at HPT HINS iP
                generalize G[j].right = rg at HPT HINS
                generalize G[j].chr = ch at HPT HINS
                clear hjl
                subst hyg
                cases sm with
                | true =>
                  go_wp2_with (first
                    | (refine wpList_ldv rfl 32 (.tmp 69) rfl g (j * 7 + 1) rfl DI r1 uD rfl iI ?_)
                    | (go_at_call 18; refine hhas.mono ?_; rintro z W9 ⟨rfl, hb9⟩; have H9 := Veil.mk hb9; clear hb9 hhas r1))
                  go_roundw
                  case rel =>
                    obtain ⟨hs, hd⟩ := HAG.out
                    rw [hs trivial] at hd
                    exact ⟨j, V3, M3, rfl, by omega, hd, H8.out.1.far H9.out, H8.out.2.trans (H9.out.mono H8.out.2.size)⟩
                  case measure => simp [intOf]
                | false =>
                  go_upto_region 18 with (first
                    | (refine wpList_ldv rfl 32 (.tmp 69) rfl g (j * 7 + 1) rfl DI r1 uD rfl iI ?_)
                    | (go_at_call 18; refine hhas.mono ?_; rintro z W9 ⟨rfl, hb9⟩; have H9 := Veil.mk hb9; clear hb9 hhas r1))
                  have hb9 := H9.out.drew
                  have hS9 := H8.out.1.far hb9
                  have hB9 := H8.out.2.trans (hb9.mono H8.out.2.size)
                  have hins := HINS.out W9.drew hS9 trivial
                  have hT : (fun w' : World => w'.rangeAt g (j * 7 + 1) DI ∧ w'.rangeAt g (j * 7 + 3) DP ∧ w'.cell? ⟨g, j * 7 + 5, none⟩ = some (.bool rg) ∧ w'.cell? ⟨g, j * 7 + 6, none⟩ = some (.int .u8 ch)) W9.drew := HPT.out _ _ _ hS9
                  have hS : (fun _ : World => True) W9.drew := trivial
                  have HB9 := Veil.mk hB9
                  clear hb9 hS9 hB9 H8 H9
                  refine wp_region_gateT (fun w' : World => w'.rangeAt g (j * 7 + 1) DI ∧ w'.rangeAt g (j * 7 + 3) DP ∧ w'.cell? ⟨g, j * 7 + 5, none⟩ = some (.bool rg) ∧ w'.cell? ⟨g, j * 7 + 6, none⟩ = some (.int .u8 ch)) (fun _ => True) 99 (by kernel_rfl) ?_
                  refine wpAnyT_held (i := 0) (v := ?_) rfl (by kernel_rfl) (by kernel_rfl) (by kernel_rfl) (fun _ _ _ h => h) (by kernel_rfl) hT (fun _ => hS) (by kernel_rfl) ?_ ?_
                  rotate_left
                  · intro wx hSw; go_split_ands; go_simp; try with_reducible rfl
                  simp only [Act.put, List.getElem_toArray, List.getElem_cons_succ, List.getElem_cons_zero, List.setIfInBounds_toArray, List.set_cons_zero, List.set_cons_succ]
                  refine wpAnyT_held (i := 1) (v := ?_) rfl (by kernel_rfl) (by kernel_rfl) (by kernel_rfl) (fun _ _ _ h => h) (by kernel_rfl) hT (fun _ => hS) (by kernel_rfl) ?_ ?_
                  rotate_left
                  · intro wx hSw; go_split_ands; go_simp; try with_reducible rfl
                  simp only [Act.put, List.getElem_toArray, List.getElem_cons_succ, List.getElem_cons_zero, List.setIfInBounds_toArray, List.set_cons_zero, List.set_cons_succ]
                  refine wpAnyT_held (i := 2) (v := ?_) rfl (by kernel_rfl) (by kernel_rfl) (by kernel_rfl) (fun _ _ _ h => h) (by kernel_rfl) hT (fun _ => hS) (by kernel_rfl) ?_ ?_
                  rotate_left
                  · intro wx hSw; go_split_ands; go_simp; try with_reducible rfl
                  simp only [Act.put, List.getElem_toArray, List.getElem_cons_succ, List.getElem_cons_zero, List.setIfInBounds_toArray, List.set_cons_zero, List.set_cons_succ]
                  refine wpAnyT_held (i := 3) (v := ?_) rfl (by kernel_rfl) (by kernel_rfl) (by kernel_rfl) (fun _ _ _ h => h) (by kernel_rfl) hT (fun _ => hS) (by kernel_rfl) ?_ ?_
                  rotate_left
                  · intro wx hSw; go_split_ands; go_simp; try with_reducible rfl
                  simp only [Act.put, List.getElem_toArray, List.getElem_cons_succ, List.getElem_cons_zero, List.setIfInBounds_toArray, List.set_cons_zero, List.set_cons_succ]
                  refine wpAnyT_held (i := 4) (v := ?_) rfl (by kernel_rfl) (by kernel_rfl) (by kernel_rfl) (fun _ _ _ h => h) (by kernel_rfl) hT (fun _ => hS) (by kernel_rfl) ?_ ?_
                  rotate_left
                  · intro wx hSw; go_split_ands; go_simp; try with_reducible rfl
                  simp only [Act.put, List.getElem_toArray, List.getElem_cons_succ, List.getElem_cons_zero, List.setIfInBounds_toArray, List.set_cons_zero, List.set_cons_succ]
                  refine wpAnyT_load (i := 5) (dst := some 78) (ty := 32) (x := .tmp 77) (b := g) (o := ((j * 7 + 1))) (cs := DI) (by kernel_rfl) (by kernel_rfl) (by kernel_rfl) (by kernel_rfl) (by kernel_rfl) (fun _ _ _ h => h) (by kernel_rfl) hT (fun _ => hS) (by kernel_rfl) (fun _ h => h.1) uD rfl iI ?_
                  simp only [Act.put, List.getElem_toArray, List.getElem_cons_succ, List.getElem_cons_zero, List.setIfInBounds_toArray, List.set_cons_zero, List.set_cons_succ]
                  refine wpAnyT_held (i := 6) (v := ?_) rfl (by kernel_rfl) (by kernel_rfl) (by kernel_rfl) (fun _ _ _ h => h) (by kernel_rfl) hT (fun _ => hS) (by kernel_rfl) ?_ ?_
                  rotate_left
                  · intro wx hSw; go_split_ands; go_simp; try with_reducible rfl
                  simp only [Act.put, List.getElem_toArray, List.getElem_cons_succ, List.getElem_cons_zero, List.setIfInBounds_toArray, List.set_cons_zero, List.set_cons_succ]
                  refine wpAnyT_held (i := 7) (v := ?_) rfl (by kernel_rfl) (by kernel_rfl) (by kernel_rfl) (fun _ _ _ h => h) (by kernel_rfl) hT (fun _ => hS) (by kernel_rfl) ?_ ?_
                  rotate_left
                  · intro wx hSw; go_split_ands; go_simp; try with_reducible rfl
                  simp only [Act.put, List.getElem_toArray, List.getElem_cons_succ, List.getElem_cons_zero, List.setIfInBounds_toArray, List.set_cons_zero, List.set_cons_succ]
                  refine wpAnyT_held (i := 8) (v := ?_) rfl (by kernel_rfl) (by kernel_rfl) (by kernel_rfl) (fun _ _ _ h => h) (by kernel_rfl) hT (fun _ => hS) (by kernel_rfl) ?_ ?_
                  rotate_left
                  · intro wx hSw; go_split_ands; go_simp; try with_reducible rfl
                  simp only [Act.put, List.getElem_toArray, List.getElem_cons_succ, List.getElem_cons_zero, List.setIfInBounds_toArray, List.set_cons_zero, List.set_cons_succ]
                  refine wpAnyT_held (i := 9) (v := ?_) rfl (by kernel_rfl) (by kernel_rfl) (by kernel_rfl) (fun _ _ _ h => h) (by kernel_rfl) hT (fun _ => hS) (by kernel_rfl) ?_ ?_
                  rotate_left
                  · intro wx hSw; go_split_ands; go_simp; try with_reducible rfl
                  simp only [Act.put, List.getElem_toArray, List.getElem_cons_succ, List.getElem_cons_zero, List.setIfInBounds_toArray, List.set_cons_zero, List.set_cons_succ]
                  refine wpAnyT_load (i := 10) (dst := some 83) (ty := 32) (x := .tmp 82) (b := g) (o := ((j * 7 + 3))) (cs := DP) (by kernel_rfl) (by kernel_rfl) (by kernel_rfl) (by kernel_rfl) (by kernel_rfl) (fun _ _ _ h => h) (by kernel_rfl) hT (fun _ => hS) (by kernel_rfl) (fun _ h => h.2.1) uD rfl iP ?_
                  simp only [Act.put, List.getElem_toArray, List.getElem_cons_succ, List.getElem_cons_zero, List.setIfInBounds_toArray, List.set_cons_zero, List.set_cons_succ]
                  refine wpAnyT_held (i := 11) (v := ?_) rfl (by kernel_rfl) (by kernel_rfl) (by kernel_rfl) (fun _ _ _ h => h) (by kernel_rfl) hT (fun _ => hS) (by kernel_rfl) ?_ ?_
                  rotate_left
                  · intro wx hSw; go_split_ands; go_simp; try with_reducible rfl
                  simp only [Act.put, List.getElem_toArray, List.getElem_cons_succ, List.getElem_cons_zero, List.setIfInBounds_toArray, List.set_cons_zero, List.set_cons_succ]
                  refine wpAnyT_held (i := 12) (v := ?_) rfl (by kernel_rfl) (by kernel_rfl) (by kernel_rfl) (fun _ _ _ h => h) (by kernel_rfl) hT (fun _ => hS) (by kernel_rfl) ?_ ?_
                  rotate_left
                  · intro wx hSw; go_split_ands; go_simp; try with_reducible rfl
                  simp only [Act.put, List.getElem_toArray, List.getElem_cons_succ, List.getElem_cons_zero, List.setIfInBounds_toArray, List.set_cons_zero, List.set_cons_succ]
                  refine wpAnyT_held (i := 13) (v := ?_) rfl (by kernel_rfl) (by kernel_rfl) (by kernel_rfl) (fun _ _ _ h => h) (by kernel_rfl) hT (fun _ => hS) (by kernel_rfl) ?_ ?_
                  rotate_left
                  · intro wx hSw; go_split_ands; go_simp; try with_reducible rfl
                  simp only [Act.put, List.getElem_toArray, List.getElem_cons_succ, List.getElem_cons_zero, List.setIfInBounds_toArray, List.set_cons_zero, List.set_cons_succ]
                  refine wpAnyT_held (i := 14) (v := ?_) rfl (by kernel_rfl) (by kernel_rfl) (by kernel_rfl) (fun _ _ _ h => h) (by kernel_rfl) hT (fun _ => hS) (by kernel_rfl) ?_ ?_
                  rotate_left
                  · intro wx hSw; go_split_ands; go_simp; try with_reducible rfl
                  simp only [Act.put, List.getElem_toArray, List.getElem_cons_succ, List.getElem_cons_zero, List.setIfInBounds_toArray, List.set_cons_zero, List.set_cons_succ]
                  refine wpAnyT_held (i := 15) (v := ?_) rfl (by kernel_rfl) (by kernel_rfl) (by kernel_rfl) (fun _ _ _ h => h) (by kernel_rfl) hT (fun _ => hS) (by kernel_rfl) ?_ ?_
                  rotate_left
                  · intro wx hSw; go_split_ands; go_simp; try with_reducible rfl
                  simp only [Act.put, List.getElem_toArray, List.getElem_cons_succ, List.getElem_cons_zero, List.setIfInBounds_toArray, List.set_cons_zero, List.set_cons_succ]
                  refine wpAnyT_held (i := 16) (v := ?_) rfl (by kernel_rfl) (by kernel_rfl) (by kernel_rfl) (fun _ _ _ h => h) (by kernel_rfl) hT (fun _ => hS) (by kernel_rfl) ?_ ?_
                  rotate_left
                  · intro wx hSw; go_split_ands; go_simp; try with_reducible rfl
                  simp only [Act.put, List.getElem_toArray, List.getElem_cons_succ, List.getElem_cons_zero, List.setIfInBounds_toArray, List.set_cons_zero, List.set_cons_succ]
                  refine wpAnyT_held (i := 17) (v := ?_) rfl (by kernel_rfl) (by kernel_rfl) (by kernel_rfl) (fun _ _ _ h => h) (by kernel_rfl) hT (fun _ => hS) (by kernel_rfl) ?_ ?_
                  rotate_left
                  · intro wx hSw; go_split_ands; go_simp; try with_reducible rfl
                  simp only [Act.put, List.getElem_toArray, List.getElem_cons_succ, List.getElem_cons_zero, List.setIfInBounds_toArray, List.set_cons_zero, List.set_cons_succ]
                  refine wpAnyT_held (i := 18) (v := ?_) rfl (by kernel_rfl) (by kernel_rfl) (by kernel_rfl) (fun _ _ _ h => h) (by kernel_rfl) hT (fun _ => hS) (by kernel_rfl) ?_ ?_
                  rotate_left
                  · intro wx hSw; go_split_ands; go_simp; try with_reducible rfl
                  simp only [Act.put, List.getElem_toArray, List.getElem_cons_succ, List.getElem_cons_zero, List.setIfInBounds_toArray, List.set_cons_zero, List.set_cons_succ]
                  refine wpAnyT_held (i := 19) (v := ?_) rfl (by kernel_rfl) (by kernel_rfl) (by kernel_rfl) (fun _ _ _ h => h) (by kernel_rfl) hT (fun _ => hS) (by kernel_rfl) ?_ ?_
                  rotate_left
                  · intro wx hSw; go_split_ands; go_simp; try with_reducible rfl
                  simp only [Act.put, List.getElem_toArray, List.getElem_cons_succ, List.getElem_cons_zero, List.setIfInBounds_toArray, List.set_cons_zero, List.set_cons_succ]
                  refine wpAnyT_held (i := 20) (v := ?_) rfl (by kernel_rfl) (by kernel_rfl) (by kernel_rfl) (fun _ _ _ h => h) (by kernel_rfl) hT (fun _ => hS) (by kernel_rfl) ?_ ?_
                  rotate_left
                  · intro wx hSw; go_split_ands; go_simp; try with_reducible rfl
                  simp only [Act.put, List.getElem_toArray, List.getElem_cons_succ, List.getElem_cons_zero, List.setIfInBounds_toArray, List.set_cons_zero, List.set_cons_succ]
                  refine wpAnyT_one (i := 21) rfl (by kernel_rfl) (by kernel_rfl) (fun K hK => ?_)
                  refine wpx_call _ _ (by kernel_rfl) (hins.mono ?_)
                  rintro z W10 ⟨ec, rfl, V5, hS10, hb10⟩
                  refine ⟨_, rfl, ?_⟩
                  replace hT : (fun w' : World => w'.rangeAt g (j * 7 + 1) DI ∧ w'.rangeAt g (j * 7 + 3) DP ∧ w'.cell? ⟨g, j * 7 + 5, none⟩ = some (.bool rg) ∧ w'.cell? ⟨g, j * 7 + 6, none⟩ = some (.int .u8 ch)) W10 := HPT.out _ _ _ hS10
                  replace hS : (fun _ : World => True) W10 := trivial
                  have H10 := Veil.mk (And.intro hS10 (HB9.out.trans hb10))
                  clear hS10 hb10 hins
                  refine hK.out _ _ hT (fun _ => hS) ?_
                  clear hK K
                  try simp only [Act.put, List.getElem_toArray, List.getElem_cons_succ, List.getElem_cons_zero, List.setIfInBounds_toArray, List.set_cons_zero, List.set_cons_succ]
                  refine wpAnyT_done (by kernel_rfl) ?_ _
                  clear hT hS
                  go_wp2
                  go_roundw
                  case rel => exact ⟨j, V5, M4, rfl, by omega, HAG.out.2, H10.out.1, H10.out.2⟩
                  case measure => simp [intOf]
          · have hli : decide ((r : Int) < (gl : Int)) = false := by simp; omega
            go_upto_region 19 with fail
            obtain ⟨hall, hS7, hB7⟩ := H7.out
            have e1 : (G.map Dd8.nd).length = gl := by rw [List.length_map]; exact HGL.out
            obtain ⟨hw1, hx1, hl1⟩ := AllIn.done hS7.one.ok (by rw [e1, show gl = r by omega]; exact hall)
            rw [e1] at hl1
            obtain ⟨ORD, hORD⟩ : ∃ q, walkA (G.map Dd8.nd) rootS = q := ⟨_, rfl⟩
            obtain ⟨z, hz⟩ : ∃ q, textN (G.map Dd8.nd) = q := ⟨_, rfl⟩
            have hol : ORD.length ≤ 40 := by rw [← hORD, hS7.one.ok.len, e1]; exact hl40
            obtain ⟨tn, htn⟩ : ∃ q, z.length = q := ⟨_, rfl⟩
            have HTX : Veil (∀ (Rx bx nx : Nat) (Nx : List Nd) (Vx : (Int × Int) × Bool → Value) W, TreeOk Nx → Nx.length ≤ 40 → textN Nx = z → walkA Nx rootS = ORD → TreeAt W w.heap.size Rx bx nx Nx Vx → (Calls Try.prog 14 #[.pointer (some ⟨Rx, 0, none⟩)] W fun e w' => ∃ tx tc, e = .returned (.slice tx tn tc) ∧ Bytes w' tx tn tc z ∧ Below W.heap.size W w') ∧ (Calls Try.prog 21 #[.pointer (some ⟨Rx, 0, none⟩)] W fun e w' => ∃ ox oc, e = .returned (.slice ox ORD.length oc) ∧ OwnI w' W.heap.size 32 2 (.slice ox ORD.length oc) (ORD.map encF) ∧ Below W.heap.size W w')) := ⟨fun Rx bx nx Nx Vx W h0 h1 h2 h3 hT => by
              refine ⟨(textB_any _ Rx bx nx Nx Vx h0 (by omega) W hT).mono ?_, (orderT_any _ Rx bx nx Nx Vx h0 (by omega) W hT).mono ?_⟩
              · rintro e w' ⟨v, q1, q2, q3⟩
                rw [h2] at q2
                obtain ⟨y, n, c, rfl, hn⟩ := q2.isSlice
                obtain rfl : n = tn := by rw [hn]; exact htn
                exact ⟨y, c, q1, q2.bytes.2, q3⟩
              · rintro e w' ⟨v, q1, q2, q3⟩
                rw [h3] at q2
                obtain ⟨y, c, hv⟩ := q2.isSlice
                rw [List.length_map] at hv
                exact ⟨y, c, by rw [q1, hv], by rw [← hv]; exact q2, q3⟩⟩
            have HT2 := Veil.mk (fun W (hb : Below wr.heap.size wr W) => HTX.out R2 bc2 bn2 M V2 W hall.1.ok (by omega) (by rw [hx1]; exact hz) (by rw [hw1]; exact hORD) (hS7.tree.far hb))
            have HT1 := Veil.mk (fun W (hb : Below wr.heap.size wr W) => HTX.out R bc bn (G.map Dd8.nd) V W hS7.one.ok (by omega) hz hORD (hS7.one.tree.far hb))
            have HLN : Veil (∀ W, Below wr.heap.size wr W → Calls Try.prog 19 #[.pointer (some ⟨R2, 0, none⟩)] W fun e w' => e = .returned (.int .i64 (gl : Nat)) ∧ w' = W) := ⟨fun W hb => by
              have := lenT_any w.heap.size R2 bc2 bn2 M V2 W (hS7.tree.far hb)
              rw [hl1] at this; exact this⟩
            have HSD : Veil (∀ b1 b2 x1 x2 c1 c2 W, OwnI W b1 32 2 (.slice x1 ORD.length c1) (ORD.map encF) → OwnI W b2 32 2 (.slice x2 ORD.length c2) (ORD.map encF) → Calls Try.prog 20 #[.slice x1 ORD.length c1, .slice x2 ORD.length c2] W fun e w' => e = .returned (.bool true) ∧ Below W.heap.size W w') := ⟨fun b1 b2 x1 x2 c1 c2 W h1 h2 => sameDots_any b1 b2 x1 x2 c1 c2 ORD (by omega) W h1 h2⟩
            have hlv := live8_any wr.drew
            have HBW := Veil.mk hB7
            have HCV : Veil (∀ w' tx tc, Bytes w' tx tn tc z → (convert 35 9 (.slice tx tn tc)).run Try.prog w' = .ok (.string (strOfNums z)) w') := ⟨fun w' tx tc h => conv_bytes h⟩
            generalize ORD.map encF = OC at HT2 HT1 HSD
            generalize ORD.length = on at HT2 HT1 HSD hol
            obtain ⟨SZ, hSZ⟩ : ∃ q, strOfNums z = q := ⟨_, rfl⟩
            rw [hSZ] at HCV
            have hgg : ((gl : Int) == (gl : Int)) = true := by simp
            clear hall hS7 hB7 e1 hw1 hx1 hl1 hORD hz htn HTX H7 hSZ hrlt hli hrl
            refine wp_region_gateT (fun _ : World => True) (fun _ => True) 99 (by kernel_rfl) ?_
            have hT : (fun _ : World => True) wr.drew := trivial
            have hS : (fun _ : World => True) wr.drew := trivial
            refine wpAnyT_one (i := 0) rfl (by kernel_rfl) (by kernel_rfl) (fun K hK => ?_)
            refine wpx_call _ _ (by kernel_rfl) (hlv.mono ?_)
            rintro zz U1 ⟨rfl, hb1⟩
            refine ⟨_, rfl, ?_⟩
            replace hb1 : Below wr.heap.size wr U1 := (Below.refl _ _).drew.trans hb1
            replace hT : (fun _ : World => True) U1 := trivial
            replace hS : (fun _ : World => True) U1 := trivial
            have hln := HLN.out U1 hb1
            clear hlv
            refine hK.out _ _ hT (fun _ => hS) ?_
            clear hK K
            try simp only [Act.put, List.getElem_toArray, List.getElem_cons_succ, List.getElem_cons_zero, List.setIfInBounds_toArray, List.set_cons_zero, List.set_cons_succ]
            refine wpAnyT_held (i := 1) (v := ?_) rfl (by kernel_rfl) (by kernel_rfl) (by kernel_rfl) (fun _ _ _ h => h) (by kernel_rfl) hT (fun _ => hS) (by kernel_rfl) ?_ ?_
            rotate_left
            · intro wx hSw; go_split_ands; go_simp; try with_reducible rfl
            simp only [Act.put, List.getElem_toArray, List.getElem_cons_succ, List.getElem_cons_zero, List.setIfInBounds_toArray, List.set_cons_zero, List.set_cons_succ]
            refine wpAnyT_held (i := 2) (v := ?_) rfl (by kernel_rfl) (by kernel_rfl) (by kernel_rfl) (fun _ _ _ h => h) (by kernel_rfl) hT (fun _ => hS) (by kernel_rfl) ?_ ?_
            rotate_left
            · intro wx hSw; go_split_ands; go_simp; try with_reducible rfl
            simp only [Act.put, List.getElem_toArray, List.getElem_cons_succ, List.getElem_cons_zero, List.setIfInBounds_toArray, List.set_cons_zero, List.set_cons_succ]
            refine wpAnyT_held (i := 4) (v := ?_) rfl (by kernel_rfl) (by kernel_rfl) (by kernel_rfl) (fun _ _ _ h => h) (by kernel_rfl) hT (fun _ => hS) (by kernel_rfl) ?_ ?_
            rotate_left
            · intro wx hSw; go_split_ands; go_simp; try with_reducible rfl
            simp only [Act.put, List.getElem_toArray, List.getElem_cons_succ, List.getElem_cons_zero, List.setIfInBounds_toArray, List.set_cons_zero, List.set_cons_succ]
            refine wpAnyT_held (i := 5) (v := ?_) rfl (by kernel_rfl) (by kernel_rfl) (by kernel_rfl) (fun _ _ _ h => h) (by kernel_rfl) hT (fun _ => hS) (by kernel_rfl) ?_ ?_
            rotate_left
            · intro wx hSw; go_split_ands; go_simp; try with_reducible rfl
            simp only [Act.put, List.getElem_toArray, List.getElem_cons_succ, List.getElem_cons_zero, List.setIfInBounds_toArray, List.set_cons_zero, List.set_cons_succ]
            refine wpAnyT_one (i := 3) rfl (by kernel_rfl) (by kernel_rfl) (fun K hK => ?_)
            refine wpx_call _ _ (by kernel_rfl) (hln.mono ?_)
            rintro zz U2 ⟨rfl, hU2⟩
            refine ⟨_, rfl, ?_⟩
            subst hU2
            have htx := (HT2.out U2 hb1).1
            clear hln
            refine hK.out _ _ hT (fun _ => hS) ?_
            clear hK K
            try simp only [Act.put, List.getElem_toArray, List.getElem_cons_succ, List.getElem_cons_zero, List.setIfInBounds_toArray, List.set_cons_zero, List.set_cons_succ]
            refine wpAnyT_held (i := 6) (v := .bool true) rfl (by kernel_rfl) (by kernel_rfl) (by kernel_rfl) (fun _ _ _ h => h) (by kernel_rfl) hT (fun _ => hS) (by kernel_rfl) ?_ ?_
            · intro wx hSw; go_split_ands; go_simp
            simp only [Act.put, List.getElem_toArray, List.getElem_cons_succ, List.getElem_cons_zero, List.setIfInBounds_toArray, List.set_cons_zero, List.set_cons_succ]
            refine wpAnyT_held (i := 7) (v := ?_) rfl (by kernel_rfl) (by kernel_rfl) (by kernel_rfl) (fun _ _ _ h => h) (by kernel_rfl) hT (fun _ => hS) (by kernel_rfl) ?_ ?_
            rotate_left
            · intro wx hSw; go_split_ands; go_simp; try with_reducible rfl
            simp only [Act.put, List.getElem_toArray, List.getElem_cons_succ, List.getElem_cons_zero, List.setIfInBounds_toArray, List.set_cons_zero, List.set_cons_succ]
            refine wpAnyT_held (i := 8) (v := ?_) rfl (by kernel_rfl) (by kernel_rfl) (by kernel_rfl) (fun _ _ _ h => h) (by kernel_rfl) hT (fun _ => hS) (by kernel_rfl) ?_ ?_
            rotate_left
            · intro wx hSw; go_split_ands; go_simp; try with_reducible rfl
            simp only [Act.put, List.getElem_toArray, List.getElem_cons_succ, List.getElem_cons_zero, List.setIfInBounds_toArray, List.set_cons_zero, List.set_cons_succ]
            refine wpAnyT_held (i := 9) (v := ?_) rfl (by kernel_rfl) (by kernel_rfl) (by kernel_rfl) (fun _ _ _ h => h) (by kernel_rfl) hT (fun _ => hS) (by kernel_rfl) ?_ ?_
            rotate_left
            · intro wx hSw; go_split_ands; go_simp; try with_reducible rfl
            simp only [Act.put, List.getElem_toArray, List.getElem_cons_succ, List.getElem_cons_zero, List.setIfInBounds_toArray, List.set_cons_zero, List.set_cons_succ]
            refine wpAnyT_held (i := 12) (v := ?_) rfl (by kernel_rfl) (by kernel_rfl) (by kernel_rfl) (fun _ _ _ h => h) (by kernel_rfl) hT (fun _ => hS) (by kernel_rfl) ?_ ?_
            rotate_left
            · intro wx hSw; go_split_ands; go_simp; try with_reducible rfl
            simp only [Act.put, List.getElem_toArray, List.getElem_cons_succ, List.getElem_cons_zero, List.setIfInBounds_toArray, List.set_cons_zero, List.set_cons_succ]
            refine wpAnyT_one (i := 10) rfl (by kernel_rfl) (by kernel_rfl) (fun K hK => ?_)
            refine wpx_call _ _ (by kernel_rfl) (htx.mono ?_)
            rintro zz U3 ⟨tx, tc, rfl, hz3, hb3⟩
            refine ⟨_, rfl, ?_⟩
            replace hb3 : Below wr.heap.size wr U3 := hb1.trans (hb3.mono hb1.size)
            replace hT : (fun _ : World => True) U3 := trivial
            replace hS : (fun _ : World => True) U3 := trivial
            have htx2 := (HT1.out U3 hb3).1
            have HZ3 := Veil.mk hz3
            clear htx hz3 hb1
            refine hK.out _ _ hT (fun _ => hS) ?_
            clear hK K
            try simp only [Act.put, List.getElem_toArray, List.getElem_cons_succ, List.getElem_cons_zero, List.setIfInBounds_toArray, List.set_cons_zero, List.set_cons_succ]
            refine wpAnyT_more (T' := fun w' : World => (convert 35 9 (.slice tx tn tc)).run Try.prog w' = .ok (.string SZ) w') (fun _ _ => trivial) _ _ _ _ ?_
            replace hT : (fun w' : World => (convert 35 9 (.slice tx tn tc)).run Try.prog w' = .ok (.string SZ) w') U3 := HCV.out _ _ _ HZ3.out
            refine wpAnyT_held (i := 11) (v := ?_) rfl (by kernel_rfl) (by kernel_rfl) (by kernel_rfl) (fun _ _ _ h => h) (by kernel_rfl) hT (fun _ => hS) (by kernel_rfl) ?_ ?_
            rotate_left
            · intro wx hSw; go_split_ands; go_simp; try with_reducible rfl
            simp only [Act.put, List.getElem_toArray, List.getElem_cons_succ, List.getElem_cons_zero, List.setIfInBounds_toArray, List.set_cons_zero, List.set_cons_succ]
            refine wpAnyT_one (i := 13) rfl (by kernel_rfl) (by kernel_rfl) (fun K hK => ?_)
            refine wpx_call _ _ (by kernel_rfl) (htx2.mono ?_)
            rintro zz U4 ⟨tx2, tc2, rfl, hz4, hb4⟩
            refine ⟨_, rfl, ?_⟩
            have HZ4 := Veil.mk (And.intro (HZ3.out.below hb4) hz4)
            replace hb4 : Below wr.heap.size wr U4 := hb3.trans (hb4.mono hb3.size)
            replace hT : (fun w' : World => (convert 35 9 (.slice tx tn tc)).run Try.prog w' = .ok (.string SZ) w') U4 := HCV.out _ _ _ HZ4.out.1
            replace hS : (fun _ : World => True) U4 := trivial
            have hor := (HT2.out U4 hb4).2
            clear htx2 hz4 hb3 HZ3
            refine hK.out _ _ hT (fun _ => hS) ?_
            clear hK K
            try simp only [Act.put, List.getElem_toArray, List.getElem_cons_succ, List.getElem_cons_zero, List.setIfInBounds_toArray, List.set_cons_zero, List.set_cons_succ]
            refine wpAnyT_more (T' := fun w' : World => (convert 35 9 (.slice tx tn tc)).run Try.prog w' = .ok (.string SZ) w' ∧ (convert 35 9 (.slice tx2 tn tc2)).run Try.prog w' = .ok (.string SZ) w') (fun _ h => h.1) _ _ _ _ ?_
            replace hT : (fun w' : World => (convert 35 9 (.slice tx tn tc)).run Try.prog w' = .ok (.string SZ) w' ∧ (convert 35 9 (.slice tx2 tn tc2)).run Try.prog w' = .ok (.string SZ) w') U4 := ⟨HCV.out _ _ _ HZ4.out.1, HCV.out _ _ _ HZ4.out.2⟩
            refine wpAnyT_held (i := 14) (v := ?_) rfl (by kernel_rfl) (by kernel_rfl) (by kernel_rfl) (fun _ _ _ h => h) (by kernel_rfl) hT (fun _ => hS) (by kernel_rfl) ?_ ?_
            rotate_left
            · intro wx hSw; go_split_ands; go_simp; try with_reducible rfl
            simp only [Act.put, List.getElem_toArray, List.getElem_cons_succ, List.getElem_cons_zero, List.setIfInBounds_toArray, List.set_cons_zero, List.set_cons_succ]
            refine wpAnyT_held (i := 15) (v := .bool true) rfl (by kernel_rfl) (by kernel_rfl) (by kernel_rfl) (fun _ _ _ h => h) (by kernel_rfl) hT (fun _ => hS) (by kernel_rfl) ?_ ?_
            · intro wx hSw; go_split_ands; go_simp
            simp only [Act.put, List.getElem_toArray, List.getElem_cons_succ, List.getElem_cons_zero, List.setIfInBounds_toArray, List.set_cons_zero, List.set_cons_succ]
            refine wpAnyT_held (i := 16) (v := ?_) rfl (by kernel_rfl) (by kernel_rfl) (by kernel_rfl) (fun _ _ _ h => h) (by kernel_rfl) hT (fun _ => hS) (by kernel_rfl) ?_ ?_
            rotate_left
            · intro wx hSw; go_split_ands; go_simp; try with_reducible rfl
            simp only [Act.put, List.getElem_toArray, List.getElem_cons_succ, List.getElem_cons_zero, List.setIfInBounds_toArray, List.set_cons_zero, List.set_cons_succ]
            refine wpAnyT_held (i := 17) (v := ?_) rfl (by kernel_rfl) (by kernel_rfl) (by kernel_rfl) (fun _ _ _ h => h) (by kernel_rfl) hT (fun _ => hS) (by kernel_rfl) ?_ ?_
            rotate_left
            · intro wx hSw; go_split_ands; go_simp; try with_reducible rfl
            simp only [Act.put, List.getElem_toArray, List.getElem_cons_succ, List.getElem_cons_zero, List.setIfInBounds_toArray, List.set_cons_zero, List.set_cons_succ]
            refine wpAnyT_held (i := 18) (v := ?_) rfl (by kernel_rfl) (by kernel_rfl) (by kernel_rfl) (fun _ _ _ h => h) (by kernel_rfl) hT (fun _ => hS) (by kernel_rfl) ?_ ?_
            rotate_left
            · intro wx hSw; go_split_ands; go_simp; try with_reducible rfl
            simp only [Act.put, List.getElem_toArray, List.getElem_cons_succ, List.getElem_cons_zero, List.setIfInBounds_toArray, List.set_cons_zero, List.set_cons_succ]
            refine wpAnyT_held (i := 20) (v := ?_) rfl (by kernel_rfl) (by kernel_rfl) (by kernel_rfl) (fun _ _ _ h => h) (by kernel_rfl) hT (fun _ => hS) (by kernel_rfl) ?_ ?_
            rotate_left
            · intro wx hSw; go_split_ands; go_simp; try with_reducible rfl
            simp only [Act.put, List.getElem_toArray, List.getElem_cons_succ, List.getElem_cons_zero, List.setIfInBounds_toArray, List.set_cons_zero, List.set_cons_succ]
            refine wpAnyT_one (i := 19) rfl (by kernel_rfl) (by kernel_rfl) (fun K hK => ?_)
            refine wpx_call _ _ (by kernel_rfl) (hor.mono ?_)
            rintro zz U5 ⟨ox, oc, rfl, hO5, hb5⟩
            refine ⟨_, rfl, ?_⟩
            have HZ5 := Veil.mk (And.intro (HZ4.out.1.below hb5) (And.intro (HZ4.out.2.below hb5) hO5))
            replace hb5 : Below wr.heap.size wr U5 := hb4.trans (hb5.mono hb4.size)
            replace hT : (fun w' : World => (convert 35 9 (.slice tx tn tc)).run Try.prog w' = .ok (.string SZ) w' ∧ (convert 35 9 (.slice tx2 tn tc2)).run Try.prog w' = .ok (.string SZ) w') U5 := ⟨HCV.out _ _ _ HZ5.out.1, HCV.out _ _ _ HZ5.out.2.1⟩
            replace hS : (fun _ : World => True) U5 := trivial
            have hor2 := (HT1.out U5 hb5).2
            clear hor hO5 HZ4
            refine hK.out _ _ hT (fun _ => hS) ?_
            clear hK K
            try simp only [Act.put, List.getElem_toArray, List.getElem_cons_succ, List.getElem_cons_zero, List.setIfInBounds_toArray, List.set_cons_zero, List.set_cons_succ]
            refine wpAnyT_one (i := 21) rfl (by kernel_rfl) (by kernel_rfl) (fun K hK => ?_)
            refine wpx_call _ _ (by kernel_rfl) (hor2.mono ?_)
            rintro zz U6 ⟨ox2, oc2, rfl, hO6, hb6⟩
            refine ⟨_, rfl, ?_⟩
            have hsd := HSD.out _ _ ox ox2 oc oc2 U6 (HZ5.out.2.2.far hb6) hO6
            have HZ6 := Veil.mk (And.intro (HZ5.out.1.below hb6) (HZ5.out.2.1.below hb6))
            replace hb6 : Below wr.heap.size wr U6 := hb5.trans (hb6.mono hb5.size)
            replace hT : (fun w' : World => (convert 35 9 (.slice tx tn tc)).run Try.prog w' = .ok (.string SZ) w' ∧ (convert 35 9 (.slice tx2 tn tc2)).run Try.prog w' = .ok (.string SZ) w') U6 := ⟨HCV.out _ _ _ HZ6.out.1, HCV.out _ _ _ HZ6.out.2⟩
            replace hS : (fun _ : World => True) U6 := trivial
            clear hor2 hO6 HZ5
            refine hK.out _ _ hT (fun _ => hS) ?_
            clear hK K
            try simp only [Act.put, List.getElem_toArray, List.getElem_cons_succ, List.getElem_cons_zero, List.setIfInBounds_toArray, List.set_cons_zero, List.set_cons_succ]
            refine wpAnyT_one (i := 22) rfl (by kernel_rfl) (by kernel_rfl) (fun K hK => ?_)
            refine wpx_call _ _ (by kernel_rfl) (hsd.mono ?_)
            rintro zz U7 ⟨rfl, hb7⟩
            refine ⟨_, rfl, ?_⟩
            have HZ7 := Veil.mk (And.intro (HZ6.out.1.below hb7) (HZ6.out.2.below hb7))
            replace hb7 : Below wr.heap.size wr U7 := hb6.trans (hb7.mono hb6.size)
            replace hT : (fun w' : World => (convert 35 9 (.slice tx tn tc)).run Try.prog w' = .ok (.string SZ) w' ∧ (convert 35 9 (.slice tx2 tn tc2)).run Try.prog w' = .ok (.string SZ) w') U7 := ⟨HCV.out _ _ _ HZ7.out.1, HCV.out _ _ _ HZ7.out.2⟩
            replace hS : (fun _ : World => True) U7 := trivial
            clear hsd
            refine hK.out _ _ hT (fun _ => hS) ?_
            clear hK K
            try simp only [Act.put, List.getElem_toArray, List.getElem_cons_succ, List.getElem_cons_zero, List.setIfInBounds_toArray, List.set_cons_zero, List.set_cons_succ]
            refine wpAnyT_held (i := 23) (v := ?_) rfl (by kernel_rfl) (by kernel_rfl) (by kernel_rfl) (fun _ _ _ h => h) (by kernel_rfl) hT (fun _ => hS) (by kernel_rfl) ?_ ?_
            rotate_left
            · intro wx hSw; go_split_ands; go_simp; try with_reducible rfl
            simp only [Act.put, List.getElem_toArray, List.getElem_cons_succ, List.getElem_cons_zero, List.setIfInBounds_toArray, List.set_cons_zero, List.set_cons_succ]
            refine wpAnyT_held (i := 24) (v := ?_) rfl (by kernel_rfl) (by kernel_rfl) (by kernel_rfl) (fun _ _ _ h => h) (by kernel_rfl) hT (fun _ => hS) (by kernel_rfl) ?_ ?_
            rotate_left
            · intro wx hSw; go_split_ands; go_simp; try with_reducible rfl
            simp only [Act.put, List.getElem_toArray, List.getElem_cons_succ, List.getElem_cons_zero, List.setIfInBounds_toArray, List.set_cons_zero, List.set_cons_succ]
            refine wpAnyT_done (by kernel_rfl) ?_ _
            have HQ := Veil.mk (HBW.out.trans (hb7.mono HBW.out.size))
            clear hT hS
            go_wp2
            go_ret
            exact ⟨rfl, HQ.out⟩
end Go.Proofs.Ytdkkenlehdblpaa

