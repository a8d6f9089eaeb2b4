/- A store of many cells within a region; ways that meet behind a region. keys: 'Now', 'Epochs' (slices.Clone of dots). -/
import Derived.Test.YtlalcnmcnkompaaDoorMAn2Ev0
import Derived.Test.YtlalcnmcnkompaaDoorMGate2Pa
import Derived.Test.YtlalcnmcnkompaaDoorMKz1Kz2
namespace Go.Proofs.YtlalcnmcnkompaaDoor
open Go.RowKit
set_option maxRecDepth 20000

theorem wp_stvE {P : Program} {o : Oper} {a : Act} {w : World} {K : Act → World → Prop} {Q : Exit → Act → World → Prop} (ty : TypeId) (x y : Operand) (ho : o.op = .store ty x y)
    (g : Nat) (hx : a.eval x = .pointer (some ⟨g, 0, none⟩)) {t : TypeId} {old cs : List Value} (hy : a.eval y = .agg cs.toArray) (hg : CellsAt w g t old)
    (hi : (P.info? ty).map (·.size) = some cs.length) (hl : old.length = cs.length) (h1 : ∀ v ∈ cs, v.oneCell' = true)
    (h : K (a.put o.dst undef) (w.setRow g cs.toArray)) : o.wp P a w K Q := by
  unfold Oper.wp execOp
  simp only [ho, hx, hy, Instr.storeAt, Instr.sureAddr, Sem.run_bind, Sem.run_pure, Result.andThen_ok, run_storeVar_cells w g ty t old cs hg hl hi h1]
  exact h
theorem wp_meetE {P : Program} {c : Code} {Q : Exit → Act → World → Prop} {a : Act} {w : World} (R : Act → World → Prop) (h1 : Code.wp P c (fun ex a w => match ex with | .normal => R a w | _ => False) a w) (h2 : ∀ a w, R a w → Q .normal a w) : Code.wp P c Q a w :=
  Code.wp_mono (fun e a w q => by cases e <;> first | exact h2 _ _ q | exact q.elim) h1
end Go.Proofs.YtlalcnmcnkompaaDoor

namespace Go.Proofs.YtlalcnmcnkompaaDoor
open Go.RowKit
set_option maxRecDepth 20000
set_option linter.unusedSimpArgs false
theorem dot_oneK (a s : Int) : ∀ u ∈ dotC a s, u.oneCell' = true := by
  intro u hu
  simp only [dotC, List.mem_cons, List.not_mem_nil, or_false] at hu
  rcases hu with rfl | rfl <;> rfl
section
variable (base H : Nat) (own : Int) (seed : List Int) (b : Nat) (M : Int → Int → Option (List Int)) (v : Value) (L : List (Int × Int)) (w : World)
set_option maxHeartbeats 4000000 in
theorem now_none (hR : RingAt w base H own seed b M v []) :
    Calls Tryd.prog 24 #[.pointer (some ⟨H, 0, none⟩)] w fun e w' => e = .returned (.tuple #[.agg (dotC 0 0).toArray, .bool false]) ∧ Below w.heap.size w w' := by
  have hB : Below w.heap.size w (w.alloc (.cells (dotC 0 0).toArray 36)) := (Below.refl _ _).alloc (Nat.le_refl _) _
  have c34 := (hR.far hB).box.cell 34
  rw [ringC_added _ _ _ _ hR.seed32] at c34
  obtain ⟨x, c, rfl⟩ := hR.added.isSlice
  have hr0 := CellsAt.new w 36 (dotC 0 0)
  clear hR
  go_enter Tryd.func24, Tryd.ntmps24
  go_upto_region 1 with fail
  refine forget (p := fun y => Code.wp _ _ _ _ y) (fun W => Below w.heap.size w W ∧ CellsAt W w.heap.size 36 (dotC 0 0) ∧ W.cell? ⟨H, 34, none⟩ = some (.slice x 0 c)) ⟨hB, hr0, c34⟩ ?_
  clear hB hr0 c34
  rintro W ⟨hB, hr0, c34⟩
  have hbz : ∀ wx, (Instr.build 36 #[]).run Tryd.prog wx = .ok (.agg (dotC 0 0).toArray) wx := fun wx => by kernel_rfl
  have HBZ := Veil.mk hbz
  clear hbz
  go_wp2_with (first
    | (refine wpList_bldx rfl 36 _ rfl #[] (by first | rfl | kernel_rfl) _ (HBZ.out _) ?_)
    | (refine wpList_stv rfl 36 _ _ rfl _ rfl rfl hr0 sizeDotK rfl (dot_oneK 0 0) ?_))
  refine bodyPost_ret (results_ct (Tryd.results24) _ rfl rfl (hr0.setRow (dotC 0 0)) Tryd.underlying36 rfl sizeDotK) rfl ⟨rfl, ?_⟩
  exact below_setRow hB (Nat.le_refl _) _
set_option maxHeartbeats 4000000 in
theorem now_some (a s : Int) (hR : RingAt w base H own seed b M v (L ++ [(a, s)])) :
    Calls Tryd.prog 24 #[.pointer (some ⟨H, 0, none⟩)] w fun e w' => e = .returned (.tuple #[.agg (dotC a s).toArray, .bool true]) ∧ Below w.heap.size w w' := by
  have hs32 := hR.seed32
  have hB : Below w.heap.size w (w.alloc (.cells (dotC 0 0).toArray 36)) := (Below.refl _ _).alloc (Nat.le_refl _) _
  have hr0 := CellsAt.new w 36 (dotC 0 0)
  obtain ⟨x, c, hv⟩ := hR.added.isSlice
  have hR0 := hR.far hB
  have hl16 := hR.lenL
  subst hv
  obtain ⟨g, rfl, hn, hrg⟩ := hR0.added.at_ L.length (by simp)
  have hge : (L ++ [(a, s)])[L.length]'(by simp) = (a, s) := by simp
  rw [hge] at hrg
  have c34 := hR0.box.cell 34
  rw [ringC_added _ _ _ _ hs32] at c34
  simp only [List.length_append, List.length_cons, List.length_nil, Nat.zero_add] at c34 hl16
  obtain ⟨m, hm⟩ : ∃ m, L.length = m := ⟨_, rfl⟩
  rw [hm] at c34 hl16 hrg
  have hwr : IntKind.i64.wrap (((m + 1 : Nat) : Int) - 1) = (m : Int) := by rw [IntKind.wrap_i64]; omega
  have hwr2 : IntKind.i64.wrap ((m : Int) + 1 - 1) = (m : Int) := by rw [IntKind.wrap_i64]; omega
  have hwr3 : IntKind.i64.wrap (m : Int) = (m : Int) := by rw [IntKind.wrap_i64]; omega
  have hne : (((m + 1 : Nat) : Int) == 0) = false := by simp; omega
  have hne2 : ((m : Int) + 1 == 0) = false := by simp; omega
  have hne3 : ¬ ((m : Int) + 1 = 0) := by omega
  clear hm hn hge hR hR0
  go_enter Tryd.func24, Tryd.ntmps24
  go_upto_region 1 with fail
  refine forget (p := fun y => Code.wp _ _ _ _ y) (fun W => Below w.heap.size w W ∧ CellsAt W w.heap.size 36 (dotC 0 0) ∧ W.cell? ⟨H, 34, none⟩ = some (.slice (some ⟨g, 0, none⟩) (m + 1) c) ∧ W.rangeAt g (m * 2) (dotC a s)) ⟨hB, hr0, c34, hrg⟩ ?_
  clear hB hr0 c34 hrg
  rintro W ⟨hB, hr0, c34, hrg⟩
  go_upto_region 3 with fail
  refine wp_region_gate (fun w' => w'.cell? ⟨H, 34, none⟩ = some (.slice (some ⟨g, 0, none⟩) (m + 1) c) ∧ w'.rangeAt g (m * 2) (dotC a s)) 12 (by kernel_rfl) ?_
  have hS : (fun w' : World => w'.cell? ⟨H, 34, none⟩ = some (.slice (some ⟨g, 0, none⟩) (m + 1) c) ∧ w'.rangeAt g (m * 2) (dotC a s)) W.drew := ⟨c34, hrg⟩
  have uD : Tryd.prog.underlying 36 = _ := Tryd.underlying36
  have iD : (Tryd.prog.info? 36).map (·.size) = some (dotC a s).length := sizeDotK
  have hm0 : (0 : Int) ≤ (m : Int) := by omega
  have hm1 : (m : Int) < (m : Int) + 1 := by omega
  have hm2 : (m : Int) < ((m + 1 : Nat) : Int) := by omega
  refine wpAnyG_any (i := 0) (v := ?_) rfl (by kernel_rfl) (by kernel_rfl) (by kernel_rfl) (fun _ _ _ h => h) (by kernel_rfl) (fun _ => hS) (by kernel_rfl) ?_ ?_
  rotate_left
  · intro _; go_simp; try with_reducible rfl
  simp only [Act.put, List.getElem_toArray, List.getElem_cons_succ, List.getElem_cons_zero, List.setIfInBounds_toArray, List.set_cons_zero, List.set_cons_succ]
  refine wpAnyG_any (i := 1) (v := ?_) rfl (by kernel_rfl) (by kernel_rfl) (by kernel_rfl) (fun _ _ _ h => h) (by kernel_rfl) (fun _ => hS) (by kernel_rfl) ?_ ?_
  rotate_left
  · intro _; go_simp; try with_reducible rfl
  simp only [Act.put, List.getElem_toArray, List.getElem_cons_succ, List.getElem_cons_zero, List.setIfInBounds_toArray, List.set_cons_zero, List.set_cons_succ]
  refine wpAnyG_any (i := 2) (v := ?_) rfl (by kernel_rfl) (by kernel_rfl) (by kernel_rfl) (fun _ _ _ h => h) (by kernel_rfl) (fun _ => hS) (by kernel_rfl) ?_ ?_
  rotate_left
  · intro _; go_simp; try with_reducible rfl
  simp only [Act.put, List.getElem_toArray, List.getElem_cons_succ, List.getElem_cons_zero, List.setIfInBounds_toArray, List.set_cons_zero, List.set_cons_succ]
  refine wpAnyG_read (i := 3) (v := ?_) rfl (by kernel_rfl) (by kernel_rfl) (by kernel_rfl) (fun _ _ _ h => h) (by kernel_rfl) (by kernel_rfl) (by kernel_rfl) hS (by kernel_rfl) ?_ ?_
  rotate_left
  · intro wx hSw; go_split_ands; go_simp; try with_reducible rfl
  simp only [Act.put, List.getElem_toArray, List.getElem_cons_succ, List.getElem_cons_zero, List.setIfInBounds_toArray, List.set_cons_zero, List.set_cons_succ]
  refine wpAnyG_any (i := 4) (v := ?_) rfl (by kernel_rfl) (by kernel_rfl) (by kernel_rfl) (fun _ _ _ h => h) (by kernel_rfl) (fun _ => hS) (by kernel_rfl) ?_ ?_
  rotate_left
  · intro _; go_simp; try with_reducible rfl
  simp only [Act.put, List.getElem_toArray, List.getElem_cons_succ, List.getElem_cons_zero, List.setIfInBounds_toArray, List.set_cons_zero, List.set_cons_succ]
  refine wpAnyG_any (i := 5) (v := ?_) rfl (by kernel_rfl) (by kernel_rfl) (by kernel_rfl) (fun _ _ _ h => h) (by kernel_rfl) (fun _ => hS) (by kernel_rfl) ?_ ?_
  rotate_left
  · intro _; go_simp; try with_reducible rfl
  simp only [Act.put, List.getElem_toArray, List.getElem_cons_succ, List.getElem_cons_zero, List.setIfInBounds_toArray, List.set_cons_zero, List.set_cons_succ]
  refine wpAnyG_any (i := 6) (v := ?_) rfl (by kernel_rfl) (by kernel_rfl) (by kernel_rfl) (fun _ _ _ h => h) (by kernel_rfl) (fun _ => hS) (by kernel_rfl) ?_ ?_
  rotate_left
  · intro _; go_simp; try with_reducible rfl
  simp only [Act.put, List.getElem_toArray, List.getElem_cons_succ, List.getElem_cons_zero, List.setIfInBounds_toArray, List.set_cons_zero, List.set_cons_succ]
  refine wpAnyG_read (i := 7) (v := ?_) rfl (by kernel_rfl) (by kernel_rfl) (by kernel_rfl) (fun _ _ _ h => h) (by kernel_rfl) (by kernel_rfl) (by kernel_rfl) hS (by kernel_rfl) ?_ ?_
  rotate_left
  · intro wx hSw; go_split_ands; go_simp; try with_reducible rfl
  simp only [Act.put, List.getElem_toArray, List.getElem_cons_succ, List.getElem_cons_zero, List.setIfInBounds_toArray, List.set_cons_zero, List.set_cons_succ]
  refine wpAnyG_any (i := 8) (v := ?_) rfl (by kernel_rfl) (by kernel_rfl) (by kernel_rfl) (fun _ _ _ h => h) (by kernel_rfl) (fun _ => hS) (by kernel_rfl) ?_ ?_
  rotate_left
  · intro _; go_simp; try with_reducible rfl
  simp only [Act.put, List.getElem_toArray, List.getElem_cons_succ, List.getElem_cons_zero, List.setIfInBounds_toArray, List.set_cons_zero, List.set_cons_succ]
  refine wpAnyG_any (i := 9) (v := ?_) rfl (by kernel_rfl) (by kernel_rfl) (by kernel_rfl) (fun _ _ _ h => h) (by kernel_rfl) (fun _ => hS) (by kernel_rfl) ?_ ?_
  rotate_left
  · intro _; go_simp; try with_reducible rfl
  simp only [Act.put, List.getElem_toArray, List.getElem_cons_succ, List.getElem_cons_zero, List.setIfInBounds_toArray, List.set_cons_zero, List.set_cons_succ]
  refine wpAnyG_any (i := 10) (v := ?_) rfl (by kernel_rfl) (by kernel_rfl) (by kernel_rfl) (fun _ _ _ h => h) (by kernel_rfl) (fun _ => hS) (by kernel_rfl) ?_ ?_
  rotate_left
  · intro _; go_simp; try with_reducible rfl
  simp only [Act.put, List.getElem_toArray, List.getElem_cons_succ, List.getElem_cons_zero, List.setIfInBounds_toArray, List.set_cons_zero, List.set_cons_succ]
  refine wpAnyG_load (i := 11) (dst := some 26) (ty := 36) (x := .tmp 25) (b := g) (o := ((m * 2))) (cs := (dotC a s)) (by kernel_rfl) (by kernel_rfl) (by kernel_rfl) (by kernel_rfl) (by kernel_rfl) (fun _ _ _ h => h) (by kernel_rfl) (by kernel_rfl) (by kernel_rfl) hS (by kernel_rfl) (fun _ h => h.2) uD rfl iD ?_
  simp only [Act.put, List.getElem_toArray, List.getElem_cons_succ, List.getElem_cons_zero, List.setIfInBounds_toArray, List.set_cons_zero, List.set_cons_succ]
  refine wpAnyG_one (i := 12) rfl (by kernel_rfl) (by kernel_rfl) (fun K hK => ?_)
  refine wp_stvE 36 _ _ rfl _ rfl (cs := dotC a s) rfl (hr0.congr (w' := W.drew) rfl) sizeDotK rfl (dot_oneK a s) ?_
  refine hK.out _ _ (fun h => absurd (show true = false from h) (by decide)) ?_
  clear hK K
  try simp only [Act.put, List.getElem_toArray, List.getElem_cons_succ, List.getElem_cons_zero, List.setIfInBounds_toArray, List.set_cons_zero, List.set_cons_succ]
  refine wpAnyG_any (i := 13) (v := ?_) rfl (by kernel_rfl) (by kernel_rfl) (by kernel_rfl) (fun _ _ _ h => h) (by kernel_rfl) (fun h => absurd (show true = false from h) (by decide)) (by kernel_rfl) ?_ ?_
  rotate_left
  · intro _; go_simp; try with_reducible rfl
  simp only [Act.put, List.getElem_toArray, List.getElem_cons_succ, List.getElem_cons_zero, List.setIfInBounds_toArray, List.set_cons_zero, List.set_cons_succ]
  refine wpAnyG_done (by kernel_rfl) ?_ _
  go_wp2
  refine bodyPost_ret (results_ct (Tryd.results24) _ rfl rfl ((hr0.congr (w' := W.drew) rfl).setRow (dotC a s)) Tryd.underlying36 rfl sizeDotK) rfl ⟨rfl, ?_⟩
  exact below_setRow hB.drew (Nat.le_refl _) _
set_option maxHeartbeats 4000000 in
/-- Dots in a list of their own. -/
theorem dclone_any (hv : OwnD w base v L) (hl : L.length ≤ 1000) :
    Calls Tryd.prog 37 #[v] w fun e w' => ∃ v', e = .returned v' ∧ OwnD w' w.heap.size v' L ∧ Below w.heap.size w w' := by
  rcases hv.2 with ⟨rfl, h0⟩ | ⟨g, cap, cur, rfl, hbg, hg, hc, hm, hs, ht⟩
  · have hL : L = [] := List.length_eq_zero_iff.1 h0
    subst hL
    have hnil : ∀ wx : World, (binOp BinOp.eql 57 (.slice none 0 0) (.slice none 0 0)).run Tryd.prog wx = .ok (.bool true) wx := fun _ => by kernel_rfl
    go_enter Tryd.func37, Tryd.ntmps37
    go_wp2
    go_ret
    exact ⟨_, rfl, OwnD.nil _ _, Below.refl _ _⟩
  · have hE0 : (w.alloc (.cells #[] 36)).ownsRow w.heap.size 36 2 (.slice (some ⟨w.heap.size, 0, none⟩) 0 0) 0 [] := ⟨rfl, .inr ⟨_, _, _, rfl, Nat.le_refl _, heap_alloc_new w _, by omega, by simp [maxLen], rfl, rfl⟩⟩
    have hnil : ∀ wx : World, (binOp BinOp.eql 57 (.slice (some ⟨g, 0, none⟩) L.length cap) (.slice none 0 0)).run Tryd.prog wx = .ok (.bool false) wx := fun _ => by kernel_rfl
    obtain ⟨i0, hi, hz0, hz1, hz2⟩ := info_parts infoDot
    have hsrc : ∀ j u, (dotsC L)[j]? = some u → (w.alloc (.cells #[] 36)).cell? ((⟨g, 0, none⟩ : Addr).add j) = some u := fun j u hu => by
      rw [Addr.add_mid', ((Below.refl w.heap.size w).alloc (Nat.le_refl _) _).cell (p := ⟨g, 0 + j, none⟩) (Array.getElem?_eq_some_iff.1 hg).1, cell_of_row w g _ _ _ _ hg, ← Array.getElem?_toList, Nat.zero_add]
      rw [← ht] at hu
      rw [List.getElem?_take] at hu
      split at hu
      · exact hu
      · cases hu
    have hone : ∀ u ∈ dotsC L, u.oneCell' = true := fun u hu => by
      simp only [dotsC, List.mem_flatten, List.mem_map] at hu
      obtain ⟨l, ⟨d, _, rfl⟩, hu⟩ := hu
      exact dot_oneK _ _ u hu
    have hdl : (dotsC L).length = L.length * 2 := hv.1
    obtain ⟨DC, hDC⟩ : ∃ q, dotsC L = q := ⟨_, rfl⟩
    have HDC := Veil.mk hDC
    obtain ⟨n, hn⟩ : ∃ q, L.length = q := ⟨_, rfl⟩
    have HN := Veil.mk hn
    rw [hDC] at hsrc hone hdl
    rw [hn] at hdl hnil hl ⊢
    clear hv ht hs hc hm hg hbg hDC hn
    go_enter Tryd.func37, Tryd.ntmps37
    go_wp2_with (at_builtin; refine wpList_append_own _ rfl _ _ 57 rfl w.heap.size 36 i0 _ 2 8 Tryd.underlying57 hi hz0 hz1 hz2 rfl (by decide) _ 0 [] rfl hE0 ⟨g, 0, none⟩ n cap DC rfl hdl hsrc hone (by simp [maxLen]; omega) (by omega) (by simp) ?_; intro v1 w1 ho1 hg1 hx1)
    go_ret
    refine ⟨_, rfl, ?_, ?_⟩
    · unfold OwnD
      rw [HN.out, HDC.out]
      rw [List.nil_append, Nat.zero_add] at ho1
      exact ho1
    · exact ((Below.refl _ _).alloc (Nat.le_refl _) _).grown hg1 (by simp) (fun k hk => by cases hk; exact Nat.le_refl _)
set_option maxHeartbeats 4000000 in
theorem epochs_any (hR : RingAt w base H own seed b M v L) :
    Calls Tryd.prog 25 #[.pointer (some ⟨H, 0, none⟩)] w fun e w' => ∃ v', e = .returned v' ∧ OwnD w' w.heap.size v' L ∧ Below w.heap.size w w' := by
  have c34 := hR.box.cell 34
  rw [ringC_added _ _ _ _ hR.seed32] at c34
  have hc := dclone_any base v L w hR.added (by have := hR.lenL; omega)
  obtain ⟨x, c, rfl⟩ := hR.added.isSlice
  clear hR
  go_enter Tryd.func25, Tryd.ntmps25
  go_wp2_with (go_at_call 37; refine hc.mono ?_; rintro e w1 ⟨v1, rfl, ho1, hb1⟩)
  go_ret
  exact ⟨_, rfl, ho1, hb1⟩
end
end Go.Proofs.YtlalcnmcnkompaaDoor
