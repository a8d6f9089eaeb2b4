/- chain: maps.Clone of links, 'Fork'. -/
import Derived.Test.YtgcidamdbidgiaaDoorHc
namespace Go.Proofs.YtgcidamdbidgiaaDoor
open Go.RowKit
set_option maxRecDepth 20000
set_option linter.unusedSimpArgs false

section
variable (base H b : Nat) (v : Value) (T : Sms) (P : List Pf) (w : World)
set_option maxHeartbeats 4000000 in
theorem lClone_any (n : Nat) (M : Int × Int × List Int → Option Value) (hM : MapG Tryd.prog 67 encL okL w b n M) :
    Calls Tryd.prog 37 #[.map (some b)] w fun e w' => e = .returned (.map (some w.heap.size)) ∧ MapG Tryd.prog 67 encL okL w' w.heap.size n M ∧ Below w.heap.size w w' := by
  obtain ⟨D, ⟨es, clock, hb, hrest⟩, hD⟩ := hM
  have hq := fun w => run_eql_map_nil_sl (P := Tryd.prog) w 62 _ _ (some b) mapLinkKey
  go_enter Tryd.func37, Tryd.ntmps37
  go_wp2
  rw [run_callFunc_extern Tryd.func48 (by kernel_rfl) (by kernel_rfl) (by kernel_rfl) (e := Extern.MapsClone.clone) (by kernel_rfl), run_maps_clone_sl w 62 hb]
  simp only [Result.andThen]
  rw [Oper.upon_value]
  go_wp2
  rw [run_typeAssert_map_sl _ 62 _ _ _ _ mapLinkKey]
  simp only [Result.andThen]
  rw [Oper.upon_value]
  go_wp2
  go_ret
  exact ⟨rfl, ⟨D, ⟨es, clock, heap_alloc_new w _, hrest⟩, hD⟩, (Below.refl _ _).alloc (Nat.le_refl _) _⟩
theorem chainBuilt3 (hs : List Value) (hl : hs.length = 264) (b : Nat) (v : Value) (hv : ∃ x n c, v = .slice x n c) (w : World) : (Instr.build 64 #[(0, .agg hs.toArray), (1, .map (some b)), (2, v)]).run Tryd.prog w = .ok (.agg (hs ++ [.map (some b), v]).toArray) w := by
  obtain ⟨x, n, c, rfl⟩ := hv
  have := built_tile (P := Tryd.prog) (t := 64) (n := 266) (places := [(0, 264), (264, 1), (265, 1)]) (by kernel_rfl) Tryd.underlying64 (by kernel_rfl) [(0, .agg hs.toArray, hs), (1, .map (some b), [.map (some b)]), (2, .slice x n c, [.slice x n c])] ⟨by rw [hl]; rfl, rfl, by rw [hl]; rfl, rfl, by rw [hl]; rfl, rfl, trivial⟩ (by simp [tileL, hl]) w
  simpa [tileL] using this
set_option maxHeartbeats 4000000 in
theorem chFork_any (hC : ChainAt w base H b v T P) :
    Calls Tryd.prog 21 #[.pointer (some ⟨H, 0, none⟩)] w fun e w' => ∃ H' b' v', e = .returned (.pointer (some ⟨H', 0, none⟩)) ∧ ChainAt w' w.heap.size H' b' v' T P ∧ Below w.heap.size w w' := by
  have hl := hC.ok.headsLen
  have hok := hC.ok
  have HS : ∀ W, Below w.heap.size w W → (fun w' : World => w'.cell? ⟨H, 264, none⟩ = some (.map (some b)) ∧ w'.cell? ⟨H, 265, none⟩ = some v ∧ w'.rangeAt H 0 (headsC (headsOf T))) W := fun W hb => by
    have h := hC.far hb
    exact ⟨by have := h.box.cell 264; rw [chainC_map h.ok] at this; exact this, by have := h.box.cell 265; rw [chainC_proofs h.ok] at this; exact this, by have := h.box.range 0 264; rw [chainC_heads h.ok] at this; exact this⟩
  have HM : Veil (∀ W, Below w.heap.size w W → Calls Tryd.prog 37 #[.map (some b)] W fun e w' => e = .returned (.map (some W.heap.size)) ∧ MapG Tryd.prog 67 encL okL w' W.heap.size (tot T) (linkM T) ∧ Below W.heap.size W w') := ⟨fun W hb => lClone_any b W (tot T) (linkM T) (hC.far hb).map⟩
  have HP : Veil (∀ W, Below w.heap.size w W → Calls Tryd.prog 35 #[v] W fun e w' => ∃ v', e = .returned v' ∧ OwnI w' W.heap.size 49 66 v' (P.map proofC) ∧ Below W.heap.size W w') := ⟨fun W hb => pClone_any base W v P (hC.far hb).own (by have := hC.lenP; omega)⟩
  have HO : Veil ((∀ p ∈ P, okP p) ∧ P.length ≤ 32) := ⟨hC.okP, hC.lenP⟩
  obtain ⟨x, c, rfl⟩ := hC.own.isSlice
  generalize (P.map proofC).length = m at HS HP
  clear hC
  obtain ⟨HC, hHC⟩ : ∃ q, headsC (headsOf T) = q := ⟨_, rfl⟩
  rw [hHC] at hl HS
  have HHC := Veil.mk hHC
  clear hHC
  have uH : Tryd.prog.underlying 41 = _ := Tryd.underlying41
  have iH : (Tryd.prog.info? 41).map (·.size) = some HC.length := by rw [hl]; exact sizeHeads
  go_enter Tryd.func21, Tryd.ntmps21
  go_upto_region 3 with fail
  refine wp_region_gate (fun w' => w'.cell? ⟨H, 264, none⟩ = some (.map (some b)) ∧ w'.cell? ⟨H, 265, none⟩ = some (.slice x m c) ∧ w'.rangeAt H 0 HC) 16 (by kernel_rfl) ?_
  have hB0 : Below w.heap.size w w.drew := (Below.refl _ _).drew
  have hS := HS w.drew hB0
  refine wpAnyG_any (i := 0) (v := ?_) rfl (by kernel_rfl) (by kernel_rfl) (by kernel_rfl) (fun _ _ _ h => h) (by kernel_rfl) (fun _ => hS) (by kernel_rfl) ?_ ?_
  rotate_left
  · intro _; go_simp; try with_reducible rfl
  simp only [Act.put, List.getElem_toArray, List.getElem_cons_succ, List.getElem_cons_zero, List.setIfInBounds_toArray, List.set_cons_zero, List.set_cons_succ]
  refine wpAnyG_any (i := 1) (v := ?_) rfl (by kernel_rfl) (by kernel_rfl) (by kernel_rfl) (fun _ _ _ h => h) (by kernel_rfl) (fun _ => hS) (by kernel_rfl) ?_ ?_
  rotate_left
  · intro _; go_simp; try with_reducible rfl
  simp only [Act.put, List.getElem_toArray, List.getElem_cons_succ, List.getElem_cons_zero, List.setIfInBounds_toArray, List.set_cons_zero, List.set_cons_succ]
  refine wpAnyG_any (i := 2) (v := ?_) rfl (by kernel_rfl) (by kernel_rfl) (by kernel_rfl) (fun _ _ _ h => h) (by kernel_rfl) (fun _ => hS) (by kernel_rfl) ?_ ?_
  rotate_left
  · intro _; go_simp; try with_reducible rfl
  simp only [Act.put, List.getElem_toArray, List.getElem_cons_succ, List.getElem_cons_zero, List.setIfInBounds_toArray, List.set_cons_zero, List.set_cons_succ]
  refine wpAnyG_any (i := 4) (v := ?_) rfl (by kernel_rfl) (by kernel_rfl) (by kernel_rfl) (fun _ _ _ h => h) (by kernel_rfl) (fun _ => hS) (by kernel_rfl) ?_ ?_
  rotate_left
  · intro _; go_simp; try with_reducible rfl
  simp only [Act.put, List.getElem_toArray, List.getElem_cons_succ, List.getElem_cons_zero, List.setIfInBounds_toArray, List.set_cons_zero, List.set_cons_succ]
  refine wpAnyG_any (i := 5) (v := ?_) rfl (by kernel_rfl) (by kernel_rfl) (by kernel_rfl) (fun _ _ _ h => h) (by kernel_rfl) (fun _ => hS) (by kernel_rfl) ?_ ?_
  rotate_left
  · intro _; go_simp; try with_reducible rfl
  simp only [Act.put, List.getElem_toArray, List.getElem_cons_succ, List.getElem_cons_zero, List.setIfInBounds_toArray, List.set_cons_zero, List.set_cons_succ]
  refine wpAnyG_any (i := 6) (v := ?_) rfl (by kernel_rfl) (by kernel_rfl) (by kernel_rfl) (fun _ _ _ h => h) (by kernel_rfl) (fun _ => hS) (by kernel_rfl) ?_ ?_
  rotate_left
  · intro _; go_simp; try with_reducible rfl
  simp only [Act.put, List.getElem_toArray, List.getElem_cons_succ, List.getElem_cons_zero, List.setIfInBounds_toArray, List.set_cons_zero, List.set_cons_succ]
  refine wpAnyG_any (i := 9) (v := ?_) rfl (by kernel_rfl) (by kernel_rfl) (by kernel_rfl) (fun _ _ _ h => h) (by kernel_rfl) (fun _ => hS) (by kernel_rfl) ?_ ?_
  rotate_left
  · intro _; go_simp; try with_reducible rfl
  simp only [Act.put, List.getElem_toArray, List.getElem_cons_succ, List.getElem_cons_zero, List.setIfInBounds_toArray, List.set_cons_zero, List.set_cons_succ]
  refine wpAnyG_any (i := 10) (v := ?_) rfl (by kernel_rfl) (by kernel_rfl) (by kernel_rfl) (fun _ _ _ h => h) (by kernel_rfl) (fun _ => hS) (by kernel_rfl) ?_ ?_
  rotate_left
  · intro _; go_simp; try with_reducible rfl
  simp only [Act.put, List.getElem_toArray, List.getElem_cons_succ, List.getElem_cons_zero, List.setIfInBounds_toArray, List.set_cons_zero, List.set_cons_succ]
  refine wpAnyG_any (i := 11) (v := ?_) rfl (by kernel_rfl) (by kernel_rfl) (by kernel_rfl) (fun _ _ _ h => h) (by kernel_rfl) (fun _ => hS) (by kernel_rfl) ?_ ?_
  rotate_left
  · intro _; go_simp; try with_reducible rfl
  simp only [Act.put, List.getElem_toArray, List.getElem_cons_succ, List.getElem_cons_zero, List.setIfInBounds_toArray, List.set_cons_zero, List.set_cons_succ]
  refine wpAnyG_read (i := 7) (v := ?_) rfl (by kernel_rfl) (by kernel_rfl) (by kernel_rfl) (fun _ _ _ h => h) (by kernel_rfl) (by kernel_rfl) (by kernel_rfl) hS (by kernel_rfl) ?_ ?_
  rotate_left
  · intro wx hSw; go_split_ands; go_simp; try with_reducible rfl
  simp only [Act.put, List.getElem_toArray, List.getElem_cons_succ, List.getElem_cons_zero, List.setIfInBounds_toArray, List.set_cons_zero, List.set_cons_succ]
  refine wpAnyG_read (i := 12) (v := ?_) rfl (by kernel_rfl) (by kernel_rfl) (by kernel_rfl) (fun _ _ _ h => h) (by kernel_rfl) (by kernel_rfl) (by kernel_rfl) hS (by kernel_rfl) ?_ ?_
  rotate_left
  · intro wx hSw; go_split_ands; go_simp; try with_reducible rfl
  simp only [Act.put, List.getElem_toArray, List.getElem_cons_succ, List.getElem_cons_zero, List.setIfInBounds_toArray, List.set_cons_zero, List.set_cons_succ]
  refine wpAnyG_load (i := 3) (dst := some 8) (ty := 41) (x := .tmp 7) (b := H) (o := (0)) (cs := HC) (by kernel_rfl) (by kernel_rfl) (by kernel_rfl) (by kernel_rfl) (by kernel_rfl) (fun _ _ _ h => h) (by kernel_rfl) (by kernel_rfl) (by kernel_rfl) hS (by kernel_rfl) (fun _ h => h.2.2) uH rfl iH ?_
  simp only [Act.put, List.getElem_toArray, List.getElem_cons_succ, List.getElem_cons_zero, List.setIfInBounds_toArray, List.set_cons_zero, List.set_cons_succ]
  have hm := HM.out w.drew hB0
  refine wpAnyG_one (i := 8) rfl (by kernel_rfl) (by kernel_rfl) (fun K hK => ?_)
  refine wpx_call _ _ (by kernel_rfl) (hm.mono ?_)
  rintro e w1 ⟨rfl, hM1, hb1⟩
  refine ⟨_, rfl, ?_⟩
  have hB1 := hB0.trans hb1
  have hp := HP.out w1 hB1
  replace hS := HS w1 hB1
  refine hK.out _ _ (fun _ => hS) ?_
  clear hK K
  try simp only [Act.put, List.getElem_toArray, List.getElem_cons_succ, List.getElem_cons_zero, List.setIfInBounds_toArray, List.set_cons_zero, List.set_cons_succ]
  refine wpAnyG_one (i := 13) rfl (by kernel_rfl) (by kernel_rfl) (fun K hK => ?_)
  refine wpx_call _ _ (by kernel_rfl) (hp.mono ?_)
  rintro e w2 ⟨v2, rfl, ho2, hb2⟩
  refine ⟨_, rfl, ?_⟩
  have hB2 := hB1.trans (hb2.mono hB1.size)
  have hM2 := hM1.congr (hb2.block _ hM1.lt)
  replace hS := HS w2 hB2
  have hvs : ∃ x n c, v2 = .slice x n c := by obtain ⟨x, c, h⟩ := ho2.isSlice; exact ⟨x, _, c, h⟩
  refine hK.out _ _ (fun _ => hS) ?_
  clear hK K
  try simp only [Act.put, List.getElem_toArray, List.getElem_cons_succ, List.getElem_cons_zero, List.setIfInBounds_toArray, List.set_cons_zero, List.set_cons_succ]
  refine wpAnyG_read (i := 14) (v := .agg (HC ++ [.map (some w.heap.size), v2]).toArray) rfl (by kernel_rfl) (by kernel_rfl) (by kernel_rfl) (fun _ _ _ h => h) (by kernel_rfl) (by kernel_rfl) (by kernel_rfl) hS (by kernel_rfl) (fun wx h => execBuildT 64 _ rfl #[(0, .agg HC.toArray), (1, .map (some w.heap.size)), (2, v2)] (by kernel_rfl) (chainBuilt3 HC hl w.heap.size v2 hvs wx)) ?_
  simp only [Act.put, List.getElem_toArray, List.getElem_cons_succ, List.getElem_cons_zero, List.setIfInBounds_toArray, List.set_cons_zero, List.set_cons_succ]
  refine wpAnyG_one (i := 15) rfl (by kernel_rfl) (by kernel_rfl) (fun K hK => ?_)
  go_simp
  have hb3 : Below w2.heap.size w2 (w2.alloc (.cells (HC ++ [.map (some w.heap.size), v2]).toArray 64)) := (Below.refl _ _).alloc (Nat.le_refl _) _
  have hD3 := CellsAt.new w2 64 (HC ++ [.map (some w.heap.size), v2])
  have hB3 := hB2.trans (hb3.mono hB2.size)
  have hM3 := hM2.congr (hb3.block _ hM2.lt)
  have ho3 := ho2.far hb3
  replace hS := HS _ hB3
  refine hK.out _ _ (fun _ => hS) ?_
  clear hK K
  try simp only [Act.put, List.getElem_toArray, List.getElem_cons_succ, List.getElem_cons_zero, List.setIfInBounds_toArray, List.set_cons_zero, List.set_cons_succ]
  refine wpAnyG_one (i := 16) rfl (by kernel_rfl) (by kernel_rfl) (fun K hK => ?_)
  go_simp
  refine hK.out _ _ (fun h => absurd (show true = false from h) (by decide)) ?_
  clear hK K
  try simp only [Act.put, List.getElem_toArray, List.getElem_cons_succ, List.getElem_cons_zero, List.setIfInBounds_toArray, List.set_cons_zero, List.set_cons_succ]
  refine wpAnyG_done (by kernel_rfl) ?_ _
  have HE : Veil (CellsAt (w2.alloc (.cells (HC ++ [.map (some w.heap.size), v2]).toArray 64)) w2.heap.size 64 (HC ++ [.map (some w.heap.size), v2]) ∧ MapG Tryd.prog 67 encL okL (w2.alloc (.cells (HC ++ [.map (some w.heap.size), v2]).toArray 64)) w.heap.size (tot T) (linkM T) ∧ OwnI (w2.alloc (.cells (HC ++ [.map (some w.heap.size), v2]).toArray 64)) w1.heap.size 49 66 v2 (P.map proofC) ∧ Below w.heap.size w (w2.alloc (.cells (HC ++ [.map (some w.heap.size), v2]).toArray 64))) := ⟨hD3, hM3, ho3, hB3⟩
  have hw1 := hB1.size
  have hw2 := hB2.size
  clear hS HS hD3 hM3 ho3 hB3 hb3 hM1 hM2 ho2 hB2 hB1 hb1 hb2 hm hp HM HP hB0
  go_wp2
  go_ret
  obtain ⟨hD3, hM3, ho3, hB3⟩ := HE.out
  exact ⟨_, w.heap.size, v2, rfl, ⟨by unfold chainC; rw [HHC.out]; exact hD3, hM3, ho3.less hw1, hok, HO.out.1, HO.out.2, hw2, Nat.le_refl _⟩, hB3⟩
end
end Go.Proofs.YtgcidamdbidgiaaDoor
