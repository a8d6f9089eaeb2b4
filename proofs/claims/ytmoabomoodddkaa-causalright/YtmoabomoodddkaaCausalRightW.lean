/- CausalRight, walked (Written by mkcl.py.) -/
import Derived.Test.YtmoabomoodddkaaBlv
import Derived.Test.YtmoabomoodddkaaCv2
namespace Go.Proofs.Ytmoabomoodddkaa
open Go.RowKit Go.Shelf
set_option maxRecDepth 20000
set_option linter.unusedSimpArgs false
set_option maxHeartbeats 8000000 in
theorem crt_walk (e x : Ev) (v : List Int) (w : World) (he : e.Ok) (hx : x.Ok) (hv : v.length = 8) (hvr : ∀ q ∈ v, 0 ≤ q ∧ q ≤ 4294967295) :
    Calls Try.prog 5 #[.agg e.cells.toArray, .agg x.cells.toArray, .agg (row .u32 v)] w fun r w' => r = .returned (.bool true) ∧ Below w.heap.size w w' := by
  have hs2 : e.ds < 4294967296 := by have := he.dot.2.2; omega
  have hvr2 : ∀ q ∈ v, 0 ≤ q ∧ q < 4294967296 := fun q hq => by have := hvr q hq; omega
  have HLV : Veil (∀ W, Calls Try.prog 12 #[] W fun r w' => r = .returned (.bool true) ∧ Below W.heap.size W w') := ⟨fun W => clive_any W⟩
  have HR1 : Veil (∀ W, Calls Try.prog 19 #[.agg e.cells.toArray] W fun r w' => r = .returned (.bool (rightB e)) ∧ Below W.heap.size W w') := ⟨fun W => cright_any e W he.past he.dot.1.1 he.dot.2.1 hs2 he.par.1.1 he.par.2.1⟩
  have HR2 : Veil (∀ W, Calls Try.prog 20 #[.agg e.cells.toArray] W fun r w' => r = .returned (.bool (rightB e)) ∧ Below W.heap.size W w') := ⟨fun W => rright_any e W he.past he.dot.1.1 he.dot.2.1 hs2 he.par.1.1 he.par.2.1⟩
  have HD1 : Veil (∀ W, Calls Try.prog 21 #[.agg (v.map (Value.int .u32)).toArray, .agg e.cells.toArray] W fun r w' => r = .returned (.bool (readyB v e)) ∧ Below W.heap.size W w') := ⟨fun W => cready_any v e W hv hvr2 he.past he.dot.1.1 he.dot.2.1 hs2 he.par.1.1 he.par.2.1⟩
  have HD2 : Veil (∀ W, Calls Try.prog 22 #[.agg (v.map (Value.int .u32)).toArray, .agg e.cells.toArray] W fun r w' => r = .returned (.bool (readyB v e)) ∧ Below W.heap.size W w') := ⟨fun W => rready_any v e W hv hvr2 he.past he.dot.1.1 he.dot.2.1 hs2 he.par.1.1 he.par.2.1⟩
  have HB1 : Veil (∀ W, Calls Try.prog 23 #[.agg e.cells.toArray, .agg x.cells.toArray] W fun r w' => r = .returned (.bool (hasB x.past e.da e.ds)) ∧ Below W.heap.size W w') := ⟨fun W => cbefore_any e x W he.past hx.past he.dot.1.1 he.dot.2.1⟩
  have HB2 : Veil (∀ W, Calls Try.prog 24 #[.agg e.cells.toArray, .agg x.cells.toArray] W fun r w' => r = .returned (.bool (hasB x.past e.da e.ds)) ∧ Below W.heap.size W w') := ⟨fun W => rbefore_any e x W he.past hx.past he.dot.1.1 he.dot.2.1⟩
  have k0 := ((CellsAt.new w 37 e.cells).alloc (.cells x.cells.toArray 37)).alloc (.cells (v.map (Value.int .u32)).toArray 24)
  have k1 := (CellsAt.new (w.alloc (.cells e.cells.toArray 37)) 37 x.cells).alloc (.cells (v.map (Value.int .u32)).toArray 24)
  have k2 := CellsAt.new ((w.alloc (.cells e.cells.toArray 37)).alloc (.cells x.cells.toArray 37)) 24 (v.map (Value.int .u32))
  rw [World.size_alloc] at k1 k2
  rw [World.size_alloc] at k2
  have hB0 : Below w.heap.size w (((w.alloc (.cells e.cells.toArray 37)).alloc (.cells x.cells.toArray 37)).alloc (.cells (v.map (Value.int .u32)).toArray 24)) := (((Below.refl _ _).alloc (Nat.le_refl _) _).alloc (by simp) _).alloc (by simp; omega) _
  have iE : (Try.prog.info? 37).map (·.size) = some e.cells.length := by rw [ev_len e he.past]; kernel_rfl
  have iX : (Try.prog.info? 37).map (·.size) = some x.cells.length := by rw [ev_len x hx.past]; kernel_rfl
  have iV : (Try.prog.info? 24).map (·.size) = some (v.map (Value.int .u32)).length := by rw [List.length_map, hv]; exact sizeV8c
  have uE := Try.underlying37
  have uV := Try.underlying24
  unfold row
  generalize rightB e = RB at HR1 HR2
  generalize readyB v e = RY at HD1 HD2
  generalize hasB x.past e.da e.ds = HB at HB1 HB2
  generalize v.map (Value.int .u32) = VC at HD1 HD2 k0 k1 k2 hB0 iV ⊢
  generalize e.cells = EC at HR1 HR2 HD1 HD2 HB1 HB2 k0 k1 k2 hB0 iE ⊢
  generalize x.cells = XC at HB1 HB2 k0 k1 k2 hB0 iX ⊢
  clear he hx hv hvr hs2 hvr2
  go_enter Try.func5, Try.ntmps5
  go_upto_region 1 with fail
  refine forget (p := fun y => Code.wp _ _ _ _ y) (fun W => Below w.heap.size w W ∧ CellsAt W w.heap.size 37 EC ∧ CellsAt W (w.heap.size + 1) 37 XC ∧ CellsAt W (w.heap.size + 2) 24 VC) ⟨hB0, k0, k1, k2⟩ ?_
  clear hB0 k0 k1 k2
  rintro W0 ⟨hB, c0, c1, c2⟩
  have HT : Veil (∀ W, Below W0.heap.size W0 W → W.rangeAt w.heap.size 0 EC ∧ W.rangeAt (w.heap.size + 1) 0 XC ∧ W.rangeAt (w.heap.size + 2) 0 VC) := ⟨fun W hq => ⟨(c0.farM hq).wholeM, (c1.farM hq).wholeM, (c2.farM hq).wholeM⟩⟩
  clear c0 c1 c2
  refine wp_region_gateT (fun w' => w'.rangeAt w.heap.size 0 EC ∧ w'.rangeAt (w.heap.size + 1) 0 XC ∧ w'.rangeAt (w.heap.size + 2) 0 VC) (fun _ => True) 99 (by kernel_rfl) ?_
  have hT : (fun w' : World => w'.rangeAt w.heap.size 0 EC ∧ w'.rangeAt (w.heap.size + 1) 0 XC ∧ w'.rangeAt (w.heap.size + 2) 0 VC) W0.drew := HT.out _ (Below.refl _ _).drew
  have hS : (fun _ : World => True) W0.drew := trivial
  have hb0 : Below W0.heap.size W0 W0.drew := (Below.refl _ _).drew
  refine wpAnyT_one (i := 0) rfl (by kernel_rfl) (by kernel_rfl) (fun K hK => ?_)
  refine wpx_call _ _ (by kernel_rfl) ((HLV.out _).mono ?_)
  rintro x W1 ⟨rfl, hq⟩
  refine ⟨_, rfl, ?_⟩
  have hb1 : Below W0.heap.size W0 W1 := hb0.trans (hq.mono hb0.size)
  clear hq hb0
  replace hT : (fun w' : World => w'.rangeAt w.heap.size 0 EC ∧ w'.rangeAt (w.heap.size + 1) 0 XC ∧ w'.rangeAt (w.heap.size + 2) 0 VC) W1 := HT.out _ hb1
  replace hS : (fun _ : World => True) W1 := trivial
  refine hK.out _ _ hT (fun _ => hS) ?_
  clear hK K
  try simp only [Act.put, List.getElem_toArray, List.getElem_cons_succ, List.getElem_cons_zero, List.setIfInBounds_toArray, List.set_cons_zero, List.set_cons_succ]
  refine wpAnyT_held (i := 1) (v := ?_) rfl (by kernel_rfl) (by kernel_rfl) (by kernel_rfl) (fun _ _ _ h => h) (by kernel_rfl) hT (fun _ => hS) (by kernel_rfl) ?_ ?_
  rotate_left
  · intro wx hSw; go_split_ands; go_simp; try with_reducible rfl
  simp only [Act.put, List.getElem_toArray, List.getElem_cons_succ, List.getElem_cons_zero, List.setIfInBounds_toArray, List.set_cons_zero, List.set_cons_succ]
  refine wpAnyT_load (i := 2) (dst := some 9) (ty := 37) (x := .tmp 3) (b := w.heap.size) (o := (0)) (cs := EC) (by kernel_rfl) (by kernel_rfl) (by kernel_rfl) (by kernel_rfl) (by kernel_rfl) (fun _ _ _ h => h) (by kernel_rfl) hT (fun _ => hS) (by kernel_rfl) (fun _ h => h.1) uE rfl iE ?_
  simp only [Act.put, List.getElem_toArray, List.getElem_cons_succ, List.getElem_cons_zero, List.setIfInBounds_toArray, List.set_cons_zero, List.set_cons_succ]
  refine wpAnyT_load (i := 4) (dst := some 11) (ty := 37) (x := .tmp 3) (b := w.heap.size) (o := (0)) (cs := EC) (by kernel_rfl) (by kernel_rfl) (by kernel_rfl) (by kernel_rfl) (by kernel_rfl) (fun _ _ _ h => h) (by kernel_rfl) hT (fun _ => hS) (by kernel_rfl) (fun _ h => h.1) uE rfl iE ?_
  simp only [Act.put, List.getElem_toArray, List.getElem_cons_succ, List.getElem_cons_zero, List.setIfInBounds_toArray, List.set_cons_zero, List.set_cons_succ]
  refine wpAnyT_one (i := 3) rfl (by kernel_rfl) (by kernel_rfl) (fun K hK => ?_)
  refine wpx_call _ _ (by kernel_rfl) ((HR1.out _).mono ?_)
  rintro x W2 ⟨rfl, hq⟩
  refine ⟨_, rfl, ?_⟩
  have hb2 : Below W0.heap.size W0 W2 := hb1.trans (hq.mono hb1.size)
  clear hq hb1
  replace hT : (fun w' : World => w'.rangeAt w.heap.size 0 EC ∧ w'.rangeAt (w.heap.size + 1) 0 XC ∧ w'.rangeAt (w.heap.size + 2) 0 VC) W2 := HT.out _ hb2
  replace hS : (fun _ : World => True) W2 := trivial
  refine hK.out _ _ hT (fun _ => hS) ?_
  clear hK K
  try simp only [Act.put, List.getElem_toArray, List.getElem_cons_succ, List.getElem_cons_zero, List.setIfInBounds_toArray, List.set_cons_zero, List.set_cons_succ]
  refine wpAnyT_one (i := 5) rfl (by kernel_rfl) (by kernel_rfl) (fun K hK => ?_)
  refine wpx_call _ _ (by kernel_rfl) ((HR2.out _).mono ?_)
  rintro x W3 ⟨rfl, hq⟩
  refine ⟨_, rfl, ?_⟩
  have hb3 : Below W0.heap.size W0 W3 := hb2.trans (hq.mono hb2.size)
  clear hq hb2
  replace hT : (fun w' : World => w'.rangeAt w.heap.size 0 EC ∧ w'.rangeAt (w.heap.size + 1) 0 XC ∧ w'.rangeAt (w.heap.size + 2) 0 VC) W3 := HT.out _ hb3
  replace hS : (fun _ : World => True) W3 := trivial
  refine hK.out _ _ hT (fun _ => hS) ?_
  clear hK K
  try simp only [Act.put, List.getElem_toArray, List.getElem_cons_succ, List.getElem_cons_zero, List.setIfInBounds_toArray, List.set_cons_zero, List.set_cons_succ]
  refine wpAnyT_held (i := 6) (v := .bool true) rfl (by kernel_rfl) (by kernel_rfl) (by kernel_rfl) (fun _ _ _ h => h) (by kernel_rfl) hT (fun _ => hS) (by kernel_rfl) ?_ ?_
  · intro wx hSw; go_split_ands; go_simp
  simp only [Act.put, List.getElem_toArray, List.getElem_cons_succ, List.getElem_cons_zero, List.setIfInBounds_toArray, List.set_cons_zero, List.set_cons_succ]
  refine wpAnyT_held (i := 7) (v := ?_) rfl (by kernel_rfl) (by kernel_rfl) (by kernel_rfl) (fun _ _ _ h => h) (by kernel_rfl) hT (fun _ => hS) (by kernel_rfl) ?_ ?_
  rotate_left
  · intro wx hSw; go_split_ands; go_simp; try with_reducible rfl
  simp only [Act.put, List.getElem_toArray, List.getElem_cons_succ, List.getElem_cons_zero, List.setIfInBounds_toArray, List.set_cons_zero, List.set_cons_succ]
  refine wpAnyT_held (i := 8) (v := ?_) rfl (by kernel_rfl) (by kernel_rfl) (by kernel_rfl) (fun _ _ _ h => h) (by kernel_rfl) hT (fun _ => hS) (by kernel_rfl) ?_ ?_
  rotate_left
  · intro wx hSw; go_split_ands; go_simp; try with_reducible rfl
  simp only [Act.put, List.getElem_toArray, List.getElem_cons_succ, List.getElem_cons_zero, List.setIfInBounds_toArray, List.set_cons_zero, List.set_cons_succ]
  refine wpAnyT_load (i := 9) (dst := some 16) (ty := 24) (x := .tmp 5) (b := (w.heap.size + 2)) (o := (0)) (cs := VC) (by kernel_rfl) (by kernel_rfl) (by kernel_rfl) (by kernel_rfl) (by kernel_rfl) (fun _ _ _ h => h) (by kernel_rfl) hT (fun _ => hS) (by kernel_rfl) (fun _ h => h.2.2) uV rfl iV ?_
  simp only [Act.put, List.getElem_toArray, List.getElem_cons_succ, List.getElem_cons_zero, List.setIfInBounds_toArray, List.set_cons_zero, List.set_cons_succ]
  refine wpAnyT_load (i := 10) (dst := some 17) (ty := 37) (x := .tmp 3) (b := w.heap.size) (o := (0)) (cs := EC) (by kernel_rfl) (by kernel_rfl) (by kernel_rfl) (by kernel_rfl) (by kernel_rfl) (fun _ _ _ h => h) (by kernel_rfl) hT (fun _ => hS) (by kernel_rfl) (fun _ h => h.1) uE rfl iE ?_
  simp only [Act.put, List.getElem_toArray, List.getElem_cons_succ, List.getElem_cons_zero, List.setIfInBounds_toArray, List.set_cons_zero, List.set_cons_succ]
  refine wpAnyT_load (i := 12) (dst := some 19) (ty := 24) (x := .tmp 5) (b := (w.heap.size + 2)) (o := (0)) (cs := VC) (by kernel_rfl) (by kernel_rfl) (by kernel_rfl) (by kernel_rfl) (by kernel_rfl) (fun _ _ _ h => h) (by kernel_rfl) hT (fun _ => hS) (by kernel_rfl) (fun _ h => h.2.2) uV rfl iV ?_
  simp only [Act.put, List.getElem_toArray, List.getElem_cons_succ, List.getElem_cons_zero, List.setIfInBounds_toArray, List.set_cons_zero, List.set_cons_succ]
  refine wpAnyT_load (i := 13) (dst := some 20) (ty := 37) (x := .tmp 3) (b := w.heap.size) (o := (0)) (cs := EC) (by kernel_rfl) (by kernel_rfl) (by kernel_rfl) (by kernel_rfl) (by kernel_rfl) (fun _ _ _ h => h) (by kernel_rfl) hT (fun _ => hS) (by kernel_rfl) (fun _ h => h.1) uE rfl iE ?_
  simp only [Act.put, List.getElem_toArray, List.getElem_cons_succ, List.getElem_cons_zero, List.setIfInBounds_toArray, List.set_cons_zero, List.set_cons_succ]
  refine wpAnyT_one (i := 11) rfl (by kernel_rfl) (by kernel_rfl) (fun K hK => ?_)
  refine wpx_call _ _ (by kernel_rfl) ((HD1.out _).mono ?_)
  rintro x W4 ⟨rfl, hq⟩
  refine ⟨_, rfl, ?_⟩
  have hb4 : Below W0.heap.size W0 W4 := hb3.trans (hq.mono hb3.size)
  clear hq hb3
  replace hT : (fun w' : World => w'.rangeAt w.heap.size 0 EC ∧ w'.rangeAt (w.heap.size + 1) 0 XC ∧ w'.rangeAt (w.heap.size + 2) 0 VC) W4 := HT.out _ hb4
  replace hS : (fun _ : World => True) W4 := trivial
  refine hK.out _ _ hT (fun _ => hS) ?_
  clear hK K
  try simp only [Act.put, List.getElem_toArray, List.getElem_cons_succ, List.getElem_cons_zero, List.setIfInBounds_toArray, List.set_cons_zero, List.set_cons_succ]
  refine wpAnyT_one (i := 14) rfl (by kernel_rfl) (by kernel_rfl) (fun K hK => ?_)
  refine wpx_call _ _ (by kernel_rfl) ((HD2.out _).mono ?_)
  rintro x W5 ⟨rfl, hq⟩
  refine ⟨_, rfl, ?_⟩
  have hb5 : Below W0.heap.size W0 W5 := hb4.trans (hq.mono hb4.size)
  clear hq hb4
  replace hT : (fun w' : World => w'.rangeAt w.heap.size 0 EC ∧ w'.rangeAt (w.heap.size + 1) 0 XC ∧ w'.rangeAt (w.heap.size + 2) 0 VC) W5 := HT.out _ hb5
  replace hS : (fun _ : World => True) W5 := trivial
  refine hK.out _ _ hT (fun _ => hS) ?_
  clear hK K
  try simp only [Act.put, List.getElem_toArray, List.getElem_cons_succ, List.getElem_cons_zero, List.setIfInBounds_toArray, List.set_cons_zero, List.set_cons_succ]
  refine wpAnyT_held (i := 15) (v := .bool true) rfl (by kernel_rfl) (by kernel_rfl) (by kernel_rfl) (fun _ _ _ h => h) (by kernel_rfl) hT (fun _ => hS) (by kernel_rfl) ?_ ?_
  · intro wx hSw; go_split_ands; go_simp
  simp only [Act.put, List.getElem_toArray, List.getElem_cons_succ, List.getElem_cons_zero, List.setIfInBounds_toArray, List.set_cons_zero, List.set_cons_succ]
  refine wpAnyT_held (i := 16) (v := ?_) rfl (by kernel_rfl) (by kernel_rfl) (by kernel_rfl) (fun _ _ _ h => h) (by kernel_rfl) hT (fun _ => hS) (by kernel_rfl) ?_ ?_
  rotate_left
  · intro wx hSw; go_split_ands; go_simp; try with_reducible rfl
  simp only [Act.put, List.getElem_toArray, List.getElem_cons_succ, List.getElem_cons_zero, List.setIfInBounds_toArray, List.set_cons_zero, List.set_cons_succ]
  refine wpAnyT_held (i := 17) (v := ?_) rfl (by kernel_rfl) (by kernel_rfl) (by kernel_rfl) (fun _ _ _ h => h) (by kernel_rfl) hT (fun _ => hS) (by kernel_rfl) ?_ ?_
  rotate_left
  · intro wx hSw; go_split_ands; go_simp; try with_reducible rfl
  simp only [Act.put, List.getElem_toArray, List.getElem_cons_succ, List.getElem_cons_zero, List.setIfInBounds_toArray, List.set_cons_zero, List.set_cons_succ]
  refine wpAnyT_load (i := 18) (dst := some 25) (ty := 37) (x := .tmp 3) (b := w.heap.size) (o := (0)) (cs := EC) (by kernel_rfl) (by kernel_rfl) (by kernel_rfl) (by kernel_rfl) (by kernel_rfl) (fun _ _ _ h => h) (by kernel_rfl) hT (fun _ => hS) (by kernel_rfl) (fun _ h => h.1) uE rfl iE ?_
  simp only [Act.put, List.getElem_toArray, List.getElem_cons_succ, List.getElem_cons_zero, List.setIfInBounds_toArray, List.set_cons_zero, List.set_cons_succ]
  refine wpAnyT_load (i := 19) (dst := some 26) (ty := 37) (x := .tmp 4) (b := (w.heap.size + 1)) (o := (0)) (cs := XC) (by kernel_rfl) (by kernel_rfl) (by kernel_rfl) (by kernel_rfl) (by kernel_rfl) (fun _ _ _ h => h) (by kernel_rfl) hT (fun _ => hS) (by kernel_rfl) (fun _ h => h.2.1) uE rfl iX ?_
  simp only [Act.put, List.getElem_toArray, List.getElem_cons_succ, List.getElem_cons_zero, List.setIfInBounds_toArray, List.set_cons_zero, List.set_cons_succ]
  refine wpAnyT_load (i := 21) (dst := some 28) (ty := 37) (x := .tmp 3) (b := w.heap.size) (o := (0)) (cs := EC) (by kernel_rfl) (by kernel_rfl) (by kernel_rfl) (by kernel_rfl) (by kernel_rfl) (fun _ _ _ h => h) (by kernel_rfl) hT (fun _ => hS) (by kernel_rfl) (fun _ h => h.1) uE rfl iE ?_
  simp only [Act.put, List.getElem_toArray, List.getElem_cons_succ, List.getElem_cons_zero, List.setIfInBounds_toArray, List.set_cons_zero, List.set_cons_succ]
  refine wpAnyT_load (i := 22) (dst := some 29) (ty := 37) (x := .tmp 4) (b := (w.heap.size + 1)) (o := (0)) (cs := XC) (by kernel_rfl) (by kernel_rfl) (by kernel_rfl) (by kernel_rfl) (by kernel_rfl) (fun _ _ _ h => h) (by kernel_rfl) hT (fun _ => hS) (by kernel_rfl) (fun _ h => h.2.1) uE rfl iX ?_
  simp only [Act.put, List.getElem_toArray, List.getElem_cons_succ, List.getElem_cons_zero, List.setIfInBounds_toArray, List.set_cons_zero, List.set_cons_succ]
  refine wpAnyT_one (i := 20) rfl (by kernel_rfl) (by kernel_rfl) (fun K hK => ?_)
  refine wpx_call _ _ (by kernel_rfl) ((HB1.out _).mono ?_)
  rintro x W6 ⟨rfl, hq⟩
  refine ⟨_, rfl, ?_⟩
  have hb6 : Below W0.heap.size W0 W6 := hb5.trans (hq.mono hb5.size)
  clear hq hb5
  replace hT : (fun w' : World => w'.rangeAt w.heap.size 0 EC ∧ w'.rangeAt (w.heap.size + 1) 0 XC ∧ w'.rangeAt (w.heap.size + 2) 0 VC) W6 := HT.out _ hb6
  replace hS : (fun _ : World => True) W6 := trivial
  refine hK.out _ _ hT (fun _ => hS) ?_
  clear hK K
  try simp only [Act.put, List.getElem_toArray, List.getElem_cons_succ, List.getElem_cons_zero, List.setIfInBounds_toArray, List.set_cons_zero, List.set_cons_succ]
  refine wpAnyT_one (i := 23) rfl (by kernel_rfl) (by kernel_rfl) (fun K hK => ?_)
  refine wpx_call _ _ (by kernel_rfl) ((HB2.out _).mono ?_)
  rintro x W7 ⟨rfl, hq⟩
  refine ⟨_, rfl, ?_⟩
  have hb7 : Below W0.heap.size W0 W7 := hb6.trans (hq.mono hb6.size)
  clear hq hb6
  replace hT : (fun w' : World => w'.rangeAt w.heap.size 0 EC ∧ w'.rangeAt (w.heap.size + 1) 0 XC ∧ w'.rangeAt (w.heap.size + 2) 0 VC) W7 := HT.out _ hb7
  replace hS : (fun _ : World => True) W7 := trivial
  refine hK.out _ _ hT (fun _ => hS) ?_
  clear hK K
  try simp only [Act.put, List.getElem_toArray, List.getElem_cons_succ, List.getElem_cons_zero, List.setIfInBounds_toArray, List.set_cons_zero, List.set_cons_succ]
  refine wpAnyT_held (i := 24) (v := .bool true) rfl (by kernel_rfl) (by kernel_rfl) (by kernel_rfl) (fun _ _ _ h => h) (by kernel_rfl) hT (fun _ => hS) (by kernel_rfl) ?_ ?_
  · intro wx hSw; go_split_ands; go_simp
  simp only [Act.put, List.getElem_toArray, List.getElem_cons_succ, List.getElem_cons_zero, List.setIfInBounds_toArray, List.set_cons_zero, List.set_cons_succ]
  refine wpAnyT_held (i := 25) (v := ?_) rfl (by kernel_rfl) (by kernel_rfl) (by kernel_rfl) (fun _ _ _ h => h) (by kernel_rfl) hT (fun _ => hS) (by kernel_rfl) ?_ ?_
  rotate_left
  · intro wx hSw; go_split_ands; go_simp; try with_reducible rfl
  simp only [Act.put, List.getElem_toArray, List.getElem_cons_succ, List.getElem_cons_zero, List.setIfInBounds_toArray, List.set_cons_zero, List.set_cons_succ]
  refine wpAnyT_held (i := 26) (v := ?_) rfl (by kernel_rfl) (by kernel_rfl) (by kernel_rfl) (fun _ _ _ h => h) (by kernel_rfl) hT (fun _ => hS) (by kernel_rfl) ?_ ?_
  rotate_left
  · intro wx hSw; go_split_ands; go_simp; try with_reducible rfl
  simp only [Act.put, List.getElem_toArray, List.getElem_cons_succ, List.getElem_cons_zero, List.setIfInBounds_toArray, List.set_cons_zero, List.set_cons_succ]
  refine wpAnyT_done (by kernel_rfl) ?_ _
  clear hT hS
  go_wp2
  go_ret
  exact ⟨rfl, hB.trans (hb7.mono hB.size)⟩
end Go.Proofs.Ytmoabomoodddkaa
