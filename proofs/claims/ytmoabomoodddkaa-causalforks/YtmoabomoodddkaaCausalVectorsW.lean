/- CausalVectors, walked (Written by mkcl.py.) -/
import Derived.Test.YtmoabomoodddkaaBlv
import Derived.Test.YtmoabomoodddkaaCv2
namespace Go.Proofs.Ytmoabomoodddkaa
open Go.RowKit Go.Shelf
set_option maxRecDepth 20000
set_option linter.unusedSimpArgs false
theorem vec_eql (l m : List Int) (hl : l.length = 8) (hm : m.length = 8) (w : World) : (binOp .eql 24 (.agg (l.map (Value.int .u32)).toArray) (.agg (m.map (Value.int .u32)).toArray)).run Try.prog w = .ok (.bool (l == m)) w := by
  rw [run_eql_struct]
  have := run_equalIn_rows (P := Try.prog) w 9998 .u32 l m Try.underlying24 Try.underlying22 (by kernel_rfl) (by kernel_rfl) hl hm
  unfold row at this
  rw [this]; rfl
theorem joinV_length (a b : List Int) (ha : a.length = 8) : (joinV a b).length = 8 := by unfold joinV; rw [joinTo_length, ha]
set_option maxHeartbeats 8000000 in
theorem cvec_walk (a b : List Int) (da ds : Int) (w : World) (ha : a.length = 8) (hb : b.length = 8) (hd : okD da ds) :
    Calls Try.prog 3 #[.agg (row .u32 a), .agg (row .u32 b), .agg (dotC da ds).toArray] w fun e w' => e = .returned (.bool true) ∧ Below w.heap.size w w' := by
  have HLV : Veil (∀ W, Calls Try.prog 12 #[] W fun r w' => r = .returned (.bool true) ∧ Below W.heap.size W w') := ⟨fun W => clive_any W⟩
  have HH1 : Veil (∀ W, Calls Try.prog 13 #[.agg (a.map (Value.int .u32)).toArray, .agg (dotC da ds).toArray] W fun r w' => r = .returned (.bool (hasB a da ds)) ∧ Below W.heap.size W w') := ⟨fun W => chas_any a da ds W ha hd.1.1 hd.2.1⟩
  have HH2 : Veil (∀ W, Calls Try.prog 14 #[.agg (a.map (Value.int .u32)).toArray, .agg (dotC da ds).toArray] W fun r w' => r = .returned (.bool (hasB a da ds)) ∧ Below W.heap.size W w') := ⟨fun W => rhas_any a da ds W ha hd.1.1 hd.2.1⟩
  have HW1 : Veil (∀ W, Calls Try.prog 15 #[.agg (a.map (Value.int .u32)).toArray, .agg (b.map (Value.int .u32)).toArray] W fun r w' => r = .returned (.bool (withinB a b)) ∧ Below W.heap.size W w') := ⟨fun W => cwithin_any a b W ha hb⟩
  have HW2 : Veil (∀ W, Calls Try.prog 16 #[.agg (a.map (Value.int .u32)).toArray, .agg (b.map (Value.int .u32)).toArray] W fun r w' => r = .returned (.bool (withinB a b)) ∧ Below W.heap.size W w') := ⟨fun W => rwithin_any a b W ha hb⟩
  have HJ1 : Veil (∀ W, Calls Try.prog 17 #[.agg (a.map (Value.int .u32)).toArray, .agg (b.map (Value.int .u32)).toArray] W fun r w' => r = .returned (.agg ((joinV a b).map (Value.int .u32)).toArray) ∧ Below W.heap.size W w') := ⟨fun W => cjoin_any a b W ha hb⟩
  have HJ2 : Veil (∀ W, Calls Try.prog 18 #[.agg (a.map (Value.int .u32)).toArray, .agg (b.map (Value.int .u32)).toArray] W fun r w' => r = .returned (.agg ((joinV a b).map (Value.int .u32)).toArray) ∧ Below W.heap.size W w') := ⟨fun W => rjoin_any a b W ha hb⟩
  have heq : ∀ wx, (binOp .eql 24 (.agg ((joinV a b).map (Value.int .u32)).toArray) (.agg ((joinV a b).map (Value.int .u32)).toArray)).run Try.prog wx = .ok (.bool true) wx := fun wx => by
    rw [vec_eql _ _ (joinV_length a b ha) (joinV_length a b ha), beq_self_eq_true]
  have k0 := ((CellsAt.new w 24 (a.map (Value.int .u32))).alloc (.cells (b.map (Value.int .u32)).toArray 24)).alloc (.cells (dotC da ds).toArray 26)
  have k1 := (CellsAt.new (w.alloc (.cells (a.map (Value.int .u32)).toArray 24)) 24 (b.map (Value.int .u32))).alloc (.cells (dotC da ds).toArray 26)
  have k2 := CellsAt.new ((w.alloc (.cells (a.map (Value.int .u32)).toArray 24)).alloc (.cells (b.map (Value.int .u32)).toArray 24)) 26 (dotC da ds)
  rw [World.size_alloc] at k1 k2
  rw [World.size_alloc] at k2
  have hB0 : Below w.heap.size w (((w.alloc (.cells (a.map (Value.int .u32)).toArray 24)).alloc (.cells (b.map (Value.int .u32)).toArray 24)).alloc (.cells (dotC da ds).toArray 26)) := (((Below.refl _ _).alloc (Nat.le_refl _) _).alloc (by simp) _).alloc (by simp; omega) _
  have iA : (Try.prog.info? 24).map (·.size) = some (a.map (Value.int .u32)).length := by rw [List.length_map, ha]; exact sizeV8c
  have iB : (Try.prog.info? 24).map (·.size) = some (b.map (Value.int .u32)).length := by rw [List.length_map, hb]; exact sizeV8c
  have iD : (Try.prog.info? 26).map (·.size) = some (dotC da ds).length := sizeDot
  have uV := Try.underlying24
  have uD := Try.underlying26
  unfold row
  generalize hasB a da ds = HB at HH1 HH2
  generalize withinB a b = WB at HW1 HW2
  generalize (joinV a b).map (Value.int .u32) = JV at HJ1 HJ2 heq
  generalize a.map (Value.int .u32) = AV at HH1 HH2 HW1 HW2 HJ1 HJ2 k0 k1 k2 hB0 iA ⊢
  generalize b.map (Value.int .u32) = BV at HW1 HW2 HJ1 HJ2 k0 k1 k2 hB0 iB ⊢
  generalize dotC da ds = DC at HH1 HH2 k0 k1 k2 hB0 iD ⊢
  clear ha hb hd
  go_enter Try.func3, Try.ntmps3
  go_upto_region 1 with fail
  refine forget (p := fun y => Code.wp _ _ _ _ y) (fun W => Below w.heap.size w W ∧ CellsAt W w.heap.size 24 AV ∧ CellsAt W (w.heap.size + 1) 24 BV ∧ CellsAt W (w.heap.size + 2) 26 DC) ⟨hB0, k0, k1, k2⟩ ?_
  clear hB0 k0 k1 k2
  rintro W0 ⟨hB, c0, c1, c2⟩
  have HT : Veil (∀ W, Below W0.heap.size W0 W → W.rangeAt w.heap.size 0 AV ∧ W.rangeAt (w.heap.size + 1) 0 BV ∧ W.rangeAt (w.heap.size + 2) 0 DC) := ⟨fun W hq => ⟨(c0.farM hq).wholeM, (c1.farM hq).wholeM, (c2.farM hq).wholeM⟩⟩
  clear c0 c1 c2
  refine wp_region_gateT (fun w' => w'.rangeAt w.heap.size 0 AV ∧ w'.rangeAt (w.heap.size + 1) 0 BV ∧ w'.rangeAt (w.heap.size + 2) 0 DC) (fun _ => True) 99 (by kernel_rfl) ?_
  have hT : (fun w' : World => w'.rangeAt w.heap.size 0 AV ∧ w'.rangeAt (w.heap.size + 1) 0 BV ∧ w'.rangeAt (w.heap.size + 2) 0 DC) W0.drew := HT.out _ (Below.refl _ _).drew
  have hS : (fun _ : World => True) W0.drew := trivial
  have hb0 : Below W0.heap.size W0 W0.drew := (Below.refl _ _).drew
  refine wpAnyT_one (i := 0) rfl (by kernel_rfl) (by kernel_rfl) (fun K hK => ?_)
  refine wpx_call _ _ (by kernel_rfl) ((HLV.out _).mono ?_)
  rintro x W1 ⟨rfl, hq⟩
  refine ⟨_, rfl, ?_⟩
  have hb1 : Below W0.heap.size W0 W1 := hb0.trans (hq.mono hb0.size)
  clear hq hb0
  replace hT : (fun w' : World => w'.rangeAt w.heap.size 0 AV ∧ w'.rangeAt (w.heap.size + 1) 0 BV ∧ w'.rangeAt (w.heap.size + 2) 0 DC) W1 := HT.out _ hb1
  replace hS : (fun _ : World => True) W1 := trivial
  refine hK.out _ _ hT (fun _ => hS) ?_
  clear hK K
  try simp only [Act.put, List.getElem_toArray, List.getElem_cons_succ, List.getElem_cons_zero, List.setIfInBounds_toArray, List.set_cons_zero, List.set_cons_succ]
  refine wpAnyT_held (i := 1) (v := ?_) rfl (by kernel_rfl) (by kernel_rfl) (by kernel_rfl) (fun _ _ _ h => h) (by kernel_rfl) hT (fun _ => hS) (by kernel_rfl) ?_ ?_
  rotate_left
  · intro wx hSw; go_split_ands; go_simp; try with_reducible rfl
  simp only [Act.put, List.getElem_toArray, List.getElem_cons_succ, List.getElem_cons_zero, List.setIfInBounds_toArray, List.set_cons_zero, List.set_cons_succ]
  refine wpAnyT_load (i := 2) (dst := some 9) (ty := 24) (x := .tmp 3) (b := w.heap.size) (o := (0)) (cs := AV) (by kernel_rfl) (by kernel_rfl) (by kernel_rfl) (by kernel_rfl) (by kernel_rfl) (fun _ _ _ h => h) (by kernel_rfl) hT (fun _ => hS) (by kernel_rfl) (fun _ h => h.1) uV rfl iA ?_
  simp only [Act.put, List.getElem_toArray, List.getElem_cons_succ, List.getElem_cons_zero, List.setIfInBounds_toArray, List.set_cons_zero, List.set_cons_succ]
  refine wpAnyT_load (i := 3) (dst := some 10) (ty := 26) (x := .tmp 5) (b := (w.heap.size + 2)) (o := (0)) (cs := DC) (by kernel_rfl) (by kernel_rfl) (by kernel_rfl) (by kernel_rfl) (by kernel_rfl) (fun _ _ _ h => h) (by kernel_rfl) hT (fun _ => hS) (by kernel_rfl) (fun _ h => h.2.2) uD rfl iD ?_
  simp only [Act.put, List.getElem_toArray, List.getElem_cons_succ, List.getElem_cons_zero, List.setIfInBounds_toArray, List.set_cons_zero, List.set_cons_succ]
  refine wpAnyT_load (i := 5) (dst := some 12) (ty := 24) (x := .tmp 3) (b := w.heap.size) (o := (0)) (cs := AV) (by kernel_rfl) (by kernel_rfl) (by kernel_rfl) (by kernel_rfl) (by kernel_rfl) (fun _ _ _ h => h) (by kernel_rfl) hT (fun _ => hS) (by kernel_rfl) (fun _ h => h.1) uV rfl iA ?_
  simp only [Act.put, List.getElem_toArray, List.getElem_cons_succ, List.getElem_cons_zero, List.setIfInBounds_toArray, List.set_cons_zero, List.set_cons_succ]
  refine wpAnyT_load (i := 6) (dst := some 13) (ty := 26) (x := .tmp 5) (b := (w.heap.size + 2)) (o := (0)) (cs := DC) (by kernel_rfl) (by kernel_rfl) (by kernel_rfl) (by kernel_rfl) (by kernel_rfl) (fun _ _ _ h => h) (by kernel_rfl) hT (fun _ => hS) (by kernel_rfl) (fun _ h => h.2.2) uD rfl iD ?_
  simp only [Act.put, List.getElem_toArray, List.getElem_cons_succ, List.getElem_cons_zero, List.setIfInBounds_toArray, List.set_cons_zero, List.set_cons_succ]
  refine wpAnyT_one (i := 4) rfl (by kernel_rfl) (by kernel_rfl) (fun K hK => ?_)
  refine wpx_call _ _ (by kernel_rfl) ((HH1.out _).mono ?_)
  rintro x W2 ⟨rfl, hq⟩
  refine ⟨_, rfl, ?_⟩
  have hb2 : Below W0.heap.size W0 W2 := hb1.trans (hq.mono hb1.size)
  clear hq hb1
  replace hT : (fun w' : World => w'.rangeAt w.heap.size 0 AV ∧ w'.rangeAt (w.heap.size + 1) 0 BV ∧ w'.rangeAt (w.heap.size + 2) 0 DC) W2 := HT.out _ hb2
  replace hS : (fun _ : World => True) W2 := trivial
  refine hK.out _ _ hT (fun _ => hS) ?_
  clear hK K
  try simp only [Act.put, List.getElem_toArray, List.getElem_cons_succ, List.getElem_cons_zero, List.setIfInBounds_toArray, List.set_cons_zero, List.set_cons_succ]
  refine wpAnyT_one (i := 7) rfl (by kernel_rfl) (by kernel_rfl) (fun K hK => ?_)
  refine wpx_call _ _ (by kernel_rfl) ((HH2.out _).mono ?_)
  rintro x W3 ⟨rfl, hq⟩
  refine ⟨_, rfl, ?_⟩
  have hb3 : Below W0.heap.size W0 W3 := hb2.trans (hq.mono hb2.size)
  clear hq hb2
  replace hT : (fun w' : World => w'.rangeAt w.heap.size 0 AV ∧ w'.rangeAt (w.heap.size + 1) 0 BV ∧ w'.rangeAt (w.heap.size + 2) 0 DC) W3 := HT.out _ hb3
  replace hS : (fun _ : World => True) W3 := trivial
  refine hK.out _ _ hT (fun _ => hS) ?_
  clear hK K
  try simp only [Act.put, List.getElem_toArray, List.getElem_cons_succ, List.getElem_cons_zero, List.setIfInBounds_toArray, List.set_cons_zero, List.set_cons_succ]
  refine wpAnyT_held (i := 8) (v := .bool true) rfl (by kernel_rfl) (by kernel_rfl) (by kernel_rfl) (fun _ _ _ h => h) (by kernel_rfl) hT (fun _ => hS) (by kernel_rfl) ?_ ?_
  · intro wx hSw; go_split_ands; go_simp
  simp only [Act.put, List.getElem_toArray, List.getElem_cons_succ, List.getElem_cons_zero, List.setIfInBounds_toArray, List.set_cons_zero, List.set_cons_succ]
  refine wpAnyT_held (i := 9) (v := ?_) rfl (by kernel_rfl) (by kernel_rfl) (by kernel_rfl) (fun _ _ _ h => h) (by kernel_rfl) hT (fun _ => hS) (by kernel_rfl) ?_ ?_
  rotate_left
  · intro wx hSw; go_split_ands; go_simp; try with_reducible rfl
  simp only [Act.put, List.getElem_toArray, List.getElem_cons_succ, List.getElem_cons_zero, List.setIfInBounds_toArray, List.set_cons_zero, List.set_cons_succ]
  refine wpAnyT_held (i := 10) (v := ?_) rfl (by kernel_rfl) (by kernel_rfl) (by kernel_rfl) (fun _ _ _ h => h) (by kernel_rfl) hT (fun _ => hS) (by kernel_rfl) ?_ ?_
  rotate_left
  · intro wx hSw; go_split_ands; go_simp; try with_reducible rfl
  simp only [Act.put, List.getElem_toArray, List.getElem_cons_succ, List.getElem_cons_zero, List.setIfInBounds_toArray, List.set_cons_zero, List.set_cons_succ]
  refine wpAnyT_load (i := 11) (dst := some 18) (ty := 24) (x := .tmp 3) (b := w.heap.size) (o := (0)) (cs := AV) (by kernel_rfl) (by kernel_rfl) (by kernel_rfl) (by kernel_rfl) (by kernel_rfl) (fun _ _ _ h => h) (by kernel_rfl) hT (fun _ => hS) (by kernel_rfl) (fun _ h => h.1) uV rfl iA ?_
  simp only [Act.put, List.getElem_toArray, List.getElem_cons_succ, List.getElem_cons_zero, List.setIfInBounds_toArray, List.set_cons_zero, List.set_cons_succ]
  refine wpAnyT_load (i := 12) (dst := some 19) (ty := 24) (x := .tmp 4) (b := (w.heap.size + 1)) (o := (0)) (cs := BV) (by kernel_rfl) (by kernel_rfl) (by kernel_rfl) (by kernel_rfl) (by kernel_rfl) (fun _ _ _ h => h) (by kernel_rfl) hT (fun _ => hS) (by kernel_rfl) (fun _ h => h.2.1) uV rfl iB ?_
  simp only [Act.put, List.getElem_toArray, List.getElem_cons_succ, List.getElem_cons_zero, List.setIfInBounds_toArray, List.set_cons_zero, List.set_cons_succ]
  refine wpAnyT_load (i := 14) (dst := some 21) (ty := 24) (x := .tmp 3) (b := w.heap.size) (o := (0)) (cs := AV) (by kernel_rfl) (by kernel_rfl) (by kernel_rfl) (by kernel_rfl) (by kernel_rfl) (fun _ _ _ h => h) (by kernel_rfl) hT (fun _ => hS) (by kernel_rfl) (fun _ h => h.1) uV rfl iA ?_
  simp only [Act.put, List.getElem_toArray, List.getElem_cons_succ, List.getElem_cons_zero, List.setIfInBounds_toArray, List.set_cons_zero, List.set_cons_succ]
  refine wpAnyT_load (i := 15) (dst := some 22) (ty := 24) (x := .tmp 4) (b := (w.heap.size + 1)) (o := (0)) (cs := BV) (by kernel_rfl) (by kernel_rfl) (by kernel_rfl) (by kernel_rfl) (by kernel_rfl) (fun _ _ _ h => h) (by kernel_rfl) hT (fun _ => hS) (by kernel_rfl) (fun _ h => h.2.1) uV rfl iB ?_
  simp only [Act.put, List.getElem_toArray, List.getElem_cons_succ, List.getElem_cons_zero, List.setIfInBounds_toArray, List.set_cons_zero, List.set_cons_succ]
  refine wpAnyT_one (i := 13) rfl (by kernel_rfl) (by kernel_rfl) (fun K hK => ?_)
  refine wpx_call _ _ (by kernel_rfl) ((HW1.out _).mono ?_)
  rintro x W4 ⟨rfl, hq⟩
  refine ⟨_, rfl, ?_⟩
  have hb4 : Below W0.heap.size W0 W4 := hb3.trans (hq.mono hb3.size)
  clear hq hb3
  replace hT : (fun w' : World => w'.rangeAt w.heap.size 0 AV ∧ w'.rangeAt (w.heap.size + 1) 0 BV ∧ w'.rangeAt (w.heap.size + 2) 0 DC) W4 := HT.out _ hb4
  replace hS : (fun _ : World => True) W4 := trivial
  refine hK.out _ _ hT (fun _ => hS) ?_
  clear hK K
  try simp only [Act.put, List.getElem_toArray, List.getElem_cons_succ, List.getElem_cons_zero, List.setIfInBounds_toArray, List.set_cons_zero, List.set_cons_succ]
  refine wpAnyT_one (i := 16) rfl (by kernel_rfl) (by kernel_rfl) (fun K hK => ?_)
  refine wpx_call _ _ (by kernel_rfl) ((HW2.out _).mono ?_)
  rintro x W5 ⟨rfl, hq⟩
  refine ⟨_, rfl, ?_⟩
  have hb5 : Below W0.heap.size W0 W5 := hb4.trans (hq.mono hb4.size)
  clear hq hb4
  replace hT : (fun w' : World => w'.rangeAt w.heap.size 0 AV ∧ w'.rangeAt (w.heap.size + 1) 0 BV ∧ w'.rangeAt (w.heap.size + 2) 0 DC) W5 := HT.out _ hb5
  replace hS : (fun _ : World => True) W5 := trivial
  refine hK.out _ _ hT (fun _ => hS) ?_
  clear hK K
  try simp only [Act.put, List.getElem_toArray, List.getElem_cons_succ, List.getElem_cons_zero, List.setIfInBounds_toArray, List.set_cons_zero, List.set_cons_succ]
  refine wpAnyT_held (i := 17) (v := .bool true) rfl (by kernel_rfl) (by kernel_rfl) (by kernel_rfl) (fun _ _ _ h => h) (by kernel_rfl) hT (fun _ => hS) (by kernel_rfl) ?_ ?_
  · intro wx hSw; go_split_ands; go_simp
  simp only [Act.put, List.getElem_toArray, List.getElem_cons_succ, List.getElem_cons_zero, List.setIfInBounds_toArray, List.set_cons_zero, List.set_cons_succ]
  refine wpAnyT_held (i := 18) (v := ?_) rfl (by kernel_rfl) (by kernel_rfl) (by kernel_rfl) (fun _ _ _ h => h) (by kernel_rfl) hT (fun _ => hS) (by kernel_rfl) ?_ ?_
  rotate_left
  · intro wx hSw; go_split_ands; go_simp; try with_reducible rfl
  simp only [Act.put, List.getElem_toArray, List.getElem_cons_succ, List.getElem_cons_zero, List.setIfInBounds_toArray, List.set_cons_zero, List.set_cons_succ]
  refine wpAnyT_held (i := 19) (v := ?_) rfl (by kernel_rfl) (by kernel_rfl) (by kernel_rfl) (fun _ _ _ h => h) (by kernel_rfl) hT (fun _ => hS) (by kernel_rfl) ?_ ?_
  rotate_left
  · intro wx hSw; go_split_ands; go_simp; try with_reducible rfl
  simp only [Act.put, List.getElem_toArray, List.getElem_cons_succ, List.getElem_cons_zero, List.setIfInBounds_toArray, List.set_cons_zero, List.set_cons_succ]
  refine wpAnyT_load (i := 20) (dst := some 27) (ty := 24) (x := .tmp 3) (b := w.heap.size) (o := (0)) (cs := AV) (by kernel_rfl) (by kernel_rfl) (by kernel_rfl) (by kernel_rfl) (by kernel_rfl) (fun _ _ _ h => h) (by kernel_rfl) hT (fun _ => hS) (by kernel_rfl) (fun _ h => h.1) uV rfl iA ?_
  simp only [Act.put, List.getElem_toArray, List.getElem_cons_succ, List.getElem_cons_zero, List.setIfInBounds_toArray, List.set_cons_zero, List.set_cons_succ]
  refine wpAnyT_load (i := 21) (dst := some 28) (ty := 24) (x := .tmp 4) (b := (w.heap.size + 1)) (o := (0)) (cs := BV) (by kernel_rfl) (by kernel_rfl) (by kernel_rfl) (by kernel_rfl) (by kernel_rfl) (fun _ _ _ h => h) (by kernel_rfl) hT (fun _ => hS) (by kernel_rfl) (fun _ h => h.2.1) uV rfl iB ?_
  simp only [Act.put, List.getElem_toArray, List.getElem_cons_succ, List.getElem_cons_zero, List.setIfInBounds_toArray, List.set_cons_zero, List.set_cons_succ]
  refine wpAnyT_load (i := 23) (dst := some 30) (ty := 24) (x := .tmp 3) (b := w.heap.size) (o := (0)) (cs := AV) (by kernel_rfl) (by kernel_rfl) (by kernel_rfl) (by kernel_rfl) (by kernel_rfl) (fun _ _ _ h => h) (by kernel_rfl) hT (fun _ => hS) (by kernel_rfl) (fun _ h => h.1) uV rfl iA ?_
  simp only [Act.put, List.getElem_toArray, List.getElem_cons_succ, List.getElem_cons_zero, List.setIfInBounds_toArray, List.set_cons_zero, List.set_cons_succ]
  refine wpAnyT_load (i := 24) (dst := some 31) (ty := 24) (x := .tmp 4) (b := (w.heap.size + 1)) (o := (0)) (cs := BV) (by kernel_rfl) (by kernel_rfl) (by kernel_rfl) (by kernel_rfl) (by kernel_rfl) (fun _ _ _ h => h) (by kernel_rfl) hT (fun _ => hS) (by kernel_rfl) (fun _ h => h.2.1) uV rfl iB ?_
  simp only [Act.put, List.getElem_toArray, List.getElem_cons_succ, List.getElem_cons_zero, List.setIfInBounds_toArray, List.set_cons_zero, List.set_cons_succ]
  refine wpAnyT_one (i := 22) rfl (by kernel_rfl) (by kernel_rfl) (fun K hK => ?_)
  refine wpx_call _ _ (by kernel_rfl) ((HJ1.out _).mono ?_)
  rintro x W6 ⟨rfl, hq⟩
  refine ⟨_, rfl, ?_⟩
  have hb6 : Below W0.heap.size W0 W6 := hb5.trans (hq.mono hb5.size)
  clear hq hb5
  replace hT : (fun w' : World => w'.rangeAt w.heap.size 0 AV ∧ w'.rangeAt (w.heap.size + 1) 0 BV ∧ w'.rangeAt (w.heap.size + 2) 0 DC) W6 := HT.out _ hb6
  replace hS : (fun _ : World => True) W6 := trivial
  refine hK.out _ _ hT (fun _ => hS) ?_
  clear hK K
  try simp only [Act.put, List.getElem_toArray, List.getElem_cons_succ, List.getElem_cons_zero, List.setIfInBounds_toArray, List.set_cons_zero, List.set_cons_succ]
  refine wpAnyT_one (i := 25) rfl (by kernel_rfl) (by kernel_rfl) (fun K hK => ?_)
  refine wpx_call _ _ (by kernel_rfl) ((HJ2.out _).mono ?_)
  rintro x W7 ⟨rfl, hq⟩
  refine ⟨_, rfl, ?_⟩
  have hb7 : Below W0.heap.size W0 W7 := hb6.trans (hq.mono hb6.size)
  clear hq hb6
  replace hT : (fun w' : World => w'.rangeAt w.heap.size 0 AV ∧ w'.rangeAt (w.heap.size + 1) 0 BV ∧ w'.rangeAt (w.heap.size + 2) 0 DC) W7 := HT.out _ hb7
  replace hS : (fun _ : World => True) W7 := trivial
  refine hK.out _ _ hT (fun _ => hS) ?_
  clear hK K
  try simp only [Act.put, List.getElem_toArray, List.getElem_cons_succ, List.getElem_cons_zero, List.setIfInBounds_toArray, List.set_cons_zero, List.set_cons_succ]
  refine wpAnyT_held (i := 26) (v := .bool true) rfl (by kernel_rfl) (by kernel_rfl) (by kernel_rfl) (fun _ _ _ h => h) (by kernel_rfl) hT (fun _ => hS) (by kernel_rfl) ?_ ?_
  · intro wx hSw; go_split_ands; go_simp
  simp only [Act.put, List.getElem_toArray, List.getElem_cons_succ, List.getElem_cons_zero, List.setIfInBounds_toArray, List.set_cons_zero, List.set_cons_succ]
  refine wpAnyT_held (i := 27) (v := ?_) rfl (by kernel_rfl) (by kernel_rfl) (by kernel_rfl) (fun _ _ _ h => h) (by kernel_rfl) hT (fun _ => hS) (by kernel_rfl) ?_ ?_
  rotate_left
  · intro wx hSw; go_split_ands; go_simp; try with_reducible rfl
  simp only [Act.put, List.getElem_toArray, List.getElem_cons_succ, List.getElem_cons_zero, List.setIfInBounds_toArray, List.set_cons_zero, List.set_cons_succ]
  refine wpAnyT_held (i := 28) (v := ?_) rfl (by kernel_rfl) (by kernel_rfl) (by kernel_rfl) (fun _ _ _ h => h) (by kernel_rfl) hT (fun _ => hS) (by kernel_rfl) ?_ ?_
  rotate_left
  · intro wx hSw; go_split_ands; go_simp; try with_reducible rfl
  simp only [Act.put, List.getElem_toArray, List.getElem_cons_succ, List.getElem_cons_zero, List.setIfInBounds_toArray, List.set_cons_zero, List.set_cons_succ]
  refine wpAnyT_done (by kernel_rfl) ?_ _
  clear hT hS
  go_wp2
  go_ret
  exact ⟨rfl, hB.trans (hb7.mono hB.size)⟩
end Go.Proofs.Ytmoabomoodddkaa
