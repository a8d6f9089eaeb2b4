/- Bf7 -/
import Derived.Test.YthjkcfpdkhghpaaH17
import Derived.Test.YthjkcfpdkhghpaaH19
namespace Go.Proofs.Ythjkcfpdkhghpaa
open Go.RowKit Go.Shelf
set_option maxRecDepth 20000
set_option linter.unusedSimpArgs false
def refN (S : List Int) (L : List Ev) (e : Ev) : Int := if rightB e = false then 3 else if hasB S e.da e.ds = true then 5 else match lookE L e.dot with | some k => if evEq k e = true then 5 else 11 | none => if fullB S = true then 10 else if readyB S e = true then 0 else if 16 ≤ L.length then 10 else 0
theorem right_ok (e : Ev) (w : World) (he : e.Ok) : Calls Try.prog 26 #[.agg e.cells.toArray] w fun x w' => x = .returned (.bool (rightB e)) ∧ Below w.heap.size w w' :=
  cright_any e w he.past he.dot.1.1 he.dot.2.1 (by have := he.dot.2.2; omega) he.par.1.1 he.par.2.1
theorem has_ok (S : List Int) (a s : Int) (w : World) (hS : S.length = 8) (h : okD a s) : Calls Try.prog 27 #[.agg (S.map (Value.int .u32)).toArray, .agg (dotC a s).toArray] w fun x w' => x = .returned (.bool (hasB S a s)) ∧ Below w.heap.size w w' := chas_any S a s w hS h.1.1 h.2.1
theorem exec_len {P : Program} {o : Oper} {ρ : Operand → Value} {w : World} (m : Operand) (ts : Array TypeId) (ho : o.op = .call { callee := .builtin .len, args := #[m], argTypes := ts }) (mv v : Value) (hm : ρ m = mv) (hrun : (Builtin.len_ ts o.type #[mv]).run P w = .ok v w) : (execOp ρ o).run P w = .ok (.value v) w := by
  unfold execOp
  simp only [ho, resolve, invoke, builtin, Sem.run_bind, Sem.run_pure, Result.andThen_ok, List.map_toArray, List.map_cons, List.map_nil, hm, hrun]
set_option maxHeartbeats 8000000 in
theorem refuse_any (H b : Nat) (S : List Int) (L : List Ev) (e : Ev) (w : World) (hC : BufC w H b S L) (he : e.Ok) (hL : L.length ≤ 1000) :
    Calls Try.prog 17 #[.pointer (some ⟨H, 0, none⟩), .agg e.cells.toArray] w fun r w' => r = .returned (.int .i64 (refN S L e)) ∧ Below w.heap.size w w' := by
  have hB0 : Below w.heap.size w (w.alloc (.cells e.cells.toArray 38)) := (Below.refl _ _).alloc (Nat.le_refl _) _
  have hx0 := CellsAt.new w 38 e.cells
  have he1 := ev_len e he.past
  have iE : (Try.prog.info? 38).map (·.size) = some e.cells.length := by rw [he1]; kernel_rfl
  have iD : (Try.prog.info? 32).map (·.size) = some (dotC e.da e.ds).length := sizeDot
  have iV : (Try.prog.info? 34).map (·.size) = some (S.map (Value.int .u32)).length := by rw [List.length_map, hC.len]; exact sizeV8c
  have uE := Try.underlying38
  have uD := Try.underlying32
  have uV := Try.underlying34
  have HR : Veil (∀ W, Calls Try.prog 26 #[.agg e.cells.toArray] W fun x w' => x = .returned (.bool (rightB e)) ∧ Below W.heap.size W w') := ⟨fun W => right_ok e W he⟩
  have HH : Veil (∀ W, Calls Try.prog 27 #[.agg (S.map (Value.int .u32)).toArray, .agg (dotC e.da e.ds).toArray] W fun x w' => x = .returned (.bool (hasB S e.da e.ds)) ∧ Below W.heap.size W w') := ⟨fun W => has_ok S e.da e.ds W hC.len he.dot⟩
  have HD : Veil (∀ W, Calls Try.prog 29 #[.agg (S.map (Value.int .u32)).toArray, .agg e.cells.toArray] W fun x w' => x = .returned (.bool (readyB S e)) ∧ Below W.heap.size W w') := ⟨fun W => ready_ok S e W hC.len hC.rng he⟩
  have HF : Veil (∀ W, BufC W H b S L → Calls Try.prog 28 #[.pointer (some ⟨H, 0, none⟩)] W fun x w' => x = .returned (.bool (fullB S)) ∧ Below W.heap.size W w') := ⟨fun W h => full_any H b S L W h⟩
  have HT : Veil (∀ W, Below w.heap.size w W → CellsAt W w.heap.size 38 e.cells → W.rangeAt w.heap.size 0 e.cells ∧ W.rangeAt w.heap.size 0 (dotC e.da e.ds) ∧ W.rangeAt H 0 (S.map (Value.int .u32)) ∧ W.cell? ⟨H, 8, none⟩ = some (.map (some b)) ∧ WaitAt W b L) := ⟨fun W hb hx => by
    have h1 := hx.range 0 2
    rw [(ev_parts e he.past).1] at h1
    have hC1 := hC.far hb
    exact ⟨hx.wholeM, h1, hC1.seenR, hC1.mapCell, hC1.wait⟩⟩
  have HN : Veil (refN S L e = if rightB e = false then 3 else if hasB S e.da e.ds = true then 5 else match lookE L e.dot with | some k => if evEq k e = true then 5 else 11 | none => if fullB S = true then 10 else if readyB S e = true then 0 else if 16 ≤ L.length then 10 else 0) := ⟨rfl⟩
  have HC := Veil.mk hC
  have HE := Veil.mk he
  have HL := Veil.mk hL
  have he2 := ev_one e
  obtain ⟨E, hE⟩ : ∃ E, e.cells = E := ⟨_, rfl⟩
  have HEE := Veil.mk hE
  rw [hE] at hB0 hx0 iE HR HD HT he1 he2
  rw [hE]
  generalize refN S L e = RN at HN ⊢
  generalize rightB e = RB at HR HN
  generalize hasB S e.da e.ds = HB at HH HN
  generalize hSV : S.map (Value.int .u32) = SV at HH HD HT iV
  generalize fullB S = FB at HF HN
  generalize readyB S e = RY at HD HN
  clear hC he hL hE hSV
  go_enter Try.func17, Try.ntmps17
  go_upto_region 3 with fail
  refine forget (p := fun y => Code.wp _ _ _ _ y) (fun W => Below w.heap.size w W ∧ CellsAt W w.heap.size 38 E) ⟨hB0, hx0⟩ ?_
  clear hB0 hx0
  rintro W ⟨hB, hx⟩
  have hrE := hx.wholeM
  have hr := HR.out W
  cases RB
  · replace HN : Veil (RN = 3) := ⟨HN.out⟩
    go_wp2_with (first
      | (refine wpList_ldv rfl 38 _ rfl w.heap.size 0 rfl E hrE uE rfl iE ?_)
      | (go_at_call 26; refine hr.mono ?_; rintro x W1 ⟨rfl, hb1⟩))
    go_ret
    exact ⟨by rw [HN.out]; rfl, hB.trans (hb1.mono hB.size)⟩
  go_upto_region 5 with (first
      | (refine wpList_ldv rfl 38 _ rfl w.heap.size 0 rfl E hrE uE rfl iE ?_)
      | (go_at_call 26; refine hr.mono ?_; rintro x W1 ⟨rfl, hb1⟩))
  have hB1 := hB.trans (hb1.mono hB.size)
  have hx1 := hx.farM hb1
  clear hr hrE hB hx hb1 HR
  obtain ⟨q1, q2, q3, q4, q5⟩ := HT.out W1 hB1 hx1
  refine wp_region_gateT (fun w' => w'.rangeAt H 0 SV ∧ w'.rangeAt w.heap.size 0 (dotC e.da e.ds)) (fun _ => True) 99 (by kernel_rfl) ?_
  have hT : (fun w' : World => w'.rangeAt H 0 SV ∧ w'.rangeAt w.heap.size 0 (dotC e.da e.ds)) W1.drew := ⟨q3, q2⟩
  have hS : (fun _ : World => True) W1.drew := trivial
  have hh := HH.out W1.drew
  refine wpAnyT_held (i := 0) (v := ?_) rfl (by kernel_rfl) (by kernel_rfl) (by kernel_rfl) (fun _ _ _ h => h) (by kernel_rfl) hT (fun _ => hS) (by kernel_rfl) ?_ ?_
  rotate_left
  · intro wx hSw; go_split_ands; go_simp; try with_reducible rfl
  simp only [Act.put, List.getElem_toArray, List.getElem_cons_succ, List.getElem_cons_zero, List.setIfInBounds_toArray, List.set_cons_zero, List.set_cons_succ]
  refine wpAnyT_held (i := 1) (v := ?_) rfl (by kernel_rfl) (by kernel_rfl) (by kernel_rfl) (fun _ _ _ h => h) (by kernel_rfl) hT (fun _ => hS) (by kernel_rfl) ?_ ?_
  rotate_left
  · intro wx hSw; go_split_ands; go_simp; try with_reducible rfl
  simp only [Act.put, List.getElem_toArray, List.getElem_cons_succ, List.getElem_cons_zero, List.setIfInBounds_toArray, List.set_cons_zero, List.set_cons_succ]
  refine wpAnyT_held (i := 2) (v := ?_) rfl (by kernel_rfl) (by kernel_rfl) (by kernel_rfl) (fun _ _ _ h => h) (by kernel_rfl) hT (fun _ => hS) (by kernel_rfl) ?_ ?_
  rotate_left
  · intro wx hSw; go_split_ands; go_simp; try with_reducible rfl
  simp only [Act.put, List.getElem_toArray, List.getElem_cons_succ, List.getElem_cons_zero, List.setIfInBounds_toArray, List.set_cons_zero, List.set_cons_succ]
  refine wpAnyT_load (i := 3) (dst := some 15) (ty := 34) (x := .tmp 14) (b := H) (o := (0)) (cs := SV) (by kernel_rfl) (by kernel_rfl) (by kernel_rfl) (by kernel_rfl) (by kernel_rfl) (fun _ _ _ h => h) (by kernel_rfl) hT (fun _ => hS) (by kernel_rfl) (fun _ h => h.1) uV rfl iV ?_
  simp only [Act.put, List.getElem_toArray, List.getElem_cons_succ, List.getElem_cons_zero, List.setIfInBounds_toArray, List.set_cons_zero, List.set_cons_succ]
  refine wpAnyT_held (i := 4) (v := ?_) rfl (by kernel_rfl) (by kernel_rfl) (by kernel_rfl) (fun _ _ _ h => h) (by kernel_rfl) hT (fun _ => hS) (by kernel_rfl) ?_ ?_
  rotate_left
  · intro wx hSw; go_split_ands; go_simp; try with_reducible rfl
  simp only [Act.put, List.getElem_toArray, List.getElem_cons_succ, List.getElem_cons_zero, List.setIfInBounds_toArray, List.set_cons_zero, List.set_cons_succ]
  refine wpAnyT_load (i := 5) (dst := some 17) (ty := 32) (x := .tmp 16) (b := w.heap.size) (o := (0)) (cs := (dotC e.da e.ds)) (by kernel_rfl) (by kernel_rfl) (by kernel_rfl) (by kernel_rfl) (by kernel_rfl) (fun _ _ _ h => h) (by kernel_rfl) hT (fun _ => hS) (by kernel_rfl) (fun _ h => h.2) uD rfl iD ?_
  simp only [Act.put, List.getElem_toArray, List.getElem_cons_succ, List.getElem_cons_zero, List.setIfInBounds_toArray, List.set_cons_zero, List.set_cons_succ]
  refine wpAnyT_one (i := 6) rfl (by kernel_rfl) (by kernel_rfl) (fun K hK => ?_)
  refine wpx_call _ _ (by kernel_rfl) (hh.mono ?_)
  rintro x W2 ⟨rfl, hb2⟩
  refine ⟨_, rfl, ?_⟩
  have hB2 : Below w.heap.size w W2 := hB1.drew.trans (hb2.mono hB1.size)
  have hx2 := (hx1.congr (w' := W1.drew) rfl).farM hb2
  clear q1 q2 q3 q4 q5 hh hb2 hB1 hx1
  obtain ⟨q1, q2, q3, q4, q5⟩ := HT.out W2 hB2 hx2
  replace hT : (fun w' : World => w'.rangeAt H 0 SV ∧ w'.rangeAt w.heap.size 0 (dotC e.da e.ds)) W2 := ⟨q3, q2⟩
  replace hS : (fun _ : World => True) W2 := trivial
  refine hK.out _ _ hT (fun _ => hS) ?_
  clear hK K
  try simp only [Act.put, List.getElem_toArray, List.getElem_cons_succ, List.getElem_cons_zero, List.setIfInBounds_toArray, List.set_cons_zero, List.set_cons_succ]
  refine wpAnyT_done (by kernel_rfl) ?_ _
  clear hT hS HH
  cases HB
  rotate_left
  · replace HN : Veil (RN = 5) := ⟨HN.out⟩
    go_wp2
    go_ret
    exact ⟨by rw [HN.out]; rfl, hB2⟩
  go_upto_region 7 with fail
  have HK : Veil (∃ KV kb, KV.length = 17 ∧ (∀ v ∈ KV, v.oneCell' = true) ∧ (∀ W, WaitAt W b L → (Instr.lookup 52 (.map (some b)) (.agg (dotC e.da e.ds).toArray) true).run Try.prog W = .ok (.tuple #[.agg KV.toArray, .bool kb]) W) ∧ (kb = false → lookE L e.dot = none) ∧ (kb = true → ∃ k, lookE L e.dot = some k ∧ k.Ok ∧ KV = k.cells)) := ⟨by
    have hg : ∀ W, WaitAt W b L → (Instr.lookup 52 (.map (some b)) (.agg (dotC e.da e.ds).toArray) true).run Try.prog W = .ok (.tuple #[((lookE L (e.da, e.ds)).map fun e => Value.agg e.cells.toArray).getD (.agg evZ17.toArray), .bool ((lookE L (e.da, e.ds)).map fun e => Value.agg e.cells.toArray).isSome]) W := fun W hW => hW.mapAt.look Try.underlying52 (z := .agg evZ17.toArray) (Try.zeroValue38 W) e.da e.ds HE.out.dot
    cases hk : lookE L (e.da, e.ds) with
    | none =>
      rw [hk] at hg
      exact ⟨evZ17, false, rfl, by decide, hg, fun _ => hk, (fun q => by cases q)⟩
    | some k =>
      rw [hk] at hg
      have hko := HC.out.wait.ok k (lookE_mem hk).1
      exact ⟨k.cells, true, ev_len k hko.past, ev_one k, hg, (fun q => by cases q), fun _ => ⟨k, hk, hko, rfl⟩⟩⟩
  obtain ⟨KV, kb, hk17, hk1, hlk, hkf, hkt⟩ := HK.out
  have HLK := Veil.mk hlk
  have HKF := Veil.mk hkf
  have HKT := Veil.mk hkt
  have iK : (Try.prog.info? 38).map (·.size) = some KV.length := by rw [hk17]; kernel_rfl
  clear HK hlk hkf hkt
  refine wp_region_gateT (fun w' => w'.cell? ⟨H, 8, none⟩ = some (.map (some b)) ∧ w'.rangeAt w.heap.size 0 (dotC e.da e.ds) ∧ WaitAt w' b L) (fun _ => True) 99 (by kernel_rfl) ?_
  have hT : (fun w' : World => w'.cell? ⟨H, 8, none⟩ = some (.map (some b)) ∧ w'.rangeAt w.heap.size 0 (dotC e.da e.ds) ∧ WaitAt w' b L) W2.drew := ⟨q4, q2, q5.congr rfl⟩
  have hS : (fun _ : World => True) W2.drew := trivial
  refine wpAnyT_held (i := 0) (v := ?_) rfl (by kernel_rfl) (by kernel_rfl) (by kernel_rfl) (fun _ _ _ h => h) (by kernel_rfl) hT (fun _ => hS) (by kernel_rfl) ?_ ?_
  rotate_left
  · intro wx hSw; go_split_ands; go_simp; try with_reducible rfl
  simp only [Act.put, List.getElem_toArray, List.getElem_cons_succ, List.getElem_cons_zero, List.setIfInBounds_toArray, List.set_cons_zero, List.set_cons_succ]
  refine wpAnyT_held (i := 1) (v := ?_) rfl (by kernel_rfl) (by kernel_rfl) (by kernel_rfl) (fun _ _ _ h => h) (by kernel_rfl) hT (fun _ => hS) (by kernel_rfl) ?_ ?_
  rotate_left
  · intro wx hSw; go_split_ands; go_simp; try with_reducible rfl
  simp only [Act.put, List.getElem_toArray, List.getElem_cons_succ, List.getElem_cons_zero, List.setIfInBounds_toArray, List.set_cons_zero, List.set_cons_succ]
  refine wpAnyT_held (i := 2) (v := ?_) rfl (by kernel_rfl) (by kernel_rfl) (by kernel_rfl) (fun _ _ _ h => h) (by kernel_rfl) hT (fun _ => hS) (by kernel_rfl) ?_ ?_
  rotate_left
  · intro wx hSw; go_split_ands; go_simp; try with_reducible rfl
  simp only [Act.put, List.getElem_toArray, List.getElem_cons_succ, List.getElem_cons_zero, List.setIfInBounds_toArray, List.set_cons_zero, List.set_cons_succ]
  refine wpAnyT_held (i := 3) (v := ?_) rfl (by kernel_rfl) (by kernel_rfl) (by kernel_rfl) (fun _ _ _ h => h) (by kernel_rfl) hT (fun _ => hS) (by kernel_rfl) ?_ ?_
  rotate_left
  · intro wx hSw; go_split_ands; go_simp; try with_reducible rfl
  simp only [Act.put, List.getElem_toArray, List.getElem_cons_succ, List.getElem_cons_zero, List.setIfInBounds_toArray, List.set_cons_zero, List.set_cons_succ]
  refine wpAnyT_held (i := 4) (v := ?_) rfl (by kernel_rfl) (by kernel_rfl) (by kernel_rfl) (fun _ _ _ h => h) (by kernel_rfl) hT (fun _ => hS) (by kernel_rfl) ?_ ?_
  rotate_left
  · intro wx hSw; go_split_ands; go_simp; try with_reducible rfl
  simp only [Act.put, List.getElem_toArray, List.getElem_cons_succ, List.getElem_cons_zero, List.setIfInBounds_toArray, List.set_cons_zero, List.set_cons_succ]
  refine wpAnyT_load (i := 5) (dst := some 25) (ty := 32) (x := .tmp 24) (b := w.heap.size) (o := (0)) (cs := (dotC e.da e.ds)) (by kernel_rfl) (by kernel_rfl) (by kernel_rfl) (by kernel_rfl) (by kernel_rfl) (fun _ _ _ h => h) (by kernel_rfl) hT (fun _ => hS) (by kernel_rfl) (fun _ h => h.2.1) uD rfl iD ?_
  simp only [Act.put, List.getElem_toArray, List.getElem_cons_succ, List.getElem_cons_zero, List.setIfInBounds_toArray, List.set_cons_zero, List.set_cons_succ]
  refine wpAnyT_held (i := 6) (v := .tuple #[.agg KV.toArray, .bool kb]) rfl (by kernel_rfl) (by kernel_rfl) (by kernel_rfl) (fun _ _ _ h => h) (by kernel_rfl) hT (fun _ => hS) (by kernel_rfl) (fun wx h => exec_look _ _ _ _ rfl _ _ _ rfl rfl (HLK.out wx h.2.2)) ?_
  simp only [Act.put, List.getElem_toArray, List.getElem_cons_succ, List.getElem_cons_zero, List.setIfInBounds_toArray, List.set_cons_zero, List.set_cons_succ]
  refine wpAnyT_held (i := 7) (v := ?_) rfl (by kernel_rfl) (by kernel_rfl) (by kernel_rfl) (fun _ _ _ h => h) (by kernel_rfl) hT (fun _ => hS) (by kernel_rfl) ?_ ?_
  rotate_left
  · intro wx hSw; go_split_ands; go_simp; try with_reducible rfl
  simp only [Act.put, List.getElem_toArray, List.getElem_cons_succ, List.getElem_cons_zero, List.setIfInBounds_toArray, List.set_cons_zero, List.set_cons_succ]
  refine wpAnyT_held (i := 8) (v := ?_) rfl (by kernel_rfl) (by kernel_rfl) (by kernel_rfl) (fun _ _ _ h => h) (by kernel_rfl) hT (fun _ => hS) (by kernel_rfl) ?_ ?_
  rotate_left
  · intro wx hSw; go_split_ands; go_simp; try with_reducible rfl
  simp only [Act.put, List.getElem_toArray, List.getElem_cons_succ, List.getElem_cons_zero, List.setIfInBounds_toArray, List.set_cons_zero, List.set_cons_succ]
  refine wpAnyT_held (i := 9) (v := ?_) rfl (by kernel_rfl) (by kernel_rfl) (by kernel_rfl) (fun _ _ _ h => h) (by kernel_rfl) hT (fun _ => hS) (by kernel_rfl) ?_ ?_
  rotate_left
  · intro wx hSw; go_split_ands; go_simp; try with_reducible rfl
  simp only [Act.put, List.getElem_toArray, List.getElem_cons_succ, List.getElem_cons_zero, List.setIfInBounds_toArray, List.set_cons_zero, List.set_cons_succ]
  have hxl := hx2.lt
  have HAL : Veil (Below w.heap.size w (W2.drew.alloc (.cells evZ17.toArray 38)) ∧ CellsAt (W2.drew.alloc (.cells evZ17.toArray 38)) w.heap.size 38 E ∧ CellsAt (W2.drew.alloc (.cells evZ17.toArray 38)) W2.heap.size 38 evZ17) := ⟨hB2.drew.alloc hB2.size _, (hx2.congr (w' := W2.drew) rfl).alloc _, CellsAt.new W2.drew 38 evZ17⟩
  refine wpAnyT_one (i := 10) rfl (by kernel_rfl) (by kernel_rfl) (fun K hK => ?_)
  go_simp
  refine forget (p := fun y => K _ y) (fun W3 => Below w.heap.size w W3 ∧ CellsAt W3 w.heap.size 38 E ∧ CellsAt W3 W2.heap.size 38 evZ17) HAL.out ?_
  rintro W3 ⟨hB3, hx3, hz3⟩
  clear q1 q2 q3 q4 q5 HAL
  obtain ⟨q1, q2, q3, q4, q5⟩ := HT.out W3 hB3 hx3
  replace hT : (fun w' : World => w'.cell? ⟨H, 8, none⟩ = some (.map (some b)) ∧ w'.rangeAt w.heap.size 0 (dotC e.da e.ds) ∧ WaitAt w' b L) W3 := ⟨q4, q2, q5⟩
  replace hS : (fun _ : World => True) W3 := trivial
  refine hK.out _ _ hT (fun _ => hS) ?_
  clear hK K
  try simp only [Act.put, List.getElem_toArray, List.getElem_cons_succ, List.getElem_cons_zero, List.setIfInBounds_toArray, List.set_cons_zero, List.set_cons_succ]
  have hz4 := hz3.setRow KV
  have hx4 := hx3.setRowM KV.toArray (show w.heap.size ≠ W2.heap.size by omega)
  have hB4 : Below w.heap.size w (W3.setRow W2.heap.size KV.toArray) := ⟨hB3.os, hB3.tape, hB3.output, by have := hB3.size; simp [World.setRow, World.putObj]; omega, fun k hk => (setRow_other _ _ _ _ (by omega)).trans (hB3.block k hk)⟩
  refine wpAnyT_one (i := 11) rfl (by kernel_rfl) (by kernel_rfl) (fun K hK => ?_)
  refine wp_stvE 38 _ _ rfl W2.heap.size rfl (cs := KV) rfl hz3 iK (by rw [hk17]; rfl) hk1 ?_
  clear q1 q2 q3 q4 q5
  obtain ⟨q1, q2, q3, q4, q5⟩ := HT.out _ hB4 hx4
  replace hT : (fun w' : World => w'.cell? ⟨H, 8, none⟩ = some (.map (some b)) ∧ w'.rangeAt w.heap.size 0 (dotC e.da e.ds) ∧ WaitAt w' b L) (W3.setRow W2.heap.size KV.toArray) := ⟨q4, q2, q5⟩
  replace hS : (fun _ : World => True) (W3.setRow W2.heap.size KV.toArray) := trivial
  refine hK.out _ _ hT (fun _ => hS) ?_
  clear hK K
  try simp only [Act.put, List.getElem_toArray, List.getElem_cons_succ, List.getElem_cons_zero, List.setIfInBounds_toArray, List.set_cons_zero, List.set_cons_succ]
  refine wpAnyT_held (i := 12) (v := ?_) rfl (by kernel_rfl) (by kernel_rfl) (by kernel_rfl) (fun _ _ _ h => h) (by kernel_rfl) hT (fun _ => hS) (by kernel_rfl) ?_ ?_
  rotate_left
  · intro wx hSw; go_split_ands; go_simp; try with_reducible rfl
  simp only [Act.put, List.getElem_toArray, List.getElem_cons_succ, List.getElem_cons_zero, List.setIfInBounds_toArray, List.set_cons_zero, List.set_cons_succ]
  refine wpAnyT_done (by kernel_rfl) ?_ _
  clear hT hS hz3 hx3 hB3 hB2 hx2 HLK
  generalize W3.setRow W2.heap.size KV.toArray = W5 at hz4 hx4 hB4 q1 q2 q3 q4 q5 ⊢
  generalize W2.heap.size = Bk at hz4 ⊢
  cases kb
  · replace HN : Veil (RN = if FB = true then 10 else if RY = true then 0 else if 16 ≤ L.length then 10 else 0) := ⟨by rw [HN.out, HKF.out rfl]; rfl⟩
    clear HKF HKT hz4
    go_upto_region 12 with fail
    have hf := HF.out W5.drew ((HC.out.far hB4).congr (w' := W5.drew) rfl rfl)
    cases FB
    rotate_left
    · replace HN : Veil (RN = 10) := ⟨HN.out⟩
      refine wp_region_gateT (fun w' => w'.rangeAt w.heap.size 0 E ∧ w'.rangeAt H 0 SV ∧ w'.cell? ⟨H, 8, none⟩ = some (.map (some b)) ∧ WaitAt w' b L) (fun _ => True) 99 (by kernel_rfl) ?_
      have hT : (fun w' : World => w'.rangeAt w.heap.size 0 E ∧ w'.rangeAt H 0 SV ∧ w'.cell? ⟨H, 8, none⟩ = some (.map (some b)) ∧ WaitAt w' b L) W5.drew := ⟨q1, q3, q4, q5.congr rfl⟩
      have hS : (fun _ : World => True) W5.drew := trivial
      refine wpAnyT_held (i := 0) (v := ?_) rfl (by kernel_rfl) (by kernel_rfl) (by kernel_rfl) (fun _ _ _ h => h) (by kernel_rfl) hT (fun _ => hS) (by kernel_rfl) ?_ ?_
      rotate_left
      · intro wx hSw; go_split_ands; go_simp; try with_reducible rfl
      simp only [Act.put, List.getElem_toArray, List.getElem_cons_succ, List.getElem_cons_zero, List.setIfInBounds_toArray, List.set_cons_zero, List.set_cons_succ]
      refine wpAnyT_one (i := 1) rfl (by kernel_rfl) (by kernel_rfl) (fun K hK => ?_)
      refine wpx_call _ _ (by kernel_rfl) (hf.mono ?_)
      rintro x W6 ⟨rfl, hb6⟩
      refine ⟨_, rfl, ?_⟩
      have hB6 : Below w.heap.size w W6 := hB4.drew.trans (hb6.mono hB4.size)
      have hx6 := (hx4.congr (w' := W5.drew) rfl).farM hb6
      clear q1 q2 q3 q4 q5 hb6 hf
      obtain ⟨q1, q2, q3, q4, q5⟩ := HT.out W6 hB6 hx6
      replace hT : (fun w' : World => w'.rangeAt w.heap.size 0 E ∧ w'.rangeAt H 0 SV ∧ w'.cell? ⟨H, 8, none⟩ = some (.map (some b)) ∧ WaitAt w' b L) W6 := ⟨q1, q3, q4, q5⟩
      replace hS : (fun _ : World => True) W6 := trivial
      refine hK.out _ _ hT (fun _ => hS) ?_
      clear hK K
      try simp only [Act.put, List.getElem_toArray, List.getElem_cons_succ, List.getElem_cons_zero, List.setIfInBounds_toArray, List.set_cons_zero, List.set_cons_succ]
      refine wpAnyT_held (i := 2) (v := ?_) rfl (by kernel_rfl) (by kernel_rfl) (by kernel_rfl) (fun _ _ _ h => h) (by kernel_rfl) hT (fun _ => hS) (by kernel_rfl) ?_ ?_
      rotate_left
      · intro wx hSw; go_split_ands; go_simp; try with_reducible rfl
      simp only [Act.put, List.getElem_toArray, List.getElem_cons_succ, List.getElem_cons_zero, List.setIfInBounds_toArray, List.set_cons_zero, List.set_cons_succ]
      refine wpAnyT_skip (i := 3) rfl (by kernel_rfl) (by kernel_rfl) (by kernel_rfl) (fun _ _ _ h => h) (by kernel_rfl) hT (fun _ => hS) (by kernel_rfl) ?_
      simp only [Act.put, List.getElem_toArray, List.getElem_cons_succ, List.getElem_cons_zero, List.setIfInBounds_toArray, List.set_cons_zero, List.set_cons_succ]
      refine wpAnyT_skip (i := 4) rfl (by kernel_rfl) (by kernel_rfl) (by kernel_rfl) (fun _ _ _ h => h) (by kernel_rfl) hT (fun _ => hS) (by kernel_rfl) ?_
      simp only [Act.put, List.getElem_toArray, List.getElem_cons_succ, List.getElem_cons_zero, List.setIfInBounds_toArray, List.set_cons_zero, List.set_cons_succ]
      refine wpAnyT_skip (i := 5) rfl (by kernel_rfl) (by kernel_rfl) (by kernel_rfl) (fun _ _ _ h => h) (by kernel_rfl) hT (fun _ => hS) (by kernel_rfl) ?_
      simp only [Act.put, List.getElem_toArray, List.getElem_cons_succ, List.getElem_cons_zero, List.setIfInBounds_toArray, List.set_cons_zero, List.set_cons_succ]
      refine wpAnyT_skip (i := 6) rfl (by kernel_rfl) (by kernel_rfl) (by kernel_rfl) (fun _ _ _ h => h) (by kernel_rfl) hT (fun _ => hS) (by kernel_rfl) ?_
      simp only [Act.put, List.getElem_toArray, List.getElem_cons_succ, List.getElem_cons_zero, List.setIfInBounds_toArray, List.set_cons_zero, List.set_cons_succ]
      refine wpAnyT_skip (i := 7) rfl (by kernel_rfl) (by kernel_rfl) (by kernel_rfl) (fun _ _ _ h => h) (by kernel_rfl) hT (fun _ => hS) (by kernel_rfl) ?_
      simp only [Act.put, List.getElem_toArray, List.getElem_cons_succ, List.getElem_cons_zero, List.setIfInBounds_toArray, List.set_cons_zero, List.set_cons_succ]
      refine wpAnyT_skip (i := 8) rfl (by kernel_rfl) (by kernel_rfl) (by kernel_rfl) (fun _ _ _ h => h) (by kernel_rfl) hT (fun _ => hS) (by kernel_rfl) ?_
      simp only [Act.put, List.getElem_toArray, List.getElem_cons_succ, List.getElem_cons_zero, List.setIfInBounds_toArray, List.set_cons_zero, List.set_cons_succ]
      refine wpAnyT_skip (i := 9) rfl (by kernel_rfl) (by kernel_rfl) (by kernel_rfl) (fun _ _ _ h => h) (by kernel_rfl) hT (fun _ => hS) (by kernel_rfl) ?_
      simp only [Act.put, List.getElem_toArray, List.getElem_cons_succ, List.getElem_cons_zero, List.setIfInBounds_toArray, List.set_cons_zero, List.set_cons_succ]
      refine wpAnyT_skip (i := 10) rfl (by kernel_rfl) (by kernel_rfl) (by kernel_rfl) (fun _ _ _ h => h) (by kernel_rfl) hT (fun _ => hS) (by kernel_rfl) ?_
      simp only [Act.put, List.getElem_toArray, List.getElem_cons_succ, List.getElem_cons_zero, List.setIfInBounds_toArray, List.set_cons_zero, List.set_cons_succ]
      refine wpAnyT_skip (i := 11) rfl (by kernel_rfl) (by kernel_rfl) (by kernel_rfl) (fun _ _ _ h => h) (by kernel_rfl) hT (fun _ => hS) (by kernel_rfl) ?_
      simp only [Act.put, List.getElem_toArray, List.getElem_cons_succ, List.getElem_cons_zero, List.setIfInBounds_toArray, List.set_cons_zero, List.set_cons_succ]
      refine wpAnyT_skip (i := 12) rfl (by kernel_rfl) (by kernel_rfl) (by kernel_rfl) (fun _ _ _ h => h) (by kernel_rfl) hT (fun _ => hS) (by kernel_rfl) ?_
      simp only [Act.put, List.getElem_toArray, List.getElem_cons_succ, List.getElem_cons_zero, List.setIfInBounds_toArray, List.set_cons_zero, List.set_cons_succ]
      refine wpAnyT_skip (i := 13) rfl (by kernel_rfl) (by kernel_rfl) (by kernel_rfl) (fun _ _ _ h => h) (by kernel_rfl) hT (fun _ => hS) (by kernel_rfl) ?_
      simp only [Act.put, List.getElem_toArray, List.getElem_cons_succ, List.getElem_cons_zero, List.setIfInBounds_toArray, List.set_cons_zero, List.set_cons_succ]
      refine wpAnyT_skip (i := 14) rfl (by kernel_rfl) (by kernel_rfl) (by kernel_rfl) (fun _ _ _ h => h) (by kernel_rfl) hT (fun _ => hS) (by kernel_rfl) ?_
      simp only [Act.put, List.getElem_toArray, List.getElem_cons_succ, List.getElem_cons_zero, List.setIfInBounds_toArray, List.set_cons_zero, List.set_cons_succ]
      refine wpAnyT_skip (i := 15) rfl (by kernel_rfl) (by kernel_rfl) (by kernel_rfl) (fun _ _ _ h => h) (by kernel_rfl) hT (fun _ => hS) (by kernel_rfl) ?_
      simp only [Act.put, List.getElem_toArray, List.getElem_cons_succ, List.getElem_cons_zero, List.setIfInBounds_toArray, List.set_cons_zero, List.set_cons_succ]
      refine wpAnyT_skip (i := 16) rfl (by kernel_rfl) (by kernel_rfl) (by kernel_rfl) (fun _ _ _ h => h) (by kernel_rfl) hT (fun _ => hS) (by kernel_rfl) ?_
      simp only [Act.put, List.getElem_toArray, List.getElem_cons_succ, List.getElem_cons_zero, List.setIfInBounds_toArray, List.set_cons_zero, List.set_cons_succ]
      refine wpAnyT_skip (i := 17) rfl (by kernel_rfl) (by kernel_rfl) (by kernel_rfl) (fun _ _ _ h => h) (by kernel_rfl) hT (fun _ => hS) (by kernel_rfl) ?_
      simp only [Act.put, List.getElem_toArray, List.getElem_cons_succ, List.getElem_cons_zero, List.setIfInBounds_toArray, List.set_cons_zero, List.set_cons_succ]
      refine wpAnyT_held (i := 18) (v := ?_) rfl (by kernel_rfl) (by kernel_rfl) (by kernel_rfl) (fun _ _ _ h => h) (by kernel_rfl) hT (fun _ => hS) (by kernel_rfl) ?_ ?_
      rotate_left
      · intro wx hSw; go_split_ands; go_simp; try with_reducible rfl
      simp only [Act.put, List.getElem_toArray, List.getElem_cons_succ, List.getElem_cons_zero, List.setIfInBounds_toArray, List.set_cons_zero, List.set_cons_succ]
      refine wpAnyT_done (by kernel_rfl) ?_ _
      clear hT hS
      go_wp2
      go_ret
      exact ⟨by rw [HN.out]; rfl, hB6⟩
    · cases RY
      rotate_left
      · replace HN : Veil (RN = 0) := ⟨HN.out⟩
        refine wp_region_gateT (fun w' => w'.rangeAt w.heap.size 0 E ∧ w'.rangeAt H 0 SV ∧ w'.cell? ⟨H, 8, none⟩ = some (.map (some b)) ∧ WaitAt w' b L) (fun _ => True) 99 (by kernel_rfl) ?_
        have hT : (fun w' : World => w'.rangeAt w.heap.size 0 E ∧ w'.rangeAt H 0 SV ∧ w'.cell? ⟨H, 8, none⟩ = some (.map (some b)) ∧ WaitAt w' b L) W5.drew := ⟨q1, q3, q4, q5.congr rfl⟩
        have hS : (fun _ : World => True) W5.drew := trivial
        refine wpAnyT_held (i := 0) (v := ?_) rfl (by kernel_rfl) (by kernel_rfl) (by kernel_rfl) (fun _ _ _ h => h) (by kernel_rfl) hT (fun _ => hS) (by kernel_rfl) ?_ ?_
        rotate_left
        · intro wx hSw; go_split_ands; go_simp; try with_reducible rfl
        simp only [Act.put, List.getElem_toArray, List.getElem_cons_succ, List.getElem_cons_zero, List.setIfInBounds_toArray, List.set_cons_zero, List.set_cons_succ]
        refine wpAnyT_one (i := 1) rfl (by kernel_rfl) (by kernel_rfl) (fun K hK => ?_)
        refine wpx_call _ _ (by kernel_rfl) (hf.mono ?_)
        rintro x W6 ⟨rfl, hb6⟩
        refine ⟨_, rfl, ?_⟩
        have hB6 : Below w.heap.size w W6 := hB4.drew.trans (hb6.mono hB4.size)
        have hx6 := (hx4.congr (w' := W5.drew) rfl).farM hb6
        clear q1 q2 q3 q4 q5 hb6 hf
        obtain ⟨q1, q2, q3, q4, q5⟩ := HT.out W6 hB6 hx6
        replace hT : (fun w' : World => w'.rangeAt w.heap.size 0 E ∧ w'.rangeAt H 0 SV ∧ w'.cell? ⟨H, 8, none⟩ = some (.map (some b)) ∧ WaitAt w' b L) W6 := ⟨q1, q3, q4, q5⟩
        replace hS : (fun _ : World => True) W6 := trivial
        refine hK.out _ _ hT (fun _ => hS) ?_
        clear hK K
        try simp only [Act.put, List.getElem_toArray, List.getElem_cons_succ, List.getElem_cons_zero, List.setIfInBounds_toArray, List.set_cons_zero, List.set_cons_succ]
        refine wpAnyT_held (i := 2) (v := ?_) rfl (by kernel_rfl) (by kernel_rfl) (by kernel_rfl) (fun _ _ _ h => h) (by kernel_rfl) hT (fun _ => hS) (by kernel_rfl) ?_ ?_
        rotate_left
        · intro wx hSw; go_split_ands; go_simp; try with_reducible rfl
        simp only [Act.put, List.getElem_toArray, List.getElem_cons_succ, List.getElem_cons_zero, List.setIfInBounds_toArray, List.set_cons_zero, List.set_cons_succ]
        refine wpAnyT_held (i := 3) (v := ?_) rfl (by kernel_rfl) (by kernel_rfl) (by kernel_rfl) (fun _ _ _ h => h) (by kernel_rfl) hT (fun _ => hS) (by kernel_rfl) ?_ ?_
        rotate_left
        · intro wx hSw; go_split_ands; go_simp; try with_reducible rfl
        simp only [Act.put, List.getElem_toArray, List.getElem_cons_succ, List.getElem_cons_zero, List.setIfInBounds_toArray, List.set_cons_zero, List.set_cons_succ]
        refine wpAnyT_held (i := 4) (v := ?_) rfl (by kernel_rfl) (by kernel_rfl) (by kernel_rfl) (fun _ _ _ h => h) (by kernel_rfl) hT (fun _ => hS) (by kernel_rfl) ?_ ?_
        rotate_left
        · intro wx hSw; go_split_ands; go_simp; try with_reducible rfl
        simp only [Act.put, List.getElem_toArray, List.getElem_cons_succ, List.getElem_cons_zero, List.setIfInBounds_toArray, List.set_cons_zero, List.set_cons_succ]
        refine wpAnyT_held (i := 5) (v := ?_) rfl (by kernel_rfl) (by kernel_rfl) (by kernel_rfl) (fun _ _ _ h => h) (by kernel_rfl) hT (fun _ => hS) (by kernel_rfl) ?_ ?_
        rotate_left
        · intro wx hSw; go_split_ands; go_simp; try with_reducible rfl
        simp only [Act.put, List.getElem_toArray, List.getElem_cons_succ, List.getElem_cons_zero, List.setIfInBounds_toArray, List.set_cons_zero, List.set_cons_succ]
        refine wpAnyT_load (i := 6) (dst := some 39) (ty := 34) (x := .tmp 38) (b := H) (o := (0)) (cs := SV) (by kernel_rfl) (by kernel_rfl) (by kernel_rfl) (by kernel_rfl) (by kernel_rfl) (fun _ _ _ h => h) (by kernel_rfl) hT (fun _ => hS) (by kernel_rfl) (fun _ h => h.2.1) uV rfl iV ?_
        simp only [Act.put, List.getElem_toArray, List.getElem_cons_succ, List.getElem_cons_zero, List.setIfInBounds_toArray, List.set_cons_zero, List.set_cons_succ]
        refine wpAnyT_load (i := 7) (dst := some 40) (ty := 38) (x := .tmp 3) (b := w.heap.size) (o := (0)) (cs := E) (by kernel_rfl) (by kernel_rfl) (by kernel_rfl) (by kernel_rfl) (by kernel_rfl) (fun _ _ _ h => h) (by kernel_rfl) hT (fun _ => hS) (by kernel_rfl) (fun _ h => h.1) uE rfl iE ?_
        simp only [Act.put, List.getElem_toArray, List.getElem_cons_succ, List.getElem_cons_zero, List.setIfInBounds_toArray, List.set_cons_zero, List.set_cons_succ]
        have hd := HD.out W6
        refine wpAnyT_one (i := 8) rfl (by kernel_rfl) (by kernel_rfl) (fun K hK => ?_)
        refine wpx_call _ _ (by kernel_rfl) (hd.mono ?_)
        rintro x W7 ⟨rfl, hb7⟩
        refine ⟨_, rfl, ?_⟩
        have hB7 : Below w.heap.size w W7 := hB6.trans (hb7.mono hB6.size)
        have hx7 := hx6.farM hb7
        clear q1 q2 q3 q4 q5 hb7 hd
        obtain ⟨q1, q2, q3, q4, q5⟩ := HT.out W7 hB7 hx7
        replace hT : (fun w' : World => w'.rangeAt w.heap.size 0 E ∧ w'.rangeAt H 0 SV ∧ w'.cell? ⟨H, 8, none⟩ = some (.map (some b)) ∧ WaitAt w' b L) W7 := ⟨q1, q3, q4, q5⟩
        replace hS : (fun _ : World => True) W7 := trivial
        refine hK.out _ _ hT (fun _ => hS) ?_
        clear hK K
        try simp only [Act.put, List.getElem_toArray, List.getElem_cons_succ, List.getElem_cons_zero, List.setIfInBounds_toArray, List.set_cons_zero, List.set_cons_succ]
        refine wpAnyT_held (i := 9) (v := ?_) rfl (by kernel_rfl) (by kernel_rfl) (by kernel_rfl) (fun _ _ _ h => h) (by kernel_rfl) hT (fun _ => hS) (by kernel_rfl) ?_ ?_
        rotate_left
        · intro wx hSw; go_split_ands; go_simp; try with_reducible rfl
        simp only [Act.put, List.getElem_toArray, List.getElem_cons_succ, List.getElem_cons_zero, List.setIfInBounds_toArray, List.set_cons_zero, List.set_cons_succ]
        refine wpAnyT_held (i := 10) (v := ?_) rfl (by kernel_rfl) (by kernel_rfl) (by kernel_rfl) (fun _ _ _ h => h) (by kernel_rfl) hT (fun _ => hS) (by kernel_rfl) ?_ ?_
        rotate_left
        · intro wx hSw; go_split_ands; go_simp; try with_reducible rfl
        simp only [Act.put, List.getElem_toArray, List.getElem_cons_succ, List.getElem_cons_zero, List.setIfInBounds_toArray, List.set_cons_zero, List.set_cons_succ]
        refine wpAnyT_skip (i := 11) rfl (by kernel_rfl) (by kernel_rfl) (by kernel_rfl) (fun _ _ _ h => h) (by kernel_rfl) hT (fun _ => hS) (by kernel_rfl) ?_
        simp only [Act.put, List.getElem_toArray, List.getElem_cons_succ, List.getElem_cons_zero, List.setIfInBounds_toArray, List.set_cons_zero, List.set_cons_succ]
        refine wpAnyT_skip (i := 12) rfl (by kernel_rfl) (by kernel_rfl) (by kernel_rfl) (fun _ _ _ h => h) (by kernel_rfl) hT (fun _ => hS) (by kernel_rfl) ?_
        simp only [Act.put, List.getElem_toArray, List.getElem_cons_succ, List.getElem_cons_zero, List.setIfInBounds_toArray, List.set_cons_zero, List.set_cons_succ]
        refine wpAnyT_skip (i := 13) rfl (by kernel_rfl) (by kernel_rfl) (by kernel_rfl) (fun _ _ _ h => h) (by kernel_rfl) hT (fun _ => hS) (by kernel_rfl) ?_
        simp only [Act.put, List.getElem_toArray, List.getElem_cons_succ, List.getElem_cons_zero, List.setIfInBounds_toArray, List.set_cons_zero, List.set_cons_succ]
        refine wpAnyT_skip (i := 14) rfl (by kernel_rfl) (by kernel_rfl) (by kernel_rfl) (fun _ _ _ h => h) (by kernel_rfl) hT (fun _ => hS) (by kernel_rfl) ?_
        simp only [Act.put, List.getElem_toArray, List.getElem_cons_succ, List.getElem_cons_zero, List.setIfInBounds_toArray, List.set_cons_zero, List.set_cons_succ]
        refine wpAnyT_skip (i := 15) rfl (by kernel_rfl) (by kernel_rfl) (by kernel_rfl) (fun _ _ _ h => h) (by kernel_rfl) hT (fun _ => hS) (by kernel_rfl) ?_
        simp only [Act.put, List.getElem_toArray, List.getElem_cons_succ, List.getElem_cons_zero, List.setIfInBounds_toArray, List.set_cons_zero, List.set_cons_succ]
        refine wpAnyT_skip (i := 16) rfl (by kernel_rfl) (by kernel_rfl) (by kernel_rfl) (fun _ _ _ h => h) (by kernel_rfl) hT (fun _ => hS) (by kernel_rfl) ?_
        simp only [Act.put, List.getElem_toArray, List.getElem_cons_succ, List.getElem_cons_zero, List.setIfInBounds_toArray, List.set_cons_zero, List.set_cons_succ]
        refine wpAnyT_held (i := 17) (v := ?_) rfl (by kernel_rfl) (by kernel_rfl) (by kernel_rfl) (fun _ _ _ h => h) (by kernel_rfl) hT (fun _ => hS) (by kernel_rfl) ?_ ?_
        rotate_left
        · intro wx hSw; go_split_ands; go_simp; try with_reducible rfl
        simp only [Act.put, List.getElem_toArray, List.getElem_cons_succ, List.getElem_cons_zero, List.setIfInBounds_toArray, List.set_cons_zero, List.set_cons_succ]
        refine wpAnyT_held (i := 18) (v := ?_) rfl (by kernel_rfl) (by kernel_rfl) (by kernel_rfl) (fun _ _ _ h => h) (by kernel_rfl) hT (fun _ => hS) (by kernel_rfl) ?_ ?_
        rotate_left
        · intro wx hSw; go_split_ands; go_simp; try with_reducible rfl
        simp only [Act.put, List.getElem_toArray, List.getElem_cons_succ, List.getElem_cons_zero, List.setIfInBounds_toArray, List.set_cons_zero, List.set_cons_succ]
        refine wpAnyT_done (by kernel_rfl) ?_ _
        clear hT hS
        go_wp2
        go_ret
        exact ⟨by rw [HN.out]; rfl, hB7⟩
      · replace HN : Veil (RN = if 16 ≤ L.length then 10 else 0) := ⟨HN.out⟩
        have HLN : Veil (∀ W, WaitAt W b L → (Builtin.len_ #[52] 3 #[.map (some b)]).run Try.prog W = .ok (.int .i64 (L.length : Int)) W) := ⟨fun W hW => hW.len Try.underlying52 _⟩
        generalize L.length = NL at HN HLN
        by_cases h16 : 16 ≤ NL
        · replace HN : Veil (RN = 10) := ⟨by rw [HN.out, if_pos h16]⟩
          have h16i : (16 : Int) ≤ (NL : Int) := by omega
          refine wp_region_gateT (fun w' => w'.rangeAt w.heap.size 0 E ∧ w'.rangeAt H 0 SV ∧ w'.cell? ⟨H, 8, none⟩ = some (.map (some b)) ∧ WaitAt w' b L) (fun _ => True) 99 (by kernel_rfl) ?_
          have hT : (fun w' : World => w'.rangeAt w.heap.size 0 E ∧ w'.rangeAt H 0 SV ∧ w'.cell? ⟨H, 8, none⟩ = some (.map (some b)) ∧ WaitAt w' b L) W5.drew := ⟨q1, q3, q4, q5.congr rfl⟩
          have hS : (fun _ : World => True) W5.drew := trivial
          refine wpAnyT_held (i := 0) (v := ?_) rfl (by kernel_rfl) (by kernel_rfl) (by kernel_rfl) (fun _ _ _ h => h) (by kernel_rfl) hT (fun _ => hS) (by kernel_rfl) ?_ ?_
          rotate_left
          · intro wx hSw; go_split_ands; go_simp; try with_reducible rfl
          simp only [Act.put, List.getElem_toArray, List.getElem_cons_succ, List.getElem_cons_zero, List.setIfInBounds_toArray, List.set_cons_zero, List.set_cons_succ]
          refine wpAnyT_one (i := 1) rfl (by kernel_rfl) (by kernel_rfl) (fun K hK => ?_)
          refine wpx_call _ _ (by kernel_rfl) (hf.mono ?_)
          rintro x W6 ⟨rfl, hb6⟩
          refine ⟨_, rfl, ?_⟩
          have hB6 : Below w.heap.size w W6 := hB4.drew.trans (hb6.mono hB4.size)
          have hx6 := (hx4.congr (w' := W5.drew) rfl).farM hb6
          clear q1 q2 q3 q4 q5 hb6 hf
          obtain ⟨q1, q2, q3, q4, q5⟩ := HT.out W6 hB6 hx6
          replace hT : (fun w' : World => w'.rangeAt w.heap.size 0 E ∧ w'.rangeAt H 0 SV ∧ w'.cell? ⟨H, 8, none⟩ = some (.map (some b)) ∧ WaitAt w' b L) W6 := ⟨q1, q3, q4, q5⟩
          replace hS : (fun _ : World => True) W6 := trivial
          refine hK.out _ _ hT (fun _ => hS) ?_
          clear hK K
          try simp only [Act.put, List.getElem_toArray, List.getElem_cons_succ, List.getElem_cons_zero, List.setIfInBounds_toArray, List.set_cons_zero, List.set_cons_succ]
          refine wpAnyT_held (i := 2) (v := ?_) rfl (by kernel_rfl) (by kernel_rfl) (by kernel_rfl) (fun _ _ _ h => h) (by kernel_rfl) hT (fun _ => hS) (by kernel_rfl) ?_ ?_
          rotate_left
          · intro wx hSw; go_split_ands; go_simp; try with_reducible rfl
          simp only [Act.put, List.getElem_toArray, List.getElem_cons_succ, List.getElem_cons_zero, List.setIfInBounds_toArray, List.set_cons_zero, List.set_cons_succ]
          refine wpAnyT_held (i := 3) (v := ?_) rfl (by kernel_rfl) (by kernel_rfl) (by kernel_rfl) (fun _ _ _ h => h) (by kernel_rfl) hT (fun _ => hS) (by kernel_rfl) ?_ ?_
          rotate_left
          · intro wx hSw; go_split_ands; go_simp; try with_reducible rfl
          simp only [Act.put, List.getElem_toArray, List.getElem_cons_succ, List.getElem_cons_zero, List.setIfInBounds_toArray, List.set_cons_zero, List.set_cons_succ]
          refine wpAnyT_held (i := 4) (v := ?_) rfl (by kernel_rfl) (by kernel_rfl) (by kernel_rfl) (fun _ _ _ h => h) (by kernel_rfl) hT (fun _ => hS) (by kernel_rfl) ?_ ?_
          rotate_left
          · intro wx hSw; go_split_ands; go_simp; try with_reducible rfl
          simp only [Act.put, List.getElem_toArray, List.getElem_cons_succ, List.getElem_cons_zero, List.setIfInBounds_toArray, List.set_cons_zero, List.set_cons_succ]
          refine wpAnyT_held (i := 5) (v := ?_) rfl (by kernel_rfl) (by kernel_rfl) (by kernel_rfl) (fun _ _ _ h => h) (by kernel_rfl) hT (fun _ => hS) (by kernel_rfl) ?_ ?_
          rotate_left
          · intro wx hSw; go_split_ands; go_simp; try with_reducible rfl
          simp only [Act.put, List.getElem_toArray, List.getElem_cons_succ, List.getElem_cons_zero, List.setIfInBounds_toArray, List.set_cons_zero, List.set_cons_succ]
          refine wpAnyT_load (i := 6) (dst := some 39) (ty := 34) (x := .tmp 38) (b := H) (o := (0)) (cs := SV) (by kernel_rfl) (by kernel_rfl) (by kernel_rfl) (by kernel_rfl) (by kernel_rfl) (fun _ _ _ h => h) (by kernel_rfl) hT (fun _ => hS) (by kernel_rfl) (fun _ h => h.2.1) uV rfl iV ?_
          simp only [Act.put, List.getElem_toArray, List.getElem_cons_succ, List.getElem_cons_zero, List.setIfInBounds_toArray, List.set_cons_zero, List.set_cons_succ]
          refine wpAnyT_load (i := 7) (dst := some 40) (ty := 38) (x := .tmp 3) (b := w.heap.size) (o := (0)) (cs := E) (by kernel_rfl) (by kernel_rfl) (by kernel_rfl) (by kernel_rfl) (by kernel_rfl) (fun _ _ _ h => h) (by kernel_rfl) hT (fun _ => hS) (by kernel_rfl) (fun _ h => h.1) uE rfl iE ?_
          simp only [Act.put, List.getElem_toArray, List.getElem_cons_succ, List.getElem_cons_zero, List.setIfInBounds_toArray, List.set_cons_zero, List.set_cons_succ]
          have hd := HD.out W6
          refine wpAnyT_one (i := 8) rfl (by kernel_rfl) (by kernel_rfl) (fun K hK => ?_)
          refine wpx_call _ _ (by kernel_rfl) (hd.mono ?_)
          rintro x W7 ⟨rfl, hb7⟩
          refine ⟨_, rfl, ?_⟩
          have hB7 : Below w.heap.size w W7 := hB6.trans (hb7.mono hB6.size)
          have hx7 := hx6.farM hb7
          clear q1 q2 q3 q4 q5 hb7 hd
          obtain ⟨q1, q2, q3, q4, q5⟩ := HT.out W7 hB7 hx7
          replace hT : (fun w' : World => w'.rangeAt w.heap.size 0 E ∧ w'.rangeAt H 0 SV ∧ w'.cell? ⟨H, 8, none⟩ = some (.map (some b)) ∧ WaitAt w' b L) W7 := ⟨q1, q3, q4, q5⟩
          replace hS : (fun _ : World => True) W7 := trivial
          refine hK.out _ _ hT (fun _ => hS) ?_
          clear hK K
          try simp only [Act.put, List.getElem_toArray, List.getElem_cons_succ, List.getElem_cons_zero, List.setIfInBounds_toArray, List.set_cons_zero, List.set_cons_succ]
          refine wpAnyT_held (i := 9) (v := ?_) rfl (by kernel_rfl) (by kernel_rfl) (by kernel_rfl) (fun _ _ _ h => h) (by kernel_rfl) hT (fun _ => hS) (by kernel_rfl) ?_ ?_
          rotate_left
          · intro wx hSw; go_split_ands; go_simp; try with_reducible rfl
          simp only [Act.put, List.getElem_toArray, List.getElem_cons_succ, List.getElem_cons_zero, List.setIfInBounds_toArray, List.set_cons_zero, List.set_cons_succ]
          refine wpAnyT_held (i := 10) (v := ?_) rfl (by kernel_rfl) (by kernel_rfl) (by kernel_rfl) (fun _ _ _ h => h) (by kernel_rfl) hT (fun _ => hS) (by kernel_rfl) ?_ ?_
          rotate_left
          · intro wx hSw; go_split_ands; go_simp; try with_reducible rfl
          simp only [Act.put, List.getElem_toArray, List.getElem_cons_succ, List.getElem_cons_zero, List.setIfInBounds_toArray, List.set_cons_zero, List.set_cons_succ]
          refine wpAnyT_held (i := 11) (v := ?_) rfl (by kernel_rfl) (by kernel_rfl) (by kernel_rfl) (fun _ _ _ h => h) (by kernel_rfl) hT (fun _ => hS) (by kernel_rfl) ?_ ?_
          rotate_left
          · intro wx hSw; go_split_ands; go_simp; try with_reducible rfl
          simp only [Act.put, List.getElem_toArray, List.getElem_cons_succ, List.getElem_cons_zero, List.setIfInBounds_toArray, List.set_cons_zero, List.set_cons_succ]
          refine wpAnyT_held (i := 12) (v := ?_) rfl (by kernel_rfl) (by kernel_rfl) (by kernel_rfl) (fun _ _ _ h => h) (by kernel_rfl) hT (fun _ => hS) (by kernel_rfl) ?_ ?_
          rotate_left
          · intro wx hSw; go_split_ands; go_simp; try with_reducible rfl
          simp only [Act.put, List.getElem_toArray, List.getElem_cons_succ, List.getElem_cons_zero, List.setIfInBounds_toArray, List.set_cons_zero, List.set_cons_succ]
          refine wpAnyT_held (i := 13) (v := ?_) rfl (by kernel_rfl) (by kernel_rfl) (by kernel_rfl) (fun _ _ _ h => h) (by kernel_rfl) hT (fun _ => hS) (by kernel_rfl) ?_ ?_
          rotate_left
          · intro wx hSw; go_split_ands; go_simp; try with_reducible rfl
          simp only [Act.put, List.getElem_toArray, List.getElem_cons_succ, List.getElem_cons_zero, List.setIfInBounds_toArray, List.set_cons_zero, List.set_cons_succ]
          refine wpAnyT_held (i := 14) (v := ?_) rfl (by kernel_rfl) (by kernel_rfl) (by kernel_rfl) (fun _ _ _ h => h) (by kernel_rfl) hT (fun _ => hS) (by kernel_rfl) ?_ ?_
          rotate_left
          · intro wx hSw; go_split_ands; go_simp; try with_reducible rfl
          simp only [Act.put, List.getElem_toArray, List.getElem_cons_succ, List.getElem_cons_zero, List.setIfInBounds_toArray, List.set_cons_zero, List.set_cons_succ]
          refine wpAnyT_held (i := 15) (v := .int .i64 (NL : Int)) rfl (by kernel_rfl) (by kernel_rfl) (by kernel_rfl) (fun _ _ _ h => h) (by kernel_rfl) hT (fun _ => hS) (by kernel_rfl) (fun wx h => exec_len _ _ rfl _ _ rfl (HLN.out wx h.2.2.2)) ?_
          simp only [Act.put, List.getElem_toArray, List.getElem_cons_succ, List.getElem_cons_zero, List.setIfInBounds_toArray, List.set_cons_zero, List.set_cons_succ]
          refine wpAnyT_held (i := 16) (v := .bool true) rfl (by kernel_rfl) (by kernel_rfl) (by kernel_rfl) (fun _ _ _ h => h) (by kernel_rfl) hT (fun _ => hS) (by kernel_rfl) ?_ ?_
          · intro wx hSw; go_split_ands; go_simp
          simp only [Act.put, List.getElem_toArray, List.getElem_cons_succ, List.getElem_cons_zero, List.setIfInBounds_toArray, List.set_cons_zero, List.set_cons_succ]
          refine wpAnyT_held (i := 17) (v := ?_) rfl (by kernel_rfl) (by kernel_rfl) (by kernel_rfl) (fun _ _ _ h => h) (by kernel_rfl) hT (fun _ => hS) (by kernel_rfl) ?_ ?_
          rotate_left
          · intro wx hSw; go_split_ands; go_simp; try with_reducible rfl
          simp only [Act.put, List.getElem_toArray, List.getElem_cons_succ, List.getElem_cons_zero, List.setIfInBounds_toArray, List.set_cons_zero, List.set_cons_succ]
          refine wpAnyT_held (i := 18) (v := ?_) rfl (by kernel_rfl) (by kernel_rfl) (by kernel_rfl) (fun _ _ _ h => h) (by kernel_rfl) hT (fun _ => hS) (by kernel_rfl) ?_ ?_
          rotate_left
          · intro wx hSw; go_split_ands; go_simp; try with_reducible rfl
          simp only [Act.put, List.getElem_toArray, List.getElem_cons_succ, List.getElem_cons_zero, List.setIfInBounds_toArray, List.set_cons_zero, List.set_cons_succ]
          refine wpAnyT_done (by kernel_rfl) ?_ _
          clear hT hS
          go_wp2
          go_ret
          exact ⟨by rw [HN.out]; rfl, hB7⟩
        · replace HN : Veil (RN = 0) := ⟨by rw [HN.out, if_neg h16]⟩
          have h16i : ¬ (16 : Int) ≤ (NL : Int) := by omega
          refine wp_region_gateT (fun w' => w'.rangeAt w.heap.size 0 E ∧ w'.rangeAt H 0 SV ∧ w'.cell? ⟨H, 8, none⟩ = some (.map (some b)) ∧ WaitAt w' b L) (fun _ => True) 99 (by kernel_rfl) ?_
          have hT : (fun w' : World => w'.rangeAt w.heap.size 0 E ∧ w'.rangeAt H 0 SV ∧ w'.cell? ⟨H, 8, none⟩ = some (.map (some b)) ∧ WaitAt w' b L) W5.drew := ⟨q1, q3, q4, q5.congr rfl⟩
          have hS : (fun _ : World => True) W5.drew := trivial
          refine wpAnyT_held (i := 0) (v := ?_) rfl (by kernel_rfl) (by kernel_rfl) (by kernel_rfl) (fun _ _ _ h => h) (by kernel_rfl) hT (fun _ => hS) (by kernel_rfl) ?_ ?_
          rotate_left
          · intro wx hSw; go_split_ands; go_simp; try with_reducible rfl
          simp only [Act.put, List.getElem_toArray, List.getElem_cons_succ, List.getElem_cons_zero, List.setIfInBounds_toArray, List.set_cons_zero, List.set_cons_succ]
          refine wpAnyT_one (i := 1) rfl (by kernel_rfl) (by kernel_rfl) (fun K hK => ?_)
          refine wpx_call _ _ (by kernel_rfl) (hf.mono ?_)
          rintro x W6 ⟨rfl, hb6⟩
          refine ⟨_, rfl, ?_⟩
          have hB6 : Below w.heap.size w W6 := hB4.drew.trans (hb6.mono hB4.size)
          have hx6 := (hx4.congr (w' := W5.drew) rfl).farM hb6
          clear q1 q2 q3 q4 q5 hb6 hf
          obtain ⟨q1, q2, q3, q4, q5⟩ := HT.out W6 hB6 hx6
          replace hT : (fun w' : World => w'.rangeAt w.heap.size 0 E ∧ w'.rangeAt H 0 SV ∧ w'.cell? ⟨H, 8, none⟩ = some (.map (some b)) ∧ WaitAt w' b L) W6 := ⟨q1, q3, q4, q5⟩
          replace hS : (fun _ : World => True) W6 := trivial
          refine hK.out _ _ hT (fun _ => hS) ?_
          clear hK K
          try simp only [Act.put, List.getElem_toArray, List.getElem_cons_succ, List.getElem_cons_zero, List.setIfInBounds_toArray, List.set_cons_zero, List.set_cons_succ]
          refine wpAnyT_held (i := 2) (v := ?_) rfl (by kernel_rfl) (by kernel_rfl) (by kernel_rfl) (fun _ _ _ h => h) (by kernel_rfl) hT (fun _ => hS) (by kernel_rfl) ?_ ?_
          rotate_left
          · intro wx hSw; go_split_ands; go_simp; try with_reducible rfl
          simp only [Act.put, List.getElem_toArray, List.getElem_cons_succ, List.getElem_cons_zero, List.setIfInBounds_toArray, List.set_cons_zero, List.set_cons_succ]
          refine wpAnyT_held (i := 3) (v := ?_) rfl (by kernel_rfl) (by kernel_rfl) (by kernel_rfl) (fun _ _ _ h => h) (by kernel_rfl) hT (fun _ => hS) (by kernel_rfl) ?_ ?_
          rotate_left
          · intro wx hSw; go_split_ands; go_simp; try with_reducible rfl
          simp only [Act.put, List.getElem_toArray, List.getElem_cons_succ, List.getElem_cons_zero, List.setIfInBounds_toArray, List.set_cons_zero, List.set_cons_succ]
          refine wpAnyT_held (i := 4) (v := ?_) rfl (by kernel_rfl) (by kernel_rfl) (by kernel_rfl) (fun _ _ _ h => h) (by kernel_rfl) hT (fun _ => hS) (by kernel_rfl) ?_ ?_
          rotate_left
          · intro wx hSw; go_split_ands; go_simp; try with_reducible rfl
          simp only [Act.put, List.getElem_toArray, List.getElem_cons_succ, List.getElem_cons_zero, List.setIfInBounds_toArray, List.set_cons_zero, List.set_cons_succ]
          refine wpAnyT_held (i := 5) (v := ?_) rfl (by kernel_rfl) (by kernel_rfl) (by kernel_rfl) (fun _ _ _ h => h) (by kernel_rfl) hT (fun _ => hS) (by kernel_rfl) ?_ ?_
          rotate_left
          · intro wx hSw; go_split_ands; go_simp; try with_reducible rfl
          simp only [Act.put, List.getElem_toArray, List.getElem_cons_succ, List.getElem_cons_zero, List.setIfInBounds_toArray, List.set_cons_zero, List.set_cons_succ]
          refine wpAnyT_load (i := 6) (dst := some 39) (ty := 34) (x := .tmp 38) (b := H) (o := (0)) (cs := SV) (by kernel_rfl) (by kernel_rfl) (by kernel_rfl) (by kernel_rfl) (by kernel_rfl) (fun _ _ _ h => h) (by kernel_rfl) hT (fun _ => hS) (by kernel_rfl) (fun _ h => h.2.1) uV rfl iV ?_
          simp only [Act.put, List.getElem_toArray, List.getElem_cons_succ, List.getElem_cons_zero, List.setIfInBounds_toArray, List.set_cons_zero, List.set_cons_succ]
          refine wpAnyT_load (i := 7) (dst := some 40) (ty := 38) (x := .tmp 3) (b := w.heap.size) (o := (0)) (cs := E) (by kernel_rfl) (by kernel_rfl) (by kernel_rfl) (by kernel_rfl) (by kernel_rfl) (fun _ _ _ h => h) (by kernel_rfl) hT (fun _ => hS) (by kernel_rfl) (fun _ h => h.1) uE rfl iE ?_
          simp only [Act.put, List.getElem_toArray, List.getElem_cons_succ, List.getElem_cons_zero, List.setIfInBounds_toArray, List.set_cons_zero, List.set_cons_succ]
          have hd := HD.out W6
          refine wpAnyT_one (i := 8) rfl (by kernel_rfl) (by kernel_rfl) (fun K hK => ?_)
          refine wpx_call _ _ (by kernel_rfl) (hd.mono ?_)
          rintro x W7 ⟨rfl, hb7⟩
          refine ⟨_, rfl, ?_⟩
          have hB7 : Below w.heap.size w W7 := hB6.trans (hb7.mono hB6.size)
          have hx7 := hx6.farM hb7
          clear q1 q2 q3 q4 q5 hb7 hd
          obtain ⟨q1, q2, q3, q4, q5⟩ := HT.out W7 hB7 hx7
          replace hT : (fun w' : World => w'.rangeAt w.heap.size 0 E ∧ w'.rangeAt H 0 SV ∧ w'.cell? ⟨H, 8, none⟩ = some (.map (some b)) ∧ WaitAt w' b L) W7 := ⟨q1, q3, q4, q5⟩
          replace hS : (fun _ : World => True) W7 := trivial
          refine hK.out _ _ hT (fun _ => hS) ?_
          clear hK K
          try simp only [Act.put, List.getElem_toArray, List.getElem_cons_succ, List.getElem_cons_zero, List.setIfInBounds_toArray, List.set_cons_zero, List.set_cons_succ]
          refine wpAnyT_held (i := 9) (v := ?_) rfl (by kernel_rfl) (by kernel_rfl) (by kernel_rfl) (fun _ _ _ h => h) (by kernel_rfl) hT (fun _ => hS) (by kernel_rfl) ?_ ?_
          rotate_left
          · intro wx hSw; go_split_ands; go_simp; try with_reducible rfl
          simp only [Act.put, List.getElem_toArray, List.getElem_cons_succ, List.getElem_cons_zero, List.setIfInBounds_toArray, List.set_cons_zero, List.set_cons_succ]
          refine wpAnyT_held (i := 10) (v := ?_) rfl (by kernel_rfl) (by kernel_rfl) (by kernel_rfl) (fun _ _ _ h => h) (by kernel_rfl) hT (fun _ => hS) (by kernel_rfl) ?_ ?_
          rotate_left
          · intro wx hSw; go_split_ands; go_simp; try with_reducible rfl
          simp only [Act.put, List.getElem_toArray, List.getElem_cons_succ, List.getElem_cons_zero, List.setIfInBounds_toArray, List.set_cons_zero, List.set_cons_succ]
          refine wpAnyT_held (i := 11) (v := ?_) rfl (by kernel_rfl) (by kernel_rfl) (by kernel_rfl) (fun _ _ _ h => h) (by kernel_rfl) hT (fun _ => hS) (by kernel_rfl) ?_ ?_
          rotate_left
          · intro wx hSw; go_split_ands; go_simp; try with_reducible rfl
          simp only [Act.put, List.getElem_toArray, List.getElem_cons_succ, List.getElem_cons_zero, List.setIfInBounds_toArray, List.set_cons_zero, List.set_cons_succ]
          refine wpAnyT_held (i := 12) (v := ?_) rfl (by kernel_rfl) (by kernel_rfl) (by kernel_rfl) (fun _ _ _ h => h) (by kernel_rfl) hT (fun _ => hS) (by kernel_rfl) ?_ ?_
          rotate_left
          · intro wx hSw; go_split_ands; go_simp; try with_reducible rfl
          simp only [Act.put, List.getElem_toArray, List.getElem_cons_succ, List.getElem_cons_zero, List.setIfInBounds_toArray, List.set_cons_zero, List.set_cons_succ]
          refine wpAnyT_held (i := 13) (v := ?_) rfl (by kernel_rfl) (by kernel_rfl) (by kernel_rfl) (fun _ _ _ h => h) (by kernel_rfl) hT (fun _ => hS) (by kernel_rfl) ?_ ?_
          rotate_left
          · intro wx hSw; go_split_ands; go_simp; try with_reducible rfl
          simp only [Act.put, List.getElem_toArray, List.getElem_cons_succ, List.getElem_cons_zero, List.setIfInBounds_toArray, List.set_cons_zero, List.set_cons_succ]
          refine wpAnyT_held (i := 14) (v := ?_) rfl (by kernel_rfl) (by kernel_rfl) (by kernel_rfl) (fun _ _ _ h => h) (by kernel_rfl) hT (fun _ => hS) (by kernel_rfl) ?_ ?_
          rotate_left
          · intro wx hSw; go_split_ands; go_simp; try with_reducible rfl
          simp only [Act.put, List.getElem_toArray, List.getElem_cons_succ, List.getElem_cons_zero, List.setIfInBounds_toArray, List.set_cons_zero, List.set_cons_succ]
          refine wpAnyT_held (i := 15) (v := .int .i64 (NL : Int)) rfl (by kernel_rfl) (by kernel_rfl) (by kernel_rfl) (fun _ _ _ h => h) (by kernel_rfl) hT (fun _ => hS) (by kernel_rfl) (fun wx h => exec_len _ _ rfl _ _ rfl (HLN.out wx h.2.2.2)) ?_
          simp only [Act.put, List.getElem_toArray, List.getElem_cons_succ, List.getElem_cons_zero, List.setIfInBounds_toArray, List.set_cons_zero, List.set_cons_succ]
          refine wpAnyT_held (i := 16) (v := .bool false) rfl (by kernel_rfl) (by kernel_rfl) (by kernel_rfl) (fun _ _ _ h => h) (by kernel_rfl) hT (fun _ => hS) (by kernel_rfl) ?_ ?_
          · intro wx hSw; go_split_ands; go_simp
          simp only [Act.put, List.getElem_toArray, List.getElem_cons_succ, List.getElem_cons_zero, List.setIfInBounds_toArray, List.set_cons_zero, List.set_cons_succ]
          refine wpAnyT_held (i := 17) (v := ?_) rfl (by kernel_rfl) (by kernel_rfl) (by kernel_rfl) (fun _ _ _ h => h) (by kernel_rfl) hT (fun _ => hS) (by kernel_rfl) ?_ ?_
          rotate_left
          · intro wx hSw; go_split_ands; go_simp; try with_reducible rfl
          simp only [Act.put, List.getElem_toArray, List.getElem_cons_succ, List.getElem_cons_zero, List.setIfInBounds_toArray, List.set_cons_zero, List.set_cons_succ]
          refine wpAnyT_held (i := 18) (v := ?_) rfl (by kernel_rfl) (by kernel_rfl) (by kernel_rfl) (fun _ _ _ h => h) (by kernel_rfl) hT (fun _ => hS) (by kernel_rfl) ?_ ?_
          rotate_left
          · intro wx hSw; go_split_ands; go_simp; try with_reducible rfl
          simp only [Act.put, List.getElem_toArray, List.getElem_cons_succ, List.getElem_cons_zero, List.setIfInBounds_toArray, List.set_cons_zero, List.set_cons_succ]
          refine wpAnyT_done (by kernel_rfl) ?_ _
          clear hT hS
          go_wp2
          go_ret
          exact ⟨by rw [HN.out]; rfl, hB7⟩
  · obtain ⟨k, hk, hko, hKV⟩ := HKT.out rfl
    have HNE : Veil (∀ W, (binOp .neq 38 (.agg KV.toArray) (.agg E.toArray)).run Try.prog W = .ok (.bool (!evEq k e)) W) := ⟨fun W => by rw [hKV, ← HEE.out]; exact ev_neq k e hko HE.out W⟩
    replace HN : Veil (RN = if evEq k e = true then 5 else 11) := ⟨by rw [HN.out, hk]; rfl⟩
    have hrK := hz4.wholeM
    generalize evEq k e = QE at HNE HN
    clear HKF HKT hz4 hk hko hKV
    have hne := HNE.out
    cases QE
    · replace HN : Veil (RN = 11) := ⟨HN.out⟩
      go_wp2_with (first
        | (refine wpList_ldv rfl 38 _ rfl w.heap.size 0 rfl E q1 uE rfl iE ?_)
        | (refine wpList_ldv rfl 38 _ rfl Bk 0 rfl KV hrK uE rfl iK ?_))
      go_ret
      exact ⟨by rw [HN.out]; rfl, hB4⟩
    · replace HN : Veil (RN = 5) := ⟨HN.out⟩
      go_wp2_with (first
        | (refine wpList_ldv rfl 38 _ rfl w.heap.size 0 rfl E q1 uE rfl iE ?_)
        | (refine wpList_ldv rfl 38 _ rfl Bk 0 rfl KV hrK uE rfl iK ?_))
      go_ret
      exact ⟨by rw [HN.out]; rfl, hB4⟩
end Go.Proofs.Ythjkcfpdkhghpaa
