/- acl: why an event may not be written in; which count. -/
import Derived.Test.YtgmbmdmbnpkbbaaMAb5Ab6Ab7
namespace Go.Proofs.Ytgmbmdmbnpkbbaa
open Go.RowKit Go.Shelf
set_option maxRecDepth 20000
set_option linter.unusedSimpArgs false
theorem exec_lookA {P : Program} {o : Oper} {ρ : Operand → Value} {w : World} (t : TypeId) (m x : Operand) (b : Bool) (ho : o.op = .lookup t m x b) (mv xv v : Value) (hm : ρ m = mv) (hx : ρ x = xv) (hrun : (Instr.lookup t mv xv b).run P w = .ok v w) : (execOp ρ o).run P w = .ok (.value v) w := by
  unfold execOp
  simp only [ho, hm, hx, Sem.run_bind, hrun, Result.andThen_ok, Sem.run_pure]
theorem right_okA (e : Ev) (w : World) (he : e.Ok) : Calls Try.prog 45 #[.agg e.cells.toArray] w fun x w' => x = .returned (.bool (rightB e)) ∧ Below w.heap.size w w' :=
  cright_any e w he.past he.dot.1.1 he.dot.2.1 (by have := he.dot.2.2; omega) he.par.1.1 he.par.2.1
/-- Why an event may not be written in; 0: it may. -/
def refB (L : List Ent) (e : Ev) : Int := if rightB e = false then 3 else if e.kind ≠ 3 ∧ e.kind ≠ 4 then 3 else if (lookB L e.dot).isSome = true then 5 else if 512 ≤ L.length then 10 else 0
set_option maxHeartbeats 4000000 in
theorem brefuse_any (H b : Nat) (L : List Ent) (e : Ev) (w : World) (hC : BookC w H b L) (he : e.Ok) (hL : L.length ≤ 1000) :
    Calls Try.prog 74 #[.pointer (some ⟨H, 0, none⟩), .agg e.cells.toArray] w fun r w' => r = .returned (.int .i64 (refB L e)) ∧ Below w.heap.size w w' := by
  have hB0 : Below w.heap.size w (w.alloc (.cells e.cells.toArray 32)) := (Below.refl _ _).alloc (Nat.le_refl _) _
  have hx0 := CellsAt.new w 32 e.cells
  have he1 := aev_len e he.past
  have iE : (Try.prog.info? 32).map (·.size) = some e.cells.length := by rw [he1]; kernel_rfl
  have iD : (Try.prog.info? 26).map (·.size) = some (dotC e.da e.ds).length := sizeDot
  have uE := Try.underlying32
  have uD := Try.underlying26
  have HR : Veil (∀ W, Calls Try.prog 45 #[.agg e.cells.toArray] W fun x w' => x = .returned (.bool (rightB e)) ∧ Below W.heap.size W w') := ⟨fun W => right_okA e W he⟩
  have HT : Veil (∀ W, Below w.heap.size w W → CellsAt W w.heap.size 32 e.cells → W.rangeAt w.heap.size 0 e.cells ∧ W.rangeAt w.heap.size 0 (dotC e.da e.ds) ∧ W.cell? ⟨H, 0, none⟩ = some (.map (some b)) ∧ BookAt W b L ∧ W.cell? ⟨w.heap.size, 10, none⟩ = some (.int .u8 e.kind)) := ⟨fun W hb hx => by
    have h1 := hx.range 0 2
    rw [(ev_parts e he.past).1] at h1
    have hC1 := hC.far hb
    exact ⟨hx.wholeM, h1, hC1.mapCell, hC1.map, (hx.cell 10).trans (ev_parts e he.past).2.2.1⟩⟩
  have HN : Veil (refB L e = if rightB e = false then 3 else if e.kind ≠ 3 ∧ e.kind ≠ 4 then 3 else if (lookB L e.dot).isSome = true then 5 else if 512 ≤ L.length then 10 else 0) := ⟨rfl⟩
  have HC := Veil.mk hC
  have HE := Veil.mk he
  obtain ⟨E, hE⟩ : ∃ E, e.cells = E := ⟨_, rfl⟩
  rw [hE] at hB0 hx0 iE HR HT he1
  rw [hE]
  generalize refB L e = RN at HN ⊢
  generalize rightB e = RB at HR HN
  generalize e.kind = KD at HN HT
  clear hC he hE
  go_enter Try.func74, Try.ntmps74
  go_upto_region 3 with fail
  refine forget (p := fun y => Code.wp _ _ _ _ y) (fun W => Below w.heap.size w W ∧ CellsAt W w.heap.size 32 E) ⟨hB0, hx0⟩ ?_
  clear hB0 hx0
  rintro W ⟨hB, hx⟩
  have hrE := hx.wholeM
  have hr := HR.out W
  cases RB
  · replace HN : Veil (RN = 3) := ⟨HN.out⟩
    go_wp2_with (first
      | (refine wpList_ldv rfl 32 _ rfl w.heap.size 0 rfl E hrE uE rfl iE ?_)
      | (go_at_call 45; refine hr.mono ?_; rintro x W1 ⟨rfl, hb1⟩))
    go_ret
    exact ⟨by rw [HN.out]; rfl, hB.trans (hb1.mono hB.size)⟩
  replace HN : Veil (RN = if KD ≠ 3 ∧ KD ≠ 4 then 3 else if (lookB L e.dot).isSome = true then 5 else if 512 ≤ L.length then 10 else 0) := ⟨HN.out⟩
  have HK10 : Veil (∀ W1, Below W.heap.size W W1 → W1.cell? ⟨w.heap.size, 10, none⟩ = some (.int .u8 KD)) := ⟨fun W1 hb => (HT.out W1 (hB.trans (hb.mono hB.size)) (hx.farM hb)).2.2.2.2⟩
  by_cases hbad : KD ≠ 3 ∧ KD ≠ 4
  · replace HN : Veil (RN = 3) := ⟨by rw [HN.out, if_pos hbad]⟩
    obtain ⟨hk3, hk4⟩ := hbad
    have hk3b : (KD != 3) = true := by simpa using hk3
    have hk4b : (KD != 4) = true := by simpa using hk4
    clear hk3 hk4
    go_wp2_with (first
      | (refine wpList_ldv rfl 32 _ rfl w.heap.size 0 rfl E hrE uE rfl iE ?_)
      | (go_at_call 45; refine hr.mono ?_; rintro x W1 ⟨rfl, hb1⟩; have c10 := HK10.out W1 hb1))
    go_ret
    exact ⟨by rw [HN.out]; rfl, hB.trans (hb1.mono hB.size)⟩
  · replace HN : Veil (RN = if (lookB L e.dot).isSome = true then 5 else if 512 ≤ L.length then 10 else 0) := ⟨by rw [HN.out, if_neg hbad]⟩
    have hkk : KD = 3 ∨ KD = 4 := by omega
    clear hbad
    rcases hkk with rfl | rfl
    all_goals
      go_upto_region 5 with (first
        | (refine wpList_ldv rfl 32 _ rfl w.heap.size 0 rfl E hrE uE rfl iE ?_)
        | (go_at_call 45; refine hr.mono ?_; rintro x W1 ⟨rfl, hb1⟩; have c10 := HK10.out W1 hb1))
      have hB2 := hB.trans (hb1.mono hB.size)
      have hx2 := hx.farM hb1
      clear hr hrE hB hx hb1 HR HK10 c10
      obtain ⟨q1, q2, q4, q5, -⟩ := HT.out W1 hB2 hx2
      obtain ⟨KV, kb, hk17, hk1, hlk, hkb⟩ : ∃ (KV : List Value) (kb : Bool), KV.length = 18 ∧ (∀ v ∈ KV, v.oneCell' = true) ∧ (∀ W, BookAt W b L → (Instr.lookup 75 (.map (some b)) (.agg (dotC e.da e.ds).toArray) true).run Try.prog W = .ok (.tuple #[.agg KV.toArray, .bool kb]) W) ∧ kb = (lookB L e.dot).isSome := by
        have hg : ∀ W, BookAt W b L → (Instr.lookup 75 (.map (some b)) (.agg (dotC e.da e.ds).toArray) true).run Try.prog W = .ok (.tuple #[((lookB L (e.da, e.ds)).map fun e => Value.agg (entC e).toArray).getD (.agg entZ.toArray), .bool ((lookB L (e.da, e.ds)).map fun e => Value.agg (entC e).toArray).isSome]) W := fun W hW => hW.mapAt.look Try.underlying75 (z := .agg entZ.toArray) (by kernel_rfl) e.da e.ds HE.out.dot
        cases hk : lookB L (e.da, e.ds) with
        | none =>
          rw [hk] at hg
          exact ⟨entZ, false, rfl, by decide, hg, by rw [show e.dot = (e.da, e.ds) from rfl, hk]; rfl⟩
        | some k =>
          rw [hk] at hg
          have hko := HC.out.map.ok k (lookB_mem hk).1
          exact ⟨entC k, true, entC_len k hko, entC_one k, hg, by rw [show e.dot = (e.da, e.ds) from rfl, hk]; rfl⟩
      have HLK := Veil.mk hlk
      replace HN : Veil (RN = if kb = true then 5 else if 512 ≤ L.length then 10 else 0) := ⟨by rw [HN.out, hkb]⟩
      have iK : (Try.prog.info? 107).map (·.size) = some KV.length := by rw [hk17]; kernel_rfl
      clear hlk hkb
      refine wp_region_gateT (fun w' => w'.cell? ⟨H, 0, none⟩ = some (.map (some b)) ∧ w'.rangeAt w.heap.size 0 (dotC e.da e.ds) ∧ BookAt w' b L) (fun _ => True) 99 (by kernel_rfl) ?_
      have hT : (fun w' : World => w'.cell? ⟨H, 0, none⟩ = some (.map (some b)) ∧ w'.rangeAt w.heap.size 0 (dotC e.da e.ds) ∧ BookAt w' b L) W1.drew := ⟨q4, q2, q5.congr rfl⟩
      have hS : (fun _ : World => True) W1.drew := trivial
      refine wpAnyT_held (i := 0) (v := ?_) rfl (by kernel_rfl) (by kernel_rfl) (by kernel_rfl) (fun _ _ _ h => h) (by kernel_rfl) hT (fun _ => hS) (by kernel_rfl) ?_ ?_
      rotate_left
      · intro wx hSw; go_split_ands; go_simp; try with_reducible rfl
      simp only [Act.put, List.getElem_toArray, List.getElem_cons_succ, List.getElem_cons_zero, List.setIfInBounds_toArray, List.set_cons_zero, List.set_cons_succ]
      refine wpAnyT_held (i := 1) (v := ?_) rfl (by kernel_rfl) (by kernel_rfl) (by kernel_rfl) (fun _ _ _ h => h) (by kernel_rfl) hT (fun _ => hS) (by kernel_rfl) ?_ ?_
      rotate_left
      · intro wx hSw; go_split_ands; go_simp; try with_reducible rfl
      simp only [Act.put, List.getElem_toArray, List.getElem_cons_succ, List.getElem_cons_zero, List.setIfInBounds_toArray, List.set_cons_zero, List.set_cons_succ]
      refine wpAnyT_held (i := 2) (v := ?_) rfl (by kernel_rfl) (by kernel_rfl) (by kernel_rfl) (fun _ _ _ h => h) (by kernel_rfl) hT (fun _ => hS) (by kernel_rfl) ?_ ?_
      rotate_left
      · intro wx hSw; go_split_ands; go_simp; try with_reducible rfl
      simp only [Act.put, List.getElem_toArray, List.getElem_cons_succ, List.getElem_cons_zero, List.setIfInBounds_toArray, List.set_cons_zero, List.set_cons_succ]
      refine wpAnyT_held (i := 3) (v := ?_) rfl (by kernel_rfl) (by kernel_rfl) (by kernel_rfl) (fun _ _ _ h => h) (by kernel_rfl) hT (fun _ => hS) (by kernel_rfl) ?_ ?_
      rotate_left
      · intro wx hSw; go_split_ands; go_simp; try with_reducible rfl
      simp only [Act.put, List.getElem_toArray, List.getElem_cons_succ, List.getElem_cons_zero, List.setIfInBounds_toArray, List.set_cons_zero, List.set_cons_succ]
      refine wpAnyT_held (i := 4) (v := ?_) rfl (by kernel_rfl) (by kernel_rfl) (by kernel_rfl) (fun _ _ _ h => h) (by kernel_rfl) hT (fun _ => hS) (by kernel_rfl) ?_ ?_
      rotate_left
      · intro wx hSw; go_split_ands; go_simp; try with_reducible rfl
      simp only [Act.put, List.getElem_toArray, List.getElem_cons_succ, List.getElem_cons_zero, List.setIfInBounds_toArray, List.set_cons_zero, List.set_cons_succ]
      refine wpAnyT_load (i := 5) (dst := some 28) (ty := 26) (x := .tmp 27) (b := w.heap.size) (o := (0)) (cs := (dotC e.da e.ds)) (by kernel_rfl) (by kernel_rfl) (by kernel_rfl) (by kernel_rfl) (by kernel_rfl) (fun _ _ _ h => h) (by kernel_rfl) hT (fun _ => hS) (by kernel_rfl) (fun _ h => h.2.1) uD rfl iD ?_
      simp only [Act.put, List.getElem_toArray, List.getElem_cons_succ, List.getElem_cons_zero, List.setIfInBounds_toArray, List.set_cons_zero, List.set_cons_succ]
      refine wpAnyT_held (i := 6) (v := .tuple #[.agg KV.toArray, .bool kb]) rfl (by kernel_rfl) (by kernel_rfl) (by kernel_rfl) (fun _ _ _ h => h) (by kernel_rfl) hT (fun _ => hS) (by kernel_rfl) (fun wx h => exec_lookA _ _ _ _ rfl _ _ _ rfl rfl (HLK.out wx h.2.2)) ?_
      simp only [Act.put, List.getElem_toArray, List.getElem_cons_succ, List.getElem_cons_zero, List.setIfInBounds_toArray, List.set_cons_zero, List.set_cons_succ]
      refine wpAnyT_held (i := 7) (v := ?_) rfl (by kernel_rfl) (by kernel_rfl) (by kernel_rfl) (fun _ _ _ h => h) (by kernel_rfl) hT (fun _ => hS) (by kernel_rfl) ?_ ?_
      rotate_left
      · intro wx hSw; go_split_ands; go_simp; try with_reducible rfl
      simp only [Act.put, List.getElem_toArray, List.getElem_cons_succ, List.getElem_cons_zero, List.setIfInBounds_toArray, List.set_cons_zero, List.set_cons_succ]
      refine wpAnyT_held (i := 8) (v := ?_) rfl (by kernel_rfl) (by kernel_rfl) (by kernel_rfl) (fun _ _ _ h => h) (by kernel_rfl) hT (fun _ => hS) (by kernel_rfl) ?_ ?_
      rotate_left
      · intro wx hSw; go_split_ands; go_simp; try with_reducible rfl
      simp only [Act.put, List.getElem_toArray, List.getElem_cons_succ, List.getElem_cons_zero, List.setIfInBounds_toArray, List.set_cons_zero, List.set_cons_succ]
      refine wpAnyT_held (i := 9) (v := ?_) rfl (by kernel_rfl) (by kernel_rfl) (by kernel_rfl) (fun _ _ _ h => h) (by kernel_rfl) hT (fun _ => hS) (by kernel_rfl) ?_ ?_
      rotate_left
      · intro wx hSw; go_split_ands; go_simp; try with_reducible rfl
      simp only [Act.put, List.getElem_toArray, List.getElem_cons_succ, List.getElem_cons_zero, List.setIfInBounds_toArray, List.set_cons_zero, List.set_cons_succ]
      have hxl := hx2.lt
      have HAL : Veil (Below w.heap.size w (W1.drew.alloc (.cells entZ.toArray 107)) ∧ CellsAt (W1.drew.alloc (.cells entZ.toArray 107)) w.heap.size 32 E ∧ CellsAt (W1.drew.alloc (.cells entZ.toArray 107)) W1.heap.size 107 entZ) := ⟨hB2.drew.alloc hB2.size _, (hx2.congr (w' := W1.drew) rfl).alloc _, CellsAt.new W1.drew 107 entZ⟩
      refine wpAnyT_one (i := 10) rfl (by kernel_rfl) (by kernel_rfl) (fun K hK => ?_)
      go_simp
      refine forget (p := fun y => K _ y) (fun W3 => Below w.heap.size w W3 ∧ CellsAt W3 w.heap.size 32 E ∧ CellsAt W3 W1.heap.size 107 entZ) HAL.out ?_
      rintro W3 ⟨hB3, hx3, hz3⟩
      clear q1 q2 q4 q5 HAL
      obtain ⟨q1, q2, q4, q5, -⟩ := HT.out W3 hB3 hx3
      replace hT : (fun w' : World => w'.cell? ⟨H, 0, none⟩ = some (.map (some b)) ∧ w'.rangeAt w.heap.size 0 (dotC e.da e.ds) ∧ BookAt w' b L) W3 := ⟨q4, q2, q5⟩
      replace hS : (fun _ : World => True) W3 := trivial
      refine hK.out _ _ hT (fun _ => hS) ?_
      clear hK K
      try simp only [Act.put, List.getElem_toArray, List.getElem_cons_succ, List.getElem_cons_zero, List.setIfInBounds_toArray, List.set_cons_zero, List.set_cons_succ]
      have hx4 := hx3.setRowM KV.toArray (show w.heap.size ≠ W1.heap.size by omega)
      have hB4 : Below w.heap.size w (W3.setRow W1.heap.size KV.toArray) := ⟨hB3.os, hB3.tape, hB3.output, by have := hB3.size; simp [World.setRow, World.putObj]; omega, fun k hk => (setRow_other _ _ _ _ (by omega)).trans (hB3.block k hk)⟩
      refine wpAnyT_one (i := 11) rfl (by kernel_rfl) (by kernel_rfl) (fun K hK => ?_)
      refine wp_stvE 107 _ _ rfl W1.heap.size rfl (cs := KV) rfl hz3 iK (by rw [hk17]; rfl) hk1 ?_
      clear q1 q2 q4 q5
      obtain ⟨q1, q2, q4, q5, -⟩ := HT.out _ hB4 hx4
      replace hT : (fun w' : World => w'.cell? ⟨H, 0, none⟩ = some (.map (some b)) ∧ w'.rangeAt w.heap.size 0 (dotC e.da e.ds) ∧ BookAt w' b L) (W3.setRow W1.heap.size KV.toArray) := ⟨q4, q2, q5⟩
      replace hS : (fun _ : World => True) (W3.setRow W1.heap.size KV.toArray) := trivial
      refine hK.out _ _ hT (fun _ => hS) ?_
      clear hK K
      try simp only [Act.put, List.getElem_toArray, List.getElem_cons_succ, List.getElem_cons_zero, List.setIfInBounds_toArray, List.set_cons_zero, List.set_cons_succ]
      refine wpAnyT_held (i := 12) (v := ?_) rfl (by kernel_rfl) (by kernel_rfl) (by kernel_rfl) (fun _ _ _ h => h) (by kernel_rfl) hT (fun _ => hS) (by kernel_rfl) ?_ ?_
      rotate_left
      · intro wx hSw; go_split_ands; go_simp; try with_reducible rfl
      simp only [Act.put, List.getElem_toArray, List.getElem_cons_succ, List.getElem_cons_zero, List.setIfInBounds_toArray, List.set_cons_zero, List.set_cons_succ]
      refine wpAnyT_done (by kernel_rfl) ?_ _
      clear hT hS hz3 hx3 hB3 hB2 hx2 HLK
      generalize W3.setRow W1.heap.size KV.toArray = W5 at hx4 hB4 q1 q2 q4 q5 ⊢
      generalize W1.heap.size = Bk
      cases kb
      rotate_left
      · replace HN : Veil (RN = 5) := ⟨HN.out⟩
        go_wp2
        go_ret
        exact ⟨by rw [HN.out]; rfl, hB4⟩
      · replace HN : Veil (RN = if 512 ≤ L.length then 10 else 0) := ⟨HN.out⟩
        have hln := blen_any H b L W5 (HC.out.far hB4)
        by_cases h5 : 512 ≤ L.length
        · replace HN : Veil (RN = 10) := ⟨by rw [HN.out, if_pos h5]⟩
          have h5i : (512 : Int) ≤ (L.length : Int) := by omega
          go_wp2_with (go_at_call 78; refine hln.mono ?_; rintro x W6 ⟨rfl, rfl⟩)
          go_ret
          exact ⟨by rw [HN.out]; rfl, hB4⟩
        · replace HN : Veil (RN = 0) := ⟨by rw [HN.out, if_neg h5]⟩
          have h5i : ¬ (512 : Int) ≤ (L.length : Int) := by omega
          go_wp2_with (go_at_call 78; refine hln.mono ?_; rintro x W6 ⟨rfl, rfl⟩)
          go_ret
          exact ⟨by rw [HN.out]; rfl, hB4⟩
theorem brefuse_nil (e : Ev) (w : World) :
    Calls Try.prog 74 #[.pointer none, .agg e.cells.toArray] w fun r w' => r = .returned (.int .i64 1) ∧ Below w.heap.size w w' := by
  generalize e.cells = E
  have hB0 : Veil (Below w.heap.size w (w.alloc (.cells E.toArray 32))) := ⟨(Below.refl _ _).alloc (Nat.le_refl _) _⟩
  go_enter Try.func74, Try.ntmps74
  go_wp2
  go_ret
  exact ⟨rfl, hB0.out⟩
end Go.Proofs.Ytgmbmdmbnpkbbaa

