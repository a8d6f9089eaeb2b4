/- Ab8 Ab9 Ab10 -/
import Derived.Test.YtmbdohnmbkpfaaaGreatV18
import Derived.Test.YtmbdohnmbkpfaaaGreatV07
namespace Go.Proofs.YtmbdohnmbkpfaaaGreat
open Go.RowKit Go.Shelf
set_option maxRecDepth 20000
set_option linter.unusedSimpArgs false
theorem exec_lookA {P : Program} {o : Oper} {ρ : Operand → Value} {w : World} (t : TypeId) (m x : Operand) (b : Bool) (ho : o.op = .lookup t m x b) (mv xv v : Value) (hm : ρ m = mv) (hx : ρ x = xv) (hrun : (Instr.lookup t mv xv b).run P w = .ok v w) : (execOp ρ o).run P w = .ok (.value v) w := by
 unfold execOp
 simp only [ho, hm, hx, Sem.run_bind, hrun, Result.andThen_ok, Sem.run_pure]
theorem right_okA (e : Ev) (w : World) (he : e.Ok) : Calls Tryz.prog 73 #[.agg e.cells.toArray] w fun x w' => x = .returned (.bool (rightB e)) ∧ Below w.heap.size w w' :=
 cright_any e w he.past he.dot.1.1 he.dot.2.1 (by have := he.dot.2.2; omega) he.par.1.1 he.par.2.1
def refB (L : List Ent) (e : Ev) : Int := if rightB e = false then 3 else if e.kind ≠ 3 ∧ e.kind ≠ 4 then 3 else if (lookB L e.dot).isSome = true then 5 else if 512 ≤ L.length then 10 else 0
set_option maxHeartbeats 4000000 in
theorem brefuse_any (H b : Nat) (L : List Ent) (e : Ev) (w : World) (hC : BookC w H b L) (he : e.Ok) (hL : L.length ≤ 1000) :
    Calls Tryz.prog 126 #[.pointer (some ⟨H, 0, none⟩), .agg e.cells.toArray] w fun r w' => r = .returned (.int .i64 (refB L e)) ∧ Below w.heap.size w w' := by
 have hB0 : Below w.heap.size w (w.alloc (.cells e.cells.toArray 44)) := (Below.refl _ _).alloc (Nat.le_refl _) _
 have hx0 := CellsAt.new w 44 e.cells
 have he1 := aev_len e he.past
 have iE : (Tryz.prog.info? 44).map (·.size) = some e.cells.length := by rw [he1]; kernel_rfl
 have iD : (Tryz.prog.info? 40).map (·.size) = some (dotC e.da e.ds).length := sizeDot
 have uE := Tryz.underlying44
 have uD := Tryz.underlying40
 have HR : Veil (∀ W, Calls Tryz.prog 73 #[.agg e.cells.toArray] W fun x w' => x = .returned (.bool (rightB e)) ∧ Below W.heap.size W w') := ⟨fun W => right_okA e W he⟩
 have HT : Veil (∀ W, Below w.heap.size w W → CellsAt W w.heap.size 44 e.cells → W.rangeAt w.heap.size 0 e.cells ∧ W.rangeAt w.heap.size 0 (dotC e.da e.ds) ∧ W.cell? ⟨H, 0, none⟩ = some (.map (some b)) ∧ BookAt W b L ∧ W.cell? ⟨w.heap.size, 10, none⟩ = some (.int .u8 e.kind)) := ⟨fun W hb hx => by
  have h1 := hx.range 0 2
  rw [(ev_parts e he.past).1] at h1
  have hC1 := hC.far hb
  exact ⟨hx.wholeM, h1, hC1.mapCell, hC1.map, (hx.cell 10).trans (ev_parts e he.past).2.2.1⟩⟩
 have HN : Veil (refB L e = if rightB e = false then 3 else if e.kind ≠ 3 ∧ e.kind ≠ 4 then 3 else if (lookB L e.dot).isSome = true then 5 else if 512 ≤ L.length then 10 else 0) := ⟨rfl⟩
 have HC := Veil.mk hC
 have HE := Veil.mk he
 obtain ⟨E, hE⟩ : ∃ E, e.cells = E := ⟨_, rfl⟩
 rw [hE] at hB0 hx0 iE HR HT he1
 rw [hE]
 generalize refB L e = RN at HN ⊢
 generalize rightB e = RB at HR HN
 generalize e.kind = KD at HN HT
 clear hC he hE
 go_enter Tryz.func126, Tryz.ntmps126
 go_upto_region 3 with fail
 refine forget (p := fun y => Code.wp _ _ _ _ y) (fun W => Below w.heap.size w W ∧ CellsAt W w.heap.size 44 E) ⟨hB0, hx0⟩ ?_
 clear hB0 hx0
 rintro W ⟨hB, hx⟩
 have hrE := hx.wholeM
 have hr := HR.out W
 cases RB
 · replace HN : Veil (RN = 3) := ⟨HN.out⟩
   go_wp2_with (first
    | (refine wpList_ldv rfl 44 _ rfl w.heap.size 0 rfl E hrE uE rfl iE ?_)
    | (go_at_call 73; refine hr.mono ?_; rintro x W1 ⟨rfl, hb1⟩))
   go_ret
   exact ⟨by rw [HN.out]; rfl, hB.trans (hb1.mono hB.size)⟩
 replace HN : Veil (RN = if KD ≠ 3 ∧ KD ≠ 4 then 3 else if (lookB L e.dot).isSome = true then 5 else if 512 ≤ L.length then 10 else 0) := ⟨HN.out⟩
 have HK10 : Veil (∀ W1, Below W.heap.size W W1 → W1.cell? ⟨w.heap.size, 10, none⟩ = some (.int .u8 KD)) := ⟨fun W1 hb => (HT.out W1 (hB.trans (hb.mono hB.size)) (hx.farM hb)).2.2.2.2⟩
 by_cases hbad : KD ≠ 3 ∧ KD ≠ 4
 · replace HN : Veil (RN = 3) := ⟨by rw [HN.out, if_pos hbad]⟩
   obtain ⟨hk3, hk4⟩ := hbad
   have hk3b : (KD != 3) = true := by simpa using hk3
   have hk4b : (KD != 4) = true := by simpa using hk4
   clear hk3 hk4
   go_wp2_with (first
    | (refine wpList_ldv rfl 44 _ rfl w.heap.size 0 rfl E hrE uE rfl iE ?_)
    | (go_at_call 73; refine hr.mono ?_; rintro x W1 ⟨rfl, hb1⟩; have c10 := HK10.out W1 hb1))
   go_ret
   exact ⟨by rw [HN.out]; rfl, hB.trans (hb1.mono hB.size)⟩
 · replace HN : Veil (RN = if (lookB L e.dot).isSome = true then 5 else if 512 ≤ L.length then 10 else 0) := ⟨by rw [HN.out, if_neg hbad]⟩
   have hkk : KD = 3 ∨ KD = 4 := by omega
   clear hbad
   rcases hkk with rfl | rfl
   all_goals
    go_upto_region 5 with (first
     | (refine wpList_ldv rfl 44 _ rfl w.heap.size 0 rfl E hrE uE rfl iE ?_)
     | (go_at_call 73; refine hr.mono ?_; rintro x W1 ⟨rfl, hb1⟩; have c10 := HK10.out W1 hb1))
    have hB2 := hB.trans (hb1.mono hB.size)
    have hx2 := hx.farM hb1
    clear hr hrE hB hx hb1 HR HK10 c10
    obtain ⟨q1, q2, q4, q5, -⟩ := HT.out W1 hB2 hx2
    obtain ⟨KV, kb, hk17, hk1, hlk, hkb⟩ : ∃ (KV : List Value) (kb : Bool), KV.length = 18 ∧ (∀ v ∈ KV, v.oneCell' = true) ∧ (∀ W, BookAt W b L → (Instr.lookup 127 (.map (some b)) (.agg (dotC e.da e.ds).toArray) true).run Tryz.prog W = .ok (.tuple #[.agg KV.toArray, .bool kb]) W) ∧ kb = (lookB L e.dot).isSome := by
     have hg : ∀ W, BookAt W b L → (Instr.lookup 127 (.map (some b)) (.agg (dotC e.da e.ds).toArray) true).run Tryz.prog W = .ok (.tuple #[((lookB L (e.da, e.ds)).map fun e => Value.agg (entC e).toArray).getD (.agg entZ.toArray), .bool ((lookB L (e.da, e.ds)).map fun e => Value.agg (entC e).toArray).isSome]) W := fun W hW => hW.mapAt.look Tryz.underlying127 (z := .agg entZ.toArray) (by kernel_rfl) e.da e.ds HE.out.dot
     cases hk : lookB L (e.da, e.ds) with
     | none =>
      rw [hk] at hg
      exact ⟨entZ, false, rfl, by decide, hg, by rw [show e.dot = (e.da, e.ds) from rfl, hk]; rfl⟩
     | some k =>
      rw [hk] at hg
      have hko := HC.out.map.ok k (lookB_mem hk).1
      exact ⟨entC k, true, entC_len k hko, entC_one k, hg, by rw [show e.dot = (e.da, e.ds) from rfl, hk]; rfl⟩
    have HLK := Veil.mk hlk
    replace HN : Veil (RN = if kb = true then 5 else if 512 ≤ L.length then 10 else 0) := ⟨by rw [HN.out, hkb]⟩
    have iK : (Tryz.prog.info? 144).map (·.size) = some KV.length := by rw [hk17]; kernel_rfl
    clear hlk hkb
    refine wp_region_gateT (fun w' => w'.cell? ⟨H, 0, none⟩ = some (.map (some b)) ∧ w'.rangeAt w.heap.size 0 (dotC e.da e.ds) ∧ BookAt w' b L) (fun _ => True) 99 (by kernel_rfl) ?_
    have hT : (fun w' : World => w'.cell? ⟨H, 0, none⟩ = some (.map (some b)) ∧ w'.rangeAt w.heap.size 0 (dotC e.da e.ds) ∧ BookAt w' b L) W1.drew := ⟨q4, q2, q5.congr rfl⟩
    have hS : (fun _ : World => True) W1.drew := trivial
    refine ghA 0 _ hT hS ?_
    simp only [Act.put, gA, gS, gZ, sI, sZ, sS]
    refine ghA 1 _ hT hS ?_
    simp only [Act.put, gA, gS, gZ, sI, sZ, sS]
    refine ghA 2 _ hT hS ?_
    simp only [Act.put, gA, gS, gZ, sI, sZ, sS]
    refine ghA 3 _ hT hS ?_
    simp only [Act.put, gA, gS, gZ, sI, sZ, sS]
    refine ghA 4 _ hT hS ?_
    simp only [Act.put, gA, gS, gZ, sI, sZ, sS]
    refine gl 5 28 40 27 w.heap.size 0 (dotC e.da e.ds) (by kernel_rfl) (by kernel_rfl) (by kernel_rfl) (fun _ _ _ h => h) hT hS (by kernel_rfl) (fun _ h => h.2.1) uD rfl iD ?_
    simp only [Act.put, gA, gS, gZ, sI, sZ, sS]
    refine wpAnyT_held (i := 6) (v := (.tuple #[.agg KV.toArray, .bool kb])) rfl (by kernel_rfl) (by kernel_rfl) (by kernel_rfl) (fun _ _ _ h => h) (by kernel_rfl) hT (fun _ => hS) (by kernel_rfl) (fun wx h => exec_lookA _ _ _ _ rfl _ _ _ rfl rfl (HLK.out wx h.2.2)) ?_
    simp only [Act.put, gA, gS, gZ, sI, sZ, sS]
    refine ghA 7 _ hT hS ?_
    simp only [Act.put, gA, gS, gZ, sI, sZ, sS]
    refine ghA 8 _ hT hS ?_
    simp only [Act.put, gA, gS, gZ, sI, sZ, sS]
    refine ghA 9 _ hT hS ?_
    simp only [Act.put, gA, gS, gZ, sI, sZ, sS]
    have hxl := hx2.lt
    have HAL : Veil (Below w.heap.size w (W1.drew.alloc (.cells entZ.toArray 144)) ∧ CellsAt (W1.drew.alloc (.cells entZ.toArray 144)) w.heap.size 44 E ∧ CellsAt (W1.drew.alloc (.cells entZ.toArray 144)) W1.heap.size 144 entZ) := ⟨hB2.drew.alloc hB2.size _, (hx2.congr (w' := W1.drew) rfl).alloc _, CellsAt.new W1.drew 144 entZ⟩
    refine wpAnyT_one (i := 10) rfl (by kernel_rfl) (by kernel_rfl) (fun K hK => ?_)
    go_simp
    refine forget (p := fun y => K _ y) (fun W3 => Below w.heap.size w W3 ∧ CellsAt W3 w.heap.size 44 E ∧ CellsAt W3 W1.heap.size 144 entZ) HAL.out ?_
    rintro W3 ⟨hB3, hx3, hz3⟩
    clear q1 q2 q4 q5 HAL
    obtain ⟨q1, q2, q4, q5, -⟩ := HT.out W3 hB3 hx3
    replace hT : (fun w' : World => w'.cell? ⟨H, 0, none⟩ = some (.map (some b)) ∧ w'.rangeAt w.heap.size 0 (dotC e.da e.ds) ∧ BookAt w' b L) W3 := ⟨q4, q2, q5⟩
    replace hS : (fun _ : World => True) W3 := trivial
    refine hK.out _ _ hT (fun _ => hS) ?_
    clear hK K
    try simp only [Act.put, gA, gS, gZ, sI, sZ, sS]
    have hx4 := hx3.setRowM KV.toArray (show w.heap.size ≠ W1.heap.size by omega)
    have hB4 : Below w.heap.size w (W3.setRow W1.heap.size KV.toArray) := ⟨hB3.os, hB3.tape, hB3.output, by have := hB3.size; simp [World.setRow, World.putObj]; omega, fun k hk => (setRow_other _ _ _ _ (by omega)).trans (hB3.block k hk)⟩
    refine wpAnyT_one (i := 11) rfl (by kernel_rfl) (by kernel_rfl) (fun K hK => ?_)
    refine wp_stvE 144 _ _ rfl W1.heap.size rfl (cs := KV) rfl hz3 iK (by rw [hk17]; rfl) hk1 ?_
    clear q1 q2 q4 q5
    obtain ⟨q1, q2, q4, q5, -⟩ := HT.out _ hB4 hx4
    replace hT : (fun w' : World => w'.cell? ⟨H, 0, none⟩ = some (.map (some b)) ∧ w'.rangeAt w.heap.size 0 (dotC e.da e.ds) ∧ BookAt w' b L) (W3.setRow W1.heap.size KV.toArray) := ⟨q4, q2, q5⟩
    replace hS : (fun _ : World => True) (W3.setRow W1.heap.size KV.toArray) := trivial
    refine hK.out _ _ hT (fun _ => hS) ?_
    clear hK K
    try simp only [Act.put, gA, gS, gZ, sI, sZ, sS]
    refine ghA 12 _ hT hS ?_
    simp only [Act.put, gA, gS, gZ, sI, sZ, sS]
    refine wpAnyT_done (by kernel_rfl) ?_ _
    clear hT hS hz3 hx3 hB3 hB2 hx2 HLK
    generalize W3.setRow W1.heap.size KV.toArray = W5 at hx4 hB4 q1 q2 q4 q5 ⊢
    generalize W1.heap.size = Bk
    cases kb
    rotate_left
    · replace HN : Veil (RN = 5) := ⟨HN.out⟩
      go_wp2
      go_ret
      exact ⟨by rw [HN.out]; rfl, hB4⟩
    · replace HN : Veil (RN = if 512 ≤ L.length then 10 else 0) := ⟨HN.out⟩
      have hln := blen_any H b L W5 (HC.out.far hB4)
      by_cases h5 : 512 ≤ L.length
      · replace HN : Veil (RN = 10) := ⟨by rw [HN.out, if_pos h5]⟩
        have h5i : (512 : Int) ≤ (L.length : Int) := by omega
        go_wp2_with (go_at_call 130; refine hln.mono ?_; rintro x W6 ⟨rfl, rfl⟩)
        go_ret
        exact ⟨by rw [HN.out]; rfl, hB4⟩
      · replace HN : Veil (RN = 0) := ⟨by rw [HN.out, if_neg h5]⟩
        have h5i : ¬ (512 : Int) ≤ (L.length : Int) := by omega
        go_wp2_with (go_at_call 130; refine hln.mono ?_; rintro x W6 ⟨rfl, rfl⟩)
        go_ret
        exact ⟨by rw [HN.out]; rfl, hB4⟩
theorem exec_bldA {P : Program} {ρ : Operand → Value} {o : Oper} {w : World} (t : TypeId) (parts : Array (Nat × Operand)) (ho : o.op = .build t parts) (vals : Array (Nat × Value)) (hv : (parts.map fun (i, x) => (i, ρ x)) = vals) (v : Value) (hrun : (Instr.build t vals).run P w = .ok v w) : (execOp ρ o).run P w = .ok (.value v) w := by
 unfold execOp
 simp only [ho, hv, Sem.run_bind, hrun, Result.andThen_ok, Sem.run_pure]
theorem entry_zero : (Tryz.prog.info? 144).map (·.zero) = some (some (.agg entZ.toArray)) := by kernel_rfl
theorem ent_built (E : List Value) (c : Bool) (hE : E.length = 17) (w : World) : (Instr.build 144 #[(0, .agg E.toArray), (1, .bool c)]).run Tryz.prog w = .ok (.agg (E ++ [Value.bool c]).toArray) w := by
 refine run_build w _ _ _ ?_
 rw [built_of entry_zero Tryz.underlying144 (by kernel_rfl) (places := [(0, 17), (17, 1)])]
 rw [fill_cons _ _ E 0 0 17 _ _ rfl rfl hE (by decide), show entZ.take 0 ++ E ++ entZ.drop (0 + 17) = E ++ [Value.bool false] from by simp]
 rw [fill_cons _ _ [.bool c] 1 17 1 _ _ rfl rfl rfl (by rw [List.length_append, hE]; decide), Instr.fill]
 rw [← hE, List.take_left, List.drop_eq_nil_of_le (by simp), List.append_nil]
def addB (L : List Ent) (e : Ev) : List Ent := if refB L e = 0 then L ++ [(e, roleP L e.da e.past == 3)] else L
theorem BookC.turn {w w' : World} {H b : Nat} {L : List Ent} (h : BookC w H b L) (L2 : List Ent) (hm : BookAt w' b L2) (hg : w.grownBy w' (some b)) : BookC w' H b L2 :=
 ⟨h.cells.congr (hg.block H h.cells.lt (fun e => h.map.cellsNe h.cells (Option.some.inj e).symm)), hm⟩
set_option maxHeartbeats 4000000 in
theorem badd_any (H b : Nat) (L : List Ent) (e : Ev) (w : World) (hC : BookC w H b L) (he : e.Ok) (hL : L.length ≤ 1000) :
    Calls Tryz.prog 116 #[.pointer (some ⟨H, 0, none⟩), .agg e.cells.toArray] w fun r w' => r = .returned (.int .i64 (refB L e)) ∧ BookC w' H b (addB L e) ∧ Turn (fun k => k = b) w w' := by
 have hB0 : Below w.heap.size w (w.alloc (.cells e.cells.toArray 44)) := (Below.refl _ _).alloc (Nat.le_refl _) _
 have hx0 := CellsAt.new w 44 e.cells
 have he1 := aev_len e he.past
 have iE : (Tryz.prog.info? 44).map (·.size) = some e.cells.length := by rw [he1]; kernel_rfl
 have iD : (Tryz.prog.info? 40).map (·.size) = some (dotC e.da e.ds).length := sizeDot
 have iP : (Tryz.prog.info? 37).map (·.size) = some (e.past.map (Value.int .u32)).length := by rw [List.length_map, he.past]; kernel_rfl
 have uE := Tryz.underlying44
 have uD := Tryz.underlying40
 have uV := Tryz.underlying37
 have hrf := brefuse_any H b L e (w.alloc (.cells e.cells.toArray 44)) (hC.far hB0) he hL
 have HT : Veil (∀ W, Below w.heap.size w W → CellsAt W w.heap.size 44 e.cells → W.cell? ⟨H, 0, none⟩ = some (.map (some b)) ∧ W.rangeAt w.heap.size 0 (dotC e.da e.ds) ∧ W.rangeAt w.heap.size 0 e.cells ∧ W.cell? ⟨w.heap.size, 0, none⟩ = some (.int .u8 e.da) ∧ W.rangeAt w.heap.size 2 (e.past.map (Value.int .u32))) := ⟨fun W hb hx => by
  have h1 := hx.range 0 2
  rw [(ev_parts e he.past).1] at h1
  have h2 := hx.range 2 8
  rw [(ev_parts e he.past).2.1] at h2
  exact ⟨(hC.far hb).mapCell, h1, hx.wholeM, by have := h1 0 _ rfl; simpa using this, h2⟩⟩
 have HRO : Veil (∀ W, Below w.heap.size w W → Calls Tryz.prog 79 #[.pointer (some ⟨H, 0, none⟩), .int .u8 e.da, .agg (e.past.map (Value.int .u32)).toArray] W fun r w' => r = .returned (.int .u8 (roleP L e.da e.past)) ∧ Below W.heap.size W w') := ⟨fun W hb => role_any H b L e.da e.past W (hC.far hb) he.past⟩
 have HAD : Veil (addB L e = if refB L e = 0 then L ++ [(e, roleP L e.da e.past == 3)] else L) := ⟨rfl⟩
 have HLN : Veil (refB L e = 0 → lookB L e.dot = none ∧ L.length < 512) := ⟨fun h => by
  unfold refB at h
  split at h
  · cases h
  · split at h
    · cases h
    · split at h
      · cases h
      · rename_i hs
        split at h
        · cases h
        · exact ⟨by simpa using hs, by omega⟩⟩
 have HC := Veil.mk hC
 have HE := Veil.mk he
 have HEN : Veil (∀ c, entC (e, c) = e.cells ++ [Value.bool c]) := ⟨fun c => rfl⟩
 obtain ⟨E, hE⟩ : ∃ E, e.cells = E := ⟨_, rfl⟩
 rw [hE] at hB0 hx0 iE HT he1 hrf HEN ⊢
 generalize hRN : refB L e = RN at hrf HAD HLN ⊢
 generalize roleP L e.da e.past = RP at HRO HAD
 generalize hAB : addB L e = AB at HAD ⊢
 generalize hda : e.da = DA at HT HRO
 clear hC he hE hRN hAB
 obtain ⟨PV, hPV⟩ : ∃ q, e.past.map (Value.int .u32) = q := ⟨_, rfl⟩
 rw [hPV] at HT HRO iP
 obtain ⟨DV, hDV⟩ : ∃ q, dotC DA e.ds = q := ⟨_, rfl⟩
 rw [hda] at iD
 have HDV : Veil (dotC e.da e.ds = DV) := ⟨by rw [hda]; exact hDV⟩
 rw [hDV] at HT iD
 clear hPV hDV hda
 go_enter Tryz.func116, Tryz.ntmps116
 have hrE := hx0.wholeM
 go_upto_region 2 with (first
  | (refine wpList_ldv rfl 44 _ rfl w.heap.size 0 rfl E hrE uE rfl iE ?_)
  | (go_at_call 126; refine hrf.mono ?_; rintro z W1 ⟨rfl, hb1⟩))
 have hB1 := hB0.trans (hb1.mono hB0.size)
 have hx1 := hx0.farM hb1
 clear hrE hrf hb1 hB0 hx0
 by_cases h0 : RN = 0
 rotate_left
 · replace HAD : Veil (AB = L) := ⟨by rw [HAD.out, if_neg h0]⟩
   have h0b : (RN != 0) = true := by simpa using h0
   clear h0
   go_wp2
   go_ret
   exact ⟨rfl, by rw [HAD.out]; exact HC.out.far hB1, Turn.of_below hB1⟩
 · obtain ⟨hlk, hlt⟩ := HLN.out h0
   replace HAD : Veil (AB = L ++ [(e, RP == 3)]) := ⟨by rw [HAD.out, if_pos h0]⟩
   have HLK : Veil (lookB L e.dot = none ∧ L.length < 512) := ⟨hlk, hlt⟩
   subst h0
   clear hlk hlt HLN
   go_upto_region 4 with fail
   obtain ⟨q1, q2, q3, q4, q5⟩ := HT.out W1 hB1 hx1
   have hro := HRO.out W1.drew hB1.drew
   refine wp_region_gateT (fun w' => w'.cell? ⟨H, 0, none⟩ = some (.map (some b)) ∧ w'.rangeAt w.heap.size 0 DV ∧ w'.rangeAt w.heap.size 0 E ∧ w'.cell? ⟨w.heap.size, 0, none⟩ = some (.int .u8 DA) ∧ w'.rangeAt w.heap.size 2 PV) (fun _ => True) 99 (by kernel_rfl) ?_
   have hT : (fun w' : World => w'.cell? ⟨H, 0, none⟩ = some (.map (some b)) ∧ w'.rangeAt w.heap.size 0 DV ∧ w'.rangeAt w.heap.size 0 E ∧ w'.cell? ⟨w.heap.size, 0, none⟩ = some (.int .u8 DA) ∧ w'.rangeAt w.heap.size 2 PV) W1.drew := ⟨q1, q2, q3, q4, q5⟩
   have hS : (fun _ : World => True) W1.drew := trivial
   refine ghA 0 _ hT hS ?_
   simp only [Act.put, gA, gS, gZ, sI, sZ, sS]
   refine ghA 1 _ hT hS ?_
   simp only [Act.put, gA, gS, gZ, sI, sZ, sS]
   refine ghA 2 _ hT hS ?_
   simp only [Act.put, gA, gS, gZ, sI, sZ, sS]
   refine ghA 3 _ hT hS ?_
   simp only [Act.put, gA, gS, gZ, sI, sZ, sS]
   refine ghA 4 _ hT hS ?_
   simp only [Act.put, gA, gS, gZ, sI, sZ, sS]
   refine gl 5 17 40 16 w.heap.size 0 DV (by kernel_rfl) (by kernel_rfl) (by kernel_rfl) (fun _ _ _ h => h) hT hS (by kernel_rfl) (fun _ h => h.2.1) uD rfl iD ?_
   simp only [Act.put, gA, gS, gZ, sI, sZ, sS]
   refine gl 6 18 44 3 w.heap.size 0 E (by kernel_rfl) (by kernel_rfl) (by kernel_rfl) (fun _ _ _ h => h) hT hS (by kernel_rfl) (fun _ h => h.2.2.1) uE rfl iE ?_
   simp only [Act.put, gA, gS, gZ, sI, sZ, sS]
   refine ghA 7 _ hT hS ?_
   simp only [Act.put, gA, gS, gZ, sI, sZ, sS]
   refine ghA 8 _ hT hS ?_
   simp only [Act.put, gA, gS, gZ, sI, sZ, sS]
   refine ghA 9 _ hT hS ?_
   simp only [Act.put, gA, gS, gZ, sI, sZ, sS]
   refine ghA 10 _ hT hS ?_
   simp only [Act.put, gA, gS, gZ, sI, sZ, sS]
   refine ghA 11 _ hT hS ?_
   simp only [Act.put, gA, gS, gZ, sI, sZ, sS]
   refine gl 12 24 37 23 w.heap.size 2 PV (by kernel_rfl) (by kernel_rfl) (by kernel_rfl) (fun _ _ _ h => h) hT hS (by kernel_rfl) (fun _ h => h.2.2.2.2) uV rfl iP ?_
   simp only [Act.put, gA, gS, gZ, sI, sZ, sS]
   refine wpAnyT_one (i := 13) rfl (by kernel_rfl) (by kernel_rfl) (fun K hK => ?_)
   refine wpx_call _ _ (by kernel_rfl) (hro.mono ?_)
   rintro z W6 ⟨rfl, hb6⟩
   refine ⟨_, rfl, ?_⟩
   have hB6 := hB1.drew.trans (hb6.mono hB1.size)
   have hx6 := (hx1.congr (w' := W1.drew) rfl).farM hb6
   replace hT : (fun w' : World => w'.cell? ⟨H, 0, none⟩ = some (.map (some b)) ∧ w'.rangeAt w.heap.size 0 DV ∧ w'.rangeAt w.heap.size 0 E ∧ w'.cell? ⟨w.heap.size, 0, none⟩ = some (.int .u8 DA) ∧ w'.rangeAt w.heap.size 2 PV) W6 := HT.out W6 hB6 hx6
   replace hS : (fun _ : World => True) W6 := trivial
   refine hK.out _ _ hT (fun _ => hS) ?_
   clear hK K
   try simp only [Act.put, gA, gS, gZ, sI, sZ, sS]
   refine ghA 14 (.bool (RP == 3)) hT hS ?_
   simp only [Act.put, gA, gS, gZ, sI, sZ, sS]
   refine wpAnyT_held (i := 15) (v := (.agg (E ++ [Value.bool (RP == 3)]).toArray)) rfl (by kernel_rfl) (by kernel_rfl) (by kernel_rfl) (fun _ _ _ h => h) (by kernel_rfl) hT (fun _ => hS) (by kernel_rfl) (fun wx h => exec_bldA _ _ rfl #[(0, .agg E.toArray), (1, .bool (RP == 3))] (by kernel_rfl) _ (ent_built E (RP == 3) he1 wx)) ?_
   simp only [Act.put, gA, gS, gZ, sI, sZ, sS]
   obtain ⟨V2, hrun, hb2, hg2⟩ := (HC.out.far hB6).map.store Tryz.underlying127 (by have := HLK.out.2; omega) (e, RP == 3) HE.out HLK.out.1
   rw [HEN.out] at hrun
   rw [show dotC (e, RP == 3).fst.da (e, RP == 3).fst.ds = DV from HDV.out] at hrun
   have hC2 : BookC V2 H b (L ++ [(e, RP == 3)]) := (HC.out.far hB6).turn _ hb2 hg2
   have hTu : Turn (fun k => k = b) w V2 := (Turn.of_below hB6).trans (Turn.of_grown hg2 (fun k e => (Option.some.inj e).symm))
   have hx7 : CellsAt V2 w.heap.size 44 E := hx6.congr (hg2.block _ hx6.lt (fun q => (HC.out.far hB6).map.cellsNe hx6 (Option.some.inj q).symm))
   refine wpAnyT_one (i := 16) rfl (by kernel_rfl) (by kernel_rfl) (fun K hK => ?_)
   refine wpx_upd _ _ _ _ rfl _ _ _ V2 rfl rfl rfl hrun ?_
   have hT7 : (fun w' : World => w'.cell? ⟨H, 0, none⟩ = some (.map (some b)) ∧ w'.rangeAt w.heap.size 0 DV ∧ w'.rangeAt w.heap.size 0 E ∧ w'.cell? ⟨w.heap.size, 0, none⟩ = some (.int .u8 DA) ∧ w'.rangeAt w.heap.size 2 PV) V2 := by
    have hk : V2.heap[w.heap.size]? = W6.heap[w.heap.size]? := hg2.block _ hx6.lt (fun q => (HC.out.far hB6).map.cellsNe hx6 (Option.some.inj q).symm)
    obtain ⟨-, r2, r3, r4, r5⟩ := hT
    exact ⟨hC2.mapCell, fun j u hu => (World.cell?_of_block (a := ⟨w.heap.size, 0 + j, none⟩) hk).trans (r2 j u hu), fun j u hu => (World.cell?_of_block (a := ⟨w.heap.size, 0 + j, none⟩) hk).trans (r3 j u hu), (World.cell?_of_block (a := ⟨w.heap.size, 0, none⟩) hk).trans r4, fun j u hu => (World.cell?_of_block (a := ⟨w.heap.size, 2 + j, none⟩) hk).trans (r5 j u hu)⟩
   clear hT
   have hT := hT7
   replace hS : (fun _ : World => True) V2 := trivial
   refine hK.out _ _ hT (fun _ => hS) ?_
   clear hK K
   try simp only [Act.put, gA, gS, gZ, sI, sZ, sS]
   refine wpAnyT_done (by kernel_rfl) ?_ _
   clear hT hS hT7 hrun hg2 hro q1 q2 q3 q4 q5
   go_wp2
   go_ret
   exact ⟨rfl, by rw [HAD.out]; exact hC2, hTu⟩
end Go.Proofs.YtmbdohnmbkpfaaaGreat
