/- Hn -/
import Derived.Test.YtlhajphjppjlgaaGreatDoorV0
import Derived.Test.YtlhajphjppjlgaaGreatDoorV41
namespace Go.Proofs.YtlhajphjppjlgaaGreatDoor
open Go.RowKit
set_option maxRecDepth 20000
set_option linter.unusedSimpArgs false
theorem linkOf_any (F : Fr) (xw : Option Addr) (lw cw : Nat) (ws : List Wp) (xb : Option Addr) (lb cb : Nat) (body : List Int) (w : World) (hF : FrIn w F xw lw cw ws xb lb cb body) (hKT : S.KTab w) :
    Calls Tryz.prog 27 #[.agg F.cells.toArray] w fun e w' => e = .returned (.agg (linkC (F.author, F.number, fsum F lw lb ws body)).toArray) ∧ Below w.heap.size w w' := by
  obtain ⟨q0, q1, q2, -⟩ := fr_parts F hF.prev hF.mac
  have hiF : (Tryz.prog.info? 32).map (·.size) = some F.cells.length := by rw [q0]; exact sizeFrame
  have uF : Tryz.prog.underlying 32 = _ := Tryz.underlying32
  obtain ⟨LZ, hLZ, hLl⟩ : ∃ LZ : List Value, LZ = linkC (0, 0, List.replicate 32 0) ∧ LZ.length = 34 := ⟨_, rfl, rfl⟩
  have hD0 := (CellsAt.new w 32 F.cells).alloc (.cells LZ.toArray 83)
  have hr0 := CellsAt.new (w.alloc (.cells F.cells.toArray 32)) 83 LZ
  rw [World.size_alloc] at hr0
  have hB : Below w.heap.size w ((w.alloc (.cells F.cells.toArray 32)).alloc (.cells LZ.toArray 83)) := ((Below.refl _ _).alloc (Nat.le_refl _) _).alloc (by simp) _
  have HSUM : Veil (∀ W, Below w.heap.size w W → Calls Tryz.prog 11 #[.agg F.cells.toArray] W fun e w' => e = .returned (.agg (row .u8 (fsum F lw lb ws body))) ∧ Below W.heap.size W w') := ⟨fun W hb => fSum_any F xw lw cw ws xb lb cb body W (hF.below hb) (hKT.below hb)⟩
  have hsl : (fsum F lw lb ws body).length = 32 := by
    unfold fsum; split
    · exact S.sumL_length _
    · rfl
  generalize fsum F lw lb ws body = SM at HSUM hsl ⊢
  generalize F.author = A at q1 ⊢
  generalize F.number = N at q2 ⊢
  rw [hLZ] at hD0 hr0 hB
  clear hF hKT q0
  go_enter Tryz.func27, Tryz.ntmps27
  go_upto_region 1 with fail
  refine forget (p := fun y => Code.wp _ _ _ _ y) (fun W => Below w.heap.size w W ∧ CellsAt W w.heap.size 32 F.cells ∧ CellsAt W (w.heap.size + 1) 83 LZ) ⟨hB, hD0, by rw [hLZ]; exact hr0⟩ ?_
  clear hB hD0 hr0 hLZ
  rintro W ⟨hB, hD0, hr0⟩
  refine wp_region_gate (fun w' => w'.cell? ⟨w.heap.size, 0, none⟩ = some (.int .u8 A) ∧ w'.cell? ⟨w.heap.size, 1, none⟩ = some (.int .u32 N) ∧ w'.rangeAt w.heap.size 0 F.cells) 8 (by kernel_rfl) ?_
  have HS : ∀ W' : World, CellsAt W' w.heap.size 32 F.cells → (fun w' : World => w'.cell? ⟨w.heap.size, 0, none⟩ = some (.int .u8 A) ∧ w'.cell? ⟨w.heap.size, 1, none⟩ = some (.int .u32 N) ∧ w'.rangeAt w.heap.size 0 F.cells) W' := fun W' h => ⟨by rw [h.cell]; exact q1, by rw [h.cell]; exact q2, h.wholeM⟩
  have hS := HS W.drew (hD0.congr rfl)
  have hsum := HSUM.out W.drew hB.drew
  refine ga 0 ?_ rfl (by kernel_rfl) (fun _ _ _ h => h) hS ?_ ?_
  rotate_left
  · intro _; go_simp; try with_reducible rfl
  simp only [Act.put, gA, gS, gZ, sI, sZ, sS]
  refine ga 2 ?_ rfl (by kernel_rfl) (fun _ _ _ h => h) hS ?_ ?_
  rotate_left
  · intro _; go_simp; try with_reducible rfl
  simp only [Act.put, gA, gS, gZ, sI, sZ, sS]
  refine gr 1 ?_ rfl (by kernel_rfl) (fun _ _ _ h => h) hS ?_ ?_
  rotate_left
  · intro wx hSw; go_split_ands; go_simp; try with_reducible rfl
  simp only [Act.put, gA, gS, gZ, sI, sZ, sS]
  refine gr 3 ?_ rfl (by kernel_rfl) (fun _ _ _ h => h) hS ?_ ?_
  rotate_left
  · intro wx hSw; go_split_ands; go_simp; try with_reducible rfl
  simp only [Act.put, gA, gS, gZ, sI, sZ, sS]
  refine wpAnyG_load (i := 4) (dst := some 7) (ty := 32) (x := .tmp 1) (b := w.heap.size) (o := (0)) (cs := F.cells) (by kernel_rfl) (by kernel_rfl) (by kernel_rfl) (by kernel_rfl) (by kernel_rfl) (fun _ _ _ h => h) (by kernel_rfl) (by kernel_rfl) (by kernel_rfl) hS (by kernel_rfl) (fun _ h => h.2.2) uF rfl hiF ?_
  simp only [Act.put, gA, gS, gZ, sI, sZ, sS]
  refine wpAnyG_one (i := 5) rfl (by kernel_rfl) (by kernel_rfl) (fun K hK => ?_)
  refine wpx_call _ _ (by kernel_rfl) (hsum.mono ?_)
  rintro e w1 ⟨rfl, hb1⟩
  refine ⟨_, rfl, ?_⟩
  have hB1 := hB.drew.trans (hb1.mono hB.drew.size)
  have hD1 := (hD0.congr (w' := W.drew) rfl).farM hb1
  have hr1 := (hr0.congr (w' := W.drew) rfl).farM hb1
  replace hS := HS w1 hD1
  refine hK.out _ _ (fun _ => hS) ?_
  clear hK K
  try simp only [Act.put, gA, gS, gZ, sI, sZ, sS]
  refine gr 6 (.agg (headC (N, SM)).toArray) rfl (by kernel_rfl) (fun _ _ _ h => h) hS (fun wx h => execBuildT 40 _ rfl #[(0, .int .u32 N), (1, .agg (row .u8 SM))] (by kernel_rfl) (headBuilt N SM hsl wx)) ?_
  simp only [Act.put, gA, gS, gZ, sI, sZ, sS]
  refine gr 7 (.agg (linkC (A, N, SM)).toArray) rfl (by kernel_rfl) (fun _ _ _ h => h) hS (fun wx h => execBuildT 83 _ rfl #[(0, .int .u8 A), (1, .agg (headC (N, SM)).toArray)] (by kernel_rfl) (linkBuilt (A, N, SM) hsl wx)) ?_
  simp only [Act.put, gA, gS, gZ, sI, sZ, sS]
  refine wpAnyG_one (i := 8) rfl (by kernel_rfl) (by kernel_rfl) (fun K hK => ?_)
  refine wp_stvE 83 _ _ rfl _ rfl (cs := linkC (A, N, SM)) rfl hr1 (by rw [linkC_len (A, N, SM) hsl]; exact sizeLink) (by rw [linkC_len (A, N, SM) hsl, hLl]) (linkC_one _) ?_
  refine hK.out _ _ (fun h => absurd (show true = false from h) (by decide)) ?_
  clear hK K
  try simp only [Act.put, gA, gS, gZ, sI, sZ, sS]
  refine wpAnyG_done (by kernel_rfl) ?_ _
  have hB2 := below_setRow hB1 (show w.heap.size ≤ w.heap.size + 1 by omega) (linkC (A, N, SM)).toArray
  have hr2 := hr1.setRow (linkC (A, N, SM))
  clear hS HS hD0 hD1 hr0 hr1 hb1 hsum HSUM hB hB1
  go_wp2
  refine bodyPost_ret (results_cells (Tryz.results27) _ rfl hr2 Tryz.underlying83 rfl (by rw [linkC_len (A, N, SM) hsl]; exact sizeLink)) rfl ⟨rfl, hB2⟩
theorem zero_ofH {P : Program} {t : TypeId} {Z : List Value} (h : (P.info? t).map (fun i => i.zero) = some (some (.agg Z.toArray))) (wx : World) : (zeroValue t).run P wx = .ok (.agg Z.toArray) wx := by
  cases hq : P.info? t with
  | none => simp [hq] at h
  | some i =>
    have hz : i.zero = some (.agg Z.toArray) := by simpa [hq] using h
    simp [zeroValue, typeInfo, hq, hz]
theorem zeroHeadsH : ∃ Z : List Value, (∀ wx, (zeroValue 41).run Tryz.prog wx = .ok (.agg Z.toArray) wx) ∧ ¬ Z.toArray = #[] ∧ Z = headsC (headsOf noS) :=
  ⟨_, zero_ofH (by kernel_rfl), by intro h; have := congrArg Array.size h; revert this; decide, rfl⟩
theorem chainBuilt (b : Nat) (w : World) : (Instr.build 80 #[(1, .map (some b))]).run Tryz.prog w = .ok (.agg (chainC noS b (.slice none 0 0)).toArray) w := run_build w _ _ _ (by kernel_rfl)
set_option maxHeartbeats 4000000 in
theorem chNew_any (w : World) :
    Calls Tryz.prog 7 #[] w fun e w' => e = .returned (.pointer (some ⟨w.heap.size + 1, 0, none⟩)) ∧ ChainAt w' w.heap.size (w.heap.size + 1) w.heap.size (.slice none 0 0) noS [] ∧ w'.heap.size = w.heap.size + 2 ∧ Below w.heap.size w w' := by
  obtain ⟨C, hC⟩ : ∃ C : List Value, C = chainC noS w.heap.size (.slice none 0 0) := ⟨_, rfl⟩
  have hbd := fun wx => chainBuilt w.heap.size wx
  rw [← hC] at hbd
  have HBD := Veil.mk hbd
  have HC := Veil.mk hC
  clear hbd hC
  have hD := CellsAt.new (w.alloc (.map #[] 0)) 80 C
  rw [World.size_alloc] at hD
  have hM : MapG Tryz.prog 83 encL okL ((w.alloc (.map #[] 0)).alloc (.cells C.toArray 80)) w.heap.size 0 (fun _ => none) := (MapG.made w).congr (Below.heap_alloc _ _ _ (by simp))
  have hB : Below w.heap.size w ((w.alloc (.map #[] 0)).alloc (.cells C.toArray 80)) := ((Below.refl _ _).alloc (Nat.le_refl _) _).alloc (by simp) _
  have hmm := @run_makeMap Tryz.prog
  go_enter Tryz.func7, Tryz.ntmps7
  go_wp2_with (first
    | (refine wpList_bldx rfl 80 _ rfl #[(1, .map (some w.heap.size))] (by first | rfl | kernel_rfl) _ (HBD.out _) ?_))
  go_ret
  refine ⟨rfl, ⟨by rw [← HC.out]; exact hD, ?_, OwnI.nil _ _ _ _, okS_no, by simp, by simp, by omega, Nat.le_refl _⟩, by simp, hB⟩
  rw [linkM_no]; exact hM
section
variable (base H b : Nat) (v : Value) (T : Sms) (P : List Pf) (w : World)
set_option maxHeartbeats 4000000 in
theorem chPut_any (a : Nat) (k : List Int) (ha : a < 8) (hk : okK k) (hc : cnt T a < 256) (hC : ChainAt w base H b v T P) :
    Calls Tryz.prog 26 #[.pointer (some ⟨H, 0, none⟩), .agg (linkC ((a : Int), ((cnt T a + 1 : Nat) : Int), k)).toArray, .agg (row .u8 (atN T a (cnt T a)))] w fun e w' => (∃ r, e = .returned r) ∧ ChainAt w' base H b v (addS T a k) P ∧ Turn (chainP H b v) w w' := by
  obtain ⟨N, hN⟩ : ∃ q, cnt T a + 1 = q := ⟨_, rfl⟩
  have hNle : N ≤ 256 := by omega
  obtain ⟨PK, hPK⟩ : ∃ q, atN T a (cnt T a) = q := ⟨_, rfl⟩
  have hPok : okK PK := by rw [← hPK]; exact hC.ok.at_ok _ _
  have hPl := hPok.1
  have HADD : Veil (linkM (addS T a k) = putG (linkM T) ((a : Int), (N : Int), k) (encK PK)) := ⟨by rw [linkM_add hC.ok a ha k, hN, hPK]⟩
  have HPUT : Veil ((chainC T b v).take (a * 33) ++ headC ((N : Int), k) ++ (chainC T b v).drop (a * 33 + 33) = chainC (addS T a k) b v) := ⟨by rw [← chainC_put hC.ok b v a ha k, hN]⟩
  have hl : okL ((a : Int), (N : Int), k) := ⟨⟨by show (0 : Int) ≤ a; omega, by show (a : Int) ≤ 255; omega⟩, ⟨by show (0 : Int) ≤ N; omega, by show (N : Int) ≤ 4294967295; omega⟩, hk⟩
  have hll := linkC_len ((a : Int), (N : Int), k) hk.1
  have hhl := headC_len ((N : Int), k) hk.1
  rw [hN, hPK]
  clear hPK
  have hd0 := (CellsAt.new w 83 (linkC ((a : Int), (N : Int), k))).alloc (.cells (row .u8 PK) 23)
  have hk0 := Holds.new (w.alloc (.cells (linkC ((a : Int), (N : Int), k)).toArray 83)) .u8 23 PK
  rw [World.size_alloc] at hk0
  have hB : Below w.heap.size w ((w.alloc (.cells (linkC ((a : Int), (N : Int), k)).toArray 83)).alloc (.cells (row .u8 PK) 23)) := ((Below.refl _ _).alloc (Nat.le_refl _) _).alloc (by simp) _
  have hin := hC.inside
  have uL : Tryz.prog.underlying 83 = _ := Tryz.underlying83
  have uK : Tryz.prog.underlying 23 = _ := Tryz.underlying23
  have uH : Tryz.prog.underlying 40 = _ := Tryz.underlying40
  have iL : (Tryz.prog.info? 83).map (·.size) = some (linkC ((a : Int), (N : Int), k)).length := by rw [hll]; exact sizeLink
  have iK : (Tryz.prog.info? 23).map (·.size) = some (PK.map (Value.int .u8)).length := by rw [List.length_map, hPl]; exact sizeKeyH
  have iH : (Tryz.prog.info? 40).map (·.size) = some (headC ((N : Int), k)).length := by rw [hhl]; exact sizeHead1
  go_enter Tryz.func26, Tryz.ntmps26
  go_upto_region 1 with fail
  refine forget (p := fun y => Code.wp _ _ _ _ y) (fun W => Below w.heap.size w W ∧ ChainAt W base H b v T P ∧ CellsAt W w.heap.size 83 (linkC ((a : Int), (N : Int), k)) ∧ Holds W (w.heap.size + 1) .u8 23 PK) ⟨hB, hC.far hB, hd0, hk0⟩ ?_
  clear hB hd0 hk0
  rintro W ⟨hB, hC0, hd0, hk0⟩
  have hkr : ∀ W', Holds W' (w.heap.size + 1) .u8 23 PK → W'.rangeAt (w.heap.size + 1) 0 (PK.map (Value.int .u8)) := fun W' h => CellsAt.wholeM (t := 23) h
  refine wp_region_gate (fun w' => w'.cell? ⟨H, 264, none⟩ = some (.map (some b)) ∧ w'.rangeAt w.heap.size 0 (linkC ((a : Int), (N : Int), k)) ∧ w'.rangeAt (w.heap.size + 1) 0 (PK.map (Value.int .u8))) 6 (by kernel_rfl) ?_
  have hS : (fun w' : World => w'.cell? ⟨H, 264, none⟩ = some (.map (some b)) ∧ w'.rangeAt w.heap.size 0 (linkC ((a : Int), (N : Int), k)) ∧ w'.rangeAt (w.heap.size + 1) 0 (PK.map (Value.int .u8))) W.drew := ⟨by have := hC0.box.cell 264; rw [chainC_map hC0.ok] at this; exact this, hd0.wholeM, hkr W hk0⟩
  refine ga 0 ?_ rfl (by kernel_rfl) (fun _ _ _ h => h) hS ?_ ?_
  rotate_left
  · intro _; go_simp; try with_reducible rfl
  simp only [Act.put, gA, gS, gZ, sI, sZ, sS]
  refine ga 1 ?_ rfl (by kernel_rfl) (fun _ _ _ h => h) hS ?_ ?_
  rotate_left
  · intro _; go_simp; try with_reducible rfl
  simp only [Act.put, gA, gS, gZ, sI, sZ, sS]
  refine ga 2 ?_ rfl (by kernel_rfl) (fun _ _ _ h => h) hS ?_ ?_
  rotate_left
  · intro _; go_simp; try with_reducible rfl
  simp only [Act.put, gA, gS, gZ, sI, sZ, sS]
  refine gr 3 ?_ rfl (by kernel_rfl) (fun _ _ _ h => h) hS ?_ ?_
  rotate_left
  · intro wx hSw; go_split_ands; go_simp; try with_reducible rfl
  simp only [Act.put, gA, gS, gZ, sI, sZ, sS]
  refine wpAnyG_load (i := 4) (dst := some 10) (ty := 83) (x := .tmp 4) (b := w.heap.size) (o := (0)) (cs := (linkC ((a : Int), (N : Int), k))) (by kernel_rfl) (by kernel_rfl) (by kernel_rfl) (by kernel_rfl) (by kernel_rfl) (fun _ _ _ h => h) (by kernel_rfl) (by kernel_rfl) (by kernel_rfl) hS (by kernel_rfl) (fun _ h => h.2.1) uL rfl iL ?_
  simp only [Act.put, gA, gS, gZ, sI, sZ, sS]
  refine wpAnyG_load (i := 5) (dst := some 11) (ty := 23) (x := .tmp 5) (b := (w.heap.size + 1)) (o := (0)) (cs := (PK.map (Value.int .u8))) (by kernel_rfl) (by kernel_rfl) (by kernel_rfl) (by kernel_rfl) (by kernel_rfl) (fun _ _ _ h => h) (by kernel_rfl) (by kernel_rfl) (by kernel_rfl) hS (by kernel_rfl) (fun _ h => h.2.2) uK rfl iK ?_
  simp only [Act.put, gA, gS, gZ, sI, sZ, sS]
  refine wpAnyG_one (i := 6) rfl (by kernel_rfl) (by kernel_rfl) (fun K hK => ?_)
  obtain ⟨W1, hrun, hM1, hg1⟩ := (hC0.map.congr (w' := W.drew) rfl).store keyEncL mapLinkKey (by have := hC0.ok.tot_le; simp [maxLen]; omega) ((a : Int), (N : Int), k) hl (encK PK)
  refine wpx_upd 78 _ _ _ rfl _ _ _ _ rfl rfl rfl hrun ?_
  refine hK.out _ _ (fun h => absurd (show true = false from h) (by decide)) ?_
  clear hK K
  try simp only [Act.put, gA, gS, gZ, sI, sZ, sS]
  refine wpAnyG_done (by kernel_rfl) ?_ _
  have hbH := hC0.neHB
  have hT1 : Turn (chainP H b v) w W1 := (Turn.of_below hB).trans ((Turn.of_below (w' := W.drew) (Below.refl _ _).drew).trans (Turn.of_grown hg1 fun k hk => by cases hk; exact .inr (.inl rfl)))
  have hbx : b < w.heap.size := (hin b (.inr (.inl rfl))).1
  have hHx : H < w.heap.size := (hin H (.inl rfl)).1
  have hltW : w.heap.size + 1 < W.heap.size := hk0.lt
  have hbox1 : CellsAt W1 H 80 (chainC T b v) := hC0.box.congr (hg1.block H (show H < W.heap.size by omega) (by simpa using fun e => hbH e.symm))
  have hd1 : CellsAt W1 w.heap.size 83 (linkC ((a : Int), (N : Int), k)) := hd0.congr (hg1.block _ (show w.heap.size < W.heap.size by omega) (by simp; omega))
  have hv1 : OwnI W1 base 47 66 v (P.map proofC) := hC0.own.congr fun g hg => hg1.block g (show g < W.heap.size by have := (hin g (.inr (.inr hg))).1; omega) (by simp; intro e; exact (hC0.neV g hg).2 e)
  refine forget (p := fun y => Exit.then _ _ _ _ y) (fun W1 => Turn (chainP H b v) w W1 ∧ CellsAt W1 H 80 (chainC T b v) ∧ CellsAt W1 w.heap.size 83 (linkC ((a : Int), (N : Int), k)) ∧ OwnI W1 base 47 66 v (P.map proofC) ∧ MapG Tryz.prog 83 encL okL W1 b (tot T + 1) (putG (linkM T) ((a : Int), (N : Int), k) (encK PK))) ⟨hT1, hbox1, hd1, hv1, hM1⟩ ?_
  have HNV : Veil (∀ g, v.ownBlock = some g → g ≠ H) := ⟨fun g hg => (hC0.neV g hg).1⟩
  have hok := hC0.ok
  clear hT1 hbox1 hd1 hv1 hM1 hg1 hrun hS hB hC0 hd0 hk0 hkr iK uK hltW
  clear W1 W
  rintro W ⟨hT1, hbox1, hd1, hv1, hM1⟩
  go_upto_region 2 with fail
  have hlh : (linkC ((a : Int), (N : Int), k)).drop 1 = headC ((N : Int), k) := rfl
  refine wp_region_gate (fun w' => w'.cell? ⟨w.heap.size, 0, none⟩ = some (.int .u8 (a : Int)) ∧ w'.rangeAt w.heap.size 1 (headC ((N : Int), k))) 8 (by kernel_rfl) ?_
  have hS : (fun w' : World => w'.cell? ⟨w.heap.size, 0, none⟩ = some (.int .u8 (a : Int)) ∧ w'.rangeAt w.heap.size 1 (headC ((N : Int), k))) W.drew := ⟨by have := hd1.cell 0; exact this, by have := hd1.range 1 33; rw [hlh, List.take_of_length_le (by rw [hhl]; omega)] at this; exact this⟩
  have ha0 : (0 : Int) ≤ (a : Int) := by omega
  have ha8 : (a : Int) < 8 := by omega
  refine ga 0 ?_ rfl (by kernel_rfl) (fun _ _ _ h => h) hS ?_ ?_
  rotate_left
  · intro _; go_simp; try with_reducible rfl
  simp only [Act.put, gA, gS, gZ, sI, sZ, sS]
  refine ga 1 ?_ rfl (by kernel_rfl) (fun _ _ _ h => h) hS ?_ ?_
  rotate_left
  · intro _; go_simp; try with_reducible rfl
  simp only [Act.put, gA, gS, gZ, sI, sZ, sS]
  refine ga 3 ?_ rfl (by kernel_rfl) (fun _ _ _ h => h) hS ?_ ?_
  rotate_left
  · intro _; go_simp; try with_reducible rfl
  simp only [Act.put, gA, gS, gZ, sI, sZ, sS]
  refine ga 5 ?_ rfl (by kernel_rfl) (fun _ _ _ h => h) hS ?_ ?_
  rotate_left
  · intro _; go_simp; try with_reducible rfl
  simp only [Act.put, gA, gS, gZ, sI, sZ, sS]
  refine ga 6 ?_ rfl (by kernel_rfl) (fun _ _ _ h => h) hS ?_ ?_
  rotate_left
  · intro _; go_simp; try with_reducible rfl
  simp only [Act.put, gA, gS, gZ, sI, sZ, sS]
  refine gr 2 ?_ rfl (by kernel_rfl) (fun _ _ _ h => h) hS ?_ ?_
  rotate_left
  · intro wx hSw; go_split_ands; go_simp; try with_reducible rfl
  simp only [Act.put, gA, gS, gZ, sI, sZ, sS]
  refine wpAnyG_load (i := 4) (dst := some 16) (ty := 40) (x := .tmp 15) (b := w.heap.size) (o := (1)) (cs := (headC ((N : Int), k))) (by kernel_rfl) (by kernel_rfl) (by kernel_rfl) (by kernel_rfl) (by kernel_rfl) (fun _ _ _ h => h) (by kernel_rfl) (by kernel_rfl) (by kernel_rfl) hS (by kernel_rfl) (fun _ h => h.2) uH rfl iH ?_
  simp only [Act.put, gA, gS, gZ, sI, sZ, sS]
  refine ga 7 ?_ rfl (by kernel_rfl) (fun _ _ _ h => h) hS ?_ ?_
  rotate_left
  · intro _; go_simp; try with_reducible rfl
  simp only [Act.put, gA, gS, gZ, sI, sZ, sS]
  refine wpAnyG_one (i := 8) rfl (by kernel_rfl) (by kernel_rfl) (fun K hK => ?_)
  refine wp_stmE 40 _ _ rfl H (a * 33) ?_ (cs := headC ((N : Int), k)) rfl (hbox1.congr (w' := W.drew) rfl) (by rw [hhl]; exact sizeHead1) (by rw [hhl, chainC_len hok]; omega) (headC_one _) ?_
  · go_simp
  rw [hhl, HPUT.out]
  refine hK.out _ _ (fun h => absurd (show true = false from h) (by decide)) ?_
  clear hK K
  try simp only [Act.put, gA, gS, gZ, sI, sZ, sS]
  refine wpAnyG_done (by kernel_rfl) ?_ _
  have hbox2 := (hbox1.congr (w' := W.drew) rfl).setRow (chainC (addS T a k) b v)
  have hT2 : Turn (chainP H b v) w (W.drew.setRow H (chainC (addS T a k) b v).toArray) := hT1.trans ⟨rfl, rfl, rfl, by simp [World.setRow], fun g _ hn => setRow_other W.drew H g _ (fun e => hn (.inl e))⟩
  have hv2 : OwnI (W.drew.setRow H (chainC (addS T a k) b v).toArray) base 47 66 v (P.map proofC) := hv1.congr fun g hg => setRow_other W.drew H g _ (HNV.out g hg)
  have hM2 : MapG Tryz.prog 83 encL okL (W.drew.setRow H (chainC (addS T a k) b v).toArray) b (tot (addS T a k)) (linkM (addS T a k)) := by
    rw [tot_add hok a ha k, HADD.out]
    exact hM1.congr (setRow_other W.drew H b _ hbH)
  have hokA := hok.add a k hk hc
  clear hS hd1 hbox1 hM1 hv1 hT1 uL uH iL iH
  go_wp2
  go_end0
  exact ⟨⟨_, rfl⟩, ⟨hbox2, hM2, hv2, hokA, hC.okP, hC.lenP, hC.baseH, hC.baseB⟩, hT2⟩
set_option maxHeartbeats 4000000 in
theorem chHeads_any (hC : ChainAt w base H b v T P) :
    Calls Tryz.prog 9 #[.pointer (some ⟨H, 0, none⟩)] w fun e w' => e = .returned (.agg (headsC (headsOf T)).toArray) ∧ Below w.heap.size w w' := by
  obtain ⟨Z, hzv, hz1, hZ⟩ := zeroHeadsH
  have hl := hC.ok.headsLen
  have hZl : Z.length = 264 := by rw [hZ]; exact okS_no.headsLen
  have hB : Below w.heap.size w (w.alloc (.cells Z.toArray 41)) := (Below.refl _ _).alloc (Nat.le_refl _) _
  have hr0 := CellsAt.new w 41 Z
  have rH := (hC.far hB).box.range 0 264
  rw [chainC_heads hC.ok] at rH
  have h1 := headsC_one (headsOf T)
  generalize headsC (headsOf T) = HC at hl rH h1 ⊢
  have iH : (Tryz.prog.info? 41).map (·.size) = some HC.length := by rw [hl]; exact sizeHeads
  clear hZ hC
  go_enter Tryz.func9, Tryz.ntmps9
  go_wp2_with (first
    | (refine wpList_ldv rfl 41 _ rfl _ _ rfl HC rH Tryz.underlying41 rfl iH ?_)
    | (refine wpList_stv rfl 41 _ _ rfl _ rfl rfl hr0 iH (by rw [hZl, hl]) h1 ?_))
  refine bodyPost_ret (results_cells (Tryz.results9) _ rfl (hr0.setRow HC) Tryz.underlying41 rfl iH) rfl ⟨rfl, ?_⟩
  exact below_setRow hB (Nat.le_refl _) _
end
end Go.Proofs.YtlhajphjppjlgaaGreatDoor
