/- chain's reference: 'look', 'Look'. -/
import Derived.Test.YtgcidamdbidgiaaDoorMHq0Hq1
namespace Go.Proofs.YtgcidamdbidgiaaDoor
open Go.RowKit
set_option maxRecDepth 20000
set_option linter.unusedSimpArgs false

def pz : Pf := (0, 0, zk, zk)
def lookP (T : Sms) (a n : Nat) (prev sum : List Int) : Pf := if lookN T a n prev sum = 11 then proofN T a n prev sum else pz
theorem results_tc {P : Program} {fn : Func} {p q : Tmp} {ty t : TypeId} {d : TypeDesc} (h : fn.results = #[.tmp q, .cell p ty]) (tmps : Array Value) {w : World} {A : Nat} {cs : List Value} {v : Value} (hp : tmps.getD p undef = .pointer (some ⟨A, 0, none⟩)) (hq : tmps.getD q undef = v) (hA : CellsAt w A t cs)
    (hu : P.underlying ty = some d) (hd : d.isRow = true) (hi : (P.info? ty).map (·.size) = some cs.length) :
    (results fn tmps).run P w = .ok (.tuple #[v, .agg cs.toArray]) w := by
  have hp' : tmps[p]?.getD undef = .pointer (some ⟨A, 0, none⟩) := by simpa using hp
  have hq' : tmps[q]?.getD undef = v := by simpa using hq
  have hl := run_loadVar_row (P := P) w A t ty cs.toArray (0, 0) _ hA hu (by cases d <;> first | rfl | (cases hd)) (by rw [hi]; simp)
  simp [results, h, hp', hq', asAddr, hl]
theorem ret_tc {a b : Int} {c d : List Value} (h : a = b) (k : c = d) : Ending.returned (.tuple #[.int .i64 a, .agg c.toArray]) = .returned (.tuple #[.int .i64 b, .agg d.toArray]) := by rw [h, k]
section
variable (base R : Nat) (us : List Value) (vp : Value) (T : Sms) (P : List Pf) (w : World) (F : Fr) (xw : Option Addr) (lw cw : Nat) (ws : List Wp) (xb : Option Addr) (lb cb : Nat) (body : List Int) (a n : Nat)
set_option maxHeartbeats 16000000 in
theorem rlook_any (hR : RefC w base R us vp T P) (hF : FrIn w F xw lw cw ws xb lb cb body) (ha : F.author = (a : Int)) (hn : F.number = (n : Int)) :
    Calls Tryd.prog 50 #[.pointer (some ⟨R, 0, none⟩), .agg F.cells.toArray] w fun e w' => e = .returned (.tuple #[.int .i64 (lookN T a n F.prev (fsum F lw lb ws body)), .agg (proofC (lookP T a n F.prev (fsum F lw lb ws body))).toArray]) ∧ Below w.heap.size w w' := by
  obtain ⟨q0, q1, q2, -, q4, -⟩ := fr_parts F hF.prev hF.mac
  rw [ha] at q1
  rw [hn] at q2
  have hiF : (Tryd.prog.info? 38).map (·.size) = some F.cells.length := by rw [q0]; exact sizeFrame
  have hpl := hF.prev
  have hpok : okK F.prev := ⟨hF.prev, hF.inF.prev⟩
  have hsok := fsum_ok F lw lb ws body
  have hok := hR.ok
  obtain ⟨PZ, hPZ, hPZl⟩ : ∃ q : List Value, q = proofC pz ∧ q.length = 66 := ⟨_, rfl, rfl⟩
  have h1Z : ∀ v ∈ PZ, v.oneCell' = true := by rw [hPZ]; exact proofC_one _
  have hzv : ∀ wx, (zeroValue 49).run Tryd.prog wx = .ok (.agg PZ.toArray) wx := fun wx => by rw [hPZ]; exact zero_ofH (by kernel_rfl) wx
  have hz1 : ¬ PZ.toArray = #[] := by intro h; have := congrArg Array.size h; simp at this; rw [this] at hPZl; simp at hPZl
  have HBZ : Veil (∀ wx, (Instr.build 49 #[]).run Tryd.prog wx = .ok (.agg PZ.toArray) wx) := ⟨fun wx => by rw [hPZ]; exact run_build wx _ _ _ (by kernel_rfl)⟩
  have iZ : (Tryd.prog.info? 49).map (·.size) = some PZ.length := by rw [hPZl]; exact sizeProof
  have hB0 : Below w.heap.size w (((w.alloc (.cells F.cells.toArray 38)).alloc (.cells PZ.toArray 49)).alloc (.cells PZ.toArray 49)) := (((Below.refl _ _).alloc (Nat.le_refl _) _).alloc (by simp) _).alloc (by simp; omega) _
  have hD0 := ((CellsAt.new w 38 F.cells).alloc (.cells PZ.toArray 49)).alloc (.cells PZ.toArray 49)
  have hr0 := (CellsAt.new (w.alloc (.cells F.cells.toArray 38)) 49 PZ).alloc (.cells PZ.toArray 49)
  have hn0 := CellsAt.new ((w.alloc (.cells F.cells.toArray 38)).alloc (.cells PZ.toArray 49)) 49 PZ
  simp only [World.size_alloc] at hr0 hn0
  have HSM : Veil (∀ W, Below w.heap.size w W → Calls Tryd.prog 16 #[.agg F.cells.toArray] W fun e w' => e = .returned (.agg (row .u8 (fsum F lw lb ws body))) ∧ Below W.heap.size W w') := ⟨fun W hb => rfSum_any F xw lw cw ws xb lb cb body W (hF.below hb)⟩
  have HRR := Veil.mk (fun W (hb : Below w.heap.size w W) => hR.far hb)
  have HPE := Veil.mk hPZ
  have HLP : Veil (lookP T a n F.prev (fsum F lw lb ws body) = if lookN T a n F.prev (fsum F lw lb ws body) = 11 then proofN T a n F.prev (fsum F lw lb ws body) else pz) := ⟨rfl⟩
  have uP : Tryd.prog.underlying 49 = _ := Tryd.underlying49
  have uK : Tryd.prog.underlying 34 = _ := Tryd.underlying34
  generalize fsum F lw lb ws body = SM at hsok HSM HLP ⊢
  clear hF hR ha hn hPZ
  go_enter Tryd.func50, Tryd.ntmps50
  go_upto_region 4 with (first
    | (refine wpList_bldx rfl 49 _ rfl #[] (by first | rfl | kernel_rfl) _ (HBZ.out _) ?_)
    | (refine wpList_stv rfl 49 _ _ rfl _ rfl rfl hn0 iZ rfl h1Z ?_))
  have hB1 := below_setRow hB0 (show w.heap.size ≤ w.heap.size + 1 + 1 by omega) PZ.toArray
  have hD1 := hD0.setRowM (g' := w.heap.size + 1 + 1) PZ.toArray (by omega)
  have hr1 := hr0.setRowM (g' := w.heap.size + 1 + 1) PZ.toArray (by omega)
  have hn1 := hn0.setRow PZ
  refine forget (p := fun y => Code.wp _ _ _ _ y) (fun W => Below w.heap.size w W ∧ CellsAt W w.heap.size 38 F.cells ∧ CellsAt W (w.heap.size + 1) 49 PZ ∧ CellsAt W (w.heap.size + 1 + 1) 49 PZ) ⟨hB1, hD1, hr1, hn1⟩ ?_
  clear hB1 hD1 hr1 hn1 hB0 hD0 hr0 hn0 hzv hz1 HBZ
  rintro V ⟨hB, hD, hr, hN⟩
  have c0 := (hD.cell 0).trans q1
  have c1 := (hD.cell 1).trans q2
  by_cases bad : 8 ≤ a ∨ n = 0 ∨ 256 < n
  · have HLN : Veil (lookN T a n F.prev SM = 2) := ⟨by unfold lookN; rw [if_pos bad]⟩
    rw [HLN.out, if_neg (by decide)] at HLP
    by_cases h8 : 8 ≤ a
    · have h8i : (a : Int) > 7 := by omega
      go_upto_region 5 with fail
      refine wp_region_gate (fun w' => w'.rangeAt (w.heap.size + 1 + 1) 0 PZ) 2 (by kernel_rfl) ?_
      have hS : (fun w' : World => w'.rangeAt (w.heap.size + 1 + 1) 0 PZ) V.drew := hN.wholeM
      refine wpAnyG_load (i := 0) (dst := some 29) (ty := 49) (x := .tmp 6) (b := (w.heap.size + 1 + 1)) (o := (0)) (cs := PZ) (by kernel_rfl) (by kernel_rfl) (by kernel_rfl) (by kernel_rfl) (by kernel_rfl) (fun _ _ _ h => h) (by kernel_rfl) (by kernel_rfl) (by kernel_rfl) hS (by kernel_rfl) (fun _ h => h) uP rfl iZ ?_
      simp only [Act.put, List.getElem_toArray, List.getElem_cons_succ, List.getElem_cons_zero, List.setIfInBounds_toArray, List.set_cons_zero, List.set_cons_succ]
      refine wpAnyG_any (i := 1) (v := ?_) rfl (by kernel_rfl) (by kernel_rfl) (by kernel_rfl) (fun _ _ _ h => h) (by kernel_rfl) (fun _ => hS) (by kernel_rfl) ?_ ?_
      rotate_left
      · intro _; go_simp; try with_reducible rfl
      simp only [Act.put, List.getElem_toArray, List.getElem_cons_succ, List.getElem_cons_zero, List.setIfInBounds_toArray, List.set_cons_zero, List.set_cons_succ]
      refine wpAnyG_one (i := 2) rfl (by kernel_rfl) (by kernel_rfl) (fun K hK => ?_)
      refine wp_stvE 49 _ _ rfl _ rfl (cs := PZ) rfl (hr.congr (w' := V.drew) rfl) iZ rfl h1Z ?_
      refine hK.out _ _ (fun h => absurd (show true = false from h) (by decide)) ?_
      clear hK K
      try simp only [Act.put, List.getElem_toArray, List.getElem_cons_succ, List.getElem_cons_zero, List.setIfInBounds_toArray, List.set_cons_zero, List.set_cons_succ]
      refine wpAnyG_done (by kernel_rfl) ?_ _
      have hr9 := (hr.congr (w' := V.drew) rfl).setRow PZ
      have hB9 := below_setRow hB.drew (show w.heap.size ≤ w.heap.size + 1 by omega) PZ.toArray
      clear hS
      go_wp2
      exact bodyPost_ret (results_tc (Tryd.results50) _ rfl rfl hr9 Tryd.underlying49 rfl iZ) rfl ⟨ret_tc HLN.out.symm (by rw [HLP.out]; exact HPE.out), hB9⟩
    · have h8i : ¬ (a : Int) > 7 := by omega
      by_cases h0 : n = 0
      · subst h0
        go_upto_region 5 with fail
        refine wp_region_gate (fun w' => w'.rangeAt (w.heap.size + 1 + 1) 0 PZ) 2 (by kernel_rfl) ?_
        have hS : (fun w' : World => w'.rangeAt (w.heap.size + 1 + 1) 0 PZ) V.drew := hN.wholeM
        refine wpAnyG_load (i := 0) (dst := some 29) (ty := 49) (x := .tmp 6) (b := (w.heap.size + 1 + 1)) (o := (0)) (cs := PZ) (by kernel_rfl) (by kernel_rfl) (by kernel_rfl) (by kernel_rfl) (by kernel_rfl) (fun _ _ _ h => h) (by kernel_rfl) (by kernel_rfl) (by kernel_rfl) hS (by kernel_rfl) (fun _ h => h) uP rfl iZ ?_
        simp only [Act.put, List.getElem_toArray, List.getElem_cons_succ, List.getElem_cons_zero, List.setIfInBounds_toArray, List.set_cons_zero, List.set_cons_succ]
        refine wpAnyG_any (i := 1) (v := ?_) rfl (by kernel_rfl) (by kernel_rfl) (by kernel_rfl) (fun _ _ _ h => h) (by kernel_rfl) (fun _ => hS) (by kernel_rfl) ?_ ?_
        rotate_left
        · intro _; go_simp; try with_reducible rfl
        simp only [Act.put, List.getElem_toArray, List.getElem_cons_succ, List.getElem_cons_zero, List.setIfInBounds_toArray, List.set_cons_zero, List.set_cons_succ]
        refine wpAnyG_one (i := 2) rfl (by kernel_rfl) (by kernel_rfl) (fun K hK => ?_)
        refine wp_stvE 49 _ _ rfl _ rfl (cs := PZ) rfl (hr.congr (w' := V.drew) rfl) iZ rfl h1Z ?_
        refine hK.out _ _ (fun h => absurd (show true = false from h) (by decide)) ?_
        clear hK K
        try simp only [Act.put, List.getElem_toArray, List.getElem_cons_succ, List.getElem_cons_zero, List.setIfInBounds_toArray, List.set_cons_zero, List.set_cons_succ]
        refine wpAnyG_done (by kernel_rfl) ?_ _
        have hr9 := (hr.congr (w' := V.drew) rfl).setRow PZ
        have hB9 := below_setRow hB.drew (show w.heap.size ≤ w.heap.size + 1 by omega) PZ.toArray
        clear hS
        go_wp2
        exact bodyPost_ret (results_tc (Tryd.results50) _ rfl rfl hr9 Tryd.underlying49 rfl iZ) rfl ⟨ret_tc HLN.out.symm (by rw [HLP.out]; exact HPE.out), hB9⟩
      · have h0i : ((n : Int) == 0) = false := by simp; omega
        have h0j : ¬ (n : Int) = 0 := by omega
        have h2i : (n : Int) > 256 := by omega
        go_upto_region 5 with fail
        refine wp_region_gate (fun w' => w'.rangeAt (w.heap.size + 1 + 1) 0 PZ) 2 (by kernel_rfl) ?_
        have hS : (fun w' : World => w'.rangeAt (w.heap.size + 1 + 1) 0 PZ) V.drew := hN.wholeM
        refine wpAnyG_load (i := 0) (dst := some 29) (ty := 49) (x := .tmp 6) (b := (w.heap.size + 1 + 1)) (o := (0)) (cs := PZ) (by kernel_rfl) (by kernel_rfl) (by kernel_rfl) (by kernel_rfl) (by kernel_rfl) (fun _ _ _ h => h) (by kernel_rfl) (by kernel_rfl) (by kernel_rfl) hS (by kernel_rfl) (fun _ h => h) uP rfl iZ ?_
        simp only [Act.put, List.getElem_toArray, List.getElem_cons_succ, List.getElem_cons_zero, List.setIfInBounds_toArray, List.set_cons_zero, List.set_cons_succ]
        refine wpAnyG_any (i := 1) (v := ?_) rfl (by kernel_rfl) (by kernel_rfl) (by kernel_rfl) (fun _ _ _ h => h) (by kernel_rfl) (fun _ => hS) (by kernel_rfl) ?_ ?_
        rotate_left
        · intro _; go_simp; try with_reducible rfl
        simp only [Act.put, List.getElem_toArray, List.getElem_cons_succ, List.getElem_cons_zero, List.setIfInBounds_toArray, List.set_cons_zero, List.set_cons_succ]
        refine wpAnyG_one (i := 2) rfl (by kernel_rfl) (by kernel_rfl) (fun K hK => ?_)
        refine wp_stvE 49 _ _ rfl _ rfl (cs := PZ) rfl (hr.congr (w' := V.drew) rfl) iZ rfl h1Z ?_
        refine hK.out _ _ (fun h => absurd (show true = false from h) (by decide)) ?_
        clear hK K
        try simp only [Act.put, List.getElem_toArray, List.getElem_cons_succ, List.getElem_cons_zero, List.setIfInBounds_toArray, List.set_cons_zero, List.set_cons_succ]
        refine wpAnyG_done (by kernel_rfl) ?_ _
        have hr9 := (hr.congr (w' := V.drew) rfl).setRow PZ
        have hB9 := below_setRow hB.drew (show w.heap.size ≤ w.heap.size + 1 by omega) PZ.toArray
        clear hS
        go_wp2
        exact bodyPost_ret (results_tc (Tryd.results50) _ rfl rfl hr9 Tryd.underlying49 rfl iZ) rfl ⟨ret_tc HLN.out.symm (by rw [HLP.out]; exact HPE.out), hB9⟩
  have h8 : ¬ (a : Int) > 7 := by omega
  have h0 : ((n : Int) == 0) = false := by simp; omega
  have h0' : ¬ (n : Int) = 0 := by omega
  have h2 : ¬ (n : Int) > 256 := by omega
  have ha0 : (0 : Int) ≤ (a : Int) := by omega
  have ha8 : (a : Int) < 8 := by omega
  have hcl := hok.cnt_le a
  have HLN0 : Veil (lookN T a n F.prev SM = if n ≤ cnt T a then (if atN T a n = SM then 5 else 11) else if cnt T a + 1 < n then 6 else if F.prev = atN T a (cnt T a) then 0 else if cnt T a = 0 then 3 else 11) := ⟨by unfold lookN; rw [if_neg bad]⟩
  have HPN : Veil (proofN T a n F.prev SM = if n ≤ cnt T a then ((a : Int), (n : Int), atN T a n, SM) else ((a : Int), (cnt T a : Int), atN T a (cnt T a), F.prev)) := ⟨rfl⟩
  obtain ⟨g, c, hcell, -, hrg⟩ := (HRR.out V hB).slot a (by omega)
  have HSL : Veil (∀ W, Below V.heap.size V W → ∀ m, m ≤ cnt T a → W.rangeAt g (m * 32) (keyC (atN T a m))) := ⟨fun W hb m hm i v hv => (hb.cell (p := ⟨g, m * 32 + i, none⟩) (block_lt_of_cell (hrg m hm i v hv))).trans (hrg m hm i v hv)⟩
  have HAO : Veil (∀ m, okK (atN T a m)) := ⟨fun m => hok.at_ok a m⟩
  clear hrg bad HRR
  obtain ⟨C, hC⟩ : ∃ q, cnt T a = q := ⟨_, rfl⟩
  rw [hC] at hcell hcl HLN0 HPN HSL
  clear hC
  go_upto_region 6 with fail
  refine wp_region_gate (fun w' => w'.cell? ⟨w.heap.size, 0, none⟩ = some (.int .u8 (a : Int)) ∧ w'.cell? ⟨R, a, none⟩ = some (.slice (some ⟨g, 0, none⟩) (C + 1) c)) 7 (by kernel_rfl) ?_
  have hS : (fun w' : World => w'.cell? ⟨w.heap.size, 0, none⟩ = some (.int .u8 (a : Int)) ∧ w'.cell? ⟨R, a, none⟩ = some (.slice (some ⟨g, 0, none⟩) (C + 1) c)) V.drew := ⟨c0, hcell⟩
  refine wpAnyG_any (i := 0) (v := ?_) rfl (by kernel_rfl) (by kernel_rfl) (by kernel_rfl) (fun _ _ _ h => h) (by kernel_rfl) (fun _ => hS) (by kernel_rfl) ?_ ?_
  rotate_left
  · intro _; go_simp; try with_reducible rfl
  simp only [Act.put, List.getElem_toArray, List.getElem_cons_succ, List.getElem_cons_zero, List.setIfInBounds_toArray, List.set_cons_zero, List.set_cons_succ]
  refine wpAnyG_any (i := 1) (v := ?_) rfl (by kernel_rfl) (by kernel_rfl) (by kernel_rfl) (fun _ _ _ h => h) (by kernel_rfl) (fun _ => hS) (by kernel_rfl) ?_ ?_
  rotate_left
  · intro _; go_simp; try with_reducible rfl
  simp only [Act.put, List.getElem_toArray, List.getElem_cons_succ, List.getElem_cons_zero, List.setIfInBounds_toArray, List.set_cons_zero, List.set_cons_succ]
  refine wpAnyG_any (i := 3) (v := ?_) rfl (by kernel_rfl) (by kernel_rfl) (by kernel_rfl) (fun _ _ _ h => h) (by kernel_rfl) (fun _ => hS) (by kernel_rfl) ?_ ?_
  rotate_left
  · intro _; go_simp; try with_reducible rfl
  simp only [Act.put, List.getElem_toArray, List.getElem_cons_succ, List.getElem_cons_zero, List.setIfInBounds_toArray, List.set_cons_zero, List.set_cons_succ]
  refine wpAnyG_any (i := 4) (v := ?_) rfl (by kernel_rfl) (by kernel_rfl) (by kernel_rfl) (fun _ _ _ h => h) (by kernel_rfl) (fun _ => hS) (by kernel_rfl) ?_ ?_
  rotate_left
  · intro _; go_simp; try with_reducible rfl
  simp only [Act.put, List.getElem_toArray, List.getElem_cons_succ, List.getElem_cons_zero, List.setIfInBounds_toArray, List.set_cons_zero, List.set_cons_succ]
  refine wpAnyG_read (i := 2) (v := ?_) rfl (by kernel_rfl) (by kernel_rfl) (by kernel_rfl) (fun _ _ _ h => h) (by kernel_rfl) (by kernel_rfl) (by kernel_rfl) hS (by kernel_rfl) ?_ ?_
  rotate_left
  · intro wx hSw; go_split_ands; go_simp; try with_reducible rfl
  simp only [Act.put, List.getElem_toArray, List.getElem_cons_succ, List.getElem_cons_zero, List.setIfInBounds_toArray, List.set_cons_zero, List.set_cons_succ]
  refine wpAnyG_any (i := 5) (v := ?_) rfl (by kernel_rfl) (by kernel_rfl) (by kernel_rfl) (fun _ _ _ h => h) (by kernel_rfl) (fun _ => hS) (by kernel_rfl) ?_ ?_
  rotate_left
  · intro _; go_simp; try with_reducible rfl
  simp only [Act.put, List.getElem_toArray, List.getElem_cons_succ, List.getElem_cons_zero, List.setIfInBounds_toArray, List.set_cons_zero, List.set_cons_succ]
  refine wpAnyG_read (i := 6) (v := ?_) rfl (by kernel_rfl) (by kernel_rfl) (by kernel_rfl) (fun _ _ _ h => h) (by kernel_rfl) (by kernel_rfl) (by kernel_rfl) hS (by kernel_rfl) ?_ ?_
  rotate_left
  · intro wx hSw; go_split_ands; go_simp; try with_reducible rfl
  simp only [Act.put, List.getElem_toArray, List.getElem_cons_succ, List.getElem_cons_zero, List.setIfInBounds_toArray, List.set_cons_zero, List.set_cons_succ]
  refine wpAnyG_one (i := 7) rfl (by kernel_rfl) (by kernel_rfl) (fun K hK => ?_)
  go_simp
  refine hK.out _ _ (fun h => absurd (show true = false from h) (by decide)) ?_
  clear hK K
  try simp only [Act.put, List.getElem_toArray, List.getElem_cons_succ, List.getElem_cons_zero, List.setIfInBounds_toArray, List.set_cons_zero, List.set_cons_succ]
  refine wpAnyG_done (by kernel_rfl) ?_ _
  have HSL1 : Veil (∀ W, Below V.drew.heap.size V.drew W → ∀ m, m ≤ C → W.rangeAt g (m * 32) (keyC (atN T a m))) := ⟨fun W hb => HSL.out W ((Below.refl _ _).drew.trans hb)⟩
  refine forget (p := fun y => Exit.then _ _ _ _ y) (fun V => Below w.heap.size w V ∧ CellsAt V w.heap.size 38 F.cells ∧ CellsAt V (w.heap.size + 1) 49 PZ ∧ CellsAt V (w.heap.size + 1 + 1) 49 PZ ∧ Veil (∀ W, Below V.heap.size V W → ∀ m, m ≤ C → W.rangeAt g (m * 32) (keyC (atN T a m)))) ⟨hB.drew, hD, hr, hN, HSL1⟩ ?_
  clear hS hB hD hr hN HSL HSL1 hcell c0 c1
  clear V
  rintro V ⟨hB, hD, hr, hN, HSL⟩
  have c0 := (hD.cell 0).trans q1
  have c1 := (hD.cell 1).trans q2
  have hw2 : IntKind.i64.wrap ((C : Int) + 1 - 1) = (C : Int) := by rw [IntKind.wrap_i64]; omega
  have hw2b : IntKind.i64.wrap (((C + 1 : Nat) : Int) - 1) = (C : Int) := by rw [IntKind.wrap_i64]; omega
  have hw3 : IntKind.u32.wrap (C : Int) = (C : Int) := by rw [IntKind.wrap_u32]; omega
  have hw4 : IntKind.i64.wrap (C : Int) = (C : Int) := by rw [IntKind.wrap_i64]; omega
  have hw5 : IntKind.u32.wrap ((C : Int) + 1) = (C : Int) + 1 := by rw [IntKind.wrap_u32]; omega
  have rP0 : V.rangeAt w.heap.size 4 (keyC F.prev) := by have := hD.range 4 32; rw [q4] at this; exact this
  have iPv : (Tryd.prog.info? 34).map (·.size) = some (keyC F.prev).length := by unfold keyC; rw [List.length_map, hpl]; exact sizeKeyH
  by_cases hle : n ≤ C
  · have hlei : (n : Int) ≤ (C : Int) := by omega
    have hn0 : (0 : Int) ≤ (n : Int) := by omega
    have hn1 : (n : Int) < (C : Int) + 1 := by omega
    have hn1b : (n : Int) < ((C + 1 : Nat) : Int) := by omega
    rw [if_pos hle] at HLN0 HPN
    have hsm := HSM.out V hB
    have rF := hD.wholeM
    have hao := HAO.out n
    have hsl : SM.length = 32 := hsok.1
    have hal : (atN T a n).length = 32 := hao.1
    have heq : ∀ wx, (binOp .eql 34 (.agg (keyC (atN T a n)).toArray) (.agg (keyC SM).toArray)).run Tryd.prog wx = .ok (.bool (decide (atN T a n = SM))) wx := eqlKey _ _ hao hsok
    have HEQ := Veil.mk heq
    have HBP : Veil (∀ wx, (Instr.build 49 #[(0, .int .u8 (a : Int)), (1, .int .u32 (n : Int)), (2, .agg (keyC (atN T a n)).toArray), (3, .agg (keyC SM).toArray)]).run Tryd.prog wx = .ok (.agg (proofC ((a : Int), (n : Int), atN T a n, SM)).toArray) wx) := ⟨proofBuilt (a : Int) (n : Int) (atN T a n) SM hal hsl⟩
    have hPl := proofC_len ((a : Int), (n : Int), atN T a n, SM) hal hsl
    have h1PC := proofC_one ((a : Int), (n : Int), atN T a n, SM)
    have HSLn := Veil.mk (fun W hb => HSL.out W hb n hle)
    have iK1 : (Tryd.prog.info? 34).map (·.size) = some (keyC (atN T a n)).length := by unfold keyC; rw [List.length_map, hal]; exact sizeKeyH
    have iK2 : (Tryd.prog.info? 34).map (·.size) = some (keyC SM).length := by unfold keyC; rw [List.length_map, hsl]; exact sizeKeyH
    obtain ⟨PC, hPC⟩ : ∃ q, proofC ((a : Int), (n : Int), atN T a n, SM) = q := ⟨_, rfl⟩
    have HPC : Veil (proofC (proofN T a n F.prev SM) = PC) := ⟨by rw [HPN.out, hPC]⟩
    rw [hPC] at HBP hPl h1PC
    have iPC : (Tryd.prog.info? 49).map (·.size) = some PC.length := by rw [hPl]; exact sizeProof
    have HDEC : Veil (decide (atN T a n = SM) = true ↔ atN T a n = SM) := ⟨by simp⟩
    generalize atN T a n = AN at HLN0 HEQ HBP HSLn iK1 heq HDEC hal hao
    clear hPC heq HPN HSL hao
    go_upto_region 9 with fail
    obtain ⟨ZK, hZK⟩ : ∃ q : List Int, q = List.replicate 32 0 := ⟨_, rfl⟩
    have hZl : ZK.length = 32 := by rw [hZK]; rfl
    go_upto_region 10 with (first
      | (refine wpList_ldv rfl 38 _ rfl _ _ rfl F.cells rF Tryd.underlying38 rfl hiF ?_)
      | (go_at_call 16; refine hsm.mono ?_; rintro e w2 ⟨rfl, hb2⟩; have hK2 := Holds.new w2 .u8 34 (List.replicate 32 0))
      | (refine wpList_st rfl 34 _ _ rfl _ rfl rfl hK2 (by rw [hsl]; exact sizeKeyH) (by rw [hsl]; rfl) ?_))
    have hb3 : Below w2.heap.size w2 ((w2.alloc (.cells (row .u8 (List.replicate 32 0)) 34)).setRow w2.heap.size (row .u8 SM)) := below_setRow ((Below.refl _ _).alloc (Nat.le_refl _) _) (Nat.le_refl _) _
    have hbV := hb2.trans (hb3.mono hb2.size)
    refine forget (p := fun y => Code.wp _ _ _ _ y) (fun X => Below V.heap.size V X ∧ CellsAt X w2.heap.size 34 (keyC SM)) ⟨hbV, hK2.setRow SM⟩ ?_
    have hVK := hb2.size
    clear hb3 hbV hb2 hK2 hsm rF hZK hZl
    obtain ⟨K, hKe⟩ : ∃ q, w2.heap.size = q := ⟨_, rfl⟩
    rw [hKe] at hVK ⊢
    clear hKe
    clear w2
    rintro X ⟨hbX, hKX⟩
    have HX : Veil (Below w.heap.size w X ∧ CellsAt X w.heap.size 38 F.cells ∧ CellsAt X (w.heap.size + 1) 49 PZ ∧ CellsAt X (w.heap.size + 1 + 1) 49 PZ ∧ X.rangeAt g (n * 32) (keyC AN)) := ⟨hB.trans (hbX.mono hB.size), hD.farM hbX, hr.farM hbX, hN.farM hbX, HSLn.out X hbX⟩
    clear hB hD hr hN c0 c1 rP0 HSLn hbX hVK
    clear V
    obtain ⟨hB, hD, hr, hN, rA⟩ := HX.out
    obtain ⟨V, hVX⟩ : ∃ q, X = q := ⟨_, rfl⟩
    rw [hVX] at hB hD hr hN rA hKX ⊢
    clear HX hVX
    clear X
    have c0 := (hD.cell 0).trans q1
    have c1 := (hD.cell 1).trans q2
    refine wp_region_gateT (fun w' => w'.cell? ⟨w.heap.size, 1, none⟩ = some (.int .u32 (n : Int)) ∧ w'.rangeAt g (n * 32) (keyC AN) ∧ w'.rangeAt K 0 (keyC SM)) (fun _ => True) 99 (by kernel_rfl) ?_
    have hT : (fun w' : World => w'.cell? ⟨w.heap.size, 1, none⟩ = some (.int .u32 (n : Int)) ∧ w'.rangeAt g (n * 32) (keyC AN) ∧ w'.rangeAt K 0 (keyC SM)) V.drew := ⟨c1, rA, hKX.wholeM⟩
    have hS := trivial
    have heq := HEQ.out
    by_cases e : AN = SM
    · rw [if_pos e] at HLN0
      have HLN : Veil (lookN T a n F.prev SM = 5) := HLN0
      rw [HLN.out, if_neg (by decide)] at HLP
      rw [show decide (AN = SM) = true by simp [e]] at heq
      have KA : List Value := keyC AN
      clear e HDEC KA
      generalize keyC AN = KA at heq hT iK1 rA ⊢
      generalize keyC SM = KS at heq hT iK2 hKX ⊢
      refine wpAnyT_held (i := 0) (v := ?_) rfl (by kernel_rfl) (by kernel_rfl) (by kernel_rfl) (fun _ _ _ h => h) (by kernel_rfl) hT (fun _ => hS) (by kernel_rfl) ?_ ?_
      rotate_left
      · intro wx hSw; go_split_ands; go_simp; try with_reducible rfl
      simp only [Act.put, List.getElem_toArray, List.getElem_cons_succ, List.getElem_cons_zero, List.setIfInBounds_toArray, List.set_cons_zero, List.set_cons_succ]
      refine wpAnyT_held (i := 1) (v := ?_) rfl (by kernel_rfl) (by kernel_rfl) (by kernel_rfl) (fun _ _ _ h => h) (by kernel_rfl) hT (fun _ => hS) (by kernel_rfl) ?_ ?_
      rotate_left
      · intro wx hSw; go_split_ands; go_simp; try with_reducible rfl
      simp only [Act.put, List.getElem_toArray, List.getElem_cons_succ, List.getElem_cons_zero, List.setIfInBounds_toArray, List.set_cons_zero, List.set_cons_succ]
      refine wpAnyT_held (i := 2) (v := ?_) rfl (by kernel_rfl) (by kernel_rfl) (by kernel_rfl) (fun _ _ _ h => h) (by kernel_rfl) hT (fun _ => hS) (by kernel_rfl) ?_ ?_
      rotate_left
      · intro wx hSw; go_split_ands; go_simp; try with_reducible rfl
      simp only [Act.put, List.getElem_toArray, List.getElem_cons_succ, List.getElem_cons_zero, List.setIfInBounds_toArray, List.set_cons_zero, List.set_cons_succ]
      refine wpAnyT_held (i := 3) (v := ?_) rfl (by kernel_rfl) (by kernel_rfl) (by kernel_rfl) (fun _ _ _ h => h) (by kernel_rfl) hT (fun _ => hS) (by kernel_rfl) ?_ ?_
      rotate_left
      · intro wx hSw; go_split_ands; go_simp; try with_reducible rfl
      simp only [Act.put, List.getElem_toArray, List.getElem_cons_succ, List.getElem_cons_zero, List.setIfInBounds_toArray, List.set_cons_zero, List.set_cons_succ]
      refine wpAnyT_load (i := 4) (dst := some 51) (ty := 34) (x := .tmp 50) (b := g) (o := ((n * 32))) (cs := KA) (by kernel_rfl) (by kernel_rfl) (by kernel_rfl) (by kernel_rfl) (by kernel_rfl) (fun _ _ _ h => h) (by kernel_rfl) hT (fun _ => hS) (by kernel_rfl) (fun _ h => h.2.1) uK rfl iK1 ?_
      simp only [Act.put, List.getElem_toArray, List.getElem_cons_succ, List.getElem_cons_zero, List.setIfInBounds_toArray, List.set_cons_zero, List.set_cons_succ]
      refine wpAnyT_load (i := 5) (dst := some 52) (ty := 34) (x := .tmp 9) (b := K) (o := (0)) (cs := KS) (by kernel_rfl) (by kernel_rfl) (by kernel_rfl) (by kernel_rfl) (by kernel_rfl) (fun _ _ _ h => h) (by kernel_rfl) hT (fun _ => hS) (by kernel_rfl) (fun _ h => h.2.2) uK rfl iK2 ?_
      simp only [Act.put, List.getElem_toArray, List.getElem_cons_succ, List.getElem_cons_zero, List.setIfInBounds_toArray, List.set_cons_zero, List.set_cons_succ]
      refine wpAnyT_held (i := 6) (v := .bool true) rfl (by kernel_rfl) (by kernel_rfl) (by kernel_rfl) (fun _ _ _ h => h) (by kernel_rfl) hT (fun _ => hS) (by kernel_rfl) ?_ ?_
      · intro wx hSw; go_split_ands; go_simp
      simp only [Act.put, List.getElem_toArray, List.getElem_cons_succ, List.getElem_cons_zero, List.setIfInBounds_toArray, List.set_cons_zero, List.set_cons_succ]
      refine wpAnyT_done (by kernel_rfl) ?_ _
      refine forget (p := fun y => Exit.then _ _ _ _ y) (fun V => Below w.heap.size w V ∧ CellsAt V (w.heap.size + 1) 49 PZ ∧ CellsAt V (w.heap.size + 1 + 1) 49 PZ) ⟨hB.drew, hr, hN⟩ ?_
      clear hT hS heq rA hKX hB hr hN hD c0 c1
      clear V
      rintro V ⟨hB, hr, hN⟩
      go_upto_region 11 with fail
      refine wp_region_gate (fun w' => w'.rangeAt (w.heap.size + 1 + 1) 0 PZ) 2 (by kernel_rfl) ?_
      have hS : (fun w' : World => w'.rangeAt (w.heap.size + 1 + 1) 0 PZ) V.drew := hN.wholeM
      refine wpAnyG_load (i := 0) (dst := some 54) (ty := 49) (x := .tmp 6) (b := (w.heap.size + 1 + 1)) (o := (0)) (cs := PZ) (by kernel_rfl) (by kernel_rfl) (by kernel_rfl) (by kernel_rfl) (by kernel_rfl) (fun _ _ _ h => h) (by kernel_rfl) (by kernel_rfl) (by kernel_rfl) hS (by kernel_rfl) (fun _ h => h) uP rfl iZ ?_
      simp only [Act.put, List.getElem_toArray, List.getElem_cons_succ, List.getElem_cons_zero, List.setIfInBounds_toArray, List.set_cons_zero, List.set_cons_succ]
      refine wpAnyG_any (i := 1) (v := ?_) rfl (by kernel_rfl) (by kernel_rfl) (by kernel_rfl) (fun _ _ _ h => h) (by kernel_rfl) (fun _ => hS) (by kernel_rfl) ?_ ?_
      rotate_left
      · intro _; go_simp; try with_reducible rfl
      simp only [Act.put, List.getElem_toArray, List.getElem_cons_succ, List.getElem_cons_zero, List.setIfInBounds_toArray, List.set_cons_zero, List.set_cons_succ]
      refine wpAnyG_one (i := 2) rfl (by kernel_rfl) (by kernel_rfl) (fun K hK => ?_)
      refine wp_stvE 49 _ _ rfl _ rfl (cs := PZ) rfl (hr.congr (w' := V.drew) rfl) iZ rfl h1Z ?_
      refine hK.out _ _ (fun h => absurd (show true = false from h) (by decide)) ?_
      clear hK K
      try simp only [Act.put, List.getElem_toArray, List.getElem_cons_succ, List.getElem_cons_zero, List.setIfInBounds_toArray, List.set_cons_zero, List.set_cons_succ]
      refine wpAnyG_done (by kernel_rfl) ?_ _
      have hr9 := (hr.congr (w' := V.drew) rfl).setRow PZ
      have hB9 := below_setRow hB.drew (show w.heap.size ≤ w.heap.size + 1 by omega) PZ.toArray
      clear hS
      go_wp2
      exact bodyPost_ret (results_tc (Tryd.results50) _ rfl rfl hr9 Tryd.underlying49 rfl iZ) rfl ⟨ret_tc HLN.out.symm (by rw [HLP.out]; exact HPE.out), hB9⟩
    · rw [if_neg e] at HLN0
      have HLN : Veil (lookN T a n F.prev SM = 11) := HLN0
      rw [HLN.out, if_pos rfl] at HLP
      rw [show decide (AN = SM) = false by simp [e]] at heq
      clear e HDEC
      generalize keyC AN = KA at heq hT iK1 rA HBP ⊢
      generalize keyC SM = KS at heq hT iK2 hKX HBP ⊢
      refine wpAnyT_held (i := 0) (v := ?_) rfl (by kernel_rfl) (by kernel_rfl) (by kernel_rfl) (fun _ _ _ h => h) (by kernel_rfl) hT (fun _ => hS) (by kernel_rfl) ?_ ?_
      rotate_left
      · intro wx hSw; go_split_ands; go_simp; try with_reducible rfl
      simp only [Act.put, List.getElem_toArray, List.getElem_cons_succ, List.getElem_cons_zero, List.setIfInBounds_toArray, List.set_cons_zero, List.set_cons_succ]
      refine wpAnyT_held (i := 1) (v := ?_) rfl (by kernel_rfl) (by kernel_rfl) (by kernel_rfl) (fun _ _ _ h => h) (by kernel_rfl) hT (fun _ => hS) (by kernel_rfl) ?_ ?_
      rotate_left
      · intro wx hSw; go_split_ands; go_simp; try with_reducible rfl
      simp only [Act.put, List.getElem_toArray, List.getElem_cons_succ, List.getElem_cons_zero, List.setIfInBounds_toArray, List.set_cons_zero, List.set_cons_succ]
      refine wpAnyT_held (i := 2) (v := ?_) rfl (by kernel_rfl) (by kernel_rfl) (by kernel_rfl) (fun _ _ _ h => h) (by kernel_rfl) hT (fun _ => hS) (by kernel_rfl) ?_ ?_
      rotate_left
      · intro wx hSw; go_split_ands; go_simp; try with_reducible rfl
      simp only [Act.put, List.getElem_toArray, List.getElem_cons_succ, List.getElem_cons_zero, List.setIfInBounds_toArray, List.set_cons_zero, List.set_cons_succ]
      refine wpAnyT_held (i := 3) (v := ?_) rfl (by kernel_rfl) (by kernel_rfl) (by kernel_rfl) (fun _ _ _ h => h) (by kernel_rfl) hT (fun _ => hS) (by kernel_rfl) ?_ ?_
      rotate_left
      · intro wx hSw; go_split_ands; go_simp; try with_reducible rfl
      simp only [Act.put, List.getElem_toArray, List.getElem_cons_succ, List.getElem_cons_zero, List.setIfInBounds_toArray, List.set_cons_zero, List.set_cons_succ]
      refine wpAnyT_load (i := 4) (dst := some 51) (ty := 34) (x := .tmp 50) (b := g) (o := ((n * 32))) (cs := KA) (by kernel_rfl) (by kernel_rfl) (by kernel_rfl) (by kernel_rfl) (by kernel_rfl) (fun _ _ _ h => h) (by kernel_rfl) hT (fun _ => hS) (by kernel_rfl) (fun _ h => h.2.1) uK rfl iK1 ?_
      simp only [Act.put, List.getElem_toArray, List.getElem_cons_succ, List.getElem_cons_zero, List.setIfInBounds_toArray, List.set_cons_zero, List.set_cons_succ]
      refine wpAnyT_load (i := 5) (dst := some 52) (ty := 34) (x := .tmp 9) (b := K) (o := (0)) (cs := KS) (by kernel_rfl) (by kernel_rfl) (by kernel_rfl) (by kernel_rfl) (by kernel_rfl) (fun _ _ _ h => h) (by kernel_rfl) hT (fun _ => hS) (by kernel_rfl) (fun _ h => h.2.2) uK rfl iK2 ?_
      simp only [Act.put, List.getElem_toArray, List.getElem_cons_succ, List.getElem_cons_zero, List.setIfInBounds_toArray, List.set_cons_zero, List.set_cons_succ]
      refine wpAnyT_held (i := 6) (v := .bool false) rfl (by kernel_rfl) (by kernel_rfl) (by kernel_rfl) (fun _ _ _ h => h) (by kernel_rfl) hT (fun _ => hS) (by kernel_rfl) ?_ ?_
      · intro wx hSw; go_split_ands; go_simp
      simp only [Act.put, List.getElem_toArray, List.getElem_cons_succ, List.getElem_cons_zero, List.setIfInBounds_toArray, List.set_cons_zero, List.set_cons_succ]
      refine wpAnyT_done (by kernel_rfl) ?_ _
      refine forget (p := fun y => Exit.then _ _ _ _ y) (fun V => Below w.heap.size w V ∧ CellsAt V w.heap.size 38 F.cells ∧ CellsAt V (w.heap.size + 1) 49 PZ ∧ V.rangeAt g (n * 32) KA ∧ V.rangeAt K 0 KS) ⟨hB.drew, hD, hr, rA, hKX.wholeM⟩ ?_
      clear hT hS heq rA hKX hB hr hN hD c0 c1
      clear V
      rintro V ⟨hB, hD, hr, rA, rK⟩
      have c0 := (hD.cell 0).trans q1
      have c1 := (hD.cell 1).trans q2
      go_upto_region 12 with fail
      refine wp_region_gate (fun w' => w'.cell? ⟨w.heap.size, 0, none⟩ = some (.int .u8 (a : Int)) ∧ w'.cell? ⟨w.heap.size, 1, none⟩ = some (.int .u32 (n : Int)) ∧ w'.rangeAt g (n * 32) KA ∧ w'.rangeAt K 0 KS) 12 (by kernel_rfl) ?_
      have hS : (fun w' : World => w'.cell? ⟨w.heap.size, 0, none⟩ = some (.int .u8 (a : Int)) ∧ w'.cell? ⟨w.heap.size, 1, none⟩ = some (.int .u32 (n : Int)) ∧ w'.rangeAt g (n * 32) KA ∧ w'.rangeAt K 0 KS) V.drew := ⟨c0, c1, rA, rK⟩
      refine wpAnyG_any (i := 0) (v := ?_) rfl (by kernel_rfl) (by kernel_rfl) (by kernel_rfl) (fun _ _ _ h => h) (by kernel_rfl) (fun _ => hS) (by kernel_rfl) ?_ ?_
      rotate_left
      · intro _; go_simp; try with_reducible rfl
      simp only [Act.put, List.getElem_toArray, List.getElem_cons_succ, List.getElem_cons_zero, List.setIfInBounds_toArray, List.set_cons_zero, List.set_cons_succ]
      refine wpAnyG_any (i := 2) (v := ?_) rfl (by kernel_rfl) (by kernel_rfl) (by kernel_rfl) (fun _ _ _ h => h) (by kernel_rfl) (fun _ => hS) (by kernel_rfl) ?_ ?_
      rotate_left
      · intro _; go_simp; try with_reducible rfl
      simp only [Act.put, List.getElem_toArray, List.getElem_cons_succ, List.getElem_cons_zero, List.setIfInBounds_toArray, List.set_cons_zero, List.set_cons_succ]
      refine wpAnyG_any (i := 4) (v := ?_) rfl (by kernel_rfl) (by kernel_rfl) (by kernel_rfl) (fun _ _ _ h => h) (by kernel_rfl) (fun _ => hS) (by kernel_rfl) ?_ ?_
      rotate_left
      · intro _; go_simp; try with_reducible rfl
      simp only [Act.put, List.getElem_toArray, List.getElem_cons_succ, List.getElem_cons_zero, List.setIfInBounds_toArray, List.set_cons_zero, List.set_cons_succ]
      refine wpAnyG_any (i := 5) (v := ?_) rfl (by kernel_rfl) (by kernel_rfl) (by kernel_rfl) (fun _ _ _ h => h) (by kernel_rfl) (fun _ => hS) (by kernel_rfl) ?_ ?_
      rotate_left
      · intro _; go_simp; try with_reducible rfl
      simp only [Act.put, List.getElem_toArray, List.getElem_cons_succ, List.getElem_cons_zero, List.setIfInBounds_toArray, List.set_cons_zero, List.set_cons_succ]
      refine wpAnyG_read (i := 1) (v := ?_) rfl (by kernel_rfl) (by kernel_rfl) (by kernel_rfl) (fun _ _ _ h => h) (by kernel_rfl) (by kernel_rfl) (by kernel_rfl) hS (by kernel_rfl) ?_ ?_
      rotate_left
      · intro wx hSw; go_split_ands; go_simp; try with_reducible rfl
      simp only [Act.put, List.getElem_toArray, List.getElem_cons_succ, List.getElem_cons_zero, List.setIfInBounds_toArray, List.set_cons_zero, List.set_cons_succ]
      refine wpAnyG_read (i := 3) (v := ?_) rfl (by kernel_rfl) (by kernel_rfl) (by kernel_rfl) (fun _ _ _ h => h) (by kernel_rfl) (by kernel_rfl) (by kernel_rfl) hS (by kernel_rfl) ?_ ?_
      rotate_left
      · intro wx hSw; go_split_ands; go_simp; try with_reducible rfl
      simp only [Act.put, List.getElem_toArray, List.getElem_cons_succ, List.getElem_cons_zero, List.setIfInBounds_toArray, List.set_cons_zero, List.set_cons_succ]
      refine wpAnyG_read (i := 6) (v := ?_) rfl (by kernel_rfl) (by kernel_rfl) (by kernel_rfl) (fun _ _ _ h => h) (by kernel_rfl) (by kernel_rfl) (by kernel_rfl) hS (by kernel_rfl) ?_ ?_
      rotate_left
      · intro wx hSw; go_split_ands; go_simp; try with_reducible rfl
      simp only [Act.put, List.getElem_toArray, List.getElem_cons_succ, List.getElem_cons_zero, List.setIfInBounds_toArray, List.set_cons_zero, List.set_cons_succ]
      refine wpAnyG_any (i := 7) (v := ?_) rfl (by kernel_rfl) (by kernel_rfl) (by kernel_rfl) (fun _ _ _ h => h) (by kernel_rfl) (fun _ => hS) (by kernel_rfl) ?_ ?_
      rotate_left
      · intro _; go_simp; try with_reducible rfl
      simp only [Act.put, List.getElem_toArray, List.getElem_cons_succ, List.getElem_cons_zero, List.setIfInBounds_toArray, List.set_cons_zero, List.set_cons_succ]
      refine wpAnyG_load (i := 8) (dst := some 63) (ty := 34) (x := .tmp 62) (b := g) (o := ((n * 32))) (cs := KA) (by kernel_rfl) (by kernel_rfl) (by kernel_rfl) (by kernel_rfl) (by kernel_rfl) (fun _ _ _ h => h) (by kernel_rfl) (by kernel_rfl) (by kernel_rfl) hS (by kernel_rfl) (fun _ h => h.2.2.1) uK rfl iK1 ?_
      simp only [Act.put, List.getElem_toArray, List.getElem_cons_succ, List.getElem_cons_zero, List.setIfInBounds_toArray, List.set_cons_zero, List.set_cons_succ]
      refine wpAnyG_load (i := 9) (dst := some 64) (ty := 34) (x := .tmp 9) (b := K) (o := (0)) (cs := KS) (by kernel_rfl) (by kernel_rfl) (by kernel_rfl) (by kernel_rfl) (by kernel_rfl) (fun _ _ _ h => h) (by kernel_rfl) (by kernel_rfl) (by kernel_rfl) hS (by kernel_rfl) (fun _ h => h.2.2.2) uK rfl iK2 ?_
      simp only [Act.put, List.getElem_toArray, List.getElem_cons_succ, List.getElem_cons_zero, List.setIfInBounds_toArray, List.set_cons_zero, List.set_cons_succ]
      refine wpAnyG_read (i := 10) (v := .agg PC.toArray) rfl (by kernel_rfl) (by kernel_rfl) (by kernel_rfl) (fun _ _ _ h => h) (by kernel_rfl) (by kernel_rfl) (by kernel_rfl) hS (by kernel_rfl) (fun wx h => execBuildT 49 _ rfl #[(0, .int .u8 (a : Int)), (1, .int .u32 (n : Int)), (2, .agg KA.toArray), (3, .agg KS.toArray)] (by kernel_rfl) (HBP.out wx)) ?_
      simp only [Act.put, List.getElem_toArray, List.getElem_cons_succ, List.getElem_cons_zero, List.setIfInBounds_toArray, List.set_cons_zero, List.set_cons_succ]
      refine wpAnyG_any (i := 11) (v := ?_) rfl (by kernel_rfl) (by kernel_rfl) (by kernel_rfl) (fun _ _ _ h => h) (by kernel_rfl) (fun _ => hS) (by kernel_rfl) ?_ ?_
      rotate_left
      · intro _; go_simp; try with_reducible rfl
      simp only [Act.put, List.getElem_toArray, List.getElem_cons_succ, List.getElem_cons_zero, List.setIfInBounds_toArray, List.set_cons_zero, List.set_cons_succ]
      refine wpAnyG_one (i := 12) rfl (by kernel_rfl) (by kernel_rfl) (fun K hK => ?_)
      refine wp_stvE 49 _ _ rfl _ rfl (cs := PC) rfl (hr.congr (w' := V.drew) rfl) iPC (by rw [hPZl, hPl]) h1PC ?_
      refine hK.out _ _ (fun h => absurd (show true = false from h) (by decide)) ?_
      clear hK K
      try simp only [Act.put, List.getElem_toArray, List.getElem_cons_succ, List.getElem_cons_zero, List.setIfInBounds_toArray, List.set_cons_zero, List.set_cons_succ]
      refine wpAnyG_done (by kernel_rfl) ?_ _
      have hrX := hr.congr (w' := V.drew) rfl
      have hBX := hB.drew
      have hr9 := hrX.setRow PC
      have hB9 := below_setRow hBX (show w.heap.size ≤ w.heap.size + 1 by omega) PC.toArray
      clear hS
      go_wp2
      exact bodyPost_ret (results_tc (Tryd.results50) _ rfl rfl hr9 Tryd.underlying49 rfl iPC) rfl ⟨ret_tc HLN.out.symm (by rw [HLP.out]; exact HPC.out.symm), hB9⟩
  · have hlei : ¬ (n : Int) ≤ (C : Int) := by omega
    rw [if_neg hle] at HLN0 HPN
    by_cases hg : C + 1 < n
    · have hgi : (n : Int) > (C : Int) + 1 := by omega
      rw [if_pos hg] at HLN0
      have HLN : Veil (lookN T a n F.prev SM = 6) := HLN0
      rw [HLN.out, if_neg (by decide)] at HLP
      clear rP0 HPN HSL
      go_upto_region 14 with fail
      refine wp_region_gate (fun w' => w'.rangeAt (w.heap.size + 1 + 1) 0 PZ) 2 (by kernel_rfl) ?_
      have hS : (fun w' : World => w'.rangeAt (w.heap.size + 1 + 1) 0 PZ) V.drew := hN.wholeM
      refine wpAnyG_load (i := 0) (dst := some 72) (ty := 49) (x := .tmp 6) (b := (w.heap.size + 1 + 1)) (o := (0)) (cs := PZ) (by kernel_rfl) (by kernel_rfl) (by kernel_rfl) (by kernel_rfl) (by kernel_rfl) (fun _ _ _ h => h) (by kernel_rfl) (by kernel_rfl) (by kernel_rfl) hS (by kernel_rfl) (fun _ h => h) uP rfl iZ ?_
      simp only [Act.put, List.getElem_toArray, List.getElem_cons_succ, List.getElem_cons_zero, List.setIfInBounds_toArray, List.set_cons_zero, List.set_cons_succ]
      refine wpAnyG_any (i := 1) (v := ?_) rfl (by kernel_rfl) (by kernel_rfl) (by kernel_rfl) (fun _ _ _ h => h) (by kernel_rfl) (fun _ => hS) (by kernel_rfl) ?_ ?_
      rotate_left
      · intro _; go_simp; try with_reducible rfl
      simp only [Act.put, List.getElem_toArray, List.getElem_cons_succ, List.getElem_cons_zero, List.setIfInBounds_toArray, List.set_cons_zero, List.set_cons_succ]
      refine wpAnyG_one (i := 2) rfl (by kernel_rfl) (by kernel_rfl) (fun K hK => ?_)
      refine wp_stvE 49 _ _ rfl _ rfl (cs := PZ) rfl (hr.congr (w' := V.drew) rfl) iZ rfl h1Z ?_
      refine hK.out _ _ (fun h => absurd (show true = false from h) (by decide)) ?_
      clear hK K
      try simp only [Act.put, List.getElem_toArray, List.getElem_cons_succ, List.getElem_cons_zero, List.setIfInBounds_toArray, List.set_cons_zero, List.set_cons_succ]
      refine wpAnyG_done (by kernel_rfl) ?_ _
      have hr9 := (hr.congr (w' := V.drew) rfl).setRow PZ
      have hB9 := below_setRow hB.drew (show w.heap.size ≤ w.heap.size + 1 by omega) PZ.toArray
      clear hS
      go_wp2
      exact bodyPost_ret (results_tc (Tryd.results50) _ rfl rfl hr9 Tryd.underlying49 rfl iZ) rfl ⟨ret_tc HLN.out.symm (by rw [HLP.out]; exact HPE.out), hB9⟩
    · have hgi : ¬ (n : Int) > (C : Int) + 1 := by omega
      rw [if_neg hg] at HLN0
      have hao := HAO.out C
      have hal : (atN T a C).length = 32 := hao.1
      have heq : ∀ wx, (binOp .eql 34 (.agg (keyC F.prev).toArray) (.agg (keyC (atN T a C)).toArray)).run Tryd.prog wx = .ok (.bool (decide (F.prev = atN T a C))) wx := eqlKey _ _ hpok hao
      have HEQ := Veil.mk heq
      have HBP : Veil (∀ wx, (Instr.build 49 #[(0, .int .u8 (a : Int)), (1, .int .u32 (C : Int)), (2, .agg (keyC (atN T a C)).toArray), (3, .agg (keyC F.prev).toArray)]).run Tryd.prog wx = .ok (.agg (proofC ((a : Int), (C : Int), atN T a C, F.prev)).toArray) wx) := ⟨proofBuilt (a : Int) (C : Int) (atN T a C) F.prev hal hpl⟩
      have hPl := proofC_len ((a : Int), (C : Int), atN T a C, F.prev) hal hpl
      have h1PC := proofC_one ((a : Int), (C : Int), atN T a C, F.prev)
      have rA := HSL.out V (Below.refl _ _) C (Nat.le_refl _)
      have iK1 : (Tryd.prog.info? 34).map (·.size) = some (keyC (atN T a C)).length := by unfold keyC; rw [List.length_map, hal]; exact sizeKeyH
      obtain ⟨PC, hPC⟩ : ∃ q, proofC ((a : Int), (C : Int), atN T a C, F.prev) = q := ⟨_, rfl⟩
      have HPC : Veil (proofC (proofN T a n F.prev SM) = PC) := ⟨by rw [HPN.out, hPC]⟩
      rw [hPC] at HBP hPl h1PC
      have iPC : (Tryd.prog.info? 49).map (·.size) = some PC.length := by rw [hPl]; exact sizeProof
      generalize atN T a C = AN at HLN0 HEQ HBP rA iK1 heq hal hao
      clear hPC heq HPN HSL hao
      have hc0 : (0 : Int) ≤ (C : Int) := by omega
      have hc1 : (C : Int) < (C : Int) + 1 := by omega
      have hc1b : (C : Int) < ((C + 1 : Nat) : Int) := by omega
      go_upto_region 15 with fail
      refine wp_region_gateT (fun w' => w'.rangeAt w.heap.size 4 (keyC F.prev) ∧ w'.rangeAt g (C * 32) (keyC AN)) (fun _ => True) 99 (by kernel_rfl) ?_
      have hT : (fun w' : World => w'.rangeAt w.heap.size 4 (keyC F.prev) ∧ w'.rangeAt g (C * 32) (keyC AN)) V.drew := ⟨rP0, rA⟩
      have hS := trivial
      have heq := HEQ.out
      by_cases e : F.prev = AN
      · rw [if_pos e] at HLN0
        have HLN : Veil (lookN T a n F.prev SM = 0) := HLN0
        rw [HLN.out, if_neg (by decide)] at HLP
        rw [show decide (F.prev = AN) = true by simp [e]] at heq
        clear e
        generalize keyC AN = KA at heq hT iK1 rA ⊢
        generalize keyC F.prev = KS at heq hT iPv rP0 ⊢
        refine wpAnyT_held (i := 0) (v := ?_) rfl (by kernel_rfl) (by kernel_rfl) (by kernel_rfl) (fun _ _ _ h => h) (by kernel_rfl) hT (fun _ => hS) (by kernel_rfl) ?_ ?_
        rotate_left
        · intro wx hSw; go_split_ands; go_simp; try with_reducible rfl
        simp only [Act.put, List.getElem_toArray, List.getElem_cons_succ, List.getElem_cons_zero, List.setIfInBounds_toArray, List.set_cons_zero, List.set_cons_succ]
        refine wpAnyT_held (i := 2) (v := ?_) rfl (by kernel_rfl) (by kernel_rfl) (by kernel_rfl) (fun _ _ _ h => h) (by kernel_rfl) hT (fun _ => hS) (by kernel_rfl) ?_ ?_
        rotate_left
        · intro wx hSw; go_split_ands; go_simp; try with_reducible rfl
        simp only [Act.put, List.getElem_toArray, List.getElem_cons_succ, List.getElem_cons_zero, List.setIfInBounds_toArray, List.set_cons_zero, List.set_cons_succ]
        refine wpAnyT_held (i := 3) (v := ?_) rfl (by kernel_rfl) (by kernel_rfl) (by kernel_rfl) (fun _ _ _ h => h) (by kernel_rfl) hT (fun _ => hS) (by kernel_rfl) ?_ ?_
        rotate_left
        · intro wx hSw; go_split_ands; go_simp; try with_reducible rfl
        simp only [Act.put, List.getElem_toArray, List.getElem_cons_succ, List.getElem_cons_zero, List.setIfInBounds_toArray, List.set_cons_zero, List.set_cons_succ]
        refine wpAnyT_held (i := 4) (v := ?_) rfl (by kernel_rfl) (by kernel_rfl) (by kernel_rfl) (fun _ _ _ h => h) (by kernel_rfl) hT (fun _ => hS) (by kernel_rfl) ?_ ?_
        rotate_left
        · intro wx hSw; go_split_ands; go_simp; try with_reducible rfl
        simp only [Act.put, List.getElem_toArray, List.getElem_cons_succ, List.getElem_cons_zero, List.setIfInBounds_toArray, List.set_cons_zero, List.set_cons_succ]
        refine wpAnyT_load (i := 1) (dst := some 75) (ty := 34) (x := .tmp 74) (b := w.heap.size) (o := (4)) (cs := KS) (by kernel_rfl) (by kernel_rfl) (by kernel_rfl) (by kernel_rfl) (by kernel_rfl) (fun _ _ _ h => h) (by kernel_rfl) hT (fun _ => hS) (by kernel_rfl) (fun _ h => h.1) uK rfl iPv ?_
        simp only [Act.put, List.getElem_toArray, List.getElem_cons_succ, List.getElem_cons_zero, List.setIfInBounds_toArray, List.set_cons_zero, List.set_cons_succ]
        refine wpAnyT_load (i := 5) (dst := some 79) (ty := 34) (x := .tmp 78) (b := g) (o := ((C * 32))) (cs := KA) (by kernel_rfl) (by kernel_rfl) (by kernel_rfl) (by kernel_rfl) (by kernel_rfl) (fun _ _ _ h => h) (by kernel_rfl) hT (fun _ => hS) (by kernel_rfl) (fun _ h => h.2) uK rfl iK1 ?_
        simp only [Act.put, List.getElem_toArray, List.getElem_cons_succ, List.getElem_cons_zero, List.setIfInBounds_toArray, List.set_cons_zero, List.set_cons_succ]
        refine wpAnyT_held (i := 6) (v := .bool true) rfl (by kernel_rfl) (by kernel_rfl) (by kernel_rfl) (fun _ _ _ h => h) (by kernel_rfl) hT (fun _ => hS) (by kernel_rfl) ?_ ?_
        · intro wx hSw; go_split_ands; go_simp
        simp only [Act.put, List.getElem_toArray, List.getElem_cons_succ, List.getElem_cons_zero, List.setIfInBounds_toArray, List.set_cons_zero, List.set_cons_succ]
        refine wpAnyT_held (i := 7) (v := ?_) rfl (by kernel_rfl) (by kernel_rfl) (by kernel_rfl) (fun _ _ _ h => h) (by kernel_rfl) hT (fun _ => hS) (by kernel_rfl) ?_ ?_
        rotate_left
        · intro wx hSw; go_split_ands; go_simp; try with_reducible rfl
        simp only [Act.put, List.getElem_toArray, List.getElem_cons_succ, List.getElem_cons_zero, List.setIfInBounds_toArray, List.set_cons_zero, List.set_cons_succ]
        refine wpAnyT_done (by kernel_rfl) ?_ _
        refine forget (p := fun y => Exit.then _ _ _ _ y) (fun V => Below w.heap.size w V ∧ CellsAt V (w.heap.size + 1) 49 PZ ∧ CellsAt V (w.heap.size + 1 + 1) 49 PZ) ⟨hB.drew, hr, hN⟩ ?_
        clear hT hS heq rA rP0 hB hr hN hD c0 c1
        clear V
        rintro V ⟨hB, hr, hN⟩
        go_upto_region 16 with fail
        refine wp_region_gate (fun w' => w'.rangeAt (w.heap.size + 1 + 1) 0 PZ) 2 (by kernel_rfl) ?_
        have hS : (fun w' : World => w'.rangeAt (w.heap.size + 1 + 1) 0 PZ) V.drew := hN.wholeM
        refine wpAnyG_load (i := 0) (dst := some 81) (ty := 49) (x := .tmp 6) (b := (w.heap.size + 1 + 1)) (o := (0)) (cs := PZ) (by kernel_rfl) (by kernel_rfl) (by kernel_rfl) (by kernel_rfl) (by kernel_rfl) (fun _ _ _ h => h) (by kernel_rfl) (by kernel_rfl) (by kernel_rfl) hS (by kernel_rfl) (fun _ h => h) uP rfl iZ ?_
        simp only [Act.put, List.getElem_toArray, List.getElem_cons_succ, List.getElem_cons_zero, List.setIfInBounds_toArray, List.set_cons_zero, List.set_cons_succ]
        refine wpAnyG_any (i := 1) (v := ?_) rfl (by kernel_rfl) (by kernel_rfl) (by kernel_rfl) (fun _ _ _ h => h) (by kernel_rfl) (fun _ => hS) (by kernel_rfl) ?_ ?_
        rotate_left
        · intro _; go_simp; try with_reducible rfl
        simp only [Act.put, List.getElem_toArray, List.getElem_cons_succ, List.getElem_cons_zero, List.setIfInBounds_toArray, List.set_cons_zero, List.set_cons_succ]
        refine wpAnyG_one (i := 2) rfl (by kernel_rfl) (by kernel_rfl) (fun K hK => ?_)
        refine wp_stvE 49 _ _ rfl _ rfl (cs := PZ) rfl (hr.congr (w' := V.drew) rfl) iZ rfl h1Z ?_
        refine hK.out _ _ (fun h => absurd (show true = false from h) (by decide)) ?_
        clear hK K
        try simp only [Act.put, List.getElem_toArray, List.getElem_cons_succ, List.getElem_cons_zero, List.setIfInBounds_toArray, List.set_cons_zero, List.set_cons_succ]
        refine wpAnyG_done (by kernel_rfl) ?_ _
        have hr9 := (hr.congr (w' := V.drew) rfl).setRow PZ
        have hB9 := below_setRow hB.drew (show w.heap.size ≤ w.heap.size + 1 by omega) PZ.toArray
        clear hS
        go_wp2
        exact bodyPost_ret (results_tc (Tryd.results50) _ rfl rfl hr9 Tryd.underlying49 rfl iZ) rfl ⟨ret_tc HLN.out.symm (by rw [HLP.out]; exact HPE.out), hB9⟩
      · rw [if_neg e] at HLN0
        rw [show decide (F.prev = AN) = false by simp [e]] at heq
        clear e
        generalize keyC AN = KA at heq hT iK1 rA HBP ⊢
        generalize keyC F.prev = KS at heq hT iPv rP0 HBP ⊢
        refine wpAnyT_held (i := 0) (v := ?_) rfl (by kernel_rfl) (by kernel_rfl) (by kernel_rfl) (fun _ _ _ h => h) (by kernel_rfl) hT (fun _ => hS) (by kernel_rfl) ?_ ?_
        rotate_left
        · intro wx hSw; go_split_ands; go_simp; try with_reducible rfl
        simp only [Act.put, List.getElem_toArray, List.getElem_cons_succ, List.getElem_cons_zero, List.setIfInBounds_toArray, List.set_cons_zero, List.set_cons_succ]
        refine wpAnyT_held (i := 2) (v := ?_) rfl (by kernel_rfl) (by kernel_rfl) (by kernel_rfl) (fun _ _ _ h => h) (by kernel_rfl) hT (fun _ => hS) (by kernel_rfl) ?_ ?_
        rotate_left
        · intro wx hSw; go_split_ands; go_simp; try with_reducible rfl
        simp only [Act.put, List.getElem_toArray, List.getElem_cons_succ, List.getElem_cons_zero, List.setIfInBounds_toArray, List.set_cons_zero, List.set_cons_succ]
        refine wpAnyT_held (i := 3) (v := ?_) rfl (by kernel_rfl) (by kernel_rfl) (by kernel_rfl) (fun _ _ _ h => h) (by kernel_rfl) hT (fun _ => hS) (by kernel_rfl) ?_ ?_
        rotate_left
        · intro wx hSw; go_split_ands; go_simp; try with_reducible rfl
        simp only [Act.put, List.getElem_toArray, List.getElem_cons_succ, List.getElem_cons_zero, List.setIfInBounds_toArray, List.set_cons_zero, List.set_cons_succ]
        refine wpAnyT_held (i := 4) (v := ?_) rfl (by kernel_rfl) (by kernel_rfl) (by kernel_rfl) (fun _ _ _ h => h) (by kernel_rfl) hT (fun _ => hS) (by kernel_rfl) ?_ ?_
        rotate_left
        · intro wx hSw; go_split_ands; go_simp; try with_reducible rfl
        simp only [Act.put, List.getElem_toArray, List.getElem_cons_succ, List.getElem_cons_zero, List.setIfInBounds_toArray, List.set_cons_zero, List.set_cons_succ]
        refine wpAnyT_load (i := 1) (dst := some 75) (ty := 34) (x := .tmp 74) (b := w.heap.size) (o := (4)) (cs := KS) (by kernel_rfl) (by kernel_rfl) (by kernel_rfl) (by kernel_rfl) (by kernel_rfl) (fun _ _ _ h => h) (by kernel_rfl) hT (fun _ => hS) (by kernel_rfl) (fun _ h => h.1) uK rfl iPv ?_
        simp only [Act.put, List.getElem_toArray, List.getElem_cons_succ, List.getElem_cons_zero, List.setIfInBounds_toArray, List.set_cons_zero, List.set_cons_succ]
        refine wpAnyT_load (i := 5) (dst := some 79) (ty := 34) (x := .tmp 78) (b := g) (o := ((C * 32))) (cs := KA) (by kernel_rfl) (by kernel_rfl) (by kernel_rfl) (by kernel_rfl) (by kernel_rfl) (fun _ _ _ h => h) (by kernel_rfl) hT (fun _ => hS) (by kernel_rfl) (fun _ h => h.2) uK rfl iK1 ?_
        simp only [Act.put, List.getElem_toArray, List.getElem_cons_succ, List.getElem_cons_zero, List.setIfInBounds_toArray, List.set_cons_zero, List.set_cons_succ]
        refine wpAnyT_held (i := 6) (v := .bool false) rfl (by kernel_rfl) (by kernel_rfl) (by kernel_rfl) (fun _ _ _ h => h) (by kernel_rfl) hT (fun _ => hS) (by kernel_rfl) ?_ ?_
        · intro wx hSw; go_split_ands; go_simp
        simp only [Act.put, List.getElem_toArray, List.getElem_cons_succ, List.getElem_cons_zero, List.setIfInBounds_toArray, List.set_cons_zero, List.set_cons_succ]
        refine wpAnyT_held (i := 7) (v := ?_) rfl (by kernel_rfl) (by kernel_rfl) (by kernel_rfl) (fun _ _ _ h => h) (by kernel_rfl) hT (fun _ => hS) (by kernel_rfl) ?_ ?_
        rotate_left
        · intro wx hSw; go_split_ands; go_simp; try with_reducible rfl
        simp only [Act.put, List.getElem_toArray, List.getElem_cons_succ, List.getElem_cons_zero, List.setIfInBounds_toArray, List.set_cons_zero, List.set_cons_succ]
        refine wpAnyT_done (by kernel_rfl) ?_ _
        refine forget (p := fun y => Exit.then _ _ _ _ y) (fun V => Below w.heap.size w V ∧ CellsAt V w.heap.size 38 F.cells ∧ CellsAt V (w.heap.size + 1) 49 PZ ∧ CellsAt V (w.heap.size + 1 + 1) 49 PZ ∧ V.rangeAt g (C * 32) KA ∧ V.rangeAt w.heap.size 4 KS) ⟨hB.drew, hD, hr, hN, rA, rP0⟩ ?_
        clear hT hS heq rA rP0 hB hr hN hD c0 c1
        clear V
        rintro V ⟨hB, hD, hr, hN, rA, rP0⟩
        have c0 := (hD.cell 0).trans q1
        by_cases h00 : C = 0
        · rw [if_pos h00] at HLN0
          have HLN : Veil (lookN T a n F.prev SM = 3) := HLN0
          rw [HLN.out, if_neg (by decide)] at HLP
          have h00i : (C : Int) = 0 := by omega
          clear rA rP0 HBP HEQ
          have h00k : ((C : Int) == 0) = true := by simp; omega
          clear h00
          go_upto_region 18 with fail
          refine wp_region_gate (fun w' => w'.rangeAt (w.heap.size + 1 + 1) 0 PZ) 2 (by kernel_rfl) ?_
          have hS : (fun w' : World => w'.rangeAt (w.heap.size + 1 + 1) 0 PZ) V.drew := hN.wholeM
          refine wpAnyG_load (i := 0) (dst := some 85) (ty := 49) (x := .tmp 6) (b := (w.heap.size + 1 + 1)) (o := (0)) (cs := PZ) (by kernel_rfl) (by kernel_rfl) (by kernel_rfl) (by kernel_rfl) (by kernel_rfl) (fun _ _ _ h => h) (by kernel_rfl) (by kernel_rfl) (by kernel_rfl) hS (by kernel_rfl) (fun _ h => h) uP rfl iZ ?_
          simp only [Act.put, List.getElem_toArray, List.getElem_cons_succ, List.getElem_cons_zero, List.setIfInBounds_toArray, List.set_cons_zero, List.set_cons_succ]
          refine wpAnyG_any (i := 1) (v := ?_) rfl (by kernel_rfl) (by kernel_rfl) (by kernel_rfl) (fun _ _ _ h => h) (by kernel_rfl) (fun _ => hS) (by kernel_rfl) ?_ ?_
          rotate_left
          · intro _; go_simp; try with_reducible rfl
          simp only [Act.put, List.getElem_toArray, List.getElem_cons_succ, List.getElem_cons_zero, List.setIfInBounds_toArray, List.set_cons_zero, List.set_cons_succ]
          refine wpAnyG_one (i := 2) rfl (by kernel_rfl) (by kernel_rfl) (fun K hK => ?_)
          refine wp_stvE 49 _ _ rfl _ rfl (cs := PZ) rfl (hr.congr (w' := V.drew) rfl) iZ rfl h1Z ?_
          refine hK.out _ _ (fun h => absurd (show true = false from h) (by decide)) ?_
          clear hK K
          try simp only [Act.put, List.getElem_toArray, List.getElem_cons_succ, List.getElem_cons_zero, List.setIfInBounds_toArray, List.set_cons_zero, List.set_cons_succ]
          refine wpAnyG_done (by kernel_rfl) ?_ _
          have hr9 := (hr.congr (w' := V.drew) rfl).setRow PZ
          have hB9 := below_setRow hB.drew (show w.heap.size ≤ w.heap.size + 1 by omega) PZ.toArray
          clear hS
          go_wp2
          exact bodyPost_ret (results_tc (Tryd.results50) _ rfl rfl hr9 Tryd.underlying49 rfl iZ) rfl ⟨ret_tc HLN.out.symm (by rw [HLP.out]; exact HPE.out), hB9⟩
        · rw [if_neg h00] at HLN0
          have HLN : Veil (lookN T a n F.prev SM = 11) := HLN0
          rw [HLN.out, if_pos rfl] at HLP
          have h00i : ((C : Int) == 0) = false := by simp; omega
          have h00j : ¬ (C : Int) = 0 := by omega
          go_upto_region 19 with fail
          refine wp_region_gate (fun w' => w'.cell? ⟨w.heap.size, 0, none⟩ = some (.int .u8 (a : Int)) ∧ w'.rangeAt g (C * 32) KA ∧ w'.rangeAt w.heap.size 4 KS) 11 (by kernel_rfl) ?_
          have hS : (fun w' : World => w'.cell? ⟨w.heap.size, 0, none⟩ = some (.int .u8 (a : Int)) ∧ w'.rangeAt g (C * 32) KA ∧ w'.rangeAt w.heap.size 4 KS) V.drew := ⟨c0, rA, rP0⟩
          refine wpAnyG_any (i := 0) (v := ?_) rfl (by kernel_rfl) (by kernel_rfl) (by kernel_rfl) (fun _ _ _ h => h) (by kernel_rfl) (fun _ => hS) (by kernel_rfl) ?_ ?_
          rotate_left
          · intro _; go_simp; try with_reducible rfl
          simp only [Act.put, List.getElem_toArray, List.getElem_cons_succ, List.getElem_cons_zero, List.setIfInBounds_toArray, List.set_cons_zero, List.set_cons_succ]
          refine wpAnyG_any (i := 2) (v := ?_) rfl (by kernel_rfl) (by kernel_rfl) (by kernel_rfl) (fun _ _ _ h => h) (by kernel_rfl) (fun _ => hS) (by kernel_rfl) ?_ ?_
          rotate_left
          · intro _; go_simp; try with_reducible rfl
          simp only [Act.put, List.getElem_toArray, List.getElem_cons_succ, List.getElem_cons_zero, List.setIfInBounds_toArray, List.set_cons_zero, List.set_cons_succ]
          refine wpAnyG_any (i := 3) (v := ?_) rfl (by kernel_rfl) (by kernel_rfl) (by kernel_rfl) (fun _ _ _ h => h) (by kernel_rfl) (fun _ => hS) (by kernel_rfl) ?_ ?_
          rotate_left
          · intro _; go_simp; try with_reducible rfl
          simp only [Act.put, List.getElem_toArray, List.getElem_cons_succ, List.getElem_cons_zero, List.setIfInBounds_toArray, List.set_cons_zero, List.set_cons_succ]
          refine wpAnyG_any (i := 4) (v := ?_) rfl (by kernel_rfl) (by kernel_rfl) (by kernel_rfl) (fun _ _ _ h => h) (by kernel_rfl) (fun _ => hS) (by kernel_rfl) ?_ ?_
          rotate_left
          · intro _; go_simp; try with_reducible rfl
          simp only [Act.put, List.getElem_toArray, List.getElem_cons_succ, List.getElem_cons_zero, List.setIfInBounds_toArray, List.set_cons_zero, List.set_cons_succ]
          refine wpAnyG_any (i := 7) (v := ?_) rfl (by kernel_rfl) (by kernel_rfl) (by kernel_rfl) (fun _ _ _ h => h) (by kernel_rfl) (fun _ => hS) (by kernel_rfl) ?_ ?_
          rotate_left
          · intro _; go_simp; try with_reducible rfl
          simp only [Act.put, List.getElem_toArray, List.getElem_cons_succ, List.getElem_cons_zero, List.setIfInBounds_toArray, List.set_cons_zero, List.set_cons_succ]
          refine wpAnyG_read (i := 1) (v := ?_) rfl (by kernel_rfl) (by kernel_rfl) (by kernel_rfl) (fun _ _ _ h => h) (by kernel_rfl) (by kernel_rfl) (by kernel_rfl) hS (by kernel_rfl) ?_ ?_
          rotate_left
          · intro wx hSw; go_split_ands; go_simp; try with_reducible rfl
          simp only [Act.put, List.getElem_toArray, List.getElem_cons_succ, List.getElem_cons_zero, List.setIfInBounds_toArray, List.set_cons_zero, List.set_cons_succ]
          refine wpAnyG_any (i := 5) (v := ?_) rfl (by kernel_rfl) (by kernel_rfl) (by kernel_rfl) (fun _ _ _ h => h) (by kernel_rfl) (fun _ => hS) (by kernel_rfl) ?_ ?_
          rotate_left
          · intro _; go_simp; try with_reducible rfl
          simp only [Act.put, List.getElem_toArray, List.getElem_cons_succ, List.getElem_cons_zero, List.setIfInBounds_toArray, List.set_cons_zero, List.set_cons_succ]
          refine wpAnyG_load (i := 6) (dst := some 92) (ty := 34) (x := .tmp 91) (b := g) (o := ((C * 32))) (cs := KA) (by kernel_rfl) (by kernel_rfl) (by kernel_rfl) (by kernel_rfl) (by kernel_rfl) (fun _ _ _ h => h) (by kernel_rfl) (by kernel_rfl) (by kernel_rfl) hS (by kernel_rfl) (fun _ h => h.2.1) uK rfl iK1 ?_
          simp only [Act.put, List.getElem_toArray, List.getElem_cons_succ, List.getElem_cons_zero, List.setIfInBounds_toArray, List.set_cons_zero, List.set_cons_succ]
          refine wpAnyG_load (i := 8) (dst := some 94) (ty := 34) (x := .tmp 93) (b := w.heap.size) (o := (4)) (cs := KS) (by kernel_rfl) (by kernel_rfl) (by kernel_rfl) (by kernel_rfl) (by kernel_rfl) (fun _ _ _ h => h) (by kernel_rfl) (by kernel_rfl) (by kernel_rfl) hS (by kernel_rfl) (fun _ h => h.2.2) uK rfl iPv ?_
          simp only [Act.put, List.getElem_toArray, List.getElem_cons_succ, List.getElem_cons_zero, List.setIfInBounds_toArray, List.set_cons_zero, List.set_cons_succ]
          refine wpAnyG_read (i := 9) (v := .agg PC.toArray) rfl (by kernel_rfl) (by kernel_rfl) (by kernel_rfl) (fun _ _ _ h => h) (by kernel_rfl) (by kernel_rfl) (by kernel_rfl) hS (by kernel_rfl) (fun wx h => execBuildT 49 _ rfl #[(0, .int .u8 (a : Int)), (1, .int .u32 (C : Int)), (2, .agg KA.toArray), (3, .agg KS.toArray)] (by kernel_rfl) (HBP.out wx)) ?_
          simp only [Act.put, List.getElem_toArray, List.getElem_cons_succ, List.getElem_cons_zero, List.setIfInBounds_toArray, List.set_cons_zero, List.set_cons_succ]
          refine wpAnyG_any (i := 10) (v := ?_) rfl (by kernel_rfl) (by kernel_rfl) (by kernel_rfl) (fun _ _ _ h => h) (by kernel_rfl) (fun _ => hS) (by kernel_rfl) ?_ ?_
          rotate_left
          · intro _; go_simp; try with_reducible rfl
          simp only [Act.put, List.getElem_toArray, List.getElem_cons_succ, List.getElem_cons_zero, List.setIfInBounds_toArray, List.set_cons_zero, List.set_cons_succ]
          refine wpAnyG_one (i := 11) rfl (by kernel_rfl) (by kernel_rfl) (fun K hK => ?_)
          refine wp_stvE 49 _ _ rfl _ rfl (cs := PC) rfl (hr.congr (w' := V.drew) rfl) iPC (by rw [hPZl, hPl]) h1PC ?_
          refine hK.out _ _ (fun h => absurd (show true = false from h) (by decide)) ?_
          clear hK K
          try simp only [Act.put, List.getElem_toArray, List.getElem_cons_succ, List.getElem_cons_zero, List.setIfInBounds_toArray, List.set_cons_zero, List.set_cons_succ]
          refine wpAnyG_done (by kernel_rfl) ?_ _
          have hrX := hr.congr (w' := V.drew) rfl
          have hBX := hB.drew
          have hr9 := hrX.setRow PC
          have hB9 := below_setRow hBX (show w.heap.size ≤ w.heap.size + 1 by omega) PC.toArray
          clear hS
          go_wp2
          exact bodyPost_ret (results_tc (Tryd.results50) _ rfl rfl hr9 Tryd.underlying49 rfl iPC) rfl ⟨ret_tc HLN.out.symm (by rw [HLP.out]; exact HPC.out.symm), hB9⟩
end
end Go.Proofs.YtgcidamdbidgiaaDoor
