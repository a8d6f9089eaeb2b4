/- Ht -/
import Derived.Test.YtlhajphjppjlgaaGreatDoorV0
import Derived.Test.YtlhajphjppjlgaaGreatDoorV44
namespace Go.Proofs.YtlhajphjppjlgaaGreatDoor
open Go.RowKit
set_option maxRecDepth 20000
set_option linter.unusedSimpArgs false
section
variable (base H b : Nat) (v : Value) (T : Sms) (P : List Pf) (w : World)
set_option maxHeartbeats 8000000 in
theorem against_any (F : Fr) (xw : Option Addr) (lw cw : Nat) (ws : List Wp) (xb : Option Addr) (lb cb : Nat) (body : List Int) (a n : Nat) (hC : ChainAt w base H b v T P) (hF : FrIn w F xw lw cw ws xb lb cb body) (hKT : S.KTab w) (ha : F.author = (a : Int)) (hn : F.number = (n : Int)) (ha8 : a < 8) :
    Calls Tryz.prog 29 #[.pointer (some ⟨H, 0, none⟩), .agg F.cells.toArray] w fun e w' => e = .returned (.agg (proofC (proofN T a n F.prev (fsum F lw lb ws body))).toArray) ∧ Below w.heap.size w w' := by
  obtain ⟨q0, q1, q2, -, q4, -⟩ := fr_parts F hF.prev hF.mac
  rw [ha] at q1
  rw [hn] at q2
  have hiF : (Tryz.prog.info? 32).map (·.size) = some F.cells.length := by rw [q0]; exact sizeFrame
  have hcl := hC.ok.cnt_le a
  have hpl := hF.prev
  have hpok : okK F.prev := ⟨hF.prev, hF.inF.prev⟩
  have hsum : okK (fsum F lw lb ws body) := by
    unfold fsum; split
    · exact ⟨S.sumL_length _, sumL_inH _⟩
    · exact okK_zk
  obtain ⟨PZ, hPZ, hPZl⟩ : ∃ q : List Value, q = proofC (0, 0, List.replicate 32 0, List.replicate 32 0) ∧ q.length = 66 := ⟨_, rfl, rfl⟩
  have hzv : ∀ wx, (zeroValue 47).run Tryz.prog wx = .ok (.agg PZ.toArray) wx := fun wx => by rw [hPZ]; exact zero_ofH (by kernel_rfl) wx
  have hz1 : ¬ PZ.toArray = #[] := by intro h; have := congrArg Array.size h; simp at this; rw [this] at hPZl; simp at hPZl
  have hD0 := (CellsAt.new w 32 F.cells).alloc (.cells PZ.toArray 47)
  have hr0 := CellsAt.new (w.alloc (.cells F.cells.toArray 32)) 47 PZ
  rw [World.size_alloc] at hr0
  have hB : Below w.heap.size w ((w.alloc (.cells F.cells.toArray 32)).alloc (.cells PZ.toArray 47)) := ((Below.refl _ _).alloc (Nat.le_refl _) _).alloc (by simp) _
  have HLK : Veil (∀ W, Below w.heap.size w W → Calls Tryz.prog 27 #[.agg F.cells.toArray] W fun e w' => e = .returned (.agg (linkC ((a : Int), (n : Int), fsum F lw lb ws body)).toArray) ∧ Below W.heap.size W w') := ⟨fun W hb => by have := linkOf_any F xw lw cw ws xb lb cb body W (hF.below hb) (hKT.below hb); rw [ha, hn] at this; exact this⟩
  have HUN : Veil (∀ (m : Nat) (s : List Int) W, m ≤ cnt T a → okK s → Below w.heap.size w W → Calls Tryz.prog 31 #[.pointer (some ⟨H, 0, none⟩), .agg (linkC ((a : Int), (m : Int), s)).toArray] W fun e w' => e = .returned (.agg (proofC ((a : Int), (m : Int), atN T a m, s)).toArray) ∧ Below W.heap.size W w') := ⟨fun m s W hm hs hb => unlike_any base H b v T P W a m s ha8 hm hs (hC.far hb)⟩
  have HPN : Veil (proofN T a n F.prev (fsum F lw lb ws body) = if n ≤ cnt T a then ((a : Int), (n : Int), atN T a n, fsum F lw lb ws body) else ((a : Int), (cnt T a : Int), atN T a (cnt T a), F.prev)) := ⟨rfl⟩
  have HPL : Veil (∀ (m : Nat) (s : List Int), s.length = 32 → (proofC ((a : Int), (m : Int), atN T a m, s)).length = 66) := ⟨fun m s hs => proofC_len _ (hC.ok.at_ok a m).1 hs⟩
  have HCT : Veil (∀ W, ChainAt W base H b v T P → W.cell? ⟨H, a * 33, none⟩ = some (.int .u32 (cnt T a : Int))) := ⟨fun W h => by
    have := h.box.range (a * 33) 33
    rw [chainC_head h.ok b v a ha8] at this
    exact this 0 _ rfl⟩
  generalize proofN T a n F.prev (fsum F lw lb ws body) = PN at HPN ⊢
  generalize fsum F lw lb ws body = SM at HLK HPN hsum
  have ha0 : (0 : Int) ≤ (a : Int) := by omega
  have ha8i : (a : Int) < 8 := by omega
  clear hPZ
  go_enter Tryz.func29, Tryz.ntmps29
  go_upto_region 1 with fail
  refine forget (p := fun y => Code.wp _ _ _ _ y) (fun W => Below w.heap.size w W ∧ CellsAt W w.heap.size 32 F.cells ∧ CellsAt W (w.heap.size + 1) 47 PZ ∧ ChainAt W base H b v T P) ⟨hB, hD0, hr0, hC.far hB⟩ ?_
  clear hB hD0 hr0 hC hF hKT ha hn hzv hz1
  rintro W ⟨hB, hD0, hr0, hC⟩
  refine wp_region_gate (fun w' => w'.cell? ⟨w.heap.size, 0, none⟩ = some (.int .u8 (a : Int)) ∧ w'.cell? ⟨H, a * 33, none⟩ = some (.int .u32 (cnt T a : Int))) 8 (by kernel_rfl) ?_
  have hS : (fun w' : World => w'.cell? ⟨w.heap.size, 0, none⟩ = some (.int .u8 (a : Int)) ∧ w'.cell? ⟨H, a * 33, none⟩ = some (.int .u32 (cnt T a : Int))) W.drew := ⟨(hD0.cell 0).trans q1, HCT.out W hC⟩
  refine ga 0 ?_ rfl (by kernel_rfl) (fun _ _ _ h => h) hS ?_ ?_
  rotate_left
  · intro _; go_simp; try with_reducible rfl
  simp only [Act.put, gA, gS, gZ, sI, sZ, sS]
  refine ga 1 ?_ rfl (by kernel_rfl) (fun _ _ _ h => h) hS ?_ ?_
  rotate_left
  · intro _; go_simp; try with_reducible rfl
  simp only [Act.put, gA, gS, gZ, sI, sZ, sS]
  refine ga 3 ?_ rfl (by kernel_rfl) (fun _ _ _ h => h) hS ?_ ?_
  rotate_left
  · intro _; go_simp; try with_reducible rfl
  simp only [Act.put, gA, gS, gZ, sI, sZ, sS]
  refine ga 4 ?_ rfl (by kernel_rfl) (fun _ _ _ h => h) hS ?_ ?_
  rotate_left
  · intro _; go_simp; try with_reducible rfl
  simp only [Act.put, gA, gS, gZ, sI, sZ, sS]
  refine gr 2 ?_ rfl (by kernel_rfl) (fun _ _ _ h => h) hS ?_ ?_
  rotate_left
  · intro wx hSw; go_split_ands; go_simp; try with_reducible rfl
  simp only [Act.put, gA, gS, gZ, sI, sZ, sS]
  refine ga 5 ?_ rfl (by kernel_rfl) (fun _ _ _ h => h) hS ?_ ?_
  rotate_left
  · intro _; go_simp; try with_reducible rfl
  simp only [Act.put, gA, gS, gZ, sI, sZ, sS]
  refine ga 6 ?_ rfl (by kernel_rfl) (fun _ _ _ h => h) hS ?_ ?_
  rotate_left
  · intro _; go_simp; try with_reducible rfl
  simp only [Act.put, gA, gS, gZ, sI, sZ, sS]
  refine gr 7 ?_ rfl (by kernel_rfl) (fun _ _ _ h => h) hS ?_ ?_
  rotate_left
  · intro wx hSw; go_split_ands; go_simp; try with_reducible rfl
  simp only [Act.put, gA, gS, gZ, sI, sZ, sS]
  refine wpAnyG_one (i := 8) rfl (by kernel_rfl) (by kernel_rfl) (fun K hK => ?_)
  go_simp
  refine hK.out _ _ (fun h => absurd (show true = false from h) (by decide)) ?_
  clear hK K
  try simp only [Act.put, gA, gS, gZ, sI, sZ, sS]
  refine wpAnyG_done (by kernel_rfl) ?_ _
  refine forget (p := fun y => Exit.then _ _ _ _ y) (fun V => Below w.heap.size w V ∧ CellsAt V w.heap.size 32 F.cells ∧ CellsAt V (w.heap.size + 1) 47 PZ) ⟨hB.drew, hD0, hr0⟩ ?_
  clear hS hB hD0 hr0 hC HCT
  clear W
  rintro V ⟨hB, hD, hr⟩
  have c0 := (hD.cell 0).trans q1
  have c1 := (hD.cell 1).trans q2
  by_cases hle : n ≤ cnt T a
  · have hgi : ¬ (n : Int) > (cnt T a : Int) := by omega
    rw [if_pos hle] at HPN
    have hlk := HLK.out V hB
    have HU := Veil.mk (fun W hb => HUN.out n SM W hle hsum hb)
    have hpl2 := HPL.out n SM hsum.1
    rw [← HPN.out] at HU hpl2
    have rF := hD.wholeM
    have h1P := proofC_one PN
    have iP : (Tryz.prog.info? 47).map (·.size) = some (proofC PN).length := by rw [hpl2]; exact sizeProof
    clear HUN HPN HPL q1 q2 q4
    generalize cnt T a = C at hgi hle hcl
    generalize linkC ((a : Int), (n : Int), SM) = LK at hlk HLK HU
    obtain ⟨PC, hPC⟩ : ∃ q, proofC PN = q := ⟨_, rfl⟩
    have HPC := Veil.mk hPC
    rw [hPC] at HU hpl2 h1P iP
    clear hPC
    clear hle
    go_wp2_with (first
      | (refine wpList_ldv rfl 32 _ rfl _ _ rfl F.cells rF Tryz.underlying32 rfl hiF ?_)
      | (go_at_call 27; refine hlk.mono ?_; rintro e w1 ⟨rfl, hb1⟩; have hB1 := hB.trans (hb1.mono hB.size); have hu1 := HU.out w1 hB1)
      | (go_at_call 31; refine hu1.mono ?_; rintro e w2 ⟨rfl, hb2⟩; have hr2 := (hr.farM hb1).farM hb2)
      | (refine wpList_stv rfl 47 _ _ rfl _ rfl rfl hr2 iP (by rw [hpl2, hPZl]) h1P ?_))
    refine bodyPost_ret (results_cells (Tryz.results29) _ rfl (hr2.setRow PC) Tryz.underlying47 rfl iP) rfl ⟨by rw [HPC.out], ?_⟩
    exact below_setRow (hB1.trans (hb2.mono hB1.size)) (by omega) _
  · have hgi : (n : Int) > (cnt T a : Int) := by omega
    rw [if_neg hle] at HPN
    have HU := Veil.mk (fun W hb => HUN.out (cnt T a) F.prev W (Nat.le_refl _) hpok hb)
    have hpl2 := HPL.out (cnt T a) F.prev hpl
    rw [← HPN.out] at HU hpl2
    have h1P := proofC_one PN
    have iP : (Tryz.prog.info? 47).map (·.size) = some (proofC PN).length := by rw [hpl2]; exact sizeProof
    have rP : V.rangeAt w.heap.size 4 (F.prev.map (Value.int .u8)) := by have := hD.range 4 32; rw [q4] at this; exact this
    have iQ : (Tryz.prog.info? 23).map (·.size) = some (F.prev.map (Value.int .u8)).length := by rw [List.length_map, hpl]; exact sizeKeyH
    have hu1 := HU.out V hB
    clear HUN HPN HPL q1 q2 q4 HLK
    generalize cnt T a = C at hgi hle hcl hu1
    have HHB : Veil (∀ wx, (Instr.build 40 #[(0, .int .u32 (C : Int)), (1, .agg (F.prev.map (Value.int .u8)).toArray)]).run Tryz.prog wx = .ok (.agg (headC ((C : Int), F.prev)).toArray) wx) := ⟨headBuilt (C : Int) F.prev hpl⟩
    have HLB : Veil (∀ wx, (Instr.build 83 #[(0, .int .u8 (a : Int)), (1, .agg (headC ((C : Int), F.prev)).toArray)]).run Tryz.prog wx = .ok (.agg (linkC ((a : Int), (C : Int), F.prev)).toArray) wx) := ⟨linkBuilt ((a : Int), (C : Int), F.prev) hpl⟩
    generalize linkC ((a : Int), (C : Int), F.prev) = LK at hu1 HLB
    generalize headC ((C : Int), F.prev) = HC at HHB HLB
    obtain ⟨PC, hPC⟩ : ∃ q, proofC PN = q := ⟨_, rfl⟩
    have HPC := Veil.mk hPC
    rw [hPC] at hu1 hpl2 h1P iP
    clear hPC HU
    clear hle
    go_wp2_with (first
      | (refine wpList_ldv rfl 23 _ rfl _ _ rfl (F.prev.map (Value.int .u8)) rP Tryz.underlying23 rfl iQ ?_)
      | (refine wpList_bldx rfl 40 _ rfl #[(0, .int .u32 (C : Int)), (1, .agg (F.prev.map (Value.int .u8)).toArray)] (by first | rfl | kernel_rfl) _ (HHB.out _) ?_)
      | (refine wpList_bldx rfl 83 _ rfl #[(0, .int .u8 (a : Int)), (1, .agg HC.toArray)] (by first | rfl | kernel_rfl) _ (HLB.out _) ?_)
      | (go_at_call 31; refine hu1.mono ?_; rintro e w2 ⟨rfl, hb2⟩; have hr2 := hr.farM hb2)
      | (refine wpList_stv rfl 47 _ _ rfl _ rfl rfl hr2 iP (by rw [hpl2, hPZl]) h1P ?_))
    refine bodyPost_ret (results_cells (Tryz.results29) _ rfl (hr2.setRow PC) Tryz.underlying47 rfl iP) rfl ⟨by rw [HPC.out], ?_⟩
    exact below_setRow (hB.trans (hb2.mono hB.size)) (by omega) _
set_option maxHeartbeats 8000000 in
theorem pIndex_any (u : Value) (Q : List Pf) (p : Pf) (hu : OwnI w base 47 66 u (Q.map proofC)) (hQ : ∀ q ∈ Q, okP q) (hp : okP p) (hl : Q.length ≤ 1000) :
    Calls Tryz.prog 95 #[u, .agg (proofC p).toArray] w fun e w' => (∃ r : Int, e = .returned (.int .i64 r) ∧ (0 ≤ r ↔ p ∈ Q)) ∧ Below w.heap.size w w' := by
  obtain ⟨x, c, rfl⟩ := hu.isSlice
  have hQl : (Q.map proofC).length = Q.length := List.length_map _
  have HAT : Veil (∀ W, Below w.heap.size w W → ∀ j (hj : j < Q.length), ∃ g, x = some ⟨g, 0, none⟩ ∧ W.rangeAt g (j * 66) (proofC Q[j])) := ⟨fun W hb j hj => by
    obtain ⟨g, h1, h2, h3⟩ := (hu.far hb).at_ j (by rw [hQl]; exact hj)
    rw [List.getElem_map] at h3
    exact ⟨g, h1, h3⟩⟩
  rw [hQl]
  have hpl := proofC_len p hp.2.2.1.1 hp.2.2.2.1
  have hD0 := CellsAt.new w 47 (proofC p)
  have hB0 : Below w.heap.size w (w.alloc (.cells (proofC p).toArray 47)) := (Below.refl _ _).alloc (Nat.le_refl _) _
  have HEQ : Veil (∀ j (hj : j < Q.length) wx, (binOp .eql 47 (.agg (proofC p).toArray) (.agg (proofC Q[j]).toArray)).run Tryz.prog wx = .ok (.bool (decide (p = Q[j]))) wx) := ⟨fun j hj wx => eqlProof p Q[j] hp (hQ _ (List.getElem_mem hj)) wx⟩
  have HQL : Veil (∀ j (hj : j < Q.length), (proofC Q[j]).length = 66) := ⟨fun j hj => proofC_len _ (hQ _ (List.getElem_mem hj)).2.2.1.1 (hQ _ (List.getElem_mem hj)).2.2.2.1⟩
  have uP : Tryz.prog.underlying 47 = _ := Tryz.underlying47
  have iP : (Tryz.prog.info? 47).map (·.size) = some (proofC p).length := by rw [hpl]; exact sizeProof
  obtain ⟨n, hn⟩ : ∃ q, Q.length = q := ⟨_, rfl⟩
  have HN := Veil.mk hn
  rw [hn] at hl ⊢
  clear hu hQl hn
  obtain ⟨PC, hPC⟩ : ∃ q, proofC p = q := ⟨_, rfl⟩
  rw [hPC] at hpl hD0 hB0 HEQ iP ⊢
  clear hPC
  go_enter Tryz.func95, Tryz.ntmps95
  go_wp2_with fail
  go_loopw [5, 8] (fun _ q wr => ∃ j : Nat, j ≤ n ∧ q = .int .i64 j ∧ p ∉ Q.take j ∧ Below w.heap.size w wr ∧ CellsAt wr w.heap.size 47 PC) (fun _ q _ => n - (intOf q).toNat)
  case atStart => exact ⟨0, Nat.zero_le _, rfl, by simp, hB0, hD0⟩
  case round =>
    clear hB0 hD0
    obtain ⟨j, hj, rfl, hni, hB, hD⟩ := hrel
    have HNI := Veil.mk hni
    clear hni
    by_cases hjn : j < n
    · have hji : (j : Int) < (n : Int) := by omega
      have hj0 : (0 : Int) ≤ (j : Int) := by omega
      have hjQ : j < Q.length := by rw [HN.out]; exact hjn
      obtain ⟨g, rfl, hr⟩ := HAT.out wr hB j hjQ
      have heq := HEQ.out j hjQ
      have hql := HQL.out j hjQ
      have iQ : (Tryz.prog.info? 47).map (·.size) = some (proofC Q[j]).length := by rw [hql]; exact sizeProof
      have HX : Veil (p ∉ Q.take j ∧ Q[j] ∈ Q ∧ Q.take (j + 1) = Q.take j ++ [Q[j]]) := ⟨HNI.out, List.getElem_mem hjQ, List.take_succ_eq_append_getElem hjQ⟩
      obtain ⟨QJ, hQJ⟩ : ∃ q, Q[j] = q := ⟨_, rfl⟩
      rw [hQJ] at hr heq hql iQ HX
      clear hQJ hjQ
      by_cases e : p = QJ
      · rw [show decide (p = QJ) = true by simp [e]] at heq
        have HE := Veil.mk e
        clear e
        go_upto_region 4 with fail
        refine wp_region_gate (fun w' => w'.rangeAt w.heap.size 0 PC ∧ w'.rangeAt g (j * 66) (proofC QJ)) 5 (by kernel_rfl) ?_
        have hS : (fun w' : World => w'.rangeAt w.heap.size 0 PC ∧ w'.rangeAt g (j * 66) (proofC QJ)) wr.drew := ⟨hD.wholeM, hr⟩
        generalize proofC QJ = QC at iQ hS heq hr hql ⊢
        refine ga 1 ?_ rfl (by kernel_rfl) (fun _ _ _ h => h) hS ?_ ?_
        rotate_left
        · intro _; go_simp; try with_reducible rfl
        simp only [Act.put, gA, gS, gZ, sI, sZ, sS]
        refine ga 2 ?_ rfl (by kernel_rfl) (fun _ _ _ h => h) hS ?_ ?_
        rotate_left
        · intro _; go_simp; try with_reducible rfl
        simp only [Act.put, gA, gS, gZ, sI, sZ, sS]
        refine wpAnyG_load (i := 0) (dst := some 11) (ty := 47) (x := .tmp 3) (b := w.heap.size) (o := (0)) (cs := PC) (by kernel_rfl) (by kernel_rfl) (by kernel_rfl) (by kernel_rfl) (by kernel_rfl) (fun _ _ _ h => h) (by kernel_rfl) (by kernel_rfl) (by kernel_rfl) hS (by kernel_rfl) (fun _ h => h.1) uP rfl iP ?_
        simp only [Act.put, gA, gS, gZ, sI, sZ, sS]
        refine ga 3 ?_ rfl (by kernel_rfl) (fun _ _ _ h => h) hS ?_ ?_
        rotate_left
        · intro _; go_simp; try with_reducible rfl
        simp only [Act.put, gA, gS, gZ, sI, sZ, sS]
        refine wpAnyG_load (i := 4) (dst := some 15) (ty := 47) (x := .tmp 14) (b := g) (o := ((j * 66))) (cs := QC) (by kernel_rfl) (by kernel_rfl) (by kernel_rfl) (by kernel_rfl) (by kernel_rfl) (fun _ _ _ h => h) (by kernel_rfl) (by kernel_rfl) (by kernel_rfl) hS (by kernel_rfl) (fun _ h => h.2) uP rfl iQ ?_
        simp only [Act.put, gA, gS, gZ, sI, sZ, sS]
        refine wpAnyG_one (i := 5) rfl (by kernel_rfl) (by kernel_rfl) (fun K hK => ?_)
        go_simp
        refine hK.out _ _ (fun h => absurd (show true = false from h) (by decide)) ?_
        clear hK K
        try simp only [Act.put, gA, gS, gZ, sI, sZ, sS]
        refine wpAnyG_done (by kernel_rfl) ?_ _
        clear hS heq hr
        go_wp2
        go_ret
        exact ⟨⟨_, rfl, fun _ => by rw [HE.out]; exact HX.out.2.1, fun _ => hj0⟩, hB.drew⟩
      · rw [show decide (p = QJ) = false by simp [e]] at heq
        have HE := Veil.mk e
        clear e
        go_upto_region 4 with fail
        refine wp_region_gate (fun w' => w'.rangeAt w.heap.size 0 PC ∧ w'.rangeAt g (j * 66) (proofC QJ)) 5 (by kernel_rfl) ?_
        have hS : (fun w' : World => w'.rangeAt w.heap.size 0 PC ∧ w'.rangeAt g (j * 66) (proofC QJ)) wr.drew := ⟨hD.wholeM, hr⟩
        generalize proofC QJ = QC at iQ hS heq hr hql ⊢
        refine ga 1 ?_ rfl (by kernel_rfl) (fun _ _ _ h => h) hS ?_ ?_
        rotate_left
        · intro _; go_simp; try with_reducible rfl
        simp only [Act.put, gA, gS, gZ, sI, sZ, sS]
        refine ga 2 ?_ rfl (by kernel_rfl) (fun _ _ _ h => h) hS ?_ ?_
        rotate_left
        · intro _; go_simp; try with_reducible rfl
        simp only [Act.put, gA, gS, gZ, sI, sZ, sS]
        refine wpAnyG_load (i := 0) (dst := some 11) (ty := 47) (x := .tmp 3) (b := w.heap.size) (o := (0)) (cs := PC) (by kernel_rfl) (by kernel_rfl) (by kernel_rfl) (by kernel_rfl) (by kernel_rfl) (fun _ _ _ h => h) (by kernel_rfl) (by kernel_rfl) (by kernel_rfl) hS (by kernel_rfl) (fun _ h => h.1) uP rfl iP ?_
        simp only [Act.put, gA, gS, gZ, sI, sZ, sS]
        refine ga 3 ?_ rfl (by kernel_rfl) (fun _ _ _ h => h) hS ?_ ?_
        rotate_left
        · intro _; go_simp; try with_reducible rfl
        simp only [Act.put, gA, gS, gZ, sI, sZ, sS]
        refine wpAnyG_load (i := 4) (dst := some 15) (ty := 47) (x := .tmp 14) (b := g) (o := ((j * 66))) (cs := QC) (by kernel_rfl) (by kernel_rfl) (by kernel_rfl) (by kernel_rfl) (by kernel_rfl) (fun _ _ _ h => h) (by kernel_rfl) (by kernel_rfl) (by kernel_rfl) hS (by kernel_rfl) (fun _ h => h.2) uP rfl iQ ?_
        simp only [Act.put, gA, gS, gZ, sI, sZ, sS]
        refine wpAnyG_one (i := 5) rfl (by kernel_rfl) (by kernel_rfl) (fun K hK => ?_)
        go_simp
        refine hK.out _ _ (fun h => absurd (show true = false from h) (by decide)) ?_
        clear hK K
        try simp only [Act.put, gA, gS, gZ, sI, sZ, sS]
        refine wpAnyG_done (by kernel_rfl) ?_ _
        clear hS heq hr
        have hw1 : IntKind.i64.wrap ((j : Int) + 1) = (j : Int) + 1 := by rw [IntKind.wrap_i64]; omega
        go_wp2
        go_roundw
        case rel => exact ⟨j + 1, hjn, by push_cast; rfl, by rw [HX.out.2.2]; simp [HE.out, HX.out.1], hB.drew, hD.congr rfl⟩
        case measure => simp [intOf]; omega
    · obtain rfl : j = n := by omega
      have hji : ¬ (j : Int) < (j : Int) := by omega
      have HNI2 : Veil (p ∉ Q) := ⟨by have := HNI.out; rw [← HN.out, List.take_length] at this; exact this⟩
      go_wp2
      go_ret
      exact ⟨⟨-1, rfl, fun h => by omega, fun h => absurd h HNI2.out⟩, hB⟩
end
end Go.Proofs.YtlhajphjppjlgaaGreatDoor
