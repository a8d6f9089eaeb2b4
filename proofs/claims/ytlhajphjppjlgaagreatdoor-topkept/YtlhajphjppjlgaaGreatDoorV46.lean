/- Ho -/
import Derived.Test.YtlhajphjppjlgaaGreatDoorV0
import Derived.Test.YtlhajphjppjlgaaGreatDoorV45
import Derived.Great.BuildSlice
import Derived.WalkMore
namespace Go.Proofs.YtlhajphjppjlgaaGreatDoor
open Go.RowKit
set_option maxRecDepth 20000
set_option linter.unusedSimpArgs false
theorem noteAll_take (P Q : List Pf) (j : Nat) (hj : j < Q.length) : noteAll P (Q.take (j + 1)) = noteP (noteAll P (Q.take j)) Q[j] := by
  unfold noteAll
  rw [List.take_succ_eq_append_getElem hj, List.foldl_append]; rfl
theorem noteAll_drop (P Q : List Pf) (j : Nat) (h : 32 ≤ (noteAll P (Q.take j)).length) : noteAll P Q = noteAll P (Q.take j) := by
  have : noteAll P Q = noteAll (noteAll P (Q.take j)) (Q.drop j) := by
    unfold noteAll
    rw [← List.foldl_append, List.take_append_drop]
  rw [this, noteAll_full _ _ h]
theorem noteP_in (P : List Pf) (p : Pf) (h : p ∈ P) : noteP P p = P := by unfold noteP; rw [if_pos (.inl h)]
theorem noteP_new (P : List Pf) (p : Pf) (h : p ∉ P) (hl : P.length < 32) : noteP P p = P ++ [p] := by
  unfold noteP; rw [if_neg (by rintro (q | q); exact h q; omega)]
theorem ret_bH {a b : Bool} (h : a = b) : Ending.returned (.bool a) = .returned (.bool b) := by rw [h]
section
variable (base H b : Nat) (v : Value) (T : Sms) (P : List Pf) (w : World)
set_option maxHeartbeats 4000000 in
theorem pContains_any (u : Value) (Q : List Pf) (p : Pf) (hu : OwnI w base 47 66 u (Q.map proofC)) (hQ : ∀ q ∈ Q, okP q) (hp : okP p) (hl : Q.length ≤ 1000) :
    Calls Tryz.prog 62 #[u, .agg (proofC p).toArray] w fun e w' => e = .returned (.bool (decide (p ∈ Q))) ∧ Below w.heap.size w w' := by
  have hB : Below w.heap.size w (w.alloc (.cells (proofC p).toArray 47)) := (Below.refl _ _).alloc (Nat.le_refl _) _
  have hpl := proofC_len p hp.2.2.1.1 hp.2.2.2.1
  have rP := (CellsAt.new w 47 (proofC p)).wholeM
  have hix := pIndex_any base (w.alloc (.cells (proofC p).toArray 47)) u Q p (hu.far hB) hQ hp hl
  have iP : (Tryz.prog.info? 47).map (·.size) = some (proofC p).length := by rw [hpl]; exact sizeProof
  obtain ⟨x, c, rfl⟩ := hu.isSlice
  generalize (Q.map proofC).length = n at hix ⊢
  generalize proofC p = PC at hB rP hix iP ⊢
  clear hu hQ hp hl hpl
  go_enter Tryz.func62, Tryz.ntmps62
  go_wp2_with (first
    | (refine wpList_ldv rfl 47 _ rfl _ _ rfl PC rP Tryz.underlying47 rfl iP ?_)
    | (go_at_call 95; refine hix.mono ?_; rintro e w1 ⟨⟨r, rfl, hr⟩, hb1⟩; have HR := Veil.mk hr; clear hr))
  go_ret
  refine ⟨ret_bH ?_, hB.trans (hb1.mono hB.size)⟩
  rw [Bool.eq_iff_iff]
  simp only [decide_eq_true_iff]
  exact HR.out
set_option maxHeartbeats 4000000 in
theorem pClone_any (u : Value) (Q : List Pf) (hu : OwnI w base 47 66 u (Q.map proofC)) (hl : Q.length ≤ 1000) :
    Calls Tryz.prog 33 #[u] w fun e w' => ∃ v', e = .returned v' ∧ OwnI w' w.heap.size 47 66 v' (Q.map proofC) ∧ Below w.heap.size w w' := by
  rcases hu.own.2 with ⟨rfl, h0⟩ | ⟨g, cap, cur, rfl, hbg, hrest⟩
  · have hL : Q.map proofC = [] := List.length_eq_zero_iff.1 h0
    have hnil : ∀ wx : World, (binOp BinOp.eql 43 (.slice none 0 0) (.slice none 0 0)).run Tryz.prog wx = .ok (.bool true) wx := fun _ => by kernel_rfl
    rw [hL]
    clear hu hL h0
    go_enter Tryz.func33, Tryz.ntmps33
    go_wp2
    go_ret
    exact ⟨_, rfl, OwnI.nil _ _ _ _, Below.refl _ _⟩
  · have hB : Below w.heap.size w (w.alloc (.cells #[] 47)) := (Below.refl _ _).alloc (Nat.le_refl _) _
    have hE := OwnI.empty w 47 66
    have hu1 := hu.far hB
    have hone : ∀ c ∈ Q.map proofC, ∀ u ∈ c, u.oneCell' = true := fun c hc u hu => by
      obtain ⟨q, _, rfl⟩ := List.mem_map.1 hc
      exact proofC_one q u hu
    have hap := hE.apps (P := Tryz.prog) 43 43 Tryz.underlying43 infoProof (by rfl) (by decide) (Q.map proofC) hu.each hone base _ hu1 (by simp; omega) (by decide) (by simp)
    rw [List.nil_append] at hap
    have hnil : ∀ (n : Nat) (wx : World), (binOp BinOp.eql 43 (.slice (some ⟨g, 0, none⟩) n cap) (.slice none 0 0)).run Tryz.prog wx = .ok (.bool false) wx := fun _ _ => by kernel_rfl
    have HAP := Veil.mk hap
    generalize (Q.map proofC).length = n at HAP hnil ⊢
    have hnl := hnil n
    clear hu hE hu1 hone hrest hnil hap
    go_enter Tryz.func33, Tryz.ntmps33
    go_wp2_with (at_builtin; obtain ⟨v1, w1, hr1, ho1, hg1, _⟩ := HAP.out; refine wpList_appx rfl _ _ 43 43 rfl _ _ _ _ rfl rfl hr1 ?_)
    go_ret
    refine ⟨_, rfl, ho1, ?_⟩
    exact hB.grown hg1 (by simp) (fun k hk => by cases hk; exact Nat.le_refl _)
set_option maxHeartbeats 8000000 in
theorem note_any (base' : Nat) (u : Value) (Q : List Pf) (hC : ChainAt w base H b v T P) (hu : OwnI w base' 47 66 u (Q.map proofC)) (hQ : ∀ q ∈ Q, okP q) (hl : Q.length ≤ 1000) (hsep : ∀ g, u.ownBlock = some g → ¬ chainP H b v g) (hbase : base ≤ w.heap.size) :
    Calls Tryz.prog 28 #[.pointer (some ⟨H, 0, none⟩), u] w fun e w' => (∃ r, e = .returned r) ∧ ∃ v', ChainAt w' base H b v' T (noteAll P Q) ∧ Turn (chainP H b v) w w' ∧ (v'.ownBlock = v.ownBlock ∨ ∃ g, v'.ownBlock = some g ∧ w.heap.size ≤ g) := by
  have hok := hC.ok
  obtain ⟨x, c, hux⟩ := hu.isSlice
  have hQl : (Q.map proofC).length = Q.length := List.length_map _
  rw [hQl] at hux
  subst hux
  have HU : Veil (∀ W, Turn (chainP H b v) w W → OwnI W base' 47 66 (.slice x Q.length c) (Q.map proofC)) := ⟨fun W ht => hu.congr fun g hg => ht.block g (hu.blockLt g hg).1 (hsep g hg)⟩
  have HAT : Veil (∀ W, Turn (chainP H b v) w W → ∀ j (hj : j < Q.length), ∃ g, x = some ⟨g, 0, none⟩ ∧ W.rangeAt g (j * 66) (proofC Q[j])) := ⟨fun W ht j hj => by
    obtain ⟨g, h1, h2, h3⟩ := (HU.out W ht).at_ j (by rw [hQl]; exact hj)
    rw [List.getElem_map] at h3
    exact ⟨g, h1, h3⟩⟩
  have HIN : Veil (∀ g, chainP H b v g → g < w.heap.size) := ⟨fun g hg => (hC.inside g hg).1⟩
  obtain ⟨PZ, hPZ, hPZl⟩ : ∃ q : List Value, q = proofC (0, 0, List.replicate 32 0, List.replicate 32 0) ∧ q.length = 66 := ⟨_, rfl, rfl⟩
  have hzv : ∀ wx, (zeroValue 47).run Tryz.prog wx = .ok (.agg PZ.toArray) wx := fun wx => by rw [hPZ]; exact zero_ofH (by kernel_rfl) wx
  have hz1 : ¬ PZ.toArray = #[] := by intro h; have := congrArg Array.size h; simp at this; rw [this] at hPZl; simp at hPZl
  obtain ⟨n, hn⟩ : ∃ q, Q.length = q := ⟨_, rfl⟩
  have HN := Veil.mk hn
  rw [hn] at hl HU ⊢
  have HOKQ := Veil.mk hQ
  have uP : Tryz.prog.underlying 47 = _ := Tryz.underlying47
  clear hu hQl hn hPZ hsep HU hQ
  go_enter Tryz.func28, Tryz.ntmps28
  go_step3
  go_wp2_with fail
  go_step3
  go_wp2_with fail
  go_loopw [5, 8] (fun _ q wr => ∃ j : Nat, j ≤ n ∧ q = .int .i64 j ∧ ∃ v', ChainAt wr base H b v' T (noteAll P (Q.take j)) ∧ Turn (chainP H b v) w wr ∧ (v'.ownBlock = v.ownBlock ∨ ∃ g, v'.ownBlock = some g ∧ w.heap.size ≤ g)) (fun _ q _ => n - (intOf q).toNat)
  case atStart => exact ⟨0, Nat.zero_le _, rfl, v, hC, Turn.refl _ _, .inl rfl⟩
  case round =>
    clear hC
    obtain ⟨j, hj, rfl, v', hC, hT, hV⟩ := hrel
    have HV := Veil.mk hV
    clear hV
    by_cases hjn : j < n
    · have hji : (j : Int) < (n : Int) := by omega
      have hj0 : (0 : Int) ≤ (j : Int) := by omega
      have hjQ : j < Q.length := by rw [HN.out]; exact hjn
      obtain ⟨g, rfl, hr⟩ := HAT.out wr hT j hjQ
      have HNT := Veil.mk (noteAll_take P Q j hjQ)
      have HND : Veil (32 ≤ (noteAll P (Q.take j)).length → noteAll P Q = noteAll P (Q.take j)) := ⟨noteAll_drop P Q j⟩
      have hqok := HOKQ.out _ (List.getElem_mem hjQ)
      obtain ⟨QJ, hQJ⟩ : ∃ q, Q[j] = q := ⟨_, rfl⟩
      rw [hQJ] at hr HNT hqok
      clear hQJ hjQ
      obtain ⟨PJ, hPJ⟩ : ∃ q, noteAll P (Q.take j) = q := ⟨_, rfl⟩
      rw [hPJ] at hC HNT HND
      clear hPJ
      have hql := proofC_len QJ hqok.2.2.1.1 hqok.2.2.2.1
      have iQ : (Tryz.prog.info? 47).map (·.size) = some (proofC QJ).length := by rw [hql]; exact sizeProof
      have h1Q := proofC_one QJ
      have hA := CellsAt.new wr 47 PZ
      have hBA : Below wr.heap.size wr (wr.alloc (.cells PZ.toArray 47)) := (Below.refl _ _).alloc (Nat.le_refl _) _
      go_upto_region 3 with (first
        | (refine wpList_ldv rfl 47 _ rfl _ _ (by go_simp) (proofC QJ) hr Tryz.underlying47 rfl iQ ?_)
        | (refine wpList_stv rfl 47 _ _ rfl _ rfl rfl hA iQ (by rw [hPZl, hql]) h1Q ?_))
      have hA2 := hA.setRow (proofC QJ)
      have hB2 : Below wr.heap.size wr ((wr.alloc (.cells PZ.toArray 47)).setRow wr.heap.size (proofC QJ).toArray) := below_setRow hBA (Nat.le_refl _) _
      have hC2 := hC.far hB2
      have hT2 := hT.trans (Turn.of_below hB2)
      have HIG : Veil (∀ k, chainP H b v' k → k < wr.heap.size) := ⟨fun k hk => (hC.inside k hk).1⟩
      have hwG : w.heap.size ≤ wr.heap.size := hT.size
      have hvs := hC.own.isSlice
      refine forget (p := fun y => Code.wp _ _ _ _ y) (fun V => ChainAt V base H b v' T PJ ∧ Turn (chainP H b v) w V ∧ CellsAt V wr.heap.size 47 (proofC QJ)) ⟨hC2, hT2, hA2⟩ ?_
      clear hA2 hB2 hC2 hT2 hA hBA hC hT hr
      obtain ⟨G, hG⟩ : ∃ q, wr.heap.size = q := ⟨_, rfl⟩
      rw [hG] at HIG hwG ⊢
      clear hG
      rintro V ⟨hC, hT, hA⟩
      obtain ⟨xv, cv, hvv⟩ := hvs
      rw [List.length_map] at hvv
      have c265 := hC.box.cell 265
      rw [chainC_proofs hC.ok] at c265
      have HC := Veil.mk hC
      have HVV := Veil.mk hvv
      have hlP := hC.lenP
      rw [hvv] at c265
      clear hvv hC
      obtain ⟨m, hm⟩ : ∃ q, PJ.length = q := ⟨_, rfl⟩
      rw [hm] at c265 HND HVV hlP
      have HM := Veil.mk hm
      clear hm
      by_cases hfull : 32 ≤ m
      · have hfi : (m : Int) ≥ 32 := by omega
        go_wp2
        simp only [Exit.noGoto]
        go_end0
        exact ⟨⟨_, rfl⟩, v', by rw [HND.out hfull]; exact HC.out, hT, HV.out⟩
      · have hfi : ¬ (m : Int) ≥ 32 := by omega
        go_upto_region 4 with fail
        have hcon : ∀ W, ChainAt W base H b v' T PJ → Calls Tryz.prog 62 #[.slice xv m cv, .agg (proofC QJ).toArray] W fun e w' => e = .returned (.bool (decide (QJ ∈ PJ))) ∧ Below W.heap.size W w' := fun W h => by
          have := pContains_any base W v' PJ QJ h.own h.okP hqok (by have := h.lenP; omega)
          rw [HVV.out] at this
          exact this
        have hc4 := hcon V.drew (HC.out.congr fun _ _ => rfl)
        have HCON := Veil.mk hcon
        clear hcon
        obtain ⟨QC, hQC⟩ : ∃ q, proofC QJ = q := ⟨_, rfl⟩
        have HQC := Veil.mk hQC
        rw [hQC] at hql iQ h1Q hA hc4 ⊢
        clear hQC
        refine wp_region_gate (fun w' => w'.cell? ⟨H, 265, none⟩ = some (.slice xv m cv) ∧ w'.rangeAt G 0 QC) 5 (by kernel_rfl) ?_
        have hS : (fun w' : World => w'.cell? ⟨H, 265, none⟩ = some (.slice xv m cv) ∧ w'.rangeAt G 0 QC) V.drew := ⟨c265, hA.wholeM⟩
        refine ga 0 ?_ rfl (by kernel_rfl) (fun _ _ _ h => h) hS ?_ ?_
        rotate_left
        · intro _; go_simp; try with_reducible rfl
        simp only [Act.put, gA, gS, gZ, sI, sZ, sS]
        refine ga 1 ?_ rfl (by kernel_rfl) (fun _ _ _ h => h) hS ?_ ?_
        rotate_left
        · intro _; go_simp; try with_reducible rfl
        simp only [Act.put, gA, gS, gZ, sI, sZ, sS]
        refine ga 2 ?_ rfl (by kernel_rfl) (fun _ _ _ h => h) hS ?_ ?_
        rotate_left
        · intro _; go_simp; try with_reducible rfl
        simp only [Act.put, gA, gS, gZ, sI, sZ, sS]
        refine gr 3 ?_ rfl (by kernel_rfl) (fun _ _ _ h => h) hS ?_ ?_
        rotate_left
        · intro wx hSw; go_split_ands; go_simp; try with_reducible rfl
        simp only [Act.put, gA, gS, gZ, sI, sZ, sS]
        refine wpAnyG_load (i := 4) (dst := some 24) (ty := 47) (x := .tmp 5) (b := G) (o := (0)) (cs := QC) (by kernel_rfl) (by kernel_rfl) (by kernel_rfl) (by kernel_rfl) (by kernel_rfl) (fun _ _ _ h => h) (by kernel_rfl) (by kernel_rfl) (by kernel_rfl) hS (by kernel_rfl) (fun _ h => h.2) uP rfl iQ ?_
        simp only [Act.put, gA, gS, gZ, sI, sZ, sS]
        refine wpAnyG_one (i := 5) rfl (by kernel_rfl) (by kernel_rfl) (fun K hK => ?_)
        refine wpx_call _ _ (by kernel_rfl) (hc4.mono ?_)
        rintro e w1 ⟨rfl, hb1⟩
        refine ⟨_, rfl, ?_⟩
        refine hK.out _ _ (fun h => absurd (show true = false from h) (by decide)) ?_
        clear hK K
        try simp only [Act.put, gA, gS, gZ, sI, sZ, sS]
        refine wpAnyG_any (i := 6) (v := ?_) rfl (by kernel_rfl) (by kernel_rfl) (by kernel_rfl) (fun _ _ _ h => h) (by kernel_rfl) (fun h => absurd (show true = false from h) (by decide)) (by kernel_rfl) ?_ ?_
        rotate_left
        · intro _; go_simp; try with_reducible rfl
        simp only [Act.put, gA, gS, gZ, sI, sZ, sS]
        refine wpAnyG_any (i := 7) (v := ?_) rfl (by kernel_rfl) (by kernel_rfl) (by kernel_rfl) (fun _ _ _ h => h) (by kernel_rfl) (fun h => absurd (show true = false from h) (by decide)) (by kernel_rfl) ?_ ?_
        rotate_left
        · intro _; go_simp; try with_reducible rfl
        simp only [Act.put, gA, gS, gZ, sI, sZ, sS]
        refine wpAnyG_done (by kernel_rfl) ?_ _
        have hC5 : ChainAt w1 base H b v' T PJ := (HC.out.congr (w' := V.drew) fun _ _ => rfl).far hb1
        have hT5 : Turn (chainP H b v) w w1 := hT.trans ((Turn.of_below (w' := V.drew) (Below.refl _ _).drew).trans (Turn.of_below hb1))
        have hA5 := (hA.congr (w' := V.drew) rfl).farM hb1
        refine forget (p := fun y => Exit.then _ _ _ _ y) (fun V => ChainAt V base H b v' T PJ ∧ Turn (chainP H b v) w V ∧ CellsAt V G 47 QC) ⟨hC5, hT5, hA5⟩ ?_
        clear hC5 hT5 hA5 hb1 hS hc4 HC hT hA c265 HCON
        clear w1 V
        rintro V ⟨hC, hT, hA⟩
        have hw1 : IntKind.i64.wrap ((j : Int) + 1) = (j : Int) + 1 := by rw [IntKind.wrap_i64]; omega
        by_cases hin : QJ ∈ PJ
        · rw [show decide (QJ ∈ PJ) = true by simp [hin]]
          rw [noteP_in PJ QJ hin] at HNT
          clear hin
          have HC := Veil.mk hC
          have HT := Veil.mk hT
          clear hC hT hA
          go_wp2
          go_roundw
          case rel => exact ⟨j + 1, hjn, by push_cast; rfl, v', by rw [HNT.out]; exact HC.out, HT.out, HV.out⟩
          case measure => simp [intOf]; omega
        · rw [show decide (QJ ∈ PJ) = false by simp [hin]]
          rw [noteP_new PJ QJ hin (by have := HM.out; omega)] at HNT
          clear hin
          go_upto_region 5 with fail
          have c265 := hC.box.cell 265
          rw [chainC_proofs hC.ok, HVV.out] at c265
          refine wp_region_gate (fun w' => w'.cell? ⟨H, 265, none⟩ = some (.slice xv m cv) ∧ w'.rangeAt G 0 QC) 10 (by kernel_rfl) ?_
          have hS : (fun w' : World => w'.cell? ⟨H, 265, none⟩ = some (.slice xv m cv) ∧ w'.rangeAt G 0 QC) V.drew := ⟨c265, hA.wholeM⟩
          refine ga 0 ?_ rfl (by kernel_rfl) (fun _ _ _ h => h) hS ?_ ?_
          rotate_left
          · intro _; go_simp; try with_reducible rfl
          simp only [Act.put, gA, gS, gZ, sI, sZ, sS]
          refine ga 1 ?_ rfl (by kernel_rfl) (fun _ _ _ h => h) hS ?_ ?_
          rotate_left
          · intro _; go_simp; try with_reducible rfl
          simp only [Act.put, gA, gS, gZ, sI, sZ, sS]
          refine ga 2 ?_ rfl (by kernel_rfl) (fun _ _ _ h => h) hS ?_ ?_
          rotate_left
          · intro _; go_simp; try with_reducible rfl
          simp only [Act.put, gA, gS, gZ, sI, sZ, sS]
          refine ga 3 ?_ rfl (by kernel_rfl) (fun _ _ _ h => h) hS ?_ ?_
          rotate_left
          · intro _; go_simp; try with_reducible rfl
          simp only [Act.put, gA, gS, gZ, sI, sZ, sS]
          refine gr 4 ?_ rfl (by kernel_rfl) (fun _ _ _ h => h) hS ?_ ?_
          rotate_left
          · intro wx hSw; go_split_ands; go_simp; try with_reducible rfl
          simp only [Act.put, gA, gS, gZ, sI, sZ, sS]
          refine wpAnyG_load (i := 5) (dst := some 32) (ty := 47) (x := .tmp 5) (b := G) (o := (0)) (cs := QC) (by kernel_rfl) (by kernel_rfl) (by kernel_rfl) (by kernel_rfl) (by kernel_rfl) (fun _ _ _ h => h) (by kernel_rfl) (by kernel_rfl) (by kernel_rfl) hS (by kernel_rfl) (fun _ h => h.2) uP rfl iQ ?_
          simp only [Act.put, gA, gS, gZ, sI, sZ, sS]
          refine wpAnyG_one (i := 6) rfl (by kernel_rfl) (by kernel_rfl) (fun K hK => ?_)
          refine wp_bs1 43 47 _ rfl QC rfl Tryz.underlying43 infoProof (by decide) (by decide) hql ?_
          have hb6 : Below V.heap.size V (V.drew.alloc (.cells QC.toArray 47)) := (Below.refl _ _).drew.alloc (Nat.le_refl _) _
          have hC6 := hC.far hb6
          have hA6 := hA.farM hb6
          have hn6 : CellsAt (V.drew.alloc (.cells QC.toArray 47)) V.heap.size 47 QC := CellsAt.new V.drew _ _
          have hT6 := hT.trans (Turn.of_below hb6)
          have hs6 : (V.drew.alloc (.cells QC.toArray 47)).heap.size = V.heap.size + 1 := by simp
          replace hS : (fun w' : World => w'.cell? ⟨H, 265, none⟩ = some (.slice xv m cv) ∧ w'.rangeAt G 0 QC) (V.drew.alloc (.cells QC.toArray 47)) := ⟨by have := hC6.box.cell 265; rw [chainC_proofs hC6.ok, HVV.out] at this; exact this, hA6.wholeM⟩
          refine hK.out _ _ (fun _ => hS) ?_
          clear hK K
          try simp only [Act.put, gA, gS, gZ, sI, sZ, sS]
          refine wpAnyG_one (i := 7) rfl (by kernel_rfl) (by kernel_rfl) (fun K hK => ?_)
          obtain ⟨v3, W3, hr3, hv3, hg3, hw3⟩ := hC6.own.app (P := Tryz.prog) 43 43 Tryz.underlying43 infoProof (by rfl) (by decide) QC hql h1Q V.heap.size hn6.wholeM (by rw [List.length_map]; have := hC.lenP; omega) (by decide) (by rw [hs6]; have := hT.size; omega)
          rw [hs6] at hw3
          refine wpx_app _ _ 43 43 rfl _ _ _ _ (by rw [HVV.out]; rfl) rfl hr3 ?_
          have HNV : Veil (∀ k, v'.ownBlock = some k → k ≠ H ∧ k ≠ b ∧ k < G) := ⟨fun k hk => ⟨(hC.neV k hk).1, (hC.neV k hk).2, HIG.out k (.inr (.inr hk))⟩⟩
          have hGV : G < V.heap.size := hA.lt
          have hbH := hC.neHB
          have hHG : H < G := HIG.out H (.inl rfl)
          have hbG : b < G := HIG.out b (.inr (.inl rfl))
          have hk3 : ∀ k, k < V.heap.size → v'.ownBlock ≠ some k → W3.heap[k]? = V.heap[k]? := fun k hk hn => (hg3.block k (by rw [hs6]; omega) (fun e => hn e.symm)).trans (Below.heap_alloc V.drew _ k hk)
          have hbox3 : CellsAt W3 H 80 (chainC T b v') := hC.box.congr (hk3 H (by omega) (fun e => (HNV.out H e).1 rfl))
          have hA3 : CellsAt W3 G 47 QC := hA.congr (hk3 G hGV (fun e => by have := (HNV.out G e).2.2; omega))
          have hM3 : MapG Tryz.prog 83 encL okL W3 b (tot T) (linkM T) := hC.map.congr (hk3 b (by omega) (fun e => (HNV.out b e).2.1 rfl))
          have hT3 : Turn (chainP H b v) w W3 := ⟨hg3.os.trans hT6.os, hg3.tape.trans hT6.tape, hg3.output.trans hT6.output, Nat.le_trans hT6.size hg3.size, fun k hk hn => (hg3.block k (Nat.lt_of_lt_of_le hk hT6.size) (fun e => by
            rcases HV.out with h | ⟨g', h, hg'⟩
            · exact hn (.inr (.inr (h ▸ e.symm)))
            · rw [← e] at h; cases h; omega)).trans (hT6.block k hk hn)⟩
          have hVW : V.heap.size < W3.heap.size := by have := hg3.size; rw [hs6] at this; omega
          replace hS : (fun w' : World => w'.cell? ⟨H, 265, none⟩ = some (.slice xv m cv) ∧ w'.rangeAt G 0 QC) W3 := ⟨by have := hbox3.cell 265; rw [chainC_proofs hC.ok, HVV.out] at this; exact this, hA3.wholeM⟩
          have HOKP : Veil ((∀ p ∈ PJ ++ [QJ], okP p) ∧ (PJ ++ [QJ]).length ≤ 32) := ⟨fun p hp => by
            rcases List.mem_append.1 hp with h | h
            · exact hC.okP p h
            · rw [List.mem_singleton.1 h]; exact hqok, by rw [List.length_append]; have := HM.out; simp; omega⟩
          have HB0 : Veil (base ≤ H ∧ base ≤ b) := ⟨hC.baseH, hC.baseB⟩
          rw [show PJ.map proofC ++ [QC] = (PJ ++ [QJ]).map proofC by rw [List.map_append, ← HQC.out]; rfl] at hv3
          refine hK.out _ _ (fun _ => hS) ?_
          clear hK K
          try simp only [Act.put, gA, gS, gZ, sI, sZ, sS]
          refine ga 8 ?_ rfl (by kernel_rfl) (fun _ _ _ h => h) hS ?_ ?_
          rotate_left
          · intro _; go_simp; try with_reducible rfl
          simp only [Act.put, gA, gS, gZ, sI, sZ, sS]
          refine ga 9 ?_ rfl (by kernel_rfl) (fun _ _ _ h => h) hS ?_ ?_
          rotate_left
          · intro _; go_simp; try with_reducible rfl
          simp only [Act.put, gA, gS, gZ, sI, sZ, sS]
          refine wpAnyG_one (i := 10) rfl (by kernel_rfl) (by kernel_rfl) (fun K hK => ?_)
          have c3 := hS.1
          have f3 := hbox3.frozen 265
          have HV3 : Veil (OwnI W3 base 47 66 v3 ((PJ ++ [QJ]).map proofC)) := ⟨hv3⟩
          have HW3 : Veil (v3.ownBlock = v'.ownBlock ∨ v3.ownBlock = some (V.heap.size + 1)) := ⟨hw3⟩
          obtain ⟨x3, q3, hx3⟩ := hv3.isSlice
          have hVw : w.heap.size ≤ V.heap.size := hT.size
          clear hv3 hw3 hg3 hr3 hC hT hA hC6 hA6 hn6 hT6 hb6 hs6 hk3 hA3 c265
          generalize ((PJ ++ [QJ]).map proofC).length = m3 at hx3
          subst hx3
          go_simp
          refine hK.out _ _ (fun h => absurd (show true = false from h) (by decide)) ?_
          clear hK K
          try simp only [Act.put, gA, gS, gZ, sI, sZ, sS]
          refine wpAnyG_done (by kernel_rfl) ?_ _
          have HH : Veil (CellsAt W3 H 80 (chainC T b v') ∧ MapG Tryz.prog 83 encL okL W3 b (tot T) (linkM T) ∧ Turn (chainP H b v) w W3) := ⟨hbox3, hM3, hT3⟩
          clear hS c3 f3 hbox3 hM3 hT3
          go_wp2
          go_roundw
          case rel =>
            obtain ⟨hbox3, hM3, hT3⟩ := HH.out
            refine ⟨j + 1, hjn, by push_cast; rfl, .slice x3 m3 q3, ⟨?_, ?_, ?_, hok, ?_, ?_, HB0.out.1, HB0.out.2⟩, ?_, ?_⟩
            · have := hbox3.set 265 (.slice x3 m3 q3)
              rw [chainC_setP hok] at this
              exact this
            · exact hM3.congr (Below.heap_setCell W3 _ _ b (by show b ≠ H; exact hbH))
            · rw [HNT.out]
              refine HV3.out.congr fun k hk => Below.heap_setCell W3 _ _ k ?_
              show k ≠ H
              intro e
              subst e
              rcases HW3.out with h | h
              · rw [h] at hk; exact (HNV.out k hk).1 rfl
              · rw [h] at hk; cases hk; omega
            · rw [HNT.out]; exact HOKP.out.1
            · rw [HNT.out]; exact HOKP.out.2
            · exact hT3.trans (Turn.of_setCell W3 (a := ⟨H, 265, none⟩) (.inl rfl) _)
            · rcases HW3.out with h | h
              · rw [h]; exact HV.out
              · exact .inr ⟨_, h, by omega⟩
          case measure => simp [intOf]; omega
    · obtain rfl : j = n := by omega
      have hji : ¬ (j : Int) < (j : Int) := by omega
      have hQt : Q.take j = Q := by rw [← HN.out, List.take_length]
      rw [hQt] at hC
      clear hQt
      go_wp2
      go_end0
      exact ⟨⟨_, rfl⟩, v', hC, hT, HV.out⟩
end
end Go.Proofs.YtlhajphjppjlgaaGreatDoor
