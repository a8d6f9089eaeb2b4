/- The statement ChainLies, walked. -/
import Derived.Test.YtgcidamdbidgiaaDoorHz3
import Derived.Test.YtgcidamdbidgiaaDoorHl2
namespace Go.Proofs.YtgcidamdbidgiaaDoor
open Go.RowKit
set_option maxRecDepth 20000
set_option linter.unusedSimpArgs false

set_option maxHeartbeats 32000000 in
theorem chainLies_walk (x : Option Addr) (len cap : Nat) (ds : List Dc) (n : Nat) (k : List Int) (w : World) (hd : DeedsC w x len cap ds) (hn : n ≤ 255) (hk : okK k) (hKT : S.KTab w) :
    Calls Tryd.prog 6 #[.slice x len cap, .int .u8 (n : Int), .agg (row .u8 k)] w fun e w' => e = .returned (.bool true) ∧ Below w.heap.size w w' := by
  obtain ⟨KV, hKV⟩ : ∃ q, k.map (Value.int .u8) = q := ⟨_, rfl⟩
  have hrow : row .u8 k = KV.toArray := by rw [← hKV]; rfl
  have hKl : KV.length = 32 := by rw [← hKV, List.length_map, hk.1]
  have h1K : ∀ v ∈ KV, v.oneCell' = true := fun v hv => by rw [← hKV] at hv; obtain ⟨x, _, rfl⟩ := List.mem_map.1 hv; rfl
  have HKV := Veil.mk hKV
  rw [hrow]
  clear hrow hKV
  have iK : (Tryd.prog.info? 34).map (·.size) = some KV.length := by rw [hKl]; exact sizeKeyH
  have hb0 : Below w.heap.size w (w.alloc (.cells KV.toArray 34)) := (Below.refl _ _).alloc (Nat.le_refl _) _
  have hA0 := CellsAt.new w 34 KV
  have hP := playC_any x len cap ds (w.alloc (.cells KV.toArray 34)) (hd.below hb0) (hKT.below hb0)
  rw [World.size_alloc] at hP
  have HKT : Veil (∀ W, Below w.heap.size w W → S.KTab W) := ⟨fun W hb => hKT.below hb⟩
  have hn0 : (0 : Int) ≤ (n : Int) := by omega
  have hn5 : (n : Int) ≤ 255 := by omega
  obtain ⟨A, hA⟩ : ∃ q, n % 8 = q := ⟨_, rfl⟩
  have hA8 : A < 8 := by omega
  have hrem : (n : Int).tmod 8 = (A : Int) := by rw [Int.tmod_eq_emod_of_nonneg (by omega), ← hA]; rfl
  have hAi0 : (0 : Int) ≤ (A : Int) := by omega
  have hAi8 : (A : Int) < 8 := by omega
  have hcv : IntKind.u8.wrap (A : Int) = (A : Int) := by rw [IntKind.wrap_u8]; omega
  obtain ⟨Z, hzv, hz1, hZ⟩ := zeroHeadsH
  have hZl : Z.length = 264 := by rw [hZ]; exact okS_no.headsLen
  obtain ⟨PZ, hPZ, hPZl⟩ : ∃ q : List Value, q = proofC pz ∧ q.length = 66 := ⟨_, rfl, rfl⟩
  have hzvP : ∀ wx, (zeroValue 49).run Tryd.prog wx = .ok (.agg PZ.toArray) wx := fun wx => by rw [hPZ]; exact zero_ofH (by kernel_rfl) wx
  have hz1P : ¬ PZ.toArray = #[] := by intro h; have := congrArg Array.size h; simp at this; rw [this] at hPZl; simp at hPZl
  have HZP := Veil.mk (And.intro hzvP hz1P)
  have uK : Tryd.prog.underlying 34 = _ := Tryd.underlying34
  clear hd hKT hZ hA hPZ hzvP hz1P
  go_enter Tryd.func6, Tryd.ntmps6
  go_upto_region 2 with (go_at_call 11; refine hP.mono ?_; rintro e w1 ⟨H, b, R, rfl, ⟨v, us, vp, T, P, hB1⟩, hb1⟩)
  have hA1 : CellsAt w1 w.heap.size 34 KV := hA0.farM (by rw [World.size_alloc]; exact hb1)
  have hw1 : Below w.heap.size w w1 := hb0.trans (hb1.mono (by omega))
  have hs1 : w.heap.size + 1 ≤ w1.heap.size := by have := hb1.size; rw [World.size_alloc] at this; exact this
  have hC1 := hB1.c
  clear hB1 hb1 hA0 hb0 hP
  have hlv := live_any w1 (HKT.out w1 hw1)
  have hT := hC1.ok
  have HT := Veil.mk hT
  have HH1 : Veil (∀ w2, Below w1.heap.size w1 w2 → Calls Tryd.prog 14 #[.pointer (some ⟨H, 0, none⟩)] w2 fun e w' => e = .returned (.agg (headsC (headsOf T)).toArray) ∧ Below w2.heap.size w2 w') := ⟨fun w2 hb => chHeads_any _ _ _ _ _ _ w2 (hC1.far hb)⟩
  have hl1 := hT.headsLen
  have h11 := headsC_one (headsOf T)
  have HRG : Veil (∀ W G, CellsAt W G 41 (headsC (headsOf T)) → W.rangeAt G (A * 33) (headC (headOf T A))) := ⟨fun W G h => heads_rng hT h A hA8⟩
  obtain ⟨HC1, hHC1⟩ : ∃ q, headsC (headsOf T) = q := ⟨_, rfl⟩
  have HHC := Veil.mk hHC1
  rw [hHC1] at HH1 hl1 h11 HRG
  clear hHC1 hT
  have i1 : (Tryd.prog.info? 41).map (·.size) = some HC1.length := by rw [hl1]; exact sizeHeads
  go_upto_region 5 with (first
    | (go_at_call 12; refine hlv.mono ?_; rintro e w2 ⟨rfl, hb2⟩; have hh1 := HH1.out w2 hb2; clear hlv)
    | (go_at_call 14; refine hh1.mono ?_; rintro e w3 ⟨rfl, hb3⟩; have hG3 := CellsAt.new w3 41 Z; clear hh1)
    | (refine wpList_stv rfl 41 _ _ rfl _ rfl rfl hG3 i1 (by rw [hl1, hZl]) h11 ?_))
  have hb13 := hb2.trans (hb3.mono hb2.size)
  have hb4 : Below w3.heap.size w3 ((w3.alloc (.cells Z.toArray 41)).setRow w3.heap.size HC1.toArray) := below_setRow ((Below.refl _ _).alloc (Nat.le_refl _) _) (Nat.le_refl _) _
  have hb14 := hb13.trans (hb4.mono hb13.size)
  refine forget (p := fun y => Code.wp _ _ _ _ y) (fun W => Below w1.heap.size w1 W ∧ CellsAt W w3.heap.size 41 HC1) ⟨hb14, hG3.setRow HC1⟩ ?_
  have hG3s : w1.heap.size ≤ w3.heap.size := hb13.size
  clear hb14 hb4 hb13 hb2 hb3 hG3 HH1 hzv hz1
  obtain ⟨G, hGe⟩ : ∃ q, w3.heap.size = q := ⟨_, rfl⟩
  rw [hGe] at hG3s ⊢
  clear hGe
  clear w2 w3
  rintro W ⟨hb, hG⟩
  have hAW := hA1.farM hb
  have HCW := Veil.mk (hC1.far hb)
  have HIN : Veil (∀ k, chainP H b v k → k < w1.heap.size ∧ w.heap.size + 1 ≤ k) := ⟨fun k hk => hC1.inside k hk⟩
  have hbW := hw1.trans (hb.mono hw1.size)
  clear hb hC1 hA1 hw1
  -- the head at A
  obtain ⟨C, hC⟩ : ∃ q, cnt T A = q := ⟨_, rfl⟩
  obtain ⟨SM, hSM⟩ : ∃ q, atN T A C = q := ⟨_, rfl⟩
  have hSok : okK SM := by rw [← hSM]; exact HT.out.at_ok A C
  have HHD : Veil (headOf T A = ((C : Int), SM)) := ⟨by unfold headOf; rw [hC, hSM]⟩
  have HC4 : Veil (C ≤ 256) := ⟨by rw [← hC]; exact HT.out.cnt_le A⟩
  have HLF : Veil (1 ≤ C → SM ≠ k → foundN T ((headsOf T).set A ((C : Int), k)) 8 = [((A : Int), (C : Int), SM, k)]) := ⟨fun h1 h2 => by
    have := lie_found HT.out A hA8 k (by rw [hC]; exact h1) (by rw [hC, hSM]; exact h2) 8 (by omega)
    rw [hC, hSM, if_pos hA8] at this
    exact this⟩
  have HEQ : Veil (∀ wx, (binOp .eql 34 (.agg (row .u8 SM)) (.agg KV.toArray)).run Tryd.prog wx = .ok (.bool (decide (SM = k))) wx) := ⟨fun wx => by
    have := eqlKey SM k hSok hk wx
    unfold row at this
    rw [HKV.out] at this
    exact this⟩
  clear hC hSM
  obtain ⟨SV, hSV⟩ : ∃ q, SM.map (Value.int .u8) = q := ⟨_, rfl⟩
  have HTS : Veil (∀ W', CellsAt W' G 41 HC1 → W'.cell? ⟨G, A * 33, none⟩ = some (.int .u32 (C : Int)) ∧ W'.rangeAt G (A * 33 + 1) SV) := ⟨fun W' h => by
    have r := HRG.out W' G h
    rw [HHD.out] at r
    refine ⟨r 0 _ rfl, fun i v hv => ?_⟩
    have := r (i + 1) v (by unfold headC; rw [hSV]; exact hv)
    rw [show A * 33 + (i + 1) = A * 33 + 1 + i by omega] at this
    exact this⟩
  have iS : (Tryd.prog.info? 34).map (·.size) = some SV.length := by rw [← hSV, List.length_map, hSok.1]; exact sizeKeyH
  have HPB : Veil (∀ wx, (Instr.build 49 #[(0, .int .u8 (A : Int)), (1, .int .u32 (C : Int)), (2, .agg SV.toArray), (3, .agg KV.toArray)]).run Tryd.prog wx = .ok (.agg (proofC ((A : Int), (C : Int), SM, k)).toArray) wx) := ⟨fun wx => by
    have := proofBuilt (A : Int) (C : Int) SM k hSok.1 hk.1 wx
    unfold row at this
    rw [HKV.out, hSV] at this
    exact this⟩
  unfold row at HEQ
  rw [hSV] at HEQ
  have HSV := Veil.mk hSV
  clear hSV
  have heq := HEQ.out
  have HCP0 : Veil (∀ W', Below w.heap.size w W' → ChainAt W' (w.heap.size + 1) H b v T P → Calls Tryd.prog 20 #[.pointer (some ⟨H, 0, none⟩), .agg HC1.toArray] W' fun e w' => (∃ xx cc, e = .returned (.slice xx 0 cc)) ∧ Below w.heap.size w w') := ⟨fun W' hbb hcc => by
    have hin := hcc.inside H (.inl rfl)
    have := compare_any _ _ _ _ _ _ W' (headsOf T) hcc.ok.heads8.2 hcc.ok.heads8.1 hcc (by omega)
    rw [(TrueHs.of hcc.ok).found 8, HHC.out] at this
    refine this.mono ?_
    rintro e w' ⟨f, v', rfl, ho, hto, _⟩
    obtain ⟨xx, cc, rfl⟩ := ho.isSlice
    exact ⟨⟨xx, cc, rfl⟩, hbb.trans ((hto.below hcc (by omega)).mono (by omega))⟩⟩
  go_upto_region 6 with fail
  refine wp_region_gateT (fun w' => w'.cell? ⟨G, A * 33, none⟩ = some (.int .u32 (C : Int)) ∧ w'.rangeAt G (A * 33 + 1) SV ∧ w'.rangeAt w.heap.size 0 KV) (fun _ => True) 99 (by kernel_rfl) ?_
  have HT2 : ∀ W', CellsAt W' G 41 HC1 → CellsAt W' w.heap.size 34 KV → (fun w' : World => w'.cell? ⟨G, A * 33, none⟩ = some (.int .u32 (C : Int)) ∧ w'.rangeAt G (A * 33 + 1) SV ∧ w'.rangeAt w.heap.size 0 KV) W' := fun W' h1 h2 => ⟨(HTS.out W' h1).1, (HTS.out W' h1).2, h2.wholeM⟩
  have hT := HT2 W.drew (hG.congr rfl) (hAW.congr rfl)
  have hS := trivial
  by_cases hC0 : C = 0
  focus
    have hCe : ((C : Int) == 0) = true := by simp [hC0]
    clear heq
    refine wpAnyT_held (i := 0) (v := ?_) rfl (by kernel_rfl) (by kernel_rfl) (by kernel_rfl) (fun _ _ _ h => h) (by kernel_rfl) hT (fun _ => hS) (by kernel_rfl) ?_ ?_
    rotate_left
    · intro wx hSw; go_split_ands; go_simp; try with_reducible rfl
    simp only [Act.put, List.getElem_toArray, List.getElem_cons_succ, List.getElem_cons_zero, List.setIfInBounds_toArray, List.set_cons_zero, List.set_cons_succ]
    refine wpAnyT_held (i := 1) (v := ?_) rfl (by kernel_rfl) (by kernel_rfl) (by kernel_rfl) (fun _ _ _ h => h) (by kernel_rfl) hT (fun _ => hS) (by kernel_rfl) ?_ ?_
    rotate_left
    · intro wx hSw; go_split_ands; go_simp; try with_reducible rfl
    simp only [Act.put, List.getElem_toArray, List.getElem_cons_succ, List.getElem_cons_zero, List.setIfInBounds_toArray, List.set_cons_zero, List.set_cons_succ]
    refine wpAnyT_held (i := 2) (v := ?_) rfl (by kernel_rfl) (by kernel_rfl) (by kernel_rfl) (fun _ _ _ h => h) (by kernel_rfl) hT (fun _ => hS) (by kernel_rfl) ?_ ?_
    rotate_left
    · intro wx hSw; go_split_ands; go_simp; try with_reducible rfl
    simp only [Act.put, List.getElem_toArray, List.getElem_cons_succ, List.getElem_cons_zero, List.setIfInBounds_toArray, List.set_cons_zero, List.set_cons_succ]
    refine wpAnyT_held (i := 3) (v := ?_) rfl (by kernel_rfl) (by kernel_rfl) (by kernel_rfl) (fun _ _ _ h => h) (by kernel_rfl) hT (fun _ => hS) (by kernel_rfl) ?_ ?_
    rotate_left
    · intro wx hSw; go_split_ands; go_simp; try with_reducible rfl
    simp only [Act.put, List.getElem_toArray, List.getElem_cons_succ, List.getElem_cons_zero, List.setIfInBounds_toArray, List.set_cons_zero, List.set_cons_succ]
    refine wpAnyT_held (i := 4) (v := .bool true) rfl (by kernel_rfl) (by kernel_rfl) (by kernel_rfl) (fun _ _ _ h => h) (by kernel_rfl) hT (fun _ => hS) (by kernel_rfl) ?_ ?_
    · intro wx hSw; go_split_ands; go_simp
    simp only [Act.put, List.getElem_toArray, List.getElem_cons_succ, List.getElem_cons_zero, List.setIfInBounds_toArray, List.set_cons_zero, List.set_cons_succ]
    refine wpAnyT_held (i := 5) (v := ?_) rfl (by kernel_rfl) (by kernel_rfl) (by kernel_rfl) (fun _ _ _ h => h) (by kernel_rfl) hT (fun _ => hS) (by kernel_rfl) ?_ ?_
    rotate_left
    · intro wx hSw; go_split_ands; go_simp; try with_reducible rfl
    simp only [Act.put, List.getElem_toArray, List.getElem_cons_succ, List.getElem_cons_zero, List.setIfInBounds_toArray, List.set_cons_zero, List.set_cons_succ]
    refine wpAnyT_skip (i := 6) rfl (by kernel_rfl) (by kernel_rfl) (by kernel_rfl) (fun _ _ _ h => h) (by kernel_rfl) hT (fun _ => hS) (by kernel_rfl) ?_
    simp only [Act.put, List.getElem_toArray, List.getElem_cons_succ, List.getElem_cons_zero, List.setIfInBounds_toArray, List.set_cons_zero, List.set_cons_succ]
    refine wpAnyT_skip (i := 7) rfl (by kernel_rfl) (by kernel_rfl) (by kernel_rfl) (fun _ _ _ h => h) (by kernel_rfl) hT (fun _ => hS) (by kernel_rfl) ?_
    simp only [Act.put, List.getElem_toArray, List.getElem_cons_succ, List.getElem_cons_zero, List.setIfInBounds_toArray, List.set_cons_zero, List.set_cons_succ]
    refine wpAnyT_skip (i := 8) rfl (by kernel_rfl) (by kernel_rfl) (by kernel_rfl) (fun _ _ _ h => h) (by kernel_rfl) hT (fun _ => hS) (by kernel_rfl) ?_
    simp only [Act.put, List.getElem_toArray, List.getElem_cons_succ, List.getElem_cons_zero, List.setIfInBounds_toArray, List.set_cons_zero, List.set_cons_succ]
    refine wpAnyT_skip (i := 9) rfl (by kernel_rfl) (by kernel_rfl) (by kernel_rfl) (fun _ _ _ h => h) (by kernel_rfl) hT (fun _ => hS) (by kernel_rfl) ?_
    simp only [Act.put, List.getElem_toArray, List.getElem_cons_succ, List.getElem_cons_zero, List.setIfInBounds_toArray, List.set_cons_zero, List.set_cons_succ]
    refine wpAnyT_skip (i := 10) rfl (by kernel_rfl) (by kernel_rfl) (by kernel_rfl) (fun _ _ _ h => h) (by kernel_rfl) hT (fun _ => hS) (by kernel_rfl) ?_
    simp only [Act.put, List.getElem_toArray, List.getElem_cons_succ, List.getElem_cons_zero, List.setIfInBounds_toArray, List.set_cons_zero, List.set_cons_succ]
    refine wpAnyT_skip (i := 11) rfl (by kernel_rfl) (by kernel_rfl) (by kernel_rfl) (fun _ _ _ h => h) (by kernel_rfl) hT (fun _ => hS) (by kernel_rfl) ?_
    simp only [Act.put, List.getElem_toArray, List.getElem_cons_succ, List.getElem_cons_zero, List.setIfInBounds_toArray, List.set_cons_zero, List.set_cons_succ]
    refine wpAnyT_held (i := 12) (v := .bool true) rfl (by kernel_rfl) (by kernel_rfl) (by kernel_rfl) (fun _ _ _ h => h) (by kernel_rfl) hT (fun _ => hS) (by kernel_rfl) ?_ ?_
    · intro wx hSw; go_split_ands; go_simp
    simp only [Act.put, List.getElem_toArray, List.getElem_cons_succ, List.getElem_cons_zero, List.setIfInBounds_toArray, List.set_cons_zero, List.set_cons_succ]
    refine wpAnyT_done (by kernel_rfl) ?_ _
    clear hCe hC0
  rotate_left
  have hCe : ((C : Int) == 0) = false := by simp; omega
  by_cases hSk : SM = k
  focus
    have hdd : decide (SM = k) = true := by simp [hSk]
    rw [hdd] at heq
    refine wpAnyT_held (i := 0) (v := ?_) rfl (by kernel_rfl) (by kernel_rfl) (by kernel_rfl) (fun _ _ _ h => h) (by kernel_rfl) hT (fun _ => hS) (by kernel_rfl) ?_ ?_
    rotate_left
    · intro wx hSw; go_split_ands; go_simp; try with_reducible rfl
    simp only [Act.put, List.getElem_toArray, List.getElem_cons_succ, List.getElem_cons_zero, List.setIfInBounds_toArray, List.set_cons_zero, List.set_cons_succ]
    refine wpAnyT_held (i := 1) (v := ?_) rfl (by kernel_rfl) (by kernel_rfl) (by kernel_rfl) (fun _ _ _ h => h) (by kernel_rfl) hT (fun _ => hS) (by kernel_rfl) ?_ ?_
    rotate_left
    · intro wx hSw; go_split_ands; go_simp; try with_reducible rfl
    simp only [Act.put, List.getElem_toArray, List.getElem_cons_succ, List.getElem_cons_zero, List.setIfInBounds_toArray, List.set_cons_zero, List.set_cons_succ]
    refine wpAnyT_held (i := 2) (v := ?_) rfl (by kernel_rfl) (by kernel_rfl) (by kernel_rfl) (fun _ _ _ h => h) (by kernel_rfl) hT (fun _ => hS) (by kernel_rfl) ?_ ?_
    rotate_left
    · intro wx hSw; go_split_ands; go_simp; try with_reducible rfl
    simp only [Act.put, List.getElem_toArray, List.getElem_cons_succ, List.getElem_cons_zero, List.setIfInBounds_toArray, List.set_cons_zero, List.set_cons_succ]
    refine wpAnyT_held (i := 3) (v := ?_) rfl (by kernel_rfl) (by kernel_rfl) (by kernel_rfl) (fun _ _ _ h => h) (by kernel_rfl) hT (fun _ => hS) (by kernel_rfl) ?_ ?_
    rotate_left
    · intro wx hSw; go_split_ands; go_simp; try with_reducible rfl
    simp only [Act.put, List.getElem_toArray, List.getElem_cons_succ, List.getElem_cons_zero, List.setIfInBounds_toArray, List.set_cons_zero, List.set_cons_succ]
    refine wpAnyT_held (i := 4) (v := .bool false) rfl (by kernel_rfl) (by kernel_rfl) (by kernel_rfl) (fun _ _ _ h => h) (by kernel_rfl) hT (fun _ => hS) (by kernel_rfl) ?_ ?_
    · intro wx hSw; go_split_ands; go_simp
    simp only [Act.put, List.getElem_toArray, List.getElem_cons_succ, List.getElem_cons_zero, List.setIfInBounds_toArray, List.set_cons_zero, List.set_cons_succ]
    refine wpAnyT_held (i := 5) (v := ?_) rfl (by kernel_rfl) (by kernel_rfl) (by kernel_rfl) (fun _ _ _ h => h) (by kernel_rfl) hT (fun _ => hS) (by kernel_rfl) ?_ ?_
    rotate_left
    · intro wx hSw; go_split_ands; go_simp; try with_reducible rfl
    simp only [Act.put, List.getElem_toArray, List.getElem_cons_succ, List.getElem_cons_zero, List.setIfInBounds_toArray, List.set_cons_zero, List.set_cons_succ]
    refine wpAnyT_held (i := 6) (v := ?_) rfl (by kernel_rfl) (by kernel_rfl) (by kernel_rfl) (fun _ _ _ h => h) (by kernel_rfl) hT (fun _ => hS) (by kernel_rfl) ?_ ?_
    rotate_left
    · intro wx hSw; go_split_ands; go_simp; try with_reducible rfl
    simp only [Act.put, List.getElem_toArray, List.getElem_cons_succ, List.getElem_cons_zero, List.setIfInBounds_toArray, List.set_cons_zero, List.set_cons_succ]
    refine wpAnyT_held (i := 7) (v := ?_) rfl (by kernel_rfl) (by kernel_rfl) (by kernel_rfl) (fun _ _ _ h => h) (by kernel_rfl) hT (fun _ => hS) (by kernel_rfl) ?_ ?_
    rotate_left
    · intro wx hSw; go_split_ands; go_simp; try with_reducible rfl
    simp only [Act.put, List.getElem_toArray, List.getElem_cons_succ, List.getElem_cons_zero, List.setIfInBounds_toArray, List.set_cons_zero, List.set_cons_succ]
    refine wpAnyT_held (i := 8) (v := ?_) rfl (by kernel_rfl) (by kernel_rfl) (by kernel_rfl) (fun _ _ _ h => h) (by kernel_rfl) hT (fun _ => hS) (by kernel_rfl) ?_ ?_
    rotate_left
    · intro wx hSw; go_split_ands; go_simp; try with_reducible rfl
    simp only [Act.put, List.getElem_toArray, List.getElem_cons_succ, List.getElem_cons_zero, List.setIfInBounds_toArray, List.set_cons_zero, List.set_cons_succ]
    refine wpAnyT_load (i := 9) (dst := some 40) (ty := 34) (x := .tmp 39) (b := G) (o := ((A * 33 + 1))) (cs := SV) (by kernel_rfl) (by kernel_rfl) (by kernel_rfl) (by kernel_rfl) (by kernel_rfl) (fun _ _ _ h => h) (by kernel_rfl) hT (fun _ => hS) (by kernel_rfl) (fun _ h => h.2.1) uK rfl iS ?_
    simp only [Act.put, List.getElem_toArray, List.getElem_cons_succ, List.getElem_cons_zero, List.setIfInBounds_toArray, List.set_cons_zero, List.set_cons_succ]
    refine wpAnyT_load (i := 10) (dst := some 41) (ty := 34) (x := .tmp 5) (b := w.heap.size) (o := (0)) (cs := KV) (by kernel_rfl) (by kernel_rfl) (by kernel_rfl) (by kernel_rfl) (by kernel_rfl) (fun _ _ _ h => h) (by kernel_rfl) hT (fun _ => hS) (by kernel_rfl) (fun _ h => h.2.2) uK rfl iK ?_
    simp only [Act.put, List.getElem_toArray, List.getElem_cons_succ, List.getElem_cons_zero, List.setIfInBounds_toArray, List.set_cons_zero, List.set_cons_succ]
    refine wpAnyT_held (i := 11) (v := .bool true) rfl (by kernel_rfl) (by kernel_rfl) (by kernel_rfl) (fun _ _ _ h => h) (by kernel_rfl) hT (fun _ => hS) (by kernel_rfl) ?_ ?_
    · intro wx hSw; go_split_ands; go_simp
    simp only [Act.put, List.getElem_toArray, List.getElem_cons_succ, List.getElem_cons_zero, List.setIfInBounds_toArray, List.set_cons_zero, List.set_cons_succ]
    refine wpAnyT_held (i := 12) (v := .bool true) rfl (by kernel_rfl) (by kernel_rfl) (by kernel_rfl) (fun _ _ _ h => h) (by kernel_rfl) hT (fun _ => hS) (by kernel_rfl) ?_ ?_
    · intro wx hSw; go_split_ands; go_simp
    simp only [Act.put, List.getElem_toArray, List.getElem_cons_succ, List.getElem_cons_zero, List.setIfInBounds_toArray, List.set_cons_zero, List.set_cons_succ]
    refine wpAnyT_done (by kernel_rfl) ?_ _
    clear hCe hC0 hSk hdd heq
  rotate_left
  focus
    have hdd : decide (SM = k) = false := by simp [hSk]
    rw [hdd] at heq
    refine wpAnyT_held (i := 0) (v := ?_) rfl (by kernel_rfl) (by kernel_rfl) (by kernel_rfl) (fun _ _ _ h => h) (by kernel_rfl) hT (fun _ => hS) (by kernel_rfl) ?_ ?_
    rotate_left
    · intro wx hSw; go_split_ands; go_simp; try with_reducible rfl
    simp only [Act.put, List.getElem_toArray, List.getElem_cons_succ, List.getElem_cons_zero, List.setIfInBounds_toArray, List.set_cons_zero, List.set_cons_succ]
    refine wpAnyT_held (i := 1) (v := ?_) rfl (by kernel_rfl) (by kernel_rfl) (by kernel_rfl) (fun _ _ _ h => h) (by kernel_rfl) hT (fun _ => hS) (by kernel_rfl) ?_ ?_
    rotate_left
    · intro wx hSw; go_split_ands; go_simp; try with_reducible rfl
    simp only [Act.put, List.getElem_toArray, List.getElem_cons_succ, List.getElem_cons_zero, List.setIfInBounds_toArray, List.set_cons_zero, List.set_cons_succ]
    refine wpAnyT_held (i := 2) (v := ?_) rfl (by kernel_rfl) (by kernel_rfl) (by kernel_rfl) (fun _ _ _ h => h) (by kernel_rfl) hT (fun _ => hS) (by kernel_rfl) ?_ ?_
    rotate_left
    · intro wx hSw; go_split_ands; go_simp; try with_reducible rfl
    simp only [Act.put, List.getElem_toArray, List.getElem_cons_succ, List.getElem_cons_zero, List.setIfInBounds_toArray, List.set_cons_zero, List.set_cons_succ]
    refine wpAnyT_held (i := 3) (v := ?_) rfl (by kernel_rfl) (by kernel_rfl) (by kernel_rfl) (fun _ _ _ h => h) (by kernel_rfl) hT (fun _ => hS) (by kernel_rfl) ?_ ?_
    rotate_left
    · intro wx hSw; go_split_ands; go_simp; try with_reducible rfl
    simp only [Act.put, List.getElem_toArray, List.getElem_cons_succ, List.getElem_cons_zero, List.setIfInBounds_toArray, List.set_cons_zero, List.set_cons_succ]
    refine wpAnyT_held (i := 4) (v := .bool false) rfl (by kernel_rfl) (by kernel_rfl) (by kernel_rfl) (fun _ _ _ h => h) (by kernel_rfl) hT (fun _ => hS) (by kernel_rfl) ?_ ?_
    · intro wx hSw; go_split_ands; go_simp
    simp only [Act.put, List.getElem_toArray, List.getElem_cons_succ, List.getElem_cons_zero, List.setIfInBounds_toArray, List.set_cons_zero, List.set_cons_succ]
    refine wpAnyT_held (i := 5) (v := ?_) rfl (by kernel_rfl) (by kernel_rfl) (by kernel_rfl) (fun _ _ _ h => h) (by kernel_rfl) hT (fun _ => hS) (by kernel_rfl) ?_ ?_
    rotate_left
    · intro wx hSw; go_split_ands; go_simp; try with_reducible rfl
    simp only [Act.put, List.getElem_toArray, List.getElem_cons_succ, List.getElem_cons_zero, List.setIfInBounds_toArray, List.set_cons_zero, List.set_cons_succ]
    refine wpAnyT_held (i := 6) (v := ?_) rfl (by kernel_rfl) (by kernel_rfl) (by kernel_rfl) (fun _ _ _ h => h) (by kernel_rfl) hT (fun _ => hS) (by kernel_rfl) ?_ ?_
    rotate_left
    · intro wx hSw; go_split_ands; go_simp; try with_reducible rfl
    simp only [Act.put, List.getElem_toArray, List.getElem_cons_succ, List.getElem_cons_zero, List.setIfInBounds_toArray, List.set_cons_zero, List.set_cons_succ]
    refine wpAnyT_held (i := 7) (v := ?_) rfl (by kernel_rfl) (by kernel_rfl) (by kernel_rfl) (fun _ _ _ h => h) (by kernel_rfl) hT (fun _ => hS) (by kernel_rfl) ?_ ?_
    rotate_left
    · intro wx hSw; go_split_ands; go_simp; try with_reducible rfl
    simp only [Act.put, List.getElem_toArray, List.getElem_cons_succ, List.getElem_cons_zero, List.setIfInBounds_toArray, List.set_cons_zero, List.set_cons_succ]
    refine wpAnyT_held (i := 8) (v := ?_) rfl (by kernel_rfl) (by kernel_rfl) (by kernel_rfl) (fun _ _ _ h => h) (by kernel_rfl) hT (fun _ => hS) (by kernel_rfl) ?_ ?_
    rotate_left
    · intro wx hSw; go_split_ands; go_simp; try with_reducible rfl
    simp only [Act.put, List.getElem_toArray, List.getElem_cons_succ, List.getElem_cons_zero, List.setIfInBounds_toArray, List.set_cons_zero, List.set_cons_succ]
    refine wpAnyT_load (i := 9) (dst := some 40) (ty := 34) (x := .tmp 39) (b := G) (o := ((A * 33 + 1))) (cs := SV) (by kernel_rfl) (by kernel_rfl) (by kernel_rfl) (by kernel_rfl) (by kernel_rfl) (fun _ _ _ h => h) (by kernel_rfl) hT (fun _ => hS) (by kernel_rfl) (fun _ h => h.2.1) uK rfl iS ?_
    simp only [Act.put, List.getElem_toArray, List.getElem_cons_succ, List.getElem_cons_zero, List.setIfInBounds_toArray, List.set_cons_zero, List.set_cons_succ]
    refine wpAnyT_load (i := 10) (dst := some 41) (ty := 34) (x := .tmp 5) (b := w.heap.size) (o := (0)) (cs := KV) (by kernel_rfl) (by kernel_rfl) (by kernel_rfl) (by kernel_rfl) (by kernel_rfl) (fun _ _ _ h => h) (by kernel_rfl) hT (fun _ => hS) (by kernel_rfl) (fun _ h => h.2.2) uK rfl iK ?_
    simp only [Act.put, List.getElem_toArray, List.getElem_cons_succ, List.getElem_cons_zero, List.setIfInBounds_toArray, List.set_cons_zero, List.set_cons_succ]
    refine wpAnyT_held (i := 11) (v := .bool false) rfl (by kernel_rfl) (by kernel_rfl) (by kernel_rfl) (fun _ _ _ h => h) (by kernel_rfl) hT (fun _ => hS) (by kernel_rfl) ?_ ?_
    · intro wx hSw; go_split_ands; go_simp
    simp only [Act.put, List.getElem_toArray, List.getElem_cons_succ, List.getElem_cons_zero, List.setIfInBounds_toArray, List.set_cons_zero, List.set_cons_succ]
    refine wpAnyT_held (i := 12) (v := .bool false) rfl (by kernel_rfl) (by kernel_rfl) (by kernel_rfl) (fun _ _ _ h => h) (by kernel_rfl) hT (fun _ => hS) (by kernel_rfl) ?_ ?_
    · intro wx hSw; go_split_ands; go_simp
    simp only [Act.put, List.getElem_toArray, List.getElem_cons_succ, List.getElem_cons_zero, List.setIfInBounds_toArray, List.set_cons_zero, List.set_cons_succ]
    refine wpAnyT_done (by kernel_rfl) ?_ _
    clear hT hCe hdd heq
    refine forget (p := fun y => Exit.then _ _ _ _ y) (fun W => Below w.heap.size w W ∧ CellsAt W G 41 HC1 ∧ CellsAt W w.heap.size 34 KV ∧ ChainAt W (w.heap.size + 1) H b v T P) ⟨hbW.drew, hG.congr rfl, hAW.congr rfl, HCW.out.far (Below.refl _ _).drew⟩ ?_
    clear hbW hG hAW HCW
    clear W
    rintro W ⟨hbW, hG, hAW, hCC⟩
    have HCW := Veil.mk hCC
    clear hCC
    go_upto_region 8 with fail
    obtain ⟨PC, hPC⟩ : ∃ q, proofC ((A : Int), (C : Int), SM, k) = q := ⟨_, rfl⟩
    have hPl : PC.length = 66 := by rw [← hPC]; exact proofC_len _ hSok.1 hk.1
    have h1P : ∀ v ∈ PC, v.oneCell' = true := fun v hv => by rw [← hPC] at hv; exact proofC_one _ v hv
    have hpz := HZP.out
    have iP : (Tryd.prog.info? 49).map (·.size) = some PC.length := by rw [hPl]; exact sizeProof
    rw [hPC] at HPB
    obtain ⟨hzvP, hz1P⟩ := hpz
    refine wp_region_gateT (fun w' => w'.cell? ⟨G, A * 33, none⟩ = some (.int .u32 (C : Int)) ∧ w'.rangeAt G (A * 33 + 1) SV ∧ w'.rangeAt w.heap.size 0 KV) (fun _ => True) 99 (by kernel_rfl) ?_
    have hT := HT2 W.drew (hG.congr rfl) (hAW.congr rfl)
    refine wpAnyT_held (i := 0) (v := ?_) rfl (by kernel_rfl) (by kernel_rfl) (by kernel_rfl) (fun _ _ _ h => h) (by kernel_rfl) hT (fun _ => hS) (by kernel_rfl) ?_ ?_
    rotate_left
    · intro wx hSw; go_split_ands; go_simp; try with_reducible rfl
    simp only [Act.put, List.getElem_toArray, List.getElem_cons_succ, List.getElem_cons_zero, List.setIfInBounds_toArray, List.set_cons_zero, List.set_cons_succ]
    refine wpAnyT_held (i := 1) (v := ?_) rfl (by kernel_rfl) (by kernel_rfl) (by kernel_rfl) (fun _ _ _ h => h) (by kernel_rfl) hT (fun _ => hS) (by kernel_rfl) ?_ ?_
    rotate_left
    · intro wx hSw; go_split_ands; go_simp; try with_reducible rfl
    simp only [Act.put, List.getElem_toArray, List.getElem_cons_succ, List.getElem_cons_zero, List.setIfInBounds_toArray, List.set_cons_zero, List.set_cons_succ]
    refine wpAnyT_held (i := 2) (v := ?_) rfl (by kernel_rfl) (by kernel_rfl) (by kernel_rfl) (fun _ _ _ h => h) (by kernel_rfl) hT (fun _ => hS) (by kernel_rfl) ?_ ?_
    rotate_left
    · intro wx hSw; go_split_ands; go_simp; try with_reducible rfl
    simp only [Act.put, List.getElem_toArray, List.getElem_cons_succ, List.getElem_cons_zero, List.setIfInBounds_toArray, List.set_cons_zero, List.set_cons_succ]
    refine wpAnyT_held (i := 3) (v := ?_) rfl (by kernel_rfl) (by kernel_rfl) (by kernel_rfl) (fun _ _ _ h => h) (by kernel_rfl) hT (fun _ => hS) (by kernel_rfl) ?_ ?_
    rotate_left
    · intro wx hSw; go_split_ands; go_simp; try with_reducible rfl
    simp only [Act.put, List.getElem_toArray, List.getElem_cons_succ, List.getElem_cons_zero, List.setIfInBounds_toArray, List.set_cons_zero, List.set_cons_succ]
    refine wpAnyT_held (i := 4) (v := ?_) rfl (by kernel_rfl) (by kernel_rfl) (by kernel_rfl) (fun _ _ _ h => h) (by kernel_rfl) hT (fun _ => hS) (by kernel_rfl) ?_ ?_
    rotate_left
    · intro wx hSw; go_split_ands; go_simp; try with_reducible rfl
    simp only [Act.put, List.getElem_toArray, List.getElem_cons_succ, List.getElem_cons_zero, List.setIfInBounds_toArray, List.set_cons_zero, List.set_cons_succ]
    refine wpAnyT_held (i := 5) (v := ?_) rfl (by kernel_rfl) (by kernel_rfl) (by kernel_rfl) (fun _ _ _ h => h) (by kernel_rfl) hT (fun _ => hS) (by kernel_rfl) ?_ ?_
    rotate_left
    · intro wx hSw; go_split_ands; go_simp; try with_reducible rfl
    simp only [Act.put, List.getElem_toArray, List.getElem_cons_succ, List.getElem_cons_zero, List.setIfInBounds_toArray, List.set_cons_zero, List.set_cons_succ]
    refine wpAnyT_held (i := 6) (v := ?_) rfl (by kernel_rfl) (by kernel_rfl) (by kernel_rfl) (fun _ _ _ h => h) (by kernel_rfl) hT (fun _ => hS) (by kernel_rfl) ?_ ?_
    rotate_left
    · intro wx hSw; go_split_ands; go_simp; try with_reducible rfl
    simp only [Act.put, List.getElem_toArray, List.getElem_cons_succ, List.getElem_cons_zero, List.setIfInBounds_toArray, List.set_cons_zero, List.set_cons_succ]
    refine wpAnyT_held (i := 7) (v := ?_) rfl (by kernel_rfl) (by kernel_rfl) (by kernel_rfl) (fun _ _ _ h => h) (by kernel_rfl) hT (fun _ => hS) (by kernel_rfl) ?_ ?_
    rotate_left
    · intro wx hSw; go_split_ands; go_simp; try with_reducible rfl
    simp only [Act.put, List.getElem_toArray, List.getElem_cons_succ, List.getElem_cons_zero, List.setIfInBounds_toArray, List.set_cons_zero, List.set_cons_succ]
    refine wpAnyT_held (i := 8) (v := ?_) rfl (by kernel_rfl) (by kernel_rfl) (by kernel_rfl) (fun _ _ _ h => h) (by kernel_rfl) hT (fun _ => hS) (by kernel_rfl) ?_ ?_
    rotate_left
    · intro wx hSw; go_split_ands; go_simp; try with_reducible rfl
    simp only [Act.put, List.getElem_toArray, List.getElem_cons_succ, List.getElem_cons_zero, List.setIfInBounds_toArray, List.set_cons_zero, List.set_cons_succ]
    refine wpAnyT_load (i := 9) (dst := some 58) (ty := 34) (x := .tmp 57) (b := G) (o := ((A * 33 + 1))) (cs := SV) (by kernel_rfl) (by kernel_rfl) (by kernel_rfl) (by kernel_rfl) (by kernel_rfl) (fun _ _ _ h => h) (by kernel_rfl) hT (fun _ => hS) (by kernel_rfl) (fun _ h => h.2.1) uK rfl iS ?_
    simp only [Act.put, List.getElem_toArray, List.getElem_cons_succ, List.getElem_cons_zero, List.setIfInBounds_toArray, List.set_cons_zero, List.set_cons_succ]
    refine wpAnyT_load (i := 10) (dst := some 59) (ty := 34) (x := .tmp 5) (b := w.heap.size) (o := (0)) (cs := KV) (by kernel_rfl) (by kernel_rfl) (by kernel_rfl) (by kernel_rfl) (by kernel_rfl) (fun _ _ _ h => h) (by kernel_rfl) hT (fun _ => hS) (by kernel_rfl) (fun _ h => h.2.2) uK rfl iK ?_
    simp only [Act.put, List.getElem_toArray, List.getElem_cons_succ, List.getElem_cons_zero, List.setIfInBounds_toArray, List.set_cons_zero, List.set_cons_succ]
    refine wpAnyT_held (i := 11) (v := .agg PC.toArray) rfl (by kernel_rfl) (by kernel_rfl) (by kernel_rfl) (fun _ _ _ h => h) (by kernel_rfl) hT (fun _ => hS) (by kernel_rfl) (fun wx h => execBuildT 49 _ rfl #[(0, .int .u8 (A : Int)), (1, .int .u32 (C : Int)), (2, .agg SV.toArray), (3, .agg KV.toArray)] (by kernel_rfl) (HPB.out wx)) ?_
    simp only [Act.put, List.getElem_toArray, List.getElem_cons_succ, List.getElem_cons_zero, List.setIfInBounds_toArray, List.set_cons_zero, List.set_cons_succ]
    refine wpAnyT_one (i := 12) rfl (by kernel_rfl) (by kernel_rfl) (fun K hK => ?_)
    go_simp
    have hb9 : Below W.heap.size W ((W.alloc (.cells PZ.toArray 49)).drew) := ((Below.refl _ _).alloc (Nat.le_refl _) _).drew
    have hW9 : CellsAt ((W.alloc (.cells PZ.toArray 49)).drew) W.heap.size 49 PZ := (CellsAt.new W 49 PZ).congr rfl
    refine forget (p := fun y => K _ y) (fun V => Below W.heap.size W V ∧ CellsAt V W.heap.size 49 PZ) ⟨hb9, hW9⟩ ?_
    clear hb9 hW9 hT
    rintro V ⟨hbV, hWV⟩
    have hT := HT2 V (hG.farM hbV) (hAW.farM hbV)
    refine hK.out _ _ hT (fun _ => hS) ?_
    clear hK K
    try simp only [Act.put, List.getElem_toArray, List.getElem_cons_succ, List.getElem_cons_zero, List.setIfInBounds_toArray, List.set_cons_zero, List.set_cons_succ]
    refine wpAnyT_one (i := 13) rfl (by kernel_rfl) (by kernel_rfl) (fun K hK => ?_)
    refine wp_stvE 49 _ _ rfl _ rfl rfl hWV iP (by rw [hPl, hPZl]) h1P ?_
    have hbX : Below W.heap.size W (V.setRow W.heap.size PC.toArray) := below_setRow hbV (Nat.le_refl _) _
    have hWX := hWV.setRow PC
    replace hT := HT2 _ (hG.farM hbX) (hAW.farM hbX)
    refine hK.out _ _ hT (fun _ => hS) ?_
    clear hK K
    try simp only [Act.put, List.getElem_toArray, List.getElem_cons_succ, List.getElem_cons_zero, List.setIfInBounds_toArray, List.set_cons_zero, List.set_cons_succ]
    refine wpAnyT_done (by kernel_rfl) ?_ _
    have hs8 := hbW.size
    refine forget (p := fun y => Exit.then _ _ _ _ y) (fun V => Below w.heap.size w V ∧ CellsAt V G 41 HC1 ∧ CellsAt V w.heap.size 34 KV ∧ CellsAt V W.heap.size 49 PC ∧ ChainAt V (w.heap.size + 1) H b v T P) ⟨hbW.trans (hbX.mono hbW.size), hG.farM hbX, hAW.farM hbX, hWX, HCW.out.far hbX⟩ ?_
    have hlt := hG.lt
    have HINW : Veil (∀ k, chainP H b v k → k < W.heap.size) := ⟨fun k hk => (HCW.out.inside k hk).1⟩
    clear hT hbX hWX hbV hWV hbW hG hAW HCW HPB hzvP hz1P HZP
    obtain ⟨WB, hWB⟩ : ∃ q, W.heap.size = q := ⟨_, rfl⟩
    rw [hWB] at hlt hs8 HINW ⊢
    clear hWB
    clear V W
    rintro W ⟨hbW, hG, hAW, hWP, hCC⟩
    have HCW := Veil.mk hCC
    clear hCC
    obtain ⟨HC2, hHC2⟩ : ∃ q, headsC ((headsOf T).set A ((C : Int), k)) = q := ⟨_, rfl⟩
    have HPUT : Veil (HC1.take (A * 33 + 1) ++ KV ++ HC1.drop (A * 33 + 1 + KV.length) = HC2) := ⟨by
      have := headsC_sum (headsOf T) HT.out.heads_ok A (by rw [headsOf_length]; exact hA8) (C : Int) SM k (by rw [headsOf_get T A hA8]; exact HHD.out) hSok.1
      rw [HHC.out, HKV.out, hHC2] at this
      rw [hKl]
      exact this⟩
    have hok2 : okHs ((headsOf T).set A ((C : Int), k)) := fun x hx => by
      rcases List.mem_or_eq_of_mem_set hx with q | q
      · exact HT.out.heads_ok x q
      · rw [q]; exact ⟨⟨by show (0 : Int) ≤ (C : Int); omega, by have := HC4.out; show (C : Int) ≤ 4294967295; omega⟩, hk⟩
    have hl2 : HC2.length = 264 := by rw [← hHC2, headsC_len _ hok2, List.length_set, headsOf_length]
    have i2 : (Tryd.prog.info? 41).map (·.size) = some HC2.length := by rw [hl2]; exact sizeHeads
    have HCP1 : Veil (∀ W', Below w.heap.size w W' → CellsAt W' WB 49 PC → ChainAt W' (w.heap.size + 1) H b v T P → Calls Tryd.prog 20 #[.pointer (some ⟨H, 0, none⟩), .agg HC2.toArray] W' fun e w' => (∃ g cc, e = .returned (.slice (some ⟨g, 0, none⟩) 1 cc) ∧ w'.rangeAt g 0 PC) ∧ CellsAt w' WB 49 PC ∧ Below w.heap.size w w') := ⟨fun W' hbb hwp hcc => by
      have hin := hcc.inside H (.inl rfl)
      have := compare_any _ _ _ _ _ _ W' ((headsOf T).set A ((C : Int), k)) (by rw [List.length_set, headsOf_length]) hok2 hcc (by omega)
      rw [HLF.out (by omega) hSk, hHC2] at this
      refine this.mono ?_
      rintro e w' ⟨f, v', rfl, ho, hto, _⟩
      obtain ⟨xx, cc, rfl⟩ := ho.isSlice
      obtain ⟨g, rfl, _, hr⟩ := ho.at_ 0 (by simp)
      refine ⟨⟨g, cc, rfl, ?_⟩, hwp.congr (hto.turn.block _ hwp.lt (fun hp => by have := HINW.out _ hp; omega)), hbb.trans ((hto.below hcc (by omega)).mono (by omega))⟩
      simp only [Nat.zero_mul, List.map_cons, List.getElem_cons_zero] at hr
      rw [hPC] at hr
      exact hr⟩
    have heqP : ∀ wx, (binOp .eql 49 (.agg PC.toArray) (.agg PC.toArray)).run Tryd.prog wx = .ok (.bool true) wx := fun wx => by
      have hpk : okP ((A : Int), (C : Int), SM, k) := ⟨⟨hAi0, by show (A : Int) ≤ 255; omega⟩, ⟨by show (0 : Int) ≤ (C : Int); omega, by have := HC4.out; show (C : Int) ≤ 4294967295; omega⟩, hSok, hk⟩
      have := eqlProof _ _ hpk hpk wx
      rw [hPC] at this
      simpa using this
    have HEP := Veil.mk heqP
    clear heqP hHC2 hPC hok2 HLF HEQ HTS
    have rA := hAW.wholeM
    go_upto_region 10 with (first
      | (refine wpList_ldv rfl 34 _ rfl _ _ rfl KV rA Tryd.underlying34 rfl iK ?_)
      | (refine wpList_stm rfl 34 _ _ rfl G (A * 33 + 1) (by first | rfl | (go_simp; done)) rfl hG iK (by rw [hl1, hKl]; omega) h1K ?_))
    rw [HPUT.out]
    have hG2 := hG.setRow HC2
    have hsG : w.heap.size + 1 ≤ G := by omega
    have hbX : Below w.heap.size w (W.setRow G HC2.toArray) := below_setRow hbW (by omega) _
    refine forget (p := fun y => Code.wp _ _ _ _ y) (fun V => Below w.heap.size w V ∧ CellsAt V G 41 HC2 ∧ CellsAt V WB 49 PC ∧ ChainAt V (w.heap.size + 1) H b v T P) ⟨hbX, hG2, hWP.setRowM _ (by omega), HCW.out.congr fun k hk => setRow_other W G k _ (fun e => by have := (HIN.out k hk).1; omega)⟩ ?_
    clear hbX hG2 hG hWP HCW hbW hAW rA HPUT
    clear W
    rintro W ⟨hbW, hG, hWP, hCC⟩
    have rG := hG.wholeM
    have hcp := HCP1.out W hbW hWP hCC
    clear hCC hWP HCP1
    go_upto_region 11 with (first
      | (refine wpList_ldv rfl 41 _ rfl _ _ rfl HC2 rG Tryd.underlying41 rfl i2 ?_)
      | (go_at_call 20; refine hcp.mono ?_; rintro e w5 ⟨⟨g, cc, rfl, hr5⟩, hW5, hb5⟩; clear hcp))
    have heqP := HEP.out
    have uP : Tryd.prog.underlying 49 = _ := Tryd.underlying49
    refine wp_region_gateT (fun w' => w'.rangeAt g 0 PC ∧ w'.rangeAt WB 0 PC) (fun _ => True) 99 (by kernel_rfl) ?_
    have hT : (fun w' : World => w'.rangeAt g 0 PC ∧ w'.rangeAt WB 0 PC) w5.drew := ⟨hr5, hW5.wholeM⟩
    refine wpAnyT_held (i := 0) (v := ?_) rfl (by kernel_rfl) (by kernel_rfl) (by kernel_rfl) (fun _ _ _ h => h) (by kernel_rfl) hT (fun _ => hS) (by kernel_rfl) ?_ ?_
    rotate_left
    · intro wx hSw; go_split_ands; go_simp; try with_reducible rfl
    simp only [Act.put, List.getElem_toArray, List.getElem_cons_succ, List.getElem_cons_zero, List.setIfInBounds_toArray, List.set_cons_zero, List.set_cons_succ]
    refine wpAnyT_held (i := 1) (v := ?_) rfl (by kernel_rfl) (by kernel_rfl) (by kernel_rfl) (fun _ _ _ h => h) (by kernel_rfl) hT (fun _ => hS) (by kernel_rfl) ?_ ?_
    rotate_left
    · intro wx hSw; go_split_ands; go_simp; try with_reducible rfl
    simp only [Act.put, List.getElem_toArray, List.getElem_cons_succ, List.getElem_cons_zero, List.setIfInBounds_toArray, List.set_cons_zero, List.set_cons_succ]
    refine wpAnyT_held (i := 2) (v := ?_) rfl (by kernel_rfl) (by kernel_rfl) (by kernel_rfl) (fun _ _ _ h => h) (by kernel_rfl) hT (fun _ => hS) (by kernel_rfl) ?_ ?_
    rotate_left
    · intro wx hSw; go_split_ands; go_simp; try with_reducible rfl
    simp only [Act.put, List.getElem_toArray, List.getElem_cons_succ, List.getElem_cons_zero, List.setIfInBounds_toArray, List.set_cons_zero, List.set_cons_succ]
    refine wpAnyT_held (i := 3) (v := ?_) rfl (by kernel_rfl) (by kernel_rfl) (by kernel_rfl) (fun _ _ _ h => h) (by kernel_rfl) hT (fun _ => hS) (by kernel_rfl) ?_ ?_
    rotate_left
    · intro wx hSw; go_split_ands; go_simp; try with_reducible rfl
    simp only [Act.put, List.getElem_toArray, List.getElem_cons_succ, List.getElem_cons_zero, List.setIfInBounds_toArray, List.set_cons_zero, List.set_cons_succ]
    refine wpAnyT_held (i := 4) (v := ?_) rfl (by kernel_rfl) (by kernel_rfl) (by kernel_rfl) (fun _ _ _ h => h) (by kernel_rfl) hT (fun _ => hS) (by kernel_rfl) ?_ ?_
    rotate_left
    · intro wx hSw; go_split_ands; go_simp; try with_reducible rfl
    simp only [Act.put, List.getElem_toArray, List.getElem_cons_succ, List.getElem_cons_zero, List.setIfInBounds_toArray, List.set_cons_zero, List.set_cons_succ]
    refine wpAnyT_held (i := 5) (v := ?_) rfl (by kernel_rfl) (by kernel_rfl) (by kernel_rfl) (fun _ _ _ h => h) (by kernel_rfl) hT (fun _ => hS) (by kernel_rfl) ?_ ?_
    rotate_left
    · intro wx hSw; go_split_ands; go_simp; try with_reducible rfl
    simp only [Act.put, List.getElem_toArray, List.getElem_cons_succ, List.getElem_cons_zero, List.setIfInBounds_toArray, List.set_cons_zero, List.set_cons_succ]
    refine wpAnyT_load (i := 6) (dst := some 74) (ty := 49) (x := .tmp 73) (b := g) (o := (0)) (cs := PC) (by kernel_rfl) (by kernel_rfl) (by kernel_rfl) (by kernel_rfl) (by kernel_rfl) (fun _ _ _ h => h) (by kernel_rfl) hT (fun _ => hS) (by kernel_rfl) (fun _ h => h.1) uP rfl iP ?_
    simp only [Act.put, List.getElem_toArray, List.getElem_cons_succ, List.getElem_cons_zero, List.setIfInBounds_toArray, List.set_cons_zero, List.set_cons_succ]
    refine wpAnyT_load (i := 7) (dst := some 75) (ty := 49) (x := .tmp 12) (b := WB) (o := (0)) (cs := PC) (by kernel_rfl) (by kernel_rfl) (by kernel_rfl) (by kernel_rfl) (by kernel_rfl) (fun _ _ _ h => h) (by kernel_rfl) hT (fun _ => hS) (by kernel_rfl) (fun _ h => h.2) uP rfl iP ?_
    simp only [Act.put, List.getElem_toArray, List.getElem_cons_succ, List.getElem_cons_zero, List.setIfInBounds_toArray, List.set_cons_zero, List.set_cons_succ]
    refine wpAnyT_held (i := 8) (v := .bool true) rfl (by kernel_rfl) (by kernel_rfl) (by kernel_rfl) (fun _ _ _ h => h) (by kernel_rfl) hT (fun _ => hS) (by kernel_rfl) ?_ ?_
    · intro wx hSw; go_split_ands; go_simp
    simp only [Act.put, List.getElem_toArray, List.getElem_cons_succ, List.getElem_cons_zero, List.setIfInBounds_toArray, List.set_cons_zero, List.set_cons_succ]
    refine wpAnyT_held (i := 9) (v := .bool true) rfl (by kernel_rfl) (by kernel_rfl) (by kernel_rfl) (fun _ _ _ h => h) (by kernel_rfl) hT (fun _ => hS) (by kernel_rfl) ?_ ?_
    · intro wx hSw; go_split_ands; go_simp
    simp only [Act.put, List.getElem_toArray, List.getElem_cons_succ, List.getElem_cons_zero, List.setIfInBounds_toArray, List.set_cons_zero, List.set_cons_succ]
    refine wpAnyT_held (i := 10) (v := ?_) rfl (by kernel_rfl) (by kernel_rfl) (by kernel_rfl) (fun _ _ _ h => h) (by kernel_rfl) hT (fun _ => hS) (by kernel_rfl) ?_ ?_
    rotate_left
    · intro wx hSw; go_split_ands; go_simp; try with_reducible rfl
    simp only [Act.put, List.getElem_toArray, List.getElem_cons_succ, List.getElem_cons_zero, List.setIfInBounds_toArray, List.set_cons_zero, List.set_cons_succ]
    refine wpAnyT_done (by kernel_rfl) ?_ _
    clear hT hS heqP hr5 hW5
    go_wp2
    go_ret
    exact ⟨rfl, hb5.drew⟩
  all_goals (
    clear hT hS HT2
    have hcp := HCP0.out W.drew hbW.drew (HCW.out.far (Below.refl _ _).drew)
    have rG := (hG.congr (w' := W.drew) rfl).wholeM
    go_wp2_with (first
      | (refine wpList_ldv rfl 41 _ rfl _ _ rfl HC1 rG Tryd.underlying41 rfl i1 ?_)
      | (go_at_call 20; refine hcp.mono ?_; rintro e w5 ⟨⟨xx, cc, rfl⟩, hb5⟩; clear hcp))
    go_ret
    exact ⟨rfl, hb5⟩)
theorem chainLies_walkI (x : Option Addr) (len cap : Nat) (ds : List Dc) (n : Int) (k : List Int) (w : World) (hd : DeedsC w x len cap ds) (hn : 0 ≤ n ∧ n ≤ 255) (hk : okK k) (hKT : S.KTab w) :
    Calls Tryd.prog 6 #[.slice x len cap, .int .u8 n, .agg (row .u8 k)] w fun e w' => e = .returned (.bool true) ∧ Below w.heap.size w w' := by
  obtain ⟨m, rfl⟩ := Int.eq_ofNat_of_zero_le hn.1
  exact chainLies_walk x len cap ds m k w hd (by omega) hk hKT
end Go.Proofs.YtgcidamdbidgiaaDoor
