/- He -/
import Derived.Test.YtlhajphjppjlgaaGreatDoorT47
import Derived.Test.YtlhajphjppjlgaaGreatDoorT29
namespace Go.Proofs.YtlhajphjppjlgaaGreatDoor
open Go.RowKit
set_option maxRecDepth 20000
set_option linter.unusedSimpArgs false
theorem run_index_mid {P : Program} (w : World) (t e : TypeId) (n m : Nat) (d : TypeDesc) (cs : List Value) (k : Nat) (hu : P.underlying t = some (.array n e)) (hue : P.underlying e = some d) (hd : (match d with | .struct _ | .array _ _ => true | _ => false) = true) (hi : (P.info? e).map (·.size) = some m) (hk : k < n) :
    (Instr.index t (.agg cs.toArray) (.int .i64 (k : Int))).run P w = .ok (.agg ((cs.drop (k * m)).take m).toArray) w := by
  have hp := part_midE (P := P) w e m d cs (k * m) hue hd hi
  cases hq : P.info? e with
  | none => simp [hq] at hi
  | some i =>
    have hs : i.size = m := by simpa [hq] using hi
    have hk' : (k : Int) < (n : Int) := by omega
    simp [Instr.index, asIntOf, run_underlying hu, sizeOf, typeInfo, hq, hs, hk, hp]
theorem foundAt_ok {T : Sms} (hT : OkS T) (a : Nat) (ha : a < 8) (h : Int × List Int) (hh : okH h) : ∀ p ∈ foundAt T a h, okP p := by
  intro p hp
  unfold foundAt at hp
  split at hp
  · rw [List.mem_singleton.1 hp]
    exact ⟨⟨by show (0 : Int) ≤ a; omega, by show (a : Int) ≤ 255; omega⟩, hh.1, hT.at_ok _ _, hh.2⟩
  · cases hp
theorem foundN_ok {T : Sms} (hT : OkS T) (l : List (Int × List Int)) (hl : okHs l) : ∀ n, n ≤ 8 → n ≤ l.length → ∀ p ∈ foundN T l n, okP p
  | 0, _, _ => by simp [foundN]
  | n + 1, h8, hn => fun p hp => by
    rw [foundN_succ] at hp
    rcases List.mem_append.1 hp with h | h
    · exact foundN_ok hT l hl n (by omega) (by omega) p h
    · rw [List.getElem?_eq_getElem (by omega)] at h
      exact foundAt_ok hT n (by omega) _ (hl _ (List.getElem_mem _)) p h
section
variable (base H b : Nat) (v : Value) (T : Sms) (P : List Pf) (w : World)
set_option maxHeartbeats 16000000 in
theorem compare_any (hs : List (Int × List Int)) (h8 : hs.length = 8) (hok : okHs hs) (hC : ChainAt w base H b v T P) (hbase : base ≤ w.heap.size) :
    Calls Tryz.prog 10 #[.pointer (some ⟨H, 0, none⟩), .agg (headsC hs).toArray] w fun e w' => ∃ f v', e = .returned f ∧ OwnI w' w.heap.size 47 66 f ((foundN T hs 8).map proofC) ∧ ChainTo w w' base H b v v' T (noteAll P (foundN T hs 8)) ∧ (∀ g, f.ownBlock = some g → ¬ chainP H b v' g) := by
  have hokT := hC.ok
  have hhl : (headsC hs).length = 264 := by rw [headsC_len hs hok, h8]
  have hD0 := CellsAt.new w 41 (headsC hs)
  have hB0 : Below w.heap.size w (w.alloc (.cells (headsC hs).toArray 41)) := (Below.refl _ _).alloc (Nat.le_refl _) _
  have rH := hD0.wholeM
  have iH : (Tryz.prog.info? 41).map (·.size) = some (headsC hs).length := by rw [hhl]; exact sizeHeads
  have HIX : Veil (∀ (j : Nat) (hj : j < 8) wx, (Instr.index 41 (.agg (headsC hs).toArray) (.int .i64 (j : Int))).run Tryz.prog wx = .ok (.agg (headC (hs[j]'(by omega))).toArray) wx) := ⟨fun j hj wx => by
    have := run_index_mid wx 41 40 8 33 _ (headsC hs) j Tryz.underlying41 Tryz.underlying40 rfl sizeHead1 hj
    have hp := headsC_part hs hok j (by omega) []
    rw [List.append_nil] at hp
    rw [hp] at this
    exact this⟩
  have HHK : Veil (∀ (j : Nat) (hj : j < 8), okH (hs[j]'(by omega)) ∧ foundN T hs (j + 1) = foundN T hs j ++ foundAt T j (hs[j]'(by omega))) := ⟨fun j hj => ⟨hok _ (List.getElem_mem _), by rw [foundN_succ, List.getElem?_eq_getElem (by omega)]; rfl⟩⟩
  have HIN : Veil (∀ k, chainP H b v k → k < w.heap.size) := ⟨fun k hk => (hC.inside k hk).1⟩
  have HC := Veil.mk (fun W (hb : Below w.heap.size w W) => hC.far hb)
  have HNO : Veil (∀ (f : Value) W, Below w.heap.size w W → OwnI W w.heap.size 47 66 f ((foundN T hs 8).map proofC) → Calls Tryz.prog 28 #[.pointer (some ⟨H, 0, none⟩), f] W fun e w' => (∃ r, e = .returned r) ∧ ∃ v', ChainAt w' base H b v' T (noteAll P (foundN T hs 8)) ∧ Turn (chainP H b v) W w' ∧ (v'.ownBlock = v.ownBlock ∨ ∃ g, v'.ownBlock = some g ∧ W.heap.size ≤ g)) := ⟨fun f W hb hf => note_any base H b v T P W w.heap.size f (foundN T hs 8) (hC.far hb) hf (foundN_ok hokT hs hok 8 (by omega) (by omega)) (by have := foundN_len T hs 8; omega) (fun g hg hp => by have := HIN.out g hp; have := (hf.blockLt g hg).2.1; omega) (by have := hb.size; omega)⟩
  have HFL : Veil (∀ j, (foundN T hs j).length ≤ j) := ⟨foundN_len T hs⟩
  obtain ⟨HSC, hHSC⟩ : ∃ q, headsC hs = q := ⟨_, rfl⟩
  rw [hHSC] at hhl hD0 hB0 rH iH HIX ⊢
  clear hHSC hC hok
  go_enter Tryz.func10, Tryz.ntmps10
  go_wp2_with (refine wpList_ldv rfl 41 _ rfl _ _ rfl HSC rH Tryz.underlying41 rfl iH ?_)
  go_loopw [5, 6, 7, 8, 12] (fun f _ _ _ q wr => ∃ j : Nat, j ≤ 8 ∧ q = .int .i64 j ∧ OwnI wr w.heap.size 47 66 f ((foundN T hs j).map proofC) ∧ Below w.heap.size w wr) (fun _ _ _ _ q _ => 8 - (intOf q).toNat)
  case atStart => exact ⟨0, Nat.zero_le _, rfl, OwnI.nil _ _ _ _, hB0⟩
  case round =>
    clear hD0 hB0 rH iH
    obtain ⟨j, hj, rfl, hf, hB⟩ := hrel
    by_cases hj8 : j < 8
    · have hji : (j : Int) < 8 := by omega
      have hj0 : (0 : Int) ≤ (j : Int) := by omega
      have hix := HIX.out j hj8
      obtain ⟨hhk, hfs⟩ := HHK.out j hj8
      have HFS := Veil.mk hfs
      clear hfs
      generalize hs[j] = hd at hix hhk HFS
      obtain ⟨c, s⟩ := hd
      obtain ⟨m, rfl⟩ := Int.eq_ofNat_of_zero_le hhk.1.1
      have hsl : s.length = 32 := hhk.2.1
      have hm32 : (m : Int) ≤ 4294967295 := hhk.1.2
      have hhl := headC_len ((m : Int), s) hsl
      have hll := linkC_len ((j : Int), (m : Int), s) hsl
      have iHd : (Tryz.prog.info? 40).map (·.size) = some (headC ((m : Int), s)).length := by rw [hhl]; exact sizeHead1
      have iLk : (Tryz.prog.info? 83).map (·.size) = some (linkC ((j : Int), (m : Int), s)).length := by rw [hll]; exact sizeLink
      have h1H := headC_one ((m : Int), s)
      have h1L := linkC_one ((j : Int), (m : Int), s)
      have hA := CellsAt.new wr 40 (headC (0, List.replicate 32 0))
      have hBA : Below wr.heap.size wr (wr.alloc (.cells (headC (0, List.replicate 32 0)).toArray 40)) := (Below.refl _ _).alloc (Nat.le_refl _) _
      go_upto_region 7 with (refine wpList_stv rfl 40 _ _ rfl _ rfl rfl hA iHd (by rw [hhl]; rfl) h1H ?_)
      have hA2 := hA.setRow (headC ((m : Int), s))
      have hB2 : Below wr.heap.size wr ((wr.alloc (.cells (headC (0, List.replicate 32 0)).toArray 40)).setRow wr.heap.size (headC ((m : Int), s)).toArray) := below_setRow hBA (Nat.le_refl _) _
      refine forget (p := fun y => Code.wp _ _ _ _ y) (fun W => Below w.heap.size w W ∧ OwnI W w.heap.size 47 66 _ ((foundN T hs j).map proofC) ∧ CellsAt W wr.heap.size 40 (headC ((m : Int), s))) ⟨hB.trans (hB2.mono hB.size), hf.far hB2, hA2⟩ ?_
      have hwA := hB.size
      clear hA2 hB2 hA hBA hf hB hix
      obtain ⟨A, hAe⟩ : ∃ q, wr.heap.size = q := ⟨_, rfl⟩
      rw [hAe] at hwA ⊢
      clear hAe
      rintro W ⟨hB, hf, hA⟩
      have hcv : IntKind.u8.wrap (j : Int) = (j : Int) := by rw [IntKind.wrap_u8]; omega
      have rA := hA.wholeM
      have HLB : Veil (∀ wx, (Instr.build 83 #[(0, .int .u8 (j : Int)), (1, .agg (headC ((m : Int), s)).toArray)]).run Tryz.prog wx = .ok (.agg (linkC ((j : Int), (m : Int), s)).toArray) wx) := ⟨linkBuilt ((j : Int), (m : Int), s) hsl⟩
      have hL := CellsAt.new W 83 (linkC (0, 0, List.replicate 32 0))
      have hBL : Below W.heap.size W (W.alloc (.cells (linkC (0, 0, List.replicate 32 0)).toArray 83)) := (Below.refl _ _).alloc (Nat.le_refl _) _
      go_upto_region 8 with (first
        | (refine wpList_ldv rfl 40 _ rfl _ _ rfl (headC ((m : Int), s)) rA Tryz.underlying40 rfl iHd ?_)
        | (refine wpList_bldx rfl 83 _ rfl #[(0, .int .u8 (j : Int)), (1, .agg (headC ((m : Int), s)).toArray)] (by first | rfl | kernel_rfl) _ (HLB.out _) ?_)
        | (refine wpList_stv rfl 83 _ _ rfl _ rfl rfl hL iLk (by rw [hll]; rfl) h1L ?_))
      have hL2 := hL.setRow (linkC ((j : Int), (m : Int), s))
      have hB2 : Below W.heap.size W ((W.alloc (.cells (linkC (0, 0, List.replicate 32 0)).toArray 83)).setRow W.heap.size (linkC ((j : Int), (m : Int), s)).toArray) := below_setRow hBL (Nat.le_refl _) _
      have hwL := hB.size
      refine forget (p := fun y => Code.wp _ _ _ _ y) (fun V => Below w.heap.size w V ∧ OwnI V w.heap.size 47 66 _ ((foundN T hs j).map proofC) ∧ CellsAt V A 40 (headC ((m : Int), s)) ∧ CellsAt V W.heap.size 83 (linkC ((j : Int), (m : Int), s))) ⟨hB.trans (hB2.mono hB.size), hf.far hB2, hA.farM hB2, hL2⟩ ?_
      clear hL2 hB2 hL hBL hf hB hA rA HLB
      obtain ⟨L, hLe⟩ : ∃ q, W.heap.size = q := ⟨_, rfl⟩
      rw [hLe] at hwL ⊢
      clear hLe
      clear W
      rintro V ⟨hB, hf, hA, hL⟩
      have hsok : okK s := hhk.2
      have hlok : okL ((j : Int), (m : Int), s) := ⟨⟨by show (0 : Int) ≤ j; omega, by show (j : Int) ≤ 255; omega⟩, hhk⟩
      have HCT : Veil (∀ W, Below w.heap.size w W → W.cell? ⟨H, j * 33, none⟩ = some (.int .u32 (cnt T j : Int))) := ⟨fun W hb => by
        have h := HC.out W hb
        have := h.box.range (j * 33) 33
        rw [chainC_head h.ok b v j hj8] at this
        exact this 0 _ rfl⟩
      have HHS : Veil (∀ W, Below w.heap.size w W → Calls Tryz.prog 30 #[.pointer (some ⟨H, 0, none⟩), .agg (linkC ((j : Int), (m : Int), s)).toArray] W fun e w' => e = .returned (.bool (linkM T ((j : Int), (m : Int), s)).isSome) ∧ Below W.heap.size W w') := ⟨fun W hb => chHas_any base H b v T P W _ hlok (HC.out W hb)⟩
      have HIS : Veil (1 ≤ m → m ≤ cnt T j → (linkM T ((j : Int), (m : Int), s)).isSome = decide (atN T j m = s)) := ⟨fun h1 h2 => linkM_has j m s hj8 h1 h2⟩
      have HUN : Veil (∀ W, Below w.heap.size w W → m ≤ cnt T j → Calls Tryz.prog 31 #[.pointer (some ⟨H, 0, none⟩), .agg (linkC ((j : Int), (m : Int), s)).toArray] W fun e w' => e = .returned (.agg (proofC ((j : Int), (m : Int), atN T j m, s)).toArray) ∧ Below W.heap.size W w') := ⟨fun W hb hm => unlike_any base H b v T P W j m s hj8 hm hsok (HC.out W hb)⟩
      have hPl := proofC_len ((j : Int), (m : Int), atN T j m, s) (hokT.at_ok j m).1 hsl
      have HFA : Veil (foundAt T j ((m : Int), s) = if 1 ≤ m ∧ m ≤ cnt T j ∧ atN T j m ≠ s then [((j : Int), (m : Int), atN T j m, s)] else []) := ⟨by
        unfold foundAt
        by_cases q : 1 ≤ m ∧ m ≤ cnt T j ∧ atN T j m ≠ s
        · rw [if_pos q, if_pos ⟨by show (1 : Int) ≤ m; omega, by show (m : Int).toNat ≤ _; rw [Int.toNat_natCast]; exact q.2.1, by show atN T j (m : Int).toNat ≠ s; rw [Int.toNat_natCast]; exact q.2.2⟩]
          show [((j : Int), (m : Int), atN T j (m : Int).toNat, s)] = _
          rw [Int.toNat_natCast]
        · rw [if_neg q, if_neg]
          rintro ⟨q1, q2, q3⟩
          exact q ⟨by have : (1 : Int) ≤ m := q1; omega, by have : (m : Int).toNat ≤ cnt T j := q2; rw [Int.toNat_natCast] at this; exact this, by have : atN T j (m : Int).toNat ≠ s := q3; rw [Int.toNat_natCast] at this; exact this⟩⟩
      have h1P := proofC_one ((j : Int), (m : Int), atN T j m, s)
      have hfl := HFL.out j
      have HAPP : Veil (∀ (f : Value) W (g : Nat), Below w.heap.size w W → OwnI W w.heap.size 47 66 f ((foundN T hs j).map proofC) → W.rangeAt g 0 (proofC ((j : Int), (m : Int), atN T j m, s)) → ∃ v' w', (Builtin.append_ #[43, 43] 43 #[f, .slice (some ⟨g, 0, none⟩) 1 1]).run Tryz.prog W = .ok v' w' ∧ OwnI w' w.heap.size 47 66 v' ((foundN T hs j).map proofC ++ [proofC ((j : Int), (m : Int), atN T j m, s)]) ∧ Below w.heap.size W w') := ⟨fun f W g hb hf hg => by
        obtain ⟨v3, W3, hr3, hv3, hg3, _⟩ := hf.app (P := Tryz.prog) 43 43 Tryz.underlying43 infoProof (by rfl) (by decide) _ hPl h1P g hg (by rw [List.length_map]; omega) (by decide) hb.size
        exact ⟨v3, W3, hr3, hv3, (Below.refl _ _).grown hg3 hb.size (fun k hk => (hf.blockLt k hk).2.1)⟩⟩
      have HPE : Veil (∀ q, proofC ((j : Int), (m : Int), atN T j m, s) = q → (foundN T hs j).map proofC ++ [q] = (foundN T hs j ++ [((j : Int), (m : Int), atN T j m, s)]).map proofC) := ⟨fun q hq => by rw [List.map_append, ← hq]; rfl⟩
      obtain ⟨PC, hPC⟩ : ∃ q, proofC ((j : Int), (m : Int), atN T j m, s) = q := ⟨_, rfl⟩
      have HPC := Veil.mk (HPE.out PC hPC)
      rw [hPC] at HUN hPl h1P HAPP
      clear hPC HPE
      have a0 : ∀ W, CellsAt W A 40 (headC ((m : Int), s)) → W.cell? ⟨A, 0, none⟩ = some (.int .u32 (m : Int)) := fun W h => h.cell 0
      have HA0 := Veil.mk a0
      clear a0
      generalize atN T j m = AN at HIS HFA HPC
      obtain ⟨LKC, hLKC⟩ : ∃ q, linkC ((j : Int), (m : Int), s) = q := ⟨_, rfl⟩
      rw [hLKC] at hL hll iLk h1L HHS HUN ⊢
      generalize (linkM T ((j : Int), (m : Int), s)).isSome = IS at HHS HIS
      obtain ⟨C, hC⟩ : ∃ q, cnt T j = q := ⟨_, rfl⟩
      rw [hC] at HCT HIS HFA HUN
      clear hLKC hC
      have uL : Tryz.prog.underlying 83 = _ := Tryz.underlying83
      have HT : ∀ W', Below w.heap.size w W' → CellsAt W' A 40 (headC ((m : Int), s)) → CellsAt W' L 83 LKC → (fun w' : World => w'.cell? ⟨A, 0, none⟩ = some (.int .u32 (m : Int)) ∧ w'.cell? ⟨H, j * 33, none⟩ = some (.int .u32 (C : Int)) ∧ w'.rangeAt L 0 LKC) W' := fun W' h1 h2 h3 => ⟨HA0.out W' h2, HCT.out W' h1, h3.wholeM⟩
      refine wp_region_gateT (fun w' => w'.cell? ⟨A, 0, none⟩ = some (.int .u32 (m : Int)) ∧ w'.cell? ⟨H, j * 33, none⟩ = some (.int .u32 (C : Int)) ∧ w'.rangeAt L 0 LKC) (fun _ => True) 99 (by kernel_rfl) ?_
      have hT := HT V.drew hB.drew (hA.congr rfl) (hL.congr rfl)
      have hS := trivial
      by_cases m1 : 1 ≤ m
      rotate_left
      · have m1i : ¬ (m : Int) ≥ 1 := by omega
        have HF0 : Veil (foundAt T j ((m : Int), s) = []) := ⟨by rw [HFA.out, if_neg (fun q => m1 q.1)]⟩
        clear HFA HIS HPC m1
        refine wpAnyT_held (i := 0) (v := ?_) rfl (by kernel_rfl) (by kernel_rfl) (by kernel_rfl) (fun _ _ _ h => h) (by kernel_rfl) hT (fun _ => hS) (by kernel_rfl) ?_ ?_
        rotate_left
        · intro wx hSw; go_split_ands; go_simp; try with_reducible rfl
        simp only [Act.put, gA, gS, gZ, sI, sZ, sS]
        refine wpAnyT_held (i := 1) (v := ?_) rfl (by kernel_rfl) (by kernel_rfl) (by kernel_rfl) (fun _ _ _ h => h) (by kernel_rfl) hT (fun _ => hS) (by kernel_rfl) ?_ ?_
        rotate_left
        · intro wx hSw; go_split_ands; go_simp; try with_reducible rfl
        simp only [Act.put, gA, gS, gZ, sI, sZ, sS]
        refine wpAnyT_held (i := 2) (v := .bool false) rfl (by kernel_rfl) (by kernel_rfl) (by kernel_rfl) (fun _ _ _ h => h) (by kernel_rfl) hT (fun _ => hS) (by kernel_rfl) ?_ ?_
        · intro wx hSw; go_split_ands; go_simp
        simp only [Act.put, gA, gS, gZ, sI, sZ, sS]
        refine wpAnyT_held (i := 3) (v := ?_) rfl (by kernel_rfl) (by kernel_rfl) (by kernel_rfl) (fun _ _ _ h => h) (by kernel_rfl) hT (fun _ => hS) (by kernel_rfl) ?_ ?_
        rotate_left
        · intro wx hSw; go_split_ands; go_simp; try with_reducible rfl
        simp only [Act.put, gA, gS, gZ, sI, sZ, sS]
        refine wpAnyT_skip (i := 4) rfl (by kernel_rfl) (by kernel_rfl) (by kernel_rfl) (fun _ _ _ h => h) (by kernel_rfl) hT (fun _ => hS) (by kernel_rfl) ?_
        simp only [Act.put, gA, gS, gZ, sI, sZ, sS]
        refine wpAnyT_skip (i := 5) rfl (by kernel_rfl) (by kernel_rfl) (by kernel_rfl) (fun _ _ _ h => h) (by kernel_rfl) hT (fun _ => hS) (by kernel_rfl) ?_
        simp only [Act.put, gA, gS, gZ, sI, sZ, sS]
        refine wpAnyT_skip (i := 6) rfl (by kernel_rfl) (by kernel_rfl) (by kernel_rfl) (fun _ _ _ h => h) (by kernel_rfl) hT (fun _ => hS) (by kernel_rfl) ?_
        simp only [Act.put, gA, gS, gZ, sI, sZ, sS]
        refine wpAnyT_skip (i := 7) rfl (by kernel_rfl) (by kernel_rfl) (by kernel_rfl) (fun _ _ _ h => h) (by kernel_rfl) hT (fun _ => hS) (by kernel_rfl) ?_
        simp only [Act.put, gA, gS, gZ, sI, sZ, sS]
        refine wpAnyT_skip (i := 8) rfl (by kernel_rfl) (by kernel_rfl) (by kernel_rfl) (fun _ _ _ h => h) (by kernel_rfl) hT (fun _ => hS) (by kernel_rfl) ?_
        simp only [Act.put, gA, gS, gZ, sI, sZ, sS]
        refine wpAnyT_skip (i := 9) rfl (by kernel_rfl) (by kernel_rfl) (by kernel_rfl) (fun _ _ _ h => h) (by kernel_rfl) hT (fun _ => hS) (by kernel_rfl) ?_
        simp only [Act.put, gA, gS, gZ, sI, sZ, sS]
        refine wpAnyT_skip (i := 10) rfl (by kernel_rfl) (by kernel_rfl) (by kernel_rfl) (fun _ _ _ h => h) (by kernel_rfl) hT (fun _ => hS) (by kernel_rfl) ?_
        simp only [Act.put, gA, gS, gZ, sI, sZ, sS]
        refine wpAnyT_skip (i := 11) rfl (by kernel_rfl) (by kernel_rfl) (by kernel_rfl) (fun _ _ _ h => h) (by kernel_rfl) hT (fun _ => hS) (by kernel_rfl) ?_
        simp only [Act.put, gA, gS, gZ, sI, sZ, sS]
        refine wpAnyT_skip (i := 12) rfl (by kernel_rfl) (by kernel_rfl) (by kernel_rfl) (fun _ _ _ h => h) (by kernel_rfl) hT (fun _ => hS) (by kernel_rfl) ?_
        simp only [Act.put, gA, gS, gZ, sI, sZ, sS]
        refine wpAnyT_skip (i := 13) rfl (by kernel_rfl) (by kernel_rfl) (by kernel_rfl) (fun _ _ _ h => h) (by kernel_rfl) hT (fun _ => hS) (by kernel_rfl) ?_
        simp only [Act.put, gA, gS, gZ, sI, sZ, sS]
        refine wpAnyT_held (i := 14) (v := .bool false) rfl (by kernel_rfl) (by kernel_rfl) (by kernel_rfl) (fun _ _ _ h => h) (by kernel_rfl) hT (fun _ => hS) (by kernel_rfl) ?_ ?_
        · intro wx hSw; go_split_ands; go_simp
        simp only [Act.put, gA, gS, gZ, sI, sZ, sS]
        refine wpAnyT_held (i := 15) (v := ?_) rfl (by kernel_rfl) (by kernel_rfl) (by kernel_rfl) (fun _ _ _ h => h) (by kernel_rfl) hT (fun _ => hS) (by kernel_rfl) ?_ ?_
        rotate_left
        · intro wx hSw; go_split_ands; go_simp; try with_reducible rfl
        simp only [Act.put, gA, gS, gZ, sI, sZ, sS]
        refine wpAnyT_skip (i := 16) rfl (by kernel_rfl) (by kernel_rfl) (by kernel_rfl) (fun _ _ _ h => h) (by kernel_rfl) hT (fun _ => hS) (by kernel_rfl) ?_
        simp only [Act.put, gA, gS, gZ, sI, sZ, sS]
        refine wpAnyT_skip (i := 17) rfl (by kernel_rfl) (by kernel_rfl) (by kernel_rfl) (fun _ _ _ h => h) (by kernel_rfl) hT (fun _ => hS) (by kernel_rfl) ?_
        simp only [Act.put, gA, gS, gZ, sI, sZ, sS]
        refine wpAnyT_skip (i := 18) rfl (by kernel_rfl) (by kernel_rfl) (by kernel_rfl) (fun _ _ _ h => h) (by kernel_rfl) hT (fun _ => hS) (by kernel_rfl) ?_
        simp only [Act.put, gA, gS, gZ, sI, sZ, sS]
        refine wpAnyT_skip (i := 19) rfl (by kernel_rfl) (by kernel_rfl) (by kernel_rfl) (fun _ _ _ h => h) (by kernel_rfl) hT (fun _ => hS) (by kernel_rfl) ?_
        simp only [Act.put, gA, gS, gZ, sI, sZ, sS]
        refine wpAnyT_held (i := 20) (v := .bool false) rfl (by kernel_rfl) (by kernel_rfl) (by kernel_rfl) (fun _ _ _ h => h) (by kernel_rfl) hT (fun _ => hS) (by kernel_rfl) ?_ ?_
        · intro wx hSw; go_split_ands; go_simp
        simp only [Act.put, gA, gS, gZ, sI, sZ, sS]
        refine wpAnyT_done (by kernel_rfl) ?_ _
        refine forget (p := fun y => Exit.then _ _ _ _ y) (fun V => Below w.heap.size w V ∧ OwnI V w.heap.size 47 66 _ ((foundN T hs j).map proofC)) ⟨hB.drew, hf.congr fun _ _ => rfl⟩ ?_
        clear hT hS hB hf hA hL HT HHS HUN HAPP
        rintro V2 ⟨hB, hf⟩
        have hw1 : IntKind.i64.wrap ((j : Int) + 1) = (j : Int) + 1 := by rw [IntKind.wrap_i64]; omega
        have HF := Veil.mk hf
        clear hf
        go_wp2
        go_roundw
        case rel => exact ⟨j + 1, hj8, by push_cast; rfl, by rw [HFS.out, HF0.out, List.append_nil]; exact HF.out, hB⟩
        case measure => simp [intOf]; omega
      have m1i : (m : Int) ≥ 1 := by omega
      by_cases m2 : m ≤ C
      rotate_left
      · have m2i : ¬ (m : Int) ≤ (C : Int) := by omega
        have HF0 : Veil (foundAt T j ((m : Int), s) = []) := ⟨by rw [HFA.out, if_neg (fun q => m2 q.2.1)]⟩
        clear HFA HIS HPC m1 m2
        refine wpAnyT_held (i := 0) (v := ?_) rfl (by kernel_rfl) (by kernel_rfl) (by kernel_rfl) (fun _ _ _ h => h) (by kernel_rfl) hT (fun _ => hS) (by kernel_rfl) ?_ ?_
        rotate_left
        · intro wx hSw; go_split_ands; go_simp; try with_reducible rfl
        simp only [Act.put, gA, gS, gZ, sI, sZ, sS]
        refine wpAnyT_held (i := 1) (v := ?_) rfl (by kernel_rfl) (by kernel_rfl) (by kernel_rfl) (fun _ _ _ h => h) (by kernel_rfl) hT (fun _ => hS) (by kernel_rfl) ?_ ?_
        rotate_left
        · intro wx hSw; go_split_ands; go_simp; try with_reducible rfl
        simp only [Act.put, gA, gS, gZ, sI, sZ, sS]
        refine wpAnyT_held (i := 2) (v := .bool true) rfl (by kernel_rfl) (by kernel_rfl) (by kernel_rfl) (fun _ _ _ h => h) (by kernel_rfl) hT (fun _ => hS) (by kernel_rfl) ?_ ?_
        · intro wx hSw; go_split_ands; go_simp
        simp only [Act.put, gA, gS, gZ, sI, sZ, sS]
        refine wpAnyT_held (i := 3) (v := ?_) rfl (by kernel_rfl) (by kernel_rfl) (by kernel_rfl) (fun _ _ _ h => h) (by kernel_rfl) hT (fun _ => hS) (by kernel_rfl) ?_ ?_
        rotate_left
        · intro wx hSw; go_split_ands; go_simp; try with_reducible rfl
        simp only [Act.put, gA, gS, gZ, sI, sZ, sS]
        refine wpAnyT_held (i := 4) (v := ?_) rfl (by kernel_rfl) (by kernel_rfl) (by kernel_rfl) (fun _ _ _ h => h) (by kernel_rfl) hT (fun _ => hS) (by kernel_rfl) ?_ ?_
        rotate_left
        · intro wx hSw; go_split_ands; go_simp; try with_reducible rfl
        simp only [Act.put, gA, gS, gZ, sI, sZ, sS]
        refine wpAnyT_held (i := 5) (v := ?_) rfl (by kernel_rfl) (by kernel_rfl) (by kernel_rfl) (fun _ _ _ h => h) (by kernel_rfl) hT (fun _ => hS) (by kernel_rfl) ?_ ?_
        rotate_left
        · intro wx hSw; go_split_ands; go_simp; try with_reducible rfl
        simp only [Act.put, gA, gS, gZ, sI, sZ, sS]
        refine wpAnyT_held (i := 6) (v := ?_) rfl (by kernel_rfl) (by kernel_rfl) (by kernel_rfl) (fun _ _ _ h => h) (by kernel_rfl) hT (fun _ => hS) (by kernel_rfl) ?_ ?_
        rotate_left
        · intro wx hSw; go_split_ands; go_simp; try with_reducible rfl
        simp only [Act.put, gA, gS, gZ, sI, sZ, sS]
        refine wpAnyT_held (i := 7) (v := ?_) rfl (by kernel_rfl) (by kernel_rfl) (by kernel_rfl) (fun _ _ _ h => h) (by kernel_rfl) hT (fun _ => hS) (by kernel_rfl) ?_ ?_
        rotate_left
        · intro wx hSw; go_split_ands; go_simp; try with_reducible rfl
        simp only [Act.put, gA, gS, gZ, sI, sZ, sS]
        refine wpAnyT_held (i := 8) (v := ?_) rfl (by kernel_rfl) (by kernel_rfl) (by kernel_rfl) (fun _ _ _ h => h) (by kernel_rfl) hT (fun _ => hS) (by kernel_rfl) ?_ ?_
        rotate_left
        · intro wx hSw; go_split_ands; go_simp; try with_reducible rfl
        simp only [Act.put, gA, gS, gZ, sI, sZ, sS]
        refine wpAnyT_held (i := 9) (v := ?_) rfl (by kernel_rfl) (by kernel_rfl) (by kernel_rfl) (fun _ _ _ h => h) (by kernel_rfl) hT (fun _ => hS) (by kernel_rfl) ?_ ?_
        rotate_left
        · intro wx hSw; go_split_ands; go_simp; try with_reducible rfl
        simp only [Act.put, gA, gS, gZ, sI, sZ, sS]
        refine wpAnyT_held (i := 10) (v := ?_) rfl (by kernel_rfl) (by kernel_rfl) (by kernel_rfl) (fun _ _ _ h => h) (by kernel_rfl) hT (fun _ => hS) (by kernel_rfl) ?_ ?_
        rotate_left
        · intro wx hSw; go_split_ands; go_simp; try with_reducible rfl
        simp only [Act.put, gA, gS, gZ, sI, sZ, sS]
        refine wpAnyT_held (i := 11) (v := ?_) rfl (by kernel_rfl) (by kernel_rfl) (by kernel_rfl) (fun _ _ _ h => h) (by kernel_rfl) hT (fun _ => hS) (by kernel_rfl) ?_ ?_
        rotate_left
        · intro wx hSw; go_split_ands; go_simp; try with_reducible rfl
        simp only [Act.put, gA, gS, gZ, sI, sZ, sS]
        refine wpAnyT_held (i := 12) (v := ?_) rfl (by kernel_rfl) (by kernel_rfl) (by kernel_rfl) (fun _ _ _ h => h) (by kernel_rfl) hT (fun _ => hS) (by kernel_rfl) ?_ ?_
        rotate_left
        · intro wx hSw; go_split_ands; go_simp; try with_reducible rfl
        simp only [Act.put, gA, gS, gZ, sI, sZ, sS]
        refine wpAnyT_held (i := 13) (v := .bool false) rfl (by kernel_rfl) (by kernel_rfl) (by kernel_rfl) (fun _ _ _ h => h) (by kernel_rfl) hT (fun _ => hS) (by kernel_rfl) ?_ ?_
        · intro wx hSw; go_split_ands; go_simp
        simp only [Act.put, gA, gS, gZ, sI, sZ, sS]
        refine wpAnyT_held (i := 14) (v := .bool false) rfl (by kernel_rfl) (by kernel_rfl) (by kernel_rfl) (fun _ _ _ h => h) (by kernel_rfl) hT (fun _ => hS) (by kernel_rfl) ?_ ?_
        · intro wx hSw; go_split_ands; go_simp
        simp only [Act.put, gA, gS, gZ, sI, sZ, sS]
        refine wpAnyT_held (i := 15) (v := ?_) rfl (by kernel_rfl) (by kernel_rfl) (by kernel_rfl) (fun _ _ _ h => h) (by kernel_rfl) hT (fun _ => hS) (by kernel_rfl) ?_ ?_
        rotate_left
        · intro wx hSw; go_split_ands; go_simp; try with_reducible rfl
        simp only [Act.put, gA, gS, gZ, sI, sZ, sS]
        refine wpAnyT_skip (i := 16) rfl (by kernel_rfl) (by kernel_rfl) (by kernel_rfl) (fun _ _ _ h => h) (by kernel_rfl) hT (fun _ => hS) (by kernel_rfl) ?_
        simp only [Act.put, gA, gS, gZ, sI, sZ, sS]
        refine wpAnyT_skip (i := 17) rfl (by kernel_rfl) (by kernel_rfl) (by kernel_rfl) (fun _ _ _ h => h) (by kernel_rfl) hT (fun _ => hS) (by kernel_rfl) ?_
        simp only [Act.put, gA, gS, gZ, sI, sZ, sS]
        refine wpAnyT_skip (i := 18) rfl (by kernel_rfl) (by kernel_rfl) (by kernel_rfl) (fun _ _ _ h => h) (by kernel_rfl) hT (fun _ => hS) (by kernel_rfl) ?_
        simp only [Act.put, gA, gS, gZ, sI, sZ, sS]
        refine wpAnyT_skip (i := 19) rfl (by kernel_rfl) (by kernel_rfl) (by kernel_rfl) (fun _ _ _ h => h) (by kernel_rfl) hT (fun _ => hS) (by kernel_rfl) ?_
        simp only [Act.put, gA, gS, gZ, sI, sZ, sS]
        refine wpAnyT_held (i := 20) (v := .bool false) rfl (by kernel_rfl) (by kernel_rfl) (by kernel_rfl) (fun _ _ _ h => h) (by kernel_rfl) hT (fun _ => hS) (by kernel_rfl) ?_ ?_
        · intro wx hSw; go_split_ands; go_simp
        simp only [Act.put, gA, gS, gZ, sI, sZ, sS]
        refine wpAnyT_done (by kernel_rfl) ?_ _
        refine forget (p := fun y => Exit.then _ _ _ _ y) (fun V => Below w.heap.size w V ∧ OwnI V w.heap.size 47 66 _ ((foundN T hs j).map proofC)) ⟨hB.drew, hf.congr fun _ _ => rfl⟩ ?_
        clear hT hS hB hf hA hL HT HHS HUN HAPP
        rintro V2 ⟨hB, hf⟩
        have hw1 : IntKind.i64.wrap ((j : Int) + 1) = (j : Int) + 1 := by rw [IntKind.wrap_i64]; omega
        have HF := Veil.mk hf
        clear hf
        go_wp2
        go_roundw
        case rel => exact ⟨j + 1, hj8, by push_cast; rfl, by rw [HFS.out, HF0.out, List.append_nil]; exact HF.out, hB⟩
        case measure => simp [intOf]; omega
      have m2i : (m : Int) ≤ (C : Int) := by omega
      have his := HIS.out m1 m2
      have HU2 : Veil (∀ W, Below w.heap.size w W → Calls Tryz.prog 31 #[.pointer (some ⟨H, 0, none⟩), .agg LKC.toArray] W fun e w' => e = .returned (.agg PC.toArray) ∧ Below W.heap.size W w') := ⟨fun W hb => HUN.out W hb m2⟩
      clear HUN HIS
      refine wpAnyT_held (i := 0) (v := ?_) rfl (by kernel_rfl) (by kernel_rfl) (by kernel_rfl) (fun _ _ _ h => h) (by kernel_rfl) hT (fun _ => hS) (by kernel_rfl) ?_ ?_
      rotate_left
      · intro wx hSw; go_split_ands; go_simp; try with_reducible rfl
      simp only [Act.put, gA, gS, gZ, sI, sZ, sS]
      refine wpAnyT_held (i := 1) (v := ?_) rfl (by kernel_rfl) (by kernel_rfl) (by kernel_rfl) (fun _ _ _ h => h) (by kernel_rfl) hT (fun _ => hS) (by kernel_rfl) ?_ ?_
      rotate_left
      · intro wx hSw; go_split_ands; go_simp; try with_reducible rfl
      simp only [Act.put, gA, gS, gZ, sI, sZ, sS]
      refine wpAnyT_held (i := 2) (v := .bool true) rfl (by kernel_rfl) (by kernel_rfl) (by kernel_rfl) (fun _ _ _ h => h) (by kernel_rfl) hT (fun _ => hS) (by kernel_rfl) ?_ ?_
      · intro wx hSw; go_split_ands; go_simp
      simp only [Act.put, gA, gS, gZ, sI, sZ, sS]
      refine wpAnyT_held (i := 3) (v := ?_) rfl (by kernel_rfl) (by kernel_rfl) (by kernel_rfl) (fun _ _ _ h => h) (by kernel_rfl) hT (fun _ => hS) (by kernel_rfl) ?_ ?_
      rotate_left
      · intro wx hSw; go_split_ands; go_simp; try with_reducible rfl
      simp only [Act.put, gA, gS, gZ, sI, sZ, sS]
      refine wpAnyT_held (i := 4) (v := ?_) rfl (by kernel_rfl) (by kernel_rfl) (by kernel_rfl) (fun _ _ _ h => h) (by kernel_rfl) hT (fun _ => hS) (by kernel_rfl) ?_ ?_
      rotate_left
      · intro wx hSw; go_split_ands; go_simp; try with_reducible rfl
      simp only [Act.put, gA, gS, gZ, sI, sZ, sS]
      refine wpAnyT_held (i := 5) (v := ?_) rfl (by kernel_rfl) (by kernel_rfl) (by kernel_rfl) (fun _ _ _ h => h) (by kernel_rfl) hT (fun _ => hS) (by kernel_rfl) ?_ ?_
      rotate_left
      · intro wx hSw; go_split_ands; go_simp; try with_reducible rfl
      simp only [Act.put, gA, gS, gZ, sI, sZ, sS]
      refine wpAnyT_held (i := 6) (v := ?_) rfl (by kernel_rfl) (by kernel_rfl) (by kernel_rfl) (fun _ _ _ h => h) (by kernel_rfl) hT (fun _ => hS) (by kernel_rfl) ?_ ?_
      rotate_left
      · intro wx hSw; go_split_ands; go_simp; try with_reducible rfl
      simp only [Act.put, gA, gS, gZ, sI, sZ, sS]
      refine wpAnyT_held (i := 7) (v := ?_) rfl (by kernel_rfl) (by kernel_rfl) (by kernel_rfl) (fun _ _ _ h => h) (by kernel_rfl) hT (fun _ => hS) (by kernel_rfl) ?_ ?_
      rotate_left
      · intro wx hSw; go_split_ands; go_simp; try with_reducible rfl
      simp only [Act.put, gA, gS, gZ, sI, sZ, sS]
      refine wpAnyT_held (i := 8) (v := ?_) rfl (by kernel_rfl) (by kernel_rfl) (by kernel_rfl) (fun _ _ _ h => h) (by kernel_rfl) hT (fun _ => hS) (by kernel_rfl) ?_ ?_
      rotate_left
      · intro wx hSw; go_split_ands; go_simp; try with_reducible rfl
      simp only [Act.put, gA, gS, gZ, sI, sZ, sS]
      refine wpAnyT_held (i := 9) (v := ?_) rfl (by kernel_rfl) (by kernel_rfl) (by kernel_rfl) (fun _ _ _ h => h) (by kernel_rfl) hT (fun _ => hS) (by kernel_rfl) ?_ ?_
      rotate_left
      · intro wx hSw; go_split_ands; go_simp; try with_reducible rfl
      simp only [Act.put, gA, gS, gZ, sI, sZ, sS]
      refine wpAnyT_held (i := 10) (v := ?_) rfl (by kernel_rfl) (by kernel_rfl) (by kernel_rfl) (fun _ _ _ h => h) (by kernel_rfl) hT (fun _ => hS) (by kernel_rfl) ?_ ?_
      rotate_left
      · intro wx hSw; go_split_ands; go_simp; try with_reducible rfl
      simp only [Act.put, gA, gS, gZ, sI, sZ, sS]
      refine wpAnyT_held (i := 11) (v := ?_) rfl (by kernel_rfl) (by kernel_rfl) (by kernel_rfl) (fun _ _ _ h => h) (by kernel_rfl) hT (fun _ => hS) (by kernel_rfl) ?_ ?_
      rotate_left
      · intro wx hSw; go_split_ands; go_simp; try with_reducible rfl
      simp only [Act.put, gA, gS, gZ, sI, sZ, sS]
      refine wpAnyT_held (i := 12) (v := ?_) rfl (by kernel_rfl) (by kernel_rfl) (by kernel_rfl) (fun _ _ _ h => h) (by kernel_rfl) hT (fun _ => hS) (by kernel_rfl) ?_ ?_
      rotate_left
      · intro wx hSw; go_split_ands; go_simp; try with_reducible rfl
      simp only [Act.put, gA, gS, gZ, sI, sZ, sS]
      refine wpAnyT_held (i := 13) (v := .bool true) rfl (by kernel_rfl) (by kernel_rfl) (by kernel_rfl) (fun _ _ _ h => h) (by kernel_rfl) hT (fun _ => hS) (by kernel_rfl) ?_ ?_
      · intro wx hSw; go_split_ands; go_simp
      simp only [Act.put, gA, gS, gZ, sI, sZ, sS]
      refine wpAnyT_held (i := 14) (v := .bool true) rfl (by kernel_rfl) (by kernel_rfl) (by kernel_rfl) (fun _ _ _ h => h) (by kernel_rfl) hT (fun _ => hS) (by kernel_rfl) ?_ ?_
      · intro wx hSw; go_split_ands; go_simp
      simp only [Act.put, gA, gS, gZ, sI, sZ, sS]
      refine wpAnyT_held (i := 15) (v := ?_) rfl (by kernel_rfl) (by kernel_rfl) (by kernel_rfl) (fun _ _ _ h => h) (by kernel_rfl) hT (fun _ => hS) (by kernel_rfl) ?_ ?_
      rotate_left
      · intro wx hSw; go_split_ands; go_simp; try with_reducible rfl
      simp only [Act.put, gA, gS, gZ, sI, sZ, sS]
      refine wpAnyT_held (i := 16) (v := ?_) rfl (by kernel_rfl) (by kernel_rfl) (by kernel_rfl) (fun _ _ _ h => h) (by kernel_rfl) hT (fun _ => hS) (by kernel_rfl) ?_ ?_
      rotate_left
      · intro wx hSw; go_split_ands; go_simp; try with_reducible rfl
      simp only [Act.put, gA, gS, gZ, sI, sZ, sS]
      refine wpAnyT_load (i := 17) (dst := some 37) (ty := 83) (x := .tmp 8) (b := L) (o := (0)) (cs := LKC) (by kernel_rfl) (by kernel_rfl) (by kernel_rfl) (by kernel_rfl) (by kernel_rfl) (fun _ _ _ h => h) (by kernel_rfl) hT (fun _ => hS) (by kernel_rfl) (fun _ h => h.2.2) uL rfl iLk ?_
      simp only [Act.put, gA, gS, gZ, sI, sZ, sS]
      have hhs := HHS.out V.drew hB.drew
      refine wpAnyT_one (i := 18) rfl (by kernel_rfl) (by kernel_rfl) (fun K hK => ?_)
      refine wpx_call _ _ (by kernel_rfl) (hhs.mono ?_)
      rintro e w1 ⟨rfl, hb1⟩
      refine ⟨_, rfl, ?_⟩
      have hB1 := hB.drew.trans (hb1.mono hB.drew.size)
      have hA1 := (hA.congr (w' := V.drew) rfl).farM hb1
      have hL1 := (hL.congr (w' := V.drew) rfl).farM hb1
      have hf1 := (hf.congr (w' := V.drew) fun _ _ => rfl).far hb1
      replace hT := HT w1 hB1 hA1 hL1
      refine hK.out _ _ hT (fun _ => hS) ?_
      clear hK K
      try simp only [Act.put, gA, gS, gZ, sI, sZ, sS]
      have hw1 : IntKind.i64.wrap ((j : Int) + 1) = (j : Int) + 1 := by rw [IntKind.wrap_i64]; omega
      by_cases e : AN = s
      · have HF0 : Veil (foundAt T j ((m : Int), s) = []) := ⟨by rw [HFA.out, if_neg (fun q => q.2.2 e)]⟩
        obtain rfl : IS = true := by rw [his]; simp [e]
        clear HFA HPC m1 m2 his e
        refine wpAnyT_held (i := 19) (v := .bool false) rfl (by kernel_rfl) (by kernel_rfl) (by kernel_rfl) (fun _ _ _ h => h) (by kernel_rfl) hT (fun _ => hS) (by kernel_rfl) ?_ ?_
        · intro wx hSw; go_split_ands; go_simp
        simp only [Act.put, gA, gS, gZ, sI, sZ, sS]
        refine wpAnyT_held (i := 20) (v := .bool false) rfl (by kernel_rfl) (by kernel_rfl) (by kernel_rfl) (fun _ _ _ h => h) (by kernel_rfl) hT (fun _ => hS) (by kernel_rfl) ?_ ?_
        · intro wx hSw; go_split_ands; go_simp
        simp only [Act.put, gA, gS, gZ, sI, sZ, sS]
        refine wpAnyT_done (by kernel_rfl) ?_ _
        refine forget (p := fun y => Exit.then _ _ _ _ y) (fun V => Below w.heap.size w V ∧ OwnI V w.heap.size 47 66 _ ((foundN T hs j).map proofC)) ⟨hB1, hf1⟩ ?_
        clear hT hS hB hf hA hL HT HHS HU2 HAPP hhs hA1 hL1 hf1 hB1 hb1
        rintro V2 ⟨hB, hf⟩
        have HF := Veil.mk hf
        clear hf
        go_wp2
        go_roundw
        case rel => exact ⟨j + 1, hj8, by push_cast; rfl, by rw [HFS.out, HF0.out, List.append_nil]; exact HF.out, hB⟩
        case measure => simp [intOf]; omega
      · have HF0 : Veil (foundAt T j ((m : Int), s) = [((j : Int), (m : Int), AN, s)]) := ⟨by rw [HFA.out, if_pos ⟨m1, m2, e⟩]⟩
        obtain rfl : IS = false := by rw [his]; simp [e]
        clear HFA m1 m2 his e
        refine wpAnyT_held (i := 19) (v := .bool true) rfl (by kernel_rfl) (by kernel_rfl) (by kernel_rfl) (fun _ _ _ h => h) (by kernel_rfl) hT (fun _ => hS) (by kernel_rfl) ?_ ?_
        · intro wx hSw; go_split_ands; go_simp
        simp only [Act.put, gA, gS, gZ, sI, sZ, sS]
        refine wpAnyT_held (i := 20) (v := .bool true) rfl (by kernel_rfl) (by kernel_rfl) (by kernel_rfl) (fun _ _ _ h => h) (by kernel_rfl) hT (fun _ => hS) (by kernel_rfl) ?_ ?_
        · intro wx hSw; go_split_ands; go_simp
        simp only [Act.put, gA, gS, gZ, sI, sZ, sS]
        refine wpAnyT_done (by kernel_rfl) ?_ _
        refine forget (p := fun y => Exit.then _ _ _ _ y) (fun V => Below w.heap.size w V ∧ OwnI V w.heap.size 47 66 _ ((foundN T hs j).map proofC) ∧ CellsAt V L 83 LKC) ⟨hB1, hf1, hL1⟩ ?_
        clear hT hS hB hf hA hL HT HHS hhs hA1 hL1 hf1 hB1 hb1
        rintro V2 ⟨hB, hf, hL⟩
        have rL := hL.wholeM
        have hun := HU2.out V2 hB
        obtain ⟨xf, cf, hxf⟩ := hf.isSlice
        generalize ((foundN T hs j).map proofC).length = mf at hxf
        subst hxf
        have HF := Veil.mk hf
        clear hf hL HU2
        go_wp2_with (first
          | (refine wpList_ldv rfl 83 _ rfl _ _ rfl LKC rL Tryz.underlying83 rfl iLk ?_)
          | (go_at_call 31; refine hun.mono ?_; rintro e w2 ⟨rfl, hb2⟩; have hB2 := hB.trans (hb2.mono hB.size); have hb3 : Below w2.heap.size w2 (w2.alloc (.cells PC.toArray 47)) := (Below.refl _ _).alloc (Nat.le_refl _) _; have hB3 := hB2.trans (hb3.mono hB2.size); have HF3 := Veil.mk ((HF.out.far hb2).far hb3); have hn3 := (CellsAt.new w2 47 PC).wholeM)
          | (refine wpList_bs1 rfl 43 47 _ rfl PC rfl Tryz.underlying43 infoProof (by decide) (by decide) hPl ?_)
          | (at_builtin; obtain ⟨v4, w4, hr4, ho4, hb4⟩ := HAPP.out _ _ w2.heap.size hB3 HF3.out hn3; refine wpList_appx rfl _ _ 43 43 rfl _ _ _ _ rfl rfl hr4 ?_; clear hr4))
        go_roundw
        case rel => exact ⟨j + 1, hj8, by push_cast; rfl, by rw [HFS.out, HF0.out, ← HPC.out]; exact ho4, hB3.trans hb4⟩
        case measure => simp [intOf]; omega
    · obtain rfl : j = 8 := by omega
      have hji : ¬ ((8 : Nat) : Int) < 8 := by omega
      have HF := Veil.mk hf
      have HNO2 := HNO.out _ wr hB hf
      obtain ⟨xf, cf, hxf⟩ := hf.isSlice
      generalize ((foundN T hs 8).map proofC).length = mf at hxf
      subst hxf
      clear hf
      go_wp2_with (go_at_call 28; refine HNO2.mono ?_; rintro e w2 ⟨⟨r2, rfl⟩, v2, hC2, hT2, hv2⟩)
      go_ret
      have hf2 : OwnI w2 w.heap.size 47 66 (.slice xf mf cf) ((foundN T hs 8).map proofC) := HF.out.congr fun g hg => hT2.block g (HF.out.blockLt g hg).1 (fun hp => by have := HIN.out g hp; have := (HF.out.blockLt g hg).2.1; omega)
      refine ⟨_, v2, rfl, hf2, ⟨hC2, (Turn.of_below hB).trans hT2, ?_⟩, fun g hg hp => ?_⟩
      · rcases hv2 with h | ⟨g, h, hg⟩
        · exact .inl h
        · exact .inr ⟨g, h, Nat.le_trans hB.size hg⟩
      · have h1 := HF.out.blockLt g hg
        rcases hp with e | e | e
        · have := HIN.out H (.inl rfl); omega
        · have := HIN.out b (.inr (.inl rfl)); omega
        · rcases hv2 with h | ⟨g', h, hg'⟩
          · rw [h] at e; have := HIN.out g (.inr (.inr e)); omega
          · rw [h] at e; cases e; omega
end
end Go.Proofs.YtlhajphjppjlgaaGreatDoor
