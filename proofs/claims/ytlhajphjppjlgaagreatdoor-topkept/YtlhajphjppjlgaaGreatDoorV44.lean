/- Hu -/
import Derived.Test.YtlhajphjppjlgaaGreatDoorV0
import Derived.Test.YtlhajphjppjlgaaGreatDoorV43
namespace Go.Proofs.YtlhajphjppjlgaaGreatDoor
open Go.RowKit
set_option maxRecDepth 20000
set_option linter.unusedSimpArgs false
def numAt (w : World) (g o : Nat) : Nat := match w.cell? ⟨g, o, none⟩ with | some (.int _ n) => n.toNat | _ => 0
theorem numAt_of {w : World} {g o : Nat} {k : IntKind} {n : Int} (h : w.cell? ⟨g, o, none⟩ = some (.int k n)) : numAt w g o = n.toNat := by unfold numAt; rw [h]
theorem linkC_parts (l : Int × Int × List Int) (hl : l.2.2.length = 32) : (linkC l)[0]? = some (.int .u8 l.1) ∧ (linkC l)[1]? = some (.int .u32 l.2.1) ∧ ((linkC l).drop 2).take 32 = l.2.2.map (Value.int .u8) ∧ (linkC l).drop 1 = headC l.2 := ⟨rfl, rfl, by show (l.2.2.map (Value.int .u8)).take 32 = _; exact List.take_of_length_le (by simp [hl]), rfl⟩
theorem linkC_sum (l : Int × Int × List Int) (s : List Int) (hl : l.2.2.length = 32) (hs : s.length = 32) : (linkC l).take 2 ++ s.map (Value.int .u8) ++ (linkC l).drop (2 + (s.map (Value.int .u8)).length) = linkC (l.1, l.2.1, s) := by
  have h := linkC_len l hl
  rw [List.length_map, hs, List.drop_of_length_le (by omega), List.append_nil]
  rfl
theorem linkC_num (l : Int × Int × List Int) (n : Int) : (linkC l).set 1 (.int .u32 n) = linkC (l.1, n, l.2.2) := rfl
section
variable (base H b : Nat) (v : Value) (T : Sms) (P : List Pf) (w : World)
set_option maxHeartbeats 8000000 in
theorem chSum_any (a n : Nat) (ha : a < 8) (hn : n ≤ cnt T a) (hC : ChainAt w base H b v T P) :
    Calls Tryz.prog 63 #[.pointer (some ⟨H, 0, none⟩), .int .u8 (a : Int), .int .u32 (n : Int)] w fun e w' => e = .returned (.agg (row .u8 (atN T a n))) ∧ Below w.heap.size w w' := by
  have hcl := hC.ok.cnt_le a
  have hok := hC.ok
  obtain ⟨Z, hZl, hZ⟩ : ∃ Z : List Int, Z.length = 32 ∧ Z = List.replicate 32 0 := ⟨_, rfl, rfl⟩
  have hB0 : Below w.heap.size w (w.alloc (.cells (row .u8 Z) 23)) := (Below.refl _ _).alloc (Nat.le_refl _) _
  have hr0 := Holds.new w .u8 23 Z
  have hC0 := hC.far hB0
  have rHW : ∀ W, ChainAt W base H b v T P → W.rangeAt H (a * 33) (headC (headOf T a)) := fun W h => by have := h.box.range (a * 33) 33; rw [chainC_head h.ok b v a ha] at this; exact this
  have hhl : (headC (headOf T a)).length = 33 := headC_len _ (hok.at_ok a _).1
  have iH : (Tryz.prog.info? 40).map (·.size) = some (headC (headOf T a)).length := by rw [hhl]; exact sizeHead1
  have HBL : Veil (∀ wx, (Instr.build 83 #[(0, .int .u8 (a : Int)), (1, .agg (headC (headOf T a)).toArray)]).run Tryz.prog wx = .ok (.agg (linkC ((a : Int), headOf T a)).toArray) wx) := ⟨linkBuilt ((a : Int), headOf T a) (hok.at_ok a _).1⟩
  have HLL : Veil (∀ m : Nat, (linkC ((a : Int), (m : Int), atN T a m)).length = 34) := ⟨fun m => linkC_len _ (hok.at_ok a m).1⟩
  have hLZ : (linkC ((a : Int), headOf T a)).length = 34 := linkC_len _ (hok.at_ok a _).1
  have h1L : ∀ v ∈ linkC ((a : Int), headOf T a), v.oneCell' = true := linkC_one _
  have iL : (Tryz.prog.info? 83).map (·.size) = some (linkC ((a : Int), headOf T a)).length := by rw [hLZ]; exact sizeLink
  have HLC : Veil (linkC ((a : Int), headOf T a) = linkC ((a : Int), (cnt T a : Int), atN T a (cnt T a))) := ⟨rfl⟩
  rw [hZ] at hB0 hr0 hC0
  have ha0 : (0 : Int) ≤ (a : Int) := by omega
  have ha8 : (a : Int) < 8 := by omega
  have HIN : Veil (∀ g, chainP H b v g → g < w.heap.size) := ⟨fun g hg => (hC.inside g hg).1⟩
  clear hC
  go_enter Tryz.func63, Tryz.ntmps63
  go_upto_region 1 with fail
  refine forget (p := fun y => Code.wp _ _ _ _ y) (fun W => Below w.heap.size w W ∧ ChainAt W base H b v T P ∧ Holds W w.heap.size .u8 23 Z ∧ W.heap.size = w.heap.size + 1) ⟨hB0, hC0, by rw [hZ]; exact hr0, by simp⟩ ?_
  clear hB0 hC0 hr0 hZ
  rintro W ⟨hB, hC, hr0, hsz⟩
  have rH := rHW W hC
  clear rHW
  obtain ⟨LZ, hLZ0⟩ : ∃ q : List Value, q = linkC (0, 0, List.replicate 32 0) := ⟨_, rfl⟩
  have hLZl : LZ.length = 34 := by rw [hLZ0]; rfl
  have hA := CellsAt.new W 83 LZ
  rw [hsz] at hA
  have hBA := hB.alloc hB.size (.cells LZ.toArray 83)
  have hCA := hC.far (w' := W.alloc (.cells LZ.toArray 83)) ((Below.refl _ _).alloc (Nat.le_refl _) _)
  have hrA := hr0.alloc (.cells LZ.toArray 83)
  rw [hLZ0] at hA hBA hCA hrA
  generalize headC (headOf T a) = HDC at hhl rH iH HBL
  generalize linkC ((a : Int), headOf T a) = LKC at HBL hLZ h1L iL HLC
  go_wp2_with (first
    | (refine wpList_ldv rfl 40 _ rfl _ _ (by go_simp) HDC rH Tryz.underlying40 rfl iH ?_)
    | (refine wpList_bldx rfl 83 _ rfl #[(0, .int .u8 (a : Int)), (1, .agg HDC.toArray)] (by first | rfl | kernel_rfl) _ (HBL.out _) ?_)
    | (refine wpList_stv rfl 83 _ _ rfl _ rfl rfl hA iL (by rw [hLZ]; rfl) h1L ?_))
  have hA2 := hA.setRow LKC
  have hB2 := below_setRow hBA (show w.heap.size ≤ w.heap.size + 1 by omega) LKC.toArray
  have hC2 : ChainAt ((W.alloc (.cells (linkC (0, 0, List.replicate 32 0)).toArray 83)).setRow (w.heap.size + 1) LKC.toArray) base H b v T P := hCA.congr fun g hg => setRow_other _ _ _ _ (by have := (hC.inside g hg).1; omega)
  have hr2 := hrA.setRowOther (g' := w.heap.size + 1) LKC.toArray (by omega)
  rw [HLC.out] at hA2 hB2 hC2 hr2
  refine forget (p := fun y => Code.wp _ _ _ _ y) (fun V => Below w.heap.size w V ∧ ChainAt V base H b v T P ∧ Holds V w.heap.size .u8 23 Z ∧ CellsAt V (w.heap.size + 1) 83 (linkC ((a : Int), (cnt T a : Int), atN T a (cnt T a)))) ⟨by rw [HLC.out]; exact hB2, by rw [HLC.out]; exact hC2, by rw [HLC.out]; exact hr2, by rw [HLC.out]; exact hA2⟩ ?_
  clear hA2 hB2 hC2 hr2 hA hBA hCA hrA HBL hLZ h1L iL HLC hhl rH iH hsz hB hC hr0 hLZ0
  clear W
  rintro V ⟨hB, hC, hr, hA⟩
  obtain ⟨G, hG⟩ : ∃ q, w.heap.size + 1 = q := ⟨_, rfl⟩
  rw [hG] at hA ⊢
  have hGw : w.heap.size < G := by omega
  clear hG
  have HLK : Veil (∀ (m : Nat) (wx : World), 1 ≤ m → m ≤ cnt T a → MapG Tryz.prog 83 encL okL wx b (tot T) (linkM T) → (Instr.lookup 78 (.map (some b)) (.agg (linkC ((a : Int), (m : Int), atN T a m)).toArray) false).run Tryz.prog wx = .ok (.agg (row .u8 (atN T a (m - 1)))) wx) := ⟨fun m wx h1 h2 hM => by
    have := hM.get keyEncL mapLinkKey (zeroKeyH wx) ((a : Int), (m : Int), atN T a m) ⟨⟨by show (0 : Int) ≤ a; omega, by show (a : Int) ≤ 255; omega⟩, ⟨by show (0 : Int) ≤ m; omega, by show (m : Int) ≤ 4294967295; omega⟩, hok.at_ok a m⟩
    rw [linkM_at a m ha h1 h2] at this
    exact this⟩
  have HAT : Veil (∀ m, (atN T a m).length = 32) := ⟨fun m => (hok.at_ok a m).1⟩
  have uL : Tryz.prog.underlying 83 = _ := Tryz.underlying83
  simp only [Act.put]
  go_loopw [18] (fun _ wr => ∃ m : Nat, n ≤ m ∧ m ≤ cnt T a ∧ Below w.heap.size w wr ∧ ChainAt wr base H b v T P ∧ Holds wr w.heap.size .u8 23 Z ∧ CellsAt wr G 83 (linkC ((a : Int), (m : Int), atN T a m))) (fun _ wr => numAt wr G 1)
  case atStart => exact ⟨cnt T a, hn, Nat.le_refl _, hB, hC, hr, hA⟩
  case round =>
    clear hB hC hr hA
    obtain ⟨m, h1, h2, hB, hC, hr, hA⟩ := hrel
    obtain ⟨p0, p1, p2, -⟩ := linkC_parts ((a : Int), (m : Int), atN T a m) (HAT.out m)
    have c1 := hA.cell 1
    rw [p1] at c1
    simp only at c1 p2
    by_cases hm : n < m
    · have hmi : (m : Int) > (n : Int) := by omega
      go_upto_region 3 with fail
      have iL : (Tryz.prog.info? 83).map (·.size) = some (linkC ((a : Int), (m : Int), atN T a m)).length := by rw [HLL.out m]; exact sizeLink
      have hlk := fun wx => HLK.out m wx (by omega) h2
      obtain ⟨LM, hLM⟩ : ∃ q, linkC ((a : Int), (m : Int), atN T a m) = q := ⟨_, rfl⟩
      have HLM := Veil.mk hLM
      have hAl := HLL.out m
      have hPl := HAT.out (m - 1)
      have HPV := linkC_sum ((a : Int), (m : Int), atN T a m) (atN T a (m - 1)) (HAT.out m) hPl
      simp only at HPV
      rw [hLM] at iL hlk hA HPV hAl
      have HPV := Veil.mk HPV
      have HLK2 := Veil.mk hlk
      obtain ⟨PV, hPV⟩ : ∃ q, atN T a (m - 1) = q := ⟨_, rfl⟩
      have HPE := Veil.mk hPV
      rw [hPV] at HPV HLK2 hPl
      clear hlk hLM hPV p0 p1 p2
      have iP : (Tryz.prog.info? 23).map (·.size) = some (PV.map (Value.int .u8)).length := by rw [List.length_map, hPl]; exact sizeKeyH
      refine wp_region_gate (fun w' => w'.cell? ⟨H, 264, none⟩ = some (.map (some b)) ∧ w'.rangeAt G 0 LM ∧ MapG Tryz.prog 83 encL okL w' b (tot T) (linkM T)) 8 (by kernel_rfl) ?_
      have hS : (fun w' : World => w'.cell? ⟨H, 264, none⟩ = some (.map (some b)) ∧ w'.rangeAt G 0 LM ∧ MapG Tryz.prog 83 encL okL w' b (tot T) (linkM T)) wr.drew := ⟨by have := hC.box.cell 264; rw [chainC_map hC.ok] at this; exact this, hA.wholeM, hC.map.congr rfl⟩
      refine ga 0 ?_ rfl (by kernel_rfl) (fun _ _ _ h => h) hS ?_ ?_
      rotate_left
      · intro _; go_simp; try with_reducible rfl
      simp only [Act.put, gA, gS, gZ, sI, sZ, sS]
      refine ga 1 ?_ rfl (by kernel_rfl) (fun _ _ _ h => h) hS ?_ ?_
      rotate_left
      · intro _; go_simp; try with_reducible rfl
      simp only [Act.put, gA, gS, gZ, sI, sZ, sS]
      refine ga 2 ?_ rfl (by kernel_rfl) (fun _ _ _ h => h) hS ?_ ?_
      rotate_left
      · intro _; go_simp; try with_reducible rfl
      simp only [Act.put, gA, gS, gZ, sI, sZ, sS]
      refine gr 3 ?_ rfl (by kernel_rfl) (fun _ _ _ h => h) hS ?_ ?_
      rotate_left
      · intro wx hSw; go_split_ands; go_simp; try with_reducible rfl
      simp only [Act.put, gA, gS, gZ, sI, sZ, sS]
      refine wpAnyG_load (i := 4) (dst := some 25) (ty := 83) (x := .tmp 7) (b := G) (o := (0)) (cs := LM) (by kernel_rfl) (by kernel_rfl) (by kernel_rfl) (by kernel_rfl) (by kernel_rfl) (fun _ _ _ h => h) (by kernel_rfl) (by kernel_rfl) (by kernel_rfl) hS (by kernel_rfl) (fun _ h => h.2.1) uL rfl iL ?_
      simp only [Act.put, gA, gS, gZ, sI, sZ, sS]
      refine gr 5 (.agg (row .u8 PV)) rfl (by kernel_rfl) (fun _ _ _ h => h) hS (fun wx h => exec_lookH rfl rfl rfl (HLK2.out wx h.2.2)) ?_
      simp only [Act.put, gA, gS, gZ, sI, sZ, sS]
      refine ga 6 ?_ rfl (by kernel_rfl) (fun _ _ _ h => h) hS ?_ ?_
      rotate_left
      · intro _; go_simp; try with_reducible rfl
      simp only [Act.put, gA, gS, gZ, sI, sZ, sS]
      refine ga 7 ?_ rfl (by kernel_rfl) (fun _ _ _ h => h) hS ?_ ?_
      rotate_left
      · intro _; go_simp; try with_reducible rfl
      simp only [Act.put, gA, gS, gZ, sI, sZ, sS]
      refine wpAnyG_one (i := 8) rfl (by kernel_rfl) (by kernel_rfl) (fun K hK => ?_)
      refine wp_stmE 23 _ _ rfl G 2 rfl (cs := PV.map (Value.int .u8)) rfl (hA.congr (w' := wr.drew) rfl) iP (by rw [List.length_map, hPl, hAl]; omega) (fun v hv => by obtain ⟨x, _, rfl⟩ := List.mem_map.1 hv; rfl) ?_
      rw [HPV.out]
      refine hK.out _ _ (fun h => absurd (show true = false from h) (by decide)) ?_
      clear hK K
      try simp only [Act.put, gA, gS, gZ, sI, sZ, sS]
      refine wpAnyG_done (by kernel_rfl) ?_ _
      have hA2 := (hA.congr (w' := wr.drew) rfl).setRow (linkC ((a : Int), (m : Int), PV))
      have hB2 := below_setRow hB.drew (show w.heap.size ≤ G by omega) (linkC ((a : Int), (m : Int), PV)).toArray
      have hC2 : ChainAt (wr.drew.setRow G (linkC ((a : Int), (m : Int), PV)).toArray) base H b v T P := hC.congr fun g hg => setRow_other wr.drew _ _ _ (by have := HIN.out g hg; omega)
      have hr2 := (hr.drew).setRowOther (g' := G) (linkC ((a : Int), (m : Int), PV)).toArray (by omega)
      refine forget (p := fun y => Exit.then _ _ _ _ y) (fun V => Below w.heap.size w V ∧ ChainAt V base H b v T P ∧ Holds V w.heap.size .u8 23 Z ∧ CellsAt V G 83 (linkC ((a : Int), (m : Int), PV))) ⟨hB2, hC2, hr2, hA2⟩ ?_
      have hnm := numAt_of c1
      rw [Int.toNat_natCast] at hnm
      have HNM := Veil.mk hnm
      clear hA2 hB2 hC2 hr2 hS hA hB hC hr c1 iP iL HLK2 HPV hnm
      rintro V ⟨hB, hC, hr, hA⟩
      have c1 : V.cell? ⟨G, 1, none⟩ = some (.int .u32 (m : Int)) := hA.cell 1
      have f1 := hA.frozen 1
      have hwr : IntKind.u32.wrap ((m : Int) - 1) = (m : Int) - 1 := by rw [IntKind.wrap_u32]; omega
      go_wp2
      go_roundw
      case rel =>
        refine ⟨m - 1, by omega, by omega, ?_, ?_, ?_, ?_⟩
        · exact hB.setCell (show w.heap.size ≤ G by omega) _
        · exact hC.congr fun g hg => Below.heap_setCell V _ _ g (by have := HIN.out g hg; show g ≠ G; omega)
        · exact hr.setOther _ _ (by show w.heap.size ≠ G; omega)
        · have := hA.set 1 (.int .u32 ((m : Int) - 1))
          rw [linkC_num] at this
          rw [HPE.out, show ((m - 1 : Nat) : Int) = (m : Int) - 1 by omega]
          exact this
      case measure =>
        have := (hA.set 1 (.int .u32 ((m : Int) - 1))).cell 1
        rw [linkC_num] at this
        rw [numAt_of this, HNM.out]
        show ((m : Int) - 1).toNat < m
        omega
    · obtain rfl : m = n := by omega
      have hmi : ¬ (m : Int) > (m : Int) := by omega
      have rL := hA.range 2 32
      rw [p2] at rL
      have hal := HAT.out m
      obtain ⟨AM, hAM⟩ : ∃ q, atN T a m = q := ⟨_, rfl⟩
      rw [hAM] at rL hal
      have HAM := Veil.mk hAM
      have iA : (Tryz.prog.info? 23).map (·.size) = some (AM.map (Value.int .u8)).length := by rw [List.length_map, hal]; exact sizeKeyH
      clear hA hC p0 p1 p2 HLK hAM
      go_wp2_with (first
        | (refine wpList_ldv rfl 23 _ rfl _ _ rfl (AM.map (Value.int .u8)) rL Tryz.underlying23 rfl iA ?_)
        | (refine wpList_st rfl 23 _ _ rfl _ rfl (l := AM) rfl hr (by rw [hal]; exact sizeKeyH) (by rw [hal, hZl]) ?_))
      refine bodyPost_ret (results_holds (Tryz.results63) _ rfl (hr.setRow AM) Tryz.underlying23 sizeKeyH hal) rfl ⟨?_, ?_⟩
      · rw [HAM.out]
      · exact below_setRow hB (Nat.le_refl _) _
set_option maxHeartbeats 8000000 in
theorem unlike_any (a n : Nat) (s : List Int) (ha : a < 8) (hn : n ≤ cnt T a) (hs : okK s) (hC : ChainAt w base H b v T P) :
    Calls Tryz.prog 31 #[.pointer (some ⟨H, 0, none⟩), .agg (linkC ((a : Int), (n : Int), s)).toArray] w fun e w' => e = .returned (.agg (proofC ((a : Int), (n : Int), atN T a n, s)).toArray) ∧ Below w.heap.size w w' := by
  have hsl := hs.1
  have hal := (hC.ok.at_ok a n).1
  obtain ⟨PZ, hPZ, hPZl⟩ : ∃ q : List Value, q = proofC (0, 0, List.replicate 32 0, List.replicate 32 0) ∧ q.length = 66 := ⟨_, rfl, rfl⟩
  obtain ⟨p0, p1, p2, -⟩ := linkC_parts ((a : Int), (n : Int), s) hsl
  simp only at p0 p1 p2
  have hzv : ∀ wx, (zeroValue 47).run Tryz.prog wx = .ok (.agg PZ.toArray) wx := fun wx => by rw [hPZ]; exact zero_ofH (by kernel_rfl) wx
  have hz1 : ¬ PZ.toArray = #[] := by intro h; have := congrArg Array.size h; simp at this; rw [this] at hPZl; simp at hPZl
  have hD0 := (CellsAt.new w 83 (linkC ((a : Int), (n : Int), s))).alloc (.cells PZ.toArray 47)
  have hr0 := CellsAt.new (w.alloc (.cells (linkC ((a : Int), (n : Int), s)).toArray 83)) 47 PZ
  rw [World.size_alloc] at hr0
  have hB : Below w.heap.size w ((w.alloc (.cells (linkC ((a : Int), (n : Int), s)).toArray 83)).alloc (.cells PZ.toArray 47)) := ((Below.refl _ _).alloc (Nat.le_refl _) _).alloc (by simp) _
  have HSUM : Veil (∀ W, Below w.heap.size w W → Calls Tryz.prog 63 #[.pointer (some ⟨H, 0, none⟩), .int .u8 (a : Int), .int .u32 (n : Int)] W fun e w' => e = .returned (.agg (row .u8 (atN T a n))) ∧ Below W.heap.size W w') := ⟨fun W hb => chSum_any base H b v T P W a n ha hn (hC.far hb)⟩
  generalize atN T a n = AN at HSUM hal ⊢
  clear hPZ hC
  generalize linkC ((a : Int), (n : Int), s) = LK at p0 p1 p2 hD0 hr0 hB ⊢
  go_enter Tryz.func31, Tryz.ntmps31
  go_upto_region 1 with fail
  refine forget (p := fun y => Code.wp _ _ _ _ y) (fun W => Below w.heap.size w W ∧ CellsAt W w.heap.size 83 LK ∧ CellsAt W (w.heap.size + 1) 47 PZ) ⟨hB, hD0, hr0⟩ ?_
  clear hB hD0 hr0
  rintro W ⟨hB, hD0, hr0⟩
  have uK : Tryz.prog.underlying 23 = _ := Tryz.underlying23
  have iK : (Tryz.prog.info? 23).map (·.size) = some (s.map (Value.int .u8)).length := by rw [List.length_map, hsl]; exact sizeKeyH
  refine wp_region_gate (fun w' => w'.cell? ⟨w.heap.size, 0, none⟩ = some (.int .u8 (a : Int)) ∧ w'.cell? ⟨w.heap.size, 1, none⟩ = some (.int .u32 (n : Int)) ∧ w'.rangeAt w.heap.size 2 (s.map (Value.int .u8))) 16 (by kernel_rfl) ?_
  have HS : ∀ W' : World, CellsAt W' w.heap.size 83 LK → (fun w' : World => w'.cell? ⟨w.heap.size, 0, none⟩ = some (.int .u8 (a : Int)) ∧ w'.cell? ⟨w.heap.size, 1, none⟩ = some (.int .u32 (n : Int)) ∧ w'.rangeAt w.heap.size 2 (s.map (Value.int .u8))) W' := fun W' h => ⟨by rw [h.cell]; exact p0, by rw [h.cell]; exact p1, by have := h.range 2 32; rw [p2] at this; exact this⟩
  have hS := HS W.drew (hD0.congr rfl)
  have hsum := HSUM.out W.drew hB.drew
  refine ga 0 ?_ rfl (by kernel_rfl) (fun _ _ _ h => h) hS ?_ ?_
  rotate_left
  · intro _; go_simp; try with_reducible rfl
  simp only [Act.put, gA, gS, gZ, sI, sZ, sS]
  refine ga 2 ?_ rfl (by kernel_rfl) (fun _ _ _ h => h) hS ?_ ?_
  rotate_left
  · intro _; go_simp; try with_reducible rfl
  simp only [Act.put, gA, gS, gZ, sI, sZ, sS]
  refine ga 3 ?_ rfl (by kernel_rfl) (fun _ _ _ h => h) hS ?_ ?_
  rotate_left
  · intro _; go_simp; try with_reducible rfl
  simp only [Act.put, gA, gS, gZ, sI, sZ, sS]
  refine ga 5 ?_ rfl (by kernel_rfl) (fun _ _ _ h => h) hS ?_ ?_
  rotate_left
  · intro _; go_simp; try with_reducible rfl
  simp only [Act.put, gA, gS, gZ, sI, sZ, sS]
  refine ga 6 ?_ rfl (by kernel_rfl) (fun _ _ _ h => h) hS ?_ ?_
  rotate_left
  · intro _; go_simp; try with_reducible rfl
  simp only [Act.put, gA, gS, gZ, sI, sZ, sS]
  refine ga 8 ?_ rfl (by kernel_rfl) (fun _ _ _ h => h) hS ?_ ?_
  rotate_left
  · intro _; go_simp; try with_reducible rfl
  simp only [Act.put, gA, gS, gZ, sI, sZ, sS]
  refine ga 9 ?_ rfl (by kernel_rfl) (fun _ _ _ h => h) hS ?_ ?_
  rotate_left
  · intro _; go_simp; try with_reducible rfl
  simp only [Act.put, gA, gS, gZ, sI, sZ, sS]
  refine ga 12 ?_ rfl (by kernel_rfl) (fun _ _ _ h => h) hS ?_ ?_
  rotate_left
  · intro _; go_simp; try with_reducible rfl
  simp only [Act.put, gA, gS, gZ, sI, sZ, sS]
  refine ga 13 ?_ rfl (by kernel_rfl) (fun _ _ _ h => h) hS ?_ ?_
  rotate_left
  · intro _; go_simp; try with_reducible rfl
  simp only [Act.put, gA, gS, gZ, sI, sZ, sS]
  refine gr 1 ?_ rfl (by kernel_rfl) (fun _ _ _ h => h) hS ?_ ?_
  rotate_left
  · intro wx hSw; go_split_ands; go_simp; try with_reducible rfl
  simp only [Act.put, gA, gS, gZ, sI, sZ, sS]
  refine gr 4 ?_ rfl (by kernel_rfl) (fun _ _ _ h => h) hS ?_ ?_
  rotate_left
  · intro wx hSw; go_split_ands; go_simp; try with_reducible rfl
  simp only [Act.put, gA, gS, gZ, sI, sZ, sS]
  refine gr 7 ?_ rfl (by kernel_rfl) (fun _ _ _ h => h) hS ?_ ?_
  rotate_left
  · intro wx hSw; go_split_ands; go_simp; try with_reducible rfl
  simp only [Act.put, gA, gS, gZ, sI, sZ, sS]
  refine gr 10 ?_ rfl (by kernel_rfl) (fun _ _ _ h => h) hS ?_ ?_
  rotate_left
  · intro wx hSw; go_split_ands; go_simp; try with_reducible rfl
  simp only [Act.put, gA, gS, gZ, sI, sZ, sS]
  refine wpAnyG_load (i := 14) (dst := some 19) (ty := 23) (x := .tmp 18) (b := w.heap.size) (o := (2)) (cs := (s.map (Value.int .u8))) (by kernel_rfl) (by kernel_rfl) (by kernel_rfl) (by kernel_rfl) (by kernel_rfl) (fun _ _ _ h => h) (by kernel_rfl) (by kernel_rfl) (by kernel_rfl) hS (by kernel_rfl) (fun _ h => h.2.2) uK rfl iK ?_
  simp only [Act.put, gA, gS, gZ, sI, sZ, sS]
  refine wpAnyG_one (i := 11) rfl (by kernel_rfl) (by kernel_rfl) (fun K hK => ?_)
  refine wpx_call _ _ (by kernel_rfl) (hsum.mono ?_)
  rintro e w1 ⟨rfl, hb1⟩
  refine ⟨_, rfl, ?_⟩
  have hB1 := hB.drew.trans (hb1.mono hB.drew.size)
  have hD1 := (hD0.congr (w' := W.drew) rfl).farM hb1
  have hr1 := (hr0.congr (w' := W.drew) rfl).farM hb1
  replace hS := HS w1 hD1
  refine hK.out _ _ (fun _ => hS) ?_
  clear hK K
  try simp only [Act.put, gA, gS, gZ, sI, sZ, sS]
  refine gr 15 (.agg (proofC ((a : Int), (n : Int), AN, s)).toArray) rfl (by kernel_rfl) (fun _ _ _ h => h) hS (fun wx h => execBuildT 47 _ rfl #[(0, .int .u8 (a : Int)), (1, .int .u32 (n : Int)), (2, .agg (row .u8 AN)), (3, .agg (row .u8 s))] (by kernel_rfl) (proofBuilt (a : Int) (n : Int) AN s hal hsl wx)) ?_
  simp only [Act.put, gA, gS, gZ, sI, sZ, sS]
  refine wpAnyG_one (i := 16) rfl (by kernel_rfl) (by kernel_rfl) (fun K hK => ?_)
  refine wp_stvE 47 _ _ rfl _ rfl (cs := proofC ((a : Int), (n : Int), AN, s)) rfl hr1 (by rw [proofC_len _ hal hsl]; exact sizeProof) (by rw [proofC_len _ hal hsl, hPZl]) (proofC_one _) ?_
  refine hK.out _ _ (fun h => absurd (show true = false from h) (by decide)) ?_
  clear hK K
  try simp only [Act.put, gA, gS, gZ, sI, sZ, sS]
  refine wpAnyG_done (by kernel_rfl) ?_ _
  have hB2 := below_setRow hB1 (show w.heap.size ≤ w.heap.size + 1 by omega) (proofC ((a : Int), (n : Int), AN, s)).toArray
  have hr2 := hr1.setRow (proofC ((a : Int), (n : Int), AN, s))
  clear hS HS hD0 hD1 hr0 hr1 hb1 hsum HSUM hB hB1
  go_wp2
  refine bodyPost_ret (results_cells (Tryz.results31) _ rfl hr2 Tryz.underlying47 rfl (by rw [proofC_len _ hal hsl]; exact sizeProof)) rfl ⟨rfl, hB2⟩
end
end Go.Proofs.YtlhajphjppjlgaaGreatDoor
