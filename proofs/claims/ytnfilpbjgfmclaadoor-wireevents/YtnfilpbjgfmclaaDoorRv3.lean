/- The reference of wire: 'ReadEvent'. (Written by mkrv3.py.) -/
import Derived.Test.YtnfilpbjgfmclaaDoorRv2
import Derived.Test.YtnfilpbjgfmclaaDoorRe6
namespace Go.Proofs.YtnfilpbjgfmclaaDoor
open Go.RowKit
set_option maxRecDepth 20000
set_option linter.unusedSimpArgs false

theorem wp_meetR {P : Program} {c : Code} {Q : Exit → Act → World → Prop} {a : Act} {w : World} (R : Act → World → Prop) (h1 : Code.wp P c (fun ex a w => match ex with | .normal => R a w | _ => False) a w) (h2 : ∀ a w, R a w → Q .normal a w) : Code.wp P c Q a w :=
  Code.wp_mono (fun e a w q => by cases e <;> first | exact h2 _ _ q | exact q.elim) h1
theorem CellsAt.far3 {w w' : World} {g : Nat} {t : TypeId} {cs : List Value} (h : CellsAt w g t cs) (hb : Below w.heap.size w w') : CellsAt w' g t cs := by
  have hl := h.lt
  unfold CellsAt at h ⊢; rw [hb.block g hl]; exact h
theorem rev_bad {z : List Int} (h : ¬ evAll z) : revB z = evZ ∧ revE z = 3 := by
  unfold revB revE
  rw [if_neg h, if_neg h]; exact ⟨rfl, rfl⟩
theorem rev_good {z : List Int} (h : evAll z) : revB z = evOf z ∧ revE z = 0 := by
  unfold revB revE
  rw [if_pos h, if_pos h]; exact ⟨rfl, rfl⟩
theorem run_cutLH (w : World) (x : Option Addr) (len cap l h : Nat) (h1 : l ≤ h) (hh : h ≤ cap) : (Instr.slice 31 (.slice x len cap) (some (.int .i64 (l : Int))) (some (.int .i64 (h : Int))) none).run Tryd.prog w = .ok (.slice (subA x cap l) (h - l) (cap - l)) w := by
  rw [run_slice_lh w 31 x len cap elemB .i64 .i64 (l : Int) (h : Int) (by omega) (by omega) (by omega), sizeU8]
  simp [sliced, subA, Result.andThen]
set_option maxHeartbeats 4000000 in
theorem refRead_odd (x : Option Addr) (n c : Nat) (z : List Int) (w : World) (hb0 : Bytes w x n c z) (hn : n ≠ 58) :
    Calls Tryd.prog 5 #[.slice x n c] w fun e w' => e = .returned (.tuple #[.agg (revB z).cells.toArray, .int .i64 (revE z)]) ∧ Below w.heap.size w w' := by
  obtain ⟨e1, e2⟩ := rev_bad (z := z) (fun h => hn (by rw [hb0.len_eq]; exact h.1))
  rw [e1, e2]
  have hni : ¬ (n : Int) = 58 := by omega
  have hle := hb0.le
  have htp := hb0.top
  have hG0 := CellsAt.new w 30 evZ.cells
  have hB0 : Below w.heap.size w (w.alloc (.cells evZ.cells.toArray 30)) := (Below.refl _ _).alloc (Nat.le_refl _) _
  have hiE := sizeEvZ evZ rfl
  have h1E := ev_one evZ
  clear e1 e2 hb0 hn
  go_enter Tryd.func5, Tryd.ntmps5
  go_upto_region 1 with fail
  refine forget (p := fun y => Code.wp _ _ _ _ y) (fun W => Below w.heap.size w W ∧ CellsAt W w.heap.size 30 evZ.cells) ⟨hB0, hG0⟩ ?_
  clear hB0 hG0
  rintro W ⟨hB0, hG0⟩
  go_wp2_with (refine wpList_stv rfl 30 _ _ rfl _ rfl (cs := evZ.cells) rfl hG0 hiE rfl h1E ?_)
  refine bodyPost_ret (results_evt Tryd.results5 _ rfl rfl (hG0.setRow evZ.cells) rfl) rfl ⟨rfl, ?_⟩
  exact below_setRow hB0 (Nat.le_refl _) _
set_option maxHeartbeats 8000000 in
theorem refRead_any (x : Option Addr) (c : Nat) (z : List Int) (w : World) (hb0 : Bytes w x 58 c z) (hz : ∀ v ∈ z, b8 v) :
    Calls Tryd.prog 5 #[.slice x 58 c] w fun e w' => e = .returned (.tuple #[.agg (revB z).cells.toArray, .int .i64 (revE z)]) ∧ Below w.heap.size w w' := by
  have hzl : z.length = 58 := hb0.len_eq.symm
  have HALL : Veil (evAll z ↔ (at1 z 43 ≤ 1 ∧ ∀ j, j < 11 → at1 z (47 + j) = 0)) := ⟨⟨fun h => ⟨h.2.1, h.2.2⟩, fun h => ⟨hzl, h.1, h.2⟩⟩⟩
  have HBAD : Veil (¬ evAll z → revB z = evZ ∧ revE z = 3) := ⟨rev_bad⟩
  have HGOOD : Veil (evAll z → revB z = evOf z ∧ revE z = 0) := ⟨rev_good⟩
  obtain ⟨UB, hUB⟩ : ∃ q, revB z = q := ⟨_, rfl⟩
  obtain ⟨UE, hUE⟩ : ∃ q, revE z = q := ⟨_, rfl⟩
  obtain ⟨OK, hOK⟩ : ∃ q, evAll z = q := ⟨_, rfl⟩
  rw [hUB, hUE, hOK] at HBAD HGOOD
  rw [hOK] at HALL
  rw [hUB, hUE]
  obtain ⟨b, off, rfl, hcl⟩ := bytes_cells hb0 (by omega)
  have hlb : b < w.heap.size := block_lt_of_cell (hcl 0 (by omega))
  have HC : Veil (∀ w', Below w.heap.size w w' → ∀ j, j < 58 → w'.cell? ⟨b, off + j, none⟩ = some (.int .u8 (at1 z j))) := ⟨fun w' h j hj => by rw [(bcell h).1 _ _ hlb]; exact hcl j hj⟩
  have hle := hb0.le
  have htp := hb0.top
  have hG0 := CellsAt.new w 30 evZ.cells
  have hB0 : Below w.heap.size w (w.alloc (.cells evZ.cells.toArray 30)) := (Below.refl _ _).alloc (Nat.le_refl _) _
  have hiE := sizeEvZ evZ rfl
  have h1E := ev_one evZ
  clear hUB hUE hOK hcl hlb
  go_enter Tryd.func5, Tryd.ntmps5
  go_upto_region 1 with fail
  refine forget (p := fun y => Code.wp _ _ _ _ y) (fun W => Below w.heap.size w W ∧ CellsAt W w.heap.size 30 evZ.cells) ⟨hB0, hG0⟩ ?_
  clear hB0 hG0
  rintro W ⟨hB0, hG0⟩
  have c43 := HC.out W hB0 43 (by omega)
  by_cases h43 : at1 z 43 ≤ 1
  rotate_left
  · obtain ⟨e1, e2⟩ := HBAD.out (fun h => h43 (HALL.out.1 h).1)
    have HE : Veil (UB = evZ ∧ UE = 3) := ⟨e1, e2⟩
    obtain ⟨A, hA⟩ : ∃ q, at1 z 43 = q := ⟨_, rfl⟩
    rw [hA] at c43 h43
    have ha : A > 1 := by omega
    clear e1 e2 hA
    go_wp2_with (refine wpList_stv rfl 30 _ _ rfl _ rfl (cs := evZ.cells) rfl hG0 hiE rfl h1E ?_)
    refine bodyPost_ret (results_evt Tryd.results5 _ rfl rfl (hG0.setRow evZ.cells) rfl) rfl ⟨by rw [HE.out.1, HE.out.2]; rfl, ?_⟩
    exact below_setRow hB0 (Nat.le_refl _) _
  have H43 : Veil (at1 z 43 ≤ 1) := ⟨h43⟩
  obtain ⟨A43, hA43⟩ : ∃ q, at1 z 43 = q := ⟨_, rfl⟩
  rw [hA43] at c43 h43
  have ha : ¬ A43 > 1 := by omega
  clear hA43
  go_upto_region 3 with fail
  clear c43 ha h43
  go_wp2_with fail
  go_loopw [4] (fun q wr => ∃ k : Nat, k ≤ 11 ∧ q = .int .i64 ((47 + k : Nat) : Int) ∧ Veil (∀ j, j < k → at1 z (47 + j) = 0) ∧ wr = W) (fun q _ => 58 - (intOf q).toNat)
  case atStart => exact ⟨0, by omega, rfl, ⟨fun j hj => by omega⟩, rfl⟩
  case round =>
    obtain ⟨k, hk, rfl, HK, rfl⟩ := hrel
    by_cases hlt : k < 11
    · have ci := HC.out wr hB0 (47 + k) (by omega)
      have hi0 : (0 : Int) ≤ ((47 + k : Nat) : Int) := by omega
      have hin : ((47 + k : Nat) : Int) < 58 := by omega
      have hwn : IntKind.i64.wrap (((47 + k : Nat) : Int) + 1) = ((47 + (k + 1) : Nat) : Int) := by rw [IntKind.wrap_i64]; omega
      by_cases h0 : at1 z (47 + k) = 0
      · rw [h0] at ci
        have HK2 : Veil (∀ j, j < k + 1 → at1 z (47 + j) = 0) := ⟨fun j hj => by
          by_cases h : j = k
          · rw [h]; exact h0
          · exact HK.out j (by omega)⟩
        obtain ⟨i, hi⟩ : ∃ q : Nat, 47 + k = q := ⟨_, rfl⟩
        have HI : Veil (47 + k = i ∧ i < 58) := ⟨hi, by omega⟩
        rw [hi] at ci hi0 hin hwn ⊢
        clear h0 HK hi
        go_wp2
        go_roundw
        case rel => exact ⟨k + 1, by omega, rfl, HK2, trivial⟩
        case measure =>
          have := HI.out
          simp [intOf]; omega
      · obtain ⟨e1, e2⟩ := HBAD.out (fun h => h0 ((HALL.out.1 h).2 k hlt))
        have HE : Veil (UB = evZ ∧ UE = 3) := ⟨e1, e2⟩
        obtain ⟨q, hq⟩ : ∃ q, at1 z (47 + k) = q := ⟨_, rfl⟩
        rw [hq] at h0 ci
        have hqb : (q == 0) = false := by simp [h0]
        obtain ⟨i, hi⟩ : ∃ q : Nat, 47 + k = q := ⟨_, rfl⟩
        rw [hi] at ci hi0 hin ⊢
        clear e1 e2 hq hi hwn HK
        go_wp2_with (refine wpList_stv rfl 30 _ _ rfl _ rfl (cs := evZ.cells) rfl hG0 hiE rfl h1E ?_)
        refine bodyPost_ret (results_evt Tryd.results5 _ rfl rfl (hG0.setRow evZ.cells) rfl) rfl ⟨by rw [HE.out.1, HE.out.2]; rfl, ?_⟩
        exact below_setRow hB0 (Nat.le_refl _) _
    · obtain rfl : k = 11 := by omega
      obtain ⟨e1, e2⟩ := HGOOD.out (HALL.out.2 ⟨H43.out, HK.out⟩)
      have HE : Veil (UB = evOf z ∧ UE = 0) := ⟨e1, e2⟩
      rw [show ((47 + 11 : Nat) : Int) = 58 from rfl]
      clear e1 e2 HK
      go_upto_region 8 with fail
      have hd0 := fun wx (h : Below w.heap.size w wx) => refDotR_any (subA (some ⟨b, off, none⟩) c 0) (c - 0) ((z.drop 0).take 5) wx ((hb0.cut 0 5 (by omega) (by omega)).below h) (fun v hv => hz v (List.mem_of_mem_drop (List.mem_of_mem_take hv)))
      have hd38 := fun wx (h : Below w.heap.size w wx) => refDotR_any (subA (some ⟨b, off, none⟩) c 38) (c - 38) ((z.drop 38).take 5) wx ((hb0.cut 38 43 (by omega) (by omega)).below h) (fun v hv => hz v (List.mem_of_mem_drop (List.mem_of_mem_take hv)))
      have sg : ∀ o j, j < 5 → at1 ((z.drop o).take 5) j = at1 z (o + j) := fun o j hj => by unfold at1; rw [List.getElem?_take_of_lt hj, List.getElem?_drop]
      have s4 : ∀ o, at4 ((z.drop o).take 5) 1 = at4 z (o + 1) := fun o => by
        unfold at4
        rw [sg o 1 (by omega), sg o (1 + 1) (by omega), sg o (1 + 2) (by omega), sg o (1 + 3) (by omega)]
      rw [sg 0 0 (by omega), s4 0] at hd0
      rw [sg 38 0 (by omega), s4 38] at hd38
      have hct0 : ∀ wx : World, (Instr.slice 31 (.slice (some ⟨b, off, none⟩) 58 c) (some (.int .i64 0)) (some (.int .i64 5)) none).run Tryd.prog wx = .ok (.slice (subA (some ⟨b, off, none⟩) c 0) 5 (c - 0)) wx := fun wx => run_cutLH wx _ 58 c 0 5 (by omega) (by omega)
      have hct38 : ∀ wx : World, (Instr.slice 31 (.slice (some ⟨b, off, none⟩) 58 c) (some (.int .i64 38)) (some (.int .i64 43)) none).run Tryd.prog wx = .ok (.slice (subA (some ⟨b, off, none⟩) c 38) 5 (c - 38)) wx := fun wx => run_cutLH wx _ 58 c 38 43 (by omega) (by omega)
      have HKS : Veil (∀ w', Below w.heap.size w w' → w'.cell? ⟨b, off + 37, none⟩ = some (.int .u8 (at1 z 37)) ∧ w'.cell? ⟨b, off + 43, none⟩ = some (.int .u8 (at1 z 43)) ∧ w'.cell? ⟨b, off + 44, none⟩ = some (.int .u8 (at1 z 44)) ∧ w'.cell? ⟨b, off + 45, none⟩ = some (.int .u8 (at1 z 45)) ∧ w'.cell? ⟨b, off + 46, none⟩ = some (.int .u8 (at1 z 46))) := ⟨fun w' h => ⟨HC.out w' h 37 (by omega), HC.out w' h 43 (by omega), HC.out w' h 44 (by omega), HC.out w' h 45 (by omega), HC.out w' h 46 (by omega)⟩⟩
      have HFULL : Veil (∀ P : List Int, P = pastZ z → (⟨at1 z 0, at4 z 1, P, at1 z 37, at1 z 38, at4 z 39, at1 z 43 == 1, at1 z 44, at1 z 45, at1 z 46⟩ : Ev) = UB) := ⟨fun P hP => by rw [HE.out.1, hP]; rfl⟩
      obtain ⟨y0, hy0⟩ : ∃ q, subA (some ⟨b, off, none⟩) c 0 = q := ⟨_, rfl⟩
      obtain ⟨y38, hy38⟩ : ∃ q, subA (some ⟨b, off, none⟩) c 38 = q := ⟨_, rfl⟩
      rw [hy0] at hct0 hd0
      rw [hy38] at hct38 hd38
      obtain ⟨a0, ha0⟩ : ∃ q, at1 z (0 + 0) = q := ⟨_, rfl⟩
      obtain ⟨s0, hs0⟩ : ∃ q, at4 z (0 + 1) = q := ⟨_, rfl⟩
      obtain ⟨a2, ha2⟩ : ∃ q, at1 z (38 + 0) = q := ⟨_, rfl⟩
      obtain ⟨s2, hs2⟩ : ∃ q, at4 z (38 + 1) = q := ⟨_, rfl⟩
      rw [ha0, hs0] at hd0
      rw [ha2, hs2] at hd38
      have ha0' : at1 z 0 = a0 := ha0
      have hs0' : at4 z 1 = s0 := hs0
      have ha2' : at1 z 38 = a2 := ha2
      have hs2' : at4 z 39 = s2 := hs2
      obtain ⟨a1, ha1⟩ : ∃ q, at1 z 37 = q := ⟨_, rfl⟩
      obtain ⟨a3, ha3⟩ : ∃ q, at1 z 43 = q := ⟨_, rfl⟩
      obtain ⟨a4, ha4⟩ : ∃ q, at1 z 44 = q := ⟨_, rfl⟩
      obtain ⟨a5, ha5⟩ : ∃ q, at1 z 45 = q := ⟨_, rfl⟩
      obtain ⟨a6, ha6⟩ : ∃ q, at1 z 46 = q := ⟨_, rfl⟩
      rw [ha1, ha3, ha4, ha5, ha6] at HKS
      rw [ha0', hs0', ha1, ha2', hs2', ha3, ha4, ha5, ha6] at HFULL
      obtain ⟨EV0, hEV0⟩ : ∃ q, (⟨a0, s0, List.replicate 8 0, a1, a2, s2, a3 == 1, a4, a5, a6⟩ : Ev) = q := ⟨_, rfl⟩
      have HEV0 : Veil (EV0 = (⟨a0, s0, List.replicate 8 0, a1, a2, s2, a3 == 1, a4, a5, a6⟩ : Ev)) := ⟨hEV0.symm⟩
      have hiV : (Tryd.prog.info? 30).map (·.size) = some EV0.cells.length := sizeEvZ EV0 (by rw [← hEV0]; rfl)
      have h1V := ev_one EV0
      have hlV : evZ.cells.length = EV0.cells.length := by rw [ev_len EV0 (by rw [← hEV0]; rfl)]; rfl
      replace hd0 : ∀ wx, Below w.heap.size w wx → Calls Tryd.prog 11 #[.slice y0 5 (c - 0)] wx fun e w' => e = .returned (.agg #[.int .u8 a0, .int .u32 s0]) ∧ Below wx.heap.size wx w' := hd0
      replace hd38 : ∀ wx, Below w.heap.size w wx → Calls Tryd.prog 11 #[.slice y38 5 (c - 38)] wx fun e w' => e = .returned (.agg #[.int .u8 a2, .int .u32 s2]) ∧ Below wx.heap.size wx w' := hd38
      clear ha0 hs0 ha2 hs2 ha0' hs0' ha2' hs2' ha1 ha3 ha4 ha5 ha6 hy0 hy38 sg s4 hEV0
      refine wp_meetR (fun a U => ∃ G t3 u7 u8 u9 u10 u11 u12 u13 u14 u15 u16 u17 u18 u19 u20 u21 u22 u23 u24 u25 u26 u27 u28 u29 u30 u31 u32 u33 u34 u35 u36 u37 u38 u39 u40 u41 u42 u43 u44 u45 u46 u47 u48 u49, a = ⟨#[.slice (some ⟨b, off, none⟩) 58 c, undef, .pointer (some ⟨w.heap.size, 0, none⟩), t3, .int .i64 58, .pointer (some ⟨G, 0, none⟩), undef, u7, u8, u9, u10, u11, u12, u13, u14, u15, u16, u17, u18, u19, u20, u21, u22, u23, u24, u25, u26, u27, u28, u29, u30, u31, u32, u33, u34, u35, u36, u37, u38, u39, u40, u41, u42, u43, u44, u45, u46, u47, u48, u49, undef, undef, undef, undef, undef, undef, undef, undef, undef, undef, undef, undef, undef, undef, undef, undef, undef], []⟩ ∧ Below w.heap.size w U ∧ CellsAt U w.heap.size 30 evZ.cells ∧ CellsAt U G 30 EV0.cells ∧ w.heap.size < G) ?_ ?_
      · refine wp_region_gate (fun w' => w'.cell? ⟨b, off + 37, none⟩ = some (.int .u8 a1) ∧ w'.cell? ⟨b, off + 43, none⟩ = some (.int .u8 a3) ∧ w'.cell? ⟨b, off + 44, none⟩ = some (.int .u8 a4) ∧ w'.cell? ⟨b, off + 45, none⟩ = some (.int .u8 a5) ∧ w'.cell? ⟨b, off + 46, none⟩ = some (.int .u8 a6)) 24 (by kernel_rfl) ?_
        obtain ⟨D0, hD0⟩ : ∃ q, wr.drew = q := ⟨_, rfl⟩
        have hb1 : Below wr.heap.size wr D0 := by rw [← hD0]; exact (Below.refl _ _).drew
        rw [hD0]
        have hBD0 := hB0.trans (hb1.mono hB0.size)
        have hGD0 := hG0.far3 hb1
        clear hD0 hb1 hB0 hG0
        have hS := HKS.out _ hBD0
        refine wpAnyG_any (i := 0) (v := ?_) rfl (by kernel_rfl) (by kernel_rfl) (by kernel_rfl) (fun _ _ _ h => h) (by kernel_rfl) (fun _ => hS) (by kernel_rfl) ?_ ?_
        rotate_left
        · intro _; go_simp; try with_reducible rfl
        simp only [Act.put, List.setIfInBounds_toArray, List.set_cons_zero, List.set_cons_succ]
        refine wpAnyG_any (i := 1) (v := ?_) rfl (by kernel_rfl) (by kernel_rfl) (by kernel_rfl) (fun _ _ _ h => h) (by kernel_rfl) (fun _ => hS) (by kernel_rfl) ?_ ?_
        rotate_left
        · intro _; go_simp; try with_reducible rfl
        simp only [Act.put, List.setIfInBounds_toArray, List.set_cons_zero, List.set_cons_succ]
        refine wpAnyG_any (i := 3) (v := ?_) rfl (by kernel_rfl) (by kernel_rfl) (by kernel_rfl) (fun _ _ _ h => h) (by kernel_rfl) (fun _ => hS) (by kernel_rfl) ?_ ?_
        rotate_left
        · intro _; go_simp; try with_reducible rfl
        simp only [Act.put, List.setIfInBounds_toArray, List.set_cons_zero, List.set_cons_succ]
        refine wpAnyG_any (i := 4) (v := ?_) rfl (by kernel_rfl) (by kernel_rfl) (by kernel_rfl) (fun _ _ _ h => h) (by kernel_rfl) (fun _ => hS) (by kernel_rfl) ?_ ?_
        rotate_left
        · intro _; go_simp; try with_reducible rfl
        simp only [Act.put, List.setIfInBounds_toArray, List.set_cons_zero, List.set_cons_succ]
        refine wpAnyG_read (i := 5) (v := ?_) rfl (by kernel_rfl) (by kernel_rfl) (by kernel_rfl) (fun _ _ _ h => h) (by kernel_rfl) (by kernel_rfl) (by kernel_rfl) hS (by kernel_rfl) ?_ ?_
        rotate_left
        · intro wx hSw; go_split_ands; go_simp; try with_reducible rfl
        simp only [Act.put, List.setIfInBounds_toArray, List.set_cons_zero, List.set_cons_succ]
        refine wpAnyG_any (i := 6) (v := ?_) rfl (by kernel_rfl) (by kernel_rfl) (by kernel_rfl) (fun _ _ _ h => h) (by kernel_rfl) (fun _ => hS) (by kernel_rfl) ?_ ?_
        rotate_left
        · intro _; go_simp; try with_reducible rfl
        simp only [Act.put, List.setIfInBounds_toArray, List.set_cons_zero, List.set_cons_succ]
        refine wpAnyG_any (i := 7) (v := ?_) rfl (by kernel_rfl) (by kernel_rfl) (by kernel_rfl) (fun _ _ _ h => h) (by kernel_rfl) (fun _ => hS) (by kernel_rfl) ?_ ?_
        rotate_left
        · intro _; go_simp; try with_reducible rfl
        simp only [Act.put, List.setIfInBounds_toArray, List.set_cons_zero, List.set_cons_succ]
        refine wpAnyG_any (i := 9) (v := ?_) rfl (by kernel_rfl) (by kernel_rfl) (by kernel_rfl) (fun _ _ _ h => h) (by kernel_rfl) (fun _ => hS) (by kernel_rfl) ?_ ?_
        rotate_left
        · intro _; go_simp; try with_reducible rfl
        simp only [Act.put, List.setIfInBounds_toArray, List.set_cons_zero, List.set_cons_succ]
        refine wpAnyG_any (i := 10) (v := ?_) rfl (by kernel_rfl) (by kernel_rfl) (by kernel_rfl) (fun _ _ _ h => h) (by kernel_rfl) (fun _ => hS) (by kernel_rfl) ?_ ?_
        rotate_left
        · intro _; go_simp; try with_reducible rfl
        simp only [Act.put, List.setIfInBounds_toArray, List.set_cons_zero, List.set_cons_succ]
        refine wpAnyG_read (i := 11) (v := ?_) rfl (by kernel_rfl) (by kernel_rfl) (by kernel_rfl) (fun _ _ _ h => h) (by kernel_rfl) (by kernel_rfl) (by kernel_rfl) hS (by kernel_rfl) ?_ ?_
        rotate_left
        · intro wx hSw; go_split_ands; go_simp; try with_reducible rfl
        simp only [Act.put, List.setIfInBounds_toArray, List.set_cons_zero, List.set_cons_succ]
        refine wpAnyG_any (i := 12) (v := ?_) rfl (by kernel_rfl) (by kernel_rfl) (by kernel_rfl) (fun _ _ _ h => h) (by kernel_rfl) (fun _ => hS) (by kernel_rfl) ?_ ?_
        rotate_left
        · intro _; go_simp; try with_reducible rfl
        simp only [Act.put, List.setIfInBounds_toArray, List.set_cons_zero, List.set_cons_succ]
        refine wpAnyG_any (i := 13) (v := ?_) rfl (by kernel_rfl) (by kernel_rfl) (by kernel_rfl) (fun _ _ _ h => h) (by kernel_rfl) (fun _ => hS) (by kernel_rfl) ?_ ?_
        rotate_left
        · intro _; go_simp; try with_reducible rfl
        simp only [Act.put, List.setIfInBounds_toArray, List.set_cons_zero, List.set_cons_succ]
        refine wpAnyG_any (i := 14) (v := ?_) rfl (by kernel_rfl) (by kernel_rfl) (by kernel_rfl) (fun _ _ _ h => h) (by kernel_rfl) (fun _ => hS) (by kernel_rfl) ?_ ?_
        rotate_left
        · intro _; go_simp; try with_reducible rfl
        simp only [Act.put, List.setIfInBounds_toArray, List.set_cons_zero, List.set_cons_succ]
        refine wpAnyG_read (i := 15) (v := ?_) rfl (by kernel_rfl) (by kernel_rfl) (by kernel_rfl) (fun _ _ _ h => h) (by kernel_rfl) (by kernel_rfl) (by kernel_rfl) hS (by kernel_rfl) ?_ ?_
        rotate_left
        · intro wx hSw; go_split_ands; go_simp; try with_reducible rfl
        simp only [Act.put, List.setIfInBounds_toArray, List.set_cons_zero, List.set_cons_succ]
        refine wpAnyG_any (i := 16) (v := ?_) rfl (by kernel_rfl) (by kernel_rfl) (by kernel_rfl) (fun _ _ _ h => h) (by kernel_rfl) (fun _ => hS) (by kernel_rfl) ?_ ?_
        rotate_left
        · intro _; go_simp; try with_reducible rfl
        simp only [Act.put, List.setIfInBounds_toArray, List.set_cons_zero, List.set_cons_succ]
        refine wpAnyG_any (i := 17) (v := ?_) rfl (by kernel_rfl) (by kernel_rfl) (by kernel_rfl) (fun _ _ _ h => h) (by kernel_rfl) (fun _ => hS) (by kernel_rfl) ?_ ?_
        rotate_left
        · intro _; go_simp; try with_reducible rfl
        simp only [Act.put, List.setIfInBounds_toArray, List.set_cons_zero, List.set_cons_succ]
        refine wpAnyG_read (i := 18) (v := ?_) rfl (by kernel_rfl) (by kernel_rfl) (by kernel_rfl) (fun _ _ _ h => h) (by kernel_rfl) (by kernel_rfl) (by kernel_rfl) hS (by kernel_rfl) ?_ ?_
        rotate_left
        · intro wx hSw; go_split_ands; go_simp; try with_reducible rfl
        simp only [Act.put, List.setIfInBounds_toArray, List.set_cons_zero, List.set_cons_succ]
        refine wpAnyG_any (i := 19) (v := ?_) rfl (by kernel_rfl) (by kernel_rfl) (by kernel_rfl) (fun _ _ _ h => h) (by kernel_rfl) (fun _ => hS) (by kernel_rfl) ?_ ?_
        rotate_left
        · intro _; go_simp; try with_reducible rfl
        simp only [Act.put, List.setIfInBounds_toArray, List.set_cons_zero, List.set_cons_succ]
        refine wpAnyG_any (i := 20) (v := ?_) rfl (by kernel_rfl) (by kernel_rfl) (by kernel_rfl) (fun _ _ _ h => h) (by kernel_rfl) (fun _ => hS) (by kernel_rfl) ?_ ?_
        rotate_left
        · intro _; go_simp; try with_reducible rfl
        simp only [Act.put, List.setIfInBounds_toArray, List.set_cons_zero, List.set_cons_succ]
        refine wpAnyG_read (i := 21) (v := ?_) rfl (by kernel_rfl) (by kernel_rfl) (by kernel_rfl) (fun _ _ _ h => h) (by kernel_rfl) (by kernel_rfl) (by kernel_rfl) hS (by kernel_rfl) ?_ ?_
        rotate_left
        · intro wx hSw; go_split_ands; go_simp; try with_reducible rfl
        simp only [Act.put, List.setIfInBounds_toArray, List.set_cons_zero, List.set_cons_succ]
        refine wpAnyG_two (i := 2) (j := 23) rfl rfl (by kernel_rfl) (by kernel_rfl) (by kernel_rfl) (fun K hK => ?_) (fun K hK => ?_)
        · skip
          go_wp2_with (go_at_call 11; refine (hd0 _ hBD0).mono ?_; rintro e U1 ⟨rfl, hbU1⟩)
          have hBU1 := hBD0.trans (hbU1.mono hBD0.size)
          have hGU1 := hGD0.far3 hbU1
          replace hS := HKS.out _ hBU1
          refine hK.out _ _ (fun _ => hS) ?_
          clear hK K
          refine wpAnyG_two (i := 8) (j := 23) rfl rfl (by kernel_rfl) (by kernel_rfl) (by kernel_rfl) (fun K hK => ?_) (fun K hK => ?_)
          · skip
            go_wp2_with (go_at_call 11; refine (hd38 _ hBU1).mono ?_; rintro e U2 ⟨rfl, hbU2⟩)
            have hBU2 := hBU1.trans (hbU2.mono hBU1.size)
            have hGU2 := hGU1.far3 hbU2
            replace hS := HKS.out _ hBU2
            refine hK.out _ _ (fun _ => hS) ?_
            clear hK K
            refine wpAnyG_any (i := 22) (v := ?_) rfl (by kernel_rfl) (by kernel_rfl) (by kernel_rfl) (fun _ _ _ h => h) (by kernel_rfl) (fun _ => hS) (by kernel_rfl) ?_ ?_
            rotate_left
            · intro _; go_simp; try with_reducible rfl
            simp only [Act.put, List.setIfInBounds_toArray, List.set_cons_zero, List.set_cons_succ]
            refine wpAnyG_one (i := 23) rfl (by kernel_rfl) (by kernel_rfl) (fun K hK => ?_)
            go_simp
            have hBU3 := hBU2.alloc hBU2.size (.cells evZ.cells.toArray 30)
            have hGU3 := hGU2.alloc (.cells evZ.cells.toArray 30)
            have hKU3 := CellsAt.new U2 30 evZ.cells
            have hlU3 := hGU2.lt
            replace hS := HKS.out _ hBU3
            refine hK.out _ _ (fun _ => hS) ?_
            clear hK K
            obtain ⟨U3, hUU3⟩ : ∃ q, U2.alloc (.cells evZ.cells.toArray 30) = q := ⟨_, rfl⟩
            have hcU3 : U2.alloc (.cells #[.int .u8 0, .int .u32 0, .int .u32 0, .int .u32 0, .int .u32 0, .int .u32 0, .int .u32 0, .int .u32 0, .int .u32 0, .int .u32 0, .int .u8 0, .int .u8 0, .int .u32 0, .bool false, .int .u8 0, .int .u8 0, .int .u8 0] 30) = U3 := hUU3
            obtain ⟨g3, hgU3⟩ : ∃ q, U2.heap.size = q := ⟨_, rfl⟩
            rw [hUU3] at hBU3 hGU3 hKU3
            rw [hgU3] at hKU3 hlU3
            rw [hcU3, hgU3]
            clear hUU3 hgU3 hcU3
            refine wpAnyG_one (i := 24) rfl (by kernel_rfl) (by kernel_rfl) (fun K hK => ?_)
            refine wp_stvG2 30 _ _ rfl _ rfl (cs := EV0.cells) (by rw [HEV0.out]; rfl) hKU3 hiV hlV h1V ?_
            refine hK.out _ _ (fun h => absurd (show true = false from h) (by decide)) ?_
            clear hK K
            refine wpAnyG_done (by kernel_rfl) ?_ _
            exact ⟨g3, _, _, _, _, _, _, _, _, _, _, _, _, _, _, _, _, _, _, _, _, _, _, _, _, _, _, _, _, _, _, _, _, _, _, _, _, _, _, _, _, _, _, _, _, rfl, below_setRow hBU3 (by omega) _, hGU3.setRowOther2 _ (by omega), hKU3.setRow _, by omega⟩
          · skip
            go_simp
            have hBU4 := hBU1.alloc hBU1.size (.cells evZ.cells.toArray 30)
            have hGU4 := hGU1.alloc (.cells evZ.cells.toArray 30)
            have hKU4 := CellsAt.new U1 30 evZ.cells
            have hlU4 := hGU1.lt
            replace hS := HKS.out _ hBU4
            refine hK.out _ _ (fun _ => hS) ?_
            clear hK K
            obtain ⟨U4, hUU4⟩ : ∃ q, U1.alloc (.cells evZ.cells.toArray 30) = q := ⟨_, rfl⟩
            have hcU4 : U1.alloc (.cells #[.int .u8 0, .int .u32 0, .int .u32 0, .int .u32 0, .int .u32 0, .int .u32 0, .int .u32 0, .int .u32 0, .int .u32 0, .int .u32 0, .int .u8 0, .int .u8 0, .int .u32 0, .bool false, .int .u8 0, .int .u8 0, .int .u8 0] 30) = U4 := hUU4
            obtain ⟨g4, hgU4⟩ : ∃ q, U1.heap.size = q := ⟨_, rfl⟩
            rw [hUU4] at hBU4 hGU4 hKU4
            rw [hgU4] at hKU4 hlU4
            rw [hcU4, hgU4]
            clear hUU4 hgU4 hcU4
            refine wpAnyG_one (i := 8) rfl (by kernel_rfl) (by kernel_rfl) (fun K hK => ?_)
            go_wp2_with (go_at_call 11; refine (hd38 _ hBU4).mono ?_; rintro e U5 ⟨rfl, hbU5⟩)
            have hBU5 := hBU4.trans (hbU5.mono hBU4.size)
            have hGU5 := hGU4.far3 hbU5
            have hKU5 := hKU4.far3 hbU5
            replace hS := HKS.out _ hBU5
            refine hK.out _ _ (fun _ => hS) ?_
            clear hK K
            refine wpAnyG_any (i := 22) (v := ?_) rfl (by kernel_rfl) (by kernel_rfl) (by kernel_rfl) (fun _ _ _ h => h) (by kernel_rfl) (fun _ => hS) (by kernel_rfl) ?_ ?_
            rotate_left
            · intro _; go_simp; try with_reducible rfl
            simp only [Act.put, List.setIfInBounds_toArray, List.set_cons_zero, List.set_cons_succ]
            refine wpAnyG_one (i := 24) rfl (by kernel_rfl) (by kernel_rfl) (fun K hK => ?_)
            refine wp_stvG2 30 _ _ rfl _ rfl (cs := EV0.cells) (by rw [HEV0.out]; rfl) hKU5 hiV hlV h1V ?_
            refine hK.out _ _ (fun h => absurd (show true = false from h) (by decide)) ?_
            clear hK K
            refine wpAnyG_done (by kernel_rfl) ?_ _
            exact ⟨g4, _, _, _, _, _, _, _, _, _, _, _, _, _, _, _, _, _, _, _, _, _, _, _, _, _, _, _, _, _, _, _, _, _, _, _, _, _, _, _, _, _, _, _, _, rfl, below_setRow hBU5 (by omega) _, hGU5.setRowOther2 _ (by omega), hKU5.setRow _, by omega⟩
        · skip
          go_simp
          have hBU6 := hBD0.alloc hBD0.size (.cells evZ.cells.toArray 30)
          have hGU6 := hGD0.alloc (.cells evZ.cells.toArray 30)
          have hKU6 := CellsAt.new D0 30 evZ.cells
          have hlU6 := hGD0.lt
          replace hS := HKS.out _ hBU6
          refine hK.out _ _ (fun _ => hS) ?_
          clear hK K
          obtain ⟨U6, hUU6⟩ : ∃ q, D0.alloc (.cells evZ.cells.toArray 30) = q := ⟨_, rfl⟩
          have hcU6 : D0.alloc (.cells #[.int .u8 0, .int .u32 0, .int .u32 0, .int .u32 0, .int .u32 0, .int .u32 0, .int .u32 0, .int .u32 0, .int .u32 0, .int .u32 0, .int .u8 0, .int .u8 0, .int .u32 0, .bool false, .int .u8 0, .int .u8 0, .int .u8 0] 30) = U6 := hUU6
          obtain ⟨g6, hgU6⟩ : ∃ q, D0.heap.size = q := ⟨_, rfl⟩
          rw [hUU6] at hBU6 hGU6 hKU6
          rw [hgU6] at hKU6 hlU6
          rw [hcU6, hgU6]
          clear hUU6 hgU6 hcU6
          refine wpAnyG_one (i := 2) rfl (by kernel_rfl) (by kernel_rfl) (fun K hK => ?_)
          go_wp2_with (go_at_call 11; refine (hd0 _ hBU6).mono ?_; rintro e U7 ⟨rfl, hbU7⟩)
          have hBU7 := hBU6.trans (hbU7.mono hBU6.size)
          have hGU7 := hGU6.far3 hbU7
          have hKU7 := hKU6.far3 hbU7
          replace hS := HKS.out _ hBU7
          refine hK.out _ _ (fun _ => hS) ?_
          clear hK K
          refine wpAnyG_one (i := 8) rfl (by kernel_rfl) (by kernel_rfl) (fun K hK => ?_)
          go_wp2_with (go_at_call 11; refine (hd38 _ hBU7).mono ?_; rintro e U8 ⟨rfl, hbU8⟩)
          have hBU8 := hBU7.trans (hbU8.mono hBU7.size)
          have hGU8 := hGU7.far3 hbU8
          have hKU8 := hKU7.far3 hbU8
          replace hS := HKS.out _ hBU8
          refine hK.out _ _ (fun _ => hS) ?_
          clear hK K
          refine wpAnyG_any (i := 22) (v := ?_) rfl (by kernel_rfl) (by kernel_rfl) (by kernel_rfl) (fun _ _ _ h => h) (by kernel_rfl) (fun _ => hS) (by kernel_rfl) ?_ ?_
          rotate_left
          · intro _; go_simp; try with_reducible rfl
          simp only [Act.put, List.setIfInBounds_toArray, List.set_cons_zero, List.set_cons_succ]
          refine wpAnyG_one (i := 24) rfl (by kernel_rfl) (by kernel_rfl) (fun K hK => ?_)
          refine wp_stvG2 30 _ _ rfl _ rfl (cs := EV0.cells) (by rw [HEV0.out]; rfl) hKU8 hiV hlV h1V ?_
          refine hK.out _ _ (fun h => absurd (show true = false from h) (by decide)) ?_
          clear hK K
          refine wpAnyG_done (by kernel_rfl) ?_ _
          exact ⟨g6, _, _, _, _, _, _, _, _, _, _, _, _, _, _, _, _, _, _, _, _, _, _, _, _, _, _, _, _, _, _, _, _, _, _, _, _, _, _, _, _, _, _, _, _, rfl, below_setRow hBU8 (by omega) _, hGU8.setRowOther2 _ (by omega), hKU8.setRow _, by omega⟩
      rintro a U ⟨G, t3, u7, u8, u9, u10, u11, u12, u13, u14, u15, u16, u17, u18, u19, u20, u21, u22, u23, u24, u25, u26, u27, u28, u29, u30, u31, u32, u33, u34, u35, u36, u37, u38, u39, u40, u41, u42, u43, u44, u45, u46, u47, u48, u49, rfl, hB1, hG1, hK1, hltG⟩
      clear hB0 hG0 hd0 hd38 hct0 hct38 HKS
      rw [HEV0.out] at hK1
      have HPG := Veil.mk (fun j hj => pastZ_get z j hj)
      have hPL := pastZ_length z
      obtain ⟨P, hP⟩ : ∃ q, pastZ z = q := ⟨_, rfl⟩
      have HFU : Veil ((⟨a0, s0, P, a1, a2, s2, a3 == 1, a4, a5, a6⟩ : Ev) = UB) := ⟨HFULL.out P hP.symm⟩
      rw [hP] at HPG hPL
      have HPS : Veil (∀ j, j < 8 → (P.take j ++ List.replicate (8 - j) 0).set j (P[j]?.getD 0) = P.take (j + 1) ++ List.replicate (8 - (j + 1)) 0) := ⟨fun j hj => past_set P hPL j hj⟩
      have HPL : Veil (∀ j, j ≤ 8 → (P.take j ++ List.replicate (8 - j) 0).length = 8) := ⟨fun j hj => by rw [List.length_append, List.length_take, List.length_replicate]; omega⟩
      have HPL8 : Veil (P.length = 8) := ⟨hPL⟩
      have s5 : ∀ o, at4 ((z.drop o).take 4) 0 = at4 z o := fun o => by
        have q : ∀ j, j < 4 → at1 ((z.drop o).take 4) j = at1 z (o + j) := fun j hj => by unfold at1; rw [List.getElem?_take_of_lt hj, List.getElem?_drop]
        unfold at4
        rw [q 0 (by omega), q (0 + 1) (by omega), q (0 + 2) (by omega), q (0 + 3) (by omega)]
        rfl
      have HN : Veil (∀ (j : Nat) wx, j < 8 → Below w.heap.size w wx → Calls Tryd.prog 12 #[.slice (subA (some ⟨b, off, none⟩) c (5 + 4 * j)) 4 (c - (5 + 4 * j))] wx fun e w' => e = .returned (.int .u32 (at4 z (5 + 4 * j))) ∧ Below wx.heap.size wx w') := ⟨fun j wx hj h => by
        have hcb := (hb0.cut (5 + 4 * j) (5 + 4 * j + 4) (by omega) (by omega)).below h
        have e4 : 5 + 4 * j + 4 - (5 + 4 * j) = 4 := by omega
        rw [e4] at hcb
        have := refNum_any (subA (some ⟨b, off, none⟩) c (5 + 4 * j)) (c - (5 + 4 * j)) ((z.drop (5 + 4 * j)).take 4) wx hcb (fun v hv => hz v (List.mem_of_mem_drop (List.mem_of_mem_take hv)))
        rw [s5] at this
        exact this⟩
      have HCT : Veil (∀ (j : Nat) (wx : World), j < 8 → (Instr.slice 31 (.slice (some ⟨b, off, none⟩) 58 c) (some (.int .i64 ((5 + 4 * j : Nat) : Int))) (some (.int .i64 ((9 + 4 * j : Nat) : Int))) none).run Tryd.prog wx = .ok (.slice (subA (some ⟨b, off, none⟩) c (5 + 4 * j)) 4 (c - (5 + 4 * j))) wx) := ⟨fun j wx hj => by
        have := run_cutLH wx (some ⟨b, off, none⟩) 58 c (5 + 4 * j) (9 + 4 * j) (by omega) (by omega)
        rw [this, show 9 + 4 * j - (5 + 4 * j) = 4 by omega]⟩
      clear hP s5 hPL hb0 hz HALL HBAD HGOOD HC H43 HEV0 HFULL hiV h1V hlV
      go_wp2_with fail
      go_loopw [6] (fun q wr => ∃ j : Nat, j ≤ 8 ∧ q = .int .i64 j ∧ Below w.heap.size w wr ∧ CellsAt wr w.heap.size 30 evZ.cells ∧ CellsAt wr G 30 (⟨a0, s0, P.take j ++ List.replicate (8 - j) 0, a1, a2, s2, a3 == 1, a4, a5, a6⟩ : Ev).cells) (fun q _ => 8 - (intOf q).toNat)
      case atStart => exact ⟨0, by omega, rfl, hB1, hG1, hK1⟩
      case round =>
        clear hB1 hG1 hK1
        obtain ⟨j, hj, rfl, hB1, hG1, hK1⟩ := hrel
        by_cases hlt8 : j < 8
        · have hst := HPS.out j hlt8
          have hlen := HPL.out j (by omega)
          rw [HPG.out j hlt8] at hst
          have hnm := fun wx h => HN.out j wx hlt8 h
          have hct := fun wx => HCT.out j wx hlt8
          obtain ⟨V, hV⟩ : ∃ q, at4 z (5 + 4 * j) = q := ⟨_, rfl⟩
          rw [hV] at hnm hst
          obtain ⟨Y, hY⟩ : ∃ q, subA (some ⟨b, off, none⟩) c (5 + 4 * j) = q := ⟨_, rfl⟩
          obtain ⟨C, hC⟩ : ∃ q, c - (5 + 4 * j) = q := ⟨_, rfl⟩
          rw [hY, hC] at hnm hct
          have hj0 : (0 : Int) ≤ (j : Int) := by omega
          have hj8 : (j : Int) < 8 := by omega
          obtain ⟨m, hm⟩ : ∃ q : Nat, 4 * j = q := ⟨_, rfl⟩
          obtain ⟨l, hl⟩ : ∃ q : Nat, 5 + 4 * j = q := ⟨_, rfl⟩
          obtain ⟨h9, hh9⟩ : ∃ q : Nat, 9 + 4 * j = q := ⟨_, rfl⟩
          have hw1 : IntKind.i64.wrap (4 * (j : Int)) = (m : Int) := by rw [IntKind.wrap_i64]; omega
          have hw2 : IntKind.i64.wrap (5 + (m : Int)) = (l : Int) := by rw [IntKind.wrap_i64]; omega
          have hw3 : IntKind.i64.wrap (9 + (m : Int)) = (h9 : Int) := by rw [IntKind.wrap_i64]; omega
          rw [hl, hh9] at hct
          obtain ⟨Q, hQ⟩ : ∃ q, P.take j ++ List.replicate (8 - j) 0 = q := ⟨_, rfl⟩
          rw [hQ] at hst hlen hK1
          have HST : Veil (Q.set j V = P.take (j + 1) ++ List.replicate (8 - (j + 1)) 0) := ⟨hst⟩
          have HQL : Veil (Q.length = 8) := ⟨hlen⟩
          clear hV hst hQ hlen hY hC hm hl hh9
          go_wp2_with (go_at_call 12; refine (hnm _ hB1).mono ?_; rintro e w1 ⟨rfl, hb1⟩; have hH1 := hK1.far3 hb1; have cj := hH1.cell (2 + j); rw [ev_cell2 _ HQL.out j hlt8] at cj; have fj := hH1.frozen2 (2 + j))
          have hB2 := hB1.trans (hb1.mono hB1.size)
          have hG2 := hG1.far3 hb1
          have hH2 := hH1.set2 (2 + j) (.int .u32 V)
          rw [ev_setPast _ HQL.out j hlt8 V] at hH2
          go_roundw
          case rel => exact ⟨j + 1, by omega, by go_num, hB2.setCell (by show w.heap.size ≤ G; omega) _, hG2.setOther2 _ _ (by show w.heap.size ≠ G; omega), by rw [← HST.out]; exact hH2⟩
          case measure => simp [intOf]; omega
        · obtain rfl : j = 8 := by omega
          have hP8 : P.take 8 ++ List.replicate (8 - 8) 0 = P := by rw [Nat.sub_self, List.replicate_zero, List.append_nil, List.take_of_length_le (by have := HPL8.out; omega)]
          rw [hP8] at hK1
          obtain ⟨EV, hEV⟩ : ∃ q, (⟨a0, s0, P, a1, a2, s2, a3 == 1, a4, a5, a6⟩ : Ev) = q := ⟨_, rfl⟩
          have hel : EV.past.length = 8 := by rw [← hEV]; exact HPL8.out
          rw [hEV] at hK1
          have HUB : Veil (EV = UB ∧ UE = 0) := ⟨by rw [← hEV]; exact HFU.out, HE.out.2⟩
          have HEL : Veil (EV.past.length = 8) := ⟨hel⟩
          have hiV := sizeEvZ EV hel
          have h1V := ev_one EV
          have hlV : evZ.cells.length = EV.cells.length := by rw [ev_len EV hel]; rfl
          have rE := hK1.whole2
          clear hP8 HPS HPL HPG HN HCT hEV hel
          go_wp2_with (first
            | (refine wpList_ldv rfl 30 _ rfl _ _ rfl EV.cells rE Tryd.underlying30 rfl hiV ?_)
            | (refine wpList_stv rfl 30 _ _ rfl _ rfl rfl hG1 hiV hlV h1V ?_))
          refine bodyPost_ret (results_evt Tryd.results5 _ rfl rfl (hG1.setRow EV.cells) HEL.out) rfl ⟨by rw [← HUB.out.1, HUB.out.2]; rfl, ?_⟩
          exact below_setRow hB1 (Nat.le_refl _) _
end Go.Proofs.YtnfilpbjgfmclaaDoor
