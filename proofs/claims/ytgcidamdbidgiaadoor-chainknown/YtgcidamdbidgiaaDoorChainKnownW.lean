/- The statement ChainKnown, walked. -/
import Derived.Test.YtgcidamdbidgiaaDoorHkn
namespace Go.Proofs.YtgcidamdbidgiaaDoor
open Go.RowKit
set_option maxRecDepth 20000
set_option linter.unusedSimpArgs false

theorem meetU {a : Act} {F : (Nat → Value) → Act} {P : Prop} (h : a = F (fun i => a.tmps.getD i undef)) (hp : P) : ∃ u, a = F u ∧ P := ⟨_, h, hp⟩
set_option maxHeartbeats 64000000 in
theorem chainKnown_walk (x : Option Addr) (len cap : Nat) (ds : List Dc) (F : Fr) (xw : Option Addr) (lw cw : Nat) (ws : List Wp) (xb : Option Addr) (lb cb : Nat) (body : List Int) (w : World) (hd : DeedsC w x len cap ds) (hFr : FrIn w F xw lw cw ws xb lb cb body) (hKT : S.KTab w) :
    Calls Tryd.prog 4 #[.slice x len cap, .agg F.cells.toArray] w fun e w' => e = .returned (.bool true) ∧ Below w.heap.size w w' := by
  obtain ⟨f70, f0, f1, -, f4, f36, f37, -⟩ := fr_parts F hFr.prev hFr.mac
  have hb0 : Below w.heap.size w (w.alloc (.cells F.cells.toArray 38)) := (Below.refl _ _).alloc (Nat.le_refl _) _
  have hA0 := CellsAt.new w 38 F.cells
  have hP := playC_any x len cap ds (w.alloc (.cells F.cells.toArray 38)) (hd.below hb0) (hKT.below hb0)
  rw [World.size_alloc] at hP
  have HKT : Veil (∀ W, Below w.heap.size w W → S.KTab W) := ⟨fun W hb => hKT.below hb⟩
  have HFR := Veil.mk hFr
  obtain ⟨a, ha⟩ : ∃ a : Nat, F.author = (a : Int) := Int.eq_ofNat_of_zero_le hFr.inF.author.1
  have HAU := Veil.mk ha
  obtain ⟨ZH, hzvH, hz1H, hZHl⟩ : ∃ q : List Value, (∀ wx, (zeroValue 40).run Tryd.prog wx = .ok (.agg q.toArray) wx) ∧ ¬ q.toArray = #[] ∧ q.length = 33 := ⟨headC (0, List.replicate 32 0), fun wx => zero_ofH (by kernel_rfl) wx, by decide, rfl⟩
  clear hd hKT hFr f70 f1 f4
  rw [ha] at f0
  clear ha
  go_enter Tryd.func4, Tryd.ntmps4
  go_upto_region 2 with (go_at_call 11; refine hP.mono ?_; rintro e w1 ⟨H, b, R, rfl, ⟨v, us, vp, T, P, hB1⟩, hb1⟩)
  have hA1 : CellsAt w1 w.heap.size 38 F.cells := hA0.farM (by rw [World.size_alloc]; exact hb1)
  have hw1 : Below w.heap.size w w1 := hb0.trans (hb1.mono (by omega))
  have hs1 : w.heap.size + 1 ≤ w1.heap.size := by have := hb1.size; rw [World.size_alloc] at this; exact this
  have hC1 := hB1.c
  clear hB1 hb1 hA0 hb0 hP
  have hlv := live_any w1 (HKT.out w1 hw1)
  have HL2 : Veil (∀ w2, Below w1.heap.size w1 w2 → w2.cell? ⟨w.heap.size, 0, none⟩ = some (.int .u8 (a : Int)) ∧ Calls Tryd.prog 12 #[] w2 fun e w' => e = .returned (.bool true) ∧ Below w2.heap.size w2 w') := ⟨fun w2 hb2 => ⟨by rw [(hA1.farM hb2).cell, f0], live_any w2 (HKT.out w2 (hw1.trans (hb2.mono hw1.size)))⟩⟩
  by_cases ha8 : a < 8
  rotate_left
  · have hai : (a : Int) > 7 := by omega
    go_wp2_with (first
      | (go_at_call 12; refine hlv2.mono ?_; rintro e w3 ⟨rfl, hb3⟩)
      | (go_at_call 12; refine hlv.mono ?_; rintro e w2 ⟨rfl, hb2⟩; obtain ⟨d0, hlv2⟩ := HL2.out w2 hb2; clear hlv))
    go_ret
    have h2 := hw1.trans (hb2.mono hw1.size)
    exact ⟨rfl, h2.trans (hb3.mono h2.size)⟩
  have hai : ¬ (a : Int) > 7 := by omega
  have ha0 : (0 : Int) ≤ (a : Int) := by omega
  have HOKT := Veil.mk hC1.ok
  have HIN : Veil (∀ k, chainP H b v k → w.heap.size + 1 ≤ k) := ⟨fun k hk => (hC1.inside k hk).2⟩
  go_upto_region 4 with (go_at_call 12; refine hlv.mono ?_; rintro e w2 ⟨rfl, hb2⟩; obtain ⟨d0, -⟩ := HL2.out w2 hb2; clear hlv)
  refine forget (p := fun y => Code.wp _ _ _ _ y) (fun W => Below w.heap.size w W ∧ CellsAt W w.heap.size 38 F.cells ∧ ChainAt W (w.heap.size + 1) H b v T P) ⟨hw1.trans (hb2.mono hw1.size), hA1.farM hb2, hC1.far hb2⟩ ?_
  clear hb2 d0 HL2 hA1 hC1 hw1 hs1
  clear w2 w1
  obtain ⟨A, hA⟩ : ∃ q, w.heap.size = q := ⟨_, rfl⟩
  have HA := Veil.mk hA
  have HSET : Veil (∀ W j (u : Value), Below w.heap.size w W → ChainAt W (A + 1) H b v T P → Below w.heap.size w (W.setCell ⟨A, j, none⟩ u) ∧ ChainAt (W.setCell ⟨A, j, none⟩ u) (A + 1) H b v T P) := ⟨fun W j u h1 h2 => ⟨h1.setCell (by show w.heap.size ≤ A; omega) _, h2.congr fun k hk => Below.heap_setCell _ _ _ _ (by show k ≠ A; have := (h2.inside k hk).2; omega)⟩⟩
  have hwA : A ≤ w.heap.size := by omega
  rw [hA] at HIN
  have HBA : Veil (∀ W, Below A w W → Below w.heap.size w W) := ⟨fun W h => by rw [hA]; exact h⟩
  rw [hA]
  clear hA
  rename_i K1 hK1 K0 hK0
  have REST : Veil (∀ (AC : Act) (W : World), (∃ u : Nat → Value, AC = ⟨#[u 0, u 1, u 2, .pointer (some ⟨A, 0, none⟩), .bool false, .pointer (some ⟨H, 0, none⟩), u 6, u 7, u 8, u 9, u 10, u 11, u 12, u 13, u 14, u 15, u 16, u 17, u 18, u 19, u 20, u 21, u 22, u 23, u 24, u 25, u 26, u 27, u 28, u 29, u 30, u 31, u 32, u 33, u 34, u 35, u 36, u 37, u 38, u 39, u 40, u 41, u 42, u 43, u 44, u 45, u 46, u 47, u 48, u 49, u 50, u 51, u 52, u 53, u 54, u 55, u 56, u 57, u 58, u 59, u 60, u 61, u 62, u 63, u 64, u 65, u 66, u 67, u 68, u 69, u 70, u 71, u 72, u 73, u 74, u 75, u 76, u 77, u 78, u 79, u 80, u 81, u 82, u 83, u 84, u 85, u 86, u 87, u 88, u 89, u 90, u 91, u 92, u 93, u 94, u 95, u 96, u 97, u 98, u 99, u 100, u 101, u 102, u 103, u 104, u 105, u 106, u 107, u 108, u 109, u 110, u 111, u 112, u 113, u 114, u 115, u 116, u 117, u 118, u 119, u 120, u 121, u 122, u 123, u 124, u 125, u 126, u 127, u 128, u 129, u 130, u 131, u 132, u 133, u 134, u 135, u 136, u 137, u 138, u 139], []⟩ ∧ Below w.heap.size w W ∧ ChainAt W (A + 1) H b v T P ∧ ∃ F xb lb cb body, FrIn w F xw lw cw ws xb lb cb body ∧ F.author = (a : Int) ∧ CellsAt W A 38 F.cells) → K1 AC W) := ⟨by
    clear hK0 HFR HAU f0 f36 f37
    clear K0
    rintro AC W ⟨u, rfl, hb, hC, F1, xb1, lb1, cb1, body1, hFr1, hau, hAc⟩
    apply hK1
    clear hK1
    clear K1
    have HFR := Veil.mk hFr1
    have HAU := Veil.mk hau
    have HC := Veil.mk hC
    clear hFr1 hau hC
    have c36 : W.cell? ⟨A, 36, none⟩ = some (.slice xw lw cw) := by
      obtain ⟨_, _, _, _, _, q6, _⟩ := fr_parts F1 HFR.out.prev HFR.out.mac
      rw [hAc.cell, q6, HFR.out.wraps]
    have g36 := hAc.frozen 36
    go_upto_region 6 with fail
    rename_i K2 hK2 K0 hK0
    have REST : Veil (∀ (AC : Act) (W : World), (∃ u : Nat → Value, AC = ⟨#[u 0, u 1, u 2, .pointer (some ⟨A, 0, none⟩), .bool false, .pointer (some ⟨H, 0, none⟩), u 6, u 7, u 8, u 9, u 10, u 11, u 12, u 13, u 14, u 15, u 16, u 17, u 18, u 19, u 20, u 21, u 22, u 23, u 24, u 25, u 26, u 27, u 28, u 29, u 30, u 31, u 32, u 33, u 34, u 35, u 36, u 37, u 38, u 39, u 40, u 41, u 42, u 43, u 44, u 45, u 46, u 47, u 48, u 49, u 50, u 51, u 52, u 53, u 54, u 55, u 56, u 57, u 58, u 59, u 60, u 61, u 62, u 63, u 64, u 65, u 66, u 67, u 68, u 69, u 70, u 71, u 72, u 73, u 74, u 75, u 76, u 77, u 78, u 79, u 80, u 81, u 82, u 83, u 84, u 85, u 86, u 87, u 88, u 89, u 90, u 91, u 92, u 93, u 94, u 95, u 96, u 97, u 98, u 99, u 100, u 101, u 102, u 103, u 104, u 105, u 106, u 107, u 108, u 109, u 110, u 111, u 112, u 113, u 114, u 115, u 116, u 117, u 118, u 119, u 120, u 121, u 122, u 123, u 124, u 125, u 126, u 127, u 128, u 129, u 130, u 131, u 132, u 133, u 134, u 135, u 136, u 137, u 138, u 139], []⟩ ∧ Below w.heap.size w W ∧ ChainAt W (A + 1) H b v T P ∧ ∃ F xw lw cw ws xb lb cb body, FrIn w F xw lw cw ws xb lb cb body ∧ F.author = (a : Int) ∧ CellsAt W A 38 F.cells) → K2 AC W) := ⟨by
      clear hK0 HFR HAU HC c36 g36 hAc hb
      clear K0
      clear u W
      rintro AC W ⟨u, rfl, hb, hC, F2, xw2, lw2, cw2, ws2, xb2, lb2, cb2, body2, hFr2, hau, hAc⟩
      apply hK2
      clear hK2
      clear K2
      dsimp only
      have HFR := Veil.mk hFr2
      have HAU := Veil.mk hau
      clear hFr2 hau
      have hK0 : Keeps W (A + 1) H b v T P [(A, 38, F2.cells)] := ⟨hC, fun e he => by
        rw [List.mem_singleton.1 he]
        exact ⟨hAc, fun hp => by have := HIN.out _ hp; omega⟩⟩
      clear hC hAc HIN HSET HBA
      obtain ⟨C, hCe⟩ : ∃ q, cnt T a = q := ⟨_, rfl⟩
      obtain ⟨SM, hSM⟩ : ∃ q, atN T a C = q := ⟨_, rfl⟩
      have HCS := Veil.mk (And.intro hCe hSM)
      have hC4 : C ≤ 256 := by rw [← hCe]; exact HOKT.out.cnt_le a
      have hSok : okK SM := by rw [← hSM]; exact HOKT.out.at_ok a C
      obtain ⟨HDC, hHDC⟩ : ∃ q, headC ((C : Int), SM) = q := ⟨_, rfl⟩
      have HIX : Veil (∀ wx, (Instr.index 41 (.agg (headsC (headsOf T)).toArray) (.int .u8 (a : Int))).run Tryd.prog wx = .ok (.agg HDC.toArray) wx) := ⟨fun wx => by
        have := headIx HOKT.out a ha8 wx
        unfold headOf at this
        rw [hCe, hSM, hHDC] at this
        exact this⟩
      have hDl : HDC.length = 33 := by rw [← hHDC]; exact headC_len _ hSok.1
      have h1D : ∀ v ∈ HDC, v.oneCell' = true := fun v hv => by rw [← hHDC] at hv; exact headC_one _ v hv
      have iHd : (Tryd.prog.info? 40).map (·.size) = some HDC.length := by rw [hDl]; exact sizeHead1
      obtain ⟨SV, hSV⟩ : ∃ q, SM.map (Value.int .u8) = q := ⟨_, rfl⟩
      have HDP : Veil (∀ V G, CellsAt V G 40 HDC → V.cell? ⟨G, 0, none⟩ = some (.int .u32 (C : Int)) ∧ V.rangeAt G 1 SV) := ⟨fun V G h => by
        rw [← hHDC] at h
        refine ⟨h.cell 0, fun i v hv => ?_⟩
        rw [← hSV] at hv
        have := h.cell (1 + i)
        rw [this, Nat.add_comm 1 i]
        exact hv⟩
      have HSV := Veil.mk hSV
      have iS : (Tryd.prog.info? 34).map (·.size) = some SV.length := by rw [← hSV, List.length_map, hSok.1]; exact sizeKeyH
      have h1S : ∀ v ∈ SV, v.oneCell' = true := fun v hv => by rw [← hSV] at hv; obtain ⟨x, _, rfl⟩ := List.mem_map.1 hv; rfl
      have hSl : SV.length = 32 := by rw [← hSV, List.length_map, hSok.1]
      clear hCe hSM hHDC hSV
      have HHD : Veil (∀ V, Keeps V (A + 1) H b v T P [(A, 38, F2.cells)] → Calls Tryd.prog 14 #[.pointer (some ⟨H, 0, none⟩)] V fun e w' => e = .returned (.agg (headsC (headsOf T)).toArray) ∧ Below V.heap.size V w') := ⟨fun V h => chHeads_any _ _ _ _ _ _ V h.c⟩
      have HAC0 : Veil (∀ V, CellsAt V A 38 F2.cells → V.cell? ⟨A, 0, none⟩ = some (.int .u8 (a : Int))) := ⟨fun V h => by
        obtain ⟨_, q1, _⟩ := fr_parts F2 HFR.out.prev HFR.out.mac
        rw [h.cell, q1, HAU.out]⟩
      generalize headsC (headsOf T) = HCC at HIX HHD
      have HWA : Veil (∀ V, Below w.heap.size w V → A ≤ V.heap.size) := ⟨fun V h => by have := h.size; have := HA.out; omega⟩
      go_upto_region 8 with fail
      refine wp_meetE (fun AC V => ∃ (G : Nat) (u : Nat → Value), AC = ⟨#[u 0, u 1, u 2, .pointer (some ⟨A, 0, none⟩), .bool false, .pointer (some ⟨H, 0, none⟩), u 6, u 7, .pointer (some ⟨G, 0, none⟩), u 9, u 10, u 11, u 12, u 13, u 14, u 15, u 16, u 17, u 18, u 19, u 20, u 21, u 22, u 23, u 24, u 25, u 26, u 27, u 28, u 29, u 30, u 31, u 32, u 33, u 34, u 35, u 36, u 37, u 38, u 39, u 40, u 41, u 42, u 43, u 44, u 45, u 46, u 47, u 48, u 49, u 50, u 51, u 52, u 53, u 54, u 55, u 56, u 57, u 58, u 59, u 60, u 61, u 62, u 63, u 64, u 65, u 66, u 67, u 68, u 69, u 70, u 71, u 72, u 73, u 74, u 75, u 76, u 77, u 78, u 79, u 80, u 81, u 82, u 83, u 84, u 85, u 86, u 87, u 88, u 89, u 90, u 91, u 92, u 93, u 94, u 95, u 96, u 97, u 98, u 99, u 100, u 101, u 102, u 103, u 104, u 105, u 106, u 107, u 108, u 109, u 110, u 111, u 112, u 113, u 114, u 115, u 116, u 117, u 118, u 119, u 120, u 121, u 122, u 123, u 124, u 125, u 126, u 127, u 128, u 129, u 130, u 131, u 132, u 133, u 134, u 135, u 136, u 137, u 138, u 139], []⟩ ∧ Below w.heap.size w V ∧ G ≠ A ∧ Keeps V (A + 1) H b v T P [(G, 40, HDC), (A, 38, F2.cells)]) ?_ ?_
      · refine wp_region_gateT (fun w' => w'.cell? ⟨A, 0, none⟩ = some (.int .u8 (a : Int))) (fun _ => True) 99 (by kernel_rfl) ?_
        have hd0 : Below W.heap.size W W.drew := (Below.refl _ _).drew
        have hK1 := hK0.far hd0
        have hAlt := (hK1.k _ (List.mem_cons_self ..)).1.lt
        have hT : (fun w' : World => w'.cell? ⟨A, 0, none⟩ = some (.int .u8 (a : Int))) W.drew := HAC0.out _ (hK1.k _ (List.mem_cons_self ..)).1
        have hS := trivial
        have hbd := hb.drew
        refine wpAnyT_held (i := 0) (v := ?_) rfl (by kernel_rfl) (by kernel_rfl) (by kernel_rfl) (fun _ _ _ h => h) (by kernel_rfl) hT (fun _ => hS) (by kernel_rfl) ?_ ?_
        rotate_left
        · intro wx hSw; go_split_ands; go_simp; try with_reducible rfl
        simp only [Act.put, List.getElem_toArray, List.getElem_cons_succ, List.getElem_cons_zero, List.setIfInBounds_toArray, List.set_cons_zero, List.set_cons_succ]
        refine wpAnyT_held (i := 2) (v := ?_) rfl (by kernel_rfl) (by kernel_rfl) (by kernel_rfl) (fun _ _ _ h => h) (by kernel_rfl) hT (fun _ => hS) (by kernel_rfl) ?_ ?_
        rotate_left
        · intro wx hSw; go_split_ands; go_simp; try with_reducible rfl
        simp only [Act.put, List.getElem_toArray, List.getElem_cons_succ, List.getElem_cons_zero, List.setIfInBounds_toArray, List.set_cons_zero, List.set_cons_succ]
        refine wpAnyT_held (i := 3) (v := ?_) rfl (by kernel_rfl) (by kernel_rfl) (by kernel_rfl) (fun _ _ _ h => h) (by kernel_rfl) hT (fun _ => hS) (by kernel_rfl) ?_ ?_
        rotate_left
        · intro wx hSw; go_split_ands; go_simp; try with_reducible rfl
        simp only [Act.put, List.getElem_toArray, List.getElem_cons_succ, List.getElem_cons_zero, List.setIfInBounds_toArray, List.set_cons_zero, List.set_cons_succ]
        refine wpAnyT_two (i := 1) (j := 5) rfl rfl (by kernel_rfl) (by kernel_rfl) (by kernel_rfl) (fun K hK => ?_) (fun K hK => ?_)
        · refine wpx_call _ _ (by kernel_rfl) ((HHD.out _ hK1).mono ?_)
          rintro e w2 ⟨rfl, hb2⟩
          refine ⟨_, rfl, ?_⟩
          have hK2 := hK1.far hb2
          have hB2 := hbd.trans (hb2.mono hbd.size)
          have hsz := hb2.size
          replace hT : (fun w' : World => w'.cell? ⟨A, 0, none⟩ = some (.int .u8 (a : Int))) w2 := HAC0.out _ (hK2.k _ (List.mem_cons_self ..)).1
          refine hK.out _ _ hT (fun _ => hS) ?_
          clear hK K
          try simp only [Act.put, List.getElem_toArray, List.getElem_cons_succ, List.getElem_cons_zero, List.setIfInBounds_toArray, List.set_cons_zero, List.set_cons_succ]
          refine wpAnyT_held (i := 4) (v := .agg HDC.toArray) rfl (by kernel_rfl) (by kernel_rfl) (by kernel_rfl) (fun _ _ _ h => h) (by kernel_rfl) hT (fun _ => hS) (by kernel_rfl) (fun wx h => exec_ixH rfl rfl rfl (HIX.out wx)) ?_
          simp only [Act.put, List.getElem_toArray, List.getElem_cons_succ, List.getElem_cons_zero, List.setIfInBounds_toArray, List.set_cons_zero, List.set_cons_succ]
          refine wpAnyT_one (i := 5) rfl (by kernel_rfl) (by kernel_rfl) (fun K hK => ?_)
          go_simp
          have hK3 := hK2.laid (t := 40) ZH
          replace hT : (fun w' : World => w'.cell? ⟨A, 0, none⟩ = some (.int .u8 (a : Int))) (w2.alloc (.cells ZH.toArray 40)) := HAC0.out _ (hK3.k (A, 38, F2.cells) (by simp)).1
          refine hK.out _ _ hT (fun _ => hS) ?_
          clear hK K
          try simp only [Act.put, List.getElem_toArray, List.getElem_cons_succ, List.getElem_cons_zero, List.setIfInBounds_toArray, List.set_cons_zero, List.set_cons_succ]
          refine wpAnyT_one (i := 6) rfl (by kernel_rfl) (by kernel_rfl) (fun K hK => ?_)
          refine wp_stvE 40 _ _ rfl _ rfl rfl (hK3.k _ (List.mem_cons_self ..)).1 iHd (by rw [hDl, hZHl]) h1D ?_
          have hK4 := hK2.fresh (Below.refl _ _) (t := 40) (Z := ZH) HDC
          replace hT : (fun w' : World => w'.cell? ⟨A, 0, none⟩ = some (.int .u8 (a : Int))) ((w2.alloc (.cells ZH.toArray 40)).setRow w2.heap.size HDC.toArray) := HAC0.out _ (hK4.k (A, 38, F2.cells) (by simp)).1
          refine hK.out _ _ hT (fun _ => hS) ?_
          clear hK K
          try simp only [Act.put, List.getElem_toArray, List.getElem_cons_succ, List.getElem_cons_zero, List.setIfInBounds_toArray, List.set_cons_zero, List.set_cons_succ]
          refine wpAnyT_done (by kernel_rfl) ?_ _
          exact ⟨_, meetU (by kernel_rfl) ⟨hB2.trans ((below_setRow ((Below.refl _ _).alloc (Nat.le_refl _) _) (Nat.le_refl _) _).mono hB2.size), by omega, hK4⟩⟩
        · go_simp
          have hK2 := (hK0.laid (t := 40) ZH).far (Below.refl _ _).drew
          have hB2 : Below w.heap.size w ((W.alloc (.cells ZH.toArray 40)).drew) := (hb.alloc hb.size _).drew
          replace hT : (fun w' : World => w'.cell? ⟨A, 0, none⟩ = some (.int .u8 (a : Int))) ((W.alloc (.cells ZH.toArray 40)).drew) := HAC0.out _ (hK2.k (A, 38, F2.cells) (by simp)).1
          have hAlt0 : A < W.heap.size := (hK0.k _ (List.mem_cons_self ..)).1.lt
          refine hK.out _ _ hT (fun _ => hS) ?_
          clear hK K
          try simp only [Act.put, List.getElem_toArray, List.getElem_cons_succ, List.getElem_cons_zero, List.setIfInBounds_toArray, List.set_cons_zero, List.set_cons_succ]
          refine wpAnyT_one (i := 1) rfl (by kernel_rfl) (by kernel_rfl) (fun K hK => ?_)
          refine wpx_call _ _ (by kernel_rfl) ((HHD.out _ hK2.drop).mono ?_)
          rintro e w3 ⟨rfl, hb3⟩
          refine ⟨_, rfl, ?_⟩
          have hK3 := hK2.far hb3
          have hB3 := hB2.trans (hb3.mono hB2.size)
          replace hT : (fun w' : World => w'.cell? ⟨A, 0, none⟩ = some (.int .u8 (a : Int))) w3 := HAC0.out _ (hK3.k (A, 38, F2.cells) (by simp)).1
          refine hK.out _ _ hT (fun _ => hS) ?_
          clear hK K
          try simp only [Act.put, List.getElem_toArray, List.getElem_cons_succ, List.getElem_cons_zero, List.setIfInBounds_toArray, List.set_cons_zero, List.set_cons_succ]
          refine wpAnyT_held (i := 4) (v := .agg HDC.toArray) rfl (by kernel_rfl) (by kernel_rfl) (by kernel_rfl) (fun _ _ _ h => h) (by kernel_rfl) hT (fun _ => hS) (by kernel_rfl) (fun wx h => exec_ixH rfl rfl rfl (HIX.out wx)) ?_
          simp only [Act.put, List.getElem_toArray, List.getElem_cons_succ, List.getElem_cons_zero, List.setIfInBounds_toArray, List.set_cons_zero, List.set_cons_succ]
          refine wpAnyT_one (i := 6) rfl (by kernel_rfl) (by kernel_rfl) (fun K hK => ?_)
          refine wp_stvE 40 _ _ rfl _ rfl rfl (hK3.k _ (List.mem_cons_self ..)).1 iHd (by rw [hDl, hZHl]) h1D ?_
          have hK4 := hK3.write (cs' := HDC) (W' := w3.setRow W.heap.size HDC.toArray) (fun e he => by rw [List.mem_singleton.1 he]; show A ≠ W.heap.size; omega) ((hK3.k _ (List.mem_cons_self ..)).1.setRow HDC) (fun k hk => setRow_other _ _ k _ hk)
          replace hT : (fun w' : World => w'.cell? ⟨A, 0, none⟩ = some (.int .u8 (a : Int))) (w3.setRow W.heap.size HDC.toArray) := HAC0.out _ (hK4.k (A, 38, F2.cells) (by simp)).1
          refine hK.out _ _ hT (fun _ => hS) ?_
          clear hK K
          try simp only [Act.put, List.getElem_toArray, List.getElem_cons_succ, List.getElem_cons_zero, List.setIfInBounds_toArray, List.set_cons_zero, List.set_cons_succ]
          refine wpAnyT_done (by kernel_rfl) ?_ _
          exact ⟨_, meetU (by kernel_rfl) ⟨below_setRow hB3 hb.size _, by omega, hK4⟩⟩
      rintro AC V ⟨G, u, rfl, hbV, hGA, hKV⟩
      dsimp only
      clear hK0 hb HHD HIX h1D iHd hDl HWA
      clear W
      have HF3 : Veil (∃ F3 : Fr, FrIn w F3 xw2 lw2 cw2 ws2 xb2 lb2 cb2 body2 ∧ F3.author = (a : Int) ∧ F3.number = ((C + 1 : Nat) : Int) ∧ F3.prev = SM ∧ F3.cells = (F2.cells.set 1 (.int .u32 ((C : Int) + 1))).take 4 ++ SV ++ (F2.cells.set 1 (.int .u32 ((C : Int) + 1))).drop 36) := ⟨by
        refine ⟨({ F2 with number := ((C + 1 : Nat) : Int) } : Fr).withPrev SM, (HFR.out.withNumber (C + 1) (by omega)).withPrev hSok, HAU.out, rfl, rfl, ?_⟩
        have e := fr_setN F2 ((C : Int) + 1)
        rw [e, ← HSV.out]
        exact (withPrev_cells ({ F2 with number := (C : Int) + 1 } : Fr) SM HFR.out.prev).symm⟩
      have HFL : Veil (F2.cells.length = 70 ∧ F2.cells[1]? = some (.int .u32 F2.number)) := ⟨by
        obtain ⟨q0, _, q2, _⟩ := fr_parts F2 HFR.out.prev HFR.out.mac
        exact ⟨q0, q2⟩⟩
      have hwc : IntKind.u32.wrap ((C : Int) + 1) = (C : Int) + 1 := by rw [IntKind.wrap_u32]; omega
      have uK : Tryd.prog.underlying 34 = _ := Tryd.underlying34
      clear HAC0 HFR HAU
      go_upto_region 9 with fail
      refine wp_region_gateT (fun w' => w'.cell? ⟨G, 0, none⟩ = some (.int .u32 (C : Int)) ∧ w'.rangeAt G 1 SV) (fun _ => True) 99 (by kernel_rfl) ?_
      have hKd := (hKV.far (Below.refl _ _).drew).swap
      have hbd := hbV.drew
      have hT : (fun w' : World => w'.cell? ⟨G, 0, none⟩ = some (.int .u32 (C : Int)) ∧ w'.rangeAt G 1 SV) V.drew := HDP.out _ _ (hKd.k (G, 40, HDC) (by simp)).1
      have hS := trivial
      refine wpAnyT_held (i := 0) (v := ?_) rfl (by kernel_rfl) (by kernel_rfl) (by kernel_rfl) (fun _ _ _ h => h) (by kernel_rfl) hT (fun _ => hS) (by kernel_rfl) ?_ ?_
      rotate_left
      · intro wx hSw; go_split_ands; go_simp; try with_reducible rfl
      simp only [Act.put, List.getElem_toArray, List.getElem_cons_succ, List.getElem_cons_zero, List.setIfInBounds_toArray, List.set_cons_zero, List.set_cons_succ]
      refine wpAnyT_held (i := 1) (v := ?_) rfl (by kernel_rfl) (by kernel_rfl) (by kernel_rfl) (fun _ _ _ h => h) (by kernel_rfl) hT (fun _ => hS) (by kernel_rfl) ?_ ?_
      rotate_left
      · intro wx hSw; go_split_ands; go_simp; try with_reducible rfl
      simp only [Act.put, List.getElem_toArray, List.getElem_cons_succ, List.getElem_cons_zero, List.setIfInBounds_toArray, List.set_cons_zero, List.set_cons_succ]
      refine wpAnyT_held (i := 2) (v := ?_) rfl (by kernel_rfl) (by kernel_rfl) (by kernel_rfl) (fun _ _ _ h => h) (by kernel_rfl) hT (fun _ => hS) (by kernel_rfl) ?_ ?_
      rotate_left
      · intro wx hSw; go_split_ands; go_simp; try with_reducible rfl
      simp only [Act.put, List.getElem_toArray, List.getElem_cons_succ, List.getElem_cons_zero, List.setIfInBounds_toArray, List.set_cons_zero, List.set_cons_succ]
      refine wpAnyT_held (i := 3) (v := ?_) rfl (by kernel_rfl) (by kernel_rfl) (by kernel_rfl) (fun _ _ _ h => h) (by kernel_rfl) hT (fun _ => hS) (by kernel_rfl) ?_ ?_
      rotate_left
      · intro wx hSw; go_split_ands; go_simp; try with_reducible rfl
      simp only [Act.put, List.getElem_toArray, List.getElem_cons_succ, List.getElem_cons_zero, List.setIfInBounds_toArray, List.set_cons_zero, List.set_cons_succ]
      refine wpAnyT_load (i := 4) (dst := some 60) (ty := 34) (x := .tmp 59) (b := G) (o := (1)) (cs := SV) (by kernel_rfl) (by kernel_rfl) (by kernel_rfl) (by kernel_rfl) (by kernel_rfl) (fun _ _ _ h => h) (by kernel_rfl) hT (fun _ => hS) (by kernel_rfl) (fun _ h => h.2) uK rfl iS ?_
      simp only [Act.put, List.getElem_toArray, List.getElem_cons_succ, List.getElem_cons_zero, List.setIfInBounds_toArray, List.set_cons_zero, List.set_cons_succ]
      refine wpAnyT_held (i := 5) (v := ?_) rfl (by kernel_rfl) (by kernel_rfl) (by kernel_rfl) (fun _ _ _ h => h) (by kernel_rfl) hT (fun _ => hS) (by kernel_rfl) ?_ ?_
      rotate_left
      · intro wx hSw; go_split_ands; go_simp; try with_reducible rfl
      simp only [Act.put, List.getElem_toArray, List.getElem_cons_succ, List.getElem_cons_zero, List.setIfInBounds_toArray, List.set_cons_zero, List.set_cons_succ]
      refine wpAnyT_one (i := 6) rfl (by kernel_rfl) (by kernel_rfl) (fun K hK => ?_)
      have c1 : V.drew.cell? ⟨A, 1, none⟩ = some (.int .u32 F2.number) := by rw [(hKd.k _ (List.mem_cons_self ..)).1.cell, HFL.out.2]
      have g1 : V.drew.frozen? ⟨A, 1, none⟩ = false := (hKd.k _ (List.mem_cons_self ..)).1.frozen 1
      have HK2 := Veil.mk (hKd.write (cs' := F2.cells.set 1 (.int .u32 ((C : Int) + 1))) (W' := V.drew.setCell ⟨A, 1, none⟩ (.int .u32 ((C : Int) + 1))) (fun e he => by rw [List.mem_singleton.1 he]; exact hGA) ((hKd.k _ (List.mem_cons_self ..)).1.set 1 _) (fun k hk => Below.heap_setCell _ _ _ k hk))
      have HB2 : Veil (Below w.heap.size w (V.drew.setCell ⟨A, 1, none⟩ (.int .u32 ((C : Int) + 1)))) := ⟨hbd.setCell (by show w.heap.size ≤ A; have := HA.out; omega) _⟩
      clear hKd hbd hKV hbV
      go_simp
      refine forget (p := fun y => K _ y) (fun V2 => Below w.heap.size w V2 ∧ Keeps V2 (A + 1) H b v T P [(A, 38, F2.cells.set 1 (.int .u32 ((C : Int) + 1))), (G, 40, HDC)]) ⟨HB2.out, HK2.out⟩ ?_
      clear c1 g1 HK2 HB2 hT
      rintro V2 ⟨hb2, hK2⟩
      have hT : (fun w' : World => w'.cell? ⟨G, 0, none⟩ = some (.int .u32 (C : Int)) ∧ w'.rangeAt G 1 SV) V2 := HDP.out _ _ (hK2.k (G, 40, HDC) (by simp)).1
      refine hK.out _ _ hT (fun _ => hS) ?_
      clear hK K
      try simp only [Act.put, List.getElem_toArray, List.getElem_cons_succ, List.getElem_cons_zero, List.setIfInBounds_toArray, List.set_cons_zero, List.set_cons_succ]
      refine wpAnyT_held (i := 7) (v := ?_) rfl (by kernel_rfl) (by kernel_rfl) (by kernel_rfl) (fun _ _ _ h => h) (by kernel_rfl) hT (fun _ => hS) (by kernel_rfl) ?_ ?_
      rotate_left
      · intro wx hSw; go_split_ands; go_simp; try with_reducible rfl
      simp only [Act.put, List.getElem_toArray, List.getElem_cons_succ, List.getElem_cons_zero, List.setIfInBounds_toArray, List.set_cons_zero, List.set_cons_succ]
      refine wpAnyT_one (i := 8) rfl (by kernel_rfl) (by kernel_rfl) (fun K hK => ?_)
      refine wp_stmE 34 _ _ rfl A 4 rfl (cs := SV) rfl (hK2.k _ (List.mem_cons_self ..)).1 iS (by rw [hSl, List.length_set, HFL.out.1]; omega) h1S ?_
      obtain ⟨F3, hFr3, ha3, hn3, hp3, hc3⟩ := HF3.out
      rw [hSl, show 4 + 32 = 36 from rfl, ← hc3]
      have hK3 := hK2.write (cs' := F3.cells) (W' := V2.setRow A F3.cells.toArray) (fun e he => by rw [List.mem_singleton.1 he]; exact hGA) ((hK2.k _ (List.mem_cons_self ..)).1.setRow _) (fun k hk => setRow_other _ _ k _ hk)
      have hb3 : Below w.heap.size w (V2.setRow A F3.cells.toArray) := below_setRow hb2 (by have := HA.out; omega) _
      replace hT : (fun w' : World => w'.cell? ⟨G, 0, none⟩ = some (.int .u32 (C : Int)) ∧ w'.rangeAt G 1 SV) (V2.setRow A F3.cells.toArray) := HDP.out _ _ (hK3.k (G, 40, HDC) (by simp)).1
      refine hK.out _ _ hT (fun _ => hS) ?_
      clear hK K
      try simp only [Act.put, List.getElem_toArray, List.getElem_cons_succ, List.getElem_cons_zero, List.setIfInBounds_toArray, List.set_cons_zero, List.set_cons_succ]
      refine wpAnyT_done (by kernel_rfl) ?_ _
      refine forget (p := fun y => Exit.then _ _ _ _ y) (fun V => Below w.heap.size w V ∧ Keeps V (A + 1) H b v T P [(A, 38, F3.cells)]) ⟨hb3, hK3.swap.drop⟩ ?_
      have HFR := Veil.mk hFr3
      have HAN := Veil.mk (And.intro ha3 (And.intro hn3 hp3))
      clear hT hS hK3 hb3 hK2 hb2 hFr3 ha3 hn3 hp3 hc3 HF3 HFL HDP hwc hGA h1S iS hSl HSV
      clear V2 V
      rintro V ⟨hb, hK⟩
      have h70 : F3.cells.length = 70 := (fr_parts F3 HFR.out.prev HFR.out.mac).1
      have iF3 : (Tryd.prog.info? 38).map (·.size) = some F3.cells.length := by rw [h70]; exact sizeFrame
      have HC1 : Veil (∀ V, CellsAt V A 38 F3.cells → V.cell? ⟨A, 0, none⟩ = some (.int .u8 (a : Int)) ∧ V.cell? ⟨A, 1, none⟩ = some (.int .u32 ((C : Int) + 1))) := ⟨fun V h => by
        obtain ⟨_, q1, q2, _⟩ := fr_parts F3 HFR.out.prev HFR.out.mac
        refine ⟨by rw [h.cell, q1, HAN.out.1], ?_⟩
        rw [h.cell, q2, HAN.out.2.1]
        rfl⟩
      have c1 := (HC1.out V (hK.k _ (List.mem_cons_self ..)).1).2
      by_cases hC6 : C = 256
      · have hgt : (C : Int) + 1 > 256 := by omega
        clear HOKT HCS
        go_wp2
        go_ret
        exact ⟨rfl, hb⟩
      have hgt : ¬ (C : Int) + 1 > 256 := by omega
      obtain ⟨SF, hSF⟩ : ∃ q, fsum F3 lw2 lb2 ws2 body2 = q := ⟨_, rfl⟩
      have hSFok : okK SF := by rw [← hSF]; exact fsum_ok _ _ _ _ _
      have HSF := Veil.mk hSF
      obtain ⟨T1, hT1⟩ : ∃ q, addS T a SF = q := ⟨_, rfl⟩
      have HT1 := Veil.mk hT1
      have HOK1 : Veil (OkS T1) := ⟨by rw [← hT1]; exact HOKT.out.add a SF hSFok (by rw [HCS.out.1]; omega)⟩
      have h1 : Calls Tryd.prog 15 #[.pointer (some ⟨H, 0, none⟩), .agg F3.cells.toArray] V fun e w' => e = .returned (.int .i64 0) ∧ ∃ v', Keeps w' (A + 1) H b v' T1 P [(A, 38, F3.cells)] ∧ Below w.heap.size w w' := by
        have := hK.add_any (n := C + 1) HA.out hb (HKT.out V hb) HFR.out HAN.out.1 HAN.out.2.1
        have e0 : lookN T a (C + 1) SM SF = 0 := by
          have := look_next (T := T) ha8 (by rw [HCS.out.1]; omega) SF
          rw [HCS.out.1, HCS.out.2] at this
          exact this
        rw [HAN.out.2.2, hSF, e0] at this
        unfold addSt at this
        rw [e0, if_pos rfl, hT1] at this
        exact this
      have H2 : Veil (∀ V v, Below w.heap.size w V → Keeps V (A + 1) H b v T1 P [(A, 38, F3.cells)] → Calls Tryd.prog 15 #[.pointer (some ⟨H, 0, none⟩), .agg F3.cells.toArray] V fun e w' => e = .returned (.int .i64 5) ∧ ∃ v', Keeps w' (A + 1) H b v' T1 P [(A, 38, F3.cells)] ∧ Below w.heap.size w w') := ⟨fun V v hb hK => by
        have := hK.add_any (n := C + 1) HA.out hb (HKT.out V hb) HFR.out HAN.out.1 HAN.out.2.1
        have e0 : lookN T1 a (C + 1) SM SF = 5 := by
          have := look_again HOKT.out ha8 (by rw [HCS.out.1]; omega) SM SF
          rw [HCS.out.1, hT1] at this
          exact this
        rw [HAN.out.2.2, hSF, e0] at this
        unfold addSt at this
        rw [e0, if_neg (by decide), if_neg (by decide)] at this
        exact this⟩
      clear hSF hT1
      have rA := (hK.k _ (List.mem_cons_self ..)).1.wholeM
      obtain ⟨ZF, hzvF, hz1F, hZF⟩ := zeroFrameH
      have hZFl : ZF.length = 70 := by rw [hZF]; rfl
      clear hZF
      have h1F := fr_one F3 HFR.out.wraps HFR.out.body_
      go_upto_region 12 with (first
        | (refine wpList_ldgv (by kernel_rfl) 38 _ rfl _ _ rfl F3.cells rA5 Tryd.underlying38 rfl iF3 ?_)
        | (refine wpList_ldgv (by kernel_rfl) 38 _ rfl _ _ rfl F3.cells rA Tryd.underlying38 rfl iF3 ?_)
        | (go_at_call 15; refine h2.mono ?_; rintro e w6 ⟨rfl, v6, hK6, hb6⟩; clear h2)
        | (go_at_call 15; refine h1.mono ?_; rintro e w5 ⟨rfl, v5, hK5, hb5⟩; have h2 := H2.out w5 v5 hb5 hK5; have rA5 := (hK5.k _ (List.mem_cons_self ..)).1.wholeM; clear h1 rA))
      refine forget (p := fun y => Code.wp _ _ _ _ y) (fun V => Below w.heap.size w V ∧ Keeps V (A + 1) H b v6 T1 P [(A, 38, F3.cells)]) ⟨hb6, hK6⟩ ?_
      clear hb6 hK6 hb5 hK5 rA5 hb hK c1 H2 hgt
      clear w6 w5 V v5
      rintro V ⟨hb, hK⟩
      have rA := (hK.k _ (List.mem_cons_self ..)).1.wholeM
      have hG9 := CellsAt.new V 38 ZF
      go_upto_region 13 with (first
        | (refine wpList_ldv rfl 38 _ rfl _ _ rfl F3.cells rA Tryd.underlying38 rfl iF3 ?_)
        | (refine wpList_stv rfl 38 _ _ rfl _ rfl rfl hG9 iF3 (by rw [h70, hZFl]) h1F ?_))
      have hAlt := (hK.k _ (List.mem_cons_self ..)).1.lt
      refine forget (p := fun y => Code.wp _ _ _ _ y) (fun V' => Below w.heap.size w V' ∧ Keeps V' (A + 1) H b v6 T1 P [(V.heap.size, 38, F3.cells), (A, 38, F3.cells)]) ⟨hb.trans ((below_setRow ((Below.refl _ _).alloc (Nat.le_refl _) _) (Nat.le_refl _) _).mono hb.size), hK.fresh (Below.refl _ _) (Z := ZF) F3.cells⟩ ?_
      have hAw := hb.size
      clear hb hK rA hG9 hzvF hz1F h1F hZFl
      obtain ⟨B9, hB9⟩ : ∃ q, V.heap.size = q := ⟨_, rfl⟩
      rw [hB9] at hAlt hAw ⊢
      clear hB9
      clear V
      rintro V ⟨hb, hK⟩
      obtain ⟨m0, hm0⟩ : ∃ m, F3.mac[0]? = some m := ⟨_, List.getElem?_eq_getElem (by rw [HFR.out.mac]; omega)⟩
      obtain ⟨m1, hm1⟩ : ∃ q, IntKind.u8.wrap (m0 + 1) = q := ⟨_, rfl⟩
      have c38 : V.cell? ⟨B9, 38, none⟩ = some (.int .u8 m0) := by rw [(hK.k _ (List.mem_cons_self ..)).1.cell, fr_getM F3 HFR.out.prev, hm0]; rfl
      have g38 := (hK.k _ (List.mem_cons_self ..)).1.frozen 38
      have hm1b : 0 ≤ m1 ∧ m1 ≤ 255 := by rw [← hm1, IntKind.wrap_u8]; omega
      obtain ⟨G9, hG9⟩ : ∃ q : Fr, ({ F3 with mac := F3.mac.set 0 m1 } : Fr) = q := ⟨_, rfl⟩
      have HFG : Veil (FrIn w G9 xw2 lw2 cw2 ws2 xb2 lb2 cb2 body2 ∧ G9.author = (a : Int) ∧ G9.number = ((C + 1 : Nat) : Int) ∧ G9.prev = SM) := ⟨by
        rw [← hG9]
        exact ⟨HFR.out.withMac m1 hm1b, HAN.out.1, HAN.out.2.1, HAN.out.2.2⟩⟩
      have HSET : Veil (Keeps (V.setCell ⟨B9, 38, none⟩ (.int .u8 m1)) (A + 1) H b v6 T1 P [(B9, 38, G9.cells), (A, 38, F3.cells)]) := ⟨by
        have e := fr_setM F3 m1 HFR.out.prev
        rw [hG9] at e
        rw [← e]
        exact hK.write (fun e he => by rw [List.mem_singleton.1 he]; show A ≠ B9; omega) ((hK.k _ (List.mem_cons_self ..)).1.set 38 _) (fun k hk => Below.heap_setCell _ _ _ k hk)⟩
      have HBS : Veil (Below w.heap.size w (V.setCell ⟨B9, 38, none⟩ (.int .u8 m1))) := ⟨hb.setCell (by show w.heap.size ≤ B9; omega) _⟩
      clear hm0 hG9 hK hb
      go_upto_region 14 with fail
      refine forget (p := fun y => Code.wp _ _ _ _ y) (fun V => Below w.heap.size w V ∧ Keeps V (A + 1) H b v6 T1 P [(B9, 38, G9.cells), (A, 38, F3.cells)]) ⟨HBS.out, HSET.out⟩ ?_
      clear HBS HSET c38 g38 hm1 hm1b
      clear V
      rintro V ⟨hb, hK⟩
      have h7G : G9.cells.length = 70 := (fr_parts G9 HFG.out.1.prev HFG.out.1.mac).1
      have iG9 : (Tryd.prog.info? 38).map (·.size) = some G9.cells.length := by rw [h7G]; exact sizeFrame
      obtain ⟨SG, hSG⟩ : ∃ q, fsum G9 lw2 lb2 ws2 body2 = q := ⟨_, rfl⟩
      have hSGok : okK SG := by rw [← hSG]; exact fsum_ok _ _ _ _ _
      have HSG := Veil.mk hSG
      obtain ⟨FV, hFV⟩ : ∃ q, SF.map (Value.int .u8) = q := ⟨_, rfl⟩
      obtain ⟨GV, hGV⟩ : ∃ q, SG.map (Value.int .u8) = q := ⟨_, rfl⟩
      have HS1 : Veil (∀ V, Below w.heap.size w V → Calls Tryd.prog 16 #[.agg F3.cells.toArray] V fun e w' => e = .returned (.agg FV.toArray) ∧ Below V.heap.size V w') := ⟨fun V hb => by
        have := rfSum_any F3 xw2 lw2 cw2 ws2 xb2 lb2 cb2 body2 V (HFR.out.below hb)
        unfold row at this
        rw [HSF.out, hFV] at this
        exact this⟩
      have HS2 : Veil (∀ V, Below w.heap.size w V → Calls Tryd.prog 16 #[.agg G9.cells.toArray] V fun e w' => e = .returned (.agg GV.toArray) ∧ Below V.heap.size V w') := ⟨fun V hb => by
        have := rfSum_any G9 xw2 lw2 cw2 ws2 xb2 lb2 cb2 body2 V (HFG.out.1.below hb)
        unfold row at this
        rw [hSG, hGV] at this
        exact this⟩
      have HVS := Veil.mk (And.intro hFV hGV)
      have hFl : FV.length = 32 := by rw [← hFV, List.length_map, hSFok.1]
      have hGl : GV.length = 32 := by rw [← hGV, List.length_map, hSGok.1]
      have h1f : ∀ v ∈ FV, v.oneCell' = true := fun v hv => by rw [← hFV] at hv; obtain ⟨x, _, rfl⟩ := List.mem_map.1 hv; rfl
      have h1g : ∀ v ∈ GV, v.oneCell' = true := fun v hv => by rw [← hGV] at hv; obtain ⟨x, _, rfl⟩ := List.mem_map.1 hv; rfl
      have iFV : (Tryd.prog.info? 34).map (·.size) = some FV.length := by rw [hFl]; exact sizeKeyH
      have iGV : (Tryd.prog.info? 34).map (·.size) = some GV.length := by rw [hGl]; exact sizeKeyH
      have uF : Tryd.prog.underlying 38 = _ := Tryd.underlying38
      clear hSG hFV hGV
      obtain ⟨ZK, hzvK, hz1K, hZKl⟩ : ∃ q : List Value, (∀ wx, (zeroValue 34).run Tryd.prog wx = .ok (.agg q.toArray) wx) ∧ ¬ q.toArray = #[] ∧ q.length = 32 := ⟨keyC zk, fun wx => zero_ofH (by kernel_rfl) wx, by decide, rfl⟩
      refine wp_meetE (fun AC V => ∃ (g4 g5 : Nat) (u : Nat → Value), AC = ⟨#[u 0, u 1, u 2, .pointer (some ⟨A, 0, none⟩), .bool false, .pointer (some ⟨H, 0, none⟩), u 6, u 7, u 8, .pointer (some ⟨B9, 0, none⟩), .pointer (some ⟨g4, 0, none⟩), .pointer (some ⟨g5, 0, none⟩), u 12, u 13, u 14, u 15, u 16, u 17, u 18, u 19, u 20, u 21, u 22, u 23, u 24, u 25, u 26, u 27, u 28, u 29, u 30, u 31, u 32, u 33, u 34, u 35, u 36, u 37, u 38, u 39, u 40, u 41, u 42, u 43, u 44, u 45, u 46, u 47, u 48, u 49, u 50, u 51, u 52, u 53, u 54, u 55, u 56, u 57, u 58, u 59, u 60, u 61, u 62, u 63, u 64, u 65, u 66, u 67, u 68, u 69, u 70, u 71, u 72, u 73, u 74, u 75, u 76, u 77, u 78, u 79, u 80, u 81, u 82, u 83, u 84, u 85, u 86, u 87, u 88, u 89, u 90, u 91, u 92, u 93, u 94, u 95, u 96, u 97, u 98, u 99, u 100, u 101, u 102, u 103, u 104, u 105, u 106, u 107, u 108, u 109, u 110, u 111, u 112, u 113, u 114, u 115, u 116, u 117, u 118, u 119, u 120, u 121, u 122, u 123, u 124, u 125, u 126, u 127, u 128, u 129, u 130, u 131, u 132, u 133, u 134, u 135, u 136, u 137, u 138, u 139], []⟩ ∧ Below w.heap.size w V ∧ Keeps V (A + 1) H b v6 T1 P [(g4, 34, FV), (g5, 34, GV), (B9, 38, G9.cells), (A, 38, F3.cells)]) ?_ ?_
      · refine wp_region_gateT (fun w' => w'.rangeAt A 0 F3.cells ∧ w'.rangeAt B9 0 G9.cells) (fun _ => True) 99 (by kernel_rfl) ?_
        have HTT : ∀ V, CellsAt V A 38 F3.cells ∧ CellsAt V B9 38 G9.cells → (fun w' : World => w'.rangeAt A 0 F3.cells ∧ w'.rangeAt B9 0 G9.cells) V := fun V h => ⟨h.1.wholeM, h.2.wholeM⟩
        have hS := trivial
        refine forget (p := fun y => wpAnyT _ _ _ _ _ _ _ _ _ _ y) (fun V => Below w.heap.size w V ∧ Keeps V (A + 1) H b v6 T1 P [(B9, 38, G9.cells), (A, 38, F3.cells)]) ⟨hb.drew, hK.far (Below.refl _ _).drew⟩ ?_
        clear hb hK
        clear V
        rintro V0 ⟨hBV0, hKV0⟩
        have hT := HTT V0 ⟨(hKV0.k (A, 38, F3.cells) (by simp)).1, (hKV0.k (B9, 38, G9.cells) (by simp)).1⟩
        refine wpAnyT_load (i := 0) (dst := some 88) (ty := 38) (x := .tmp 3) (b := A) (o := (0)) (cs := F3.cells) (by kernel_rfl) (by kernel_rfl) (by kernel_rfl) (by kernel_rfl) (by kernel_rfl) (fun _ _ _ h => h) (by kernel_rfl) hT (fun _ => hS) (by kernel_rfl) (fun _ h => h.1) uF rfl iF3 ?_
        simp only [Act.put, List.getElem_toArray, List.getElem_cons_succ, List.getElem_cons_zero, List.setIfInBounds_toArray, List.set_cons_zero, List.set_cons_succ]
        refine wpAnyT_load (i := 2) (dst := some 90) (ty := 38) (x := .tmp 9) (b := B9) (o := (0)) (cs := G9.cells) (by kernel_rfl) (by kernel_rfl) (by kernel_rfl) (by kernel_rfl) (by kernel_rfl) (fun _ _ _ h => h) (by kernel_rfl) hT (fun _ => hS) (by kernel_rfl) (fun _ h => h.2) uF rfl iG9 ?_
        simp only [Act.put, List.getElem_toArray, List.getElem_cons_succ, List.getElem_cons_zero, List.setIfInBounds_toArray, List.set_cons_zero, List.set_cons_succ]
        refine wpAnyT_three (i := 1) (j := 4) (l := 5) rfl rfl rfl (by kernel_rfl) (by kernel_rfl) (by kernel_rfl) (by kernel_rfl) (fun K hK => ?_) (fun K hK => ?_) (fun K hK => ?_)
        · refine wpx_call _ _ (by kernel_rfl) ((HS1.out V0 hBV0).mono ?_)
          rintro e V11 ⟨rfl, hbV11⟩
          refine ⟨_, rfl, ?_⟩
          have hKV11 := hKV0.far hbV11
          have hBV11 := hBV0.trans (hbV11.mono hBV0.size)
          replace hT := HTT V11 ⟨(hKV11.k (A, 38, F3.cells) (by simp)).1, (hKV11.k (B9, 38, G9.cells) (by simp)).1⟩
          refine hK.out _ _ hT (fun _ => hS) ?_
          clear hK K
          try simp only [Act.put, List.getElem_toArray, List.getElem_cons_succ, List.getElem_cons_zero, List.setIfInBounds_toArray, List.set_cons_zero, List.set_cons_succ]
          refine wpAnyT_three (i := 3) (j := 4) (l := 5) rfl rfl rfl (by kernel_rfl) (by kernel_rfl) (by kernel_rfl) (by kernel_rfl) (fun K hK => ?_) (fun K hK => ?_) (fun K hK => ?_)
          · refine wpx_call _ _ (by kernel_rfl) ((HS2.out V11 hBV11).mono ?_)
            rintro e V23 ⟨rfl, hbV23⟩
            refine ⟨_, rfl, ?_⟩
            have hKV23 := hKV11.far hbV23
            have hBV23 := hBV11.trans (hbV23.mono hBV11.size)
            replace hT := HTT V23 ⟨(hKV23.k (A, 38, F3.cells) (by simp)).1, (hKV23.k (B9, 38, G9.cells) (by simp)).1⟩
            refine hK.out _ _ hT (fun _ => hS) ?_
            clear hK K
            try simp only [Act.put, List.getElem_toArray, List.getElem_cons_succ, List.getElem_cons_zero, List.setIfInBounds_toArray, List.set_cons_zero, List.set_cons_succ]
            refine wpAnyT_two (i := 4) (j := 5) rfl rfl (by kernel_rfl) (by kernel_rfl) (by kernel_rfl) (fun K hK => ?_) (fun K hK => ?_)
            · go_simp
              have hKV34 := hKV23.laid (t := 34) ZK
              have hBV34 := hBV23.alloc hBV23.size (.cells ZK.toArray 34)
              have l3a := (hKV23.k (A, 38, F3.cells) (by simp)).1.lt
              have l3b := (hKV23.k (B9, 38, G9.cells) (by simp)).1.lt
              have l3w := hBV23.size
              refine forget (p := fun y => K _ y) (fun X => Below w.heap.size w X ∧ Keeps X (A + 1) H b v6 T1 P [(V23.heap.size, 34, ZK), (B9, 38, G9.cells), (A, 38, F3.cells)]) ⟨hBV34, hKV34⟩ ?_
              clear hKV34 hBV34
              rintro V34 ⟨hBV34, hKV34⟩
              replace hT := HTT V34 ⟨(hKV34.k (A, 38, F3.cells) (by simp)).1, (hKV34.k (B9, 38, G9.cells) (by simp)).1⟩
              refine hK.out _ _ hT (fun _ => hS) ?_
              clear hK K
              try simp only [Act.put, List.getElem_toArray, List.getElem_cons_succ, List.getElem_cons_zero, List.setIfInBounds_toArray, List.set_cons_zero, List.set_cons_succ]
              refine wpAnyT_one (i := 5) rfl (by kernel_rfl) (by kernel_rfl) (fun K hK => ?_)
              go_simp
              have hKV45 := hKV34.laid (t := 34) ZK
              have hBV45 := hBV34.alloc hBV34.size (.cells ZK.toArray 34)
              have l4a := (hKV34.k (A, 38, F3.cells) (by simp)).1.lt
              have l4b := (hKV34.k (B9, 38, G9.cells) (by simp)).1.lt
              have l4w := hBV34.size
              have l4g4 := (hKV34.k (V23.heap.size, 34, ZK) (by simp)).1.lt
              refine forget (p := fun y => K _ y) (fun X => Below w.heap.size w X ∧ Keeps X (A + 1) H b v6 T1 P [(V34.heap.size, 34, ZK), (V23.heap.size, 34, ZK), (B9, 38, G9.cells), (A, 38, F3.cells)]) ⟨hBV45, hKV45⟩ ?_
              clear hKV45 hBV45
              rintro V45 ⟨hBV45, hKV45⟩
              replace hT := HTT V45 ⟨(hKV45.k (A, 38, F3.cells) (by simp)).1, (hKV45.k (B9, 38, G9.cells) (by simp)).1⟩
              refine hK.out _ _ hT (fun _ => hS) ?_
              clear hK K
              try simp only [Act.put, List.getElem_toArray, List.getElem_cons_succ, List.getElem_cons_zero, List.setIfInBounds_toArray, List.set_cons_zero, List.set_cons_succ]
              refine wpAnyT_one (i := 6) rfl (by kernel_rfl) (by kernel_rfl) (fun K hK => ?_)
              refine wp_stvE 34 _ _ rfl _ rfl rfl (hKV45.k (V23.heap.size, 34, ZK) (by simp)).1 iFV (by rw [hFl, hZKl]) h1f ?_
              have hE := hKV45.fill2 (g4 := V23.heap.size) (g5 := V34.heap.size) (t := 34) (z := ZK) (L0 := [(B9, 38, G9.cells), (A, 38, F3.cells)]) FV GV (fun e he => by simp only [List.mem_cons, List.not_mem_nil, or_false] at he; rcases he with rfl | rfl <;> exact ⟨by simp, by show _ ≠ _; omega, by show _ ≠ _; omega⟩) (by simp) (by simp) (by omega)
              have h5 : CellsAt ((V45).setRow V23.heap.size FV.toArray) V34.heap.size 34 ZK := (hKV45.k (V34.heap.size, 34, ZK) (by simp)).1.setRowM _ (by omega)
              replace hT := HTT ((V45).setRow V23.heap.size FV.toArray) ⟨(hKV45.k (A, 38, F3.cells) (by simp)).1.setRowM _ (by omega), (hKV45.k (B9, 38, G9.cells) (by simp)).1.setRowM _ (by omega)⟩
              refine hK.out _ _ hT (fun _ => hS) ?_
              clear hK K
              try simp only [Act.put, List.getElem_toArray, List.getElem_cons_succ, List.getElem_cons_zero, List.setIfInBounds_toArray, List.set_cons_zero, List.set_cons_succ]
              refine wpAnyT_one (i := 7) rfl (by kernel_rfl) (by kernel_rfl) (fun K hK => ?_)
              refine wp_stvE 34 _ _ rfl _ rfl rfl h5 iGV (by rw [hGl, hZKl]) h1g ?_
              replace hT := HTT _ ⟨(hE.k (A, 38, F3.cells) (by simp)).1, (hE.k (B9, 38, G9.cells) (by simp)).1⟩
              refine hK.out _ _ hT (fun _ => hS) ?_
              clear hK K
              try simp only [Act.put, List.getElem_toArray, List.getElem_cons_succ, List.getElem_cons_zero, List.setIfInBounds_toArray, List.set_cons_zero, List.set_cons_succ]
              refine wpAnyT_done (by kernel_rfl) ?_ _
              exact ⟨_, _, meetU (by kernel_rfl) ⟨below_setRow (below_setRow hBV45 (by omega) _) (by omega) _, hE⟩⟩
            · go_simp
              have hKV35 := hKV23.laid (t := 34) ZK
              have hBV35 := hBV23.alloc hBV23.size (.cells ZK.toArray 34)
              have l3a := (hKV23.k (A, 38, F3.cells) (by simp)).1.lt
              have l3b := (hKV23.k (B9, 38, G9.cells) (by simp)).1.lt
              have l3w := hBV23.size
              refine forget (p := fun y => K _ y) (fun X => Below w.heap.size w X ∧ Keeps X (A + 1) H b v6 T1 P [(V23.heap.size, 34, ZK), (B9, 38, G9.cells), (A, 38, F3.cells)]) ⟨hBV35, hKV35⟩ ?_
              clear hKV35 hBV35
              rintro V35 ⟨hBV35, hKV35⟩
              replace hT := HTT V35 ⟨(hKV35.k (A, 38, F3.cells) (by simp)).1, (hKV35.k (B9, 38, G9.cells) (by simp)).1⟩
              refine hK.out _ _ hT (fun _ => hS) ?_
              clear hK K
              try simp only [Act.put, List.getElem_toArray, List.getElem_cons_succ, List.getElem_cons_zero, List.setIfInBounds_toArray, List.set_cons_zero, List.set_cons_succ]
              refine wpAnyT_one (i := 4) rfl (by kernel_rfl) (by kernel_rfl) (fun K hK => ?_)
              go_simp
              have hKV44 := hKV35.laid (t := 34) ZK
              have hBV44 := hBV35.alloc hBV35.size (.cells ZK.toArray 34)
              have l4a := (hKV35.k (A, 38, F3.cells) (by simp)).1.lt
              have l4b := (hKV35.k (B9, 38, G9.cells) (by simp)).1.lt
              have l4w := hBV35.size
              have l4g5 := (hKV35.k (V23.heap.size, 34, ZK) (by simp)).1.lt
              refine forget (p := fun y => K _ y) (fun X => Below w.heap.size w X ∧ Keeps X (A + 1) H b v6 T1 P [(V35.heap.size, 34, ZK), (V23.heap.size, 34, ZK), (B9, 38, G9.cells), (A, 38, F3.cells)]) ⟨hBV44, hKV44⟩ ?_
              clear hKV44 hBV44
              rintro V44 ⟨hBV44, hKV44⟩
              replace hT := HTT V44 ⟨(hKV44.k (A, 38, F3.cells) (by simp)).1, (hKV44.k (B9, 38, G9.cells) (by simp)).1⟩
              refine hK.out _ _ hT (fun _ => hS) ?_
              clear hK K
              try simp only [Act.put, List.getElem_toArray, List.getElem_cons_succ, List.getElem_cons_zero, List.setIfInBounds_toArray, List.set_cons_zero, List.set_cons_succ]
              refine wpAnyT_one (i := 6) rfl (by kernel_rfl) (by kernel_rfl) (fun K hK => ?_)
              refine wp_stvE 34 _ _ rfl _ rfl rfl (hKV44.k (V35.heap.size, 34, ZK) (by simp)).1 iFV (by rw [hFl, hZKl]) h1f ?_
              have hE := hKV44.fill2 (g4 := V35.heap.size) (g5 := V23.heap.size) (t := 34) (z := ZK) (L0 := [(B9, 38, G9.cells), (A, 38, F3.cells)]) FV GV (fun e he => by simp only [List.mem_cons, List.not_mem_nil, or_false] at he; rcases he with rfl | rfl <;> exact ⟨by simp, by show _ ≠ _; omega, by show _ ≠ _; omega⟩) (by simp) (by simp) (by omega)
              have h5 : CellsAt ((V44).setRow V35.heap.size FV.toArray) V23.heap.size 34 ZK := (hKV44.k (V23.heap.size, 34, ZK) (by simp)).1.setRowM _ (by omega)
              replace hT := HTT ((V44).setRow V35.heap.size FV.toArray) ⟨(hKV44.k (A, 38, F3.cells) (by simp)).1.setRowM _ (by omega), (hKV44.k (B9, 38, G9.cells) (by simp)).1.setRowM _ (by omega)⟩
              refine hK.out _ _ hT (fun _ => hS) ?_
              clear hK K
              try simp only [Act.put, List.getElem_toArray, List.getElem_cons_succ, List.getElem_cons_zero, List.setIfInBounds_toArray, List.set_cons_zero, List.set_cons_succ]
              refine wpAnyT_one (i := 7) rfl (by kernel_rfl) (by kernel_rfl) (fun K hK => ?_)
              refine wp_stvE 34 _ _ rfl _ rfl rfl h5 iGV (by rw [hGl, hZKl]) h1g ?_
              replace hT := HTT _ ⟨(hE.k (A, 38, F3.cells) (by simp)).1, (hE.k (B9, 38, G9.cells) (by simp)).1⟩
              refine hK.out _ _ hT (fun _ => hS) ?_
              clear hK K
              try simp only [Act.put, List.getElem_toArray, List.getElem_cons_succ, List.getElem_cons_zero, List.setIfInBounds_toArray, List.set_cons_zero, List.set_cons_succ]
              refine wpAnyT_done (by kernel_rfl) ?_ _
              exact ⟨_, _, meetU (by kernel_rfl) ⟨below_setRow (below_setRow hBV44 (by omega) _) (by omega) _, hE⟩⟩
          · go_simp
            have hKV24 := hKV11.laid (t := 34) ZK
            have hBV24 := hBV11.alloc hBV11.size (.cells ZK.toArray 34)
            have l2a := (hKV11.k (A, 38, F3.cells) (by simp)).1.lt
            have l2b := (hKV11.k (B9, 38, G9.cells) (by simp)).1.lt
            have l2w := hBV11.size
            refine forget (p := fun y => K _ y) (fun X => Below w.heap.size w X ∧ Keeps X (A + 1) H b v6 T1 P [(V11.heap.size, 34, ZK), (B9, 38, G9.cells), (A, 38, F3.cells)]) ⟨hBV24, hKV24⟩ ?_
            clear hKV24 hBV24
            rintro V24 ⟨hBV24, hKV24⟩
            replace hT := HTT V24 ⟨(hKV24.k (A, 38, F3.cells) (by simp)).1, (hKV24.k (B9, 38, G9.cells) (by simp)).1⟩
            refine hK.out _ _ hT (fun _ => hS) ?_
            clear hK K
            try simp only [Act.put, List.getElem_toArray, List.getElem_cons_succ, List.getElem_cons_zero, List.setIfInBounds_toArray, List.set_cons_zero, List.set_cons_succ]
            refine wpAnyT_two (i := 3) (j := 5) rfl rfl (by kernel_rfl) (by kernel_rfl) (by kernel_rfl) (fun K hK => ?_) (fun K hK => ?_)
            · refine wpx_call _ _ (by kernel_rfl) ((HS2.out V24 hBV24).mono ?_)
              rintro e V33 ⟨rfl, hbV33⟩
              refine ⟨_, rfl, ?_⟩
              have hKV33 := hKV24.far hbV33
              have hBV33 := hBV24.trans (hbV33.mono hBV24.size)
              replace hT := HTT V33 ⟨(hKV33.k (A, 38, F3.cells) (by simp)).1, (hKV33.k (B9, 38, G9.cells) (by simp)).1⟩
              refine hK.out _ _ hT (fun _ => hS) ?_
              clear hK K
              try simp only [Act.put, List.getElem_toArray, List.getElem_cons_succ, List.getElem_cons_zero, List.setIfInBounds_toArray, List.set_cons_zero, List.set_cons_succ]
              refine wpAnyT_one (i := 5) rfl (by kernel_rfl) (by kernel_rfl) (fun K hK => ?_)
              go_simp
              have hKV45 := hKV33.laid (t := 34) ZK
              have hBV45 := hBV33.alloc hBV33.size (.cells ZK.toArray 34)
              have l4a := (hKV33.k (A, 38, F3.cells) (by simp)).1.lt
              have l4b := (hKV33.k (B9, 38, G9.cells) (by simp)).1.lt
              have l4w := hBV33.size
              have l4g4 := (hKV33.k (V11.heap.size, 34, ZK) (by simp)).1.lt
              refine forget (p := fun y => K _ y) (fun X => Below w.heap.size w X ∧ Keeps X (A + 1) H b v6 T1 P [(V33.heap.size, 34, ZK), (V11.heap.size, 34, ZK), (B9, 38, G9.cells), (A, 38, F3.cells)]) ⟨hBV45, hKV45⟩ ?_
              clear hKV45 hBV45
              rintro V45 ⟨hBV45, hKV45⟩
              replace hT := HTT V45 ⟨(hKV45.k (A, 38, F3.cells) (by simp)).1, (hKV45.k (B9, 38, G9.cells) (by simp)).1⟩
              refine hK.out _ _ hT (fun _ => hS) ?_
              clear hK K
              try simp only [Act.put, List.getElem_toArray, List.getElem_cons_succ, List.getElem_cons_zero, List.setIfInBounds_toArray, List.set_cons_zero, List.set_cons_succ]
              refine wpAnyT_one (i := 6) rfl (by kernel_rfl) (by kernel_rfl) (fun K hK => ?_)
              refine wp_stvE 34 _ _ rfl _ rfl rfl (hKV45.k (V11.heap.size, 34, ZK) (by simp)).1 iFV (by rw [hFl, hZKl]) h1f ?_
              have hE := hKV45.fill2 (g4 := V11.heap.size) (g5 := V33.heap.size) (t := 34) (z := ZK) (L0 := [(B9, 38, G9.cells), (A, 38, F3.cells)]) FV GV (fun e he => by simp only [List.mem_cons, List.not_mem_nil, or_false] at he; rcases he with rfl | rfl <;> exact ⟨by simp, by show _ ≠ _; omega, by show _ ≠ _; omega⟩) (by simp) (by simp) (by omega)
              have h5 : CellsAt ((V45).setRow V11.heap.size FV.toArray) V33.heap.size 34 ZK := (hKV45.k (V33.heap.size, 34, ZK) (by simp)).1.setRowM _ (by omega)
              replace hT := HTT ((V45).setRow V11.heap.size FV.toArray) ⟨(hKV45.k (A, 38, F3.cells) (by simp)).1.setRowM _ (by omega), (hKV45.k (B9, 38, G9.cells) (by simp)).1.setRowM _ (by omega)⟩
              refine hK.out _ _ hT (fun _ => hS) ?_
              clear hK K
              try simp only [Act.put, List.getElem_toArray, List.getElem_cons_succ, List.getElem_cons_zero, List.setIfInBounds_toArray, List.set_cons_zero, List.set_cons_succ]
              refine wpAnyT_one (i := 7) rfl (by kernel_rfl) (by kernel_rfl) (fun K hK => ?_)
              refine wp_stvE 34 _ _ rfl _ rfl rfl h5 iGV (by rw [hGl, hZKl]) h1g ?_
              replace hT := HTT _ ⟨(hE.k (A, 38, F3.cells) (by simp)).1, (hE.k (B9, 38, G9.cells) (by simp)).1⟩
              refine hK.out _ _ hT (fun _ => hS) ?_
              clear hK K
              try simp only [Act.put, List.getElem_toArray, List.getElem_cons_succ, List.getElem_cons_zero, List.setIfInBounds_toArray, List.set_cons_zero, List.set_cons_succ]
              refine wpAnyT_done (by kernel_rfl) ?_ _
              exact ⟨_, _, meetU (by kernel_rfl) ⟨below_setRow (below_setRow hBV45 (by omega) _) (by omega) _, hE⟩⟩
            · go_simp
              have hKV35 := hKV24.laid (t := 34) ZK
              have hBV35 := hBV24.alloc hBV24.size (.cells ZK.toArray 34)
              have l3a := (hKV24.k (A, 38, F3.cells) (by simp)).1.lt
              have l3b := (hKV24.k (B9, 38, G9.cells) (by simp)).1.lt
              have l3w := hBV24.size
              have l3g4 := (hKV24.k (V11.heap.size, 34, ZK) (by simp)).1.lt
              refine forget (p := fun y => K _ y) (fun X => Below w.heap.size w X ∧ Keeps X (A + 1) H b v6 T1 P [(V24.heap.size, 34, ZK), (V11.heap.size, 34, ZK), (B9, 38, G9.cells), (A, 38, F3.cells)]) ⟨hBV35, hKV35⟩ ?_
              clear hKV35 hBV35
              rintro V35 ⟨hBV35, hKV35⟩
              replace hT := HTT V35 ⟨(hKV35.k (A, 38, F3.cells) (by simp)).1, (hKV35.k (B9, 38, G9.cells) (by simp)).1⟩
              refine hK.out _ _ hT (fun _ => hS) ?_
              clear hK K
              try simp only [Act.put, List.getElem_toArray, List.getElem_cons_succ, List.getElem_cons_zero, List.setIfInBounds_toArray, List.set_cons_zero, List.set_cons_succ]
              refine wpAnyT_one (i := 3) rfl (by kernel_rfl) (by kernel_rfl) (fun K hK => ?_)
              refine wpx_call _ _ (by kernel_rfl) ((HS2.out V35 hBV35).mono ?_)
              rintro e V43 ⟨rfl, hbV43⟩
              refine ⟨_, rfl, ?_⟩
              have hKV43 := hKV35.far hbV43
              have hBV43 := hBV35.trans (hbV43.mono hBV35.size)
              replace hT := HTT V43 ⟨(hKV43.k (A, 38, F3.cells) (by simp)).1, (hKV43.k (B9, 38, G9.cells) (by simp)).1⟩
              refine hK.out _ _ hT (fun _ => hS) ?_
              clear hK K
              try simp only [Act.put, List.getElem_toArray, List.getElem_cons_succ, List.getElem_cons_zero, List.setIfInBounds_toArray, List.set_cons_zero, List.set_cons_succ]
              refine wpAnyT_one (i := 6) rfl (by kernel_rfl) (by kernel_rfl) (fun K hK => ?_)
              refine wp_stvE 34 _ _ rfl _ rfl rfl (hKV43.k (V11.heap.size, 34, ZK) (by simp)).1 iFV (by rw [hFl, hZKl]) h1f ?_
              have hE := hKV43.fill2 (g4 := V11.heap.size) (g5 := V24.heap.size) (t := 34) (z := ZK) (L0 := [(B9, 38, G9.cells), (A, 38, F3.cells)]) FV GV (fun e he => by simp only [List.mem_cons, List.not_mem_nil, or_false] at he; rcases he with rfl | rfl <;> exact ⟨by simp, by show _ ≠ _; omega, by show _ ≠ _; omega⟩) (by simp) (by simp) (by omega)
              have h5 : CellsAt ((V43).setRow V11.heap.size FV.toArray) V24.heap.size 34 ZK := (hKV43.k (V24.heap.size, 34, ZK) (by simp)).1.setRowM _ (by omega)
              replace hT := HTT ((V43).setRow V11.heap.size FV.toArray) ⟨(hKV43.k (A, 38, F3.cells) (by simp)).1.setRowM _ (by omega), (hKV43.k (B9, 38, G9.cells) (by simp)).1.setRowM _ (by omega)⟩
              refine hK.out _ _ hT (fun _ => hS) ?_
              clear hK K
              try simp only [Act.put, List.getElem_toArray, List.getElem_cons_succ, List.getElem_cons_zero, List.setIfInBounds_toArray, List.set_cons_zero, List.set_cons_succ]
              refine wpAnyT_one (i := 7) rfl (by kernel_rfl) (by kernel_rfl) (fun K hK => ?_)
              refine wp_stvE 34 _ _ rfl _ rfl rfl h5 iGV (by rw [hGl, hZKl]) h1g ?_
              replace hT := HTT _ ⟨(hE.k (A, 38, F3.cells) (by simp)).1, (hE.k (B9, 38, G9.cells) (by simp)).1⟩
              refine hK.out _ _ hT (fun _ => hS) ?_
              clear hK K
              try simp only [Act.put, List.getElem_toArray, List.getElem_cons_succ, List.getElem_cons_zero, List.setIfInBounds_toArray, List.set_cons_zero, List.set_cons_succ]
              refine wpAnyT_done (by kernel_rfl) ?_ _
              exact ⟨_, _, meetU (by kernel_rfl) ⟨below_setRow (below_setRow hBV43 (by omega) _) (by omega) _, hE⟩⟩
          · go_simp
            have hKV25 := hKV11.laid (t := 34) ZK
            have hBV25 := hBV11.alloc hBV11.size (.cells ZK.toArray 34)
            have l2a := (hKV11.k (A, 38, F3.cells) (by simp)).1.lt
            have l2b := (hKV11.k (B9, 38, G9.cells) (by simp)).1.lt
            have l2w := hBV11.size
            refine forget (p := fun y => K _ y) (fun X => Below w.heap.size w X ∧ Keeps X (A + 1) H b v6 T1 P [(V11.heap.size, 34, ZK), (B9, 38, G9.cells), (A, 38, F3.cells)]) ⟨hBV25, hKV25⟩ ?_
            clear hKV25 hBV25
            rintro V25 ⟨hBV25, hKV25⟩
            replace hT := HTT V25 ⟨(hKV25.k (A, 38, F3.cells) (by simp)).1, (hKV25.k (B9, 38, G9.cells) (by simp)).1⟩
            refine hK.out _ _ hT (fun _ => hS) ?_
            clear hK K
            try simp only [Act.put, List.getElem_toArray, List.getElem_cons_succ, List.getElem_cons_zero, List.setIfInBounds_toArray, List.set_cons_zero, List.set_cons_succ]
            refine wpAnyT_two (i := 3) (j := 4) rfl rfl (by kernel_rfl) (by kernel_rfl) (by kernel_rfl) (fun K hK => ?_) (fun K hK => ?_)
            · refine wpx_call _ _ (by kernel_rfl) ((HS2.out V25 hBV25).mono ?_)
              rintro e V33 ⟨rfl, hbV33⟩
              refine ⟨_, rfl, ?_⟩
              have hKV33 := hKV25.far hbV33
              have hBV33 := hBV25.trans (hbV33.mono hBV25.size)
              replace hT := HTT V33 ⟨(hKV33.k (A, 38, F3.cells) (by simp)).1, (hKV33.k (B9, 38, G9.cells) (by simp)).1⟩
              refine hK.out _ _ hT (fun _ => hS) ?_
              clear hK K
              try simp only [Act.put, List.getElem_toArray, List.getElem_cons_succ, List.getElem_cons_zero, List.setIfInBounds_toArray, List.set_cons_zero, List.set_cons_succ]
              refine wpAnyT_one (i := 4) rfl (by kernel_rfl) (by kernel_rfl) (fun K hK => ?_)
              go_simp
              have hKV44 := hKV33.laid (t := 34) ZK
              have hBV44 := hBV33.alloc hBV33.size (.cells ZK.toArray 34)
              have l4a := (hKV33.k (A, 38, F3.cells) (by simp)).1.lt
              have l4b := (hKV33.k (B9, 38, G9.cells) (by simp)).1.lt
              have l4w := hBV33.size
              have l4g5 := (hKV33.k (V11.heap.size, 34, ZK) (by simp)).1.lt
              refine forget (p := fun y => K _ y) (fun X => Below w.heap.size w X ∧ Keeps X (A + 1) H b v6 T1 P [(V33.heap.size, 34, ZK), (V11.heap.size, 34, ZK), (B9, 38, G9.cells), (A, 38, F3.cells)]) ⟨hBV44, hKV44⟩ ?_
              clear hKV44 hBV44
              rintro V44 ⟨hBV44, hKV44⟩
              replace hT := HTT V44 ⟨(hKV44.k (A, 38, F3.cells) (by simp)).1, (hKV44.k (B9, 38, G9.cells) (by simp)).1⟩
              refine hK.out _ _ hT (fun _ => hS) ?_
              clear hK K
              try simp only [Act.put, List.getElem_toArray, List.getElem_cons_succ, List.getElem_cons_zero, List.setIfInBounds_toArray, List.set_cons_zero, List.set_cons_succ]
              refine wpAnyT_one (i := 6) rfl (by kernel_rfl) (by kernel_rfl) (fun K hK => ?_)
              refine wp_stvE 34 _ _ rfl _ rfl rfl (hKV44.k (V33.heap.size, 34, ZK) (by simp)).1 iFV (by rw [hFl, hZKl]) h1f ?_
              have hE := hKV44.fill2 (g4 := V33.heap.size) (g5 := V11.heap.size) (t := 34) (z := ZK) (L0 := [(B9, 38, G9.cells), (A, 38, F3.cells)]) FV GV (fun e he => by simp only [List.mem_cons, List.not_mem_nil, or_false] at he; rcases he with rfl | rfl <;> exact ⟨by simp, by show _ ≠ _; omega, by show _ ≠ _; omega⟩) (by simp) (by simp) (by omega)
              have h5 : CellsAt ((V44).setRow V33.heap.size FV.toArray) V11.heap.size 34 ZK := (hKV44.k (V11.heap.size, 34, ZK) (by simp)).1.setRowM _ (by omega)
              replace hT := HTT ((V44).setRow V33.heap.size FV.toArray) ⟨(hKV44.k (A, 38, F3.cells) (by simp)).1.setRowM _ (by omega), (hKV44.k (B9, 38, G9.cells) (by simp)).1.setRowM _ (by omega)⟩
              refine hK.out _ _ hT (fun _ => hS) ?_
              clear hK K
              try simp only [Act.put, List.getElem_toArray, List.getElem_cons_succ, List.getElem_cons_zero, List.setIfInBounds_toArray, List.set_cons_zero, List.set_cons_succ]
              refine wpAnyT_one (i := 7) rfl (by kernel_rfl) (by kernel_rfl) (fun K hK => ?_)
              refine wp_stvE 34 _ _ rfl _ rfl rfl h5 iGV (by rw [hGl, hZKl]) h1g ?_
              replace hT := HTT _ ⟨(hE.k (A, 38, F3.cells) (by simp)).1, (hE.k (B9, 38, G9.cells) (by simp)).1⟩
              refine hK.out _ _ hT (fun _ => hS) ?_
              clear hK K
              try simp only [Act.put, List.getElem_toArray, List.getElem_cons_succ, List.getElem_cons_zero, List.setIfInBounds_toArray, List.set_cons_zero, List.set_cons_succ]
              refine wpAnyT_done (by kernel_rfl) ?_ _
              exact ⟨_, _, meetU (by kernel_rfl) ⟨below_setRow (below_setRow hBV44 (by omega) _) (by omega) _, hE⟩⟩
            · go_simp
              have hKV34 := hKV25.laid (t := 34) ZK
              have hBV34 := hBV25.alloc hBV25.size (.cells ZK.toArray 34)
              have l3a := (hKV25.k (A, 38, F3.cells) (by simp)).1.lt
              have l3b := (hKV25.k (B9, 38, G9.cells) (by simp)).1.lt
              have l3w := hBV25.size
              have l3g5 := (hKV25.k (V11.heap.size, 34, ZK) (by simp)).1.lt
              refine forget (p := fun y => K _ y) (fun X => Below w.heap.size w X ∧ Keeps X (A + 1) H b v6 T1 P [(V25.heap.size, 34, ZK), (V11.heap.size, 34, ZK), (B9, 38, G9.cells), (A, 38, F3.cells)]) ⟨hBV34, hKV34⟩ ?_
              clear hKV34 hBV34
              rintro V34 ⟨hBV34, hKV34⟩
              replace hT := HTT V34 ⟨(hKV34.k (A, 38, F3.cells) (by simp)).1, (hKV34.k (B9, 38, G9.cells) (by simp)).1⟩
              refine hK.out _ _ hT (fun _ => hS) ?_
              clear hK K
              try simp only [Act.put, List.getElem_toArray, List.getElem_cons_succ, List.getElem_cons_zero, List.setIfInBounds_toArray, List.set_cons_zero, List.set_cons_succ]
              refine wpAnyT_one (i := 3) rfl (by kernel_rfl) (by kernel_rfl) (fun K hK => ?_)
              refine wpx_call _ _ (by kernel_rfl) ((HS2.out V34 hBV34).mono ?_)
              rintro e V43 ⟨rfl, hbV43⟩
              refine ⟨_, rfl, ?_⟩
              have hKV43 := hKV34.far hbV43
              have hBV43 := hBV34.trans (hbV43.mono hBV34.size)
              replace hT := HTT V43 ⟨(hKV43.k (A, 38, F3.cells) (by simp)).1, (hKV43.k (B9, 38, G9.cells) (by simp)).1⟩
              refine hK.out _ _ hT (fun _ => hS) ?_
              clear hK K
              try simp only [Act.put, List.getElem_toArray, List.getElem_cons_succ, List.getElem_cons_zero, List.setIfInBounds_toArray, List.set_cons_zero, List.set_cons_succ]
              refine wpAnyT_one (i := 6) rfl (by kernel_rfl) (by kernel_rfl) (fun K hK => ?_)
              refine wp_stvE 34 _ _ rfl _ rfl rfl (hKV43.k (V25.heap.size, 34, ZK) (by simp)).1 iFV (by rw [hFl, hZKl]) h1f ?_
              have hE := hKV43.fill2 (g4 := V25.heap.size) (g5 := V11.heap.size) (t := 34) (z := ZK) (L0 := [(B9, 38, G9.cells), (A, 38, F3.cells)]) FV GV (fun e he => by simp only [List.mem_cons, List.not_mem_nil, or_false] at he; rcases he with rfl | rfl <;> exact ⟨by simp, by show _ ≠ _; omega, by show _ ≠ _; omega⟩) (by simp) (by simp) (by omega)
              have h5 : CellsAt ((V43).setRow V25.heap.size FV.toArray) V11.heap.size 34 ZK := (hKV43.k (V11.heap.size, 34, ZK) (by simp)).1.setRowM _ (by omega)
              replace hT := HTT ((V43).setRow V25.heap.size FV.toArray) ⟨(hKV43.k (A, 38, F3.cells) (by simp)).1.setRowM _ (by omega), (hKV43.k (B9, 38, G9.cells) (by simp)).1.setRowM _ (by omega)⟩
              refine hK.out _ _ hT (fun _ => hS) ?_
              clear hK K
              try simp only [Act.put, List.getElem_toArray, List.getElem_cons_succ, List.getElem_cons_zero, List.setIfInBounds_toArray, List.set_cons_zero, List.set_cons_succ]
              refine wpAnyT_one (i := 7) rfl (by kernel_rfl) (by kernel_rfl) (fun K hK => ?_)
              refine wp_stvE 34 _ _ rfl _ rfl rfl h5 iGV (by rw [hGl, hZKl]) h1g ?_
              replace hT := HTT _ ⟨(hE.k (A, 38, F3.cells) (by simp)).1, (hE.k (B9, 38, G9.cells) (by simp)).1⟩
              refine hK.out _ _ hT (fun _ => hS) ?_
              clear hK K
              try simp only [Act.put, List.getElem_toArray, List.getElem_cons_succ, List.getElem_cons_zero, List.setIfInBounds_toArray, List.set_cons_zero, List.set_cons_succ]
              refine wpAnyT_done (by kernel_rfl) ?_ _
              exact ⟨_, _, meetU (by kernel_rfl) ⟨below_setRow (below_setRow hBV43 (by omega) _) (by omega) _, hE⟩⟩
        · go_simp
          have hKV14 := hKV0.laid (t := 34) ZK
          have hBV14 := hBV0.alloc hBV0.size (.cells ZK.toArray 34)
          have l1a := (hKV0.k (A, 38, F3.cells) (by simp)).1.lt
          have l1b := (hKV0.k (B9, 38, G9.cells) (by simp)).1.lt
          have l1w := hBV0.size
          refine forget (p := fun y => K _ y) (fun X => Below w.heap.size w X ∧ Keeps X (A + 1) H b v6 T1 P [(V0.heap.size, 34, ZK), (B9, 38, G9.cells), (A, 38, F3.cells)]) ⟨hBV14, hKV14⟩ ?_
          clear hKV14 hBV14
          rintro V14 ⟨hBV14, hKV14⟩
          replace hT := HTT V14 ⟨(hKV14.k (A, 38, F3.cells) (by simp)).1, (hKV14.k (B9, 38, G9.cells) (by simp)).1⟩
          refine hK.out _ _ hT (fun _ => hS) ?_
          clear hK K
          try simp only [Act.put, List.getElem_toArray, List.getElem_cons_succ, List.getElem_cons_zero, List.setIfInBounds_toArray, List.set_cons_zero, List.set_cons_succ]
          refine wpAnyT_two (i := 1) (j := 5) rfl rfl (by kernel_rfl) (by kernel_rfl) (by kernel_rfl) (fun K hK => ?_) (fun K hK => ?_)
          · refine wpx_call _ _ (by kernel_rfl) ((HS1.out V14 hBV14).mono ?_)
            rintro e V21 ⟨rfl, hbV21⟩
            refine ⟨_, rfl, ?_⟩
            have hKV21 := hKV14.far hbV21
            have hBV21 := hBV14.trans (hbV21.mono hBV14.size)
            replace hT := HTT V21 ⟨(hKV21.k (A, 38, F3.cells) (by simp)).1, (hKV21.k (B9, 38, G9.cells) (by simp)).1⟩
            refine hK.out _ _ hT (fun _ => hS) ?_
            clear hK K
            try simp only [Act.put, List.getElem_toArray, List.getElem_cons_succ, List.getElem_cons_zero, List.setIfInBounds_toArray, List.set_cons_zero, List.set_cons_succ]
            refine wpAnyT_two (i := 3) (j := 5) rfl rfl (by kernel_rfl) (by kernel_rfl) (by kernel_rfl) (fun K hK => ?_) (fun K hK => ?_)
            · refine wpx_call _ _ (by kernel_rfl) ((HS2.out V21 hBV21).mono ?_)
              rintro e V33 ⟨rfl, hbV33⟩
              refine ⟨_, rfl, ?_⟩
              have hKV33 := hKV21.far hbV33
              have hBV33 := hBV21.trans (hbV33.mono hBV21.size)
              replace hT := HTT V33 ⟨(hKV33.k (A, 38, F3.cells) (by simp)).1, (hKV33.k (B9, 38, G9.cells) (by simp)).1⟩
              refine hK.out _ _ hT (fun _ => hS) ?_
              clear hK K
              try simp only [Act.put, List.getElem_toArray, List.getElem_cons_succ, List.getElem_cons_zero, List.setIfInBounds_toArray, List.set_cons_zero, List.set_cons_succ]
              refine wpAnyT_one (i := 5) rfl (by kernel_rfl) (by kernel_rfl) (fun K hK => ?_)
              go_simp
              have hKV45 := hKV33.laid (t := 34) ZK
              have hBV45 := hBV33.alloc hBV33.size (.cells ZK.toArray 34)
              have l4a := (hKV33.k (A, 38, F3.cells) (by simp)).1.lt
              have l4b := (hKV33.k (B9, 38, G9.cells) (by simp)).1.lt
              have l4w := hBV33.size
              have l4g4 := (hKV33.k (V0.heap.size, 34, ZK) (by simp)).1.lt
              refine forget (p := fun y => K _ y) (fun X => Below w.heap.size w X ∧ Keeps X (A + 1) H b v6 T1 P [(V33.heap.size, 34, ZK), (V0.heap.size, 34, ZK), (B9, 38, G9.cells), (A, 38, F3.cells)]) ⟨hBV45, hKV45⟩ ?_
              clear hKV45 hBV45
              rintro V45 ⟨hBV45, hKV45⟩
              replace hT := HTT V45 ⟨(hKV45.k (A, 38, F3.cells) (by simp)).1, (hKV45.k (B9, 38, G9.cells) (by simp)).1⟩
              refine hK.out _ _ hT (fun _ => hS) ?_
              clear hK K
              try simp only [Act.put, List.getElem_toArray, List.getElem_cons_succ, List.getElem_cons_zero, List.setIfInBounds_toArray, List.set_cons_zero, List.set_cons_succ]
              refine wpAnyT_one (i := 6) rfl (by kernel_rfl) (by kernel_rfl) (fun K hK => ?_)
              refine wp_stvE 34 _ _ rfl _ rfl rfl (hKV45.k (V0.heap.size, 34, ZK) (by simp)).1 iFV (by rw [hFl, hZKl]) h1f ?_
              have hE := hKV45.fill2 (g4 := V0.heap.size) (g5 := V33.heap.size) (t := 34) (z := ZK) (L0 := [(B9, 38, G9.cells), (A, 38, F3.cells)]) FV GV (fun e he => by simp only [List.mem_cons, List.not_mem_nil, or_false] at he; rcases he with rfl | rfl <;> exact ⟨by simp, by show _ ≠ _; omega, by show _ ≠ _; omega⟩) (by simp) (by simp) (by omega)
              have h5 : CellsAt ((V45).setRow V0.heap.size FV.toArray) V33.heap.size 34 ZK := (hKV45.k (V33.heap.size, 34, ZK) (by simp)).1.setRowM _ (by omega)
              replace hT := HTT ((V45).setRow V0.heap.size FV.toArray) ⟨(hKV45.k (A, 38, F3.cells) (by simp)).1.setRowM _ (by omega), (hKV45.k (B9, 38, G9.cells) (by simp)).1.setRowM _ (by omega)⟩
              refine hK.out _ _ hT (fun _ => hS) ?_
              clear hK K
              try simp only [Act.put, List.getElem_toArray, List.getElem_cons_succ, List.getElem_cons_zero, List.setIfInBounds_toArray, List.set_cons_zero, List.set_cons_succ]
              refine wpAnyT_one (i := 7) rfl (by kernel_rfl) (by kernel_rfl) (fun K hK => ?_)
              refine wp_stvE 34 _ _ rfl _ rfl rfl h5 iGV (by rw [hGl, hZKl]) h1g ?_
              replace hT := HTT _ ⟨(hE.k (A, 38, F3.cells) (by simp)).1, (hE.k (B9, 38, G9.cells) (by simp)).1⟩
              refine hK.out _ _ hT (fun _ => hS) ?_
              clear hK K
              try simp only [Act.put, List.getElem_toArray, List.getElem_cons_succ, List.getElem_cons_zero, List.setIfInBounds_toArray, List.set_cons_zero, List.set_cons_succ]
              refine wpAnyT_done (by kernel_rfl) ?_ _
              exact ⟨_, _, meetU (by kernel_rfl) ⟨below_setRow (below_setRow hBV45 (by omega) _) (by omega) _, hE⟩⟩
            · go_simp
              have hKV35 := hKV21.laid (t := 34) ZK
              have hBV35 := hBV21.alloc hBV21.size (.cells ZK.toArray 34)
              have l3a := (hKV21.k (A, 38, F3.cells) (by simp)).1.lt
              have l3b := (hKV21.k (B9, 38, G9.cells) (by simp)).1.lt
              have l3w := hBV21.size
              have l3g4 := (hKV21.k (V0.heap.size, 34, ZK) (by simp)).1.lt
              refine forget (p := fun y => K _ y) (fun X => Below w.heap.size w X ∧ Keeps X (A + 1) H b v6 T1 P [(V21.heap.size, 34, ZK), (V0.heap.size, 34, ZK), (B9, 38, G9.cells), (A, 38, F3.cells)]) ⟨hBV35, hKV35⟩ ?_
              clear hKV35 hBV35
              rintro V35 ⟨hBV35, hKV35⟩
              replace hT := HTT V35 ⟨(hKV35.k (A, 38, F3.cells) (by simp)).1, (hKV35.k (B9, 38, G9.cells) (by simp)).1⟩
              refine hK.out _ _ hT (fun _ => hS) ?_
              clear hK K
              try simp only [Act.put, List.getElem_toArray, List.getElem_cons_succ, List.getElem_cons_zero, List.setIfInBounds_toArray, List.set_cons_zero, List.set_cons_succ]
              refine wpAnyT_one (i := 3) rfl (by kernel_rfl) (by kernel_rfl) (fun K hK => ?_)
              refine wpx_call _ _ (by kernel_rfl) ((HS2.out V35 hBV35).mono ?_)
              rintro e V43 ⟨rfl, hbV43⟩
              refine ⟨_, rfl, ?_⟩
              have hKV43 := hKV35.far hbV43
              have hBV43 := hBV35.trans (hbV43.mono hBV35.size)
              replace hT := HTT V43 ⟨(hKV43.k (A, 38, F3.cells) (by simp)).1, (hKV43.k (B9, 38, G9.cells) (by simp)).1⟩
              refine hK.out _ _ hT (fun _ => hS) ?_
              clear hK K
              try simp only [Act.put, List.getElem_toArray, List.getElem_cons_succ, List.getElem_cons_zero, List.setIfInBounds_toArray, List.set_cons_zero, List.set_cons_succ]
              refine wpAnyT_one (i := 6) rfl (by kernel_rfl) (by kernel_rfl) (fun K hK => ?_)
              refine wp_stvE 34 _ _ rfl _ rfl rfl (hKV43.k (V0.heap.size, 34, ZK) (by simp)).1 iFV (by rw [hFl, hZKl]) h1f ?_
              have hE := hKV43.fill2 (g4 := V0.heap.size) (g5 := V21.heap.size) (t := 34) (z := ZK) (L0 := [(B9, 38, G9.cells), (A, 38, F3.cells)]) FV GV (fun e he => by simp only [List.mem_cons, List.not_mem_nil, or_false] at he; rcases he with rfl | rfl <;> exact ⟨by simp, by show _ ≠ _; omega, by show _ ≠ _; omega⟩) (by simp) (by simp) (by omega)
              have h5 : CellsAt ((V43).setRow V0.heap.size FV.toArray) V21.heap.size 34 ZK := (hKV43.k (V21.heap.size, 34, ZK) (by simp)).1.setRowM _ (by omega)
              replace hT := HTT ((V43).setRow V0.heap.size FV.toArray) ⟨(hKV43.k (A, 38, F3.cells) (by simp)).1.setRowM _ (by omega), (hKV43.k (B9, 38, G9.cells) (by simp)).1.setRowM _ (by omega)⟩
              refine hK.out _ _ hT (fun _ => hS) ?_
              clear hK K
              try simp only [Act.put, List.getElem_toArray, List.getElem_cons_succ, List.getElem_cons_zero, List.setIfInBounds_toArray, List.set_cons_zero, List.set_cons_succ]
              refine wpAnyT_one (i := 7) rfl (by kernel_rfl) (by kernel_rfl) (fun K hK => ?_)
              refine wp_stvE 34 _ _ rfl _ rfl rfl h5 iGV (by rw [hGl, hZKl]) h1g ?_
              replace hT := HTT _ ⟨(hE.k (A, 38, F3.cells) (by simp)).1, (hE.k (B9, 38, G9.cells) (by simp)).1⟩
              refine hK.out _ _ hT (fun _ => hS) ?_
              clear hK K
              try simp only [Act.put, List.getElem_toArray, List.getElem_cons_succ, List.getElem_cons_zero, List.setIfInBounds_toArray, List.set_cons_zero, List.set_cons_succ]
              refine wpAnyT_done (by kernel_rfl) ?_ _
              exact ⟨_, _, meetU (by kernel_rfl) ⟨below_setRow (below_setRow hBV43 (by omega) _) (by omega) _, hE⟩⟩
          · go_simp
            have hKV25 := hKV14.laid (t := 34) ZK
            have hBV25 := hBV14.alloc hBV14.size (.cells ZK.toArray 34)
            have l2a := (hKV14.k (A, 38, F3.cells) (by simp)).1.lt
            have l2b := (hKV14.k (B9, 38, G9.cells) (by simp)).1.lt
            have l2w := hBV14.size
            have l2g4 := (hKV14.k (V0.heap.size, 34, ZK) (by simp)).1.lt
            refine forget (p := fun y => K _ y) (fun X => Below w.heap.size w X ∧ Keeps X (A + 1) H b v6 T1 P [(V14.heap.size, 34, ZK), (V0.heap.size, 34, ZK), (B9, 38, G9.cells), (A, 38, F3.cells)]) ⟨hBV25, hKV25⟩ ?_
            clear hKV25 hBV25
            rintro V25 ⟨hBV25, hKV25⟩
            replace hT := HTT V25 ⟨(hKV25.k (A, 38, F3.cells) (by simp)).1, (hKV25.k (B9, 38, G9.cells) (by simp)).1⟩
            refine hK.out _ _ hT (fun _ => hS) ?_
            clear hK K
            try simp only [Act.put, List.getElem_toArray, List.getElem_cons_succ, List.getElem_cons_zero, List.setIfInBounds_toArray, List.set_cons_zero, List.set_cons_succ]
            refine wpAnyT_one (i := 1) rfl (by kernel_rfl) (by kernel_rfl) (fun K hK => ?_)
            refine wpx_call _ _ (by kernel_rfl) ((HS1.out V25 hBV25).mono ?_)
            rintro e V31 ⟨rfl, hbV31⟩
            refine ⟨_, rfl, ?_⟩
            have hKV31 := hKV25.far hbV31
            have hBV31 := hBV25.trans (hbV31.mono hBV25.size)
            replace hT := HTT V31 ⟨(hKV31.k (A, 38, F3.cells) (by simp)).1, (hKV31.k (B9, 38, G9.cells) (by simp)).1⟩
            refine hK.out _ _ hT (fun _ => hS) ?_
            clear hK K
            try simp only [Act.put, List.getElem_toArray, List.getElem_cons_succ, List.getElem_cons_zero, List.setIfInBounds_toArray, List.set_cons_zero, List.set_cons_succ]
            refine wpAnyT_one (i := 3) rfl (by kernel_rfl) (by kernel_rfl) (fun K hK => ?_)
            refine wpx_call _ _ (by kernel_rfl) ((HS2.out V31 hBV31).mono ?_)
            rintro e V43 ⟨rfl, hbV43⟩
            refine ⟨_, rfl, ?_⟩
            have hKV43 := hKV31.far hbV43
            have hBV43 := hBV31.trans (hbV43.mono hBV31.size)
            replace hT := HTT V43 ⟨(hKV43.k (A, 38, F3.cells) (by simp)).1, (hKV43.k (B9, 38, G9.cells) (by simp)).1⟩
            refine hK.out _ _ hT (fun _ => hS) ?_
            clear hK K
            try simp only [Act.put, List.getElem_toArray, List.getElem_cons_succ, List.getElem_cons_zero, List.setIfInBounds_toArray, List.set_cons_zero, List.set_cons_succ]
            refine wpAnyT_one (i := 6) rfl (by kernel_rfl) (by kernel_rfl) (fun K hK => ?_)
            refine wp_stvE 34 _ _ rfl _ rfl rfl (hKV43.k (V0.heap.size, 34, ZK) (by simp)).1 iFV (by rw [hFl, hZKl]) h1f ?_
            have hE := hKV43.fill2 (g4 := V0.heap.size) (g5 := V14.heap.size) (t := 34) (z := ZK) (L0 := [(B9, 38, G9.cells), (A, 38, F3.cells)]) FV GV (fun e he => by simp only [List.mem_cons, List.not_mem_nil, or_false] at he; rcases he with rfl | rfl <;> exact ⟨by simp, by show _ ≠ _; omega, by show _ ≠ _; omega⟩) (by simp) (by simp) (by omega)
            have h5 : CellsAt ((V43).setRow V0.heap.size FV.toArray) V14.heap.size 34 ZK := (hKV43.k (V14.heap.size, 34, ZK) (by simp)).1.setRowM _ (by omega)
            replace hT := HTT ((V43).setRow V0.heap.size FV.toArray) ⟨(hKV43.k (A, 38, F3.cells) (by simp)).1.setRowM _ (by omega), (hKV43.k (B9, 38, G9.cells) (by simp)).1.setRowM _ (by omega)⟩
            refine hK.out _ _ hT (fun _ => hS) ?_
            clear hK K
            try simp only [Act.put, List.getElem_toArray, List.getElem_cons_succ, List.getElem_cons_zero, List.setIfInBounds_toArray, List.set_cons_zero, List.set_cons_succ]
            refine wpAnyT_one (i := 7) rfl (by kernel_rfl) (by kernel_rfl) (fun K hK => ?_)
            refine wp_stvE 34 _ _ rfl _ rfl rfl h5 iGV (by rw [hGl, hZKl]) h1g ?_
            replace hT := HTT _ ⟨(hE.k (A, 38, F3.cells) (by simp)).1, (hE.k (B9, 38, G9.cells) (by simp)).1⟩
            refine hK.out _ _ hT (fun _ => hS) ?_
            clear hK K
            try simp only [Act.put, List.getElem_toArray, List.getElem_cons_succ, List.getElem_cons_zero, List.setIfInBounds_toArray, List.set_cons_zero, List.set_cons_succ]
            refine wpAnyT_done (by kernel_rfl) ?_ _
            exact ⟨_, _, meetU (by kernel_rfl) ⟨below_setRow (below_setRow hBV43 (by omega) _) (by omega) _, hE⟩⟩
        · go_simp
          have hKV15 := hKV0.laid (t := 34) ZK
          have hBV15 := hBV0.alloc hBV0.size (.cells ZK.toArray 34)
          have l1a := (hKV0.k (A, 38, F3.cells) (by simp)).1.lt
          have l1b := (hKV0.k (B9, 38, G9.cells) (by simp)).1.lt
          have l1w := hBV0.size
          refine forget (p := fun y => K _ y) (fun X => Below w.heap.size w X ∧ Keeps X (A + 1) H b v6 T1 P [(V0.heap.size, 34, ZK), (B9, 38, G9.cells), (A, 38, F3.cells)]) ⟨hBV15, hKV15⟩ ?_
          clear hKV15 hBV15
          rintro V15 ⟨hBV15, hKV15⟩
          replace hT := HTT V15 ⟨(hKV15.k (A, 38, F3.cells) (by simp)).1, (hKV15.k (B9, 38, G9.cells) (by simp)).1⟩
          refine hK.out _ _ hT (fun _ => hS) ?_
          clear hK K
          try simp only [Act.put, List.getElem_toArray, List.getElem_cons_succ, List.getElem_cons_zero, List.setIfInBounds_toArray, List.set_cons_zero, List.set_cons_succ]
          refine wpAnyT_two (i := 1) (j := 4) rfl rfl (by kernel_rfl) (by kernel_rfl) (by kernel_rfl) (fun K hK => ?_) (fun K hK => ?_)
          · refine wpx_call _ _ (by kernel_rfl) ((HS1.out V15 hBV15).mono ?_)
            rintro e V21 ⟨rfl, hbV21⟩
            refine ⟨_, rfl, ?_⟩
            have hKV21 := hKV15.far hbV21
            have hBV21 := hBV15.trans (hbV21.mono hBV15.size)
            replace hT := HTT V21 ⟨(hKV21.k (A, 38, F3.cells) (by simp)).1, (hKV21.k (B9, 38, G9.cells) (by simp)).1⟩
            refine hK.out _ _ hT (fun _ => hS) ?_
            clear hK K
            try simp only [Act.put, List.getElem_toArray, List.getElem_cons_succ, List.getElem_cons_zero, List.setIfInBounds_toArray, List.set_cons_zero, List.set_cons_succ]
            refine wpAnyT_two (i := 3) (j := 4) rfl rfl (by kernel_rfl) (by kernel_rfl) (by kernel_rfl) (fun K hK => ?_) (fun K hK => ?_)
            · refine wpx_call _ _ (by kernel_rfl) ((HS2.out V21 hBV21).mono ?_)
              rintro e V33 ⟨rfl, hbV33⟩
              refine ⟨_, rfl, ?_⟩
              have hKV33 := hKV21.far hbV33
              have hBV33 := hBV21.trans (hbV33.mono hBV21.size)
              replace hT := HTT V33 ⟨(hKV33.k (A, 38, F3.cells) (by simp)).1, (hKV33.k (B9, 38, G9.cells) (by simp)).1⟩
              refine hK.out _ _ hT (fun _ => hS) ?_
              clear hK K
              try simp only [Act.put, List.getElem_toArray, List.getElem_cons_succ, List.getElem_cons_zero, List.setIfInBounds_toArray, List.set_cons_zero, List.set_cons_succ]
              refine wpAnyT_one (i := 4) rfl (by kernel_rfl) (by kernel_rfl) (fun K hK => ?_)
              go_simp
              have hKV44 := hKV33.laid (t := 34) ZK
              have hBV44 := hBV33.alloc hBV33.size (.cells ZK.toArray 34)
              have l4a := (hKV33.k (A, 38, F3.cells) (by simp)).1.lt
              have l4b := (hKV33.k (B9, 38, G9.cells) (by simp)).1.lt
              have l4w := hBV33.size
              have l4g5 := (hKV33.k (V0.heap.size, 34, ZK) (by simp)).1.lt
              refine forget (p := fun y => K _ y) (fun X => Below w.heap.size w X ∧ Keeps X (A + 1) H b v6 T1 P [(V33.heap.size, 34, ZK), (V0.heap.size, 34, ZK), (B9, 38, G9.cells), (A, 38, F3.cells)]) ⟨hBV44, hKV44⟩ ?_
              clear hKV44 hBV44
              rintro V44 ⟨hBV44, hKV44⟩
              replace hT := HTT V44 ⟨(hKV44.k (A, 38, F3.cells) (by simp)).1, (hKV44.k (B9, 38, G9.cells) (by simp)).1⟩
              refine hK.out _ _ hT (fun _ => hS) ?_
              clear hK K
              try simp only [Act.put, List.getElem_toArray, List.getElem_cons_succ, List.getElem_cons_zero, List.setIfInBounds_toArray, List.set_cons_zero, List.set_cons_succ]
              refine wpAnyT_one (i := 6) rfl (by kernel_rfl) (by kernel_rfl) (fun K hK => ?_)
              refine wp_stvE 34 _ _ rfl _ rfl rfl (hKV44.k (V33.heap.size, 34, ZK) (by simp)).1 iFV (by rw [hFl, hZKl]) h1f ?_
              have hE := hKV44.fill2 (g4 := V33.heap.size) (g5 := V0.heap.size) (t := 34) (z := ZK) (L0 := [(B9, 38, G9.cells), (A, 38, F3.cells)]) FV GV (fun e he => by simp only [List.mem_cons, List.not_mem_nil, or_false] at he; rcases he with rfl | rfl <;> exact ⟨by simp, by show _ ≠ _; omega, by show _ ≠ _; omega⟩) (by simp) (by simp) (by omega)
              have h5 : CellsAt ((V44).setRow V33.heap.size FV.toArray) V0.heap.size 34 ZK := (hKV44.k (V0.heap.size, 34, ZK) (by simp)).1.setRowM _ (by omega)
              replace hT := HTT ((V44).setRow V33.heap.size FV.toArray) ⟨(hKV44.k (A, 38, F3.cells) (by simp)).1.setRowM _ (by omega), (hKV44.k (B9, 38, G9.cells) (by simp)).1.setRowM _ (by omega)⟩
              refine hK.out _ _ hT (fun _ => hS) ?_
              clear hK K
              try simp only [Act.put, List.getElem_toArray, List.getElem_cons_succ, List.getElem_cons_zero, List.setIfInBounds_toArray, List.set_cons_zero, List.set_cons_succ]
              refine wpAnyT_one (i := 7) rfl (by kernel_rfl) (by kernel_rfl) (fun K hK => ?_)
              refine wp_stvE 34 _ _ rfl _ rfl rfl h5 iGV (by rw [hGl, hZKl]) h1g ?_
              replace hT := HTT _ ⟨(hE.k (A, 38, F3.cells) (by simp)).1, (hE.k (B9, 38, G9.cells) (by simp)).1⟩
              refine hK.out _ _ hT (fun _ => hS) ?_
              clear hK K
              try simp only [Act.put, List.getElem_toArray, List.getElem_cons_succ, List.getElem_cons_zero, List.setIfInBounds_toArray, List.set_cons_zero, List.set_cons_succ]
              refine wpAnyT_done (by kernel_rfl) ?_ _
              exact ⟨_, _, meetU (by kernel_rfl) ⟨below_setRow (below_setRow hBV44 (by omega) _) (by omega) _, hE⟩⟩
            · go_simp
              have hKV34 := hKV21.laid (t := 34) ZK
              have hBV34 := hBV21.alloc hBV21.size (.cells ZK.toArray 34)
              have l3a := (hKV21.k (A, 38, F3.cells) (by simp)).1.lt
              have l3b := (hKV21.k (B9, 38, G9.cells) (by simp)).1.lt
              have l3w := hBV21.size
              have l3g5 := (hKV21.k (V0.heap.size, 34, ZK) (by simp)).1.lt
              refine forget (p := fun y => K _ y) (fun X => Below w.heap.size w X ∧ Keeps X (A + 1) H b v6 T1 P [(V21.heap.size, 34, ZK), (V0.heap.size, 34, ZK), (B9, 38, G9.cells), (A, 38, F3.cells)]) ⟨hBV34, hKV34⟩ ?_
              clear hKV34 hBV34
              rintro V34 ⟨hBV34, hKV34⟩
              replace hT := HTT V34 ⟨(hKV34.k (A, 38, F3.cells) (by simp)).1, (hKV34.k (B9, 38, G9.cells) (by simp)).1⟩
              refine hK.out _ _ hT (fun _ => hS) ?_
              clear hK K
              try simp only [Act.put, List.getElem_toArray, List.getElem_cons_succ, List.getElem_cons_zero, List.setIfInBounds_toArray, List.set_cons_zero, List.set_cons_succ]
              refine wpAnyT_one (i := 3) rfl (by kernel_rfl) (by kernel_rfl) (fun K hK => ?_)
              refine wpx_call _ _ (by kernel_rfl) ((HS2.out V34 hBV34).mono ?_)
              rintro e V43 ⟨rfl, hbV43⟩
              refine ⟨_, rfl, ?_⟩
              have hKV43 := hKV34.far hbV43
              have hBV43 := hBV34.trans (hbV43.mono hBV34.size)
              replace hT := HTT V43 ⟨(hKV43.k (A, 38, F3.cells) (by simp)).1, (hKV43.k (B9, 38, G9.cells) (by simp)).1⟩
              refine hK.out _ _ hT (fun _ => hS) ?_
              clear hK K
              try simp only [Act.put, List.getElem_toArray, List.getElem_cons_succ, List.getElem_cons_zero, List.setIfInBounds_toArray, List.set_cons_zero, List.set_cons_succ]
              refine wpAnyT_one (i := 6) rfl (by kernel_rfl) (by kernel_rfl) (fun K hK => ?_)
              refine wp_stvE 34 _ _ rfl _ rfl rfl (hKV43.k (V21.heap.size, 34, ZK) (by simp)).1 iFV (by rw [hFl, hZKl]) h1f ?_
              have hE := hKV43.fill2 (g4 := V21.heap.size) (g5 := V0.heap.size) (t := 34) (z := ZK) (L0 := [(B9, 38, G9.cells), (A, 38, F3.cells)]) FV GV (fun e he => by simp only [List.mem_cons, List.not_mem_nil, or_false] at he; rcases he with rfl | rfl <;> exact ⟨by simp, by show _ ≠ _; omega, by show _ ≠ _; omega⟩) (by simp) (by simp) (by omega)
              have h5 : CellsAt ((V43).setRow V21.heap.size FV.toArray) V0.heap.size 34 ZK := (hKV43.k (V0.heap.size, 34, ZK) (by simp)).1.setRowM _ (by omega)
              replace hT := HTT ((V43).setRow V21.heap.size FV.toArray) ⟨(hKV43.k (A, 38, F3.cells) (by simp)).1.setRowM _ (by omega), (hKV43.k (B9, 38, G9.cells) (by simp)).1.setRowM _ (by omega)⟩
              refine hK.out _ _ hT (fun _ => hS) ?_
              clear hK K
              try simp only [Act.put, List.getElem_toArray, List.getElem_cons_succ, List.getElem_cons_zero, List.setIfInBounds_toArray, List.set_cons_zero, List.set_cons_succ]
              refine wpAnyT_one (i := 7) rfl (by kernel_rfl) (by kernel_rfl) (fun K hK => ?_)
              refine wp_stvE 34 _ _ rfl _ rfl rfl h5 iGV (by rw [hGl, hZKl]) h1g ?_
              replace hT := HTT _ ⟨(hE.k (A, 38, F3.cells) (by simp)).1, (hE.k (B9, 38, G9.cells) (by simp)).1⟩
              refine hK.out _ _ hT (fun _ => hS) ?_
              clear hK K
              try simp only [Act.put, List.getElem_toArray, List.getElem_cons_succ, List.getElem_cons_zero, List.setIfInBounds_toArray, List.set_cons_zero, List.set_cons_succ]
              refine wpAnyT_done (by kernel_rfl) ?_ _
              exact ⟨_, _, meetU (by kernel_rfl) ⟨below_setRow (below_setRow hBV43 (by omega) _) (by omega) _, hE⟩⟩
          · go_simp
            have hKV24 := hKV15.laid (t := 34) ZK
            have hBV24 := hBV15.alloc hBV15.size (.cells ZK.toArray 34)
            have l2a := (hKV15.k (A, 38, F3.cells) (by simp)).1.lt
            have l2b := (hKV15.k (B9, 38, G9.cells) (by simp)).1.lt
            have l2w := hBV15.size
            have l2g5 := (hKV15.k (V0.heap.size, 34, ZK) (by simp)).1.lt
            refine forget (p := fun y => K _ y) (fun X => Below w.heap.size w X ∧ Keeps X (A + 1) H b v6 T1 P [(V15.heap.size, 34, ZK), (V0.heap.size, 34, ZK), (B9, 38, G9.cells), (A, 38, F3.cells)]) ⟨hBV24, hKV24⟩ ?_
            clear hKV24 hBV24
            rintro V24 ⟨hBV24, hKV24⟩
            replace hT := HTT V24 ⟨(hKV24.k (A, 38, F3.cells) (by simp)).1, (hKV24.k (B9, 38, G9.cells) (by simp)).1⟩
            refine hK.out _ _ hT (fun _ => hS) ?_
            clear hK K
            try simp only [Act.put, List.getElem_toArray, List.getElem_cons_succ, List.getElem_cons_zero, List.setIfInBounds_toArray, List.set_cons_zero, List.set_cons_succ]
            refine wpAnyT_one (i := 1) rfl (by kernel_rfl) (by kernel_rfl) (fun K hK => ?_)
            refine wpx_call _ _ (by kernel_rfl) ((HS1.out V24 hBV24).mono ?_)
            rintro e V31 ⟨rfl, hbV31⟩
            refine ⟨_, rfl, ?_⟩
            have hKV31 := hKV24.far hbV31
            have hBV31 := hBV24.trans (hbV31.mono hBV24.size)
            replace hT := HTT V31 ⟨(hKV31.k (A, 38, F3.cells) (by simp)).1, (hKV31.k (B9, 38, G9.cells) (by simp)).1⟩
            refine hK.out _ _ hT (fun _ => hS) ?_
            clear hK K
            try simp only [Act.put, List.getElem_toArray, List.getElem_cons_succ, List.getElem_cons_zero, List.setIfInBounds_toArray, List.set_cons_zero, List.set_cons_succ]
            refine wpAnyT_one (i := 3) rfl (by kernel_rfl) (by kernel_rfl) (fun K hK => ?_)
            refine wpx_call _ _ (by kernel_rfl) ((HS2.out V31 hBV31).mono ?_)
            rintro e V43 ⟨rfl, hbV43⟩
            refine ⟨_, rfl, ?_⟩
            have hKV43 := hKV31.far hbV43
            have hBV43 := hBV31.trans (hbV43.mono hBV31.size)
            replace hT := HTT V43 ⟨(hKV43.k (A, 38, F3.cells) (by simp)).1, (hKV43.k (B9, 38, G9.cells) (by simp)).1⟩
            refine hK.out _ _ hT (fun _ => hS) ?_
            clear hK K
            try simp only [Act.put, List.getElem_toArray, List.getElem_cons_succ, List.getElem_cons_zero, List.setIfInBounds_toArray, List.set_cons_zero, List.set_cons_succ]
            refine wpAnyT_one (i := 6) rfl (by kernel_rfl) (by kernel_rfl) (fun K hK => ?_)
            refine wp_stvE 34 _ _ rfl _ rfl rfl (hKV43.k (V15.heap.size, 34, ZK) (by simp)).1 iFV (by rw [hFl, hZKl]) h1f ?_
            have hE := hKV43.fill2 (g4 := V15.heap.size) (g5 := V0.heap.size) (t := 34) (z := ZK) (L0 := [(B9, 38, G9.cells), (A, 38, F3.cells)]) FV GV (fun e he => by simp only [List.mem_cons, List.not_mem_nil, or_false] at he; rcases he with rfl | rfl <;> exact ⟨by simp, by show _ ≠ _; omega, by show _ ≠ _; omega⟩) (by simp) (by simp) (by omega)
            have h5 : CellsAt ((V43).setRow V15.heap.size FV.toArray) V0.heap.size 34 ZK := (hKV43.k (V0.heap.size, 34, ZK) (by simp)).1.setRowM _ (by omega)
            replace hT := HTT ((V43).setRow V15.heap.size FV.toArray) ⟨(hKV43.k (A, 38, F3.cells) (by simp)).1.setRowM _ (by omega), (hKV43.k (B9, 38, G9.cells) (by simp)).1.setRowM _ (by omega)⟩
            refine hK.out _ _ hT (fun _ => hS) ?_
            clear hK K
            try simp only [Act.put, List.getElem_toArray, List.getElem_cons_succ, List.getElem_cons_zero, List.setIfInBounds_toArray, List.set_cons_zero, List.set_cons_succ]
            refine wpAnyT_one (i := 7) rfl (by kernel_rfl) (by kernel_rfl) (fun K hK => ?_)
            refine wp_stvE 34 _ _ rfl _ rfl rfl h5 iGV (by rw [hGl, hZKl]) h1g ?_
            replace hT := HTT _ ⟨(hE.k (A, 38, F3.cells) (by simp)).1, (hE.k (B9, 38, G9.cells) (by simp)).1⟩
            refine hK.out _ _ hT (fun _ => hS) ?_
            clear hK K
            try simp only [Act.put, List.getElem_toArray, List.getElem_cons_succ, List.getElem_cons_zero, List.setIfInBounds_toArray, List.set_cons_zero, List.set_cons_succ]
            refine wpAnyT_done (by kernel_rfl) ?_ _
            exact ⟨_, _, meetU (by kernel_rfl) ⟨below_setRow (below_setRow hBV43 (by omega) _) (by omega) _, hE⟩⟩
      rintro AC V ⟨g4, g5, u, rfl, hb, hK⟩
      dsimp only
      clear HS1 HS2 hzvK hz1K hZKl
      have HEQ : Veil (∀ wx, (binOp .eql 34 (.agg FV.toArray) (.agg GV.toArray)).run Tryd.prog wx = .ok (.bool (decide (SF = SG))) wx) := ⟨fun wx => by
        have := eqlKey SF SG hSFok hSGok wx
        unfold row at this
        rw [HVS.out.1, HVS.out.2] at this
        exact this⟩
      have heq := HEQ.out
      have r4 := (hK.k (g4, 34, FV) (by simp)).1.wholeM
      have r5 := (hK.k (g5, 34, GV) (by simp)).1.wholeM
      by_cases hne : SF = SG
      · have hdd : decide (SF = SG) = true := by simp [hne]
        rw [hdd] at heq
        clear hne HEQ hdd HSF HSG HVS
        go_wp2_with (first
          | (refine wpList_ldv rfl 34 _ rfl g4 0 rfl FV r4 Tryd.underlying34 rfl iFV ?_)
          | (refine wpList_ldv rfl 34 _ rfl g5 0 rfl GV r5 Tryd.underlying34 rfl iGV ?_))
        go_ret
        exact ⟨rfl, hb⟩
      have hdd : decide (SF = SG) = false := by simp [hne]
      rw [hdd] at heq
      -- what the chain says of the other one
      obtain ⟨HD2, hHD2⟩ : ∃ q, headC ((C : Int) + 1, SF) = q := ⟨_, rfl⟩
      have hH2ok : okH ((C : Int) + 1, SF) := ⟨⟨by show (0 : Int) ≤ (C : Int) + 1; omega, by show (C : Int) + 1 ≤ 4294967295; omega⟩, hSFok⟩
      have HIX : Veil (∀ wx, (Instr.index 41 (.agg (headsC (headsOf T1)).toArray) (.int .u8 (a : Int))).run Tryd.prog wx = .ok (.agg HD2.toArray) wx) := ⟨fun wx => by
        have := headIx HOK1.out a ha8 wx
        rw [← HT1.out, headOf_add HOKT.out a SF, HCS.out.1] at this
        rw [← HT1.out, ← hHD2]
        exact this⟩
      have HBH : Veil (∀ wx, (Instr.build 40 #[(0, .int .u32 ((C : Int) + 1)), (1, .agg FV.toArray)]).run Tryd.prog wx = .ok (.agg HD2.toArray) wx) := ⟨fun wx => by
        have := headBuilt ((C : Int) + 1) SF hSFok.1 wx
        unfold row at this
        rw [HVS.out.1, hHD2] at this
        exact this⟩
      have HNQ : Veil (∀ wx, (binOp .neq 40 (.agg HD2.toArray) (.agg HD2.toArray)).run Tryd.prog wx = .ok (.bool false) wx) := ⟨fun wx => by
        have := neqHead _ _ hH2ok hH2ok wx
        rw [hHD2] at this
        simpa using this⟩
      clear hHD2
      have e11 : lookN T1 a (C + 1) SM SG = 11 := by
        have := look_other HOKT.out ha8 (by rw [HCS.out.1]; omega) SM SF SG hne
        rw [HCS.out.1, HT1.out] at this
        exact this
      obtain ⟨PW, hPW⟩ : ∃ q : Pf, ((a : Int), ((C + 1 : Nat) : Int), SF, SG) = q := ⟨_, rfl⟩
      have ePN : proofN T1 a (C + 1) SM SG = PW := by
        have := proof_other HOKT.out a SM SF SG
        rw [HCS.out.1, HT1.out, hPW] at this
        exact this
      have HHD : Veil (∀ V v P L, Keeps V (A + 1) H b v T1 P L → Calls Tryd.prog 14 #[.pointer (some ⟨H, 0, none⟩)] V fun e w' => e = .returned (.agg (headsC (headsOf T1)).toArray) ∧ Below V.heap.size V w') := ⟨fun V v P L h => chHeads_any _ _ _ _ _ _ V h.c⟩
      have HLK : Veil (∀ V v P L, Below w.heap.size w V → Keeps V (A + 1) H b v T1 P L → Calls Tryd.prog 17 #[.pointer (some ⟨H, 0, none⟩), .agg G9.cells.toArray] V fun e w' => e = .returned (.int .i64 11) ∧ Below V.heap.size V w') := ⟨fun V v P L hb h => by
        have := h.look_any (n := C + 1) hb (HKT.out V hb) HFG.out.1 HFG.out.2.1 HFG.out.2.2.1
        rw [HFG.out.2.2.2, HSG.out, e11] at this
        exact this⟩
      obtain ⟨P2, hP2⟩ : ∃ q, noteP P PW = q := ⟨_, rfl⟩
      have HAD : Veil (∀ V v L, Below w.heap.size w V → Keeps V (A + 1) H b v T1 P L → Calls Tryd.prog 15 #[.pointer (some ⟨H, 0, none⟩), .agg G9.cells.toArray] V fun e w' => e = .returned (.int .i64 11) ∧ ∃ v', Keeps w' (A + 1) H b v' T1 P2 L ∧ Below w.heap.size w w') := ⟨fun V v L hb h => by
        have := h.add_any (n := C + 1) HA.out hb (HKT.out V hb) HFG.out.1 HFG.out.2.1 HFG.out.2.2.1
        rw [HFG.out.2.2.2, HSG.out, e11] at this
        unfold addSt at this
        rw [e11, if_neg (by decide), if_pos rfl, ePN, hP2] at this
        exact this⟩
      have HIN2 : Veil (PW ∈ P2 ∨ P2.length = 32) := ⟨by rw [← hP2]; exact note_in P PW hK.c.lenP⟩
      obtain ⟨PWC, hPWC⟩ : ∃ q, proofC PW = q := ⟨_, rfl⟩
      have hPWok : okP PW := by
        rw [← hPW]
        exact ⟨⟨ha0, by show (a : Int) ≤ 255; omega⟩, ⟨by show (0 : Int) ≤ ((C + 1 : Nat) : Int); omega, by show ((C + 1 : Nat) : Int) ≤ 4294967295; omega⟩, hSFok, hSGok⟩
      have HPB : Veil (∀ wx, (Instr.build 49 #[(0, .int .u8 (a : Int)), (1, .int .u32 ((C : Int) + 1)), (2, .agg FV.toArray), (3, .agg GV.toArray)]).run Tryd.prog wx = .ok (.agg PWC.toArray) wx) := ⟨fun wx => by
        have := proofBuilt (a : Int) ((C : Int) + 1) SF SG hSFok.1 hSGok.1 wx
        unfold row at this
        rw [HVS.out.1, HVS.out.2] at this
        rw [← hPWC, ← hPW]
        exact this⟩
      have HPWC := Veil.mk hPWC
      clear hP2 ePN e11 hPW hPWC HSF HSG HFG HVS HEQ hdd hne HOKT HT1 HOK1 HCS HAN HFR hH2ok
      generalize headsC (headsOf T1) = HCC at HIX HHD
      go_upto_region 17 with (first
        | (refine wpList_ldv rfl 34 _ rfl g4 0 rfl FV r4 Tryd.underlying34 rfl iFV ?_)
        | (refine wpList_ldv rfl 34 _ rfl g5 0 rfl GV r5 Tryd.underlying34 rfl iGV ?_))
      have uF : Tryd.prog.underlying 38 = _ := Tryd.underlying38
      have uP : Tryd.prog.underlying 49 = _ := Tryd.underlying49
      have hnq := HNQ.out
      have HTT : ∀ V v P, Keeps V (A + 1) H b v T1 P [(g4, 34, FV), (g5, 34, GV), (B9, 38, G9.cells), (A, 38, F3.cells)] → (fun w' : World => w'.cell? ⟨A, 0, none⟩ = some (.int .u8 (a : Int)) ∧ w'.cell? ⟨A, 1, none⟩ = some (.int .u32 ((C : Int) + 1)) ∧ w'.rangeAt g4 0 FV ∧ w'.rangeAt B9 0 G9.cells) V := fun V v P h => by
        have q := HC1.out V (h.k (A, 38, F3.cells) (by simp)).1
        exact ⟨q.1, q.2, (h.k (g4, 34, FV) (by simp)).1.wholeM, (h.k (B9, 38, G9.cells) (by simp)).1.wholeM⟩
      refine wp_region_gateT (fun w' => w'.cell? ⟨A, 0, none⟩ = some (.int .u8 (a : Int)) ∧ w'.cell? ⟨A, 1, none⟩ = some (.int .u32 ((C : Int) + 1)) ∧ w'.rangeAt g4 0 FV ∧ w'.rangeAt B9 0 G9.cells) (fun _ => True) 99 (by kernel_rfl) ?_
      have hS := trivial
      clear r4 r5 heq
      refine forget (p := fun y => wpAnyT _ _ _ _ _ _ _ _ _ _ y) (fun V => Below w.heap.size w V ∧ Keeps V (A + 1) H b v6 T1 P [(g4, 34, FV), (g5, 34, GV), (B9, 38, G9.cells), (A, 38, F3.cells)]) ⟨hb.drew, hK.far (Below.refl _ _).drew⟩ ?_
      clear hb hK
      clear V
      rintro V0 ⟨hB0, hK0⟩
      have hT := HTT V0 _ _ hK0
      refine wpAnyT_held (i := 0) (v := ?_) rfl (by kernel_rfl) (by kernel_rfl) (by kernel_rfl) (fun _ _ _ h => h) (by kernel_rfl) hT (fun _ => hS) (by kernel_rfl) ?_ ?_
      rotate_left
      · intro wx hSw; go_split_ands; go_simp; try with_reducible rfl
      simp only [Act.put, List.getElem_toArray, List.getElem_cons_succ, List.getElem_cons_zero, List.setIfInBounds_toArray, List.set_cons_zero, List.set_cons_succ]
      refine wpAnyT_held (i := 2) (v := ?_) rfl (by kernel_rfl) (by kernel_rfl) (by kernel_rfl) (fun _ _ _ h => h) (by kernel_rfl) hT (fun _ => hS) (by kernel_rfl) ?_ ?_
      rotate_left
      · intro wx hSw; go_split_ands; go_simp; try with_reducible rfl
      simp only [Act.put, List.getElem_toArray, List.getElem_cons_succ, List.getElem_cons_zero, List.setIfInBounds_toArray, List.set_cons_zero, List.set_cons_succ]
      refine wpAnyT_held (i := 3) (v := ?_) rfl (by kernel_rfl) (by kernel_rfl) (by kernel_rfl) (fun _ _ _ h => h) (by kernel_rfl) hT (fun _ => hS) (by kernel_rfl) ?_ ?_
      rotate_left
      · intro wx hSw; go_split_ands; go_simp; try with_reducible rfl
      simp only [Act.put, List.getElem_toArray, List.getElem_cons_succ, List.getElem_cons_zero, List.setIfInBounds_toArray, List.set_cons_zero, List.set_cons_succ]
      refine wpAnyT_held (i := 5) (v := ?_) rfl (by kernel_rfl) (by kernel_rfl) (by kernel_rfl) (fun _ _ _ h => h) (by kernel_rfl) hT (fun _ => hS) (by kernel_rfl) ?_ ?_
      rotate_left
      · intro wx hSw; go_split_ands; go_simp; try with_reducible rfl
      simp only [Act.put, List.getElem_toArray, List.getElem_cons_succ, List.getElem_cons_zero, List.setIfInBounds_toArray, List.set_cons_zero, List.set_cons_succ]
      refine wpAnyT_held (i := 6) (v := ?_) rfl (by kernel_rfl) (by kernel_rfl) (by kernel_rfl) (fun _ _ _ h => h) (by kernel_rfl) hT (fun _ => hS) (by kernel_rfl) ?_ ?_
      rotate_left
      · intro wx hSw; go_split_ands; go_simp; try with_reducible rfl
      simp only [Act.put, List.getElem_toArray, List.getElem_cons_succ, List.getElem_cons_zero, List.setIfInBounds_toArray, List.set_cons_zero, List.set_cons_succ]
      refine wpAnyT_load (i := 7) (dst := some 102) (ty := 34) (x := .tmp 10) (b := g4) (o := (0)) (cs := FV) (by kernel_rfl) (by kernel_rfl) (by kernel_rfl) (by kernel_rfl) (by kernel_rfl) (fun _ _ _ h => h) (by kernel_rfl) hT (fun _ => hS) (by kernel_rfl) (fun _ h => h.2.2.1) uK rfl iFV ?_
      simp only [Act.put, List.getElem_toArray, List.getElem_cons_succ, List.getElem_cons_zero, List.setIfInBounds_toArray, List.set_cons_zero, List.set_cons_succ]
      refine wpAnyT_held (i := 8) (v := .agg HD2.toArray) rfl (by kernel_rfl) (by kernel_rfl) (by kernel_rfl) (fun _ _ _ h => h) (by kernel_rfl) hT (fun _ => hS) (by kernel_rfl) (fun wx h => execBuildT 40 _ rfl #[(0, .int .u32 ((C : Int) + 1)), (1, .agg FV.toArray)] (by kernel_rfl) (HBH.out wx)) ?_
      simp only [Act.put, List.getElem_toArray, List.getElem_cons_succ, List.getElem_cons_zero, List.setIfInBounds_toArray, List.set_cons_zero, List.set_cons_succ]
      refine wpAnyT_one (i := 1) rfl (by kernel_rfl) (by kernel_rfl) (fun K hK => ?_)
      refine wpx_call _ _ (by kernel_rfl) ((HHD.out V0 _ _ _ hK0).mono ?_)
      rintro e V1 ⟨rfl, hb1⟩
      refine ⟨_, rfl, ?_⟩
      have hK1 := hK0.far hb1
      have hB1 := hB0.trans (hb1.mono hB0.size)
      replace hT := HTT V1 _ _ hK1
      refine hK.out _ _ hT (fun _ => hS) ?_
      clear hK K
      try simp only [Act.put, List.getElem_toArray, List.getElem_cons_succ, List.getElem_cons_zero, List.setIfInBounds_toArray, List.set_cons_zero, List.set_cons_succ]
      refine wpAnyT_held (i := 4) (v := .agg HD2.toArray) rfl (by kernel_rfl) (by kernel_rfl) (by kernel_rfl) (fun _ _ _ h => h) (by kernel_rfl) hT (fun _ => hS) (by kernel_rfl) (fun wx h => exec_ixH rfl rfl rfl (HIX.out wx)) ?_
      simp only [Act.put, List.getElem_toArray, List.getElem_cons_succ, List.getElem_cons_zero, List.setIfInBounds_toArray, List.set_cons_zero, List.set_cons_succ]
      refine wpAnyT_held (i := 9) (v := .bool false) rfl (by kernel_rfl) (by kernel_rfl) (by kernel_rfl) (fun _ _ _ h => h) (by kernel_rfl) hT (fun _ => hS) (by kernel_rfl) ?_ ?_
      · intro wx hSw; go_split_ands; go_simp
      simp only [Act.put, List.getElem_toArray, List.getElem_cons_succ, List.getElem_cons_zero, List.setIfInBounds_toArray, List.set_cons_zero, List.set_cons_succ]
      refine wpAnyT_held (i := 10) (v := ?_) rfl (by kernel_rfl) (by kernel_rfl) (by kernel_rfl) (fun _ _ _ h => h) (by kernel_rfl) hT (fun _ => hS) (by kernel_rfl) ?_ ?_
      rotate_left
      · intro wx hSw; go_split_ands; go_simp; try with_reducible rfl
      simp only [Act.put, List.getElem_toArray, List.getElem_cons_succ, List.getElem_cons_zero, List.setIfInBounds_toArray, List.set_cons_zero, List.set_cons_succ]
      refine wpAnyT_held (i := 11) (v := ?_) rfl (by kernel_rfl) (by kernel_rfl) (by kernel_rfl) (fun _ _ _ h => h) (by kernel_rfl) hT (fun _ => hS) (by kernel_rfl) ?_ ?_
      rotate_left
      · intro wx hSw; go_split_ands; go_simp; try with_reducible rfl
      simp only [Act.put, List.getElem_toArray, List.getElem_cons_succ, List.getElem_cons_zero, List.setIfInBounds_toArray, List.set_cons_zero, List.set_cons_succ]
      refine wpAnyT_load (i := 12) (dst := some 107) (ty := 38) (x := .tmp 9) (b := B9) (o := (0)) (cs := G9.cells) (by kernel_rfl) (by kernel_rfl) (by kernel_rfl) (by kernel_rfl) (by kernel_rfl) (fun _ _ _ h => h) (by kernel_rfl) hT (fun _ => hS) (by kernel_rfl) (fun _ h => h.2.2.2) uF rfl iG9 ?_
      simp only [Act.put, List.getElem_toArray, List.getElem_cons_succ, List.getElem_cons_zero, List.setIfInBounds_toArray, List.set_cons_zero, List.set_cons_succ]
      refine wpAnyT_one (i := 13) rfl (by kernel_rfl) (by kernel_rfl) (fun K hK => ?_)
      refine wpx_call _ _ (by kernel_rfl) ((HLK.out V1 _ _ _ hB1 hK1).mono ?_)
      rintro e V2 ⟨rfl, hb2⟩
      refine ⟨_, rfl, ?_⟩
      have hK2 := hK1.far hb2
      have hB2 := hB1.trans (hb2.mono hB1.size)
      replace hT := HTT V2 _ _ hK2
      refine hK.out _ _ hT (fun _ => hS) ?_
      clear hK K
      try simp only [Act.put, List.getElem_toArray, List.getElem_cons_succ, List.getElem_cons_zero, List.setIfInBounds_toArray, List.set_cons_zero, List.set_cons_succ]
      refine wpAnyT_held (i := 14) (v := .bool false) rfl (by kernel_rfl) (by kernel_rfl) (by kernel_rfl) (fun _ _ _ h => h) (by kernel_rfl) hT (fun _ => hS) (by kernel_rfl) ?_ ?_
      · intro wx hSw; go_split_ands; go_simp
      simp only [Act.put, List.getElem_toArray, List.getElem_cons_succ, List.getElem_cons_zero, List.setIfInBounds_toArray, List.set_cons_zero, List.set_cons_succ]
      refine wpAnyT_held (i := 15) (v := .bool false) rfl (by kernel_rfl) (by kernel_rfl) (by kernel_rfl) (fun _ _ _ h => h) (by kernel_rfl) hT (fun _ => hS) (by kernel_rfl) ?_ ?_
      · intro wx hSw; go_split_ands; go_simp
      simp only [Act.put, List.getElem_toArray, List.getElem_cons_succ, List.getElem_cons_zero, List.setIfInBounds_toArray, List.set_cons_zero, List.set_cons_succ]
      refine wpAnyT_held (i := 16) (v := ?_) rfl (by kernel_rfl) (by kernel_rfl) (by kernel_rfl) (fun _ _ _ h => h) (by kernel_rfl) hT (fun _ => hS) (by kernel_rfl) ?_ ?_
      rotate_left
      · intro wx hSw; go_split_ands; go_simp; try with_reducible rfl
      simp only [Act.put, List.getElem_toArray, List.getElem_cons_succ, List.getElem_cons_zero, List.setIfInBounds_toArray, List.set_cons_zero, List.set_cons_succ]
      refine wpAnyT_held (i := 17) (v := ?_) rfl (by kernel_rfl) (by kernel_rfl) (by kernel_rfl) (fun _ _ _ h => h) (by kernel_rfl) hT (fun _ => hS) (by kernel_rfl) ?_ ?_
      rotate_left
      · intro wx hSw; go_split_ands; go_simp; try with_reducible rfl
      simp only [Act.put, List.getElem_toArray, List.getElem_cons_succ, List.getElem_cons_zero, List.setIfInBounds_toArray, List.set_cons_zero, List.set_cons_succ]
      refine wpAnyT_load (i := 18) (dst := some 113) (ty := 38) (x := .tmp 9) (b := B9) (o := (0)) (cs := G9.cells) (by kernel_rfl) (by kernel_rfl) (by kernel_rfl) (by kernel_rfl) (by kernel_rfl) (fun _ _ _ h => h) (by kernel_rfl) hT (fun _ => hS) (by kernel_rfl) (fun _ h => h.2.2.2) uF rfl iG9 ?_
      simp only [Act.put, List.getElem_toArray, List.getElem_cons_succ, List.getElem_cons_zero, List.setIfInBounds_toArray, List.set_cons_zero, List.set_cons_succ]
      refine wpAnyT_one (i := 19) rfl (by kernel_rfl) (by kernel_rfl) (fun K hK => ?_)
      refine wpx_call _ _ (by kernel_rfl) ((HAD.out V2 _ _ hB2 hK2).mono ?_)
      rintro e V3 ⟨rfl, v7, hK3, hB3⟩
      refine ⟨_, rfl, ?_⟩
      replace hT := HTT V3 _ _ hK3
      refine hK.out _ _ hT (fun _ => hS) ?_
      clear hK K
      try simp only [Act.put, List.getElem_toArray, List.getElem_cons_succ, List.getElem_cons_zero, List.setIfInBounds_toArray, List.set_cons_zero, List.set_cons_succ]
      refine wpAnyT_held (i := 20) (v := .bool false) rfl (by kernel_rfl) (by kernel_rfl) (by kernel_rfl) (fun _ _ _ h => h) (by kernel_rfl) hT (fun _ => hS) (by kernel_rfl) ?_ ?_
      · intro wx hSw; go_split_ands; go_simp
      simp only [Act.put, List.getElem_toArray, List.getElem_cons_succ, List.getElem_cons_zero, List.setIfInBounds_toArray, List.set_cons_zero, List.set_cons_succ]
      refine wpAnyT_held (i := 21) (v := .bool false) rfl (by kernel_rfl) (by kernel_rfl) (by kernel_rfl) (fun _ _ _ h => h) (by kernel_rfl) hT (fun _ => hS) (by kernel_rfl) ?_ ?_
      · intro wx hSw; go_split_ands; go_simp
      simp only [Act.put, List.getElem_toArray, List.getElem_cons_succ, List.getElem_cons_zero, List.setIfInBounds_toArray, List.set_cons_zero, List.set_cons_succ]
      refine wpAnyT_done (by kernel_rfl) ?_ _
      refine forget (p := fun y => Exit.then _ _ _ _ y) (fun V => Below w.heap.size w V ∧ Keeps V (A + 1) H b v7 T1 P2 [(g4, 34, FV), (g5, 34, GV), (B9, 38, G9.cells), (A, 38, F3.cells)]) ⟨hB3, hK3⟩ ?_
      clear hT hS hK3 hB3 hK2 hB2 hb2 hK1 hB1 hb1 hK0 hB0 HTT HIX HBH HNQ hnq HHD HLK HAD iG9 uF iF3 h7G h70
      clear V3 V2 V1 V0
      rintro V ⟨hb, hK⟩
      have hp := chProofs_any _ _ _ _ _ _ V hK.c
      have HOKP := Veil.mk (And.intro hK.c.okP hK.c.lenP)
      go_upto_region 20 with (go_at_call 18; refine hp.mono ?_; rintro e w8 ⟨f8, rfl, ho8, hb8⟩; clear hp)
      obtain ⟨x8, c8, hf8⟩ := ho8.isSlice
      rw [List.length_map] at hf8
      obtain ⟨m8, hm8⟩ : ∃ q, P2.length = q := ⟨_, rfl⟩
      rw [hm8] at hf8
      subst hf8
      have hm32 : m8 ≤ 32 := by rw [← hm8]; exact HOKP.out.2
      have HM := Veil.mk hm8
      clear hm8
      have HKK : Veil (∀ V, Keeps V (A + 1) H b v7 T1 P2 [(g4, 34, FV), (g5, 34, GV), (B9, 38, G9.cells), (A, 38, F3.cells)] → V.cell? ⟨A, 0, none⟩ = some (.int .u8 (a : Int)) ∧ V.cell? ⟨A, 1, none⟩ = some (.int .u32 ((C : Int) + 1)) ∧ V.rangeAt g4 0 FV ∧ V.rangeAt g5 0 GV) := ⟨fun V h => by
        have q := HC1.out V (h.k (A, 38, F3.cells) (by simp)).1
        exact ⟨q.1, q.2, (h.k (g4, 34, FV) (by simp)).1.wholeM, (h.k (g5, 34, GV) (by simp)).1.wholeM⟩⟩
      obtain ⟨s8, hs8⟩ : ∃ q, V.heap.size = q := ⟨_, rfl⟩
      rw [hs8] at ho8
      clear hs8
      refine forget (p := fun y => Code.wp _ _ _ _ y) (fun V => Below w.heap.size w V ∧ Keeps V (A + 1) H b v7 T1 P2 [(g4, 34, FV), (g5, 34, GV), (B9, 38, G9.cells), (A, 38, F3.cells)] ∧ OwnI V s8 49 66 (.slice x8 m8 c8) (P2.map proofC)) ⟨hb.trans (hb8.mono hb.size), hK.far hb8, ho8⟩ ?_
      clear hb hK hb8 ho8 HC1
      clear w8 V
      rintro V ⟨hb, hK, ho⟩
      go_wp2
      go_loopw [13] (fun q wr => ∃ j : Nat, j ≤ m8 ∧ q = .int .i64 j ∧ Below w.heap.size w wr ∧ Keeps wr (A + 1) H b v7 T1 P2 [(g4, 34, FV), (g5, 34, GV), (B9, 38, G9.cells), (A, 38, F3.cells)] ∧ OwnI wr s8 49 66 (.slice x8 m8 c8) (P2.map proofC) ∧ PW ∉ P2.take j) (fun q _ => m8 - (intOf q).toNat)
      case atStart => exact ⟨0, Nat.zero_le _, rfl, hb, hK, ho, by simp⟩
      case round =>
        clear hb hK ho
        obtain ⟨j, hj, rfl, hb, hK, ho, hni⟩ := hrel
        by_cases hjm : j < m8
        · have hji : (j : Int) < (m8 : Int) := by omega
          have hj0 : (0 : Int) ≤ (j : Int) := by omega
          have hjP : j < P2.length := by rw [HM.out]; exact hjm
          obtain ⟨g, hxg, _, hr⟩ := ho.at_ j (by rw [List.length_map]; exact hjP)
          subst hxg
          rw [List.getElem_map] at hr
          have hpk := HOKP.out.1 P2[j] (List.getElem_mem hjP)
          have iPj : (Tryd.prog.info? 49).map (·.size) = some (proofC P2[j]).length := by rw [proofC_len _ hpk.2.2.1.1 hpk.2.2.2.1]; exact sizeProof
          have HEP : Veil (∀ wx, (binOp .eql 49 (.agg (proofC P2[j]).toArray) (.agg PWC.toArray)).run Tryd.prog wx = .ok (.bool (decide (P2[j] = PW))) wx) := ⟨fun wx => by
            have := eqlProof P2[j] PW hpk hPWok wx
            rw [HPWC.out] at this
            exact this⟩
          have HNI : Veil (P2[j] ≠ PW → PW ∉ P2.take (j + 1)) := ⟨fun hq hm => by
            rw [List.take_succ_eq_append_getElem hjP] at hm
            rcases List.mem_append.1 hm with q | q
            · exact hni q
            · exact hq (List.mem_singleton.1 q).symm⟩
          generalize proofC P2[j] = PJ at hr iPj HEP
          clear hpk hni
          have hw1 : IntKind.i64.wrap ((j : Int) + 1) = (j : Int) + 1 := by rw [IntKind.wrap_i64]; omega
          obtain ⟨k0, k1, k4, k5⟩ := HKK.out wr hK
          by_cases hq : P2[j] = PW
          · have heq : ∀ wx, (binOp .eql 49 (.agg PJ.toArray) (.agg PWC.toArray)).run Tryd.prog wx = .ok (.bool true) wx := fun wx => by
              have := HEP.out wx
              rw [show decide (P2[j] = PW) = true by simp [hq]] at this
              exact this
            clear hq HNI HEP
            go_upto_region 23 with fail
            refine wp_region_gateT (fun w' => w'.rangeAt g (j * 66) PJ ∧ w'.cell? ⟨A, 0, none⟩ = some (.int .u8 (a : Int)) ∧ w'.cell? ⟨A, 1, none⟩ = some (.int .u32 ((C : Int) + 1)) ∧ w'.rangeAt g4 0 FV ∧ w'.rangeAt g5 0 GV) (fun _ => True) 99 (by kernel_rfl) ?_
            have hT : (fun w' : World => w'.rangeAt g (j * 66) PJ ∧ w'.cell? ⟨A, 0, none⟩ = some (.int .u8 (a : Int)) ∧ w'.cell? ⟨A, 1, none⟩ = some (.int .u32 ((C : Int) + 1)) ∧ w'.rangeAt g4 0 FV ∧ w'.rangeAt g5 0 GV) wr.drew := ⟨hr, k0, k1, k4, k5⟩
            have hS := trivial
            refine wpAnyT_held (i := 0) (v := ?_) rfl (by kernel_rfl) (by kernel_rfl) (by kernel_rfl) (fun _ _ _ h => h) (by kernel_rfl) hT (fun _ => hS) (by kernel_rfl) ?_ ?_
            rotate_left
            · intro wx hSw; go_split_ands; go_simp; try with_reducible rfl
            simp only [Act.put, List.getElem_toArray, List.getElem_cons_succ, List.getElem_cons_zero, List.setIfInBounds_toArray, List.set_cons_zero, List.set_cons_succ]
            refine wpAnyT_held (i := 1) (v := ?_) rfl (by kernel_rfl) (by kernel_rfl) (by kernel_rfl) (fun _ _ _ h => h) (by kernel_rfl) hT (fun _ => hS) (by kernel_rfl) ?_ ?_
            rotate_left
            · intro wx hSw; go_split_ands; go_simp; try with_reducible rfl
            simp only [Act.put, List.getElem_toArray, List.getElem_cons_succ, List.getElem_cons_zero, List.setIfInBounds_toArray, List.set_cons_zero, List.set_cons_succ]
            refine wpAnyT_held (i := 2) (v := ?_) rfl (by kernel_rfl) (by kernel_rfl) (by kernel_rfl) (fun _ _ _ h => h) (by kernel_rfl) hT (fun _ => hS) (by kernel_rfl) ?_ ?_
            rotate_left
            · intro wx hSw; go_split_ands; go_simp; try with_reducible rfl
            simp only [Act.put, List.getElem_toArray, List.getElem_cons_succ, List.getElem_cons_zero, List.setIfInBounds_toArray, List.set_cons_zero, List.set_cons_succ]
            refine wpAnyT_load (i := 3) (dst := some 128) (ty := 49) (x := .tmp 127) (b := g) (o := ((j * 66))) (cs := PJ) (by kernel_rfl) (by kernel_rfl) (by kernel_rfl) (by kernel_rfl) (by kernel_rfl) (fun _ _ _ h => h) (by kernel_rfl) hT (fun _ => hS) (by kernel_rfl) (fun _ h => h.1) uP rfl iPj ?_
            simp only [Act.put, List.getElem_toArray, List.getElem_cons_succ, List.getElem_cons_zero, List.setIfInBounds_toArray, List.set_cons_zero, List.set_cons_succ]
            refine wpAnyT_held (i := 4) (v := ?_) rfl (by kernel_rfl) (by kernel_rfl) (by kernel_rfl) (fun _ _ _ h => h) (by kernel_rfl) hT (fun _ => hS) (by kernel_rfl) ?_ ?_
            rotate_left
            · intro wx hSw; go_split_ands; go_simp; try with_reducible rfl
            simp only [Act.put, List.getElem_toArray, List.getElem_cons_succ, List.getElem_cons_zero, List.setIfInBounds_toArray, List.set_cons_zero, List.set_cons_succ]
            refine wpAnyT_held (i := 5) (v := ?_) rfl (by kernel_rfl) (by kernel_rfl) (by kernel_rfl) (fun _ _ _ h => h) (by kernel_rfl) hT (fun _ => hS) (by kernel_rfl) ?_ ?_
            rotate_left
            · intro wx hSw; go_split_ands; go_simp; try with_reducible rfl
            simp only [Act.put, List.getElem_toArray, List.getElem_cons_succ, List.getElem_cons_zero, List.setIfInBounds_toArray, List.set_cons_zero, List.set_cons_succ]
            refine wpAnyT_held (i := 6) (v := ?_) rfl (by kernel_rfl) (by kernel_rfl) (by kernel_rfl) (fun _ _ _ h => h) (by kernel_rfl) hT (fun _ => hS) (by kernel_rfl) ?_ ?_
            rotate_left
            · intro wx hSw; go_split_ands; go_simp; try with_reducible rfl
            simp only [Act.put, List.getElem_toArray, List.getElem_cons_succ, List.getElem_cons_zero, List.setIfInBounds_toArray, List.set_cons_zero, List.set_cons_succ]
            refine wpAnyT_held (i := 7) (v := ?_) rfl (by kernel_rfl) (by kernel_rfl) (by kernel_rfl) (fun _ _ _ h => h) (by kernel_rfl) hT (fun _ => hS) (by kernel_rfl) ?_ ?_
            rotate_left
            · intro wx hSw; go_split_ands; go_simp; try with_reducible rfl
            simp only [Act.put, List.getElem_toArray, List.getElem_cons_succ, List.getElem_cons_zero, List.setIfInBounds_toArray, List.set_cons_zero, List.set_cons_succ]
            refine wpAnyT_load (i := 8) (dst := some 133) (ty := 34) (x := .tmp 10) (b := g4) (o := (0)) (cs := FV) (by kernel_rfl) (by kernel_rfl) (by kernel_rfl) (by kernel_rfl) (by kernel_rfl) (fun _ _ _ h => h) (by kernel_rfl) hT (fun _ => hS) (by kernel_rfl) (fun _ h => h.2.2.2.1) uK rfl iFV ?_
            simp only [Act.put, List.getElem_toArray, List.getElem_cons_succ, List.getElem_cons_zero, List.setIfInBounds_toArray, List.set_cons_zero, List.set_cons_succ]
            refine wpAnyT_load (i := 9) (dst := some 134) (ty := 34) (x := .tmp 11) (b := g5) (o := (0)) (cs := GV) (by kernel_rfl) (by kernel_rfl) (by kernel_rfl) (by kernel_rfl) (by kernel_rfl) (fun _ _ _ h => h) (by kernel_rfl) hT (fun _ => hS) (by kernel_rfl) (fun _ h => h.2.2.2.2) uK rfl iGV ?_
            simp only [Act.put, List.getElem_toArray, List.getElem_cons_succ, List.getElem_cons_zero, List.setIfInBounds_toArray, List.set_cons_zero, List.set_cons_succ]
            refine wpAnyT_held (i := 10) (v := .agg PWC.toArray) rfl (by kernel_rfl) (by kernel_rfl) (by kernel_rfl) (fun _ _ _ h => h) (by kernel_rfl) hT (fun _ => hS) (by kernel_rfl) (fun wx h => execBuildT 49 _ rfl #[(0, .int .u8 (a : Int)), (1, .int .u32 ((C : Int) + 1)), (2, .agg FV.toArray), (3, .agg GV.toArray)] (by kernel_rfl) (HPB.out wx)) ?_
            simp only [Act.put, List.getElem_toArray, List.getElem_cons_succ, List.getElem_cons_zero, List.setIfInBounds_toArray, List.set_cons_zero, List.set_cons_succ]
            refine wpAnyT_held (i := 11) (v := .bool true) rfl (by kernel_rfl) (by kernel_rfl) (by kernel_rfl) (fun _ _ _ h => h) (by kernel_rfl) hT (fun _ => hS) (by kernel_rfl) ?_ ?_
            · intro wx hSw; go_split_ands; go_simp
            simp only [Act.put, List.getElem_toArray, List.getElem_cons_succ, List.getElem_cons_zero, List.setIfInBounds_toArray, List.set_cons_zero, List.set_cons_succ]
            refine wpAnyT_done (by kernel_rfl) ?_ _
            clear hT heq hr k0 k1 k4 k5
            go_wp2
            go_ret
            exact ⟨rfl, hb.drew⟩
          · have heq : ∀ wx, (binOp .eql 49 (.agg PJ.toArray) (.agg PWC.toArray)).run Tryd.prog wx = .ok (.bool false) wx := fun wx => by
              have := HEP.out wx
              rw [show decide (P2[j] = PW) = false by simp [hq]] at this
              exact this
            have HNI2 := Veil.mk (HNI.out hq)
            clear hq HNI HEP
            go_upto_region 23 with fail
            refine wp_region_gateT (fun w' => w'.rangeAt g (j * 66) PJ ∧ w'.cell? ⟨A, 0, none⟩ = some (.int .u8 (a : Int)) ∧ w'.cell? ⟨A, 1, none⟩ = some (.int .u32 ((C : Int) + 1)) ∧ w'.rangeAt g4 0 FV ∧ w'.rangeAt g5 0 GV) (fun _ => True) 99 (by kernel_rfl) ?_
            have hT : (fun w' : World => w'.rangeAt g (j * 66) PJ ∧ w'.cell? ⟨A, 0, none⟩ = some (.int .u8 (a : Int)) ∧ w'.cell? ⟨A, 1, none⟩ = some (.int .u32 ((C : Int) + 1)) ∧ w'.rangeAt g4 0 FV ∧ w'.rangeAt g5 0 GV) wr.drew := ⟨hr, k0, k1, k4, k5⟩
            have hS := trivial
            refine wpAnyT_held (i := 0) (v := ?_) rfl (by kernel_rfl) (by kernel_rfl) (by kernel_rfl) (fun _ _ _ h => h) (by kernel_rfl) hT (fun _ => hS) (by kernel_rfl) ?_ ?_
            rotate_left
            · intro wx hSw; go_split_ands; go_simp; try with_reducible rfl
            simp only [Act.put, List.getElem_toArray, List.getElem_cons_succ, List.getElem_cons_zero, List.setIfInBounds_toArray, List.set_cons_zero, List.set_cons_succ]
            refine wpAnyT_held (i := 1) (v := ?_) rfl (by kernel_rfl) (by kernel_rfl) (by kernel_rfl) (fun _ _ _ h => h) (by kernel_rfl) hT (fun _ => hS) (by kernel_rfl) ?_ ?_
            rotate_left
            · intro wx hSw; go_split_ands; go_simp; try with_reducible rfl
            simp only [Act.put, List.getElem_toArray, List.getElem_cons_succ, List.getElem_cons_zero, List.setIfInBounds_toArray, List.set_cons_zero, List.set_cons_succ]
            refine wpAnyT_held (i := 2) (v := ?_) rfl (by kernel_rfl) (by kernel_rfl) (by kernel_rfl) (fun _ _ _ h => h) (by kernel_rfl) hT (fun _ => hS) (by kernel_rfl) ?_ ?_
            rotate_left
            · intro wx hSw; go_split_ands; go_simp; try with_reducible rfl
            simp only [Act.put, List.getElem_toArray, List.getElem_cons_succ, List.getElem_cons_zero, List.setIfInBounds_toArray, List.set_cons_zero, List.set_cons_succ]
            refine wpAnyT_load (i := 3) (dst := some 128) (ty := 49) (x := .tmp 127) (b := g) (o := ((j * 66))) (cs := PJ) (by kernel_rfl) (by kernel_rfl) (by kernel_rfl) (by kernel_rfl) (by kernel_rfl) (fun _ _ _ h => h) (by kernel_rfl) hT (fun _ => hS) (by kernel_rfl) (fun _ h => h.1) uP rfl iPj ?_
            simp only [Act.put, List.getElem_toArray, List.getElem_cons_succ, List.getElem_cons_zero, List.setIfInBounds_toArray, List.set_cons_zero, List.set_cons_succ]
            refine wpAnyT_held (i := 4) (v := ?_) rfl (by kernel_rfl) (by kernel_rfl) (by kernel_rfl) (fun _ _ _ h => h) (by kernel_rfl) hT (fun _ => hS) (by kernel_rfl) ?_ ?_
            rotate_left
            · intro wx hSw; go_split_ands; go_simp; try with_reducible rfl
            simp only [Act.put, List.getElem_toArray, List.getElem_cons_succ, List.getElem_cons_zero, List.setIfInBounds_toArray, List.set_cons_zero, List.set_cons_succ]
            refine wpAnyT_held (i := 5) (v := ?_) rfl (by kernel_rfl) (by kernel_rfl) (by kernel_rfl) (fun _ _ _ h => h) (by kernel_rfl) hT (fun _ => hS) (by kernel_rfl) ?_ ?_
            rotate_left
            · intro wx hSw; go_split_ands; go_simp; try with_reducible rfl
            simp only [Act.put, List.getElem_toArray, List.getElem_cons_succ, List.getElem_cons_zero, List.setIfInBounds_toArray, List.set_cons_zero, List.set_cons_succ]
            refine wpAnyT_held (i := 6) (v := ?_) rfl (by kernel_rfl) (by kernel_rfl) (by kernel_rfl) (fun _ _ _ h => h) (by kernel_rfl) hT (fun _ => hS) (by kernel_rfl) ?_ ?_
            rotate_left
            · intro wx hSw; go_split_ands; go_simp; try with_reducible rfl
            simp only [Act.put, List.getElem_toArray, List.getElem_cons_succ, List.getElem_cons_zero, List.setIfInBounds_toArray, List.set_cons_zero, List.set_cons_succ]
            refine wpAnyT_held (i := 7) (v := ?_) rfl (by kernel_rfl) (by kernel_rfl) (by kernel_rfl) (fun _ _ _ h => h) (by kernel_rfl) hT (fun _ => hS) (by kernel_rfl) ?_ ?_
            rotate_left
            · intro wx hSw; go_split_ands; go_simp; try with_reducible rfl
            simp only [Act.put, List.getElem_toArray, List.getElem_cons_succ, List.getElem_cons_zero, List.setIfInBounds_toArray, List.set_cons_zero, List.set_cons_succ]
            refine wpAnyT_load (i := 8) (dst := some 133) (ty := 34) (x := .tmp 10) (b := g4) (o := (0)) (cs := FV) (by kernel_rfl) (by kernel_rfl) (by kernel_rfl) (by kernel_rfl) (by kernel_rfl) (fun _ _ _ h => h) (by kernel_rfl) hT (fun _ => hS) (by kernel_rfl) (fun _ h => h.2.2.2.1) uK rfl iFV ?_
            simp only [Act.put, List.getElem_toArray, List.getElem_cons_succ, List.getElem_cons_zero, List.setIfInBounds_toArray, List.set_cons_zero, List.set_cons_succ]
            refine wpAnyT_load (i := 9) (dst := some 134) (ty := 34) (x := .tmp 11) (b := g5) (o := (0)) (cs := GV) (by kernel_rfl) (by kernel_rfl) (by kernel_rfl) (by kernel_rfl) (by kernel_rfl) (fun _ _ _ h => h) (by kernel_rfl) hT (fun _ => hS) (by kernel_rfl) (fun _ h => h.2.2.2.2) uK rfl iGV ?_
            simp only [Act.put, List.getElem_toArray, List.getElem_cons_succ, List.getElem_cons_zero, List.setIfInBounds_toArray, List.set_cons_zero, List.set_cons_succ]
            refine wpAnyT_held (i := 10) (v := .agg PWC.toArray) rfl (by kernel_rfl) (by kernel_rfl) (by kernel_rfl) (fun _ _ _ h => h) (by kernel_rfl) hT (fun _ => hS) (by kernel_rfl) (fun wx h => execBuildT 49 _ rfl #[(0, .int .u8 (a : Int)), (1, .int .u32 ((C : Int) + 1)), (2, .agg FV.toArray), (3, .agg GV.toArray)] (by kernel_rfl) (HPB.out wx)) ?_
            simp only [Act.put, List.getElem_toArray, List.getElem_cons_succ, List.getElem_cons_zero, List.setIfInBounds_toArray, List.set_cons_zero, List.set_cons_succ]
            refine wpAnyT_held (i := 11) (v := .bool false) rfl (by kernel_rfl) (by kernel_rfl) (by kernel_rfl) (fun _ _ _ h => h) (by kernel_rfl) hT (fun _ => hS) (by kernel_rfl) ?_ ?_
            · intro wx hSw; go_split_ands; go_simp
            simp only [Act.put, List.getElem_toArray, List.getElem_cons_succ, List.getElem_cons_zero, List.setIfInBounds_toArray, List.set_cons_zero, List.set_cons_succ]
            refine wpAnyT_done (by kernel_rfl) ?_ _
            clear hT heq hr k0 k1 k4 k5
            go_wp2
            go_roundw
            case rel => exact ⟨j + 1, hjm, by push_cast; rfl, hb.drew, hK.far (Below.refl _ _).drew, ho.congr fun _ _ => rfl, HNI2.out⟩
            case measure => simp [intOf]; omega
        · obtain rfl : j = m8 := by omega
          have hji : ¬ (j : Int) < (j : Int) := by omega
          have hm2 : ((j : Int) == 32) = true := by
            rcases HIN2.out with q | q
            · exact absurd (by rw [List.take_of_length_le (by rw [HM.out]; exact Nat.le_refl _)]; exact q) hni
            · rw [HM.out] at q; simp [q]
          clear hni
          go_wp2
          go_ret
          exact ⟨rfl, hb⟩
    ⟩
    clear hK2
    by_cases hl : 3 < lw
    · obtain ⟨b3, o3, rfl⟩ : ∃ b o, xw = some ⟨b, o, none⟩ := by
        rcases HFR.out.hw.at_ with h0 | ⟨b, o, hx, _⟩
        · omega
        · exact ⟨b, o, hx⟩
      have hcb := HFR.out.hw.le
      have hcut := fun wx => run_cutW3 wx b3 o3 lw cw (by omega)
      have hl' : (lw : Int) > 3 := by omega
      go_wp2
      exact REST.out _ _ (meetU (by kernel_rfl) ⟨(HSET.out _ _ _ hb HC.out).1, (HSET.out _ _ _ hb HC.out).2, _, _, _, _, _, _, _, _, _, HFR.out.cutW 3 (by omega), HAU.out, by rw [← fr_setW3 F1 _ HFR.out.prev]; exact hAc.set 36 _⟩)
    · have hl' : ¬ (lw : Int) > 3 := by omega
      go_wp2
      exact REST.out _ _ (meetU (by kernel_rfl) ⟨hb, HC.out, _, _, _, _, _, _, _, _, _, HFR.out, HAU.out, hAc⟩)
  ⟩
  clear hK1
  rintro W ⟨hb', hAc, hC⟩
  have hb := HBA.out W hb'
  clear hb'
  have HC := Veil.mk hC
  clear hC
  have c37 : W.cell? ⟨A, 37, none⟩ = some (.slice xb lb cb) := by rw [hAc.cell, f37, HFR.out.body_]
  have g37 := hAc.frozen 37
  clear f37 f36 f0
  by_cases hl : 300 < lb
  · obtain ⟨b2, o2, rfl⟩ : ∃ b o, xb = some ⟨b, o, none⟩ := by
      rcases HFR.out.hb.at_ with h0 | ⟨b, o, hx, _⟩
      · omega
      · exact ⟨b, o, hx⟩
    have hcb := HFR.out.hb.le
    have hcut := fun wx => run_cutB3 wx b2 o2 lb cb (by omega)
    have hl' : (lb : Int) > 300 := by omega
    go_wp2
    exact REST.out _ _ (meetU (by kernel_rfl) ⟨(HSET.out _ _ _ hb HC.out).1, (HSET.out _ _ _ hb HC.out).2, _, _, _, _, _, HFR.out.cutB 300 (by omega), HAU.out, by rw [← fr_setB3 F _ HFR.out.prev]; exact hAc.set 37 _⟩)
  · have hl' : ¬ (lb : Int) > 300 := by omega
    go_wp2
    exact REST.out _ _ (meetU (by kernel_rfl) ⟨hb, HC.out, _, _, _, _, _, HFR.out, HAU.out, hAc⟩)
end Go.Proofs.YtgcidamdbidgiaaDoor
