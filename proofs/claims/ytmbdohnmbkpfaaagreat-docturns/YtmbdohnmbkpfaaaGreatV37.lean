/- Dc9 Dc10 Dc11 -/
import Derived.Test.YtmbdohnmbkpfaaaGreatV36
namespace Go.Proofs.YtmbdohnmbkpfaaaGreat
open Go.RowKit Go.Shelf
set_option maxRecDepth 20000
set_option linter.unusedSimpArgs false
theorem forM_getD (F : List (Int × Int)) (x : Int × Int) : (forM F x).getD (.agg #[]) = .agg #[] := by unfold forM; split <;> rfl
theorem forM_some (F : List (Int × Int)) (x : Int × Int) : (forM F x).isSome = decide (x ∈ F) := by unfold forM; split <;> simp [*]
set_option maxHeartbeats 4000000 in
theorem dForce_any (base : Nat) (st : Ds) (p : Pl) (x : Int × Int) (hx : okDF x) (w : World) (hD : DocAt w base st p) (hG : GoodD st) :
    Calls Tryz.prog 19 #[.pointer (some ⟨p.D, 0, none⟩), .agg (encF x).toArray] w fun r w' => r = .returned (.bool (decide (x ∈ st.F))) ∧ Below w.heap.size w w' := by
 have hd0 := CellsAt.new w 40 (encF x)
 have hB : Below w.heap.size w (w.alloc (.cells (encF x).toArray 40)) := (Below.refl _ _).alloc (Nat.le_refl _) _
 have HLOOK : Veil (∀ wx, MapG Tryz.prog 40 encDF okDF wx p.fm st.F.length (forM st.F) → (Instr.lookup 71 (.map (some p.fm)) (.agg (encF x).toArray) true).run Tryz.prog wx = .ok (.tuple #[.agg #[], .bool (decide (x ∈ st.F))]) wx) := ⟨fun wx h => by
  have := h.look keyEncDF Tryz.underlying71 (z := .agg #[]) (by kernel_rfl) x hx
  rw [forM_getD, forM_some] at this
  exact this⟩
 have HT : Veil (∀ W, DocAt W base st p → CellsAt W w.heap.size 40 (encF x) → W.cell? ⟨p.D, 11, none⟩ = some (.map (some p.fm)) ∧ W.rangeAt w.heap.size 0 (encF x) ∧ MapG Tryz.prog 40 encDF okDF W p.fm st.F.length (forM st.F)) := ⟨fun W h h2 => ⟨h.cF hG.slen, h2.wholeM, h.force⟩⟩
 have hD0 := hD.far hB
 generalize decide (x ∈ st.F) = IS at HLOOK ⊢
 have uD := Tryz.underlying40
 have iD : (Tryz.prog.info? 40).map (·.size) = some (encF x).length := sizeDot
 obtain ⟨DX, hDX⟩ : ∃ q, encF x = q := ⟨_, rfl⟩
 rw [hDX] at HLOOK iD hd0 hB HT hD0 ⊢
 obtain ⟨D, hDD⟩ : ∃ q, p.D = q := ⟨_, rfl⟩
 obtain ⟨fm, hfm⟩ : ∃ q, p.fm = q := ⟨_, rfl⟩
 rw [hDD, hfm] at HT
 rw [hfm] at HLOOK
 rw [hDD]
 clear hDX hx hD hG hDD hfm
 go_enter Tryz.func19, Tryz.ntmps19
 go_upto_region 3 with fail
 refine forget (p := fun y => Code.wp _ _ _ _ y) (fun W => Below w.heap.size w W ∧ DocAt W base st p ∧ CellsAt W w.heap.size 40 DX) ⟨hB, hD0, hd0⟩ ?_
 clear hB hd0 hD0
 rintro W ⟨hB, hC, hd0⟩
 have hb0 : Below W.heap.size W W.drew := (Below.refl _ _).drew
 have hb1 : Below W.heap.size W (W.drew.alloc (.cells #[] 80)) := hb0.alloc (Nat.le_refl _) _
 refine wp_region_gateT (fun W => W.cell? ⟨D, 11, none⟩ = some (.map (some fm)) ∧ W.rangeAt w.heap.size 0 DX ∧ MapG Tryz.prog 40 encDF okDF W fm st.F.length (forM st.F)) (fun _ => True) 99 (by kernel_rfl) ?_
 have hT : (fun W : World => W.cell? ⟨D, 11, none⟩ = some (.map (some fm)) ∧ W.rangeAt w.heap.size 0 DX ∧ MapG Tryz.prog 40 encDF okDF W fm st.F.length (forM st.F)) W.drew := HT.out _ (hC.far hb0) (hd0.farM hb0)
 have hS : (fun _ : World => True) W.drew := trivial
 have hT1 := HT.out _ (hC.far hb1) (hd0.farM hb1)
 have HQ := Veil.mk (hB.trans (hb1.mono hB.size))
 clear hC hd0 hb0 hb1 hB
 refine ghA 0 _ hT hS ?_
 simp only [Act.put, gA, gS, gZ, sI, sZ, sS]
 refine ghA 1 _ hT hS ?_
 simp only [Act.put, gA, gS, gZ, sI, sZ, sS]
 refine ghA 2 _ hT hS ?_
 simp only [Act.put, gA, gS, gZ, sI, sZ, sS]
 refine ghA 3 _ hT hS ?_
 simp only [Act.put, gA, gS, gZ, sI, sZ, sS]
 refine ghA 4 _ hT hS ?_
 simp only [Act.put, gA, gS, gZ, sI, sZ, sS]
 refine gl 5 15 40 3 w.heap.size 0 DX (by kernel_rfl) (by kernel_rfl) (by kernel_rfl) (fun _ _ _ h => h) hT hS (by kernel_rfl) (fun _ h => h.2.1) uD rfl iD ?_
 simp only [Act.put, gA, gS, gZ, sI, sZ, sS]
 refine wpAnyT_held (i := 6) (v := (.tuple #[.agg #[], .bool IS])) rfl (by kernel_rfl) (by kernel_rfl) (by kernel_rfl) (fun _ _ _ h => h) (by kernel_rfl) hT (fun _ => hS) (by kernel_rfl) (fun wx h => exec_lookF rfl rfl rfl (HLOOK.out wx h.2.2)) ?_
 simp only [Act.put, gA, gS, gZ, sI, sZ, sS]
 refine ghA 7 _ hT hS ?_
 simp only [Act.put, gA, gS, gZ, sI, sZ, sS]
 refine ghA 8 _ hT hS ?_
 simp only [Act.put, gA, gS, gZ, sI, sZ, sS]
 refine ghA 9 _ hT hS ?_
 simp only [Act.put, gA, gS, gZ, sI, sZ, sS]
 refine wpAnyT_one (i := 10) rfl (by kernel_rfl) (by kernel_rfl) (fun K hK => ?_)
 go_simp
 replace hT := hT1
 replace hS : (fun _ : World => True) (W.drew.alloc (.cells #[] 80)) := trivial
 refine hK.out _ _ hT (fun _ => hS) ?_
 clear hK K
 try simp only [Act.put, gA, gS, gZ, sI, sZ, sS]
 refine wpAnyT_one (i := 11) rfl (by kernel_rfl) (by kernel_rfl) (fun K hK => ?_)
 go_simp
 refine hK.out _ _ hT (fun _ => hS) ?_
 clear hK K
 try simp only [Act.put, gA, gS, gZ, sI, sZ, sS]
 refine ghA 12 _ hT hS ?_
 simp only [Act.put, gA, gS, gZ, sI, sZ, sS]
 refine wpAnyT_done (by kernel_rfl) ?_ _
 clear hT hS hT1
 go_wp2
 go_ret
 exact ⟨rfl, HQ.out⟩
set_option maxHeartbeats 4000000 in
theorem dMembers_any (base : Nat) (st : Ds) (p : Pl) (w : World) (hD : DocAt w base st p) (hG : GoodD st) :
    Calls Tryz.prog 21 #[.pointer (some ⟨p.D, 0, none⟩)] w fun r w' => r = .returned (.agg (row .u8 (membersL st.B st.S))) ∧ Below w.heap.size w w' := by
 have hr0 := Holds.new w .u8 49 [0, 0, 0, 0, 0, 0, 0, 0]
 have hB0 : Below w.heap.size w (w.alloc (.cells (row .u8 [0, 0, 0, 0, 0, 0, 0, 0]) 49)) := (Below.refl _ _).alloc (Nat.le_refl _) _
 have hD0 := hD.far hB0
 have iV : (Tryz.prog.info? 37).map (·.size) = some (st.S.map (Value.int .u32)).length := by rw [List.length_map, hG.slen]; kernel_rfl
 have uV := Tryz.underlying37
 have HME : Veil (∀ W, DocAt W base st p → Calls Tryz.prog 47 #[.pointer (some ⟨p.H, 0, none⟩), .agg (st.S.map (Value.int .u32)).toArray] W fun e w' => e = .returned (.agg (row .u8 (membersL st.B st.S))) ∧ Below W.heap.size W w') := ⟨fun W h => members_any p.H p.bk st.B st.S W h.book hG.slen⟩
 have HT : Veil (∀ W, CellsAt W p.D 75 (docC st p) → W.cell? ⟨p.D, 1, none⟩ = some (.pointer (some ⟨p.H, 0, none⟩)) ∧ W.rangeAt p.D 2 (st.S.map (Value.int .u32))) := ⟨fun W h => by
  have h1 := h.range 2 8
  rw [(docC_parts st p hG.slen).2.2.1] at h1
  exact ⟨(h.cell 1).trans (docC_parts st p hG.slen).2.1, h1⟩⟩
 have HBX : Veil (∀ W, DocAt W base st p → CellsAt W p.D 75 (docC st p)) := ⟨fun W h => h.box⟩
 have hne : w.heap.size ≠ p.D := fun e => by have := hD.box.lt; omega
 have hj8 := membersL_len st.B st.S
 generalize membersL st.B st.S = J at HME hj8 ⊢
 generalize st.S.map (Value.int .u32) = SV at HME HT iV
 generalize docC st p = DC at HT HBX
 obtain ⟨D, hDD⟩ : ∃ q, p.D = q := ⟨_, rfl⟩
 obtain ⟨H, hHH⟩ : ∃ q, p.H = q := ⟨_, rfl⟩
 rw [hDD, hHH] at HT
 rw [hHH] at HME
 rw [hDD] at HBX hne ⊢
 clear hD hG hDD hHH
 go_enter Tryz.func21, Tryz.ntmps21
 go_upto_region 3 with fail
 obtain ⟨Z, hZ⟩ : ∃ Z : List Int, Z = [0, 0, 0, 0, 0, 0, 0, 0] := ⟨_, rfl⟩
 have hZ8 : Z.length = 8 := by rw [hZ]; rfl
 refine forget (p := fun y => Code.wp _ _ _ _ y) (fun W => Below w.heap.size w W ∧ Holds W w.heap.size .u8 49 Z ∧ DocAt W base st p) ⟨hB0, by rw [hZ]; exact hr0, hD0⟩ ?_
 clear hB0 hr0 hD0 hZ
 rintro W ⟨hB, hr, hD⟩
 have hb0 : Below W.heap.size W W.drew := (Below.refl _ _).drew
 have hT : (fun W : World => W.cell? ⟨D, 1, none⟩ = some (.pointer (some ⟨H, 0, none⟩)) ∧ W.rangeAt D 2 SV) W.drew := HT.out _ (HBX.out _ (hD.far hb0))
 have hS : (fun _ : World => True) W.drew := trivial
 refine wp_region_gateT (fun W : World => W.cell? ⟨D, 1, none⟩ = some (.pointer (some ⟨H, 0, none⟩)) ∧ W.rangeAt D 2 SV) (fun _ => True) 99 (by kernel_rfl) ?_
 refine ghA 0 _ hT hS ?_
 simp only [Act.put, gA, gS, gZ, sI, sZ, sS]
 refine ghA 1 _ hT hS ?_
 simp only [Act.put, gA, gS, gZ, sI, sZ, sS]
 refine ghA 2 _ hT hS ?_
 simp only [Act.put, gA, gS, gZ, sI, sZ, sS]
 refine ghA 3 _ hT hS ?_
 simp only [Act.put, gA, gS, gZ, sI, sZ, sS]
 refine ghA 4 _ hT hS ?_
 simp only [Act.put, gA, gS, gZ, sI, sZ, sS]
 refine ghA 5 _ hT hS ?_
 simp only [Act.put, gA, gS, gZ, sI, sZ, sS]
 refine ghA 6 _ hT hS ?_
 simp only [Act.put, gA, gS, gZ, sI, sZ, sS]
 refine ghA 7 _ hT hS ?_
 simp only [Act.put, gA, gS, gZ, sI, sZ, sS]
 refine ghA 8 _ hT hS ?_
 simp only [Act.put, gA, gS, gZ, sI, sZ, sS]
 refine gl 9 15 37 14 D 2 SV (by kernel_rfl) (by kernel_rfl) (by kernel_rfl) (fun _ _ _ h => h) hT hS (by kernel_rfl) (fun _ h => h.2) uV rfl iV ?_
 simp only [Act.put, gA, gS, gZ, sI, sZ, sS]
 refine wpAnyT_one (i := 10) rfl (by kernel_rfl) (by kernel_rfl) (fun K hK => ?_)
 refine wpx_call _ _ (by kernel_rfl) ((HME.out _ (hD.far hb0)).mono ?_)
 rintro y W2 ⟨rfl, hb2⟩
 refine ⟨_, rfl, ?_⟩
 replace hb2 : Below W.heap.size W W2 := hb0.trans hb2
 have hr2 := holds_farA hr hb2
 have hB2 := hB.trans (hb2.mono hB.size)
 have hbx := HBX.out _ (hD.far hb2)
 replace hT := HT.out _ hbx
 replace hS : (fun _ : World => True) W2 := trivial
 clear hb2 hb0 hB hr hD
 refine hK.out _ _ hT (fun _ => hS) ?_
 clear hK K
 try simp only [Act.put, gA, gS, gZ, sI, sZ, sS]
 refine wpAnyT_one (i := 11) rfl (by kernel_rfl) (by kernel_rfl) (fun K hK => ?_)
 refine wp_stG 49 _ _ rfl w.heap.size rfl rfl hr2 (by rw [hj8]; exact sizeR8) (by rw [hZ8, hj8]) ?_
 replace hT := HT.out (W2.setRow w.heap.size (row .u8 J)) (hbx.setRowM _ (Ne.symm hne))
 replace hS : (fun _ : World => True) (W2.setRow w.heap.size (row .u8 J)) := trivial
 refine hK.out _ _ hT (fun _ => hS) ?_
 clear hK K
 try simp only [Act.put, gA, gS, gZ, sI, sZ, sS]
 refine wpAnyT_done (by kernel_rfl) ?_ _
 clear hT hS
 go_wp2
 refine bodyPost_ret (results_holds (Tryz.results21) _ rfl (hr2.setRow _) Tryz.underlying49 sizeR8 hj8) rfl ⟨rfl, ?_⟩
 exact below_setRow hB2 (by omega) _
set_option maxHeartbeats 4000000 in
theorem dVector_any (base : Nat) (st : Ds) (p : Pl) (w : World) (hD : DocAt w base st p) (hG : GoodD st) :
    Calls Tryz.prog 17 #[.pointer (some ⟨p.D, 0, none⟩)] w fun r w' => r = .returned (.agg (row .u32 st.S)) ∧ Below w.heap.size w w' := by
 have hr0 := Holds.new w .u32 37 [0, 0, 0, 0, 0, 0, 0, 0]
 have hB0 : Below w.heap.size w (w.alloc (.cells (row .u32 [0, 0, 0, 0, 0, 0, 0, 0]) 37)) := (Below.refl _ _).alloc (Nat.le_refl _) _
 have iV : (Tryz.prog.info? 37).map (·.size) = some (st.S.map (Value.int .u32)).length := by rw [List.length_map, hG.slen]; kernel_rfl
 have i8 : (Tryz.prog.info? 37).map (·.size) = some 8 := by kernel_rfl
 have uV := Tryz.underlying37
 have hrg := (hD.far hB0).cS hG.slen
 have hs8 := hG.slen
 generalize st.S = S at iV hrg hs8 ⊢
 generalize p.D = D at hrg ⊢
 clear hD hG
 go_enter Tryz.func17, Tryz.ntmps17
 go_upto_region 3 with fail
 obtain ⟨Z, hZ⟩ : ∃ Z : List Int, Z = [0, 0, 0, 0, 0, 0, 0, 0] := ⟨_, rfl⟩
 have hZ8 : Z.length = 8 := by rw [hZ]; rfl
 refine forget (p := fun y => Code.wp _ _ _ _ y) (fun W => Below w.heap.size w W ∧ Holds W w.heap.size .u32 37 Z ∧ W.rangeAt D 2 (S.map (Value.int .u32))) ⟨hB0, by rw [hZ]; exact hr0, hrg⟩ ?_
 clear hB0 hr0 hrg hZ
 rintro W ⟨hB, hr, hrg⟩
 go_wp2_with (first
  | (refine wpList_ldv rfl 37 _ rfl D 2 rfl (S.map (Value.int .u32)) hrg uV rfl iV ?_)
  | (refine wpList_st (l := S) rfl 37 _ _ rfl _ rfl rfl hr (by rw [hs8]; exact i8) (by rw [hZ8, hs8]) ?_))
 refine bodyPost_ret (results_holds (Tryz.results17) _ rfl (hr.setRow S) uV i8 hs8) rfl ⟨rfl, ?_⟩
 exact below_setRow hB (by omega) _
theorem TreeAt.lessD {w : World} {base base' R bc bn : Nat} {N : List Nd} {V : (Int × Int) × Bool → Value} (h : TreeAt w base R bc bn N V) (hb : base' ≤ base) : TreeAt w base' R bc bn N V := ⟨h.box, h.chars, h.nodes, ⟨fun s hs => (h.sides.own s hs).less hb, h.sides.apart, h.sides.far⟩, h.empty, h.nodup, h.okId, h.okChr, h.ne⟩
theorem forM_nil : forM [] = fun _ => none := by funext x; unfold forM; simp
def inZ (R H fm : Nat) : List Value := [.pointer (some ⟨R, 0, none⟩), .pointer (some ⟨H, 0, none⟩), .int .u32 0, .int .u32 0, .int .u32 0, .int .u32 0, .int .u32 0, .int .u32 0, .int .u32 0, .int .u32 0, .slice none 0 0, .map (some fm)]
set_option maxHeartbeats 4000000 in
theorem dempty_any (w : World) :
    Calls Tryz.prog 41 #[] w fun r w' => ∃ R bc bn H bk fm, r = .returned (.agg (inZ R H fm).toArray) ∧ TreeAt w' w.heap.size R bc bn [] (fun _ => .slice none 0 0) ∧ BookC w' H bk [] ∧ MapG Tryz.prog 40 encDF okDF w' fm 0 (fun _ => none) ∧ Below w.heap.size w w' ∧ (w.heap.size ≤ R ∧ w.heap.size ≤ bc ∧ w.heap.size ≤ bn) ∧ (R < H ∧ bc < H ∧ bn < H ∧ R < bk ∧ bc < bk ∧ bn < bk) ∧ H ≠ bk ∧ H < fm ∧ bk < fm := by
 obtain ⟨Z, hZ⟩ : ∃ Z : List Value, Z = [.pointer none, .pointer none, .int .u32 0, .int .u32 0, .int .u32 0, .int .u32 0, .int .u32 0, .int .u32 0, .int .u32 0, .int .u32 0, .slice none 0 0, .map none] := ⟨_, rfl⟩
 have hc0 := CellsAt.new w 73 Z
 have hB0 : Below w.heap.size w (w.alloc (.cells Z.toArray 73)) := (Below.refl _ _).alloc (Nat.le_refl _) _
 have hZ12 : Z.length = 12 := by rw [hZ]; rfl
 have iI : ∀ R H fm, (Tryz.prog.info? 73).map (·.size) = some (inZ R H fm).length := fun R H fm => by show _ = some 12; kernel_rfl
 have h1I : ∀ R H fm, ∀ v ∈ inZ R H fm, v.oneCell' = true := fun R H fm v hv => by
  simp [inZ] at hv
  rcases hv with rfl | rfl | rfl | rfl | rfl <;> rfl
 have hmk := @run_makeMap Tryz.prog
 have uI := Tryz.underlying73
 rw [hZ] at hc0 hB0
 go_enter Tryz.func41, Tryz.ntmps41
 go_upto_region 1 with fail
 refine forget (p := fun y => Code.wp _ _ _ _ y) (fun W => Below w.heap.size w W ∧ CellsAt W w.heap.size 73 Z ∧ w.heap.size < W.heap.size) ⟨hB0, by rw [hZ]; exact hc0, hc0.lt⟩ ?_
 clear hB0 hc0 hZ
 rintro W ⟨hB, hc, hlt⟩
 have hnt := newT_any W
 go_wp2_with (first
  | (go_at_call 70; refine hnt.mono ?_; rintro y W1 ⟨R, bc, bn, rfl, hT1, hb1, hr1, hr2, hr3⟩; have hnb := bnew_any W1; clear hnt)
  | (go_at_call 71; refine hnb.mono ?_; rintro y W2 ⟨H, bk, rfl, hK2, hb2, hs1, hs2⟩; have hcZ : CellsAt (W2.alloc (.map #[] 0)) w.heap.size 73 Z := ((hc.farM hb1).farM hb2).alloc _; clear hnb)
  | (refine wpList_stv (cs := inZ R H W2.heap.size) rfl 73 _ _ rfl w.heap.size rfl rfl hcZ (iI _ _ _) hZ12 (h1I _ _ _) ?_))
 have hb3 : Below W2.heap.size W2 (W2.alloc (.map #[] 0)) := (Below.refl _ _).alloc (Nat.le_refl _) _
 have hBR := hT1.box.lt
 have hBc := hT1.chars.lt
 have hBn := hT1.nodes.lt
 have hBH := hK2.cells.lt
 have hBb := hK2.map.lt
 have hne : H ≠ bk := fun e => hK2.map.cellsNe hK2.cells e.symm
 have hk : ∀ k, k < W2.heap.size → k ≠ w.heap.size → ((W2.alloc (.map #[] 0)).setRow w.heap.size (inZ R H W2.heap.size).toArray).heap[k]? = W2.heap[k]? := fun k h1 h2 => by
  rw [setRow_other _ _ _ _ h2]; exact hb3.block k h1
 refine bodyPost_ret (results_cells (Tryz.results41) _ rfl (hcZ.setRow _) uI rfl (iI _ _ _)) rfl ⟨R, bc, bn, H, bk, W2.heap.size, rfl, ?_, ?_, ?_, ?_, ?_, ?_, hne, hBH, hBb⟩
 · have hT2 := hT1.far hb2
   refine TreeAt.lessD (hT2.congr fun k q => hk k (hT2.blockLt k q) ?_) hB.size
   rcases q with rfl | rfl | rfl | ⟨s, -, hs⟩
   · omega
   · omega
   · omega
   · cases hs
 · exact hK2.congr (hk _ hBH (by have := hb1.size; omega)) (hk _ hBb (by have := hb1.size; omega))
 · exact (MapG.made W2).congr (setRow_other _ _ _ _ (by have := hb1.size; have := hb2.size; omega))
 · exact below_setRow (((hB.trans (hb1.mono hB.size)).trans (hb2.mono (Nat.le_trans hB.size hb1.size))).trans (hb3.mono (Nat.le_trans hB.size (Nat.le_trans hb1.size hb2.size)))) (by omega) _
 · omega
 · omega
set_option maxHeartbeats 4000000 in
theorem dNew_any (w : World) :
    Calls Tryz.prog 15 #[] w fun r w' => ∃ p, r = .returned (.pointer (some ⟨p.D, 0, none⟩)) ∧ DocAt w' w.heap.size newS p ∧ Below w.heap.size w w' ∧ ∀ k, docP p k → w.heap.size ≤ k := by
 have he := dempty_any w
 go_enter Tryz.func15, Tryz.ntmps15
 go_wp2_with (go_at_call 41; refine he.mono ?_; rintro y W1 ⟨R, bc, bn, H, bk, fm, rfl, hT, hK, hM, hB, hl1, hl2, hne, hl3, hl4⟩; clear he; unfold inZ)
 go_ret
 have hb2 : Below W1.heap.size W1 (W1.alloc (.cells (inZ R H fm).toArray 75)) := (Below.refl _ _).alloc (Nat.le_refl _) _
 have hfl := hM.lt
 have l1 := hT.box.lt
 have l2 := hT.chars.lt
 have l3 := hT.nodes.lt
 have hlH := hK.cells.lt
 have hlk := hK.map.lt
 have hno : ∀ k, treeP R bc bn (fun _ => Value.slice none 0 0) k → k = R ∨ k = bc ∨ k = bn := fun k q => by
  rcases q with q | q | q | ⟨s, -, hs⟩
  · exact .inl q
  · exact .inr (.inl q)
  · exact .inr (.inr q)
  · cases hs
 refine ⟨⟨W1.heap.size, R, bc, bn, fun _ => .slice none 0 0, H, bk, .slice none 0 0, fm⟩, rfl, ⟨CellsAt.new W1 75 (inZ R H fm), hT.far hb2, hK.far hb2, OwnI.nil _ _ _ _, ?_, ⟨fun k q => ?_, ?_, ?_⟩⟩, hB.trans (hb2.mono hB.size), fun k q => ?_⟩
 · rw [show newS.F = [] from rfl, forM_nil]; exact hM.congr (hb2.block _ hfl)
 · show k ≠ W1.heap.size ∧ k ≠ H ∧ k ≠ bk ∧ k ≠ fm ∧ (Value.slice none 0 0).ownBlock ≠ some k
   have := hno k q
   exact ⟨by omega, by omega, by omega, by omega, (fun e => by cases e)⟩
 · show W1.heap.size ≠ H ∧ W1.heap.size ≠ bk ∧ W1.heap.size ≠ fm ∧ (Value.slice none 0 0).ownBlock ≠ some W1.heap.size
   exact ⟨by omega, by omega, by omega, (fun e => by cases e)⟩
 · show H ≠ bk ∧ H ≠ fm ∧ (Value.slice none 0 0).ownBlock ≠ some H ∧ bk ≠ fm ∧ (Value.slice none 0 0).ownBlock ≠ some bk ∧ (Value.slice none 0 0).ownBlock ≠ some fm
   exact ⟨hne, by omega, (fun e => by cases e), by omega, (fun e => by cases e), (fun e => by cases e)⟩
 · have hs := hB.size
   rcases q with q | q | q | q | q | q
   · have : k = W1.heap.size := q; omega
   · have := hno k q; omega
   · have : k = H := q; omega
   · have : k = bk := q; omega
   · cases q
   · have : k = fm := q; omega
theorem isMember_any (a : Int) (w : World) : Calls Tryz.prog 55 #[.int .u8 a] w fun r w' => r = .returned (.bool (decide (a < 8))) ∧ w' = w := by
 go_enter Tryz.func55, Tryz.ntmps55
 go_wp2
 go_ret
 exact ⟨rfl, rfl⟩
theorem isChar_any (c : Int) (w : World) : Calls Tryz.prog 51 #[.int .u8 c] w fun r w' => r = .returned (.bool (decide (1 ≤ c) && decide (c ≤ 127))) ∧ w' = w := by
 go_enter Tryz.func51, Tryz.ntmps51
 by_cases h : 1 ≤ c
 · have h1 : decide (1 ≤ c) = true := by simpa using h
   go_wp2
   go_ret
   exact ⟨ret_bC (by simp [h]), rfl⟩
 · have h1 : decide (1 ≤ c) = false := by simpa using h
   go_wp2
   go_ret
   exact ⟨ret_bC (by simp [h]), rfl⟩
theorem isGiven_any (c : Int) (w : World) : Calls Tryz.prog 56 #[.int .u8 c] w fun r w' => r = .returned (.bool (decide (1 ≤ c) && decide (c ≤ 3))) ∧ w' = w := by
 go_enter Tryz.func56, Tryz.ntmps56
 by_cases h : 1 ≤ c
 · have h1 : decide (1 ≤ c) = true := by simpa using h
   go_wp2
   go_ret
   exact ⟨ret_bC (by simp [h]), rfl⟩
 · have h1 : decide (1 ≤ c) = false := by simpa using h
   go_wp2
   go_ret
   exact ⟨ret_bC (by simp [h]), rfl⟩
def forbN (st : Ds) (a : Int) (fit : Bool) (least : Int) : Int := if ¬ a < 8 then 2 else if fit = false then 2 else if 512 ≤ st.L.length then 10 else if roleP st.B a st.S < least then 8 else 0
theorem GoodD.seen {st : Ds} (hG : GoodD st) {a : Nat} (ha : a < 8) : 0 ≤ st.S[a]?.getD 0 ∧ st.S[a]?.getD 0 ≤ (st.L.length : Int) := by
 have hl : a < st.S.length := by rw [hG.slen]; exact ha
 rw [List.getElem?_eq_getElem hl]
 exact hG.sval _ (List.getElem_mem hl)
theorem DocAt.cSa {w : World} {base : Nat} {st : Ds} {p : Pl} (h : DocAt w base st p) (hs : st.S.length = 8) {a : Nat} (ha : a < 8) : w.cell? ⟨p.D, 2 + a, none⟩ = some (.int .u32 (st.S[a]?.getD 0)) := h.cS hs a _ (by rw [List.getElem?_map, List.getElem?_eq_getElem (by rw [hs]; exact ha)]; rfl)
set_option maxHeartbeats 8000000 in
theorem dforbid_any (base : Nat) (st : Ds) (p : Pl) (a : Int) (fit : Bool) (least : Int) (w : World) (hD : DocAt w base st p) (hG : GoodD st) (ha0 : 0 ≤ a) :
    Calls Tryz.prog 50 #[.pointer (some ⟨p.D, 0, none⟩), .int .u8 a, .bool fit, .int .u8 least] w fun r w' => r = .returned (.int .i64 (forbN st a fit least)) ∧ Below w.heap.size w w' := by
 have HMB : Veil (∀ W, Calls Tryz.prog 55 #[.int .u8 a] W fun r w' => r = .returned (.bool (decide (a < 8))) ∧ w' = W) := ⟨fun W => isMember_any a W⟩
 have hmb := HMB.out w
 by_cases ha8 : a < 8
 rotate_left
 · have hN : forbN st a fit least = 2 := if_pos ha8
   rw [hN]
   rw [decide_eq_false ha8] at hmb
   generalize p.D = D
   clear hD hG hN
   go_enter Tryz.func50, Tryz.ntmps50
   go_wp2_with (go_at_call 55; refine hmb.mono ?_; rintro y W1 ⟨rfl, rfl⟩)
   go_ret
   exact ⟨rfl, Below.refl _ _⟩
 rw [decide_eq_true ha8] at hmb
 cases fit
 · have hN : forbN st a false least = 2 := (if_neg (by omega)).trans (if_pos rfl)
   rw [hN]
   generalize p.D = D
   clear hD hG hN
   go_enter Tryz.func50, Tryz.ntmps50
   go_wp2_with (go_at_call 55; refine hmb.mono ?_; rintro y W1 ⟨rfl, rfl⟩)
   go_ret
   exact ⟨rfl, Below.refl _ _⟩
 have hN : forbN st a true least = if 512 ≤ st.L.length then 10 else if roleP st.B a st.S < least then 8 else 0 := (if_neg (by omega)).trans (if_neg (by simp))
 rw [hN]
 have hfu := dfull_any base st p w hD hG
 obtain ⟨n, hn, hna⟩ : ∃ n : Nat, n < 8 ∧ a = (n : Int) := ⟨a.toNat, by omega, by omega⟩
 have hca := hD.cSa hG.slen hn
 have hsb := hG.seen hn
 have hll := hG.llen
 generalize st.S[n]?.getD 0 = sv at hca hsb
 by_cases hf : 512 ≤ st.L.length
 · rw [if_pos hf]
   rw [decide_eq_true hf] at hfu
   generalize p.D = D at hfu ⊢
   clear hD hG hN hca hsb hna HMB
   go_enter Tryz.func50, Tryz.ntmps50
   go_wp2_with (first
    | (go_at_call 55; refine hmb.mono ?_; rintro y W1 ⟨rfl, rfl⟩)
    | (go_at_call 76; refine hfu.mono ?_; rintro y W1 ⟨rfl, rfl⟩))
   go_ret
   exact ⟨rfl, Below.refl _ _⟩
 rw [if_neg hf]
 rw [decide_eq_false hf] at hfu
 have hsv : decide (1048576 ≤ sv) = false := by simp; omega
 have hsv2 : ¬ 1048576 ≤ sv := by omega
 have HRO : Veil (∀ W, DocAt W base st p → Calls Tryz.prog 79 #[.pointer (some ⟨p.H, 0, none⟩), .int .u8 a, .agg (st.S.map (Value.int .u32)).toArray] W fun x w' => x = .returned (.int .u8 (roleP st.B a st.S)) ∧ Below W.heap.size W w') := ⟨fun W hb => role_any p.H p.bk st.B a st.S W hb.book hG.slen⟩
 have iV : (Tryz.prog.info? 37).map (·.size) = some (st.S.map (Value.int .u32)).length := by rw [List.length_map, hG.slen]; kernel_rfl
 have uV := Tryz.underlying37
 have HT : Veil (∀ W, DocAt W base st p → W.cell? ⟨p.D, 1, none⟩ = some (.pointer (some ⟨p.H, 0, none⟩)) ∧ W.rangeAt p.D 2 (st.S.map (Value.int .u32))) := ⟨fun W h => ⟨h.cH hG.slen, h.cS hG.slen⟩⟩
 have HD := Veil.mk hD
 generalize roleP st.B a st.S = RO at HRO ⊢
 generalize st.S.map (Value.int .u32) = SV at HRO iV HT
 obtain ⟨D, hDD⟩ : ∃ q, p.D = q := ⟨_, rfl⟩
 obtain ⟨H, hHH⟩ : ∃ q, p.H = q := ⟨_, rfl⟩
 rw [hDD] at hfu hca HT ⊢
 rw [hHH] at HRO HT
 subst hna
 have hn0 : (0 : Int) ≤ (n : Int) := by omega
 have hn8 : (n : Int) < 8 := by omega
 have hnt : ((n : Int)).toNat = n := Int.toNat_natCast n
 obtain ⟨RN, hRN⟩ : ∃ q, (if RO < least then (8 : Int) else 0) = q := ⟨_, rfl⟩
 rw [hRN]
 have HRN := Veil.mk hRN
 clear hDD hHH hD hG hN hsb hll hf ha0 ha8 HMB hRN
 go_enter Tryz.func50, Tryz.ntmps50
 go_upto_region 7 with (first
     | (go_at_call 55; refine hmb.mono ?_; rintro y W1 ⟨rfl, rfl⟩)
     | (go_at_call 76; refine hfu.mono ?_; rintro y W1 ⟨rfl, rfl⟩))
 rename World => W
 have hb0 : Below W.heap.size W W.drew := (Below.refl _ _).drew
 have hT : (fun W : World => W.cell? ⟨D, 1, none⟩ = some (.pointer (some ⟨H, 0, none⟩)) ∧ W.rangeAt D 2 SV) W.drew := HT.out _ (HD.out.far hb0)
 have hS : (fun _ : World => True) W.drew := trivial
 refine wp_region_gateT (fun W : World => W.cell? ⟨D, 1, none⟩ = some (.pointer (some ⟨H, 0, none⟩)) ∧ W.rangeAt D 2 SV) (fun _ => True) 99 (by kernel_rfl) ?_
 clear hmb hfu hca
 refine ghA 0 _ hT hS ?_
 simp only [Act.put, gA, gS, gZ, sI, sZ, sS]
 refine ghA 1 _ hT hS ?_
 simp only [Act.put, gA, gS, gZ, sI, sZ, sS]
 refine ghA 2 _ hT hS ?_
 simp only [Act.put, gA, gS, gZ, sI, sZ, sS]
 refine ghA 3 _ hT hS ?_
 simp only [Act.put, gA, gS, gZ, sI, sZ, sS]
 refine ghA 4 _ hT hS ?_
 simp only [Act.put, gA, gS, gZ, sI, sZ, sS]
 refine ghA 5 _ hT hS ?_
 simp only [Act.put, gA, gS, gZ, sI, sZ, sS]
 refine ghA 6 _ hT hS ?_
 simp only [Act.put, gA, gS, gZ, sI, sZ, sS]
 refine ghA 7 _ hT hS ?_
 simp only [Act.put, gA, gS, gZ, sI, sZ, sS]
 refine ghA 8 _ hT hS ?_
 simp only [Act.put, gA, gS, gZ, sI, sZ, sS]
 refine ghA 9 _ hT hS ?_
 simp only [Act.put, gA, gS, gZ, sI, sZ, sS]
 refine gl 10 46 37 45 D 2 SV (by kernel_rfl) (by kernel_rfl) (by kernel_rfl) (fun _ _ _ h => h) hT hS (by kernel_rfl) (fun _ h => h.2) uV rfl iV ?_
 simp only [Act.put, gA, gS, gZ, sI, sZ, sS]
 refine ghA 12 _ hT hS ?_
 simp only [Act.put, gA, gS, gZ, sI, sZ, sS]
 refine wpAnyT_one (i := 11) rfl (by kernel_rfl) (by kernel_rfl) (fun K hK => ?_)
 refine wpx_call _ _ (by kernel_rfl) ((HRO.out _ (HD.out.far hb0)).mono ?_)
 rintro y W2 ⟨rfl, hb2⟩
 refine ⟨_, rfl, ?_⟩
 replace hb2 : Below W.heap.size W W2 := hb0.trans hb2
 replace hT := HT.out _ (HD.out.far hb2)
 replace hS : (fun _ : World => True) W2 := trivial
 refine hK.out _ _ hT (fun _ => hS) ?_
 clear hK K
 try simp only [Act.put, gA, gS, gZ, sI, sZ, sS]
 refine ghA 13 _ hT hS ?_
 simp only [Act.put, gA, gS, gZ, sI, sZ, sS]
 refine ghA 14 _ hT hS ?_
 simp only [Act.put, gA, gS, gZ, sI, sZ, sS]
 refine wpAnyT_done (by kernel_rfl) ?_ _
 clear hT hS
 have HB2 := Veil.mk hb2
 clear hb2 hb0
 by_cases hl : RO < least
 · have hlb : decide (RO < least) = true := by simpa using hl
   go_wp2
   go_ret
   exact ⟨by rw [← HRN.out, if_pos hl]; rfl, HB2.out⟩
 · have hlb : decide (RO < least) = false := by simpa using hl
   go_wp2
   go_ret
   exact ⟨by rw [← HRN.out, if_neg (by omega)]; rfl, HB2.out⟩
def nextE (st : Ds) (a : Nat) (e : Ev) : Ev := { e with da := (a : Int), ds := st.S[a]?.getD 0 + 1, past := st.S }
theorem nextE_cells (st : Ds) (a : Nat) (e : Ev) (hp : e.past.length = 8) : (([Value.int .u8 (a : Int), .int .u32 (st.S[a]?.getD 0 + 1)] ++ e.cells.drop 2).take 2 ++ st.S.map (Value.int .u32) ++ ([Value.int .u8 (a : Int), .int .u32 (st.S[a]?.getD 0 + 1)] ++ e.cells.drop 2).drop 10) = (nextE st a e).cells := by
 obtain ⟨da, ds, past, kind, pa, ps, right, char, who, role⟩ := e
 match past, hp with
 | [_, _, _, _, _, _, _, _], _ =>
  unfold nextE Ev.cells dotC
  simp
set_option maxHeartbeats 8000000 in
theorem dnext_any (base : Nat) (st : Ds) (p : Pl) (a : Nat) (e : Ev) (w : World) (hD : DocAt w base st p) (hG : GoodD st) (ha : a < 8) (he : e.past.length = 8) :
    Calls Tryz.prog 53 #[.pointer (some ⟨p.D, 0, none⟩), .int .u8 (a : Int), .agg e.cells.toArray] w fun r w' => r = .returned (.agg (nextE st a e).cells.toArray) ∧ Below w.heap.size w w' := by
 obtain ⟨Z, hZ⟩ : ∃ Z : List Value, Z = [.int .u8 0, .int .u32 0, .int .u32 0, .int .u32 0, .int .u32 0, .int .u32 0, .int .u32 0, .int .u32 0, .int .u32 0, .int .u32 0, .int .u8 0, .int .u8 0, .int .u32 0, .bool false, .int .u8 0, .int .u8 0, .int .u8 0] := ⟨_, rfl⟩
 have hB0 : Below w.heap.size w ((w.alloc (.cells e.cells.toArray 44)).alloc (.cells Z.toArray 44)) := ((Below.refl _ _).alloc (Nat.le_refl _) _).alloc (by simp) _
 have hx0 := (CellsAt.new w 44 e.cells).alloc (.cells Z.toArray 44)
 have hz0 := CellsAt.new (w.alloc (.cells e.cells.toArray 44)) 44 Z
 rw [World.size_alloc] at hz0
 have hD0 := hD.far hB0
 have he1 := aev_len e he
 have hZ17 : Z.length = 17 := by rw [hZ]; rfl
 have iE : ∀ c : List Value, c.length = 17 → (Tryz.prog.info? 44).map (·.size) = some c.length := fun c h => by rw [h]; kernel_rfl
 have iD : ∀ x y : Int, (Tryz.prog.info? 40).map (·.size) = some [Value.int .u8 x, Value.int .u32 y].length := fun x y => sizeDot
 have iV : (Tryz.prog.info? 37).map (·.size) = some (st.S.map (Value.int .u32)).length := by rw [List.length_map, hG.slen]; kernel_rfl
 have uE := Tryz.underlying44
 have uV := Tryz.underlying37
 have hNE := nextE_cells st a e he
 have hN17 : (nextE st a e).cells.length = 17 := aev_len _ hG.slen
 have hN1 := aev_one (nextE st a e)
 have hsb := hG.seen ha
 have hll := hG.llen
 have HT : Veil (∀ W, CellsAt W p.D 75 (docC st p) → W.cell? ⟨p.D, 2 + a, none⟩ = some (.int .u32 (st.S[a]?.getD 0)) ∧ W.rangeAt p.D 2 (st.S.map (Value.int .u32))) := ⟨fun W h => by
  have h1 := h.range 2 8
  rw [(docC_parts st p hG.slen).2.2.1] at h1
  exact ⟨h1 a _ (by rw [List.getElem?_map, List.getElem?_eq_getElem (by rw [hG.slen]; exact ha)]; rfl), h1⟩⟩
 have hbx := hD0.box
 have hS1 : ∀ u ∈ st.S.map (Value.int .u32), u.oneCell' = true := map_u32_one st.S
 have hSl : (st.S.map (Value.int .u32)).length = 8 := by rw [List.length_map, hG.slen]
 have hneD : p.D < w.heap.size := hD.box.lt
 obtain ⟨E, hE⟩ : ∃ E, e.cells = E := ⟨_, rfl⟩
 rw [hE] at hB0 hx0 hz0 he1 hNE hbx ⊢
 generalize (nextE st a e).cells = NC at hNE hN17 hN1 ⊢
 generalize st.S[a]?.getD 0 = sv at HT hNE hsb
 generalize st.S.map (Value.int .u32) = SV at HT hNE iV hS1 hSl
 generalize docC st p = DC at HT hbx
 generalize p.D = D at HT hbx hneD ⊢
 have hwv : IntKind.u32.wrap (sv + 1) = sv + 1 := by rw [IntKind.wrap_u32]; omega
 have ha0 : (0 : Int) ≤ (a : Int) := by omega
 have ha9 : (a : Int) < 8 := by omega
 have hat : ((a : Int)).toNat = a := Int.toNat_natCast a
 clear hE hD hG hD0 hsb hll he
 rw [hZ] at hB0 hx0 hz0 hbx
 go_enter Tryz.func53, Tryz.ntmps53
 go_upto_region 1 with fail
 refine forget (p := fun y => Code.wp _ _ _ _ y) (fun W => Below w.heap.size w W ∧ CellsAt W w.heap.size 44 E ∧ CellsAt W (w.heap.size + 1) 44 Z ∧ CellsAt W D 75 DC) ⟨hB0, hx0, by rw [hZ]; exact hz0, hbx⟩ ?_
 clear hB0 hx0 hz0 hbx hZ
 rintro W ⟨hB, hx, hz, hb⟩
 obtain ⟨c1, -⟩ := HT.out W hb
 have hsd : ∀ v ∈ [Value.int .u8 (a : Int), Value.int .u32 (sv + 1)], v.oneCell' = true := fun v hv => by
  simp at hv
  rcases hv with rfl | rfl <;> rfl
 go_upto_region 2 with (refine wpList_stm (cs := [.int .u8 (a : Int), .int .u32 (sv + 1)]) rfl 40 _ _ rfl w.heap.size 0 rfl rfl hx (iD _ _) (by rw [he1]; show 0 + 2 ≤ 17; omega) hsd ?_)
 have hx1 := hx.setRow (E.take 0 ++ [Value.int .u8 (a : Int), Value.int .u32 (sv + 1)] ++ E.drop (0 + 2))
 have hz1 := hz.setRowM (E.take 0 ++ [Value.int .u8 (a : Int), Value.int .u32 (sv + 1)] ++ E.drop (0 + 2)).toArray (g' := w.heap.size) (by omega)
 have hb1 := hb.setRowM (E.take 0 ++ [Value.int .u8 (a : Int), Value.int .u32 (sv + 1)] ++ E.drop (0 + 2)).toArray (g' := w.heap.size) (by omega)
 have hB1 : Below w.heap.size w (W.setRow w.heap.size (E.take 0 ++ [Value.int .u8 (a : Int), Value.int .u32 (sv + 1)] ++ E.drop (0 + 2)).toArray) := below_setRow hB (Nat.le_refl _) _
 rw [List.take_zero, List.nil_append] at hx1 hz1 hb1 hB1
 have hE1l : ([Value.int .u8 (a : Int), Value.int .u32 (sv + 1)] ++ E.drop (0 + 2)).length = 17 := by rw [List.length_append, List.length_drop, he1]; rfl
 refine forget (p := fun y => Code.wp _ _ _ _ y) (fun W => Below w.heap.size w W ∧ CellsAt W w.heap.size 44 ([Value.int .u8 (a : Int), Value.int .u32 (sv + 1)] ++ E.drop 2) ∧ CellsAt W (w.heap.size + 1) 44 Z ∧ CellsAt W D 75 DC) ⟨hB1, hx1, hz1, hb1⟩ ?_
 generalize ([Value.int .u8 (a : Int), Value.int .u32 (sv + 1)] ++ E.drop 2 : List Value) = E1 at hNE hE1l
 clear hB hx hz hb hB1 hx1 hz1 hb1 c1 W
 rintro W ⟨hB, hx, hz, hb⟩
 obtain ⟨-, r1⟩ := HT.out W hb
 go_upto_region 3 with (first
  | (refine wpList_ldv rfl 37 _ rfl D 2 rfl SV r1 uV rfl iV ?_)
  | (refine wpList_stm (cs := SV) rfl 37 _ _ rfl w.heap.size 2 rfl rfl hx iV (by rw [hE1l, hSl]; omega) hS1 ?_))
 have hx1 := hx.setRow (E1.take 2 ++ SV ++ E1.drop (2 + SV.length))
 have hz1 := hz.setRowM (E1.take 2 ++ SV ++ E1.drop (2 + SV.length)).toArray (g' := w.heap.size) (by omega)
 have hB1 : Below w.heap.size w (W.setRow w.heap.size (E1.take 2 ++ SV ++ E1.drop (2 + SV.length)).toArray) := below_setRow hB (Nat.le_refl _) _
 rw [hSl, hNE] at hx1 hz1 hB1
 rw [hSl, hNE]
 refine forget (p := fun y => Code.wp _ _ _ _ y) (fun W => Below w.heap.size w W ∧ CellsAt W w.heap.size 44 NC ∧ CellsAt W (w.heap.size + 1) 44 Z) ⟨hB1, hx1, hz1⟩ ?_
 clear hB hx hz hb hB1 hx1 hz1 r1 W
 rintro W ⟨hB, hx, hz⟩
 have r2 := hx.wholeM
 have iN := iE NC hN17
 go_wp2_with (first
  | (refine wpList_ldv rfl 44 _ rfl w.heap.size 0 rfl NC r2 uE rfl iN ?_)
  | (refine wpList_stv (cs := NC) rfl 44 _ _ rfl (w.heap.size + 1) rfl rfl hz iN (by rw [hZ17, hN17]) hN1 ?_))
 refine bodyPost_ret (results_cells (Tryz.results53) _ rfl (hz.setRow _) uE rfl iN) rfl ⟨rfl, ?_⟩
 exact below_setRow hB (by omega) _
end Go.Proofs.YtmbdohnmbkpfaaaGreat
