/- DocNone, walked. -/
import Derived.Test.YtmbdohnmbkpfaaaDlv
import Derived.Test.YtmbdohnmbkpfaaaDc17
import Derived.Test.YtmbdohnmbkpfaaaMGoCGoD
namespace Go.Proofs.Ytmbdohnmbkpfaaa
open Go.RowKit Go.Shelf
set_option maxRecDepth 20000
set_option linter.unusedSimpArgs false
theorem ev_eq0 : ∀ wx, (Op.equalIn 10000 30 (.agg zC.toArray) (.agg zC.toArray)).run Try.prog wx = .ok true wx := fun wx => by kernel_rfl
set_option maxHeartbeats 16000000 in
theorem dnone_walk (X : Ed) (hX : X.Ok) (w : World) :
    Calls Try.prog 3 #[.agg X.cells.toArray] w fun e w' => e = .returned (.bool true) ∧ Below w.heap.size w w' := by
  have hB0 : Below w.heap.size w (w.alloc (.cells X.cells.toArray 32)) := (Below.refl _ _).alloc (Nat.le_refl _) _
  have hx0 := CellsAt.new w 32 X.cells
  obtain ⟨p0, p1, p2, p3, p4, p5, p6, p7, p8⟩ := ed_parts X hX.e.past
  have HC : Veil (∀ W, CellsAt W w.heap.size 32 X.cells → W.cell? ⟨w.heap.size, 1, none⟩ = some (.int .u8 X.au) ∧ W.cell? ⟨w.heap.size, 2, none⟩ = some (.int .u8 X.who) ∧ W.cell? ⟨w.heap.size, 3, none⟩ = some (.int .i64 X.i) ∧ W.cell? ⟨w.heap.size, 4, none⟩ = some (.int .u8 X.c) ∧ W.cell? ⟨w.heap.size, 5, none⟩ = some (.int .u8 X.role)) := ⟨fun W h => ⟨(h.cell 1).trans p1, (h.cell 2).trans p2, (h.cell 3).trans p3, (h.cell 4).trans p4, (h.cell 5).trans p5⟩⟩
  have HR : Veil (∀ W, CellsAt W w.heap.size 32 X.cells → W.rangeAt w.heap.size 6 X.e.cells ∧ W.rangeAt w.heap.size 6 (dotC X.e.da X.e.ds)) := ⟨fun W h => by
    have h1 := h.range 6 17
    have h2 := h.range 6 2
    rw [p6] at h1
    rw [p7] at h2
    exact ⟨h1, h2⟩⟩
  have HAP : Veil (∀ W, Calls Try.prog 9 #[.pointer none, .agg X.e.cells.toArray] W fun r w' => r = .returned (.int .i64 1) ∧ Below W.heap.size W w') := ⟨fun W => dApply_nil X.e W⟩
  have he1 := aev_len X.e hX.e.past
  have iE : (Try.prog.info? 30).map (·.size) = some X.e.cells.length := by rw [he1]; kernel_rfl
  have iD : (Try.prog.info? 25).map (·.size) = some (dotC X.e.da X.e.ds).length := sizeDot
  have uE := Try.underlying30
  have uD := Try.underlying25
  obtain ⟨XC, hXC⟩ : ∃ q, X.cells = q := ⟨_, rfl⟩
  obtain ⟨E, hE⟩ : ∃ q, X.e.cells = q := ⟨_, rfl⟩
  rw [hXC] at hB0 hx0 HC HR ⊢
  rw [hE] at HR HAP iE
  generalize dotC X.e.da X.e.ds = DV at HR iD
  generalize X.au = au at HC
  generalize X.who = who at HC
  generalize X.i = xi at HC
  generalize X.c = xc at HC
  generalize X.role = role at HC
  obtain ⟨EZ, hEZ⟩ : ∃ q, zC = q := ⟨_, rfl⟩
  have HZ : Veil (∀ W : World, CellsAt (W.alloc (.cells zC.toArray 30)) W.heap.size 30 zC ∧ Below W.heap.size W ((W.alloc (.cells zC.toArray 30)).setRow W.heap.size EZ.toArray)) := ⟨fun W => ⟨CellsAt.new W 30 zC, below_setRow ((Below.refl _ _).alloc (Nat.le_refl _) _) (Nat.le_refl _) _⟩⟩
  have iZ := zC_size
  have h1Z := zC_one
  have heq := ev_eq0
  have hl17 : EZ.length = 17 := by rw [← hEZ]; rfl
  have HWR := Veil.mk (fun W => dWrite_nil au xi xc W)
  have HER := Veil.mk (fun W => dErase_nil au xi W)
  have HGI := Veil.mk (fun W => dGive_nil au who role W)
  have HTA := Veil.mk (fun W => dTake_nil au who W)
  rw [hEZ] at iZ h1Z heq HWR HER HGI HTA
  unfold zC at HZ
  have HZL : Veil ([.int .u8 0, .int .u32 0, .int .u32 0, .int .u32 0, .int .u32 0, .int .u32 0, .int .u32 0, .int .u32 0, .int .u32 0, .int .u32 0, .int .u8 0, .int .u8 0, .int .u32 0, .bool false, .int .u8 0, .int .u8 0, .int .u8 0] = EZ) := ⟨hEZ⟩
  clear hEZ hXC hE p0 p1 p2 p3 p4 p5 p6 p7 p8 hX he1
  go_enter Try.func3, Try.ntmps3
  go_upto_region 2 with fail
  refine forget (p := fun y => Code.wp _ _ _ _ y) (fun W => Below w.heap.size w W ∧ CellsAt W w.heap.size 32 XC) ⟨hB0, hx0⟩ ?_
  clear hB0 hx0
  rintro W ⟨hB, hx⟩
  obtain ⟨c1, c2, c3, c4, c5⟩ := HC.out W hx
  have hcl := HWR.out W
  go_upto_region 3 with (first
    | (go_at_call 4; refine hcl.mono ?_; rintro y W1 ⟨rfl, hb1⟩; have hz1 := (HZ.out W1).1; clear hcl)
    | (refine wpList_stv (cs := EZ) rfl 30 _ _ rfl W1.heap.size rfl rfl hz1 iZ (by rw [hl17]; rfl) h1Z ?_))
  have hb2 := (HZ.out W1).2
  have hz2 := hz1.setRow EZ
  have hb12 := hb1.trans (hb2.mono hb1.size)
  refine forget (p := fun y => Code.wp _ _ _ _ y) (fun W2 => Below W.heap.size W W2 ∧ CellsAt W2 W1.heap.size 30 EZ) ⟨hb12, hz2⟩ ?_
  generalize W1.heap.size = ba
  clear hb1 hb2 hb12 hz1 hz2 c1 c2 c3 c4 c5 HWR W1
  rintro W2 ⟨hb2, hzba⟩
  replace hB := hB.trans (hb2.mono hB.size)
  replace hx := hx.farM hb2
  clear hb2 W
  rename World => W
  obtain ⟨c1, c2, c3, c4, c5⟩ := HC.out W hx
  have hcl := HER.out W
  go_upto_region 4 with (first
    | (go_at_call 5; refine hcl.mono ?_; rintro y W1 ⟨rfl, hb1⟩; have hz1 := (HZ.out W1).1; clear hcl)
    | (refine wpList_stv (cs := EZ) rfl 30 _ _ rfl W1.heap.size rfl rfl hz1 iZ (by rw [hl17]; rfl) h1Z ?_))
  have hb2 := (HZ.out W1).2
  have hz2 := hz1.setRow EZ
  have hb12 := hb1.trans (hb2.mono hb1.size)
  refine forget (p := fun y => Code.wp _ _ _ _ y) (fun W2 => Below W.heap.size W W2 ∧ CellsAt W2 W1.heap.size 30 EZ) ⟨hb12, hz2⟩ ?_
  generalize W1.heap.size = bb
  clear hb1 hb2 hb12 hz1 hz2 c1 c2 c3 c4 c5 HER W1
  rintro W2 ⟨hb2, hzbb⟩
  replace hzba := hzba.farM hb2
  replace hB := hB.trans (hb2.mono hB.size)
  replace hx := hx.farM hb2
  clear hb2 W
  rename World => W
  obtain ⟨c1, c2, c3, c4, c5⟩ := HC.out W hx
  have hcl := HGI.out W
  go_upto_region 5 with (first
    | (go_at_call 6; refine hcl.mono ?_; rintro y W1 ⟨rfl, hb1⟩; have hz1 := (HZ.out W1).1; clear hcl)
    | (refine wpList_stv (cs := EZ) rfl 30 _ _ rfl W1.heap.size rfl rfl hz1 iZ (by rw [hl17]; rfl) h1Z ?_))
  have hb2 := (HZ.out W1).2
  have hz2 := hz1.setRow EZ
  have hb12 := hb1.trans (hb2.mono hb1.size)
  refine forget (p := fun y => Code.wp _ _ _ _ y) (fun W2 => Below W.heap.size W W2 ∧ CellsAt W2 W1.heap.size 30 EZ) ⟨hb12, hz2⟩ ?_
  generalize W1.heap.size = bc
  clear hb1 hb2 hb12 hz1 hz2 c1 c2 c3 c4 c5 HGI W1
  rintro W2 ⟨hb2, hzbc⟩
  replace hzba := hzba.farM hb2
  replace hzbb := hzbb.farM hb2
  replace hB := hB.trans (hb2.mono hB.size)
  replace hx := hx.farM hb2
  clear hb2 W
  rename World => W
  obtain ⟨c1, c2, c3, c4, c5⟩ := HC.out W hx
  have hcl := HTA.out W
  go_upto_region 6 with (first
    | (go_at_call 7; refine hcl.mono ?_; rintro y W1 ⟨rfl, hb1⟩; have hz1 := (HZ.out W1).1; clear hcl)
    | (refine wpList_stv (cs := EZ) rfl 30 _ _ rfl W1.heap.size rfl rfl hz1 iZ (by rw [hl17]; rfl) h1Z ?_))
  have hb2 := (HZ.out W1).2
  have hz2 := hz1.setRow EZ
  have hb12 := hb1.trans (hb2.mono hb1.size)
  refine forget (p := fun y => Code.wp _ _ _ _ y) (fun W2 => Below W.heap.size W W2 ∧ CellsAt W2 W1.heap.size 30 EZ) ⟨hb12, hz2⟩ ?_
  generalize W1.heap.size = bd
  clear hb1 hb2 hb12 hz1 hz2 c1 c2 c3 c4 c5 HTA W1
  rintro W2 ⟨hb2, hzbd⟩
  replace hzba := hzba.farM hb2
  replace hzbb := hzbb.farM hb2
  replace hzbc := hzbc.farM hb2
  replace hB := hB.trans (hb2.mono hB.size)
  replace hx := hx.farM hb2
  clear hb2 W
  rename World => W
  have hz1 := (HZ.out W).1
  go_upto_region 7 with (refine wpList_stv (cs := [.int .u8 0, .int .u32 0, .int .u32 0, .int .u32 0, .int .u32 0, .int .u32 0, .int .u32 0, .int .u32 0, .int .u32 0, .int .u32 0, .int .u8 0, .int .u8 0, .int .u32 0, .bool false, .int .u8 0, .int .u8 0, .int .u8 0]) rfl 30 _ _ rfl W.heap.size rfl rfl hz1 (by rw [HZL.out]; exact iZ) rfl (by rw [HZL.out]; exact h1Z) ?_)
  have hb2 := (HZ.out W).2
  have hz2 := hz1.setRow EZ
  rw [HZL.out] at hb2 hz2 ⊢
  refine forget (p := fun y => Code.wp _ _ _ _ y) (fun W2 => Below W.heap.size W W2 ∧ CellsAt W2 W.heap.size 30 EZ) ⟨hb2, hz2⟩ ?_
  generalize hbe : W.heap.size = be
  clear hz1
  rintro W2 ⟨hb3, hze⟩
  rw [← hbe] at hb3
  replace hzba := hzba.farM hb3
  replace hzbb := hzbb.farM hb3
  replace hzbc := hzbc.farM hb3
  replace hzbd := hzbd.farM hb3
  replace hB := hB.trans (hb3.mono hB.size)
  replace hx := hx.farM hb3
  clear hb3 hb2 hz2 HZ HC hbe W
  rename World => W
  have HT : Veil (∀ W', Below W.heap.size W W' → (W'.rangeAt w.heap.size 6 E ∧ W'.rangeAt w.heap.size 6 DV) ∧ W'.rangeAt ba 0 EZ ∧ W'.rangeAt bb 0 EZ ∧ W'.rangeAt bc 0 EZ ∧ W'.rangeAt bd 0 EZ ∧ W'.rangeAt be 0 EZ) := ⟨fun W' hb => ⟨HR.out W' (hx.farM hb), (hzba.farM hb).wholeM, (hzbb.farM hb).wholeM, (hzbc.farM hb).wholeM, (hzbd.farM hb).wholeM, (hze.farM hb).wholeM⟩⟩
  have HBW := Veil.mk hB
  have hlv := live10_any W
  have he8 : ∀ wx, (Op.equalIn 10000 45 (.agg #[.int .u8 0, .int .u8 0, .int .u8 0, .int .u8 0, .int .u8 0, .int .u8 0, .int .u8 0, .int .u8 0]) (.agg #[.int .u8 0, .int .u8 0, .int .u8 0, .int .u8 0, .int .u8 0, .int .u8 0, .int .u8 0, .int .u8 0])).run Try.prog wx = .ok true wx := fun wx => by kernel_rfl
  have hv8 : ∀ wx, (Op.equalIn 10000 27 (.agg #[.int .u32 0, .int .u32 0, .int .u32 0, .int .u32 0, .int .u32 0, .int .u32 0, .int .u32 0, .int .u32 0]) (.agg #[.int .u32 0, .int .u32 0, .int .u32 0, .int .u32 0, .int .u32 0, .int .u32 0, .int .u32 0, .int .u32 0])).run Try.prog wx = .ok true wx := fun wx => by kernel_rfl
  have HME : Veil (∀ W, Calls Try.prog 12 #[.pointer none] W fun r w' => r = .returned (.agg #[.int .u8 0, .int .u8 0, .int .u8 0, .int .u8 0, .int .u8 0, .int .u8 0, .int .u8 0, .int .u8 0]) ∧ Below W.heap.size W w') := ⟨fun W => dMembers_nil W⟩
  have HVE : Veil (∀ W, Calls Try.prog 13 #[.pointer none] W fun r w' => r = .returned (.agg #[.int .u32 0, .int .u32 0, .int .u32 0, .int .u32 0, .int .u32 0, .int .u32 0, .int .u32 0, .int .u32 0]) ∧ Below W.heap.size W w') := ⟨fun W => dVector_nil W⟩
  clear hzba hzbb hzbc hzbd hze hx hB HR
  simp only [List.append_eq, List.cons_append, List.nil_append]
  go_wp2_with (first
    | (go_at_call 8; refine hlv.mono ?_; rintro y W1 ⟨rfl, hb1⟩; obtain ⟨⟨r1, -⟩, -⟩ := HT.out W1 hb1; clear hlv)
    | (go_at_call 9; refine (HAP.out _).mono ?_; rintro y W2 ⟨rfl, hb2⟩; have hb12 := hb1.trans (hb2.mono hb1.size); obtain ⟨⟨-, r2⟩, -⟩ := HT.out W2 hb12; clear hb1 hb2 r1)
    | (go_at_call 10; refine (dForce_nil DV _).mono ?_; rintro y W3 ⟨rfl, hb3⟩; have hb13 := hb12.trans (hb3.mono hb12.size); clear hb12 hb3 r2)
    | (go_at_call 11; refine (dText_nil _).mono ?_; rintro y W4 ⟨rfl, rfl⟩)
    | (go_at_call 12; refine (HME.out _).mono ?_; rintro y W5 ⟨rfl, hb5⟩; have hb15 := hb13.trans (hb5.mono hb13.size); clear hb13 hb5)
    | (go_at_call 13; refine (HVE.out _).mono ?_; rintro y W6 ⟨rfl, hb6⟩; have hb16 := hb15.trans (hb6.mono hb15.size); obtain ⟨-, ra, rb, rc, rd, re⟩ := HT.out W6 hb16; have HB16 := Veil.mk hb16; clear hb15 hb6 hb16)
    | (go_at_call 14; refine (dEvents_nil _).mono ?_; rintro y W7 ⟨rfl, rfl⟩)
    | (go_at_call 15; refine (dFork_nil _).mono ?_; rintro y W8 ⟨rfl, rfl⟩)
    | (refine wpList_ldgv (by kernel_rfl) 30 (.tmp 57) rfl w.heap.size 6 rfl E r1 uE rfl iE ?_)
    | (refine wpList_ldgv (by kernel_rfl) 25 (.tmp 65) rfl w.heap.size 6 rfl DV r2 uD rfl iD ?_)
    | (refine wpList_ldgv (by kernel_rfl) 30 (.tmp 4) rfl ba 0 rfl EZ ra uE rfl iZ ?_)
    | (refine wpList_ldgv (by kernel_rfl) 30 (.tmp 6) rfl bb 0 rfl EZ rb uE rfl iZ ?_)
    | (refine wpList_ldgv (by kernel_rfl) 30 (.tmp 8) rfl bc 0 rfl EZ rc uE rfl iZ ?_)
    | (refine wpList_ldgv (by kernel_rfl) 30 (.tmp 10) rfl bd 0 rfl EZ rd uE rfl iZ ?_)
    | (refine wpList_ldgv (by kernel_rfl) 30 (.tmp 12) rfl be 0 rfl EZ re uE rfl iZ ?_))
  go_ret
  exact ⟨rfl, HBW.out.trans (HB16.out.mono HBW.out.size)⟩
end Go.Proofs.Ytmbdohnmbkpfaaa

