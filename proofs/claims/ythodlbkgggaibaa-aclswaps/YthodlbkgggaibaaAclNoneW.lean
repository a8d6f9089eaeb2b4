/- AclNone, walked: what a book that is no book answers. -/
import Derived.Test.YthodlbkgggaibaaAlv
namespace Go.Proofs.Ythodlbkgggaibaa
open Go.RowKit Go.Shelf
set_option maxRecDepth 20000
set_option linter.unusedSimpArgs false
theorem roles_eqIn (l m : List Int) (hl : l.length = 8) (hm : m.length = 8) (wx : World) : (Op.equalIn 10000 34 (.agg (row .u8 l)) (.agg (row .u8 m))).run Try.prog wx = .ok (l == m) wx := by
  have := run_equalIn_rows (P := Try.prog) wx 9998 .u8 l m Try.underlying34 Try.underlying33 (by kernel_rfl) (by kernel_rfl) hl hm
  exact this
theorem zset8 : ∀ k : Nat, k < 8 → ([0, 0, 0, 0, 0, 0, 0, 0] : List Int).set k 0 = [0, 0, 0, 0, 0, 0, 0, 0]
  | 0, _ => rfl
  | 1, _ => rfl
  | 2, _ => rfl
  | 3, _ => rfl
  | 4, _ => rfl
  | 5, _ => rfl
  | 6, _ => rfl
  | 7, _ => rfl
  | k + 8, h => by omega
theorem bfork_nil (w : World) :
    Calls Try.prog 22 #[.pointer none] w fun r w' => r = .returned (.pointer none) ∧ w' = w := by
  go_enter Try.func22, Try.ntmps22
  go_wp2
  go_ret
  exact ⟨rfl, rfl⟩
set_option maxHeartbeats 2000000 in
theorem members_nil (v : List Int) (w : World) (hv : v.length = 8) :
    Calls Try.prog 16 #[.pointer none, .agg (row .u32 v)] w fun e w' => e = .returned (.agg (row .u8 [0, 0, 0, 0, 0, 0, 0, 0])) ∧ Below w.heap.size w w' := by
  have hv0 := Holds.new w .u32 25 v
  have hr0 := Holds.new (w.alloc (.cells (row .u32 v) 25)) .u8 34 [0, 0, 0, 0, 0, 0, 0, 0]
  rw [World.size_alloc] at hr0
  have hv1 := (hv0.alloc (.cells (row .u8 [0, 0, 0, 0, 0, 0, 0, 0]) 34)).alloc (.cells (row .u8 [0, 0, 0, 0, 0, 0, 0, 0]) 34)
  have hr1 := hr0.alloc (.cells (row .u8 [0, 0, 0, 0, 0, 0, 0, 0]) 34)
  have hs1 := Holds.new ((w.alloc (.cells (row .u32 v) 25)).alloc (.cells (row .u8 [0, 0, 0, 0, 0, 0, 0, 0]) 34)) .u8 34 [0, 0, 0, 0, 0, 0, 0, 0]
  rw [World.size_alloc, World.size_alloc] at hs1
  have hBw : Below w.heap.size w (((w.alloc (.cells (row .u32 v) 25)).alloc (.cells (row .u8 [0, 0, 0, 0, 0, 0, 0, 0]) 34)).alloc (.cells (row .u8 [0, 0, 0, 0, 0, 0, 0, 0]) 34)) := (((Below.refl _ _).alloc (Nat.le_refl _) _).alloc (by simp) _).alloc (by simp; omega) _
  have HRO : Veil (∀ W who, Calls Try.prog 17 #[.pointer none, .int .u8 who, .agg (row .u32 v)] W fun e w' => e = .returned (.int .u8 0) ∧ Below W.heap.size W w') := ⟨fun W who => role_nil who v W⟩
  have HV := Veil.mk hv
  clear hv0 hr0 hv
  go_enter Try.func16, Try.ntmps16
  go_wp2_with fail
  obtain ⟨Z, hZ⟩ : ∃ Z : List Int, Z = [0, 0, 0, 0, 0, 0, 0, 0] := ⟨_, rfl⟩
  have HZ : Veil (Z = [0, 0, 0, 0, 0, 0, 0, 0]) := ⟨hZ⟩
  refine forget (p := fun y => Code.wp _ _ _ _ y) (fun W => Below w.heap.size w W ∧ Holds W w.heap.size .u32 25 v ∧ Holds W (w.heap.size + 1) .u8 34 Z ∧ Holds W (w.heap.size + 1 + 1) .u8 34 Z) ⟨hBw, hv1, by rw [hZ]; exact hr1, by rw [hZ]; exact hs1⟩ ?_
  clear hBw hv1 hr1 hs1 hZ
  rintro W ⟨hBw, hv1, hr1, hs1⟩
  go_loopw [6, 7] (fun _ i wr => ∃ k : Nat, k ≤ 8 ∧ i = .int .i64 k ∧ Below w.heap.size w wr ∧ Holds wr w.heap.size .u32 25 v ∧ Holds wr (w.heap.size + 1) .u8 34 Z ∧ Holds wr (w.heap.size + 1 + 1) .u8 34 Z) (fun _ i _ => 8 - (intOf i).toNat)
  case atStart => exact ⟨0, by omega, rfl, hBw, hv1, hr1, hs1⟩
  case round =>
    clear hBw hv1 hr1 hs1
    obtain ⟨k, hk, rfl, hB, hv1, hr1, hs1⟩ := hrel
    by_cases hlt : k < 8
    · have hki : (0 : Int) ≤ (k : Int) := by omega
      have hkl : (k : Int) < 8 := by omega
      have hkw : IntKind.u8.wrap (k : Int) = (k : Int) := by simp [IntKind.wrap, IntKind.bits, IntKind.signed]; omega
      have hl8 := HV.out
      have hro := HRO.out wr (k : Nat)
      have HSE : Veil (∀ W6, Below wr.heap.size wr W6 → Below w.heap.size w W6 ∧ Holds W6 w.heap.size .u32 25 v ∧ Holds W6 (w.heap.size + 1) .u8 34 Z ∧ Holds W6 (w.heap.size + 1 + 1) .u8 34 Z) := ⟨fun W6 hb => ⟨hB.trans (hb.mono hB.size), holds_farA hv1 hb, holds_farA hr1 hb, holds_farA hs1 hb⟩⟩
      have HST : Veil (Z.set k 0 = Z) := ⟨by rw [HZ.out]; exact zset8 k hlt⟩
      have HLN : Veil (Z.length = 8) := ⟨by rw [HZ.out]; rfl⟩
      clear hB hr1 hs1
      go_wp2_with (first
        | (refine wpList_ld rfl 25 _ rfl _ rfl hv1 Try.underlying25 sizeV8 hl8 ?_)
        | (go_at_call 17; refine hro.mono ?_; rintro z W6 ⟨rfl, hb6⟩; obtain ⟨hB6, hv6, hr6, hs6⟩ := HSE.out W6 hb6; clear hb6; have c6 := hs6.cell k (by rw [HLN.out]; exact hlt); have f6 := hs6.frozen k))
      go_roundw
      case rel => exact ⟨k + 1, by omega, by go_num, hB6.setCell (by simp; omega) _, hv6.setOther _ _ (by simp; omega), hr6.setOther _ _ (by simp), by have := hs6.set k 0; rw [HST.out] at this; exact this⟩
      case measure => simp [intOf]; omega
    · obtain rfl : k = 8 := by omega
      have hz8 : Z.length = 8 := by rw [HZ.out]; rfl
      clear HRO HV
      go_wp2_with (first
        | (refine wpList_ld rfl 34 _ rfl _ rfl hs1 Try.underlying34 sizeR8 hz8 ?_)
        | (refine wpList_st rfl 34 _ _ rfl _ rfl rfl hr1 (by rw [hz8]; exact sizeR8) rfl ?_))
      refine bodyPost_ret (results_holds (Try.results16) _ rfl (hr1.setRow _) Try.underlying34 sizeR8 hz8) rfl ⟨?_, ?_⟩
      · rw [HZ.out]
      · exact below_setRow hB (by omega) _
set_option maxHeartbeats 8000000 in
theorem ano_walk (e : Ev) (who : Int) (v : List Int) (w : World) (he : e.Ok) (hv : v.length = 8) :
    Calls Try.prog 11 #[.agg e.cells.toArray, .int .u8 who, .agg (row .u32 v)] w fun r w' => r = .returned (.bool true) ∧ Below w.heap.size w w' := by
  obtain ⟨VV, hVV⟩ : ∃ q, v.map (Value.int .u32) = q := ⟨_, rfl⟩
  have hrow : row .u32 v = VV.toArray := by rw [← hVV]; rfl
  have hB0 : Below w.heap.size w ((w.alloc (.cells e.cells.toArray 41)).alloc (.cells VV.toArray 25)) := ((Below.refl _ _).alloc (Nat.le_refl _) _).alloc (by simp) _
  have hx0 := (CellsAt.new w 41 e.cells).alloc (.cells VV.toArray 25)
  have hy0 := CellsAt.new (w.alloc (.cells e.cells.toArray 41)) 25 VV
  rw [World.size_alloc] at hy0
  have iE : (Try.prog.info? 41).map (·.size) = some e.cells.length := by rw [aev_len e he.past]; kernel_rfl
  have iD : (Try.prog.info? 38).map (·.size) = some (dotC e.da e.ds).length := sizeDot
  have iV : (Try.prog.info? 25).map (·.size) = some VV.length := by rw [← hVV, List.length_map, hv]; kernel_rfl
  have uE := Try.underlying41
  have uD := Try.underlying38
  have uV := Try.underlying25
  have HT : Veil (∀ W, Below (w.heap.size + 2) ((w.alloc (.cells e.cells.toArray 41)).alloc (.cells VV.toArray 25)) W → W.rangeAt w.heap.size 0 e.cells ∧ W.rangeAt w.heap.size 0 (dotC e.da e.ds) ∧ W.rangeAt (w.heap.size + 1) 0 VV) := ⟨fun W hb => by
    have hx := hx0.congr (hb.block _ (by omega))
    have hy := hy0.congr (hb.block _ (by omega))
    have h1 := hx.range 0 2
    rw [(ev_parts e he.past).1] at h1
    exact ⟨hx.wholeM, h1, hy.wholeM⟩⟩
  have hlv := @live9_any
  have had := fun W => badd_nil e he W
  have hct := fun W => bcounts_nil e.da e.ds W
  have hro := fun W => role_nil who v W
  have hme := fun W => members_nil v W hv
  have heq : ∀ wx, (Op.equalIn 10000 34 (.agg #[.int .u8 0, .int .u8 0, .int .u8 0, .int .u8 0, .int .u8 0, .int .u8 0, .int .u8 0, .int .u8 0]) (.agg #[.int .u8 0, .int .u8 0, .int .u8 0, .int .u8 0, .int .u8 0, .int .u8 0, .int .u8 0, .int .u8 0])).run Try.prog wx = .ok true wx := fun wx => roles_eqIn [0, 0, 0, 0, 0, 0, 0, 0] [0, 0, 0, 0, 0, 0, 0, 0] rfl rfl wx
  rw [hVV] at hro
  rw [hrow] at hme ⊢
  have hme' : ∀ W, Calls Try.prog 16 #[.pointer none, .agg VV.toArray] W fun e w' => e = .returned (.agg #[.int .u8 0, .int .u8 0, .int .u8 0, .int .u8 0, .int .u8 0, .int .u8 0, .int .u8 0, .int .u8 0]) ∧ Below W.heap.size W w' := fun W => hme W
  generalize e.cells = E at hB0 hx0 hy0 iE HT had ⊢
  generalize dotC e.da e.ds = DV at iD HT hct
  have hz0 : ((w.alloc (.cells E.toArray 41)).alloc (.cells VV.toArray 25)).heap.size = w.heap.size + 2 := by simp
  have HB0 := Veil.mk hB0
  have HZ0 := Veil.mk hz0
  clear he hx0 hy0 hme hrow hVV hB0 hz0
  go_enter Try.func11, Try.ntmps11
  go_upto_region 2 with fail
  refine forget (p := fun y => Code.wp _ _ _ _ y) (fun W => Below w.heap.size w W ∧ ∀ W', Below W.heap.size W W' → W'.rangeAt w.heap.size 0 E ∧ W'.rangeAt w.heap.size 0 DV ∧ W'.rangeAt (w.heap.size + 1) 0 VV) ⟨HB0.out, fun W' hb => HT.out W' (by rw [HZ0.out] at hb; exact hb)⟩ ?_
  rintro W0 ⟨hB0, hT0⟩
  have HT0 := Veil.mk hT0
  clear hT0 HT HB0 HZ0
  go_wp2_with (first
    | (go_at_call 22; refine (bfork_nil _).mono ?_; rintro x W7 ⟨rfl, rfl⟩)
    | (go_at_call 21; refine (blen_nil _).mono ?_; rintro x W6 ⟨rfl, rfl⟩)
    | (go_at_call 16; refine (hme' W4).mono ?_; rintro x W5 ⟨rfl, hb5⟩)
    | (go_at_call 17; refine (hro W3).mono ?_; rintro x W4 ⟨rfl, hb4⟩; have B4 := B3.trans (hb4.mono B3.size); obtain ⟨-, -, s3⟩ := HT0.out W4 B4)
    | (go_at_call 23; refine (hct W2).mono ?_; rintro x W3 ⟨rfl, hb3⟩; have B3 := B2.trans (hb3.mono B2.size); obtain ⟨-, -, r3⟩ := HT0.out W3 B3)
    | (go_at_call 18; refine (had W1).mono ?_; rintro x W2 ⟨rfl, hb2⟩; have B2 := hb1.trans (hb2.mono hb1.size); obtain ⟨-, q2, -⟩ := HT0.out W2 B2)
    | (go_at_call 14; refine (hlv W0).mono ?_; rintro x W1 ⟨rfl, hb1⟩; obtain ⟨q1, -, -⟩ := HT0.out W1 hb1)
    | (refine wpList_ldgv (by kernel_rfl) 25 (.tmp 5) rfl (w.heap.size + 1) 0 rfl VV s3 uV rfl iV ?_)
    | (refine wpList_ldgv (by kernel_rfl) 25 (.tmp 5) rfl (w.heap.size + 1) 0 rfl VV r3 uV rfl iV ?_)
    | (refine wpList_ldgv (by kernel_rfl) 38 (.tmp 17) rfl w.heap.size 0 rfl DV q2 uD rfl iD ?_)
    | (refine wpList_ldgv (by kernel_rfl) 41 (.tmp 3) rfl w.heap.size 0 rfl E q1 uE rfl iE ?_))
  go_ret
  refine ⟨rfl, ?_⟩
  have B5 := B4.trans (hb5.mono B4.size)
  exact hB0.trans (B5.mono hB0.size)
end Go.Proofs.Ythodlbkgggaibaa

