/- AclFirst, walked: at first member 0 is Admin; what is no grant and no revoke is refused. -/
import Derived.Test.YthodlbkgggaibaaAclNoneW
import Derived.Test.YthodlbkgggaibaaCv6
namespace Go.Proofs.Ythodlbkgggaibaa
open Go.RowKit Go.Shelf
set_option maxRecDepth 20000
set_option linter.unusedSimpArgs false
theorem roleP_nil (who : Int) (v : List Int) : roleP [] who v = if 8 ≤ who then 0 else if who = 0 then 3 else 0 := by unfold roleP; rfl
theorem members_first (v : List Int) : membersL [] v = [3, 0, 0, 0, 0, 0, 0, 0] := by unfold membersL; rfl
theorem rright_okA (e : Ev) (w : World) (he : e.Ok) : Calls Try.prog 25 #[.agg e.cells.toArray] w fun x w' => x = .returned (.bool (rightB e)) ∧ Below w.heap.size w w' :=
  rright_any e w he.past he.dot.1.1 he.dot.2.1 (by have := he.dot.2.2; omega) he.par.1.1 he.par.2.1
theorem first_ref (e : Ev) : refB [] e = if rightB e = false then 3 else if e.kind ≠ 3 ∧ e.kind ≠ 4 then 3 else 0 := by unfold refB lookB; simp
def cntB (L : List Ent) (d : Int × Int) : Bool := match lookB L d with | some x => x.2 | none => false
theorem bcountsC (H b : Nat) (L : List Ent) (da ds : Int) (w : World) (hC : BookC w H b L) (hd : okD da ds) :
    Calls Try.prog 23 #[.pointer (some ⟨H, 0, none⟩), .agg (dotC da ds).toArray] w fun r w' => r = .returned (.bool (cntB L (da, ds))) ∧ Below w.heap.size w w' := bcounts_any H b L da ds w hC hd
theorem first_counts (e : Ev) (h8 : rightB e = true → e.da < 8) : cntB (addB [] e) (e.da, e.ds) = ((refB [] e == 0) && (e.da == 0)) := by
  unfold cntB addB
  by_cases h : refB [] e = 0
  · rw [if_pos h, h]
    have hr : rightB e = true := by
      rw [first_ref] at h
      cases hh : rightB e with
      | true => rfl
      | false => rw [hh] at h; simp at h
    have h8 := h8 hr
    have hl : lookB ([] ++ [(e, roleP [] e.da e.past == 3)]) (e.da, e.ds) = some (e, roleP [] e.da e.past == 3) := by unfold lookB; simp [Ev.dot]
    rw [hl, roleP_nil, if_neg (by omega)]
    by_cases h0 : e.da = 0
    · rw [h0]; rfl
    · rw [if_neg h0]; simp [h0]
  · rw [if_neg h]
    have : (refB [] e == 0) = false := by simpa using h
    rw [this]; rfl
theorem first_len (e : Ev) : (addB [] e).length ≤ 1 := by unfold addB; split <;> simp
set_option maxHeartbeats 8000000 in
theorem afi_walk (v : List Int) (e : Ev) (w : World) (hv : v.length = 8) (he : e.Ok) :
    Calls Try.prog 12 #[.agg (row .u32 v), .agg e.cells.toArray] w fun r w' => r = .returned (.bool true) ∧ Below w.heap.size w w' := by
  obtain ⟨VV, hVV⟩ : ∃ q, v.map (Value.int .u32) = q := ⟨_, rfl⟩
  have hrow : row .u32 v = VV.toArray := by rw [← hVV]; rfl
  have hB0 : Below w.heap.size w ((w.alloc (.cells VV.toArray 25)).alloc (.cells e.cells.toArray 41)) := ((Below.refl _ _).alloc (Nat.le_refl _) _).alloc (by simp) _
  have hy0 := (CellsAt.new w 25 VV).alloc (.cells e.cells.toArray 41)
  have hx0 := CellsAt.new (w.alloc (.cells VV.toArray 25)) 41 e.cells
  rw [World.size_alloc] at hx0
  have iE : (Try.prog.info? 41).map (·.size) = some e.cells.length := by rw [aev_len e he.past]; kernel_rfl
  have iD : (Try.prog.info? 38).map (·.size) = some (dotC e.da e.ds).length := sizeDot
  have iV : (Try.prog.info? 25).map (·.size) = some VV.length := by rw [← hVV, List.length_map, hv]; kernel_rfl
  have uE := Try.underlying41
  have uD := Try.underlying38
  have uV := Try.underlying25
  have HT : Veil (∀ W, Below (w.heap.size + 2) ((w.alloc (.cells VV.toArray 25)).alloc (.cells e.cells.toArray 41)) W → W.rangeAt (w.heap.size + 1) 0 e.cells ∧ W.rangeAt (w.heap.size + 1) 0 (dotC e.da e.ds) ∧ W.rangeAt w.heap.size 0 VV ∧ W.cell? ⟨w.heap.size + 1, 10, none⟩ = some (.int .u8 e.kind) ∧ W.cell? ⟨w.heap.size + 1, 0, none⟩ = some (.int .u8 e.da)) := ⟨fun W hb => by
    have hx := hx0.congr (hb.block _ (by omega))
    have hy := hy0.congr (hb.block _ (by omega))
    have h1 := hx.range 0 2
    rw [(ev_parts e he.past).1] at h1
    exact ⟨hx.wholeM, h1, hy.wholeM, (hx.cell 10).trans (ev_parts e he.past).2.2.1, by have := h1 0 _ rfl; simpa using this⟩⟩
  have hlv := @live9_any
  have had := fun W H b hC => badd_any H b [] e W hC he (by decide)
  have hct := fun W H b hC => bcountsC H b (addB [] e) e.da e.ds W hC he.dot
  have hme := fun W H b hC => members_any H b [] v W hC hv
  have hrt := fun W => rright_okA e W he
  have hln := fun W H b hC => blen_any H b (addB [] e) W hC
  have h8 : rightB e = true → e.da < 8 := fun h => by
    have h := (Bool.and_eq_true_iff.1 h).1
    unfold rightDotB at h
    simp only [Bool.and_eq_true, decide_eq_true_eq, Bool.not_eq_true', beq_eq_false_iff_ne] at h
    exact h.1
  have HL1 : Veil ((addB [] e).length ≤ 1) := ⟨first_len e⟩
  have HRF : Veil (refB [] e = if rightB e = false then 3 else if e.kind ≠ 3 ∧ e.kind ≠ 4 then 3 else 0) := ⟨first_ref e⟩
  have HAB : Veil (refB [] e ≠ 0 → (addB [] e).length = 0) := ⟨fun h => by unfold addB; rw [if_neg h]; rfl⟩
  simp only [first_counts e h8] at hct
  simp only [members_first] at hme
  have heq : ∀ wx, (Op.equalIn 10000 34 (.agg #[.int .u8 3, .int .u8 0, .int .u8 0, .int .u8 0, .int .u8 0, .int .u8 0, .int .u8 0, .int .u8 0]) (.agg #[.int .u8 3, .int .u8 0, .int .u8 0, .int .u8 0, .int .u8 0, .int .u8 0, .int .u8 0, .int .u8 0])).run Try.prog wx = .ok true wx := fun wx => roles_eqIn [3, 0, 0, 0, 0, 0, 0, 0] [3, 0, 0, 0, 0, 0, 0, 0] rfl rfl wx
  rw [hrow] at hme ⊢
  have hme' : ∀ W H b, BookC W H b [] → Calls Try.prog 16 #[.pointer (some ⟨H, 0, none⟩), .agg VV.toArray] W fun e w' => e = .returned (.agg #[.int .u8 3, .int .u8 0, .int .u8 0, .int .u8 0, .int .u8 0, .int .u8 0, .int .u8 0, .int .u8 0]) ∧ Below W.heap.size W w' := fun W H b hC => hme W H b hC
  have hbl : ∀ W, (Instr.build 34 #[(0, .int .u8 3)]).run Try.prog W = .ok (.agg #[.int .u8 3, .int .u8 0, .int .u8 0, .int .u8 0, .int .u8 0, .int .u8 0, .int .u8 0, .int .u8 0]) W := fun W => by kernel_rfl
  generalize hAA : addB [] e = AA at had hct hln HL1 HAB
  generalize refB [] e = RN at had hct HRF HAB
  generalize rightB e = RB at hrt HRF
  generalize e.cells = E at hB0 hx0 hy0 iE HT had hrt ⊢
  generalize dotC e.da e.ds = DV at iD HT hct
  generalize e.da = DA at HT hct
  generalize e.kind = KD at HT HRF
  generalize hLL : (AA.length : Int) = LL at hln
  have HLL : Veil (LL ≤ 1 ∧ (RN ≠ 0 → LL = 0)) := ⟨by have := HL1.out; omega, fun h => by have := HAB.out h; omega⟩
  have hz0 : ((w.alloc (.cells VV.toArray 25)).alloc (.cells E.toArray 41)).heap.size = w.heap.size + 2 := by simp
  have HB0 := Veil.mk hB0
  have HZ0 := Veil.mk hz0
  have HAD := Veil.mk had
  have HCT := Veil.mk hct
  have HLN := Veil.mk hln
  have HRT := Veil.mk hrt
  clear he hx0 hy0 hme hrow hVV hB0 hz0 had hct hln hrt hAA h8 hLL HL1 HAB
  go_enter Try.func12, Try.ntmps12
  go_upto_region 1 with fail
  refine forget (p := fun y => Code.wp _ _ _ _ y) (fun W => Below w.heap.size w W ∧ ∀ W', (∀ k, k < W.heap.size → W'.heap[k]? = W.heap[k]?) → W.heap.size ≤ W'.heap.size → W'.os = W.os → W'.tape = W.tape → W'.output = W.output → W'.rangeAt (w.heap.size + 1) 0 E ∧ W'.rangeAt (w.heap.size + 1) 0 DV ∧ W'.rangeAt w.heap.size 0 VV ∧ W'.cell? ⟨w.heap.size + 1, 10, none⟩ = some (.int .u8 KD) ∧ W'.cell? ⟨w.heap.size + 1, 0, none⟩ = some (.int .u8 DA)) ⟨HB0.out, fun W' h1 h2 h3 h4 h5 => HT.out W' (by rw [HZ0.out] at h1 h2; exact ⟨h3, h4, h5, by rw [HZ0.out]; exact h2, h1⟩)⟩ ?_
  rintro W0 ⟨hB0, hT0⟩
  have HT0 : Veil (∀ W', Below W0.heap.size W0 W' → W'.rangeAt (w.heap.size + 1) 0 E ∧ W'.rangeAt (w.heap.size + 1) 0 DV ∧ W'.rangeAt w.heap.size 0 VV ∧ W'.cell? ⟨w.heap.size + 1, 10, none⟩ = some (.int .u8 KD) ∧ W'.cell? ⟨w.heap.size + 1, 0, none⟩ = some (.int .u8 DA)) := ⟨fun W' hb => hT0 W' hb.block hb.size hb.os hb.tape hb.output⟩
  have hnew := bnew_any W0
  clear hT0 HT HB0 HZ0
  go_upto_region 4 with (first
    | (go_at_call 24; refine hnew.mono ?_; rintro z W1 ⟨H, b, rfl, hC1, hb1, hlb, hlH⟩; obtain ⟨-, -, q3, -, -⟩ := HT0.out W1 hb1; have hme1 := hme' W1 H b hC1)
    | (refine wpList_ldv rfl 25 (.tmp 2) rfl w.heap.size 0 rfl VV q3 uV rfl iV ?_)
    | (go_at_call 16; refine hme1.mono ?_; rintro z W2 ⟨rfl, hb2⟩))
  have B2 := hb1.trans (hb2.mono hb1.size)
  have hC2 := hC1.far hb2
  have HW : Veil (∀ W3, Turn (fun k => k = b) W2 W3 → Below W0.heap.size W0 W3) := ⟨fun W3 ht => ⟨ht.os.trans B2.os, ht.tape.trans B2.tape, ht.output.trans B2.output, Nat.le_trans B2.size ht.size, fun k hk => (ht.block k (Nat.lt_of_lt_of_le hk B2.size) (by omega)).trans (B2.block k hk)⟩⟩
  obtain ⟨r1, -, -, r4, -⟩ := HT0.out W2 B2
  clear hC1 q3 hme1 hb2 hb1
  by_cases hkd : KD ≠ 3 ∧ KD ≠ 4
  · have hr3 : RN = 3 := by
      rw [HRF.out]
      by_cases h : RB = false
      · rw [if_pos h]
      · rw [if_neg h, if_pos hkd]
    have hl0 : LL = 0 := HLL.out.2 (by omega)
    subst hr3 hl0
    have hk3 : (KD != 3) = true := by simpa using hkd.1
    have hk4 : (KD != 4) = true := by simpa using hkd.2
    clear hkd
    have hlv2 := hlv W2
    go_wp2_with (first
      | (go_at_call 21; refine hl5.mono ?_; rintro z W5 ⟨rfl, rfl⟩)
      | (go_at_call 18; refine ha3.mono ?_; rintro z W4 ⟨rfl, hC4, ht4⟩; have hl5 := HLN.out W4 H b hC4)
      | (go_at_call 14; refine hlv2.mono ?_; rintro z W3 ⟨rfl, hb3⟩; have B3 := B2.trans (hb3.mono B2.size); obtain ⟨s1, -, -, -, -⟩ := HT0.out W3 B3; have ha3 := HAD.out W3 H b (hC2.far hb3))
      | (refine wpList_ldgv (by kernel_rfl) 41 (.tmp 3) rfl (w.heap.size + 1) 0 rfl E s1 uE rfl iE ?_))
    go_ret
    refine ⟨rfl, ?_⟩
    have B3' := hB0.trans (B3.mono hB0.size)
    exact ⟨ht4.os.trans B3'.os, ht4.tape.trans B3'.tape, ht4.output.trans B3'.output, Nat.le_trans B3'.size ht4.size, fun k hk => (ht4.block k (Nat.lt_of_lt_of_le hk B3'.size) (by have := hB0.size; omega)).trans (B3'.block k hk)⟩
  · replace HRF : Veil (RN = if RB = false then 3 else 0) := ⟨by rw [HRF.out, if_neg hkd]⟩
    have hkk : KD = 3 ∨ KD = 4 := by omega
    have hl1 := HLL.out.1
    have ha2 := HAD.out W2 H b hC2
    have HX : Veil (∀ W3, BookC W3 H b AA → Turn (fun k => k = b) W2 W3 → Below W0.heap.size W0 W3) := ⟨fun W3 _ ht => HW.out W3 ht⟩
    clear hkd
    have hgo : (RB = false ∧ RN = 3) ∨ (RB = true ∧ RN = 0 ∧ DA = 0) ∨ (RB = true ∧ RN = 0 ∧ DA ≠ 0) := by
      cases RB with
      | false => exact .inl ⟨rfl, HRF.out⟩
      | true => by_cases h : DA = 0; exact .inr (.inl ⟨rfl, HRF.out, h⟩); exact .inr (.inr ⟨rfl, HRF.out, h⟩)
    clear HRF HLL
    have hdd : (DA == 0) = true ∨ (DA == 0) = false := by cases (DA == 0) <;> simp
    rcases hkk with rfl | rfl <;> rcases hgo with ⟨rfl, rfl⟩ | ⟨rfl, rfl, rfl⟩ | ⟨rfl, rfl, hD⟩
    all_goals
      try (have hDb : (DA == 0) = false := by simpa using hD)
      go_wp2_with (first
        | (go_at_call 23; refine hc6.mono ?_; rintro z W7 ⟨rfl, hb7⟩; obtain ⟨-, -, -, -, v5⟩ := HT0.out W7 (B5.trans (hb7.mono B5.size)))
        | (go_at_call 21; refine hl5.mono ?_; rintro z W6 ⟨rfl, rfl⟩; obtain ⟨-, u2, -, -, -⟩ := HT0.out _ B5; have hc6 := HCT.out _ H b hC5)
        | (go_at_call 25; refine hr4.mono ?_; rintro z W5 ⟨rfl, hb5⟩; have B5 := B4.trans (hb5.mono B4.size); have hC5 := hC4.far hb5; have hl5 := HLN.out W5 H b hC5)
        | (go_at_call 14; refine (hlv W3).mono ?_; rintro z W4 ⟨rfl, hb4⟩; have B4 := B3.trans (hb4.mono B3.size); have hC4 := hC3.far hb4; obtain ⟨t1, -, -, -, -⟩ := HT0.out W4 B4; have hr4 := HRT.out W4)
        | (go_at_call 18; refine ha2.mono ?_; rintro z W3 ⟨rfl, hC3, ht3⟩; have B3 := HX.out W3 hC3 ht3)
        | (refine wpList_ldgv (by kernel_rfl) 38 (.tmp 51) rfl (w.heap.size + 1) 0 rfl DV u2 uD rfl iD ?_)
        | (refine wpList_ldgv (by kernel_rfl) 41 (.tmp 3) rfl (w.heap.size + 1) 0 rfl E t1 uE rfl iE ?_)
        | (refine wpList_ldv rfl 41 (.tmp 3) rfl (w.heap.size + 1) 0 rfl E r1 uE rfl iE ?_))
      go_ret
      refine ⟨rfl, ?_⟩
      have B7 := B5.trans (hb7.mono B5.size)
      exact hB0.trans (B7.mono hB0.size)
end Go.Proofs.Ythodlbkgggaibaa

