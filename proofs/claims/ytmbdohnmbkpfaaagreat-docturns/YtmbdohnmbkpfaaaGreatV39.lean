/- De6 De8 -/
import Derived.Test.YtmbdohnmbkpfaaaGreatV33
import Derived.Test.YtmbdohnmbkpfaaaGreatV38
namespace Go.Proofs.YtmbdohnmbkpfaaaGreat
open Go.RowKit Go.Shelf
set_option maxRecDepth 20000
set_option linter.unusedSimpArgs false
def mayE (st : Ds) (a : Int) (fit : Bool) (least : Int) : Ev := if forbN st a fit least = 0 then nextE st a.toNat evZ0 else evZ0
theorem eight (S : List Int) (h : S.length = 8) : ∃ s0 s1 s2 s3 s4 s5 s6 s7, S = [s0, s1, s2, s3, s4, s5, s6, s7] := by
 match S, h with
 | [a, b, c, d, e, f, g, i], _ => exact ⟨a, b, c, d, e, f, g, i, rfl⟩
set_option maxHeartbeats 16000000 in
theorem rmay_any (base : Nat) (st : Ds) (p : Rp) (a : Int) (fit : Bool) (least : Int) (w : World) (hD : RDocAt w base st p) (hG : GoodD st) (hR : GoodR st p.K p.G) (ha0 : 0 ≤ a) :
    Calls Tryz.prog 87 #[.pointer (some ⟨p.D, 0, none⟩), .int .u8 a, .bool fit, .int .u8 least] w fun r w' => r = .returned (.tuple #[.agg (mayE st a fit least).cells.toArray, .int .i64 (forbN st a fit least)]) ∧ Below w.heap.size w w' := by
 have hB0 : Below w.heap.size w (w.alloc (.cells zC.toArray 44)) := (Below.refl _ _).alloc (Nat.le_refl _) _
 have hz0 := CellsAt.new w 44 zC
 have hD0 := hD.far hB0
 have hll := hG.llen
 have hkl := hR.klen
 have HBAD : Veil (∀ q, forbN st a fit least = q → q ≠ 0 → (mayE st a fit least).cells = zC ∧ forbN st a fit least = q) := ⟨fun q h1 h2 => ⟨by unfold mayE; rw [if_neg (by rw [h1]; exact h2)]; exact zC_is, h1⟩⟩
 have HRO : Veil (∀ W, RDocAt W base st p → Calls Tryz.prog 23 #[.pointer (some ⟨p.H, 0, none⟩), .int .u8 a, .agg (st.S.map (Value.int .u32)).toArray] W fun x w' => x = .returned (.int .u8 (roleP st.B a st.S)) ∧ Below W.heap.size W w') := ⟨fun W h => by
  have := rrole_any p.H p.K p.x p.bx p.c p.bc a st.S W h.book hG.slen (by omega) hR.good
  rw [hR.role] at this
  exact this⟩
 have HNE : Veil (∀ k, rdocP p k → k ≠ w.heap.size) := ⟨fun k q e => by have := hD.blockLt k q; omega⟩
 have HN : Veil (forbN st a fit least = if ¬ a < 8 then 2 else if fit = false then 2 else if 512 ≤ st.L.length then 10 else if roleP st.B a st.S < least then 8 else 0) := ⟨rfl⟩
 have uE := Tryz.underlying44
 have uV := Tryz.underlying37
 have iZ : (Tryz.prog.info? 44).map (·.size) = some zC.length := by show _ = some 17; kernel_rfl
 have h1Z := zC_one
 obtain ⟨Z, hZ0⟩ : ∃ Z, Z = zC := ⟨_, rfl⟩
 rw [← hZ0] at iZ h1Z
 have hZ := hZ0
 unfold zC at hZ
 have HZ17 : Veil (Z.length = 17) := ⟨by rw [hZ0]; rfl⟩
 obtain ⟨x0, c0, hlv⟩ := hD.evs.isSlice
 rw [List.length_map] at hlv
 have HCL : Veil (∀ W, RDocAt W base st p → W.cell? ⟨p.D, 0, none⟩ = some (.slice x0 st.L.length c0)) := ⟨fun W h => by rw [← hlv]; exact h.cL hG.slen⟩
 unfold zC at hB0 hz0 hD0
 by_cases ha8 : a < 8
 rotate_left
 · replace HN : Veil (forbN st a fit least = 2) := ⟨HN.out.trans (if_pos ha8)⟩
   have h7 : (7 : Int) < a := by omega
   generalize p.D = D
   clear hD hR hlv hkl
   go_enter Tryz.func87, Tryz.ntmps87
   go_upto_region 1 with fail
   refine forget (p := fun y => Code.wp _ _ _ _ y) (fun W => Below w.heap.size w W ∧ CellsAt W w.heap.size 44 Z) ⟨hB0, by rw [hZ]; exact hz0⟩ ?_
   clear hB0 hz0 hD0
   rintro W ⟨hB, hz⟩
   · have hzz : Z = [.int .u8 0, .int .u32 0, .int .u32 0, .int .u32 0, .int .u32 0, .int .u32 0, .int .u32 0, .int .u32 0, .int .u32 0, .int .u32 0, .int .u8 0, .int .u8 0, .int .u32 0, .bool false, .int .u8 0, .int .u8 0, .int .u8 0] := hZ
     go_wp2_with (refine wpList_stv (cs := [.int .u8 0, .int .u32 0, .int .u32 0, .int .u32 0, .int .u32 0, .int .u32 0, .int .u32 0, .int .u32 0, .int .u32 0, .int .u32 0, .int .u8 0, .int .u8 0, .int .u32 0, .bool false, .int .u8 0, .int .u8 0, .int .u8 0]) rfl 44 _ _ rfl w.heap.size rfl rfl hz (by rw [← hzz]; exact iZ) (by rw [hzz]) (by rw [← hzz]; exact h1Z) ?_)
     refine bodyPost_ret (results_ct (Tryz.results87) _ rfl rfl (hz.setRow _) uE rfl (by rw [← hzz]; exact iZ)) rfl ⟨?_, below_setRow hB (Nat.le_refl _) _⟩
     rw [(HBAD.out 2 HN.out (by decide)).1, (HBAD.out 2 HN.out (by decide)).2, ← hzz, ← hZ0]; rfl
 replace HN : Veil (forbN st a fit least = if fit = false then 2 else if 512 ≤ st.L.length then 10 else if roleP st.B a st.S < least then 8 else 0) := ⟨HN.out.trans (if_neg (by omega))⟩
 have h7 : ¬ (7 : Int) < a := by omega
 cases fit
 · replace HN : Veil (forbN st a false least = 2) := ⟨HN.out⟩
   generalize p.D = D
   clear hD hR hlv hkl
   go_enter Tryz.func87, Tryz.ntmps87
   go_upto_region 1 with fail
   refine forget (p := fun y => Code.wp _ _ _ _ y) (fun W => Below w.heap.size w W ∧ CellsAt W w.heap.size 44 Z) ⟨hB0, by rw [hZ]; exact hz0⟩ ?_
   clear hB0 hz0 hD0
   rintro W ⟨hB, hz⟩
   · have hzz : Z = [.int .u8 0, .int .u32 0, .int .u32 0, .int .u32 0, .int .u32 0, .int .u32 0, .int .u32 0, .int .u32 0, .int .u32 0, .int .u32 0, .int .u8 0, .int .u8 0, .int .u32 0, .bool false, .int .u8 0, .int .u8 0, .int .u8 0] := hZ
     go_wp2_with (refine wpList_stv (cs := [.int .u8 0, .int .u32 0, .int .u32 0, .int .u32 0, .int .u32 0, .int .u32 0, .int .u32 0, .int .u32 0, .int .u32 0, .int .u32 0, .int .u8 0, .int .u8 0, .int .u32 0, .bool false, .int .u8 0, .int .u8 0, .int .u8 0]) rfl 44 _ _ rfl w.heap.size rfl rfl hz (by rw [← hzz]; exact iZ) (by rw [hzz]) (by rw [← hzz]; exact h1Z) ?_)
     refine bodyPost_ret (results_ct (Tryz.results87) _ rfl rfl (hz.setRow _) uE rfl (by rw [← hzz]; exact iZ)) rfl ⟨?_, below_setRow hB (Nat.le_refl _) _⟩
     rw [(HBAD.out 2 HN.out (by decide)).1, (HBAD.out 2 HN.out (by decide)).2, ← hzz, ← hZ0]; rfl
 replace HN : Veil (forbN st a true least = if 512 ≤ st.L.length then 10 else if roleP st.B a st.S < least then 8 else 0) := ⟨HN.out⟩
 obtain ⟨n, hn8, hna⟩ : ∃ n : Nat, n < 8 ∧ a = (n : Int) := ⟨a.toNat, by omega, by omega⟩
 have hsb := hG.seen hn8
 obtain ⟨s0, s1, s2, s3, s4, s5, s6, s7, hS8⟩ := eight st.S hG.slen
 have HNX : Veil (forbN st a true least = 0 → (mayE st a true least).cells = [.int .u8 (n : Int), .int .u32 (st.S[n]?.getD 0 + 1), .int .u32 s0, .int .u32 s1, .int .u32 s2, .int .u32 s3, .int .u32 s4, .int .u32 s5, .int .u32 s6, .int .u32 s7, .int .u8 0, .int .u8 0, .int .u32 0, .bool false, .int .u8 0, .int .u8 0, .int .u8 0]) := ⟨fun h => by
  unfold mayE
  rw [if_pos h, hna, Int.toNat_natCast]
  unfold nextE evZ0 evK Ev.cells dotC
  simp only [hS8]
  rfl⟩
 have HT : Veil (∀ W, RDocAt W base st p → W.cell? ⟨p.D, 11, none⟩ = some (.pointer (some ⟨p.H, 0, none⟩)) ∧ W.rangeAt p.D 2 (st.S.map (Value.int .u32)) ∧ W.cell? ⟨p.D, 2 + n, none⟩ = some (.int .u32 (st.S[n]?.getD 0))) := ⟨fun W h => ⟨h.cH hG.slen, h.cS hG.slen, h.cSa hG.slen hn8⟩⟩
 have iV : (Tryz.prog.info? 37).map (·.size) = some (st.S.map (Value.int .u32)).length := by rw [List.length_map, hG.slen]; kernel_rfl
 have hSV : st.S.map (Value.int .u32) = [Value.int .u32 s0, Value.int .u32 s1, Value.int .u32 s2, Value.int .u32 s3, Value.int .u32 s4, Value.int .u32 s5, Value.int .u32 s6, Value.int .u32 s7] := by rw [hS8]; rfl
 rw [hSV] at iV HT HRO
 generalize st.S[n]?.getD 0 = sv at HNX HT hsb
 have hsv : ¬ 1048576 ≤ sv := by omega
 have hwv : IntKind.u32.wrap (sv + 1) = sv + 1 := by rw [IntKind.wrap_u32]; omega
 generalize roleP st.B a st.S = RO at HRO HN
 obtain ⟨m, hm⟩ : ∃ q, st.L.length = q := ⟨_, rfl⟩
 rw [hm] at HN HCL
 obtain ⟨D, hDD⟩ : ∃ q, p.D = q := ⟨_, rfl⟩
 obtain ⟨H, hHH⟩ : ∃ q, p.H = q := ⟨_, rfl⟩
 rw [hDD, hHH] at HT
 rw [hDD] at HCL ⊢
 rw [hHH] at HRO
 generalize (mayE st a true least).cells = MC at HBAD HNX ⊢
 generalize forbN st a true least = FN at HBAD HNX HN ⊢
 subst hna
 have hn0 : (0 : Int) ≤ (n : Int) := by omega
 have hn9 : (n : Int) < 8 := by omega
 have hnt : ((n : Int)).toNat = n := Int.toNat_natCast n
 clear hD hG hR hlv hkl hll hS8 hSV hsb hm hDD hHH ha0 ha8
 go_enter Tryz.func87, Tryz.ntmps87
 go_upto_region 1 with fail
 refine forget (p := fun y => Code.wp _ _ _ _ y) (fun W => Below w.heap.size w W ∧ CellsAt W w.heap.size 44 Z ∧ RDocAt W base st p) ⟨hB0, by rw [hZ]; exact hz0, hD0⟩ ?_
 clear hB0 hz0 hD0
 rintro W ⟨hB, hz, hD⟩
 have cl := HCL.out W hD
 have cs := (HT.out W hD).2.2
 by_cases hl : 512 ≤ m
 · replace HN : Veil (FN = 10) := ⟨by rw [HN.out, if_pos hl]⟩
   have hli : (512 : Int) ≤ (m : Int) := by omega
   clear hD
   · have hzz : Z = [.int .u8 0, .int .u32 0, .int .u32 0, .int .u32 0, .int .u32 0, .int .u32 0, .int .u32 0, .int .u32 0, .int .u32 0, .int .u32 0, .int .u8 0, .int .u8 0, .int .u32 0, .bool false, .int .u8 0, .int .u8 0, .int .u8 0] := hZ
     go_wp2_with (refine wpList_stv (cs := [.int .u8 0, .int .u32 0, .int .u32 0, .int .u32 0, .int .u32 0, .int .u32 0, .int .u32 0, .int .u32 0, .int .u32 0, .int .u32 0, .int .u8 0, .int .u8 0, .int .u32 0, .bool false, .int .u8 0, .int .u8 0, .int .u8 0]) rfl 44 _ _ rfl w.heap.size rfl rfl hz (by rw [← hzz]; exact iZ) (by rw [hzz]) (by rw [← hzz]; exact h1Z) ?_)
     refine bodyPost_ret (results_ct (Tryz.results87) _ rfl rfl (hz.setRow _) uE rfl (by rw [← hzz]; exact iZ)) rfl ⟨?_, below_setRow hB (Nat.le_refl _) _⟩
     rw [(HBAD.out 10 HN.out (by decide)).1, (HBAD.out 10 HN.out (by decide)).2, ← hzz, ← hZ0]; rfl
 replace HN : Veil (FN = if RO < least then 8 else 0) := ⟨by rw [HN.out, if_neg hl]⟩
 have hli : ¬ (512 : Int) ≤ (m : Int) := by omega
 go_upto_region 7 with fail
 clear cl cs
 have hb0 : Below W.heap.size W W.drew := (Below.refl _ _).drew
 have hT : (fun W : World => W.cell? ⟨D, 11, none⟩ = some (.pointer (some ⟨H, 0, none⟩)) ∧ W.rangeAt D 2 [Value.int .u32 s0, Value.int .u32 s1, Value.int .u32 s2, Value.int .u32 s3, Value.int .u32 s4, Value.int .u32 s5, Value.int .u32 s6, Value.int .u32 s7] ∧ W.cell? ⟨D, 2 + n, none⟩ = some (.int .u32 sv)) W.drew := HT.out _ (hD.far hb0)
 have hS : (fun _ : World => True) W.drew := trivial
 refine wp_region_gateT (fun W : World => W.cell? ⟨D, 11, none⟩ = some (.pointer (some ⟨H, 0, none⟩)) ∧ W.rangeAt D 2 [Value.int .u32 s0, Value.int .u32 s1, Value.int .u32 s2, Value.int .u32 s3, Value.int .u32 s4, Value.int .u32 s5, Value.int .u32 s6, Value.int .u32 s7] ∧ W.cell? ⟨D, 2 + n, none⟩ = some (.int .u32 sv)) (fun _ => True) 99 (by kernel_rfl) ?_
 refine ghA 0 _ hT hS ?_
 simp only [Act.put, gA, gS, gZ, sI, sZ, sS]
 refine ghA 1 _ hT hS ?_
 simp only [Act.put, gA, gS, gZ, sI, sZ, sS]
 refine ghA 2 _ hT hS ?_
 simp only [Act.put, gA, gS, gZ, sI, sZ, sS]
 refine ghA 3 _ hT hS ?_
 simp only [Act.put, gA, gS, gZ, sI, sZ, sS]
 refine ghA 4 _ hT hS ?_
 simp only [Act.put, gA, gS, gZ, sI, sZ, sS]
 refine ghA 5 _ hT hS ?_
 simp only [Act.put, gA, gS, gZ, sI, sZ, sS]
 refine ghA 6 _ hT hS ?_
 simp only [Act.put, gA, gS, gZ, sI, sZ, sS]
 refine ghA 7 _ hT hS ?_
 simp only [Act.put, gA, gS, gZ, sI, sZ, sS]
 refine gl 8 48 37 47 D 2 [Value.int .u32 s0, Value.int .u32 s1, Value.int .u32 s2, Value.int .u32 s3, Value.int .u32 s4, Value.int .u32 s5, Value.int .u32 s6, Value.int .u32 s7] (by kernel_rfl) (by kernel_rfl) (by kernel_rfl) (fun _ _ _ h => h) hT hS (by kernel_rfl) (fun _ h => h.2.1) uV rfl iV ?_
 simp only [Act.put, gA, gS, gZ, sI, sZ, sS]
 refine ghA 10 _ hT hS ?_
 simp only [Act.put, gA, gS, gZ, sI, sZ, sS]
 refine wpAnyT_one (i := 9) rfl (by kernel_rfl) (by kernel_rfl) (fun K hK => ?_)
 refine wpx_call _ _ (by kernel_rfl) ((HRO.out _ (hD.far hb0)).mono ?_)
 rintro y W2 ⟨rfl, hb2⟩
 refine ⟨_, rfl, ?_⟩
 replace hb2 : Below W.heap.size W W2 := hb0.trans hb2
 have hB2 := hB.trans (hb2.mono hB.size)
 have hz2 := hz.farM hb2
 have hD2 := hD.far hb2
 replace hT : (fun W : World => W.cell? ⟨D, 11, none⟩ = some (.pointer (some ⟨H, 0, none⟩)) ∧ W.rangeAt D 2 [Value.int .u32 s0, Value.int .u32 s1, Value.int .u32 s2, Value.int .u32 s3, Value.int .u32 s4, Value.int .u32 s5, Value.int .u32 s6, Value.int .u32 s7] ∧ W.cell? ⟨D, 2 + n, none⟩ = some (.int .u32 sv)) W2 := HT.out _ hD2
 replace hS : (fun _ : World => True) W2 := trivial
 clear hb2 hb0 hB hz hD
 refine hK.out _ _ hT (fun _ => hS) ?_
 clear hK K
 try simp only [Act.put, gA, gS, gZ, sI, sZ, sS]
 refine ghA 11 _ hT hS ?_
 simp only [Act.put, gA, gS, gZ, sI, sZ, sS]
 refine ghA 12 _ hT hS ?_
 simp only [Act.put, gA, gS, gZ, sI, sZ, sS]
 refine wpAnyT_done (by kernel_rfl) ?_ _
 clear hT hS
 clear W
 by_cases hr : RO < least
 · replace HN : Veil (FN = 8) := ⟨by rw [HN.out, if_pos hr]⟩
   have hrb : decide (RO < least) = true := by simpa using hr
   · have hzz : Z = [.int .u8 0, .int .u32 0, .int .u32 0, .int .u32 0, .int .u32 0, .int .u32 0, .int .u32 0, .int .u32 0, .int .u32 0, .int .u32 0, .int .u8 0, .int .u8 0, .int .u32 0, .bool false, .int .u8 0, .int .u8 0, .int .u8 0] := hZ
     go_wp2_with (refine wpList_stv (cs := [.int .u8 0, .int .u32 0, .int .u32 0, .int .u32 0, .int .u32 0, .int .u32 0, .int .u32 0, .int .u32 0, .int .u32 0, .int .u32 0, .int .u8 0, .int .u8 0, .int .u32 0, .bool false, .int .u8 0, .int .u8 0, .int .u8 0]) rfl 44 _ _ rfl w.heap.size rfl rfl hz2 (by rw [← hzz]; exact iZ) (by rw [hzz]) (by rw [← hzz]; exact h1Z) ?_)
     refine bodyPost_ret (results_ct (Tryz.results87) _ rfl rfl (hz2.setRow _) uE rfl (by rw [← hzz]; exact iZ)) rfl ⟨?_, below_setRow hB2 (Nat.le_refl _) _⟩
     rw [(HBAD.out 8 HN.out (by decide)).1, (HBAD.out 8 HN.out (by decide)).2, ← hzz, ← hZ0]; rfl
 replace HN : Veil (FN = 0) := ⟨by rw [HN.out, if_neg hr]⟩
 have hrb : decide (RO < least) = false := by simpa using hr
 have hnc := HNX.out HN.out
 have iN : (Tryz.prog.info? 44).map (·.size) = some MC.length := by rw [hnc]; show _ = some 17; kernel_rfl
 have h1N : ∀ u ∈ MC, u.oneCell' = true := by
  rw [hnc]
  intro u hu
  simp only [List.mem_cons, List.not_mem_nil, or_false] at hu
  rcases hu with rfl | rfl | rfl | rfl | rfl | rfl | rfl | rfl | rfl | rfl | rfl | rfl | rfl | rfl | rfl | rfl | rfl <;> rfl
 have HNC := Veil.mk hnc
 have hlN : Z.length = MC.length := by rw [HZ17.out, hnc]; rfl
 have HLN := Veil.mk hlN
 clear hnc hlN
 go_upto_region 9 with fail
 have hb0 : Below W2.heap.size W2 W2.drew := (Below.refl _ _).drew
 have hT : (fun W : World => W.cell? ⟨D, 11, none⟩ = some (.pointer (some ⟨H, 0, none⟩)) ∧ W.rangeAt D 2 [Value.int .u32 s0, Value.int .u32 s1, Value.int .u32 s2, Value.int .u32 s3, Value.int .u32 s4, Value.int .u32 s5, Value.int .u32 s6, Value.int .u32 s7] ∧ W.cell? ⟨D, 2 + n, none⟩ = some (.int .u32 sv)) W2.drew := HT.out _ (hD2.far hb0)
 have hS : (fun _ : World => True) W2.drew := trivial
 have hz3 := hz2.farM hb0
 have hB3 := hB2.trans (hb0.mono hB2.size)
 refine wp_region_gateT (fun W : World => W.cell? ⟨D, 11, none⟩ = some (.pointer (some ⟨H, 0, none⟩)) ∧ W.rangeAt D 2 [Value.int .u32 s0, Value.int .u32 s1, Value.int .u32 s2, Value.int .u32 s3, Value.int .u32 s4, Value.int .u32 s5, Value.int .u32 s6, Value.int .u32 s7] ∧ W.cell? ⟨D, 2 + n, none⟩ = some (.int .u32 sv)) (fun _ => True) 99 (by kernel_rfl) ?_
 refine ghA 0 _ hT hS ?_
 simp only [Act.put, gA, gS, gZ, sI, sZ, sS]
 refine ghA 1 _ hT hS ?_
 simp only [Act.put, gA, gS, gZ, sI, sZ, sS]
 refine ghA 2 _ hT hS ?_
 simp only [Act.put, gA, gS, gZ, sI, sZ, sS]
 refine ghA 3 _ hT hS ?_
 simp only [Act.put, gA, gS, gZ, sI, sZ, sS]
 refine ghA 4 _ hT hS ?_
 simp only [Act.put, gA, gS, gZ, sI, sZ, sS]
 refine ghA 5 _ hT hS ?_
 simp only [Act.put, gA, gS, gZ, sI, sZ, sS]
 refine ghA 6 _ hT hS ?_
 simp only [Act.put, gA, gS, gZ, sI, sZ, sS]
 refine ghA 7 _ hT hS ?_
 simp only [Act.put, gA, gS, gZ, sI, sZ, sS]
 refine ghA 8 _ hT hS ?_
 simp only [Act.put, gA, gS, gZ, sI, sZ, sS]
 refine ghA 9 _ hT hS ?_
 simp only [Act.put, gA, gS, gZ, sI, sZ, sS]
 refine ghA 10 _ hT hS ?_
 simp only [Act.put, gA, gS, gZ, sI, sZ, sS]
 refine ghA 11 _ hT hS ?_
 simp only [Act.put, gA, gS, gZ, sI, sZ, sS]
 refine gl 12 65 37 64 D 2 [Value.int .u32 s0, Value.int .u32 s1, Value.int .u32 s2, Value.int .u32 s3, Value.int .u32 s4, Value.int .u32 s5, Value.int .u32 s6, Value.int .u32 s7] (by kernel_rfl) (by kernel_rfl) (by kernel_rfl) (fun _ _ _ h => h) hT hS (by kernel_rfl) (fun _ h => h.2.1) uV rfl iV ?_
 simp only [Act.put, gA, gS, gZ, sI, sZ, sS]
 refine ghA 13 _ hT hS ?_
 simp only [Act.put, gA, gS, gZ, sI, sZ, sS]
 refine wpAnyT_one (i := 14) rfl (by kernel_rfl) (by kernel_rfl) (fun K hK => ?_)
 refine wp_stvE (cs := [.int .u8 (n : Int), .int .u32 (sv + 1), .int .u32 s0, .int .u32 s1, .int .u32 s2, .int .u32 s3, .int .u32 s4, .int .u32 s5, .int .u32 s6, .int .u32 s7, .int .u8 0, .int .u8 0, .int .u32 0, .bool false, .int .u8 0, .int .u8 0, .int .u8 0]) 44 _ _ rfl w.heap.size rfl rfl hz3 (by rw [← HNC.out]; exact iN) (by rw [← HNC.out]; exact HLN.out) (by rw [← HNC.out]; exact h1N) ?_
 have hD4 : RDocAt (W2.drew.setRow w.heap.size ([.int .u8 (n : Int), .int .u32 (sv + 1), .int .u32 s0, .int .u32 s1, .int .u32 s2, .int .u32 s3, .int .u32 s4, .int .u32 s5, .int .u32 s6, .int .u32 s7, .int .u8 0, .int .u8 0, .int .u32 0, .bool false, .int .u8 0, .int .u8 0, .int .u8 0] : List Value).toArray) base st p := (hD2.far hb0).congr fun k q => setRow_other _ _ _ _ (HNE.out k q)
 replace hT : (fun W : World => W.cell? ⟨D, 11, none⟩ = some (.pointer (some ⟨H, 0, none⟩)) ∧ W.rangeAt D 2 [Value.int .u32 s0, Value.int .u32 s1, Value.int .u32 s2, Value.int .u32 s3, Value.int .u32 s4, Value.int .u32 s5, Value.int .u32 s6, Value.int .u32 s7] ∧ W.cell? ⟨D, 2 + n, none⟩ = some (.int .u32 sv)) (W2.drew.setRow w.heap.size ([.int .u8 (n : Int), .int .u32 (sv + 1), .int .u32 s0, .int .u32 s1, .int .u32 s2, .int .u32 s3, .int .u32 s4, .int .u32 s5, .int .u32 s6, .int .u32 s7, .int .u8 0, .int .u8 0, .int .u32 0, .bool false, .int .u8 0, .int .u8 0, .int .u8 0] : List Value).toArray) := HT.out _ hD4
 replace hS : (fun _ : World => True) (W2.drew.setRow w.heap.size ([.int .u8 (n : Int), .int .u32 (sv + 1), .int .u32 s0, .int .u32 s1, .int .u32 s2, .int .u32 s3, .int .u32 s4, .int .u32 s5, .int .u32 s6, .int .u32 s7, .int .u8 0, .int .u8 0, .int .u32 0, .bool false, .int .u8 0, .int .u8 0, .int .u8 0] : List Value).toArray) := trivial
 clear hD4
 refine hK.out _ _ hT (fun _ => hS) ?_
 clear hK K
 try simp only [Act.put, gA, gS, gZ, sI, sZ, sS]
 refine ghA 15 _ hT hS ?_
 simp only [Act.put, gA, gS, gZ, sI, sZ, sS]
 refine wpAnyT_done (by kernel_rfl) ?_ _
 clear hT hS
 go_wp2
 refine bodyPost_ret (results_ct (Tryz.results87) _ rfl rfl (hz3.setRow _) uE rfl (by rw [← HNC.out]; exact iN)) rfl ⟨?_, below_setRow hB3 (Nat.le_refl _) _⟩
 rw [HN.out, HNC.out]; rfl
theorem mayE_past {st : Ds} (hG : GoodD st) {a : Int} {fit : Bool} {least : Int} : (mayE st a fit least).past.length = 8 := by
 unfold mayE
 split
 · exact hG.slen
 · rfl
theorem CellsAt.setOther17 {w : World} {g g' : Nat} {t : TypeId} {cs : List Value} (h : CellsAt w g t cs) (hne : g ≠ g') {o : Nat} (v : Value) : CellsAt (w.setCell ⟨g', o, none⟩ v) g t cs := h.congr (Below.heap_setCell w _ v g hne)
set_option maxHeartbeats 16000000 in
theorem rTake_any (base : Nat) (st : Ds) (p : Rp) (a who : Int) (w : World) (hD : RDocAt w base st p) (hG : GoodD st) (hR : GoodR st p.K p.G) (ha0 : 0 ≤ a) :
    Calls Tryz.prog 66 #[.pointer (some ⟨p.D, 0, none⟩), .int .u8 a, .int .u8 who] w fun r w' => r = .returned (.tuple #[.agg (tellT st a who).1.cells.toArray, .int .i64 (tellT st a who).2]) ∧ Below w.heap.size w w' := by
 have hB0 : Below w.heap.size w (w.alloc (.cells zC.toArray 44)) := (Below.refl _ _).alloc (Nat.le_refl _) _
 have hz0 := CellsAt.new w 44 zC
 have hD0 := hD.far hB0
 have HMY : Veil (∀ fit W, RDocAt W base st p → Calls Tryz.prog 87 #[.pointer (some ⟨p.D, 0, none⟩), .int .u8 a, .bool fit, .int .u8 3] W fun r w' => r = .returned (.tuple #[.agg (mayE st a fit 3).cells.toArray, .int .i64 (forbN st a fit 3)]) ∧ Below W.heap.size W w') := ⟨fun fit W h => rmay_any base st p a fit 3 W h hG hR ha0⟩
 have HBAD : Veil (forbN st a (decide (who < 8)) 3 ≠ 0 → (tellT st a who).1.cells = zC ∧ (tellT st a who).2 = forbN st a (decide (who < 8)) 3) := ⟨fun h => by
  have : tellT st a who = (evZ0, forbN st a (decide (who < 8)) 3) := if_pos h
  rw [this]; exact ⟨rfl, rfl⟩⟩
 have HOK : Veil (forbN st a (decide (who < 8)) 3 = 0 → (tellT st a who).2 = 0 ∧ (((mayE st a (decide (who < 8)) 3).cells.set 10 (.int .u8 4)).set 15 (.int .u8 who)) = (tellT st a who).1.cells) := ⟨fun h => by
  have e1 : tellT st a who = (nextE st a.toNat (evK 4 (0, 0) false 0 who 0), 0) := if_neg (by rw [h]; simp)
  obtain ⟨s0, s1, s2, s3, s4, s5, s6, s7, hS8⟩ := eight st.S hG.slen
  rw [e1]
  refine ⟨rfl, ?_⟩
  unfold mayE
  rw [if_pos h]
  unfold nextE evZ0 evK Ev.cells dotC
  simp only [hS8]
  rfl⟩
 have HM17 : Veil (∀ fit, (mayE st a fit 3).cells.length = 17 ∧ ∀ u ∈ (mayE st a fit 3).cells, u.oneCell' = true) := ⟨fun fit => ⟨aev_len _ (mayE_past hG), aev_one _⟩⟩
 have h1T : ∀ u ∈ (tellT st a who).1.cells, u.oneCell' = true := aev_one _
 have hfit : ((decide (who < 8)) = true ∧ who ≤ 7) ∨ ((decide (who < 8)) = false ∧ 7 < who) := by
  by_cases h1 : who ≤ 7
  · exact .inl ⟨by simp; omega, h1⟩
  · exact .inr ⟨by simp; omega, by omega⟩
 obtain ⟨fit, hft⟩ : ∃ q, (decide (who < 8)) = q := ⟨_, rfl⟩
 rw [hft] at HBAD HOK hfit
 have hmy := HMY.out fit
 obtain ⟨hlM, h1M⟩ := HM17.out fit
 generalize (mayE st a fit 3).cells = MC at hmy HOK hlM h1M
 generalize forbN st a fit 3 = FN at hmy HBAD HOK
 generalize (tellT st a who).1.cells = TC at HBAD HOK h1T ⊢
 generalize (tellT st a who).2 = TN at HBAD HOK ⊢
 have HMC := Veil.mk hmy
 have uE := Tryz.underlying44
 have iZ : (Tryz.prog.info? 44).map (·.size) = some zC.length := by show _ = some 17; kernel_rfl
 have iM : (Tryz.prog.info? 44).map (·.size) = some MC.length := by rw [hlM]; kernel_rfl
 have h1Z := zC_one
 have HZN : Veil (∀ W : World, CellsAt (W.alloc (.cells zC.toArray 44)) W.heap.size 44 zC ∧ Below W.heap.size W ((W.alloc (.cells zC.toArray 44)).setRow W.heap.size MC.toArray)) := ⟨fun W => ⟨CellsAt.new W 44 zC, below_setRow ((Below.refl _ _).alloc (Nat.le_refl _) _) (Nat.le_refl _) _⟩⟩
 obtain ⟨Z, hZ0⟩ : ∃ Z, Z = zC := ⟨_, rfl⟩
 rw [← hZ0] at iZ h1Z HBAD
 have hZ := hZ0
 unfold zC at hZ HZN hB0 hz0 hD0
 have HZ17 : Veil (Z.length = 17) := ⟨by rw [hZ0]; rfl⟩
 generalize p.D = D at HMC ⊢
 clear hD hG hR hft HMY HM17 hmy
 rcases hfit with ⟨rfl, h1⟩ | ⟨rfl, h1⟩
 all_goals
  first | (have g1 : decide (who ≤ 7) = true := by simp; omega) | (have g1 : decide (who ≤ 7) = false := by simp; omega)
  go_enter Tryz.func66, Tryz.ntmps66
  go_upto_region 1 with fail
  refine forget (p := fun y => Code.wp _ _ _ _ y) (fun W => Below w.heap.size w W ∧ CellsAt W w.heap.size 44 Z ∧ RDocAt W base st p) ⟨hB0, by rw [hZ]; exact hz0, hD0⟩ ?_
  clear hB0 hz0 hD0
  rintro W ⟨hB, hz, hD⟩
  have hcl := HMC.out W hD
  go_upto_region 2 with (first
   | (go_at_call 87; refine hcl.mono ?_; rintro z W1 ⟨rfl, hb1⟩; have hz1 := (HZN.out W1).1; clear hcl)
   | (refine wpList_stv (cs := MC) rfl 44 _ _ rfl W1.heap.size rfl rfl hz1 iM (by rw [hlM]; rfl) h1M ?_))
  have hb2 := (HZN.out W1).2
  have hx2 := hz1.setRow MC
  have hb12 := hb1.trans (hb2.mono hb1.size)
  have HBL : Veil (w.heap.size < W1.heap.size) := ⟨by have := hz.lt; have := hb1.size; omega⟩
  refine forget (p := fun y => Code.wp _ _ _ _ y) (fun W2 => Below w.heap.size w W2 ∧ CellsAt W2 w.heap.size 44 Z ∧ CellsAt W2 W1.heap.size 44 MC) ⟨hB.trans (hb12.mono hB.size), hz.farM hb12, hx2⟩ ?_
  generalize W1.heap.size = b1 at HBL
  clear hb1 hb2 hb12 hz1 hx2 hB hz hD HMC HZN W W1
  rintro W ⟨hB, hz, hx⟩
  by_cases h0 : FN = 0
  rotate_left
  · have h0b : (FN == 0) = false := by simpa using h0
    obtain ⟨q1, q2⟩ := HBAD.out h0
    have HQ := Veil.mk (And.intro q1 q2)
    have hzz : Z = [.int .u8 0, .int .u32 0, .int .u32 0, .int .u32 0, .int .u32 0, .int .u32 0, .int .u32 0, .int .u32 0, .int .u32 0, .int .u32 0, .int .u8 0, .int .u8 0, .int .u32 0, .bool false, .int .u8 0, .int .u8 0, .int .u8 0] := hZ
    clear q1 q2 hx
    go_wp2_with (refine wpList_stv (cs := [.int .u8 0, .int .u32 0, .int .u32 0, .int .u32 0, .int .u32 0, .int .u32 0, .int .u32 0, .int .u32 0, .int .u32 0, .int .u32 0, .int .u8 0, .int .u8 0, .int .u32 0, .bool false, .int .u8 0, .int .u8 0, .int .u8 0]) rfl 44 _ _ rfl w.heap.size rfl rfl hz (by rw [← hzz]; exact iZ) (by rw [hzz]) (by rw [← hzz]; exact h1Z) ?_)
    refine bodyPost_ret (results_ct (Tryz.results66) _ rfl rfl (hz.setRow _) uE rfl (by rw [← hzz]; exact iZ)) rfl ⟨?_, below_setRow hB (Nat.le_refl _) _⟩
    rw [HQ.out.1, HQ.out.2, hzz]; rfl
  obtain ⟨q1, q2⟩ := HOK.out h0
  subst h0 q1
  have HQ := Veil.mk q2
  have hlT : TC.length = 17 := by rw [← q2]; simp [hlM]
  have iT : (Tryz.prog.info? 44).map (·.size) = some TC.length := by rw [hlT]; kernel_rfl
  have hzT : Z.length = TC.length := by rw [HZ17.out, hlT]
  have HZT := Veil.mk hzT
  have hb1l : w.heap.size ≤ b1 := Nat.le_of_lt HBL.out
  have hb1n : w.heap.size ≠ b1 := Nat.ne_of_lt HBL.out
  clear q2 hzT hlT
  have c0 := hx.cell 10
  have f0 := hx.frozen 10
  rw [List.getElem?_eq_getElem (by simp [hlM])] at c0
  have d0 := hx.cell 10
  have e0 := hx.frozen 10
  rw [List.getElem?_eq_getElem (by rw [hlM]; decide)] at d0
  have hx0 := hx.set 10 (.int .u8 4)
  have c1 := hx0.cell 15
  have f1 := hx0.frozen 15
  rw [List.getElem?_eq_getElem (by simp [hlM])] at c1
  have d1 := hx.cell 15
  have e1 := hx.frozen 15
  rw [List.getElem?_eq_getElem (by rw [hlM]; decide)] at d1
  have hx1 := hx0.set 15 (.int .u8 who)
  have HX3 := Veil.mk hx1
  have HZ3 : Veil (CellsAt ((W.setCell ⟨b1, 10, none⟩ (.int .u8 4)).setCell ⟨b1, 15, none⟩ (.int .u8 who)) w.heap.size 44 Z) := ⟨((hz.setOther17 hb1n _).setOther17 hb1n _)⟩
  have HB3 : Veil (Below w.heap.size w ((W.setCell ⟨b1, 10, none⟩ (.int .u8 4)).setCell ⟨b1, 15, none⟩ (.int .u8 who))) := ⟨((hB.setCell hb1l _).setCell hb1l _)⟩
  clear hx0 hx1 hx
  go_upto_region 5 with fail
  refine forget (p := fun y => Code.wp _ _ _ _ y) (fun W2 => Below w.heap.size w W2 ∧ CellsAt W2 w.heap.size 44 Z ∧ CellsAt W2 b1 44 TC) ⟨HB3.out, HZ3.out, by rw [← HQ.out]; exact HX3.out⟩ ?_
  clear c0 f0 d0 e0 c1 f1 d1 e1 HX3 HZ3 HB3 hz hB W
  rintro W ⟨hB, hz, hx⟩
  have hr := hx.wholeM
  go_wp2_with (first
   | (refine wpList_ldv rfl 44 _ rfl b1 0 rfl TC hr uE rfl iT ?_)
   | (refine wpList_stv (cs := TC) rfl 44 _ _ rfl w.heap.size rfl rfl hz iT HZT.out h1T ?_))
  exact bodyPost_ret (results_ct (Tryz.results66) _ rfl rfl (hz.setRow _) uE rfl iT) rfl ⟨rfl, below_setRow hB (Nat.le_refl _) _⟩
end Go.Proofs.YtmbdohnmbkpfaaaGreat
