/- DocTellsW -/
import Derived.Test.YtmbdohnmbkpfaaaGreatV46
import Derived.Test.YtmbdohnmbkpfaaaGreatV44
import Derived.Test.YtmbdohnmbkpfaaaGreatV47
import Derived.Test.YtmbdohnmbkpfaaaGreatV51
import Derived.Test.YtmbdohnmbkpfaaaGreatV48
namespace Go.Proofs.YtmbdohnmbkpfaaaGreat
open Go.RowKit Go.Shelf
set_option maxRecDepth 20000
set_option linter.unusedSimpArgs false
structure TeI (w : World) (B : Nat) (s1 s2 : Ds) (D O : Nat) (K : List (Nat × List Value)) (W : World) : Prop where
 two : TwoD B W s1 s2 D O K
 g1 : GoodD s1
 g2 : GoodD s2
 below : Below w.heap.size w W
 size : B ≤ W.heap.size
section
variable {w : World} {B : Nat} {s1 s2 : Ds} {D O : Nat} {K : List (Nat × List Value)} {W W' : World}
theorem TeI.far (h : TeI w B s1 s2 D O K W) (hb : Below W.heap.size W W') : TeI w B s1 s2 D O K W' := ⟨h.two.far hb, h.g1, h.g2, h.below.trans (hb.mono h.below.size), Nat.le_trans h.size hb.size⟩
theorem TeI.apply1 (hw : w.heap.size < B) (h : TeI w B s1 s2 D O K W) {e : Ev} (he : e.Ok) (hr : refD s1 e = 0) :
    Calls Tryz.prog 18 #[.pointer (some ⟨D, 0, none⟩), .agg e.cells.toArray] W fun r w' => r = .returned (.int .i64 0) ∧ TeI w B (apS s1 e) s2 D O K w' := by
 refine (h.two.apply h.g1 he hr h.size).mono ?_
 rintro r w' ⟨h1, h2, h3⟩
 exact ⟨h1, h2, h.g1.ap he hr, h.g2, h.below.trans (h3.mono (Nat.le_of_lt hw)), Nat.le_trans h.size h3.size⟩
theorem TeI.apply2 (hw : w.heap.size < B) (h : TeI w B s1 s2 D O K W) {e : Ev} (he : e.Ok) (hr : refD s2 e = 0) :
    Calls Tryz.prog 18 #[.pointer (some ⟨O, 0, none⟩), .agg e.cells.toArray] W fun r w' => r = .returned (.int .i64 0) ∧ TeI w B s1 (apS s2 e) D O K w' := by
 refine (h.two.swap.apply h.g2 he hr h.size).mono ?_
 rintro r w' ⟨h1, h2, h3⟩
 exact ⟨h1, h2.swap, h.g1, h.g2.ap he hr, h.below.trans (h3.mono (Nat.le_of_lt hw)), Nat.le_trans h.size h3.size⟩
theorem TeI.force1 (h : TeI w B s1 s2 D O K W) {x : Int × Int} (hx : okDF x) (hm : x ∈ s1.F) : Calls Tryz.prog 19 #[.pointer (some ⟨D, 0, none⟩), .agg (encF x).toArray] W fun r w' => r = .returned (.bool true) ∧ Below W.heap.size W w' := by
 have := h.two.fst.force h.g1 x hx
 rw [decide_eq_true hm] at this
 exact this
theorem TeI.force2 (h : TeI w B s1 s2 D O K W) {x : Int × Int} (hx : okDF x) (hm : x ∈ s2.F) : Calls Tryz.prog 19 #[.pointer (some ⟨O, 0, none⟩), .agg (encF x).toArray] W fun r w' => r = .returned (.bool true) ∧ Below W.heap.size W w' := by
 have := h.two.swap.fst.force h.g2 x hx
 rw [decide_eq_true hm] at this
 exact this
theorem RoI.forked {Ec : List Value} {st : Ds} {Q : Nat} (h : RoI w B Ec st D Q st K W) : Calls Tryz.prog 29 #[.pointer (some ⟨D, 0, none⟩)] W fun r w' => ∃ O, r = .returned (.pointer (some ⟨O, 0, none⟩)) ∧ TeI w B st st D O K w' := by
 obtain ⟨p, q, rfl, _, hB⟩ := h.both
 refine (dfork_any B st p W hB.d hB.g1).mono ?_
 rintro r w' ⟨p', rfl, hD', hb, hk⟩
 refine ⟨p'.D, rfl, ⟨p, p', rfl, rfl, ⟨hB.d.far hb, hD'.lessD h.size, hB.a1, fun k q => Nat.le_trans h.size (hk k q), fun k q r => ?_, fun x hx => ⟨(hB.kept x hx).1.farM hb, (hB.kept x hx).2.1, fun q => ?_⟩⟩⟩, hB.g1, hB.g1, h.below.trans (hb.mono h.below.size), Nat.le_trans h.size hb.size⟩
 · have := hB.d.blockLt k q
   have := hk k r
   omega
 · have := (hB.kept x hx).1.lt
   have := hk _ q
   omega
end
set_option maxHeartbeats 16000000 in
theorem dtells_walk (x : Option Addr) (len cap : Nat) (L : List Ed) (X : Ed) (hX : X.Ok) (w : World) (hL : EdsAt w x len cap L) :
    Calls Tryz.prog 7 #[.slice x len cap, .agg X.cells.toArray] w fun r w' => r = .returned (.bool true) ∧ Below w.heap.size w w' := by
 have hB0 : Below w.heap.size w (w.alloc (.cells X.cells.toArray 56)) := (Below.refl _ _).alloc (Nat.le_refl _) _
 have hx0 := CellsAt.new w 56 X.cells
 have hpl := play10_any x len cap L (w.alloc (.cells X.cells.toArray 56)) (hL.below hB0)
 obtain ⟨K0, G0, hre⟩ := reach_play (L.take 50) (fun X hX => hL.ok X (List.mem_of_mem_take hX))
 obtain ⟨st, hst⟩ : ∃ q, playX (L.take 50) = q := ⟨_, rfl⟩
 rw [hst] at hre
 obtain ⟨B, hBB⟩ : ∃ q, (w.alloc (.cells X.cells.toArray 56)).heap.size = q := ⟨_, rfl⟩
 have hwB : w.heap.size < B := by rw [← hBB, World.size_alloc]; omega
 obtain ⟨E, hE⟩ : ∃ E, X.cells = E := ⟨_, rfl⟩
 have HPL : Veil (∀ v0 W, PlayX (w.alloc (.cells X.cells.toArray 56)) L v0 W → ∃ D Q, v0 = .tuple #[.pointer (some ⟨D, 0, none⟩), .pointer (some ⟨Q, 0, none⟩), .bool true] ∧ RoI w B E st D Q st [] W) := ⟨fun v0 W ⟨D, Q, h1, h2, h3⟩ => by
  rw [hBB, hst] at h2
  exact ⟨D, Q, h1, h2, hB0.trans (h3.mono hB0.size), by rw [← hE]; exact hx0.congr (h3.block _ (by rw [World.size_alloc]; omega)), by rw [← hBB]; exact h3.size⟩⟩
 have HLV : Veil (∀ W, Calls Tryz.prog 12 #[] W fun e w' => e = .returned (.bool true) ∧ Below W.heap.size W w') := ⟨fun W => live10_any W⟩
 have HXC : Veil (∀ W, CellsAt W w.heap.size 56 E → W.cell? ⟨w.heap.size, 1, none⟩ = some (.int .u8 X.au) ∧ W.cell? ⟨w.heap.size, 2, none⟩ = some (.int .u8 X.who) ∧ W.cell? ⟨w.heap.size, 5, none⟩ = some (.int .u8 X.role)) := ⟨fun W hx => by
  rw [← hE] at hx
  exact ⟨(hx.cell 1).trans rfl, (hx.cell 2).trans rfl, (hx.cell 5).trans rfl⟩⟩
 have ha0 := hX.au.1
 have hw0 := hX.who.1
 obtain ⟨e1, F1, hg1, hp1, hc1⟩ := tells_g hre (au := X.au) (who := X.who) (role := X.role) ha0 hw0
 obtain ⟨e2, F2, hg2, hp2, hc2⟩ := tells_t hre (au := X.au) (who := X.who) ha0 hw0
 have HGI : Veil (∀ W D Q K, RoI w B E st D Q st K W → Calls Tryz.prog 27 #[.pointer (some ⟨D, 0, none⟩), .int .u8 X.au, .int .u8 X.who, .int .u8 X.role] W fun r w' => r = .returned (.tuple #[.agg e1.cells.toArray, .int .i64 F1]) ∧ Below W.heap.size W w') := ⟨fun W D Q K h => by
  obtain ⟨p, q, rfl, rfl, hq⟩ := h.both
  have := dGive_any B st p X.au X.who X.role W hq.d hq.g1 ha0
  rw [hg1] at this; exact this⟩
 have HTA : Veil (∀ W D Q K, RoI w B E st D Q st K W → Calls Tryz.prog 28 #[.pointer (some ⟨D, 0, none⟩), .int .u8 X.au, .int .u8 X.who] W fun r w' => r = .returned (.tuple #[.agg e2.cells.toArray, .int .i64 F2]) ∧ Below W.heap.size W w') := ⟨fun W D Q K h => by
  obtain ⟨p, q, rfl, rfl, hq⟩ := h.both
  have := dTake_any B st p X.au X.who W hq.d hq.g1 ha0
  rw [hg2] at this; exact this⟩
 have HSM : Veil (∀ W D Q K, RoI w B E st D Q st K W → Calls Tryz.prog 13 #[.pointer (some ⟨D, 0, none⟩), .pointer (some ⟨Q, 0, none⟩)] W fun e w' => e = .returned (.bool true) ∧ Below W.heap.size W w') := ⟨fun W D Q K h => same10_any B st D Q K W h.both⟩
 have HFK : Veil (∀ W D Q K, RoI w B E st D Q st K W → Calls Tryz.prog 29 #[.pointer (some ⟨D, 0, none⟩)] W fun r w' => ∃ O, r = .returned (.pointer (some ⟨O, 0, none⟩)) ∧ TeI w B st st D O K w') := ⟨fun W D Q K h => h.forked⟩
 generalize X.au = au at HXC HGI HTA
 generalize X.who = who at HXC HGI HTA
 generalize X.role = role at HXC HGI
 have he1 := aev_len e1 hp1
 have h1E := aev_one e1
 have he2 := aev_len e2 hp2
 have h2E := aev_one e2
 have iE1 : (Tryz.prog.info? 44).map (·.size) = some e1.cells.length := by rw [he1]; kernel_rfl
 have iE2 : (Tryz.prog.info? 44).map (·.size) = some e2.cells.length := by rw [he2]; kernel_rfl
 have uE := Tryz.underlying44
 have uD := Tryz.underlying40
 have hZ1 : zC.length = e1.cells.length := by rw [he1]; rfl
 have hZ2 : zC.length = e2.cells.length := by rw [he2]; rfl
 have HA1 : Veil (TellsB st e1 → ∀ D O K W, TeI w B st st D O K W → Calls Tryz.prog 18 #[.pointer (some ⟨D, 0, none⟩), .agg e1.cells.toArray] W fun r w' => r = .returned (.int .i64 0) ∧ TeI w B (apS st e1) st D O K w') := ⟨fun hb D O K W h => h.apply1 hwB hb.ok hb.ref⟩
 have HA2 : Veil (TellsB st e2 → ∀ s D O K W, TeI w B s st D O K W → Calls Tryz.prog 18 #[.pointer (some ⟨O, 0, none⟩), .agg e2.cells.toArray] W fun r w' => r = .returned (.int .i64 0) ∧ TeI w B s (apS st e2) D O K w') := ⟨fun hb s D O K W h => h.apply2 hwB hb.ok hb.ref⟩
 have HF1 : Veil (TellsB st e1 → ∀ D O K W, TeI w B (apS st e1) st D O K W → Calls Tryz.prog 19 #[.pointer (some ⟨D, 0, none⟩), .agg (encF e1.dot).toArray] W fun r w' => r = .returned (.bool true) ∧ Below W.heap.size W w') := ⟨fun hb D O K W h => h.force1 hb.ok.dot hb.force⟩
 have HF2 : Veil (TellsB st e2 → ∀ s D O K W, TeI w B s (apS st e2) D O K W → Calls Tryz.prog 19 #[.pointer (some ⟨O, 0, none⟩), .agg (encF e2.dot).toArray] W fun r w' => r = .returned (.bool true) ∧ Below W.heap.size W w') := ⟨fun hb s D O K W h => h.force2 hb.ok.dot hb.force⟩
 have HD1 : Veil ((e1.cells.drop 0).take 2 = encF e1.dot) := ⟨ev_dot e1 hp1⟩
 have HD2 : Veil ((e2.cells.drop 0).take 2 = encF e2.dot) := ⟨ev_dot e2 hp2⟩
 have iD1 : (Tryz.prog.info? 40).map (·.size) = some (encF e1.dot).length := sizeDot
 have iD2 : (Tryz.prog.info? 40).map (·.size) = some (encF e2.dot).length := sizeDot
 have HC1 := Veil.mk hc1
 have HC2 := Veil.mk hc2
 generalize apS st e1 = s1 at HA1 HF1
 generalize apS st e2 = s2 at HA2 HF2
 generalize encF e1.dot = DT1 at HF1 HD1 iD1
 generalize encF e2.dot = DT2 at HF2 HD2 iD2
 generalize e1.cells = E1 at HGI h1E iE1 hZ1 HA1 HD1
 generalize e2.cells = E2 at HTA h2E iE2 hZ2 HA2 HD2
 clear hE hX hL hB0 hx0 hBB hst hre hc1 hc2 he1 he2 hp1 hp2 hg1 hg2 ha0 hw0
 go_enter Tryz.func7, Tryz.ntmps7
 go_upto_region 4 with (first
  | (go_at_call 11; refine hpl.mono ?_; rintro z W1 ⟨v0, rfl, hpr⟩; obtain ⟨D, Q, rfl, h1⟩ := HPL.out v0 W1 hpr; have hlv := HLV.out W1; clear hpl hpr)
  | (go_at_call 12; refine hlv.mono ?_; rintro z W2 ⟨rfl, hb2⟩; have h2 := h1.far hb2; clear hlv h1 hb2))
 obtain ⟨c1, c2, c5⟩ := HXC.out W2 h2.edit
 have hgi := HGI.out W2 D Q _ h2
 have H2 := Veil.mk h2
 clear h2 HPL HLV
 go_upto_region 5 with (first
  | (go_at_call 27; refine hgi.mono ?_; rintro z W3 ⟨rfl, hb3⟩; have hz3 := CellsAt.new W3 44 zC; unfold zC at hz3; clear hgi)
  | (refine wpList_stv (cs := E1) rfl 44 _ _ rfl W3.heap.size rfl rfl hz3 iE1 hZ1 h1E ?_))
 have h4 := (H2.out.far hb3).store E1
 unfold zC at h4
 refine forget (p := fun y => Code.wp _ _ _ _ y) (fun W => RoI w B E st D Q st [(W3.heap.size, E1)] W) h4 ?_
 generalize W3.heap.size = b1
 clear h4 hz3 hb3 c1 c2 c5 H2 W1 W2 W3
 rintro W4 h4
 obtain ⟨c1, c2, -⟩ := HXC.out W4 h4.edit
 have hta := HTA.out W4 D Q _ h4
 have H4 := Veil.mk h4
 clear h4
 go_upto_region 6 with (first
  | (go_at_call 28; refine hta.mono ?_; rintro z W5 ⟨rfl, hb5⟩; have hz5 := CellsAt.new W5 44 zC; unfold zC at hz5; clear hta)
  | (refine wpList_stv (cs := E2) rfl 44 _ _ rfl W5.heap.size rfl rfl hz5 iE2 hZ2 h2E ?_))
 have h6 := (H4.out.far hb5).store E2
 unfold zC at h6
 refine forget (p := fun y => Code.wp _ _ _ _ y) (fun W => RoI w B E st D Q st [(W5.heap.size, E2), (b1, E1)] W) h6 ?_
 generalize W5.heap.size = b2
 clear h6 hz5 hb5 c1 c2 H4 HXC HGI HTA W4 W5
 rintro W6 h6
 have hsm := HSM.out W6 D Q _ h6
 go_upto_region 8 with (go_at_call 13; refine hsm.mono ?_; rintro z W7 ⟨rfl, hb7⟩; clear hsm)
 have h7 := h6.far hb7
 have hfk := HFK.out W7 D Q _ h7
 clear h6 hb7 HSM HFK W6
 go_upto_region 9 with (go_at_call 29; refine hfk.mono ?_; rintro z W8 ⟨O, rfl, h8⟩; clear hfk)
 clear h7 W7
 have HR1 : Veil (∀ s s' W, TeI w B s s' D O [(b2, E2), (b1, E1)] W → W.rangeAt b1 0 E1 ∧ W.rangeAt b1 0 DT1 ∧ W.rangeAt b2 0 E2 ∧ W.rangeAt b2 0 DT2) := ⟨fun s s' W h => by
  have k1 := h.two.cells (List.mem_cons_of_mem _ (List.mem_cons_self ..))
  have k2 := h.two.cells (List.mem_cons_self ..)
  refine ⟨k1.wholeM, ?_, k2.wholeM, ?_⟩
  · have := k1.range 0 2; rw [HD1.out] at this; exact this
  · have := k2.range 0 2; rw [HD2.out] at this; exact this⟩
 rcases HC1.out with hF | ⟨rfl, hTB⟩
 focus
  have hFb : (F1 == 0) = false := by simpa using hF
  clear HC1 HA1 HF1 iE1 iD1 hF
  go_upto_region 11 with fail
  obtain ⟨sA, h11⟩ : ∃ s, TeI w B s st D O [(b2, E2), (b1, E1)] W8 := ⟨st, h8⟩
  clear h8
  rename World => W11
 rotate_left
 focus
  have hap := HA1.out hTB D O _ W8 h8
  have hR8 := (HR1.out _ _ _ h8).1
  have HFO : Veil (∀ W, TeI w B s1 st D O [(b2, E2), (b1, E1)] W → W.rangeAt b1 0 DT1 ∧ Calls Tryz.prog 19 #[.pointer (some ⟨D, 0, none⟩), .agg DT1.toArray] W fun r w' => r = .returned (.bool true) ∧ Below W.heap.size W w') := ⟨fun W h => ⟨(HR1.out _ _ _ h).2.1, HF1.out hTB D O _ W h⟩⟩
  clear HC1 HA1 HF1 hTB h8
  go_upto_region 11 with (first
   | (refine wpList_ldgv (by kernel_rfl) 44 _ rfl b1 0 rfl E1 hR8 uE rfl iE1 ?_)
   | (go_at_call 18; refine hap.mono ?_; rintro z W9 ⟨rfl, h9⟩; obtain ⟨hR9, hfo⟩ := HFO.out _ h9; clear hap)
   | (refine wpList_ldgv (by kernel_rfl) 40 _ rfl b1 0 rfl DT1 hR9 uD rfl iD1 ?_)
   | (go_at_call 19; refine hfo.mono ?_; rintro z W10 ⟨rfl, hb10⟩; clear hfo))
  obtain ⟨sA, h11⟩ : ∃ s, TeI w B s st D O [(b2, E2), (b1, E1)] W10 := ⟨s1, h9.far hb10⟩
  clear h9 hb10 hR9 hR8 HFO iE1 iD1 W8 W9
  rename World => W11
 all_goals
  rcases HC2.out with hF2 | ⟨rfl, hTB2⟩
  · have hF2b : (F2 == 0) = false := by simpa using hF2
    have hF2c : (F2 != 0) = true := by simpa using hF2
    clear HC2 HA2 HF2 iE2 iD2 hF2
    go_wp2
    have HQ := Veil.mk h11.below
    go_ret
    exact ⟨rfl, HQ.out⟩
  · have hap := HA2.out hTB2 sA D O _ W11 h11
    have hR11 := (HR1.out _ _ _ h11).2.2.1
    have HFO : Veil (∀ W, TeI w B sA s2 D O [(b2, E2), (b1, E1)] W → W.rangeAt b2 0 DT2 ∧ Calls Tryz.prog 19 #[.pointer (some ⟨O, 0, none⟩), .agg DT2.toArray] W fun r w' => r = .returned (.bool true) ∧ Below W.heap.size W w') := ⟨fun W h => ⟨(HR1.out _ _ _ h).2.2.2, HF2.out hTB2 sA D O _ W h⟩⟩
    clear HC2 HA2 HF2 hTB2 h11
    go_wp2_with (first
     | (refine wpList_ldgv (by kernel_rfl) 44 _ rfl b2 0 rfl E2 hR11 uE rfl iE2 ?_)
     | (go_at_call 18; refine hap.mono ?_; rintro z W12 ⟨rfl, h12⟩; obtain ⟨hR12, hfo⟩ := HFO.out _ h12; clear hap)
     | (refine wpList_ldgv (by kernel_rfl) 40 _ rfl b2 0 rfl DT2 hR12 uD rfl iD2 ?_)
     | (go_at_call 19; refine hfo.mono ?_; rintro z W13 ⟨rfl, hb13⟩; clear hfo))
    have HQ := Veil.mk (h12.far hb13).below
    go_ret
    exact ⟨rfl, HQ.out⟩
end Go.Proofs.YtmbdohnmbkpfaaaGreat
