/- DocRolesW -/
import Derived.Test.YtmbdohnmbkpfaaaGreatV44
import Derived.Test.YtmbdohnmbkpfaaaGreatV49
import Derived.Test.YtmbdohnmbkpfaaaGreatV46
namespace Go.Proofs.YtmbdohnmbkpfaaaGreat
open Go.RowKit Go.Shelf
set_option maxRecDepth 20000
set_option linter.unusedSimpArgs false
theorem roles_give {st : Ds} {K : List Ent} {G : List Bool} (h : Reach st K G) {au who role : Int} (hau : 0 ≤ au) (hw0 : 0 ≤ who) (hne : au ≠ who) : ∃ e F, tellG st au who role = (e, F) ∧ e.past.length = 8 ∧ (F ≠ 0 ∨ (F = 0 ∧ RolesB st au who role e)) := by
 unfold tellG
 by_cases hf : forbN st au (decide (who < 8) && (decide (1 ≤ role) && decide (role ≤ 3))) 3 = 0
 · have hB := roles_b h hau hw0 hne hf
   exact ⟨_, _, by rw [if_neg (fun q => q hf)], hB.ok.past, .inr ⟨rfl, hB⟩⟩
 · exact ⟨_, _, by rw [if_pos hf], rfl, .inl hf⟩
theorem roles_take {st : Ds} {K : List Ent} {G : List Bool} (h : Reach st K G) {au who : Int} (hau : 0 ≤ au) (ha8 : au < 8) (hw0 : 0 ≤ who) (hw8 : who < 8) (h3 : 3 ≤ roleP st.B au st.S) : ∃ e F, tellT st au who = (e, F) ∧ e.past.length = 8 ∧ (F = 10 ∨ (F = 0 ∧ RolesC st who e)) := by
 unfold tellT
 rcases roles_c h hau ha8 hw0 hw8 h3 with q | ⟨q, r⟩
 · exact ⟨_, _, by rw [q, if_pos (by decide)], rfl, .inl rfl⟩
 · exact ⟨_, _, by rw [if_neg (fun s => s q)], r.ok.past, .inr ⟨rfl, r⟩⟩
theorem roles_write {st : Ds} {who : Int} (hw8 : who < 8) (h0 : roleP st.B who st.S = 0) : ∃ e F, tellW st who 0 122 = (e, F) ∧ e.past.length = 8 ∧ (F = 8 ∨ F = 10) := by
 unfold tellW
 rw [show (decide ((1 : Int) ≤ 122) && decide ((122 : Int) ≤ 127)) = true from by decide]
 rcases roles_d (least := 2) hw8 (by decide) h0 with q | q
 · exact ⟨_, _, by rw [q, if_pos (by decide)], rfl, .inr rfl⟩
 · exact ⟨_, _, by rw [q, if_pos (by decide)], rfl, .inl rfl⟩
theorem roles_grant {st : Ds} {au who : Int} (ha8 : au < 8) (hw8 : who < 8) (h0 : roleP st.B who st.S = 0) : ∃ e F, tellG st who au 1 = (e, F) ∧ e.past.length = 8 ∧ (F = 8 ∨ F = 10) := by
 unfold tellG
 rw [show (decide (au < 8) && (decide ((1 : Int) ≤ 1) && decide ((1 : Int) ≤ 3))) = true from by simpa using ha8]
 rcases roles_d (least := 3) hw8 (by decide) h0 with q | q
 · exact ⟨_, _, by rw [q, if_pos (by decide)], rfl, .inr rfl⟩
 · exact ⟨_, _, by rw [q, if_pos (by decide)], rfl, .inl rfl⟩
set_option maxHeartbeats 16000000 in
theorem droles_walk (x : Option Addr) (len cap : Nat) (L : List Ed) (X : Ed) (hX : X.Ok) (w : World) (hL : EdsAt w x len cap L) :
    Calls Tryz.prog 8 #[.slice x len cap, .agg X.cells.toArray] w fun r w' => r = .returned (.bool true) ∧ Below w.heap.size w w' := by
 have hB0 : Below w.heap.size w (w.alloc (.cells X.cells.toArray 56)) := (Below.refl _ _).alloc (Nat.le_refl _) _
 have hx0 := CellsAt.new w 56 X.cells
 have hpl := play10_any x len cap L (w.alloc (.cells X.cells.toArray 56)) (hL.below hB0)
 obtain ⟨K0, G0, hre⟩ := reach_play (L.take 50) (fun X hX => hL.ok X (List.mem_of_mem_take hX))
 obtain ⟨st, hst⟩ : ∃ q, playX (L.take 50) = q := ⟨_, rfl⟩
 rw [hst] at hre
 obtain ⟨B, hBB⟩ : ∃ q, (w.alloc (.cells X.cells.toArray 56)).heap.size = q := ⟨_, rfl⟩
 have hwB : w.heap.size < B := by rw [← hBB, World.size_alloc]; omega
 have HPL : Veil (∀ v0 W, PlayX (w.alloc (.cells X.cells.toArray 56)) L v0 W → ∃ D Q, v0 = .tuple #[.pointer (some ⟨D, 0, none⟩), .pointer (some ⟨Q, 0, none⟩), .bool true] ∧ BothD B W st st D Q [] ∧ Below w.heap.size w W ∧ CellsAt W w.heap.size 56 X.cells ∧ B ≤ W.heap.size) := ⟨fun v0 W ⟨D, Q, h1, h2, h3⟩ => by
  rw [hBB, hst] at h2
  exact ⟨D, Q, h1, h2, hB0.trans (h3.mono hB0.size), hx0.congr (h3.block _ (by rw [World.size_alloc]; omega)), by rw [← hBB]; exact h3.size⟩⟩
 have HLV : Veil (∀ W, Calls Tryz.prog 12 #[] W fun e w' => e = .returned (.bool true) ∧ Below W.heap.size W w') := ⟨fun W => live10_any W⟩
 have HXC : Veil (∀ W, CellsAt W w.heap.size 56 X.cells → W.cell? ⟨w.heap.size, 1, none⟩ = some (.int .u8 X.au) ∧ W.cell? ⟨w.heap.size, 2, none⟩ = some (.int .u8 X.who) ∧ W.cell? ⟨w.heap.size, 5, none⟩ = some (.int .u8 X.role)) := ⟨fun W hx => ⟨(hx.cell 1).trans rfl, (hx.cell 2).trans rfl, (hx.cell 5).trans rfl⟩⟩
 have HGI : Veil (∀ s2 a who role, 0 ≤ a → ∀ W D Q K, BothD B W s2 st D Q K → Calls Tryz.prog 27 #[.pointer (some ⟨D, 0, none⟩), .int .u8 a, .int .u8 who, .int .u8 role] W fun r w' => r = .returned (.tuple #[.agg (tellG s2 a who role).1.cells.toArray, .int .i64 (tellG s2 a who role).2]) ∧ Below W.heap.size W w') := ⟨fun s2 a who role ha W D Q K h => by
  obtain ⟨p, q, rfl, rfl, h⟩ := h
  exact dGive_any B s2 p a who role W h.d h.g1 ha⟩
 have HTA : Veil (∀ s2 a who, 0 ≤ a → ∀ W D Q K, BothD B W s2 st D Q K → Calls Tryz.prog 28 #[.pointer (some ⟨D, 0, none⟩), .int .u8 a, .int .u8 who] W fun r w' => r = .returned (.tuple #[.agg (tellT s2 a who).1.cells.toArray, .int .i64 (tellT s2 a who).2]) ∧ Below W.heap.size W w') := ⟨fun s2 a who ha W D Q K h => by
  obtain ⟨p, q, rfl, rfl, h⟩ := h
  exact dTake_any B s2 p a who W h.d h.g1 ha⟩
 have HWR : Veil (∀ s2 a, 0 ≤ a → ∀ W D Q K, BothD B W s2 st D Q K → Calls Tryz.prog 25 #[.pointer (some ⟨D, 0, none⟩), .int .u8 a, .int .i64 0, .int .u8 122] W fun r w' => r = .returned (.tuple #[.agg (tellW s2 a 0 122).1.cells.toArray, .int .i64 (tellW s2 a 0 122).2]) ∧ Below W.heap.size W w') := ⟨fun s2 a ha W D Q K h => by
  obtain ⟨p, q, rfl, rfl, h⟩ := h
  exact dWrite_any B s2 p a 0 122 W h.d h.g1 ha (by decide)⟩
 have HME : Veil (∀ s2 W D Q K, BothD B W s2 st D Q K → Calls Tryz.prog 21 #[.pointer (some ⟨D, 0, none⟩)] W fun r w' => r = .returned (.agg (row .u8 (membersL s2.B s2.S))) ∧ Below W.heap.size W w') := ⟨fun s2 W D Q K h => by
  obtain ⟨p, q, rfl, rfl, h⟩ := h
  exact dMembers_any B s2 p W h.d h.g1⟩
 have HCG := Veil.mk (fun hn => roles_give hre (au := X.au) (who := X.who) (role := X.role) hX.au.1 hX.who.1 hn)
 have ha0 := hX.au.1
 have hw0 := hX.who.1
 generalize X.au = au at HXC HCG ha0
 generalize X.who = who at HXC HCG hw0
 generalize X.role = role at HXC HCG
 obtain ⟨E, hE⟩ : ∃ E, X.cells = E := ⟨_, rfl⟩
 rw [hE] at hB0 hx0 hpl HPL HXC ⊢
 clear hE hX hL hB0 hx0 hBB hst hre
 go_enter Tryz.func8, Tryz.ntmps8
 go_upto_region 2 with (first
  | (go_at_call 11; refine hpl.mono ?_; rintro z W1 ⟨v0, rfl, hpr⟩; obtain ⟨D, Q, rfl, hD1, hb1, hx1, hs1⟩ := HPL.out v0 W1 hpr; have hlv := HLV.out W1; clear hpl hpr))
 have HF1 : Veil (∀ W', Below W1.heap.size W1 W' → BothD B W' st st D Q [] ∧ Below w.heap.size w W' ∧ CellsAt W' w.heap.size 56 E ∧ B ≤ W'.heap.size) := ⟨fun W' hb => ⟨hD1.far hb, hb1.trans (hb.mono hb1.size), hx1.farM hb, Nat.le_trans hs1 hb.size⟩⟩
 have HR1 : Veil (RoI w B E st D Q st [] W1) := ⟨⟨hD1, hb1, hx1, hs1⟩⟩
 clear HPL hD1 hb1 hx1 hs1
 by_cases hq : au = who
 · subst hq
   clear HCG HGI HTA HWR HME HR1
   have HL2 : Veil (∀ W', Below W1.heap.size W1 W' → W'.cell? ⟨w.heap.size, 1, none⟩ = some (.int .u8 au) ∧ W'.cell? ⟨w.heap.size, 2, none⟩ = some (.int .u8 au) ∧ Calls Tryz.prog 12 #[] W' fun e w' => e = .returned (.bool true) ∧ Below W'.heap.size W' w') := ⟨fun W' hb => ⟨(HXC.out W' (HF1.out W' hb).2.2.1).1, (HXC.out W' (HF1.out W' hb).2.2.1).2.1, HLV.out W'⟩⟩
   have hau : (au == au) = true := by simp
   clear HXC HLV
   go_wp2_with (first
    | (go_at_call 12; refine hlv2.mono ?_; rintro z W3 ⟨rfl, hb3⟩; clear hlv2)
    | (go_at_call 12; refine hlv.mono ?_; rintro z W2 ⟨rfl, hb2⟩; obtain ⟨c1, c2, hlv2⟩ := HL2.out W2 hb2; clear hlv))
   have HQ := Veil.mk (HF1.out W3 (hb2.trans (hb3.mono hb2.size))).2.1
   go_ret
   exact ⟨rfl, HQ.out⟩
 · have hqb : (au == who) = false := by simpa using hq
   obtain ⟨e1, F1, hg1, hp1, hc1⟩ := HCG.out hq
   have HC1 : Veil (∀ W', Below W1.heap.size W1 W' → W'.cell? ⟨w.heap.size, 1, none⟩ = some (.int .u8 au) ∧ W'.cell? ⟨w.heap.size, 2, none⟩ = some (.int .u8 who) ∧ W'.cell? ⟨w.heap.size, 5, none⟩ = some (.int .u8 role)) := ⟨fun W' hb => HXC.out W' (HF1.out W' hb).2.2.1⟩
   have HG1 : Veil (∀ W', Below W1.heap.size W1 W' → Calls Tryz.prog 27 #[.pointer (some ⟨D, 0, none⟩), .int .u8 au, .int .u8 who, .int .u8 role] W' fun r w' => r = .returned (.tuple #[.agg e1.cells.toArray, .int .i64 F1]) ∧ Below W'.heap.size W' w') := ⟨fun W' hb => by
    have := HGI.out st au who role ha0 W' D Q [] (HF1.out W' hb).1
    rw [hg1] at this; exact this⟩
   have he1 := aev_len e1 hp1
   have h1E := aev_one e1
   have iE : (Tryz.prog.info? 44).map (·.size) = some e1.cells.length := by rw [he1]; kernel_rfl
   have uE := Tryz.underlying44
   have hZ17 : zC.length = e1.cells.length := by rw [he1]; rfl
   have HAP : Veil (RolesB st au who role e1 → ∀ K W, RoI w B E st D Q st K W → Calls Tryz.prog 18 #[.pointer (some ⟨D, 0, none⟩), .agg e1.cells.toArray] W fun r w' => r = .returned (.int .i64 0) ∧ RoI w B E st D Q (apS st e1) K w') := ⟨fun hb K W h => h.apply hwB hb.ok hb.ref⟩
   have HC1' := Veil.mk hc1
   generalize e1.cells = E1 at HG1 h1E iE hZ17 HAP
   clear HCG hg1 hc1 he1 hp1
   go_upto_region 5 with (first
    | (go_at_call 12; refine hlv.mono ?_; rintro z W2 ⟨rfl, hb2⟩; obtain ⟨c1, c2, c5⟩ := HC1.out W2 hb2; have hgi := HG1.out W2 hb2; clear hlv)
    | (go_at_call 27; refine hgi.mono ?_; rintro z W3 ⟨rfl, hb3⟩; have hz3 := CellsAt.new W3 44 zC; unfold zC at hz3; clear hgi)
    | (refine wpList_stv (cs := E1) rfl 44 _ _ rfl W3.heap.size rfl rfl hz3 iE hZ17 h1E ?_))
   have h4 := ((HR1.out.far hb2).far hb3).store E1
   unfold zC at h4
   refine forget (p := fun y => Code.wp _ _ _ _ y) (fun W => RoI w B E st D Q st [(W3.heap.size, E1)] W) h4 ?_
   generalize W3.heap.size = b1
   clear h4 hz3 hb2 hb3 c1 c2 c5 HC1 HG1 HF1 HR1
   rintro W4 h4
   have H4 := Veil.mk h4
   have r4 := (h4.both.cells (List.mem_cons_self ..)).wholeM
   rcases HC1'.out with hF | ⟨rfl, hRB⟩
   · have hF0 : (F1 == 0) = false := by simpa using hF
     have hF1 : (F1 != 0) = true := by simpa using hF
     clear HC1' HGI HTA HWR HME HAP
     go_wp2
     have HQ := Veil.mk h4.below
     go_ret
     exact ⟨rfl, HQ.out⟩
   · have hap := HAP.out hRB _ W4 h4
     clear h4 HAP HC1'
     go_upto_region 6 with (first
      | (refine wpList_ldgv (by kernel_rfl) 44 _ rfl b1 0 rfl E1 r4 uE rfl iE ?_)
      | (go_at_call 18; refine hap.mono ?_; rintro z W5 ⟨rfl, h5⟩; clear hap))
     have HIX : Veil (∀ wx, (Instr.index 49 (.agg (row .u8 (membersL (apS st e1).B (apS st e1).S))) (.int .u8 who)).run Tryz.prog wx = .ok (.int .u8 role) wx) := ⟨fun wx => by
      have := run_index_members (P := Tryz.prog) wx 49 42 .u8 (apS st e1) who Tryz.underlying49 Tryz.underlying42 (by kernel_rfl) hw0 hRB.who8
      rw [hRB.role] at this; exact this⟩
     obtain ⟨-, -, ⟨K1, G1, hre1⟩, -, hA1, ha8, hw8⟩ := hRB
     generalize apS st e1 = s1 at h5 HIX hre1 hA1
     have h5d := h5.far ((Below.refl _ _).drew : Below W5.heap.size W5 W5.drew)
     have hme := HME.out s1 _ D Q _ h5d.both
     have HG2' := roles_take hre1 ha0 ha8 hw0 hw8 hA1
     have hix := HIX.out
     generalize row .u8 (membersL s1.B s1.S) = M1 at hme hix
     clear r4 H4 W4 HIX hre1 hA1 h5
     have hrr : (role != role) = false := by simp
     refine wp_region_gateT (fun W : World => W.cell? ⟨w.heap.size, 2, none⟩ = some (.int .u8 who) ∧ W.cell? ⟨w.heap.size, 5, none⟩ = some (.int .u8 role)) (fun _ => True) 99 (by kernel_rfl) ?_
     have hT : (fun W : World => W.cell? ⟨w.heap.size, 2, none⟩ = some (.int .u8 who) ∧ W.cell? ⟨w.heap.size, 5, none⟩ = some (.int .u8 role)) W5.drew := (HXC.out _ h5d.edit).2
     have hS : (fun _ : World => True) W5.drew := trivial
     refine ghA 0 _ hT hS ?_
     simp only [Act.put, gA, gS, gZ, sI, sZ, sS]
     refine ghA 2 _ hT hS ?_
     simp only [Act.put, gA, gS, gZ, sI, sZ, sS]
     refine ghA 3 _ hT hS ?_
     simp only [Act.put, gA, gS, gZ, sI, sZ, sS]
     refine ghA 5 _ hT hS ?_
     simp only [Act.put, gA, gS, gZ, sI, sZ, sS]
     refine ghA 6 _ hT hS ?_
     simp only [Act.put, gA, gS, gZ, sI, sZ, sS]
     refine wpAnyT_one (i := 1) rfl (by kernel_rfl) (by kernel_rfl) (fun K hK => ?_)
     refine wpx_call _ _ (by kernel_rfl) (hme.mono ?_)
     rintro y W6 ⟨rfl, hb6⟩
     refine ⟨_, rfl, ?_⟩
     have h6 := h5d.far hb6
     replace hT : (fun W : World => W.cell? ⟨w.heap.size, 2, none⟩ = some (.int .u8 who) ∧ W.cell? ⟨w.heap.size, 5, none⟩ = some (.int .u8 role)) W6 := (HXC.out _ h6.edit).2
     replace hS : (fun _ : World => True) W6 := trivial
     clear hme hb6 h5d
     refine hK.out _ _ hT (fun _ => hS) ?_
     clear hK K
     try simp only [Act.put, gA, gS, gZ, sI, sZ, sS]
     refine ghA 4 _ hT hS ?_
     simp only [Act.put, gA, gS, gZ, sI, sZ, sS]
     refine ghA 7 _ hT hS ?_
     simp only [Act.put, gA, gS, gZ, sI, sZ, sS]
     refine wpAnyT_done (by kernel_rfl) ?_ _
     clear hT hS W5 hix
     obtain ⟨e2, F2, hg2, hp2, hc2⟩ := HG2'
     have hta : Calls Tryz.prog 28 #[.pointer (some ⟨D, 0, none⟩), .int .u8 au, .int .u8 who] W6 fun r w' => r = .returned (.tuple #[.agg e2.cells.toArray, .int .i64 F2]) ∧ Below W6.heap.size W6 w' := by
      have := HTA.out s1 au who ha0 W6 D Q _ h6.both
      rw [hg2] at this; exact this
     have he2 := aev_len e2 hp2
     have h2E := aev_one e2
     have iE2 : (Tryz.prog.info? 44).map (·.size) = some e2.cells.length := by rw [he2]; kernel_rfl
     have hZ27 : zC.length = e2.cells.length := by rw [he2]; rfl
     have HA2 : Veil (RolesC s1 who e2 → ∀ K W, RoI w B E st D Q s1 K W → Calls Tryz.prog 18 #[.pointer (some ⟨D, 0, none⟩), .agg e2.cells.toArray] W fun r w' => r = .returned (.int .i64 0) ∧ RoI w B E st D Q (apS s1 e2) K w') := ⟨fun hb K W h => h.apply hwB hb.ok hb.ref⟩
     have HC2 := Veil.mk hc2
     obtain ⟨c1, c2, -⟩ := HXC.out _ h6.edit
     have H6 := Veil.mk h6
     generalize e2.cells = E2 at hta h2E iE2 hZ27 HA2
     clear HTA h6 hg2 hc2 hp2 he2
     go_upto_region 10 with (first
      | (go_at_call 28; refine hta.mono ?_; rintro z W7 ⟨rfl, hb7⟩; have hz7 := CellsAt.new W7 44 zC; unfold zC at hz7; clear hta)
      | (refine wpList_stv (cs := E2) rfl 44 _ _ rfl W7.heap.size rfl rfl hz7 iE2 hZ27 h2E ?_))
     have h8 := (H6.out.far hb7).store E2
     unfold zC at h8
     refine forget (p := fun y => Code.wp _ _ _ _ y) (fun W => RoI w B E st D Q s1 [(W7.heap.size, E2), (b1, E1)] W) h8 ?_
     generalize W7.heap.size = b2
     clear h8 hz7 hb7 c1 c2 H6
     rintro W8 h8
     have r8 := (h8.both.cells (List.mem_cons_self ..)).wholeM
     rcases HC2.out with rfl | ⟨rfl, hRC⟩
     · clear HC2 HWR HME HA2 HGI
       go_wp2
       have HQ := Veil.mk h8.below
       go_ret
       exact ⟨rfl, HQ.out⟩
     · go_upto_region 12 with fail
       have HIX : Veil (∀ wx, (Instr.index 49 (.agg (row .u8 (membersL (apS s1 e2).B (apS s1 e2).S))) (.int .u8 who)).run Tryz.prog wx = .ok (.int .u8 0) wx) := ⟨fun wx => by
        have := run_index_members (P := Tryz.prog) wx 49 42 .u8 (apS s1 e2) who Tryz.underlying49 Tryz.underlying42 (by kernel_rfl) hw0 hw8
        rw [hRC.role] at this; exact this⟩
       have hR0 := hRC.role
       have h8d := h8.far ((Below.refl _ _).drew : Below W8.heap.size W8 W8.drew)
       have hap := HA2.out hRC _ _ h8d
       clear HA2 HC2 hRC h8 r8
       generalize apS s1 e2 = s2 at hap HIX hR0
       have HM2 : Veil (∀ W', RoI w B E st D Q s2 [(b2, E2), (b1, E1)] W' → Calls Tryz.prog 21 #[.pointer (some ⟨D, 0, none⟩)] W' fun r w' => r = .returned (.agg (row .u8 (membersL s2.B s2.S))) ∧ Below W'.heap.size W' w') := ⟨fun W' h => HME.out s2 W' D Q _ h.both⟩
       have HTT : Veil (∀ s W', RoI w B E st D Q s [(b2, E2), (b1, E1)] W' → W'.rangeAt b2 0 E2 ∧ W'.cell? ⟨w.heap.size, 2, none⟩ = some (.int .u8 who)) := ⟨fun s W' h => ⟨(h.both.cells (List.mem_cons_self ..)).wholeM, (HXC.out _ h.edit).2.1⟩⟩
       have hix := HIX.out
       generalize row .u8 (membersL s2.B s2.S) = M2 at HM2 hix
       clear HIX HME
       refine wp_region_gateT (fun W : World => W.rangeAt b2 0 E2 ∧ W.cell? ⟨w.heap.size, 2, none⟩ = some (.int .u8 who)) (fun _ => True) 99 (by kernel_rfl) ?_
       have hT : (fun W : World => W.rangeAt b2 0 E2 ∧ W.cell? ⟨w.heap.size, 2, none⟩ = some (.int .u8 who)) W8.drew := HTT.out _ _ h8d
       have hS : (fun _ : World => True) W8.drew := trivial
       refine ghA 0 _ hT hS ?_
       simp only [Act.put, gA, gS, gZ, sI, sZ, sS]
       refine gl 1 82 44 10 b2 0 E2 (by kernel_rfl) (by kernel_rfl) (by kernel_rfl) (fun _ _ _ h => h) hT hS (by kernel_rfl) (fun _ h => h.1) uE rfl iE2 ?_
       simp only [Act.put, gA, gS, gZ, sI, sZ, sS]
       refine wpAnyT_one (i := 2) rfl (by kernel_rfl) (by kernel_rfl) (fun K hK => ?_)
       refine wpx_call _ _ (by kernel_rfl) (hap.mono ?_)
       rintro y W9 ⟨rfl, h9⟩
       refine ⟨_, rfl, ?_⟩
       replace hT : (fun W : World => W.rangeAt b2 0 E2 ∧ W.cell? ⟨w.heap.size, 2, none⟩ = some (.int .u8 who)) W9 := HTT.out _ _ h9
       replace hS : (fun _ : World => True) W9 := trivial
       have hme := HM2.out _ h9
       clear hap h8d HM2
       refine hK.out _ _ hT (fun _ => hS) ?_
       clear hK K
       try simp only [Act.put, gA, gS, gZ, sI, sZ, sS]
       refine ghA 3 _ hT hS ?_
       simp only [Act.put, gA, gS, gZ, sI, sZ, sS]
       refine ghA 4 _ hT hS ?_
       simp only [Act.put, gA, gS, gZ, sI, sZ, sS]
       refine ghA 5 _ hT hS ?_
       simp only [Act.put, gA, gS, gZ, sI, sZ, sS]
       refine ghA 7 _ hT hS ?_
       simp only [Act.put, gA, gS, gZ, sI, sZ, sS]
       refine ghA 8 _ hT hS ?_
       simp only [Act.put, gA, gS, gZ, sI, sZ, sS]
       refine wpAnyT_one (i := 6) rfl (by kernel_rfl) (by kernel_rfl) (fun K hK => ?_)
       refine wpx_call _ _ (by kernel_rfl) (hme.mono ?_)
       rintro y W10 ⟨rfl, hb10⟩
       refine ⟨_, rfl, ?_⟩
       have h10 := h9.far hb10
       replace hT : (fun W : World => W.rangeAt b2 0 E2 ∧ W.cell? ⟨w.heap.size, 2, none⟩ = some (.int .u8 who)) W10 := HTT.out _ _ h10
       replace hS : (fun _ : World => True) W10 := trivial
       clear hme hb10 h9
       refine hK.out _ _ hT (fun _ => hS) ?_
       clear hK K
       try simp only [Act.put, gA, gS, gZ, sI, sZ, sS]
       refine ghA 9 _ hT hS ?_
       simp only [Act.put, gA, gS, gZ, sI, sZ, sS]
       refine ghA 10 _ hT hS ?_
       simp only [Act.put, gA, gS, gZ, sI, sZ, sS]
       refine ghA 11 _ hT hS ?_
       simp only [Act.put, gA, gS, gZ, sI, sZ, sS]
       refine wpAnyT_done (by kernel_rfl) ?_ _
       obtain ⟨e3, F3, hg3, hp3, hF3⟩ := roles_write hw8 hR0
       obtain ⟨e4, F4, hg4, hp4, hF4⟩ := roles_grant ha8 hw8 hR0
       have hwr := HWR.out s2 who hw0 W10 D Q _ h10.both
       have HG4 : Veil (∀ W', Below W10.heap.size W10 W' → W'.cell? ⟨w.heap.size, 1, none⟩ = some (.int .u8 au) ∧ W'.cell? ⟨w.heap.size, 2, none⟩ = some (.int .u8 who) ∧ Below w.heap.size w W' ∧ Calls Tryz.prog 27 #[.pointer (some ⟨D, 0, none⟩), .int .u8 who, .int .u8 au, .int .u8 1] W' fun r w' => r = .returned (.tuple #[.agg e4.cells.toArray, .int .i64 F4]) ∧ Below W'.heap.size W' w') := ⟨fun W' hb => by
        have h := h10.far hb
        have hg := HGI.out s2 who au 1 hw0 W' D Q _ h.both
        rw [hg4] at hg
        exact ⟨(HXC.out _ h.edit).1, (HXC.out _ h.edit).2.1, h.below, hg⟩⟩
       rw [hg3] at hwr
       obtain ⟨-, c2, -⟩ := HXC.out _ h10.edit
       have he3 := aev_len e3 hp3
       have he4 := aev_len e4 hp4
       have h3E := aev_one e3
       have h4E := aev_one e4
       have iE3 : (Tryz.prog.info? 44).map (·.size) = some e3.cells.length := by rw [he3]; kernel_rfl
       have iE4 : (Tryz.prog.info? 44).map (·.size) = some e4.cells.length := by rw [he4]; kernel_rfl
       have hZ3 : zC.length = e3.cells.length := by rw [he3]; rfl
       have hZ4 : zC.length = e4.cells.length := by rw [he4]; rfl
       have hb10 := h10.below
       clear hT hS W8 W9 hix HTT HWR HGI HXC h10 hg3 hg4 hp3 hp4 he3 he4 hR0
       generalize e3.cells = E3 at hwr h3E iE3 hZ3
       generalize e4.cells = E4 at HG4 h4E iE4 hZ4
       go_upto_region 15 with (first
        | (go_at_call 25; refine hwr.mono ?_; rintro z W11 ⟨rfl, hb11⟩; have hz11 := CellsAt.new W11 44 zC; unfold zC at hz11; clear hwr c2)
        | (refine wpList_stv (cs := E3) rfl 44 _ _ rfl W11.heap.size rfl rfl hz11 iE3 hZ3 h3E ?_))
       have hb12 : Below W10.heap.size W10 ((W11.alloc (.cells zC.toArray 44)).setRow W11.heap.size E3.toArray) := hb11.trans ((below_setRow ((Below.refl _ _).alloc (Nat.le_refl _) _) (Nat.le_refl _) _).mono hb11.size)
       unfold zC at hb12
       refine forget (p := fun y => Code.wp _ _ _ _ y) (fun W => Below W10.heap.size W10 W) hb12 ?_
       generalize W11.heap.size = b3
       clear hb12 hz11 hb11
       rintro W12 hb12
       obtain ⟨c1, c2, hbl, hgi⟩ := HG4.out W12 hb12
       clear hb12 HG4
       have HBL := Veil.mk hbl
       clear hbl
       rcases hF3 with rfl | rfl <;> rcases hF4 with rfl | rfl
       all_goals
        go_wp2_with (first
         | (go_at_call 27; refine hgi.mono ?_; rintro z W13 ⟨rfl, hb13⟩; have hz13 := CellsAt.new W13 44 zC; unfold zC at hz13; clear hgi)
         | (refine wpList_stv (cs := E4) rfl 44 _ _ rfl W13.heap.size rfl rfl hz13 iE4 hZ4 h4E ?_))
        have hb14 : Below W12.heap.size W12 ((W13.alloc (.cells zC.toArray 44)).setRow W13.heap.size E4.toArray) := hb13.trans ((below_setRow ((Below.refl _ _).alloc (Nat.le_refl _) _) (Nat.le_refl _) _).mono hb13.size)
        unfold zC at hb14
        have HQ := Veil.mk (HBL.out.trans (hb14.mono HBL.out.size))
        go_ret
        exact ⟨rfl, HQ.out⟩
end Go.Proofs.YtmbdohnmbkpfaaaGreat
