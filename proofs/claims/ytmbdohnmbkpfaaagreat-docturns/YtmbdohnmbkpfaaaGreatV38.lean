/- Dc12 Dc18 De4 De5 -/
import Derived.Test.YtmbdohnmbkpfaaaGreatV37
import Derived.Test.YtmbdohnmbkpfaaaGreatV23
import Derived.Test.YtmbdohnmbkpfaaaGreatV33
import Derived.Test.YtmbdohnmbkpfaaaGreatV36
import Derived.Test.YtmbdohnmbkpfaaaGreatV29
namespace Go.Proofs.YtmbdohnmbkpfaaaGreat
open Go.RowKit Go.Shelf
set_option maxRecDepth 20000
set_option linter.unusedSimpArgs false
def evK (k : Int) (par : Int × Int) (r : Bool) (c who role : Int) : Ev := ⟨0, 0, [0, 0, 0, 0, 0, 0, 0, 0], k, par.1, par.2, r, c, who, role⟩
def evZ0 : Ev := evK 0 (0, 0) false 0 0 0
def zC : List Value := [.int .u8 0, .int .u32 0, .int .u32 0, .int .u32 0, .int .u32 0, .int .u32 0, .int .u32 0, .int .u32 0, .int .u32 0, .int .u32 0, .int .u8 0, .int .u8 0, .int .u32 0, .bool false, .int .u8 0, .int .u8 0, .int .u8 0]
theorem zC_is : evZ0.cells = zC := rfl
theorem zC_one : ∀ v ∈ zC, v.oneCell' = true := aev_one evZ0
def evKC (k pa ps : Int) (r : Bool) (c who role : Int) : List Value := [.int .u8 0, .int .u32 0, .int .u32 0, .int .u32 0, .int .u32 0, .int .u32 0, .int .u32 0, .int .u32 0, .int .u32 0, .int .u32 0, .int .u8 k, .int .u8 pa, .int .u32 ps, .bool r, .int .u8 c, .int .u8 who, .int .u8 role]
def tellW (st : Ds) (a i c : Int) : Ev × Int := if forbN st a (decide (1 ≤ c) && decide (c ≤ 127)) 2 ≠ 0 then (evZ0, forbN st a (decide (1 ≤ c) && decide (c ≤ 127)) 2) else if (placeN st.N i).2.2 ≠ 0 then (evZ0, (placeN st.N i).2.2) else (nextE st a.toNat (evK 1 (placeN st.N i).1 (placeN st.N i).2.1 c 0 0), 0)
def tellE (st : Ds) (a i : Int) : Ev × Int := if forbN st a true 2 ≠ 0 then (evZ0, forbN st a true 2) else if atE (atN st.N i) ≠ 0 then (evZ0, atE (atN st.N i)) else (nextE st a.toNat (evK 2 (atD (atN st.N i)) false 0 0 0), 0)
def tellG (st : Ds) (a who role : Int) : Ev × Int := if forbN st a (decide (who < 8) && (decide (1 ≤ role) && decide (role ≤ 3))) 3 ≠ 0 then (evZ0, forbN st a (decide (who < 8) && (decide (1 ≤ role) && decide (role ≤ 3))) 3) else (nextE st a.toNat (evK 3 (0, 0) false 0 who role), 0)
def tellT (st : Ds) (a who : Int) : Ev × Int := if forbN st a (decide (who < 8)) 3 ≠ 0 then (evZ0, forbN st a (decide (who < 8)) 3) else (nextE st a.toNat (evK 4 (0, 0) false 0 who 0), 0)
theorem forbN_zero {st : Ds} {a : Int} {fit : Bool} {least : Int} (h : forbN st a fit least = 0) : a < 8 ∧ fit = true ∧ st.L.length < 512 ∧ least ≤ roleP st.B a st.S := by
 unfold forbN at h
 split at h
 · cases h
 · split at h
   · cases h
   · split at h
     · cases h
     · split at h
       · cases h
       · rename_i h1 h2 h3 h4
         exact ⟨by omega, by simpa using h2, by omega, by omega⟩
set_option maxHeartbeats 4000000 in
theorem eCloneD_any (base : Nat) (w : World) (u : Value) (Q : List Ev) (hu : OwnI w base 44 17 u (Q.map Ev.cells)) (hl : Q.length ≤ 1000) :
    Calls Tryz.prog 40 #[u] w fun e w' => ∃ v', e = .returned v' ∧ OwnI w' w.heap.size 44 17 v' (Q.map Ev.cells) ∧ Below w.heap.size w w' := by
 rcases hu.own.2 with ⟨rfl, h0⟩ | ⟨g, cap, cur, rfl, hbg, hrest⟩
 · have hL : Q.map Ev.cells = [] := List.length_eq_zero_iff.1 h0
   have hnil : ∀ wx : World, (binOp BinOp.eql 31 (.slice none 0 0) (.slice none 0 0)).run Tryz.prog wx = .ok (.bool true) wx := fun _ => by kernel_rfl
   rw [hL]
   clear hu hL h0
   go_enter Tryz.func40, Tryz.ntmps40
   go_wp2
   go_ret
   exact ⟨_, rfl, OwnI.nil _ _ _ _, Below.refl _ _⟩
 · have hB : Below w.heap.size w (w.alloc (.cells #[] 44)) := (Below.refl _ _).alloc (Nat.le_refl _) _
   have hE := OwnI.empty w 44 17
   have hu1 := hu.far hB
   have hone : ∀ c ∈ Q.map Ev.cells, ∀ u ∈ c, u.oneCell' = true := fun c hc u hu => by
    obtain ⟨q, _, rfl⟩ := List.mem_map.1 hc
    exact aev_one q u hu
   have hap := hE.apps (P := Tryz.prog) 31 31 Tryz.underlying31 infoE17D (by rfl) (by decide) (Q.map Ev.cells) hu.each hone base _ hu1 (by simp; omega) (by decide) (by simp)
   rw [List.nil_append] at hap
   have hnil : ∀ (n : Nat) (wx : World), (binOp BinOp.eql 31 (.slice (some ⟨g, 0, none⟩) n cap) (.slice none 0 0)).run Tryz.prog wx = .ok (.bool false) wx := fun _ _ => by kernel_rfl
   have HAP := Veil.mk hap
   generalize (Q.map Ev.cells).length = n at HAP hnil ⊢
   have hnl := hnil n
   clear hu hE hu1 hone hrest hnil hap
   go_enter Tryz.func40, Tryz.ntmps40
   go_wp2_with (at_builtin; obtain ⟨v1, w1, hr1, ho1, hg1, _⟩ := HAP.out; refine wpList_appx rfl _ _ 31 31 rfl _ _ _ _ rfl rfl hr1 ?_)
   go_ret
   refine ⟨_, rfl, ho1, ?_⟩
   exact hB.grown hg1 (by simp) (fun k hk => by cases hk; exact Nat.le_refl _)
set_option maxHeartbeats 4000000 in
theorem dEvents_any (base : Nat) (st : Ds) (p : Pl) (w : World) (hD : DocAt w base st p) (hG : GoodD st) :
    Calls Tryz.prog 14 #[.pointer (some ⟨p.D, 0, none⟩)] w fun r w' => ∃ v, r = .returned v ∧ OwnI w' w.heap.size 44 17 v (st.L.map Ev.cells) ∧ Below w.heap.size w w' := by
 have hcl := eCloneD_any base w p.v st.L hD.evs (by have := hG.llen; omega)
 have c10 := hD.cV hG.slen
 obtain ⟨x, c, hv⟩ := hD.evs.isSlice
 rw [hv] at hcl c10
 generalize (st.L.map Ev.cells).length = n at hcl c10
 generalize p.D = D at c10 ⊢
 clear hD hG hv
 go_enter Tryz.func14, Tryz.ntmps14
 go_wp2_with (go_at_call 40; refine hcl.mono ?_; rintro y W1 ⟨v, rfl, ho, hb⟩)
 go_ret
 exact ⟨v, rfl, ho, hb⟩
set_option maxHeartbeats 4000000 in
theorem rtext10_any (base : Nat) (st : Ds) (p : Rp) (w : World) (hD : RDocAt w base st p) (hG : GoodD st) :
    Calls Tryz.prog 36 #[.pointer (some ⟨p.D, 0, none⟩)] w fun r w' => ∃ v, r = .returned v ∧ OwnB w' w.heap.size v (textN st.N) ∧ Below w.heap.size w w' := by
 have ht := rtext_any base p.T p.tv st.N hG.tree (by have := hG.nlen; have := hG.llen; omega) w hD.tree
 have c0 := hD.cT hG.slen
 generalize p.T = R at ht c0
 generalize p.D = D at c0 ⊢
 clear hD hG
 go_enter Tryz.func36, Tryz.ntmps36
 go_wp2_with (go_at_call 68; refine ht.mono ?_; rintro y W1 ⟨v, rfl, ho, hb⟩)
 go_ret
 exact ⟨v, rfl, ho, hb⟩
set_option maxHeartbeats 4000000 in
theorem rvector10_any (base : Nat) (st : Ds) (p : Rp) (w : World) (hD : RDocAt w base st p) (hG : GoodD st) :
    Calls Tryz.prog 38 #[.pointer (some ⟨p.D, 0, none⟩)] w fun r w' => r = .returned (.agg (row .u32 st.S)) ∧ Below w.heap.size w w' := by
 have hr0 := Holds.new w .u32 37 [0, 0, 0, 0, 0, 0, 0, 0]
 have hB0 : Below w.heap.size w (w.alloc (.cells (row .u32 [0, 0, 0, 0, 0, 0, 0, 0]) 37)) := (Below.refl _ _).alloc (Nat.le_refl _) _
 have iV : (Tryz.prog.info? 37).map (·.size) = some (st.S.map (Value.int .u32)).length := by rw [List.length_map, hG.slen]; kernel_rfl
 have i8 : (Tryz.prog.info? 37).map (·.size) = some 8 := by kernel_rfl
 have uV := Tryz.underlying37
 have hrg := (hD.far hB0).cS hG.slen
 have hs8 := hG.slen
 generalize st.S = S at iV hrg hs8 ⊢
 generalize p.D = D at hrg ⊢
 clear hD hG
 go_enter Tryz.func38, Tryz.ntmps38
 go_upto_region 3 with fail
 obtain ⟨Z, hZ⟩ : ∃ Z : List Int, Z = [0, 0, 0, 0, 0, 0, 0, 0] := ⟨_, rfl⟩
 have hZ8 : Z.length = 8 := by rw [hZ]; rfl
 refine forget (p := fun y => Code.wp _ _ _ _ y) (fun W => Below w.heap.size w W ∧ Holds W w.heap.size .u32 37 Z ∧ W.rangeAt D 2 (S.map (Value.int .u32))) ⟨hB0, by rw [hZ]; exact hr0, hrg⟩ ?_
 clear hB0 hr0 hrg hZ
 rintro W ⟨hB, hr, hrg⟩
 go_wp2_with (first
  | (refine wpList_ldv rfl 37 _ rfl D 2 rfl (S.map (Value.int .u32)) hrg uV rfl iV ?_)
  | (refine wpList_st (l := S) rfl 37 _ _ rfl _ rfl rfl hr (by rw [hs8]; exact i8) (by rw [hZ8, hs8]) ?_))
 refine bodyPost_ret (results_holds (Tryz.results38) _ rfl (hr.setRow S) uV i8 hs8) rfl ⟨rfl, ?_⟩
 exact below_setRow hB (by omega) _
set_option maxHeartbeats 4000000 in
theorem rmembers10_any (base : Nat) (st : Ds) (p : Rp) (w : World) (hD : RDocAt w base st p) (hG : GoodD st) (hR : GoodR st p.K p.G) :
    Calls Tryz.prog 37 #[.pointer (some ⟨p.D, 0, none⟩)] w fun r w' => r = .returned (.agg (row .u8 (membersL st.B st.S))) ∧ Below w.heap.size w w' := by
 have hr0 := Holds.new w .u8 49 [0, 0, 0, 0, 0, 0, 0, 0]
 have hB0 : Below w.heap.size w (w.alloc (.cells (row .u8 [0, 0, 0, 0, 0, 0, 0, 0]) 49)) := (Below.refl _ _).alloc (Nat.le_refl _) _
 have hD0 := hD.far hB0
 have hkl := hR.klen
 have hll := hG.llen
 have iV : (Tryz.prog.info? 37).map (·.size) = some (st.S.map (Value.int .u32)).length := by rw [List.length_map, hG.slen]; kernel_rfl
 have uV := Tryz.underlying37
 have HME : Veil (∀ W, RDocAt W base st p → Calls Tryz.prog 69 #[.pointer (some ⟨p.H, 0, none⟩), .agg (st.S.map (Value.int .u32)).toArray] W fun e w' => e = .returned (.agg (row .u8 (membersL st.B st.S))) ∧ Below W.heap.size W w') := ⟨fun W h => by
  have := rmembers_any p.H p.K p.x p.bx p.c p.bc st.S W h.book hG.slen (by omega) hR.good
  rw [hR.members] at this
  exact this⟩
 have HT : Veil (∀ W, CellsAt W p.D 98 (rdocC st p) → W.cell? ⟨p.D, 11, none⟩ = some (.pointer (some ⟨p.H, 0, none⟩)) ∧ W.rangeAt p.D 2 (st.S.map (Value.int .u32))) := ⟨fun W h => by
  have h1 := h.range 2 8
  rw [(rdocC_parts st p hG.slen).2.2.1] at h1
  exact ⟨(h.cell 11).trans (rdocC_parts st p hG.slen).2.2.2.2.1, h1⟩⟩
 have HBX : Veil (∀ W, RDocAt W base st p → CellsAt W p.D 98 (rdocC st p)) := ⟨fun W h => h.box⟩
 have hne : w.heap.size ≠ p.D := fun e => by have := hD.box.lt; omega
 have hj8 := membersL_len st.B st.S
 generalize membersL st.B st.S = J at HME hj8 ⊢
 generalize st.S.map (Value.int .u32) = SV at HME HT iV
 generalize rdocC st p = DC at HT HBX
 obtain ⟨D, hDD⟩ : ∃ q, p.D = q := ⟨_, rfl⟩
 obtain ⟨H, hHH⟩ : ∃ q, p.H = q := ⟨_, rfl⟩
 rw [hDD, hHH] at HT
 rw [hHH] at HME
 rw [hDD] at HBX hne ⊢
 clear hD hG hDD hHH hR hkl hll
 go_enter Tryz.func37, Tryz.ntmps37
 go_upto_region 3 with fail
 obtain ⟨Z, hZ⟩ : ∃ Z : List Int, Z = [0, 0, 0, 0, 0, 0, 0, 0] := ⟨_, rfl⟩
 have hZ8 : Z.length = 8 := by rw [hZ]; rfl
 refine forget (p := fun y => Code.wp _ _ _ _ y) (fun W => Below w.heap.size w W ∧ Holds W w.heap.size .u8 49 Z ∧ RDocAt W base st p) ⟨hB0, by rw [hZ]; exact hr0, hD0⟩ ?_
 clear hB0 hr0 hD0 hZ
 rintro W ⟨hB, hr, hD⟩
 have hb0 : Below W.heap.size W W.drew := (Below.refl _ _).drew
 have hT : (fun W : World => W.cell? ⟨D, 11, none⟩ = some (.pointer (some ⟨H, 0, none⟩)) ∧ W.rangeAt D 2 SV) W.drew := HT.out _ (HBX.out _ (hD.far hb0))
 have hS : (fun _ : World => True) W.drew := trivial
 refine wp_region_gateT (fun W : World => W.cell? ⟨D, 11, none⟩ = some (.pointer (some ⟨H, 0, none⟩)) ∧ W.rangeAt D 2 SV) (fun _ => True) 99 (by kernel_rfl) ?_
 refine ghA 0 _ hT hS ?_
 simp only [Act.put, gA, gS, gZ, sI, sZ, sS]
 refine ghA 1 _ hT hS ?_
 simp only [Act.put, gA, gS, gZ, sI, sZ, sS]
 refine ghA 2 _ hT hS ?_
 simp only [Act.put, gA, gS, gZ, sI, sZ, sS]
 refine ghA 3 _ hT hS ?_
 simp only [Act.put, gA, gS, gZ, sI, sZ, sS]
 refine ghA 4 _ hT hS ?_
 simp only [Act.put, gA, gS, gZ, sI, sZ, sS]
 refine ghA 5 _ hT hS ?_
 simp only [Act.put, gA, gS, gZ, sI, sZ, sS]
 refine ghA 6 _ hT hS ?_
 simp only [Act.put, gA, gS, gZ, sI, sZ, sS]
 refine gl 7 13 37 12 D 2 SV (by kernel_rfl) (by kernel_rfl) (by kernel_rfl) (fun _ _ _ h => h) hT hS (by kernel_rfl) (fun _ h => h.2) uV rfl iV ?_
 simp only [Act.put, gA, gS, gZ, sI, sZ, sS]
 refine wpAnyT_one (i := 8) rfl (by kernel_rfl) (by kernel_rfl) (fun K hK => ?_)
 refine wpx_call _ _ (by kernel_rfl) ((HME.out _ (hD.far hb0)).mono ?_)
 rintro y W2 ⟨rfl, hb2⟩
 refine ⟨_, rfl, ?_⟩
 replace hb2 : Below W.heap.size W W2 := hb0.trans hb2
 have hr2 := holds_farA hr hb2
 have hB2 := hB.trans (hb2.mono hB.size)
 have hbx := HBX.out _ (hD.far hb2)
 replace hT := HT.out _ hbx
 replace hS : (fun _ : World => True) W2 := trivial
 clear hb2 hb0 hB hr hD
 refine hK.out _ _ hT (fun _ => hS) ?_
 clear hK K
 try simp only [Act.put, gA, gS, gZ, sI, sZ, sS]
 refine wpAnyT_one (i := 9) rfl (by kernel_rfl) (by kernel_rfl) (fun K hK => ?_)
 refine wp_stG 49 _ _ rfl w.heap.size rfl rfl hr2 (by rw [hj8]; exact sizeR8) (by rw [hZ8, hj8]) ?_
 replace hT := HT.out (W2.setRow w.heap.size (row .u8 J)) (hbx.setRowM _ (Ne.symm hne))
 replace hS : (fun _ : World => True) (W2.setRow w.heap.size (row .u8 J)) := trivial
 refine hK.out _ _ hT (fun _ => hS) ?_
 clear hK K
 try simp only [Act.put, gA, gS, gZ, sI, sZ, sS]
 refine wpAnyT_done (by kernel_rfl) ?_ _
 clear hT hS
 go_wp2
 refine bodyPost_ret (results_holds (Tryz.results37) _ rfl (hr2.setRow _) Tryz.underlying49 sizeR8 hj8) rfl ⟨rfl, ?_⟩
 exact below_setRow hB2 (by omega) _
set_option maxHeartbeats 4000000 in
theorem revents10_any (base : Nat) (st : Ds) (p : Rp) (w : World) (hD : RDocAt w base st p) (hG : GoodD st) :
    Calls Tryz.prog 30 #[.pointer (some ⟨p.D, 0, none⟩)] w fun r w' => ∃ v, r = .returned v ∧ OwnI w' w.heap.size 44 17 v (st.L.map Ev.cells) ∧ Below w.heap.size w w' := by
 have hB : Below w.heap.size w (w.alloc (.cells #[] 44)) := (Below.refl _ _).alloc (Nat.le_refl _) _
 have hE := OwnI.empty w 44 17
 have hD1 := hD.far hB
 have hone : ∀ c ∈ st.L.map Ev.cells, ∀ u ∈ c, u.oneCell' = true := fun c hc u hu => by
  obtain ⟨q, _, rfl⟩ := List.mem_map.1 hc
  exact aev_one q u hu
 have hap := hE.apps (P := Tryz.prog) 31 31 Tryz.underlying31 infoE17D (by rfl) (by decide) (st.L.map Ev.cells) hD1.evs.each hone base _ hD1.evs (by have := hG.llen; simp; omega) (by decide) (by simp)
 rw [List.nil_append] at hap
 have c0 := hD1.cL hG.slen
 obtain ⟨x, c, hv⟩ := hD1.evs.isSlice
 rw [hv] at hap c0
 have HAP := Veil.mk hap
 generalize p.D = D at c0 ⊢
 generalize (st.L.map Ev.cells).length = n at HAP c0
 clear hD hG hE hD1 hone hap hv
 go_enter Tryz.func30, Tryz.ntmps30
 go_wp2_with (at_builtin; obtain ⟨v1, w1, hr1, ho1, hg1, _⟩ := HAP.out; refine wpList_appx rfl _ _ 31 31 rfl _ _ _ _ rfl rfl hr1 ?_)
 go_ret
 refine ⟨_, rfl, ho1, ?_⟩
 exact hB.grown hg1 (by simp) (fun k hk => by cases hk; exact Nat.le_refl _)
def rinZ (T H : Nat) : List Value := [.slice none 0 0, .slice none 0 0, .int .u32 0, .int .u32 0, .int .u32 0, .int .u32 0, .int .u32 0, .int .u32 0, .int .u32 0, .int .u32 0, .pointer (some ⟨T, 0, none⟩), .pointer (some ⟨H, 0, none⟩)]
set_option maxHeartbeats 4000000 in
theorem rnew10_any (w : World) :
    Calls Tryz.prog 34 #[] w fun r w' => ∃ p, r = .returned (.pointer (some ⟨p.D, 0, none⟩)) ∧ RDocAt w' w.heap.size newS p ∧ GoodR newS p.K p.G ∧ Below w.heap.size w w' ∧ ∀ k, rdocP p k → w.heap.size ≤ k := by
 have hnt := rnewT_any w
 have HNB : Veil (∀ W, Calls Tryz.prog 22 #[] W fun r w' => r = .returned (.pointer (some ⟨W.heap.size, 0, none⟩)) ∧ RefB w.heap.size w' W.heap.size [] none 0 none 0 ∧ Below W.heap.size W w') := ⟨fun W => rbnew_any w.heap.size W⟩
 go_enter Tryz.func34, Tryz.ntmps34
 go_wp2_with (first
  | (go_at_call 67; refine hnt.mono ?_; rintro y W1 ⟨T, rfl, hT, hb1, hT1⟩; clear hnt)
  | (go_at_call 22; refine (HNB.out _).mono ?_; rintro y W2 ⟨rfl, hK, hb2⟩))
 go_ret
 have hb3 : Below W2.heap.size W2 (W2.alloc (.cells (rinZ T W1.heap.size).toArray 98)) := (Below.refl _ _).alloc (Nat.le_refl _) _
 have hlT := hT.box.lt
 have hlK := hK.cells.lt
 have hs1 := hb1.size
 have hs2 := hb2.size
 refine ⟨⟨W2.heap.size, T, .slice none 0 0, W1.heap.size, [], none, 0, none, 0, .slice none 0 0, .slice none 0 0, []⟩, rfl, ⟨CellsAt.new W2 98 (rinZ T W1.heap.size), (hT.far hb2).far hb3, hK.far hb3, OwnI.nil _ _ _ _, OwnI.nil _ _ _ _, (fun g q => by cases q), (fun g q => by cases q)⟩, GoodR.new, (hb1.trans (hb2.mono hs1)).trans (hb3.mono (Nat.le_trans hs1 hs2)), fun k q => ?_⟩
 rcases q with q | (q | q) | (q | q | q) | q | q
 · have : k = W2.heap.size := q; omega
 · have : k = T := q; omega
 · cases q
 · have : k = W1.heap.size := q; omega
 · cases q
 · cases q
 · cases q
 · cases q
theorem GoodR.flagAt {st : Ds} {K : List Ent} {G : List Bool} (h : GoodR st K G) : G.length = st.L.length ∧ ∀ i (hi : i < st.L.length) (hg : i < G.length), G[i] = decide (st.L[i].dot ∈ st.F) := by
 have e := h.flags
 refine ⟨by rw [e]; unfold flagsD; rw [List.length_map], fun i hi hg => ?_⟩
 subst e
 simp [flagsD]
theorem GoodR.noF {st : Ds} {K : List Ent} {G : List Bool} (h : GoodR st K G) {x : Int × Int} (hx : ∀ i (hi : i < st.L.length), st.L[i].dot ≠ x) : decide (x ∈ st.F) = false := by
 rw [decide_eq_false_iff_not]
 intro q
 obtain ⟨e, he, hd⟩ := h.fin x q
 obtain ⟨i, hi, rfl⟩ := List.getElem_of_mem he
 exact hx i hi hd
set_option maxHeartbeats 8000000 in
theorem rforce10_any (base : Nat) (st : Ds) (p : Rp) (x : Int × Int) (w : World) (hD : RDocAt w base st p) (hG : GoodD st) (hR : GoodR st p.K p.G) :
    Calls Tryz.prog 35 #[.pointer (some ⟨p.D, 0, none⟩), .agg (encF x).toArray] w fun e w' => e = .returned (.bool (decide (x ∈ st.F))) ∧ Below w.heap.size w w' := by
 have hd0 := CellsAt.new w 40 (encF x)
 have hB : Below w.heap.size w (w.alloc (.cells (encF x).toArray 40)) := (Below.refl _ _).alloc (Nat.le_refl _) _
 have uD := Tryz.underlying40
 have iD : ∀ y : Int × Int, (Tryz.prog.info? 40).map (·.size) = some (encF y).length := fun y => sizeDot
 have iX := iD x
 have HEQ : Veil (∀ (y : Int × Int) (wx : World), (binOp BinOp.eql 40 (.agg (encF y).toArray) (.agg (encF x).toArray)).run Tryz.prog wx = .ok (.bool (decide (y = x))) wx) := ⟨fun y wx => by
  rw [dot_eql y.1 y.2 x.1 x.2 wx]
  congr 2
  obtain ⟨a, b⟩ := y
  obtain ⟨c, d⟩ := x
  by_cases h1 : a = c <;> by_cases h2 : b = d <;> simp [h1, h2]⟩
 obtain ⟨hgl, hga⟩ := hR.flagAt
 obtain ⟨n, hn⟩ : ∃ q, st.L.length = q := ⟨_, rfl⟩
 have HN := Veil.mk hn
 have hln : n ≤ 512 := by have := hG.llen; omega
 obtain ⟨sx, sc, hsl⟩ := hD.evs.isSlice
 rw [List.length_map, hn] at hsl
 obtain ⟨bx, bc, hbl⟩ := hD.flags.isSlice
 rw [List.length_map, hgl, hn] at hbl
 have HT : Veil (∀ W, Below w.heap.size w W → W.cell? ⟨p.D, 0, none⟩ = some (.slice sx n sc) ∧ W.cell? ⟨p.D, 1, none⟩ = some (.slice bx n bc) ∧ OwnI W base 44 17 (.slice sx n sc) (st.L.map Ev.cells) ∧ OwnI W base 4 1 (.slice bx n bc) (p.G.map fun b => [Value.bool b])) := ⟨fun W hb => by
  have h := hD.far hb
  have h1 := h.cL hG.slen
  have h2 := h.cF hG.slen
  have h3 := h.evs
  have h4 := h.flags
  rw [hsl] at h1 h3
  rw [hbl] at h2 h4
  exact ⟨h1, h2, h3, h4⟩⟩
 have HX0 : Veil (∀ i (hi : i < st.L.length) (hg : i < p.G.length), st.L[i].dot = x → p.G[i] = decide (x ∈ st.F)) := ⟨fun i hi hg h => by rw [hga i hi hg, h]⟩
 have HX1 : Veil ((∀ i (hi : i < st.L.length), st.L[i].dot ≠ x) → decide (x ∈ st.F) = false) := ⟨hR.noF⟩
 have HOK : Veil (∀ i (hi : i < st.L.length), st.L[i].Ok) := ⟨fun i hi => hG.lok _ (List.getElem_mem hi)⟩
 have HGL := Veil.mk hgl
 obtain ⟨DX, hDX⟩ : ∃ q, encF x = q := ⟨_, rfl⟩
 rw [hDX] at hd0 hB iX HEQ ⊢
 generalize p.D = D at HT ⊢
 clear hDX hD hn hG hR hgl hga hsl hbl
 generalize decide (x ∈ st.F) = RX at HX0 HX1 ⊢
 generalize st.L = L at HT HX0 HX1 HOK HN HGL
 go_enter Tryz.func35, Tryz.ntmps35
 go_upto_region 1 with fail
 refine forget (p := fun y => Code.wp _ _ _ _ y) (fun W => Below w.heap.size w W ∧ CellsAt W w.heap.size 40 DX) ⟨hB, hd0⟩ ?_
 clear hB hd0
 rintro W0 ⟨hB0, hd0⟩
 go_wp2_with fail
 go_loopw [5] (fun p wr => ∃ i : Nat, p = .int .i64 (i : Nat) ∧ i ≤ n ∧ (∀ j (hj : j < L.length), j < i → L[j].dot ≠ x) ∧ Below w.heap.size w wr ∧ CellsAt wr w.heap.size 40 DX) (fun p _ => n - (intOf p).toNat)
 case atStart => exact ⟨0, rfl, Nat.zero_le _, fun j hj h => by omega, hB0, hd0⟩
 case round =>
  obtain ⟨i, rfl, hi, hlo, hB, hd⟩ := hrel
  clear hB0 hd0
  obtain ⟨cR, cF, hev, hfl⟩ := HT.out wr hB
  have HLO := Veil.mk hlo
  clear hlo
  by_cases hlt : i < n
  · have hli : (i : Int) < (n : Int) := by omega
    have hli0 : (0 : Int) ≤ (i : Int) := by omega
    have hki : i < L.length := by rw [HN.out]; exact hlt
    have hkg : i < p.G.length := by rw [HGL.out]; exact hki
    obtain ⟨g, rfl, -, hr⟩ := hev.at_ i (by rw [List.length_map]; exact hki)
    rw [List.getElem_map] at hr
    obtain ⟨gb, rfl, -, hrb⟩ := hfl.at_ i (by rw [List.length_map]; exact hkg)
    rw [List.getElem_map] at hrb
    have hbc := hrb 0 _ rfl
    rw [Nat.mul_one, Nat.add_zero] at hbc
    have hdp := (ev_parts L[i] (HOK.out i hki).past).1
    have hr2 : wr.rangeAt g (i * 17) (encF L[i].dot) := fun j u hu => hr j u (by
     have hu' : (dotC L[i].da L[i].ds)[j]? = some u := hu
     rw [← hdp, List.drop_zero, List.getElem?_take] at hu'
     split at hu'
     · exact hu'
     · cases hu')
    have hdx := hd.wholeM
    have iH := iD L[i].dot
    have heq := HEQ.out L[i].dot
    have HYES : Veil (L[i].dot = x → p.G[i] = RX) := ⟨fun h => HX0.out i hki hkg h⟩
    have HNO : Veil (L[i].dot ≠ x → ∀ j (hj : j < L.length), j < i + 1 → L[j].dot ≠ x) := ⟨fun h j hj hji => by
     rcases Nat.lt_or_eq_of_le (Nat.le_of_lt_succ hji) with q | q
     · exact HLO.out j hj q
     · subst q; exact h⟩
    generalize L[i].dot = y at hr2 iH heq HYES HNO
    generalize p.G[i] = FB at hbc HYES
    generalize encF y = DH at hr2 iH heq
    have hww : IntKind.i64.wrap ((i : Int) + 1) = (i : Int) + 1 := by rw [IntKind.wrap_i64]; omega
    clear hr hki hkg hev hfl hrb hdp
    go_upto_region 4 with fail
    refine wp_region_gateT (fun w' => w'.cell? ⟨D, 0, none⟩ = some (.slice (some ⟨g, 0, none⟩) n sc) ∧ w'.rangeAt g (i * 17) DH ∧ w'.rangeAt w.heap.size 0 DX) (fun _ => True) 99 (by kernel_rfl) ?_
    have hT : (fun w' : World => w'.cell? ⟨D, 0, none⟩ = some (.slice (some ⟨g, 0, none⟩) n sc) ∧ w'.rangeAt g (i * 17) DH ∧ w'.rangeAt w.heap.size 0 DX) wr.drew := ⟨cR, hr2, hdx⟩
    have hS : (fun _ : World => True) wr.drew := trivial
    by_cases he : y = x
    · have hde : decide (y = x) = true := by simpa using he
      rw [hde] at heq
      refine ghA 0 _ hT hS ?_
      simp only [Act.put, gA, gS, gZ, sI, sZ, sS]
      refine ghA 1 _ hT hS ?_
      simp only [Act.put, gA, gS, gZ, sI, sZ, sS]
      refine ghA 2 _ hT hS ?_
      simp only [Act.put, gA, gS, gZ, sI, sZ, sS]
      refine ghA 3 _ hT hS ?_
      simp only [Act.put, gA, gS, gZ, sI, sZ, sS]
      refine ghA 4 _ hT hS ?_
      simp only [Act.put, gA, gS, gZ, sI, sZ, sS]
      refine ghA 5 _ hT hS ?_
      simp only [Act.put, gA, gS, gZ, sI, sZ, sS]
      refine ghA 6 _ hT hS ?_
      simp only [Act.put, gA, gS, gZ, sI, sZ, sS]
      refine gl 7 26 40 25 g (i * 17) DH (by kernel_rfl) (by kernel_rfl) (by kernel_rfl) (fun _ _ _ h => h) hT hS (by kernel_rfl) (fun _ h => h.2.1) uD rfl iH ?_
      simp only [Act.put, gA, gS, gZ, sI, sZ, sS]
      refine gl 8 27 40 3 w.heap.size 0 DX (by kernel_rfl) (by kernel_rfl) (by kernel_rfl) (fun _ _ _ h => h) hT hS (by kernel_rfl) (fun _ h => h.2.2) uD rfl iX ?_
      simp only [Act.put, gA, gS, gZ, sI, sZ, sS]
      refine wpAnyT_held (i := 9) (v := (.bool true)) rfl (by kernel_rfl) (by kernel_rfl) (by kernel_rfl) (fun _ _ _ h => h) (by kernel_rfl) hT (fun _ => hS) (by kernel_rfl) (fun wx h => exec_eqF rfl rfl rfl (by go_simp) (heq wx)) ?_
      simp only [Act.put, gA, gS, gZ, sI, sZ, sS]
      refine wpAnyT_done (by kernel_rfl) ?_ _
      have HR := Veil.mk (HYES.out he)
      have cF2 : wr.drew.cell? ⟨D, 1, none⟩ = some (.slice (some ⟨gb, 0, none⟩) n bc) := cF
      have hbc2 : wr.drew.cell? ⟨gb, i, none⟩ = some (.bool FB) := hbc
      clear hT hS heq hr2 hdx hde HYES HNO cF hbc
      go_wp2
      go_ret
      exact ⟨by rw [HR.out]; rfl, hB.drew⟩
    · have hde : decide (y = x) = false := by simpa using he
      rw [hde] at heq
      refine ghA 0 _ hT hS ?_
      simp only [Act.put, gA, gS, gZ, sI, sZ, sS]
      refine ghA 1 _ hT hS ?_
      simp only [Act.put, gA, gS, gZ, sI, sZ, sS]
      refine ghA 2 _ hT hS ?_
      simp only [Act.put, gA, gS, gZ, sI, sZ, sS]
      refine ghA 3 _ hT hS ?_
      simp only [Act.put, gA, gS, gZ, sI, sZ, sS]
      refine ghA 4 _ hT hS ?_
      simp only [Act.put, gA, gS, gZ, sI, sZ, sS]
      refine ghA 5 _ hT hS ?_
      simp only [Act.put, gA, gS, gZ, sI, sZ, sS]
      refine ghA 6 _ hT hS ?_
      simp only [Act.put, gA, gS, gZ, sI, sZ, sS]
      refine gl 7 26 40 25 g (i * 17) DH (by kernel_rfl) (by kernel_rfl) (by kernel_rfl) (fun _ _ _ h => h) hT hS (by kernel_rfl) (fun _ h => h.2.1) uD rfl iH ?_
      simp only [Act.put, gA, gS, gZ, sI, sZ, sS]
      refine gl 8 27 40 3 w.heap.size 0 DX (by kernel_rfl) (by kernel_rfl) (by kernel_rfl) (fun _ _ _ h => h) hT hS (by kernel_rfl) (fun _ h => h.2.2) uD rfl iX ?_
      simp only [Act.put, gA, gS, gZ, sI, sZ, sS]
      refine wpAnyT_held (i := 9) (v := (.bool false)) rfl (by kernel_rfl) (by kernel_rfl) (by kernel_rfl) (fun _ _ _ h => h) (by kernel_rfl) hT (fun _ => hS) (by kernel_rfl) (fun wx h => exec_eqF rfl rfl rfl (by go_simp) (heq wx)) ?_
      simp only [Act.put, gA, gS, gZ, sI, sZ, sS]
      refine wpAnyT_done (by kernel_rfl) ?_ _
      have HR := Veil.mk (HNO.out he)
      have HBD := Veil.mk (And.intro hB.drew (hd.congr (w' := wr.drew) rfl))
      clear hT hS heq hr2 hdx hde HYES HNO hB hd cR cF hbc
      go_wp2
      go_roundw
      case rel => exact ⟨i + 1, by push_cast; rfl, hlt, HR.out, HBD.out.1, HBD.out.2⟩
      case measure => simp [intOf]; omega
  · obtain rfl : i = n := by omega
    have hli : ¬ (i : Int) < (i : Int) := by omega
    have HR := Veil.mk (HX1.out (fun j hj => HLO.out j hj (by rw [← HN.out]; exact hj)))
    clear hev hfl cF
    go_wp2
    go_ret
    exact ⟨by rw [HR.out]; rfl, hB⟩
end Go.Proofs.YtmbdohnmbkpfaaaGreat
