/- Ao3 -/
import Derived.Test.YtflkhkmejnpapaaGreatDoorK40
import Derived.Test.YtflkhkmejnpapaaGreatDoorK19
import Derived.Test.YtflkhkmejnpapaaGreatDoorK41
namespace Go.Proofs.YtflkhkmejnpapaaGreatDoor
open Go.RowKit
set_option maxRecDepth 20000
set_option linter.unusedSimpArgs false
set_option maxHeartbeats 4000000 in
theorem refOpen_ok (k n : List Int) (x : Option Addr) (len cap : Nat) (o : List Int) (y : Option Addr) (lb cb : Nat) (z : List Int) (w : World) (hk : k.length = 32) (hn : n.length = 12) (hx : Bytes w x len cap o) (hy : Bytes w y lb cb z) (hl1 : len ≤ 100000) (hl2 : lb ≤ 100000) (hl : 16 ≤ lb) (huo : ∀ v ∈ o, isB v) (huz : ∀ v ∈ z, isB v)
    (he : tagL k n o (z.take (lb - 16)) = z.drop (lb - 16)) :
    Calls Tryz.prog 47 #[.agg (row .u8 k), .agg (row .u8 n), .slice x len cap, .slice y lb cb] w fun e w' => ∃ v, e = .returned (.tuple #[v, .int .i64 0]) ∧ OwnB w' w.heap.size v (xorL k n 1 (z.take (lb - 16))) ∧ Below w.heap.size w w' := by
 obtain ⟨M, hM⟩ : ∃ M, lb - 16 = M := ⟨_, rfl⟩
 rw [hM] at he
 try rw [hM]
 have hzl := hy.len_eq
 have hcb := hy.le
 have htop := hy.top
 have hwM : IntKind.i64.wrap ((lb : Int) - 16) = (M : Int) := by rw [IntKind.wrap_i64]; omega
 have hM0 : ¬ (M : Int) < 0 := by omega
 have hcutL : ∀ wx, (Instr.slice 74 (.slice y lb cb) none (some (.int .i64 (M : Int))) none).run Tryz.prog wx = .ok (.slice (subA y cb 0) M cb) wx := fun wx => run_cut_h wx _ lb cb M (by omega)
 have hcutR : ∀ wx, (Instr.slice 74 (.slice y lb cb) (some (.int .i64 (M : Int))) none none).run Tryz.prog wx = .ok (.slice (subA y cb M) 16 (cb - M)) wx := fun wx => by
  have := run_cut_l wx y lb cb M (by omega)
  rw [show lb - M = 16 by omega] at this
  exact this
 have hhid := fun wx (hb : Below w.heap.size w wx) => (hy.below hb).cut 0 M (by omega) (by omega)
 rw [List.drop_zero, Nat.sub_zero, Nat.sub_zero] at hhid
 have htld := fun wx (hb : Below w.heap.size w wx) => (hy.below hb).cut M lb (by omega) (Nat.le_refl _)
 rw [show lb - M = 16 by omega, show (z.drop M).take 16 = z.drop M from List.take_of_length_le (by rw [List.length_drop]; omega)] at htld
 have hHu : ∀ v ∈ z.take M, isB v := fun v hv => huz v (List.mem_of_mem_take hv)
 have hDu : ∀ v ∈ z.drop M, isB v := fun v hv => huz v (List.mem_of_mem_drop hv)
 have hHl : (z.take M).length = M := by rw [List.length_take]; omega
 have hTl : (tagL k n o (z.take M)).length = 16 := polyL_length _ _
 have hTu := tagL_in k n o (z.take M) huo hHu
 have hse := strEq _ _ hTu hDu
 rw [show (tagL k n o (z.take M) == z.drop M) = true by rw [beq_iff_eq]; exact he] at hse
 have HFL : Veil ((framedL o (z.take M)).length ≤ 1000000) := ⟨by rw [framedL_length, ← hx.len_eq, hHl]; have := fillN_lt len; have := fillN_lt M; omega⟩
 have hon : ∀ wx, Calls Tryz.prog 55 #[.agg (List.map (Value.int .u8) k).toArray, .agg (List.map (Value.int .u8) n).toArray] wx fun e w' => e = .returned (.agg (row .u8 (onceL k n))) ∧ Below wx.heap.size wx w' := fun wx => refOnce_any k n wx hk hn
 have htg := fun (v : Value) (base : Nat) (wx : World) (ho : OwnB wx base v (framedL o (z.take M))) => refTag_any k n o (z.take M) v base wx ho huo hHu HFL.out
 obtain ⟨H, hH⟩ : ∃ q, z.take M = q := ⟨_, rfl⟩
 obtain ⟨T, hT⟩ : ∃ q, z.drop M = q := ⟨_, rfl⟩
 obtain ⟨Y1, hY1⟩ : ∃ q, subA y cb 0 = q := ⟨_, rfl⟩
 obtain ⟨Y2, hY2⟩ : ∃ q, subA y cb M = q := ⟨_, rfl⟩
 rw [hH] at hhid hTl hse htg
 try rw [hH]
 rw [hT] at htld hse
 rw [hY1] at hcutL hhid
 rw [hY2] at hcutR htld
 have hfr := fun wx (hb : Below w.heap.size w wx) => refFramed_any x len cap o Y1 M cb H wx (hx.below hb) (hhid wx hb) hl1 (by omega)
 have hxor : ∀ wx, Below w.heap.size w wx → Calls Tryz.prog 53 #[.agg (List.map (Value.int .u8) k).toArray, .agg (List.map (Value.int .u8) n).toArray, .int .u32 1, .slice Y1 M cb] wx fun e w' => ∃ v, e = .returned v ∧ OwnB w' wx.heap.size v (xorL k n 1 H) ∧ Below wx.heap.size wx w' := fun wx hb => refXor_any k n 1 Y1 M cb H wx hk hn (hhid wx hb) (by omega)
 obtain ⟨TG, hTG⟩ : ∃ q, tagL k n o H = q := ⟨_, rfl⟩
 rw [hTG] at htg hTl hse
 obtain ⟨OT, hOT⟩ : ∃ q, onceL k n = q := ⟨_, rfl⟩
 rw [hOT] at hon htg
 obtain ⟨F, hF⟩ : ∃ q, framedL o H = q := ⟨_, rfl⟩
 rw [hF] at hfr htg
 obtain ⟨SG, hSG⟩ : ∃ q, strOfNums TG = q := ⟨_, rfl⟩
 obtain ⟨ST, hST⟩ : ∃ q, strOfNums T = q := ⟨_, rfl⟩
 rw [hSG, hST] at hse
 have HSG : Veil (strOfNums TG = SG) := ⟨hSG⟩
 have HST : Veil (∀ wx, Below w.heap.size w wx → (convert 74 9 (.slice Y2 16 (cb - M))).run Tryz.prog wx = .ok (.string ST) wx) := ⟨fun wx hb => by rw [← hST]; exact conv_bytes (htld wx hb)⟩
 have uK := Tryz.underlying23
 have uN := Tryz.underlying78
 have iK : (Tryz.prog.info? 23).map (·.size) = some (k.map (Value.int .u8)).length := by rw [List.length_map, hk]; exact sizeK
 have iN : (Tryz.prog.info? 78).map (·.size) = some (n.map (Value.int .u8)).length := by rw [List.length_map, hn]; exact sizeN
 have hK0 := (Holds.new w .u8 23 k).alloc (.cells (row .u8 n) 78)
 have hN0 := Holds.new (w.alloc (.cells (row .u8 k) 23)) .u8 78 n
 have hB0 : Below w.heap.size w ((w.alloc (.cells (row .u8 k) 23)).alloc (.cells (row .u8 n) 78)) := ((Below.refl _ _).alloc (Nat.le_refl _) _).alloc (by simp) _
 rw [World.size_alloc] at hN0
 clear hH hT hY1 hY2 hTG hOT hF hSG hST hx hy he huo huz hzl hM hHu hDu hHl hTu HFL hhid htld
 go_enter Tryz.func47, Tryz.ntmps47
 go_upto_region 4 with fail
 refine forget (p := fun y => Code.wp _ _ _ _ y) (fun W0 => Below w.heap.size w W0 ∧ Holds W0 w.heap.size .u8 23 k ∧ Holds W0 (w.heap.size + 1) .u8 78 n) ⟨hB0, hK0, hN0⟩ ?_
 clear hK0 hN0 hB0
 rintro W0 ⟨hB0, hK0, hN0⟩
 ·
  refine wp_region_gate (fun w' => w'.rangeAt w.heap.size 0 (k.map (Value.int .u8)) ∧ w'.rangeAt (w.heap.size + 1) 0 (n.map (Value.int .u8))) 10 (by kernel_rfl) ?_
  have keep : ∀ w', Below W0.heap.size W0 w' → w'.rangeAt w.heap.size 0 (k.map (Value.int .u8)) ∧ w'.rangeAt (w.heap.size + 1) 0 (n.map (Value.int .u8)) := fun w' hb => ⟨(hK0.below hb hK0.lt).rangeAll, (hN0.below hb hN0.lt).rangeAll⟩
  obtain ⟨V0, hV0⟩ : ∃ q, W0.drew = q := ⟨_, rfl⟩
  have hb0 : Below W0.heap.size W0 V0 := by rw [← hV0]; exact (Below.refl _ _).drew
  rw [hV0]
  clear hV0
  have hS := keep _ hb0
  refine wpAnyG_load (i := 0) (dst := some 17) (ty := 23) (x := .tmp 4) (b := w.heap.size) (o := (0)) (cs := (k.map (Value.int .u8))) (by kernel_rfl) (by kernel_rfl) (by kernel_rfl) (by kernel_rfl) (by kernel_rfl) (fun _ _ _ h => h) (by kernel_rfl) (by kernel_rfl) (by kernel_rfl) hS (by kernel_rfl) (fun _ h => h.1) uK rfl iK ?_
  simp only [Act.put, sI, sZ, sS]
  refine wpAnyG_load (i := 1) (dst := some 18) (ty := 78) (x := .tmp 5) (b := (w.heap.size + 1)) (o := (0)) (cs := (n.map (Value.int .u8))) (by kernel_rfl) (by kernel_rfl) (by kernel_rfl) (by kernel_rfl) (by kernel_rfl) (fun _ _ _ h => h) (by kernel_rfl) (by kernel_rfl) (by kernel_rfl) hS (by kernel_rfl) (fun _ h => h.2) uN rfl iN ?_
  simp only [Act.put, sI, sZ, sS]
  refine gaA 3 _ hS ?_
  simp only [Act.put, sI, sZ, sS]
  refine gaA 4 _ hS ?_
  simp only [Act.put, sI, sZ, sS]
  refine gaA 5 _ hS ?_
  simp only [Act.put, sI, sZ, sS]
  refine gaA 6 _ hS ?_
  simp only [Act.put, sI, sZ, sS]
  refine wpAnyG_two (i := 2) (j := 9) rfl rfl (by kernel_rfl) (by kernel_rfl) (by kernel_rfl) (fun K hK => ?_) (fun K hK => ?_)
  · skip
    go_wp2_with (go_at_call 55; refine (hon _).mono ?_; rintro e u1 ⟨rfl, hx1⟩)
    have hb1 : Below W0.heap.size W0 u1 := hb0.trans (hx1.mono hb0.size)
    replace hS := keep _ hb1
    refine hK.out _ _ (fun _ => hS) ?_
    clear hK K
    refine wpAnyG_two (i := 7) (j := 9) rfl rfl (by kernel_rfl) (by kernel_rfl) (by kernel_rfl) (fun K hK => ?_) (fun K hK => ?_)
    · skip
      go_wp2_with (go_at_call 56; refine (hfr _ (hB0.trans (hb1.mono hB0.size))).mono ?_; rintro e u2 ⟨v2, rfl, ho2, hx2⟩)
      have hb2 : Below W0.heap.size W0 u2 := hb1.trans (hx2.mono hb1.size)
      replace hS := keep _ hb2
      refine hK.out _ _ (fun _ => hS) ?_
      clear hK K
      refine wpAnyG_two (i := 8) (j := 9) rfl rfl (by kernel_rfl) (by kernel_rfl) (by kernel_rfl) (fun K hK => ?_) (fun K hK => ?_)
      · skip
        go_wp2_with (go_at_call 54; refine (htg _ _ _ ho2).mono ?_; rintro e u3 ⟨rfl, hx3⟩)
        have hb3 : Below W0.heap.size W0 u3 := hb2.trans (hx3.mono hb2.size)
        replace hS := keep _ hb3
        refine hK.out _ _ (fun _ => hS) ?_
        clear hK K
        refine wpAnyG_one (i := 9) rfl (by kernel_rfl) (by kernel_rfl) (fun K hK => ?_)
        have hge3 := hb3.size
        go_simp
        have hA4 : Holds (u3.alloc (.cells (row .u8 (List.replicate 16 0)) 87)) u3.heap.size .u8 87 (List.replicate 16 0) := Holds.new u3 .u8 87 (List.replicate 16 0)
        have hn4 : Below u3.heap.size u3 (u3.alloc (.cells (row .u8 (List.replicate 16 0)) 87)) := (Below.refl _ _).alloc (Nat.le_refl _) _
        have hb4 : Below W0.heap.size W0 (u3.alloc (.cells (row .u8 (List.replicate 16 0)) 87)) := hb3.trans (hn4.mono hb3.size)
        replace hS := keep _ hb4
        refine hK.out _ _ (fun _ => hS) ?_
        clear hK K
        obtain ⟨G4, hGe4⟩ : ∃ q, u3.heap.size = q := ⟨_, rfl⟩
        obtain ⟨U4, hU4⟩ : ∃ q, u3.alloc (.cells (row .u8 (List.replicate 16 0)) 87) = q := ⟨_, rfl⟩
        have hc4 : u3.alloc (.cells #[.int .u8 0, .int .u8 0, .int .u8 0, .int .u8 0, .int .u8 0, .int .u8 0, .int .u8 0, .int .u8 0, .int .u8 0, .int .u8 0, .int .u8 0, .int .u8 0, .int .u8 0, .int .u8 0, .int .u8 0, .int .u8 0] 87) = U4 := hU4
        rw [hU4, hGe4] at hA4
        rw [hGe4] at hge3
        rw [hU4] at hb4 hS 
        rw [hc4, hGe4]
        clear hGe4 hU4 hc4 hn4
        refine wpAnyG_one (i := 10) rfl (by kernel_rfl) (by kernel_rfl) (fun K hK => ?_)
        refine wp_stG 87 _ _ rfl _ rfl rfl hA4 (by rw [hTl]; exact sizeT) (by simp [hTl]) ?_
        refine hK.out _ _ (fun h => absurd (show true = false from h) (by decide)) ?_
        clear hK K
        refine wpAnyG_done (by kernel_rfl) ?_ _
        have hz5 : Below W0.heap.size W0 (U4.setRow G4 (row .u8 TG)) := below_setRow hb4 hge3 _
        refine forget (p := fun y => Exit.then _ _ _ _ y) (fun W => Below W0.heap.size W0 W ∧ Holds W G4 .u8 87 TG) ⟨hz5, hA4.setRow TG⟩ ?_
        rintro W1 ⟨hb01, hG1⟩
        have hB1 : Below w.heap.size w W1 := hB0.trans (hb01.mono hB0.size)
        have hK1 := hK0.below hb01 hK0.lt
        have hN1 := hN0.below hb01 hN0.lt
        have hcg : ∀ wx, Below W1.heap.size W1 wx → (convert 74 9 (.slice (some ⟨G4, 0, none⟩) 16 16)).run Tryz.prog wx = .ok (.string SG) wx := fun wx hb => by rw [← HSG.out]; exact conv_bytes ((hG1.below hb hG1.lt).bytes hTl.symm (by omega))
        have hct : ∀ wx, Below W1.heap.size W1 wx → (convert 74 9 (.slice Y2 16 (cb - M))).run Tryz.prog wx = .ok (.string ST) wx := fun wx hb => HST.out wx (hB1.trans (hb.mono hB1.size))
        clear hK0 hN0 hb01 hG1 HSG HST hfr htg hon
        go_upto_region 5 with fail
        refine wp_region_gate (fun w' => (convert 74 9 (.slice (some ⟨G4, 0, none⟩) 16 16)).run Tryz.prog w' = .ok (.string SG) w' ∧ (convert 74 9 (.slice Y2 16 (cb - M))).run Tryz.prog w' = .ok (.string ST) w') 6 (by kernel_rfl) ?_
        have hS := And.intro (hcg _ (Below.refl _ _).drew) (hct _ (Below.refl _ _).drew)
        refine gaA 0 _ hS ?_
        simp only [Act.put, sI, sZ, sS]
        refine grA 1 _ hS ?_
        simp only [Act.put, sI, sZ, sS]
        refine gaA 2 _ hS ?_
        simp only [Act.put, sI, sZ, sS]
        refine gaA 3 _ hS ?_
        simp only [Act.put, sI, sZ, sS]
        refine gaA 4 _ hS ?_
        simp only [Act.put, sI, sZ, sS]
        refine grA 5 _ hS ?_
        simp only [Act.put, sI, sZ, sS]
        refine wpAnyG_one (i := 6) rfl (by kernel_rfl) (by kernel_rfl) (fun K hK => ?_)
        go_simp
        refine hK.out _ _ (fun h => absurd (show true = false from h) (by decide)) ?_
        clear hK K
        refine wpAnyG_done (by kernel_rfl) ?_ _
        clear hcg hct hS
        go_upto_region 7 with fail
        refine forget (p := fun y => Code.wp _ _ _ _ y) (fun W2 => Below W1.heap.size W1 W2) (Below.refl _ _).drew ?_
        rintro W2 hb12
        have hK2 := hK1.below hb12 hK1.lt
        have hN2 := hN1.below hb12 hN1.lt
        have hB2 : Below w.heap.size w W2 := hB1.trans (hb12.mono hB1.size)
        clear hK1 hN1 hb12
        refine wp_region_gate (fun w' => w'.rangeAt w.heap.size 0 (k.map (Value.int .u8)) ∧ w'.rangeAt (w.heap.size + 1) 0 (n.map (Value.int .u8))) 7 (by kernel_rfl) ?_
        have hS := And.intro hK2.drew.rangeAll hN2.drew.rangeAll
        refine wpAnyG_load (i := 0) (dst := some 33) (ty := 23) (x := .tmp 4) (b := w.heap.size) (o := (0)) (cs := (k.map (Value.int .u8))) (by kernel_rfl) (by kernel_rfl) (by kernel_rfl) (by kernel_rfl) (by kernel_rfl) (fun _ _ _ h => h) (by kernel_rfl) (by kernel_rfl) (by kernel_rfl) hS (by kernel_rfl) (fun _ h => h.1) uK rfl iK ?_
        simp only [Act.put, sI, sZ, sS]
        refine wpAnyG_load (i := 1) (dst := some 34) (ty := 78) (x := .tmp 5) (b := (w.heap.size + 1)) (o := (0)) (cs := (n.map (Value.int .u8))) (by kernel_rfl) (by kernel_rfl) (by kernel_rfl) (by kernel_rfl) (by kernel_rfl) (fun _ _ _ h => h) (by kernel_rfl) (by kernel_rfl) (by kernel_rfl) hS (by kernel_rfl) (fun _ h => h.2) uN rfl iN ?_
        simp only [Act.put, sI, sZ, sS]
        refine gaA 2 _ hS ?_
        simp only [Act.put, sI, sZ, sS]
        refine gaA 3 _ hS ?_
        simp only [Act.put, sI, sZ, sS]
        refine gaA 4 _ hS ?_
        simp only [Act.put, sI, sZ, sS]
        refine wpAnyG_one (i := 5) rfl (by kernel_rfl) (by kernel_rfl) (fun K hK => ?_)
        go_wp2_with (go_at_call 53; refine (hxor _ hB2.drew).mono ?_; rintro e w5 ⟨v5, rfl, ho5, hb5⟩)
        have hb25 : Below W2.heap.size W2 w5 := ((Below.refl _ _).drew).trans hb5
        replace hS := And.intro (hK2.below hb25 hK2.lt).rangeAll (hN2.below hb25 hN2.lt).rangeAll
        refine hK.out _ _ (fun _ => hS) ?_
        clear hK K
        refine wpAnyG_one (i := 6) rfl (by kernel_rfl) (by kernel_rfl) (fun K hK => ?_)
        go_simp
        refine hK.out _ _ (fun _ => hS) ?_
        clear hK K
        refine wpAnyG_one (i := 7) rfl (by kernel_rfl) (by kernel_rfl) (fun K hK => ?_)
        go_simp
        refine hK.out _ _ (fun h => absurd (show true = false from h) (by decide)) ?_
        clear hK K
        refine wpAnyG_done (by kernel_rfl) ?_ _
        go_wp2
        go_ret2
        have hsz2 := hB2.size
        exact ⟨_, rfl, ho5.lessG hsz2, hB2.trans (hb25.mono hB2.size)⟩
      · skip
        have hge5 := hb2.size
        go_simp
        have hA6 : Holds (u2.alloc (.cells (row .u8 (List.replicate 16 0)) 87)) u2.heap.size .u8 87 (List.replicate 16 0) := Holds.new u2 .u8 87 (List.replicate 16 0)
        have hn6 : Below u2.heap.size u2 (u2.alloc (.cells (row .u8 (List.replicate 16 0)) 87)) := (Below.refl _ _).alloc (Nat.le_refl _) _
        have hb6 : Below W0.heap.size W0 (u2.alloc (.cells (row .u8 (List.replicate 16 0)) 87)) := hb2.trans (hn6.mono hb2.size)
        have ho2n6 := ho2.afar hn6
        replace hS := keep _ hb6
        refine hK.out _ _ (fun _ => hS) ?_
        clear hK K
        obtain ⟨G6, hGe6⟩ : ∃ q, u2.heap.size = q := ⟨_, rfl⟩
        obtain ⟨U6, hU6⟩ : ∃ q, u2.alloc (.cells (row .u8 (List.replicate 16 0)) 87) = q := ⟨_, rfl⟩
        have hc6 : u2.alloc (.cells #[.int .u8 0, .int .u8 0, .int .u8 0, .int .u8 0, .int .u8 0, .int .u8 0, .int .u8 0, .int .u8 0, .int .u8 0, .int .u8 0, .int .u8 0, .int .u8 0, .int .u8 0, .int .u8 0, .int .u8 0, .int .u8 0] 87) = U6 := hU6
        rw [hU6, hGe6] at hA6
        rw [hGe6] at hge5
        rw [hU6] at hb6 hS ho2n6
        rw [hc6, hGe6]
        clear hGe6 hU6 hc6 hn6
        refine wpAnyG_one (i := 8) rfl (by kernel_rfl) (by kernel_rfl) (fun K hK => ?_)
        go_wp2_with (go_at_call 54; refine (htg _ _ _ ho2n6).mono ?_; rintro e u7 ⟨rfl, hx7⟩)
        have hb7 : Below W0.heap.size W0 u7 := hb6.trans (hx7.mono hb6.size)
        replace hS := keep _ hb7
        have hAc7 := hA6.below hx7 hA6.lt
        refine hK.out _ _ (fun _ => hS) ?_
        clear hK K
        refine wpAnyG_one (i := 10) rfl (by kernel_rfl) (by kernel_rfl) (fun K hK => ?_)
        refine wp_stG 87 _ _ rfl _ rfl rfl hAc7 (by rw [hTl]; exact sizeT) (by simp [hTl]) ?_
        refine hK.out _ _ (fun h => absurd (show true = false from h) (by decide)) ?_
        clear hK K
        refine wpAnyG_done (by kernel_rfl) ?_ _
        have hz8 : Below W0.heap.size W0 (u7.setRow G6 (row .u8 TG)) := below_setRow hb7 hge5 _
        refine forget (p := fun y => Exit.then _ _ _ _ y) (fun W => Below W0.heap.size W0 W ∧ Holds W G6 .u8 87 TG) ⟨hz8, hAc7.setRow TG⟩ ?_
        rintro W1 ⟨hb01, hG1⟩
        have hB1 : Below w.heap.size w W1 := hB0.trans (hb01.mono hB0.size)
        have hK1 := hK0.below hb01 hK0.lt
        have hN1 := hN0.below hb01 hN0.lt
        have hcg : ∀ wx, Below W1.heap.size W1 wx → (convert 74 9 (.slice (some ⟨G6, 0, none⟩) 16 16)).run Tryz.prog wx = .ok (.string SG) wx := fun wx hb => by rw [← HSG.out]; exact conv_bytes ((hG1.below hb hG1.lt).bytes hTl.symm (by omega))
        have hct : ∀ wx, Below W1.heap.size W1 wx → (convert 74 9 (.slice Y2 16 (cb - M))).run Tryz.prog wx = .ok (.string ST) wx := fun wx hb => HST.out wx (hB1.trans (hb.mono hB1.size))
        clear hK0 hN0 hb01 hG1 HSG HST hfr htg hon
        go_upto_region 5 with fail
        refine wp_region_gate (fun w' => (convert 74 9 (.slice (some ⟨G6, 0, none⟩) 16 16)).run Tryz.prog w' = .ok (.string SG) w' ∧ (convert 74 9 (.slice Y2 16 (cb - M))).run Tryz.prog w' = .ok (.string ST) w') 6 (by kernel_rfl) ?_
        have hS := And.intro (hcg _ (Below.refl _ _).drew) (hct _ (Below.refl _ _).drew)
        refine gaA 0 _ hS ?_
        simp only [Act.put, sI, sZ, sS]
        refine grA 1 _ hS ?_
        simp only [Act.put, sI, sZ, sS]
        refine gaA 2 _ hS ?_
        simp only [Act.put, sI, sZ, sS]
        refine gaA 3 _ hS ?_
        simp only [Act.put, sI, sZ, sS]
        refine gaA 4 _ hS ?_
        simp only [Act.put, sI, sZ, sS]
        refine grA 5 _ hS ?_
        simp only [Act.put, sI, sZ, sS]
        refine wpAnyG_one (i := 6) rfl (by kernel_rfl) (by kernel_rfl) (fun K hK => ?_)
        go_simp
        refine hK.out _ _ (fun h => absurd (show true = false from h) (by decide)) ?_
        clear hK K
        refine wpAnyG_done (by kernel_rfl) ?_ _
        clear hcg hct hS
        go_upto_region 7 with fail
        refine forget (p := fun y => Code.wp _ _ _ _ y) (fun W2 => Below W1.heap.size W1 W2) (Below.refl _ _).drew ?_
        rintro W2 hb12
        have hK2 := hK1.below hb12 hK1.lt
        have hN2 := hN1.below hb12 hN1.lt
        have hB2 : Below w.heap.size w W2 := hB1.trans (hb12.mono hB1.size)
        clear hK1 hN1 hb12
        refine wp_region_gate (fun w' => w'.rangeAt w.heap.size 0 (k.map (Value.int .u8)) ∧ w'.rangeAt (w.heap.size + 1) 0 (n.map (Value.int .u8))) 7 (by kernel_rfl) ?_
        have hS := And.intro hK2.drew.rangeAll hN2.drew.rangeAll
        refine wpAnyG_load (i := 0) (dst := some 33) (ty := 23) (x := .tmp 4) (b := w.heap.size) (o := (0)) (cs := (k.map (Value.int .u8))) (by kernel_rfl) (by kernel_rfl) (by kernel_rfl) (by kernel_rfl) (by kernel_rfl) (fun _ _ _ h => h) (by kernel_rfl) (by kernel_rfl) (by kernel_rfl) hS (by kernel_rfl) (fun _ h => h.1) uK rfl iK ?_
        simp only [Act.put, sI, sZ, sS]
        refine wpAnyG_load (i := 1) (dst := some 34) (ty := 78) (x := .tmp 5) (b := (w.heap.size + 1)) (o := (0)) (cs := (n.map (Value.int .u8))) (by kernel_rfl) (by kernel_rfl) (by kernel_rfl) (by kernel_rfl) (by kernel_rfl) (fun _ _ _ h => h) (by kernel_rfl) (by kernel_rfl) (by kernel_rfl) hS (by kernel_rfl) (fun _ h => h.2) uN rfl iN ?_
        simp only [Act.put, sI, sZ, sS]
        refine gaA 2 _ hS ?_
        simp only [Act.put, sI, sZ, sS]
        refine gaA 3 _ hS ?_
        simp only [Act.put, sI, sZ, sS]
        refine gaA 4 _ hS ?_
        simp only [Act.put, sI, sZ, sS]
        refine wpAnyG_one (i := 5) rfl (by kernel_rfl) (by kernel_rfl) (fun K hK => ?_)
        go_wp2_with (go_at_call 53; refine (hxor _ hB2.drew).mono ?_; rintro e w5 ⟨v5, rfl, ho5, hb5⟩)
        have hb25 : Below W2.heap.size W2 w5 := ((Below.refl _ _).drew).trans hb5
        replace hS := And.intro (hK2.below hb25 hK2.lt).rangeAll (hN2.below hb25 hN2.lt).rangeAll
        refine hK.out _ _ (fun _ => hS) ?_
        clear hK K
        refine wpAnyG_one (i := 6) rfl (by kernel_rfl) (by kernel_rfl) (fun K hK => ?_)
        go_simp
        refine hK.out _ _ (fun _ => hS) ?_
        clear hK K
        refine wpAnyG_one (i := 7) rfl (by kernel_rfl) (by kernel_rfl) (fun K hK => ?_)
        go_simp
        refine hK.out _ _ (fun h => absurd (show true = false from h) (by decide)) ?_
        clear hK K
        refine wpAnyG_done (by kernel_rfl) ?_ _
        go_wp2
        go_ret2
        have hsz2 := hB2.size
        exact ⟨_, rfl, ho5.lessG hsz2, hB2.trans (hb25.mono hB2.size)⟩
    · skip
      have hge8 := hb1.size
      go_simp
      have hA9 : Holds (u1.alloc (.cells (row .u8 (List.replicate 16 0)) 87)) u1.heap.size .u8 87 (List.replicate 16 0) := Holds.new u1 .u8 87 (List.replicate 16 0)
      have hn9 : Below u1.heap.size u1 (u1.alloc (.cells (row .u8 (List.replicate 16 0)) 87)) := (Below.refl _ _).alloc (Nat.le_refl _) _
      have hb9 : Below W0.heap.size W0 (u1.alloc (.cells (row .u8 (List.replicate 16 0)) 87)) := hb1.trans (hn9.mono hb1.size)
      replace hS := keep _ hb9
      refine hK.out _ _ (fun _ => hS) ?_
      clear hK K
      obtain ⟨G9, hGe9⟩ : ∃ q, u1.heap.size = q := ⟨_, rfl⟩
      obtain ⟨U9, hU9⟩ : ∃ q, u1.alloc (.cells (row .u8 (List.replicate 16 0)) 87) = q := ⟨_, rfl⟩
      have hc9 : u1.alloc (.cells #[.int .u8 0, .int .u8 0, .int .u8 0, .int .u8 0, .int .u8 0, .int .u8 0, .int .u8 0, .int .u8 0, .int .u8 0, .int .u8 0, .int .u8 0, .int .u8 0, .int .u8 0, .int .u8 0, .int .u8 0, .int .u8 0] 87) = U9 := hU9
      rw [hU9, hGe9] at hA9
      rw [hGe9] at hge8
      rw [hU9] at hb9 hS 
      rw [hc9, hGe9]
      clear hGe9 hU9 hc9 hn9
      refine wpAnyG_one (i := 7) rfl (by kernel_rfl) (by kernel_rfl) (fun K hK => ?_)
      go_wp2_with (go_at_call 56; refine (hfr _ (hB0.trans (hb9.mono hB0.size))).mono ?_; rintro e u10 ⟨v10, rfl, ho10, hx10⟩)
      have hb10 : Below W0.heap.size W0 u10 := hb9.trans (hx10.mono hb9.size)
      replace hS := keep _ hb10
      have hAc10 := hA9.below hx10 hA9.lt
      refine hK.out _ _ (fun _ => hS) ?_
      clear hK K
      refine wpAnyG_one (i := 8) rfl (by kernel_rfl) (by kernel_rfl) (fun K hK => ?_)
      go_wp2_with (go_at_call 54; refine (htg _ _ _ ho10).mono ?_; rintro e u11 ⟨rfl, hx11⟩)
      have hb11 : Below W0.heap.size W0 u11 := hb10.trans (hx11.mono hb10.size)
      replace hS := keep _ hb11
      have hAc11 := hAc10.below hx11 hAc10.lt
      refine hK.out _ _ (fun _ => hS) ?_
      clear hK K
      refine wpAnyG_one (i := 10) rfl (by kernel_rfl) (by kernel_rfl) (fun K hK => ?_)
      refine wp_stG 87 _ _ rfl _ rfl rfl hAc11 (by rw [hTl]; exact sizeT) (by simp [hTl]) ?_
      refine hK.out _ _ (fun h => absurd (show true = false from h) (by decide)) ?_
      clear hK K
      refine wpAnyG_done (by kernel_rfl) ?_ _
      have hz12 : Below W0.heap.size W0 (u11.setRow G9 (row .u8 TG)) := below_setRow hb11 hge8 _
      refine forget (p := fun y => Exit.then _ _ _ _ y) (fun W => Below W0.heap.size W0 W ∧ Holds W G9 .u8 87 TG) ⟨hz12, hAc11.setRow TG⟩ ?_
      rintro W1 ⟨hb01, hG1⟩
      have hB1 : Below w.heap.size w W1 := hB0.trans (hb01.mono hB0.size)
      have hK1 := hK0.below hb01 hK0.lt
      have hN1 := hN0.below hb01 hN0.lt
      have hcg : ∀ wx, Below W1.heap.size W1 wx → (convert 74 9 (.slice (some ⟨G9, 0, none⟩) 16 16)).run Tryz.prog wx = .ok (.string SG) wx := fun wx hb => by rw [← HSG.out]; exact conv_bytes ((hG1.below hb hG1.lt).bytes hTl.symm (by omega))
      have hct : ∀ wx, Below W1.heap.size W1 wx → (convert 74 9 (.slice Y2 16 (cb - M))).run Tryz.prog wx = .ok (.string ST) wx := fun wx hb => HST.out wx (hB1.trans (hb.mono hB1.size))
      clear hK0 hN0 hb01 hG1 HSG HST hfr htg hon
      go_upto_region 5 with fail
      refine wp_region_gate (fun w' => (convert 74 9 (.slice (some ⟨G9, 0, none⟩) 16 16)).run Tryz.prog w' = .ok (.string SG) w' ∧ (convert 74 9 (.slice Y2 16 (cb - M))).run Tryz.prog w' = .ok (.string ST) w') 6 (by kernel_rfl) ?_
      have hS := And.intro (hcg _ (Below.refl _ _).drew) (hct _ (Below.refl _ _).drew)
      refine gaA 0 _ hS ?_
      simp only [Act.put, sI, sZ, sS]
      refine grA 1 _ hS ?_
      simp only [Act.put, sI, sZ, sS]
      refine gaA 2 _ hS ?_
      simp only [Act.put, sI, sZ, sS]
      refine gaA 3 _ hS ?_
      simp only [Act.put, sI, sZ, sS]
      refine gaA 4 _ hS ?_
      simp only [Act.put, sI, sZ, sS]
      refine grA 5 _ hS ?_
      simp only [Act.put, sI, sZ, sS]
      refine wpAnyG_one (i := 6) rfl (by kernel_rfl) (by kernel_rfl) (fun K hK => ?_)
      go_simp
      refine hK.out _ _ (fun h => absurd (show true = false from h) (by decide)) ?_
      clear hK K
      refine wpAnyG_done (by kernel_rfl) ?_ _
      clear hcg hct hS
      go_upto_region 7 with fail
      refine forget (p := fun y => Code.wp _ _ _ _ y) (fun W2 => Below W1.heap.size W1 W2) (Below.refl _ _).drew ?_
      rintro W2 hb12
      have hK2 := hK1.below hb12 hK1.lt
      have hN2 := hN1.below hb12 hN1.lt
      have hB2 : Below w.heap.size w W2 := hB1.trans (hb12.mono hB1.size)
      clear hK1 hN1 hb12
      refine wp_region_gate (fun w' => w'.rangeAt w.heap.size 0 (k.map (Value.int .u8)) ∧ w'.rangeAt (w.heap.size + 1) 0 (n.map (Value.int .u8))) 7 (by kernel_rfl) ?_
      have hS := And.intro hK2.drew.rangeAll hN2.drew.rangeAll
      refine wpAnyG_load (i := 0) (dst := some 33) (ty := 23) (x := .tmp 4) (b := w.heap.size) (o := (0)) (cs := (k.map (Value.int .u8))) (by kernel_rfl) (by kernel_rfl) (by kernel_rfl) (by kernel_rfl) (by kernel_rfl) (fun _ _ _ h => h) (by kernel_rfl) (by kernel_rfl) (by kernel_rfl) hS (by kernel_rfl) (fun _ h => h.1) uK rfl iK ?_
      simp only [Act.put, sI, sZ, sS]
      refine wpAnyG_load (i := 1) (dst := some 34) (ty := 78) (x := .tmp 5) (b := (w.heap.size + 1)) (o := (0)) (cs := (n.map (Value.int .u8))) (by kernel_rfl) (by kernel_rfl) (by kernel_rfl) (by kernel_rfl) (by kernel_rfl) (fun _ _ _ h => h) (by kernel_rfl) (by kernel_rfl) (by kernel_rfl) hS (by kernel_rfl) (fun _ h => h.2) uN rfl iN ?_
      simp only [Act.put, sI, sZ, sS]
      refine gaA 2 _ hS ?_
      simp only [Act.put, sI, sZ, sS]
      refine gaA 3 _ hS ?_
      simp only [Act.put, sI, sZ, sS]
      refine gaA 4 _ hS ?_
      simp only [Act.put, sI, sZ, sS]
      refine wpAnyG_one (i := 5) rfl (by kernel_rfl) (by kernel_rfl) (fun K hK => ?_)
      go_wp2_with (go_at_call 53; refine (hxor _ hB2.drew).mono ?_; rintro e w5 ⟨v5, rfl, ho5, hb5⟩)
      have hb25 : Below W2.heap.size W2 w5 := ((Below.refl _ _).drew).trans hb5
      replace hS := And.intro (hK2.below hb25 hK2.lt).rangeAll (hN2.below hb25 hN2.lt).rangeAll
      refine hK.out _ _ (fun _ => hS) ?_
      clear hK K
      refine wpAnyG_one (i := 6) rfl (by kernel_rfl) (by kernel_rfl) (fun K hK => ?_)
      go_simp
      refine hK.out _ _ (fun _ => hS) ?_
      clear hK K
      refine wpAnyG_one (i := 7) rfl (by kernel_rfl) (by kernel_rfl) (fun K hK => ?_)
      go_simp
      refine hK.out _ _ (fun h => absurd (show true = false from h) (by decide)) ?_
      clear hK K
      refine wpAnyG_done (by kernel_rfl) ?_ _
      go_wp2
      go_ret2
      have hsz2 := hB2.size
      exact ⟨_, rfl, ho5.lessG hsz2, hB2.trans (hb25.mono hB2.size)⟩
  · skip
    have hge12 := hb0.size
    go_simp
    have hA13 : Holds (V0.alloc (.cells (row .u8 (List.replicate 16 0)) 87)) V0.heap.size .u8 87 (List.replicate 16 0) := Holds.new V0 .u8 87 (List.replicate 16 0)
    have hn13 : Below V0.heap.size V0 (V0.alloc (.cells (row .u8 (List.replicate 16 0)) 87)) := (Below.refl _ _).alloc (Nat.le_refl _) _
    have hb13 : Below W0.heap.size W0 (V0.alloc (.cells (row .u8 (List.replicate 16 0)) 87)) := hb0.trans (hn13.mono hb0.size)
    replace hS := keep _ hb13
    refine hK.out _ _ (fun _ => hS) ?_
    clear hK K
    obtain ⟨G13, hGe13⟩ : ∃ q, V0.heap.size = q := ⟨_, rfl⟩
    obtain ⟨U13, hU13⟩ : ∃ q, V0.alloc (.cells (row .u8 (List.replicate 16 0)) 87) = q := ⟨_, rfl⟩
    have hc13 : V0.alloc (.cells #[.int .u8 0, .int .u8 0, .int .u8 0, .int .u8 0, .int .u8 0, .int .u8 0, .int .u8 0, .int .u8 0, .int .u8 0, .int .u8 0, .int .u8 0, .int .u8 0, .int .u8 0, .int .u8 0, .int .u8 0, .int .u8 0] 87) = U13 := hU13
    rw [hU13, hGe13] at hA13
    rw [hGe13] at hge12
    rw [hU13] at hb13 hS 
    rw [hc13, hGe13]
    clear hGe13 hU13 hc13 hn13
    refine wpAnyG_one (i := 2) rfl (by kernel_rfl) (by kernel_rfl) (fun K hK => ?_)
    go_wp2_with (go_at_call 55; refine (hon _).mono ?_; rintro e u14 ⟨rfl, hx14⟩)
    have hb14 : Below W0.heap.size W0 u14 := hb13.trans (hx14.mono hb13.size)
    replace hS := keep _ hb14
    have hAc14 := hA13.below hx14 hA13.lt
    refine hK.out _ _ (fun _ => hS) ?_
    clear hK K
    refine wpAnyG_one (i := 7) rfl (by kernel_rfl) (by kernel_rfl) (fun K hK => ?_)
    go_wp2_with (go_at_call 56; refine (hfr _ (hB0.trans (hb14.mono hB0.size))).mono ?_; rintro e u15 ⟨v15, rfl, ho15, hx15⟩)
    have hb15 : Below W0.heap.size W0 u15 := hb14.trans (hx15.mono hb14.size)
    replace hS := keep _ hb15
    have hAc15 := hAc14.below hx15 hAc14.lt
    refine hK.out _ _ (fun _ => hS) ?_
    clear hK K
    refine wpAnyG_one (i := 8) rfl (by kernel_rfl) (by kernel_rfl) (fun K hK => ?_)
    go_wp2_with (go_at_call 54; refine (htg _ _ _ ho15).mono ?_; rintro e u16 ⟨rfl, hx16⟩)
    have hb16 : Below W0.heap.size W0 u16 := hb15.trans (hx16.mono hb15.size)
    replace hS := keep _ hb16
    have hAc16 := hAc15.below hx16 hAc15.lt
    refine hK.out _ _ (fun _ => hS) ?_
    clear hK K
    refine wpAnyG_one (i := 10) rfl (by kernel_rfl) (by kernel_rfl) (fun K hK => ?_)
    refine wp_stG 87 _ _ rfl _ rfl rfl hAc16 (by rw [hTl]; exact sizeT) (by simp [hTl]) ?_
    refine hK.out _ _ (fun h => absurd (show true = false from h) (by decide)) ?_
    clear hK K
    refine wpAnyG_done (by kernel_rfl) ?_ _
    have hz17 : Below W0.heap.size W0 (u16.setRow G13 (row .u8 TG)) := below_setRow hb16 hge12 _
    refine forget (p := fun y => Exit.then _ _ _ _ y) (fun W => Below W0.heap.size W0 W ∧ Holds W G13 .u8 87 TG) ⟨hz17, hAc16.setRow TG⟩ ?_
    rintro W1 ⟨hb01, hG1⟩
    have hB1 : Below w.heap.size w W1 := hB0.trans (hb01.mono hB0.size)
    have hK1 := hK0.below hb01 hK0.lt
    have hN1 := hN0.below hb01 hN0.lt
    have hcg : ∀ wx, Below W1.heap.size W1 wx → (convert 74 9 (.slice (some ⟨G13, 0, none⟩) 16 16)).run Tryz.prog wx = .ok (.string SG) wx := fun wx hb => by rw [← HSG.out]; exact conv_bytes ((hG1.below hb hG1.lt).bytes hTl.symm (by omega))
    have hct : ∀ wx, Below W1.heap.size W1 wx → (convert 74 9 (.slice Y2 16 (cb - M))).run Tryz.prog wx = .ok (.string ST) wx := fun wx hb => HST.out wx (hB1.trans (hb.mono hB1.size))
    clear hK0 hN0 hb01 hG1 HSG HST hfr htg hon
    go_upto_region 5 with fail
    refine wp_region_gate (fun w' => (convert 74 9 (.slice (some ⟨G13, 0, none⟩) 16 16)).run Tryz.prog w' = .ok (.string SG) w' ∧ (convert 74 9 (.slice Y2 16 (cb - M))).run Tryz.prog w' = .ok (.string ST) w') 6 (by kernel_rfl) ?_
    have hS := And.intro (hcg _ (Below.refl _ _).drew) (hct _ (Below.refl _ _).drew)
    refine gaA 0 _ hS ?_
    simp only [Act.put, sI, sZ, sS]
    refine grA 1 _ hS ?_
    simp only [Act.put, sI, sZ, sS]
    refine gaA 2 _ hS ?_
    simp only [Act.put, sI, sZ, sS]
    refine gaA 3 _ hS ?_
    simp only [Act.put, sI, sZ, sS]
    refine gaA 4 _ hS ?_
    simp only [Act.put, sI, sZ, sS]
    refine grA 5 _ hS ?_
    simp only [Act.put, sI, sZ, sS]
    refine wpAnyG_one (i := 6) rfl (by kernel_rfl) (by kernel_rfl) (fun K hK => ?_)
    go_simp
    refine hK.out _ _ (fun h => absurd (show true = false from h) (by decide)) ?_
    clear hK K
    refine wpAnyG_done (by kernel_rfl) ?_ _
    clear hcg hct hS
    go_upto_region 7 with fail
    refine forget (p := fun y => Code.wp _ _ _ _ y) (fun W2 => Below W1.heap.size W1 W2) (Below.refl _ _).drew ?_
    rintro W2 hb12
    have hK2 := hK1.below hb12 hK1.lt
    have hN2 := hN1.below hb12 hN1.lt
    have hB2 : Below w.heap.size w W2 := hB1.trans (hb12.mono hB1.size)
    clear hK1 hN1 hb12
    refine wp_region_gate (fun w' => w'.rangeAt w.heap.size 0 (k.map (Value.int .u8)) ∧ w'.rangeAt (w.heap.size + 1) 0 (n.map (Value.int .u8))) 7 (by kernel_rfl) ?_
    have hS := And.intro hK2.drew.rangeAll hN2.drew.rangeAll
    refine wpAnyG_load (i := 0) (dst := some 33) (ty := 23) (x := .tmp 4) (b := w.heap.size) (o := (0)) (cs := (k.map (Value.int .u8))) (by kernel_rfl) (by kernel_rfl) (by kernel_rfl) (by kernel_rfl) (by kernel_rfl) (fun _ _ _ h => h) (by kernel_rfl) (by kernel_rfl) (by kernel_rfl) hS (by kernel_rfl) (fun _ h => h.1) uK rfl iK ?_
    simp only [Act.put, sI, sZ, sS]
    refine wpAnyG_load (i := 1) (dst := some 34) (ty := 78) (x := .tmp 5) (b := (w.heap.size + 1)) (o := (0)) (cs := (n.map (Value.int .u8))) (by kernel_rfl) (by kernel_rfl) (by kernel_rfl) (by kernel_rfl) (by kernel_rfl) (fun _ _ _ h => h) (by kernel_rfl) (by kernel_rfl) (by kernel_rfl) hS (by kernel_rfl) (fun _ h => h.2) uN rfl iN ?_
    simp only [Act.put, sI, sZ, sS]
    refine gaA 2 _ hS ?_
    simp only [Act.put, sI, sZ, sS]
    refine gaA 3 _ hS ?_
    simp only [Act.put, sI, sZ, sS]
    refine gaA 4 _ hS ?_
    simp only [Act.put, sI, sZ, sS]
    refine wpAnyG_one (i := 5) rfl (by kernel_rfl) (by kernel_rfl) (fun K hK => ?_)
    go_wp2_with (go_at_call 53; refine (hxor _ hB2.drew).mono ?_; rintro e w5 ⟨v5, rfl, ho5, hb5⟩)
    have hb25 : Below W2.heap.size W2 w5 := ((Below.refl _ _).drew).trans hb5
    replace hS := And.intro (hK2.below hb25 hK2.lt).rangeAll (hN2.below hb25 hN2.lt).rangeAll
    refine hK.out _ _ (fun _ => hS) ?_
    clear hK K
    refine wpAnyG_one (i := 6) rfl (by kernel_rfl) (by kernel_rfl) (fun K hK => ?_)
    go_simp
    refine hK.out _ _ (fun _ => hS) ?_
    clear hK K
    refine wpAnyG_one (i := 7) rfl (by kernel_rfl) (by kernel_rfl) (fun K hK => ?_)
    go_simp
    refine hK.out _ _ (fun h => absurd (show true = false from h) (by decide)) ?_
    clear hK K
    refine wpAnyG_done (by kernel_rfl) ?_ _
    go_wp2
    go_ret2
    have hsz2 := hB2.size
    exact ⟨_, rfl, ho5.lessG hsz2, hB2.trans (hb25.mono hB2.size)⟩
set_option maxHeartbeats 4000000 in
theorem refOpen_bad (k n : List Int) (x : Option Addr) (len cap : Nat) (o : List Int) (y : Option Addr) (lb cb : Nat) (z : List Int) (w : World) (hk : k.length = 32) (hn : n.length = 12) (hx : Bytes w x len cap o) (hy : Bytes w y lb cb z) (hl1 : len ≤ 100000) (hl2 : lb ≤ 100000) (hl : 16 ≤ lb) (huo : ∀ v ∈ o, isB v) (huz : ∀ v ∈ z, isB v)
    (he : ¬ tagL k n o (z.take (lb - 16)) = z.drop (lb - 16)) :
    Calls Tryz.prog 47 #[.agg (row .u8 k), .agg (row .u8 n), .slice x len cap, .slice y lb cb] w fun e w' => e = .returned (.tuple #[.slice none 0 0, .int .i64 4]) ∧ Below w.heap.size w w' := by
 obtain ⟨M, hM⟩ : ∃ M, lb - 16 = M := ⟨_, rfl⟩
 rw [hM] at he
 try rw [hM]
 have hzl := hy.len_eq
 have hcb := hy.le
 have htop := hy.top
 have hwM : IntKind.i64.wrap ((lb : Int) - 16) = (M : Int) := by rw [IntKind.wrap_i64]; omega
 have hM0 : ¬ (M : Int) < 0 := by omega
 have hcutL : ∀ wx, (Instr.slice 74 (.slice y lb cb) none (some (.int .i64 (M : Int))) none).run Tryz.prog wx = .ok (.slice (subA y cb 0) M cb) wx := fun wx => run_cut_h wx _ lb cb M (by omega)
 have hcutR : ∀ wx, (Instr.slice 74 (.slice y lb cb) (some (.int .i64 (M : Int))) none none).run Tryz.prog wx = .ok (.slice (subA y cb M) 16 (cb - M)) wx := fun wx => by
  have := run_cut_l wx y lb cb M (by omega)
  rw [show lb - M = 16 by omega] at this
  exact this
 have hhid := fun wx (hb : Below w.heap.size w wx) => (hy.below hb).cut 0 M (by omega) (by omega)
 rw [List.drop_zero, Nat.sub_zero, Nat.sub_zero] at hhid
 have htld := fun wx (hb : Below w.heap.size w wx) => (hy.below hb).cut M lb (by omega) (Nat.le_refl _)
 rw [show lb - M = 16 by omega, show (z.drop M).take 16 = z.drop M from List.take_of_length_le (by rw [List.length_drop]; omega)] at htld
 have hHu : ∀ v ∈ z.take M, isB v := fun v hv => huz v (List.mem_of_mem_take hv)
 have hDu : ∀ v ∈ z.drop M, isB v := fun v hv => huz v (List.mem_of_mem_drop hv)
 have hHl : (z.take M).length = M := by rw [List.length_take]; omega
 have hTl : (tagL k n o (z.take M)).length = 16 := polyL_length _ _
 have hTu := tagL_in k n o (z.take M) huo hHu
 have hse := strEq _ _ hTu hDu
 rw [show (tagL k n o (z.take M) == z.drop M) = false by rw [beq_eq_false_iff_ne]; exact he] at hse
 have HFL : Veil ((framedL o (z.take M)).length ≤ 1000000) := ⟨by rw [framedL_length, ← hx.len_eq, hHl]; have := fillN_lt len; have := fillN_lt M; omega⟩
 have hon : ∀ wx, Calls Tryz.prog 55 #[.agg (List.map (Value.int .u8) k).toArray, .agg (List.map (Value.int .u8) n).toArray] wx fun e w' => e = .returned (.agg (row .u8 (onceL k n))) ∧ Below wx.heap.size wx w' := fun wx => refOnce_any k n wx hk hn
 have htg := fun (v : Value) (base : Nat) (wx : World) (ho : OwnB wx base v (framedL o (z.take M))) => refTag_any k n o (z.take M) v base wx ho huo hHu HFL.out
 obtain ⟨H, hH⟩ : ∃ q, z.take M = q := ⟨_, rfl⟩
 obtain ⟨T, hT⟩ : ∃ q, z.drop M = q := ⟨_, rfl⟩
 obtain ⟨Y1, hY1⟩ : ∃ q, subA y cb 0 = q := ⟨_, rfl⟩
 obtain ⟨Y2, hY2⟩ : ∃ q, subA y cb M = q := ⟨_, rfl⟩
 rw [hH] at hhid hTl hse htg
 try rw [hH]
 rw [hT] at htld hse
 rw [hY1] at hcutL hhid
 rw [hY2] at hcutR htld
 have hfr := fun wx (hb : Below w.heap.size w wx) => refFramed_any x len cap o Y1 M cb H wx (hx.below hb) (hhid wx hb) hl1 (by omega)
 have hxor : ∀ wx, Below w.heap.size w wx → Calls Tryz.prog 53 #[.agg (List.map (Value.int .u8) k).toArray, .agg (List.map (Value.int .u8) n).toArray, .int .u32 1, .slice Y1 M cb] wx fun e w' => ∃ v, e = .returned v ∧ OwnB w' wx.heap.size v (xorL k n 1 H) ∧ Below wx.heap.size wx w' := fun wx hb => refXor_any k n 1 Y1 M cb H wx hk hn (hhid wx hb) (by omega)
 obtain ⟨TG, hTG⟩ : ∃ q, tagL k n o H = q := ⟨_, rfl⟩
 rw [hTG] at htg hTl hse
 obtain ⟨OT, hOT⟩ : ∃ q, onceL k n = q := ⟨_, rfl⟩
 rw [hOT] at hon htg
 obtain ⟨F, hF⟩ : ∃ q, framedL o H = q := ⟨_, rfl⟩
 rw [hF] at hfr htg
 obtain ⟨SG, hSG⟩ : ∃ q, strOfNums TG = q := ⟨_, rfl⟩
 obtain ⟨ST, hST⟩ : ∃ q, strOfNums T = q := ⟨_, rfl⟩
 rw [hSG, hST] at hse
 have HSG : Veil (strOfNums TG = SG) := ⟨hSG⟩
 have HST : Veil (∀ wx, Below w.heap.size w wx → (convert 74 9 (.slice Y2 16 (cb - M))).run Tryz.prog wx = .ok (.string ST) wx) := ⟨fun wx hb => by rw [← hST]; exact conv_bytes (htld wx hb)⟩
 have uK := Tryz.underlying23
 have uN := Tryz.underlying78
 have iK : (Tryz.prog.info? 23).map (·.size) = some (k.map (Value.int .u8)).length := by rw [List.length_map, hk]; exact sizeK
 have iN : (Tryz.prog.info? 78).map (·.size) = some (n.map (Value.int .u8)).length := by rw [List.length_map, hn]; exact sizeN
 have hK0 := (Holds.new w .u8 23 k).alloc (.cells (row .u8 n) 78)
 have hN0 := Holds.new (w.alloc (.cells (row .u8 k) 23)) .u8 78 n
 have hB0 : Below w.heap.size w ((w.alloc (.cells (row .u8 k) 23)).alloc (.cells (row .u8 n) 78)) := ((Below.refl _ _).alloc (Nat.le_refl _) _).alloc (by simp) _
 rw [World.size_alloc] at hN0
 clear hH hT hY1 hY2 hTG hOT hF hSG hST hx hy he huo huz hzl hM hHu hDu hHl hTu HFL hhid htld
 go_enter Tryz.func47, Tryz.ntmps47
 go_upto_region 4 with fail
 refine forget (p := fun y => Code.wp _ _ _ _ y) (fun W0 => Below w.heap.size w W0 ∧ Holds W0 w.heap.size .u8 23 k ∧ Holds W0 (w.heap.size + 1) .u8 78 n) ⟨hB0, hK0, hN0⟩ ?_
 clear hK0 hN0 hB0
 rintro W0 ⟨hB0, hK0, hN0⟩
 ·
  refine wp_region_gate (fun w' => w'.rangeAt w.heap.size 0 (k.map (Value.int .u8)) ∧ w'.rangeAt (w.heap.size + 1) 0 (n.map (Value.int .u8))) 10 (by kernel_rfl) ?_
  have keep : ∀ w', Below W0.heap.size W0 w' → w'.rangeAt w.heap.size 0 (k.map (Value.int .u8)) ∧ w'.rangeAt (w.heap.size + 1) 0 (n.map (Value.int .u8)) := fun w' hb => ⟨(hK0.below hb hK0.lt).rangeAll, (hN0.below hb hN0.lt).rangeAll⟩
  obtain ⟨V0, hV0⟩ : ∃ q, W0.drew = q := ⟨_, rfl⟩
  have hb0 : Below W0.heap.size W0 V0 := by rw [← hV0]; exact (Below.refl _ _).drew
  rw [hV0]
  clear hV0
  have hS := keep _ hb0
  refine wpAnyG_load (i := 0) (dst := some 17) (ty := 23) (x := .tmp 4) (b := w.heap.size) (o := (0)) (cs := (k.map (Value.int .u8))) (by kernel_rfl) (by kernel_rfl) (by kernel_rfl) (by kernel_rfl) (by kernel_rfl) (fun _ _ _ h => h) (by kernel_rfl) (by kernel_rfl) (by kernel_rfl) hS (by kernel_rfl) (fun _ h => h.1) uK rfl iK ?_
  simp only [Act.put, sI, sZ, sS]
  refine wpAnyG_load (i := 1) (dst := some 18) (ty := 78) (x := .tmp 5) (b := (w.heap.size + 1)) (o := (0)) (cs := (n.map (Value.int .u8))) (by kernel_rfl) (by kernel_rfl) (by kernel_rfl) (by kernel_rfl) (by kernel_rfl) (fun _ _ _ h => h) (by kernel_rfl) (by kernel_rfl) (by kernel_rfl) hS (by kernel_rfl) (fun _ h => h.2) uN rfl iN ?_
  simp only [Act.put, sI, sZ, sS]
  refine gaA 3 _ hS ?_
  simp only [Act.put, sI, sZ, sS]
  refine gaA 4 _ hS ?_
  simp only [Act.put, sI, sZ, sS]
  refine gaA 5 _ hS ?_
  simp only [Act.put, sI, sZ, sS]
  refine gaA 6 _ hS ?_
  simp only [Act.put, sI, sZ, sS]
  refine wpAnyG_two (i := 2) (j := 9) rfl rfl (by kernel_rfl) (by kernel_rfl) (by kernel_rfl) (fun K hK => ?_) (fun K hK => ?_)
  · skip
    go_wp2_with (go_at_call 55; refine (hon _).mono ?_; rintro e u1 ⟨rfl, hx1⟩)
    have hb1 : Below W0.heap.size W0 u1 := hb0.trans (hx1.mono hb0.size)
    replace hS := keep _ hb1
    refine hK.out _ _ (fun _ => hS) ?_
    clear hK K
    refine wpAnyG_two (i := 7) (j := 9) rfl rfl (by kernel_rfl) (by kernel_rfl) (by kernel_rfl) (fun K hK => ?_) (fun K hK => ?_)
    · skip
      go_wp2_with (go_at_call 56; refine (hfr _ (hB0.trans (hb1.mono hB0.size))).mono ?_; rintro e u2 ⟨v2, rfl, ho2, hx2⟩)
      have hb2 : Below W0.heap.size W0 u2 := hb1.trans (hx2.mono hb1.size)
      replace hS := keep _ hb2
      refine hK.out _ _ (fun _ => hS) ?_
      clear hK K
      refine wpAnyG_two (i := 8) (j := 9) rfl rfl (by kernel_rfl) (by kernel_rfl) (by kernel_rfl) (fun K hK => ?_) (fun K hK => ?_)
      · skip
        go_wp2_with (go_at_call 54; refine (htg _ _ _ ho2).mono ?_; rintro e u3 ⟨rfl, hx3⟩)
        have hb3 : Below W0.heap.size W0 u3 := hb2.trans (hx3.mono hb2.size)
        replace hS := keep _ hb3
        refine hK.out _ _ (fun _ => hS) ?_
        clear hK K
        refine wpAnyG_one (i := 9) rfl (by kernel_rfl) (by kernel_rfl) (fun K hK => ?_)
        have hge3 := hb3.size
        go_simp
        have hA4 : Holds (u3.alloc (.cells (row .u8 (List.replicate 16 0)) 87)) u3.heap.size .u8 87 (List.replicate 16 0) := Holds.new u3 .u8 87 (List.replicate 16 0)
        have hn4 : Below u3.heap.size u3 (u3.alloc (.cells (row .u8 (List.replicate 16 0)) 87)) := (Below.refl _ _).alloc (Nat.le_refl _) _
        have hb4 : Below W0.heap.size W0 (u3.alloc (.cells (row .u8 (List.replicate 16 0)) 87)) := hb3.trans (hn4.mono hb3.size)
        replace hS := keep _ hb4
        refine hK.out _ _ (fun _ => hS) ?_
        clear hK K
        obtain ⟨G4, hGe4⟩ : ∃ q, u3.heap.size = q := ⟨_, rfl⟩
        obtain ⟨U4, hU4⟩ : ∃ q, u3.alloc (.cells (row .u8 (List.replicate 16 0)) 87) = q := ⟨_, rfl⟩
        have hc4 : u3.alloc (.cells #[.int .u8 0, .int .u8 0, .int .u8 0, .int .u8 0, .int .u8 0, .int .u8 0, .int .u8 0, .int .u8 0, .int .u8 0, .int .u8 0, .int .u8 0, .int .u8 0, .int .u8 0, .int .u8 0, .int .u8 0, .int .u8 0] 87) = U4 := hU4
        rw [hU4, hGe4] at hA4
        rw [hGe4] at hge3
        rw [hU4] at hb4 hS 
        rw [hc4, hGe4]
        clear hGe4 hU4 hc4 hn4
        refine wpAnyG_one (i := 10) rfl (by kernel_rfl) (by kernel_rfl) (fun K hK => ?_)
        refine wp_stG 87 _ _ rfl _ rfl rfl hA4 (by rw [hTl]; exact sizeT) (by simp [hTl]) ?_
        refine hK.out _ _ (fun h => absurd (show true = false from h) (by decide)) ?_
        clear hK K
        refine wpAnyG_done (by kernel_rfl) ?_ _
        have hz5 : Below W0.heap.size W0 (U4.setRow G4 (row .u8 TG)) := below_setRow hb4 hge3 _
        refine forget (p := fun y => Exit.then _ _ _ _ y) (fun W => Below W0.heap.size W0 W ∧ Holds W G4 .u8 87 TG) ⟨hz5, hA4.setRow TG⟩ ?_
        rintro W1 ⟨hb01, hG1⟩
        have hB1 : Below w.heap.size w W1 := hB0.trans (hb01.mono hB0.size)
        have hK1 := hK0.below hb01 hK0.lt
        have hN1 := hN0.below hb01 hN0.lt
        have hcg : ∀ wx, Below W1.heap.size W1 wx → (convert 74 9 (.slice (some ⟨G4, 0, none⟩) 16 16)).run Tryz.prog wx = .ok (.string SG) wx := fun wx hb => by rw [← HSG.out]; exact conv_bytes ((hG1.below hb hG1.lt).bytes hTl.symm (by omega))
        have hct : ∀ wx, Below W1.heap.size W1 wx → (convert 74 9 (.slice Y2 16 (cb - M))).run Tryz.prog wx = .ok (.string ST) wx := fun wx hb => HST.out wx (hB1.trans (hb.mono hB1.size))
        clear hK0 hN0 hb01 hG1 HSG HST hfr htg hon
        go_upto_region 5 with fail
        refine wp_region_gate (fun w' => (convert 74 9 (.slice (some ⟨G4, 0, none⟩) 16 16)).run Tryz.prog w' = .ok (.string SG) w' ∧ (convert 74 9 (.slice Y2 16 (cb - M))).run Tryz.prog w' = .ok (.string ST) w') 6 (by kernel_rfl) ?_
        have hS := And.intro (hcg _ (Below.refl _ _).drew) (hct _ (Below.refl _ _).drew)
        refine gaA 0 _ hS ?_
        simp only [Act.put, sI, sZ, sS]
        refine grA 1 _ hS ?_
        simp only [Act.put, sI, sZ, sS]
        refine gaA 2 _ hS ?_
        simp only [Act.put, sI, sZ, sS]
        refine gaA 3 _ hS ?_
        simp only [Act.put, sI, sZ, sS]
        refine gaA 4 _ hS ?_
        simp only [Act.put, sI, sZ, sS]
        refine grA 5 _ hS ?_
        simp only [Act.put, sI, sZ, sS]
        refine wpAnyG_one (i := 6) rfl (by kernel_rfl) (by kernel_rfl) (fun K hK => ?_)
        go_simp
        refine hK.out _ _ (fun h => absurd (show true = false from h) (by decide)) ?_
        clear hK K
        refine wpAnyG_done (by kernel_rfl) ?_ _
        clear hcg hct hS
        go_wp2
        go_ret2
        exact ⟨rfl, hB1.drew⟩
      · skip
        have hge5 := hb2.size
        go_simp
        have hA6 : Holds (u2.alloc (.cells (row .u8 (List.replicate 16 0)) 87)) u2.heap.size .u8 87 (List.replicate 16 0) := Holds.new u2 .u8 87 (List.replicate 16 0)
        have hn6 : Below u2.heap.size u2 (u2.alloc (.cells (row .u8 (List.replicate 16 0)) 87)) := (Below.refl _ _).alloc (Nat.le_refl _) _
        have hb6 : Below W0.heap.size W0 (u2.alloc (.cells (row .u8 (List.replicate 16 0)) 87)) := hb2.trans (hn6.mono hb2.size)
        have ho2n6 := ho2.afar hn6
        replace hS := keep _ hb6
        refine hK.out _ _ (fun _ => hS) ?_
        clear hK K
        obtain ⟨G6, hGe6⟩ : ∃ q, u2.heap.size = q := ⟨_, rfl⟩
        obtain ⟨U6, hU6⟩ : ∃ q, u2.alloc (.cells (row .u8 (List.replicate 16 0)) 87) = q := ⟨_, rfl⟩
        have hc6 : u2.alloc (.cells #[.int .u8 0, .int .u8 0, .int .u8 0, .int .u8 0, .int .u8 0, .int .u8 0, .int .u8 0, .int .u8 0, .int .u8 0, .int .u8 0, .int .u8 0, .int .u8 0, .int .u8 0, .int .u8 0, .int .u8 0, .int .u8 0] 87) = U6 := hU6
        rw [hU6, hGe6] at hA6
        rw [hGe6] at hge5
        rw [hU6] at hb6 hS ho2n6
        rw [hc6, hGe6]
        clear hGe6 hU6 hc6 hn6
        refine wpAnyG_one (i := 8) rfl (by kernel_rfl) (by kernel_rfl) (fun K hK => ?_)
        go_wp2_with (go_at_call 54; refine (htg _ _ _ ho2n6).mono ?_; rintro e u7 ⟨rfl, hx7⟩)
        have hb7 : Below W0.heap.size W0 u7 := hb6.trans (hx7.mono hb6.size)
        replace hS := keep _ hb7
        have hAc7 := hA6.below hx7 hA6.lt
        refine hK.out _ _ (fun _ => hS) ?_
        clear hK K
        refine wpAnyG_one (i := 10) rfl (by kernel_rfl) (by kernel_rfl) (fun K hK => ?_)
        refine wp_stG 87 _ _ rfl _ rfl rfl hAc7 (by rw [hTl]; exact sizeT) (by simp [hTl]) ?_
        refine hK.out _ _ (fun h => absurd (show true = false from h) (by decide)) ?_
        clear hK K
        refine wpAnyG_done (by kernel_rfl) ?_ _
        have hz8 : Below W0.heap.size W0 (u7.setRow G6 (row .u8 TG)) := below_setRow hb7 hge5 _
        refine forget (p := fun y => Exit.then _ _ _ _ y) (fun W => Below W0.heap.size W0 W ∧ Holds W G6 .u8 87 TG) ⟨hz8, hAc7.setRow TG⟩ ?_
        rintro W1 ⟨hb01, hG1⟩
        have hB1 : Below w.heap.size w W1 := hB0.trans (hb01.mono hB0.size)
        have hK1 := hK0.below hb01 hK0.lt
        have hN1 := hN0.below hb01 hN0.lt
        have hcg : ∀ wx, Below W1.heap.size W1 wx → (convert 74 9 (.slice (some ⟨G6, 0, none⟩) 16 16)).run Tryz.prog wx = .ok (.string SG) wx := fun wx hb => by rw [← HSG.out]; exact conv_bytes ((hG1.below hb hG1.lt).bytes hTl.symm (by omega))
        have hct : ∀ wx, Below W1.heap.size W1 wx → (convert 74 9 (.slice Y2 16 (cb - M))).run Tryz.prog wx = .ok (.string ST) wx := fun wx hb => HST.out wx (hB1.trans (hb.mono hB1.size))
        clear hK0 hN0 hb01 hG1 HSG HST hfr htg hon
        go_upto_region 5 with fail
        refine wp_region_gate (fun w' => (convert 74 9 (.slice (some ⟨G6, 0, none⟩) 16 16)).run Tryz.prog w' = .ok (.string SG) w' ∧ (convert 74 9 (.slice Y2 16 (cb - M))).run Tryz.prog w' = .ok (.string ST) w') 6 (by kernel_rfl) ?_
        have hS := And.intro (hcg _ (Below.refl _ _).drew) (hct _ (Below.refl _ _).drew)
        refine gaA 0 _ hS ?_
        simp only [Act.put, sI, sZ, sS]
        refine grA 1 _ hS ?_
        simp only [Act.put, sI, sZ, sS]
        refine gaA 2 _ hS ?_
        simp only [Act.put, sI, sZ, sS]
        refine gaA 3 _ hS ?_
        simp only [Act.put, sI, sZ, sS]
        refine gaA 4 _ hS ?_
        simp only [Act.put, sI, sZ, sS]
        refine grA 5 _ hS ?_
        simp only [Act.put, sI, sZ, sS]
        refine wpAnyG_one (i := 6) rfl (by kernel_rfl) (by kernel_rfl) (fun K hK => ?_)
        go_simp
        refine hK.out _ _ (fun h => absurd (show true = false from h) (by decide)) ?_
        clear hK K
        refine wpAnyG_done (by kernel_rfl) ?_ _
        clear hcg hct hS
        go_wp2
        go_ret2
        exact ⟨rfl, hB1.drew⟩
    · skip
      have hge8 := hb1.size
      go_simp
      have hA9 : Holds (u1.alloc (.cells (row .u8 (List.replicate 16 0)) 87)) u1.heap.size .u8 87 (List.replicate 16 0) := Holds.new u1 .u8 87 (List.replicate 16 0)
      have hn9 : Below u1.heap.size u1 (u1.alloc (.cells (row .u8 (List.replicate 16 0)) 87)) := (Below.refl _ _).alloc (Nat.le_refl _) _
      have hb9 : Below W0.heap.size W0 (u1.alloc (.cells (row .u8 (List.replicate 16 0)) 87)) := hb1.trans (hn9.mono hb1.size)
      replace hS := keep _ hb9
      refine hK.out _ _ (fun _ => hS) ?_
      clear hK K
      obtain ⟨G9, hGe9⟩ : ∃ q, u1.heap.size = q := ⟨_, rfl⟩
      obtain ⟨U9, hU9⟩ : ∃ q, u1.alloc (.cells (row .u8 (List.replicate 16 0)) 87) = q := ⟨_, rfl⟩
      have hc9 : u1.alloc (.cells #[.int .u8 0, .int .u8 0, .int .u8 0, .int .u8 0, .int .u8 0, .int .u8 0, .int .u8 0, .int .u8 0, .int .u8 0, .int .u8 0, .int .u8 0, .int .u8 0, .int .u8 0, .int .u8 0, .int .u8 0, .int .u8 0] 87) = U9 := hU9
      rw [hU9, hGe9] at hA9
      rw [hGe9] at hge8
      rw [hU9] at hb9 hS 
      rw [hc9, hGe9]
      clear hGe9 hU9 hc9 hn9
      refine wpAnyG_one (i := 7) rfl (by kernel_rfl) (by kernel_rfl) (fun K hK => ?_)
      go_wp2_with (go_at_call 56; refine (hfr _ (hB0.trans (hb9.mono hB0.size))).mono ?_; rintro e u10 ⟨v10, rfl, ho10, hx10⟩)
      have hb10 : Below W0.heap.size W0 u10 := hb9.trans (hx10.mono hb9.size)
      replace hS := keep _ hb10
      have hAc10 := hA9.below hx10 hA9.lt
      refine hK.out _ _ (fun _ => hS) ?_
      clear hK K
      refine wpAnyG_one (i := 8) rfl (by kernel_rfl) (by kernel_rfl) (fun K hK => ?_)
      go_wp2_with (go_at_call 54; refine (htg _ _ _ ho10).mono ?_; rintro e u11 ⟨rfl, hx11⟩)
      have hb11 : Below W0.heap.size W0 u11 := hb10.trans (hx11.mono hb10.size)
      replace hS := keep _ hb11
      have hAc11 := hAc10.below hx11 hAc10.lt
      refine hK.out _ _ (fun _ => hS) ?_
      clear hK K
      refine wpAnyG_one (i := 10) rfl (by kernel_rfl) (by kernel_rfl) (fun K hK => ?_)
      refine wp_stG 87 _ _ rfl _ rfl rfl hAc11 (by rw [hTl]; exact sizeT) (by simp [hTl]) ?_
      refine hK.out _ _ (fun h => absurd (show true = false from h) (by decide)) ?_
      clear hK K
      refine wpAnyG_done (by kernel_rfl) ?_ _
      have hz12 : Below W0.heap.size W0 (u11.setRow G9 (row .u8 TG)) := below_setRow hb11 hge8 _
      refine forget (p := fun y => Exit.then _ _ _ _ y) (fun W => Below W0.heap.size W0 W ∧ Holds W G9 .u8 87 TG) ⟨hz12, hAc11.setRow TG⟩ ?_
      rintro W1 ⟨hb01, hG1⟩
      have hB1 : Below w.heap.size w W1 := hB0.trans (hb01.mono hB0.size)
      have hK1 := hK0.below hb01 hK0.lt
      have hN1 := hN0.below hb01 hN0.lt
      have hcg : ∀ wx, Below W1.heap.size W1 wx → (convert 74 9 (.slice (some ⟨G9, 0, none⟩) 16 16)).run Tryz.prog wx = .ok (.string SG) wx := fun wx hb => by rw [← HSG.out]; exact conv_bytes ((hG1.below hb hG1.lt).bytes hTl.symm (by omega))
      have hct : ∀ wx, Below W1.heap.size W1 wx → (convert 74 9 (.slice Y2 16 (cb - M))).run Tryz.prog wx = .ok (.string ST) wx := fun wx hb => HST.out wx (hB1.trans (hb.mono hB1.size))
      clear hK0 hN0 hb01 hG1 HSG HST hfr htg hon
      go_upto_region 5 with fail
      refine wp_region_gate (fun w' => (convert 74 9 (.slice (some ⟨G9, 0, none⟩) 16 16)).run Tryz.prog w' = .ok (.string SG) w' ∧ (convert 74 9 (.slice Y2 16 (cb - M))).run Tryz.prog w' = .ok (.string ST) w') 6 (by kernel_rfl) ?_
      have hS := And.intro (hcg _ (Below.refl _ _).drew) (hct _ (Below.refl _ _).drew)
      refine gaA 0 _ hS ?_
      simp only [Act.put, sI, sZ, sS]
      refine grA 1 _ hS ?_
      simp only [Act.put, sI, sZ, sS]
      refine gaA 2 _ hS ?_
      simp only [Act.put, sI, sZ, sS]
      refine gaA 3 _ hS ?_
      simp only [Act.put, sI, sZ, sS]
      refine gaA 4 _ hS ?_
      simp only [Act.put, sI, sZ, sS]
      refine grA 5 _ hS ?_
      simp only [Act.put, sI, sZ, sS]
      refine wpAnyG_one (i := 6) rfl (by kernel_rfl) (by kernel_rfl) (fun K hK => ?_)
      go_simp
      refine hK.out _ _ (fun h => absurd (show true = false from h) (by decide)) ?_
      clear hK K
      refine wpAnyG_done (by kernel_rfl) ?_ _
      clear hcg hct hS
      go_wp2
      go_ret2
      exact ⟨rfl, hB1.drew⟩
  · skip
    have hge12 := hb0.size
    go_simp
    have hA13 : Holds (V0.alloc (.cells (row .u8 (List.replicate 16 0)) 87)) V0.heap.size .u8 87 (List.replicate 16 0) := Holds.new V0 .u8 87 (List.replicate 16 0)
    have hn13 : Below V0.heap.size V0 (V0.alloc (.cells (row .u8 (List.replicate 16 0)) 87)) := (Below.refl _ _).alloc (Nat.le_refl _) _
    have hb13 : Below W0.heap.size W0 (V0.alloc (.cells (row .u8 (List.replicate 16 0)) 87)) := hb0.trans (hn13.mono hb0.size)
    replace hS := keep _ hb13
    refine hK.out _ _ (fun _ => hS) ?_
    clear hK K
    obtain ⟨G13, hGe13⟩ : ∃ q, V0.heap.size = q := ⟨_, rfl⟩
    obtain ⟨U13, hU13⟩ : ∃ q, V0.alloc (.cells (row .u8 (List.replicate 16 0)) 87) = q := ⟨_, rfl⟩
    have hc13 : V0.alloc (.cells #[.int .u8 0, .int .u8 0, .int .u8 0, .int .u8 0, .int .u8 0, .int .u8 0, .int .u8 0, .int .u8 0, .int .u8 0, .int .u8 0, .int .u8 0, .int .u8 0, .int .u8 0, .int .u8 0, .int .u8 0, .int .u8 0] 87) = U13 := hU13
    rw [hU13, hGe13] at hA13
    rw [hGe13] at hge12
    rw [hU13] at hb13 hS 
    rw [hc13, hGe13]
    clear hGe13 hU13 hc13 hn13
    refine wpAnyG_one (i := 2) rfl (by kernel_rfl) (by kernel_rfl) (fun K hK => ?_)
    go_wp2_with (go_at_call 55; refine (hon _).mono ?_; rintro e u14 ⟨rfl, hx14⟩)
    have hb14 : Below W0.heap.size W0 u14 := hb13.trans (hx14.mono hb13.size)
    replace hS := keep _ hb14
    have hAc14 := hA13.below hx14 hA13.lt
    refine hK.out _ _ (fun _ => hS) ?_
    clear hK K
    refine wpAnyG_one (i := 7) rfl (by kernel_rfl) (by kernel_rfl) (fun K hK => ?_)
    go_wp2_with (go_at_call 56; refine (hfr _ (hB0.trans (hb14.mono hB0.size))).mono ?_; rintro e u15 ⟨v15, rfl, ho15, hx15⟩)
    have hb15 : Below W0.heap.size W0 u15 := hb14.trans (hx15.mono hb14.size)
    replace hS := keep _ hb15
    have hAc15 := hAc14.below hx15 hAc14.lt
    refine hK.out _ _ (fun _ => hS) ?_
    clear hK K
    refine wpAnyG_one (i := 8) rfl (by kernel_rfl) (by kernel_rfl) (fun K hK => ?_)
    go_wp2_with (go_at_call 54; refine (htg _ _ _ ho15).mono ?_; rintro e u16 ⟨rfl, hx16⟩)
    have hb16 : Below W0.heap.size W0 u16 := hb15.trans (hx16.mono hb15.size)
    replace hS := keep _ hb16
    have hAc16 := hAc15.below hx16 hAc15.lt
    refine hK.out _ _ (fun _ => hS) ?_
    clear hK K
    refine wpAnyG_one (i := 10) rfl (by kernel_rfl) (by kernel_rfl) (fun K hK => ?_)
    refine wp_stG 87 _ _ rfl _ rfl rfl hAc16 (by rw [hTl]; exact sizeT) (by simp [hTl]) ?_
    refine hK.out _ _ (fun h => absurd (show true = false from h) (by decide)) ?_
    clear hK K
    refine wpAnyG_done (by kernel_rfl) ?_ _
    have hz17 : Below W0.heap.size W0 (u16.setRow G13 (row .u8 TG)) := below_setRow hb16 hge12 _
    refine forget (p := fun y => Exit.then _ _ _ _ y) (fun W => Below W0.heap.size W0 W ∧ Holds W G13 .u8 87 TG) ⟨hz17, hAc16.setRow TG⟩ ?_
    rintro W1 ⟨hb01, hG1⟩
    have hB1 : Below w.heap.size w W1 := hB0.trans (hb01.mono hB0.size)
    have hK1 := hK0.below hb01 hK0.lt
    have hN1 := hN0.below hb01 hN0.lt
    have hcg : ∀ wx, Below W1.heap.size W1 wx → (convert 74 9 (.slice (some ⟨G13, 0, none⟩) 16 16)).run Tryz.prog wx = .ok (.string SG) wx := fun wx hb => by rw [← HSG.out]; exact conv_bytes ((hG1.below hb hG1.lt).bytes hTl.symm (by omega))
    have hct : ∀ wx, Below W1.heap.size W1 wx → (convert 74 9 (.slice Y2 16 (cb - M))).run Tryz.prog wx = .ok (.string ST) wx := fun wx hb => HST.out wx (hB1.trans (hb.mono hB1.size))
    clear hK0 hN0 hb01 hG1 HSG HST hfr htg hon
    go_upto_region 5 with fail
    refine wp_region_gate (fun w' => (convert 74 9 (.slice (some ⟨G13, 0, none⟩) 16 16)).run Tryz.prog w' = .ok (.string SG) w' ∧ (convert 74 9 (.slice Y2 16 (cb - M))).run Tryz.prog w' = .ok (.string ST) w') 6 (by kernel_rfl) ?_
    have hS := And.intro (hcg _ (Below.refl _ _).drew) (hct _ (Below.refl _ _).drew)
    refine gaA 0 _ hS ?_
    simp only [Act.put, sI, sZ, sS]
    refine grA 1 _ hS ?_
    simp only [Act.put, sI, sZ, sS]
    refine gaA 2 _ hS ?_
    simp only [Act.put, sI, sZ, sS]
    refine gaA 3 _ hS ?_
    simp only [Act.put, sI, sZ, sS]
    refine gaA 4 _ hS ?_
    simp only [Act.put, sI, sZ, sS]
    refine grA 5 _ hS ?_
    simp only [Act.put, sI, sZ, sS]
    refine wpAnyG_one (i := 6) rfl (by kernel_rfl) (by kernel_rfl) (fun K hK => ?_)
    go_simp
    refine hK.out _ _ (fun h => absurd (show true = false from h) (by decide)) ?_
    clear hK K
    refine wpAnyG_done (by kernel_rfl) ?_ _
    clear hcg hct hS
    go_wp2
    go_ret2
    exact ⟨rfl, hB1.drew⟩
end Go.Proofs.YtflkhkmejnpapaaGreatDoor
