/- Kb7 -/
import Derived.Test.YtflkhkmejnpapaaGreatDoorK45
import Derived.Test.YtflkhkmejnpapaaGreatDoorK46
import Derived.Test.YtflkhkmejnpapaaGreatDoorK27
import Derived.Test.YtflkhkmejnpapaaGreatDoorK26
namespace Go.Proofs.YtflkhkmejnpapaaGreatDoor
open Go.RowKit
set_option maxRecDepth 20000
set_option linter.unusedSimpArgs false
theorem oneMap (l : List Int) : ∀ u ∈ l.map (Value.int .u8), u.oneCell' = true := fun u hu => by simp only [List.mem_map] at hu; obtain ⟨_, _, rfl⟩ := hu; rfl
section
variable (base H O : Nat) (own : Int) (seed : List Int) (b : Nat) (M : Int → Int → Option (List Int)) (v : Value) (D : List (Int × Int)) (u : Value) (L : List Ep) (w : World)
set_option maxHeartbeats 16000000 in
theorem same11_any (a s p : Int) (ho : okD a s) (h : BothR w base H O own seed b M v D u L) (hKT : S.KTab w) :
    Calls Tryz.prog 7 #[.pointer (some ⟨H, 0, none⟩), .pointer (some ⟨O, 0, none⟩), .agg (dotC a s).toArray, .int .u8 p] w fun e w' => e = .returned (.bool true) ∧ Below w.heap.size w w' := by
 have hkb := h.link.keyB
 have hk32 := h.ref.k32
 have hl16 := h.ref.lenL
 have HFK0 : ∀ W, Below w.heap.size w W → Calls Tryz.prog 17 #[.pointer (some ⟨H, 0, none⟩), .agg (dotC a s).toArray, .int .u8 p] W fun e w' => e = .returned (.tuple #[.agg ((rfkK L a s p).map (Value.int .u8)).toArray, .int .i64 (rfkN L a s p)]) ∧ Below W.heap.size W w' := fun W hb => fkA_any base H own seed b M v D L W a s p ho (h.ring.far hb) h.link (hKT.below hb)
 have HFR0 : ∀ W, Below w.heap.size w W → Calls Tryz.prog 18 #[.pointer (some ⟨O, 0, none⟩), .agg (dotC a s).toArray, .int .u8 p] W fun e w' => e = .returned (.tuple #[.agg ((rfkK L a s p).map (Value.int .u8)).toArray, .int .i64 (rfkN L a s p)]) ∧ Below W.heap.size W w' := fun W hb => rrFk_any base O own seed u L W a s p (h.ref.far hb)
 have HNW0 : ∀ W, Below w.heap.size w W → Calls Tryz.prog 19 #[.pointer (some ⟨H, 0, none⟩)] W fun e w' => e = .returned (.tuple #[.agg (dotC (nowD L).1 (nowD L).2).toArray, .bool (nowB L)]) ∧ Below W.heap.size W w' := fun W hb => nowA_any base H own seed b M v D L W (h.ring.far hb) h.link
 have HNR0 : ∀ W, Below w.heap.size w W → Calls Tryz.prog 20 #[.pointer (some ⟨O, 0, none⟩)] W fun e w' => e = .returned (.tuple #[.agg (dotC (nowD L).1 (nowD L).2).toArray, .bool (nowB L)]) ∧ Below W.heap.size W w' := fun W hb => rrNowA_any base O own seed u L W (h.ref.far hb)
 have HKY0 : ∀ W, Below w.heap.size w W → Calls Tryz.prog 21 #[.pointer (some ⟨H, 0, none⟩), .agg (dotC a s).toArray] W fun e w' => e = .returned (.tuple #[.agg (((keyE L a s).getD (List.replicate 32 0)).map (Value.int .u8)).toArray, .bool (keyE L a s).isSome]) ∧ Below W.heap.size W w' := fun W hb => keyA_any base H own seed b M v D L W a s ho (h.ring.far hb) h.link
 have HKR0 : ∀ W, Below w.heap.size w W → Calls Tryz.prog 22 #[.pointer (some ⟨O, 0, none⟩), .agg (dotC a s).toArray] W fun e w' => e = .returned (.tuple #[.agg (((keyE L a s).getD (List.replicate 32 0)).map (Value.int .u8)).toArray, .bool (keyE L a s).isSome]) ∧ Below W.heap.size W w' := fun W hb => rrKeyA_any base O own seed u L W a s (h.ref.far hb)
 have HWP0 : ∀ W, Below w.heap.size w W → Calls Tryz.prog 13 #[.pointer (some ⟨H, 0, none⟩), .int .u8 p, .agg (dotC a s).toArray] W fun e w' => e = .returned (.tuple #[.agg (rwrW own seed L p a s).cells.toArray, .int .i64 (rwrN own L p a s)]) ∧ Below W.heap.size W w' := fun W hb => wrapA_any base H own seed b M v D L W p a s ho (h.ring.far hb) h.link (hKT.below hb)
 have HWR0 : ∀ W, Below w.heap.size w W → Calls Tryz.prog 23 #[.pointer (some ⟨O, 0, none⟩), .int .u8 p, .agg (dotC a s).toArray] W fun e w' => e = .returned (.tuple #[.agg (rwrW own seed L p a s).cells.toArray, .int .i64 (rwrN own L p a s)]) ∧ Below W.heap.size W w' := fun W hb => rrWrap_any base O own seed u L W p a s (h.ref.far hb) (hkb a s)
 have HHA : Veil (∀ W, Below w.heap.size w W → Calls Tryz.prog 15 #[.pointer (some ⟨H, 0, none⟩), .agg (dotC a s).toArray] W fun e w' => e = .returned (.bool (keyE L a s).isSome) ∧ Below W.heap.size W w') := ⟨fun W hb => hasA_any base H own seed b M v D L W a s ho (h.ring.far hb) h.link⟩
 have HHR : Veil (∀ W, Below w.heap.size w W → Calls Tryz.prog 24 #[.pointer (some ⟨O, 0, none⟩), .agg (dotC a s).toArray] W fun e w' => e = .returned (.bool (keyE L a s).isSome) ∧ Below W.heap.size W w') := ⟨fun W hb => rrHas_any base O own seed u L W a s (h.ref.far hb)⟩
 have HEP : Veil (∀ W, Below w.heap.size w W → Calls Tryz.prog 26 #[.pointer (some ⟨H, 0, none⟩)] W fun e w' => ∃ v', e = .returned v' ∧ OwnD w' W.heap.size v' (L.map (·.1)) ∧ Below W.heap.size W w') := ⟨fun W hb => by
  have := epochs_any base H own seed b M v D W (h.ring.far hb)
  rw [h.link.dots] at this
  exact this⟩
 have HER : Veil (∀ W, Below w.heap.size w W → Calls Tryz.prog 27 #[.pointer (some ⟨O, 0, none⟩)] W fun e w' => ∃ v', e = .returned v' ∧ OwnI w' W.heap.size 33 2 v' ((L.map (·.1)).map fun d => dotC d.1 d.2) ∧ Below W.heap.size W w') := ⟨fun W hb => by
  have := rrEpochs_any base O own seed u L W (h.ref.far hb)
  rw [List.map_map]
  exact this⟩
 have HSD : Veil (∀ W x c b1 b2 v1 v2, OwnD W b1 v1 (L.map (·.1)) → OwnI W b2 33 2 v2 ((L.map (·.1)).map fun d => dotC d.1 d.2) → v1 = x → v2 = c → Calls Tryz.prog 25 #[x, c] W fun e w' => e = .returned (.bool true) ∧ Below W.heap.size W w') := ⟨fun W x c b1 b2 v1 v2 h1 h2 e1 e2 => by
  subst e1 e2
  exact sameDots_any b1 b2 v1 v2 (L.map (·.1)) W h1 h2 (by rw [List.length_map]; omega)⟩
 have hz0 := CellsAt.new w 33 (dotC a s)
 have hN : NAk w [(w.heap.size, 33, dotC a s)] (w.alloc (.cells (dotC a s).toArray 33)) := ⟨(Below.refl _ _).alloc (Nat.le_refl _) _, fun x hx => by
  obtain rfl := List.mem_singleton.1 hx
  exact hz0⟩
 have hRl := rfkK_len L a s p
 have hKl := keyZ_len hk32 a s
 have hWl := (rwr_ok own seed L p a s ho hk32 h.link.bytes).2.1
 obtain ⟨RV, hRV⟩ : ∃ q, rfkK L a s p = q := ⟨_, rfl⟩
 obtain ⟨RN, hRN⟩ : ∃ q, rfkN L a s p = q := ⟨_, rfl⟩
 obtain ⟨KW, hKW⟩ : ∃ q, (keyE L a s).getD (List.replicate 32 0) = q := ⟨_, rfl⟩
 obtain ⟨KB, hKB⟩ : ∃ q, (keyE L a s).isSome = q := ⟨_, rfl⟩
 obtain ⟨WQ, hWQ⟩ : ∃ q, rwrW own seed L p a s = q := ⟨_, rfl⟩
 obtain ⟨WN, hWN⟩ : ∃ q, rwrN own L p a s = q := ⟨_, rfl⟩
 obtain ⟨n1, hn1⟩ : ∃ q, (nowD L).1 = q := ⟨_, rfl⟩
 obtain ⟨n2, hn2⟩ : ∃ q, (nowD L).2 = q := ⟨_, rfl⟩
 obtain ⟨NB, hNB⟩ : ∃ q, nowB L = q := ⟨_, rfl⟩
 rw [hRV] at hRl HFK0 HFR0
 rw [hRN] at HFK0 HFR0
 rw [hKW] at hKl HKY0 HKR0
 rw [hKB] at HKY0 HKR0 HHA HHR
 rw [hWQ] at hWl HWP0 HWR0
 rw [hWN] at HWP0 HWR0
 rw [hn1, hn2, hNB] at HNW0 HNR0
 clear hRV hRN hKW hKB hWQ hWN hn1 hn2 hNB h hkb hk32 hl16 hKT hz0
 have hRe : ∀ wx, (binOp BinOp.eql 23 (.agg (RV.map (Value.int .u8)).toArray) (.agg (RV.map (Value.int .u8)).toArray)).run Tryz.prog wx = .ok (.bool true) wx := fun wx => by rw [key_eql _ _ hRl hRl]; simp
 have hKe : ∀ wx, (binOp BinOp.eql 23 (.agg (KW.map (Value.int .u8)).toArray) (.agg (KW.map (Value.int .u8)).toArray)).run Tryz.prog wx = .ok (.bool true) wx := fun wx => by rw [key_eql _ _ hKl hKl]; simp
 have hWe : ∀ wx, (binOp BinOp.eql 36 (.agg WQ.cells.toArray) (.agg WQ.cells.toArray)).run Tryz.prog wx = .ok (.bool true) wx := fun wx => by rw [run_eql_struct, wrap_eqIn WQ WQ hWl hWl, (wpEq_iff WQ WQ).2 rfl]; rfl
 have hDe : ∀ wx, (binOp BinOp.eql 33 (.agg (dotC n1 n2).toArray) (.agg (dotC n1 n2).toArray)).run Tryz.prog wx = .ok (.bool true) wx := fun wx => by rw [dot_eql]; simp
 have iRK : (Tryz.prog.info? 23).map (·.size) = some (RV.map (Value.int .u8)).length := by rw [List.length_map, hRl]; exact sizeKeyD
 have iKV : (Tryz.prog.info? 23).map (·.size) = some (KW.map (Value.int .u8)).length := by rw [List.length_map, hKl]; exact sizeKeyD
 have iND : (Tryz.prog.info? 33).map (·.size) = some (dotC n1 n2).length := sizeDot
 have iWC : (Tryz.prog.info? 36).map (·.size) = some WQ.cells.length := by rw [wp_cells_length _ hWl]; exact sizeWrapK
 have iEP : (Tryz.prog.info? 33).map (·.size) = some (dotC a s).length := sizeDot
 have oRK := oneMap RV
 have oKV := oneMap KW
 have oND := dot_oneK n1 n2
 have oWC := wp_cells_one WQ
 have hRll : (RV.map (Value.int .u8)).length = 32 := by rw [List.length_map]; exact hRl
 have hKll : (KW.map (Value.int .u8)).length = 32 := by rw [List.length_map]; exact hKl
 have hWll := wp_cells_length WQ hWl
 have hNll : (dotC n1 n2).length = 2 := rfl
 obtain ⟨RK, hRK⟩ : ∃ q, RV.map (Value.int .u8) = q := ⟨_, rfl⟩
 obtain ⟨KV, hKV⟩ : ∃ q, KW.map (Value.int .u8) = q := ⟨_, rfl⟩
 obtain ⟨WC, hWC⟩ : ∃ q, WQ.cells = q := ⟨_, rfl⟩
 obtain ⟨ND, hND⟩ : ∃ q, dotC n1 n2 = q := ⟨_, rfl⟩
 rw [hRK] at HFK0 HFR0 hRe iRK oRK hRll
 rw [hKV] at HKY0 HKR0 hKe iKV oKV hKll
 rw [hWC] at HWP0 HWR0 hWe iWC oWC hWll
 rw [hND] at HNW0 HNR0 hDe iND oND hNll
 have HFK := Veil.mk HFK0
 have HFR := Veil.mk HFR0
 have HNW := Veil.mk HNW0
 have HNR := Veil.mk HNR0
 have HKY := Veil.mk HKY0
 have HKR := Veil.mk HKR0
 have HWP := Veil.mk HWP0
 have HWR := Veil.mk HWR0
 obtain ⟨ZK, hzK, hz1K, hZKl⟩ : ∃ Z : List Value, (∀ wx, (zeroValue 23).run Tryz.prog wx = .ok (.agg Z.toArray) wx) ∧ ¬ Z.toArray = #[] ∧ Veil (Z.length = 32) := ⟨(List.replicate 32 (0 : Int)).map (Value.int .u8), fun wx => by kernel_rfl, by decide, ⟨rfl⟩⟩
 obtain ⟨ZD, hzD, hz1D, hZDl⟩ : ∃ Z : List Value, (∀ wx, (zeroValue 33).run Tryz.prog wx = .ok (.agg Z.toArray) wx) ∧ ¬ Z.toArray = #[] ∧ Veil (Z.length = 2) := ⟨dotC 0 0, fun wx => by kernel_rfl, by decide, ⟨rfl⟩⟩
 obtain ⟨ZW, hzW, hz1W, hZWl⟩ : ∃ Z : List Value, (∀ wx, (zeroValue 36).run Tryz.prog wx = .ok (.agg Z.toArray) wx) ∧ ¬ Z.toArray = #[] ∧ Veil (Z.length = 51) := ⟨wz.cells, fun wx => by kernel_rfl, by decide, ⟨rfl⟩⟩
 have HLN : Veil (RK.length = 32 ∧ KV.length = 32 ∧ WC.length = 51 ∧ ND.length = 2) := ⟨hRll, hKll, hWll, hNll⟩
 clear hRK hKV hWC hND HFK0 HFR0 HNW0 HNR0 HKY0 HKR0 HWP0 HWR0 hRl hKl hWl hRll hKll hWll hNll
 have uD := Tryz.underlying33
 have uK := Tryz.underlying23
 have uW := Tryz.underlying36
 go_enter Tryz.func7, Tryz.ntmps7
 go_upto_region 1 with fail
 refine forget (p := fun y => Code.wp _ _ _ _ y) (fun V => NAk w [(w.heap.size, 33, dotC a s)] V) hN ?_
 clear hN
 rintro V1 hN
 have rE := (hN.all (w.heap.size, 33, dotC a s) (by simp)).wholeM
 have hc := HFK.out V1 hN.below
 go_upto_region 2 with (first
  | (refine wpList_ldv rfl 33 _ rfl w.heap.size 0 rfl (dotC a s) rE uD rfl iEP ?_)
  | (go_at_call 17; refine hc.mono ?_; rintro e W1 ⟨rfl, hb⟩; have hA := CellsAt.new W1 23 ZK)
  | (refine wpList_stv rfl 23 _ _ rfl W1.heap.size rfl (cs := RK) rfl hA iRK (by rw [hZKl.out, HLN.out.1]) oRK ?_))
 replace hN := (hN.far hb).push 23 ZK RK
 clear hA hb hc rE
 obtain ⟨G9, hG9⟩ : ∃ q, W1.heap.size = q := ⟨_, rfl⟩
 rw [hG9] at hN ⊢
 clear hG9
 refine forget (p := fun y => Code.wp _ _ _ _ y) (fun V => NAk w [(G9, 23, RK), (w.heap.size, 33, dotC a s)] V) hN ?_
 clear hN V1 W1
 rintro V2 hN
 have rE := (hN.all (w.heap.size, 33, dotC a s) (by simp)).wholeM
 have hc := HFR.out V2 hN.below
 go_upto_region 3 with (first
  | (refine wpList_ldv rfl 33 _ rfl w.heap.size 0 rfl (dotC a s) rE uD rfl iEP ?_)
  | (go_at_call 18; refine hc.mono ?_; rintro e W1 ⟨rfl, hb⟩; have hA := CellsAt.new W1 23 ZK)
  | (refine wpList_stv rfl 23 _ _ rfl W1.heap.size rfl (cs := RK) rfl hA iRK (by rw [hZKl.out, HLN.out.1]) oRK ?_))
 replace hN := (hN.far hb).push 23 ZK RK
 clear hA hb hc rE
 obtain ⟨G11, hG11⟩ : ∃ q, W1.heap.size = q := ⟨_, rfl⟩
 rw [hG11] at hN ⊢
 clear hG11
 refine forget (p := fun y => Code.wp _ _ _ _ y) (fun V => NAk w [(G11, 23, RK), (G9, 23, RK), (w.heap.size, 33, dotC a s)] V) hN ?_
 clear hN V2 W1
 rintro V3 hN
 have hc := HNW.out V3 hN.below
 go_upto_region 4 with (first
  | (go_at_call 19; refine hc.mono ?_; rintro e W1 ⟨rfl, hb⟩; have hA := CellsAt.new W1 33 ZD)
  | (refine wpList_stv rfl 33 _ _ rfl W1.heap.size rfl (cs := ND) rfl hA iND (by rw [hZDl.out, HLN.out.2.2.2]) oND ?_))
 replace hN := (hN.far hb).push 33 ZD ND
 clear hA hb hc 
 obtain ⟨G13, hG13⟩ : ∃ q, W1.heap.size = q := ⟨_, rfl⟩
 rw [hG13] at hN ⊢
 clear hG13
 refine forget (p := fun y => Code.wp _ _ _ _ y) (fun V => NAk w [(G13, 33, ND), (G11, 23, RK), (G9, 23, RK), (w.heap.size, 33, dotC a s)] V) hN ?_
 clear hN V3 W1
 rintro V4 hN
 have hc := HNR.out V4 hN.below
 go_upto_region 5 with (first
  | (go_at_call 20; refine hc.mono ?_; rintro e W1 ⟨rfl, hb⟩; have hA := CellsAt.new W1 33 ZD)
  | (refine wpList_stv rfl 33 _ _ rfl W1.heap.size rfl (cs := ND) rfl hA iND (by rw [hZDl.out, HLN.out.2.2.2]) oND ?_))
 replace hN := (hN.far hb).push 33 ZD ND
 clear hA hb hc 
 obtain ⟨G15, hG15⟩ : ∃ q, W1.heap.size = q := ⟨_, rfl⟩
 rw [hG15] at hN ⊢
 clear hG15
 refine forget (p := fun y => Code.wp _ _ _ _ y) (fun V => NAk w [(G15, 33, ND), (G13, 33, ND), (G11, 23, RK), (G9, 23, RK), (w.heap.size, 33, dotC a s)] V) hN ?_
 clear hN V4 W1
 rintro V5 hN
 have rE := (hN.all (w.heap.size, 33, dotC a s) (by simp)).wholeM
 have hc := HKY.out V5 hN.below
 go_upto_region 6 with (first
  | (refine wpList_ldv rfl 33 _ rfl w.heap.size 0 rfl (dotC a s) rE uD rfl iEP ?_)
  | (go_at_call 21; refine hc.mono ?_; rintro e W1 ⟨rfl, hb⟩; have hA := CellsAt.new W1 23 ZK)
  | (refine wpList_stv rfl 23 _ _ rfl W1.heap.size rfl (cs := KV) rfl hA iKV (by rw [hZKl.out, HLN.out.2.1]) oKV ?_))
 replace hN := (hN.far hb).push 23 ZK KV
 clear hA hb hc rE
 obtain ⟨G17, hG17⟩ : ∃ q, W1.heap.size = q := ⟨_, rfl⟩
 rw [hG17] at hN ⊢
 clear hG17
 refine forget (p := fun y => Code.wp _ _ _ _ y) (fun V => NAk w [(G17, 23, KV), (G15, 33, ND), (G13, 33, ND), (G11, 23, RK), (G9, 23, RK), (w.heap.size, 33, dotC a s)] V) hN ?_
 clear hN V5 W1
 rintro V6 hN
 have rE := (hN.all (w.heap.size, 33, dotC a s) (by simp)).wholeM
 have hc := HKR.out V6 hN.below
 go_upto_region 7 with (first
  | (refine wpList_ldv rfl 33 _ rfl w.heap.size 0 rfl (dotC a s) rE uD rfl iEP ?_)
  | (go_at_call 22; refine hc.mono ?_; rintro e W1 ⟨rfl, hb⟩; have hA := CellsAt.new W1 23 ZK)
  | (refine wpList_stv rfl 23 _ _ rfl W1.heap.size rfl (cs := KV) rfl hA iKV (by rw [hZKl.out, HLN.out.2.1]) oKV ?_))
 replace hN := (hN.far hb).push 23 ZK KV
 clear hA hb hc rE
 obtain ⟨G19, hG19⟩ : ∃ q, W1.heap.size = q := ⟨_, rfl⟩
 rw [hG19] at hN ⊢
 clear hG19
 refine forget (p := fun y => Code.wp _ _ _ _ y) (fun V => NAk w [(G19, 23, KV), (G17, 23, KV), (G15, 33, ND), (G13, 33, ND), (G11, 23, RK), (G9, 23, RK), (w.heap.size, 33, dotC a s)] V) hN ?_
 clear hN V6 W1
 rintro V7 hN
 have rE := (hN.all (w.heap.size, 33, dotC a s) (by simp)).wholeM
 have hc := HWP.out V7 hN.below
 go_upto_region 8 with (first
  | (refine wpList_ldv rfl 33 _ rfl w.heap.size 0 rfl (dotC a s) rE uD rfl iEP ?_)
  | (go_at_call 13; refine hc.mono ?_; rintro e W1 ⟨rfl, hb⟩; have hA := CellsAt.new W1 36 ZW)
  | (refine wpList_stv rfl 36 _ _ rfl W1.heap.size rfl (cs := WC) rfl hA iWC (by rw [hZWl.out, HLN.out.2.2.1]) oWC ?_))
 replace hN := (hN.far hb).push 36 ZW WC
 clear hA hb hc rE
 obtain ⟨G21, hG21⟩ : ∃ q, W1.heap.size = q := ⟨_, rfl⟩
 rw [hG21] at hN ⊢
 clear hG21
 refine forget (p := fun y => Code.wp _ _ _ _ y) (fun V => NAk w [(G21, 36, WC), (G19, 23, KV), (G17, 23, KV), (G15, 33, ND), (G13, 33, ND), (G11, 23, RK), (G9, 23, RK), (w.heap.size, 33, dotC a s)] V) hN ?_
 clear hN V7 W1
 rintro V8 hN
 have rE := (hN.all (w.heap.size, 33, dotC a s) (by simp)).wholeM
 have hc := HWR.out V8 hN.below
 go_upto_region 9 with (first
  | (refine wpList_ldv rfl 33 _ rfl w.heap.size 0 rfl (dotC a s) rE uD rfl iEP ?_)
  | (go_at_call 23; refine hc.mono ?_; rintro e W1 ⟨rfl, hb⟩; have hA := CellsAt.new W1 36 ZW)
  | (refine wpList_stv rfl 36 _ _ rfl W1.heap.size rfl (cs := WC) rfl hA iWC (by rw [hZWl.out, HLN.out.2.2.1]) oWC ?_))
 replace hN := (hN.far hb).push 36 ZW WC
 clear hA hb hc rE
 obtain ⟨G23, hG23⟩ : ∃ q, W1.heap.size = q := ⟨_, rfl⟩
 rw [hG23] at hN ⊢
 clear hG23
 refine forget (p := fun y => Code.wp _ _ _ _ y) (fun V => NAk w [(G23, 36, WC), (G21, 36, WC), (G19, 23, KV), (G17, 23, KV), (G15, 33, ND), (G13, 33, ND), (G11, 23, RK), (G9, 23, RK), (w.heap.size, 33, dotC a s)] V) hN ?_
 clear hN V8 W1
 rintro V9 hN
 obtain ⟨lst, hlst⟩ : ∃ q, [(G23, 36, WC), (G21, 36, WC), (G19, 23, KV), (G17, 23, KV), (G15, 33, ND), (G13, 33, ND), (G11, 23, RK), (G9, 23, RK), (w.heap.size, 33, dotC a s)] = q := ⟨_, rfl⟩
 have HM : Veil ((G23, 36, WC) ∈ lst ∧ (G21, 36, WC) ∈ lst ∧ (G19, 23, KV) ∈ lst ∧ (G17, 23, KV) ∈ lst ∧ (G15, 33, ND) ∈ lst ∧ (G13, 33, ND) ∈ lst ∧ (G11, 23, RK) ∈ lst ∧ (G9, 23, RK) ∈ lst ∧ (w.heap.size, 33, dotC a s) ∈ lst) := ⟨by rw [← hlst]; simp⟩
 rw [hlst] at hN
 clear hlst hzK hz1K hzD hz1D hzW hz1W hZKl hZDl hZWl HLN HFK HFR HNW HNR HKY HKR HWP HWR oRK oKV oND oWC
 refine wp_region_gateT (fun w' => NAk w lst w') (fun _ => True) 99 (by kernel_rfl) ?_
 obtain ⟨U0, hU0⟩ : ∃ q', V9.drew = q' := ⟨_, rfl⟩
 replace hN : NAk w lst U0 := by rw [← hU0]; exact hN.far (Below.refl _ _).drew
 rw [hU0]
 clear hU0
 have hT : (fun w' : World => NAk w lst w') U0 := hN
 have hS : (fun _ : World => True) U0 := trivial
 refine wpAnyT_load (i := 0) (dst := some 75) (ty := 23) (x := .tmp 9) (b := G9) (o := 0) (cs := RK) (by kernel_rfl) (by kernel_rfl) (by kernel_rfl) (by kernel_rfl) (by kernel_rfl) (fun _ _ _ h => h) (by kernel_rfl) hT (fun _ => hS) (by kernel_rfl) (fun _ h => (h.all _ HM.out.2.2.2.2.2.2.2.1).wholeM) uK rfl iRK ?_
 simp only [Act.put, gA, gS, gZ, sI, sZ, sS]
 refine wpAnyT_load (i := 1) (dst := some 76) (ty := 23) (x := .tmp 11) (b := G11) (o := 0) (cs := RK) (by kernel_rfl) (by kernel_rfl) (by kernel_rfl) (by kernel_rfl) (by kernel_rfl) (fun _ _ _ h => h) (by kernel_rfl) hT (fun _ => hS) (by kernel_rfl) (fun _ h => (h.all _ HM.out.2.2.2.2.2.2.1).wholeM) uK rfl iRK ?_
 simp only [Act.put, gA, gS, gZ, sI, sZ, sS]
 refine ghA 2 (.bool true) hT hS ?_
 simp only [Act.put, gA, gS, gZ, sI, sZ, sS]
 refine ghA 3 _ hT hS ?_
 simp only [Act.put, gA, gS, gZ, sI, sZ, sS]
 refine ghA 4 _ hT hS ?_
 simp only [Act.put, gA, gS, gZ, sI, sZ, sS]
 refine ghA 5 _ hT hS ?_
 simp only [Act.put, gA, gS, gZ, sI, sZ, sS]
 refine ghA 6 (.bool true) hT hS ?_
 simp only [Act.put, gA, gS, gZ, sI, sZ, sS]
 refine ghA 7 (.bool true) hT hS ?_
 simp only [Act.put, gA, gS, gZ, sI, sZ, sS]
 refine ghA 8 _ hT hS ?_
 simp only [Act.put, gA, gS, gZ, sI, sZ, sS]
 refine wpAnyT_load (i := 9) (dst := some 84) (ty := 33) (x := .tmp 13) (b := G13) (o := 0) (cs := ND) (by kernel_rfl) (by kernel_rfl) (by kernel_rfl) (by kernel_rfl) (by kernel_rfl) (fun _ _ _ h => h) (by kernel_rfl) hT (fun _ => hS) (by kernel_rfl) (fun _ h => (h.all _ HM.out.2.2.2.2.2.1).wholeM) uD rfl iND ?_
 simp only [Act.put, gA, gS, gZ, sI, sZ, sS]
 refine wpAnyT_load (i := 10) (dst := some 85) (ty := 33) (x := .tmp 15) (b := G15) (o := 0) (cs := ND) (by kernel_rfl) (by kernel_rfl) (by kernel_rfl) (by kernel_rfl) (by kernel_rfl) (fun _ _ _ h => h) (by kernel_rfl) hT (fun _ => hS) (by kernel_rfl) (fun _ h => (h.all _ HM.out.2.2.2.2.1).wholeM) uD rfl iND ?_
 simp only [Act.put, gA, gS, gZ, sI, sZ, sS]
 refine ghA 11 (.bool true) hT hS ?_
 simp only [Act.put, gA, gS, gZ, sI, sZ, sS]
 refine ghA 12 (.bool true) hT hS ?_
 simp only [Act.put, gA, gS, gZ, sI, sZ, sS]
 refine ghA 13 _ hT hS ?_
 simp only [Act.put, gA, gS, gZ, sI, sZ, sS]
 refine ghA 14 _ hT hS ?_
 simp only [Act.put, gA, gS, gZ, sI, sZ, sS]
 refine ghA 15 _ hT hS ?_
 simp only [Act.put, gA, gS, gZ, sI, sZ, sS]
 refine ghA 16 (.bool true) hT hS ?_
 simp only [Act.put, gA, gS, gZ, sI, sZ, sS]
 refine ghA 17 (.bool true) hT hS ?_
 simp only [Act.put, gA, gS, gZ, sI, sZ, sS]
 refine ghA 18 _ hT hS ?_
 simp only [Act.put, gA, gS, gZ, sI, sZ, sS]
 refine wpAnyT_load (i := 19) (dst := some 94) (ty := 23) (x := .tmp 17) (b := G17) (o := 0) (cs := KV) (by kernel_rfl) (by kernel_rfl) (by kernel_rfl) (by kernel_rfl) (by kernel_rfl) (fun _ _ _ h => h) (by kernel_rfl) hT (fun _ => hS) (by kernel_rfl) (fun _ h => (h.all _ HM.out.2.2.2.1).wholeM) uK rfl iKV ?_
 simp only [Act.put, gA, gS, gZ, sI, sZ, sS]
 refine wpAnyT_load (i := 20) (dst := some 95) (ty := 23) (x := .tmp 19) (b := G19) (o := 0) (cs := KV) (by kernel_rfl) (by kernel_rfl) (by kernel_rfl) (by kernel_rfl) (by kernel_rfl) (fun _ _ _ h => h) (by kernel_rfl) hT (fun _ => hS) (by kernel_rfl) (fun _ h => (h.all _ HM.out.2.2.1).wholeM) uK rfl iKV ?_
 simp only [Act.put, gA, gS, gZ, sI, sZ, sS]
 refine ghA 21 (.bool true) hT hS ?_
 simp only [Act.put, gA, gS, gZ, sI, sZ, sS]
 refine ghA 22 (.bool true) hT hS ?_
 simp only [Act.put, gA, gS, gZ, sI, sZ, sS]
 refine ghA 23 _ hT hS ?_
 simp only [Act.put, gA, gS, gZ, sI, sZ, sS]
 refine ghA 24 _ hT hS ?_
 simp only [Act.put, gA, gS, gZ, sI, sZ, sS]
 refine ghA 25 _ hT hS ?_
 simp only [Act.put, gA, gS, gZ, sI, sZ, sS]
 refine ghA 26 (.bool true) hT hS ?_
 simp only [Act.put, gA, gS, gZ, sI, sZ, sS]
 refine ghA 27 (.bool true) hT hS ?_
 simp only [Act.put, gA, gS, gZ, sI, sZ, sS]
 refine ghA 28 _ hT hS ?_
 simp only [Act.put, gA, gS, gZ, sI, sZ, sS]
 refine ghA 29 _ hT hS ?_
 simp only [Act.put, gA, gS, gZ, sI, sZ, sS]
 refine wpAnyT_load (i := 30) (dst := some 105) (ty := 33) (x := .tmp 6) (b := w.heap.size) (o := 0) (cs := (dotC a s)) (by kernel_rfl) (by kernel_rfl) (by kernel_rfl) (by kernel_rfl) (by kernel_rfl) (fun _ _ _ h => h) (by kernel_rfl) hT (fun _ => hS) (by kernel_rfl) (fun _ h => (h.all _ HM.out.2.2.2.2.2.2.2.2).wholeM) uD rfl iEP ?_
 simp only [Act.put, gA, gS, gZ, sI, sZ, sS]
 refine ghA 32 _ hT hS ?_
 simp only [Act.put, gA, gS, gZ, sI, sZ, sS]
 refine wpAnyT_load (i := 33) (dst := some 108) (ty := 33) (x := .tmp 6) (b := w.heap.size) (o := 0) (cs := (dotC a s)) (by kernel_rfl) (by kernel_rfl) (by kernel_rfl) (by kernel_rfl) (by kernel_rfl) (fun _ _ _ h => h) (by kernel_rfl) hT (fun _ => hS) (by kernel_rfl) (fun _ h => (h.all _ HM.out.2.2.2.2.2.2.2.2).wholeM) uD rfl iEP ?_
 simp only [Act.put, gA, gS, gZ, sI, sZ, sS]
 refine wpAnyT_one (i := 31) rfl (by kernel_rfl) (by kernel_rfl) (fun K hK => ?_)
 refine wpx_call _ _ (by kernel_rfl) ((HHA.out U0 hN.below).mono ?_)
 rintro e U1 ⟨rfl, hb⟩
 refine ⟨_, rfl, ?_⟩
 replace hN := hN.far hb
 replace hT : (fun w' : World => NAk w lst w') U1 := hN
 clear hb
 refine hK.out _ _ hT (fun _ => hS) ?_
 clear hK K
 try simp only [Act.put, gA, gS, gZ, sI, sZ, sS]
 refine wpAnyT_one (i := 34) rfl (by kernel_rfl) (by kernel_rfl) (fun K hK => ?_)
 refine wpx_call _ _ (by kernel_rfl) ((HHR.out U1 hN.below).mono ?_)
 rintro e U2 ⟨rfl, hb⟩
 refine ⟨_, rfl, ?_⟩
 replace hN := hN.far hb
 replace hT : (fun w' : World => NAk w lst w') U2 := hN
 clear hb
 refine hK.out _ _ hT (fun _ => hS) ?_
 clear hK K
 try simp only [Act.put, gA, gS, gZ, sI, sZ, sS]
 refine ghA 35 (.bool true) hT hS ?_
 simp only [Act.put, gA, gS, gZ, sI, sZ, sS]
 refine ghA 36 (.bool true) hT hS ?_
 simp only [Act.put, gA, gS, gZ, sI, sZ, sS]
 refine ghA 37 _ hT hS ?_
 simp only [Act.put, gA, gS, gZ, sI, sZ, sS]
 refine ghA 38 _ hT hS ?_
 simp only [Act.put, gA, gS, gZ, sI, sZ, sS]
 refine ghA 40 _ hT hS ?_
 simp only [Act.put, gA, gS, gZ, sI, sZ, sS]
 refine wpAnyT_one (i := 39) rfl (by kernel_rfl) (by kernel_rfl) (fun K hK => ?_)
 refine wpx_call _ _ (by kernel_rfl) ((HEP.out U2 hN.below).mono ?_)
 rintro e U3 ⟨x1, rfl, ho1, hb⟩
 refine ⟨_, rfl, ?_⟩
 replace hN := hN.far hb
 replace hT : (fun w' : World => NAk w lst w') U3 := hN
 have HO1 := Veil.mk ho1
 clear hb ho1
 refine hK.out _ _ hT (fun _ => hS) ?_
 clear hK K
 try simp only [Act.put, gA, gS, gZ, sI, sZ, sS]
 refine wpAnyT_one (i := 41) rfl (by kernel_rfl) (by kernel_rfl) (fun K hK => ?_)
 refine wpx_call _ _ (by kernel_rfl) ((HER.out U3 hN.below).mono ?_)
 rintro e U4 ⟨x2, rfl, ho2, hb⟩
 refine ⟨_, rfl, ?_⟩
 replace hN := hN.far hb
 replace hT : (fun w' : World => NAk w lst w') U4 := hN
 have hsd := HSD.out U4 x1 x2 _ _ _ _ (HO1.out.congr fun g hg => hb.block g (HO1.out.blockLt g hg).1) ho2 rfl rfl
 clear hb ho2
 refine hK.out _ _ hT (fun _ => hS) ?_
 clear hK K
 try simp only [Act.put, gA, gS, gZ, sI, sZ, sS]
 refine wpAnyT_one (i := 42) rfl (by kernel_rfl) (by kernel_rfl) (fun K hK => ?_)
 refine wpx_call _ _ (by kernel_rfl) (hsd.mono ?_)
 rintro e U5 ⟨rfl, hb⟩
 refine ⟨_, rfl, ?_⟩
 replace hN := hN.far hb
 replace hT : (fun w' : World => NAk w lst w') U5 := hN
 clear hb hsd
 refine hK.out _ _ hT (fun _ => hS) ?_
 clear hK K
 try simp only [Act.put, gA, gS, gZ, sI, sZ, sS]
 refine ghA 43 (.bool true) hT hS ?_
 simp only [Act.put, gA, gS, gZ, sI, sZ, sS]
 refine ghA 44 _ hT hS ?_
 simp only [Act.put, gA, gS, gZ, sI, sZ, sS]
 refine wpAnyT_load (i := 45) (dst := some 120) (ty := 36) (x := .tmp 21) (b := G21) (o := 0) (cs := WC) (by kernel_rfl) (by kernel_rfl) (by kernel_rfl) (by kernel_rfl) (by kernel_rfl) (fun _ _ _ h => h) (by kernel_rfl) hT (fun _ => hS) (by kernel_rfl) (fun _ h => (h.all _ HM.out.2.1).wholeM) uW rfl iWC ?_
 simp only [Act.put, gA, gS, gZ, sI, sZ, sS]
 refine wpAnyT_load (i := 46) (dst := some 121) (ty := 36) (x := .tmp 23) (b := G23) (o := 0) (cs := WC) (by kernel_rfl) (by kernel_rfl) (by kernel_rfl) (by kernel_rfl) (by kernel_rfl) (fun _ _ _ h => h) (by kernel_rfl) hT (fun _ => hS) (by kernel_rfl) (fun _ h => (h.all _ HM.out.1).wholeM) uW rfl iWC ?_
 simp only [Act.put, gA, gS, gZ, sI, sZ, sS]
 refine ghA 47 (.bool true) hT hS ?_
 simp only [Act.put, gA, gS, gZ, sI, sZ, sS]
 refine ghA 48 (.bool true) hT hS ?_
 simp only [Act.put, gA, gS, gZ, sI, sZ, sS]
 refine ghA 49 _ hT hS ?_
 simp only [Act.put, gA, gS, gZ, sI, sZ, sS]
 refine ghA 50 _ hT hS ?_
 simp only [Act.put, gA, gS, gZ, sI, sZ, sS]
 refine ghA 51 _ hT hS ?_
 simp only [Act.put, gA, gS, gZ, sI, sZ, sS]
 refine ghA 52 (.bool true) hT hS ?_
 simp only [Act.put, gA, gS, gZ, sI, sZ, sS]
 refine ghA 53 (.bool true) hT hS ?_
 simp only [Act.put, gA, gS, gZ, sI, sZ, sS]
 refine ghA 54 _ hT hS ?_
 simp only [Act.put, gA, gS, gZ, sI, sZ, sS]
 refine wpAnyT_done (by kernel_rfl) ?_ _
 have hB := hN.below
 clear hT hS hN
 go_wp2
 go_ret
 exact ⟨rfl, hB⟩
end
end Go.Proofs.YtflkhkmejnpapaaGreatDoor
