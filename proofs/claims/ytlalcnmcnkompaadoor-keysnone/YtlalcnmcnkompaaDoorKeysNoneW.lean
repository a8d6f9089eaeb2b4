/- keys: on no ring each call answers so, and none panics. -/
import Derived.Test.YtlalcnmcnkompaaDoorMEqdKn
import Derived.Test.YtlalcnmcnkompaaDoorEvl
import Derived.Test.YtlalcnmcnkompaaDoorKd
import Derived.Test.YtlalcnmcnkompaaDoorMAn6Gate3
import Derived.Test.YtlalcnmcnkompaaDoorMEvmKz3
namespace Go.Proofs.YtlalcnmcnkompaaDoor
open Go.RowKit
set_option maxRecDepth 20000
set_option linter.unusedSimpArgs false

/-- The boxes of l lie still. -/
structure NAt (w : World) (l : List (Nat × TypeId × List Value)) (W : World) : Prop where
  below : Below w.heap.size w W
  all : ∀ x ∈ l, CellsAt W x.1 x.2.1 x.2.2
theorem NAt.far {w : World} {l : List (Nat × TypeId × List Value)} {W W' : World} (h : NAt w l W) (hb : Below W.heap.size W W') : NAt w l W' :=
  ⟨h.below.trans (hb.mono h.below.size), fun x hx => (h.all x hx).congr (hb.block _ (h.all x hx).lt)⟩
theorem NAt.push {w : World} {l : List (Nat × TypeId × List Value)} {W : World} (h : NAt w l W) (t : TypeId) (old cs : List Value) : NAt w ((W.heap.size, t, cs) :: l) ((W.alloc (.cells old.toArray t)).setRow W.heap.size cs.toArray) := by
  have hb : Below W.heap.size W ((W.alloc (.cells old.toArray t)).setRow W.heap.size cs.toArray) := below_setRow ((Below.refl _ _).alloc (Nat.le_refl _) _) (Nat.le_refl _) _
  refine ⟨(h.far hb).below, fun x hx => ?_⟩
  rcases List.mem_cons.1 hx with rfl | hx
  · exact (CellsAt.new W t old).setRow _
  · exact (h.far hb).all x hx
theorem deed_dot' (d : Deed) : (d.cells.drop 1).take 2 = dotC d.ea d.es := rfl
theorem deed_from (d : Deed) (h : d.k.length = 32) : d.cells[35]? = some (.int .u8 d.from_) := by
  show (d.k.map (Value.int .u8) ++ [Value.int .u8 d.from_] ++ d.w.cells)[32]? = _
  rw [List.append_assoc, List.getElem?_append_right (by simp [h])]; simp [h]
theorem deed_keyN (d : Deed) (h : d.k.length = 32) : (d.cells.drop 3).take 32 = d.k.map (Value.int .u8) := by
  have e : d.cells.drop 3 = d.k.map (Value.int .u8) ++ ([.int .u8 d.from_] ++ d.w.cells) := by
    show (d.k.map (Value.int .u8) ++ [.int .u8 d.from_]) ++ d.w.cells = _
    rw [List.append_assoc]
  rw [e, List.take_left' (by simp [h])]
theorem deed_wrap (d : Deed) (h : d.k.length = 32) (hw : d.w.data.length = 48) : (d.cells.drop 36).take 51 = d.w.cells := by
  have e : d.cells.drop 36 = d.w.cells := by
    show ((d.k.map (Value.int .u8) ++ [Value.int .u8 d.from_]) ++ d.w.cells).drop 33 = _
    rw [List.drop_left' (by simp [h])]
  rw [e, List.take_of_length_le (by rw [wp_cells_length _ hw]; omega)]
theorem wpAnyT_dst {P : Program} {ops : Array Oper} {Q : Exit → Act → World → Prop} {md : Region.Mode} {T S : World → Prop} {D fuel : Nat} {listed : Array Bool} {a : Act} {d : Option Tmp} {v : Value} {w : World} (d' : Option Tmp) (hd : d = d') (h : wpAnyT P md ops Q T S D fuel listed (a.put d' v) w) : wpAnyT P md ops Q T S D fuel listed (a.put d v) w := hd ▸ h
set_option maxHeartbeats 16000000 in
theorem none_walk (D : Deed) (w : World) (hD : D.Ok) (hKT : S.KTab w) :
    Calls Tryd.prog 8 #[.agg D.cells.toArray] w fun e w' => e = .returned (.bool true) ∧ Below w.heap.size w w' := by
  obtain ⟨Z, hZl, hZ⟩ : ∃ Z : List Int, Z.length = 32 ∧ z32 = Z := ⟨_, rfl, rfl⟩
  obtain ⟨XC, hXl, hX1, hXC⟩ : ∃ XC : List Value, XC.length = 51 ∧ (∀ u ∈ XC, u.oneCell' = true) ∧ wz.cells = XC := ⟨_, rfl, wp_cells_one wz, rfl⟩
  have hZ1 : ∀ u ∈ Z.map (Value.int .u8), u.oneCell' = true := fun u hu => by simp only [List.mem_map] at hu; obtain ⟨_, _, rfl⟩ := hu; rfl
  have HLV : Veil (∀ W, Below w.heap.size w W → Calls Tryd.prog 11 #[] W fun e w' => e = .returned (.bool true) ∧ Below W.heap.size W w') := ⟨fun W hb => klive_any W (hKT.below hb)⟩
  have HKEY : Veil (∀ W, Calls Tryd.prog 19 #[.pointer none, .agg (dotC D.ea D.es).toArray] W fun e w' => e = .returned (.tuple #[.agg (Z.map (Value.int .u8)).toArray, .bool false]) ∧ Below W.heap.size W w') := ⟨fun W => by rw [← hZ]; exact nKey _ _ W⟩
  have HFRM : Veil (∀ W, Calls Tryd.prog 26 #[.pointer none, .agg (dotC D.ea D.es).toArray, .int .u8 D.from_] W fun e w' => e = .returned (.tuple #[.agg (Z.map (Value.int .u8)).toArray, .int .i64 1]) ∧ Below W.heap.size W w') := ⟨fun W => by rw [← hZ]; exact nFrame _ _ _ W⟩
  have HWRP : Veil (∀ W, Calls Tryd.prog 18 #[.pointer none, .int .u8 D.from_, .agg (dotC D.ea D.es).toArray] W fun e w' => e = .returned (.tuple #[.agg XC.toArray, .int .i64 1]) ∧ Below W.heap.size W w') := ⟨fun W => by rw [← hXC]; exact nWrap _ _ _ W⟩
  have HPR : Veil (∀ W, Calls Tryd.prog 13 #[.pointer none, .int .u8 D.from_, .int .u8 1] W fun e w' => e = .returned (.agg (Z.map (Value.int .u8)).toArray) ∧ Below W.heap.size W w') := ⟨fun W => by rw [← hZ]; exact nPair _ _ W⟩
  have HMC : Veil (∀ W, Calls Tryd.prog 15 #[.pointer none, .int .u8 D.from_] W fun e w' => e = .returned (.agg (Z.map (Value.int .u8)).toArray) ∧ Below W.heap.size W w') := ⟨fun W => by rw [← hZ]; exact nMac _ W⟩
  have HZB : Veil (∀ wx, (Instr.build 23 #[]).run Tryd.prog wx = .ok (.agg (Z.map (Value.int .u8)).toArray) wx) := ⟨fun wx => by rw [← hZ]; exact zkey_built wx⟩
  have hKe : ∀ wx, (binOp BinOp.eql 23 (.agg (Z.map (Value.int .u8)).toArray) (.agg (Z.map (Value.int .u8)).toArray)).run Tryd.prog wx = .ok (.bool true) wx := fun wx => by rw [key_eql _ _ hZl hZl]; simp
  have hWe : ∀ wx, (binOp BinOp.eql 39 (.agg XC.toArray) (.agg XC.toArray)).run Tryd.prog wx = .ok (.bool true) wx := fun wx => by rw [← hXC, run_eql_struct, wrap_eqIn wz wz rfl rfl, (wpEq_iff wz wz).2 rfl]; rfl
  have hDe : ∀ wx, (binOp BinOp.eql 36 (.agg (dotC 0 0).toArray) (.agg (dotC 0 0).toArray)).run Tryd.prog wx = .ok (.bool true) wx := fun wx => by rw [dot_eql]; simp
  have HXC := Veil.mk hXC
  clear hZ hXC
  have hiK : (Tryd.prog.info? 23).map (·.size) = some (Z.map (Value.int .u8)).length := by rw [List.length_map, hZl]; exact sizeKeyD
  have hiW : (Tryd.prog.info? 39).map (·.size) = some XC.length := by rw [hXl]; exact sizeWrapK
  have hDt := deed_dot' D
  have hDk := deed_keyN D hD.k32
  have hDw := deed_wrap D hD.k32 hD.w48
  have hDf := deed_from D hD.k32
  have hD32 := hD.k32
  have hDwl := wp_cells_length D.w hD.w48
  have hN : NAt w [(w.heap.size, 41, D.cells)] (w.alloc (.cells D.cells.toArray 41)) := ⟨(Below.refl _ _).alloc (Nat.le_refl _) _, fun x hx => by
    obtain rfl := List.mem_singleton.1 hx
    exact CellsAt.new w 41 D.cells⟩
  go_enter Tryd.func8, Tryd.ntmps8
  go_upto_region 2 with fail
  refine forget (p := fun y => Code.wp _ _ _ _ y) (fun V => NAt w [(w.heap.size, 41, D.cells)] V) hN ?_
  clear hN
  rintro V0 hN
  go_upto_region 3 with (first
    | (go_at_call 24; refine (nNow V0).mono ?_; rintro e W1 ⟨rfl, hb⟩; have hA := CellsAt.new W1 36 (dotC 0 0))
    | (refine wpList_stv rfl 36 _ _ rfl _ rfl (cs := dotC 0 0) rfl hA sizeDotK rfl (dot_oneK 0 0) ?_))
  replace hN := (hN.far hb).push 36 (dotC 0 0) (dotC 0 0)
  clear hA hb
  obtain ⟨G4, hG4⟩ : ∃ q, W1.heap.size = q := ⟨_, rfl⟩
  rw [hG4] at hN ⊢
  clear hG4
  refine forget (p := fun y => Code.wp _ _ _ _ y) (fun V => NAt w [(G4, 36, dotC 0 0), (w.heap.size, 41, D.cells)] V) hN ?_
  clear hN
  rintro V1 hN
  have rD := (hN.all (w.heap.size, 41, D.cells) (by simp)).range 1 2
  rw [hDt] at rD
  have c35 := (hN.all (w.heap.size, 41, D.cells) (by simp)).cell 35
  rw [hDf] at c35
  go_upto_region 4 with (first
    | (refine wpList_ldv rfl 36 _ rfl _ _ rfl (dotC D.ea D.es) rD Tryd.underlying36 rfl sizeDotK ?_)
    | (go_at_call 19; refine (HKEY.out V1).mono ?_; rintro e W1 ⟨rfl, hb⟩; have hA := CellsAt.new W1 23 ((List.replicate 32 (0 : Int)).map (Value.int .u8)))
    | (refine wpList_stv rfl 23 _ _ rfl _ rfl (cs := Z.map (Value.int .u8)) rfl hA hiK (by rw [List.length_map, List.length_map, hZl]; rfl) hZ1 ?_))
  replace hN := (hN.far hb).push 23 ((List.replicate 32 (0 : Int)).map (Value.int .u8)) (Z.map (Value.int .u8))
  clear hA hb rD c35
  obtain ⟨G6, hG6⟩ : ∃ q, W1.heap.size = q := ⟨_, rfl⟩
  rw [hG6] at hN ⊢
  clear hG6
  refine forget (p := fun y => Code.wp _ _ _ _ y) (fun V => NAt w [(G6, 23, Z.map (Value.int .u8)), (G4, 36, dotC 0 0), (w.heap.size, 41, D.cells)] V) hN ?_
  clear hN
  rintro V2 hN
  have rD := (hN.all (w.heap.size, 41, D.cells) (by simp)).range 1 2
  rw [hDt] at rD
  have c35 := (hN.all (w.heap.size, 41, D.cells) (by simp)).cell 35
  rw [hDf] at c35
  go_upto_region 5 with (first
    | (refine wpList_ldv rfl 36 _ rfl _ _ rfl (dotC D.ea D.es) rD Tryd.underlying36 rfl sizeDotK ?_)
    | (go_at_call 18; refine (HWRP.out V2).mono ?_; rintro e W1 ⟨rfl, hb⟩; have hA := CellsAt.new W1 39 wz.cells)
    | (refine wpList_stv rfl 39 _ _ rfl _ rfl (cs := XC) rfl hA hiW (by rw [hXl]; rfl) hX1 ?_))
  replace hN := (hN.far hb).push 39 wz.cells (XC)
  clear hA hb rD c35
  obtain ⟨G8, hG8⟩ : ∃ q, W1.heap.size = q := ⟨_, rfl⟩
  rw [hG8] at hN ⊢
  clear hG8
  refine forget (p := fun y => Code.wp _ _ _ _ y) (fun V => NAt w [(G8, 39, XC), (G6, 23, Z.map (Value.int .u8)), (G4, 36, dotC 0 0), (w.heap.size, 41, D.cells)] V) hN ?_
  clear hN
  rintro V3 hN
  have rD := (hN.all (w.heap.size, 41, D.cells) (by simp)).range 1 2
  rw [hDt] at rD
  have c35 := (hN.all (w.heap.size, 41, D.cells) (by simp)).cell 35
  rw [hDf] at c35
  go_upto_region 6 with (first
    | (refine wpList_ldv rfl 36 _ rfl _ _ rfl (dotC D.ea D.es) rD Tryd.underlying36 rfl sizeDotK ?_)
    | (go_at_call 26; refine (HFRM.out V3).mono ?_; rintro e W1 ⟨rfl, hb⟩; have hA := CellsAt.new W1 23 ((List.replicate 32 (0 : Int)).map (Value.int .u8)))
    | (refine wpList_stv rfl 23 _ _ rfl _ rfl (cs := Z.map (Value.int .u8)) rfl hA hiK (by rw [List.length_map, List.length_map, hZl]; rfl) hZ1 ?_))
  replace hN := (hN.far hb).push 23 ((List.replicate 32 (0 : Int)).map (Value.int .u8)) (Z.map (Value.int .u8))
  clear hA hb rD c35
  obtain ⟨G10, hG10⟩ : ∃ q, W1.heap.size = q := ⟨_, rfl⟩
  rw [hG10] at hN ⊢
  clear hG10
  refine forget (p := fun y => Code.wp _ _ _ _ y) (fun V => NAt w [(G10, 23, Z.map (Value.int .u8)), (G8, 39, XC), (G6, 23, Z.map (Value.int .u8)), (G4, 36, dotC 0 0), (w.heap.size, 41, D.cells)] V) hN ?_
  clear hN
  rintro V4 hN
  have hA := CellsAt.new V4 23 ((List.replicate 32 (0 : Int)).map (Value.int .u8))
  go_upto_region 7 with (first
    | (refine wpList_bldx rfl 23 _ rfl #[] (by first | rfl | kernel_rfl) _ (HZB.out _) ?_)
    | (refine wpList_stv rfl 23 _ _ rfl _ rfl (cs := Z.map (Value.int .u8)) rfl hA hiK (by rw [List.length_map, List.length_map, hZl]; rfl) hZ1 ?_))
  replace hN := hN.push 23 ((List.replicate 32 (0 : Int)).map (Value.int .u8)) (Z.map (Value.int .u8))
  clear hA
  obtain ⟨G12, hG12⟩ : ∃ q, V4.heap.size = q := ⟨_, rfl⟩
  rw [hG12] at hN ⊢
  clear hG12
  refine forget (p := fun y => Code.wp _ _ _ _ y) (fun V => NAt w [(G12, 23, Z.map (Value.int .u8)), (G10, 23, Z.map (Value.int .u8)), (G8, 39, XC), (G6, 23, Z.map (Value.int .u8)), (G4, 36, dotC 0 0), (w.heap.size, 41, D.cells)] V) hN ?_
  clear hN
  rintro V5 hN
  have HT : ∀ V, NAt w [(G12, 23, Z.map (Value.int .u8)), (G10, 23, Z.map (Value.int .u8)), (G8, 39, XC), (G6, 23, Z.map (Value.int .u8)), (G4, 36, dotC 0 0), (w.heap.size, 41, D.cells)] V → (fun w' : World => w'.cell? ⟨w.heap.size, 35, none⟩ = some (.int .u8 D.from_) ∧ w'.rangeAt w.heap.size 1 (dotC D.ea D.es) ∧ w'.rangeAt w.heap.size 3 (D.k.map (Value.int .u8)) ∧ w'.rangeAt w.heap.size 36 D.w.cells ∧ w'.rangeAt G4 0 (dotC 0 0) ∧ w'.rangeAt G6 0 (Z.map (Value.int .u8)) ∧ w'.rangeAt G8 0 XC ∧ w'.rangeAt G10 0 (Z.map (Value.int .u8)) ∧ w'.rangeAt G12 0 (Z.map (Value.int .u8))) V := fun V h => by
    have d0 := h.all (w.heap.size, 41, D.cells) (by simp)
    have k6 := (h.all (G6, 23, Z.map (Value.int .u8)) (by simp)).range 0 32
    have k10 := (h.all (G10, 23, Z.map (Value.int .u8)) (by simp)).range 0 32
    have k12 := (h.all (G12, 23, Z.map (Value.int .u8)) (by simp)).range 0 32
    have k8 := (h.all (G8, 39, XC) (by simp)).range 0 51
    have k4 := (h.all (G4, 36, dotC 0 0) (by simp)).range 0 2
    have c35 := d0.cell 35
    have r1 := d0.range 1 2
    have r3 := d0.range 3 32
    have r36 := d0.range 36 51
    simp only [] at k6 k10 k12 k8 k4 c35 r1 r3 r36
    rw [List.drop_zero, List.take_of_length_le (by rw [List.length_map]; omega)] at k6 k10 k12
    rw [List.drop_zero, List.take_of_length_le (by omega)] at k8
    rw [hDf] at c35
    rw [hDt] at r1
    rw [hDk] at r3
    rw [hDw] at r36
    exact ⟨c35, r1, r3, r36, k4, k6, k8, k10, k12⟩
  have uD := Tryd.underlying36
  have uK := Tryd.underlying23
  have uW := Tryd.underlying39
  have iDK : (Tryd.prog.info? 23).map (·.size) = some (D.k.map (Value.int .u8)).length := by rw [List.length_map, hD32]; exact sizeKeyD
  have iDW : (Tryd.prog.info? 39).map (·.size) = some D.w.cells.length := by rw [hDwl]; exact sizeWrapK
  refine wp_meetE (fun A W => A.tmps.getD 2 undef = .bool true ∧ A.defers = [] ∧ Below w.heap.size w W) ?_ ?_
  rotate_left
  · rintro A W ⟨h1, h2, hB⟩
    clear hN HT
    obtain ⟨ts, df⟩ := A
    simp only at h1 h2
    subst h2
    go_wp2
    go_ret
    exact ⟨by rw [h1], hB⟩
  --SORRY
  obtain ⟨U0, hU0⟩ : ∃ q', V5.drew = q' := ⟨_, rfl⟩
  replace hN : NAt w [(G12, 23, Z.map (Value.int .u8)), (G10, 23, Z.map (Value.int .u8)), (G8, 39, XC), (G6, 23, Z.map (Value.int .u8)), (G4, 36, dotC 0 0), (w.heap.size, 41, D.cells)] U0 := by rw [← hU0]; exact hN.far (Below.refl _ _).drew
  refine wp_region_gateT (fun w' => w'.cell? ⟨w.heap.size, 35, none⟩ = some (.int .u8 D.from_) ∧ w'.rangeAt w.heap.size 1 (dotC D.ea D.es) ∧ w'.rangeAt w.heap.size 3 (D.k.map (Value.int .u8)) ∧ w'.rangeAt w.heap.size 36 D.w.cells ∧ w'.rangeAt G4 0 (dotC 0 0) ∧ w'.rangeAt G6 0 (Z.map (Value.int .u8)) ∧ w'.rangeAt G8 0 XC ∧ w'.rangeAt G10 0 (Z.map (Value.int .u8)) ∧ w'.rangeAt G12 0 (Z.map (Value.int .u8))) (fun _ => True) 91 (by as_aux_lemma => kernel_rfl) ?_
  rw [hU0]
  clear hU0
  have hT := HT U0 hN
  have hS : (fun _ : World => True) U0 := trivial
  have hiK2 := hiK
  have hiW2 := hiW
  clear hDt hDk hDw hDf hiK hiW
  refine wpAnyT_one (i := 0) rfl (by as_aux_lemma => kernel_rfl) (by as_aux_lemma => kernel_rfl) (fun K hK => ?_)
  refine wpx_call _ _ (by as_aux_lemma => kernel_rfl) ((HLV.out U0 hN.below).mono ?_)
  rintro e U1 ⟨rfl, hb⟩
  refine ⟨_, rfl, ?_⟩
  replace hN := hN.far hb
  replace hT := HT U1 hN
  clear hb
  refine hK.out _ _ hT (fun _ => hS) ?_
  clear hK K
  try simp only [Act.put, List.getElem_toArray, List.getElem_cons_succ, List.getElem_cons_zero, List.setIfInBounds_toArray, List.set_cons_zero, List.set_cons_succ]
  refine wpAnyT_held (i := 1) (v := ?_) rfl (by as_aux_lemma => kernel_rfl) (by as_aux_lemma => kernel_rfl) (by as_aux_lemma => kernel_rfl) (fun _ _ _ h => h) (by as_aux_lemma => kernel_rfl) hT (fun _ => hS) (by as_aux_lemma => kernel_rfl) ?_ ?_
  rotate_left
  · intro wx hSw; go_split_ands; go_simp; try with_reducible rfl
  simp only [Act.put, List.getElem_toArray, List.getElem_cons_succ, List.getElem_cons_zero, List.setIfInBounds_toArray, List.set_cons_zero, List.set_cons_succ]
  refine wpAnyT_held (i := 2) (v := ?_) rfl (by as_aux_lemma => kernel_rfl) (by as_aux_lemma => kernel_rfl) (by as_aux_lemma => kernel_rfl) (fun _ _ _ h => h) (by as_aux_lemma => kernel_rfl) hT (fun _ => hS) (by as_aux_lemma => kernel_rfl) ?_ ?_
  rotate_left
  · intro wx hSw; go_split_ands; go_simp; try with_reducible rfl
  simp only [Act.put, List.getElem_toArray, List.getElem_cons_succ, List.getElem_cons_zero, List.setIfInBounds_toArray, List.set_cons_zero, List.set_cons_succ]
  refine wpAnyT_one (i := 3) rfl (by as_aux_lemma => kernel_rfl) (by as_aux_lemma => kernel_rfl) (fun K hK => ?_)
  refine wpx_call _ _ (by as_aux_lemma => kernel_rfl) ((nOwn U1).mono ?_)
  rintro e U2 ⟨rfl, hb⟩
  refine ⟨_, rfl, ?_⟩
  replace hN := hN.far hb
  replace hT := HT U2 hN
  clear hb
  refine hK.out _ _ hT (fun _ => hS) ?_
  clear hK K
  try simp only [Act.put, List.getElem_toArray, List.getElem_cons_succ, List.getElem_cons_zero, List.setIfInBounds_toArray, List.set_cons_zero, List.set_cons_succ]
  refine wpAnyT_held (i := 4) (v := .bool true) rfl (by as_aux_lemma => kernel_rfl) (by as_aux_lemma => kernel_rfl) (by as_aux_lemma => kernel_rfl) (fun _ _ _ h => h) (by as_aux_lemma => kernel_rfl) hT (fun _ => hS) (by as_aux_lemma => kernel_rfl) ?_ ?_
  · intro wx hSw; go_split_ands; go_simp
  simp only [Act.put, List.getElem_toArray, List.getElem_cons_succ, List.getElem_cons_zero, List.setIfInBounds_toArray, List.set_cons_zero, List.set_cons_succ]
  refine wpAnyT_held (i := 5) (v := .bool true) rfl (by as_aux_lemma => kernel_rfl) (by as_aux_lemma => kernel_rfl) (by as_aux_lemma => kernel_rfl) (fun _ _ _ h => h) (by as_aux_lemma => kernel_rfl) hT (fun _ => hS) (by as_aux_lemma => kernel_rfl) ?_ ?_
  · intro wx hSw; go_split_ands; go_simp
  simp only [Act.put, List.getElem_toArray, List.getElem_cons_succ, List.getElem_cons_zero, List.setIfInBounds_toArray, List.set_cons_zero, List.set_cons_succ]
  refine wpAnyT_held (i := 6) (v := ?_) rfl (by as_aux_lemma => kernel_rfl) (by as_aux_lemma => kernel_rfl) (by as_aux_lemma => kernel_rfl) (fun _ _ _ h => h) (by as_aux_lemma => kernel_rfl) hT (fun _ => hS) (by as_aux_lemma => kernel_rfl) ?_ ?_
  rotate_left
  · intro wx hSw; go_split_ands; go_simp; try with_reducible rfl
  simp only [Act.put, List.getElem_toArray, List.getElem_cons_succ, List.getElem_cons_zero, List.setIfInBounds_toArray, List.set_cons_zero, List.set_cons_succ]
  refine wpAnyT_held (i := 7) (v := ?_) rfl (by as_aux_lemma => kernel_rfl) (by as_aux_lemma => kernel_rfl) (by as_aux_lemma => kernel_rfl) (fun _ _ _ h => h) (by as_aux_lemma => kernel_rfl) hT (fun _ => hS) (by as_aux_lemma => kernel_rfl) ?_ ?_
  rotate_left
  · intro wx hSw; go_split_ands; go_simp; try with_reducible rfl
  simp only [Act.put, List.getElem_toArray, List.getElem_cons_succ, List.getElem_cons_zero, List.setIfInBounds_toArray, List.set_cons_zero, List.set_cons_succ]
  refine wpAnyT_held (i := 8) (v := ?_) rfl (by as_aux_lemma => kernel_rfl) (by as_aux_lemma => kernel_rfl) (by as_aux_lemma => kernel_rfl) (fun _ _ _ h => h) (by as_aux_lemma => kernel_rfl) hT (fun _ => hS) (by as_aux_lemma => kernel_rfl) ?_ ?_
  rotate_left
  · intro wx hSw; go_split_ands; go_simp; try with_reducible rfl
  simp only [Act.put, List.getElem_toArray, List.getElem_cons_succ, List.getElem_cons_zero, List.setIfInBounds_toArray, List.set_cons_zero, List.set_cons_succ]
  refine wpAnyT_held (i := 9) (v := ?_) rfl (by as_aux_lemma => kernel_rfl) (by as_aux_lemma => kernel_rfl) (by as_aux_lemma => kernel_rfl) (fun _ _ _ h => h) (by as_aux_lemma => kernel_rfl) hT (fun _ => hS) (by as_aux_lemma => kernel_rfl) ?_ ?_
  rotate_left
  · intro wx hSw; go_split_ands; go_simp; try with_reducible rfl
  simp only [Act.put, List.getElem_toArray, List.getElem_cons_succ, List.getElem_cons_zero, List.setIfInBounds_toArray, List.set_cons_zero, List.set_cons_succ]
  refine wpAnyT_load (i := 11) (dst := some 55) (ty := 23) (x := .tmp 12) (b := G12) (o := (0)) (cs := (Z.map (Value.int .u8))) (by as_aux_lemma => kernel_rfl) (by as_aux_lemma => kernel_rfl) (by as_aux_lemma => kernel_rfl) (by as_aux_lemma => kernel_rfl) (by as_aux_lemma => kernel_rfl) (fun _ _ _ h => h) (by as_aux_lemma => kernel_rfl) hT (fun _ => hS) (by as_aux_lemma => kernel_rfl) (fun _ h => h.2.2.2.2.2.2.2.2) uK rfl hiK2 ?_
  simp only [Act.put, List.getElem_toArray, List.getElem_cons_succ, List.getElem_cons_zero, List.setIfInBounds_toArray, List.set_cons_zero, List.set_cons_succ]
  refine wpAnyT_one (i := 10) rfl (by as_aux_lemma => kernel_rfl) (by as_aux_lemma => kernel_rfl) (fun K hK => ?_)
  refine wpx_call _ _ (by as_aux_lemma => kernel_rfl) ((HPR.out U2).mono ?_)
  rintro e U3 ⟨rfl, hb⟩
  refine ⟨_, rfl, ?_⟩
  replace hN := hN.far hb
  replace hT := HT U3 hN
  clear hb
  refine hK.out _ _ hT (fun _ => hS) ?_
  clear hK K
  try simp only [Act.put, List.getElem_toArray, List.getElem_cons_succ, List.getElem_cons_zero, List.setIfInBounds_toArray, List.set_cons_zero, List.set_cons_succ]
  refine wpAnyT_held (i := 12) (v := .bool true) rfl (by as_aux_lemma => kernel_rfl) (by as_aux_lemma => kernel_rfl) (by as_aux_lemma => kernel_rfl) (fun _ _ _ h => h) (by as_aux_lemma => kernel_rfl) hT (fun _ => hS) (by as_aux_lemma => kernel_rfl) ?_ ?_
  · intro wx hSw; go_split_ands; go_simp
  simp only [Act.put, List.getElem_toArray, List.getElem_cons_succ, List.getElem_cons_zero, List.setIfInBounds_toArray, List.set_cons_zero, List.set_cons_succ]
  refine wpAnyT_held (i := 13) (v := .bool true) rfl (by as_aux_lemma => kernel_rfl) (by as_aux_lemma => kernel_rfl) (by as_aux_lemma => kernel_rfl) (fun _ _ _ h => h) (by as_aux_lemma => kernel_rfl) hT (fun _ => hS) (by as_aux_lemma => kernel_rfl) ?_ ?_
  · intro wx hSw; go_split_ands; go_simp
  simp only [Act.put, List.getElem_toArray, List.getElem_cons_succ, List.getElem_cons_zero, List.setIfInBounds_toArray, List.set_cons_zero, List.set_cons_succ]
  refine wpAnyT_held (i := 14) (v := ?_) rfl (by as_aux_lemma => kernel_rfl) (by as_aux_lemma => kernel_rfl) (by as_aux_lemma => kernel_rfl) (fun _ _ _ h => h) (by as_aux_lemma => kernel_rfl) hT (fun _ => hS) (by as_aux_lemma => kernel_rfl) ?_ ?_
  rotate_left
  · intro wx hSw; go_split_ands; go_simp; try with_reducible rfl
  simp only [Act.put, List.getElem_toArray, List.getElem_cons_succ, List.getElem_cons_zero, List.setIfInBounds_toArray, List.set_cons_zero, List.set_cons_succ]
  refine wpAnyT_held (i := 15) (v := ?_) rfl (by as_aux_lemma => kernel_rfl) (by as_aux_lemma => kernel_rfl) (by as_aux_lemma => kernel_rfl) (fun _ _ _ h => h) (by as_aux_lemma => kernel_rfl) hT (fun _ => hS) (by as_aux_lemma => kernel_rfl) ?_ ?_
  rotate_left
  · intro wx hSw; go_split_ands; go_simp; try with_reducible rfl
  simp only [Act.put, List.getElem_toArray, List.getElem_cons_succ, List.getElem_cons_zero, List.setIfInBounds_toArray, List.set_cons_zero, List.set_cons_succ]
  refine wpAnyT_held (i := 16) (v := ?_) rfl (by as_aux_lemma => kernel_rfl) (by as_aux_lemma => kernel_rfl) (by as_aux_lemma => kernel_rfl) (fun _ _ _ h => h) (by as_aux_lemma => kernel_rfl) hT (fun _ => hS) (by as_aux_lemma => kernel_rfl) ?_ ?_
  rotate_left
  · intro wx hSw; go_split_ands; go_simp; try with_reducible rfl
  simp only [Act.put, List.getElem_toArray, List.getElem_cons_succ, List.getElem_cons_zero, List.setIfInBounds_toArray, List.set_cons_zero, List.set_cons_succ]
  refine wpAnyT_held (i := 17) (v := ?_) rfl (by as_aux_lemma => kernel_rfl) (by as_aux_lemma => kernel_rfl) (by as_aux_lemma => kernel_rfl) (fun _ _ _ h => h) (by as_aux_lemma => kernel_rfl) hT (fun _ => hS) (by as_aux_lemma => kernel_rfl) ?_ ?_
  rotate_left
  · intro wx hSw; go_split_ands; go_simp; try with_reducible rfl
  simp only [Act.put, List.getElem_toArray, List.getElem_cons_succ, List.getElem_cons_zero, List.setIfInBounds_toArray, List.set_cons_zero, List.set_cons_succ]
  refine wpAnyT_load (i := 19) (dst := some 63) (ty := 23) (x := .tmp 12) (b := G12) (o := (0)) (cs := (Z.map (Value.int .u8))) (by as_aux_lemma => kernel_rfl) (by as_aux_lemma => kernel_rfl) (by as_aux_lemma => kernel_rfl) (by as_aux_lemma => kernel_rfl) (by as_aux_lemma => kernel_rfl) (fun _ _ _ h => h) (by as_aux_lemma => kernel_rfl) hT (fun _ => hS) (by as_aux_lemma => kernel_rfl) (fun _ h => h.2.2.2.2.2.2.2.2) uK rfl hiK2 ?_
  simp only [Act.put, List.getElem_toArray, List.getElem_cons_succ, List.getElem_cons_zero, List.setIfInBounds_toArray, List.set_cons_zero, List.set_cons_succ]
  refine wpAnyT_one (i := 18) rfl (by as_aux_lemma => kernel_rfl) (by as_aux_lemma => kernel_rfl) (fun K hK => ?_)
  refine wpx_call _ _ (by as_aux_lemma => kernel_rfl) ((HMC.out U3).mono ?_)
  rintro e U4 ⟨rfl, hb⟩
  refine ⟨_, rfl, ?_⟩
  replace hN := hN.far hb
  replace hT := HT U4 hN
  clear hb
  refine hK.out _ _ hT (fun _ => hS) ?_
  clear hK K
  try simp only [Act.put, List.getElem_toArray, List.getElem_cons_succ, List.getElem_cons_zero, List.setIfInBounds_toArray, List.set_cons_zero, List.set_cons_succ]
  refine wpAnyT_held (i := 20) (v := .bool true) rfl (by as_aux_lemma => kernel_rfl) (by as_aux_lemma => kernel_rfl) (by as_aux_lemma => kernel_rfl) (fun _ _ _ h => h) (by as_aux_lemma => kernel_rfl) hT (fun _ => hS) (by as_aux_lemma => kernel_rfl) ?_ ?_
  · intro wx hSw; go_split_ands; go_simp
  simp only [Act.put, List.getElem_toArray, List.getElem_cons_succ, List.getElem_cons_zero, List.setIfInBounds_toArray, List.set_cons_zero, List.set_cons_succ]
  refine wpAnyT_held (i := 21) (v := .bool true) rfl (by as_aux_lemma => kernel_rfl) (by as_aux_lemma => kernel_rfl) (by as_aux_lemma => kernel_rfl) (fun _ _ _ h => h) (by as_aux_lemma => kernel_rfl) hT (fun _ => hS) (by as_aux_lemma => kernel_rfl) ?_ ?_
  · intro wx hSw; go_split_ands; go_simp
  simp only [Act.put, List.getElem_toArray, List.getElem_cons_succ, List.getElem_cons_zero, List.setIfInBounds_toArray, List.set_cons_zero, List.set_cons_succ]
  refine wpAnyT_held (i := 22) (v := ?_) rfl (by as_aux_lemma => kernel_rfl) (by as_aux_lemma => kernel_rfl) (by as_aux_lemma => kernel_rfl) (fun _ _ _ h => h) (by as_aux_lemma => kernel_rfl) hT (fun _ => hS) (by as_aux_lemma => kernel_rfl) ?_ ?_
  rotate_left
  · intro wx hSw; go_split_ands; go_simp; try with_reducible rfl
  simp only [Act.put, List.getElem_toArray, List.getElem_cons_succ, List.getElem_cons_zero, List.setIfInBounds_toArray, List.set_cons_zero, List.set_cons_succ]
  refine wpAnyT_held (i := 23) (v := ?_) rfl (by as_aux_lemma => kernel_rfl) (by as_aux_lemma => kernel_rfl) (by as_aux_lemma => kernel_rfl) (fun _ _ _ h => h) (by as_aux_lemma => kernel_rfl) hT (fun _ => hS) (by as_aux_lemma => kernel_rfl) ?_ ?_
  rotate_left
  · intro wx hSw; go_split_ands; go_simp; try with_reducible rfl
  simp only [Act.put, List.getElem_toArray, List.getElem_cons_succ, List.getElem_cons_zero, List.setIfInBounds_toArray, List.set_cons_zero, List.set_cons_succ]
  refine wpAnyT_held (i := 24) (v := ?_) rfl (by as_aux_lemma => kernel_rfl) (by as_aux_lemma => kernel_rfl) (by as_aux_lemma => kernel_rfl) (fun _ _ _ h => h) (by as_aux_lemma => kernel_rfl) hT (fun _ => hS) (by as_aux_lemma => kernel_rfl) ?_ ?_
  rotate_left
  · intro wx hSw; go_split_ands; go_simp; try with_reducible rfl
  simp only [Act.put, List.getElem_toArray, List.getElem_cons_succ, List.getElem_cons_zero, List.setIfInBounds_toArray, List.set_cons_zero, List.set_cons_succ]
  refine wpAnyT_load (i := 25) (dst := some 69) (ty := 36) (x := .tmp 68) (b := w.heap.size) (o := (1)) (cs := (dotC D.ea D.es)) (by as_aux_lemma => kernel_rfl) (by as_aux_lemma => kernel_rfl) (by as_aux_lemma => kernel_rfl) (by as_aux_lemma => kernel_rfl) (by as_aux_lemma => kernel_rfl) (fun _ _ _ h => h) (by as_aux_lemma => kernel_rfl) hT (fun _ => hS) (by as_aux_lemma => kernel_rfl) (fun _ h => h.2.1) uD rfl sizeDotK ?_
  simp only [Act.put, List.getElem_toArray, List.getElem_cons_succ, List.getElem_cons_zero, List.setIfInBounds_toArray, List.set_cons_zero, List.set_cons_succ]
  refine wpAnyT_held (i := 26) (v := ?_) rfl (by as_aux_lemma => kernel_rfl) (by as_aux_lemma => kernel_rfl) (by as_aux_lemma => kernel_rfl) (fun _ _ _ h => h) (by as_aux_lemma => kernel_rfl) hT (fun _ => hS) (by as_aux_lemma => kernel_rfl) ?_ ?_
  rotate_left
  · intro wx hSw; go_split_ands; go_simp; try with_reducible rfl
  simp only [Act.put, List.getElem_toArray, List.getElem_cons_succ, List.getElem_cons_zero, List.setIfInBounds_toArray, List.set_cons_zero, List.set_cons_succ]
  refine wpAnyT_load (i := 27) (dst := some 71) (ty := 23) (x := .tmp 70) (b := w.heap.size) (o := (3)) (cs := (D.k.map (Value.int .u8))) (by as_aux_lemma => kernel_rfl) (by as_aux_lemma => kernel_rfl) (by as_aux_lemma => kernel_rfl) (by as_aux_lemma => kernel_rfl) (by as_aux_lemma => kernel_rfl) (fun _ _ _ h => h) (by as_aux_lemma => kernel_rfl) hT (fun _ => hS) (by as_aux_lemma => kernel_rfl) (fun _ h => h.2.2.1) uK rfl iDK ?_
  simp only [Act.put, List.getElem_toArray, List.getElem_cons_succ, List.getElem_cons_zero, List.setIfInBounds_toArray, List.set_cons_zero, List.set_cons_succ]
  refine wpAnyT_one (i := 28) rfl (by as_aux_lemma => kernel_rfl) (by as_aux_lemma => kernel_rfl) (fun K hK => ?_)
  refine wpx_call _ _ (by as_aux_lemma => kernel_rfl) ((nAdd D.ea D.es D.k U4).mono ?_)
  rintro e U5 ⟨rfl, hb⟩
  refine ⟨_, rfl, ?_⟩
  replace hN := hN.far hb
  replace hT := HT U5 hN
  clear hb
  refine hK.out _ _ hT (fun _ => hS) ?_
  clear hK K
  try simp only [Act.put, List.getElem_toArray, List.getElem_cons_succ, List.getElem_cons_zero, List.setIfInBounds_toArray, List.set_cons_zero, List.set_cons_succ]
  refine wpAnyT_held (i := 29) (v := .bool true) rfl (by as_aux_lemma => kernel_rfl) (by as_aux_lemma => kernel_rfl) (by as_aux_lemma => kernel_rfl) (fun _ _ _ h => h) (by as_aux_lemma => kernel_rfl) hT (fun _ => hS) (by as_aux_lemma => kernel_rfl) ?_ ?_
  · intro wx hSw; go_split_ands; go_simp
  simp only [Act.put, List.getElem_toArray, List.getElem_cons_succ, List.getElem_cons_zero, List.setIfInBounds_toArray, List.set_cons_zero, List.set_cons_succ]
  refine wpAnyT_held (i := 30) (v := .bool true) rfl (by as_aux_lemma => kernel_rfl) (by as_aux_lemma => kernel_rfl) (by as_aux_lemma => kernel_rfl) (fun _ _ _ h => h) (by as_aux_lemma => kernel_rfl) hT (fun _ => hS) (by as_aux_lemma => kernel_rfl) ?_ ?_
  · intro wx hSw; go_split_ands; go_simp
  simp only [Act.put, List.getElem_toArray, List.getElem_cons_succ, List.getElem_cons_zero, List.setIfInBounds_toArray, List.set_cons_zero, List.set_cons_succ]
  refine wpAnyT_held (i := 31) (v := ?_) rfl (by as_aux_lemma => kernel_rfl) (by as_aux_lemma => kernel_rfl) (by as_aux_lemma => kernel_rfl) (fun _ _ _ h => h) (by as_aux_lemma => kernel_rfl) hT (fun _ => hS) (by as_aux_lemma => kernel_rfl) ?_ ?_
  rotate_left
  · intro wx hSw; go_split_ands; go_simp; try with_reducible rfl
  simp only [Act.put, List.getElem_toArray, List.getElem_cons_succ, List.getElem_cons_zero, List.setIfInBounds_toArray, List.set_cons_zero, List.set_cons_succ]
  refine wpAnyT_held (i := 32) (v := ?_) rfl (by as_aux_lemma => kernel_rfl) (by as_aux_lemma => kernel_rfl) (by as_aux_lemma => kernel_rfl) (fun _ _ _ h => h) (by as_aux_lemma => kernel_rfl) hT (fun _ => hS) (by as_aux_lemma => kernel_rfl) ?_ ?_
  rotate_left
  · intro wx hSw; go_split_ands; go_simp; try with_reducible rfl
  simp only [Act.put, List.getElem_toArray, List.getElem_cons_succ, List.getElem_cons_zero, List.setIfInBounds_toArray, List.set_cons_zero, List.set_cons_succ]
  refine wpAnyT_held (i := 33) (v := ?_) rfl (by as_aux_lemma => kernel_rfl) (by as_aux_lemma => kernel_rfl) (by as_aux_lemma => kernel_rfl) (fun _ _ _ h => h) (by as_aux_lemma => kernel_rfl) hT (fun _ => hS) (by as_aux_lemma => kernel_rfl) ?_ ?_
  rotate_left
  · intro wx hSw; go_split_ands; go_simp; try with_reducible rfl
  simp only [Act.put, List.getElem_toArray, List.getElem_cons_succ, List.getElem_cons_zero, List.setIfInBounds_toArray, List.set_cons_zero, List.set_cons_succ]
  refine wpAnyT_load (i := 34) (dst := some 78) (ty := 36) (x := .tmp 77) (b := w.heap.size) (o := (1)) (cs := (dotC D.ea D.es)) (by as_aux_lemma => kernel_rfl) (by as_aux_lemma => kernel_rfl) (by as_aux_lemma => kernel_rfl) (by as_aux_lemma => kernel_rfl) (by as_aux_lemma => kernel_rfl) (fun _ _ _ h => h) (by as_aux_lemma => kernel_rfl) hT (fun _ => hS) (by as_aux_lemma => kernel_rfl) (fun _ h => h.2.1) uD rfl sizeDotK ?_
  simp only [Act.put, List.getElem_toArray, List.getElem_cons_succ, List.getElem_cons_zero, List.setIfInBounds_toArray, List.set_cons_zero, List.set_cons_succ]
  refine wpAnyT_one (i := 35) rfl (by as_aux_lemma => kernel_rfl) (by as_aux_lemma => kernel_rfl) (fun K hK => ?_)
  refine wpx_call _ _ (by as_aux_lemma => kernel_rfl) ((nHas D.ea D.es U5).mono ?_)
  rintro e U6 ⟨rfl, hb⟩
  refine ⟨_, rfl, ?_⟩
  replace hN := hN.far hb
  replace hT := HT U6 hN
  clear hb
  refine hK.out _ _ hT (fun _ => hS) ?_
  clear hK K
  try simp only [Act.put, List.getElem_toArray, List.getElem_cons_succ, List.getElem_cons_zero, List.setIfInBounds_toArray, List.set_cons_zero, List.set_cons_succ]
  refine wpAnyT_held (i := 36) (v := .bool true) rfl (by as_aux_lemma => kernel_rfl) (by as_aux_lemma => kernel_rfl) (by as_aux_lemma => kernel_rfl) (fun _ _ _ h => h) (by as_aux_lemma => kernel_rfl) hT (fun _ => hS) (by as_aux_lemma => kernel_rfl) ?_ ?_
  · intro wx hSw; go_split_ands; go_simp
  simp only [Act.put, List.getElem_toArray, List.getElem_cons_succ, List.getElem_cons_zero, List.setIfInBounds_toArray, List.set_cons_zero, List.set_cons_succ]
  refine wpAnyT_held (i := 37) (v := .bool true) rfl (by as_aux_lemma => kernel_rfl) (by as_aux_lemma => kernel_rfl) (by as_aux_lemma => kernel_rfl) (fun _ _ _ h => h) (by as_aux_lemma => kernel_rfl) hT (fun _ => hS) (by as_aux_lemma => kernel_rfl) ?_ ?_
  · intro wx hSw; go_split_ands; go_simp
  simp only [Act.put, List.getElem_toArray, List.getElem_cons_succ, List.getElem_cons_zero, List.setIfInBounds_toArray, List.set_cons_zero, List.set_cons_succ]
  refine wpAnyT_held (i := 38) (v := ?_) rfl (by as_aux_lemma => kernel_rfl) (by as_aux_lemma => kernel_rfl) (by as_aux_lemma => kernel_rfl) (fun _ _ _ h => h) (by as_aux_lemma => kernel_rfl) hT (fun _ => hS) (by as_aux_lemma => kernel_rfl) ?_ ?_
  rotate_left
  · intro wx hSw; go_split_ands; go_simp; try with_reducible rfl
  simp only [Act.put, List.getElem_toArray, List.getElem_cons_succ, List.getElem_cons_zero, List.setIfInBounds_toArray, List.set_cons_zero, List.set_cons_succ]
  refine wpAnyT_load (i := 39) (dst := some 83) (ty := 36) (x := .tmp 4) (b := G4) (o := (0)) (cs := (dotC 0 0)) (by as_aux_lemma => kernel_rfl) (by as_aux_lemma => kernel_rfl) (by as_aux_lemma => kernel_rfl) (by as_aux_lemma => kernel_rfl) (by as_aux_lemma => kernel_rfl) (fun _ _ _ h => h) (by as_aux_lemma => kernel_rfl) hT (fun _ => hS) (by as_aux_lemma => kernel_rfl) (fun _ h => h.2.2.2.2.1) uD rfl sizeDotK ?_
  simp only [Act.put, List.getElem_toArray, List.getElem_cons_succ, List.getElem_cons_zero, List.setIfInBounds_toArray, List.set_cons_zero, List.set_cons_succ]
  refine wpAnyT_held (i := 40) (v := .agg (dotC 0 0).toArray) rfl (by as_aux_lemma => kernel_rfl) (by as_aux_lemma => kernel_rfl) (by as_aux_lemma => kernel_rfl) (fun _ _ _ h => h) (by as_aux_lemma => kernel_rfl) hT (fun _ => hS) (by as_aux_lemma => kernel_rfl) ?_ ?_
  · intro wx hSw; go_split_ands; go_simp; (rfl)
  simp only [Act.put, List.getElem_toArray, List.getElem_cons_succ, List.getElem_cons_zero, List.setIfInBounds_toArray, List.set_cons_zero, List.set_cons_succ]
  refine wpAnyT_held (i := 41) (v := .bool true) rfl (by as_aux_lemma => kernel_rfl) (by as_aux_lemma => kernel_rfl) (by as_aux_lemma => kernel_rfl) (fun _ _ _ h => h) (by as_aux_lemma => kernel_rfl) hT (fun _ => hS) (by as_aux_lemma => kernel_rfl) ?_ ?_
  · intro wx hSw; go_split_ands; go_simp
  simp only [Act.put, List.getElem_toArray, List.getElem_cons_succ, List.getElem_cons_zero, List.setIfInBounds_toArray, List.set_cons_zero, List.set_cons_succ]
  refine wpAnyT_held (i := 42) (v := .bool true) rfl (by as_aux_lemma => kernel_rfl) (by as_aux_lemma => kernel_rfl) (by as_aux_lemma => kernel_rfl) (fun _ _ _ h => h) (by as_aux_lemma => kernel_rfl) hT (fun _ => hS) (by as_aux_lemma => kernel_rfl) ?_ ?_
  · intro wx hSw; go_split_ands; go_simp
  simp only [Act.put, List.getElem_toArray, List.getElem_cons_succ, List.getElem_cons_zero, List.setIfInBounds_toArray, List.set_cons_zero, List.set_cons_succ]
  refine wpAnyT_held (i := 43) (v := ?_) rfl (by as_aux_lemma => kernel_rfl) (by as_aux_lemma => kernel_rfl) (by as_aux_lemma => kernel_rfl) (fun _ _ _ h => h) (by as_aux_lemma => kernel_rfl) hT (fun _ => hS) (by as_aux_lemma => kernel_rfl) ?_ ?_
  rotate_left
  · intro wx hSw; go_split_ands; go_simp; try with_reducible rfl
  simp only [Act.put, List.getElem_toArray, List.getElem_cons_succ, List.getElem_cons_zero, List.setIfInBounds_toArray, List.set_cons_zero, List.set_cons_succ]
  refine wpAnyT_held (i := 44) (v := ?_) rfl (by as_aux_lemma => kernel_rfl) (by as_aux_lemma => kernel_rfl) (by as_aux_lemma => kernel_rfl) (fun _ _ _ h => h) (by as_aux_lemma => kernel_rfl) hT (fun _ => hS) (by as_aux_lemma => kernel_rfl) ?_ ?_
  rotate_left
  · intro wx hSw; go_split_ands; go_simp; try with_reducible rfl
  simp only [Act.put, List.getElem_toArray, List.getElem_cons_succ, List.getElem_cons_zero, List.setIfInBounds_toArray, List.set_cons_zero, List.set_cons_succ]
  refine wpAnyT_held (i := 45) (v := .bool true) rfl (by as_aux_lemma => kernel_rfl) (by as_aux_lemma => kernel_rfl) (by as_aux_lemma => kernel_rfl) (fun _ _ _ h => h) (by as_aux_lemma => kernel_rfl) hT (fun _ => hS) (by as_aux_lemma => kernel_rfl) ?_ ?_
  · intro wx hSw; go_split_ands; go_simp
  simp only [Act.put, List.getElem_toArray, List.getElem_cons_succ, List.getElem_cons_zero, List.setIfInBounds_toArray, List.set_cons_zero, List.set_cons_succ]
  refine wpAnyT_held (i := 46) (v := .bool true) rfl (by as_aux_lemma => kernel_rfl) (by as_aux_lemma => kernel_rfl) (by as_aux_lemma => kernel_rfl) (fun _ _ _ h => h) (by as_aux_lemma => kernel_rfl) hT (fun _ => hS) (by as_aux_lemma => kernel_rfl) ?_ ?_
  · intro wx hSw; go_split_ands; go_simp
  simp only [Act.put, List.getElem_toArray, List.getElem_cons_succ, List.getElem_cons_zero, List.setIfInBounds_toArray, List.set_cons_zero, List.set_cons_succ]
  refine wpAnyT_held (i := 47) (v := ?_) rfl (by as_aux_lemma => kernel_rfl) (by as_aux_lemma => kernel_rfl) (by as_aux_lemma => kernel_rfl) (fun _ _ _ h => h) (by as_aux_lemma => kernel_rfl) hT (fun _ => hS) (by as_aux_lemma => kernel_rfl) ?_ ?_
  rotate_left
  · intro wx hSw; go_split_ands; go_simp; try with_reducible rfl
  simp only [Act.put, List.getElem_toArray, List.getElem_cons_succ, List.getElem_cons_zero, List.setIfInBounds_toArray, List.set_cons_zero, List.set_cons_succ]
  refine wpAnyT_load (i := 48) (dst := some 92) (ty := 23) (x := .tmp 6) (b := G6) (o := (0)) (cs := (Z.map (Value.int .u8))) (by as_aux_lemma => kernel_rfl) (by as_aux_lemma => kernel_rfl) (by as_aux_lemma => kernel_rfl) (by as_aux_lemma => kernel_rfl) (by as_aux_lemma => kernel_rfl) (fun _ _ _ h => h) (by as_aux_lemma => kernel_rfl) hT (fun _ => hS) (by as_aux_lemma => kernel_rfl) (fun _ h => h.2.2.2.2.2.1) uK rfl hiK2 ?_
  simp only [Act.put, List.getElem_toArray, List.getElem_cons_succ, List.getElem_cons_zero, List.setIfInBounds_toArray, List.set_cons_zero, List.set_cons_succ]
  refine wpAnyT_load (i := 49) (dst := some 93) (ty := 23) (x := .tmp 12) (b := G12) (o := (0)) (cs := (Z.map (Value.int .u8))) (by as_aux_lemma => kernel_rfl) (by as_aux_lemma => kernel_rfl) (by as_aux_lemma => kernel_rfl) (by as_aux_lemma => kernel_rfl) (by as_aux_lemma => kernel_rfl) (fun _ _ _ h => h) (by as_aux_lemma => kernel_rfl) hT (fun _ => hS) (by as_aux_lemma => kernel_rfl) (fun _ h => h.2.2.2.2.2.2.2.2) uK rfl hiK2 ?_
  simp only [Act.put, List.getElem_toArray, List.getElem_cons_succ, List.getElem_cons_zero, List.setIfInBounds_toArray, List.set_cons_zero, List.set_cons_succ]
  refine wpAnyT_held (i := 50) (v := .bool true) rfl (by as_aux_lemma => kernel_rfl) (by as_aux_lemma => kernel_rfl) (by as_aux_lemma => kernel_rfl) (fun _ _ _ h => h) (by as_aux_lemma => kernel_rfl) hT (fun _ => hS) (by as_aux_lemma => kernel_rfl) ?_ ?_
  · intro wx hSw; go_split_ands; go_simp
  simp only [Act.put, List.getElem_toArray, List.getElem_cons_succ, List.getElem_cons_zero, List.setIfInBounds_toArray, List.set_cons_zero, List.set_cons_succ]
  refine wpAnyT_held (i := 51) (v := .bool true) rfl (by as_aux_lemma => kernel_rfl) (by as_aux_lemma => kernel_rfl) (by as_aux_lemma => kernel_rfl) (fun _ _ _ h => h) (by as_aux_lemma => kernel_rfl) hT (fun _ => hS) (by as_aux_lemma => kernel_rfl) ?_ ?_
  · intro wx hSw; go_split_ands; go_simp
  simp only [Act.put, List.getElem_toArray, List.getElem_cons_succ, List.getElem_cons_zero, List.setIfInBounds_toArray, List.set_cons_zero, List.set_cons_succ]
  refine wpAnyT_held (i := 52) (v := ?_) rfl (by as_aux_lemma => kernel_rfl) (by as_aux_lemma => kernel_rfl) (by as_aux_lemma => kernel_rfl) (fun _ _ _ h => h) (by as_aux_lemma => kernel_rfl) hT (fun _ => hS) (by as_aux_lemma => kernel_rfl) ?_ ?_
  rotate_left
  · intro wx hSw; go_split_ands; go_simp; try with_reducible rfl
  simp only [Act.put, List.getElem_toArray, List.getElem_cons_succ, List.getElem_cons_zero, List.setIfInBounds_toArray, List.set_cons_zero, List.set_cons_succ]
  refine wpAnyT_held (i := 53) (v := ?_) rfl (by as_aux_lemma => kernel_rfl) (by as_aux_lemma => kernel_rfl) (by as_aux_lemma => kernel_rfl) (fun _ _ _ h => h) (by as_aux_lemma => kernel_rfl) hT (fun _ => hS) (by as_aux_lemma => kernel_rfl) ?_ ?_
  rotate_left
  · intro wx hSw; go_split_ands; go_simp; try with_reducible rfl
  simp only [Act.put, List.getElem_toArray, List.getElem_cons_succ, List.getElem_cons_zero, List.setIfInBounds_toArray, List.set_cons_zero, List.set_cons_succ]
  refine wpAnyT_held (i := 54) (v := .bool true) rfl (by as_aux_lemma => kernel_rfl) (by as_aux_lemma => kernel_rfl) (by as_aux_lemma => kernel_rfl) (fun _ _ _ h => h) (by as_aux_lemma => kernel_rfl) hT (fun _ => hS) (by as_aux_lemma => kernel_rfl) ?_ ?_
  · intro wx hSw; go_split_ands; go_simp
  simp only [Act.put, List.getElem_toArray, List.getElem_cons_succ, List.getElem_cons_zero, List.setIfInBounds_toArray, List.set_cons_zero, List.set_cons_succ]
  refine wpAnyT_held (i := 55) (v := .bool true) rfl (by as_aux_lemma => kernel_rfl) (by as_aux_lemma => kernel_rfl) (by as_aux_lemma => kernel_rfl) (fun _ _ _ h => h) (by as_aux_lemma => kernel_rfl) hT (fun _ => hS) (by as_aux_lemma => kernel_rfl) ?_ ?_
  · intro wx hSw; go_split_ands; go_simp
  simp only [Act.put, List.getElem_toArray, List.getElem_cons_succ, List.getElem_cons_zero, List.setIfInBounds_toArray, List.set_cons_zero, List.set_cons_succ]
  refine wpAnyT_held (i := 56) (v := ?_) rfl (by as_aux_lemma => kernel_rfl) (by as_aux_lemma => kernel_rfl) (by as_aux_lemma => kernel_rfl) (fun _ _ _ h => h) (by as_aux_lemma => kernel_rfl) hT (fun _ => hS) (by as_aux_lemma => kernel_rfl) ?_ ?_
  rotate_left
  · intro wx hSw; go_split_ands; go_simp; try with_reducible rfl
  simp only [Act.put, List.getElem_toArray, List.getElem_cons_succ, List.getElem_cons_zero, List.setIfInBounds_toArray, List.set_cons_zero, List.set_cons_succ]
  refine wpAnyT_load (i := 57) (dst := some 101) (ty := 39) (x := .tmp 8) (b := G8) (o := (0)) (cs := XC) (by as_aux_lemma => kernel_rfl) (by as_aux_lemma => kernel_rfl) (by as_aux_lemma => kernel_rfl) (by as_aux_lemma => kernel_rfl) (by as_aux_lemma => kernel_rfl) (fun _ _ _ h => h) (by as_aux_lemma => kernel_rfl) hT (fun _ => hS) (by as_aux_lemma => kernel_rfl) (fun _ h => h.2.2.2.2.2.2.1) uW rfl hiW2 ?_
  simp only [Act.put, List.getElem_toArray, List.getElem_cons_succ, List.getElem_cons_zero, List.setIfInBounds_toArray, List.set_cons_zero, List.set_cons_succ]
  refine wpAnyT_held (i := 58) (v := .agg XC.toArray) rfl (by as_aux_lemma => kernel_rfl) (by as_aux_lemma => kernel_rfl) (by as_aux_lemma => kernel_rfl) (fun _ _ _ h => h) (by as_aux_lemma => kernel_rfl) hT (fun _ => hS) (by as_aux_lemma => kernel_rfl) ?_ ?_
  · intro wx hSw; go_split_ands; go_simp; (rw [← HXC.out]; rfl)
  simp only [Act.put, List.getElem_toArray, List.getElem_cons_succ, List.getElem_cons_zero, List.setIfInBounds_toArray, List.set_cons_zero, List.set_cons_succ]
  refine wpAnyT_held (i := 59) (v := .bool true) rfl (by as_aux_lemma => kernel_rfl) (by as_aux_lemma => kernel_rfl) (by as_aux_lemma => kernel_rfl) (fun _ _ _ h => h) (by as_aux_lemma => kernel_rfl) hT (fun _ => hS) (by as_aux_lemma => kernel_rfl) ?_ ?_
  · intro wx hSw; go_split_ands; go_simp
  simp only [Act.put, List.getElem_toArray, List.getElem_cons_succ, List.getElem_cons_zero, List.setIfInBounds_toArray, List.set_cons_zero, List.set_cons_succ]
  refine wpAnyT_held (i := 60) (v := .bool true) rfl (by as_aux_lemma => kernel_rfl) (by as_aux_lemma => kernel_rfl) (by as_aux_lemma => kernel_rfl) (fun _ _ _ h => h) (by as_aux_lemma => kernel_rfl) hT (fun _ => hS) (by as_aux_lemma => kernel_rfl) ?_ ?_
  · intro wx hSw; go_split_ands; go_simp
  simp only [Act.put, List.getElem_toArray, List.getElem_cons_succ, List.getElem_cons_zero, List.setIfInBounds_toArray, List.set_cons_zero, List.set_cons_succ]
  refine wpAnyT_held (i := 61) (v := ?_) rfl (by as_aux_lemma => kernel_rfl) (by as_aux_lemma => kernel_rfl) (by as_aux_lemma => kernel_rfl) (fun _ _ _ h => h) (by as_aux_lemma => kernel_rfl) hT (fun _ => hS) (by as_aux_lemma => kernel_rfl) ?_ ?_
  rotate_left
  · intro wx hSw; go_split_ands; go_simp; try with_reducible rfl
  simp only [Act.put, List.getElem_toArray, List.getElem_cons_succ, List.getElem_cons_zero, List.setIfInBounds_toArray, List.set_cons_zero, List.set_cons_succ]
  refine wpAnyT_held (i := 62) (v := ?_) rfl (by as_aux_lemma => kernel_rfl) (by as_aux_lemma => kernel_rfl) (by as_aux_lemma => kernel_rfl) (fun _ _ _ h => h) (by as_aux_lemma => kernel_rfl) hT (fun _ => hS) (by as_aux_lemma => kernel_rfl) ?_ ?_
  rotate_left
  · intro wx hSw; go_split_ands; go_simp; try with_reducible rfl
  simp only [Act.put, List.getElem_toArray, List.getElem_cons_succ, List.getElem_cons_zero, List.setIfInBounds_toArray, List.set_cons_zero, List.set_cons_succ]
  refine wpAnyT_held (i := 63) (v := .bool true) rfl (by as_aux_lemma => kernel_rfl) (by as_aux_lemma => kernel_rfl) (by as_aux_lemma => kernel_rfl) (fun _ _ _ h => h) (by as_aux_lemma => kernel_rfl) hT (fun _ => hS) (by as_aux_lemma => kernel_rfl) ?_ ?_
  · intro wx hSw; go_split_ands; go_simp
  simp only [Act.put, List.getElem_toArray, List.getElem_cons_succ, List.getElem_cons_zero, List.setIfInBounds_toArray, List.set_cons_zero, List.set_cons_succ]
  refine wpAnyT_held (i := 64) (v := .bool true) rfl (by as_aux_lemma => kernel_rfl) (by as_aux_lemma => kernel_rfl) (by as_aux_lemma => kernel_rfl) (fun _ _ _ h => h) (by as_aux_lemma => kernel_rfl) hT (fun _ => hS) (by as_aux_lemma => kernel_rfl) ?_ ?_
  · intro wx hSw; go_split_ands; go_simp
  simp only [Act.put, List.getElem_toArray, List.getElem_cons_succ, List.getElem_cons_zero, List.setIfInBounds_toArray, List.set_cons_zero, List.set_cons_succ]
  refine wpAnyT_held (i := 65) (v := ?_) rfl (by as_aux_lemma => kernel_rfl) (by as_aux_lemma => kernel_rfl) (by as_aux_lemma => kernel_rfl) (fun _ _ _ h => h) (by as_aux_lemma => kernel_rfl) hT (fun _ => hS) (by as_aux_lemma => kernel_rfl) ?_ ?_
  rotate_left
  · intro wx hSw; go_split_ands; go_simp; try with_reducible rfl
  simp only [Act.put, List.getElem_toArray, List.getElem_cons_succ, List.getElem_cons_zero, List.setIfInBounds_toArray, List.set_cons_zero, List.set_cons_succ]
  refine wpAnyT_load (i := 66) (dst := some 110) (ty := 23) (x := .tmp 10) (b := G10) (o := (0)) (cs := (Z.map (Value.int .u8))) (by as_aux_lemma => kernel_rfl) (by as_aux_lemma => kernel_rfl) (by as_aux_lemma => kernel_rfl) (by as_aux_lemma => kernel_rfl) (by as_aux_lemma => kernel_rfl) (fun _ _ _ h => h) (by as_aux_lemma => kernel_rfl) hT (fun _ => hS) (by as_aux_lemma => kernel_rfl) (fun _ h => h.2.2.2.2.2.2.2.1) uK rfl hiK2 ?_
  simp only [Act.put, List.getElem_toArray, List.getElem_cons_succ, List.getElem_cons_zero, List.setIfInBounds_toArray, List.set_cons_zero, List.set_cons_succ]
  refine wpAnyT_load (i := 67) (dst := some 111) (ty := 23) (x := .tmp 12) (b := G12) (o := (0)) (cs := (Z.map (Value.int .u8))) (by as_aux_lemma => kernel_rfl) (by as_aux_lemma => kernel_rfl) (by as_aux_lemma => kernel_rfl) (by as_aux_lemma => kernel_rfl) (by as_aux_lemma => kernel_rfl) (fun _ _ _ h => h) (by as_aux_lemma => kernel_rfl) hT (fun _ => hS) (by as_aux_lemma => kernel_rfl) (fun _ h => h.2.2.2.2.2.2.2.2) uK rfl hiK2 ?_
  simp only [Act.put, List.getElem_toArray, List.getElem_cons_succ, List.getElem_cons_zero, List.setIfInBounds_toArray, List.set_cons_zero, List.set_cons_succ]
  refine wpAnyT_held (i := 68) (v := .bool true) rfl (by as_aux_lemma => kernel_rfl) (by as_aux_lemma => kernel_rfl) (by as_aux_lemma => kernel_rfl) (fun _ _ _ h => h) (by as_aux_lemma => kernel_rfl) hT (fun _ => hS) (by as_aux_lemma => kernel_rfl) ?_ ?_
  · intro wx hSw; go_split_ands; go_simp
  simp only [Act.put, List.getElem_toArray, List.getElem_cons_succ, List.getElem_cons_zero, List.setIfInBounds_toArray, List.set_cons_zero, List.set_cons_succ]
  refine wpAnyT_held (i := 69) (v := .bool true) rfl (by as_aux_lemma => kernel_rfl) (by as_aux_lemma => kernel_rfl) (by as_aux_lemma => kernel_rfl) (fun _ _ _ h => h) (by as_aux_lemma => kernel_rfl) hT (fun _ => hS) (by as_aux_lemma => kernel_rfl) ?_ ?_
  · intro wx hSw; go_split_ands; go_simp
  simp only [Act.put, List.getElem_toArray, List.getElem_cons_succ, List.getElem_cons_zero, List.setIfInBounds_toArray, List.set_cons_zero, List.set_cons_succ]
  refine wpAnyT_held (i := 70) (v := ?_) rfl (by as_aux_lemma => kernel_rfl) (by as_aux_lemma => kernel_rfl) (by as_aux_lemma => kernel_rfl) (fun _ _ _ h => h) (by as_aux_lemma => kernel_rfl) hT (fun _ => hS) (by as_aux_lemma => kernel_rfl) ?_ ?_
  rotate_left
  · intro wx hSw; go_split_ands; go_simp; try with_reducible rfl
  simp only [Act.put, List.getElem_toArray, List.getElem_cons_succ, List.getElem_cons_zero, List.setIfInBounds_toArray, List.set_cons_zero, List.set_cons_succ]
  refine wpAnyT_held (i := 71) (v := ?_) rfl (by as_aux_lemma => kernel_rfl) (by as_aux_lemma => kernel_rfl) (by as_aux_lemma => kernel_rfl) (fun _ _ _ h => h) (by as_aux_lemma => kernel_rfl) hT (fun _ => hS) (by as_aux_lemma => kernel_rfl) ?_ ?_
  rotate_left
  · intro wx hSw; go_split_ands; go_simp; try with_reducible rfl
  simp only [Act.put, List.getElem_toArray, List.getElem_cons_succ, List.getElem_cons_zero, List.setIfInBounds_toArray, List.set_cons_zero, List.set_cons_succ]
  refine wpAnyT_held (i := 72) (v := .bool true) rfl (by as_aux_lemma => kernel_rfl) (by as_aux_lemma => kernel_rfl) (by as_aux_lemma => kernel_rfl) (fun _ _ _ h => h) (by as_aux_lemma => kernel_rfl) hT (fun _ => hS) (by as_aux_lemma => kernel_rfl) ?_ ?_
  · intro wx hSw; go_split_ands; go_simp
  simp only [Act.put, List.getElem_toArray, List.getElem_cons_succ, List.getElem_cons_zero, List.setIfInBounds_toArray, List.set_cons_zero, List.set_cons_succ]
  refine wpAnyT_held (i := 73) (v := .bool true) rfl (by as_aux_lemma => kernel_rfl) (by as_aux_lemma => kernel_rfl) (by as_aux_lemma => kernel_rfl) (fun _ _ _ h => h) (by as_aux_lemma => kernel_rfl) hT (fun _ => hS) (by as_aux_lemma => kernel_rfl) ?_ ?_
  · intro wx hSw; go_split_ands; go_simp
  simp only [Act.put, List.getElem_toArray, List.getElem_cons_succ, List.getElem_cons_zero, List.setIfInBounds_toArray, List.set_cons_zero, List.set_cons_succ]
  refine wpAnyT_held (i := 74) (v := ?_) rfl (by as_aux_lemma => kernel_rfl) (by as_aux_lemma => kernel_rfl) (by as_aux_lemma => kernel_rfl) (fun _ _ _ h => h) (by as_aux_lemma => kernel_rfl) hT (fun _ => hS) (by as_aux_lemma => kernel_rfl) ?_ ?_
  rotate_left
  · intro wx hSw; go_split_ands; go_simp; try with_reducible rfl
  simp only [Act.put, List.getElem_toArray, List.getElem_cons_succ, List.getElem_cons_zero, List.setIfInBounds_toArray, List.set_cons_zero, List.set_cons_succ]
  refine wpAnyT_held (i := 75) (v := ?_) rfl (by as_aux_lemma => kernel_rfl) (by as_aux_lemma => kernel_rfl) (by as_aux_lemma => kernel_rfl) (fun _ _ _ h => h) (by as_aux_lemma => kernel_rfl) hT (fun _ => hS) (by as_aux_lemma => kernel_rfl) ?_ ?_
  rotate_left
  · intro wx hSw; go_split_ands; go_simp; try with_reducible rfl
  simp only [Act.put, List.getElem_toArray, List.getElem_cons_succ, List.getElem_cons_zero, List.setIfInBounds_toArray, List.set_cons_zero, List.set_cons_succ]
  refine wpAnyT_held (i := 76) (v := ?_) rfl (by as_aux_lemma => kernel_rfl) (by as_aux_lemma => kernel_rfl) (by as_aux_lemma => kernel_rfl) (fun _ _ _ h => h) (by as_aux_lemma => kernel_rfl) hT (fun _ => hS) (by as_aux_lemma => kernel_rfl) ?_ ?_
  rotate_left
  · intro wx hSw; go_split_ands; go_simp; try with_reducible rfl
  simp only [Act.put, List.getElem_toArray, List.getElem_cons_succ, List.getElem_cons_zero, List.setIfInBounds_toArray, List.set_cons_zero, List.set_cons_succ]
  refine wpAnyT_held (i := 77) (v := ?_) rfl (by as_aux_lemma => kernel_rfl) (by as_aux_lemma => kernel_rfl) (by as_aux_lemma => kernel_rfl) (fun _ _ _ h => h) (by as_aux_lemma => kernel_rfl) hT (fun _ => hS) (by as_aux_lemma => kernel_rfl) ?_ ?_
  rotate_left
  · intro wx hSw; go_split_ands; go_simp; try with_reducible rfl
  simp only [Act.put, List.getElem_toArray, List.getElem_cons_succ, List.getElem_cons_zero, List.setIfInBounds_toArray, List.set_cons_zero, List.set_cons_succ]
  refine wpAnyT_held (i := 78) (v := ?_) rfl (by as_aux_lemma => kernel_rfl) (by as_aux_lemma => kernel_rfl) (by as_aux_lemma => kernel_rfl) (fun _ _ _ h => h) (by as_aux_lemma => kernel_rfl) hT (fun _ => hS) (by as_aux_lemma => kernel_rfl) ?_ ?_
  rotate_left
  · intro wx hSw; go_split_ands; go_simp; try with_reducible rfl
  simp only [Act.put, List.getElem_toArray, List.getElem_cons_succ, List.getElem_cons_zero, List.setIfInBounds_toArray, List.set_cons_zero, List.set_cons_succ]
  refine wpAnyT_load (i := 79) (dst := some 123) (ty := 39) (x := .tmp 122) (b := w.heap.size) (o := (36)) (cs := D.w.cells) (by as_aux_lemma => kernel_rfl) (by as_aux_lemma => kernel_rfl) (by as_aux_lemma => kernel_rfl) (by as_aux_lemma => kernel_rfl) (by as_aux_lemma => kernel_rfl) (fun _ _ _ h => h) (by as_aux_lemma => kernel_rfl) hT (fun _ => hS) (by as_aux_lemma => kernel_rfl) (fun _ h => h.2.2.2.1) uW rfl iDW ?_
  simp only [Act.put, List.getElem_toArray, List.getElem_cons_succ, List.getElem_cons_zero, List.setIfInBounds_toArray, List.set_cons_zero, List.set_cons_succ]
  refine wpAnyT_one (i := 80) rfl (by as_aux_lemma => kernel_rfl) (by as_aux_lemma => kernel_rfl) (fun K hK => ?_)
  refine wpx_call _ _ (by as_aux_lemma => kernel_rfl) ((nUnwrap D.from_ D.w U6).mono ?_)
  rintro e U7 ⟨rfl, hb⟩
  refine ⟨_, rfl, ?_⟩
  replace hN := hN.far hb
  replace hT := HT U7 hN
  clear hb
  refine hK.out _ _ hT (fun _ => hS) ?_
  clear hK K
  try simp only [Act.put, List.getElem_toArray, List.getElem_cons_succ, List.getElem_cons_zero, List.setIfInBounds_toArray, List.set_cons_zero, List.set_cons_succ]
  refine wpAnyT_held (i := 81) (v := .bool true) rfl (by as_aux_lemma => kernel_rfl) (by as_aux_lemma => kernel_rfl) (by as_aux_lemma => kernel_rfl) (fun _ _ _ h => h) (by as_aux_lemma => kernel_rfl) hT (fun _ => hS) (by as_aux_lemma => kernel_rfl) ?_ ?_
  · intro wx hSw; go_split_ands; go_simp
  simp only [Act.put, List.getElem_toArray, List.getElem_cons_succ, List.getElem_cons_zero, List.setIfInBounds_toArray, List.set_cons_zero, List.set_cons_succ]
  refine wpAnyT_held (i := 82) (v := .bool true) rfl (by as_aux_lemma => kernel_rfl) (by as_aux_lemma => kernel_rfl) (by as_aux_lemma => kernel_rfl) (fun _ _ _ h => h) (by as_aux_lemma => kernel_rfl) hT (fun _ => hS) (by as_aux_lemma => kernel_rfl) ?_ ?_
  · intro wx hSw; go_split_ands; go_simp
  simp only [Act.put, List.getElem_toArray, List.getElem_cons_succ, List.getElem_cons_zero, List.setIfInBounds_toArray, List.set_cons_zero, List.set_cons_succ]
  refine wpAnyT_held (i := 83) (v := ?_) rfl (by as_aux_lemma => kernel_rfl) (by as_aux_lemma => kernel_rfl) (by as_aux_lemma => kernel_rfl) (fun _ _ _ h => h) (by as_aux_lemma => kernel_rfl) hT (fun _ => hS) (by as_aux_lemma => kernel_rfl) ?_ ?_
  rotate_left
  · intro wx hSw; go_split_ands; go_simp; try with_reducible rfl
  simp only [Act.put, List.getElem_toArray, List.getElem_cons_succ, List.getElem_cons_zero, List.setIfInBounds_toArray, List.set_cons_zero, List.set_cons_succ]
  refine wpAnyT_held (i := 84) (v := ?_) rfl (by as_aux_lemma => kernel_rfl) (by as_aux_lemma => kernel_rfl) (by as_aux_lemma => kernel_rfl) (fun _ _ _ h => h) (by as_aux_lemma => kernel_rfl) hT (fun _ => hS) (by as_aux_lemma => kernel_rfl) ?_ ?_
  rotate_left
  · intro wx hSw; go_split_ands; go_simp; try with_reducible rfl
  simp only [Act.put, List.getElem_toArray, List.getElem_cons_succ, List.getElem_cons_zero, List.setIfInBounds_toArray, List.set_cons_zero, List.set_cons_succ]
  refine wpAnyT_one (i := 85) rfl (by as_aux_lemma => kernel_rfl) (by as_aux_lemma => kernel_rfl) (fun K hK => ?_)
  refine wpx_call _ _ (by as_aux_lemma => kernel_rfl) ((nEpochs U7).mono ?_)
  rintro e U8 ⟨rfl, hb⟩
  refine ⟨_, rfl, ?_⟩
  replace hN := hN.far hb
  replace hT := HT U8 hN
  clear hb
  refine hK.out _ _ hT (fun _ => hS) ?_
  clear hK K
  try simp only [Act.put, List.getElem_toArray, List.getElem_cons_succ, List.getElem_cons_zero, List.setIfInBounds_toArray, List.set_cons_zero, List.set_cons_succ]
  refine wpAnyT_held (i := 86) (v := ?_) rfl (by as_aux_lemma => kernel_rfl) (by as_aux_lemma => kernel_rfl) (by as_aux_lemma => kernel_rfl) (fun _ _ _ h => h) (by as_aux_lemma => kernel_rfl) hT (fun _ => hS) (by as_aux_lemma => kernel_rfl) ?_ ?_
  rotate_left
  · intro wx hSw; go_split_ands; go_simp; try with_reducible rfl
  simp only [Act.put, List.getElem_toArray, List.getElem_cons_succ, List.getElem_cons_zero, List.setIfInBounds_toArray, List.set_cons_zero, List.set_cons_succ]
  refine wpAnyT_held (i := 87) (v := .bool true) rfl (by as_aux_lemma => kernel_rfl) (by as_aux_lemma => kernel_rfl) (by as_aux_lemma => kernel_rfl) (fun _ _ _ h => h) (by as_aux_lemma => kernel_rfl) hT (fun _ => hS) (by as_aux_lemma => kernel_rfl) ?_ ?_
  · intro wx hSw; go_split_ands; go_simp
  simp only [Act.put, List.getElem_toArray, List.getElem_cons_succ, List.getElem_cons_zero, List.setIfInBounds_toArray, List.set_cons_zero, List.set_cons_succ]
  refine wpAnyT_held (i := 88) (v := .bool true) rfl (by as_aux_lemma => kernel_rfl) (by as_aux_lemma => kernel_rfl) (by as_aux_lemma => kernel_rfl) (fun _ _ _ h => h) (by as_aux_lemma => kernel_rfl) hT (fun _ => hS) (by as_aux_lemma => kernel_rfl) ?_ ?_
  · intro wx hSw; go_split_ands; go_simp
  simp only [Act.put, List.getElem_toArray, List.getElem_cons_succ, List.getElem_cons_zero, List.setIfInBounds_toArray, List.set_cons_zero, List.set_cons_succ]
  refine wpAnyT_held (i := 89) (v := ?_) rfl (by as_aux_lemma => kernel_rfl) (by as_aux_lemma => kernel_rfl) (by as_aux_lemma => kernel_rfl) (fun _ _ _ h => h) (by as_aux_lemma => kernel_rfl) hT (fun _ => hS) (by as_aux_lemma => kernel_rfl) ?_ ?_
  rotate_left
  · intro wx hSw; go_split_ands; go_simp; try with_reducible rfl
  simp only [Act.put, List.getElem_toArray, List.getElem_cons_succ, List.getElem_cons_zero, List.setIfInBounds_toArray, List.set_cons_zero, List.set_cons_succ]
  refine wpAnyT_held (i := 90) (v := .pointer none) rfl (by as_aux_lemma => kernel_rfl) (by as_aux_lemma => kernel_rfl) (by as_aux_lemma => kernel_rfl) (fun _ _ _ h => h) (by as_aux_lemma => kernel_rfl) hT (fun _ => hS) (by as_aux_lemma => kernel_rfl) ?_ ?_
  · intro wx hSw; go_split_ands; go_simp
  refine wpAnyT_dst (some 134) (by first | rfl | kernel_rfl) ?_
  simp only [Act.put, List.getElem_toArray, List.getElem_cons_succ, List.getElem_cons_zero, List.setIfInBounds_toArray, List.set_cons_zero, List.set_cons_succ]
  refine wpAnyT_one (i := 91) rfl (by as_aux_lemma => kernel_rfl) (by as_aux_lemma => kernel_rfl) (fun K hK => ?_)
  refine wpx_call _ _ (by as_aux_lemma => kernel_rfl) ((nFork U8).mono ?_)
  rintro e U9 ⟨rfl, hb⟩
  refine ⟨_, rfl, ?_⟩
  replace hN := hN.far hb
  replace hT := HT U9 hN
  clear hb
  refine hK.out _ _ hT (fun _ => hS) ?_
  clear hK K
  refine wpAnyT_dst (some 135) (by first | rfl | kernel_rfl) ?_
  simp only [Act.put, List.getElem_toArray, List.getElem_cons_succ, List.getElem_cons_zero, List.setIfInBounds_toArray, List.set_cons_zero, List.set_cons_succ]
  refine wpAnyT_held (i := 92) (v := .bool true) rfl (by as_aux_lemma => kernel_rfl) (by as_aux_lemma => kernel_rfl) (by as_aux_lemma => kernel_rfl) (fun _ _ _ h => h) (by as_aux_lemma => kernel_rfl) hT (fun _ => hS) (by as_aux_lemma => kernel_rfl) ?_ ?_
  · intro wx hSw; go_split_ands; go_simp
  refine wpAnyT_dst (some 136) (by first | rfl | kernel_rfl) ?_
  simp only [Act.put, List.getElem_toArray, List.getElem_cons_succ, List.getElem_cons_zero, List.setIfInBounds_toArray, List.set_cons_zero, List.set_cons_succ]
  refine wpAnyT_held (i := 93) (v := .bool true) rfl (by as_aux_lemma => kernel_rfl) (by as_aux_lemma => kernel_rfl) (by as_aux_lemma => kernel_rfl) (fun _ _ _ h => h) (by as_aux_lemma => kernel_rfl) hT (fun _ => hS) (by as_aux_lemma => kernel_rfl) ?_ ?_
  · intro wx hSw; go_split_ands; go_simp
  refine wpAnyT_dst (some 137) (by first | rfl | kernel_rfl) ?_
  simp only [Act.put, List.getElem_toArray, List.getElem_cons_succ, List.getElem_cons_zero, List.setIfInBounds_toArray, List.set_cons_zero, List.set_cons_succ]
  refine wpAnyT_held (i := 94) (v := .bool true) rfl (by as_aux_lemma => kernel_rfl) (by as_aux_lemma => kernel_rfl) (by as_aux_lemma => kernel_rfl) (fun _ _ _ h => h) (by as_aux_lemma => kernel_rfl) hT (fun _ => hS) (by as_aux_lemma => kernel_rfl) ?_ ?_
  · intro wx hSw; go_split_ands; go_simp
  refine wpAnyT_dst (some 2) (by first | rfl | kernel_rfl) ?_
  simp only [Act.put, List.getElem_toArray, List.getElem_cons_succ, List.getElem_cons_zero, List.setIfInBounds_toArray, List.set_cons_zero, List.set_cons_succ]
  refine wpAnyT_done (by as_aux_lemma => kernel_rfl) ?_ _
  have hB := hN.below
  clear hT hS hN HT
  exact ⟨by kernel_rfl, by kernel_rfl, hB⟩
end Go.Proofs.YtlalcnmcnkompaaDoor
