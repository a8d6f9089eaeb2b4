/- Kz1 -/
import Derived.Test.YtflkhkmejnpapaaGreatDoorK30
namespace Go.Proofs.YtflkhkmejnpapaaGreatDoor
open Go.RowKit
set_option maxRecDepth 20000
set_option linter.unusedSimpArgs false
theorem wp_dot (e : Wp) : (e.cells.drop 1).take 2 = dotC e.ea e.es := rfl
theorem wp_too (e : Wp) : e.cells[0]? = some (.int .u8 e.too) := rfl
theorem wp_data (e : Wp) (h : e.data.length = 48) : (e.cells.drop 3).take 48 = e.data.map (Value.int .u8) := by
 show (e.data.map (Value.int .u8)).take 48 = _
 rw [List.take_of_length_le (by simp [h])]
section
variable (base H : Nat) (own : Int) (seed : List Int) (b : Nat) (M : Int → Int → Option (List Int)) (v : Value) (L : List (Int × Int)) (w : World)
def openedL (seed : List Int) (f own : Int) (E : Wp) : List Int := xorL (pairL seed f own) (wrapNL f own E.ea E.es) 1 (E.data.take (48 - 16))
set_option maxHeartbeats 4000000 in
theorem unw_no (f : Int) (E : Wp) (hR : RingAt w base H own seed b M v L) (hE : refuseE own f ≠ 0) :
    Calls Tryz.prog 14 #[.pointer (some ⟨H, 0, none⟩), .int .u8 f, .agg E.cells.toArray] w fun e w' => e = .returned (.int .i64 (refuseE own f)) ∧ Below w.heap.size w w' := by
 have hB : Below w.heap.size w (w.alloc (.cells E.cells.toArray 36)) := (Below.refl _ _).alloc (Nat.le_refl _) _
 have hw0 := CellsAt.new w 36 E.cells
 have HIN : Veil (∀ g, ringP H b v g → g < w.heap.size) := ⟨fun g hg => (hR.inside g hg).1⟩
 obtain ⟨ER, hER⟩ : ∃ q, refuseE own f = q := ⟨_, rfl⟩
 rw [hER] at hE
 have HER := Veil.mk hER
 have hE0 : (ER == 0) = false := by simpa using hE
 go_enter Tryz.func14, Tryz.ntmps14
 go_upto_region 1 with fail
 refine forget (p := fun y => Code.wp _ _ _ _ y) (fun W => Below w.heap.size w W ∧ RingAt W base H own seed b M v L ∧ CellsAt W w.heap.size 36 E.cells) ⟨hB, hR.far hB, hw0⟩ ?_
 clear hB hw0
 rintro W ⟨hB, hR0, hw0⟩
 have hf := refuse_any base H own seed b M v L W f hR0
 rw [hER] at hf
 clear hER hR hR0 hw0
 go_wp2_with (go_at_call 35; refine hf.mono ?_; rintro e w1 ⟨rfl, rfl⟩)
 go_ret
 exact ⟨by rw [HER.out]; rfl, hB⟩
set_option maxHeartbeats 4000000 in
theorem unw_own (f : Int) (E : Wp) (hR : RingAt w base H own seed b M v L) (hE : refuseE own f = 0) (ht : E.too ≠ own) :
    Calls Tryz.prog 14 #[.pointer (some ⟨H, 0, none⟩), .int .u8 f, .agg E.cells.toArray] w fun e w' => e = .returned (.int .i64 12) ∧ Below w.heap.size w w' := by
 have hB : Below w.heap.size w (w.alloc (.cells E.cells.toArray 36)) := (Below.refl _ _).alloc (Nat.le_refl _) _
 have hw0 := CellsAt.new w 36 E.cells
 have HIN : Veil (∀ g, ringP H b v g → g < w.heap.size) := ⟨fun g hg => (hR.inside g hg).1⟩
 go_enter Tryz.func14, Tryz.ntmps14
 go_upto_region 1 with fail
 refine forget (p := fun y => Code.wp _ _ _ _ y) (fun W => Below w.heap.size w W ∧ RingAt W base H own seed b M v L ∧ CellsAt W w.heap.size 36 E.cells) ⟨hB, hR.far hB, hw0⟩ ?_
 clear hB hw0
 rintro W ⟨hB, hR0, hw0⟩
 have hf := refuse_any base H own seed b M v L W f hR0
 rw [hE] at hf
 have c0 := hR0.box.cell 0
 rw [ringC_own] at c0
 have cT := hw0.cell 0
 rw [wp_too] at cT
 go_upto_region 4 with (go_at_call 35; refine hf.mono ?_; rintro e w1 ⟨rfl, rfl⟩)
 obtain ⟨tt, htt⟩ : ∃ q, E.too = q := ⟨_, rfl⟩
 rw [htt] at ht cT
 have hne : (tt == own) = false := by simpa using ht
 clear htt hE hf
 go_quiet ((fail))
 go_wp2
 go_ret
 exact ⟨rfl, below_drewN hB _⟩
set_option maxHeartbeats 4000000 in
theorem unw_known (f : Int) (E : Wp) (hR : RingAt w base H own seed b M v L) (ho : okD E.ea E.es) (hE : refuseE own f = 0) (ht : E.too = own) (hm : (M E.ea E.es).isSome = true) :
    Calls Tryz.prog 14 #[.pointer (some ⟨H, 0, none⟩), .int .u8 f, .agg E.cells.toArray] w fun e w' => e = .returned (.int .i64 5) ∧ Below w.heap.size w w' := by
 have hB : Below w.heap.size w (w.alloc (.cells E.cells.toArray 36)) := (Below.refl _ _).alloc (Nat.le_refl _) _
 have hw0 := CellsAt.new w 36 E.cells
 have HIN : Veil (∀ g, ringP H b v g → g < w.heap.size) := ⟨fun g hg => (hR.inside g hg).1⟩
 go_enter Tryz.func14, Tryz.ntmps14
 go_upto_region 1 with fail
 refine forget (p := fun y => Code.wp _ _ _ _ y) (fun W => Below w.heap.size w W ∧ RingAt W base H own seed b M v L ∧ CellsAt W w.heap.size 36 E.cells) ⟨hB, hR.far hB, hw0⟩ ?_
 clear hB hw0
 rintro W ⟨hB, hR0, hw0⟩
 have hf := refuse_any base H own seed b M v L W f hR0
 rw [hE] at hf
 have c0 := hR0.box.cell 0
 rw [ringC_own] at c0
 have cT := hw0.cell 0
 rw [wp_too] at cT
 go_upto_region 4 with (go_at_call 35; refine hf.mono ?_; rintro e w1 ⟨rfl, rfl⟩)
 rw [ht] at cT
 clear hE hf
 go_quiet ((fail))
 refine forget (p := fun y => Exit.then _ _ _ _ y) (fun V => Below w.heap.size w V ∧ RingAt V base H own seed b M v L ∧ CellsAt V w.heap.size 36 E.cells) ⟨below_drewN hB _, hR0.far (below_drewN (Below.refl _ _) _), hw0.congr ((below_drewN (Below.refl (w1.heap.size) w1) nq).block _ hw0.lt)⟩ ?_
 clear hB hR0 hw0 c0 cT
 clear w1
 rintro W ⟨hB, hR0, hw0⟩
 have hh := rHas_any base H own seed b M v L W E.ea E.es ho hR0
 have rD := hw0.range 1 2
 rw [wp_dot] at rD
 rw [hm] at hh
 go_wp2_with (first
  | (refine wpList_ldv rfl 33 _ rfl _ _ rfl (dotC E.ea E.es) rD Tryz.underlying33 rfl sizeDotK ?_)
  | (go_at_call 15; refine hh.mono ?_; rintro e w2 ⟨rfl, hb2⟩))
 go_ret
 exact ⟨rfl, hB.trans (hb2.mono hB.size)⟩
set_option maxHeartbeats 4000000 in
theorem unw_bad (f : Int) (E : Wp) (hR : RingAt w base H own seed b M v L) (ho : okD E.ea E.es) (hd48 : E.data.length = 48) (hdB : ∀ x ∈ E.data, isB x) (hE : refuseE own f = 0) (ht : E.too = own) (hm : (M E.ea E.es).isSome = false) (hKT : S.KTab w) (htag : ¬ tagL (pairL seed f own) (wrapNL f own E.ea E.es) [] (E.data.take (48 - 16)) = E.data.drop (48 - 16)) :
    Calls Tryz.prog 14 #[.pointer (some ⟨H, 0, none⟩), .int .u8 f, .agg E.cells.toArray] w fun e w' => e = .returned (.int .i64 4) ∧ Below w.heap.size w w' := by
 have hB : Below w.heap.size w (w.alloc (.cells E.cells.toArray 36)) := (Below.refl _ _).alloc (Nat.le_refl _) _
 have hw0 := CellsAt.new w 36 E.cells
 have HIN : Veil (∀ g, ringP H b v g → g < w.heap.size) := ⟨fun g hg => (hR.inside g hg).1⟩
 go_enter Tryz.func14, Tryz.ntmps14
 go_upto_region 1 with fail
 refine forget (p := fun y => Code.wp _ _ _ _ y) (fun W => Below w.heap.size w W ∧ RingAt W base H own seed b M v L ∧ CellsAt W w.heap.size 36 E.cells) ⟨hB, hR.far hB, hw0⟩ ?_
 clear hB hw0
 rintro W ⟨hB, hR0, hw0⟩
 have hf := refuse_any base H own seed b M v L W f hR0
 rw [hE] at hf
 have c0 := hR0.box.cell 0
 rw [ringC_own] at c0
 have cT := hw0.cell 0
 rw [wp_too] at cT
 go_upto_region 4 with (go_at_call 35; refine hf.mono ?_; rintro e w1 ⟨rfl, rfl⟩)
 rw [ht] at cT
 clear hE hf
 go_quiet ((fail))
 refine forget (p := fun y => Exit.then _ _ _ _ y) (fun V => Below w.heap.size w V ∧ RingAt V base H own seed b M v L ∧ CellsAt V w.heap.size 36 E.cells) ⟨below_drewN hB _, hR0.far (below_drewN (Below.refl _ _) _), hw0.congr ((below_drewN (Below.refl (w1.heap.size) w1) nq).block _ hw0.lt)⟩ ?_
 clear hB hR0 hw0 c0 cT
 clear w1
 rintro W ⟨hB, hR0, hw0⟩
 have hh := rHas_any base H own seed b M v L W E.ea E.es ho hR0
 have rD := hw0.range 1 2
 rw [wp_dot] at rD
 rw [hm] at hh
 go_upto_region 8 with (first
  | (refine wpList_ldv rfl 33 _ rfl _ _ rfl (dotC E.ea E.es) rD Tryz.underlying33 rfl sizeDotK ?_)
  | (go_at_call 15; refine hh.mono ?_; rintro e w2 ⟨rfl, hb2⟩))
 refine forget (p := fun y => Code.wp _ _ _ _ y) (fun V => Below w.heap.size w V ∧ RingAt V base H own seed b M v L ∧ CellsAt V w.heap.size 36 E.cells) ⟨hB.trans (hb2.mono hB.size), hR0.far hb2, hw0.congr (hb2.block _ hw0.lt)⟩ ?_
 clear hB hR0 hw0 hh rD hb2
 clear w2
 rintro V ⟨hB, hR0, hw0⟩
 have uD : Tryz.prog.underlying 33 = _ := Tryz.underlying33
 have iD : (Tryz.prog.info? 33).map (·.size) = some (dotC E.ea E.es).length := sizeDotK
 have HT : ∀ W' : World, RingAt W' base H own seed b M v L → CellsAt W' w.heap.size 36 E.cells → (fun w' : World => w'.cell? ⟨H, 0, none⟩ = some (.int .u8 own) ∧ w'.rangeAt w.heap.size 1 (dotC E.ea E.es)) W' := fun W' h1 h2 => ⟨by have := h1.box.cell 0; rw [ringC_own] at this; exact this, h2.range 1 2⟩
 have hPl : (pairL seed f own).length = 32 := derL_length _ _
 have hNl : (wrapNL f own E.ea E.es).length = 12 := rfl
 have HPAIR : ∀ W, RingAt W base H own seed b M v L → Below w.heap.size w W → Calls Tryz.prog 37 #[.pointer (some ⟨H, 0, none⟩), .int .u8 f, .int .u8 own] W fun e w' => e = .returned (.agg (row .u8 (pairL seed f own))) ∧ Below W.heap.size W w' := fun W h1 h2 => rPair_any base H own seed b M v L W f own h1 (hKT.below h2)
 have HNON : ∀ W, Calls Tryz.prog 38 #[.int .u8 f, .int .u8 own, .agg (dotC E.ea E.es).toArray] W fun e w' => e = .returned (.agg (row .u8 (wrapNL f own E.ea E.es))) ∧ Below W.heap.size W w' := fun W => wnonce_any f own E.ea E.es W
 have HBY : ∀ W' : World, CellsAt W' w.heap.size 36 E.cells → Bytes W' (some ⟨w.heap.size, 3, none⟩) 48 48 E.data := fun W' h => by
  have hr := h.range 3 48
  rw [wp_data E hd48] at hr
  exact ⟨hd48.symm, by omega, by omega, (fun e => by cases e), .inr ⟨_, _, rfl, fun j hj => by
   have := hr j (.int .u8 (E.data[j]?.getD 0)) (by rw [List.getElem?_map, List.getElem?_eq_getElem (by omega)]; rfl)
   exact this⟩⟩
 have HOPEN : ∀ W', CellsAt W' w.heap.size 36 E.cells → Calls Tryz.prog 39 #[.agg (row .u8 (pairL seed f own)), .agg (row .u8 (wrapNL f own E.ea E.es)), .slice none 0 0, .slice (some ⟨w.heap.size, 3, none⟩) 48 48] W' fun e w' => e = .returned (.tuple #[.slice none 0 0, .int .i64 4]) ∧ Below W'.heap.size W' w' := fun W' h => open_bad _ _ none 0 0 [] _ 48 48 E.data W' hPl hNl (bytes_nil W') (HBY W' h) (by omega) (by omega) (by omega) (fun _ h => by cases h) hdB htag
 obtain ⟨PL, hPL⟩ : ∃ q, pairL seed f own = q := ⟨_, rfl⟩
 obtain ⟨NL, hNL⟩ : ∃ q, wrapNL f own E.ea E.es = q := ⟨_, rfl⟩
 rw [hPL] at HPAIR HOPEN
 rw [hNL] at HNON HOPEN
 clear hPl hNl
 obtain ⟨V0, hV0⟩ : ∃ q, V.drew = q := ⟨_, rfl⟩
 have hB0 : Below w.heap.size w V0 := by rw [← hV0]; exact hB.drew
 have hR1 : RingAt V0 base H own seed b M v L := by rw [← hV0]; exact hR0.congr fun _ _ => rfl
 have hw1 : CellsAt V0 w.heap.size 36 E.cells := by rw [← hV0]; exact hw0
 refine wp_region_gateT (fun w' => w'.cell? ⟨H, 0, none⟩ = some (.int .u8 own) ∧ w'.rangeAt w.heap.size 1 (dotC E.ea E.es)) (fun _ => True) 17 (by kernel_rfl) ?_
 rw [hV0]
 clear hV0 hB hR0 hw0
 have hT := HT V0 hR1 hw1
 have hS : (fun _ : World => True) V0 := trivial
 refine ghA 0 _ hT hS ?_
 simp only [Act.put, gA, gS, gZ, sI, sZ, sS]
 refine ghA 1 _ hT hS ?_
 simp only [Act.put, gA, gS, gZ, sI, sZ, sS]
 refine ghA 2 _ hT hS ?_
 simp only [Act.put, gA, gS, gZ, sI, sZ, sS]
 refine ghA 3 _ hT hS ?_
 simp only [Act.put, gA, gS, gZ, sI, sZ, sS]
 refine ghA 4 _ hT hS ?_
 simp only [Act.put, gA, gS, gZ, sI, sZ, sS]
 refine ghA 5 _ hT hS ?_
 simp only [Act.put, gA, gS, gZ, sI, sZ, sS]
 refine ghA 7 _ hT hS ?_
 simp only [Act.put, gA, gS, gZ, sI, sZ, sS]
 refine ghA 8 _ hT hS ?_
 simp only [Act.put, gA, gS, gZ, sI, sZ, sS]
 refine ghA 9 _ hT hS ?_
 simp only [Act.put, gA, gS, gZ, sI, sZ, sS]
 refine ghA 10 _ hT hS ?_
 simp only [Act.put, gA, gS, gZ, sI, sZ, sS]
 refine ghA 11 _ hT hS ?_
 simp only [Act.put, gA, gS, gZ, sI, sZ, sS]
 refine ghA 12 _ hT hS ?_
 simp only [Act.put, gA, gS, gZ, sI, sZ, sS]
 refine gl 13 41 33 40 w.heap.size 1 (dotC E.ea E.es) (by kernel_rfl) (by kernel_rfl) (by kernel_rfl) (fun _ _ _ h => h) hT hS (by kernel_rfl) (fun _ h => h.2) uD rfl iD ?_
 simp only [Act.put, gA, gS, gZ, sI, sZ, sS]
 refine ghA 15 _ hT hS ?_
 simp only [Act.put, gA, gS, gZ, sI, sZ, sS]
 refine ghA 16 _ hT hS ?_
 simp only [Act.put, gA, gS, gZ, sI, sZ, sS]
 refine wpAnyT_one (i := 6) rfl (by kernel_rfl) (by kernel_rfl) (fun K hK => ?_)
 refine wpx_call _ _ (by kernel_rfl) ((HPAIR V0 hR1 hB0).mono ?_)
 rintro e V1 ⟨rfl, hb1⟩
 refine ⟨_, rfl, ?_⟩
 have hB1 := hB0.trans (hb1.mono hB0.size)
 have hR2 := hR1.far hb1
 have hw2 := hw1.congr (hb1.block _ hw1.lt)
 replace hT := HT V1 hR2 hw2
 clear hR1 hw1 hb1 hB0
 refine hK.out _ _ hT (fun _ => hS) ?_
 clear hK K
 try simp only [Act.put, gA, gS, gZ, sI, sZ, sS]
 refine wpAnyT_one (i := 14) rfl (by kernel_rfl) (by kernel_rfl) (fun K hK => ?_)
 refine wpx_call _ _ (by kernel_rfl) ((HNON V1).mono ?_)
 rintro e V2 ⟨rfl, hb1⟩
 refine ⟨_, rfl, ?_⟩
 have hB2 := hB1.trans (hb1.mono hB1.size)
 have hR1 := hR2.far hb1
 have hw1 := hw2.congr (hb1.block _ hw2.lt)
 replace hT := HT V2 hR1 hw1
 clear hR2 hw2 hb1 hB1
 refine hK.out _ _ hT (fun _ => hS) ?_
 clear hK K
 try simp only [Act.put, gA, gS, gZ, sI, sZ, sS]
 refine wpAnyT_one (i := 17) rfl (by kernel_rfl) (by kernel_rfl) (fun K hK => ?_)
 refine wpx_call _ _ (by kernel_rfl) ((HOPEN V2 hw1).mono ?_)
 rintro e V3 ⟨rfl, hb1⟩
 refine ⟨_, rfl, ?_⟩
 have hB3 := hB2.trans (hb1.mono hB2.size)
 have hR2 := hR1.far hb1
 have hw2 := hw1.congr (hb1.block _ hw1.lt)
 replace hT := HT V3 hR2 hw2
 clear hR1 hw1 hb1 hB2 HOPEN HNON HPAIR HBY
 refine hK.out _ _ hT (fun h => absurd (show true = false from h) (by decide)) ?_
 clear hK K
 try simp only [Act.put, gA, gS, gZ, sI, sZ, sS]
 refine wpAnyT_held (i := 18) (v := ?_) rfl (by kernel_rfl) (by kernel_rfl) (by kernel_rfl) (fun _ _ _ h => h) (by kernel_rfl) hT (fun h => absurd (show true = false from h) (by decide)) (by kernel_rfl) ?_ ?_
 rotate_left
 · intro wx hSw; go_split_ands; go_simp; try with_reducible rfl
 simp only [Act.put, gA, gS, gZ, sI, sZ, sS]
 refine wpAnyT_held (i := 19) (v := ?_) rfl (by kernel_rfl) (by kernel_rfl) (by kernel_rfl) (fun _ _ _ h => h) (by kernel_rfl) hT (fun h => absurd (show true = false from h) (by decide)) (by kernel_rfl) ?_ ?_
 rotate_left
 · intro wx hSw; go_split_ands; go_simp; try with_reducible rfl
 simp only [Act.put, gA, gS, gZ, sI, sZ, sS]
 refine wpAnyT_held (i := 20) (v := ?_) rfl (by kernel_rfl) (by kernel_rfl) (by kernel_rfl) (fun _ _ _ h => h) (by kernel_rfl) hT (fun h => absurd (show true = false from h) (by decide)) (by kernel_rfl) ?_ ?_
 rotate_left
 · intro wx hSw; go_split_ands; go_simp; try with_reducible rfl
 simp only [Act.put, gA, gS, gZ, sI, sZ, sS]
 refine wpAnyT_held (i := 21) (v := ?_) rfl (by kernel_rfl) (by kernel_rfl) (by kernel_rfl) (fun _ _ _ h => h) (by kernel_rfl) hT (fun h => absurd (show true = false from h) (by decide)) (by kernel_rfl) ?_ ?_
 rotate_left
 · intro wx hSw; go_split_ands; go_simp; try with_reducible rfl
 simp only [Act.put, gA, gS, gZ, sI, sZ, sS]
 refine wpAnyT_held (i := 22) (v := ?_) rfl (by kernel_rfl) (by kernel_rfl) (by kernel_rfl) (fun _ _ _ h => h) (by kernel_rfl) hT (fun h => absurd (show true = false from h) (by decide)) (by kernel_rfl) ?_ ?_
 rotate_left
 · intro wx hSw; go_split_ands; go_simp; try with_reducible rfl
 simp only [Act.put, gA, gS, gZ, sI, sZ, sS]
 refine wpAnyT_done (by kernel_rfl) ?_ _
 go_wp2
 go_ret
 exact ⟨rfl, hB3⟩
set_option maxHeartbeats 4000000 in
theorem unw_full (f : Int) (E : Wp) (hR : RingAt w base H own seed b M v L) (ho : okD E.ea E.es) (hd48 : E.data.length = 48) (hdB : ∀ x ∈ E.data, isB x) (hE : refuseE own f = 0) (ht : E.too = own) (hm : (M E.ea E.es).isSome = false) (hKT : S.KTab w) (htag : tagL (pairL seed f own) (wrapNL f own E.ea E.es) [] (E.data.take (48 - 16)) = E.data.drop (48 - 16)) (hl : 16 ≤ L.length) :
    Calls Tryz.prog 14 #[.pointer (some ⟨H, 0, none⟩), .int .u8 f, .agg E.cells.toArray] w fun e w' => e = .returned (.int .i64 10) ∧ Below w.heap.size w w' := by
 have hB : Below w.heap.size w (w.alloc (.cells E.cells.toArray 36)) := (Below.refl _ _).alloc (Nat.le_refl _) _
 have hw0 := CellsAt.new w 36 E.cells
 have HIN : Veil (∀ g, ringP H b v g → g < w.heap.size) := ⟨fun g hg => (hR.inside g hg).1⟩
 go_enter Tryz.func14, Tryz.ntmps14
 go_upto_region 1 with fail
 refine forget (p := fun y => Code.wp _ _ _ _ y) (fun W => Below w.heap.size w W ∧ RingAt W base H own seed b M v L ∧ CellsAt W w.heap.size 36 E.cells) ⟨hB, hR.far hB, hw0⟩ ?_
 clear hB hw0
 rintro W ⟨hB, hR0, hw0⟩
 have hf := refuse_any base H own seed b M v L W f hR0
 rw [hE] at hf
 have c0 := hR0.box.cell 0
 rw [ringC_own] at c0
 have cT := hw0.cell 0
 rw [wp_too] at cT
 go_upto_region 4 with (go_at_call 35; refine hf.mono ?_; rintro e w1 ⟨rfl, rfl⟩)
 rw [ht] at cT
 clear hE hf
 go_quiet ((fail))
 refine forget (p := fun y => Exit.then _ _ _ _ y) (fun V => Below w.heap.size w V ∧ RingAt V base H own seed b M v L ∧ CellsAt V w.heap.size 36 E.cells) ⟨below_drewN hB _, hR0.far (below_drewN (Below.refl _ _) _), hw0.congr ((below_drewN (Below.refl (w1.heap.size) w1) nq).block _ hw0.lt)⟩ ?_
 clear hB hR0 hw0 c0 cT
 clear w1
 rintro W ⟨hB, hR0, hw0⟩
 have hh := rHas_any base H own seed b M v L W E.ea E.es ho hR0
 have rD := hw0.range 1 2
 rw [wp_dot] at rD
 rw [hm] at hh
 go_upto_region 8 with (first
  | (refine wpList_ldv rfl 33 _ rfl _ _ rfl (dotC E.ea E.es) rD Tryz.underlying33 rfl sizeDotK ?_)
  | (go_at_call 15; refine hh.mono ?_; rintro e w2 ⟨rfl, hb2⟩))
 refine forget (p := fun y => Code.wp _ _ _ _ y) (fun V => Below w.heap.size w V ∧ RingAt V base H own seed b M v L ∧ CellsAt V w.heap.size 36 E.cells) ⟨hB.trans (hb2.mono hB.size), hR0.far hb2, hw0.congr (hb2.block _ hw0.lt)⟩ ?_
 clear hB hR0 hw0 hh rD hb2
 clear w2
 rintro V ⟨hB, hR0, hw0⟩
 have uD : Tryz.prog.underlying 33 = _ := Tryz.underlying33
 have iD : (Tryz.prog.info? 33).map (·.size) = some (dotC E.ea E.es).length := sizeDotK
 have HT : ∀ W' : World, RingAt W' base H own seed b M v L → CellsAt W' w.heap.size 36 E.cells → (fun w' : World => w'.cell? ⟨H, 0, none⟩ = some (.int .u8 own) ∧ w'.rangeAt w.heap.size 1 (dotC E.ea E.es)) W' := fun W' h1 h2 => ⟨by have := h1.box.cell 0; rw [ringC_own] at this; exact this, h2.range 1 2⟩
 have hPl : (pairL seed f own).length = 32 := derL_length _ _
 have hNl : (wrapNL f own E.ea E.es).length = 12 := rfl
 have HPAIR : ∀ W, RingAt W base H own seed b M v L → Below w.heap.size w W → Calls Tryz.prog 37 #[.pointer (some ⟨H, 0, none⟩), .int .u8 f, .int .u8 own] W fun e w' => e = .returned (.agg (row .u8 (pairL seed f own))) ∧ Below W.heap.size W w' := fun W h1 h2 => rPair_any base H own seed b M v L W f own h1 (hKT.below h2)
 have HNON : ∀ W, Calls Tryz.prog 38 #[.int .u8 f, .int .u8 own, .agg (dotC E.ea E.es).toArray] W fun e w' => e = .returned (.agg (row .u8 (wrapNL f own E.ea E.es))) ∧ Below W.heap.size W w' := fun W => wnonce_any f own E.ea E.es W
 have HBY : ∀ W' : World, CellsAt W' w.heap.size 36 E.cells → Bytes W' (some ⟨w.heap.size, 3, none⟩) 48 48 E.data := fun W' h => by
  have hr := h.range 3 48
  rw [wp_data E hd48] at hr
  exact ⟨hd48.symm, by omega, by omega, (fun e => by cases e), .inr ⟨_, _, rfl, fun j hj => by
   have := hr j (.int .u8 (E.data[j]?.getD 0)) (by rw [List.getElem?_map, List.getElem?_eq_getElem (by omega)]; rfl)
   exact this⟩⟩
 have HOPEN : ∀ W', CellsAt W' w.heap.size 36 E.cells → Calls Tryz.prog 39 #[.agg (row .u8 (pairL seed f own)), .agg (row .u8 (wrapNL f own E.ea E.es)), .slice none 0 0, .slice (some ⟨w.heap.size, 3, none⟩) 48 48] W' fun e w' => ∃ g, e = .returned (.tuple #[.slice (some ⟨g, 0, none⟩) 32 32, .int .i64 0]) ∧ W'.heap.size ≤ g ∧ Holds w' g .u8 5 (openedL seed f own E) ∧ Below W'.heap.size W' w' := fun W' h => open_ok _ _ none 0 0 [] _ 48 48 E.data W' hPl hNl (bytes_nil W') (HBY W' h) (by omega) (by omega) (by omega) (fun _ h => by cases h) hdB htag
 have hOl : (openedL seed f own E).length = 32 := by unfold openedL; rw [xorL_length, List.length_take]; omega
 obtain ⟨PL, hPL⟩ : ∃ q, pairL seed f own = q := ⟨_, rfl⟩
 obtain ⟨NL, hNL⟩ : ∃ q, wrapNL f own E.ea E.es = q := ⟨_, rfl⟩
 rw [hPL] at HPAIR HOPEN
 rw [hNL] at HNON HOPEN
 obtain ⟨OL, hOL⟩ : ∃ q, openedL seed f own E = q := ⟨_, rfl⟩
 rw [hOL] at HOPEN hOl
 clear hOL
 clear hPl hNl
 obtain ⟨V0, hV0⟩ : ∃ q, V.drew = q := ⟨_, rfl⟩
 have hB0 : Below w.heap.size w V0 := by rw [← hV0]; exact hB.drew
 have hR1 : RingAt V0 base H own seed b M v L := by rw [← hV0]; exact hR0.congr fun _ _ => rfl
 have hw1 : CellsAt V0 w.heap.size 36 E.cells := by rw [← hV0]; exact hw0
 refine wp_region_gateT (fun w' => w'.cell? ⟨H, 0, none⟩ = some (.int .u8 own) ∧ w'.rangeAt w.heap.size 1 (dotC E.ea E.es)) (fun _ => True) 17 (by kernel_rfl) ?_
 rw [hV0]
 clear hV0 hB hR0 hw0
 have hT := HT V0 hR1 hw1
 have hS : (fun _ : World => True) V0 := trivial
 refine ghA 0 _ hT hS ?_
 simp only [Act.put, gA, gS, gZ, sI, sZ, sS]
 refine ghA 1 _ hT hS ?_
 simp only [Act.put, gA, gS, gZ, sI, sZ, sS]
 refine ghA 2 _ hT hS ?_
 simp only [Act.put, gA, gS, gZ, sI, sZ, sS]
 refine ghA 3 _ hT hS ?_
 simp only [Act.put, gA, gS, gZ, sI, sZ, sS]
 refine ghA 4 _ hT hS ?_
 simp only [Act.put, gA, gS, gZ, sI, sZ, sS]
 refine ghA 5 _ hT hS ?_
 simp only [Act.put, gA, gS, gZ, sI, sZ, sS]
 refine ghA 7 _ hT hS ?_
 simp only [Act.put, gA, gS, gZ, sI, sZ, sS]
 refine ghA 8 _ hT hS ?_
 simp only [Act.put, gA, gS, gZ, sI, sZ, sS]
 refine ghA 9 _ hT hS ?_
 simp only [Act.put, gA, gS, gZ, sI, sZ, sS]
 refine ghA 10 _ hT hS ?_
 simp only [Act.put, gA, gS, gZ, sI, sZ, sS]
 refine ghA 11 _ hT hS ?_
 simp only [Act.put, gA, gS, gZ, sI, sZ, sS]
 refine ghA 12 _ hT hS ?_
 simp only [Act.put, gA, gS, gZ, sI, sZ, sS]
 refine gl 13 41 33 40 w.heap.size 1 (dotC E.ea E.es) (by kernel_rfl) (by kernel_rfl) (by kernel_rfl) (fun _ _ _ h => h) hT hS (by kernel_rfl) (fun _ h => h.2) uD rfl iD ?_
 simp only [Act.put, gA, gS, gZ, sI, sZ, sS]
 refine ghA 15 _ hT hS ?_
 simp only [Act.put, gA, gS, gZ, sI, sZ, sS]
 refine ghA 16 _ hT hS ?_
 simp only [Act.put, gA, gS, gZ, sI, sZ, sS]
 refine wpAnyT_one (i := 6) rfl (by kernel_rfl) (by kernel_rfl) (fun K hK => ?_)
 refine wpx_call _ _ (by kernel_rfl) ((HPAIR V0 hR1 hB0).mono ?_)
 rintro e V1 ⟨rfl, hb1⟩
 refine ⟨_, rfl, ?_⟩
 have hB1 := hB0.trans (hb1.mono hB0.size)
 have hR2 := hR1.far hb1
 have hw2 := hw1.congr (hb1.block _ hw1.lt)
 replace hT := HT V1 hR2 hw2
 clear hR1 hw1 hb1 hB0
 refine hK.out _ _ hT (fun _ => hS) ?_
 clear hK K
 try simp only [Act.put, gA, gS, gZ, sI, sZ, sS]
 refine wpAnyT_one (i := 14) rfl (by kernel_rfl) (by kernel_rfl) (fun K hK => ?_)
 refine wpx_call _ _ (by kernel_rfl) ((HNON V1).mono ?_)
 rintro e V2 ⟨rfl, hb1⟩
 refine ⟨_, rfl, ?_⟩
 have hB2 := hB1.trans (hb1.mono hB1.size)
 have hR1 := hR2.far hb1
 have hw1 := hw2.congr (hb1.block _ hw2.lt)
 replace hT := HT V2 hR1 hw1
 clear hR2 hw2 hb1 hB1
 refine hK.out _ _ hT (fun _ => hS) ?_
 clear hK K
 try simp only [Act.put, gA, gS, gZ, sI, sZ, sS]
 refine wpAnyT_one (i := 17) rfl (by kernel_rfl) (by kernel_rfl) (fun K hK => ?_)
 refine wpx_call _ _ (by kernel_rfl) ((HOPEN V2 hw1).mono ?_)
 rintro e V3 ⟨g3, rfl, hg3, hh3, hb1⟩
 refine ⟨_, rfl, ?_⟩
 have hB3 := hB2.trans (hb1.mono hB2.size)
 have hR2 := hR1.far hb1
 have hw2 := hw1.congr (hb1.block _ hw1.lt)
 replace hT := HT V3 hR2 hw2
 clear hR1 hw1 hb1 HOPEN HNON HPAIR HBY
 refine hK.out _ _ hT (fun h => absurd (show true = false from h) (by decide)) ?_
 clear hK K
 try simp only [Act.put, gA, gS, gZ, sI, sZ, sS]
 refine wpAnyT_held (i := 18) (v := ?_) rfl (by kernel_rfl) (by kernel_rfl) (by kernel_rfl) (fun _ _ _ h => h) (by kernel_rfl) hT (fun h => absurd (show true = false from h) (by decide)) (by kernel_rfl) ?_ ?_
 rotate_left
 · intro wx hSw; go_split_ands; go_simp; try with_reducible rfl
 simp only [Act.put, gA, gS, gZ, sI, sZ, sS]
 refine wpAnyT_held (i := 19) (v := ?_) rfl (by kernel_rfl) (by kernel_rfl) (by kernel_rfl) (fun _ _ _ h => h) (by kernel_rfl) hT (fun h => absurd (show true = false from h) (by decide)) (by kernel_rfl) ?_ ?_
 rotate_left
 · intro wx hSw; go_split_ands; go_simp; try with_reducible rfl
 simp only [Act.put, gA, gS, gZ, sI, sZ, sS]
 refine wpAnyT_held (i := 20) (v := ?_) rfl (by kernel_rfl) (by kernel_rfl) (by kernel_rfl) (fun _ _ _ h => h) (by kernel_rfl) hT (fun h => absurd (show true = false from h) (by decide)) (by kernel_rfl) ?_ ?_
 rotate_left
 · intro wx hSw; go_split_ands; go_simp; try with_reducible rfl
 simp only [Act.put, gA, gS, gZ, sI, sZ, sS]
 refine wpAnyT_held (i := 21) (v := ?_) rfl (by kernel_rfl) (by kernel_rfl) (by kernel_rfl) (fun _ _ _ h => h) (by kernel_rfl) hT (fun h => absurd (show true = false from h) (by decide)) (by kernel_rfl) ?_ ?_
 rotate_left
 · intro wx hSw; go_split_ands; go_simp; try with_reducible rfl
 simp only [Act.put, gA, gS, gZ, sI, sZ, sS]
 refine wpAnyT_held (i := 22) (v := ?_) rfl (by kernel_rfl) (by kernel_rfl) (by kernel_rfl) (fun _ _ _ h => h) (by kernel_rfl) hT (fun h => absurd (show true = false from h) (by decide)) (by kernel_rfl) ?_ ?_
 rotate_left
 · intro wx hSw; go_split_ands; go_simp; try with_reducible rfl
 simp only [Act.put, gA, gS, gZ, sI, sZ, sS]
 refine wpAnyT_done (by kernel_rfl) ?_ _
 have hra : ∀ wx, (Instr.arrayAt 23 (.slice (some ⟨g3, 0, none⟩) 32 32)).run Tryz.prog wx = .ok (.pointer (some ⟨g3, 0, none⟩)) wx := fun wx => run_arrayAk Tryz.underlying23 _ _ _ (by omega) wx
 go_upto_region 11 with fail
 have uK : Tryz.prog.underlying 23 = _ := Tryz.underlying23
 have iK : (Tryz.prog.info? 23).map (·.size) = some (OL.map (Value.int .u8)).length := by rw [List.length_map, hOl]; exact sizeKeyD
 have hr3 := hh3.cellsAt.range 0 32
 rw [List.drop_zero, List.take_of_length_le (by simp [hOl])] at hr3
 refine wp_region_gate (fun w' => w'.rangeAt w.heap.size 1 (dotC E.ea E.es) ∧ w'.rangeAt g3 0 (OL.map (Value.int .u8))) 6 (by kernel_rfl) ?_
 have hS : (fun w' : World => w'.rangeAt w.heap.size 1 (dotC E.ea E.es) ∧ w'.rangeAt g3 0 (OL.map (Value.int .u8))) V3.drew := ⟨hT.2, hr3⟩
 refine gaA 0 _ hS ?_
 simp only [Act.put, gA, gS, gZ, sI, sZ, sS]
 refine gaA 1 _ hS ?_
 simp only [Act.put, gA, gS, gZ, sI, sZ, sS]
 refine wpAnyG_load (i := 2) (dst := some 53) (ty := 33) (x := .tmp 52) (b := w.heap.size) (o := (1)) (cs := (dotC E.ea E.es)) (by kernel_rfl) (by kernel_rfl) (by kernel_rfl) (by kernel_rfl) (by kernel_rfl) (fun _ _ _ h => h) (by kernel_rfl) (by kernel_rfl) (by kernel_rfl) hS (by kernel_rfl) (fun _ h => h.1) uD rfl iD ?_
 simp only [Act.put, gA, gS, gZ, sI, sZ, sS]
 refine gaA 3 _ hS ?_
 simp only [Act.put, gA, gS, gZ, sI, sZ, sS]
 refine gaA 4 _ hS ?_
 simp only [Act.put, gA, gS, gZ, sI, sZ, sS]
 refine wpAnyG_load (i := 5) (dst := some 56) (ty := 23) (x := .tmp 55) (b := g3) (o := (0)) (cs := (OL.map (Value.int .u8))) (by kernel_rfl) (by kernel_rfl) (by kernel_rfl) (by kernel_rfl) (by kernel_rfl) (fun _ _ _ h => h) (by kernel_rfl) (by kernel_rfl) (by kernel_rfl) hS (by kernel_rfl) (fun _ h => h.2) uK rfl iK ?_
 simp only [Act.put, gA, gS, gZ, sI, sZ, sS]
 refine wpAnyG_one (i := 6) rfl (by kernel_rfl) (by kernel_rfl) (fun K hK => ?_)
 have hadd := add_full base H own seed b M v L V3.drew E.ea E.es OL ho (hR2.congr fun _ _ => rfl) hm hl
 refine wpx_call _ _ (by kernel_rfl) (hadd.mono ?_)
 rintro e V4 ⟨rfl, hb4⟩
 refine ⟨_, rfl, ?_⟩
 refine hK.out _ _ (fun h => absurd (show true = false from h) (by decide)) ?_
 clear hK K
 try simp only [Act.put, gA, gS, gZ, sI, sZ, sS]
 refine wpAnyG_any (i := 7) (v := ?_) rfl (by kernel_rfl) (by kernel_rfl) (by kernel_rfl) (fun _ _ _ h => h) (by kernel_rfl) (fun h => absurd (show true = false from h) (by decide)) (by kernel_rfl) ?_ ?_
 rotate_left
 · intro _; go_simp; try with_reducible rfl
 simp only [Act.put, gA, gS, gZ, sI, sZ, sS]
 refine wpAnyG_done (by kernel_rfl) ?_ _
 go_wp2
 go_ret
 exact ⟨rfl, hB3.drew.trans (hb4.mono hB3.size)⟩
set_option maxHeartbeats 4000000 in
theorem unw_ok (f : Int) (E : Wp) (hR : RingAt w base H own seed b M v L) (ho : okD E.ea E.es) (hd48 : E.data.length = 48) (hdB : ∀ x ∈ E.data, isB x) (hE : refuseE own f = 0) (ht : E.too = own) (hm : (M E.ea E.es).isSome = false) (hKT : S.KTab w) (htag : tagL (pairL seed f own) (wrapNL f own E.ea E.es) [] (E.data.take (48 - 16)) = E.data.drop (48 - 16)) (hl : L.length < 16) (hbase : base ≤ w.heap.size) :
    Calls Tryz.prog 14 #[.pointer (some ⟨H, 0, none⟩), .int .u8 f, .agg E.cells.toArray] w fun e w' => e = .returned (.int .i64 0) ∧ ∃ v', RingAt w' base H own seed b (putK M E.ea E.es (openedL seed f own E)) v' (L ++ [(E.ea, E.es)]) ∧ Turn (ringP H b v) w w' ∧ (v'.ownBlock = v.ownBlock ∨ ∃ g, v'.ownBlock = some g ∧ w.heap.size ≤ g) := by
 have hB : Below w.heap.size w (w.alloc (.cells E.cells.toArray 36)) := (Below.refl _ _).alloc (Nat.le_refl _) _
 have hw0 := CellsAt.new w 36 E.cells
 have HIN : Veil (∀ g, ringP H b v g → g < w.heap.size) := ⟨fun g hg => (hR.inside g hg).1⟩
 go_enter Tryz.func14, Tryz.ntmps14
 go_upto_region 1 with fail
 refine forget (p := fun y => Code.wp _ _ _ _ y) (fun W => Below w.heap.size w W ∧ RingAt W base H own seed b M v L ∧ CellsAt W w.heap.size 36 E.cells) ⟨hB, hR.far hB, hw0⟩ ?_
 clear hB hw0
 rintro W ⟨hB, hR0, hw0⟩
 have hf := refuse_any base H own seed b M v L W f hR0
 rw [hE] at hf
 have c0 := hR0.box.cell 0
 rw [ringC_own] at c0
 have cT := hw0.cell 0
 rw [wp_too] at cT
 go_upto_region 4 with (go_at_call 35; refine hf.mono ?_; rintro e w1 ⟨rfl, rfl⟩)
 rw [ht] at cT
 clear hE hf
 go_quiet ((fail))
 refine forget (p := fun y => Exit.then _ _ _ _ y) (fun V => Below w.heap.size w V ∧ RingAt V base H own seed b M v L ∧ CellsAt V w.heap.size 36 E.cells) ⟨below_drewN hB _, hR0.far (below_drewN (Below.refl _ _) _), hw0.congr ((below_drewN (Below.refl (w1.heap.size) w1) nq).block _ hw0.lt)⟩ ?_
 clear hB hR0 hw0 c0 cT
 clear w1
 rintro W ⟨hB, hR0, hw0⟩
 have hh := rHas_any base H own seed b M v L W E.ea E.es ho hR0
 have rD := hw0.range 1 2
 rw [wp_dot] at rD
 rw [hm] at hh
 go_upto_region 8 with (first
  | (refine wpList_ldv rfl 33 _ rfl _ _ rfl (dotC E.ea E.es) rD Tryz.underlying33 rfl sizeDotK ?_)
  | (go_at_call 15; refine hh.mono ?_; rintro e w2 ⟨rfl, hb2⟩))
 refine forget (p := fun y => Code.wp _ _ _ _ y) (fun V => Below w.heap.size w V ∧ RingAt V base H own seed b M v L ∧ CellsAt V w.heap.size 36 E.cells) ⟨hB.trans (hb2.mono hB.size), hR0.far hb2, hw0.congr (hb2.block _ hw0.lt)⟩ ?_
 clear hB hR0 hw0 hh rD hb2
 clear w2
 rintro V ⟨hB, hR0, hw0⟩
 have uD : Tryz.prog.underlying 33 = _ := Tryz.underlying33
 have iD : (Tryz.prog.info? 33).map (·.size) = some (dotC E.ea E.es).length := sizeDotK
 have HT : ∀ W' : World, RingAt W' base H own seed b M v L → CellsAt W' w.heap.size 36 E.cells → (fun w' : World => w'.cell? ⟨H, 0, none⟩ = some (.int .u8 own) ∧ w'.rangeAt w.heap.size 1 (dotC E.ea E.es)) W' := fun W' h1 h2 => ⟨by have := h1.box.cell 0; rw [ringC_own] at this; exact this, h2.range 1 2⟩
 have hPl : (pairL seed f own).length = 32 := derL_length _ _
 have hNl : (wrapNL f own E.ea E.es).length = 12 := rfl
 have HPAIR : ∀ W, RingAt W base H own seed b M v L → Below w.heap.size w W → Calls Tryz.prog 37 #[.pointer (some ⟨H, 0, none⟩), .int .u8 f, .int .u8 own] W fun e w' => e = .returned (.agg (row .u8 (pairL seed f own))) ∧ Below W.heap.size W w' := fun W h1 h2 => rPair_any base H own seed b M v L W f own h1 (hKT.below h2)
 have HNON : ∀ W, Calls Tryz.prog 38 #[.int .u8 f, .int .u8 own, .agg (dotC E.ea E.es).toArray] W fun e w' => e = .returned (.agg (row .u8 (wrapNL f own E.ea E.es))) ∧ Below W.heap.size W w' := fun W => wnonce_any f own E.ea E.es W
 have HBY : ∀ W' : World, CellsAt W' w.heap.size 36 E.cells → Bytes W' (some ⟨w.heap.size, 3, none⟩) 48 48 E.data := fun W' h => by
  have hr := h.range 3 48
  rw [wp_data E hd48] at hr
  exact ⟨hd48.symm, by omega, by omega, (fun e => by cases e), .inr ⟨_, _, rfl, fun j hj => by
   have := hr j (.int .u8 (E.data[j]?.getD 0)) (by rw [List.getElem?_map, List.getElem?_eq_getElem (by omega)]; rfl)
   exact this⟩⟩
 have HOPEN : ∀ W', CellsAt W' w.heap.size 36 E.cells → Calls Tryz.prog 39 #[.agg (row .u8 (pairL seed f own)), .agg (row .u8 (wrapNL f own E.ea E.es)), .slice none 0 0, .slice (some ⟨w.heap.size, 3, none⟩) 48 48] W' fun e w' => ∃ g, e = .returned (.tuple #[.slice (some ⟨g, 0, none⟩) 32 32, .int .i64 0]) ∧ W'.heap.size ≤ g ∧ Holds w' g .u8 5 (openedL seed f own E) ∧ Below W'.heap.size W' w' := fun W' h => open_ok _ _ none 0 0 [] _ 48 48 E.data W' hPl hNl (bytes_nil W') (HBY W' h) (by omega) (by omega) (by omega) (fun _ h => by cases h) hdB htag
 have hOl : (openedL seed f own E).length = 32 := by unfold openedL; rw [xorL_length, List.length_take]; omega
 obtain ⟨PL, hPL⟩ : ∃ q, pairL seed f own = q := ⟨_, rfl⟩
 obtain ⟨NL, hNL⟩ : ∃ q, wrapNL f own E.ea E.es = q := ⟨_, rfl⟩
 rw [hPL] at HPAIR HOPEN
 rw [hNL] at HNON HOPEN
 obtain ⟨OL, hOL⟩ : ∃ q, openedL seed f own E = q := ⟨_, rfl⟩
 rw [hOL] at HOPEN hOl
 have HOL := Veil.mk hOL
 clear hOL
 clear hPl hNl
 obtain ⟨V0, hV0⟩ : ∃ q, V.drew = q := ⟨_, rfl⟩
 have hB0 : Below w.heap.size w V0 := by rw [← hV0]; exact hB.drew
 have hR1 : RingAt V0 base H own seed b M v L := by rw [← hV0]; exact hR0.congr fun _ _ => rfl
 have hw1 : CellsAt V0 w.heap.size 36 E.cells := by rw [← hV0]; exact hw0
 refine wp_region_gateT (fun w' => w'.cell? ⟨H, 0, none⟩ = some (.int .u8 own) ∧ w'.rangeAt w.heap.size 1 (dotC E.ea E.es)) (fun _ => True) 17 (by kernel_rfl) ?_
 rw [hV0]
 clear hV0 hB hR0 hw0
 have hT := HT V0 hR1 hw1
 have hS : (fun _ : World => True) V0 := trivial
 refine ghA 0 _ hT hS ?_
 simp only [Act.put, gA, gS, gZ, sI, sZ, sS]
 refine ghA 1 _ hT hS ?_
 simp only [Act.put, gA, gS, gZ, sI, sZ, sS]
 refine ghA 2 _ hT hS ?_
 simp only [Act.put, gA, gS, gZ, sI, sZ, sS]
 refine ghA 3 _ hT hS ?_
 simp only [Act.put, gA, gS, gZ, sI, sZ, sS]
 refine ghA 4 _ hT hS ?_
 simp only [Act.put, gA, gS, gZ, sI, sZ, sS]
 refine ghA 5 _ hT hS ?_
 simp only [Act.put, gA, gS, gZ, sI, sZ, sS]
 refine ghA 7 _ hT hS ?_
 simp only [Act.put, gA, gS, gZ, sI, sZ, sS]
 refine ghA 8 _ hT hS ?_
 simp only [Act.put, gA, gS, gZ, sI, sZ, sS]
 refine ghA 9 _ hT hS ?_
 simp only [Act.put, gA, gS, gZ, sI, sZ, sS]
 refine ghA 10 _ hT hS ?_
 simp only [Act.put, gA, gS, gZ, sI, sZ, sS]
 refine ghA 11 _ hT hS ?_
 simp only [Act.put, gA, gS, gZ, sI, sZ, sS]
 refine ghA 12 _ hT hS ?_
 simp only [Act.put, gA, gS, gZ, sI, sZ, sS]
 refine gl 13 41 33 40 w.heap.size 1 (dotC E.ea E.es) (by kernel_rfl) (by kernel_rfl) (by kernel_rfl) (fun _ _ _ h => h) hT hS (by kernel_rfl) (fun _ h => h.2) uD rfl iD ?_
 simp only [Act.put, gA, gS, gZ, sI, sZ, sS]
 refine ghA 15 _ hT hS ?_
 simp only [Act.put, gA, gS, gZ, sI, sZ, sS]
 refine ghA 16 _ hT hS ?_
 simp only [Act.put, gA, gS, gZ, sI, sZ, sS]
 refine wpAnyT_one (i := 6) rfl (by kernel_rfl) (by kernel_rfl) (fun K hK => ?_)
 refine wpx_call _ _ (by kernel_rfl) ((HPAIR V0 hR1 hB0).mono ?_)
 rintro e V1 ⟨rfl, hb1⟩
 refine ⟨_, rfl, ?_⟩
 have hB1 := hB0.trans (hb1.mono hB0.size)
 have hR2 := hR1.far hb1
 have hw2 := hw1.congr (hb1.block _ hw1.lt)
 replace hT := HT V1 hR2 hw2
 clear hR1 hw1 hb1 hB0
 refine hK.out _ _ hT (fun _ => hS) ?_
 clear hK K
 try simp only [Act.put, gA, gS, gZ, sI, sZ, sS]
 refine wpAnyT_one (i := 14) rfl (by kernel_rfl) (by kernel_rfl) (fun K hK => ?_)
 refine wpx_call _ _ (by kernel_rfl) ((HNON V1).mono ?_)
 rintro e V2 ⟨rfl, hb1⟩
 refine ⟨_, rfl, ?_⟩
 have hB2 := hB1.trans (hb1.mono hB1.size)
 have hR1 := hR2.far hb1
 have hw1 := hw2.congr (hb1.block _ hw2.lt)
 replace hT := HT V2 hR1 hw1
 clear hR2 hw2 hb1 hB1
 refine hK.out _ _ hT (fun _ => hS) ?_
 clear hK K
 try simp only [Act.put, gA, gS, gZ, sI, sZ, sS]
 refine wpAnyT_one (i := 17) rfl (by kernel_rfl) (by kernel_rfl) (fun K hK => ?_)
 refine wpx_call _ _ (by kernel_rfl) ((HOPEN V2 hw1).mono ?_)
 rintro e V3 ⟨g3, rfl, hg3, hh3, hb1⟩
 refine ⟨_, rfl, ?_⟩
 have hB3 := hB2.trans (hb1.mono hB2.size)
 have hR2 := hR1.far hb1
 have hw2 := hw1.congr (hb1.block _ hw1.lt)
 replace hT := HT V3 hR2 hw2
 clear hR1 hw1 hb1 HOPEN HNON HPAIR HBY
 refine hK.out _ _ hT (fun h => absurd (show true = false from h) (by decide)) ?_
 clear hK K
 try simp only [Act.put, gA, gS, gZ, sI, sZ, sS]
 refine wpAnyT_held (i := 18) (v := ?_) rfl (by kernel_rfl) (by kernel_rfl) (by kernel_rfl) (fun _ _ _ h => h) (by kernel_rfl) hT (fun h => absurd (show true = false from h) (by decide)) (by kernel_rfl) ?_ ?_
 rotate_left
 · intro wx hSw; go_split_ands; go_simp; try with_reducible rfl
 simp only [Act.put, gA, gS, gZ, sI, sZ, sS]
 refine wpAnyT_held (i := 19) (v := ?_) rfl (by kernel_rfl) (by kernel_rfl) (by kernel_rfl) (fun _ _ _ h => h) (by kernel_rfl) hT (fun h => absurd (show true = false from h) (by decide)) (by kernel_rfl) ?_ ?_
 rotate_left
 · intro wx hSw; go_split_ands; go_simp; try with_reducible rfl
 simp only [Act.put, gA, gS, gZ, sI, sZ, sS]
 refine wpAnyT_held (i := 20) (v := ?_) rfl (by kernel_rfl) (by kernel_rfl) (by kernel_rfl) (fun _ _ _ h => h) (by kernel_rfl) hT (fun h => absurd (show true = false from h) (by decide)) (by kernel_rfl) ?_ ?_
 rotate_left
 · intro wx hSw; go_split_ands; go_simp; try with_reducible rfl
 simp only [Act.put, gA, gS, gZ, sI, sZ, sS]
 refine wpAnyT_held (i := 21) (v := ?_) rfl (by kernel_rfl) (by kernel_rfl) (by kernel_rfl) (fun _ _ _ h => h) (by kernel_rfl) hT (fun h => absurd (show true = false from h) (by decide)) (by kernel_rfl) ?_ ?_
 rotate_left
 · intro wx hSw; go_split_ands; go_simp; try with_reducible rfl
 simp only [Act.put, gA, gS, gZ, sI, sZ, sS]
 refine wpAnyT_held (i := 22) (v := ?_) rfl (by kernel_rfl) (by kernel_rfl) (by kernel_rfl) (fun _ _ _ h => h) (by kernel_rfl) hT (fun h => absurd (show true = false from h) (by decide)) (by kernel_rfl) ?_ ?_
 rotate_left
 · intro wx hSw; go_split_ands; go_simp; try with_reducible rfl
 simp only [Act.put, gA, gS, gZ, sI, sZ, sS]
 refine wpAnyT_done (by kernel_rfl) ?_ _
 have hra : ∀ wx, (Instr.arrayAt 23 (.slice (some ⟨g3, 0, none⟩) 32 32)).run Tryz.prog wx = .ok (.pointer (some ⟨g3, 0, none⟩)) wx := fun wx => run_arrayAk Tryz.underlying23 _ _ _ (by omega) wx
 go_upto_region 11 with fail
 have uK : Tryz.prog.underlying 23 = _ := Tryz.underlying23
 have iK : (Tryz.prog.info? 23).map (·.size) = some (OL.map (Value.int .u8)).length := by rw [List.length_map, hOl]; exact sizeKeyD
 have hr3 := hh3.cellsAt.range 0 32
 rw [List.drop_zero, List.take_of_length_le (by simp [hOl])] at hr3
 refine wp_region_gate (fun w' => w'.rangeAt w.heap.size 1 (dotC E.ea E.es) ∧ w'.rangeAt g3 0 (OL.map (Value.int .u8))) 6 (by kernel_rfl) ?_
 have hS : (fun w' : World => w'.rangeAt w.heap.size 1 (dotC E.ea E.es) ∧ w'.rangeAt g3 0 (OL.map (Value.int .u8))) V3.drew := ⟨hT.2, hr3⟩
 refine gaA 0 _ hS ?_
 simp only [Act.put, gA, gS, gZ, sI, sZ, sS]
 refine gaA 1 _ hS ?_
 simp only [Act.put, gA, gS, gZ, sI, sZ, sS]
 refine wpAnyG_load (i := 2) (dst := some 53) (ty := 33) (x := .tmp 52) (b := w.heap.size) (o := (1)) (cs := (dotC E.ea E.es)) (by kernel_rfl) (by kernel_rfl) (by kernel_rfl) (by kernel_rfl) (by kernel_rfl) (fun _ _ _ h => h) (by kernel_rfl) (by kernel_rfl) (by kernel_rfl) hS (by kernel_rfl) (fun _ h => h.1) uD rfl iD ?_
 simp only [Act.put, gA, gS, gZ, sI, sZ, sS]
 refine gaA 3 _ hS ?_
 simp only [Act.put, gA, gS, gZ, sI, sZ, sS]
 refine gaA 4 _ hS ?_
 simp only [Act.put, gA, gS, gZ, sI, sZ, sS]
 refine wpAnyG_load (i := 5) (dst := some 56) (ty := 23) (x := .tmp 55) (b := g3) (o := (0)) (cs := (OL.map (Value.int .u8))) (by kernel_rfl) (by kernel_rfl) (by kernel_rfl) (by kernel_rfl) (by kernel_rfl) (fun _ _ _ h => h) (by kernel_rfl) (by kernel_rfl) (by kernel_rfl) hS (by kernel_rfl) (fun _ h => h.2) uK rfl iK ?_
 simp only [Act.put, gA, gS, gZ, sI, sZ, sS]
 refine wpAnyG_one (i := 6) rfl (by kernel_rfl) (by kernel_rfl) (fun K hK => ?_)
 have hadd := add_ok base H own seed b M v L V3.drew E.ea E.es OL ho hOl (hR2.congr fun _ _ => rfl) hm hl (Nat.le_trans hbase hB3.size)
 refine wpx_call _ _ (by kernel_rfl) (hadd.mono ?_)
 rintro e V4 ⟨rfl, v4, hR4, hT4, hn4⟩
 refine ⟨_, rfl, ?_⟩
 refine hK.out _ _ (fun h => absurd (show true = false from h) (by decide)) ?_
 clear hK K
 try simp only [Act.put, gA, gS, gZ, sI, sZ, sS]
 refine wpAnyG_any (i := 7) (v := ?_) rfl (by kernel_rfl) (by kernel_rfl) (by kernel_rfl) (fun _ _ _ h => h) (by kernel_rfl) (fun h => absurd (show true = false from h) (by decide)) (by kernel_rfl) ?_ ?_
 rotate_left
 · intro _; go_simp; try with_reducible rfl
 simp only [Act.put, gA, gS, gZ, sI, sZ, sS]
 refine wpAnyG_done (by kernel_rfl) ?_ _
 go_wp2
 go_ret
 refine ⟨rfl, v4, by rw [HOL.out]; exact hR4, (Turn.of_below hB3.drew).trans hT4, hn4.imp id fun ⟨g, h1, h2⟩ => ⟨g, h1, Nat.le_trans hB3.size h2⟩⟩
end
end Go.Proofs.YtflkhkmejnpapaaGreatDoor
