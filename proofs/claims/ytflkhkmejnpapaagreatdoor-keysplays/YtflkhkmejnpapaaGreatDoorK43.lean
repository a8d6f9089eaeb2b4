/- Kr9 -/
import Derived.Test.YtflkhkmejnpapaaGreatDoorK40
import Derived.Test.YtflkhkmejnpapaaGreatDoorK31
import Derived.Test.YtflkhkmejnpapaaGreatDoorK42
namespace Go.Proofs.YtflkhkmejnpapaaGreatDoor
open Go.RowKit
set_option maxRecDepth 20000
set_option linter.unusedSimpArgs false
section
variable (base O : Nat) (own : Int) (seed : List Int) (v : Value) (L : List Ep) (w : World)
set_option maxHeartbeats 4000000 in
theorem rrUnw_range (f : Int) (E : Wp) (h8 : 8 ≤ f) :
    Calls Tryz.prog 34 #[.pointer (some ⟨O, 0, none⟩), .int .u8 f, .agg E.cells.toArray] w fun e w' => e = .returned (.int .i64 2) ∧ Below w.heap.size w w' := by
 have hB : Below w.heap.size w (w.alloc (.cells E.cells.toArray 36)) := (Below.refl _ _).alloc (Nat.le_refl _) _
 have h7 : f > 7 := by omega
 go_enter Tryz.func34, Tryz.ntmps34
 go_wp2
 go_ret
 exact ⟨rfl, hB⟩
set_option maxHeartbeats 4000000 in
theorem rrUnw_own (f : Int) (E : Wp) (hR : RRing w base O own seed v L) (h8 : f < 8) (ht : f = own ∨ E.too ≠ own) :
    Calls Tryz.prog 34 #[.pointer (some ⟨O, 0, none⟩), .int .u8 f, .agg E.cells.toArray] w fun e w' => e = .returned (.int .i64 12) ∧ Below w.heap.size w w' := by
 have hB : Below w.heap.size w (w.alloc (.cells E.cells.toArray 36)) := (Below.refl _ _).alloc (Nat.le_refl _) _
 have hw0 := CellsAt.new w 36 E.cells
 have h7 : ¬ f > 7 := by omega
 have HR := Veil.mk (fun W (hb : Below w.heap.size w W) => hR.far hb)
 clear hR
 go_enter Tryz.func34, Tryz.ntmps34
 go_upto_region 5 with fail
 refine forget (p := fun y => Code.wp _ _ _ _ y) (fun W => Below w.heap.size w W ∧ CellsAt W w.heap.size 36 E.cells) ⟨hB, hw0⟩ ?_
 clear hB hw0
 rintro W ⟨hB, hw0⟩
 have c0 : W.cell? ⟨O, 0, none⟩ = some (.int .u8 own) := (HR.out W hB).box.cell 0
 have cT := hw0.cell 0
 rw [wp_too] at cT
 obtain ⟨T, hT⟩ : ∃ q, E.too = q := ⟨_, rfl⟩
 rw [hT] at cT ht
 clear hT
 by_cases hfo : f = own
 · subst hfo
   go_quiet ((fail))
   have hBN := below_drewN hB nq
   go_wp2
   go_ret
   exact ⟨rfl, hBN⟩
 · have hto : ¬ T = own := by rcases ht with h | h; exact absurd h hfo; exact h
   have hfe : (f == own) = false := by simpa using hfo
   have hte : (T == own) = false := by simpa using hto
   go_quiet ((fail))
   have hBN := below_drewN hB nq
   go_wp2
   go_ret
   exact ⟨rfl, hBN⟩
set_option maxHeartbeats 4000000 in
theorem rrUnw_known (f : Int) (E : Wp) (hR : RRing w base O own seed v L) (h8 : f < 8) (hfo : ¬ f = own) (ht : E.too = own) (hm : (keyE L E.ea E.es).isSome = true) :
    Calls Tryz.prog 34 #[.pointer (some ⟨O, 0, none⟩), .int .u8 f, .agg E.cells.toArray] w fun e w' => e = .returned (.int .i64 5) ∧ Below w.heap.size w w' := by
 have hB : Below w.heap.size w (w.alloc (.cells E.cells.toArray 36)) := (Below.refl _ _).alloc (Nat.le_refl _) _
 have hw0 := CellsAt.new w 36 E.cells
 have h7 : ¬ f > 7 := by omega
 have HR := Veil.mk (fun W (hb : Below w.heap.size w W) => hR.far hb)
 have HOL : Veil (seed.length = 32) := ⟨hR.seed32⟩
 clear hR
 have hfe : (f == own) = false := by simpa using hfo
 go_enter Tryz.func34, Tryz.ntmps34
 go_upto_region 5 with fail
 refine forget (p := fun y => Code.wp _ _ _ _ y) (fun W => Below w.heap.size w W ∧ CellsAt W w.heap.size 36 E.cells) ⟨hB, hw0⟩ ?_
 clear hB hw0
 rintro W ⟨hB, hw0⟩
 have c0 : W.cell? ⟨O, 0, none⟩ = some (.int .u8 own) := (HR.out W hB).box.cell 0
 have cT := hw0.cell 0
 rw [wp_too, ht] at cT
 go_quiet ((fail))
 refine forget (p := fun y => Exit.then _ _ _ _ y) (fun V => Below w.heap.size w V ∧ CellsAt V w.heap.size 36 E.cells) ⟨below_drewN hB _, hw0.congr ((below_drewN (Below.refl (W.heap.size) W) nq).block _ hw0.lt)⟩ ?_
 clear hB hw0 c0 cT
 clear W
 rintro W ⟨hB, hw0⟩
 have hh := rrHas_any base O own seed v L W E.ea E.es (HR.out W hB)
 have rD := hw0.range 1 2
 rw [wp_dot] at rD
 rw [hm] at hh
 go_wp2_with (first
  | (refine wpList_ldv rfl 33 _ rfl _ _ rfl (dotC E.ea E.es) rD Tryz.underlying33 rfl sizeDotK ?_)
  | (go_at_call 24; refine hh.mono ?_; rintro e w2 ⟨rfl, hb2⟩))
 go_ret
 exact ⟨rfl, hB.trans (hb2.mono hB.size)⟩
set_option maxHeartbeats 4000000 in
theorem rrUnw_bad (f : Int) (E : Wp) (hR : RRing w base O own seed v L) (h8 : f < 8) (hfo : ¬ f = own) (ht : E.too = own) (hm : (keyE L E.ea E.es).isSome = false) (hd48 : E.data.length = 48) (hdB : ∀ x ∈ E.data, isB x) (htag : ¬ tagL (pairL seed f own) (wrapNL f own E.ea E.es) [] (E.data.take (48 - 16)) = E.data.drop (48 - 16)) :
    Calls Tryz.prog 34 #[.pointer (some ⟨O, 0, none⟩), .int .u8 f, .agg E.cells.toArray] w fun e w' => e = .returned (.int .i64 4) ∧ Below w.heap.size w w' := by
 have hB : Below w.heap.size w (w.alloc (.cells E.cells.toArray 36)) := (Below.refl _ _).alloc (Nat.le_refl _) _
 have hw0 := CellsAt.new w 36 E.cells
 have h7 : ¬ f > 7 := by omega
 have HR := Veil.mk (fun W (hb : Below w.heap.size w W) => hR.far hb)
 have HOL : Veil (seed.length = 32) := ⟨hR.seed32⟩
 clear hR
 have hfe : (f == own) = false := by simpa using hfo
 go_enter Tryz.func34, Tryz.ntmps34
 go_upto_region 5 with fail
 refine forget (p := fun y => Code.wp _ _ _ _ y) (fun W => Below w.heap.size w W ∧ CellsAt W w.heap.size 36 E.cells) ⟨hB, hw0⟩ ?_
 clear hB hw0
 rintro W ⟨hB, hw0⟩
 have c0 : W.cell? ⟨O, 0, none⟩ = some (.int .u8 own) := (HR.out W hB).box.cell 0
 have cT := hw0.cell 0
 rw [wp_too, ht] at cT
 go_quiet ((fail))
 refine forget (p := fun y => Exit.then _ _ _ _ y) (fun V => Below w.heap.size w V ∧ CellsAt V w.heap.size 36 E.cells) ⟨below_drewN hB _, hw0.congr ((below_drewN (Below.refl (W.heap.size) W) nq).block _ hw0.lt)⟩ ?_
 clear hB hw0 c0 cT
 clear W
 rintro W ⟨hB, hw0⟩
 have hh := rrHas_any base O own seed v L W E.ea E.es (HR.out W hB)
 have rD := hw0.range 1 2
 rw [wp_dot] at rD
 rw [hm] at hh
 go_upto_region 9 with (first
  | (refine wpList_ldv rfl 33 _ rfl _ _ rfl (dotC E.ea E.es) rD Tryz.underlying33 rfl sizeDotK ?_)
  | (go_at_call 24; refine hh.mono ?_; rintro e w2 ⟨rfl, hb2⟩))
 refine forget (p := fun y => Code.wp _ _ _ _ y) (fun V => Below w.heap.size w V ∧ CellsAt V w.heap.size 36 E.cells) ⟨hB.trans (hb2.mono hB.size), hw0.congr (hb2.block _ hw0.lt)⟩ ?_
 clear hB hw0 hh rD hb2
 clear w2
 rintro V ⟨hB, hw0⟩
 have uD : Tryz.prog.underlying 33 = _ := Tryz.underlying33
 have iD : (Tryz.prog.info? 33).map (·.size) = some (dotC E.ea E.es).length := sizeDotK
 have HT : ∀ W' : World, Below w.heap.size w W' → CellsAt W' w.heap.size 36 E.cells → (fun w' : World => w'.cell? ⟨O, 0, none⟩ = some (.int .u8 own) ∧ w'.rangeAt w.heap.size 1 (dotC E.ea E.es)) W' := fun W' h1 h2 => ⟨(HR.out W' h1).box.cell 0, h2.range 1 2⟩
 have hPl : (pairL seed f own).length = 32 := derL_length _ _
 have hNl : (wrapNL f own E.ea E.es).length = 12 := rfl
 have HPAIR : ∀ W, Below w.heap.size w W → Calls Tryz.prog 41 #[.pointer (some ⟨O, 0, none⟩), .int .u8 f, .int .u8 own] W fun e w' => e = .returned (.agg (row .u8 (pairL seed f own))) ∧ Below W.heap.size W w' := fun W h2 => refPair_any O own seed v W f own (HR.out W h2).box HOL.out
 have HNON : ∀ W, Calls Tryz.prog 42 #[.int .u8 f, .int .u8 own, .agg (dotC E.ea E.es).toArray] W fun e w' => e = .returned (.agg (row .u8 (wrapNL f own E.ea E.es))) ∧ Below W.heap.size W w' := fun W => rwnonce_any f own E.ea E.es W
 have HBY : ∀ W' : World, CellsAt W' w.heap.size 36 E.cells → Bytes W' (some ⟨w.heap.size, 3, none⟩) 48 48 E.data := fun W' h => by
  have hr := h.range 3 48
  rw [wp_data E hd48] at hr
  exact ⟨hd48.symm, by omega, by omega, (fun e => by cases e), .inr ⟨_, _, rfl, fun j hj => by
   have := hr j (.int .u8 (E.data[j]?.getD 0)) (by rw [List.getElem?_map, List.getElem?_eq_getElem (by omega)]; rfl)
   exact this⟩⟩
 have HOPEN : ∀ W', CellsAt W' w.heap.size 36 E.cells → Calls Tryz.prog 47 #[.agg (row .u8 (pairL seed f own)), .agg (row .u8 (wrapNL f own E.ea E.es)), .slice none 0 0, .slice (some ⟨w.heap.size, 3, none⟩) 48 48] W' fun e w' => e = .returned (.tuple #[.slice none 0 0, .int .i64 4]) ∧ Below W'.heap.size W' w' := fun W' h => refOpen_bad _ _ none 0 0 [] _ 48 48 E.data W' hPl hNl (bytes_nil W') (HBY W' h) (by omega) (by omega) (by omega) (fun v hv => by cases hv) hdB htag
 obtain ⟨PL, hPL⟩ : ∃ q, pairL seed f own = q := ⟨_, rfl⟩
 obtain ⟨NL, hNL⟩ : ∃ q, wrapNL f own E.ea E.es = q := ⟨_, rfl⟩
 rw [hPL] at HPAIR HOPEN
 rw [hNL] at HNON HOPEN
 clear hPl hNl
 obtain ⟨V0, hV0⟩ : ∃ q, V.drew = q := ⟨_, rfl⟩
 have hB0 : Below w.heap.size w V0 := by rw [← hV0]; exact hB.drew
 have hw1 : CellsAt V0 w.heap.size 36 E.cells := by rw [← hV0]; exact hw0
 refine wp_region_gateT (fun w' => w'.cell? ⟨O, 0, none⟩ = some (.int .u8 own) ∧ w'.rangeAt w.heap.size 1 (dotC E.ea E.es)) (fun _ => True) 17 (by kernel_rfl) ?_
 rw [hV0]
 clear hV0 hB hw0
 have hT := HT V0 hB0 hw1
 have hS : (fun _ : World => True) V0 := trivial
 refine ghA 0 _ hT hS ?_
 simp only [Act.put, gA, gS, gZ, sI, sZ, sS]
 refine ghA 1 _ hT hS ?_
 simp only [Act.put, gA, gS, gZ, sI, sZ, sS]
 refine ghA 2 _ hT hS ?_
 simp only [Act.put, gA, gS, gZ, sI, sZ, sS]
 refine ghA 3 _ hT hS ?_
 simp only [Act.put, gA, gS, gZ, sI, sZ, sS]
 refine ghA 4 _ hT hS ?_
 simp only [Act.put, gA, gS, gZ, sI, sZ, sS]
 refine ghA 5 _ hT hS ?_
 simp only [Act.put, gA, gS, gZ, sI, sZ, sS]
 refine ghA 7 _ hT hS ?_
 simp only [Act.put, gA, gS, gZ, sI, sZ, sS]
 refine ghA 8 _ hT hS ?_
 simp only [Act.put, gA, gS, gZ, sI, sZ, sS]
 refine ghA 9 _ hT hS ?_
 simp only [Act.put, gA, gS, gZ, sI, sZ, sS]
 refine ghA 10 _ hT hS ?_
 simp only [Act.put, gA, gS, gZ, sI, sZ, sS]
 refine ghA 11 _ hT hS ?_
 simp only [Act.put, gA, gS, gZ, sI, sZ, sS]
 refine ghA 12 _ hT hS ?_
 simp only [Act.put, gA, gS, gZ, sI, sZ, sS]
 refine gl 13 52 33 51 w.heap.size 1 (dotC E.ea E.es) (by kernel_rfl) (by kernel_rfl) (by kernel_rfl) (fun _ _ _ h => h) hT hS (by kernel_rfl) (fun _ h => h.2) uD rfl iD ?_
 simp only [Act.put, gA, gS, gZ, sI, sZ, sS]
 refine ghA 15 _ hT hS ?_
 simp only [Act.put, gA, gS, gZ, sI, sZ, sS]
 refine ghA 16 _ hT hS ?_
 simp only [Act.put, gA, gS, gZ, sI, sZ, sS]
 refine wpAnyT_one (i := 6) rfl (by kernel_rfl) (by kernel_rfl) (fun K hK => ?_)
 refine wpx_call _ _ (by kernel_rfl) ((HPAIR V0 hB0).mono ?_)
 rintro e V1 ⟨rfl, hb1⟩
 refine ⟨_, rfl, ?_⟩
 have hB1 := hB0.trans (hb1.mono hB0.size)
 have hw2 := hw1.congr (hb1.block _ hw1.lt)
 replace hT := HT V1 hB1 hw2
 clear hw1 hb1 hB0
 refine hK.out _ _ hT (fun _ => hS) ?_
 clear hK K
 try simp only [Act.put, gA, gS, gZ, sI, sZ, sS]
 refine wpAnyT_one (i := 14) rfl (by kernel_rfl) (by kernel_rfl) (fun K hK => ?_)
 refine wpx_call _ _ (by kernel_rfl) ((HNON V1).mono ?_)
 rintro e V2 ⟨rfl, hb1⟩
 refine ⟨_, rfl, ?_⟩
 have hB2 := hB1.trans (hb1.mono hB1.size)
 have hw1 := hw2.congr (hb1.block _ hw2.lt)
 replace hT := HT V2 hB2 hw1
 clear hw2 hb1 hB1
 refine hK.out _ _ hT (fun _ => hS) ?_
 clear hK K
 try simp only [Act.put, gA, gS, gZ, sI, sZ, sS]
 refine wpAnyT_one (i := 17) rfl (by kernel_rfl) (by kernel_rfl) (fun K hK => ?_)
 refine wpx_call _ _ (by kernel_rfl) ((HOPEN V2 hw1).mono ?_)
 rintro e V3 ⟨rfl, hb1⟩
 refine ⟨_, rfl, ?_⟩
 have hB3 := hB2.trans (hb1.mono hB2.size)
 have hw2 := hw1.congr (hb1.block _ hw1.lt)
 replace hT := HT V3 hB3 hw2
 clear hw1 hb1 hB2 HOPEN HNON HPAIR HBY
 refine hK.out _ _ hT (fun h => absurd (show true = false from h) (by decide)) ?_
 clear hK K
 try simp only [Act.put, gA, gS, gZ, sI, sZ, sS]
 refine wpAnyT_held (i := 18) (v := ?_) rfl (by kernel_rfl) (by kernel_rfl) (by kernel_rfl) (fun _ _ _ h => h) (by kernel_rfl) hT (fun h => absurd (show true = false from h) (by decide)) (by kernel_rfl) ?_ ?_
 rotate_left
 · intro wx hSw; go_split_ands; go_simp; try with_reducible rfl
 simp only [Act.put, gA, gS, gZ, sI, sZ, sS]
 refine wpAnyT_held (i := 19) (v := ?_) rfl (by kernel_rfl) (by kernel_rfl) (by kernel_rfl) (fun _ _ _ h => h) (by kernel_rfl) hT (fun h => absurd (show true = false from h) (by decide)) (by kernel_rfl) ?_ ?_
 rotate_left
 · intro wx hSw; go_split_ands; go_simp; try with_reducible rfl
 simp only [Act.put, gA, gS, gZ, sI, sZ, sS]
 refine wpAnyT_held (i := 20) (v := ?_) rfl (by kernel_rfl) (by kernel_rfl) (by kernel_rfl) (fun _ _ _ h => h) (by kernel_rfl) hT (fun h => absurd (show true = false from h) (by decide)) (by kernel_rfl) ?_ ?_
 rotate_left
 · intro wx hSw; go_split_ands; go_simp; try with_reducible rfl
 simp only [Act.put, gA, gS, gZ, sI, sZ, sS]
 refine wpAnyT_held (i := 21) (v := ?_) rfl (by kernel_rfl) (by kernel_rfl) (by kernel_rfl) (fun _ _ _ h => h) (by kernel_rfl) hT (fun h => absurd (show true = false from h) (by decide)) (by kernel_rfl) ?_ ?_
 rotate_left
 · intro wx hSw; go_split_ands; go_simp; try with_reducible rfl
 simp only [Act.put, gA, gS, gZ, sI, sZ, sS]
 refine wpAnyT_held (i := 22) (v := ?_) rfl (by kernel_rfl) (by kernel_rfl) (by kernel_rfl) (fun _ _ _ h => h) (by kernel_rfl) hT (fun h => absurd (show true = false from h) (by decide)) (by kernel_rfl) ?_ ?_
 rotate_left
 · intro wx hSw; go_split_ands; go_simp; try with_reducible rfl
 simp only [Act.put, gA, gS, gZ, sI, sZ, sS]
 refine wpAnyT_done (by kernel_rfl) ?_ _
 go_wp2
 go_ret
 exact ⟨rfl, hB3⟩
set_option maxHeartbeats 8000000 in
theorem rrUnw_ok (f : Int) (E : Wp) (hR : RRing w base O own seed v L) (h8 : f < 8) (hfo : ¬ f = own) (ht : E.too = own) (hm : (keyE L E.ea E.es).isSome = false) (hd48 : E.data.length = 48) (hdB : ∀ x ∈ E.data, isB x) (hbase : base ≤ w.heap.size) (htag : tagL (pairL seed f own) (wrapNL f own E.ea E.es) [] (E.data.take (48 - 16)) = E.data.drop (48 - 16)) :
    Calls Tryz.prog 34 #[.pointer (some ⟨O, 0, none⟩), .int .u8 f, .agg E.cells.toArray] w fun e w' => ∃ v', e = .returned (.int .i64 (addN L E.ea E.es)) ∧ RRTo w w' base O own seed v v' (addE L E.ea E.es (xorL (pairL seed f own) (wrapNL f own E.ea E.es) 1 (E.data.take (48 - 16)))) := by
 have HADD : Veil (∀ W K, K.length = 32 → Below w.heap.size w W → Calls Tryz.prog 33 #[.pointer (some ⟨O, 0, none⟩), .agg (dotC E.ea E.es).toArray, .agg (row .u8 K)] W fun e w' => ∃ v', e = .returned (.int .i64 (addN L E.ea E.es)) ∧ RRTo W w' base O own seed v v' (addE L E.ea E.es K)) := ⟨fun W K hK hb => rrAddN_any base O own seed v L W E.ea E.es K hK (hR.far hb) (Nat.le_trans hbase hb.size)⟩
 have hB : Below w.heap.size w (w.alloc (.cells E.cells.toArray 36)) := (Below.refl _ _).alloc (Nat.le_refl _) _
 have hw0 := CellsAt.new w 36 E.cells
 have h7 : ¬ f > 7 := by omega
 have HR := Veil.mk (fun W (hb : Below w.heap.size w W) => hR.far hb)
 have HOL : Veil (seed.length = 32) := ⟨hR.seed32⟩
 clear hR
 have hfe : (f == own) = false := by simpa using hfo
 go_enter Tryz.func34, Tryz.ntmps34
 go_upto_region 5 with fail
 refine forget (p := fun y => Code.wp _ _ _ _ y) (fun W => Below w.heap.size w W ∧ CellsAt W w.heap.size 36 E.cells) ⟨hB, hw0⟩ ?_
 clear hB hw0
 rintro W ⟨hB, hw0⟩
 have c0 : W.cell? ⟨O, 0, none⟩ = some (.int .u8 own) := (HR.out W hB).box.cell 0
 have cT := hw0.cell 0
 rw [wp_too, ht] at cT
 go_quiet ((fail))
 refine forget (p := fun y => Exit.then _ _ _ _ y) (fun V => Below w.heap.size w V ∧ CellsAt V w.heap.size 36 E.cells) ⟨below_drewN hB _, hw0.congr ((below_drewN (Below.refl (W.heap.size) W) nq).block _ hw0.lt)⟩ ?_
 clear hB hw0 c0 cT
 clear W
 rintro W ⟨hB, hw0⟩
 have hh := rrHas_any base O own seed v L W E.ea E.es (HR.out W hB)
 have rD := hw0.range 1 2
 rw [wp_dot] at rD
 rw [hm] at hh
 go_upto_region 9 with (first
  | (refine wpList_ldv rfl 33 _ rfl _ _ rfl (dotC E.ea E.es) rD Tryz.underlying33 rfl sizeDotK ?_)
  | (go_at_call 24; refine hh.mono ?_; rintro e w2 ⟨rfl, hb2⟩))
 refine forget (p := fun y => Code.wp _ _ _ _ y) (fun V => Below w.heap.size w V ∧ CellsAt V w.heap.size 36 E.cells) ⟨hB.trans (hb2.mono hB.size), hw0.congr (hb2.block _ hw0.lt)⟩ ?_
 clear hB hw0 hh rD hb2
 clear w2
 rintro V ⟨hB, hw0⟩
 have uD : Tryz.prog.underlying 33 = _ := Tryz.underlying33
 have iD : (Tryz.prog.info? 33).map (·.size) = some (dotC E.ea E.es).length := sizeDotK
 have HT : ∀ W' : World, Below w.heap.size w W' → CellsAt W' w.heap.size 36 E.cells → (fun w' : World => w'.cell? ⟨O, 0, none⟩ = some (.int .u8 own) ∧ w'.rangeAt w.heap.size 1 (dotC E.ea E.es)) W' := fun W' h1 h2 => ⟨(HR.out W' h1).box.cell 0, h2.range 1 2⟩
 have hPl : (pairL seed f own).length = 32 := derL_length _ _
 have hNl : (wrapNL f own E.ea E.es).length = 12 := rfl
 have HPAIR : ∀ W, Below w.heap.size w W → Calls Tryz.prog 41 #[.pointer (some ⟨O, 0, none⟩), .int .u8 f, .int .u8 own] W fun e w' => e = .returned (.agg (row .u8 (pairL seed f own))) ∧ Below W.heap.size W w' := fun W h2 => refPair_any O own seed v W f own (HR.out W h2).box HOL.out
 have HNON : ∀ W, Calls Tryz.prog 42 #[.int .u8 f, .int .u8 own, .agg (dotC E.ea E.es).toArray] W fun e w' => e = .returned (.agg (row .u8 (wrapNL f own E.ea E.es))) ∧ Below W.heap.size W w' := fun W => rwnonce_any f own E.ea E.es W
 have HBY : ∀ W' : World, CellsAt W' w.heap.size 36 E.cells → Bytes W' (some ⟨w.heap.size, 3, none⟩) 48 48 E.data := fun W' h => by
  have hr := h.range 3 48
  rw [wp_data E hd48] at hr
  exact ⟨hd48.symm, by omega, by omega, (fun e => by cases e), .inr ⟨_, _, rfl, fun j hj => by
   have := hr j (.int .u8 (E.data[j]?.getD 0)) (by rw [List.getElem?_map, List.getElem?_eq_getElem (by omega)]; rfl)
   exact this⟩⟩
 have HOPEN : ∀ W', CellsAt W' w.heap.size 36 E.cells → Calls Tryz.prog 47 #[.agg (row .u8 (pairL seed f own)), .agg (row .u8 (wrapNL f own E.ea E.es)), .slice none 0 0, .slice (some ⟨w.heap.size, 3, none⟩) 48 48] W' fun e w' => ∃ v, e = .returned (.tuple #[v, .int .i64 0]) ∧ OwnB w' W'.heap.size v (xorL (pairL seed f own) (wrapNL f own E.ea E.es) 1 (E.data.take (48 - 16))) ∧ Below W'.heap.size W' w' := fun W' h => refOpen_ok _ _ none 0 0 [] _ 48 48 E.data W' hPl hNl (bytes_nil W') (HBY W' h) (by omega) (by omega) (by omega) (fun v hv => by cases hv) hdB htag
 have hSl : (xorL (pairL seed f own) (wrapNL f own E.ea E.es) 1 (E.data.take (48 - 16))).length = 32 := by rw [xorL_length, List.length_take, hd48]; rfl
 obtain ⟨SE, hSE⟩ : ∃ q, xorL (pairL seed f own) (wrapNL f own E.ea E.es) 1 (E.data.take (48 - 16)) = q := ⟨_, rfl⟩
 rw [hSE] at HOPEN hSl
 have HX := Veil.mk hSE
 clear hSE
 obtain ⟨PL, hPL⟩ : ∃ q, pairL seed f own = q := ⟨_, rfl⟩
 obtain ⟨NL, hNL⟩ : ∃ q, wrapNL f own E.ea E.es = q := ⟨_, rfl⟩
 rw [hPL] at HPAIR HOPEN
 rw [hNL] at HNON HOPEN
 clear hPl hNl
 obtain ⟨V0, hV0⟩ : ∃ q, V.drew = q := ⟨_, rfl⟩
 have hB0 : Below w.heap.size w V0 := by rw [← hV0]; exact hB.drew
 have hw1 : CellsAt V0 w.heap.size 36 E.cells := by rw [← hV0]; exact hw0
 refine wp_region_gateT (fun w' => w'.cell? ⟨O, 0, none⟩ = some (.int .u8 own) ∧ w'.rangeAt w.heap.size 1 (dotC E.ea E.es)) (fun _ => True) 17 (by kernel_rfl) ?_
 rw [hV0]
 clear hV0 hB hw0
 have hT := HT V0 hB0 hw1
 have hS : (fun _ : World => True) V0 := trivial
 refine ghA 0 _ hT hS ?_
 simp only [Act.put, gA, gS, gZ, sI, sZ, sS]
 refine ghA 1 _ hT hS ?_
 simp only [Act.put, gA, gS, gZ, sI, sZ, sS]
 refine ghA 2 _ hT hS ?_
 simp only [Act.put, gA, gS, gZ, sI, sZ, sS]
 refine ghA 3 _ hT hS ?_
 simp only [Act.put, gA, gS, gZ, sI, sZ, sS]
 refine ghA 4 _ hT hS ?_
 simp only [Act.put, gA, gS, gZ, sI, sZ, sS]
 refine ghA 5 _ hT hS ?_
 simp only [Act.put, gA, gS, gZ, sI, sZ, sS]
 refine ghA 7 _ hT hS ?_
 simp only [Act.put, gA, gS, gZ, sI, sZ, sS]
 refine ghA 8 _ hT hS ?_
 simp only [Act.put, gA, gS, gZ, sI, sZ, sS]
 refine ghA 9 _ hT hS ?_
 simp only [Act.put, gA, gS, gZ, sI, sZ, sS]
 refine ghA 10 _ hT hS ?_
 simp only [Act.put, gA, gS, gZ, sI, sZ, sS]
 refine ghA 11 _ hT hS ?_
 simp only [Act.put, gA, gS, gZ, sI, sZ, sS]
 refine ghA 12 _ hT hS ?_
 simp only [Act.put, gA, gS, gZ, sI, sZ, sS]
 refine gl 13 52 33 51 w.heap.size 1 (dotC E.ea E.es) (by kernel_rfl) (by kernel_rfl) (by kernel_rfl) (fun _ _ _ h => h) hT hS (by kernel_rfl) (fun _ h => h.2) uD rfl iD ?_
 simp only [Act.put, gA, gS, gZ, sI, sZ, sS]
 refine ghA 15 _ hT hS ?_
 simp only [Act.put, gA, gS, gZ, sI, sZ, sS]
 refine ghA 16 _ hT hS ?_
 simp only [Act.put, gA, gS, gZ, sI, sZ, sS]
 refine wpAnyT_one (i := 6) rfl (by kernel_rfl) (by kernel_rfl) (fun K hK => ?_)
 refine wpx_call _ _ (by kernel_rfl) ((HPAIR V0 hB0).mono ?_)
 rintro e V1 ⟨rfl, hb1⟩
 refine ⟨_, rfl, ?_⟩
 have hB1 := hB0.trans (hb1.mono hB0.size)
 have hw2 := hw1.congr (hb1.block _ hw1.lt)
 replace hT := HT V1 hB1 hw2
 clear hw1 hb1 hB0
 refine hK.out _ _ hT (fun _ => hS) ?_
 clear hK K
 try simp only [Act.put, gA, gS, gZ, sI, sZ, sS]
 refine wpAnyT_one (i := 14) rfl (by kernel_rfl) (by kernel_rfl) (fun K hK => ?_)
 refine wpx_call _ _ (by kernel_rfl) ((HNON V1).mono ?_)
 rintro e V2 ⟨rfl, hb1⟩
 refine ⟨_, rfl, ?_⟩
 have hB2 := hB1.trans (hb1.mono hB1.size)
 have hw1 := hw2.congr (hb1.block _ hw2.lt)
 replace hT := HT V2 hB2 hw1
 clear hw2 hb1 hB1
 refine hK.out _ _ hT (fun _ => hS) ?_
 clear hK K
 try simp only [Act.put, gA, gS, gZ, sI, sZ, sS]
 refine wpAnyT_one (i := 17) rfl (by kernel_rfl) (by kernel_rfl) (fun K hK => ?_)
 refine wpx_call _ _ (by kernel_rfl) ((HOPEN V2 hw1).mono ?_)
 rintro e V3 ⟨vs, rfl, hos, hb1⟩
 refine ⟨_, rfl, ?_⟩
 have hB3 := hB2.trans (hb1.mono hB2.size)
 have hw2 := hw1.congr (hb1.block _ hw1.lt)
 have hwl := hw1.lt
 obtain ⟨gs, cs, rfl, hgs⟩ := hos.slice (by omega)
 have hrg := hos.bytes.2.rangeK
 rw [hSl]
 replace hT := HT V3 hB3 hw2
 clear hw1 hb1 HOPEN HNON HPAIR HBY
 refine hK.out _ _ hT (fun h => absurd (show true = false from h) (by decide)) ?_
 clear hK K
 try simp only [Act.put, gA, gS, gZ, sI, sZ, sS]
 refine wpAnyT_held (i := 18) (v := ?_) rfl (by kernel_rfl) (by kernel_rfl) (by kernel_rfl) (fun _ _ _ h => h) (by kernel_rfl) hT (fun h => absurd (show true = false from h) (by decide)) (by kernel_rfl) ?_ ?_
 rotate_left
 · intro wx hSw; go_split_ands; go_simp; try with_reducible rfl
 simp only [Act.put, gA, gS, gZ, sI, sZ, sS]
 refine wpAnyT_held (i := 19) (v := ?_) rfl (by kernel_rfl) (by kernel_rfl) (by kernel_rfl) (fun _ _ _ h => h) (by kernel_rfl) hT (fun h => absurd (show true = false from h) (by decide)) (by kernel_rfl) ?_ ?_
 rotate_left
 · intro wx hSw; go_split_ands; go_simp; try with_reducible rfl
 simp only [Act.put, gA, gS, gZ, sI, sZ, sS]
 refine wpAnyT_held (i := 20) (v := ?_) rfl (by kernel_rfl) (by kernel_rfl) (by kernel_rfl) (fun _ _ _ h => h) (by kernel_rfl) hT (fun h => absurd (show true = false from h) (by decide)) (by kernel_rfl) ?_ ?_
 rotate_left
 · intro wx hSw; go_split_ands; go_simp; try with_reducible rfl
 simp only [Act.put, gA, gS, gZ, sI, sZ, sS]
 refine wpAnyT_held (i := 21) (v := ?_) rfl (by kernel_rfl) (by kernel_rfl) (by kernel_rfl) (fun _ _ _ h => h) (by kernel_rfl) hT (fun h => absurd (show true = false from h) (by decide)) (by kernel_rfl) ?_ ?_
 rotate_left
 · intro wx hSw; go_split_ands; go_simp; try with_reducible rfl
 simp only [Act.put, gA, gS, gZ, sI, sZ, sS]
 refine wpAnyT_held (i := 22) (v := ?_) rfl (by kernel_rfl) (by kernel_rfl) (by kernel_rfl) (fun _ _ _ h => h) (by kernel_rfl) hT (fun h => absurd (show true = false from h) (by decide)) (by kernel_rfl) ?_ ?_
 rotate_left
 · intro wx hSw; go_split_ands; go_simp; try with_reducible rfl
 simp only [Act.put, gA, gS, gZ, sI, sZ, sS]
 refine wpAnyT_done (by kernel_rfl) ?_ _
 have HSL := Veil.mk hSl
 have HWS : Veil (w.heap.size ≤ V3.heap.size ∧ w.heap.size < V2.heap.size ∧ V2.heap.size ≤ gs ∧ gs < V3.heap.size) := ⟨hB3.size, hwl, by omega, by
  have h0 := hrg 0 (.int .u8 (SE[0]?.getD 0)) (by rw [List.getElem?_map, List.getElem?_eq_getElem (by omega)]; rfl)
  have := block_lt_of_cell h0
  simpa using this⟩
 clear hT hS HT hB2 hwl hgs hSl htag hdB
 go_upto_region 13 with fail
 have hbn : Below V3.heap.size V3 (V3.alloc (.cells (row .u8 (List.replicate 32 0)) 23)) := (Below.refl _ _).alloc (Nat.le_refl _) _
 have hgn := Holds.new V3 .u8 23 (List.replicate 32 0)
 have hrg2 : (V3.alloc (.cells (row .u8 (List.replicate 32 0)) 23)).rangeAt gs 0 (SE.map (Value.int .u8)) := fun j u hu => by
  rw [World.cell?_of_block (w := V3) (hbn.block gs HWS.out.2.2.2)]; exact hrg j u hu
 refine forget (p := fun y => Code.wp _ _ _ _ y) (fun V' => Below w.heap.size w V' ∧ CellsAt V' w.heap.size 36 E.cells ∧ Holds V' V3.heap.size .u8 23 (List.replicate 32 0) ∧ V'.rangeAt gs 0 (SE.map (Value.int .u8))) ⟨hB3.trans (hbn.mono hB3.size), hw2.congr (hbn.block _ hw2.lt), hgn, hrg2⟩ ?_
 have hsz : w.heap.size < V3.heap.size := hw2.lt
 have hgw : gs ≠ V3.heap.size := by have := HWS.out.2.2.2; omega
 clear HWS
 obtain ⟨GW, hGW⟩ : ∃ q, V3.heap.size = q := ⟨_, rfl⟩
 rw [hGW] at hsz hgw ⊢
 clear hGW hB3 hw2 hrg hrg2 hgn hbn
 rintro V' ⟨hB, hw, hg, hb⟩
 go_wp2_with fail
 go_loopw [10] (fun iv wr => ∃ i : Nat, i ≤ 32 ∧ iv = .int .i64 i ∧ Below w.heap.size w wr ∧ CellsAt wr w.heap.size 36 E.cells ∧ Holds wr GW .u8 23 (SE.take i ++ List.replicate (32 - i) 0) ∧ wr.rangeAt gs 0 (SE.map (Value.int .u8))) (fun iv _ => 32 - (intOf iv).toNat)
 case atStart => exact ⟨0, by omega, rfl, hB, hw, by rw [List.take_zero, List.nil_append]; exact hg, hb⟩
 case round =>
  clear hB hw hg hb
  obtain ⟨i, hi, rfl, hB, hw, hg, hb⟩ := hrel
  by_cases hlt : i < 32
  · have hc1 : wr.cell? ⟨gs, i, none⟩ = some (.int .u8 (SE[i]?.getD 0)) := by
     have hl := HSL.out
     have := hb i (.int .u8 (SE[i]?.getD 0)) (by rw [List.getElem?_map, List.getElem?_eq_getElem (by omega)]; rfl)
     rw [Nat.zero_add] at this
     exact this
    have hgl : (SE.take i ++ List.replicate (32 - i) 0).length = 32 := by rw [List.length_append, List.length_take, List.length_replicate, HSL.out]; omega
    have hc2 := hg.cell i (by omega)
    have hf2 := hg.frozen i
    have hi0 : (0 : Int) ≤ (i : Int) := by omega
    have hi1 : (i : Int) < 32 := by omega
    have HST : Veil ((SE.take i ++ List.replicate (32 - i) 0).set i (SE[i]?.getD 0) = SE.take (i + 1) ++ List.replicate (32 - (i + 1)) 0) := ⟨by
     have hl := HSL.out
     rw [take_next SE i (by omega), show 32 - i = (32 - (i + 1)) + 1 by omega]
     have := set_next (SE.take i) (32 - (i + 1)) (SE[i]?.getD 0)
     rw [List.length_take, show min i SE.length = i by omega] at this
     exact this⟩
    obtain ⟨q, hq⟩ : ∃ q, SE[i]?.getD 0 = q := ⟨_, rfl⟩
    rw [hq] at hc1 HST
    have hs1 := hg.set i q
    rw [HST.out] at hs1
    have hw1 := hw.congr (w' := wr.setCell ⟨GW, i, none⟩ (.int .u8 q)) (Below.heap_setCell wr _ _ _ (by show w.heap.size ≠ GW; omega))
    have hb1 : (wr.setCell ⟨GW, i, none⟩ (.int .u8 q)).rangeAt gs 0 (SE.map (Value.int .u8)) := fun j u hu => by
     rw [World.cell?_of_block (w := wr) (Below.heap_setCell wr _ _ _ hgw)]; exact hb j u hu
    have hB1 := hB.setCell (p := ⟨GW, i, none⟩) (by show w.heap.size ≤ GW; omega) (.int .u8 q)
    clear hq hb HST hw
    go_wp2
    go_roundw
    case rel => exact ⟨i + 1, by omega, by go_num, hB1, hw1, hs1, hb1⟩
    case measure => simp [intOf]; omega
  · obtain rfl : i = 32 := by omega
    have hl := HSL.out
    rw [show SE.take 32 ++ List.replicate (32 - 32) 0 = SE by rw [List.take_of_length_le (by omega)]; simp] at hg
    have rD := hw.range 1 2
    rw [wp_dot] at rD
    have ha := HADD.out wr SE hl hB
    clear hb
    go_wp2_with (first
     | (refine wpList_ldv rfl 33 _ rfl _ _ rfl (dotC E.ea E.es) rD uD rfl iD ?_)
     | (refine wpList_ld rfl 23 _ rfl _ rfl hg Tryz.underlying23 sizeKeyD hl ?_)
     | (go_at_call 33; refine ha.mono ?_; rintro e w5 ⟨v5, rfl, hR5⟩))
    go_ret
    refine ⟨v5, rfl, ?_⟩
    rw [HX.out]
    exact ⟨hR5.at_, (Turn.of_below hB).trans hR5.turn, hR5.own.imp (fun h => h) (fun ⟨g, h1, h2⟩ => ⟨g, h1, Nat.le_trans hB.size h2⟩)⟩
end
end Go.Proofs.YtflkhkmejnpapaaGreatDoor
