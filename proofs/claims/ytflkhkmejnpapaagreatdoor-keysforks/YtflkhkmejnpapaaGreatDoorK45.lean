/- Kb3 Kb4 Kb6 -/
import Derived.Test.YtflkhkmejnpapaaGreatDoorK44
import Derived.Test.YtflkhkmejnpapaaGreatDoorK32
import Derived.Test.YtflkhkmejnpapaaGreatDoorK30
import Derived.Test.YtflkhkmejnpapaaGreatDoorK43
import Derived.Test.YtflkhkmejnpapaaGreatDoorK26
namespace Go.Proofs.YtflkhkmejnpapaaGreatDoor
open Go.RowKit
set_option maxRecDepth 20000
set_option linter.unusedSimpArgs false
theorem deed_dot (d : Deed) : (d.cells.drop 1).take 2 = dotC d.ea d.es := rfl
theorem deed_key (d : Deed) (hk : d.k.length = 32) : (d.cells.drop 3).take 32 = d.k.map (Value.int .u8) := by
 show ((d.k.map (Value.int .u8) ++ [Value.int .u8 d.from_]) ++ d.w.cells).take 32 = _
 rw [List.append_assoc, List.take_append_of_le_length (by simp [hk]), List.take_of_length_le (by simp [hk])]
theorem deed_from (d : Deed) (hk : d.k.length = 32) : d.cells[35]? = some (.int .u8 d.from_) := by
 show ((d.k.map (Value.int .u8) ++ [Value.int .u8 d.from_]) ++ d.w.cells)[32]? = _
 rw [List.append_assoc, List.getElem?_append_right (by simp [hk])]
 simp [hk]
theorem deed_wrap (d : Deed) (hk : d.k.length = 32) (hw : d.w.data.length = 48) : (d.cells.drop 36).take 51 = d.w.cells := by
 show (((d.k.map (Value.int .u8) ++ [Value.int .u8 d.from_]) ++ d.w.cells).drop 33).take 51 = _
 rw [List.drop_left' (by simp [hk]), List.take_of_length_le (by rw [wp_cells_length _ hw]; omega)]
section
variable (base H O : Nat) (own : Int) (seed : List Int) (b : Nat) (M : Int → Int → Option (List Int)) (v : Value) (D : List (Int × Int)) (u : Value) (L : List Ep) (w : World)
set_option maxHeartbeats 4000000 in
theorem do0_any (d : Deed) (hd : d.Ok) (hk0 : d.kind = 0) (h : BothR w base H O own seed b M v D u L) (hbase : base ≤ w.heap.size) :
    Calls Tryz.prog 12 #[.pointer (some ⟨H, 0, none⟩), .pointer (some ⟨O, 0, none⟩), .agg (row .u8 seed), .agg d.cells.toArray] w fun e w' => e = .returned (.bool true) ∧ (∃ M' v' D' u' L', BothR w' base H O own seed b M' v' D' u' L') ∧ Below base w w' := by
 have hB : Below w.heap.size w ((w.alloc (.cells (row .u8 seed) 23)).alloc (.cells d.cells.toArray 38)) := ((Below.refl _ _).alloc (Nat.le_refl _) _).alloc (by simp) _
 have hd0 := CellsAt.new (w.alloc (.cells (row .u8 seed) 23)) 38 d.cells
 rw [World.size_alloc] at hd0
 have HH := Veil.mk h
 have HD := Veil.mk hd
 have uD := Tryz.underlying33
 have uK := Tryz.underlying23
 have iD : (Tryz.prog.info? 33).map (·.size) = some (dotC d.ea d.es).length := sizeDot
 have iK : (Tryz.prog.info? 23).map (·.size) = some (d.k.map (Value.int .u8)).length := by rw [List.length_map, hd.k32]; exact sizeKeyD
 have HIN : Veil ((∀ g, ringP H b v g → g < w.heap.size) ∧ ∀ g, rrB O u g → g < w.heap.size) := ⟨fun g hg => (h.ring.inside g hg).1, fun g hg => (h.ref.inside g hg).1⟩
 clear h hd
 go_enter Tryz.func12, Tryz.ntmps12
 go_upto_region 1 with fail
 refine forget (p := fun y => Code.wp _ _ _ _ y) (fun W => Below w.heap.size w W ∧ CellsAt W (w.heap.size + 1) 38 d.cells) ⟨hB, hd0⟩ ?_
 clear hB hd0
 rintro W ⟨hB, hd0⟩
 have cK : W.cell? ⟨w.heap.size + 1, 0, none⟩ = some (.int .i64 d.kind) := hd0.cell 0
 rw [hk0] at cK
 go_upto_region 3 with fail
 clear cK
 have HT : ∀ W' : World, CellsAt W' (w.heap.size + 1) 38 d.cells → (fun w' : World => w'.rangeAt (w.heap.size + 1) 1 (dotC d.ea d.es) ∧ w'.rangeAt (w.heap.size + 1) 3 (d.k.map (Value.int .u8))) W' := fun W' h2 => ⟨by have := h2.range 1 2; rw [deed_dot] at this; exact this, by have := h2.range 3 32; rw [deed_key d HD.out.k32] at this; exact this⟩
 obtain ⟨V0, hV0⟩ : ∃ q, W.drew = q := ⟨_, rfl⟩
 have hB0 : Below w.heap.size w V0 := by rw [← hV0]; exact hB.drew
 have hw1 : CellsAt V0 (w.heap.size + 1) 38 d.cells := by rw [← hV0]; exact hd0
 refine wp_region_gateT (fun w' => w'.rangeAt (w.heap.size + 1) 1 (dotC d.ea d.es) ∧ w'.rangeAt (w.heap.size + 1) 3 (d.k.map (Value.int .u8))) (fun _ => True) 99 (by kernel_rfl) ?_
 rw [hV0]
 clear hV0 hB hd0
 have hT := HT V0 hw1
 have hS : (fun _ : World => True) V0 := trivial
 have hBR := HH.out.far hB0
 have HBR := Veil.mk hBR
 have hadd := bAdd_any base H own seed b M v D L V0 d.ea d.es d.k HD.out.dot HD.out.k32 HD.out.kB hBR.ring hBR.link (Nat.le_trans hbase hB0.size)
 obtain ⟨AN, hAN⟩ : ∃ q, addN L d.ea d.es = q := ⟨_, rfl⟩
 rw [hAN] at hadd
 have HAN := Veil.mk hAN
 clear hAN hBR
 refine ghA 0 _ hT hS ?_
 simp only [Act.put, gA, gS, gZ, sI, sZ, sS]
 refine ghA 1 _ hT hS ?_
 simp only [Act.put, gA, gS, gZ, sI, sZ, sS]
 refine ghA 3 _ hT hS ?_
 simp only [Act.put, gA, gS, gZ, sI, sZ, sS]
 refine ghA 6 _ hT hS ?_
 simp only [Act.put, gA, gS, gZ, sI, sZ, sS]
 refine ghA 7 _ hT hS ?_
 simp only [Act.put, gA, gS, gZ, sI, sZ, sS]
 refine ghA 9 _ hT hS ?_
 simp only [Act.put, gA, gS, gZ, sI, sZ, sS]
 refine gl 2 18 33 17 (w.heap.size + 1) 1 (dotC d.ea d.es) (by kernel_rfl) (by kernel_rfl) (by kernel_rfl) (fun _ _ _ h => h) hT hS (by kernel_rfl) (fun _ h => h.1) uD rfl iD ?_
 simp only [Act.put, gA, gS, gZ, sI, sZ, sS]
 refine gl 4 20 23 19 (w.heap.size + 1) 3 ((d.k.map (Value.int .u8))) (by kernel_rfl) (by kernel_rfl) (by kernel_rfl) (fun _ _ _ h => h) hT hS (by kernel_rfl) (fun _ h => h.2) uK rfl iK ?_
 simp only [Act.put, gA, gS, gZ, sI, sZ, sS]
 refine gl 8 24 33 23 (w.heap.size + 1) 1 (dotC d.ea d.es) (by kernel_rfl) (by kernel_rfl) (by kernel_rfl) (fun _ _ _ h => h) hT hS (by kernel_rfl) (fun _ h => h.1) uD rfl iD ?_
 simp only [Act.put, gA, gS, gZ, sI, sZ, sS]
 refine gl 10 26 23 25 (w.heap.size + 1) 3 ((d.k.map (Value.int .u8))) (by kernel_rfl) (by kernel_rfl) (by kernel_rfl) (fun _ _ _ h => h) hT hS (by kernel_rfl) (fun _ h => h.2) uK rfl iK ?_
 simp only [Act.put, gA, gS, gZ, sI, sZ, sS]
 refine wpAnyT_one (i := 5) rfl (by kernel_rfl) (by kernel_rfl) (fun K hK => ?_)
 refine wpx_call _ _ (by kernel_rfl) (hadd.mono ?_)
 rintro e V1 ⟨rfl, M1, v1, D1, hr1, hl1, ht1, hv1⟩
 refine ⟨_, rfl, ?_⟩
 have href := HBR.out.refAfter ht1
 have hsz1 := ht1.size
 have hw2 : CellsAt V1 (w.heap.size + 1) 38 d.cells := hw1.congr (ht1.block _ hw1.lt (fun q => by have := HIN.out.1 _ q; omega))
 have hra := rrAddN_any base O own seed u L V1 d.ea d.es d.k HD.out.k32 href (Nat.le_trans hbase (Nat.le_trans hB0.size hsz1))
 rw [HAN.out] at hra
 have HR1 : Veil (RTo base H own seed b v V0 V1 (addE L d.ea d.es d.k)) := ⟨M1, v1, D1, hr1, hl1, ht1, hv1⟩
 replace hT := HT V1 hw2
 clear hadd hr1 hl1 ht1 hv1 href hw1
 refine hK.out _ _ hT (fun _ => hS) ?_
 clear hK K
 try simp only [Act.put, gA, gS, gZ, sI, sZ, sS]
 refine wpAnyT_one (i := 11) rfl (by kernel_rfl) (by kernel_rfl) (fun K hK => ?_)
 refine wpx_call _ _ (by kernel_rfl) (hra.mono ?_)
 rintro e V2 ⟨u2, rfl, hR2⟩
 refine ⟨_, rfl, ?_⟩
 have hw3 : CellsAt V2 (w.heap.size + 1) 38 d.cells := hw2.congr (hR2.turn.block _ hw2.lt (fun q => by have := HIN.out.2 _ q; omega))
 have HEND : Veil ((∃ M' v' D' u' L', BothR V2 base H O own seed b M' v' D' u' L') ∧ Below base w V2) := by
  obtain ⟨⟨M', v', D', hq⟩, hb⟩ := HBR.out.step (Nat.le_trans hbase hB0.size) HR1.out hR2
  exact ⟨⟨M', v', D', u2, _, hq⟩, (hB0.mono hbase).trans hb⟩
 replace hT := HT V2 hw3
 clear hra hw2 hR2 hw3 HR1 HBR
 refine hK.out _ _ hT (fun _ => hS) ?_
 clear hK K
 try simp only [Act.put, gA, gS, gZ, sI, sZ, sS]
 refine ghA 12 (.bool true) hT hS ?_
 simp only [Act.put, gA, gS, gZ, sI, sZ, sS]
 refine ghA 13 _ hT hS ?_
 simp only [Act.put, gA, gS, gZ, sI, sZ, sS]
 refine wpAnyT_done (by kernel_rfl) ?_ _
 go_wp2
 go_ret
 exact ⟨rfl, HEND.out.1, HEND.out.2⟩
set_option maxHeartbeats 4000000 in
theorem do1_any (d : Deed) (hd : d.Ok) (hk0 : d.kind = 1) (h : BothR w base H O own seed b M v D u L) (hKT : S.KTab w) (hbase : base ≤ w.heap.size) :
    Calls Tryz.prog 12 #[.pointer (some ⟨H, 0, none⟩), .pointer (some ⟨O, 0, none⟩), .agg (row .u8 seed), .agg d.cells.toArray] w fun e w' => e = .returned (.bool true) ∧ (∃ M' v' D' u' L', BothR w' base H O own seed b M' v' D' u' L') ∧ Below base w w' := by
 have hB : Below w.heap.size w ((w.alloc (.cells (row .u8 seed) 23)).alloc (.cells d.cells.toArray 38)) := ((Below.refl _ _).alloc (Nat.le_refl _) _).alloc (by simp) _
 have hd0 := CellsAt.new (w.alloc (.cells (row .u8 seed) 23)) 38 d.cells
 rw [World.size_alloc] at hd0
 have HH := Veil.mk h
 have HD := Veil.mk hd
 have uW := Tryz.underlying36
 have iW : (Tryz.prog.info? 36).map (·.size) = some d.w.cells.length := by rw [wp_cells_length _ hd.w48]; exact sizeWrapK
 have HIN : Veil ((∀ g, ringP H b v g → g < w.heap.size) ∧ ∀ g, rrB O u g → g < w.heap.size) := ⟨fun g hg => (h.ring.inside g hg).1, fun g hg => (h.ref.inside g hg).1⟩
 clear h hd
 go_enter Tryz.func12, Tryz.ntmps12
 go_upto_region 1 with fail
 refine forget (p := fun y => Code.wp _ _ _ _ y) (fun W => Below w.heap.size w W ∧ CellsAt W (w.heap.size + 1) 38 d.cells) ⟨hB, hd0⟩ ?_
 clear hB hd0
 rintro W ⟨hB, hd0⟩
 have cK : W.cell? ⟨w.heap.size + 1, 0, none⟩ = some (.int .i64 d.kind) := hd0.cell 0
 rw [hk0] at cK
 go_upto_region 5 with fail
 clear cK
 have HT : ∀ W' : World, CellsAt W' (w.heap.size + 1) 38 d.cells → (fun w' : World => w'.cell? ⟨w.heap.size + 1, 35, none⟩ = some (.int .u8 d.from_) ∧ w'.rangeAt (w.heap.size + 1) 36 d.w.cells) W' := fun W' h2 => ⟨by rw [h2.cell]; exact deed_from d HD.out.k32, by have := h2.range 36 51; rw [deed_wrap d HD.out.k32 HD.out.w48] at this; exact this⟩
 obtain ⟨V0, hV0⟩ : ∃ q, W.drew = q := ⟨_, rfl⟩
 have hB0 : Below w.heap.size w V0 := by rw [← hV0]; exact hB.drew
 have hw1 : CellsAt V0 (w.heap.size + 1) 38 d.cells := by rw [← hV0]; exact hd0
 refine wp_region_gateT (fun w' => w'.cell? ⟨w.heap.size + 1, 35, none⟩ = some (.int .u8 d.from_) ∧ w'.rangeAt (w.heap.size + 1) 36 d.w.cells) (fun _ => True) 99 (by kernel_rfl) ?_
 rw [hV0]
 clear hV0 hB hd0
 have hT := HT V0 hw1
 have hS : (fun _ : World => True) V0 := trivial
 have hBR := HH.out.far hB0
 have HBR := Veil.mk hBR
 have hadd := bUnw_any base H own seed b M v D L V0 d.from_ d.w hBR.ring hBR.link HD.out.wdot HD.out.w48 HD.out.wB (hKT.below hB0) (Nat.le_trans hbase hB0.size)
 obtain ⟨AN, hAN⟩ : ∃ q, unwN own seed L d.from_ d.w = q := ⟨_, rfl⟩
 rw [hAN] at hadd
 have HAN := Veil.mk hAN
 clear hAN hBR
 refine ghA 0 _ hT hS ?_
 simp only [Act.put, gA, gS, gZ, sI, sZ, sS]
 refine ghA 1 _ hT hS ?_
 simp only [Act.put, gA, gS, gZ, sI, sZ, sS]
 refine ghA 2 _ hT hS ?_
 simp only [Act.put, gA, gS, gZ, sI, sZ, sS]
 refine ghA 3 _ hT hS ?_
 simp only [Act.put, gA, gS, gZ, sI, sZ, sS]
 refine ghA 6 _ hT hS ?_
 simp only [Act.put, gA, gS, gZ, sI, sZ, sS]
 refine ghA 7 _ hT hS ?_
 simp only [Act.put, gA, gS, gZ, sI, sZ, sS]
 refine ghA 8 _ hT hS ?_
 simp only [Act.put, gA, gS, gZ, sI, sZ, sS]
 refine ghA 9 _ hT hS ?_
 simp only [Act.put, gA, gS, gZ, sI, sZ, sS]
 refine gl 4 35 36 34 (w.heap.size + 1) 36 d.w.cells (by kernel_rfl) (by kernel_rfl) (by kernel_rfl) (fun _ _ _ h => h) hT hS (by kernel_rfl) (fun _ h => h.2) uW rfl iW ?_
 simp only [Act.put, gA, gS, gZ, sI, sZ, sS]
 refine gl 10 41 36 40 (w.heap.size + 1) 36 d.w.cells (by kernel_rfl) (by kernel_rfl) (by kernel_rfl) (fun _ _ _ h => h) hT hS (by kernel_rfl) (fun _ h => h.2) uW rfl iW ?_
 simp only [Act.put, gA, gS, gZ, sI, sZ, sS]
 refine wpAnyT_one (i := 5) rfl (by kernel_rfl) (by kernel_rfl) (fun K hK => ?_)
 refine wpx_call _ _ (by kernel_rfl) (hadd.mono ?_)
 rintro e V1 ⟨rfl, M1, v1, D1, hr1, hl1, ht1, hv1⟩
 refine ⟨_, rfl, ?_⟩
 have href := HBR.out.refAfter ht1
 have hsz1 := ht1.size
 have hw2 : CellsAt V1 (w.heap.size + 1) 38 d.cells := hw1.congr (ht1.block _ hw1.lt (fun q => by have := HIN.out.1 _ q; omega))
 have hra := rrUnw_any base O own seed u L V1 d.from_ d.w href HD.out.w48 HD.out.wB (Nat.le_trans hbase (Nat.le_trans hB0.size hsz1))
 rw [HAN.out] at hra
 have HR1 : Veil (RTo base H own seed b v V0 V1 (unwL own seed L d.from_ d.w)) := ⟨M1, v1, D1, hr1, hl1, ht1, hv1⟩
 replace hT := HT V1 hw2
 clear hadd hr1 hl1 ht1 hv1 href hw1
 refine hK.out _ _ hT (fun _ => hS) ?_
 clear hK K
 try simp only [Act.put, gA, gS, gZ, sI, sZ, sS]
 refine wpAnyT_one (i := 11) rfl (by kernel_rfl) (by kernel_rfl) (fun K hK => ?_)
 refine wpx_call _ _ (by kernel_rfl) (hra.mono ?_)
 rintro e V2 ⟨u2, rfl, hR2⟩
 refine ⟨_, rfl, ?_⟩
 have hw3 : CellsAt V2 (w.heap.size + 1) 38 d.cells := hw2.congr (hR2.turn.block _ hw2.lt (fun q => by have := HIN.out.2 _ q; omega))
 have HEND : Veil ((∃ M' v' D' u' L', BothR V2 base H O own seed b M' v' D' u' L') ∧ Below base w V2) := by
  obtain ⟨⟨M', v', D', hq⟩, hb⟩ := HBR.out.step (Nat.le_trans hbase hB0.size) HR1.out hR2
  exact ⟨⟨M', v', D', u2, _, hq⟩, (hB0.mono hbase).trans hb⟩
 replace hT := HT V2 hw3
 clear hra hw2 hR2 hw3 HR1 HBR
 refine hK.out _ _ hT (fun _ => hS) ?_
 clear hK K
 try simp only [Act.put, gA, gS, gZ, sI, sZ, sS]
 refine ghA 12 (.bool true) hT hS ?_
 simp only [Act.put, gA, gS, gZ, sI, sZ, sS]
 refine ghA 13 _ hT hS ?_
 simp only [Act.put, gA, gS, gZ, sI, sZ, sS]
 refine wpAnyT_done (by kernel_rfl) ?_ _
 go_wp2
 go_ret
 exact ⟨rfl, HEND.out.1, HEND.out.2⟩
set_option maxHeartbeats 4000000 in
theorem doN_any (d : Deed) (h0 : ¬ d.kind = 0) (h1 : ¬ d.kind = 1) (h2 : ¬ d.kind = 2) :
    Calls Tryz.prog 12 #[.pointer (some ⟨H, 0, none⟩), .pointer (some ⟨O, 0, none⟩), .agg (row .u8 seed), .agg d.cells.toArray] w fun e w' => e = .returned (.bool true) ∧ Below w.heap.size w w' := by
 have hB : Below w.heap.size w ((w.alloc (.cells (row .u8 seed) 23)).alloc (.cells d.cells.toArray 38)) := ((Below.refl _ _).alloc (Nat.le_refl _) _).alloc (by simp) _
 have hd0 := CellsAt.new (w.alloc (.cells (row .u8 seed) 23)) 38 d.cells
 rw [World.size_alloc] at hd0
 go_enter Tryz.func12, Tryz.ntmps12
 go_upto_region 1 with fail
 refine forget (p := fun y => Code.wp _ _ _ _ y) (fun W => Below w.heap.size w W ∧ CellsAt W (w.heap.size + 1) 38 d.cells) ⟨hB, hd0⟩ ?_
 clear hB hd0
 rintro W ⟨hB, hd0⟩
 have cK : W.cell? ⟨w.heap.size + 1, 0, none⟩ = some (.int .i64 d.kind) := hd0.cell 0
 obtain ⟨K, hK⟩ : ∃ q, d.kind = q := ⟨_, rfl⟩
 rw [hK] at cK h0 h1 h2
 clear hK
 have e0 : (K == 0) = false := by simpa using h0
 have e1 : (K == 1) = false := by simpa using h1
 have e2 : (K == 2) = false := by simpa using h2
 go_wp2
 go_ret
 exact ⟨rfl, hB⟩
end
theorem dot_neq_self (a s : Int) (w : World) : (binOp .neq 33 (.agg (dotC a s).toArray) (.agg (dotC a s).toArray)).run Tryz.prog w = .ok (.bool false) w := by
 have := dot_neq a s a s w
 simpa using this
set_option maxHeartbeats 4000000 in
theorem sameDots_any (b1 b2 : Nat) (v1 v2 : Value) (L : List (Int × Int)) (w : World) (h1 : OwnD w b1 v1 L) (h2 : OwnI w b2 33 2 v2 (L.map fun d => dotC d.1 d.2)) (hl : L.length ≤ 1000) :
    Calls Tryz.prog 25 #[v1, v2] w fun e w' => e = .returned (.bool true) ∧ Below w.heap.size w w' := by
 have H1 := Veil.mk (fun W (hb : Below w.heap.size w W) => h1.congr (w' := W) fun g hg => hb.block g (h1.blockLt g hg).1)
 have H2 := Veil.mk (fun W (hb : Below w.heap.size w W) => h2.far hb)
 obtain ⟨x, c, hx⟩ := h1.isSlice
 obtain ⟨y, c2, hy⟩ := h2.isSlice
 rw [List.length_map] at hy
 obtain ⟨n, hn⟩ : ∃ q, L.length = q := ⟨_, rfl⟩
 rw [hn] at hx hy hl
 have HN := Veil.mk hn
 subst hx hy
 clear h1 h2 hn
 have uD := Tryz.underlying33
 go_enter Tryz.func25, Tryz.ntmps25
 go_wp2
 go_loopw [5] (fun q wr => ∃ j : Nat, j ≤ n ∧ q = .int .i64 j ∧ Below w.heap.size w wr) (fun q _ => n - (intOf q).toNat)
 case atStart => exact ⟨0, Nat.zero_le _, rfl, Below.refl _ _⟩
 case round =>
  obtain ⟨j, hj, rfl, hb⟩ := hrel
  by_cases hjn : j < n
  · have hji : (j : Int) < (n : Int) := by omega
    have hj0 : (0 : Int) ≤ (j : Int) := by omega
    have hjL : j < L.length := by rw [HN.out]; exact hjn
    obtain ⟨g1, hx1, _, r1⟩ := (H1.out wr hb).at_ j hjL
    obtain ⟨g2, hx2, _, r2⟩ := (H2.out wr hb).at_ j (by rw [List.length_map]; exact hjL)
    rw [List.getElem_map] at r2
    subst hx1 hx2
    have iD : (Tryz.prog.info? 33).map (·.size) = some (dotC L[j].1 L[j].2).length := sizeDot
    have HEQ : Veil (∀ wx, (binOp .neq 33 (.agg (dotC L[j].1 L[j].2).toArray) (.agg (dotC L[j].1 L[j].2).toArray)).run Tryz.prog wx = .ok (.bool false) wx) := ⟨fun wx => dot_neq_self _ _ wx⟩
    have hw1 : IntKind.i64.wrap ((j : Int) + 1) = (j : Int) + 1 := by rw [IntKind.wrap_i64]; omega
    generalize dotC L[j].1 L[j].2 = DJ at r1 r2 HEQ iD
    have heq := HEQ.out
    go_upto_region 6 with fail
    refine wp_region_gateT (fun w' => w'.rangeAt g1 (j * 2) DJ ∧ w'.rangeAt g2 (j * 2) DJ) (fun _ => True) 99 (by kernel_rfl) ?_
    have hT : (fun w' : World => w'.rangeAt g1 (j * 2) DJ ∧ w'.rangeAt g2 (j * 2) DJ) wr.drew := ⟨r1, r2⟩
    have hS := trivial
    refine ghA 0 _ hT hS ?_
    simp only [Act.put, gA, gS, gZ, sI, sZ, sS]
    refine ghA 1 _ hT hS ?_
    simp only [Act.put, gA, gS, gZ, sI, sZ, sS]
    refine ghA 2 _ hT hS ?_
    simp only [Act.put, gA, gS, gZ, sI, sZ, sS]
    refine ghA 4 _ hT hS ?_
    simp only [Act.put, gA, gS, gZ, sI, sZ, sS]
    refine ghA 5 _ hT hS ?_
    simp only [Act.put, gA, gS, gZ, sI, sZ, sS]
    refine ghA 6 _ hT hS ?_
    simp only [Act.put, gA, gS, gZ, sI, sZ, sS]
    refine gl 3 20 33 19 g1 (j * 2) DJ (by kernel_rfl) (by kernel_rfl) (by kernel_rfl) (fun _ _ _ h => h) hT hS (by kernel_rfl) (fun _ h => h.1) uD rfl iD ?_
    simp only [Act.put, gA, gS, gZ, sI, sZ, sS]
    refine gl 7 24 33 23 g2 (j * 2) DJ (by kernel_rfl) (by kernel_rfl) (by kernel_rfl) (fun _ _ _ h => h) hT hS (by kernel_rfl) (fun _ h => h.2) uD rfl iD ?_
    simp only [Act.put, gA, gS, gZ, sI, sZ, sS]
    refine ghA 8 (.bool false) hT hS ?_
    simp only [Act.put, gA, gS, gZ, sI, sZ, sS]
    refine wpAnyT_done (by kernel_rfl) ?_ _
    clear hT hS heq r1 r2
    go_wp2
    go_roundw
    case rel => exact ⟨j + 1, hjn, by push_cast; rfl, hb.drew⟩
    case measure => simp [intOf]; omega
  · have hji : ¬ (j : Int) < (n : Int) := by omega
    go_wp2
    go_ret
    exact ⟨rfl, hb⟩
structure NAk (w : World) (l : List (Nat × TypeId × List Value)) (W : World) : Prop where
 below : Below w.heap.size w W
 all : ∀ x ∈ l, CellsAt W x.1 x.2.1 x.2.2
theorem NAk.far {w : World} {l : List (Nat × TypeId × List Value)} {W W' : World} (h : NAk w l W) (hb : Below W.heap.size W W') : NAk w l W' :=
 ⟨h.below.trans (hb.mono h.below.size), fun x hx => (h.all x hx).congr (hb.block _ (h.all x hx).lt)⟩
theorem NAk.push {w : World} {l : List (Nat × TypeId × List Value)} {W : World} (h : NAk w l W) (t : TypeId) (old cs : List Value) : NAk w ((W.heap.size, t, cs) :: l) ((W.alloc (.cells old.toArray t)).setRow W.heap.size cs.toArray) := by
 have hb : Below W.heap.size W ((W.alloc (.cells old.toArray t)).setRow W.heap.size cs.toArray) := below_setRow ((Below.refl _ _).alloc (Nat.le_refl _) _) (Nat.le_refl _) _
 refine ⟨(h.far hb).below, fun x hx => ?_⟩
 rcases List.mem_cons.1 hx with rfl | hx
 · exact (CellsAt.new W t old).setRow _
 · exact (h.far hb).all x hx
def nowD : List Ep → Int × Int
 | [] => (0, 0)
 | e :: L => (L.getLastD e).1
def nowB (L : List Ep) : Bool := !L.isEmpty
theorem nowD_snoc (L : List Ep) (e : Ep) : nowD (L ++ [e]) = e.1 := by
 cases L with
 | nil => rfl
 | cons x L => show ((L ++ [e]).getLastD x).1 = e.1; rw [List.getLastD_concat]
theorem nowB_snoc (L : List Ep) (e : Ep) : nowB (L ++ [e]) = true := by unfold nowB; simp
section
variable (base H : Nat) (own : Int) (seed : List Int) (b : Nat) (M : Int → Int → Option (List Int)) (v : Value) (D : List (Int × Int)) (L : List Ep) (w : World)
theorem fkA_any (a s p : Int) (ho : okD a s) (hR : RingAt w base H own seed b M v D) (hL : LinkR M D L) (hKT : S.KTab w) :
    Calls Tryz.prog 17 #[.pointer (some ⟨H, 0, none⟩), .agg (dotC a s).toArray, .int .u8 p] w fun e w' => e = .returned (.tuple #[.agg ((rfkK L a s p).map (Value.int .u8)).toArray, .int .i64 (rfkN L a s p)]) ∧ Below w.heap.size w w' := by
 unfold rfkK rfkN
 by_cases h8 : 8 ≤ p
 · rw [if_pos h8, if_pos h8]
   exact fk_range H w a s p h8
 rw [if_neg h8, if_neg h8]
 cases hm : keyE L a s with
 | none => exact fk_nokey base H own seed b M v D w a s p ho (by omega) hR (by rw [hL.key, hm])
 | some k => exact fk_ok base H own seed b M v D w a s p k ho (by omega) hR (by rw [hL.key, hm]) hKT
theorem nowA_any (hR : RingAt w base H own seed b M v D) (hL : LinkR M D L) :
    Calls Tryz.prog 19 #[.pointer (some ⟨H, 0, none⟩)] w fun e w' => e = .returned (.tuple #[.agg (dotC (nowD L).1 (nowD L).2).toArray, .bool (nowB L)]) ∧ Below w.heap.size w w' := by
 have hd := hL.dots
 rcases List.eq_nil_or_concat L with rfl | ⟨L', e, rfl⟩
 · rw [hd] at hR
   exact now_none base H own seed b M v w hR
 · rw [List.concat_eq_append] at hd ⊢
   rw [nowD_snoc, nowB_snoc]
   rw [hd, List.map_append] at hR
   exact now_some base H own seed b M v _ w e.1.1 e.1.2 hR
theorem keyA_any (a s : Int) (ho : okD a s) (hR : RingAt w base H own seed b M v D) (hL : LinkR M D L) :
    Calls Tryz.prog 21 #[.pointer (some ⟨H, 0, none⟩), .agg (dotC a s).toArray] w fun e w' => e = .returned (.tuple #[.agg (((keyE L a s).getD (List.replicate 32 0)).map (Value.int .u8)).toArray, .bool (keyE L a s).isSome]) ∧ Below w.heap.size w w' := by
 have := rKey_any base H own seed b M v D w a s ho hR
 unfold keyAt at this
 rw [hL.key] at this
 exact this
theorem hasA_any (a s : Int) (ho : okD a s) (hR : RingAt w base H own seed b M v D) (hL : LinkR M D L) :
    Calls Tryz.prog 15 #[.pointer (some ⟨H, 0, none⟩), .agg (dotC a s).toArray] w fun e w' => e = .returned (.bool (keyE L a s).isSome) ∧ Below w.heap.size w w' := by
 have := rHas_any base H own seed b M v D w a s ho hR
 rw [hL.key] at this
 exact this
theorem wrapA_any (t a s : Int) (ho : okD a s) (hR : RingAt w base H own seed b M v D) (hL : LinkR M D L) (hKT : S.KTab w) :
    Calls Tryz.prog 13 #[.pointer (some ⟨H, 0, none⟩), .int .u8 t, .agg (dotC a s).toArray] w fun e w' => e = .returned (.tuple #[.agg (rwrW own seed L t a s).cells.toArray, .int .i64 (rwrN own L t a s)]) ∧ Below w.heap.size w w' := by
 unfold rwrW rwrN
 by_cases h8 : 8 ≤ t
 · rw [if_pos h8, if_pos h8]
   have hE : refuseE own t = 2 := by unfold refuseE; rw [if_pos h8]
   have := wrap_no base H own seed b M v D w t a s hR (by rw [hE]; decide)
   rw [hE] at this
   exact this
 rw [if_neg h8, if_neg h8]
 by_cases hto : t = own
 · rw [if_pos hto, if_pos hto]
   have hE : refuseE own t = 12 := by unfold refuseE; rw [if_neg h8, if_pos hto]
   have := wrap_no base H own seed b M v D w t a s hR (by rw [hE]; decide)
   rw [hE] at this
   exact this
 rw [if_neg hto, if_neg hto]
 have hE : refuseE own t = 0 := by unfold refuseE; rw [if_neg h8, if_neg hto]
 cases hm : keyE L a s with
 | none => exact wrap_nokey base H own seed b M v D w t a s ho hR hE (by rw [hL.key, hm])
 | some k => exact wrap_ok base H own seed b M v D w t a s k ho hR hE (by rw [hL.key, hm]) hKT
end
section
variable (base O : Nat) (own : Int) (seed : List Int) (v : Value) (L : List Ep) (w : World)
theorem rrNowA_any (hR : RRing w base O own seed v L) :
    Calls Tryz.prog 20 #[.pointer (some ⟨O, 0, none⟩)] w fun e w' => e = .returned (.tuple #[.agg (dotC (nowD L).1 (nowD L).2).toArray, .bool (nowB L)]) ∧ Below w.heap.size w w' := by
 rcases List.eq_nil_or_concat L with rfl | ⟨L', e, rfl⟩
 · exact rrNow_none base O own seed v w hR
 · rw [List.concat_eq_append] at hR ⊢
   rw [nowD_snoc, nowB_snoc]
   exact rrNow_some base O own seed v _ w e.1.1 e.1.2 e.2 hR
theorem rrKeyA_any (a s : Int) (hR : RRing w base O own seed v L) :
    Calls Tryz.prog 22 #[.pointer (some ⟨O, 0, none⟩), .agg (dotC a s).toArray] w fun e w' => e = .returned (.tuple #[.agg (((keyE L a s).getD (List.replicate 32 0)).map (Value.int .u8)).toArray, .bool (keyE L a s).isSome]) ∧ Below w.heap.size w w' :=
 (rrKeyZ_any base O own seed v L w a s hR).mono fun e w' ⟨k, _, h2, h3, h4⟩ => ⟨by rw [h3, h2]; rfl, h4⟩
end
theorem rfkK_len (L : List Ep) (a s p : Int) : (rfkK L a s p).length = 32 := by
 unfold rfkK
 split
 · exact List.length_replicate
 · split
   · exact derL_length _ _
   · exact List.length_replicate
theorem keyZ_len {L : List Ep} (hk : ∀ e ∈ L, e.2.length = 32) (a s : Int) : ((keyE L a s).getD (List.replicate 32 0)).length = 32 := by
 cases hm : keyE L a s with
 | none => exact List.length_replicate
 | some k =>
  obtain ⟨e, he, rfl⟩ := keyE_mem a s k L hm
  exact hk e he
end Go.Proofs.YtflkhkmejnpapaaGreatDoor
