/- Gate6 Kb5 Evl -/
import Derived.Test.YtflkhkmejnpapaaGreatDoorK26
import Derived.Test.YtflkhkmejnpapaaGreatDoorK45
import Derived.Test.YtflkhkmejnpapaaGreatDoorK15
namespace Go.Proofs.YtflkhkmejnpapaaGreatDoor
open Go Go.RowKit
section
variable {P : Program} {ops : Array Oper} {Q : Exit → Act → World → Prop} {md : Region.Mode} {T S : World → Prop} {D : Nat}
theorem wpAnyT_two {i j : Nat} {oi oj : Oper} {fuel : Nat} {listed : Array Bool} {a : Act} {w : World} (hi : ops[i]? = some oi) (hj : ops[j]? = some oj) (hr : Region.ready md ops listed = [i, j])
    (hwi : Region.wanted oi (yielded ops a.tmps) = true) (hwj : Region.wanted oj (yielded ops a.tmps) = true)
    (h1 : ∀ K' : Act → World → Prop, Shut (∀ a w, T w → ((listed.setIfInBounds i true).getD D true = false → S w) → wpAnyT P md ops Q T S D fuel (listed.setIfInBounds i true) a w → K' a w) → Oper.wp P oi a w K' Q)
    (h2 : ∀ K' : Act → World → Prop, Shut (∀ a w, T w → ((listed.setIfInBounds j true).getD D true = false → S w) → wpAnyT P md ops Q T S D fuel (listed.setIfInBounds j true) a w → K' a w) → Oper.wp P oj a w K' Q) : wpAnyT P md ops Q T S D (fuel + 1) listed a w :=
 ⟨fun h0 => (by rw [hr] at h0; cases h0), fun q hq => by
  rw [hr] at hq
  rcases List.mem_cons.1 hq with rfl | hq
  · refine wpOp_step hi (fun K' hK => ?_)
    rw [if_pos hwi]
    exact h1 K' (fun a w h0 h1 h2 => hK a w ⟨⟨h0, h1⟩, h2⟩)
  · obtain rfl : q = j := by simpa using hq
    refine wpOp_step hj (fun K' hK => ?_)
    rw [if_pos hwj]
    exact h2 K' (fun a w h0 h1 h2 => hK a w ⟨⟨h0, h1⟩, h2⟩)⟩
end
open Go.RowKit
set_option maxRecDepth 20000
set_option linter.unusedSimpArgs false
theorem addE_bytes {L : List Ep} (h : ∀ e ∈ L, ∀ x ∈ e.2, isB x) (a s : Int) (k : List Int) (hk : ∀ x ∈ k, isB x) : ∀ e ∈ addE L a s k, ∀ x ∈ e.2, isB x := by
 intro e he
 unfold addE at he
 split at he
 · exact h e he
 · rcases List.mem_append.1 he with q | q
   · exact h e q
   · rw [List.mem_singleton.1 q]; exact hk
theorem rwr_ok (own : Int) (seed : List Int) (L : List Ep) (t a s : Int) (ho : okD a s) (hk : ∀ e ∈ L, e.2.length = 32) (hb : ∀ e ∈ L, ∀ x ∈ e.2, isB x) :
    okD (rwrW own seed L t a s).ea (rwrW own seed L t a s).es ∧ (rwrW own seed L t a s).data.length = 48 ∧ ∀ x ∈ (rwrW own seed L t a s).data, isB x := by
 have hz : okD wz.ea wz.es ∧ wz.data.length = 48 ∧ ∀ x ∈ wz.data, isB x := ⟨by show okD 0 0; unfold okD; omega, rfl, fun x hx => by rw [List.eq_of_mem_replicate hx]; unfold isB; omega⟩
 unfold rwrW
 split
 · exact hz
 split
 · exact hz
 split
 · rename_i k hkq
   obtain ⟨e, he, rfl⟩ := keyE_mem a s k L hkq
   obtain ⟨h1, h2, _⟩ := wrapOf_data seed own t a s e.2 (hk e he) (hb e he)
   exact ⟨ho, h1, h2⟩
 · exact hz
theorem meetB {a : Act} {F : (Nat → Value) → Act} {P : Prop} (h : a = F (fun i => a.tmps.getD i undef)) (hp : P) : ∃ u, a = F u ∧ P := ⟨_, h, hp⟩
section
variable (base H O : Nat) (own : Int) (seed : List Int) (b : Nat) (M : Int → Int → Option (List Int)) (v : Value) (D : List (Int × Int)) (u : Value) (L : List Ep) (w : World)
set_option maxHeartbeats 8000000 in
theorem do2_any (d : Deed) (hd : d.Ok) (hk0 : d.kind = 2) (hs32 : seed.length = 32) (h : BothR w base H O own seed b M v D u L) (hKT : S.KTab w) (hbase : base ≤ w.heap.size) :
    Calls Tryz.prog 12 #[.pointer (some ⟨H, 0, none⟩), .pointer (some ⟨O, 0, none⟩), .agg (row .u8 seed), .agg d.cells.toArray] w fun e w' => e = .returned (.bool true) ∧ (∃ M' v' D' u' L', BothR w' base H O own seed b M' v' D' u' L') ∧ Below base w w' := by
 have hB : Below w.heap.size w ((w.alloc (.cells (row .u8 seed) 23)).alloc (.cells d.cells.toArray 38)) := ((Below.refl _ _).alloc (Nat.le_refl _) _).alloc (by simp) _
 have hd0 := CellsAt.new (w.alloc (.cells (row .u8 seed) 23)) 38 d.cells
 have hs0 := (Holds.new w .u8 23 seed).alloc (.cells d.cells.toArray 38)
 rw [World.size_alloc] at hd0
 obtain ⟨F, hF⟩ : ∃ q, d.from_ = q := ⟨_, rfl⟩
 have hF0 : 0 ≤ F ∧ F ≤ 255 := by rw [← hF]; exact hd.fromB
 obtain ⟨F8, hF8⟩ : ∃ q, F % 8 = q := ⟨_, rfl⟩
 have hF8b : 0 ≤ F8 ∧ F8 < 8 := by omega
 have hrem : IntKind.u8.wrap (F.tmod 8) = F8 := by rw [Int.tmod_eq_emod_of_nonneg hF0.1, hF8]; simp [IntKind.wrap, IntKind.bits, IntKind.signed]; omega
 have hrem2 : F.tmod 8 = F8 := by rw [Int.tmod_eq_emod_of_nonneg hF0.1, hF8]
 have HH := Veil.mk h
 have HD := Veil.mk hd
 have HN : Veil (∀ W, Calls Tryz.prog 11 #[.int .u8 F8, .agg (row .u8 seed)] W fun e w' => ∃ H v, e = .returned (.pointer (some ⟨H, 0, none⟩)) ∧ RRing w' W.heap.size H F8 seed v (rnewL F8 seed) ∧ Below W.heap.size W w') := ⟨fun W => (rnew_any F8 seed W hF8b.2 hs32).mono fun e w' ⟨H, v, h1, h2, h3, h4, h5⟩ => ⟨H, v, h1, RRing.ofNew h2 h3 hs32 (fun e he => by unfold rnewL at he; split at he; rw [List.mem_singleton.1 he]; exact derL_length _ _; cases he) (by unfold rnewL; split <;> simp) h4, h5⟩⟩
 have uD := Tryz.underlying33
 have uK := Tryz.underlying23
 have uW := Tryz.underlying36
 have iD : (Tryz.prog.info? 33).map (·.size) = some (dotC d.ea d.es).length := sizeDot
 have iK : (Tryz.prog.info? 23).map (·.size) = some (d.k.map (Value.int .u8)).length := by rw [List.length_map, hd.k32]; exact sizeKeyD
 have HIN : Veil ((∀ g, ringP H b v g → g < w.heap.size) ∧ ∀ g, rrB O u g → g < w.heap.size) := ⟨fun g hg => (h.ring.inside g hg).1, fun g hg => (h.ref.inside g hg).1⟩
 clear h hd
 go_enter Tryz.func12, Tryz.ntmps12
 go_upto_region 1 with fail
 refine forget (p := fun y => Code.wp _ _ _ _ y) (fun W => Below w.heap.size w W ∧ Holds W w.heap.size .u8 23 seed ∧ CellsAt W (w.heap.size + 1) 38 d.cells) ⟨hB, hs0, hd0⟩ ?_
 clear hB hd0 hs0
 rintro W ⟨hB, hs0, hd0⟩
 have cK : W.cell? ⟨w.heap.size + 1, 0, none⟩ = some (.int .i64 d.kind) := hd0.cell 0
 rw [hk0] at cK
 have cF : W.cell? ⟨w.heap.size + 1, 35, none⟩ = some (.int .u8 F) := by rw [hd0.cell, deed_from d HD.out.k32, hF]
 have hn := HN.out W
 go_upto_region 8 with (first
  | (refine wpList_ld rfl 23 _ rfl _ rfl hs0 Tryz.underlying23 sizeKeyD hs32 ?_)
  | (go_at_call 11; refine hn.mono ?_; rintro e W1 ⟨O2, v2, rfl, hR2, hb1⟩))
 have hd1 := hd0.farM hb1
 have rD1 : W1.rangeAt (w.heap.size + 1) 1 (dotC d.ea d.es) := by have := hd1.range 1 2; rw [deed_dot] at this; exact this
 have rK1 : W1.rangeAt (w.heap.size + 1) 3 (d.k.map (Value.int .u8)) := by have := hd1.range 3 32; rw [deed_key d HD.out.k32] at this; exact this
 have hadd := rrAddN_any W.heap.size O2 F8 seed v2 (rnewL F8 seed) W1 d.ea d.es d.k HD.out.k32 hR2 hb1.size
 clear hn cK cF hs0
 go_upto_region 9 with (first
  | (refine wpList_ldv rfl 33 _ rfl (w.heap.size + 1) 1 rfl (dotC d.ea d.es) rD1 uD rfl iD ?_)
  | (refine wpList_ldv rfl 23 _ rfl (w.heap.size + 1) 3 rfl (d.k.map (Value.int .u8)) rK1 uK rfl iK ?_)
  | (go_at_call 33; refine hadd.mono ?_; rintro e W2 ⟨u2, rfl, hR3⟩; clear hadd))
 have hbT : Below W.heap.size W1 W2 := hR3.turn.below hb1.size (fun k hk => (hR2.inside k hk).2)
 have hW2 : Below W.heap.size W W2 := hb1.trans hbT
 have hd2 := hd0.farM hW2
 have hB2 : Below w.heap.size w W2 := hB.trans (hW2.mono hB.size)
 have hRA := hR3.at_
 have hLB := addE_bytes (LinkR.new F8 seed).bytes d.ea d.es d.k HD.out.kB
 obtain ⟨LA, hLA⟩ : ∃ q, addE (rnewL F8 seed) d.ea d.es d.k = q := ⟨_, rfl⟩
 rw [hLA] at hRA hLB
 have hKB : ∀ k, keyE LA d.ea d.es = some k → ∀ x ∈ k, isB x := fun k hk => by
  obtain ⟨e, he, rfl⟩ := keyE_mem _ _ _ _ hk
  exact hLB e he
 have hEok := rwr_ok F8 seed LA own d.ea d.es HD.out.dot hRA.k32 hLB
 obtain ⟨E, hE⟩ : ∃ q, rwrW F8 seed LA own d.ea d.es = q := ⟨_, rfl⟩
 rw [hE] at hEok
 have HEok := Veil.mk hEok
 have HWR : Veil (∀ V, Below W2.heap.size W2 V → Calls Tryz.prog 23 #[.pointer (some ⟨O2, 0, none⟩), .int .u8 own, .agg (dotC d.ea d.es).toArray] V fun e w' => e = .returned (.tuple #[.agg E.cells.toArray, .int .i64 (rwrN F8 LA own d.ea d.es)]) ∧ Below V.heap.size V w') := ⟨fun V hb => by
  have := rrWrap_any W.heap.size O2 F8 seed u2 LA V own d.ea d.es (hRA.far hb) hKB
  rw [hE] at this
  exact this⟩
 have HOW : Veil (∀ V, Below W2.heap.size W2 V → Calls Tryz.prog 16 #[.pointer (some ⟨H, 0, none⟩)] V fun e w' => e = .returned (.int .u8 own) ∧ w' = V) := ⟨fun V hb => rOwn_any _ _ _ _ _ _ _ _ V (HH.out.ring.far (hB2.trans (hb.mono hB2.size)))⟩
 have iW : (Tryz.prog.info? 36).map (·.size) = some E.cells.length := by rw [wp_cells_length _ HEok.out.2.1]; exact sizeWrapK
 have hE1 := wp_cells_one E
 have HEl : Veil (E.cells.length = 51) := ⟨wp_cells_length _ HEok.out.2.1⟩
 obtain ⟨Z, hzv, hz1, hZl⟩ : ∃ Z : List Value, (∀ wx, (zeroValue 36).run Tryz.prog wx = .ok (.agg Z.toArray) wx) ∧ ¬ Z.toArray = #[] ∧ Veil (Z.length = 51) := ⟨wz.cells, fun wx => by kernel_rfl, by decide, ⟨rfl⟩⟩
 have HTT : ∀ V, Below W2.heap.size W2 V → (fun w' : World => w'.rangeAt (w.heap.size + 1) 1 (dotC d.ea d.es)) V := fun V hb => by have := (hd2.farM hb).range 1 2; rw [deed_dot] at this; exact this
 have HB2 := Veil.mk hB2
 have HD2 := Veil.mk hd2
 obtain ⟨nr, hnr⟩ : ∃ q, rwrN F8 LA own d.ea d.es = q := ⟨_, rfl⟩
 rw [hnr] at HWR
 clear hnr hE hLA hKB hEok hLB hRA hR3 hbT hW2 hR2 hd1 rD1 rK1 hb1 hd0 hB hB2 hd2 iK
 refine wp_meetE (fun AC V => ∃ (X : Nat) (t : Nat → Value), AC = ⟨#[.pointer (some ⟨H, 0, none⟩), .pointer (some ⟨O, 0, none⟩), t 2, t 3, t 4, t 5, t 6, .pointer (some ⟨w.heap.size + 1, 0, none⟩), t 8, t 9, .pointer (some ⟨X, 0, none⟩), t 11, t 12, t 13, t 14, t 15, t 16, t 17, t 18, t 19, t 20, t 21, t 22, t 23, t 24, t 25, t 26, t 27, t 28, t 29, t 30, t 31, t 32, t 33, t 34, t 35, t 36, t 37, t 38, t 39, t 40, t 41, t 42, t 43, t 44, t 45, t 46, t 47, t 48, t 49, t 50, t 51, t 52, t 53, t 54, t 55, t 56, t 57, t 58, t 59, t 60, t 61, t 62, t 63, t 64, t 65, t 66, t 67, t 68, t 69, t 70, t 71, t 72, t 73, t 74, t 75, t 76, t 77, t 78], []⟩ ∧ Below W2.heap.size W2 V ∧ CellsAt V X 36 E.cells ∧ w.heap.size ≤ X) ?_ ?_
 · refine wp_region_gateT (fun w' => w'.rangeAt (w.heap.size + 1) 1 (dotC d.ea d.es)) (fun _ => True) 99 (by kernel_rfl) ?_
   refine forget (p := fun y => wpAnyT _ _ _ _ _ _ _ _ _ _ y) (fun V => Below W2.heap.size W2 V) (Below.refl _ _).drew ?_
   rintro V0 hV0
   have hT := HTT V0 hV0
   have hS : (fun _ : World => True) V0 := trivial
   refine ghA 0 _ hT hS ?_
   simp only [Act.put, gA, gS, gZ, sI, sZ, sS]
   refine ghA 1 _ hT hS ?_
   simp only [Act.put, gA, gS, gZ, sI, sZ, sS]
   refine ghA 3 _ hT hS ?_
   simp only [Act.put, gA, gS, gZ, sI, sZ, sS]
   refine gl 4 62 33 61 (w.heap.size + 1) 1 (dotC d.ea d.es) (by kernel_rfl) (by kernel_rfl) (by kernel_rfl) (fun _ _ _ h => h) hT hS (by kernel_rfl) (fun _ h => h) uD rfl iD ?_
   simp only [Act.put, gA, gS, gZ, sI, sZ, sS]
   refine wpAnyT_two (i := 2) (j := 9) rfl rfl (by kernel_rfl) (by kernel_rfl) (by kernel_rfl) (fun K hK => ?_) (fun K hK => ?_)
   · refine wpx_call _ _ (by kernel_rfl) ((HOW.out V0 hV0).mono ?_)
     rintro e w1 ⟨rfl, rfl⟩
     refine ⟨_, rfl, ?_⟩
     refine hK.out _ _ hT (fun _ => hS) ?_
     clear hK K
     try simp only [Act.put, gA, gS, gZ, sI, sZ, sS]
     refine wpAnyT_two (i := 5) (j := 9) rfl rfl (by kernel_rfl) (by kernel_rfl) (by kernel_rfl) (fun K hK => ?_) (fun K hK => ?_)
     · refine wpx_call _ _ (by kernel_rfl) ((HWR.out w1 hV0).mono ?_)
       rintro e w2 ⟨rfl, hb2⟩
       refine ⟨_, rfl, ?_⟩
       have hV2 := hV0.trans (hb2.mono hV0.size)
       replace hT := HTT w2 hV2
       refine hK.out _ _ hT (fun _ => hS) ?_
       clear hK K
       try simp only [Act.put, gA, gS, gZ, sI, sZ, sS]
       refine ghA 6 _ hT hS ?_
       simp only [Act.put, gA, gS, gZ, sI, sZ, sS]
       refine ghA 7 _ hT hS ?_
       simp only [Act.put, gA, gS, gZ, sI, sZ, sS]
       refine ghA 8 _ hT hS ?_
       simp only [Act.put, gA, gS, gZ, sI, sZ, sS]
       refine wpAnyT_one (i := 9) rfl (by kernel_rfl) (by kernel_rfl) (fun K hK => ?_)
       go_simp
       have hV3 := hV2.alloc hV2.size (.cells Z.toArray 36)
       replace hT := HTT _ hV3
       refine hK.out _ _ hT (fun _ => hS) ?_
       clear hK K
       try simp only [Act.put, gA, gS, gZ, sI, sZ, sS]
       refine wpAnyT_one (i := 10) rfl (by kernel_rfl) (by kernel_rfl) (fun K hK => ?_)
       refine wp_stvE 36 _ _ rfl _ rfl rfl (CellsAt.new w2 36 Z) iW (by rw [hZl.out, HEl.out]) hE1 ?_
       have hV4 : Below W2.heap.size W2 ((w2.alloc (.cells Z.toArray 36)).setRow w2.heap.size E.cells.toArray) := below_setRow hV3 hV2.size _
       replace hT := HTT _ hV4
       refine hK.out _ _ hT (fun _ => hS) ?_
       clear hK K
       try simp only [Act.put, gA, gS, gZ, sI, sZ, sS]
       refine ghA 11 _ hT hS ?_
       simp only [Act.put, gA, gS, gZ, sI, sZ, sS]
       refine wpAnyT_done (by kernel_rfl) ?_ _
       exact ⟨w2.heap.size, meetB (by kernel_rfl) ⟨hV4, (CellsAt.new w2 36 Z).setRow _, Nat.le_trans HB2.out.size hV2.size⟩⟩
     · go_simp
       have hV1 := hV0.alloc hV0.size (.cells Z.toArray 36)
       replace hT := HTT _ hV1
       refine hK.out _ _ hT (fun _ => hS) ?_
       clear hK K
       try simp only [Act.put, gA, gS, gZ, sI, sZ, sS]
       refine wpAnyT_one (i := 5) rfl (by kernel_rfl) (by kernel_rfl) (fun K hK => ?_)
       refine wpx_call _ _ (by kernel_rfl) ((HWR.out _ hV1).mono ?_)
       rintro e w2 ⟨rfl, hb2⟩
       refine ⟨_, rfl, ?_⟩
       have hV2 := hV1.trans (hb2.mono hV1.size)
       have hG := (CellsAt.new w1 36 Z).farM hb2
       replace hT := HTT w2 hV2
       refine hK.out _ _ hT (fun _ => hS) ?_
       clear hK K
       try simp only [Act.put, gA, gS, gZ, sI, sZ, sS]
       refine ghA 6 _ hT hS ?_
       simp only [Act.put, gA, gS, gZ, sI, sZ, sS]
       refine ghA 7 _ hT hS ?_
       simp only [Act.put, gA, gS, gZ, sI, sZ, sS]
       refine ghA 8 _ hT hS ?_
       simp only [Act.put, gA, gS, gZ, sI, sZ, sS]
       refine wpAnyT_one (i := 10) rfl (by kernel_rfl) (by kernel_rfl) (fun K hK => ?_)
       refine wp_stvE 36 _ _ rfl _ rfl rfl hG iW (by rw [hZl.out, HEl.out]) hE1 ?_
       have hV4 : Below W2.heap.size W2 (w2.setRow w1.heap.size E.cells.toArray) := below_setRow hV2 hV0.size _
       replace hT := HTT _ hV4
       refine hK.out _ _ hT (fun _ => hS) ?_
       clear hK K
       try simp only [Act.put, gA, gS, gZ, sI, sZ, sS]
       refine ghA 11 _ hT hS ?_
       simp only [Act.put, gA, gS, gZ, sI, sZ, sS]
       refine wpAnyT_done (by kernel_rfl) ?_ _
       exact ⟨w1.heap.size, meetB (by kernel_rfl) ⟨hV4, hG.setRow _, Nat.le_trans HB2.out.size hV0.size⟩⟩
   · go_simp
     have hV1 := hV0.alloc hV0.size (.cells Z.toArray 36)
     replace hT := HTT _ hV1
     refine hK.out _ _ hT (fun _ => hS) ?_
     clear hK K
     try simp only [Act.put, gA, gS, gZ, sI, sZ, sS]
     refine wpAnyT_one (i := 2) rfl (by kernel_rfl) (by kernel_rfl) (fun K hK => ?_)
     refine wpx_call _ _ (by kernel_rfl) ((HOW.out _ hV1).mono ?_)
     rintro e w1 ⟨rfl, rfl⟩
     refine ⟨_, rfl, ?_⟩
     replace hT := HTT _ hV1
     refine hK.out _ _ hT (fun _ => hS) ?_
     clear hK K
     try simp only [Act.put, gA, gS, gZ, sI, sZ, sS]
     refine wpAnyT_one (i := 5) rfl (by kernel_rfl) (by kernel_rfl) (fun K hK => ?_)
     refine wpx_call _ _ (by kernel_rfl) ((HWR.out _ hV1).mono ?_)
     rintro e w2 ⟨rfl, hb2⟩
     refine ⟨_, rfl, ?_⟩
     have hV2 := hV1.trans (hb2.mono hV1.size)
     have hG := (CellsAt.new V0 36 Z).farM hb2
     replace hT := HTT w2 hV2
     refine hK.out _ _ hT (fun _ => hS) ?_
     clear hK K
     try simp only [Act.put, gA, gS, gZ, sI, sZ, sS]
     refine ghA 6 _ hT hS ?_
     simp only [Act.put, gA, gS, gZ, sI, sZ, sS]
     refine ghA 7 _ hT hS ?_
     simp only [Act.put, gA, gS, gZ, sI, sZ, sS]
     refine ghA 8 _ hT hS ?_
     simp only [Act.put, gA, gS, gZ, sI, sZ, sS]
     refine wpAnyT_one (i := 10) rfl (by kernel_rfl) (by kernel_rfl) (fun K hK => ?_)
     refine wp_stvE 36 _ _ rfl _ rfl rfl hG iW (by rw [hZl.out, HEl.out]) hE1 ?_
     have hV4 : Below W2.heap.size W2 (w2.setRow V0.heap.size E.cells.toArray) := below_setRow hV2 hV0.size _
     replace hT := HTT _ hV4
     refine hK.out _ _ hT (fun _ => hS) ?_
     clear hK K
     try simp only [Act.put, gA, gS, gZ, sI, sZ, sS]
     refine ghA 11 _ hT hS ?_
     simp only [Act.put, gA, gS, gZ, sI, sZ, sS]
     refine wpAnyT_done (by kernel_rfl) ?_ _
     exact ⟨V0.heap.size, meetB (by kernel_rfl) ⟨hV4, hG.setRow _, Nat.le_trans HB2.out.size hV0.size⟩⟩
 rintro AC V ⟨X, t, rfl, hV, hX, hXw⟩
 dsimp only
 have hB3 : Below w.heap.size w V := HB2.out.trans (hV.mono HB2.out.size)
 have hd3 := HD2.out.farM hV
 clear HWR HOW HTT HB2 HD2 hV hzv hz1 hZl HEl hE1 iD uD uK HN
 go_upto_region 10 with fail
 have HT : ∀ W' : World, CellsAt W' (w.heap.size + 1) 38 d.cells → CellsAt W' X 36 E.cells → (fun w' : World => w'.cell? ⟨w.heap.size + 1, 35, none⟩ = some (.int .u8 F) ∧ w'.rangeAt X 0 E.cells) W' := fun W' h2 h3 => ⟨by rw [h2.cell, ← hF]; exact deed_from d HD.out.k32, h3.wholeM⟩
 obtain ⟨V0, hV0⟩ : ∃ q, V.drew = q := ⟨_, rfl⟩
 have hB0 : Below w.heap.size w V0 := by rw [← hV0]; exact hB3.drew
 have hw1 : CellsAt V0 (w.heap.size + 1) 38 d.cells := by rw [← hV0]; exact hd3
 have hX1 : CellsAt V0 X 36 E.cells := by rw [← hV0]; exact hX
 refine wp_region_gateT (fun w' => w'.cell? ⟨w.heap.size + 1, 35, none⟩ = some (.int .u8 F) ∧ w'.rangeAt X 0 E.cells) (fun _ => True) 99 (by kernel_rfl) ?_
 rw [hV0]
 clear hV0 hB3 hd3 hX V
 have hT := HT V0 hw1 hX1
 have hS : (fun _ : World => True) V0 := trivial
 have hBR := HH.out.far hB0
 have HBR := Veil.mk hBR
 have hadd := bUnw_any base H own seed b M v D L V0 F8 E hBR.ring hBR.link HEok.out.1 HEok.out.2.1 HEok.out.2.2 (hKT.below hB0) (Nat.le_trans hbase hB0.size)
 obtain ⟨AN, hAN⟩ : ∃ q, unwN own seed L F8 E = q := ⟨_, rfl⟩
 rw [hAN] at hadd
 have HAN := Veil.mk hAN
 clear hAN hBR
 refine ghA 0 _ hT hS ?_
 simp only [Act.put, gA, gS, gZ, sI, sZ, sS]
 refine ghA 1 _ hT hS ?_
 simp only [Act.put, gA, gS, gZ, sI, sZ, sS]
 refine ghA 2 _ hT hS ?_
 simp only [Act.put, gA, gS, gZ, sI, sZ, sS]
 refine ghA 3 _ hT hS ?_
 simp only [Act.put, gA, gS, gZ, sI, sZ, sS]
 refine ghA 6 _ hT hS ?_
 simp only [Act.put, gA, gS, gZ, sI, sZ, sS]
 refine ghA 7 _ hT hS ?_
 simp only [Act.put, gA, gS, gZ, sI, sZ, sS]
 refine ghA 8 _ hT hS ?_
 simp only [Act.put, gA, gS, gZ, sI, sZ, sS]
 refine ghA 9 _ hT hS ?_
 simp only [Act.put, gA, gS, gZ, sI, sZ, sS]
 refine gl 4 70 36 10 X 0 E.cells (by kernel_rfl) (by kernel_rfl) (by kernel_rfl) (fun _ _ _ h => h) hT hS (by kernel_rfl) (fun _ h => h.2) uW rfl iW ?_
 simp only [Act.put, gA, gS, gZ, sI, sZ, sS]
 refine gl 10 76 36 10 X 0 E.cells (by kernel_rfl) (by kernel_rfl) (by kernel_rfl) (fun _ _ _ h => h) hT hS (by kernel_rfl) (fun _ h => h.2) uW rfl iW ?_
 simp only [Act.put, gA, gS, gZ, sI, sZ, sS]
 refine wpAnyT_one (i := 5) rfl (by kernel_rfl) (by kernel_rfl) (fun K hK => ?_)
 refine wpx_call _ _ (by kernel_rfl) (hadd.mono ?_)
 rintro e V1 ⟨rfl, M1, v1, D1, hr1, hl1, ht1, hv1⟩
 refine ⟨_, rfl, ?_⟩
 have href := HBR.out.refAfter ht1
 have hsz1 := ht1.size
 have hw2 : CellsAt V1 (w.heap.size + 1) 38 d.cells := hw1.congr (ht1.block _ hw1.lt (fun q => by have := HIN.out.1 _ q; omega))
 have hX2 : CellsAt V1 X 36 E.cells := hX1.congr (ht1.block _ hX1.lt (fun q => by have := HIN.out.1 _ q; omega))
 have hra := rrUnw_any base O own seed u L V1 F8 E href HEok.out.2.1 HEok.out.2.2 (Nat.le_trans hbase (Nat.le_trans hB0.size hsz1))
 rw [HAN.out] at hra
 have HR1 : Veil (RTo base H own seed b v V0 V1 (unwL own seed L F8 E)) := ⟨M1, v1, D1, hr1, hl1, ht1, hv1⟩
 replace hT := HT V1 hw2 hX2
 clear hadd hr1 hl1 ht1 hv1 href hw1 hX1
 refine hK.out _ _ hT (fun _ => hS) ?_
 clear hK K
 try simp only [Act.put, gA, gS, gZ, sI, sZ, sS]
 refine wpAnyT_one (i := 11) rfl (by kernel_rfl) (by kernel_rfl) (fun K hK => ?_)
 refine wpx_call _ _ (by kernel_rfl) (hra.mono ?_)
 rintro e V2 ⟨u3, rfl, hR3⟩
 refine ⟨_, rfl, ?_⟩
 have hw3 : CellsAt V2 (w.heap.size + 1) 38 d.cells := hw2.congr (hR3.turn.block _ hw2.lt (fun q => by have := HIN.out.2 _ q; omega))
 have hX3 : CellsAt V2 X 36 E.cells := hX2.congr (hR3.turn.block _ hX2.lt (fun q => by have := HIN.out.2 _ q; omega))
 have HEND : Veil ((∃ M' v' D' u' L', BothR V2 base H O own seed b M' v' D' u' L') ∧ Below base w V2) := by
  obtain ⟨⟨M', v', D', hq⟩, hb⟩ := HBR.out.step (Nat.le_trans hbase hB0.size) HR1.out hR3
  exact ⟨⟨M', v', D', u3, _, hq⟩, (hB0.mono hbase).trans hb⟩
 replace hT := HT V2 hw3 hX3
 clear hra hw2 hX2 hR3 hw3 hX3 HR1 HBR
 refine hK.out _ _ hT (fun _ => hS) ?_
 clear hK K
 try simp only [Act.put, gA, gS, gZ, sI, sZ, sS]
 refine ghA 12 (.bool true) hT hS ?_
 simp only [Act.put, gA, gS, gZ, sI, sZ, sS]
 refine ghA 13 _ hT hS ?_
 simp only [Act.put, gA, gS, gZ, sI, sZ, sS]
 refine wpAnyT_done (by kernel_rfl) ?_ _
 go_wp2
 go_ret
 exact ⟨rfl, HEND.out.1, HEND.out.2⟩
end
end Go.Proofs.YtflkhkmejnpapaaGreatDoor
