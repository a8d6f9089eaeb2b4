/- Ky7 An3 An4 -/
import Derived.Test.YtflkhkmejnpapaaGreatDoorK22
import Derived.Test.YtflkhkmejnpapaaGreatDoorK15
import Derived.Test.YtflkhkmejnpapaaGreatDoorK05
import Derived.Test.YtflkhkmejnpapaaGreatDoorK10
namespace Go.Proofs.YtflkhkmejnpapaaGreatDoor
open Go.RowKit
set_option maxRecDepth 20000
set_option linter.unusedSimpArgs false
section
variable (base H : Nat) (own : Int) (seed : List Int) (b : Nat) (M : Int → Int → Option (List Int)) (v : Value) (L : List (Int × Int)) (w : World)
set_option maxHeartbeats 4000000 in
theorem add_known (a s : Int) (k : List Int) (ho : okD a s) (hR : RingAt w base H own seed b M v L) (hm : (M a s).isSome = true) :
    Calls Tryz.prog 9 #[.pointer (some ⟨H, 0, none⟩), .agg (dotC a s).toArray, .agg (row .u8 k)] w fun e w' => e = .returned (.int .i64 5) ∧ Below w.heap.size w w' := by
 have hB : Below w.heap.size w ((w.alloc (.cells (dotC a s).toArray 33)).alloc (.cells (row .u8 k) 23)) := ((Below.refl _ _).alloc (Nat.le_refl _) _).alloc (by simp) _
 have hd0 := (CellsAt.new w 33 (dotC a s)).alloc (.cells (row .u8 k) 23)
 have hh := rHas_any base H own seed b M v L _ a s ho (hR.far hB)
 rw [hm] at hh
 have rD := hd0.range 0 2
 rw [show ((dotC a s).drop 0).take 2 = dotC a s from rfl] at rD
 go_enter Tryz.func9, Tryz.ntmps9
 go_wp2_with (first
  | (refine wpList_ldv rfl 33 _ rfl _ _ rfl (dotC a s) rD Tryz.underlying33 rfl sizeDotK ?_)
  | (go_at_call 15; refine hh.mono ?_; rintro e w1 ⟨rfl, hb1⟩))
 go_ret
 exact ⟨rfl, hB.trans (hb1.mono hB.size)⟩
set_option maxHeartbeats 4000000 in
theorem add_full (a s : Int) (k : List Int) (ho : okD a s) (hR : RingAt w base H own seed b M v L) (hm : (M a s).isSome = false) (hl : 16 ≤ L.length) :
    Calls Tryz.prog 9 #[.pointer (some ⟨H, 0, none⟩), .agg (dotC a s).toArray, .agg (row .u8 k)] w fun e w' => e = .returned (.int .i64 10) ∧ Below w.heap.size w w' := by
 have hs32 := hR.seed32
 have hB : Below w.heap.size w ((w.alloc (.cells (dotC a s).toArray 33)).alloc (.cells (row .u8 k) 23)) := ((Below.refl _ _).alloc (Nat.le_refl _) _).alloc (by simp) _
 have hd0 := (CellsAt.new w 33 (dotC a s)).alloc (.cells (row .u8 k) 23)
 have hR0 := hR.far hB
 have hh := rHas_any base H own seed b M v L _ a s ho hR0
 rw [hm] at hh
 have rD := hd0.range 0 2
 rw [show ((dotC a s).drop 0).take 2 = dotC a s from rfl] at rD
 have HC : Veil (∀ W : World, Below ((w.alloc (.cells (dotC a s).toArray 33)).alloc (.cells (row .u8 k) 23)).heap.size ((w.alloc (.cells (dotC a s).toArray 33)).alloc (.cells (row .u8 k) 23)) W → W.cell? ⟨H, 34, none⟩ = some v) := ⟨fun W hb => by
  have := (hR0.far hb).box.cell 34
  rw [ringC_added _ _ _ _ hs32] at this
  exact this⟩
 obtain ⟨xv, cv, hv⟩ := hR.added.isSlice
 clear hR hR0
 subst hv
 obtain ⟨n, hn⟩ : ∃ n, L.length = n := ⟨_, rfl⟩
 rw [hn] at HC hl
 clear hn
 have hli : (16 : Int) ≤ (n : Int) := by omega
 go_enter Tryz.func9, Tryz.ntmps9
 go_wp2_with (first
  | (refine wpList_ldv rfl 33 _ rfl _ _ rfl (dotC a s) rD Tryz.underlying33 rfl sizeDotK ?_)
  | (go_at_call 15; refine hh.mono ?_; rintro e w1 ⟨rfl, hb1⟩; have c34 := HC.out w1 hb1))
 go_ret
 exact ⟨rfl, hB.trans (hb1.mono hB.size)⟩
set_option maxHeartbeats 4000000 in
theorem add_ok (a s : Int) (k : List Int) (ho : okD a s) (hk : k.length = 32) (hR : RingAt w base H own seed b M v L) (hm : (M a s).isSome = false) (hl : L.length < 16) (hbase : base ≤ w.heap.size) :
    Calls Tryz.prog 9 #[.pointer (some ⟨H, 0, none⟩), .agg (dotC a s).toArray, .agg (row .u8 k)] w fun e w' => e = .returned (.int .i64 0) ∧ ∃ v', RingAt w' base H own seed b (putK M a s k) v' (L ++ [(a, s)]) ∧ Turn (ringP H b v) w w' ∧ (v'.ownBlock = v.ownBlock ∨ ∃ g, v'.ownBlock = some g ∧ w.heap.size ≤ g) := by
 have hs32 := hR.seed32
 have hB : Below w.heap.size w ((w.alloc (.cells (dotC a s).toArray 33)).alloc (.cells (row .u8 k) 23)) := ((Below.refl _ _).alloc (Nat.le_refl _) _).alloc (by simp) _
 have hd0 := (CellsAt.new w 33 (dotC a s)).alloc (.cells (row .u8 k) 23)
 have hk0 := Holds.new (w.alloc (.cells (dotC a s).toArray 33)) .u8 23 k
 rw [World.size_alloc] at hk0
 have hR0 := hR.far hB
 have hh := rHas_any base H own seed b M v L _ a s ho hR0
 rw [hm] at hh
 have rD := hd0.range 0 2
 rw [show ((dotC a s).drop 0).take 2 = dotC a s from rfl] at rD
 have HC : Veil (∀ W : World, Below ((w.alloc (.cells (dotC a s).toArray 33)).alloc (.cells (row .u8 k) 23)).heap.size ((w.alloc (.cells (dotC a s).toArray 33)).alloc (.cells (row .u8 k) 23)) W → W.cell? ⟨H, 34, none⟩ = some v ∧ W.rangeAt w.heap.size 0 (dotC a s) ∧ Holds W (w.heap.size + 1) .u8 23 k ∧ RingAt W base H own seed b M v L ∧ Below w.heap.size w W) := ⟨fun W hb => by
  have h1 := (hR0.far hb).box.cell 34
  rw [ringC_added _ _ _ _ hs32] at h1
  have h2 := (hd0.congr (hb.block _ hd0.lt)).range 0 2
  exact ⟨h1, h2, hk0.below hb hk0.lt, hR0.far hb, hB.trans (hb.mono hB.size)⟩⟩
 have HX : Veil (∃ xv cv, v = .slice xv L.length cv) := ⟨hR.added.isSlice⟩
 have HHOLD : Veil (∀ W, Below w.heap.size w W → RingAt W base H own seed b M v L → Calls Tryz.prog 30 #[.pointer (some ⟨H, 0, none⟩), .agg (dotC a s).toArray, .agg (row .u8 k)] W fun e w' => (∃ r, e = .returned r) ∧ ∃ v', RingAt w' base H own seed b (putK M a s k) v' (L ++ [(a, s)]) ∧ Turn (ringP H b v) w w' ∧ (v'.ownBlock = v.ownBlock ∨ ∃ g, v'.ownBlock = some g ∧ w.heap.size ≤ g)) := ⟨fun W hb hr => (hold_any base H own seed b M v L a s k W hr hl ho hk (Nat.le_trans hbase hb.size)).mono fun e w' ⟨h1, v', h2, h3, h4⟩ => ⟨h1, v', h2, (Turn.of_below hb).trans h3, h4.imp id fun ⟨g, h5, h6⟩ => ⟨g, h5, Nat.le_trans hb.size h6⟩⟩⟩
 obtain ⟨P1, hP1⟩ : ∃ p, p = (fun (e : Ending) (w' : World) => (∃ r, e = .returned r) ∧ ∃ v', RingAt w' base H own seed b (putK M a s k) v' (L ++ [(a, s)]) ∧ Turn (ringP H b v) w w' ∧ (v'.ownBlock = v.ownBlock ∨ ∃ g, v'.ownBlock = some g ∧ w.heap.size ≤ g)) := ⟨_, rfl⟩
 have HP1 : Veil (∀ r w', P1 (.returned r) w' → ∃ v', RingAt w' base H own seed b (putK M a s k) v' (L ++ [(a, s)]) ∧ Turn (ringP H b v) w w' ∧ (v'.ownBlock = v.ownBlock ∨ ∃ g, v'.ownBlock = some g ∧ w.heap.size ≤ g)) := ⟨fun r w' h => by rw [hP1] at h; exact h.2⟩
 have HP2 : Veil (∀ e w', P1 e w' → ∃ r, e = .returned r) := ⟨fun e w' h => by rw [hP1] at h; exact h.1⟩
 rw [← hP1] at HHOLD
 clear hP1 hR hR0 hd0 hk0
 obtain ⟨n, hn⟩ : ∃ n, L.length = n := ⟨_, rfl⟩
 have hli : (n : Int) < 16 := by omega
 obtain ⟨xv, cv, hv⟩ := HX.out
 rw [hn] at hv
 clear hn HX
 go_enter Tryz.func9, Tryz.ntmps9
 go_upto_region 5 with (first
  | (refine wpList_ldv rfl 33 _ rfl _ _ rfl (dotC a s) rD Tryz.underlying33 rfl sizeDotK ?_)
  | (go_at_call 15; refine hh.mono ?_; rintro e w1 ⟨rfl, hb1⟩))
 obtain ⟨c34, rD1, hk1, hR1, hB1⟩ := HC.out w1 hb1
 have hhold := HHOLD.out w1 hB1 hR1
 rw [hv] at c34
 clear HC HHOLD hR1 hB1 hb1 hh rD hB hv
 go_wp2_with (first
  | (refine wpList_ldv rfl 33 _ rfl _ _ rfl (dotC a s) rD1 Tryz.underlying33 rfl sizeDotK ?_)
  | (refine wpList_ld rfl 23 _ rfl _ rfl hk1 Tryz.underlying23 sizeKeyD hk ?_)
  | (go_at_call 30; refine hhold.mono ?_; intro e w2 hp2; obtain ⟨r, rfl⟩ := HP2.out e w2 hp2; have h3 := HP1.out r w2 hp2))
 go_ret
 exact ⟨rfl, h3⟩
end
theorem PartsAt.new (w : World) (t : TypeId) (ps : List Part) (hb : ∀ j (hj : j < ps.length), Bytes w (ps[j]).x (ps[j]).len (ps[j]).cap (ps[j]).z) : PartsAt (w.alloc (.cells (ps.map Part.val).toArray t)) w.heap.size ps :=
 ⟨fun j hj => by
  rw [cell_of_row _ w.heap.size j _ t _ (heap_alloc_new w _)]
  simp [hj], fun j hj => (hb j hj).below ((Below.refl _ _).alloc (Nat.le_refl _) _)⟩
theorem parts6 {w : World} (p0 p1 p2 p3 p4 p5 : Part) (h0 : Bytes w p0.x p0.len p0.cap p0.z) (h1 : Bytes w p1.x p1.len p1.cap p1.z) (h2 : Bytes w p2.x p2.len p2.cap p2.z) (h3 : Bytes w p3.x p3.len p3.cap p3.z) (h4 : Bytes w p4.x p4.len p4.cap p4.z) (h5 : Bytes w p5.x p5.len p5.cap p5.z) :
    ∀ j (hj : j < [p0, p1, p2, p3, p4, p5].length), Bytes w ([p0, p1, p2, p3, p4, p5][j]).x ([p0, p1, p2, p3, p4, p5][j]).len ([p0, p1, p2, p3, p4, p5][j]).cap ([p0, p1, p2, p3, p4, p5][j]).z
 | 0, _ => h0 | 1, _ => h1 | 2, _ => h2 | 3, _ => h3 | 4, _ => h4 | 5, _ => h5
 | j + 6, h => absurd h (by simp)
theorem parts2 {w : World} (p0 p1 : Part) (h0 : Bytes w p0.x p0.len p0.cap p0.z) (h1 : Bytes w p1.x p1.len p1.cap p1.z) :
    ∀ j (hj : j < [p0, p1].length), Bytes w ([p0, p1][j]).x ([p0, p1][j]).len ([p0, p1][j]).cap ([p0, p1][j]).z
 | 0, _ => h0 | 1, _ => h1
 | j + 2, h => absurd h (by simp)
set_option maxHeartbeats 2000000 in
theorem framed_any (x : Option Addr) (len cap : Nat) (o : List Int) (y : Option Addr) (lb cb : Nat) (s : List Int) (w : World) (hx : Bytes w x len cap o) (hy : Bytes w y lb cb s) (hl1 : len ≤ 100000) (hl2 : lb ≤ 100000) :
    Calls Tryz.prog 62 #[.slice x len cap, .slice y lb cb] w fun e w' => ∃ v, e = .returned v ∧ OwnB w' w.heap.size v (framedL o s) ∧ Below w.heap.size w w' := by
 have h1 := lengthOf_any x len cap o w hx
 have h2 := fun wx (hb : Below w.heap.size w wx) => lengthOf_any y lb cb s wx (hy.below hb)
 have hL1 := le8_length len
 have hL2 := le8_length lb
 have hxl := hx.len_eq
 have hyl := hy.len_eq
 have HF : Veil (∀ f1 f2 g1 g2, allZ [⟨x, len, cap, o⟩, ⟨some ⟨f1, 0, none⟩, fillN len, fillN len, zerosL (fillN len)⟩, ⟨y, lb, cb, s⟩, ⟨some ⟨f2, 0, none⟩, fillN lb, fillN lb, zerosL (fillN lb)⟩, ⟨some ⟨g1, 0, none⟩, 8, 8, le8 len⟩, ⟨some ⟨g2, 0, none⟩, 8, 8, le8 lb⟩] = framedL o s) := ⟨fun f1 f2 g1 g2 => by
  unfold framedL
  rw [← hxl, ← hyl]
  simp [allZ]⟩
 have HL : Veil ((framedL o s).length ≤ 1000000) := ⟨by rw [framedL_length]; have := fillN_lt o.length; have := fillN_lt s.length; omega⟩
 have hF1 := fillN_lt len
 have hF2 := fillN_lt lb
 have hZ1 := zerosL_length (fillN len)
 have hZ2 := zerosL_length (fillN lb)
 have ff1 := fun wx (hb : Bytes wx x len cap o) => afill_any x len cap o wx hb
 have ff2 := fun wx (hb : Bytes wx y lb cb s) => afill_any y lb cb s wx hb
 obtain ⟨F1, hF1e⟩ : ∃ q, fillN len = q := ⟨_, rfl⟩
 obtain ⟨F2, hF2e⟩ : ∃ q, fillN lb = q := ⟨_, rfl⟩
 rw [hF1e] at HF hF1 hZ1 ff1
 rw [hF2e] at HF hF2 hZ2 ff2
 obtain ⟨A, hA⟩ : ∃ q, le8 len = q := ⟨_, rfl⟩
 obtain ⟨B, hBe⟩ : ∃ q, le8 lb = q := ⟨_, rfl⟩
 rw [hA] at h1 hL1 HF
 rw [hBe] at h2 hL2 HF
 clear hxl hyl hF1e hF2e hA hBe
 go_enter Tryz.func62, Tryz.ntmps62
 go_upto_region 2 with (first
  | (go_at_call 84; refine h1.mono ?_; rintro e w1 ⟨rfl, hb1⟩; have h2' := h2 w1 hb1; clear h1)
  | (go_at_call 84; refine h2'.mono ?_; rintro e w2 ⟨rfl, hb2⟩; have hN1 := (Holds.new w2 .u8 129 (List.replicate 8 0)).alloc (.cells (row .u8 (List.replicate 8 0)) 129); have hN2 := (show Holds ((w2.alloc (.cells (row .u8 (List.replicate 8 0)) 129)).alloc (.cells (row .u8 (List.replicate 8 0)) 129)) (w2.heap.size + 1) .u8 129 (List.replicate 8 0) from (by have := Holds.new (w2.alloc (.cells (row .u8 (List.replicate 8 0)) 129)) .u8 129 (List.replicate 8 0); rw [World.size_alloc] at this; exact this)); have hN3 := hN2.setRowOther (g' := w2.heap.size) (row .u8 A) (by omega))
  | (refine wpList_st rfl 129 _ _ rfl _ rfl rfl hN1 (by rw [hL1]; exact size8b) (by simp [hL1]) ?_)
  | (refine wpList_st rfl 129 _ _ rfl _ rfl rfl hN3 (by rw [hL2]; exact size8b) (by simp [hL2]) ?_))
 have hB2 : Below w.heap.size w w2 := hb1.trans (hb2.mono hb1.size)
 refine forget (p := fun y => Code.wp _ _ _ _ y) (fun W3 => Below w.heap.size w W3 ∧ Holds W3 w2.heap.size .u8 129 A ∧ Holds W3 (w2.heap.size + 1) .u8 129 B) ⟨below_setRow (below_setRow ((hB2.alloc hB2.size _).alloc (by have := hB2.size; simp; omega) _) hB2.size _) (by have := hB2.size; omega) _, (hN1.setRow _).setRowOther _ (by omega), hN3.setRow _⟩ ?_
 have hsz2 := hB2.size
 obtain ⟨G, hG⟩ : ∃ q, w2.heap.size = q := ⟨_, rfl⟩
 rw [hG] at hsz2 ⊢
 clear hN1 hN2 hN3 hb1 hb2 hB2 h2 h2' hG
 rintro W3 ⟨hB3, hG1, hG2⟩
 have hx3 := (hx.below hB3).below (Below.refl _ _).drew
 have hB3d : Below w.heap.size w W3.drew := hB3.drew
 have hG1d := hG1.drew
 have hG2d := hG2.drew
 refine wp_region_gate (fun _ => True) 10 (by kernel_rfl) ?_
 have hS : (fun _ : World => True) W3.drew := trivial
 refine gaA 0 _ hS ?_
 simp only [Act.put, sI, sZ, sS]
 refine gaA 1 _ hS ?_
 simp only [Act.put, sI, sZ, sS]
 refine gaA 3 _ hS ?_
 simp only [Act.put, sI, sZ, sS]
 refine gaA 4 _ hS ?_
 simp only [Act.put, sI, sZ, sS]
 refine gaA 6 _ hS ?_
 simp only [Act.put, sI, sZ, sS]
 refine gaA 7 _ hS ?_
 simp only [Act.put, sI, sZ, sS]
 obtain ⟨W4, hW4⟩ : ∃ W, W = W3.drew := ⟨_, rfl⟩
 rw [← hW4] at hx3 hB3d hG1d hG2d ⊢
 clear hG1 hG2 hB3 hW4
 have hy4 := hy.below hB3d
 refine wpAnyG_one (i := 2) rfl (by kernel_rfl) (by kernel_rfl) (fun K hK => ?_)
 go_wp2_with (go_at_call 85; refine (ff1 _ hx3).mono ?_; rintro e w5 ⟨rfl, hZ5, hb5⟩)
 have hy5 := hy4.below hb5
 clear hy4
 refine hK.out _ _ (fun _ => hS) ?_
 clear hK K
 refine wpAnyG_one (i := 5) rfl (by kernel_rfl) (by kernel_rfl) (fun K hK => ?_)
 go_wp2_with (go_at_call 85; refine (ff2 _ hy5).mono ?_; rintro e w6 ⟨rfl, hZ6, hb6⟩)
 have hb46 : Below W4.heap.size W4 w6 := hb5.trans (hb6.mono hb5.size)
 have hZ56 := hZ5.below hb6 hZ5.lt
 have hx6 := hx3.below hb46
 have hy6 := hy5.below hb6
 have hG16 := hG1d.below hb46 hG1d.lt
 have hG26 := hG2d.below hb46 hG2d.lt
 have hB6 : Below w.heap.size w w6 := hB3d.trans (hb46.mono hB3d.size)
 clear hZ5 hy5 hx3 hG1d hG2d
 refine hK.out _ _ (fun _ => hS) ?_
 clear hK K
 obtain ⟨f1, hf1⟩ : ∃ q, W4.heap.size = q := ⟨_, rfl⟩
 obtain ⟨f2, hf2⟩ : ∃ q, w5.heap.size = q := ⟨_, rfl⟩
 rw [hf1] at hZ56 ⊢
 rw [hf2] at hZ6 ⊢
 have hPA := PartsAt.new w6 74 [⟨x, len, cap, o⟩, ⟨some ⟨f1, 0, none⟩, F1, F1, zerosL F1⟩, ⟨y, lb, cb, s⟩, ⟨some ⟨f2, 0, none⟩, F2, F2, zerosL F2⟩, ⟨some ⟨G, 0, none⟩, 8, 8, A⟩, ⟨some ⟨G + 1, 0, none⟩, 8, 8, B⟩] (parts6 _ _ _ _ _ _ hx6 (hZ56.bytes hZ1.symm (by omega)) hy6 (hZ6.bytes hZ2.symm (by omega)) (hG16.bytes hL1.symm (by omega)) (hG26.bytes hL2.symm (by omega)))
 have hj := joined_any w6.heap.size 6 _ _ hPA rfl (by omega) (by unfold sumN; rw [HF.out]; exact HL.out)
 rw [HF.out] at hj
 have hB7 := hB6.alloc hB6.size (.cells #[Value.slice x len cap, .slice (some ⟨f1, 0, none⟩) F1 F1, .slice y lb cb, .slice (some ⟨f2, 0, none⟩) F2 F2, .slice (some ⟨G, 0, none⟩) 8 8, .slice (some ⟨G + 1, 0, none⟩) 8 8] 74)
 have hsz7 := hB6.size
 clear hPA hZ56 hZ6 hx6 hy6 hG16 hG26 hb46 hb5 hb6 hB3d ff1 ff2 hf1 hf2
 refine wpAnyG_one (i := 8) rfl (by kernel_rfl) (by kernel_rfl) (fun K hK => ?_)
 go_simp
 refine hK.out _ _ (fun _ => hS) ?_
 clear hK K
 refine wpAnyG_one (i := 9) rfl (by kernel_rfl) (by kernel_rfl) (fun K hK => ?_)
 go_wp2_with (go_at_call 50; refine hj.mono ?_; rintro e w8 ⟨v8, rfl, ho8, hb8⟩)
 refine hK.out _ _ (fun _ => hS) ?_
 clear hK K
 refine wpAnyG_one (i := 10) rfl (by kernel_rfl) (by kernel_rfl) (fun K hK => ?_)
 go_simp
 refine hK.out _ _ (fun h => absurd (show true = false from h) (by decide)) ?_
 clear hK K
 refine wpAnyG_done (by kernel_rfl) ?_ _
 go_wp2
 go_ret
 exact ⟨_, rfl, ho8.lessG (by simp; omega), hB7.trans (hb8.mono hB7.size)⟩
theorem wpList_ldr {P : Program} {ops : Array Oper} {rest : List Oper} {o : Oper} {a : Act} {w : World} {Q : Exit → Act → World → Prop} (hgd : o.guard = none) (ty : TypeId) (x : Operand) (ho : o.op = .load ty x)
    (g off : Nat) (hx : a.eval x = .pointer (some ⟨g, off, none⟩)) {k : IntKind} {l : List Int} (hg : w.rangeAt g off (l.map (Value.int k))) {n : Nat} {e : TypeId}
    (hu : P.underlying ty = some (.array n e)) (hi : (P.info? ty).map (·.size) = some n) (hl : l.length = n)
    (h : wpList P ops Q rest (a.put o.dst (.agg (row k l))) w) : wpList P ops Q (o :: rest) a w :=
 wpList_plain hgd fun _ hK => wp_load_mid ty x ho g off hx (l.map (Value.int k)) _ hg hu rfl (by rw [hi, List.length_map, hl]) (hK _ _ h)
theorem Holds.rangeSub {w : World} {g : Nat} {k : IntKind} {t : TypeId} {l : List Int} (h : Holds w g k t l) (n : Nat) : w.rangeAt g 0 ((l.take n).map (Value.int k)) := fun j v hv => by
 rw [List.getElem?_map, List.getElem?_take] at hv
 refine h.rangeAll j v ?_
 rw [List.getElem?_map]
 split at hv
 · exact hv
 · simp at hv
theorem sizeK : (Tryz.prog.info? 23).map (·.size) = some 32 := by kernel_rfl
theorem sizeN : (Tryz.prog.info? 78).map (·.size) = some 12 := by kernel_rfl
theorem sizeT : (Tryz.prog.info? 87).map (·.size) = some 16 := by kernel_rfl
theorem sizeB64 : (Tryz.prog.info? 98).map (·.size) = some 64 := by kernel_rfl
set_option maxHeartbeats 2000000 in
theorem onetime_any (k n : List Int) (w : World) (hk : k.length = 32) (hn : n.length = 12) :
    Calls Tryz.prog 61 #[.agg (row .u8 k), .agg (row .u8 n)] w fun e w' => e = .returned (.agg (row .u8 (onceL k n))) ∧ Below w.heap.size w w' := by
 have hblk := fun wx => block_any k n 0 wx hk hn
 have hBl := blockL_length k n 0
 have hOl := onceL_length k n
 have HO : Veil (onceL k n = (blockL k n 0).take 32) := ⟨rfl⟩
 obtain ⟨B, hB⟩ : ∃ q, blockL k n 0 = q := ⟨_, rfl⟩
 obtain ⟨O, hO⟩ : ∃ q, onceL k n = q := ⟨_, rfl⟩
 rw [hB] at hblk hBl HO
 rw [hO] at hOl HO ⊢
 have hK0 := ((Holds.new w .u8 23 k).alloc (.cells (row .u8 n) 78)).alloc (.cells (row .u8 (List.replicate 32 0)) 23)
 have hN0 := (Holds.new (w.alloc (.cells (row .u8 k) 23)) .u8 78 n).alloc (.cells (row .u8 (List.replicate 32 0)) 23)
 have hR0 := Holds.new ((w.alloc (.cells (row .u8 k) 23)).alloc (.cells (row .u8 n) 78)) .u8 23 (List.replicate 32 0)
 have hB0 : Below w.heap.size w (((w.alloc (.cells (row .u8 k) 23)).alloc (.cells (row .u8 n) 78)).alloc (.cells (row .u8 (List.replicate 32 0)) 23)) := (((Below.refl _ _).alloc (Nat.le_refl _) _).alloc (by simp) _).alloc (by simp; omega) _
 rw [World.size_alloc] at hN0 hR0
 rw [World.size_alloc] at hR0
 clear hB hO
 go_enter Tryz.func61, Tryz.ntmps61
 go_upto_region 1 with fail
 refine forget (p := fun y => Code.wp _ _ _ _ y) (fun W0 => Below w.heap.size w W0 ∧ Holds W0 w.heap.size .u8 23 k ∧ Holds W0 (w.heap.size + 1) .u8 78 n ∧ Holds W0 (w.heap.size + 1 + 1) .u8 23 (List.replicate 32 0)) ⟨hB0, hK0, hN0, hR0⟩ ?_
 clear hK0 hN0 hR0 hB0
 rintro W0 ⟨hB0, hK0, hN0, hR0⟩
 go_upto_region 2 with (first
  | (refine wpList_ld rfl 23 _ rfl _ rfl hK0 Tryz.underlying23 sizeK hk ?_)
  | (refine wpList_ld rfl 78 _ rfl _ rfl hN0 Tryz.underlying78 sizeN hn ?_)
  | (go_at_call 59; refine (hblk _).mono ?_; rintro e w1 ⟨rfl, hb1⟩; have hN1 := Holds.new w1 .u8 98 (List.replicate 64 0))
  | (refine wpList_st rfl 98 _ _ rfl _ rfl rfl hN1 (by rw [hBl]; exact sizeB64) (by simp [hBl]) ?_))
 have hB1 : Below w.heap.size w w1 := hB0.trans (hb1.mono hB0.size)
 have hR1 := hR0.below hb1 hR0.lt
 have hlt := hR1.lt
 have hlt0 := hR0.lt
 have hG2 := hN1.setRow B
 have hR2 := (hR1.alloc (.cells (row .u8 (List.replicate 64 0)) 98)).setRowOther (g' := w1.heap.size) (row .u8 B) (by omega)
 have hB2 := below_setRow (g := w1.heap.size) (hB1.alloc hB1.size (.cells (row .u8 (List.replicate 64 0)) 98)) hB1.size (row .u8 B)
 refine forget (p := fun y => Code.wp _ _ _ _ y) (fun W2 => Below w.heap.size w W2 ∧ Holds W2 w1.heap.size .u8 98 B ∧ Holds W2 (w.heap.size + 1 + 1) .u8 23 (List.replicate 32 0)) ⟨hB2, hG2, hR2⟩ ?_
 obtain ⟨G, hG⟩ : ∃ q, w1.heap.size = q := ⟨_, rfl⟩
 rw [hG]
 clear hB1 hR1 hlt hlt0 hG2 hR2 hB2 hN1 hb1 hB0 hK0 hN0 hR0 hG hblk
 rintro W2 ⟨hB2, hG2, hR2⟩
 have hat : ∀ (b off cap : Nat) (wx : World), (Instr.arrayAt 23 (.slice (some ⟨b, off, none⟩) 32 cap)).run Tryz.prog wx = .ok (.pointer (some ⟨b, off, none⟩)) wx := fun b off cap wx => run_arrayAt wx 23 _ 32 _ 32 cap Tryz.underlying23 (by omega)
 have hrg := hG2.rangeSub 32
 rw [← HO.out] at hrg
 go_wp2_with (first
  | (refine wpList_ldr rfl 23 _ rfl _ _ rfl hrg Tryz.underlying23 sizeK hOl ?_)
  | (refine wpList_st rfl 23 _ _ rfl _ rfl rfl hR2 (by rw [hOl]; exact sizeK) (by simp [hOl]) ?_))
 refine bodyPost_ret (results_holds (Tryz.results61) _ rfl (hR2.setRow _) Tryz.underlying23 sizeK hOl) rfl ⟨rfl, ?_⟩
 exact below_setRow hB2 (by omega) _
set_option maxHeartbeats 2000000 in
theorem tagOf_any (k n : List Int) (x : Option Addr) (len cap : Nat) (o : List Int) (y : Option Addr) (lb cb : Nat) (s : List Int) (w : World) (hk : k.length = 32) (hn : n.length = 12) (hx : Bytes w x len cap o) (hy : Bytes w y lb cb s) (hl1 : len ≤ 100000) (hl2 : lb ≤ 100000) :
    Calls Tryz.prog 49 #[.agg (row .u8 k), .agg (row .u8 n), .slice x len cap, .slice y lb cb] w fun e w' => e = .returned (.agg (row .u8 (tagL k n o s))) ∧ Below w.heap.size w w' := by
 have hon := fun wx => onetime_any k n wx hk hn
 have hOl := onceL_length k n
 have hTl : (tagL k n o s).length = 16 := polyL_length _ _
 have HL : Veil ((framedL o s).length ≤ 1000000) := ⟨by rw [framedL_length, ← hx.len_eq, ← hy.len_eq]; have := fillN_lt len; have := fillN_lt lb; omega⟩
 have hfr := fun wx (hb : Below w.heap.size w wx) => framed_any x len cap o y lb cb s wx (hx.below hb) (hy.below hb) hl1 hl2
 have hps : ∀ (v : Value) (base : Nat) (wx : World), OwnB wx base v (framedL o s) → Calls Tryz.prog 60 #[.agg (row .u8 (onceL k n)), v] wx fun e w' => e = .returned (.agg (row .u8 (tagL k n o s))) ∧ Below wx.heap.size wx w' := fun v base wx ho => by
  obtain ⟨x', n', c', rfl, hn'⟩ := ho.isSlice
  exact psum_any (onceL k n) x' n' c' (framedL o s) wx hOl ho.bytes.2 (by rw [hn']; exact HL.out)
 obtain ⟨O, hO⟩ : ∃ q, onceL k n = q := ⟨_, rfl⟩
 obtain ⟨T, hT⟩ : ∃ q, tagL k n o s = q := ⟨_, rfl⟩
 obtain ⟨F, hF⟩ : ∃ q, framedL o s = q := ⟨_, rfl⟩
 rw [hO] at hon hps
 rw [hT] at hps hTl ⊢
 rw [hF] at hfr hps
 have hK0 := ((Holds.new w .u8 23 k).alloc (.cells (row .u8 n) 78)).alloc (.cells (row .u8 (List.replicate 16 0)) 87)
 have hN0 := (Holds.new (w.alloc (.cells (row .u8 k) 23)) .u8 78 n).alloc (.cells (row .u8 (List.replicate 16 0)) 87)
 have hR0 := Holds.new ((w.alloc (.cells (row .u8 k) 23)).alloc (.cells (row .u8 n) 78)) .u8 87 (List.replicate 16 0)
 have hB0 : Below w.heap.size w (((w.alloc (.cells (row .u8 k) 23)).alloc (.cells (row .u8 n) 78)).alloc (.cells (row .u8 (List.replicate 16 0)) 87)) := (((Below.refl _ _).alloc (Nat.le_refl _) _).alloc (by simp) _).alloc (by simp; omega) _
 rw [World.size_alloc] at hN0 hR0
 rw [World.size_alloc] at hR0
 clear hO hT hF HL hOl hx hy
 go_enter Tryz.func49, Tryz.ntmps49
 go_upto_region 1 with fail
 refine forget (p := fun y => Code.wp _ _ _ _ y) (fun W0 => Below w.heap.size w W0 ∧ Holds W0 w.heap.size .u8 23 k ∧ Holds W0 (w.heap.size + 1) .u8 78 n ∧ Holds W0 (w.heap.size + 1 + 1) .u8 87 (List.replicate 16 0)) ⟨hB0, hK0, hN0, hR0⟩ ?_
 clear hK0 hN0 hR0 hB0
 rintro W0 ⟨hB0, hK0, hN0, hR0⟩
 go_wp2_with (first
  | (refine wpList_ld rfl 23 _ rfl _ rfl hK0 Tryz.underlying23 sizeK hk ?_)
  | (refine wpList_ld rfl 78 _ rfl _ rfl hN0 Tryz.underlying78 sizeN hn ?_)
  | (go_at_call 61; refine (hon _).mono ?_; rintro e w1 ⟨rfl, hb1⟩; have hB1 : Below w.heap.size w w1 := hB0.trans (hb1.mono hB0.size))
  | (go_at_call 62; refine (hfr _ hB1).mono ?_; rintro e w2 ⟨v2, rfl, ho2, hb2⟩; have hs2 := hps v2 _ w2 ho2)
  | (go_at_call 60; refine hs2.mono ?_; rintro e w3 ⟨rfl, hb3⟩; have hB13 : Below W0.heap.size W0 w3 := (hb1.trans (hb2.mono hb1.size)).trans (hb3.mono (hb1.trans (hb2.mono hb1.size)).size); have hR3 := hR0.below hB13 hR0.lt)
  | (refine wpList_st rfl 87 _ _ rfl _ rfl rfl hR3 (by rw [hTl]; exact sizeT) (by simp [hTl]) ?_))
 refine bodyPost_ret (results_holds (Tryz.results49) _ rfl (hR3.setRow _) Tryz.underlying87 sizeT hTl) rfl ⟨rfl, ?_⟩
 exact below_setRow (hB0.trans (hB13.mono hB0.size)) (by omega) _
set_option maxHeartbeats 2000000 in
theorem seal_any (k n : List Int) (x : Option Addr) (len cap : Nat) (o : List Int) (y : Option Addr) (lb cb : Nat) (b : List Int) (w : World) (hk : k.length = 32) (hn : n.length = 12) (hx : Bytes w x len cap o) (hy : Bytes w y lb cb b) (hl1 : len ≤ 100000) (hl2 : lb ≤ 100000) :
    Calls Tryz.prog 36 #[.agg (row .u8 k), .agg (row .u8 n), .slice x len cap, .slice y lb cb] w fun e w' => ∃ v, e = .returned v ∧ OwnB w' w.heap.size v (sealL k n o b) ∧ Below w.heap.size w w' := by
 have hxor := fun wx (hb : Below w.heap.size w wx) => xor_any k n 1 y lb cb b wx hk hn ⟨by decide, by decide⟩ (hy.below hb) (by omega)
 have hXl : (xorL k n 1 b).length = lb := by rw [xorL_length]; exact hy.len_eq.symm
 have HSE : Veil (∀ p0 p1, allZ [⟨p0, lb, lb, xorL k n 1 b⟩, ⟨p1, 16, 16, tagL k n o (xorL k n 1 b)⟩] = sealL k n o b) := ⟨fun p0 p1 => by simp [allZ, sealL]⟩
 have hTl : (tagL k n o (xorL k n 1 b)).length = 16 := polyL_length _ _
 have HSL : Veil ((sealL k n o b).length ≤ 1000000) := ⟨by unfold sealL; rw [List.length_append, hXl, hTl]; omega⟩
 have htag := fun (g : Nat) wx (hb : Below w.heap.size w wx) (hh : Bytes wx (some ⟨g, 0, none⟩) lb lb (xorL k n 1 b)) => tagOf_any k n x len cap o (some ⟨g, 0, none⟩) lb lb (xorL k n 1 b) wx hk hn (hx.below hb) hh hl1 hl2
 obtain ⟨X, hX⟩ : ∃ q, xorL k n 1 b = q := ⟨_, rfl⟩
 rw [hX] at hxor hXl HSE hTl htag
 obtain ⟨T, hT⟩ : ∃ q, tagL k n o X = q := ⟨_, rfl⟩
 rw [hT] at HSE hTl htag
 have hK0 := (Holds.new w .u8 23 k).alloc (.cells (row .u8 n) 78)
 have hN0 := Holds.new (w.alloc (.cells (row .u8 k) 23)) .u8 78 n
 have hB0 : Below w.heap.size w ((w.alloc (.cells (row .u8 k) 23)).alloc (.cells (row .u8 n) 78)) := ((Below.refl _ _).alloc (Nat.le_refl _) _).alloc (by simp) _
 rw [World.size_alloc] at hN0
 clear hX hT hx hy
 go_enter Tryz.func36, Tryz.ntmps36
 go_upto_region 1 with fail
 refine forget (p := fun y => Code.wp _ _ _ _ y) (fun W0 => Below w.heap.size w W0 ∧ Holds W0 w.heap.size .u8 23 k ∧ Holds W0 (w.heap.size + 1) .u8 78 n) ⟨hB0, hK0, hN0⟩ ?_
 clear hK0 hN0 hB0
 rintro W0 ⟨hB0, hK0, hN0⟩
 go_upto_region 2 with (first
  | (refine wpList_ld rfl 23 _ rfl _ rfl hK0 Tryz.underlying23 sizeK hk ?_)
  | (refine wpList_ld rfl 78 _ rfl _ rfl hN0 Tryz.underlying78 sizeN hn ?_)
  | (go_at_call 48; refine (hxor _ hB0).mono ?_; rintro e w1 ⟨g1, rfl, hg1, hH1, hb1⟩))
 have hB1 : Below w.heap.size w w1 := hB0.trans (hb1.mono hB0.size)
 have hK1 := hK0.below hb1 hK0.lt
 have hN1 := hN0.below hb1 hN0.lt
 have hBy1 : Bytes w1 (some ⟨g1, 0, none⟩) lb lb X := hH1.bytes hXl.symm (by omega)
 have htg := htag g1 w1 hB1 hBy1
 clear hxor htag hK0 hN0
 go_upto_region 3 with (first
  | (refine wpList_ld rfl 23 _ rfl _ rfl hK1 Tryz.underlying23 sizeK hk ?_)
  | (refine wpList_ld rfl 78 _ rfl _ rfl hN1 Tryz.underlying78 sizeN hn ?_)
  | (go_at_call 49; refine htg.mono ?_; rintro e w2 ⟨rfl, hb2⟩; have hA2 := Holds.new w2 .u8 87 (List.replicate 16 0))
  | (refine wpList_st rfl 87 _ _ rfl _ rfl rfl hA2 (by rw [hTl]; exact sizeT) (by simp [hTl]) ?_))
 have hB2 : Below w.heap.size w w2 := hB1.trans (hb2.mono hB1.size)
 have hBy2 := hBy1.below hb2
 have hB3 := below_setRow (g := w2.heap.size) (hB2.alloc hB2.size (.cells (row .u8 (List.replicate 16 0)) 87)) hB2.size (row .u8 T)
 have hBy3 : Bytes ((w2.alloc (.cells (row .u8 (List.replicate 16 0)) 87)).setRow w2.heap.size (row .u8 T)) (some ⟨g1, 0, none⟩) lb lb X := hBy2.below (below_setRow ((Below.refl _ _).alloc (Nat.le_refl _) _) (Nat.le_refl _) _)
 refine forget (p := fun y => Code.wp _ _ _ _ y) (fun W3 => Below w.heap.size w W3 ∧ Holds W3 w2.heap.size .u8 87 T ∧ Bytes W3 (some ⟨g1, 0, none⟩) lb lb X) ⟨hB3, hA2.setRow _, hBy3⟩ ?_
 obtain ⟨G, hG⟩ : ∃ q, w2.heap.size = q := ⟨_, rfl⟩
 rw [hG]
 clear hB2 hBy2 hB3 hBy3 hA2 hb2 hB1 hK1 hN1 hBy1 htg hb1 hH1 hg1 hB0 hG
 rintro W3 ⟨hB3, hG3, hBy3⟩
 have hPA := PartsAt.new W3 74 [⟨some ⟨g1, 0, none⟩, lb, lb, X⟩, ⟨some ⟨G, 0, none⟩, 16, 16, T⟩] (parts2 _ _ hBy3 (hG3.bytes hTl.symm (by omega)))
 have hj := joined_any W3.heap.size 2 _ _ hPA rfl (by omega) (by unfold sumN; rw [HSE.out]; exact HSL.out)
 rw [HSE.out] at hj
 have hB4 := hB3.alloc hB3.size (.cells #[Value.slice (some ⟨g1, 0, none⟩) lb lb, .slice (some ⟨G, 0, none⟩) 16 16] 74)
 have hsz := hB3.size
 clear hPA hBy3 hG3 hB3
 go_wp2_with (go_at_call 50; refine hj.mono ?_; rintro e w5 ⟨v5, rfl, ho5, hb5⟩)
 go_ret
 exact ⟨_, rfl, ho5.lessG (by simp; omega), hB4.trans (hb5.mono hB4.size)⟩
end Go.Proofs.YtflkhkmejnpapaaGreatDoor
