/- keys: 'Add'. keys: 'Wrap'. -/
import Derived.Test.YtlalcnmcnkompaaDoorMKy5Ky6
import Derived.Test.YtlalcnmcnkompaaDoorMAn6Gate3
namespace Go.Proofs.YtlalcnmcnkompaaDoor
open Go.RowKit
set_option maxRecDepth 20000
set_option linter.unusedSimpArgs false

section
variable (base H : Nat) (own : Int) (seed : List Int) (b : Nat) (M : Int → Int → Option (List Int)) (v : Value) (L : List (Int × Int)) (w : World)
set_option maxHeartbeats 4000000 in
theorem add_known (a s : Int) (k : List Int) (ho : okD a s) (hR : RingAt w base H own seed b M v L) (hm : (M a s).isSome = true) :
    Calls Tryd.prog 17 #[.pointer (some ⟨H, 0, none⟩), .agg (dotC a s).toArray, .agg (row .u8 k)] w fun e w' => e = .returned (.int .i64 5) ∧ Below w.heap.size w w' := by
  have hB : Below w.heap.size w ((w.alloc (.cells (dotC a s).toArray 36)).alloc (.cells (row .u8 k) 23)) := ((Below.refl _ _).alloc (Nat.le_refl _) _).alloc (by simp) _
  have hd0 := (CellsAt.new w 36 (dotC a s)).alloc (.cells (row .u8 k) 23)
  have hh := rHas_any base H own seed b M v L _ a s ho (hR.far hB)
  rw [hm] at hh
  have rD := hd0.range 0 2
  rw [show ((dotC a s).drop 0).take 2 = dotC a s from rfl] at rD
  go_enter Tryd.func17, Tryd.ntmps17
  go_wp2_with (first
    | (refine wpList_ldv rfl 36 _ rfl _ _ rfl (dotC a s) rD Tryd.underlying36 rfl sizeDotK ?_)
    | (go_at_call 20; refine hh.mono ?_; rintro e w1 ⟨rfl, hb1⟩))
  go_ret
  exact ⟨rfl, hB.trans (hb1.mono hB.size)⟩
set_option maxHeartbeats 4000000 in
theorem add_full (a s : Int) (k : List Int) (ho : okD a s) (hR : RingAt w base H own seed b M v L) (hm : (M a s).isSome = false) (hl : 16 ≤ L.length) :
    Calls Tryd.prog 17 #[.pointer (some ⟨H, 0, none⟩), .agg (dotC a s).toArray, .agg (row .u8 k)] w fun e w' => e = .returned (.int .i64 10) ∧ Below w.heap.size w w' := by
  have hs32 := hR.seed32
  have hB : Below w.heap.size w ((w.alloc (.cells (dotC a s).toArray 36)).alloc (.cells (row .u8 k) 23)) := ((Below.refl _ _).alloc (Nat.le_refl _) _).alloc (by simp) _
  have hd0 := (CellsAt.new w 36 (dotC a s)).alloc (.cells (row .u8 k) 23)
  have hR0 := hR.far hB
  have hh := rHas_any base H own seed b M v L _ a s ho hR0
  rw [hm] at hh
  have rD := hd0.range 0 2
  rw [show ((dotC a s).drop 0).take 2 = dotC a s from rfl] at rD
  have HC : Veil (∀ W : World, Below ((w.alloc (.cells (dotC a s).toArray 36)).alloc (.cells (row .u8 k) 23)).heap.size ((w.alloc (.cells (dotC a s).toArray 36)).alloc (.cells (row .u8 k) 23)) W → W.cell? ⟨H, 34, none⟩ = some v) := ⟨fun W hb => by
    have := (hR0.far hb).box.cell 34
    rw [ringC_added _ _ _ _ hs32] at this
    exact this⟩
  obtain ⟨xv, cv, hv⟩ := hR.added.isSlice
  clear hR hR0
  subst hv
  obtain ⟨n, hn⟩ : ∃ n, L.length = n := ⟨_, rfl⟩
  rw [hn] at HC hl
  clear hn
  have hli : (16 : Int) ≤ (n : Int) := by omega
  go_enter Tryd.func17, Tryd.ntmps17
  go_wp2_with (first
    | (refine wpList_ldv rfl 36 _ rfl _ _ rfl (dotC a s) rD Tryd.underlying36 rfl sizeDotK ?_)
    | (go_at_call 20; refine hh.mono ?_; rintro e w1 ⟨rfl, hb1⟩; have c34 := HC.out w1 hb1))
  go_ret
  exact ⟨rfl, hB.trans (hb1.mono hB.size)⟩
set_option maxHeartbeats 4000000 in
theorem add_ok (a s : Int) (k : List Int) (ho : okD a s) (hk : k.length = 32) (hR : RingAt w base H own seed b M v L) (hm : (M a s).isSome = false) (hl : L.length < 16) (hbase : base ≤ w.heap.size) :
    Calls Tryd.prog 17 #[.pointer (some ⟨H, 0, none⟩), .agg (dotC a s).toArray, .agg (row .u8 k)] w fun e w' => e = .returned (.int .i64 0) ∧ ∃ v', RingAt w' base H own seed b (putK M a s k) v' (L ++ [(a, s)]) ∧ Turn (ringP H b v) w w' ∧ (v'.ownBlock = v.ownBlock ∨ ∃ g, v'.ownBlock = some g ∧ w.heap.size ≤ g) := by
  have hs32 := hR.seed32
  have hB : Below w.heap.size w ((w.alloc (.cells (dotC a s).toArray 36)).alloc (.cells (row .u8 k) 23)) := ((Below.refl _ _).alloc (Nat.le_refl _) _).alloc (by simp) _
  have hd0 := (CellsAt.new w 36 (dotC a s)).alloc (.cells (row .u8 k) 23)
  have hk0 := Holds.new (w.alloc (.cells (dotC a s).toArray 36)) .u8 23 k
  rw [World.size_alloc] at hk0
  have hR0 := hR.far hB
  have hh := rHas_any base H own seed b M v L _ a s ho hR0
  rw [hm] at hh
  have rD := hd0.range 0 2
  rw [show ((dotC a s).drop 0).take 2 = dotC a s from rfl] at rD
  have HC : Veil (∀ W : World, Below ((w.alloc (.cells (dotC a s).toArray 36)).alloc (.cells (row .u8 k) 23)).heap.size ((w.alloc (.cells (dotC a s).toArray 36)).alloc (.cells (row .u8 k) 23)) W → W.cell? ⟨H, 34, none⟩ = some v ∧ W.rangeAt w.heap.size 0 (dotC a s) ∧ Holds W (w.heap.size + 1) .u8 23 k ∧ RingAt W base H own seed b M v L ∧ Below w.heap.size w W) := ⟨fun W hb => by
    have h1 := (hR0.far hb).box.cell 34
    rw [ringC_added _ _ _ _ hs32] at h1
    have h2 := (hd0.congr (hb.block _ hd0.lt)).range 0 2
    exact ⟨h1, h2, hk0.below hb hk0.lt, hR0.far hb, hB.trans (hb.mono hB.size)⟩⟩
  have HX : Veil (∃ xv cv, v = .slice xv L.length cv) := ⟨hR.added.isSlice⟩
  have HHOLD : Veil (∀ W, Below w.heap.size w W → RingAt W base H own seed b M v L → Calls Tryd.prog 28 #[.pointer (some ⟨H, 0, none⟩), .agg (dotC a s).toArray, .agg (row .u8 k)] W fun e w' => (∃ r, e = .returned r) ∧ ∃ v', RingAt w' base H own seed b (putK M a s k) v' (L ++ [(a, s)]) ∧ Turn (ringP H b v) w w' ∧ (v'.ownBlock = v.ownBlock ∨ ∃ g, v'.ownBlock = some g ∧ w.heap.size ≤ g)) := ⟨fun W hb hr => (hold_any base H own seed b M v L a s k W hr hl ho hk (Nat.le_trans hbase hb.size)).mono fun e w' ⟨h1, v', h2, h3, h4⟩ => ⟨h1, v', h2, (Turn.of_below hb).trans h3, h4.imp id fun ⟨g, h5, h6⟩ => ⟨g, h5, Nat.le_trans hb.size h6⟩⟩⟩
  obtain ⟨P1, hP1⟩ : ∃ p, p = (fun (e : Ending) (w' : World) => (∃ r, e = .returned r) ∧ ∃ v', RingAt w' base H own seed b (putK M a s k) v' (L ++ [(a, s)]) ∧ Turn (ringP H b v) w w' ∧ (v'.ownBlock = v.ownBlock ∨ ∃ g, v'.ownBlock = some g ∧ w.heap.size ≤ g)) := ⟨_, rfl⟩
  have HP1 : Veil (∀ r w', P1 (.returned r) w' → ∃ v', RingAt w' base H own seed b (putK M a s k) v' (L ++ [(a, s)]) ∧ Turn (ringP H b v) w w' ∧ (v'.ownBlock = v.ownBlock ∨ ∃ g, v'.ownBlock = some g ∧ w.heap.size ≤ g)) := ⟨fun r w' h => by rw [hP1] at h; exact h.2⟩
  have HP2 : Veil (∀ e w', P1 e w' → ∃ r, e = .returned r) := ⟨fun e w' h => by rw [hP1] at h; exact h.1⟩
  rw [← hP1] at HHOLD
  clear hP1 hR hR0 hd0 hk0
  obtain ⟨n, hn⟩ : ∃ n, L.length = n := ⟨_, rfl⟩
  have hli : (n : Int) < 16 := by omega
  obtain ⟨xv, cv, hv⟩ := HX.out
  rw [hn] at hv
  clear hn HX
  go_enter Tryd.func17, Tryd.ntmps17
  go_upto_region 5 with (first
    | (refine wpList_ldv rfl 36 _ rfl _ _ rfl (dotC a s) rD Tryd.underlying36 rfl sizeDotK ?_)
    | (go_at_call 20; refine hh.mono ?_; rintro e w1 ⟨rfl, hb1⟩))
  obtain ⟨c34, rD1, hk1, hR1, hB1⟩ := HC.out w1 hb1
  have hhold := HHOLD.out w1 hB1 hR1
  rw [hv] at c34
  clear HC HHOLD hR1 hB1 hb1 hh rD hB hv
  go_wp2_with (first
    | (refine wpList_ldv rfl 36 _ rfl _ _ rfl (dotC a s) rD1 Tryd.underlying36 rfl sizeDotK ?_)
    | (refine wpList_ld rfl 23 _ rfl _ rfl hk1 Tryd.underlying23 sizeKeyD hk ?_)
    | (go_at_call 28; refine hhold.mono ?_; intro e w2 hp2; obtain ⟨r, rfl⟩ := HP2.out e w2 hp2; have h3 := HP1.out r w2 hp2))
  go_ret
  exact ⟨rfl, h3⟩
end
end Go.Proofs.YtlalcnmcnkompaaDoor

namespace Go.Proofs.YtlalcnmcnkompaaDoor
open Go.RowKit
set_option maxRecDepth 20000
set_option linter.unusedSimpArgs false

/-- The wrap that is none. -/
def wz : Wp := ⟨0, 0, 0, List.replicate 48 0⟩
theorem wz_built (w : World) : (Instr.build 39 #[]).run Tryd.prog w = .ok (.agg wz.cells.toArray) w := by kernel_rfl
theorem wz_info : (Tryd.prog.info? 39).map (·.zero) = some (some (.agg wz.cells.toArray)) := by kernel_rfl
theorem sizeWrapK : (Tryd.prog.info? 39).map (·.size) = some 51 := by kernel_rfl
theorem wp_cells_length (e : Wp) (h : e.data.length = 48) : e.cells.length = 51 := by simp [Wp.cells, dotC, h]
theorem wp_cells_one (e : Wp) : ∀ u ∈ e.cells, u.oneCell' = true := by
  intro u hu
  unfold Wp.cells dotC at hu
  simp only [List.mem_append, List.mem_cons, List.not_mem_nil, or_false, List.mem_map] at hu
  rcases hu with (rfl | rfl | rfl) | ⟨_, _, rfl⟩ <;> rfl
/-- A wrap with its data laid in. -/
theorem wrap_to (t a s : Int) (w : World) : (Instr.build 39 #[(0, .int .u8 t), (1, .agg (dotC a s).toArray)]).run Tryd.prog w = .ok (.agg (⟨t, a, s, List.replicate 48 0⟩ : Wp).cells.toArray) w := by
  refine run_build w _ _ _ ?_
  rw [built_of wz_info Tryd.underlying39 (by kernel_rfl) (places := [(0, 1), (1, 2), (3, 48)])]
  rw [fill_cons _ _ [.int .u8 t] 0 0 1 _ _ rfl rfl rfl (by decide), show wz.cells.take 0 ++ [.int .u8 t] ++ wz.cells.drop (0 + 1) = (⟨t, 0, 0, List.replicate 48 0⟩ : Wp).cells from rfl]
  rw [fill_cons _ _ (dotC a s) 1 1 2 _ _ rfl rfl rfl (Nat.le_of_ble_eq_true rfl), Instr.fill]
  rfl
/-- What is wrapped. -/
def wrapOf (seed : List Int) (own t a s : Int) (k : List Int) : Wp := ⟨t, a, s, sealL (pairL seed own t) (wrapNL own t a s) [] k⟩
section
variable (base H : Nat) (own : Int) (seed : List Int) (b : Nat) (M : Int → Int → Option (List Int)) (v : Value) (L : List (Int × Int)) (w : World)
set_option maxHeartbeats 4000000 in
theorem wrap_no (t a s : Int) (hR : RingAt w base H own seed b M v L) (hE : refuseE own t ≠ 0) :
    Calls Tryd.prog 18 #[.pointer (some ⟨H, 0, none⟩), .int .u8 t, .agg (dotC a s).toArray] w fun e w' => e = .returned (.tuple #[.agg wz.cells.toArray, .int .i64 (refuseE own t)]) ∧ Below w.heap.size w w' := by
  obtain ⟨Z, hZl, hZ1, hZ, hZb⟩ : ∃ Z : List Value, Z.length = 51 ∧ (∀ u ∈ Z, u.oneCell' = true) ∧ Z = wz.cells ∧ ∀ wx, (Instr.build 39 #[]).run Tryd.prog wx = .ok (.agg Z.toArray) wx := ⟨_, rfl, wp_cells_one wz, rfl, wz_built⟩
  have hB : Below w.heap.size w ((w.alloc (.cells (dotC a s).toArray 36)).alloc (.cells Z.toArray 39)) := ((Below.refl _ _).alloc (Nat.le_refl _) _).alloc (by simp) _
  have hr0 := CellsAt.new (w.alloc (.cells (dotC a s).toArray 36)) 39 Z
  rw [World.size_alloc] at hr0
  obtain ⟨E, hEE⟩ : ∃ E, refuseE own t = E := ⟨_, rfl⟩
  rw [hEE] at hE
  have HE := Veil.mk hEE
  have HZ := Veil.mk hZ
  have HZb := Veil.mk hZb
  have hE0 : (E == 0) = false := by simpa using hE
  go_enter Tryd.func18, Tryd.ntmps18
  go_upto_region 1 with fail
  refine forget (p := fun y => Code.wp _ _ _ _ y) (fun W => Below w.heap.size w W ∧ CellsAt W (w.heap.size + 1) 39 Z) ⟨by rw [hZ] at hB; exact hB, by rw [hZ] at hr0 ⊢; exact hr0⟩ ?_
  clear hB hr0 hZ hZb
  rintro W ⟨hB, hr0⟩
  have hf := refuse_any base H own seed b M v L W t (hR.far hB)
  rw [hEE] at hf
  clear hEE hR
  go_wp2_with (first
    | (go_at_call 31; refine hf.mono ?_; rintro e w1 ⟨rfl, rfl⟩)
    | (refine wpList_bldx rfl 39 _ rfl #[] (by first | rfl | kernel_rfl) _ (HZb.out _) ?_)
    | (refine wpList_stv rfl 39 _ _ rfl _ rfl rfl hr0 (by rw [hZl]; exact sizeWrapK) rfl hZ1 ?_))
  refine bodyPost_ret (results_ct (Tryd.results18) _ rfl rfl (hr0.setRow Z) Tryd.underlying39 rfl (by rw [hZl]; exact sizeWrapK)) rfl ⟨?_, ?_⟩
  · rw [HE.out, ← HZ.out]; rfl
  · exact below_setRow hB (by omega) _
end
end Go.Proofs.YtlalcnmcnkompaaDoor
