/- The reference of wire: 'ReadFrame', what it refuses. (Written by mkrf1.py.) -/
import Derived.Test.YtdfjfafhpjoilaaDoorRgf
import Derived.Test.YtdfjfafhpjoilaaDoorKr
import Derived.Test.YtdfjfafhpjoilaaDoorBu
import Derived.Test.YtdfjfafhpjoilaaDoorEvm
import Derived.Test.YtdfjfafhpjoilaaDoorMGateGate2Gate5
namespace Go.Proofs.YtdfjfafhpjoilaaDoor
open Go.RowKit
set_option maxRecDepth 20000
set_option linter.unusedSimpArgs false

/-- What the reference looks at, in its order. -/
theorem frameAll_iff (z : List Int) (hz : ∀ v ∈ z, b8 v) : frameAll z ↔ (45 ≤ z.length ∧ at1 z 0 = 69 ∧ at1 z 1 = 83 ∧ fN z ≤ 64 ∧ fQ z + 2 ≤ z.length ∧ fM z ≤ 4112 ∧ z.length = fO z + 32) := by
  have h44 := b8_get hz 44
  have e : at1 z 44 = (fN z : Int) := by unfold fN at1; omega
  unfold frameAll frameOk wpsCond bodyCond
  rw [e, Int.toNat_natCast]
  have q : fQ z = 45 + 54 * fN z := rfl
  have o : fO z = fQ z + 2 + fM z := rfl
  have m : told2 z (fQ z) = fM z := rfl
  rw [m]
  constructor
  · rintro ⟨⟨h1, h2, ⟨h3, h4, h5⟩, ⟨h6, h7, h8⟩, h9⟩, h10⟩
    exact ⟨by omega, h1, h2, by omega, by omega, h7, h10⟩
  · rintro ⟨h1, h2, h3, h4, h5, h6, h7⟩
    exact ⟨⟨h2, h3, ⟨by omega, by omega, by omega⟩, ⟨by omega, h6, by omega⟩, by omega⟩, h7⟩
theorem frZ_built (w : World) : (Instr.build 30 #[]).run Tryd.prog w = .ok (.agg frZ.cells.toArray) w := by
  refine run_build w _ _ _ ?_
  rw [built_of frame_zero Tryd.underlying30 (by kernel_rfl) (places := [(0, 1), (1, 1), (2, 2), (4, 32), (36, 1), (37, 1), (38, 32)])]
  rfl
theorem wpList_buildR {P : Program} {ops : Array Oper} {rest : List Oper} {o : Oper} {a : Act} {w : World} {Q : Exit → Act → World → Prop} (hgd : o.guard = none) (t : TypeId) (ho : o.op = .build t #[]) (v : Value)
    (hrun : ∀ wx, (Instr.build t #[]).run P wx = .ok v wx) (h : wpList P ops Q rest (a.put o.dst v) w) : wpList P ops Q (o :: rest) a w :=
  wpList_plain hgd fun _ hK => by
    unfold Oper.wp execOp
    simp only [ho, List.map_toArray, List.map_nil, Sem.run_bind, Sem.run_pure, Result.andThen_ok, hrun]
    exact hK _ _ h

set_option maxHeartbeats 8000000 in
theorem refRF_odd (x : Option Addr) (n c : Nat) (z : List Int) (w : World) (hb : Bytes w x n c z) (hz : ∀ v ∈ z, b8 v) (hbad : ¬ (45 ≤ n ∧ at1 z 0 = 69 ∧ at1 z 1 = 83 ∧ fN z ≤ 64)) :
    Calls Tryd.prog 5 #[.slice x n c] w fun e w' => e = .returned (.tuple #[.agg frZ.cells.toArray, .int .i64 3]) ∧ Below w.heap.size w w' := by
  have hle := hb.le
  have hct := hb.top
  obtain ⟨Z, hzv, hz1, hZ⟩ := zeroFrL
  have hiZ : (Tryd.prog.info? 30).map (·.size) = some Z.length := by rw [hZ, fr_len frZ rfl rfl]; exact sizeFrame
  have h1Z : ∀ v ∈ Z, v.oneCell' = true := by rw [hZ]; exact fr_one frZ none none 0 0 0 0 rfl rfl
  have hbz := frZ_built
  rw [← hZ] at hbz
  rw [← hZ]
  have hG0 := CellsAt.new w 30 Z
  have hB0 : Below w.heap.size w (w.alloc (.cells Z.toArray 30)) := (Below.refl _ _).alloc (Nat.le_refl _) _
  by_cases h45 : 45 ≤ n
  rotate_left
  · have hlt : (n : Int) < 45 := by omega
    clear hb hz hbad hZ
    go_enter Tryd.func5, Tryd.ntmps5
    go_upto_region 1 with fail
    refine forget (p := fun y => Code.wp _ _ _ _ y) (fun W => Below w.heap.size w W ∧ CellsAt W w.heap.size 30 Z) ⟨hB0, hG0⟩ ?_
    clear hB0 hG0
    rintro W ⟨hB0, hG0⟩
    go_wp2_with (first
      | (refine wpList_buildR rfl 30 rfl _ hbz ?_)
      | (refine wpList_stv rfl 30 _ _ rfl _ rfl rfl hG0 hiZ rfl h1Z ?_))
    refine bodyPost_ret (results_frt Tryd.results5 _ rfl rfl (hG0.setRow Z) hiZ) rfl ⟨rfl, ?_⟩
    exact below_setRow hB0 (Nat.le_refl _) _
  have hnlt : ¬ (n : Int) < 45 := by omega
  have g0 : (0 : Int) < (n : Int) := by omega
  have g1 : (1 : Int) < (n : Int) := by omega
  have g44 : (44 : Int) < (n : Int) := by omega
  have e44 : at1 z 44 = (fN z : Int) := by have := b8_get hz 44; unfold fN at1; omega
  have hn255 : fN z ≤ 255 := by have := b8_get hz 44; unfold fN at1; omega
  obtain ⟨b, off, rfl, hcl⟩ := bytes_cells hb (by omega)
  have hlb : b < w.heap.size := block_lt_of_cell (hcl 0 (by omega))
  have HC : Veil (∀ w', Below w.heap.size w w' → w'.cell? ⟨b, off, none⟩ = some (.int .u8 (at1 z 0)) ∧ w'.cell? ⟨b, off + 1, none⟩ = some (.int .u8 (at1 z 1)) ∧ w'.cell? ⟨b, off + 44, none⟩ = some (.int .u8 (at1 z 44))) := ⟨fun w' h => ⟨by rw [(bcell h).1 _ _ hlb]; exact hcl 0 (by omega), by rw [(bcell h).1 _ _ hlb]; exact hcl 1 (by omega), by rw [(bcell h).1 _ _ hlb]; exact hcl 44 (by omega)⟩⟩
  rw [e44] at HC
  obtain ⟨m0, hm0⟩ : ∃ q, at1 z 0 = q := ⟨_, rfl⟩
  obtain ⟨m1, hm1⟩ : ∃ q, at1 z 1 = q := ⟨_, rfl⟩
  obtain ⟨N, hN⟩ : ∃ q, fN z = q := ⟨_, rfl⟩
  rw [hm0, hm1, hN] at HC hbad
  rw [hN] at hn255
  have e0 : IntKind.i64.wrap (N : Int) = (N : Int) := by rw [IntKind.wrap_i64]; omega
  clear hb hz hZ hm0 hm1 hN e44 hcl hlb
  by_cases k0 : m0 = 69
  rotate_left
  · have q0 : (m0 == 69) = false := by simp [k0]
    clear hbad
    go_enter Tryd.func5, Tryd.ntmps5
    go_upto_region 1 with fail
    refine forget (p := fun y => Code.wp _ _ _ _ y) (fun W => Below w.heap.size w W ∧ CellsAt W w.heap.size 30 Z) ⟨hB0, hG0⟩ ?_
    clear hB0 hG0
    rintro W ⟨hB0, hG0⟩
    obtain ⟨c0, c1, c44⟩ := HC.out _ hB0
    go_wp2_with (first
      | (refine wpList_buildR rfl 30 rfl _ hbz ?_)
      | (refine wpList_stv rfl 30 _ _ rfl _ rfl rfl hG0 hiZ rfl h1Z ?_))
    refine bodyPost_ret (results_frt Tryd.results5 _ rfl rfl (hG0.setRow Z) hiZ) rfl ⟨rfl, ?_⟩
    exact below_setRow hB0 (Nat.le_refl _) _
  subst k0
  by_cases k1 : m1 = 83
  rotate_left
  · have q1 : (m1 == 83) = false := by simp [k1]
    clear hbad
    go_enter Tryd.func5, Tryd.ntmps5
    go_upto_region 1 with fail
    refine forget (p := fun y => Code.wp _ _ _ _ y) (fun W => Below w.heap.size w W ∧ CellsAt W w.heap.size 30 Z) ⟨hB0, hG0⟩ ?_
    clear hB0 hG0
    rintro W ⟨hB0, hG0⟩
    obtain ⟨c0, c1, c44⟩ := HC.out _ hB0
    go_wp2_with (first
      | (refine wpList_buildR rfl 30 rfl _ hbz ?_)
      | (refine wpList_stv rfl 30 _ _ rfl _ rfl rfl hG0 hiZ rfl h1Z ?_))
    refine bodyPost_ret (results_frt Tryd.results5 _ rfl rfl (hG0.setRow Z) hiZ) rfl ⟨rfl, ?_⟩
    exact below_setRow hB0 (Nat.le_refl _) _
  subst k1
  have k2 : (64 : Int) < (N : Int) := by
    have : ¬ N ≤ 64 := fun h => hbad ⟨h45, rfl, rfl, h⟩
    omega
  clear hbad
  go_enter Tryd.func5, Tryd.ntmps5
  go_upto_region 1 with fail
  refine forget (p := fun y => Code.wp _ _ _ _ y) (fun W => Below w.heap.size w W ∧ CellsAt W w.heap.size 30 Z) ⟨hB0, hG0⟩ ?_
  clear hB0 hG0
  rintro W ⟨hB0, hG0⟩
  obtain ⟨c0, c1, c44⟩ := HC.out _ hB0
  go_wp2_with (first
    | (refine wpList_buildR rfl 30 rfl _ hbz ?_)
    | (refine wpList_stv rfl 30 _ _ rfl _ rfl rfl hG0 hiZ rfl h1Z ?_))
  refine bodyPost_ret (results_frt Tryd.results5 _ rfl rfl (hG0.setRow Z) hiZ) rfl ⟨rfl, ?_⟩
  exact below_setRow hB0 (Nat.le_refl _) _

set_option maxHeartbeats 8000000 in
theorem refRF_short (x : Option Addr) (n c : Nat) (z : List Int) (w : World) (hb : Bytes w x n c z) (hz : ∀ v ∈ z, b8 v) (hok : 45 ≤ n ∧ at1 z 0 = 69 ∧ at1 z 1 = 83 ∧ fN z ≤ 64) (hbad : ¬ (fQ z + 2 ≤ n ∧ fM z ≤ 4112 ∧ n = fO z + 32)) :
    Calls Tryd.prog 5 #[.slice x n c] w fun e w' => e = .returned (.tuple #[.agg frZ.cells.toArray, .int .i64 3]) ∧ Below w.heap.size w w' := by
  have hle := hb.le
  have hct := hb.top
  obtain ⟨Z, hzv, hz1, hZ⟩ := zeroFrL
  have hiZ : (Tryd.prog.info? 30).map (·.size) = some Z.length := by rw [hZ, fr_len frZ rfl rfl]; exact sizeFrame
  have h1Z : ∀ v ∈ Z, v.oneCell' = true := by rw [hZ]; exact fr_one frZ none none 0 0 0 0 rfl rfl
  have hbz := frZ_built
  rw [← hZ] at hbz
  rw [← hZ]
  have hG0 := CellsAt.new w 30 Z
  have hB0 : Below w.heap.size w (w.alloc (.cells Z.toArray 30)) := (Below.refl _ _).alloc (Nat.le_refl _) _
  obtain ⟨h45, hz0, hz1', hN64⟩ := hok
  have hnlt : ¬ (n : Int) < 45 := by omega
  have g0 : (0 : Int) < (n : Int) := by omega
  have g1 : (1 : Int) < (n : Int) := by omega
  have g44 : (44 : Int) < (n : Int) := by omega
  have e44 : at1 z 44 = (fN z : Int) := by have := b8_get hz 44; unfold fN at1; omega
  obtain ⟨b, off, rfl, hcl⟩ := bytes_cells hb (by omega)
  have hlb : b < w.heap.size := block_lt_of_cell (hcl 0 (by omega))
  have HC : Veil (∀ w', Below w.heap.size w w' → w'.cell? ⟨b, off, none⟩ = some (.int .u8 69) ∧ w'.cell? ⟨b, off + 1, none⟩ = some (.int .u8 83) ∧ w'.cell? ⟨b, off + 44, none⟩ = some (.int .u8 (fN z))) := ⟨fun w' h => ⟨by rw [(bcell h).1 _ _ hlb, ← hz0]; exact hcl 0 (by omega), by rw [(bcell h).1 _ _ hlb, ← hz1']; exact hcl 1 (by omega), by rw [(bcell h).1 _ _ hlb, ← e44]; exact hcl 44 (by omega)⟩⟩
  have HCQ : Veil (fQ z + 2 ≤ n → Veil (∀ w', Below w.heap.size w w' → w'.cell? ⟨b, off + fQ z, none⟩ = some (.int .u8 (at1 z (fQ z))) ∧ w'.cell? ⟨b, off + (fQ z + 1), none⟩ = some (.int .u8 (at1 z (fQ z + 1))))) := ⟨fun hq => ⟨fun w' h => ⟨by rw [(bcell h).1 _ _ hlb]; exact hcl _ (by omega), by rw [(bcell h).1 _ _ hlb]; exact hcl _ (by omega)⟩⟩⟩
  have hB1r := b8_get hz (fQ z)
  have hB2r := b8_get hz (fQ z + 1)
  have hMv : bits .or .i64 (at1 z (fQ z) * 256) (at1 z (fQ z + 1)) = (fM z : Int) := by
    have h1 := val2_or _ _ hB1r hB2r
    have h2 : (fM z : Int) = val2 (at1 z (fQ z)) (at1 z (fQ z + 1)) := by
      have : 0 ≤ val2 (at1 z (fQ z)) (at1 z (fQ z + 1)) := by unfold val2 at1; omega
      unfold fM told2; omega
    rw [h2]; exact h1
  have hM65 : fM z ≤ 65535 := by unfold fM told2 val2 at1; omega
  obtain ⟨N, hN⟩ : ∃ q, fN z = q := ⟨_, rfl⟩
  obtain ⟨P, hPe⟩ : ∃ q, 54 * fN z = q := ⟨_, rfl⟩
  obtain ⟨Q, hQe⟩ : ∃ q, 45 + 54 * fN z = q := ⟨_, rfl⟩
  obtain ⟨Q1, hQ1e⟩ : ∃ q, Q + 1 = q := ⟨_, rfl⟩
  obtain ⟨Q2, hQ2e⟩ : ∃ q, Q + 2 = q := ⟨_, rfl⟩
  have hQf : fQ z = Q := hQe
  obtain ⟨M, hMe⟩ : ∃ q, fM z = q := ⟨_, rfl⟩
  have hOf : fO z = Q2 + M := by show fQ z + 2 + fM z = _; omega
  obtain ⟨O, hOe⟩ : ∃ q, Q2 + M = q := ⟨_, rfl⟩
  obtain ⟨O32, hO32⟩ : ∃ q, O + 32 = q := ⟨_, rfl⟩
  rw [hQf, hMe] at hMv
  rw [hQf] at HCQ hB1r hB2r
  rw [hN] at HC hN64
  rw [hQf, hMe, hOf, hOe] at hbad
  rw [hQ1e] at hMv HCQ hB2r
  rw [hN] at hPe hQe
  rw [hMe] at hM65
  obtain ⟨B1, hB1⟩ : ∃ q, at1 z Q = q := ⟨_, rfl⟩
  obtain ⟨B2, hB2⟩ : ∃ q, at1 z Q1 = q := ⟨_, rfl⟩
  have hB1r' : 0 ≤ B1 ∧ B1 ≤ 255 := by rw [← hB1]; exact hB1r
  have hB2r' : 0 ≤ B2 ∧ B2 ≤ 255 := by rw [← hB2]; exact hB2r
  rw [hB1, hB2] at hMv HCQ
  have e0 : IntKind.i64.wrap (N : Int) = (N : Int) := by rw [IntKind.wrap_i64]; omega
  have e1 : IntKind.i64.wrap (54 * (N : Int)) = (P : Int) := by rw [IntKind.wrap_i64]; omega
  have e2 : IntKind.i64.wrap (45 + (P : Int)) = (Q : Int) := by rw [IntKind.wrap_i64]; omega
  have e3 : IntKind.i64.wrap ((Q : Int) + 2) = (Q2 : Int) := by rw [IntKind.wrap_i64]; omega
  have e4 : IntKind.i64.wrap ((Q : Int) + 1) = (Q1 : Int) := by rw [IntKind.wrap_i64]; omega
  have e7 : IntKind.i64.wrap B1 = B1 := by rw [IntKind.wrap_i64]; omega
  have e8 : IntKind.i64.wrap B2 = B2 := by rw [IntKind.wrap_i64]; omega
  have e9 : IntKind.i64.wrap (B1 * 256) = B1 * 256 := by rw [IntKind.wrap_i64]; omega
  have q2 : ¬ (64 : Int) < (N : Int) := by omega
  have HMV := Veil.mk hMv
  clear hb hz hZ hcl hlb e44 hz0 hz1' hN hB1 hB2 hB1r hB2r hMv hQf hMe hOf
  by_cases k3 : Q2 ≤ n
  rotate_left
  · have q3 : (n : Int) < (Q2 : Int) := by omega
    clear hbad k3
    go_enter Tryd.func5, Tryd.ntmps5
    go_upto_region 1 with fail
    refine forget (p := fun y => Code.wp _ _ _ _ y) (fun W => Below w.heap.size w W ∧ CellsAt W w.heap.size 30 Z) ⟨hB0, hG0⟩ ?_
    clear hB0 hG0
    rintro W ⟨hB0, hG0⟩
    obtain ⟨c0, c1, c44⟩ := HC.out _ hB0
    go_wp2_with (first
      | (refine wpList_buildR rfl 30 rfl _ hbz ?_)
      | (refine wpList_stv rfl 30 _ _ rfl _ rfl rfl hG0 hiZ rfl h1Z ?_))
    refine bodyPost_ret (results_frt Tryd.results5 _ rfl rfl (hG0.setRow Z) hiZ) rfl ⟨rfl, ?_⟩
    exact below_setRow hB0 (Nat.le_refl _) _
  have q3 : ¬ (n : Int) < (Q2 : Int) := by omega
  have gQ : (Q : Int) < (n : Int) := by omega
  have gQ1 : (Q1 : Int) < (n : Int) := by omega
  have gQ0 : (0 : Int) ≤ (Q : Int) := by omega
  have gQ10 : (0 : Int) ≤ (Q1 : Int) := by omega
  have HCQ1 := HCQ.out (by omega)
  by_cases k4 : M ≤ 4112
  rotate_left
  · have q4 : (4112 : Int) < (M : Int) := by omega
    clear hbad k4 k3
    go_enter Tryd.func5, Tryd.ntmps5
    go_upto_region 1 with fail
    refine forget (p := fun y => Code.wp _ _ _ _ y) (fun W => Below w.heap.size w W ∧ CellsAt W w.heap.size 30 Z) ⟨hB0, hG0⟩ ?_
    clear hB0 hG0
    rintro W ⟨hB0, hG0⟩
    obtain ⟨c0, c1, c44⟩ := HC.out _ hB0
    go_upto_region 7 with fail
    obtain ⟨cB1, cB2⟩ := HCQ1.out _ hB0
    refine wp_region_gate (fun w' => w'.cell? ⟨b, off + Q, none⟩ = some (.int .u8 B1) ∧ w'.cell? ⟨b, off + Q1, none⟩ = some (.int .u8 B2)) 13 (by kernel_rfl) ?_
    obtain ⟨D0, hD0⟩ : ∃ q, W.drew = q := ⟨_, rfl⟩
    have hb0 : Below W.heap.size W D0 := by rw [← hD0]; exact (Below.refl _ _).drew
    rw [hD0]
    replace hB0 := hB0.trans (hb0.mono hB0.size)
    replace hG0 : CellsAt D0 w.heap.size 30 Z := by
      have hl := hG0.lt
      unfold CellsAt at hG0 ⊢; rw [hb0.block _ hl]; exact hG0
    clear hD0 hb0 c0 c1 c44 cB1 cB2
    have hS := HCQ1.out _ hB0
    refine wpAnyG_any (i := 0) (v := ?_) rfl (by kernel_rfl) (by kernel_rfl) (by kernel_rfl) (fun _ _ _ h => h) (by kernel_rfl) (fun _ => hS) (by kernel_rfl) ?_ ?_
    rotate_left
    · intro _; go_simp; try with_reducible rfl
    simp only [Act.put, List.setIfInBounds_toArray, List.set_cons_zero, List.set_cons_succ]
    refine wpAnyG_any (i := 1) (v := ?_) rfl (by kernel_rfl) (by kernel_rfl) (by kernel_rfl) (fun _ _ _ h => h) (by kernel_rfl) (fun _ => hS) (by kernel_rfl) ?_ ?_
    rotate_left
    · intro _; go_simp; try with_reducible rfl
    simp only [Act.put, List.setIfInBounds_toArray, List.set_cons_zero, List.set_cons_succ]
    refine wpAnyG_any (i := 2) (v := ?_) rfl (by kernel_rfl) (by kernel_rfl) (by kernel_rfl) (fun _ _ _ h => h) (by kernel_rfl) (fun _ => hS) (by kernel_rfl) ?_ ?_
    rotate_left
    · intro _; go_simp; try with_reducible rfl
    simp only [Act.put, List.setIfInBounds_toArray, List.set_cons_zero, List.set_cons_succ]
    refine wpAnyG_read (i := 3) (v := ?_) rfl (by kernel_rfl) (by kernel_rfl) (by kernel_rfl) (fun _ _ _ h => h) (by kernel_rfl) (by kernel_rfl) (by kernel_rfl) hS (by kernel_rfl) ?_ ?_
    rotate_left
    · intro wx hSw; go_split_ands; go_simp; try with_reducible rfl
    simp only [Act.put, List.setIfInBounds_toArray, List.set_cons_zero, List.set_cons_succ]
    refine wpAnyG_any (i := 4) (v := ?_) rfl (by kernel_rfl) (by kernel_rfl) (by kernel_rfl) (fun _ _ _ h => h) (by kernel_rfl) (fun _ => hS) (by kernel_rfl) ?_ ?_
    rotate_left
    · intro _; go_simp; try with_reducible rfl
    simp only [Act.put, List.setIfInBounds_toArray, List.set_cons_zero, List.set_cons_succ]
    refine wpAnyG_any (i := 5) (v := ?_) rfl (by kernel_rfl) (by kernel_rfl) (by kernel_rfl) (fun _ _ _ h => h) (by kernel_rfl) (fun _ => hS) (by kernel_rfl) ?_ ?_
    rotate_left
    · intro _; go_simp; try with_reducible rfl
    simp only [Act.put, List.setIfInBounds_toArray, List.set_cons_zero, List.set_cons_succ]
    refine wpAnyG_any (i := 6) (v := ?_) rfl (by kernel_rfl) (by kernel_rfl) (by kernel_rfl) (fun _ _ _ h => h) (by kernel_rfl) (fun _ => hS) (by kernel_rfl) ?_ ?_
    rotate_left
    · intro _; go_simp; try with_reducible rfl
    simp only [Act.put, List.setIfInBounds_toArray, List.set_cons_zero, List.set_cons_succ]
    refine wpAnyG_any (i := 7) (v := ?_) rfl (by kernel_rfl) (by kernel_rfl) (by kernel_rfl) (fun _ _ _ h => h) (by kernel_rfl) (fun _ => hS) (by kernel_rfl) ?_ ?_
    rotate_left
    · intro _; go_simp; try with_reducible rfl
    simp only [Act.put, List.setIfInBounds_toArray, List.set_cons_zero, List.set_cons_succ]
    refine wpAnyG_any (i := 8) (v := ?_) rfl (by kernel_rfl) (by kernel_rfl) (by kernel_rfl) (fun _ _ _ h => h) (by kernel_rfl) (fun _ => hS) (by kernel_rfl) ?_ ?_
    rotate_left
    · intro _; go_simp; try with_reducible rfl
    simp only [Act.put, List.setIfInBounds_toArray, List.set_cons_zero, List.set_cons_succ]
    refine wpAnyG_any (i := 9) (v := ?_) rfl (by kernel_rfl) (by kernel_rfl) (by kernel_rfl) (fun _ _ _ h => h) (by kernel_rfl) (fun _ => hS) (by kernel_rfl) ?_ ?_
    rotate_left
    · intro _; go_simp; try with_reducible rfl
    simp only [Act.put, List.setIfInBounds_toArray, List.set_cons_zero, List.set_cons_succ]
    refine wpAnyG_read (i := 10) (v := ?_) rfl (by kernel_rfl) (by kernel_rfl) (by kernel_rfl) (fun _ _ _ h => h) (by kernel_rfl) (by kernel_rfl) (by kernel_rfl) hS (by kernel_rfl) ?_ ?_
    rotate_left
    · intro wx hSw; go_split_ands; go_simp; try with_reducible rfl
    simp only [Act.put, List.setIfInBounds_toArray, List.set_cons_zero, List.set_cons_succ]
    refine wpAnyG_any (i := 11) (v := ?_) rfl (by kernel_rfl) (by kernel_rfl) (by kernel_rfl) (fun _ _ _ h => h) (by kernel_rfl) (fun _ => hS) (by kernel_rfl) ?_ ?_
    rotate_left
    · intro _; go_simp; try with_reducible rfl
    simp only [Act.put, List.setIfInBounds_toArray, List.set_cons_zero, List.set_cons_succ]
    refine wpAnyG_any (i := 12) (v := .int .i64 (bits .or .i64 (B1 * 256) B2)) rfl (by kernel_rfl) (by kernel_rfl) (by kernel_rfl) (fun _ _ _ h => h) (by kernel_rfl) (fun _ => hS) (by kernel_rfl) ?_ ?_
    · intro _; go_simp
    simp only [Act.put, List.setIfInBounds_toArray, List.set_cons_zero, List.set_cons_succ]
    refine wpAnyG_one (i := 13) rfl (by kernel_rfl) (by kernel_rfl) (fun K hK => ?_)
    go_simp
    refine hK.out _ _ (fun h => absurd (show true = false from h) (by decide)) ?_
    clear hK K
    refine wpAnyG_done (by kernel_rfl) ?_ _
    rw [HMV.out]
    go_wp2_with (first
      | (refine wpList_buildR rfl 30 rfl _ hbz ?_)
      | (refine wpList_stv rfl 30 _ _ rfl _ rfl rfl hG0 hiZ rfl h1Z ?_))
    refine bodyPost_ret (results_frt Tryd.results5 _ rfl rfl (hG0.setRow Z) hiZ) rfl ⟨rfl, ?_⟩
    exact below_setRow hB0 (Nat.le_refl _) _
  have q4 : ¬ (4112 : Int) < (M : Int) := by omega
  have q5 : ((n : Int) == (O32 : Int)) = false := by
    have : ¬ n = O32 := fun h => hbad ⟨by omega, k4, by omega⟩
    simp; omega
  have q6 : ¬ (n : Int) = (O32 : Int) := by
    have : ¬ n = O32 := fun h => hbad ⟨by omega, k4, by omega⟩
    omega
  have e5 : IntKind.i64.wrap ((Q2 : Int) + (M : Int)) = (O : Int) := by rw [IntKind.wrap_i64]; omega
  have e6 : IntKind.i64.wrap ((O : Int) + 32) = (O32 : Int) := by rw [IntKind.wrap_i64]; omega
  clear hbad k4 k3 hOe hO32 hQ2e hQ1e hQe hPe
  go_enter Tryd.func5, Tryd.ntmps5
  go_upto_region 1 with fail
  refine forget (p := fun y => Code.wp _ _ _ _ y) (fun W => Below w.heap.size w W ∧ CellsAt W w.heap.size 30 Z) ⟨hB0, hG0⟩ ?_
  clear hB0 hG0
  rintro W ⟨hB0, hG0⟩
  obtain ⟨c0, c1, c44⟩ := HC.out _ hB0
  go_upto_region 7 with fail
  obtain ⟨cB1, cB2⟩ := HCQ1.out _ hB0
  refine wp_region_gate (fun w' => w'.cell? ⟨b, off + Q, none⟩ = some (.int .u8 B1) ∧ w'.cell? ⟨b, off + Q1, none⟩ = some (.int .u8 B2)) 13 (by kernel_rfl) ?_
  obtain ⟨D0, hD0⟩ : ∃ q, W.drew = q := ⟨_, rfl⟩
  have hb0 : Below W.heap.size W D0 := by rw [← hD0]; exact (Below.refl _ _).drew
  rw [hD0]
  replace hB0 := hB0.trans (hb0.mono hB0.size)
  replace hG0 : CellsAt D0 w.heap.size 30 Z := by
    have hl := hG0.lt
    unfold CellsAt at hG0 ⊢; rw [hb0.block _ hl]; exact hG0
  clear hD0 hb0 c0 c1 c44 cB1 cB2
  have hS := HCQ1.out _ hB0
  refine wpAnyG_any (i := 0) (v := ?_) rfl (by kernel_rfl) (by kernel_rfl) (by kernel_rfl) (fun _ _ _ h => h) (by kernel_rfl) (fun _ => hS) (by kernel_rfl) ?_ ?_
  rotate_left
  · intro _; go_simp; try with_reducible rfl
  simp only [Act.put, List.setIfInBounds_toArray, List.set_cons_zero, List.set_cons_succ]
  refine wpAnyG_any (i := 1) (v := ?_) rfl (by kernel_rfl) (by kernel_rfl) (by kernel_rfl) (fun _ _ _ h => h) (by kernel_rfl) (fun _ => hS) (by kernel_rfl) ?_ ?_
  rotate_left
  · intro _; go_simp; try with_reducible rfl
  simp only [Act.put, List.setIfInBounds_toArray, List.set_cons_zero, List.set_cons_succ]
  refine wpAnyG_any (i := 2) (v := ?_) rfl (by kernel_rfl) (by kernel_rfl) (by kernel_rfl) (fun _ _ _ h => h) (by kernel_rfl) (fun _ => hS) (by kernel_rfl) ?_ ?_
  rotate_left
  · intro _; go_simp; try with_reducible rfl
  simp only [Act.put, List.setIfInBounds_toArray, List.set_cons_zero, List.set_cons_succ]
  refine wpAnyG_read (i := 3) (v := ?_) rfl (by kernel_rfl) (by kernel_rfl) (by kernel_rfl) (fun _ _ _ h => h) (by kernel_rfl) (by kernel_rfl) (by kernel_rfl) hS (by kernel_rfl) ?_ ?_
  rotate_left
  · intro wx hSw; go_split_ands; go_simp; try with_reducible rfl
  simp only [Act.put, List.setIfInBounds_toArray, List.set_cons_zero, List.set_cons_succ]
  refine wpAnyG_any (i := 4) (v := ?_) rfl (by kernel_rfl) (by kernel_rfl) (by kernel_rfl) (fun _ _ _ h => h) (by kernel_rfl) (fun _ => hS) (by kernel_rfl) ?_ ?_
  rotate_left
  · intro _; go_simp; try with_reducible rfl
  simp only [Act.put, List.setIfInBounds_toArray, List.set_cons_zero, List.set_cons_succ]
  refine wpAnyG_any (i := 5) (v := ?_) rfl (by kernel_rfl) (by kernel_rfl) (by kernel_rfl) (fun _ _ _ h => h) (by kernel_rfl) (fun _ => hS) (by kernel_rfl) ?_ ?_
  rotate_left
  · intro _; go_simp; try with_reducible rfl
  simp only [Act.put, List.setIfInBounds_toArray, List.set_cons_zero, List.set_cons_succ]
  refine wpAnyG_any (i := 6) (v := ?_) rfl (by kernel_rfl) (by kernel_rfl) (by kernel_rfl) (fun _ _ _ h => h) (by kernel_rfl) (fun _ => hS) (by kernel_rfl) ?_ ?_
  rotate_left
  · intro _; go_simp; try with_reducible rfl
  simp only [Act.put, List.setIfInBounds_toArray, List.set_cons_zero, List.set_cons_succ]
  refine wpAnyG_any (i := 7) (v := ?_) rfl (by kernel_rfl) (by kernel_rfl) (by kernel_rfl) (fun _ _ _ h => h) (by kernel_rfl) (fun _ => hS) (by kernel_rfl) ?_ ?_
  rotate_left
  · intro _; go_simp; try with_reducible rfl
  simp only [Act.put, List.setIfInBounds_toArray, List.set_cons_zero, List.set_cons_succ]
  refine wpAnyG_any (i := 8) (v := ?_) rfl (by kernel_rfl) (by kernel_rfl) (by kernel_rfl) (fun _ _ _ h => h) (by kernel_rfl) (fun _ => hS) (by kernel_rfl) ?_ ?_
  rotate_left
  · intro _; go_simp; try with_reducible rfl
  simp only [Act.put, List.setIfInBounds_toArray, List.set_cons_zero, List.set_cons_succ]
  refine wpAnyG_any (i := 9) (v := ?_) rfl (by kernel_rfl) (by kernel_rfl) (by kernel_rfl) (fun _ _ _ h => h) (by kernel_rfl) (fun _ => hS) (by kernel_rfl) ?_ ?_
  rotate_left
  · intro _; go_simp; try with_reducible rfl
  simp only [Act.put, List.setIfInBounds_toArray, List.set_cons_zero, List.set_cons_succ]
  refine wpAnyG_read (i := 10) (v := ?_) rfl (by kernel_rfl) (by kernel_rfl) (by kernel_rfl) (fun _ _ _ h => h) (by kernel_rfl) (by kernel_rfl) (by kernel_rfl) hS (by kernel_rfl) ?_ ?_
  rotate_left
  · intro wx hSw; go_split_ands; go_simp; try with_reducible rfl
  simp only [Act.put, List.setIfInBounds_toArray, List.set_cons_zero, List.set_cons_succ]
  refine wpAnyG_any (i := 11) (v := ?_) rfl (by kernel_rfl) (by kernel_rfl) (by kernel_rfl) (fun _ _ _ h => h) (by kernel_rfl) (fun _ => hS) (by kernel_rfl) ?_ ?_
  rotate_left
  · intro _; go_simp; try with_reducible rfl
  simp only [Act.put, List.setIfInBounds_toArray, List.set_cons_zero, List.set_cons_succ]
  refine wpAnyG_any (i := 12) (v := .int .i64 (bits .or .i64 (B1 * 256) B2)) rfl (by kernel_rfl) (by kernel_rfl) (by kernel_rfl) (fun _ _ _ h => h) (by kernel_rfl) (fun _ => hS) (by kernel_rfl) ?_ ?_
  · intro _; go_simp
  simp only [Act.put, List.setIfInBounds_toArray, List.set_cons_zero, List.set_cons_succ]
  refine wpAnyG_one (i := 13) rfl (by kernel_rfl) (by kernel_rfl) (fun K hK => ?_)
  go_simp
  refine hK.out _ _ (fun h => absurd (show true = false from h) (by decide)) ?_
  clear hK K
  refine wpAnyG_done (by kernel_rfl) ?_ _
  rw [HMV.out]
  go_wp2_with (first
    | (refine wpList_buildR rfl 30 rfl _ hbz ?_)
    | (refine wpList_stv rfl 30 _ _ rfl _ rfl rfl hG0 hiZ rfl h1Z ?_))
  refine bodyPost_ret (results_frt Tryd.results5 _ rfl rfl (hG0.setRow Z) hiZ) rfl ⟨rfl, ?_⟩
  exact below_setRow hB0 (Nat.le_refl _) _
end Go.Proofs.YtdfjfafhpjoilaaDoor
