/- The reference of wire: a number's bytes, a dot's bytes. -/
import Derived.Test.YtnfilpbjgfmclaaDoorGd
import Derived.Test.YtnfilpbjgfmclaaDoorWr6
namespace Go.Proofs.YtnfilpbjgfmclaaDoor
open Go.RowKit
set_option maxRecDepth 20000
set_option linter.unusedSimpArgs false

theorem OwnB.newW (w : World) (l : List Int) (hl : l.length ≤ 4000000) : OwnB (w.alloc (.cells (row .u8 l) 5)) w.heap.size (.slice (some ⟨w.heap.size, 0, none⟩) l.length l.length) l := OwnB.ofHolds (Holds.new w .u8 5 l) (Nat.le_refl _) hl
set_option maxHeartbeats 1000000 in
theorem refFour_any (n : Int) (w : World) :
    Calls Tryd.prog 17 #[.int .u32 n] w fun e w' => ∃ v, e = .returned v ∧ OwnB w' w.heap.size v (be4 n) ∧ Below w.heap.size w w' := by
  have e1 : IntKind.u8.wrap (n / 16777216) = n / 16777216 % 256 := by simp [IntKind.wrap, IntKind.bits, IntKind.signed]
  have e2 : IntKind.u8.wrap (n / 65536) = n / 65536 % 256 := by simp [IntKind.wrap, IntKind.bits, IntKind.signed]
  have e3 : IntKind.u8.wrap (n / 256) = n / 256 % 256 := by simp [IntKind.wrap, IntKind.bits, IntKind.signed]
  have e4 : IntKind.u8.wrap n = n % 256 := by simp [IntKind.wrap, IntKind.bits, IntKind.signed]
  have hO := OwnB.newW w (be4 n) (by simp [be4])
  have hB : Below w.heap.size w (w.alloc (.cells (row .u8 (be4 n)) 5)) := (Below.refl _ _).alloc (Nat.le_refl _) _
  go_enter Tryd.func17, Tryd.ntmps17
  go_wp2
  go_ret
  exact ⟨_, rfl, hO, hB⟩

set_option maxHeartbeats 1000000 in
theorem refDot_any (a s : Int) (w : World) :
    Calls Tryd.prog 16 #[.agg (dotC a s).toArray] w fun e w' => ∃ v, e = .returned v ∧ OwnB w' w.heap.size v (dotL a s) ∧ Below w.heap.size w w' := by
  have hD0 := CellsAt.new w 24 (dotC a s)
  have hB0 : Below w.heap.size w (w.alloc (.cells (dotC a s).toArray 24)) := (Below.refl _ _).alloc (Nat.le_refl _) _
  have hf := fun wx => refFour_any s wx
  have hfl : (be4 s).length = 4 := be4_length s
  have HD : Veil ([a] ++ be4 s = dotL a s) := ⟨rfl⟩
  obtain ⟨F, hF⟩ : ∃ q, be4 s = q := ⟨_, rfl⟩
  rw [hF] at hf hfl HD
  clear hF
  go_enter Tryd.func16, Tryd.ntmps16
  go_upto_region 1 with fail
  refine forget (p := fun y => Code.wp _ _ _ _ y) (fun W0 => Below w.heap.size w W0 ∧ CellsAt W0 w.heap.size 24 (dotC a s)) ⟨hB0, hD0⟩ ?_
  clear hB0 hD0
  rintro W0 ⟨hB0, hD0⟩
  have hsz := hB0.size
  have keep : ∀ w', Below W0.heap.size W0 w' → w'.cell? ⟨w.heap.size, 0, none⟩ = some (.int .u8 a) ∧ w'.cell? ⟨w.heap.size, 1, none⟩ = some (.int .u32 s) := fun w' hb => by
    have hc := (bcell hb).1
    exact ⟨by rw [hc _ _ hD0.lt]; exact hD0.cell 0, by rw [hc _ _ hD0.lt]; exact hD0.cell 1⟩
  clear hD0
  refine wp_region_gate (fun w' => w'.cell? ⟨w.heap.size, 0, none⟩ = some (.int .u8 a) ∧ w'.cell? ⟨w.heap.size, 1, none⟩ = some (.int .u32 s)) 7 (by kernel_rfl) ?_
  obtain ⟨D0, hD0⟩ : ∃ q, W0.drew = q := ⟨_, rfl⟩
  have hb0 : Below W0.heap.size W0 D0 := by rw [← hD0]; exact (Below.refl _ _).drew
  rw [hD0]
  clear hD0
  have hS := keep _ hb0
  refine wpAnyG_any (i := 0) (v := ?_) rfl (by kernel_rfl) (by kernel_rfl) (by kernel_rfl) (fun _ _ _ h => h) (by kernel_rfl) (fun _ => hS) (by kernel_rfl) ?_ ?_
  rotate_left
  · intro _; go_simp; try with_reducible rfl
  simp only [Act.put, List.setIfInBounds_toArray, List.set_cons_zero, List.set_cons_succ]
  refine wpAnyG_read (i := 1) (v := ?_) rfl (by kernel_rfl) (by kernel_rfl) (by kernel_rfl) (fun _ _ _ h => h) (by kernel_rfl) (by kernel_rfl) (by kernel_rfl) hS (by kernel_rfl) ?_ ?_
  rotate_left
  · intro wx hSw; go_split_ands; go_simp; try with_reducible rfl
  simp only [Act.put, List.setIfInBounds_toArray, List.set_cons_zero, List.set_cons_succ]
  refine wpAnyG_any (i := 3) (v := ?_) rfl (by kernel_rfl) (by kernel_rfl) (by kernel_rfl) (fun _ _ _ h => h) (by kernel_rfl) (fun _ => hS) (by kernel_rfl) ?_ ?_
  rotate_left
  · intro _; go_simp; try with_reducible rfl
  simp only [Act.put, List.setIfInBounds_toArray, List.set_cons_zero, List.set_cons_succ]
  refine wpAnyG_read (i := 4) (v := ?_) rfl (by kernel_rfl) (by kernel_rfl) (by kernel_rfl) (fun _ _ _ h => h) (by kernel_rfl) (by kernel_rfl) (by kernel_rfl) hS (by kernel_rfl) ?_ ?_
  rotate_left
  · intro wx hSw; go_split_ands; go_simp; try with_reducible rfl
  simp only [Act.put, List.setIfInBounds_toArray, List.set_cons_zero, List.set_cons_succ]
  refine wpAnyG_two (i := 2) (j := 5) rfl rfl (by kernel_rfl) (by kernel_rfl) (by kernel_rfl) (fun K hK => ?_) (fun K hK => ?_)
  · skip
    go_simp
    have hN1 := OwnB.newW D0 [a] (by simp)
    have hn1 : Below D0.heap.size D0 (D0.alloc (.cells (row .u8 [a]) 5)) := (Below.refl _ _).alloc (Nat.le_refl _) _
    have hb1 : Below W0.heap.size W0 (D0.alloc (.cells (row .u8 [a]) 5)) := hb0.trans (hn1.mono hb0.size)
    replace hS := keep _ hb1
    refine hK.out _ _ (fun _ => hS) ?_
    clear hK K
    have hO1 := hN1.lessG hb0.size
    obtain ⟨U1, hU1⟩ : ∃ q, D0.alloc (.cells (row .u8 [a]) 5) = q := ⟨_, rfl⟩
    have hc1 : D0.alloc (.cells #[.int .u8 a] 5) = U1 := hU1
    rw [hU1] at hb1 hO1
    rw [hc1]
    clear hU1 hc1 hn1 hN1
    refine wpAnyG_one (i := 5) rfl (by kernel_rfl) (by kernel_rfl) (fun K hK => ?_)
    go_wp2_with (go_at_call 17; refine (hf _).mono ?_; rintro e w2 ⟨v2, rfl, ho2, hb2⟩)
    have hB2 : Below W0.heap.size W0 w2 := hb1.trans (hb2.mono hb1.size)
    have hO2 := hO1.afarW hb2
    obtain ⟨x2, n2, c2, rfl, hn2⟩ := ho2.isSlice
    have hy2 := ho2.bytes.2
    rw [hfl] at hn2
    subst hn2
    replace hS := keep _ hB2
    refine hK.out _ _ (fun _ => hS) ?_
    clear hK K
    refine wpAnyG_one (i := 6) rfl (by kernel_rfl) (by kernel_rfl) (fun K hK => ?_)
    refine wp_appA _ _ rfl W0.heap.size _ [a] rfl hO2 x2 4 c2 F rfl hy2 (by simp) hB2.size ?_
    intro v3 w3 ho3 hg3
    have hB3 : Below W0.heap.size W0 w3 := below_grown hB2 hO2 hg3 hB2.size
    replace hS := keep _ hB3
    refine hK.out _ _ (fun _ => hS) ?_
    clear hK K
    refine wpAnyG_one (i := 7) rfl (by kernel_rfl) (by kernel_rfl) (fun K hK => ?_)
    go_simp
    refine hK.out _ _ (fun h => absurd (show true = false from h) (by decide)) ?_
    clear hK K
    refine wpAnyG_done (by kernel_rfl) ?_ _
    go_wp2
    go_ret
    rw [HD.out] at ho3
    exact ⟨_, rfl, ho3.lessG hsz, hB0.trans (hB3.mono hsz)⟩
  · skip
    go_wp2_with (go_at_call 17; refine (hf _).mono ?_; rintro e w2 ⟨v2, rfl, ho2, hb2⟩)
    have hB2 : Below W0.heap.size W0 w2 := hb0.trans (hb2.mono hb0.size)
    obtain ⟨x2, n2, c2, rfl, hn2⟩ := ho2.isSlice
    have hy2 := ho2.bytes.2
    rw [hfl] at hn2
    subst hn2
    replace hS := keep _ hB2
    refine hK.out _ _ (fun _ => hS) ?_
    clear hK K
    refine wpAnyG_one (i := 2) rfl (by kernel_rfl) (by kernel_rfl) (fun K hK => ?_)
    go_simp
    have hN1 := OwnB.newW w2 [a] (by simp)
    have hn1 : Below w2.heap.size w2 (w2.alloc (.cells (row .u8 [a]) 5)) := (Below.refl _ _).alloc (Nat.le_refl _) _
    have hb1 : Below W0.heap.size W0 (w2.alloc (.cells (row .u8 [a]) 5)) := hB2.trans (hn1.mono hB2.size)
    have hy3 := hy2.below hn1
    replace hS := keep _ hb1
    refine hK.out _ _ (fun _ => hS) ?_
    clear hK K
    have hO1 := hN1.lessG hB2.size
    obtain ⟨U1, hU1⟩ : ∃ q, w2.alloc (.cells (row .u8 [a]) 5) = q := ⟨_, rfl⟩
    have hc1 : w2.alloc (.cells #[.int .u8 a] 5) = U1 := hU1
    rw [hU1] at hb1 hO1 hy3
    rw [hc1]
    clear hU1 hc1 hn1 hN1
    refine wpAnyG_one (i := 6) rfl (by kernel_rfl) (by kernel_rfl) (fun K hK => ?_)
    refine wp_appA _ _ rfl W0.heap.size _ [a] rfl hO1 x2 4 c2 F rfl hy3 (by simp) hb1.size ?_
    intro v3 w3 ho3 hg3
    have hB3 : Below W0.heap.size W0 w3 := below_grown hb1 hO1 hg3 hb1.size
    replace hS := keep _ hB3
    refine hK.out _ _ (fun _ => hS) ?_
    clear hK K
    refine wpAnyG_one (i := 7) rfl (by kernel_rfl) (by kernel_rfl) (fun K hK => ?_)
    go_simp
    refine hK.out _ _ (fun h => absurd (show true = false from h) (by decide)) ?_
    clear hK K
    refine wpAnyG_done (by kernel_rfl) ?_ _
    go_wp2
    go_ret
    rw [HD.out] at ho3
    exact ⟨_, rfl, ho3.lessG hsz, hB0.trans (hB3.mono hsz)⟩
end Go.Proofs.YtnfilpbjgfmclaaDoor
