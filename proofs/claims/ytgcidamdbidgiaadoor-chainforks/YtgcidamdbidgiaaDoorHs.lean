/- A frame's digest: 'Sum' of frame, and the reference's. -/
import Derived.Test.YtgcidamdbidgiaaDoorWr6
import Derived.Test.YtgcidamdbidgiaaDoorMWo1Wo2Wo3Wo4
import Derived.Test.YtgcidamdbidgiaaDoorRefSum
-- 16
import Derived.Test.YtgcidamdbidgiaaDoorMPureBPadSum
import Derived.Test.YtgcidamdbidgiaaDoorMEv0Wr2Wr3Wr4Fd
import Derived.Test.YtgcidamdbidgiaaDoorMMgFkHp
namespace Go.Proofs.YtgcidamdbidgiaaDoor
open Go.RowKit
set_option maxRecDepth 20000
set_option linter.unusedSimpArgs false

theorem Bytes.toSf {w : World} {x : Option Addr} {n c : Nat} {z : List Int} (h : Bytes w x n c z) : S.Bytes w x n c z := ⟨h.1, h.2, h.3, h.4, h.5⟩
theorem zeroKeyH (w : World) : (zeroValue 34).run Tryd.prog w = .ok (.agg (row .u8 (List.replicate 32 0))) w := by kernel_rfl
theorem sizeKeyH : (Tryd.prog.info? 34).map (·.size) = some 32 := by kernel_rfl
theorem sumL_inH (z : List Int) : isB8 (S.sumL z) := by
  unfold S.sumL S.joinL
  have : ∀ (s : List Int) (k : Nat), isB8 (S.joinK s k) := fun s k => by
    induction k with
    | zero => intro v hv; cases hv
    | succ k ih =>
      intro v hv
      rcases List.mem_append.1 hv with h | h
      · exact ih v h
      · simp only [S.bytes4, List.mem_cons, List.not_mem_nil, or_false] at h
        rcases h with rfl | rfl | rfl | rfl <;> omega
  exact this _ 8
/-- A frame's digest. -/
def fsum (F : Fr) (lw lb : Nat) (ws : List Wp) (body : List Int) : List Int := if lw ≤ 64 ∧ lb ≤ 4112 then S.sumL (frameL F ws body) else List.replicate 32 0
theorem FrIn.below {W W' : World} {F : Fr} {xw : Option Addr} {lw cw : Nat} {ws : List Wp} {xb : Option Addr} {lb cb : Nat} {body : List Int} (h : FrIn W F xw lw cw ws xb lb cb body) (hb : Below W.heap.size W W') : FrIn W' F xw lw cw ws xb lb cb body :=
  ⟨h.prev, h.mac, h.wraps, h.body_, h.hw.below hb, h.hb.below hb, h.inF, h.inW, h.inB⟩
theorem frameL_length (F : Fr) (ws : List Wp) (body : List Int) (hp : F.prev.length = 32) (hm : F.mac.length = 32) (h : ∀ e ∈ ws, e.data.length = 48) : (frameL F ws body).length = 79 + 54 * ws.length + body.length := by
  unfold frameL
  simp only [List.length_append, openL_length F ws hp h, hm]
  simp [be2]; omega
section
variable (F : Fr) (xw : Option Addr) (lw cw : Nat) (ws : List Wp) (xb : Option Addr) (lb cb : Nat) (body : List Int) (w : World)
set_option maxHeartbeats 4000000 in
theorem fSum_any (hF : FrIn w F xw lw cw ws xb lb cb body) (hKT : S.KTab w) :
    Calls Tryd.prog 41 #[.agg F.cells.toArray] w fun e w' => e = .returned (.agg (row .u8 (fsum F lw lb ws body))) ∧ Below w.heap.size w w' := by
  obtain ⟨q0, _⟩ := fr_parts F hF.prev hF.mac
  have hiF : (Tryd.prog.info? 38).map (·.size) = some F.cells.length := by rw [q0]; exact sizeFrame
  obtain ⟨Z, hZl, hZ⟩ : ∃ Z : List Int, Z.length = 32 ∧ Z = List.replicate 32 0 := ⟨_, rfl, rfl⟩
  have hD0 := (CellsAt.new w 38 F.cells).alloc (.cells (row .u8 Z) 34)
  have hr0 := Holds.new (w.alloc (.cells F.cells.toArray 38)) .u8 34 Z
  rw [World.size_alloc] at hr0
  have hB : Below w.heap.size w ((w.alloc (.cells F.cells.toArray 38)).alloc (.cells (row .u8 Z) 34)) := ((Below.refl _ _).alloc (Nat.le_refl _) _).alloc (by simp) _
  rw [hZ] at hD0 hr0 hB
  by_cases hs : lw ≤ 64 ∧ lb ≤ 4112
  · have hfs : fsum F lw lb ws body = S.sumL (frameL F ws body) := by unfold fsum; rw [if_pos hs]
    have hfl : (S.sumL (frameL F ws body)).length = 32 := S.sumL_length _
    have HFR : Veil (∀ W, Below w.heap.size w W → Calls Tryd.prog 51 #[.agg F.cells.toArray] W fun e w' => ∃ v, e = .returned (.tuple #[v, .int .i64 0]) ∧ OwnB w' W.heap.size v (frameL F ws body) ∧ Below W.heap.size W w') := ⟨fun W hb => Frame_any F xw lw cw ws xb lb cb body W hF.prev hF.mac hF.wraps (hF.hw.below hb) hF.body_ (hF.hb.below hb) hs.1 hs.2⟩
    have hlen := frameL_length F ws body hF.prev hF.mac hF.hw.ok
    have h1 := hF.hw.len_eq
    have h2 := hF.hb.len_eq
    have HSM : Veil (∀ W x n c, Below w.heap.size w W → Bytes W x n c (frameL F ws body) → Calls Tryd.prog 52 #[.slice x n c] W fun e w' => e = .returned (.agg (row .u8 (S.sumL (frameL F ws body)))) ∧ Below W.heap.size W w') := ⟨fun W x n c hb hz => S.sum_any x n c _ W hz.toSf (by have := hz.len_eq; omega) (hKT.below hb)⟩
    clear hlen h1 h2
    rw [hfs]
    clear hfs hF hKT q0
    generalize S.sumL (frameL F ws body) = SM at hfl HSM ⊢
    generalize frameL F ws body = FL at HSM HFR
    go_enter Tryd.func41, Tryd.ntmps41
    go_upto_region 1 with fail
    refine forget (p := fun y => Code.wp _ _ _ _ y) (fun W => Below w.heap.size w W ∧ CellsAt W w.heap.size 38 F.cells ∧ Holds W (w.heap.size + 1) .u8 34 Z) ⟨hB, hD0, by rw [hZ]; exact hr0⟩ ?_
    clear hB hD0 hr0 hZ
    rintro W ⟨hB, hD0, hr0⟩
    have hfr := HFR.out W hB
    have rF : W.rangeAt w.heap.size 0 F.cells := fun j v hv => by rw [Nat.zero_add, hD0.cell]; exact hv
    go_upto_region 2 with (first
      | (refine wpList_ldv rfl 38 _ rfl _ _ rfl F.cells rF Tryd.underlying38 rfl hiF ?_)
      | (go_at_call 51; refine hfr.mono ?_; rintro e w1 ⟨v1, rfl, ho1, hb1⟩; obtain ⟨x1, n1, c1, rfl, -⟩ := ho1.isSlice))
    have hB1 := hB.trans (hb1.mono hB.size)
    have hsum := HSM.out w1 x1 n1 c1 hB1 ho1.bytes.2
    have hr1 := hr0.below hb1 hr0.lt
    clear hfr ho1 HSM HFR hD0 hr0 rF hB hb1 hiF
    go_wp2_with (first
      | (go_at_call 52; refine hsum.mono ?_; rintro e w2 ⟨rfl, hb2⟩; have hr2 := hr1.below hb2 hr1.lt)
      | (refine wpList_st rfl 34 _ _ rfl _ rfl rfl hr2 (by rw [hfl]; exact sizeKeyH) (by rw [hfl, hZl]) ?_))
    refine bodyPost_ret (results_holds (Tryd.results41) _ rfl (hr2.setRow SM) Tryd.underlying34 sizeKeyH hfl) rfl ⟨rfl, ?_⟩
    exact below_setRow (hB1.trans (hb2.mono hB1.size)) (by omega) _
  · have hfs : fsum F lw lb ws body = List.replicate 32 0 := by unfold fsum; rw [if_neg hs]
    have HFR := fun W => Frame_long F xw lw cw xb lb cb W hF.prev hF.mac hF.wraps hF.body_ (by omega)
    rw [hfs]
    clear hF hKT q0 hfs
    go_enter Tryd.func41, Tryd.ntmps41
    go_upto_region 1 with fail
    refine forget (p := fun y => Code.wp _ _ _ _ y) (fun W => Below w.heap.size w W ∧ CellsAt W w.heap.size 38 F.cells ∧ Holds W (w.heap.size + 1) .u8 34 Z) ⟨hB, hD0, by rw [hZ]; exact hr0⟩ ?_
    clear hB hD0 hr0
    rintro W ⟨hB, hD0, hr0⟩
    have hfr := HFR W
    have rF : W.rangeAt w.heap.size 0 F.cells := fun j v hv => by rw [Nat.zero_add, hD0.cell]; exact hv
    clear HFR
    clear hZ
    go_upto_region 3 with (first
      | (refine wpList_ldv rfl 38 _ rfl _ _ rfl F.cells rF Tryd.underlying38 rfl hiF ?_)
      | (go_at_call 51; refine hfr.mono ?_; rintro e w1 ⟨rfl, hb1⟩))
    have hr1 := hr0.below hb1 hr0.lt
    have hB1 := hB.trans (hb1.mono hB.size)
    clear hfr rF hD0 hr0 hB hb1 hiF
    go_wp2_with (first
      | (refine wpList_st rfl 34 _ _ rfl _ rfl (k := .u8) (l := List.replicate 32 0) (by kernel_rfl) hr1 (by kernel_rfl) hZl ?_))
    refine bodyPost_ret (results_holds (Tryd.results41) _ rfl (hr1.setRow (List.replicate 32 0)) Tryd.underlying34 sizeKeyH rfl) rfl ⟨rfl, ?_⟩
    exact below_setRow hB1 (by omega) _
set_option maxHeartbeats 4000000 in
theorem rfSum_any (hF : FrIn w F xw lw cw ws xb lb cb body) :
    Calls Tryd.prog 16 #[.agg F.cells.toArray] w fun e w' => e = .returned (.agg (row .u8 (fsum F lw lb ws body))) ∧ Below w.heap.size w w' := by
  obtain ⟨q0, _⟩ := fr_parts F hF.prev hF.mac
  have hiF : (Tryd.prog.info? 38).map (·.size) = some F.cells.length := by rw [q0]; exact sizeFrame
  obtain ⟨Z, hZl, hZ⟩ : ∃ Z : List Int, Z.length = 32 ∧ Z = List.replicate 32 0 := ⟨_, rfl, rfl⟩
  have hD0 := (CellsAt.new w 38 F.cells).alloc (.cells (row .u8 Z) 34)
  have hr0 := Holds.new (w.alloc (.cells F.cells.toArray 38)) .u8 34 Z
  rw [World.size_alloc] at hr0
  have hB : Below w.heap.size w ((w.alloc (.cells F.cells.toArray 38)).alloc (.cells (row .u8 Z) 34)) := ((Below.refl _ _).alloc (Nat.le_refl _) _).alloc (by simp) _
  rw [hZ] at hD0 hr0 hB
  by_cases hs : lw ≤ 64 ∧ lb ≤ 4112
  · have hfs : fsum F lw lb ws body = S.sumL (frameL F ws body) := by unfold fsum; rw [if_pos hs]
    have hfl : (S.sumL (frameL F ws body)).length = 32 := S.sumL_length _
    have HFR : Veil (∀ W, Below w.heap.size w W → Calls Tryd.prog 32 #[.agg F.cells.toArray] W fun e w' => ∃ v, e = .returned (.tuple #[v, .int .i64 0]) ∧ OwnB w' W.heap.size v (frameL F ws body) ∧ Below W.heap.size W w') := ⟨fun W hb => refFrame_any F xw lw cw ws xb lb cb body W hF.prev hF.mac hF.wraps (hF.hw.below hb) hF.body_ (hF.hb.below hb) hs.1 hs.2⟩
    have hlen := frameL_length F ws body hF.prev hF.mac hF.hw.ok
    have h1 := hF.hw.len_eq
    have h2 := hF.hb.len_eq
    have HSM : Veil (∀ W x n c, Below w.heap.size w W → Bytes W x n c (frameL F ws body) → Calls Tryd.prog 33 #[.slice x n c] W fun e w' => e = .returned (.agg (row .u8 (S.sumL (frameL F ws body)))) ∧ Below W.heap.size W w') := ⟨fun W x n c hb hz => S.refSum_any x n c _ W hz.toSf (by have := hz.len_eq; omega)⟩
    clear hlen h1 h2
    rw [hfs]
    clear hfs hF q0
    generalize S.sumL (frameL F ws body) = SM at hfl HSM ⊢
    generalize frameL F ws body = FL at HSM HFR
    go_enter Tryd.func16, Tryd.ntmps16
    go_upto_region 1 with fail
    refine forget (p := fun y => Code.wp _ _ _ _ y) (fun W => Below w.heap.size w W ∧ CellsAt W w.heap.size 38 F.cells ∧ Holds W (w.heap.size + 1) .u8 34 Z) ⟨hB, hD0, by rw [hZ]; exact hr0⟩ ?_
    clear hB hD0 hr0 hZ
    rintro W ⟨hB, hD0, hr0⟩
    have hfr := HFR.out W hB
    have rF : W.rangeAt w.heap.size 0 F.cells := fun j v hv => by rw [Nat.zero_add, hD0.cell]; exact hv
    go_upto_region 2 with (first
      | (refine wpList_ldv rfl 38 _ rfl _ _ rfl F.cells rF Tryd.underlying38 rfl hiF ?_)
      | (go_at_call 32; refine hfr.mono ?_; rintro e w1 ⟨v1, rfl, ho1, hb1⟩; obtain ⟨x1, n1, c1, rfl, -⟩ := ho1.isSlice))
    have hB1 := hB.trans (hb1.mono hB.size)
    have hsum := HSM.out w1 x1 n1 c1 hB1 ho1.bytes.2
    have hr1 := hr0.below hb1 hr0.lt
    clear hfr ho1 HSM HFR hD0 hr0 rF hB hb1 hiF
    go_wp2_with (first
      | (go_at_call 33; refine hsum.mono ?_; rintro e w2 ⟨rfl, hb2⟩; have hr2 := hr1.below hb2 hr1.lt)
      | (refine wpList_st rfl 34 _ _ rfl _ rfl rfl hr2 (by rw [hfl]; exact sizeKeyH) (by rw [hfl, hZl]) ?_))
    refine bodyPost_ret (results_holds (Tryd.results16) _ rfl (hr2.setRow SM) Tryd.underlying34 sizeKeyH hfl) rfl ⟨rfl, ?_⟩
    exact below_setRow (hB1.trans (hb2.mono hB1.size)) (by omega) _
  · have hfs : fsum F lw lb ws body = List.replicate 32 0 := by unfold fsum; rw [if_neg hs]
    have HFR := fun W => refFrame_long F xw lw cw xb lb cb W hF.prev hF.mac hF.wraps hF.body_ (by omega)
    rw [hfs]
    clear hF q0 hfs
    go_enter Tryd.func16, Tryd.ntmps16
    go_upto_region 1 with fail
    refine forget (p := fun y => Code.wp _ _ _ _ y) (fun W => Below w.heap.size w W ∧ CellsAt W w.heap.size 38 F.cells ∧ Holds W (w.heap.size + 1) .u8 34 Z) ⟨hB, hD0, by rw [hZ]; exact hr0⟩ ?_
    clear hB hD0 hr0
    rintro W ⟨hB, hD0, hr0⟩
    have hfr := HFR W
    have rF : W.rangeAt w.heap.size 0 F.cells := fun j v hv => by rw [Nat.zero_add, hD0.cell]; exact hv
    clear HFR
    clear hZ
    go_upto_region 3 with (first
      | (refine wpList_ldv rfl 38 _ rfl _ _ rfl F.cells rF Tryd.underlying38 rfl hiF ?_)
      | (go_at_call 32; refine hfr.mono ?_; rintro e w1 ⟨rfl, hb1⟩))
    have hr1 := hr0.below hb1 hr0.lt
    have hB1 := hB.trans (hb1.mono hB.size)
    clear hfr rF hD0 hr0 hB hb1 hiF
    go_wp2_with (first
      | (refine wpList_st rfl 34 _ _ rfl _ rfl (k := .u8) (l := List.replicate 32 0) (by kernel_rfl) hr1 (by kernel_rfl) hZl ?_))
    refine bodyPost_ret (results_holds (Tryd.results16) _ rfl (hr1.setRow (List.replicate 32 0)) Tryd.underlying34 sizeKeyH rfl) rfl ⟨rfl, ?_⟩
    exact below_setRow hB1 (by omega) _
end
end Go.Proofs.YtgcidamdbidgiaaDoor
