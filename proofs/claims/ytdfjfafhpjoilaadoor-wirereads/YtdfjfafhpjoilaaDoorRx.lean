/- The readers of wire: wraps. -/
import Derived.Test.YtdfjfafhpjoilaaDoorRw
import Derived.Laws.MakeOwn
namespace Go.Proofs.YtdfjfafhpjoilaaDoor
open Go.RowKit
set_option maxRecDepth 20000
set_option linter.unusedSimpArgs false

/-- Wraps as cells. -/
def wpsC (l : List Wp) : List Value := (l.map Wp.cells).flatten
def wpsOk (l : List Wp) : Prop := ∀ e ∈ l, e.data.length = 48
theorem wpsC_app (a b : List Wp) : wpsC (a ++ b) = wpsC a ++ wpsC b := by simp [wpsC]
theorem wpsC_cons (e : Wp) (b : List Wp) : wpsC (e :: b) = e.cells ++ wpsC b := by simp [wpsC]
theorem wpsC_len (l : List Wp) (h : wpsOk l) : (wpsC l).length = l.length * 51 := by
  induction l with
  | nil => rfl
  | cons e l ih =>
    have h1 := ih (fun x hx => h x (by simp [hx]))
    unfold wpsC at h1 ⊢
    rw [List.map_cons, List.flatten_cons, List.length_append, h1, wp_len e (h e (by simp)), List.length_cons]; omega
theorem wpsC_at (l : List Wp) (h : wpsOk l) (j : Nat) (hj : j < l.length) : ((wpsC l).drop (j * 51)).take 51 = (l[j]).cells := by
  have e : l = l.take j ++ l[j] :: l.drop (j + 1) := by rw [List.getElem_cons_drop, List.take_append_drop]
  have hl : (wpsC (l.take j)).length = j * 51 := by rw [wpsC_len _ (fun x hx => h x (List.mem_of_mem_take hx)), List.length_take, Nat.min_eq_left (by omega)]
  have e2 : wpsC l = wpsC (l.take j) ++ ((l[j]).cells ++ wpsC (l.drop (j + 1))) := by
    conv => lhs; rw [e]
    rw [wpsC_app, wpsC_cons]
  rw [e2, List.drop_left' hl]
  exact List.take_left' (wp_len _ (h _ (List.getElem_mem hj)))
theorem wpsC_one (l : List Wp) : ∀ v ∈ wpsC l, v.oneCell' = true := by
  intro v hv
  unfold wpsC at hv
  obtain ⟨c, hc, hvc⟩ := List.mem_flatten.1 hv
  obtain ⟨e, _, rfl⟩ := List.mem_map.1 hc
  unfold Wp.cells dotC at hvc
  simp only [List.mem_append, List.mem_cons, List.not_mem_nil, or_false, List.mem_map] at hvc
  rcases hvc with (rfl | (rfl | rfl)) | ⟨_, _, rfl⟩ <;> rfl
theorem wraps_of_cells {w : World} {G : Nat} {t : TypeId} {ws : List Wp} {n : Nat} (h : CellsAt w G t (wpsC ws)) (hok : wpsOk ws) (hn : n = ws.length) (hm : n ≤ 1000000) : WrapsAt w (some ⟨G, 0, none⟩) n n ws := by
  refine ⟨hn, Nat.le_refl _, by omega, (fun h => by cases h), hok, .inr ⟨G, 0, rfl, fun j hj => ?_⟩⟩
  have := h.range (0 + j * 51) 51
  rw [Nat.zero_add, wpsC_at ws hok j hj] at this
  rw [Nat.zero_add]; exact this
/-- What bytes say as so many wraps. -/
def wpsN (z : List Int) (o n : Nat) : List Wp := (List.range n).map fun i => wpOf z (o + 54 * i)
theorem wpsN_succ (z : List Int) (o n : Nat) : wpsN z o (n + 1) = wpsN z o n ++ [wpOf z (o + 54 * n)] := by unfold wpsN; rw [List.range_succ, List.map_append]; rfl
theorem wpsN_len (z : List Int) (o n : Nat) : (wpsN z o n).length = n := by simp [wpsN]
theorem wpsN_ok (z : List Int) (o n : Nat) (h : o + 54 * n ≤ z.length) : wpsOk (wpsN z o n) := fun e he => by
  obtain ⟨i, hi, rfl⟩ := List.mem_map.1 he
  have := List.mem_range.1 hi
  unfold wpOf
  simp only [List.length_take, List.length_drop]
  omega
theorem wrapZero_info : (Tryd.prog.info? 52).map (fun i => (i.zero, i.size, i.bytes)) = some (some (.agg zeroWp.toArray), 51, 60) := by kernel_rfl
theorem run_makeWraps (n : Nat) (hn : n ≤ 64) : ∃ M : List Value, M.length = n * 51 ∧ ∀ wx : World, (Instr.makeSlice 28 (.int .i64 (n : Int)) (.int .i64 (n : Int))).run Tryd.prog wx = .ok (.slice (some ⟨wx.heap.size, 0, none⟩) n n) (wx.alloc (.cells M.toArray 52)) := by
  have h := wrapZero_info
  cases hq : Tryd.prog.info? 52 with
  | none => simp [hq] at h
  | some i =>
    simp only [hq, Option.map_some, Option.some.injEq, Prod.mk.injEq] at h
    obtain ⟨h1, h2, h3⟩ := h
    refine ⟨(madeCells zeroWp.toArray (n * 51)).toList, by rw [Array.length_toList, size_madeCells], fun wx => ?_⟩
    have := run_make (P := Tryd.prog) wx 28 52 i _ Tryd.underlying28 hq h1 .i64 .i64 (n : Int) (n : Int) (by omega) (by omega) (by rw [h3]; omega) (by omega)
    rw [this, h2]
    simp [Value.cells]
def wpsCond (z : List Int) (o : Nat) : Prop := o + 1 ≤ z.length ∧ at1 z o ≤ 64 ∧ o + 1 + 54 * (at1 z o).toNat ≤ z.length

set_option maxHeartbeats 8000000 in
theorem rwraps_at (R base : Nat) (z : List Int) (o : Nat) (w : World) (hR : Rd w R base (z.drop o)) (hz : ∀ v ∈ z, b8 v) :
    Calls Tryd.prog 26 #[.pointer (some ⟨R, 0, none⟩)] w fun e w' =>
      (wpsCond z o ∧ ∃ G, e = .returned (.slice (some ⟨G, 0, none⟩) (at1 z o).toNat (at1 z o).toNat) ∧ w.heap.size ≤ G ∧ CellsAt w' G 52 (wpsC (wpsN z (o + 1) (at1 z o).toNat)) ∧ Rd w' R base (z.drop (o + 1 + 54 * (at1 z o).toNat)) ∧ Took w w' R base) ∨ (¬ wpsCond z o ∧ e = .panicked [wrongP] ∧ Took w w' R base) := by
  have hlt := hR.lt
  have hsz := hR.size
  have h8 := b8_get hz o
  have h1 := rone_at R base z o w hR
  have hwp := fun (j : Nat) wx (h : Rd wx R base (z.drop (o + 1 + 54 * j))) => rwrap_at R base z (o + 1 + 54 * j) wx h hz
  have HC : Veil (wpsCond z o ↔ (o + 1 ≤ z.length ∧ at1 z o ≤ 64 ∧ o + 1 + 54 * (at1 z o).toNat ≤ z.length)) := ⟨Iff.rfl⟩
  obtain ⟨CO, hCO⟩ : ∃ q, wpsCond z o = q := ⟨_, rfl⟩
  rw [hCO] at HC ⊢
  obtain ⟨n, hn⟩ : ∃ n : Nat, at1 z o = (n : Int) := ⟨(at1 z o).toNat, by unfold at1; omega⟩
  rw [hn] at h1 HC ⊢
  rw [Int.toNat_natCast] at HC ⊢
  have hn255 : n ≤ 255 := by
    have : at1 z o ≤ 255 := h8.2
    omega
  have HS : Veil (∀ j, wpsN z (o + 1) (j + 1) = wpsN z (o + 1) j ++ [wpOf z (o + 1 + 54 * j)]) := ⟨wpsN_succ z (o + 1)⟩
  have HLN : Veil (∀ j, (wpsN z (o + 1) j).length = j) := ⟨wpsN_len z (o + 1)⟩
  have HOK : Veil (∀ j, o + 1 + 54 * j ≤ z.length → wpsOk (wpsN z (o + 1) j)) := ⟨wpsN_ok z (o + 1)⟩
  have hwr : IntKind.i64.wrap (n : Int) = (n : Int) := by rw [IntKind.wrap_i64]; omega
  clear hz h8 hn hCO
  go_enter Tryd.func26, Tryd.ntmps26
  by_cases k0 : o + 1 ≤ z.length
  rotate_left
  · go_upto_region 2 with (go_at_call 22; refine h1.mono ?_; rintro e wB (⟨hx, _⟩ | ⟨_, rfl, htB⟩); (exfalso; omega))
    exact bodyPost_gone (.inr ⟨fun h => k0 (HC.out.1 h).1, rfl, htB⟩)
  go_upto_region 2 with (go_at_call 22; refine h1.mono ?_; rintro e w1 (⟨_, rfl, hR1, ht1⟩ | ⟨hx, _⟩); rotate_left; (exfalso; omega))
  by_cases k1 : n ≤ 64
  rotate_left
  · have hnb : ¬ (n : Int) ≤ 64 := by omega
    have hnd := need_bad w1
    go_upto_region 3 with (go_at_call 21; refine hnd.mono ?_; rintro e w2 ⟨rfl, rfl⟩)
    exact bodyPost_gone (.inr ⟨fun h => by have := (HC.out.1 h).2.1; omega, rfl, ht1⟩)
  have hnb : (n : Int) ≤ 64 := by omega
  have hnd := need_ok w1
  go_upto_region 3 with (go_at_call 21; refine hnd.mono ?_; rintro e w2 ⟨⟨r2, rfl⟩, rfl⟩)
  obtain ⟨M, hM, hmk⟩ := run_makeWraps n k1
  have HM : Veil (M.length = n * 51) := ⟨hM⟩
  have hG0 := CellsAt.new w1 52 M
  have hR2 := hR1.alloc (.cells M.toArray 52)
  have ht2 := ht1.trans (Took.alloc hR1.size (.cells M.toArray 52))
  have hge : w.heap.size ≤ w1.heap.size := ht1.more
  clear hM h1 hnd
  go_upto_region 4 with fail
  refine forget (p := fun y => Code.wp _ _ _ _ y) (fun W => Rd W R base (z.drop (o + 1 + 54 * 0)) ∧ Took w W R base ∧ CellsAt W w1.heap.size 52 M) ⟨hR2, ht2, hG0⟩ ?_
  obtain ⟨G, hG⟩ : ∃ q, w1.heap.size = q := ⟨_, rfl⟩
  have hbG : base ≤ G := by rw [← hG]; exact hR1.size
  rw [hG] at hge ⊢
  clear hG0 hR2 ht2 hR1 ht1 hmk hG
  have hRG : R ≠ G := by omega
  rintro W ⟨hR0, hT0, hG0⟩
  go_wp2_with fail
  go_loopw [5, 16] (fun _ q wr => ∃ j : Nat, j ≤ n ∧ q = .int .i64 j ∧ o + 1 + 54 * j ≤ z.length ∧ Rd wr R base (z.drop (o + 1 + 54 * j)) ∧ Took w wr R base ∧ CellsAt wr G 52 (wpsC (wpsN z (o + 1) j) ++ M.drop (j * 51))) (fun _ q _ => n - (intOf q).toNat)
  case atStart => exact ⟨0, by omega, rfl, by omega, hR0, hT0, by simpa [wpsN, wpsC] using hG0⟩
  case round =>
    clear hR0 hT0 hG0 W
    obtain ⟨j, hj, rfl, hzl, hR0, hT0, hG0⟩ := hrel
    by_cases hltn : j < n
    · have h1W := hwp j wr hR0
      have hok := HOK.out j hzl
      have hlj := wpsC_len _ hok
      rw [HLN.out j] at hlj
      have HE : Veil (o + 1 + 54 * j + 54 ≤ z.length → (wpsC (wpsN z (o + 1) j) ++ M.drop (j * 51)).take (j * 51) ++ (wpOf z (o + 1 + 54 * j)).cells ++ (wpsC (wpsN z (o + 1) j) ++ M.drop (j * 51)).drop (j * 51 + (wpOf z (o + 1 + 54 * j)).cells.length) = wpsC (wpsN z (o + 1) (j + 1)) ++ M.drop ((j + 1) * 51)) := ⟨fun hq => by
        have hl1 : (wpOf z (o + 1 + 54 * j)).cells.length = 51 := wp_len _ (by unfold wpOf; simp only [List.length_take, List.length_drop]; omega)
        rw [HS.out j, wpsC_app, List.take_left' hlj, hl1, ← List.drop_drop, List.drop_left' hlj, List.drop_drop, show j * 51 + 51 = (j + 1) * 51 by omega]
        simp [wpsC]⟩
      have HLC : Veil ((wpsC (wpsN z (o + 1) j) ++ M.drop (j * 51)).length = n * 51) := ⟨by rw [List.length_append, hlj, List.length_drop, HM.out]; omega⟩
      have HWL : Veil (o + 1 + 54 * j + 54 ≤ z.length → (wpOf z (o + 1 + 54 * j)).data.length = 48) := ⟨fun hq => by unfold wpOf; simp only [List.length_take, List.length_drop]; omega⟩
      obtain ⟨C0, hC0⟩ : ∃ q, wpsC (wpsN z (o + 1) j) ++ M.drop (j * 51) = q := ⟨_, rfl⟩
      obtain ⟨C1, hC1⟩ : ∃ q, wpsC (wpsN z (o + 1) (j + 1)) ++ M.drop ((j + 1) * 51) = q := ⟨_, rfl⟩
      obtain ⟨E, hE⟩ : ∃ q, wpOf z (o + 1 + 54 * j) = q := ⟨_, rfl⟩
      have HC1 : Veil (wpsC (wpsN z (o + 1) (j + 1)) ++ M.drop ((j + 1) * 51) = C1) := ⟨hC1⟩
      rw [hC0] at hG0 HE HLC
      rw [hE] at h1W HE HWL
      rw [hC1] at HE
      have hj0 : (0 : Int) ≤ (j : Int) := by omega
      have hjn : (j : Int) < (n : Int) := by omega
      clear hok hlj hC0 hC1 hE
      by_cases k2 : o + 1 + 54 * j + 54 ≤ z.length
      rotate_left
      · go_wp2_with (go_at_call 34; refine h1W.mono ?_; rintro e wB (⟨hx, _⟩ | ⟨_, rfl, htB⟩); (exfalso; omega))
        exact bodyPost_gone (.inr ⟨fun h => by have := (HC.out.1 h).2.2; omega, rfl, hT0.trans htB⟩)
      have hEd := HWL.out k2
      have iW : (Tryd.prog.info? 52).map (·.size) = some E.cells.length := by rw [wp_len E hEd]; exact sizeWrap
      have hfit : j * 51 + E.cells.length ≤ C0.length := by rw [wp_len E hEd, HLC.out]; omega
      obtain ⟨_, _, _, _, h1E⟩ := wp_parts E hEd
      have HE1 := Veil.mk (HE.out k2)
      have HEl := Veil.mk (wp_len E hEd)
      clear hEd HE
      go_wp2_with (first
        | (go_at_call 34; refine h1W.mono ?_; rintro e w1 (⟨_, rfl, hR1, ht1⟩ | ⟨hx, _⟩); rotate_left; (exfalso; omega); have hH1 := hG0.took ht1 (by omega))
        | (refine wpList_stm rfl 52 _ _ rfl _ (j * 51) rfl rfl hH1 iW hfit h1E ?_))
      have hH2 := hH1.setRow (C0.take (j * 51) ++ E.cells ++ C0.drop (j * 51 + E.cells.length))
      have e54 : o + 1 + 54 * j + 54 = o + 1 + 54 * (j + 1) := by omega
      rw [e54] at hR1
      clear e54
      go_roundw
      case rel => exact ⟨j + 1, by omega, by go_num, by omega, hR1.setRowO _ hbG hRG, (hT0.trans ht1).setRowO _ hge hbG, by rw [HC1.out, ← HE1.out]; rw [HEl.out] at hH2 ⊢; simpa only [List.append_assoc] using hH2⟩
      case measure => simp [intOf]; omega
    · obtain rfl : j = n := by omega
      rw [List.drop_of_length_le (by rw [HM.out]; omega), List.append_nil] at hG0
      have hnn : ¬ (j : Int) < (j : Int) := by omega
      clear hwp
      go_wp2
      go_ret
      exact .inl ⟨HC.out.2 ⟨k0, hnb, hzl⟩, G, rfl, hge, hG0, hR0, hT0⟩
end Go.Proofs.YtdfjfafhpjoilaaDoor
