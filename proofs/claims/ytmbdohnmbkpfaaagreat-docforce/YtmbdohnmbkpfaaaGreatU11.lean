/- Fg1 Fg2 Fg3 -/
import Derived.Test.YtmbdohnmbkpfaaaGreatU09
import Derived.Test.YtmbdohnmbkpfaaaGreatU10
import Derived.Test.YtmbdohnmbkpfaaaGreatU07
import Derived.Test.YtmbdohnmbkpfaaaGreatU05
import Derived.Lib.Overlaps
import Derived.Lib.AppendZeros
import Derived.Laws.CopyRow
import Derived.Test.YtmbdohnmbkpfaaaGreatU08
namespace Go.Proofs.YtmbdohnmbkpfaaaGreat
open Go.RowKit Go.Shelf
set_option maxRecDepth 20000
set_option linter.unusedSimpArgs false
abbrev encF (x : Int × Int) : List Value := dotC x.1 x.2
theorem cmpDotF_any (x y : Int × Int) (w : World) : Calls Tryz.prog 128 #[.agg (encF x).toArray, .agg (encF y).toArray] w fun e w' => e = .returned (.int .i64 (cmpD x y)) ∧ Below w.heap.size w w' := by
  obtain ⟨x1, x2⟩ := x
  obtain ⟨y1, y2⟩ := y
  have h1 := fun W => cmpB_any x1 y1 W
  have h2 := fun W => cmpU_any x2 y2 W
  have HC : Veil (cmpD (x1, x2) (y1, y2) = if x1 = y1 then cmpI x2 y2 else cmpI x1 y1) := ⟨rfl⟩
  have HG : Veil (Below w.heap.size w ((w.alloc (.cells #[.int .u8 x1, .int .u32 x2] 40)).alloc (.cells #[.int .u8 y1, .int .u32 y2] 40))) := ⟨((Below.refl _ _).alloc (Nat.le_refl _) _).alloc (by simp) _⟩
  generalize cmpD (x1, x2) (y1, y2) = R at HC ⊢
  generalize cmpI x1 y1 = R1 at HC h1
  generalize cmpI x2 y2 = R2 at HC h2
  simp only [encF, dotC]
  by_cases hq : x1 = y1
  · have HR : Veil (R = R2) := ⟨by rw [HC.out, if_pos hq]⟩
    subst hq
    go_enter Tryz.func128, Tryz.ntmps128
    go_wp2_with (go_at_call 132; refine (h2 _).mono ?_; rintro e w' ⟨rfl, rfl⟩)
    go_ret
    exact ⟨by rw [HR.out]; rfl, HG.out⟩
  · have HR : Veil (R = R1) := ⟨by rw [HC.out, if_neg hq]⟩
    have hqb : (x1 != y1) = true := by simpa using hq
    go_enter Tryz.func128, Tryz.ntmps128
    go_wp2_with (go_at_call 131; refine (h1 _).mono ?_; rintro e w' ⟨rfl, rfl⟩)
    go_ret
    exact ⟨by rw [HR.out]; rfl, HG.out⟩
def posD (ds : List (Int × Int)) (t : Int × Int) : Nat := (ds.takeWhile (fun x => decide (cmpD x t < 0))).length
theorem takeWhile_at {α : Type} (p : α → Bool) : ∀ (l : List α) (i : Nat), i ≤ l.length → (∀ k (h : k < l.length), k < i → p l[k] = true) → (∀ (h : i < l.length), p l[i] = false) → (l.takeWhile p).length = i
  | [], i, hi, _, _ => by simp at hi; simp [hi]
  | a :: l, 0, _, _, h2 => by
    have := h2 (by simp)
    simp at this
    simp [this]
  | a :: l, i + 1, hi, h1, h2 => by
    have h0 := h1 0 (by simp) (by omega)
    simp at h0
    rw [List.takeWhile_cons_of_pos h0, List.length_cons, takeWhile_at p l i (by simpa using hi) (fun k h hk => by have := h1 (k + 1) (by simp; omega) (by omega); simpa using this) (fun h => by have := h2 (by simp; omega); simpa using this)]
structure BsR (ds : List (Int × Int)) (t : Int × Int) (v : Value) : Prop where
  out : ∃ fnd, v = .tuple #[.int .i64 (posD ds t : Nat), .bool fnd]
set_option maxHeartbeats 8000000 in
theorem bsD_any (base : Nat) (x : Option Addr) (n c : Nat) (ds : List (Int × Int)) (t : Int × Int) (w : World) (hO : OwnI w base 40 2 (.slice x n c) (ds.map encF)) (hm : ∀ i j (hj : j < ds.length) (hij : i ≤ j), cmpD ds[j] t < 0 → cmpD (ds[i]'(by omega)) t < 0) (hn : ds.length ≤ 100000) :
    Calls Tryz.prog 127 #[.slice x n c, .agg (encF t).toArray, .func (.func 128) #[] #[]] w fun e w' => ∃ v, e = .returned v ∧ BsR ds t v ∧ Below w.heap.size w w' := by
  have hB0 : Below w.heap.size w (w.alloc (.cells (encF t).toArray 40)) := (Below.refl _ _).alloc (Nat.le_refl _) _
  have hx0 := CellsAt.new w 40 (encF t)
  have iD : ∀ y : Int × Int, (Tryz.prog.info? 40).map (·.size) = some (encF y).length := fun y => sizeDot
  have iT := iD t
  have uD := Tryz.underlying40
  obtain ⟨x', c', hsl⟩ := hO.isSlice
  obtain ⟨rfl, hnl, rfl⟩ : x = x' ∧ n = ds.length ∧ c = c' := by
    injection hsl with h1 h2 h3
    exact ⟨h1, by rw [h2, List.length_map], h3⟩
  clear hsl
  have HNL := Veil.mk hnl
  have HO := Veil.mk hO
  have HM := Veil.mk hm
  have HCM : Veil (∀ (k : Nat) (hk : k < ds.length) W, Calls Tryz.prog 128 #[.agg (encF ds[k]).toArray, .agg (encF t).toArray] W fun e w' => e = .returned (.int .i64 (cmpD ds[k] t)) ∧ Below W.heap.size W w') := ⟨fun k hk W => cmpDotF_any ds[k] t W⟩
  have hn1 : n ≤ 100000 := by omega
  obtain ⟨DT, hDT⟩ : ∃ q, encF t = q := ⟨_, rfl⟩
  rw [hDT] at hB0 hx0 iT HCM ⊢
  clear hO hm hnl hDT hn
  go_enter Tryz.func127, Tryz.ntmps127
  go_upto_region 1 with fail
  refine forget (p := fun y => Code.wp _ _ _ _ y) (fun W => Below w.heap.size w W ∧ CellsAt W w.heap.size 40 DT) ⟨hB0, hx0⟩ ?_
  clear hB0 hx0
  rintro W1 ⟨hB1, hx1⟩
  go_wp2_with fail
  go_loopw [9, 10, 11] (fun p q _ wr => ∃ i j : Nat, i ≤ j ∧ j ≤ n ∧ p = .int .i64 (i : Nat) ∧ q = .int .i64 (j : Nat) ∧ (∀ k (h : k < ds.length), k < i → cmpD ds[k] t < 0) ∧ (∀ k (h : k < ds.length), j ≤ k → ¬ cmpD ds[k] t < 0) ∧ Below w.heap.size w wr ∧ CellsAt wr w.heap.size 40 DT) (fun p q _ _ => (intOf q).toNat - (intOf p).toNat)
  case atStart => exact ⟨0, n, Nat.zero_le _, Nat.le_refl _, rfl, rfl, fun k h hk => by omega, fun k h hk => by have := HNL.out; omega, hB1, hx1⟩
  case round =>
    obtain ⟨i, j, hij, hjn, rfl, rfl, hlo, hhi, hB, hx⟩ := hrel
    clear hB1 hx1
    have HLO := Veil.mk hlo
    have HHI := Veil.mk hhi
    clear hlo hhi
    by_cases hlt : i < j
    · have hli : (i : Int) < (j : Int) := by omega
      obtain ⟨m, hm⟩ : ∃ m, (i + j) / 2 = m := ⟨_, rfl⟩
      have him : i ≤ m ∧ m < j := by omega
      have hmd : m < ds.length := by have := HNL.out; omega
      have hw1 : IntKind.i64.wrap ((i : Int) + (j : Int)) = (i : Int) + (j : Int) := by rw [IntKind.wrap_i64]; omega
      have HMI : Veil (((i : Int) + (j : Int)) / 2 = (m : Int)) := ⟨by omega⟩
      obtain ⟨g, rfl, -, hr⟩ := (HO.out.far hB).at_ m (by rw [List.length_map]; exact hmd)
      rw [List.getElem_map] at hr
      have hcm := HCM.out m hmd wr.drew
      have iH := iD ds[m]
      have HLT : Veil (cmpD ds[m] t < 0 → ∀ k (h : k < ds.length), k < m + 1 → cmpD ds[k] t < 0) := ⟨fun h k hk hkm => HM.out k m hmd (by omega) h⟩
      have HGE : Veil (¬ cmpD ds[m] t < 0 → ∀ k (h : k < ds.length), m ≤ k → ¬ cmpD ds[k] t < 0) := ⟨fun h k hk hkm q => h (HM.out m k hk hkm q)⟩
      have HX : Veil (∀ W, Below wr.heap.size wr W → (W.rangeAt g (m * 2) (encF ds[m]) ∧ W.rangeAt w.heap.size 0 DT) ∧ Below w.heap.size w W ∧ CellsAt W w.heap.size 40 DT) := ⟨fun W hb => ⟨⟨fun q u hu => (hb.cell (block_lt_of_cell (hr q u hu))).trans (hr q u hu), (hx.farM hb).wholeM⟩, hB.trans (hb.mono hB.size), hx.farM hb⟩⟩
      generalize encF ds[m] = DH at hcm iH HX hr
      generalize cmpD ds[m] t = CM at hcm HLT HGE
      have hm0 : (0 : Int) ≤ (m : Int) := by omega
      have hmn : (m : Int) < (n : Int) := by omega
      have hw2 : IntKind.i64.wrap ((m : Int) + 1) = (m : Int) + 1 := by rw [IntKind.wrap_i64]; omega
      go_upto_region 5 with fail
      rw [HMI.out]
      clear hB hx hr hw1 hm
      refine wp_region_gateT (fun w' => w'.rangeAt g (m * 2) DH ∧ w'.rangeAt w.heap.size 0 DT) (fun _ => True) 99 (by kernel_rfl) ?_
      have hT : (fun w' : World => w'.rangeAt g (m * 2) DH ∧ w'.rangeAt w.heap.size 0 DT) wr.drew := (HX.out _ (Below.refl _ _).drew).1
      have hS : (fun _ : World => True) wr.drew := trivial
      refine gh 0 ?_ hT hS ?_ ?_
      rotate_left
      · intro wx hSw; go_split_ands; go_simp; try with_reducible rfl
      simp only [Act.put, gA, gS, gZ, sI, sZ, sS]
      refine gh 1 ?_ hT hS ?_ ?_
      rotate_left
      · intro wx hSw; go_split_ands; go_simp; try with_reducible rfl
      simp only [Act.put, gA, gS, gZ, sI, sZ, sS]
      refine gh 2 ?_ hT hS ?_ ?_
      rotate_left
      · intro wx hSw; go_split_ands; go_simp; try with_reducible rfl
      simp only [Act.put, gA, gS, gZ, sI, sZ, sS]
      refine gh 3 ?_ hT hS ?_ ?_
      rotate_left
      · intro wx hSw; go_split_ands; go_simp; try with_reducible rfl
      simp only [Act.put, gA, gS, gZ, sI, sZ, sS]
      refine gl 4 28 40 27 g (m * 2) DH (by kernel_rfl) (by kernel_rfl) (by kernel_rfl) (fun _ _ _ h => h) hT hS (by kernel_rfl) (fun _ h => h.1) uD rfl iH ?_
      simp only [Act.put, gA, gS, gZ, sI, sZ, sS]
      refine gl 5 29 40 4 w.heap.size 0 DT (by kernel_rfl) (by kernel_rfl) (by kernel_rfl) (fun _ _ _ h => h) hT hS (by kernel_rfl) (fun _ h => h.2) uD rfl iT ?_
      simp only [Act.put, gA, gS, gZ, sI, sZ, sS]
      refine wpAnyT_one (i := 6) rfl (by kernel_rfl) (by kernel_rfl) (fun K hK => ?_)
      refine wpx_call _ _ (by kernel_rfl) (hcm.mono ?_)
      rintro z W6 ⟨rfl, hb6⟩
      refine ⟨_, rfl, ?_⟩
      have hb7 : Below wr.heap.size wr W6 := ((Below.refl _ _).drew).trans (hb6.mono (Nat.le_refl _))
      replace hT : (fun w' : World => w'.rangeAt g (m * 2) DH ∧ w'.rangeAt w.heap.size 0 DT) W6 := (HX.out _ hb7).1
      replace hS : (fun _ : World => True) W6 := trivial
      refine hK.out _ _ hT (fun _ => hS) ?_
      clear hK K
      try simp only [Act.put, gA, gS, gZ, sI, sZ, sS]
      obtain ⟨-, r1, r2⟩ := HX.out _ hb7
      by_cases hc : CM < 0
      · have hcd := hc
        refine gh 7 (.bool true) hT hS ?_ ?_
        · intro wx hSw; go_split_ands; go_simp
        simp only [Act.put, gA, gS, gZ, sI, sZ, sS]
        refine wpAnyT_done (by kernel_rfl) ?_ _
        clear hT hS hcm hb6 HX hb7
        have HL2 := Veil.mk (HLT.out hc)
        go_wp2
        go_roundw
        case rel => exact ⟨m + 1, j, by omega, hjn, by push_cast; rfl, rfl, HL2.out, HHI.out, r1, r2⟩
        case measure => simp [intOf]; omega
      · have hcd := hc
        refine gh 7 (.bool false) hT hS ?_ ?_
        · intro wx hSw; go_split_ands; go_simp
        simp only [Act.put, gA, gS, gZ, sI, sZ, sS]
        refine wpAnyT_done (by kernel_rfl) ?_ _
        clear hT hS hcm hb6 HX hb7
        have HG2 := Veil.mk (HGE.out hc)
        go_wp2
        go_roundw
        case rel => exact ⟨i, m, by omega, by omega, rfl, rfl, HLO.out, HG2.out, r1, r2⟩
        case measure => simp [intOf]; omega
    · obtain rfl : i = j := by omega
      have hli : ¬ (i : Int) < (i : Int) := by omega
      have HPS : Veil (posD ds t = i) := ⟨takeWhile_at _ ds i (by have := HNL.out; omega) (fun k h hk => by simpa using HLO.out k h hk) (fun h => by simpa using HHI.out i h (Nat.le_refl _))⟩
      go_upto_region 8 with fail
      by_cases hin : i < n
      · have hii : (i : Int) < (n : Int) := by omega
        have hi0 : (0 : Int) ≤ (i : Int) := by omega
        have hid : i < ds.length := by have := HNL.out; omega
        obtain ⟨g, rfl, -, hr⟩ := (HO.out.far hB).at_ i (by rw [List.length_map]; exact hid)
        rw [List.getElem_map] at hr
        have hcm := HCM.out i hid wr.drew
        have iH := iD ds[i]
        have HX : Veil (∀ W, Below wr.heap.size wr W → (W.rangeAt g (i * 2) (encF ds[i]) ∧ W.rangeAt w.heap.size 0 DT) ∧ Below w.heap.size w W) := ⟨fun W hb => ⟨⟨fun q u hu => (hb.cell (block_lt_of_cell (hr q u hu))).trans (hr q u hu), (hx.farM hb).wholeM⟩, hB.trans (hb.mono hB.size)⟩⟩
        generalize encF ds[i] = DH at hcm iH HX hr
        generalize cmpD ds[i] t = CM at hcm
        clear hB hx hr
        refine wp_region_gateT (fun w' => w'.rangeAt g (i * 2) DH ∧ w'.rangeAt w.heap.size 0 DT) (fun _ => True) 99 (by kernel_rfl) ?_
        have hT : (fun w' : World => w'.rangeAt g (i * 2) DH ∧ w'.rangeAt w.heap.size 0 DT) wr.drew := (HX.out _ (Below.refl _ _).drew).1
        have hS : (fun _ : World => True) wr.drew := trivial
        refine gh 0 ?_ hT hS ?_ ?_
        rotate_left
        · intro wx hSw; go_split_ands; go_simp; try with_reducible rfl
        simp only [Act.put, gA, gS, gZ, sI, sZ, sS]
        refine gh 1 ?_ hT hS ?_ ?_
        rotate_left
        · intro wx hSw; go_split_ands; go_simp; try with_reducible rfl
        simp only [Act.put, gA, gS, gZ, sI, sZ, sS]
        refine gh 2 ?_ hT hS ?_ ?_
        rotate_left
        · intro wx hSw; go_split_ands; go_simp; try with_reducible rfl
        simp only [Act.put, gA, gS, gZ, sI, sZ, sS]
        refine gh 3 (.bool true) hT hS ?_ ?_
        · intro wx hSw; go_split_ands; go_simp
        simp only [Act.put, gA, gS, gZ, sI, sZ, sS]
        refine gh 4 ?_ hT hS ?_ ?_
        rotate_left
        · intro wx hSw; go_split_ands; go_simp; try with_reducible rfl
        simp only [Act.put, gA, gS, gZ, sI, sZ, sS]
        refine gh 5 ?_ hT hS ?_ ?_
        rotate_left
        · intro wx hSw; go_split_ands; go_simp; try with_reducible rfl
        simp only [Act.put, gA, gS, gZ, sI, sZ, sS]
        refine gh 6 ?_ hT hS ?_ ?_
        rotate_left
        · intro wx hSw; go_split_ands; go_simp; try with_reducible rfl
        simp only [Act.put, gA, gS, gZ, sI, sZ, sS]
        refine gh 7 ?_ hT hS ?_ ?_
        rotate_left
        · intro wx hSw; go_split_ands; go_simp; try with_reducible rfl
        simp only [Act.put, gA, gS, gZ, sI, sZ, sS]
        refine gh 8 ?_ hT hS ?_ ?_
        rotate_left
        · intro wx hSw; go_split_ands; go_simp; try with_reducible rfl
        simp only [Act.put, gA, gS, gZ, sI, sZ, sS]
        refine gl 9 44 40 43 g (i * 2) DH (by kernel_rfl) (by kernel_rfl) (by kernel_rfl) (fun _ _ _ h => h) hT hS (by kernel_rfl) (fun _ h => h.1) uD rfl iH ?_
        simp only [Act.put, gA, gS, gZ, sI, sZ, sS]
        refine gl 10 45 40 4 w.heap.size 0 DT (by kernel_rfl) (by kernel_rfl) (by kernel_rfl) (fun _ _ _ h => h) hT hS (by kernel_rfl) (fun _ h => h.2) uD rfl iT ?_
        simp only [Act.put, gA, gS, gZ, sI, sZ, sS]
        refine wpAnyT_one (i := 11) rfl (by kernel_rfl) (by kernel_rfl) (fun K hK => ?_)
        refine wpx_call _ _ (by kernel_rfl) (hcm.mono ?_)
        rintro z W6 ⟨rfl, hb6⟩
        refine ⟨_, rfl, ?_⟩
        have hb7 : Below wr.heap.size wr W6 := ((Below.refl _ _).drew).trans (hb6.mono (Nat.le_refl _))
        replace hT : (fun w' : World => w'.rangeAt g (i * 2) DH ∧ w'.rangeAt w.heap.size 0 DT) W6 := (HX.out _ hb7).1
        replace hS : (fun _ : World => True) W6 := trivial
        refine hK.out _ _ hT (fun _ => hS) ?_
        clear hK K
        try simp only [Act.put, gA, gS, gZ, sI, sZ, sS]
        refine gh 12 (.bool (CM == 0)) hT hS ?_ ?_
        · intro wx hSw; go_split_ands; go_simp
        simp only [Act.put, gA, gS, gZ, sI, sZ, sS]
        refine gh 13 (.bool (CM == 0)) hT hS ?_ ?_
        · intro wx hSw; go_split_ands; go_simp
        simp only [Act.put, gA, gS, gZ, sI, sZ, sS]
        refine gh 14 ?_ hT hS ?_ ?_
        rotate_left
        · intro wx hSw; go_split_ands; go_simp; try with_reducible rfl
        simp only [Act.put, gA, gS, gZ, sI, sZ, sS]
        refine gh 15 ?_ hT hS ?_ ?_
        rotate_left
        · intro wx hSw; go_split_ands; go_simp; try with_reducible rfl
        simp only [Act.put, gA, gS, gZ, sI, sZ, sS]
        refine wpAnyT_done (by kernel_rfl) ?_ _
        clear hT hS
        go_wp2
        refine bodyPost_ret (results_tmp2 rfl _ _ _) rfl ?_
        exact ⟨_, rfl, ⟨_, by rw [HPS.out]; rfl⟩, (HX.out _ hb7).2⟩
      · have hii : ¬ (i : Int) < (n : Int) := by omega
        refine wp_region_gateT (fun w' => w'.rangeAt w.heap.size 0 DT) (fun _ => True) 99 (by kernel_rfl) ?_
        have hT : (fun w' : World => w'.rangeAt w.heap.size 0 DT) wr.drew := (hx.congr (w' := wr.drew) rfl).wholeM
        have hS : (fun _ : World => True) wr.drew := trivial
        refine gh 0 ?_ hT hS ?_ ?_
        rotate_left
        · intro wx hSw; go_split_ands; go_simp; try with_reducible rfl
        simp only [Act.put, gA, gS, gZ, sI, sZ, sS]
        refine gh 1 ?_ hT hS ?_ ?_
        rotate_left
        · intro wx hSw; go_split_ands; go_simp; try with_reducible rfl
        simp only [Act.put, gA, gS, gZ, sI, sZ, sS]
        refine gh 2 ?_ hT hS ?_ ?_
        rotate_left
        · intro wx hSw; go_split_ands; go_simp; try with_reducible rfl
        simp only [Act.put, gA, gS, gZ, sI, sZ, sS]
        refine gh 3 (.bool false) hT hS ?_ ?_
        · intro wx hSw; go_split_ands; go_simp
        simp only [Act.put, gA, gS, gZ, sI, sZ, sS]
        refine gh 4 ?_ hT hS ?_ ?_
        rotate_left
        · intro wx hSw; go_split_ands; go_simp; try with_reducible rfl
        simp only [Act.put, gA, gS, gZ, sI, sZ, sS]
        refine gs 5 hT hS ?_
        simp only [Act.put, gA, gS, gZ, sI, sZ, sS]
        refine gs 6 hT hS ?_
        simp only [Act.put, gA, gS, gZ, sI, sZ, sS]
        refine gs 7 hT hS ?_
        simp only [Act.put, gA, gS, gZ, sI, sZ, sS]
        refine gs 8 hT hS ?_
        simp only [Act.put, gA, gS, gZ, sI, sZ, sS]
        refine gs 9 hT hS ?_
        simp only [Act.put, gA, gS, gZ, sI, sZ, sS]
        refine gs 10 hT hS ?_
        simp only [Act.put, gA, gS, gZ, sI, sZ, sS]
        refine gs 11 hT hS ?_
        simp only [Act.put, gA, gS, gZ, sI, sZ, sS]
        refine gs 12 hT hS ?_
        simp only [Act.put, gA, gS, gZ, sI, sZ, sS]
        refine gh 13 (.bool false) hT hS ?_ ?_
        · intro wx hSw; go_split_ands; go_simp
        simp only [Act.put, gA, gS, gZ, sI, sZ, sS]
        refine gh 14 ?_ hT hS ?_ ?_
        rotate_left
        · intro wx hSw; go_split_ands; go_simp; try with_reducible rfl
        simp only [Act.put, gA, gS, gZ, sI, sZ, sS]
        refine gh 15 ?_ hT hS ?_ ?_
        rotate_left
        · intro wx hSw; go_split_ands; go_simp; try with_reducible rfl
        simp only [Act.put, gA, gS, gZ, sI, sZ, sS]
        refine wpAnyT_done (by kernel_rfl) ?_ _
        clear hT hS
        go_wp2
        refine bodyPost_ret (results_tmp2 rfl _ _ _) rfl ?_
        exact ⟨_, rfl, ⟨_, by rw [HPS.out]; rfl⟩, hB.drew⟩
theorem infoD2 : (Tryz.prog.info? 40).map (fun i => (i.zero, i.size, i.bytes)) = some (some (.agg #[.int .u8 0, .int .u32 0]), 2, 8) := by kernel_rfl
structure InsP (base : Nat) (v : Value) (w : World) (L : List (List Value)) (v' : Value) (w' : World) : Prop where
  own : OwnI w' base 40 2 v' L
  grown : w.grownBy w' v.ownBlock
  block : v'.ownBlock = v.ownBlock ∨ ∃ k, v'.ownBlock = some k ∧ w.heap.size ≤ k
set_option maxHeartbeats 8000000 in
theorem insD_end (base : Nat) (x : Option Addr) (n c : Nat) (vs : List (List Value)) (T : List Value) (gv : Nat) (w : World) (hO : OwnI w base 40 2 (.slice x n c) vs) (hn : vs.length = n) (hc : n ≤ c) (hT2 : T.length = 2) (hT1 : ∀ u ∈ T, u.oneCell' = true) (hg : CellsAt w gv 40 T) (hbase : base ≤ w.heap.size) (hlen : n ≤ 100000) :
    Calls Tryz.prog 129 #[.slice x n c, .int .i64 (n : Nat), .slice (some ⟨gv, 0, none⟩) 1 1] w fun e w' => ∃ v', e = .returned v' ∧ InsP base (.slice x n c) w (vs ++ [T]) v' w' := by
  have uS := Tryz.underlying139
  obtain ⟨v9, W9, hrun, ho9, hg9, hb9⟩ := hO.app (P := Tryz.prog) 139 139 uS infoD2 rfl (by decide) T hT2 hT1 gv hg.wholeM (by omega) (by decide) hbase
  have HE : Veil (InsP base (.slice x n c) w (vs ++ [T]) v9 W9) := ⟨⟨ho9, hg9, by rcases hb9 with q | q; exact .inl q; exact .inr ⟨_, q, Nat.le_refl _⟩⟩⟩
  obtain ⟨x9, c9, hv9⟩ := ho9.isSlice
  generalize (vs ++ [T]).length = n9 at hv9
  have hci : (n : Int) ≤ (c : Int) := by omega
  have hn0 : (0 : Int) ≤ (n : Int) := by omega
  have hbe : ((n : Int) == (n : Int)) = true := beq_self_eq_true _
  subst hv9
  clear ho9 hg9 hb9 hO hg
  go_enter Tryz.func129, Tryz.ntmps129
  by_cases hcn : c = n
  · subst hcn
    go_wp2_with (refine wpList_appx rfl _ _ _ _ rfl _ _ _ W9 rfl rfl hrun ?_)
    go_ret
    exact ⟨_, rfl, HE.out⟩
  · go_wp2_with (refine wpList_appx rfl _ _ _ _ rfl _ _ _ W9 rfl rfl hrun ?_)
    go_ret
    exact ⟨_, rfl, HE.out⟩
theorem addF_mid (b o j : Nat) : (⟨b, o, none⟩ : Addr).add j = ⟨b, o + j, none⟩ := by unfold Addr.add; split <;> simp_all
theorem run_copy_two {P : Program} (w : World) (dT sT ty elem : TypeId) (g o dLen dCap : Nat) (a : Addr) (sLen sCap : Nat) (cur : Array Value) (t : TypeId) (cs : List Value)
    (hu : P.underlying dT = some (.slice elem)) (hs : (P.info? elem).map (·.size) = some 2)
    (hg : w.heap[g]? = some (.cells cur t (0, 0))) (hn : cs.length = Nat.min sLen dLen * 2)
    (hsrc : ∀ j v, cs[j]? = some v → w.cell? (a.add j) = some v) (hfit : o + cs.length ≤ cur.size) (h1 : ∀ v ∈ cs, v.oneCell' = true) :
    (Builtin.copy_ #[dT, sT] ty #[.slice (some ⟨g, o, none⟩) dLen dCap, .slice (some a) sLen sCap]).run P w =
      .ok (goInt (Nat.min sLen dLen)) (w.setRow g (cur.toList.take o ++ cs ++ cur.toList.drop (o + cs.length)).toArray) := by
  have hl := run_loadCells_list (P := P) w a cs hsrc
  have hst := run_storeCells_at P g o t cs 0 cur w hg (by simpa using hfit) h1
  cases hq : P.info? elem with
  | none => simp [hq] at hs
  | some i =>
    have hi : i.size = 2 := by simpa [hq] using hs
    simp [Builtin.copy_, run_underlying hu, Builtin.lenOf, Builtin.firstCells, sizeOf, typeInfo, hq, hi, ← hn, hl, hst]
set_option maxHeartbeats 8000000 in
theorem insD_room (g n c i : Nat) (cur : List Value) (T : List Value) (gv : Nat) (w : World) (hg : w.heap[g]? = some (.cells cur.toArray 40 (0, 0))) (hcur : cur.length = c * 2) (hin : i < n) (hnc : n + 1 ≤ c) (hT2 : T.length = 2) (hT1 : ∀ u ∈ T, u.oneCell' = true) (hC1 : ∀ u ∈ cur.take (n * 2), u.oneCell' = true) (hv : CellsAt w gv 40 T) (hne : gv ≠ g) (hlen : c ≤ maxLen) :
    Calls Tryz.prog 129 #[.slice (some ⟨g, 0, none⟩) n c, .int .i64 (i : Nat), .slice (some ⟨gv, 0, none⟩) 1 1] w fun e w' => e = .returned (.slice (some ⟨g, 0, none⟩) (n + 1) c) ∧ w'.heap[g]? = some (.cells (cur.take (i * 2) ++ (T ++ (cur.drop (i * 2)).take ((n - i) * 2)) ++ cur.drop ((n + 1) * 2)).toArray 40 (0, 0)) ∧ w.grownBy w' (some g) := by
  simp only [maxLen] at hlen
  have uS := Tryz.underlying139
  have hi0 : (0 : Int) ≤ (i : Int) := by omega
  have hii : (i : Int) ≤ (n : Int) := by omega
  have hic : (i : Int) ≤ (c : Int) := by omega
  have hnb : ((i : Int) == (n : Int)) = false := by simp; omega
  have hw1 : IntKind.i64.wrap ((n : Int) + 1) = (n : Int) + 1 := by rw [IntKind.wrap_i64]; omega
  have hw2 : IntKind.i64.wrap ((i : Int) + 1) = (i : Int) + 1 := by rw [IntKind.wrap_i64]; omega
  have hng : ¬ (c : Int) < (n : Int) + 1 := by omega
  have hnn : ¬ i = n := by omega
  have hneg1 : ((i : Int) + 1 < 0) = False := by simp; omega
  have hneg2 : ((n : Int) + 1 < (i : Int)) = False := by simp; omega
  have hcc : ¬ c = i := by omega
  have hcc2 : ¬ c = i + 1 := by omega
  have hnc2 : (n : Int) + 1 ≤ (c : Int) := by omega
  have hin2 : (i : Int) + 1 ≤ (n : Int) + 1 := by omega
  have hv' : w.heap[gv]? = some (.cells T.toArray 40 (0, 0)) := hv
  have hsa : w.shape? gv = some (40, 2) := by simp [World.shape?, hv', hT2]
  have hsb : w.shape? g = some (40, c * 2) := by simp [World.shape?, hg, hcur]
  have hfa := hv.frozen 0
  have hfe := hv.frozen 2
  have hov := Go.Lib.run_overlaps_apart (P := Tryz.prog) w 139 4 40 uS 2 Tryz.sizeOf40 ⟨gv, 0, none⟩ ⟨g, (i + 1) * 2, none⟩ 1 1 (n - i) (c - (i + 1)) hne _ _ _ _ hsa hsb (by omega) hfa hfe
  -- the two copies
  obtain ⟨C1, hC1d⟩ : ∃ q, (cur.drop (i * 2)).take ((n - i) * 2) = q := ⟨_, rfl⟩
  have hC1l : C1.length = (n - i) * 2 := by rw [← hC1d, List.length_take, List.length_drop]; omega
  have hC1o : ∀ u ∈ C1, u.oneCell' = true := fun u hu => hC1 u (by rw [← hC1d, List.take_drop, show i * 2 + (n - i) * 2 = n * 2 by omega] at hu; exact List.mem_of_mem_drop hu)
  have hgd : w.drew.heap[g]? = some (.cells cur.toArray 40 (0, 0)) := hg
  have hcp1 := run_copy_two (P := Tryz.prog) w.drew 139 139 3 40 g ((i + 1) * 2) (n - i) (c - (i + 1)) ⟨g, i * 2, none⟩ (n + 1 - i) (c - i) cur.toArray 40 C1 uS sizeDot hgd (by rw [hC1l]; congr 1; exact (Nat.min_eq_right (by omega)).symm) (fun j u hu => by
      rw [addF_mid, World.cell?, hgd]
      rw [← hC1d, List.getElem?_take] at hu
      split at hu
      · rw [List.getElem?_drop] at hu
        simpa using hu
      · cases hu) (by simp [hC1l, hcur]; omega) hC1o
  obtain ⟨W1, hW1⟩ : ∃ q, w.drew.setRow g (cur.toArray.toList.take ((i + 1) * 2) ++ C1 ++ cur.toArray.toList.drop ((i + 1) * 2 + C1.length)).toArray = q := ⟨_, rfl⟩
  rw [hW1] at hcp1
  obtain ⟨R1, hR1⟩ : ∃ q, cur.take ((i + 1) * 2) ++ C1 ++ cur.drop ((i + 1) * 2 + C1.length) = q := ⟨_, rfl⟩
  have hg1 : W1.heap[g]? = some (.cells R1.toArray 40 (0, 0)) := by rw [← hW1, ← hR1]; exact setRow_heap _ g _ _ 40 _ hgd
  have hv1 : CellsAt W1 gv 40 T := by rw [← hW1]; exact (hv.congr (w' := w.drew) rfl).setRowM _ hne
  have hR1l : R1.length = c * 2 := by rw [← hR1]; simp [hC1l, hcur]; omega
  have hcp2 := run_copy_two (P := Tryz.prog) W1 139 139 3 40 g (i * 2) (n + 1 - i) (c - i) ⟨gv, 0, none⟩ 1 1 R1.toArray 40 T uS sizeDot hg1 (by rw [hT2, show Nat.min 1 (n + 1 - i) = 1 from Nat.min_eq_left (by omega)]) (fun j u hu => by
      rw [addF_mid, Nat.zero_add]
      exact (hv1.cell j).trans hu) (by simp [hT2, hR1l]; omega) hT1
  obtain ⟨W2, hW2⟩ : ∃ q, W1.setRow g (R1.toArray.toList.take (i * 2) ++ T ++ R1.toArray.toList.drop (i * 2 + T.length)).toArray = q := ⟨_, rfl⟩
  rw [hW2] at hcp2
  have HF : Veil (W2.heap[g]? = some (.cells (cur.take (i * 2) ++ (T ++ C1) ++ cur.drop ((n + 1) * 2)).toArray 40 (0, 0)) ∧ w.grownBy W2 (some g)) := ⟨by
      have e : R1.take (i * 2) ++ T ++ R1.drop (i * 2 + T.length) = cur.take (i * 2) ++ (T ++ C1) ++ cur.drop ((n + 1) * 2) := by
        have e1 : R1.take (i * 2) = cur.take (i * 2) := by
          rw [← hR1, List.append_assoc, List.take_append_of_le_length (by rw [List.length_take]; omega), List.take_take]
          congr 1; omega
        have e2 : R1.drop (i * 2 + T.length) = C1 ++ cur.drop ((n + 1) * 2) := by
          rw [← hR1, List.append_assoc, hT2, show i * 2 + 2 = (i + 1) * 2 by omega]
          rw [List.drop_left' (by rw [List.length_take]; omega), hC1l]
          congr 2; omega
        rw [e1, e2]
        simp [List.append_assoc]
      rw [← hW2, ← e]
      exact setRow_heap _ g _ _ 40 _ hg1, by
      rw [← hW2, ← hW1]
      refine ⟨rfl, rfl, rfl, by simp [World.setRow], fun k hk hkn => ?_⟩
      rw [setRow_other _ _ _ _ (fun q => hkn (by rw [q])), setRow_other _ _ _ _ (fun q => hkn (by rw [q]))]; rfl⟩
  have hmin : Nat.min (n + 1 - i) (n - i) = n - i := Nat.min_eq_right (by omega)
  clear hg1 hv1 hW1 hW2 hR1 hgd hsa hsb hfa hfe hv' hg hv hR1l hC1o hC1l hC1
  rw [hC1d]
  clear hC1d
  go_enter Tryz.func129, Tryz.ntmps129
  go_wp2
  rw [run_callFunc_extern Tryz.func133 (by kernel_rfl) (by kernel_rfl) (by kernel_rfl) (e := Extern.SlicesOverlaps.overlaps #[139, 139] #[4]) (by kernel_rfl), hov]
  simp only [Result.andThen]
  rw [Oper.upon_value]
  go_upto_region 15 with fail
  refine wp_region_gate (fun _ => True) 8 (by kernel_rfl) ?_
  have hS : (fun _ : World => True) w.drew := trivial
  refine ga 0 ?_ hS ?_ ?_
  rotate_left
  · intro _; go_simp; try with_reducible rfl
  simp only [Act.put, gA, gS, gZ, sI, sZ, sS]
  refine ga 1 ?_ hS ?_ ?_
  rotate_left
  · intro _; go_simp; try with_reducible rfl
  simp only [Act.put, gA, gS, gZ, sI, sZ, sS]
  refine ga 2 ?_ hS ?_ ?_
  rotate_left
  · intro _; go_simp; try with_reducible rfl
  simp only [Act.put, gA, gS, gZ, sI, sZ, sS]
  refine ga 3 (.int .i64 ((i : Int) + 1)) hS ?_ ?_
  · intro _; go_simp
  simp only [Act.put, gA, gS, gZ, sI, sZ, sS]
  refine ga 4 (.slice (some ⟨g, (i + 1) * 2, none⟩) (n - i) (c - (i + 1))) hS ?_ ?_
  · intro _; go_simp
  simp only [Act.put, gA, gS, gZ, sI, sZ, sS]
  refine ga 5 ?_ hS ?_ ?_
  rotate_left
  · intro _; go_simp; try with_reducible rfl
  simp only [Act.put, gA, gS, gZ, sI, sZ, sS]
  refine ga 6 ?_ hS ?_ ?_
  rotate_left
  · intro _; go_simp; try with_reducible rfl
  simp only [Act.put, gA, gS, gZ, sI, sZ, sS]
  refine ga 7 (.slice (some ⟨g, i * 2, none⟩) (n + 1 - i) (c - i)) hS ?_ ?_
  · intro _; go_simp
  simp only [Act.put, gA, gS, gZ, sI, sZ, sS]
  refine wpAnyG_one (i := 8) rfl (by kernel_rfl) (by kernel_rfl) (fun K hK => ?_)
  refine wpx_copy (.tmp 73) (.tmp 76) 139 139 rfl (.slice (some ⟨g, (i + 1) * 2, none⟩) (n - i) (c - (i + 1))) (.slice (some ⟨g, i * 2, none⟩) (n + 1 - i) (c - i)) _ W1 rfl rfl hcp1 ?_
  refine hK.out _ _ (fun h => absurd (show true = false from h) (by decide)) ?_
  clear hK K
  try simp only [Act.put, gA, gS, gZ, sI, sZ, sS]
  refine wpAnyG_done (by kernel_rfl) ?_ _
  clear hS hcp1 hov
  go_wp2_with (refine wpList_plain rfl fun _ hK => ?_; refine wpx_copy (.tmp 80) (.tmp 81) 139 139 rfl (.slice (some ⟨g, i * 2, none⟩) (n + 1 - i) (c - i)) (.slice (some ⟨gv, 0, none⟩) 1 1) _ W2 rfl rfl hcp2 ?_; refine hK _ _ ?_)
  go_ret
  exact ⟨rfl, HF.out⟩
end Go.Proofs.YtmbdohnmbkpfaaaGreat
