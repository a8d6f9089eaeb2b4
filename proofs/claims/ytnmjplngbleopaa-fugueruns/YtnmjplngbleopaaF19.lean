/- Fr1 -/
import Derived.Test.YtnmjplngbleopaaF18
import Derived.Test.YtnmjplngbleopaaF02
namespace Go.Proofs.Ytnmjplngbleopaa
open Go.RowKit Go.Shelf
set_option maxRecDepth 20000
set_option linter.unusedSimpArgs false
def ndC (n : Nd) : List Value := encF n.id ++ encF n.side.1 ++ [.bool n.side.2] ++ [.int .u8 n.chr]
theorem ndC_one (n : Nd) : ∀ u ∈ ndC n, u.oneCell' = true := by
  intro u hu
  simp only [ndC, encF, dotC, List.mem_append, List.mem_cons, List.not_mem_nil, or_false] at hu
  rcases hu with (((rfl | rfl) | (rfl | rfl)) | rfl) | rfl <;> rfl
structure RefT (w : World) (base R : Nat) (v : Value) (N : List Nd) : Prop where
  box : CellsAt w R 68 [v]
  own : OwnI w base 80 6 v (N.map ndC)
  len : N.length ≤ 1000
def refP (R : Nat) (v : Value) (k : Nat) : Prop := k = R ∨ v.ownBlock = some k
theorem RefT.ne {w : World} {base R : Nat} {v : Value} {N : List Nd} (h : RefT w base R v N) : v.ownBlock ≠ some R := fun q => by
  obtain ⟨_, _, cur, h2⟩ := h.own.blockLt R q
  have := h.box
  unfold CellsAt at this
  rw [h2] at this
  injection this with this
  injection this with _ e _
  exact absurd e (by decide)
theorem RefT.congr {w w' : World} {base R : Nat} {v : Value} {N : List Nd} (h : RefT w base R v N) (hk : ∀ k, refP R v k → w'.heap[k]? = w.heap[k]?) : RefT w' base R v N := ⟨h.box.congr (hk R (.inl rfl)), h.own.congr fun g hg => hk g (.inr hg), h.len⟩
theorem RefT.blockLt {w : World} {base R : Nat} {v : Value} {N : List Nd} (h : RefT w base R v N) (k : Nat) (hk : refP R v k) : k < w.heap.size := by
  rcases hk with rfl | hk
  · exact h.box.lt
  · exact (h.own.blockLt k hk).1
theorem RefT.far {w w' : World} {base R : Nat} {v : Value} {N : List Nd} (h : RefT w base R v N) (hb : Below w.heap.size w w') : RefT w' base R v N := h.congr fun k hk => hb.block k (h.blockLt k hk)
theorem rnone8_any (x : Int × Int) (w : World) : Calls Try.prog 34 #[.agg (encF x).toArray] w fun e w' => e = .returned (.bool (decide (x = (0, 0)))) ∧ Below w.heap.size w w' := by
  obtain ⟨a, s⟩ := x
  have hB : Below w.heap.size w (w.alloc (.cells #[.int .u8 a, .int .u32 s] 32)) := (Below.refl _ _).alloc (Nat.le_refl _) _
  simp only [encF, dotC]
  by_cases h1 : a = 0
  · by_cases h2 : s = 0
    · subst h1 h2
      go_enter Try.func34, Try.ntmps34
      go_wp2
      go_ret
      exact ⟨rfl, hB⟩
    · subst h1
      have hd : decide (((0 : Int), s) = (0, 0)) = false := by simp [h2]
      have h2b : (s == 0) = false := by simpa using h2
      rw [hd]
      go_enter Try.func34, Try.ntmps34
      go_wp2
      go_ret
      exact ⟨rfl, hB⟩
  · have hd : decide ((a, s) = (0, 0)) = false := by simp [h1]
    have h1b : (a == 0) = false := by simpa using h1
    rw [hd]
    go_enter Try.func34, Try.ntmps34
    go_wp2
    go_ret
    exact ⟨rfl, hB⟩
def idxN (N : List Nd) (x : Int × Int) : Int := match N.findIdx? (fun n => decide (n.id = x)) with | some i => (i : Nat) | none => -1
theorem idxN_at {N : List Nd} {x : Int × Int} {i : Nat} (hi : i < N.length) (h1 : ∀ j (hj : j < N.length), j < i → N[j].id ≠ x) (h2 : N[i].id = x) : idxN N x = (i : Nat) := by
  unfold idxN
  have : N.findIdx? (fun n => decide (n.id = x)) = some i := by
    rw [List.findIdx?_eq_some_iff_getElem]
    exact ⟨hi, by simpa using h2, fun j hj => by simpa using h1 j (by omega) hj⟩
  rw [this]
theorem idxN_none {N : List Nd} {x : Int × Int} (h1 : ∀ j (hj : j < N.length), N[j].id ≠ x) : idxN N x = -1 := by
  unfold idxN
  have : N.findIdx? (fun n => decide (n.id = x)) = none := by
    rw [List.findIdx?_eq_none_iff]
    intro n hn
    obtain ⟨j, hj, rfl⟩ := List.getElem_of_mem hn
    simpa using h1 j hj
  rw [this]
theorem idxN_cases (N : List Nd) (x : Int × Int) : (idxN N x = -1 ∧ (chrN N x).isSome = false) ∨ ∃ i, ∃ hi : i < N.length, idxN N x = (i : Nat) ∧ N[i].id = x ∧ (chrN N x).isSome = true := by
  unfold idxN
  cases h : N.findIdx? (fun n => decide (n.id = x)) with
  | none =>
    refine .inl ⟨rfl, ?_⟩
    rw [List.findIdx?_eq_none_iff] at h
    cases hq : (chrN N x).isSome with
    | false => rfl
    | true =>
      obtain ⟨n, hn, e⟩ := chrN_some.1 hq
      have := h n hn
      simp [e] at this
  | some i =>
    rw [List.findIdx?_eq_some_iff_getElem] at h
    obtain ⟨hi, h1, _⟩ := h
    exact .inr ⟨i, hi, rfl, by simpa using h1, chrN_some.2 ⟨N[i], List.getElem_mem hi, by simpa using h1⟩⟩
theorem exec_eqF {P : Program} {ρ : Operand → Value} {o : Oper} {w : World} {op : BinOp} {t u : TypeId} {x y : Operand} (ho : o.op = .binOp op t x y u) {xv yv v : Value} (hx : ρ x = xv) (hy : ρ y = yv) (hg : (eqGuard op t x y xv yv).run P w = .ok () w) (hrun : (binOp op t xv yv).run P w = .ok v w) : (execOp ρ o).run P w = .ok (.value v) w := by
  unfold execOp
  simp only [ho, hx, hy, Sem.run_bind, hg, hrun, Result.andThen_ok, Sem.run_pure]
set_option maxHeartbeats 4000000 in
theorem ratT_any (base R : Nat) (v : Value) (N : List Nd) (x : Int × Int) (w : World) (hT : RefT w base R v N) :
    Calls Try.prog 35 #[.pointer (some ⟨R, 0, none⟩), .agg (encF x).toArray] w fun e w' => e = .returned (.int .i64 (idxN N x)) ∧ Below w.heap.size w w' := by
  have hd0 := CellsAt.new w 32 (encF x)
  have hB : Below w.heap.size w (w.alloc (.cells (encF x).toArray 32)) := (Below.refl _ _).alloc (Nat.le_refl _) _
  have uD := Try.underlying32
  have iD : ∀ y : Int × Int, (Try.prog.info? 32).map (·.size) = some (encF y).length := fun y => sizeDot
  have iX := iD x
  have HEQ : Veil (∀ (y : Int × Int) (wx : World), (binOp BinOp.eql 32 (.agg (encF y).toArray) (.agg (encF x).toArray)).run Try.prog wx = .ok (.bool (decide (y = x))) wx) := ⟨fun y wx => by
    rw [dot_eql y.1 y.2 x.1 x.2 wx]
    congr 2
    obtain ⟨a, b⟩ := y
    obtain ⟨c, d⟩ := x
    by_cases h1 : a = c <;> by_cases h2 : b = d <;> simp [h1, h2]⟩
  obtain ⟨sx, sc, hsl⟩ := hT.own.isSlice
  rw [List.length_map] at hsl
  have hln := hT.len
  subst hsl
  have HT := Veil.mk hT
  obtain ⟨n, hn⟩ : ∃ q, N.length = q := ⟨_, rfl⟩
  have HN := Veil.mk hn
  rw [hn] at HT hln
  have HX0 : Veil (∀ i, i ≤ N.length → (∀ j (hj : j < N.length), j < i → N[j].id ≠ x) → ∀ hi : i < N.length, N[i].id = x → idxN N x = (i : Nat)) := ⟨fun i _ h1 hi h2 => idxN_at hi h1 h2⟩
  have HX1 : Veil ((∀ j (hj : j < N.length), N[j].id ≠ x) → idxN N x = -1) := ⟨idxN_none⟩
  obtain ⟨DX, hDX⟩ : ∃ q, encF x = q := ⟨_, rfl⟩
  rw [hDX] at hd0 hB iX HEQ ⊢
  clear hDX hT hn
  generalize idxN N x = RX at HX0 HX1 ⊢
  go_enter Try.func35, Try.ntmps35
  go_upto_region 1 with fail
  refine forget (p := fun y => Code.wp _ _ _ _ y) (fun W => Below w.heap.size w W ∧ CellsAt W w.heap.size 32 DX) ⟨hB, hd0⟩ ?_
  clear hB hd0
  rintro W0 ⟨hB0, hd0⟩
  go_wp2_with fail
  go_loopw [5] (fun p wr => ∃ i : Nat, p = .int .i64 (i : Nat) ∧ i ≤ n ∧ (∀ j (hj : j < N.length), j < i → N[j].id ≠ x) ∧ Below w.heap.size w wr ∧ CellsAt wr w.heap.size 32 DX) (fun p _ => n - (intOf p).toNat)
  case atStart => exact ⟨0, rfl, Nat.zero_le _, fun j hj h => by omega, hB0, hd0⟩
  case round =>
    obtain ⟨i, rfl, hi, hlo, hB, hd⟩ := hrel
    clear hB0 hd0
    have hTr := HT.out.far hB
    have cR : wr.cell? ⟨R, 0, none⟩ = some (.slice sx n sc) := hTr.box.cell 0
    have HLO := Veil.mk hlo
    clear hlo
    by_cases hlt : i < n
    · have hli : (i : Int) < (n : Int) := by omega
      have hli0 : (0 : Int) ≤ (i : Int) := by omega
      have hki : i < N.length := by rw [HN.out]; exact hlt
      obtain ⟨g, rfl, -, hr⟩ := hTr.own.at_ i (by rw [List.length_map]; exact hki)
      rw [List.getElem_map] at hr
      have hr2 : wr.rangeAt g (i * 6) (encF N[i].id) := fun q u hu => by
        refine hr q u ?_
        have hq : q < 2 := by have := (List.getElem?_eq_some_iff.1 hu).1; exact this
        unfold ndC
        rw [List.append_assoc, List.append_assoc, List.getElem?_append_left hq]; exact hu
      have hdx := hd.wholeM
      have iH := iD N[i].id
      have heq := HEQ.out N[i].id
      have HYES : Veil (N[i].id = x → RX = (i : Nat)) := ⟨fun h => HX0.out i (by omega) HLO.out hki h⟩
      have HNO : Veil (N[i].id ≠ x → ∀ j (hj : j < N.length), j < i + 1 → N[j].id ≠ x) := ⟨fun h j hj hji => by
        rcases Nat.lt_or_eq_of_le (Nat.le_of_lt_succ hji) with q | q
        · exact HLO.out j hj q
        · subst q; exact h⟩
      generalize N[i].id = y at hr2 iH heq HYES HNO
      generalize encF y = DH at hr2 iH heq
      have hww : IntKind.i64.wrap ((i : Int) + 1) = (i : Int) + 1 := by rw [IntKind.wrap_i64]; omega
      clear hTr hr hki
      go_upto_region 4 with fail
      refine wp_region_gateT (fun w' => w'.cell? ⟨R, 0, none⟩ = some (.slice (some ⟨g, 0, none⟩) n sc) ∧ w'.rangeAt g (i * 6) DH ∧ w'.rangeAt w.heap.size 0 DX) (fun _ => True) 99 (by kernel_rfl) ?_
      have hT : (fun w' : World => w'.cell? ⟨R, 0, none⟩ = some (.slice (some ⟨g, 0, none⟩) n sc) ∧ w'.rangeAt g (i * 6) DH ∧ w'.rangeAt w.heap.size 0 DX) wr.drew := ⟨cR, hr2, hdx⟩
      have hS : (fun _ : World => True) wr.drew := trivial
      by_cases he : y = x
      · have hde : decide (y = x) = true := by simpa using he
        rw [hde] at heq
        refine wpAnyT_held (i := 0) (v := ?_) rfl (by kernel_rfl) (by kernel_rfl) (by kernel_rfl) (fun _ _ _ h => h) (by kernel_rfl) hT (fun _ => hS) (by kernel_rfl) ?_ ?_
        rotate_left
        · intro wx hSw; go_split_ands; go_simp; try with_reducible rfl
        simp only [Act.put, List.getElem_toArray, List.getElem_cons_succ, List.getElem_cons_zero, List.setIfInBounds_toArray, List.set_cons_zero, List.set_cons_succ]
        refine wpAnyT_held (i := 1) (v := ?_) rfl (by kernel_rfl) (by kernel_rfl) (by kernel_rfl) (fun _ _ _ h => h) (by kernel_rfl) hT (fun _ => hS) (by kernel_rfl) ?_ ?_
        rotate_left
        · intro wx hSw; go_split_ands; go_simp; try with_reducible rfl
        simp only [Act.put, List.getElem_toArray, List.getElem_cons_succ, List.getElem_cons_zero, List.setIfInBounds_toArray, List.set_cons_zero, List.set_cons_succ]
        refine wpAnyT_held (i := 2) (v := ?_) rfl (by kernel_rfl) (by kernel_rfl) (by kernel_rfl) (fun _ _ _ h => h) (by kernel_rfl) hT (fun _ => hS) (by kernel_rfl) ?_ ?_
        rotate_left
        · intro wx hSw; go_split_ands; go_simp; try with_reducible rfl
        simp only [Act.put, List.getElem_toArray, List.getElem_cons_succ, List.getElem_cons_zero, List.setIfInBounds_toArray, List.set_cons_zero, List.set_cons_succ]
        refine wpAnyT_held (i := 3) (v := ?_) rfl (by kernel_rfl) (by kernel_rfl) (by kernel_rfl) (fun _ _ _ h => h) (by kernel_rfl) hT (fun _ => hS) (by kernel_rfl) ?_ ?_
        rotate_left
        · intro wx hSw; go_split_ands; go_simp; try with_reducible rfl
        simp only [Act.put, List.getElem_toArray, List.getElem_cons_succ, List.getElem_cons_zero, List.setIfInBounds_toArray, List.set_cons_zero, List.set_cons_succ]
        refine wpAnyT_held (i := 4) (v := ?_) rfl (by kernel_rfl) (by kernel_rfl) (by kernel_rfl) (fun _ _ _ h => h) (by kernel_rfl) hT (fun _ => hS) (by kernel_rfl) ?_ ?_
        rotate_left
        · intro wx hSw; go_split_ands; go_simp; try with_reducible rfl
        simp only [Act.put, List.getElem_toArray, List.getElem_cons_succ, List.getElem_cons_zero, List.setIfInBounds_toArray, List.set_cons_zero, List.set_cons_succ]
        refine wpAnyT_held (i := 5) (v := ?_) rfl (by kernel_rfl) (by kernel_rfl) (by kernel_rfl) (fun _ _ _ h => h) (by kernel_rfl) hT (fun _ => hS) (by kernel_rfl) ?_ ?_
        rotate_left
        · intro wx hSw; go_split_ands; go_simp; try with_reducible rfl
        simp only [Act.put, List.getElem_toArray, List.getElem_cons_succ, List.getElem_cons_zero, List.setIfInBounds_toArray, List.set_cons_zero, List.set_cons_succ]
        refine wpAnyT_held (i := 6) (v := ?_) rfl (by kernel_rfl) (by kernel_rfl) (by kernel_rfl) (fun _ _ _ h => h) (by kernel_rfl) hT (fun _ => hS) (by kernel_rfl) ?_ ?_
        rotate_left
        · intro wx hSw; go_split_ands; go_simp; try with_reducible rfl
        simp only [Act.put, List.getElem_toArray, List.getElem_cons_succ, List.getElem_cons_zero, List.setIfInBounds_toArray, List.set_cons_zero, List.set_cons_succ]
        refine wpAnyT_load (i := 7) (dst := some 26) (ty := 32) (x := .tmp 25) (b := g) (o := ((i * 6))) (cs := DH) (by kernel_rfl) (by kernel_rfl) (by kernel_rfl) (by kernel_rfl) (by kernel_rfl) (fun _ _ _ h => h) (by kernel_rfl) hT (fun _ => hS) (by kernel_rfl) (fun _ h => h.2.1) uD rfl iH ?_
        simp only [Act.put, List.getElem_toArray, List.getElem_cons_succ, List.getElem_cons_zero, List.setIfInBounds_toArray, List.set_cons_zero, List.set_cons_succ]
        refine wpAnyT_load (i := 8) (dst := some 27) (ty := 32) (x := .tmp 3) (b := w.heap.size) (o := (0)) (cs := DX) (by kernel_rfl) (by kernel_rfl) (by kernel_rfl) (by kernel_rfl) (by kernel_rfl) (fun _ _ _ h => h) (by kernel_rfl) hT (fun _ => hS) (by kernel_rfl) (fun _ h => h.2.2) uD rfl iX ?_
        simp only [Act.put, List.getElem_toArray, List.getElem_cons_succ, List.getElem_cons_zero, List.setIfInBounds_toArray, List.set_cons_zero, List.set_cons_succ]
        refine wpAnyT_held (i := 9) (v := .bool true) rfl (by kernel_rfl) (by kernel_rfl) (by kernel_rfl) (fun _ _ _ h => h) (by kernel_rfl) hT (fun _ => hS) (by kernel_rfl) (fun wx h => exec_eqF rfl rfl rfl (by go_simp) (heq wx)) ?_
        simp only [Act.put, List.getElem_toArray, List.getElem_cons_succ, List.getElem_cons_zero, List.setIfInBounds_toArray, List.set_cons_zero, List.set_cons_succ]
        refine wpAnyT_done (by kernel_rfl) ?_ _
        have HR := Veil.mk (HYES.out he)
        clear hT hS heq hr2 hdx hde HYES HNO
        go_wp2
        go_ret
        exact ⟨by rw [HR.out]; rfl, hB.drew⟩
      · have hde : decide (y = x) = false := by simpa using he
        rw [hde] at heq
        refine wpAnyT_held (i := 0) (v := ?_) rfl (by kernel_rfl) (by kernel_rfl) (by kernel_rfl) (fun _ _ _ h => h) (by kernel_rfl) hT (fun _ => hS) (by kernel_rfl) ?_ ?_
        rotate_left
        · intro wx hSw; go_split_ands; go_simp; try with_reducible rfl
        simp only [Act.put, List.getElem_toArray, List.getElem_cons_succ, List.getElem_cons_zero, List.setIfInBounds_toArray, List.set_cons_zero, List.set_cons_succ]
        refine wpAnyT_held (i := 1) (v := ?_) rfl (by kernel_rfl) (by kernel_rfl) (by kernel_rfl) (fun _ _ _ h => h) (by kernel_rfl) hT (fun _ => hS) (by kernel_rfl) ?_ ?_
        rotate_left
        · intro wx hSw; go_split_ands; go_simp; try with_reducible rfl
        simp only [Act.put, List.getElem_toArray, List.getElem_cons_succ, List.getElem_cons_zero, List.setIfInBounds_toArray, List.set_cons_zero, List.set_cons_succ]
        refine wpAnyT_held (i := 2) (v := ?_) rfl (by kernel_rfl) (by kernel_rfl) (by kernel_rfl) (fun _ _ _ h => h) (by kernel_rfl) hT (fun _ => hS) (by kernel_rfl) ?_ ?_
        rotate_left
        · intro wx hSw; go_split_ands; go_simp; try with_reducible rfl
        simp only [Act.put, List.getElem_toArray, List.getElem_cons_succ, List.getElem_cons_zero, List.setIfInBounds_toArray, List.set_cons_zero, List.set_cons_succ]
        refine wpAnyT_held (i := 3) (v := ?_) rfl (by kernel_rfl) (by kernel_rfl) (by kernel_rfl) (fun _ _ _ h => h) (by kernel_rfl) hT (fun _ => hS) (by kernel_rfl) ?_ ?_
        rotate_left
        · intro wx hSw; go_split_ands; go_simp; try with_reducible rfl
        simp only [Act.put, List.getElem_toArray, List.getElem_cons_succ, List.getElem_cons_zero, List.setIfInBounds_toArray, List.set_cons_zero, List.set_cons_succ]
        refine wpAnyT_held (i := 4) (v := ?_) rfl (by kernel_rfl) (by kernel_rfl) (by kernel_rfl) (fun _ _ _ h => h) (by kernel_rfl) hT (fun _ => hS) (by kernel_rfl) ?_ ?_
        rotate_left
        · intro wx hSw; go_split_ands; go_simp; try with_reducible rfl
        simp only [Act.put, List.getElem_toArray, List.getElem_cons_succ, List.getElem_cons_zero, List.setIfInBounds_toArray, List.set_cons_zero, List.set_cons_succ]
        refine wpAnyT_held (i := 5) (v := ?_) rfl (by kernel_rfl) (by kernel_rfl) (by kernel_rfl) (fun _ _ _ h => h) (by kernel_rfl) hT (fun _ => hS) (by kernel_rfl) ?_ ?_
        rotate_left
        · intro wx hSw; go_split_ands; go_simp; try with_reducible rfl
        simp only [Act.put, List.getElem_toArray, List.getElem_cons_succ, List.getElem_cons_zero, List.setIfInBounds_toArray, List.set_cons_zero, List.set_cons_succ]
        refine wpAnyT_held (i := 6) (v := ?_) rfl (by kernel_rfl) (by kernel_rfl) (by kernel_rfl) (fun _ _ _ h => h) (by kernel_rfl) hT (fun _ => hS) (by kernel_rfl) ?_ ?_
        rotate_left
        · intro wx hSw; go_split_ands; go_simp; try with_reducible rfl
        simp only [Act.put, List.getElem_toArray, List.getElem_cons_succ, List.getElem_cons_zero, List.setIfInBounds_toArray, List.set_cons_zero, List.set_cons_succ]
        refine wpAnyT_load (i := 7) (dst := some 26) (ty := 32) (x := .tmp 25) (b := g) (o := ((i * 6))) (cs := DH) (by kernel_rfl) (by kernel_rfl) (by kernel_rfl) (by kernel_rfl) (by kernel_rfl) (fun _ _ _ h => h) (by kernel_rfl) hT (fun _ => hS) (by kernel_rfl) (fun _ h => h.2.1) uD rfl iH ?_
        simp only [Act.put, List.getElem_toArray, List.getElem_cons_succ, List.getElem_cons_zero, List.setIfInBounds_toArray, List.set_cons_zero, List.set_cons_succ]
        refine wpAnyT_load (i := 8) (dst := some 27) (ty := 32) (x := .tmp 3) (b := w.heap.size) (o := (0)) (cs := DX) (by kernel_rfl) (by kernel_rfl) (by kernel_rfl) (by kernel_rfl) (by kernel_rfl) (fun _ _ _ h => h) (by kernel_rfl) hT (fun _ => hS) (by kernel_rfl) (fun _ h => h.2.2) uD rfl iX ?_
        simp only [Act.put, List.getElem_toArray, List.getElem_cons_succ, List.getElem_cons_zero, List.setIfInBounds_toArray, List.set_cons_zero, List.set_cons_succ]
        refine wpAnyT_held (i := 9) (v := .bool false) rfl (by kernel_rfl) (by kernel_rfl) (by kernel_rfl) (fun _ _ _ h => h) (by kernel_rfl) hT (fun _ => hS) (by kernel_rfl) (fun wx h => exec_eqF rfl rfl rfl (by go_simp) (heq wx)) ?_
        simp only [Act.put, List.getElem_toArray, List.getElem_cons_succ, List.getElem_cons_zero, List.setIfInBounds_toArray, List.set_cons_zero, List.set_cons_succ]
        refine wpAnyT_done (by kernel_rfl) ?_ _
        have HR := Veil.mk (HNO.out he)
        have HBD := Veil.mk (And.intro hB.drew (hd.congr (w' := wr.drew) rfl))
        clear hT hS heq hr2 hdx hde HYES HNO hB hd cR
        go_wp2
        go_roundw
        case rel => exact ⟨i + 1, by push_cast; rfl, hlt, HR.out, HBD.out.1, HBD.out.2⟩
        case measure => simp [intOf]; omega
    · obtain rfl : i = n := by omega
      have hli : ¬ (i : Int) < (i : Int) := by omega
      have HR := Veil.mk (HX1.out (fun j hj => HLO.out j hj (by rw [← HN.out]; exact hj)))
      go_wp2
      go_ret
      exact ⟨by rw [HR.out]; rfl, hB⟩
end Go.Proofs.Ytnmjplngbleopaa
