/- Fr3 -/
import Derived.Test.YtnmjplngbleopaaF30
namespace Go.Proofs.Ytnmjplngbleopaa
open Go.RowKit Go.Shelf
set_option maxRecDepth 20000
set_option linter.unusedSimpArgs false
theorem flat_set {k : Nat} (L : List (List Value)) (hL : ∀ c ∈ L, c.length = k) (j off : Nat) (hj : j < L.length) (ho : off < k) (u : Value) : L.flatten.set (j * k + off) u = (L.set j (L[j].set off u)).flatten := by
  induction L generalizing j with
  | nil => simp at hj
  | cons e L ih =>
    have he : e.length = k := hL e (by simp)
    cases j with
    | zero => simp only [Nat.zero_mul, Nat.zero_add, List.flatten_cons, List.getElem_cons_zero, List.set_cons_zero]; rw [List.set_append_left _ _ (by omega)]
    | succ j =>
      have := ih (fun x hx => hL x (by simp [hx])) j (by simpa using hj)
      simp only [List.flatten_cons, List.getElem_cons_succ, List.set_cons_succ]
      rw [← this, List.set_append_right _ _ (by rw [he, Nat.add_mul]; omega), he, show (j + 1) * k + off - k = j * k + off by rw [Nat.add_mul]; omega]
theorem OwnI.setAt {w : World} {base : Nat} {t : TypeId} {k : Nat} {g n c : Nat} {L : List (List Value)} (h : OwnI w base t k (.slice (some ⟨g, 0, none⟩) n c) L) (j off : Nat) (hj : j < L.length) (ho : off < k) (u : Value) :
    OwnI (w.setCell ⟨g, j * k + off, none⟩ u) base t k (.slice (some ⟨g, 0, none⟩) n c) (L.set j (L[j].set off u)) ∧ (∃ u0, w.cell? ⟨g, j * k + off, none⟩ = some u0) ∧ w.frozen? ⟨g, j * k + off, none⟩ = false := by
  rcases h.own.2 with ⟨h1, h0⟩ | ⟨g', cap', cur, h1, hb, hg, hc, hm, hs, ht⟩
  · cases h1
  · cases h1
    have hfl := flat_len L h.each
    have hlt : j * k + off < L.length * k := by
      have := Nat.mul_le_mul_right k (show j + 1 ≤ L.length from hj)
      rw [Nat.add_mul] at this; omega
    have hcs : CellsAt w g t cur.toList := by unfold CellsAt; rw [Array.toArray_toList]; exact hg
    have hlc : j * k + off < cur.toList.length := by
      have h5 : (cur.toList.take (L.length * k)).length = L.length * k := by rw [ht]; exact hfl
      rw [List.length_take] at h5; omega
    have hset := hcs.set (j * k + off) u
    refine ⟨⟨⟨?_, .inr ⟨g, c, (cur.toList.set (j * k + off) u).toArray, by rw [List.length_set], hb, hset, by rw [List.length_set]; exact hc, hm, by simpa using hs, ?_⟩⟩, fun x hx => ?_⟩, ⟨cur.toList[j * k + off], by rw [hcs.cell, List.getElem?_eq_getElem hlc]⟩, hcs.frozen _⟩
    · rw [← flat_set L h.each j off hj ho u, List.length_set, hfl, List.length_set]
    · rw [List.length_set, ← flat_set L h.each j off hj ho u, ← ht]
      simp only [List.toList_toArray]
      rw [List.take_set]
    · rcases List.mem_or_eq_of_mem_set hx with q | q
      · exact h.each x q
      · rw [q, List.length_set]; exact h.each _ (List.getElem_mem hj)
theorem delN_set {N : List Nd} (hN : (N.map (·.id)).Nodup) {i : Nat} (hi : i < N.length) {x : Int × Int} (hx : N[i].id = x) : (N.map ndC).set i ((N.map ndC)[i]'(by rw [List.length_map]; exact hi) |>.set 5 (.int .u8 0)) = (delN N x).map ndC := by
  apply List.ext_getElem (by simp [delN])
  intro j h1 h2
  have hj : j < N.length := by simpa using h1
  have e2 : ((delN N x).map ndC)[j]'h2 = ndC (gone x N[j]) := by simp only [delN, List.getElem_map]
  rw [e2]
  simp only [List.getElem_set, List.getElem_map]
  split
  · next e =>
    subst e
    unfold gone
    rw [if_pos hx]
    rfl
  · next e =>
    unfold gone
    rw [if_neg (fun q => e ?_)]
    exact (List.getElem_inj (h₀ := by simpa using hi) (h₁ := by simpa using hj) hN (i := i) (j := j)).1 (by simp only [List.getElem_map]; rw [hx, q])
set_option maxHeartbeats 4000000 in
theorem rdelT_any (base R : Nat) (v : Value) (N : List Nd) (x : Int × Int) (hnd : (N.map (·.id)).Nodup) (w : World) (hT : RefT w base R v N) :
    Calls Try.prog 25 #[.pointer (some ⟨R, 0, none⟩), .agg (encF x).toArray] w fun e w' => e = .returned (.int .i64 (if (chrN N x).isSome = true then 0 else 7)) ∧ RefT w' base R v (delN N x) ∧ RefTo R v v w w' := by
  have hd0 := CellsAt.new w 32 (encF x)
  have hB : Below w.heap.size w (w.alloc (.cells (encF x).toArray 32)) := (Below.refl _ _).alloc (Nat.le_refl _) _
  have uD := Try.underlying32
  have iD : (Try.prog.info? 32).map (·.size) = some (encF x).length := sizeDot
  have HA : Veil (∀ W, Below w.heap.size w W → Calls Try.prog 35 #[.pointer (some ⟨R, 0, none⟩), .agg (encF x).toArray] W fun e w' => e = .returned (.int .i64 (idxN N x)) ∧ Below W.heap.size W w') := ⟨fun W h => ratT_any base R v N x W (hT.far h)⟩
  have HTF : Veil (∀ W, Below w.heap.size w W → RefT W base R v N) := ⟨fun W hb => hT.far hb⟩
  have HN : Veil ((chrN N x).isSome = false → ∀ W, Below w.heap.size w W → RefT W base R v (delN N x) ∧ RefTo R v v w W) := ⟨fun h W hb => ⟨by rw [delN_none h]; exact hT.far hb, RefTo.of_below hb⟩⟩
  obtain ⟨sx, sc, hsl⟩ := hT.own.isSlice
  rw [List.length_map] at hsl
  have HS : Veil (∀ (i : Nat) (hi : i < N.length), N[i].id = x → ∀ W, Below w.heap.size w W → ∃ g, sx = some ⟨g, 0, none⟩ ∧ (∃ u0, W.cell? ⟨g, i * 6 + 5, none⟩ = some u0) ∧ W.frozen? ⟨g, i * 6 + 5, none⟩ = false ∧ RefT (W.setCell ⟨g, i * 6 + 5, none⟩ (.int .u8 0)) base R v (delN N x) ∧ RefTo R v v w (W.setCell ⟨g, i * 6 + 5, none⟩ (.int .u8 0))) := ⟨fun i hi hx W hb => by
    have hTW := hT.far hb
    have hO := hTW.own
    rw [hsl] at hO
    obtain ⟨g, rfl, -, -⟩ := hO.at_ i (by rw [List.length_map]; exact hi)
    obtain ⟨h1, h2, h3⟩ := hO.setAt i 5 (by rw [List.length_map]; exact hi) (by decide) (.int .u8 0)
    rw [delN_set hnd hi hx] at h1
    have hgv : v.ownBlock = some g := by rw [hsl]; rfl
    have hgR : g ≠ R := fun e => hTW.ne (e ▸ hgv)
    refine ⟨g, rfl, h2, h3, ⟨hTW.box.congr (Below.heap_setCell _ ⟨g, i * 6 + 5, none⟩ _ R (Ne.symm hgR)), by rw [hsl]; exact h1, by rw [delN_len]; exact hTW.len⟩, (Turn.of_below hb).trans (Turn.of_setCell _ (a := ⟨g, i * 6 + 5, none⟩) (.inr hgv) _), fun k hk => .inl hk⟩⟩
  have hln := hT.len
  have HC := Veil.mk (idxN_cases N x)
  generalize idxN N x = XI at HA HC
  generalize (chrN N x).isSome = IS at HC HN ⊢
  obtain ⟨DX, hDX⟩ : ∃ q, encF x = q := ⟨_, rfl⟩
  rw [hDX] at hd0 hB iD HA ⊢
  obtain ⟨ln, hlx⟩ : ∃ q, N.length = q := ⟨_, rfl⟩
  rw [hlx] at hln hsl
  have HLX := Veil.mk hlx
  have HSL := Veil.mk hsl
  clear hDX hT hnd hlx hsl
  go_enter Try.func25, Try.ntmps25
  go_upto_region 3 with fail
  refine forget (p := fun y => Code.wp _ _ _ _ y) (fun W => Below w.heap.size w W ∧ CellsAt W w.heap.size 32 DX) ⟨hB, hd0⟩ ?_
  clear hB hd0
  rintro W ⟨hB, hd⟩
  have hr := hd.wholeM
  have ha := HA.out W hB
  clear hd HA
  rcases HC.out with ⟨rfl, rfl⟩ | ⟨i, hi, hxi, hid, rfl⟩
  · go_wp2_with (first
      | (refine wpList_ldv rfl 32 (.tmp 3) rfl w.heap.size 0 rfl DX hr uD rfl iD ?_)
      | (go_at_call 35; refine ha.mono ?_; rintro z W1 ⟨rfl, h1⟩))
    go_ret
    exact ⟨rfl, HN.out (by first | rfl | trivial) W1 (hB.trans (h1.mono hB.size))⟩
  · rw [hxi] at ha
    have hi' := hi
    rw [HLX.out] at hi'
    have hii : (i : Int) < (ln : Int) := by omega
    have hi0 : (0 : Int) ≤ (i : Int) := by omega
    have hin : ¬ (i : Int) < 0 := by omega
    have HSI := Veil.mk (fun W hb => HS.out i hi hid W hb)
    clear HS hid hxi hi hi' HC
    go_upto_region 6 with (first
      | (refine wpList_ldv rfl 32 (.tmp 3) rfl w.heap.size 0 rfl DX hr uD rfl iD ?_)
      | (go_at_call 35; refine ha.mono ?_; rintro z W1 ⟨rfl, h1⟩))
    have hB1 := hB.trans (h1.mono hB.size)
    obtain ⟨g, rfl, ⟨u0, hc0⟩, hf0, hE⟩ := HSI.out W1 hB1
    have HE := Veil.mk hE
    have cR : W1.cell? ⟨R, 0, none⟩ = some (.slice (some ⟨g, 0, none⟩) ln sc) := by
      have := (HTF.out W1 hB1).box.cell 0
      rw [HSL.out] at this; exact this
    clear hE ha hr h1
    go_wp2
    go_ret
    exact ⟨rfl, HE.out⟩
end Go.Proofs.Ytnmjplngbleopaa
