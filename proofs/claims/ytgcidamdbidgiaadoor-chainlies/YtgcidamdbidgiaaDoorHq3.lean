/- chain's reference: 'Look', 'Add'. -/
import Derived.Test.YtgcidamdbidgiaaDoorHq2
namespace Go.Proofs.YtgcidamdbidgiaaDoor
open Go.RowKit
set_option maxRecDepth 20000
set_option linter.unusedSimpArgs false

theorem refTo_blocks {w w' : World} {base R : Nat} {us : List Value} {vp vp' : Value} {T : Sms} {P : List Pf} (h : RefTo w w' base R us us vp vp' T P) : ∀ k, refB R us vp' k → refB R us vp k ∨ w.heap.size ≤ k := by
  rintro k (e | e | e)
  · exact .inl (.inl e)
  · rcases h.own with q | ⟨g, q, hg⟩
    · rw [q] at e; exact .inl (.inr (.inl e))
    · rw [q] at e; cases e; exact .inr hg
  · exact .inl (.inr (.inr e))
theorem okP_lookP {T : Sms} (hT : OkS T) (a n : Nat) (prev sum : List Int) (hp : okK prev) (hs : okK sum) : okP (lookP T a n prev sum) := by
  unfold lookP
  split
  · rename_i h
    exact okP_proofN hT a n prev sum (lookN_fork h) hp hs
  · exact ⟨by decide, by decide, okK_zk, okK_zk⟩
section
variable (base R : Nat) (us : List Value) (vp : Value) (T : Sms) (P : List Pf) (w : World) (F : Fr) (xw : Option Addr) (lw cw : Nat) (ws : List Wp) (xb : Option Addr) (lb cb : Nat) (body : List Int) (a n : Nat)
set_option maxHeartbeats 8000000 in
theorem rLook_any (hR : RefC w base R us vp T P) (hF : FrIn w F xw lw cw ws xb lb cb body) (ha : F.author = (a : Int)) (hn : F.number = (n : Int)) :
    Calls Tryd.prog 39 #[.pointer (some ⟨R, 0, none⟩), .agg F.cells.toArray] w fun e w' => e = .returned (.int .i64 (lookN T a n F.prev (fsum F lw lb ws body))) ∧ Below w.heap.size w w' := by
  obtain ⟨q0, -⟩ := fr_parts F hF.prev hF.mac
  have hiF : (Tryd.prog.info? 38).map (·.size) = some F.cells.length := by rw [q0]; exact sizeFrame
  have hpok : okK F.prev := ⟨hF.prev, hF.inF.prev⟩
  have hLP := okP_lookP hR.ok a n F.prev (fsum F lw lb ws body) hpok (fsum_ok F lw lb ws body)
  have hLl := proofC_len (lookP T a n F.prev (fsum F lw lb ws body)) hLP.2.2.1.1 hLP.2.2.2.1
  have h1L := proofC_one (lookP T a n F.prev (fsum F lw lb ws body))
  obtain ⟨PZ, hPZ, hPZl⟩ : ∃ q : List Value, q = proofC pz ∧ q.length = 66 := ⟨_, rfl, rfl⟩
  have hzv : ∀ wx, (zeroValue 49).run Tryd.prog wx = .ok (.agg PZ.toArray) wx := fun wx => by rw [hPZ]; exact zero_ofH (by kernel_rfl) wx
  have hz1 : ¬ PZ.toArray = #[] := by intro h; have := congrArg Array.size h; simp at this; rw [this] at hPZl; simp at hPZl
  have hD0 := CellsAt.new w 38 F.cells
  have hB0 : Below w.heap.size w (w.alloc (.cells F.cells.toArray 38)) := (Below.refl _ _).alloc (Nat.le_refl _) _
  have rF := hD0.wholeM
  have hlk := rlook_any base R us vp T P _ F xw lw cw ws xb lb cb body a n (hR.far hB0) (hF.below hB0) ha hn
  clear hPZ hR hF ha hn hLP hpok
  generalize fsum F lw lb ws body = SM at hlk hLl h1L ⊢
  generalize lookN T a n F.prev SM = LN at hlk ⊢
  generalize proofC (lookP T a n F.prev SM) = LC at hlk hLl h1L
  have iL : (Tryd.prog.info? 49).map (·.size) = some LC.length := by rw [hLl]; exact sizeProof
  go_enter Tryd.func39, Tryd.ntmps39
  go_wp2_with (first
    | (refine wpList_ldv rfl 38 _ rfl _ _ rfl F.cells rF Tryd.underlying38 rfl hiF ?_)
    | (go_at_call 50; refine hlk.mono ?_; rintro e w1 ⟨rfl, hb1⟩; have hA1 := CellsAt.new w1 49 PZ)
    | (refine wpList_stv rfl 49 _ _ rfl _ rfl rfl hA1 iL (by rw [hLl, hPZl]) h1L ?_))
  go_ret
  have hB1 := hB0.trans (hb1.mono hB0.size)
  exact ⟨rfl, below_setRow (hB1.alloc hB1.size _) hB1.size _⟩
end
section
variable (w : World)
set_option maxHeartbeats 8000000 in
theorem rSame_any (b1 b2 : Nat) (f g : Value) (P Q : List Pf) (hf : OwnI w b1 49 66 f (P.map proofC)) (hg : OwnI w b2 49 66 g (Q.map proofC)) (hP : ∀ p ∈ P, okP p) (hPQ : P = Q) (hlen : P.length ≤ 1000) :
    Calls Tryd.prog 26 #[f, g] w fun e w' => e = .returned (.bool true) ∧ Below w.heap.size w w' := by
  subst hPQ
  obtain ⟨x, c, hv⟩ := hf.isSlice
  obtain ⟨y, d, hu⟩ := hg.isSlice
  rw [List.length_map] at hv hu
  have HAT : Veil (∀ W, Below w.heap.size w W → ∀ j (hj : j < P.length), (∃ k, x = some ⟨k, 0, none⟩ ∧ W.rangeAt k (j * 66) (proofC P[j])) ∧ ∃ k, y = some ⟨k, 0, none⟩ ∧ W.rangeAt k (j * 66) (proofC P[j])) := ⟨fun W hb j hj => by
    have h1 := hf.far hb
    have h2 := hg.far hb
    rw [hv] at h1
    rw [hu] at h2
    obtain ⟨k, e1, -, e3⟩ := h1.at_ j (by rw [List.length_map]; exact hj)
    obtain ⟨k', e1', -, e3'⟩ := h2.at_ j (by rw [List.length_map]; exact hj)
    rw [List.getElem_map] at e3 e3'
    exact ⟨⟨k, e1, e3⟩, k', e1', e3'⟩⟩
  have HEQ : Veil (∀ j (hj : j < P.length), (proofC P[j]).length = 66 ∧ ∀ wx, (binOp .neq 49 (.agg (proofC P[j]).toArray) (.agg (proofC P[j]).toArray)).run Tryd.prog wx = .ok (.bool false) wx) := ⟨fun j hj => ⟨proofC_len _ (hP _ (List.getElem_mem hj)).2.2.1.1 (hP _ (List.getElem_mem hj)).2.2.2.1, fun wx => by
    have := neqProof P[j] P[j] (hP _ (List.getElem_mem hj)) (hP _ (List.getElem_mem hj)) wx
    simpa using this⟩⟩
  subst hv hu
  obtain ⟨n, hn⟩ : ∃ q, P.length = q := ⟨_, rfl⟩
  rw [hn] at hlen ⊢
  have HN := Veil.mk hn
  have uP : Tryd.prog.underlying 49 = _ := Tryd.underlying49
  clear hn hf hg
  go_enter Tryd.func26, Tryd.ntmps26
  go_wp2
  go_loopw [5] (fun q wr => ∃ j : Nat, j ≤ n ∧ q = .int .i64 j ∧ Below w.heap.size w wr) (fun q _ => n - (intOf q).toNat)
  case atStart => exact ⟨0, Nat.zero_le _, rfl, Below.refl _ _⟩
  case round =>
    obtain ⟨j, hj, rfl, hB⟩ := hrel
    by_cases hjn : j < n
    · have hji : (j : Int) < (n : Int) := by omega
      have hj0 : (0 : Int) ≤ (j : Int) := by omega
      have hjQ : j < P.length := by rw [HN.out]; exact hjn
      obtain ⟨⟨k, rfl, r1⟩, k', rfl, r2⟩ := HAT.out wr hB j hjQ
      obtain ⟨hql, hneq⟩ := HEQ.out j hjQ
      generalize proofC P[j] = PC at r1 r2 hql hneq
      have iQ : (Tryd.prog.info? 49).map (·.size) = some PC.length := by rw [hql]; exact sizeProof
      have hw1 : IntKind.i64.wrap ((j : Int) + 1) = (j : Int) + 1 := by rw [IntKind.wrap_i64]; omega
      go_upto_region 6 with fail
      refine wp_region_gateT (fun w' => w'.rangeAt k (j * 66) PC ∧ w'.rangeAt k' (j * 66) PC) (fun _ => True) 99 (by kernel_rfl) ?_
      have hT : (fun w' : World => w'.rangeAt k (j * 66) PC ∧ w'.rangeAt k' (j * 66) PC) wr.drew := ⟨r1, r2⟩
      have hS := trivial
      refine wpAnyT_held (i := 0) (v := ?_) rfl (by kernel_rfl) (by kernel_rfl) (by kernel_rfl) (fun _ _ _ h => h) (by kernel_rfl) hT (fun _ => hS) (by kernel_rfl) ?_ ?_
      rotate_left
      · intro wx hSw; go_split_ands; go_simp; try with_reducible rfl
      simp only [Act.put, List.getElem_toArray, List.getElem_cons_succ, List.getElem_cons_zero, List.setIfInBounds_toArray, List.set_cons_zero, List.set_cons_succ]
      refine wpAnyT_held (i := 1) (v := ?_) rfl (by kernel_rfl) (by kernel_rfl) (by kernel_rfl) (fun _ _ _ h => h) (by kernel_rfl) hT (fun _ => hS) (by kernel_rfl) ?_ ?_
      rotate_left
      · intro wx hSw; go_split_ands; go_simp; try with_reducible rfl
      simp only [Act.put, List.getElem_toArray, List.getElem_cons_succ, List.getElem_cons_zero, List.setIfInBounds_toArray, List.set_cons_zero, List.set_cons_succ]
      refine wpAnyT_held (i := 2) (v := ?_) rfl (by kernel_rfl) (by kernel_rfl) (by kernel_rfl) (fun _ _ _ h => h) (by kernel_rfl) hT (fun _ => hS) (by kernel_rfl) ?_ ?_
      rotate_left
      · intro wx hSw; go_split_ands; go_simp; try with_reducible rfl
      simp only [Act.put, List.getElem_toArray, List.getElem_cons_succ, List.getElem_cons_zero, List.setIfInBounds_toArray, List.set_cons_zero, List.set_cons_succ]
      refine wpAnyT_held (i := 4) (v := ?_) rfl (by kernel_rfl) (by kernel_rfl) (by kernel_rfl) (fun _ _ _ h => h) (by kernel_rfl) hT (fun _ => hS) (by kernel_rfl) ?_ ?_
      rotate_left
      · intro wx hSw; go_split_ands; go_simp; try with_reducible rfl
      simp only [Act.put, List.getElem_toArray, List.getElem_cons_succ, List.getElem_cons_zero, List.setIfInBounds_toArray, List.set_cons_zero, List.set_cons_succ]
      refine wpAnyT_held (i := 5) (v := ?_) rfl (by kernel_rfl) (by kernel_rfl) (by kernel_rfl) (fun _ _ _ h => h) (by kernel_rfl) hT (fun _ => hS) (by kernel_rfl) ?_ ?_
      rotate_left
      · intro wx hSw; go_split_ands; go_simp; try with_reducible rfl
      simp only [Act.put, List.getElem_toArray, List.getElem_cons_succ, List.getElem_cons_zero, List.setIfInBounds_toArray, List.set_cons_zero, List.set_cons_succ]
      refine wpAnyT_held (i := 6) (v := ?_) rfl (by kernel_rfl) (by kernel_rfl) (by kernel_rfl) (fun _ _ _ h => h) (by kernel_rfl) hT (fun _ => hS) (by kernel_rfl) ?_ ?_
      rotate_left
      · intro wx hSw; go_split_ands; go_simp; try with_reducible rfl
      simp only [Act.put, List.getElem_toArray, List.getElem_cons_succ, List.getElem_cons_zero, List.setIfInBounds_toArray, List.set_cons_zero, List.set_cons_succ]
      refine wpAnyT_load (i := 3) (dst := some 20) (ty := 49) (x := .tmp 19) (b := k) (o := ((j * 66))) (cs := PC) (by kernel_rfl) (by kernel_rfl) (by kernel_rfl) (by kernel_rfl) (by kernel_rfl) (fun _ _ _ h => h) (by kernel_rfl) hT (fun _ => hS) (by kernel_rfl) (fun _ h => h.1) uP rfl iQ ?_
      simp only [Act.put, List.getElem_toArray, List.getElem_cons_succ, List.getElem_cons_zero, List.setIfInBounds_toArray, List.set_cons_zero, List.set_cons_succ]
      refine wpAnyT_load (i := 7) (dst := some 24) (ty := 49) (x := .tmp 23) (b := k') (o := ((j * 66))) (cs := PC) (by kernel_rfl) (by kernel_rfl) (by kernel_rfl) (by kernel_rfl) (by kernel_rfl) (fun _ _ _ h => h) (by kernel_rfl) hT (fun _ => hS) (by kernel_rfl) (fun _ h => h.2) uP rfl iQ ?_
      simp only [Act.put, List.getElem_toArray, List.getElem_cons_succ, List.getElem_cons_zero, List.setIfInBounds_toArray, List.set_cons_zero, List.set_cons_succ]
      refine wpAnyT_held (i := 8) (v := .bool false) rfl (by kernel_rfl) (by kernel_rfl) (by kernel_rfl) (fun _ _ _ h => h) (by kernel_rfl) hT (fun _ => hS) (by kernel_rfl) ?_ ?_
      · intro wx hSw; go_split_ands; go_simp
      simp only [Act.put, List.getElem_toArray, List.getElem_cons_succ, List.getElem_cons_zero, List.setIfInBounds_toArray, List.set_cons_zero, List.set_cons_succ]
      refine wpAnyT_done (by kernel_rfl) ?_ _
      clear hT hS hneq r1 r2
      go_wp2
      go_roundw
      case rel => exact ⟨j + 1, hjn, by push_cast; rfl, hB.drew⟩
      case measure => simp [intOf]; omega
    · obtain rfl : j = n := by omega
      have hji : ¬ (j : Int) < (j : Int) := by omega
      go_wp2
      go_ret
      exact ⟨rfl, hB⟩
end
end Go.Proofs.YtgcidamdbidgiaaDoor
