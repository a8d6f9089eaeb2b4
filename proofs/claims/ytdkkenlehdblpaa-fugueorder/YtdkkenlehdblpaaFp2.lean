/- fugue, pure: what is deleted is gone from the text; dots compared. -/
import Derived.Test.YtdkkenlehdblpaaFp1
namespace Go.Proofs.Ytdkkenlehdblpaa
open Go.RowKit Go.Shelf
set_option maxRecDepth 20000
set_option linter.unusedSimpArgs false
theorem chr0_del (N : List Nd) (x y : Int × Int) : chr0 (delN N x) y = if y = x then 0 else chr0 N y := by
  unfold chr0
  rw [chrN_del]
  split
  · cases chrN N x <;> rfl
  · rfl
theorem filter_ne_at {l : List (Int × Int)} (hl : l.Nodup) {k : Nat} (hk : k < l.length) : l.filter (fun y => decide (y ≠ l[k])) = l.take k ++ l.drop (k + 1) := by
  have e : l = l.take k ++ l[k] :: l.drop (k + 1) := by rw [← List.drop_eq_getElem_cons hk, List.take_append_drop]
  generalize l[k] = x at *
  generalize l.take k = A at *
  generalize l.drop (k + 1) = B at *
  subst e
  have hA : ∀ y ∈ A, y ≠ x := fun y hy q => by
    rw [List.nodup_append] at hl
    exact hl.2.2 y hy x (by simp) q
  have hB : ∀ y ∈ B, y ≠ x := fun y hy q => by
    rw [List.nodup_append] at hl
    exact (List.nodup_cons.1 hl.2.1).1 (q ▸ hy)
  rw [List.filter_append, List.filter_cons_of_neg (by simp), List.filter_eq_self.2 (fun y hy => by simpa using hA y hy), List.filter_eq_self.2 (fun y hy => by simpa using hB y hy)]
theorem wrN_del {N : List Nd} (hN : TreeOk N) {k : Nat} (hk : k < (wrN N).length) : wrN (delN N (wrN N)[k]) = (wrN N).take k ++ (wrN N).drop (k + 1) := by
  rw [← filter_ne_at (wrN_nodup hN) hk]
  generalize (wrN N)[k] = x
  unfold wrN
  rw [walk_delN hN.rooted, List.filter_filter]
  refine List.filter_congr fun y _ => ?_
  unfold writB
  rw [chr0_del]
  by_cases h : y = x <;> simp [h]
theorem textN_del {N : List Nd} (hN : TreeOk N) {k : Nat} (hk : k < (wrN N).length) : textN (delN N (wrN N)[k]) = (textN N).take k ++ (textN N).drop (k + 1) := by
  have h1 := wrN_del hN hk
  have hnd := wrN_nodup hN
  have hne : ∀ y ∈ (wrN N).take k ++ (wrN N).drop (k + 1), y ≠ (wrN N)[k] := fun y hy => by
    rw [← filter_ne_at hnd hk] at hy
    simpa using (List.mem_filter.1 hy).2
  unfold textN
  rw [h1, ← List.map_take, ← List.map_drop, ← List.map_append]
  exact List.map_congr_left fun y hy => by rw [chr0_del, if_neg (hne y hy)]
set_option maxHeartbeats 4000000 in
theorem sameDots_any (b1 b2 : Nat) (x1 x2 : Option Addr) (c1 c2 : Nat) (L : List (Int × Int)) (hL : L.length ≤ 1000) (w : World) (h1 : OwnI w b1 32 2 (.slice x1 L.length c1) (L.map encF)) (h2 : OwnI w b2 32 2 (.slice x2 L.length c2) (L.map encF)) :
    Calls Try.prog 20 #[.slice x1 L.length c1, .slice x2 L.length c2] w fun e w' => e = .returned (.bool true) ∧ Below w.heap.size w w' := by
  have H1 := Veil.mk h1
  have H2 := Veil.mk h2
  obtain ⟨n, hn⟩ : ∃ q, L.length = q := ⟨_, rfl⟩
  have HN := Veil.mk hn
  rw [hn] at H1 H2 hL ⊢
  have uD := Try.underlying32
  clear h1 h2 hn
  go_enter Try.func20, Try.ntmps20
  have hnn : ((n : Int) != (n : Int)) = false := by simp
  go_wp2_with fail
  go_loopw [5] (fun p wr => ∃ i : Nat, p = .int .i64 (i : Nat) ∧ i ≤ n ∧ Below w.heap.size w wr) (fun p _ => n - (intOf p).toNat)
  case atStart => exact ⟨0, rfl, Nat.zero_le _, Below.refl _ _⟩
  case round =>
    obtain ⟨i, rfl, hi, hB⟩ := hrel
    by_cases hlt : i < n
    · have hli : (i : Int) < (n : Int) := by omega
      have hi0 : (0 : Int) ≤ (i : Int) := by omega
      have hil : i < L.length := by rw [HN.out]; exact hlt
      obtain ⟨g1, rfl, -, hr1⟩ := (H1.out.far hB).at_ i (by rw [List.length_map]; exact hil)
      obtain ⟨g2, rfl, -, hr2⟩ := (H2.out.far hB).at_ i (by rw [List.length_map]; exact hil)
      rw [List.getElem_map] at hr1 hr2
      have iD : (Try.prog.info? 32).map (·.size) = some (encF L[i]).length := sizeDot
      have hne : ∀ wx, (binOp BinOp.neq 32 (.agg (encF L[i]).toArray) (.agg (encF L[i]).toArray)).run Try.prog wx = .ok (.bool false) wx := fun wx => by rw [dot_neq]; simp
      generalize encF L[i] = DH at hr1 hr2 iD hne
      have hww : IntKind.i64.wrap ((i : Int) + 1) = (i : Int) + 1 := by rw [IntKind.wrap_i64]; omega
      have HB := Veil.mk hB.drew
      clear hil hB
      go_upto_region 6 with fail
      refine wp_region_gateT (fun w' => w'.rangeAt g1 (i * 2) DH ∧ w'.rangeAt g2 (i * 2) DH) (fun _ => True) 99 (by kernel_rfl) ?_
      have hT : (fun w' : World => w'.rangeAt g1 (i * 2) DH ∧ w'.rangeAt g2 (i * 2) DH) wr.drew := ⟨hr1, hr2⟩
      have hS : (fun _ : World => True) wr.drew := trivial
      refine wpAnyT_held (i := 0) (v := ?_) rfl (by kernel_rfl) (by kernel_rfl) (by kernel_rfl) (fun _ _ _ h => h) (by kernel_rfl) hT (fun _ => hS) (by kernel_rfl) ?_ ?_
      rotate_left
      · intro wx hSw; go_split_ands; go_simp; try with_reducible rfl
      simp only [Act.put, List.getElem_toArray, List.getElem_cons_succ, List.getElem_cons_zero, List.setIfInBounds_toArray, List.set_cons_zero, List.set_cons_succ]
      refine wpAnyT_held (i := 1) (v := ?_) rfl (by kernel_rfl) (by kernel_rfl) (by kernel_rfl) (fun _ _ _ h => h) (by kernel_rfl) hT (fun _ => hS) (by kernel_rfl) ?_ ?_
      rotate_left
      · intro wx hSw; go_split_ands; go_simp; try with_reducible rfl
      simp only [Act.put, List.getElem_toArray, List.getElem_cons_succ, List.getElem_cons_zero, List.setIfInBounds_toArray, List.set_cons_zero, List.set_cons_succ]
      refine wpAnyT_held (i := 2) (v := ?_) rfl (by kernel_rfl) (by kernel_rfl) (by kernel_rfl) (fun _ _ _ h => h) (by kernel_rfl) hT (fun _ => hS) (by kernel_rfl) ?_ ?_
      rotate_left
      · intro wx hSw; go_split_ands; go_simp; try with_reducible rfl
      simp only [Act.put, List.getElem_toArray, List.getElem_cons_succ, List.getElem_cons_zero, List.setIfInBounds_toArray, List.set_cons_zero, List.set_cons_succ]
      refine wpAnyT_load (i := 3) (dst := some 20) (ty := 32) (x := .tmp 19) (b := g1) (o := ((i * 2))) (cs := DH) (by kernel_rfl) (by kernel_rfl) (by kernel_rfl) (by kernel_rfl) (by kernel_rfl) (fun _ _ _ h => h) (by kernel_rfl) hT (fun _ => hS) (by kernel_rfl) (fun _ h => h.1) uD rfl iD ?_
      simp only [Act.put, List.getElem_toArray, List.getElem_cons_succ, List.getElem_cons_zero, List.setIfInBounds_toArray, List.set_cons_zero, List.set_cons_succ]
      refine wpAnyT_held (i := 4) (v := ?_) rfl (by kernel_rfl) (by kernel_rfl) (by kernel_rfl) (fun _ _ _ h => h) (by kernel_rfl) hT (fun _ => hS) (by kernel_rfl) ?_ ?_
      rotate_left
      · intro wx hSw; go_split_ands; go_simp; try with_reducible rfl
      simp only [Act.put, List.getElem_toArray, List.getElem_cons_succ, List.getElem_cons_zero, List.setIfInBounds_toArray, List.set_cons_zero, List.set_cons_succ]
      refine wpAnyT_held (i := 5) (v := ?_) rfl (by kernel_rfl) (by kernel_rfl) (by kernel_rfl) (fun _ _ _ h => h) (by kernel_rfl) hT (fun _ => hS) (by kernel_rfl) ?_ ?_
      rotate_left
      · intro wx hSw; go_split_ands; go_simp; try with_reducible rfl
      simp only [Act.put, List.getElem_toArray, List.getElem_cons_succ, List.getElem_cons_zero, List.setIfInBounds_toArray, List.set_cons_zero, List.set_cons_succ]
      refine wpAnyT_held (i := 6) (v := ?_) rfl (by kernel_rfl) (by kernel_rfl) (by kernel_rfl) (fun _ _ _ h => h) (by kernel_rfl) hT (fun _ => hS) (by kernel_rfl) ?_ ?_
      rotate_left
      · intro wx hSw; go_split_ands; go_simp; try with_reducible rfl
      simp only [Act.put, List.getElem_toArray, List.getElem_cons_succ, List.getElem_cons_zero, List.setIfInBounds_toArray, List.set_cons_zero, List.set_cons_succ]
      refine wpAnyT_load (i := 7) (dst := some 24) (ty := 32) (x := .tmp 23) (b := g2) (o := ((i * 2))) (cs := DH) (by kernel_rfl) (by kernel_rfl) (by kernel_rfl) (by kernel_rfl) (by kernel_rfl) (fun _ _ _ h => h) (by kernel_rfl) hT (fun _ => hS) (by kernel_rfl) (fun _ h => h.2) uD rfl iD ?_
      simp only [Act.put, List.getElem_toArray, List.getElem_cons_succ, List.getElem_cons_zero, List.setIfInBounds_toArray, List.set_cons_zero, List.set_cons_succ]
      refine wpAnyT_held (i := 8) (v := .bool false) rfl (by kernel_rfl) (by kernel_rfl) (by kernel_rfl) (fun _ _ _ h => h) (by kernel_rfl) hT (fun _ => hS) (by kernel_rfl) (fun wx h => exec_eqF rfl rfl rfl (by go_simp) (hne wx)) ?_
      simp only [Act.put, List.getElem_toArray, List.getElem_cons_succ, List.getElem_cons_zero, List.setIfInBounds_toArray, List.set_cons_zero, List.set_cons_succ]
      refine wpAnyT_done (by kernel_rfl) ?_ _
      clear hT hS hne hr1 hr2 iD
      go_wp2
      go_roundw
      case rel => exact ⟨i + 1, by push_cast; rfl, hlt, HB.out⟩
      case measure => simp [intOf]; omega
    · obtain rfl : i = n := by omega
      have hli : ¬ (i : Int) < (i : Int) := by omega
      go_wp2
      go_ret
      exact ⟨rfl, hB⟩
end Go.Proofs.Ytdkkenlehdblpaa

