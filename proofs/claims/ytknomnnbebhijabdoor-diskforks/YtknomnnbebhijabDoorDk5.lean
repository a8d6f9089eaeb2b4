/- disk: 'Records'. -/
import Derived.Test.YtknomnnbebhijabDoorDk4
namespace Go.Proofs.YtknomnnbebhijabDoor
open Go.RowKit Go.Shelf
attribute [local go_sem] Oper.semAt_some
set_option maxRecDepth 20000
set_option linter.unusedSimpArgs false

theorem KeepR.putObj {Bn B0 : Nat} (W : World) (l : Nat) (o' : Obj) (h1 : Bn ≠ l) (h2 : B0 ≤ l) (h3 : l < W.heap.size) : KeepR Bn B0 W (W.putObj l o') :=
  ⟨World.putObj_heap_other h1, (Below.refl B0 W).grown (grownBy_putObj' W l o') (by omega) (fun k hk => by cases hk; exact h2)⟩
theorem KeepR.trans {Bn B0 : Nat} {A B C : World} (h : KeepR Bn B0 A B) (k : KeepR Bn B0 B C) : KeepR Bn B0 A C := ⟨k.1.trans h.1, h.2.trans k.2⟩
theorem infoSlD : (Tryd.prog.info? 31).map (fun i => (i.zero, i.size, i.bytes)) = some (some (.slice none 0 0), 1, 24) := by kernel_rfl
section
variable (base D : Nat) (v : Value) (z : List Int) (s : Nat) (w : World)
theorem dataK_length (k : Nat) (hk : k < (wholeN z).length) : (dataK z k).length = (wholeN z)[k] - 10 := by
  have hs := sumK_succ (wholeN z) k hk
  have hle := (wholeN_at _ z rfl (k + 1)).2.2 (by omega)
  have hp := wholeN_pos z k hk
  unfold dataK
  rw [List.getElem?_eq_getElem hk, Option.getD_some, List.length_take, List.length_drop]
  omega
theorem recV_cut (w : World) (x : Option Addr) (c : Nat) (hx : TopA x) (hb : Bytes w x z.length c z) (k : Nat) (hk : k < (wholeN z).length) :
    ∃ y n, n ≤ z.length ∧ (∀ wx, (Instr.slice 31 (recV x z k) (some (.int .i64 10)) none none).run Tryd.prog wx = .ok (.slice y n n) wx) ∧ Bytes w y n n (dataK z k) := by
  obtain ⟨g, rfl⟩ := hx.some hb k hk
  have hs := sumK_succ (wholeN z) k hk
  have hle := (wholeN_at _ z rfl (k + 1)).2.2 (by omega)
  have hp := wholeN_pos z k hk
  have h1 := hb.cut3 (sumK (wholeN z) k) (sumK (wholeN z) k + (wholeN z)[k]) (by omega) (by omega)
  have e1 : sumK (wholeN z) k + (wholeN z)[k] - sumK (wholeN z) k = (wholeN z)[k] := by omega
  rw [e1] at h1
  have h2 := h1.cut 10 (wholeN z)[k] hp (Nat.le_refl _)
  refine ⟨subA (cutA (some ⟨g, 0, none⟩) (sumK (wholeN z) k) (sumK (wholeN z) k + (wholeN z)[k])) (wholeN z)[k] 10, (wholeN z)[k] - 10, by omega, fun wx => ?_, ?_⟩
  · have := run_cut_l wx (cutA (some ⟨g, 0, none⟩) (sumK (wholeN z) k) (sumK (wholeN z) k + (wholeN z)[k])) (wholeN z)[k] (wholeN z)[k] 10 hp
    unfold recV
    rw [List.getElem?_eq_getElem hk, Option.getD_some]
    exact this
  · have e2 : dataK z k = (((z.drop (sumK (wholeN z) k)).take (wholeN z)[k]).drop 10).take ((wholeN z)[k] - 10) := by
      unfold dataK
      rw [List.getElem?_eq_getElem hk, Option.getD_some, List.drop_take, List.take_take, List.drop_drop]
      congr 1
      omega
    rw [e2]
    exact h2
theorem sumK_ge (k : Nat) (hk : k ≤ (wholeN z).length) : 10 * k ≤ sumK (wholeN z) k := by
  induction k with
  | zero => simp [sumK]
  | succ k ih =>
    have h1 := ih (by omega)
    have h2 := wholeN_pos z k (by omega)
    rw [sumK_succ _ _ (by omega)]
    omega
theorem wholeN_few : 10 * (wholeN z).length ≤ z.length := Nat.le_trans (sumK_ge z _ (Nat.le_refl _)) (trimN_le z)
theorem RowsAt.less {w : World} {base base' : Nat} {v : Value} {rs : List (List Int)} (h : RowsAt w base v rs) (hb : base' ≤ base) : RowsAt w base' v rs := by
  obtain ⟨vals, h1, h2⟩ := h
  refine ⟨vals, ⟨h1.1, ?_⟩, fun j hj => ?_⟩
  · rcases h1.2 with h' | ⟨g, cap, cur, e1, e2, e3⟩
    · exact .inl h'
    · exact .inr ⟨g, cap, cur, e1, by omega, e3⟩
  · obtain ⟨u, hu, ho⟩ := h2 j hj
    exact ⟨u, hu, ho.lessG hb⟩
theorem RowsAt.own {w : World} {base : Nat} {v : Value} {rs : List (List Int)} (h : RowsAt w base v rs) (g : Nat) (hg : v.ownBlock = some g) : base ≤ g ∧ g < w.heap.size ∧ ∃ cur, w.heap[g]? = some (.cells cur 31 (0, 0)) := by
  obtain ⟨vals, h1, h2⟩ := h
  rcases h1.2 with ⟨rfl, _⟩ | ⟨g', cap, cur, rfl, e2, e3, _⟩
  · cases hg
  · simp [Value.ownBlock] at hg
    subst hg
    exact ⟨e2, (Array.getElem?_eq_some_iff.1 e3).1, cur, e3⟩
/-- A row more. -/
theorem RowsAt.snoc {w w' : World} {base : Nat} {v' u : Value} {vals : List Value} {rs : List (List Int)} {r : List Int} (hvl : vals.length = rs.length) (h2 : ∀ j (hj : j < rs.length), ∃ u, vals[j]? = some u ∧ OwnB w base u rs[j]) (hu : OwnB w base u r) (hw : w'.ownsRow base 31 1 v' (rs.length + 1) (vals ++ [u]))
    (hk : ∀ g cur, base ≤ g → w.heap[g]? = some (.cells cur 5 (0, 0)) → w'.heap[g]? = w.heap[g]?) : RowsAt w' base v' (rs ++ [r]) := by
  refine ⟨vals ++ [u], by rw [List.length_append, List.length_singleton]; exact hw, fun j hj => ?_⟩
  rw [List.length_append, List.length_singleton] at hj
  by_cases hjj : j < rs.length
  · obtain ⟨u', hu', ho⟩ := h2 j hjj
    refine ⟨u', by rw [List.getElem?_append_left (by omega)]; exact hu', ?_⟩
    rw [List.getElem_append_left hjj]
    exact ho.keepC hk
  · obtain rfl : j = rs.length := by omega
    refine ⟨u, by rw [← hvl, List.getElem?_append_right (Nat.le_refl _)]; simp, ?_⟩
    rw [List.getElem_append_right (Nat.le_refl _)]
    simp only [Nat.sub_self, List.getElem_cons_zero]
    exact hu.keepC hk
set_option maxHeartbeats 2000000 in
theorem records_in (hD : DiskAt w base D v z s) (hKT : S.KTab w) :
    CallsIn Fence.wide 3 Tryd.prog 16 #[.pointer (some ⟨D, 0, none⟩)] w fun e w' => ∃ v', e = .returned v' ∧ RowsAt w' w.heap.size v' (recsL z) ∧ Below w.heap.size w w' := by
  obtain ⟨x, c, rfl, hb, hx⟩ := hD.buf.bytes
  have hx : TopA x := hx
  have hz := hD.isb
  have hzl := hD.len
  have c0 : (w.alloc (.cells #[.slice none 0 0] 41)).cell? ⟨D, 0, none⟩ = some (.slice x z.length c) := (((Below.refl w.heap.size w).alloc (Nat.le_refl _) _).cell (p := ⟨D, 0, none⟩) hD.box.lt).trans (hD.box.cell 0)
  have HZ : Veil (z.length ≤ 65536) := ⟨hzl⟩
  refine callsIn_of_wp_marks Tryd.func16 rfl trivial ?_ rfl
  simp only [Tryd.ntmps16, List.size_toArray, List.length_cons, List.length_nil, Nat.reduceAdd, Nat.reduceSub, Array.replicate_succ, Array.replicate_zero, List.push_toArray, List.append_toArray, List.nil_append, List.cons_append]
  gi_wp2_with (refine ⟨trivial, ?_⟩; gi_at_call 31; refine (callsIn_wide.2 (whole_any _ _ _ _)).mono ?_; rintro e w3 ⟨rfl, rfl⟩)
  have hw1 : Below w.heap.size w ((w.alloc (.cells #[.slice none 0 0] 41)).alloc (.cells #[.slice x z.length c] 31)) := ((Below.refl _ _).alloc (Nat.le_refl _) _).alloc (by simp) _
  have hBn : ((w.alloc (.cells #[.slice none 0 0] 41)).alloc (.cells #[.slice x z.length c] 31)).cell? ⟨w.heap.size + 1, 0, none⟩ = some (.slice x z.length c) := by
    have := (CellsD.new (w.alloc (.cells #[.slice none 0 0] 41)) 31 [.slice x z.length c]).cell 0
    rw [World.size_alloc] at this
    exact this
  have hBl : Boxed ((w.alloc (.cells #[.slice none 0 0] 41)).alloc (.cells #[.slice x z.length c] 31)) w.heap.size 41 (.slice none 0 0) := (Boxed.new w 41 (.slice none 0 0)).alloc _
  have hsz : ((w.alloc (.cells #[.slice none 0 0] 41)).alloc (.cells #[.slice x z.length c] 31)).heap.size = w.heap.size + 2 := by simp
  obtain ⟨W1, hW1⟩ : ∃ q, (w.alloc (.cells #[.slice none 0 0] 41)).alloc (.cells #[.slice x z.length c] 31) = q := ⟨_, rfl⟩
  rw [hW1] at hw1 hBn hBl hsz ⊢
  clear hW1 c0
  refine wpIn_rangeFunc_ownF rfl (by omega) (gf := 35) (lb := #[.pointer (some ⟨w.heap.size + 1, 0, none⟩)]) rfl trivial (enters_of Tryd.func35 (by kernel_rfl) rfl)
    (encs := fun i : Fin (wholeN z).length => #[recV x z i.1]) (Kp := KeepR (w.heap.size + 1) w.heap.size) (S := fun ys => ys = List.finRange (wholeN z).length) (Sp := fun pre => pre <+: List.finRange (wholeN z).length) (N := (wholeN z).length) (w0 := W1)
    (fun l J Jx W hW hAJ _ hY h0 => whole1_in (3 - 1) l (w.heap.size + 1) x c z w hx hb hz hzl hKT J Jx W hAJ hY (hw1.trans (hW.mono (by omega))) ((hW.cell (p := ⟨w.heap.size + 1, 0, none⟩) (by show w.heap.size + 1 < W1.heap.size; omega)).trans hBn) h0)
    KeepR.trans (fun W l o o' hl ho _ _ => KeepR.putObj W l o' (by omega) (by omega) (Array.getElem?_eq_some_iff.1 ho).1) (Below.refl _ _) (fun _ => rfl)
    (fun pre W => (∃ u, Boxed W w.heap.size 41 u ∧ RowsAt W (w.heap.size + 2) u (pre.map fun i => dataK z i.1)) ∧ Below w.heap.size w W ∧ w.heap.size + 2 ≤ W.heap.size)
    (fun _ _ _ => False)
    (fun pre A B row hI hg hr => ?own)
    (fun _ _ _ _ _ hs _ _ => hs)
    ⟨⟨_, hBl, RowsAt.nil _ _⟩, hw1, by omega⟩
    (fun i => { tmps := #[.pointer (some ⟨D, 0, none⟩), undef, .slice none 0 0, .pointer (some ⟨w.heap.size, 0, none⟩), recV x z i.1, .pointer (some ⟨D, 0, none⟩), .bool false, .pointer (some ⟨D, 0, none⟩), .pointer (some ⟨D, 0, none⟩), .pointer (some ⟨D, 0, none⟩), .slice x z.length c, .func (.func 35) #[] #[.pointer (some ⟨w.heap.size + 1, 0, none⟩)], recV x z i.1, undef, undef, undef, undef, undef, undef, undef], defers := [] }) ?assign ?body ?done ?stop
  case own =>
    obtain ⟨⟨u, h1, h2⟩, h3, h4⟩ := hI
    have hne : ∀ g cur t fr, A.heap[g]? = some (.cells cur t fr) → some g ≠ row := fun g cur t fr hc e => by
      obtain ⟨_, o, ho, hk⟩ := hr g e.symm
      rw [hc] at ho
      cases ho
      cases hk
    refine ⟨⟨u, h1.kept hg (hne _ _ _ _ h1), h2.keep fun g cur t _ _ hc => hg.block g (Array.getElem?_eq_some_iff.1 hc).1 (hne _ _ _ _ hc)⟩, h3.grown hg (by omega) (fun k hk => ?_), Nat.le_trans h4 hg.size⟩
    have := (hr k hk).1
    omega
  case assign =>
    intro l i W K hK
    gi_wp2
    exact hK
  case body =>
    rintro l pre i W ⟨⟨u, hu, hrs⟩, hB, hs2⟩ hpre
    have hfew := wholeN_few z
    have hzl2 := HZ.out
    obtain ⟨y, n, hn, hcl, hy⟩ := recV_cut z w x c hx hb i.1 i.2
    obtain ⟨V, hV⟩ : ∃ q, recV x z i.1 = q := ⟨_, rfl⟩
    rw [hV] at hcl ⊢
    clear hV
    have hcell : W.drew.cell? ⟨w.heap.size, 0, none⟩ = some u := hu.cell
    have hcn := sclone_any y n n (dataK z i.1) W.drew ((hy.below hB).below (Below.refl _ _).drew) (by have := HZ.out; omega)
    have hWd : Below w.heap.size w W.drew := hB.drew
    obtain ⟨iw, hiw, hwz, hws, hwb⟩ := info_parts infoSlD
    refine wpIn_block ?_
    refine wpR_gate (fun w' => w'.cell? ⟨w.heap.size, 0, none⟩ = some u) 5 (by kernel_rfl) (by rintro ⟨a, w', h⟩; exact h) (by kernel_rfl) ?_
    have hS : (fun w' : World => w'.cell? ⟨w.heap.size, 0, none⟩ = some u) W.drew := hcell
    refine wpAnyG_read (i := 0) (v := ?_) rfl (by kernel_rfl) (by kernel_rfl) (by kernel_rfl) (fun _ _ _ h => h) (by kernel_rfl) (by kernel_rfl) (by kernel_rfl) hS (by kernel_rfl) ?_ ?_
    rotate_left
    · intro wx hSw; go_split_ands; go_simp; try with_reducible rfl
    simp only [Act.put, List.getElem_toArray, List.getElem_cons_succ, List.getElem_cons_zero, List.setIfInBounds_toArray, List.set_cons_zero, List.set_cons_succ]
    refine wpAnyG_any (i := 1) (v := ?_) rfl (by kernel_rfl) (by kernel_rfl) (by kernel_rfl) (fun _ _ _ h => h) (by kernel_rfl) (fun _ => hS) (by kernel_rfl) ?_ ?_
    rotate_left
    · intro _; go_simp; try with_reducible rfl
    simp only [Act.put, List.getElem_toArray, List.getElem_cons_succ, List.getElem_cons_zero, List.setIfInBounds_toArray, List.set_cons_zero, List.set_cons_succ]
    refine wpAnyG_any (i := 2) (v := .slice y n n) rfl (by kernel_rfl) (by kernel_rfl) (by kernel_rfl) (fun _ _ _ h => h) (by kernel_rfl) (fun _ => hS) (by kernel_rfl) ?_ ?_
    · intro _; go_simp
    simp only [Act.put, List.getElem_toArray, List.getElem_cons_succ, List.getElem_cons_zero, List.setIfInBounds_toArray, List.set_cons_zero, List.set_cons_succ]
    refine wpAnyG_one (i := 3) rfl (by kernel_rfl) (by kernel_rfl) (fun K hK => ?_)
    refine wpx_call _ _ (by kernel_rfl) (hcn.mono ?_)
    rintro e W2 ⟨u2, rfl, ho2, hb2⟩
    refine ⟨_, rfl, ?_⟩
    have hs2d : w.heap.size + 2 ≤ W.drew.heap.size := hs2
    have hu2 : Boxed W2 w.heap.size 41 u := (hb2.block _ (by omega)).trans hu
    have hrs2 : RowsAt W2 (w.heap.size + 2) u (pre.map fun i => dataK z i.1) := RowsAt.far (w := W.drew) hrs hb2
    have hB2 := hWd.trans (hb2.mono hWd.size)
    have hs22 : w.heap.size + 2 ≤ W2.heap.size := Nat.le_trans hs2d hb2.size
    replace ho2 := ho2.lessG hs2d
    replace hS : (fun w' : World => w'.cell? ⟨w.heap.size, 0, none⟩ = some u) W2 := hu2.cell
    obtain ⟨x2, n2, c2, rfl, hn2⟩ := ho2.isSlice
    refine hK.out _ _ (fun _ => hS) ?_
    clear hK K
    try simp only [Act.put, List.getElem_toArray, List.getElem_cons_succ, List.getElem_cons_zero, List.setIfInBounds_toArray, List.set_cons_zero, List.set_cons_succ]
    refine wpAnyG_one (i := 4) rfl (by kernel_rfl) (by kernel_rfl) (fun K hK => ?_)
    refine wp_buildSlice 41 31 1 _ rfl #[.slice x2 n2 c2] iw _ Tryd.underlying41 hiw hwz (by rw [hws]; decide) (by rw [hws]; decide) (by rw [hws]; kernel_rfl) ?_
    have hb3 : Below W2.heap.size W2 (W2.alloc (.cells #[.slice x2 n2 c2] 31)) := (Below.refl _ _).alloc (Nat.le_refl _) _
    have hnew := (CellsD.new W2 31 [.slice x2 n2 c2]).cell 0
    have hu3 : Boxed (W2.alloc (.cells #[.slice x2 n2 c2] 31)) w.heap.size 41 u := hu2.alloc _
    have hrs3 := hrs2.far hb3
    have ho3 := ho2.keepC (w' := W2.alloc (.cells #[.slice x2 n2 c2] 31)) fun g cur _ hc => hb3.block g (Array.getElem?_eq_some_iff.1 hc).1
    have hB3 := hB2.trans (hb3.mono hB2.size)
    have hs3 : w.heap.size + 2 ≤ (W2.alloc (.cells #[.slice x2 n2 c2] 31)).heap.size := Nat.le_trans hs22 hb3.size
    replace hS : (fun w' : World => w'.cell? ⟨w.heap.size, 0, none⟩ = some u) (W2.alloc (.cells #[.slice x2 n2 c2] 31)) := hu3.cell
    obtain ⟨g3, hg3⟩ : ∃ q, W2.heap.size = q := ⟨_, rfl⟩
    obtain ⟨W3, hW3⟩ : ∃ q, W2.alloc (.cells #[.slice x2 n2 c2] 31) = q := ⟨_, rfl⟩
    have hK03 : KeepsOthers W W3 := by rw [← hW3]; exact ((KeepsOthers.drew W).trans (S.keepsOthers_of_below hb2)).trans (KeepsOthers.alloc _ _)
    have hKR3 : KeepR (w.heap.size + 1) w.heap.size W W3 := by
      rw [← hW3]
      exact ⟨(hb3.block _ (by omega)).trans (hb2.block _ (by omega)), ((Below.refl _ W).drew.trans (hb2.mono (by omega))).trans (hb3.mono (by omega))⟩
    refine hK.out _ _ (fun _ => hS) ?_
    clear hK K
    try simp only [Act.put, List.getElem_toArray, List.getElem_cons_succ, List.getElem_cons_zero, List.setIfInBounds_toArray, List.set_cons_zero, List.set_cons_succ]
    rw [hW3] at hnew hu3 hrs3 ho3 hB3 hs3 hS ⊢
    rw [hg3] at hnew ⊢
    clear hW3 hg3 hb3 hu2 hrs2 hB2 hb2
    refine wpAnyG_one (i := 5) rfl (by kernel_rfl) (by kernel_rfl) (fun K hK => ?_)
    obtain ⟨vals, hv1, hv2⟩ := id hrs3
    refine wp_append_own W3 _ _ 41 rfl (w.heap.size + 2) 31 iw _ 1 24 Tryd.underlying41 hiw hwz hws hwb rfl (by decide) u _ vals rfl hv1 ⟨g3, 0, none⟩ 1 1 [.slice x2 n2 c2] rfl rfl (fun j u' hu' => ?_) (by simp [Value.oneCell']) ?_ ?_ (by omega) ?_
    · match j, hu' with
      | 0, hu' => rw [Addr.add_mid']; exact hnew.trans hu'
      | j + 1, hu' => simp at hu'
    · rw [List.length_map]; simp [maxLen]; omega
    · rw [List.length_map]; omega
    intro u4 W4 ho4 hg4 _
    have hnu : ∀ g, g < w.heap.size + 2 → some g ≠ u.ownBlock := fun g hg e => by have := (hrs3.own g e.symm).1; omega
    have hu4 : Boxed W4 w.heap.size 41 u := hu3.kept hg4 (hnu _ (by omega))
    have hvl : vals.length = (pre.map fun i => dataK z i.1).length := by have := hv1.1; rwa [Nat.mul_one] at this
    obtain ⟨g4, c4, rfl⟩ := ownsRow_succ ho4
    have hK04 : KeepsOthers W W4 := hK03.trans (KeepsOthers.of_grownBy hg4 fun j o e ho => by
      obtain ⟨_, _, cur, hc⟩ := hrs3.own j e
      rw [hc] at ho; cases ho; rfl)
    have hKR4 : KeepR (w.heap.size + 1) w.heap.size W W4 := hKR3.trans ⟨hg4.block _ (by omega) (hnu _ (by omega)), (Below.refl _ _).grown hg4 (by omega) (fun k hk => by have := (hrs3.own k hk).1; omega)⟩
    have hB4 : Below w.heap.size w W4 := hB3.grown hg4 (by omega) (fun k hk => by have := (hrs3.own k hk).1; omega)
    have hkeep : ∀ g cur, w.heap.size + 2 ≤ g → W3.heap[g]? = some (.cells cur 5 (0, 0)) → W4.heap[g]? = W3.heap[g]? := fun g cur _ hc => hg4.block g (Array.getElem?_eq_some_iff.1 hc).1 (fun e => by
      obtain ⟨_, _, cur', hc'⟩ := hrs3.own g e.symm
      rw [hc] at hc'
      injection hc' with hc'
      injection hc' with _ e2 _
      exact absurd e2 (by decide))
    have hs4 : w.heap.size + 2 ≤ W4.heap.size := Nat.le_trans hs3 hg4.size
    have hR4 := RowsAt.snoc (w' := W4) hvl hv2 ho3 ho4 hkeep
    have hcl4 := hu4.cell
    have hfz4 := hu4.frozen
    clear hkeep hK03 hKR3 hB3 hg4 hv1 hv2 ho3 ho4 hrs3 hu3 hnew hcl hcn hS
    refine hK.out _ _ (fun h => absurd (show true = false from h) (by decide)) ?_
    clear hK K
    try simp only [Act.put, List.getElem_toArray, List.getElem_cons_succ, List.getElem_cons_zero, List.setIfInBounds_toArray, List.set_cons_zero, List.set_cons_succ]
    refine wpAnyG_one (i := 6) rfl (by kernel_rfl) (by kernel_rfl) (fun K hK => ?_)
    go_simp
    refine hK.out _ _ (fun h => absurd (show true = false from h) (by decide)) ?_
    clear hK K
    try simp only [Act.put, List.getElem_toArray, List.getElem_cons_succ, List.getElem_cons_zero, List.setIfInBounds_toArray, List.set_cons_zero, List.set_cons_succ]
    refine wpAnyG_done (by kernel_rfl) ?_ _
    rw [List.length_map] at hR4
    refine ⟨hK04.trans (KeepsOthers.setCell _ _ _), hKR4.trans ⟨Below.heap_setCell _ _ _ _ (by show w.heap.size + 1 ≠ w.heap.size; omega), (Below.refl _ W4).setCell (p := ⟨w.heap.size, 0, none⟩) (Nat.le_refl _) _⟩, ⟨_, hu4.set _, ?_⟩, hB4.setCell (p := ⟨w.heap.size, 0, none⟩) (Nat.le_refl _) _, by simpa [World.setCell] using hs4⟩
    rw [List.map_append]
    exact hR4.keep fun g _ _ hg _ _ => Below.heap_setCell _ _ _ g (by show g ≠ w.heap.size; omega)
  case done =>
    rintro E ys W hE rfl ⟨⟨u, hu, hrs⟩, hB, hs2⟩ hK
    have hcu := hu.cell
    have hEl : E < W.heap.size := (Array.getElem?_eq_some_iff.1 hK).1
    gi_wp2
    have hR : RowsAt (W.putObj E (.deferred none)) w.heap.size u (recsL z) := by
      have e : (List.finRange (wholeN z).length).map (fun i => dataK z i.1) = recsL z := by
        unfold recsL
        apply List.ext_getElem <;> simp
      rw [e] at hrs
      refine (hrs.less (by omega)).keep fun g cur t _ _ hc => World.putObj_heap_other fun e => ?_
      subst e
      rw [hK] at hc
      cases hc
    refine ⟨by simp, .inl ⟨_, _, rfl, run_takeDeferred hK, ?_⟩⟩
    exact ⟨_, results_tmp (Tryd.results16) _ _ _, _, rfl, hR, hB.grown (grownBy_putObj' W E _) (by omega) (fun k hk => by cases hk; omega)⟩
  case stop =>
    rintro E c' pre W _ _ h _
    exact h.elim
/-- The data of the whole records, each in a list of its own. -/
theorem records_any (hD : DiskAt w base D v z s) (hKT : S.KTab w) :
    Calls Tryd.prog 16 #[.pointer (some ⟨D, 0, none⟩)] w fun e w' => ∃ v', e = .returned v' ∧ RowsAt w' w.heap.size v' (recsL z) ∧ Below w.heap.size w w' := callsIn_wide.1 (records_in base D v z s w hD hKT)
end
end Go.Proofs.YtknomnnbebhijabDoor
