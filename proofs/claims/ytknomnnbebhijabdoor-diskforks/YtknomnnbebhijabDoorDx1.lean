/- disk: the reference's 'Write', 'Power'. -/
import Derived.Test.YtknomnnbebhijabDoorDx0
namespace Go.Proofs.YtknomnnbebhijabDoor
open Go.RowKit Go.Shelf
set_option maxRecDepth 20000
set_option linter.unusedSimpArgs false

section
variable (base R : Nat) (v : Value) (z : List Int) (s : Nat) (w : World)
theorem rWrite_long (x : Option Addr) (len cap : Nat) (hl : 8192 < len) :
    Calls Tryd.prog 21 #[.pointer (some ⟨R, 0, none⟩), .slice x len cap] w fun e w' => e = .returned (.int .i64 2) ∧ w' = w := by
  have hl' : (8192 : Int) < (len : Int) := by omega
  go_enter Tryd.func21, Tryd.ntmps21
  go_wp2
  go_ret
  exact ⟨rfl, rfl⟩
theorem rWrite_full (hD : RefAt w base R v z s) (x : Option Addr) (len cap : Nat) (hl : len ≤ 8192) (hf : 65536 < z.length + 10 + len) :
    Calls Tryd.prog 21 #[.pointer (some ⟨R, 0, none⟩), .slice x len cap] w fun e w' => e = .returned (.int .i64 10) ∧ w' = w := by
  obtain ⟨y, c, rfl, hb, hy⟩ := hD.buf.bytes
  have c0 : w.cell? ⟨R, 0, none⟩ = some (.slice y z.length c) := hD.box.cell 0
  have hln := hD.len
  have hl' : ¬ (8192 : Int) < (len : Int) := by omega
  obtain ⟨zl, hzl⟩ : ∃ q, z.length = q := ⟨_, rfl⟩
  rw [hzl] at c0 hf hln
  have hf' : (65536 : Int) < (zl : Int) + 10 + (len : Int) := by omega
  clear hb hy hD hzl
  go_enter Tryd.func21, Tryd.ntmps21
  go_wp2
  go_ret
  exact ⟨rfl, rfl⟩
set_option maxHeartbeats 4000000 in
theorem rWrite_any (hD : RefAt w base R v z s) (x : Option Addr) (len cap : Nat) (b : List Int) (hbs : Bytes w x len cap b) (hbb : isB b) (hl : len ≤ 8192) (hf : z.length + 10 + len ≤ 65536) (hbase : base ≤ w.heap.size) :
    Calls Tryd.prog 21 #[.pointer (some ⟨R, 0, none⟩), .slice x len cap] w fun e w' => e = .returned (.int .i64 0) ∧ ∃ v', RefTo w w' base R v v' (z ++ recL b) s := by
  obtain ⟨y, c, rfl, hb, hy⟩ := hD.buf.bytes
  have c0 : w.cell? ⟨R, 0, none⟩ = some (.slice y z.length c) := hD.box.cell 0
  have hln := hD.len
  have hl' : ¬ (8192 : Int) < (len : Int) := by omega
  have hbl := hbs.len_eq
  have HBL := Veil.mk hbl
  have hRl := recL_length b
  have hRR : ∀ wx, Below w.heap.size w wx → Calls Tryd.prog 32 #[.slice x len cap] wx fun e w' => ∃ v, e = .returned v ∧ OwnB w' wx.heap.size v (recL b) ∧ Below wx.heap.size wx w' := fun wx hx => rRecord_any x len cap b wx (hbs.below hx) (by omega)
  rw [← hbl] at hRl
  obtain ⟨RB, hRB⟩ : ∃ q, recL b = q := ⟨_, rfl⟩
  rw [hRB] at hRR hRl
  have HRB := Veil.mk hRB
  obtain ⟨zl, hzl⟩ : ∃ q, z.length = q := ⟨_, rfl⟩
  have HZL := Veil.mk hzl
  have hDD := Veil.mk hD
  rw [hzl] at c0 hf hln hb hDD ⊢
  have hf' : ¬ (65536 : Int) < (zl : Int) + 10 + (len : Int) := by omega
  have hB1 : Below w.heap.size w (w.alloc (.cells #[] 5)) := (Below.refl _ _).alloc (Nat.le_refl _) _
  have hRlt := hD.box.lt
  have c01 : (w.alloc (.cells #[] 5)).cell? ⟨R, 0, none⟩ = some (.slice y zl c) := (hB1.cell (p := ⟨R, 0, none⟩) hRlt).trans c0
  have hE0 : OwnB (w.alloc (.cells #[] 5)) w.heap.size (.slice (some ⟨w.heap.size, 0, none⟩) 0 0) [] := OwnB.ofHolds (Holds.new w .u8 5 []) (Nat.le_refl _) (by simp)
  have hy1 := hb.below hB1
  clear hb hy hD hzl hbl hRB hbs
  go_enter Tryd.func21, Tryd.ntmps21
  go_upto_region 7 with fail
  go_wp2_with (first
    | (go_at_call 32; refine (hRR w1 hB2).mono ?_; rintro e w2 ⟨v2, rfl, ho2, hb2⟩; have ho1' := ho1.afarW hb2; have hB3 := hB2.trans (hb2.mono hB2.size); obtain ⟨x2, n2, c2, rfl, hn2⟩ := ho2.isSlice; have hbb2 := ho2.bytes.2; rw [hRl] at hn2; subst hn2; have c03 : w2.cell? ⟨R, 0, none⟩ = some (.slice y zl c) := (hB3.cell (p := ⟨R, 0, none⟩) hRlt).trans c0; have f03 : w2.frozen? ⟨R, 0, none⟩ = false := (hB3.frozen (p := ⟨R, 0, none⟩) hRlt).trans (hDD.out.box.frozen 0))
    | (at_builtin; refine wpList_app rfl _ _ rfl w.heap.size (.slice (some ⟨w.heap.size, 0, none⟩) 0 0) [] rfl hE0 y zl c z rfl hy1 (by simp; omega) (by simp) ?_; intro v1 w1 ho1 hg1; have hB2 := below_grown hB1 hE0 hg1 (by simp); clear hg1)
    | (at_builtin; refine wpList_app rfl _ _ rfl w.heap.size v1 ([] ++ z) rfl ho1' x2 (10 + len) c2 RB rfl hbb2 (by rw [List.nil_append]; have := HZL.out; omega) hB3.size ?_; intro v3 w3 ho3 hg3; have hB4 := below_grown hB3 ho1' hg3 hB3.size; have c04 : w3.cell? ⟨R, 0, none⟩ = some (.slice y zl c) := (hB4.cell (p := ⟨R, 0, none⟩) hRlt).trans c0; have f04 : w3.frozen? ⟨R, 0, none⟩ = false := (hB4.frozen (p := ⟨R, 0, none⟩) hRlt).trans (hDD.out.box.frozen 0); have HO3 := Veil.mk ho3; obtain ⟨x3, n3, c3, rfl, hn3⟩ := ho3.isSlice; clear hn3 ho3 hg3))
  go_ret
  have hD := hDD.out
  have ho3 := HO3.out
  rw [List.nil_append, ← HRB.out] at ho3
  have hne3 : ∀ g, (Value.slice x3 n3 c3).ownBlock = some g → w.heap.size ≤ g := fun g hg => ((LookAt.ofOwn ho3).own g hg).1
  refine ⟨rfl, .slice x3 n3 c3, ⟨(hD.box.congr (hB4.block R hRlt)).set 0 _, ((LookAt.ofOwn ho3).less hbase).congr fun g hg => Below.heap_setCell _ _ _ g (fun e => by have := hne3 g hg; have e' : g = R := e; omega), isB_append hD.isb (recL_in b hbb), ?_, ?_, hD.baseR⟩, (TurnD.of_below hB4).trans (TurnD.of_setCell (p := fun k => k = R) _ (a := ⟨R, 0, none⟩) rfl _), ?_⟩
  · rw [List.length_append, recL_length, HZL.out, ← HBL.out]; omega
  · rw [List.length_append]; have := hD.syn; omega
  · cases hq : (Value.slice x3 n3 c3).ownBlock with
    | none =>
      exfalso
      rcases LookAt.ofOwn ho3 with ⟨_, h0⟩ | ⟨g', c', cur', h1, _⟩
      · have := congrArg List.length h0
        rw [List.length_append, recL_length, List.length_nil] at this
        omega
      · rw [h1] at hq; cases hq
    | some g => exact .inr ⟨g, rfl, hne3 g hq⟩
theorem rPower_no (k : Int) (hk : k < 0) :
    Calls Tryd.prog 23 #[.pointer (some ⟨R, 0, none⟩), .int .i64 k] w fun e w' => e = .returned (.int .i64 2) ∧ w' = w := by
  go_enter Tryd.func23, Tryd.ntmps23
  go_wp2
  go_ret
  exact ⟨rfl, rfl⟩
set_option maxHeartbeats 4000000 in
theorem rPower_any (hD : RefAt w base R v z s) (k : Nat) (hkm : k ≤ 9223372036854775807) :
    Calls Tryd.prog 23 #[.pointer (some ⟨R, 0, none⟩), .int .i64 k] w fun e w' => e = .returned (.int .i64 0) ∧ ∃ v', RefTo w w' base R v v' (z.take (s + min k (z.length - s))) (s + min k (z.length - s)) := by
  obtain ⟨x, c, rfl, hb, hx⟩ := hD.buf.bytes
  have c0 : w.cell? ⟨R, 0, none⟩ = some (.slice x z.length c) := hD.box.cell 0
  have c1 : w.cell? ⟨R, 1, none⟩ = some (.int .i64 s) := hD.box.cell 1
  have f0 := hD.box.frozen 0
  have f1 := hD.box.frozen 1
  have hsy := hD.syn
  have hln := hD.len
  have hle := hb.le
  have hDD := Veil.mk hD
  obtain ⟨zl, hzl⟩ : ∃ q, z.length = q := ⟨_, rfl⟩
  have HZ := Veil.mk hzl
  rw [hzl] at c0 hsy hln hle hDD ⊢
  clear hb hD hzl
  have hneg : ¬ (k : Int) < 0 := by omega
  have hwr1 : IntKind.i64.wrap ((zl : Int) - (s : Int)) = (zl : Int) - (s : Int) := by rw [IntKind.wrap_i64]; omega
  by_cases hlt : k < zl - s
  · have hlti : (k : Int) < (zl : Int) - (s : Int) := by omega
    obtain ⟨m, hm⟩ : ∃ m, s + k = m := ⟨_, rfl⟩
    have hmz : m ≤ zl := by omega
    have hwr2 : IntKind.i64.wrap ((s : Int) + (k : Int)) = (m : Int) := by rw [IntKind.wrap_i64]; omega
    have hsl : ∀ wx, (Instr.slice 31 (.slice x zl c) none (some (.int .i64 (m : Int))) none).run Tryd.prog wx = .ok (.slice x m c) wx := fun wx => by
      have := run_cut_h wx x zl c m (by omega)
      rw [show subA x c 0 = x by unfold subA; split; rfl; exact TopA.zero hx] at this
      exact this
    have hmin : s + min k (zl - s) = m := by omega
    rw [hmin]
    clear hx hmin hm
    go_enter Tryd.func23, Tryd.ntmps23
    go_upto_region 5 with fail
    go_quiet ((fail))
    refine forget (p := fun y => Exit.then _ _ _ _ y) (fun X => X.heap = w.heap ∧ Below w.heap.size w X) ⟨by simp, below_drewN (Below.refl _ _) _⟩ ?_
    rintro X ⟨hXh, hX⟩
    go_upto_region 6 with fail
    obtain ⟨V, hV⟩ : ∃ q, X.drew = q := ⟨_, rfl⟩
    have hXV : Below w.heap.size w V := by rw [← hV]; exact hX.drew
    have hVh : V.heap = w.heap := by rw [← hV]; exact hXh
    have c0X : V.cell? ⟨R, 0, none⟩ = some (.slice x zl c) := (World.cell?_of_block (w := w) (w' := V) (a := ⟨R, 0, none⟩) (by rw [hVh])).trans c0
    have c1X : V.cell? ⟨R, 1, none⟩ = some (.int .i64 s) := (World.cell?_of_block (w := w) (w' := V) (a := ⟨R, 1, none⟩) (by rw [hVh])).trans c1
    have f0X : V.frozen? ⟨R, 0, none⟩ = false := (World.frozen?_of_block (w := w) (w' := V) (a := ⟨R, 0, none⟩) (by rw [hVh])).trans f0
    refine wp_region_gate (fun w' => w'.cell? ⟨R, 0, none⟩ = some (.slice x zl c) ∧ w'.cell? ⟨R, 1, none⟩ = some (.int .i64 s)) 14 (by kernel_rfl) ?_
    rw [hV]
    have hS : (fun w' : World => w'.cell? ⟨R, 0, none⟩ = some (.slice x zl c) ∧ w'.cell? ⟨R, 1, none⟩ = some (.int .i64 s)) V := ⟨c0X, c1X⟩
    clear hV hXh hVh hX
    refine wpAnyG_any (i := 0) (v := ?_) rfl (by kernel_rfl) (by kernel_rfl) (by kernel_rfl) (fun _ _ _ h => h) (by kernel_rfl) (fun _ => hS) (by kernel_rfl) ?_ ?_
    rotate_left
    · intro _; go_simp; try with_reducible rfl
    simp only [Act.put, List.getElem_toArray, List.getElem_cons_succ, List.getElem_cons_zero, List.setIfInBounds_toArray, List.set_cons_zero, List.set_cons_succ]
    refine wpAnyG_any (i := 1) (v := ?_) rfl (by kernel_rfl) (by kernel_rfl) (by kernel_rfl) (fun _ _ _ h => h) (by kernel_rfl) (fun _ => hS) (by kernel_rfl) ?_ ?_
    rotate_left
    · intro _; go_simp; try with_reducible rfl
    simp only [Act.put, List.getElem_toArray, List.getElem_cons_succ, List.getElem_cons_zero, List.setIfInBounds_toArray, List.set_cons_zero, List.set_cons_succ]
    refine wpAnyG_any (i := 2) (v := ?_) rfl (by kernel_rfl) (by kernel_rfl) (by kernel_rfl) (fun _ _ _ h => h) (by kernel_rfl) (fun _ => hS) (by kernel_rfl) ?_ ?_
    rotate_left
    · intro _; go_simp; try with_reducible rfl
    simp only [Act.put, List.getElem_toArray, List.getElem_cons_succ, List.getElem_cons_zero, List.setIfInBounds_toArray, List.set_cons_zero, List.set_cons_succ]
    refine wpAnyG_any (i := 3) (v := ?_) rfl (by kernel_rfl) (by kernel_rfl) (by kernel_rfl) (fun _ _ _ h => h) (by kernel_rfl) (fun _ => hS) (by kernel_rfl) ?_ ?_
    rotate_left
    · intro _; go_simp; try with_reducible rfl
    simp only [Act.put, List.getElem_toArray, List.getElem_cons_succ, List.getElem_cons_zero, List.setIfInBounds_toArray, List.set_cons_zero, List.set_cons_succ]
    refine wpAnyG_any (i := 5) (v := ?_) rfl (by kernel_rfl) (by kernel_rfl) (by kernel_rfl) (fun _ _ _ h => h) (by kernel_rfl) (fun _ => hS) (by kernel_rfl) ?_ ?_
    rotate_left
    · intro _; go_simp; try with_reducible rfl
    simp only [Act.put, List.getElem_toArray, List.getElem_cons_succ, List.getElem_cons_zero, List.setIfInBounds_toArray, List.set_cons_zero, List.set_cons_succ]
    refine wpAnyG_any (i := 6) (v := ?_) rfl (by kernel_rfl) (by kernel_rfl) (by kernel_rfl) (fun _ _ _ h => h) (by kernel_rfl) (fun _ => hS) (by kernel_rfl) ?_ ?_
    rotate_left
    · intro _; go_simp; try with_reducible rfl
    simp only [Act.put, List.getElem_toArray, List.getElem_cons_succ, List.getElem_cons_zero, List.setIfInBounds_toArray, List.set_cons_zero, List.set_cons_succ]
    refine wpAnyG_any (i := 7) (v := ?_) rfl (by kernel_rfl) (by kernel_rfl) (by kernel_rfl) (fun _ _ _ h => h) (by kernel_rfl) (fun _ => hS) (by kernel_rfl) ?_ ?_
    rotate_left
    · intro _; go_simp; try with_reducible rfl
    simp only [Act.put, List.getElem_toArray, List.getElem_cons_succ, List.getElem_cons_zero, List.setIfInBounds_toArray, List.set_cons_zero, List.set_cons_succ]
    refine wpAnyG_any (i := 9) (v := ?_) rfl (by kernel_rfl) (by kernel_rfl) (by kernel_rfl) (fun _ _ _ h => h) (by kernel_rfl) (fun _ => hS) (by kernel_rfl) ?_ ?_
    rotate_left
    · intro _; go_simp; try with_reducible rfl
    simp only [Act.put, List.getElem_toArray, List.getElem_cons_succ, List.getElem_cons_zero, List.setIfInBounds_toArray, List.set_cons_zero, List.set_cons_succ]
    refine wpAnyG_read (i := 4) (v := ?_) rfl (by kernel_rfl) (by kernel_rfl) (by kernel_rfl) (fun _ _ _ h => h) (by kernel_rfl) (by kernel_rfl) (by kernel_rfl) hS (by kernel_rfl) ?_ ?_
    rotate_left
    · intro wx hSw; go_split_ands; go_simp; try with_reducible rfl
    simp only [Act.put, List.getElem_toArray, List.getElem_cons_succ, List.getElem_cons_zero, List.setIfInBounds_toArray, List.set_cons_zero, List.set_cons_succ]
    refine wpAnyG_read (i := 8) (v := ?_) rfl (by kernel_rfl) (by kernel_rfl) (by kernel_rfl) (fun _ _ _ h => h) (by kernel_rfl) (by kernel_rfl) (by kernel_rfl) hS (by kernel_rfl) ?_ ?_
    rotate_left
    · intro wx hSw; go_split_ands; go_simp; try with_reducible rfl
    simp only [Act.put, List.getElem_toArray, List.getElem_cons_succ, List.getElem_cons_zero, List.setIfInBounds_toArray, List.set_cons_zero, List.set_cons_succ]
    refine wpAnyG_any (i := 10) (v := .int .i64 (m : Int)) rfl (by kernel_rfl) (by kernel_rfl) (by kernel_rfl) (fun _ _ _ h => h) (by kernel_rfl) (fun _ => hS) (by kernel_rfl) ?_ ?_
    · intro _; go_simp
    simp only [Act.put, List.getElem_toArray, List.getElem_cons_succ, List.getElem_cons_zero, List.setIfInBounds_toArray, List.set_cons_zero, List.set_cons_succ]
    refine wpAnyG_any (i := 11) (v := .slice x m c) rfl (by kernel_rfl) (by kernel_rfl) (by kernel_rfl) (fun _ _ _ h => h) (by kernel_rfl) (fun _ => hS) (by kernel_rfl) ?_ ?_
    · intro _; go_simp
    simp only [Act.put, List.getElem_toArray, List.getElem_cons_succ, List.getElem_cons_zero, List.setIfInBounds_toArray, List.set_cons_zero, List.set_cons_succ]
    refine wpAnyG_any (i := 12) (v := ?_) rfl (by kernel_rfl) (by kernel_rfl) (by kernel_rfl) (fun _ _ _ h => h) (by kernel_rfl) (fun _ => hS) (by kernel_rfl) ?_ ?_
    rotate_left
    · intro _; go_simp; try with_reducible rfl
    simp only [Act.put, List.getElem_toArray, List.getElem_cons_succ, List.getElem_cons_zero, List.setIfInBounds_toArray, List.set_cons_zero, List.set_cons_succ]
    refine wpAnyG_any (i := 13) (v := ?_) rfl (by kernel_rfl) (by kernel_rfl) (by kernel_rfl) (fun _ _ _ h => h) (by kernel_rfl) (fun _ => hS) (by kernel_rfl) ?_ ?_
    rotate_left
    · intro _; go_simp; try with_reducible rfl
    simp only [Act.put, List.getElem_toArray, List.getElem_cons_succ, List.getElem_cons_zero, List.setIfInBounds_toArray, List.set_cons_zero, List.set_cons_succ]
    refine wpAnyG_one (i := 14) rfl (by kernel_rfl) (by kernel_rfl) (fun K hK => ?_)
    go_simp
    refine hK.out _ _ (fun h => absurd (show true = false from h) (by decide)) ?_
    clear hK K
    try simp only [Act.put, List.getElem_toArray, List.getElem_cons_succ, List.getElem_cons_zero, List.setIfInBounds_toArray, List.set_cons_zero, List.set_cons_succ]
    refine wpAnyG_done (by kernel_rfl) ?_ _
    have hDX := hDD.out.far hXV
    have hne := hDD.out.ne
    have hbx := hDX.box.set 0 (.slice x m c)
    have d0 : (V.setCell ⟨R, 0, none⟩ (.slice x m c)).cell? ⟨R, 0, none⟩ = some (.slice x m c) := hbx.cell 0
    have d1 : (V.setCell ⟨R, 0, none⟩ (.slice x m c)).cell? ⟨R, 1, none⟩ = some (.int .i64 s) := hbx.cell 1
    have d2 := hbx.frozen 1
    have hT1 : TurnD (fun k => k = R) w (V.setCell ⟨R, 0, none⟩ (.slice x m c)) := (TurnD.of_below hXV).trans (TurnD.of_setCell (p := fun k => k = R) _ (a := ⟨R, 0, none⟩) rfl _)
    have HB : Veil (LookAt (V.setCell ⟨R, 0, none⟩ (.slice x m c)) base (.slice x m c) (z.take m)) := ⟨(hDX.buf.cut m (by have := HZ.out; omega)).congr fun g hg => Below.heap_setCell _ _ _ g (fun e => hne (by rw [← show g = R from e]; cases x <;> exact hg))⟩
    obtain ⟨Y, hY⟩ : ∃ q, V.setCell ⟨R, 0, none⟩ (.slice x m c) = q := ⟨_, rfl⟩
    rw [hY] at hbx d0 d1 d2 hT1 HB ⊢
    clear hY hS c0X c1X f0X hDX
    go_wp2
    go_ret
    have hD := hDD.out
    have hz := HZ.out
    refine ⟨rfl, .slice x m c, ⟨hbx.set 1 _, HB.out.congr fun g hg => Below.heap_setCell _ _ _ g (fun e => hne (by rw [← show g = R from e]; cases x <;> exact hg)), fun v hv => hD.isb v (List.mem_of_mem_take hv), by rw [List.length_take]; omega, by rw [List.length_take]; omega, hD.baseR⟩, hT1.trans (TurnD.of_setCell (p := fun k => k = R) _ (a := ⟨R, 1, none⟩) rfl _), .inl (by cases x <;> rfl)⟩
  · have hlti : ¬ (k : Int) < (zl : Int) - (s : Int) := by omega
    have hmin : s + min k (zl - s) = zl := by omega
    rw [hmin]
    clear hx hmin
    go_enter Tryd.func23, Tryd.ntmps23
    go_upto_region 5 with fail
    go_quiet ((fail))
    refine forget (p := fun y => Exit.then _ _ _ _ y) (fun X => X.heap = w.heap ∧ Below w.heap.size w X) ⟨by simp, below_drewN (Below.refl _ _) _⟩ ?_
    rintro X ⟨hXh, hX⟩
    have d0 : X.cell? ⟨R, 0, none⟩ = some (.slice x zl c) := (World.cell?_of_block (w := w) (w' := X) (a := ⟨R, 0, none⟩) (by rw [hXh])).trans c0
    have d1 : X.cell? ⟨R, 1, none⟩ = some (.int .i64 s) := (World.cell?_of_block (w := w) (w' := X) (a := ⟨R, 1, none⟩) (by rw [hXh])).trans c1
    have d2 : X.frozen? ⟨R, 1, none⟩ = false := (World.frozen?_of_block (w := w) (w' := X) (a := ⟨R, 1, none⟩) (by rw [hXh])).trans f1
    clear c0 c1 f0 f1
    go_wp2
    go_ret
    have hD := hDD.out.far hX
    have hne := hD.ne
    have hz := HZ.out
    refine ⟨rfl, .slice x zl c, ⟨hD.box.set 1 _, ?_, ?_, ?_, ?_, hD.baseR⟩, (TurnD.of_below hX).trans (TurnD.of_setCell (p := fun k => k = R) _ (a := ⟨R, 1, none⟩) rfl _), .inl rfl⟩ <;> rw [List.take_of_length_le (Nat.le_of_eq hz)]
    · exact hD.buf.congr fun g hg => Below.heap_setCell _ _ _ g (fun e => hne (by rw [← show g = R from e]; exact hg))
    · exact hD.isb
    · omega
    · omega
end
end Go.Proofs.YtknomnnbebhijabDoor
