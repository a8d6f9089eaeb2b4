/- Fr4 -/
import Derived.Test.YtnmjplngbleopaaF31
import Derived.Test.YtnmjplngbleopaaF13
namespace Go.Proofs.Ytnmjplngbleopaa
open Go.RowKit Go.Shelf
set_option maxRecDepth 20000
set_option linter.unusedSimpArgs false
structure BothT (w : World) (base R bc bn : Nat) (V : (Int × Int) × Bool → Value) (Q : Nat) (v : Value) (N : List Nd) : Prop where
  tree : TreeAt w base R bc bn N V
  ref : RefT w base Q v N
  ok : TreeOk N
  apart : ∀ k, treeP R bc bn V k → ¬ refP Q v k
  above : ∀ k, treeP R bc bn V k ∨ refP Q v k → base ≤ k
  low : base ≤ w.heap.size
theorem BothT.far {w w' : World} {base R bc bn Q : Nat} {V : (Int × Int) × Bool → Value} {v : Value} {N : List Nd} (h : BothT w base R bc bn V Q v N) (hb : Below w.heap.size w w') : BothT w' base R bc bn V Q v N := ⟨h.tree.far hb, h.ref.far hb, h.ok, h.apart, h.above, Nat.le_trans h.low hb.size⟩
theorem below_turn {p : Nat → Prop} {w w' : World} {base : Nat} (h : Turn p w w') (hp : ∀ k, p k → base ≤ k) (hl : base ≤ w.heap.size) : Below base w w' := ⟨h.os, h.tape, h.output, h.size, fun k hk => h.block k (by omega) (fun q => by have := hp k q; omega)⟩
theorem BothT.tree_to {w w' : World} {base R bc bn Q : Nat} {V V' : (Int × Int) × Bool → Value} {v : Value} {N N' : List Nd} (h : BothT w base R bc bn V Q v N) (_ : TreeAt w' base R bc bn N' V') (ht : TreeTo R bc bn V V' w w') : RefT w' base Q v N ∧ (∀ k, treeP R bc bn V' k → ¬ refP Q v k) ∧ (∀ k, treeP R bc bn V' k ∨ refP Q v k → base ≤ k) ∧ Below base w w' ∧ base ≤ w'.heap.size :=
  ⟨h.ref.congr fun k hk => ht.turn.block k (h.ref.blockLt k hk) (fun q => h.apart k q hk), fun k hk hq => by
    rcases ht.own k hk with r | r
    · exact h.apart k r hq
    · have := h.ref.blockLt k hq; omega, fun k hk => by
    rcases hk with q | q
    · rcases ht.own k q with r | r
      · exact h.above k (.inl r)
      · have := h.low; omega
    · exact h.above k (.inr q), below_turn ht.turn (fun k q => h.above k (.inl q)) h.low, Nat.le_trans h.low ht.turn.size⟩
theorem BothT.ref_to {w w' : World} {base R bc bn Q : Nat} {V : (Int × Int) × Bool → Value} {v v' : Value} {N' : List Nd} (hT : TreeAt w base R bc bn N' V) (hR : RefT w' base Q v' N') (hok : TreeOk N') (hap : ∀ k, treeP R bc bn V k → ¬ refP Q v k) (hab : ∀ k, treeP R bc bn V k ∨ refP Q v k → base ≤ k) (hlow : base ≤ w.heap.size) (ht : RefTo Q v v' w w') : BothT w' base R bc bn V Q v' N' ∧ Below base w w' :=
  ⟨⟨hT.congr fun k hk => ht.turn.block k (hT.blockLt k hk) (fun q => hap k hk q), hR, hok, fun k hk hq => by
    rcases ht.own k hq with r | r
    · exact hap k hk r
    · have := hT.blockLt k hk; omega, fun k hk => by
    rcases hk with q | q
    · exact hab k (.inl q)
    · rcases ht.own k q with r | r
      · exact hab k (.inr r)
      · omega, Nat.le_trans hlow ht.turn.size⟩, below_turn ht.turn (fun k q => hab k (.inr q)) hlow⟩
def Dd8.nd (d : Dd8) : Nd := ⟨d.id, (d.par, d.right), d.chr⟩
def doN (N : List Nd) (d : Dd8) : List Nd := if d.kind = 0 then insN N d.nd else if d.kind = 1 then delN N d.id else N
theorem doN_ok {N : List Nd} (h : TreeOk N) (d : Dd8) : TreeOk (doN N d) := by
  unfold doN
  split
  · exact h.ins _
  · split
    · exact h.del _
    · exact h
theorem doN_len (N : List Nd) (d : Dd8) : (doN N d).length ≤ N.length + 1 := by
  unfold doN
  split
  · exact insN_len
  · split
    · rw [delN_len]; omega
    · omega
set_option maxHeartbeats 8000000 in
theorem do8_any (base R bc bn : Nat) (V : (Int × Int) × Bool → Value) (Q : Nat) (v : Value) (N : List Nd) (D : Dd8) (hD : D.Ok) (hlen : N.length ≤ 900) (w : World) (hB : BothT w base R bc bn V Q v N) :
    Calls Try.prog 14 #[.pointer (some ⟨R, 0, none⟩), .pointer (some ⟨Q, 0, none⟩), .agg D.cells.toArray] w fun e w' => e = .returned (.bool true) ∧ ∃ V' v', BothT w' base R bc bn V' Q v' (doN N D) ∧ Below base w w' := by
  have hx0 := CellsAt.new w 34 D.cells
  have hb0 : Below w.heap.size w (w.alloc (.cells D.cells.toArray 34)) := (Below.refl _ _).alloc (Nat.le_refl _) _
  have HLOW := Veil.mk hB.low
  have HEND : Veil (∀ W, Below w.heap.size w W → D.kind ≠ 0 → D.kind ≠ 1 → ∃ V' v', BothT W base R bc bn V' Q v' (doN N D) ∧ Below base w W) := ⟨fun W hb h0 h1 => ⟨V, v, by unfold doN; rw [if_neg h0, if_neg h1]; exact hB.far hb, hb.mono hB.low⟩⟩
  have HI : Veil (∀ W, Below w.heap.size w W → Calls Try.prog 10 #[.pointer (some ⟨R, 0, none⟩), .agg (encF D.id).toArray, .agg (encF D.par).toArray, .bool D.right, .int .u8 D.chr] W fun e w' => e = .returned (.int .i64 (refI N D.nd)) ∧ ∃ V', TreeAt w' base R bc bn (insN N D.nd) V' ∧ TreeTo R bc bn V V' W w') := ⟨fun W hb => insT_any base R bc bn N V D.nd hD.id hD.par (by omega) W (hB.far hb).low (hB.far hb).tree⟩
  have HJ : Veil (∀ W, base ≤ W.heap.size → RefT W base Q v N → Calls Try.prog 23 #[.pointer (some ⟨Q, 0, none⟩), .agg (encF D.id).toArray, .agg (encF D.par).toArray, .bool D.right, .int .u8 D.chr] W fun e w' => e = .returned (.int .i64 (refI N D.nd)) ∧ ∃ v', RefT w' base Q v' (insN N D.nd) ∧ RefTo Q v v' W w') := ⟨fun W hb h => rinsT_any base Q v N D.nd hlen W hb h⟩
  have HD : Veil (∀ W, Below w.heap.size w W → Calls Try.prog 24 #[.pointer (some ⟨R, 0, none⟩), .agg (encF D.id).toArray] W fun e w' => e = .returned (.int .i64 (if (chrN N D.id).isSome = true then 0 else 7)) ∧ TreeAt w' base R bc bn (delN N D.id) V ∧ TreeTo R bc bn V V W w') := ⟨fun W hb => delT_any base R bc bn N V D.id hD.id (by omega) W (hB.far hb).tree⟩
  have HE : Veil (∀ W, RefT W base Q v N → Calls Try.prog 25 #[.pointer (some ⟨Q, 0, none⟩), .agg (encF D.id).toArray] W fun e w' => e = .returned (.int .i64 (if (chrN N D.id).isSome = true then 0 else 7)) ∧ RefT w' base Q v (delN N D.id) ∧ RefTo Q v v W w') := ⟨fun W h => rdelT_any base Q v N D.id hB.ok.rooted.nodup W h⟩
  have HB := Veil.mk hB
  have HO0 : Veil (D.kind = 0 → doN N D = insN N D.nd) := ⟨fun h => by unfold doN; rw [if_pos h]⟩
  have HO1 : Veil (D.kind = 1 → doN N D = delN N D.id) := ⟨fun h => by unfold doN; rw [if_neg (by omega), if_pos h]⟩
  generalize refI N D.nd = RN at HI HJ
  generalize (if (chrN N D.id).isSome = true then (0 : Int) else 7) = DN at HD HE
  have HOK := Veil.mk (fun h : D.kind = 0 => hB.ok.ins D.nd)
  have HOD := Veil.mk (fun h : D.kind = 1 => hB.ok.del D.id)
  generalize doN N D = DO at HEND HO0 HO1 ⊢
  have HP : Veil (∀ W, CellsAt W w.heap.size 34 D.cells → W.cell? ⟨w.heap.size, 0, none⟩ = some (.int .i64 D.kind) ∧ W.rangeAt w.heap.size 1 (encF D.id) ∧ W.rangeAt w.heap.size 3 (encF D.par) ∧ W.cell? ⟨w.heap.size, 5, none⟩ = some (.bool D.right) ∧ W.cell? ⟨w.heap.size, 6, none⟩ = some (.int .u8 D.chr)) := ⟨fun W h => ⟨h.cell 0, h.range 1 2, h.range 3 2, h.cell 5, h.cell 6⟩⟩
  have HNT : Veil (∀ k, treeP R bc bn V k → k ≠ w.heap.size) := ⟨fun k hk => by have := hB.tree.blockLt k hk; omega⟩
  have HNR : Veil (∀ k, refP Q v k → k ≠ w.heap.size) := ⟨fun k hk => by have := hB.ref.blockLt k hk; omega⟩
  have uD := Try.underlying32
  have iI : (Try.prog.info? 32).map (·.size) = some (encF D.id).length := sizeDot
  have iP : (Try.prog.info? 32).map (·.size) = some (encF D.par).length := sizeDot
  obtain ⟨DC, hDC⟩ : ∃ q, D.cells = q := ⟨_, rfl⟩
  rw [hDC] at hx0 hb0 HP ⊢
  generalize D.nd = nd at *
  generalize encF D.id = DI at HI HJ HD HE HP iI
  generalize encF D.par = DP at HI HJ HP iP
  generalize D.kind = kd at *
  generalize D.right = rg at HI HJ HP
  generalize D.chr = ch at HI HJ HP
  clear hDC hB hD hlen
  go_enter Try.func14, Try.ntmps14
  go_upto_region 1 with fail
  refine forget (p := fun y => Code.wp _ _ _ _ y) (fun W => Below w.heap.size w W ∧ CellsAt W w.heap.size 34 DC) ⟨hb0, hx0⟩ ?_
  clear hb0 hx0
  rintro W ⟨hb, hx⟩
  obtain ⟨c0, r1, r3, c5, c6⟩ := HP.out W hx
  by_cases h0 : kd = 0
  · subst h0
    go_upto_region 3 with fail
    have HTT : Veil (∀ W', CellsAt W' w.heap.size 34 DC → (fun w' : World => w'.rangeAt w.heap.size 1 DI ∧ w'.rangeAt w.heap.size 3 DP ∧ w'.cell? ⟨w.heap.size, 5, none⟩ = some (.bool rg) ∧ w'.cell? ⟨w.heap.size, 6, none⟩ = some (.int .u8 ch)) W') := ⟨fun W' h => (HP.out W' h).2⟩
    have hT := HTT.out W.drew (hx.congr rfl)
    have hS : (fun _ : World => True) W.drew := trivial
    have hi := HI.out W.drew hb.drew
    have HBD := Veil.mk (HB.out.far hb.drew)
    have HXD := Veil.mk (hx.congr (w' := W.drew) rfl)
    refine wp_region_gateT (fun w' : World => w'.rangeAt w.heap.size 1 DI ∧ w'.rangeAt w.heap.size 3 DP ∧ w'.cell? ⟨w.heap.size, 5, none⟩ = some (.bool rg) ∧ w'.cell? ⟨w.heap.size, 6, none⟩ = some (.int .u8 ch)) (fun _ => True) 99 (by kernel_rfl) ?_
    clear c0 r1 r3 c5 c6
    refine wpAnyT_held (i := 0) (v := ?_) rfl (by kernel_rfl) (by kernel_rfl) (by kernel_rfl) (fun _ _ _ h => h) (by kernel_rfl) hT (fun _ => hS) (by kernel_rfl) ?_ ?_
    rotate_left
    · intro wx hSw; go_split_ands; go_simp; try with_reducible rfl
    simp only [Act.put, List.getElem_toArray, List.getElem_cons_succ, List.getElem_cons_zero, List.setIfInBounds_toArray, List.set_cons_zero, List.set_cons_succ]
    refine wpAnyT_held (i := 1) (v := ?_) rfl (by kernel_rfl) (by kernel_rfl) (by kernel_rfl) (fun _ _ _ h => h) (by kernel_rfl) hT (fun _ => hS) (by kernel_rfl) ?_ ?_
    rotate_left
    · intro wx hSw; go_split_ands; go_simp; try with_reducible rfl
    simp only [Act.put, List.getElem_toArray, List.getElem_cons_succ, List.getElem_cons_zero, List.setIfInBounds_toArray, List.set_cons_zero, List.set_cons_succ]
    refine wpAnyT_load (i := 2) (dst := some 13) (ty := 32) (x := .tmp 12) (b := w.heap.size) (o := (1)) (cs := DI) (by kernel_rfl) (by kernel_rfl) (by kernel_rfl) (by kernel_rfl) (by kernel_rfl) (fun _ _ _ h => h) (by kernel_rfl) hT (fun _ => hS) (by kernel_rfl) (fun _ h => h.1) uD rfl iI ?_
    simp only [Act.put, List.getElem_toArray, List.getElem_cons_succ, List.getElem_cons_zero, List.setIfInBounds_toArray, List.set_cons_zero, List.set_cons_succ]
    refine wpAnyT_held (i := 3) (v := ?_) rfl (by kernel_rfl) (by kernel_rfl) (by kernel_rfl) (fun _ _ _ h => h) (by kernel_rfl) hT (fun _ => hS) (by kernel_rfl) ?_ ?_
    rotate_left
    · intro wx hSw; go_split_ands; go_simp; try with_reducible rfl
    simp only [Act.put, List.getElem_toArray, List.getElem_cons_succ, List.getElem_cons_zero, List.setIfInBounds_toArray, List.set_cons_zero, List.set_cons_succ]
    refine wpAnyT_load (i := 4) (dst := some 15) (ty := 32) (x := .tmp 14) (b := w.heap.size) (o := (3)) (cs := DP) (by kernel_rfl) (by kernel_rfl) (by kernel_rfl) (by kernel_rfl) (by kernel_rfl) (fun _ _ _ h => h) (by kernel_rfl) hT (fun _ => hS) (by kernel_rfl) (fun _ h => h.2.1) uD rfl iP ?_
    simp only [Act.put, List.getElem_toArray, List.getElem_cons_succ, List.getElem_cons_zero, List.setIfInBounds_toArray, List.set_cons_zero, List.set_cons_succ]
    refine wpAnyT_held (i := 5) (v := ?_) rfl (by kernel_rfl) (by kernel_rfl) (by kernel_rfl) (fun _ _ _ h => h) (by kernel_rfl) hT (fun _ => hS) (by kernel_rfl) ?_ ?_
    rotate_left
    · intro wx hSw; go_split_ands; go_simp; try with_reducible rfl
    simp only [Act.put, List.getElem_toArray, List.getElem_cons_succ, List.getElem_cons_zero, List.setIfInBounds_toArray, List.set_cons_zero, List.set_cons_succ]
    refine wpAnyT_held (i := 6) (v := ?_) rfl (by kernel_rfl) (by kernel_rfl) (by kernel_rfl) (fun _ _ _ h => h) (by kernel_rfl) hT (fun _ => hS) (by kernel_rfl) ?_ ?_
    rotate_left
    · intro wx hSw; go_split_ands; go_simp; try with_reducible rfl
    simp only [Act.put, List.getElem_toArray, List.getElem_cons_succ, List.getElem_cons_zero, List.setIfInBounds_toArray, List.set_cons_zero, List.set_cons_succ]
    refine wpAnyT_held (i := 7) (v := ?_) rfl (by kernel_rfl) (by kernel_rfl) (by kernel_rfl) (fun _ _ _ h => h) (by kernel_rfl) hT (fun _ => hS) (by kernel_rfl) ?_ ?_
    rotate_left
    · intro wx hSw; go_split_ands; go_simp; try with_reducible rfl
    simp only [Act.put, List.getElem_toArray, List.getElem_cons_succ, List.getElem_cons_zero, List.setIfInBounds_toArray, List.set_cons_zero, List.set_cons_succ]
    refine wpAnyT_held (i := 8) (v := ?_) rfl (by kernel_rfl) (by kernel_rfl) (by kernel_rfl) (fun _ _ _ h => h) (by kernel_rfl) hT (fun _ => hS) (by kernel_rfl) ?_ ?_
    rotate_left
    · intro wx hSw; go_split_ands; go_simp; try with_reducible rfl
    simp only [Act.put, List.getElem_toArray, List.getElem_cons_succ, List.getElem_cons_zero, List.setIfInBounds_toArray, List.set_cons_zero, List.set_cons_succ]
    refine wpAnyT_held (i := 10) (v := ?_) rfl (by kernel_rfl) (by kernel_rfl) (by kernel_rfl) (fun _ _ _ h => h) (by kernel_rfl) hT (fun _ => hS) (by kernel_rfl) ?_ ?_
    rotate_left
    · intro wx hSw; go_split_ands; go_simp; try with_reducible rfl
    simp only [Act.put, List.getElem_toArray, List.getElem_cons_succ, List.getElem_cons_zero, List.setIfInBounds_toArray, List.set_cons_zero, List.set_cons_succ]
    refine wpAnyT_held (i := 11) (v := ?_) rfl (by kernel_rfl) (by kernel_rfl) (by kernel_rfl) (fun _ _ _ h => h) (by kernel_rfl) hT (fun _ => hS) (by kernel_rfl) ?_ ?_
    rotate_left
    · intro wx hSw; go_split_ands; go_simp; try with_reducible rfl
    simp only [Act.put, List.getElem_toArray, List.getElem_cons_succ, List.getElem_cons_zero, List.setIfInBounds_toArray, List.set_cons_zero, List.set_cons_succ]
    refine wpAnyT_load (i := 12) (dst := some 23) (ty := 32) (x := .tmp 22) (b := w.heap.size) (o := (1)) (cs := DI) (by kernel_rfl) (by kernel_rfl) (by kernel_rfl) (by kernel_rfl) (by kernel_rfl) (fun _ _ _ h => h) (by kernel_rfl) hT (fun _ => hS) (by kernel_rfl) (fun _ h => h.1) uD rfl iI ?_
    simp only [Act.put, List.getElem_toArray, List.getElem_cons_succ, List.getElem_cons_zero, List.setIfInBounds_toArray, List.set_cons_zero, List.set_cons_succ]
    refine wpAnyT_held (i := 13) (v := ?_) rfl (by kernel_rfl) (by kernel_rfl) (by kernel_rfl) (fun _ _ _ h => h) (by kernel_rfl) hT (fun _ => hS) (by kernel_rfl) ?_ ?_
    rotate_left
    · intro wx hSw; go_split_ands; go_simp; try with_reducible rfl
    simp only [Act.put, List.getElem_toArray, List.getElem_cons_succ, List.getElem_cons_zero, List.setIfInBounds_toArray, List.set_cons_zero, List.set_cons_succ]
    refine wpAnyT_load (i := 14) (dst := some 25) (ty := 32) (x := .tmp 24) (b := w.heap.size) (o := (3)) (cs := DP) (by kernel_rfl) (by kernel_rfl) (by kernel_rfl) (by kernel_rfl) (by kernel_rfl) (fun _ _ _ h => h) (by kernel_rfl) hT (fun _ => hS) (by kernel_rfl) (fun _ h => h.2.1) uD rfl iP ?_
    simp only [Act.put, List.getElem_toArray, List.getElem_cons_succ, List.getElem_cons_zero, List.setIfInBounds_toArray, List.set_cons_zero, List.set_cons_succ]
    refine wpAnyT_held (i := 15) (v := ?_) rfl (by kernel_rfl) (by kernel_rfl) (by kernel_rfl) (fun _ _ _ h => h) (by kernel_rfl) hT (fun _ => hS) (by kernel_rfl) ?_ ?_
    rotate_left
    · intro wx hSw; go_split_ands; go_simp; try with_reducible rfl
    simp only [Act.put, List.getElem_toArray, List.getElem_cons_succ, List.getElem_cons_zero, List.setIfInBounds_toArray, List.set_cons_zero, List.set_cons_succ]
    refine wpAnyT_held (i := 16) (v := ?_) rfl (by kernel_rfl) (by kernel_rfl) (by kernel_rfl) (fun _ _ _ h => h) (by kernel_rfl) hT (fun _ => hS) (by kernel_rfl) ?_ ?_
    rotate_left
    · intro wx hSw; go_split_ands; go_simp; try with_reducible rfl
    simp only [Act.put, List.getElem_toArray, List.getElem_cons_succ, List.getElem_cons_zero, List.setIfInBounds_toArray, List.set_cons_zero, List.set_cons_succ]
    refine wpAnyT_held (i := 17) (v := ?_) rfl (by kernel_rfl) (by kernel_rfl) (by kernel_rfl) (fun _ _ _ h => h) (by kernel_rfl) hT (fun _ => hS) (by kernel_rfl) ?_ ?_
    rotate_left
    · intro wx hSw; go_split_ands; go_simp; try with_reducible rfl
    simp only [Act.put, List.getElem_toArray, List.getElem_cons_succ, List.getElem_cons_zero, List.setIfInBounds_toArray, List.set_cons_zero, List.set_cons_succ]
    refine wpAnyT_held (i := 18) (v := ?_) rfl (by kernel_rfl) (by kernel_rfl) (by kernel_rfl) (fun _ _ _ h => h) (by kernel_rfl) hT (fun _ => hS) (by kernel_rfl) ?_ ?_
    rotate_left
    · intro wx hSw; go_split_ands; go_simp; try with_reducible rfl
    simp only [Act.put, List.getElem_toArray, List.getElem_cons_succ, List.getElem_cons_zero, List.setIfInBounds_toArray, List.set_cons_zero, List.set_cons_succ]
    refine wpAnyT_one (i := 9) rfl (by kernel_rfl) (by kernel_rfl) (fun K hK => ?_)
    refine wpx_call _ _ (by kernel_rfl) (hi.mono ?_)
    rintro z W1 ⟨rfl, V1, hT1, ht1⟩
    refine ⟨_, rfl, ?_⟩
    obtain ⟨hR1, hap1, hab1, hbl1, hlo1⟩ := HBD.out.tree_to hT1 ht1
    have hx1 := HXD.out.congr (ht1.turn.block _ HXD.out.lt (fun q => HNT.out _ q rfl))
    have hj := HJ.out W1 hlo1 hR1
    have HK := Veil.mk (And.intro hT1 (And.intro hap1 (And.intro hab1 (And.intro hlo1 (And.intro hbl1 (And.intro hx1 hR1))))))
    replace hT := HTT.out W1 hx1
    replace hS : (fun _ : World => True) W1 := trivial
    clear hT1 ht1 hR1 hap1 hab1 hbl1 hlo1 hx1 hi
    refine hK.out _ _ hT (fun _ => hS) ?_
    clear hK K
    try simp only [Act.put, List.getElem_toArray, List.getElem_cons_succ, List.getElem_cons_zero, List.setIfInBounds_toArray, List.set_cons_zero, List.set_cons_succ]
    refine wpAnyT_one (i := 19) rfl (by kernel_rfl) (by kernel_rfl) (fun K hK => ?_)
    refine wpx_call _ _ (by kernel_rfl) (hj.mono ?_)
    rintro z W2 ⟨rfl, v2, hR2, ht2⟩
    refine ⟨_, rfl, ?_⟩
    obtain ⟨k1, k2, k3, k4, k5, k6, k7⟩ := HK.out
    obtain ⟨hB2, hbl2⟩ := BothT.ref_to k1 hR2 (HOK.out rfl) k2 k3 k4 ht2
    have hx2 := k6.congr (ht2.turn.block _ k6.lt (fun q => HNR.out _ q rfl))
    have HQ : Veil (BothT W2 base R bc bn V1 Q v2 DO ∧ Below base w W2) := ⟨by rw [HO0.out rfl]; exact hB2, (hb.drew.mono HLOW.out).trans (k5.trans hbl2)⟩
    replace hT := HTT.out W2 hx2
    replace hS : (fun _ : World => True) W2 := trivial
    clear k1 k2 k3 k4 k5 k6 k7 hB2 hbl2 hx2 hR2 ht2 hj HK
    refine hK.out _ _ hT (fun _ => hS) ?_
    clear hK K
    try simp only [Act.put, List.getElem_toArray, List.getElem_cons_succ, List.getElem_cons_zero, List.setIfInBounds_toArray, List.set_cons_zero, List.set_cons_succ]
    have hbe : (RN == RN) = true := beq_self_eq_true _
    refine wpAnyT_held (i := 20) (v := .bool true) rfl (by kernel_rfl) (by kernel_rfl) (by kernel_rfl) (fun _ _ _ h => h) (by kernel_rfl) hT (fun _ => hS) (by kernel_rfl) ?_ ?_
    · intro wx hSw; go_split_ands; go_simp
    simp only [Act.put, List.getElem_toArray, List.getElem_cons_succ, List.getElem_cons_zero, List.setIfInBounds_toArray, List.set_cons_zero, List.set_cons_succ]
    refine wpAnyT_held (i := 21) (v := ?_) rfl (by kernel_rfl) (by kernel_rfl) (by kernel_rfl) (fun _ _ _ h => h) (by kernel_rfl) hT (fun _ => hS) (by kernel_rfl) ?_ ?_
    rotate_left
    · intro wx hSw; go_split_ands; go_simp; try with_reducible rfl
    simp only [Act.put, List.getElem_toArray, List.getElem_cons_succ, List.getElem_cons_zero, List.setIfInBounds_toArray, List.set_cons_zero, List.set_cons_succ]
    refine wpAnyT_done (by kernel_rfl) ?_ _
    clear hT hS
    go_wp2
    go_ret
    exact ⟨rfl, ⟨V1, v2, HQ.out.1⟩, HQ.out.2⟩
  · by_cases h1 : kd = 1
    · subst h1
      clear h0
      go_upto_region 5 with fail
      have hT : (fun w' : World => w'.rangeAt w.heap.size 1 DI) W.drew := (HP.out W.drew (hx.congr rfl)).2.1
      have hS : (fun _ : World => True) W.drew := trivial
      have hi := HD.out W.drew hb.drew
      have HBD := Veil.mk (HB.out.far hb.drew)
      have HXD := Veil.mk (hx.congr (w' := W.drew) rfl)
      refine wp_region_gateT (fun w' => w'.rangeAt w.heap.size 1 DI) (fun _ => True) 99 (by kernel_rfl) ?_
      clear c0 r1 r3 c5 c6
      refine wpAnyT_held (i := 0) (v := ?_) rfl (by kernel_rfl) (by kernel_rfl) (by kernel_rfl) (fun _ _ _ h => h) (by kernel_rfl) hT (fun _ => hS) (by kernel_rfl) ?_ ?_
      rotate_left
      · intro wx hSw; go_split_ands; go_simp; try with_reducible rfl
      simp only [Act.put, List.getElem_toArray, List.getElem_cons_succ, List.getElem_cons_zero, List.setIfInBounds_toArray, List.set_cons_zero, List.set_cons_succ]
      refine wpAnyT_held (i := 1) (v := ?_) rfl (by kernel_rfl) (by kernel_rfl) (by kernel_rfl) (fun _ _ _ h => h) (by kernel_rfl) hT (fun _ => hS) (by kernel_rfl) ?_ ?_
      rotate_left
      · intro wx hSw; go_split_ands; go_simp; try with_reducible rfl
      simp only [Act.put, List.getElem_toArray, List.getElem_cons_succ, List.getElem_cons_zero, List.setIfInBounds_toArray, List.set_cons_zero, List.set_cons_succ]
      refine wpAnyT_load (i := 2) (dst := some 36) (ty := 32) (x := .tmp 35) (b := w.heap.size) (o := (1)) (cs := DI) (by kernel_rfl) (by kernel_rfl) (by kernel_rfl) (by kernel_rfl) (by kernel_rfl) (fun _ _ _ h => h) (by kernel_rfl) hT (fun _ => hS) (by kernel_rfl) (fun _ h => h) uD rfl iI ?_
      simp only [Act.put, List.getElem_toArray, List.getElem_cons_succ, List.getElem_cons_zero, List.setIfInBounds_toArray, List.set_cons_zero, List.set_cons_succ]
      refine wpAnyT_held (i := 4) (v := ?_) rfl (by kernel_rfl) (by kernel_rfl) (by kernel_rfl) (fun _ _ _ h => h) (by kernel_rfl) hT (fun _ => hS) (by kernel_rfl) ?_ ?_
      rotate_left
      · intro wx hSw; go_split_ands; go_simp; try with_reducible rfl
      simp only [Act.put, List.getElem_toArray, List.getElem_cons_succ, List.getElem_cons_zero, List.setIfInBounds_toArray, List.set_cons_zero, List.set_cons_succ]
      refine wpAnyT_held (i := 5) (v := ?_) rfl (by kernel_rfl) (by kernel_rfl) (by kernel_rfl) (fun _ _ _ h => h) (by kernel_rfl) hT (fun _ => hS) (by kernel_rfl) ?_ ?_
      rotate_left
      · intro wx hSw; go_split_ands; go_simp; try with_reducible rfl
      simp only [Act.put, List.getElem_toArray, List.getElem_cons_succ, List.getElem_cons_zero, List.setIfInBounds_toArray, List.set_cons_zero, List.set_cons_succ]
      refine wpAnyT_load (i := 6) (dst := some 40) (ty := 32) (x := .tmp 39) (b := w.heap.size) (o := (1)) (cs := DI) (by kernel_rfl) (by kernel_rfl) (by kernel_rfl) (by kernel_rfl) (by kernel_rfl) (fun _ _ _ h => h) (by kernel_rfl) hT (fun _ => hS) (by kernel_rfl) (fun _ h => h) uD rfl iI ?_
      simp only [Act.put, List.getElem_toArray, List.getElem_cons_succ, List.getElem_cons_zero, List.setIfInBounds_toArray, List.set_cons_zero, List.set_cons_succ]
      refine wpAnyT_one (i := 3) rfl (by kernel_rfl) (by kernel_rfl) (fun K hK => ?_)
      refine wpx_call _ _ (by kernel_rfl) (hi.mono ?_)
      rintro z W1 ⟨rfl, hT1, ht1⟩
      refine ⟨_, rfl, ?_⟩
      obtain ⟨hR1, hap1, hab1, hbl1, hlo1⟩ := HBD.out.tree_to hT1 ht1
      have hx1 := HXD.out.congr (ht1.turn.block _ HXD.out.lt (fun q => HNT.out _ q rfl))
      have hj := HE.out W1 hR1
      have HK := Veil.mk (And.intro hT1 (And.intro hap1 (And.intro hab1 (And.intro hlo1 (And.intro hbl1 (And.intro hx1 hR1))))))
      replace hT : (fun w' : World => w'.rangeAt w.heap.size 1 DI) W1 := (HP.out W1 hx1).2.1
      replace hS : (fun _ : World => True) W1 := trivial
      clear hT1 ht1 hR1 hap1 hab1 hbl1 hlo1 hx1 hi
      refine hK.out _ _ hT (fun _ => hS) ?_
      clear hK K
      try simp only [Act.put, List.getElem_toArray, List.getElem_cons_succ, List.getElem_cons_zero, List.setIfInBounds_toArray, List.set_cons_zero, List.set_cons_succ]
      refine wpAnyT_one (i := 7) rfl (by kernel_rfl) (by kernel_rfl) (fun K hK => ?_)
      refine wpx_call _ _ (by kernel_rfl) (hj.mono ?_)
      rintro z W2 ⟨rfl, hR2, ht2⟩
      refine ⟨_, rfl, ?_⟩
      obtain ⟨k1, k2, k3, k4, k5, k6, k7⟩ := HK.out
      obtain ⟨hB2, hbl2⟩ := BothT.ref_to k1 hR2 (HOD.out rfl) k2 k3 k4 ht2
      have hx2 := k6.congr (ht2.turn.block _ k6.lt (fun q => HNR.out _ q rfl))
      have HQ : Veil (BothT W2 base R bc bn V Q v DO ∧ Below base w W2) := ⟨by rw [HO1.out rfl]; exact hB2, (hb.drew.mono HLOW.out).trans (k5.trans hbl2)⟩
      replace hT : (fun w' : World => w'.rangeAt w.heap.size 1 DI) W2 := (HP.out W2 hx2).2.1
      replace hS : (fun _ : World => True) W2 := trivial
      clear k1 k2 k3 k4 k5 k6 k7 hB2 hbl2 hx2 hR2 ht2 hj HK
      refine hK.out _ _ hT (fun _ => hS) ?_
      clear hK K
      try simp only [Act.put, List.getElem_toArray, List.getElem_cons_succ, List.getElem_cons_zero, List.setIfInBounds_toArray, List.set_cons_zero, List.set_cons_succ]
      have hbe : (DN == DN) = true := beq_self_eq_true _
      refine wpAnyT_held (i := 8) (v := .bool true) rfl (by kernel_rfl) (by kernel_rfl) (by kernel_rfl) (fun _ _ _ h => h) (by kernel_rfl) hT (fun _ => hS) (by kernel_rfl) ?_ ?_
      · intro wx hSw; go_split_ands; go_simp
      simp only [Act.put, List.getElem_toArray, List.getElem_cons_succ, List.getElem_cons_zero, List.setIfInBounds_toArray, List.set_cons_zero, List.set_cons_succ]
      refine wpAnyT_held (i := 9) (v := ?_) rfl (by kernel_rfl) (by kernel_rfl) (by kernel_rfl) (fun _ _ _ h => h) (by kernel_rfl) hT (fun _ => hS) (by kernel_rfl) ?_ ?_
      rotate_left
      · intro wx hSw; go_split_ands; go_simp; try with_reducible rfl
      simp only [Act.put, List.getElem_toArray, List.getElem_cons_succ, List.getElem_cons_zero, List.setIfInBounds_toArray, List.set_cons_zero, List.set_cons_succ]
      refine wpAnyT_done (by kernel_rfl) ?_ _
      clear hT hS
      go_wp2
      go_ret
      exact ⟨rfl, ⟨V, v, HQ.out.1⟩, HQ.out.2⟩
    · have h0b : (kd == 0) = false := by simpa using h0
      have h1b : (kd == 1) = false := by simpa using h1
      have HQ := Veil.mk (HEND.out W hb h0 h1)
      clear h0 h1
      go_wp2
      go_ret
      exact ⟨rfl, HQ.out⟩
end Go.Proofs.Ytnmjplngbleopaa
