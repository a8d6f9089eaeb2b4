/- Fg23 -/
import Derived.Test.YtnmjplngbleopaaF26
import Derived.Test.YtnmjplngbleopaaF27
namespace Go.Proofs.Ytnmjplngbleopaa
open Go.RowKit Go.Shelf
attribute [local go_sem] Oper.semAt_some
set_option maxRecDepth 20000
set_option linter.unusedSimpArgs false
theorem infoU8f : (Try.prog.info? 5).map (fun i => (i.zero, i.size, i.bytes)) = some (some (.int .u8 0), 1, 1) := by kernel_rfl
def chrC (N : List Nd) (x : Int × Int) : List Value := [.int .u8 (chr0 N x)]
def textN (N : List Nd) : List Int := (wrN N).map (chr0 N)
set_option maxHeartbeats 8000000 in
theorem textT_any (base R bc bn : Nat) (N : List Nd) (V : (Int × Int) × Bool → Value) (hN : TreeOk N) (hlen : N.length ≤ 1000) (w : World) (hTr : TreeAt w base R bc bn N V) :
    Calls Try.prog 7 #[.pointer (some ⟨R, 0, none⟩)] w fun e w' => ∃ v, e = .returned v ∧ OwnI w' w.heap.size 5 1 v ((wrN N).map (chrC N)) ∧ Below w.heap.size w w' := by
  obtain ⟨W4, hW4⟩ : ∃ W4, W4 = (w.alloc (.cells #[.pointer (some ⟨R, 0, none⟩)] 24)).alloc (.cells #[.slice none 0 0] 35) := ⟨_, rfl⟩
  have hb4 : Below w.heap.size w W4 := by rw [hW4]; exact ((Below.refl _ _).alloc (Nat.le_refl _) _).alloc (by simp) _
  have hz4 : W4.heap.size = w.heap.size + 2 := by rw [hW4]; simp
  have h1 : CellsAt W4 w.heap.size 24 [.pointer (some ⟨R, 0, none⟩)] := by rw [hW4]; exact (CellsAt.new w 24 [.pointer (some ⟨R, 0, none⟩)]).alloc _
  have h3 : CellsAt W4 (w.heap.size + 1) 35 [.slice none 0 0] := by
    rw [hW4]
    have := CellsAt.new (w.alloc (.cells #[.pointer (some ⟨R, 0, none⟩)] 24)) 35 [.slice none 0 0]
    rw [World.size_alloc] at this; exact this
  have hwr := writtenT_any R W4
  rw [hz4] at hwr
  have c1 : W4.cell? ⟨w.heap.size, 0, none⟩ = some (.pointer (some ⟨R, 0, none⟩)) := h1.cell 0
  have HW := Veil.mk hW4
  have HTR := Veil.mk hTr
  have HN := Veil.mk hN
  have HL := Veil.mk hlen
  rw [hW4] at c1
  clear hW4 hTr hN hlen
  refine (callsIn_wide (n := 9)).1 ?_
  refine callsIn_of_wp_marks Try.func7 rfl trivial ?_ rfl
  simp only [Try.ntmps7, List.size_toArray, List.length_cons, List.length_nil, Nat.reduceAdd, Nat.reduceSub, Array.replicate_succ, Array.replicate_zero, List.push_toArray, List.append_toArray, List.nil_append, List.cons_append]
  gi_wp2
  rw [← HW.out]
  clear c1
  refine ⟨trivial, (callsIn_wide.2 hwr).mono ?_⟩
  rintro e A ⟨rfl, hbt, hbA⟩
  have hwA : Below w.heap.size w A := hb4.trans (hbA.mono (by omega))
  have hzA : w.heap.size + 2 < A.heap.size := hbt.lt
  replace h1 := h1.congr (hbA.block _ (by omega))
  replace h3 := h3.congr (hbA.block _ (by omega))
  have hTA := HTR.out.far hwA
  have hseq := fun m => written1_seq m base R bc bn (w.heap.size + 2) N V HN.out.rooted HL.out A hTA hbt
  have hOwn : ∀ k, treeP R bc bn V k ∨ k = w.heap.size + 2 → k < A.heap.size ∧ ¬ (k = w.heap.size + 1) := fun k hk => by
    rcases hk with q | q
    · have := HTR.out.blockLt k q; omega
    · omega
  have HTA : Veil (TreeAt A base R bc bn N V ∧ ∀ k, treeP R bc bn V k → k < w.heap.size) := ⟨hTA, fun k hk => HTR.out.blockLt k hk⟩
  clear hwr hb4 hz4 HW hbA hbt hTA
  obtain ⟨bt, hbt⟩ : ∃ q, w.heap.size + 2 = q := ⟨_, rfl⟩
  rw [hbt] at hseq hOwn ⊢
  obtain ⟨b3, hb3⟩ : ∃ q, w.heap.size + 1 = q := ⟨_, rfl⟩
  rw [hb3] at h3 hOwn ⊢
  obtain ⟨b1, hb1⟩ : ∃ q, w.heap.size = q := ⟨_, rfl⟩
  have HBS : Veil (w.heap.size ≤ b1 ∧ b1 < b3 ∧ b3 < A.heap.size) := ⟨by omega⟩
  rw [hb1] at h1
  try rw [hb1]
  clear hbt hb3 hzA hb1
  gi_wp2
  obtain ⟨I, HI⟩ : ∃ I : (Nat → Prop) → List (Int × Int) → World → Prop, Veil (∀ T pre B, I T pre B ↔ ∃ v, (∀ k, T k ↔ (k = b3 ∨ v.ownBlock = some k)) ∧ CellsAt B b3 35 [v] ∧ OwnI B A.heap.size 5 1 v (pre.map (chrC N)) ∧ pre.length ≤ 1000 ∧ ∀ k, k < A.heap.size → k ≠ b3 → B.heap[k]? = A.heap[k]?) := ⟨_, ⟨fun _ _ _ => Iff.rfl⟩⟩
  have HLW : Veil ((walkA N rootS).length ≤ 1000) := ⟨by rw [HN.out.len]; exact HL.out⟩
  refine wpIn_rangeTl (by omega) rfl (fun _ _ => rfl) (hseq 4) (fun _ => rfl) (fun _ _ _ h _ => h) (fun _ _ _ h _ => h) (fun k => k = b3) (fun k hk => ⟨fun q => (hOwn k q).2 hk, by have := HBS.out; omega⟩) (fun k hk => (hOwn k hk).1)
    I (fun _ _ _ _ => False) ?stays (fun _ _ _ _ _ h _ => h) ?zero ?round ?done ?stop
  case stays =>
    intro T s B C hi hs
    obtain ⟨v, q1, q3, q4, q5, q6⟩ := (HI.out _ _ _).1 hi
    have hk : ∀ k, k < A.heap.size → C.heap[k]? = B.heap[k]? := fun k hk => hs.block k (.inr ⟨hk, id⟩)
    have := HBS.out
    exact (HI.out _ _ _).2 ⟨v, q1, q3.congr (hk _ (by omega)), q4.congr (fun g hg => hs.block g (.inl ((q1 g).2 (.inr hg)))), q5, fun k h1 h2 => (hk k h1).trans (q6 k h1 h2)⟩
  case zero => exact (HI.out _ _ _).2 ⟨.slice none 0 0, fun k => by simp [Value.ownBlock], h3, OwnI.nil _ _ _ _, by simp, fun _ _ _ => rfl⟩
  case stop => intro D c xs T W hD _ h; exact h.elim
  case round =>
    intro l2 r T1 pre x B hi hok hlen hTl hT0 hlr hl2
    obtain ⟨v, q1, q3, q4, q5, q6⟩ := (HI.out _ _ _).1 hi
    have hlB : l2 < B.heap.size := (Array.getElem?_eq_some_iff.1 hlr).1
    have hbs := HBS.out
    have HLOOK : Veil (∀ wx, MapX Try.prog 32 encDF okDF wx bc N.length (chrM N) → (Instr.lookup 48 (.map (some bc)) (.agg (encF x).toArray) false).run Try.prog wx = .ok (.int .u8 (chr0 N x)) wx) := ⟨fun wx h => by
      have := h.g.get keyEncDF Try.underlying48 (z := .int .u8 0) (by kernel_rfl) x hok
      rw [chrM_getD] at this
      exact this⟩
    have HMP : Veil ((pre ++ [x]).map (chrC N) = pre.map (chrC N) ++ [[.int .u8 (chr0 N x)]]) := ⟨by rw [List.map_append]; rfl⟩
    obtain ⟨c, hc⟩ : ∃ q, chr0 N x = q := ⟨_, rfl⟩
    rw [hc] at HLOOK HMP
    clear hc
    obtain ⟨xa, xb⟩ := x
    have hx1 := CellsAt.new B 32 [.int .u8 xa, .int .u32 xb]
    have hb1 : Below B.heap.size B (B.alloc (.cells #[.int .u8 xa, .int .u32 xb] 32)) := (Below.refl _ _).alloc (Nat.le_refl _) _
    have hz1 : (B.alloc (.cells #[.int .u8 xa, .int .u32 xb] 32)).heap.size = B.heap.size + 1 := by simp
    have hnl : ∀ g, v.ownBlock = some g → g ≠ l2 := fun g hg e => by
      obtain ⟨_, _, cur, h2⟩ := q4.blockLt g hg
      rw [e, hlr] at h2; cases h2
    clear hi hok hTl hT0 hlr
    simp only [encF, dotC] at HLOOK ⊢
    refine wpR_region (notOut_then notOut_false) (by kernel_rfl) ?_
    go_wp2
    refine ⟨Turn.of_below hb1, ?_⟩
    generalize B.alloc (.cells #[.int .u8 xa, .int .u32 xb] 32) = V1 at hx1 hb1 hz1 ⊢
    have hk2 : ∀ k, k < B.heap.size → k ≠ l2 → (V1.putObj l2 (.loop { r with state := .busy })).heap[k]? = B.heap[k]? := fun k hk hn => (World.putObj_heap_other hn).trans (hb1.block k hk)
    have hx2 : CellsAt (V1.putObj l2 (.loop { r with state := .busy })) B.heap.size 32 [.int .u8 xa, .int .u32 xb] := hx1.congr (World.putObj_heap_other (by omega))
    have hl3 := q3.lt
    replace q3 := q3.congr (hk2 b3 hl3 (by omega))
    have hq4l := fun g hg => (q4.blockLt g hg).1
    replace q4 := q4.congr (fun g hg => hk2 g (hq4l g hg) (hnl g hg))
    have hz2 : (V1.putObj l2 (.loop { r with state := .busy })).heap.size = B.heap.size + 1 := by simp [World.putObj, hz1]
    replace q6 : ∀ k, k < A.heap.size → k ≠ b3 → (V1.putObj l2 (.loop { r with state := .busy })).heap[k]? = A.heap[k]? := fun k h1 h2 => (hk2 k (by omega) (by omega)).trans (q6 k h1 h2)
    generalize V1.putObj l2 (.loop { r with state := .busy }) = V2 at hx2 hk2 q3 q4 q6 hz2 ⊢
    have hAB : A.heap.size + 1 < B.heap.size := by omega
    have HT1 : Veil (∀ k, T1 k ↔ (k = b3 ∨ v.ownBlock = some k)) := ⟨q1⟩
    -- the byte alone, then appended
    obtain ⟨V3, hV3⟩ : ∃ V3, V3 = (V2.alloc (.cells #[.int .u8 c] 5)).drew := ⟨_, rfl⟩
    have hb3 : Below V2.heap.size V2 V3 := by rw [hV3]; exact ((Below.refl _ _).alloc (Nat.le_refl _) _).drew
    have hc3 : CellsAt V3 V2.heap.size 5 [.int .u8 c] := by rw [hV3]; exact (CellsAt.new V2 5 [.int .u8 c]).congr rfl
    obtain ⟨v2, W4, hrun, ho4, hg4, hb4⟩ := (q4.far hb3).app (P := Try.prog) 35 35 Try.underlying35 infoU8f rfl (by decide) [.int .u8 c] rfl (by simp; rfl) V2.heap.size hc3.wholeM (by rw [List.length_map]; omega) (by decide) (by have := hb3.size; omega)
    have hz3 := hb3.size
    have hz4 := hg4.size
    have hvn : ∀ k, k < A.heap.size → v.ownBlock ≠ some k := fun k hk e => by have := (q4.blockLt k e).2.1; omega
    have q34 : CellsAt W4 b3 35 [v] := (q3.congr (hb3.block b3 (by omega))).congr (hg4.block b3 (by omega) (fun e => hvn b3 (by omega) e.symm))
    have HEND : Veil (I (fun k => k = b3 ∨ v2.ownBlock = some k) (pre ++ [(xa, xb)]) (W4.setCell ⟨b3, 0, none⟩ v2) ∧ MovesT T1 V2 (fun k => k = b3 ∨ v2.ownBlock = some k) (W4.setCell ⟨b3, 0, none⟩ v2)) := by
      have hsz : (W4.setCell ⟨b3, 0, none⟩ v2).heap.size = W4.heap.size := by simp [World.setCell]
      refine ⟨(HI.out _ _ _).2 ⟨v2, fun k => Iff.rfl, q34.set 0 v2, ?_, by simp; have := HLW.out; omega, fun k h1 h2 => ?_⟩, ⟨?_, fun k hk => ?_⟩⟩
      · rw [HMP.out]
        exact ho4.congr (fun g hg => Below.heap_setCell _ ⟨b3, 0, none⟩ _ _ (fun e => by have := (ho4.blockLt g hg).2.1; simp at e; omega))
      · rw [Below.heap_setCell W4 ⟨b3, 0, none⟩ _ k h2, hg4.block k (by omega) (fun e => hvn k h1 e.symm), hb3.block k (by omega)]
        exact q6 k h1 h2
      · exact ((Turn.of_below hb3).trans (Turn.of_grown hg4 (fun k e => (HT1.out k).2 (.inr e)))).trans (Turn.of_setCell _ ((HT1.out b3).2 (.inl rfl)) _)
      · rw [hsz]
        rcases hk with rfl | e
        · exact ⟨.inl ((HT1.out k).2 (.inl rfl)), by omega⟩
        · refine ⟨?_, (ho4.blockLt k e).1⟩
          rcases hb4 with q | q
          · rw [q] at e; exact .inl ((HT1.out k).2 (.inr e))
          · rw [q] at e
            obtain rfl := Option.some.inj e
            exact .inr (by omega)
    have HS : ∀ V', (∀ k, k < A.heap.size → k ≠ b3 → V'.heap[k]? = A.heap[k]?) → CellsAt V' b3 35 [v] → CellsAt V' B.heap.size 32 [.int .u8 xa, .int .u32 xb] → (fun w' : World => w'.cell? ⟨b3, 0, none⟩ = some v ∧ w'.cell? ⟨b1, 0, none⟩ = some (.pointer (some ⟨R, 0, none⟩)) ∧ w'.cell? ⟨R, 0, none⟩ = some (.map (some bc)) ∧ w'.rangeAt B.heap.size 0 [.int .u8 xa, .int .u32 xb] ∧ MapX Try.prog 32 encDF okDF w' bc N.length (chrM N)) V' := fun V' hk hcv hcx => by
      have hT3 : TreeAt V' base R bc bn N V := HTA.out.1.congr fun k q => hk k (by have := HTA.out.2 k q; omega) (by have := HTA.out.2 k q; omega)
      exact ⟨hcv.cell 0, (h1.congr (hk b1 (by omega) (by omega))).cell 0, hT3.box.cell 0, hcx.wholeM, hT3.chars⟩
    have hS := HS V2.drew (fun k h1 h2 => q6 k h1 h2) (q3.congr rfl) (hx2.congr rfl)
    have hS3 := HS V3 (fun k h1 h2 => (hb3.block k (by omega)).trans (q6 k h1 h2)) (q3.congr (hb3.block b3 (by omega))) (hx2.farM hb3)
    have hS4 := HS W4 (fun k h1 h2 => ((hg4.block k (by omega) (fun e => hvn k h1 e.symm)).trans (hb3.block k (by omega))).trans (q6 k h1 h2)) q34 ((hx2.farM hb3).congr (hg4.block _ (by have := hx2.lt; omega) (fun e => by have := hq4l _ e.symm; omega)))
    have c4 : W4.cell? ⟨b3, 0, none⟩ = some v := q34.cell 0
    have f4 := q34.frozen 0
    have uD := Try.underlying32
    have iX : (Try.prog.info? 32).map (·.size) = some [Value.int .u8 xa, Value.int .u32 xb].length := sizeDot
    obtain ⟨sx, sc, hv⟩ := q4.isSlice
    obtain ⟨sn, hsn⟩ : ∃ q, (pre.map (chrC N)).length = q := ⟨_, rfl⟩
    rw [hsn] at hv
    have HV3 := Veil.mk hV3
    obtain ⟨s2x, s2c, hv2⟩ := ho4.isSlice
    rw [List.length_append, hsn] at hv2
    clear hV3 hb3 hc3 ho4 hg4 hb4 q34 HS q3 q4 q6 hx2 hk2 hz2 hz3 hz4 hvn hl3 hq4l hnl hAB hbs hlB hx1 hb1 hz1 q1 hlen HT1 hsn
    subst hv hv2
    refine wpIn_block ?_
    refine wpR_gate (fun w' : World => w'.cell? ⟨b3, 0, none⟩ = some (.slice sx sn sc) ∧ w'.cell? ⟨b1, 0, none⟩ = some (.pointer (some ⟨R, 0, none⟩)) ∧ w'.cell? ⟨R, 0, none⟩ = some (.map (some bc)) ∧ w'.rangeAt B.heap.size 0 [.int .u8 xa, .int .u32 xb] ∧ MapX Try.prog 32 encDF okDF w' bc N.length (chrM N)) 9 (by kernel_rfl) (fun ⟨_, _, q⟩ => q) (by kernel_rfl) ?_
    refine wpAnyG_read (i := 0) (v := ?_) rfl (by kernel_rfl) (by kernel_rfl) (by kernel_rfl) (fun _ _ _ h => h) (by kernel_rfl) (by kernel_rfl) (by kernel_rfl) hS (by kernel_rfl) ?_ ?_
    rotate_left
    · intro wx hSw; go_split_ands; go_simp; try with_reducible rfl
    simp only [Act.put, List.getElem_toArray, List.getElem_cons_succ, List.getElem_cons_zero, List.setIfInBounds_toArray, List.set_cons_zero, List.set_cons_succ]
    refine wpAnyG_read (i := 1) (v := ?_) rfl (by kernel_rfl) (by kernel_rfl) (by kernel_rfl) (fun _ _ _ h => h) (by kernel_rfl) (by kernel_rfl) (by kernel_rfl) hS (by kernel_rfl) ?_ ?_
    rotate_left
    · intro wx hSw; go_split_ands; go_simp; try with_reducible rfl
    simp only [Act.put, List.getElem_toArray, List.getElem_cons_succ, List.getElem_cons_zero, List.setIfInBounds_toArray, List.set_cons_zero, List.set_cons_succ]
    refine wpAnyG_any (i := 2) (v := ?_) rfl (by kernel_rfl) (by kernel_rfl) (by kernel_rfl) (fun _ _ _ h => h) (by kernel_rfl) (fun _ => hS) (by kernel_rfl) ?_ ?_
    rotate_left
    · intro _; go_simp; try with_reducible rfl
    simp only [Act.put, List.getElem_toArray, List.getElem_cons_succ, List.getElem_cons_zero, List.setIfInBounds_toArray, List.set_cons_zero, List.set_cons_succ]
    refine wpAnyG_any (i := 3) (v := ?_) rfl (by kernel_rfl) (by kernel_rfl) (by kernel_rfl) (fun _ _ _ h => h) (by kernel_rfl) (fun _ => hS) (by kernel_rfl) ?_ ?_
    rotate_left
    · intro _; go_simp; try with_reducible rfl
    simp only [Act.put, List.getElem_toArray, List.getElem_cons_succ, List.getElem_cons_zero, List.setIfInBounds_toArray, List.set_cons_zero, List.set_cons_succ]
    refine wpAnyG_read (i := 4) (v := ?_) rfl (by kernel_rfl) (by kernel_rfl) (by kernel_rfl) (fun _ _ _ h => h) (by kernel_rfl) (by kernel_rfl) (by kernel_rfl) hS (by kernel_rfl) ?_ ?_
    rotate_left
    · intro wx hSw; go_split_ands; go_simp; try with_reducible rfl
    simp only [Act.put, List.getElem_toArray, List.getElem_cons_succ, List.getElem_cons_zero, List.setIfInBounds_toArray, List.set_cons_zero, List.set_cons_succ]
    refine wpAnyG_load (i := 5) (dst := some 15) (ty := 32) (x := .tmp 4) (b := B.heap.size) (o := (0)) (cs := [.int .u8 xa, .int .u32 xb]) (by kernel_rfl) (by kernel_rfl) (by kernel_rfl) (by kernel_rfl) (by kernel_rfl) (fun _ _ _ h => h) (by kernel_rfl) (by kernel_rfl) (by kernel_rfl) hS (by kernel_rfl) (fun _ h => h.2.2.2.1) uD rfl iX ?_
    simp only [Act.put, List.getElem_toArray, List.getElem_cons_succ, List.getElem_cons_zero, List.setIfInBounds_toArray, List.set_cons_zero, List.set_cons_succ]
    refine wpAnyG_read (i := 6) (v := .int .u8 c) rfl (by kernel_rfl) (by kernel_rfl) (by kernel_rfl) (fun _ _ _ h => h) (by kernel_rfl) (by kernel_rfl) (by kernel_rfl) hS (by kernel_rfl) (fun wx h => exec_lookF rfl rfl rfl (HLOOK.out wx h.2.2.2.2)) ?_
    simp only [Act.put, List.getElem_toArray, List.getElem_cons_succ, List.getElem_cons_zero, List.setIfInBounds_toArray, List.set_cons_zero, List.set_cons_succ]
    refine wpAnyG_one (i := 7) rfl (by kernel_rfl) (by kernel_rfl) (fun K hK => ?_)
    go_simp
    rw [← HV3.out]
    replace hS := hS3
    refine hK.out _ _ (fun _ => hS) ?_
    clear hK K
    try simp only [Act.put, List.getElem_toArray, List.getElem_cons_succ, List.getElem_cons_zero, List.setIfInBounds_toArray, List.set_cons_zero, List.set_cons_succ]
    refine wpAnyG_one (i := 8) rfl (by kernel_rfl) (by kernel_rfl) (fun K hK => ?_)
    refine wpx_app _ _ _ _ rfl _ _ _ W4 rfl rfl hrun ?_
    replace hS := hS4
    refine hK.out _ _ (fun _ => hS) ?_
    clear hK K
    try simp only [Act.put, List.getElem_toArray, List.getElem_cons_succ, List.getElem_cons_zero, List.setIfInBounds_toArray, List.set_cons_zero, List.set_cons_succ]
    refine wpAnyG_one (i := 9) rfl (by kernel_rfl) (by kernel_rfl) (fun K hK => ?_)
    go_simp
    refine hK.out _ _ (fun h => absurd (show true = false from h) (by decide)) ?_
    clear hK K
    try simp only [Act.put, List.getElem_toArray, List.getElem_cons_succ, List.getElem_cons_zero, List.setIfInBounds_toArray, List.set_cons_zero, List.set_cons_succ]
    refine wpAnyG_done (by kernel_rfl) ?_ _
    clear hS hS3 hS4 hrun c4 f4 HLOOK
    gi_wp2
    exact ⟨_, HEND.out.1, HEND.out.2⟩
  case done =>
    intro D xs T' B hD hP hi hdef ht hTD
    obtain ⟨v, q1, q3, q4, q5, q6⟩ := (HI.out _ _ _).1 hi
    have hbs := HBS.out
    have c3 : B.cell? ⟨b3, 0, none⟩ = some v := q3.cell 0
    have HEND : Veil (OwnI (B.putObj D (.deferred none)) w.heap.size 5 1 v ((wrN N).map (chrC N)) ∧ Below w.heap.size w (B.putObj D (.deferred none))) := by
      have hwz := hwA.size
      refine ⟨?_, ht.os.trans hwA.os, ht.tape.trans hwA.tape, ht.output.trans hwA.output, ?_, fun k hk => ?_⟩
      · rw [← hP]
        exact (q4.congr (fun g hg => World.putObj_heap_other (fun e => hTD ((q1 D).2 (.inr (by rw [hg, e])))))).less (by omega)
      · have h1 := ht.size
        simp [World.putObj]; omega
      · rw [World.putObj_heap_other (by omega), ht.block k (by omega) (fun q => by rcases q with q | q; omega; exact q)]
        exact hwA.block k hk
    obtain ⟨sx, sc, hv⟩ := q4.isSlice
    clear q4 q1 hi q3 ht q5 q6 hP hTD hbs hseq hOwn h1 h3
    generalize (xs.map (chrC N)).length = sn at hv
    subst hv
    gi_wp2
    refine ⟨by simp, .inl ⟨_, _, rfl, run_takeDeferred hdef, ?_⟩⟩
    exact ⟨_, results_tmp (t := 2) rfl _ _ _, _, rfl, HEND.out.1, HEND.out.2⟩
end Go.Proofs.Ytnmjplngbleopaa
