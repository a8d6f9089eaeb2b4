/- Fg21 -/
import Derived.Test.YtnmjplngbleopaaF24
namespace Go.Proofs.Ytnmjplngbleopaa
open Go.RowKit Go.Shelf
attribute [local go_sem] Oper.semAt_some
set_option maxRecDepth 20000
set_option linter.unusedSimpArgs false
set_option maxHeartbeats 8000000 in
theorem firstT_any (base R bc bn : Nat) (N : List Nd) (V : (Int × Int) × Bool → Value) (hN : TreeOk N) (hlen : N.length ≤ 1000) (s : (Int × Int) × Bool) (hs : okS s) (w : World) (hTr : TreeAt w base R bc bn N V) :
    Calls Try.prog 19 #[.pointer (some ⟨R, 0, none⟩), .agg (sideC s).toArray] w fun e w' => e = .returned (.tuple #[.agg (encF (atD (walkA N s).head?)).toArray, .bool (walkA N s).head?.isSome]) ∧ Below w.heap.size w w' := by
  obtain ⟨W4, hW4⟩ : ∃ W4, W4 = ((w.alloc (.cells (sideC s).toArray 56)).alloc (.cells #[.int .u8 0, .int .u32 0] 32)).alloc (.cells #[.bool false] 4) := ⟨_, rfl⟩
  have hb4 : Below w.heap.size w W4 := by rw [hW4]; exact (((Below.refl _ _).alloc (Nat.le_refl _) _).alloc (by simp) _).alloc (by simp; omega) _
  have hz4 : W4.heap.size = w.heap.size + 3 := by rw [hW4]; simp
  have h3 : CellsAt W4 w.heap.size 56 (sideC s) := by rw [hW4]; exact ((CellsAt.new w 56 (sideC s)).alloc _).alloc _
  have h4 : CellsAt W4 (w.heap.size + 1) 32 [.int .u8 0, .int .u32 0] := by
    rw [hW4]
    have := (CellsAt.new (w.alloc (.cells (sideC s).toArray 56)) 32 [.int .u8 0, .int .u32 0]).alloc (.cells #[.bool false] 4)
    rw [World.size_alloc] at this; exact this
  have h5 : CellsAt W4 (w.heap.size + 1 + 1) 4 [.bool false] := by
    rw [hW4]
    have := CellsAt.new ((w.alloc (.cells (sideC s).toArray 56)).alloc (.cells #[.int .u8 0, .int .u32 0] 32)) 4 [.bool false]
    rw [World.size_alloc, World.size_alloc] at this; exact this
  have hat := atT_any R s W4
  rw [hz4] at hat
  have hr3 := h3.wholeM
  have uS := Try.underlying56
  have iS : (Try.prog.info? 56).map (·.size) = some (sideC s).length := by rw [sideC_len]; kernel_rfl
  have HSQ : Veil (∀ A B1 B2, Below w.heap.size w A → CellsAt A B1 24 [.pointer (some ⟨R, 0, none⟩)] → CellsAt A B2 56 (sideC s) → ∀ m, SeqT m Try.prog 36 #[.pointer (some ⟨B1, 0, none⟩), .pointer (some ⟨B2, 0, none⟩)] (fun x : Int × Int => #[.agg (encF x).toArray]) (fun k => treeP R bc bn V k ∨ k = B1 ∨ k = B2) (fun _ => False) (fun xs _ => xs = walkA N s) (fun xs _ => xs <+: walkA N s) okDF (walkA N s).length A) := ⟨fun A B1 B2 hb h1 h2 m => at1_seq m base R bc bn B1 B2 N V hN.rooted hlen s hs A (hTr.far hb) h1 h2⟩
  have HTL : Veil (∀ k, treeP R bc bn V k → k < w.heap.size) := ⟨fun k hk => hTr.blockLt k hk⟩
  obtain ⟨ES, hES⟩ : ∃ q, sideC s = q := ⟨_, rfl⟩
  rw [hES] at hW4 h3 hr3 iS hat HSQ ⊢
  have HW := Veil.mk hW4
  clear hW4 hTr hN hlen hES h3
  refine (callsIn_wide (n := 9)).1 ?_
  refine callsIn_of_wp_marks Try.func19 rfl trivial ?_ rfl
  simp only [Try.ntmps19, List.size_toArray, List.length_cons, List.length_nil, Nat.reduceAdd, Nat.reduceSub, Array.replicate_succ, Array.replicate_zero, List.push_toArray, List.append_toArray, List.nil_append, List.cons_append]
  gi_wp2_with (first
    | (rw [← HW.out]; refine wpLF_ldgv (by kernel_rfl) 56 (.tmp 3) rfl w.heap.size 0 rfl ES hr3 uS rfl iS ?_)
    | gi_in)
  refine ⟨trivial, (callsIn_wide.2 hat).mono ?_⟩
  rintro e A ⟨rfl, hc1, hc2, hbA⟩
  have hwA : Below w.heap.size w A := hb4.trans (hbA.mono (by omega))
  have hzA : w.heap.size + 3 + 1 < A.heap.size := hc2.lt
  replace h4 := h4.congr (hbA.block _ (by omega))
  replace h5 := h5.congr (hbA.block _ (by omega))
  have hseq := HSQ.out A _ _ hwA hc1 hc2
  have hOwn : ∀ k, treeP R bc bn V k ∨ k = w.heap.size + 3 ∨ k = w.heap.size + 3 + 1 → k < A.heap.size ∧ ¬ (k = w.heap.size + 1 ∨ k = w.heap.size + 1 + 1) := fun k hk => by
    rcases hk with q | q | q
    · have := HTL.out k q; omega
    · omega
    · omega
  clear hat hb4 hz4 HW hbA hc1 hc2 hr3 HSQ
  obtain ⟨bu, hbu⟩ : ∃ q, w.heap.size + 3 + 1 = q := ⟨_, rfl⟩
  rw [hbu] at hseq hOwn ⊢
  obtain ⟨bt, hbt⟩ : ∃ q, w.heap.size + 3 = q := ⟨_, rfl⟩
  rw [hbt] at hseq hOwn ⊢
  obtain ⟨b5, hb5⟩ : ∃ q, w.heap.size + 1 + 1 = q := ⟨_, rfl⟩
  rw [hb5] at h5 hOwn ⊢
  obtain ⟨b4, hb4⟩ : ∃ q, w.heap.size + 1 = q := ⟨_, rfl⟩
  rw [hb4] at h4 hOwn ⊢
  have HBS : Veil (w.heap.size < b4 ∧ b4 < b5 ∧ b5 < A.heap.size) := ⟨by omega⟩
  clear hb4 hb5 hbt hbu hzA
  gi_wp2
  obtain ⟨I, HI⟩ : ∃ I : (Nat → Prop) → List (Int × Int) → World → Prop, Veil (∀ T pre B, I T pre B ↔ ((∀ k, T k ↔ (k = b4 ∨ k = b5)) ∧ CellsAt B b4 32 [.int .u8 0, .int .u32 0] ∧ CellsAt B b5 4 [.bool false] ∧ pre = [])) := ⟨_, ⟨fun _ _ _ => Iff.rfl⟩⟩
  obtain ⟨Ix, HX⟩ : ∃ I : Code → (Nat → Prop) → List (Int × Int) → World → Prop, Veil (∀ c T pre B, I c T pre B ↔ (c = .ret ∧ (∀ k, T k ↔ (k = b4 ∨ k = b5)) ∧ ∃ x, pre = [x] ∧ CellsAt B b4 32 (encF x) ∧ CellsAt B b5 4 [.bool true])) := ⟨_, ⟨fun _ _ _ _ => Iff.rfl⟩⟩
  refine wpIn_rangeTl (by omega) rfl (fun _ _ => rfl) (hseq _) (fun _ => rfl) (fun _ _ _ h _ => h) (fun _ _ _ h _ => h) (fun k => k = b4 ∨ k = b5) (fun k hk => ⟨fun q => (hOwn k q).2 hk, by have := HBS.out; omega⟩) (fun k hk => (hOwn k hk).1)
    I Ix ?stays ?staysx ?zero ?round ?done ?stop
  case stays =>
    intro T s B C hi hs
    obtain ⟨q1, q4, q5, q7⟩ := (HI.out _ _ _).1 hi
    have hk : ∀ k, k < A.heap.size → C.heap[k]? = B.heap[k]? := fun k hk => hs.block k (.inr ⟨hk, id⟩)
    have := HBS.out
    exact (HI.out _ _ _).2 ⟨q1, q4.congr (hk _ (by omega)), q5.congr (hk _ (by omega)), q7⟩
  case staysx =>
    intro c T s B C hi hs
    obtain ⟨hc, q1, x, q2, q4, q5⟩ := (HX.out _ _ _ _).1 hi
    have hk : ∀ k, k < A.heap.size → C.heap[k]? = B.heap[k]? := fun k hk => hs.block k (.inr ⟨hk, id⟩)
    have := HBS.out
    exact (HX.out _ _ _ _).2 ⟨hc, q1, x, q2, q4.congr (hk _ (by omega)), q5.congr (hk _ (by omega))⟩
  case zero => exact (HI.out _ _ _).2 ⟨fun k => Iff.rfl, h4, h5, rfl⟩
  case round =>
    intro l2 r T1 pre x B hi hok hlen hTl hT0 hlr hl2
    obtain ⟨q1, q4, q5, q7⟩ := (HI.out _ _ _).1 hi
    have hlB : l2 < B.heap.size := (Array.getElem?_eq_some_iff.1 hlr).1
    have hbs := HBS.out
    obtain ⟨xa, xb⟩ := x
    have hx1 := CellsAt.new B 32 [.int .u8 xa, .int .u32 xb]
    have hb1 : Below B.heap.size B (B.alloc (.cells #[.int .u8 xa, .int .u32 xb] 32)) := (Below.refl _ _).alloc (Nat.le_refl _) _
    have hz1 : (B.alloc (.cells #[.int .u8 xa, .int .u32 xb] 32)).heap.size = B.heap.size + 1 := by simp
    clear hi hok hTl hT0 hlr
    simp only [encF, dotC]
    refine wpR_region (notOut_then notOut_false) (by kernel_rfl) ?_
    go_wp2
    refine ⟨Turn.of_below hb1, ?_⟩
    generalize B.alloc (.cells #[.int .u8 xa, .int .u32 xb] 32) = V1 at hx1 hb1 hz1 ⊢
    have hk2 : ∀ k, k < B.heap.size → k ≠ l2 → (V1.putObj l2 (.loop { r with state := .busy })).heap[k]? = B.heap[k]? := fun k hk hn => (World.putObj_heap_other hn).trans (hb1.block k hk)
    have hx2 : CellsAt (V1.putObj l2 (.loop { r with state := .busy })) B.heap.size 32 [.int .u8 xa, .int .u32 xb] := hx1.congr (World.putObj_heap_other (by omega))
    have hl4 := q4.lt
    have hl5 := q5.lt
    replace q4 := q4.congr (hk2 b4 hl4 (by omega))
    replace q5 := q5.congr (hk2 b5 hl5 (by omega))
    have hz2 : (V1.putObj l2 (.loop { r with state := .busy })).heap.size = B.heap.size + 1 := by simp [World.putObj, hz1]
    generalize V1.putObj l2 (.loop { r with state := .busy }) = V2 at hx2 hk2 q4 q5 hz2 ⊢
    have HT1 : Veil (∀ k, T1 k ↔ (k = b4 ∨ k = b5)) := ⟨q1⟩
    have HZ : Veil (b4 < V2.heap.size ∧ b5 < V2.heap.size) := ⟨by omega⟩
    clear hk2 hx1 hb1 hz1 q1 hl4 hl5 hz2
    obtain ⟨V3, hV3⟩ : ∃ V3, V3 = V2.setRow b4 #[.int .u8 xa, .int .u32 xb] := ⟨_, rfl⟩
    have r4 : CellsAt V3 b4 32 [.int .u8 xa, .int .u32 xb] := by rw [hV3]; exact q4.setRow [.int .u8 xa, .int .u32 xb]
    have r5 : CellsAt V3 b5 4 [.bool false] := by rw [hV3]; exact q5.setRowM _ (by omega)
    have c5 : V3.cell? ⟨b5, 0, none⟩ = some (.bool false) := r5.cell 0
    have f5 := r5.frozen 0
    have hr2 := hx2.wholeM
    have uD := Try.underlying32
    have iX : (Try.prog.info? 32).map (·.size) = some [Value.int .u8 xa, Value.int .u32 xb].length := sizeDot
    have hx1 : ∀ v ∈ [Value.int .u8 xa, Value.int .u32 xb], v.oneCell' = true := encF_one (xa, xb)
    have HV3 := Veil.mk hV3
    have HM3 : Veil (MovesT T1 V2 T1 (V3.setCell ⟨b5, 0, none⟩ (.bool true))) := ⟨⟨by rw [hV3]; rfl, by rw [hV3]; rfl, by rw [hV3]; rfl, by rw [hV3]; simp [World.setRow, World.putObj, World.setCell], fun k hk hn => by
      rw [Below.heap_setCell V3 ⟨b5, 0, none⟩ _ k (fun e => hn ((HT1.out k).2 (.inr e))), hV3, setRow_other _ _ _ _ (fun e => hn ((HT1.out k).2 (.inl e)))]⟩, fun k hk => ⟨.inl hk, by
      have h2 : (V3.setCell ⟨b5, 0, none⟩ (.bool true)).heap.size = V2.heap.size := by rw [hV3]; simp [World.setRow, World.putObj, World.setCell]
      rw [h2]
      rcases (HT1.out k).1 hk with q | q
      · rw [q]; exact HZ.out.1
      · rw [q]; exact HZ.out.2⟩⟩
    have HQ : Veil (Ix .ret T1 (pre ++ [(xa, xb)]) (V3.setCell ⟨b5, 0, none⟩ (.bool true))) := ⟨(HX.out _ _ _ _).2 ⟨rfl, HT1.out, (xa, xb), by rw [q7]; rfl, r4.congr (Below.heap_setCell _ ⟨b5, 0, none⟩ _ b4 (by show b4 ≠ b5; omega)), r5.set 0 _⟩⟩
    have HQ4 := Veil.mk q4
    clear q4 q5 r4 r5 hV3 hx2 hbs hlB hl2 q7 hlen
    gi_wp2_with (first
      | (refine wpLRF_ldgv (by kernel_rfl) 32 (.tmp 6) rfl B.heap.size 0 rfl [.int .u8 xa, .int .u32 xb] hr2 uD rfl iX ?_)
      | (refine wpLRF_stv rfl 32 (.tmp 4) _ rfl b4 rfl (cs := [.int .u8 xa, .int .u32 xb]) rfl HQ4.out iX rfl hx1 ?_; rw [← HV3.out])
      | gi_in)
    exact ⟨T1, HQ.out, HM3.out⟩
  case done =>
    intro D xs T' B hD hP hi hdef ht hTD
    obtain ⟨-, q4, q5, q7⟩ := (HI.out _ _ _).1 hi
    have hbs := HBS.out
    have HAT : Veil ((walkA N s).head? = none) := ⟨by rw [← hP, q7]; rfl⟩
    obtain ⟨V3, hV3⟩ : ∃ V3, V3 = B.setRow b4 #[.int .u8 0, .int .u32 0] := ⟨_, rfl⟩
    have r4 : CellsAt V3 b4 32 [.int .u8 0, .int .u32 0] := by rw [hV3]; exact q4.setRow [.int .u8 0, .int .u32 0]
    have r5 : CellsAt V3 b5 4 [.bool false] := by rw [hV3]; exact q5.setRowM _ (by omega)
    have c5 : V3.cell? ⟨b5, 0, none⟩ = some (.bool false) := r5.cell 0
    have f5 := r5.frozen 0
    have s4 : CellsAt (V3.setCell ⟨b5, 0, none⟩ (.bool false)) b4 32 [.int .u8 0, .int .u32 0] := r4.congr (Below.heap_setCell _ ⟨b5, 0, none⟩ _ b4 (by show b4 ≠ b5; omega))
    have s5 : CellsAt (V3.setCell ⟨b5, 0, none⟩ (.bool false)) b5 4 [.bool false] := r5.set 0 _
    have hdef2 : (V3.setCell ⟨b5, 0, none⟩ (.bool false)).heap[D]? = some (.deferred (some [])) := by
      rw [Below.heap_setCell V3 ⟨b5, 0, none⟩ _ D (by show D ≠ b5; omega), hV3, setRow_other _ _ _ _ (by omega)]; exact hdef
    have HEND : Veil (CellsAt ((V3.setCell ⟨b5, 0, none⟩ (.bool false)).putObj D (.deferred none)) b4 32 [.int .u8 0, .int .u32 0] ∧ CellsAt ((V3.setCell ⟨b5, 0, none⟩ (.bool false)).putObj D (.deferred none)) b5 4 [.bool false] ∧ Below w.heap.size w ((V3.setCell ⟨b5, 0, none⟩ (.bool false)).putObj D (.deferred none))) := ⟨s4.congr (World.putObj_heap_other (by omega)), s5.congr (World.putObj_heap_other (by omega)), by
      have hwz := hwA.size
      refine ⟨(by rw [hV3]; exact ht.os.trans hwA.os), (by rw [hV3]; exact ht.tape.trans hwA.tape), (by rw [hV3]; exact ht.output.trans hwA.output), ?_, fun k hk => ?_⟩
      · have h1 := ht.size
        rw [hV3]; simp [World.setRow, World.putObj, World.setCell]; omega
      · rw [World.putObj_heap_other (by omega), Below.heap_setCell V3 ⟨b5, 0, none⟩ _ k (by show k ≠ b5; omega), hV3, setRow_other _ _ _ _ (by omega), ht.block k (by omega) (fun q => by rcases q with (q | q) | q; omega; omega; exact q)]
        exact hwA.block k hk⟩
    have iX : (Try.prog.info? 32).map (·.size) = some [Value.int .u8 0, Value.int .u32 0].length := sizeDot
    have hx1 : ∀ v ∈ [Value.int .u8 0, Value.int .u32 0], v.oneCell' = true := encF_one (0, 0)
    have HV3 := Veil.mk hV3
    have HQ4 := Veil.mk q4
    have HD2 := Veil.mk hdef2
    clear q4 q5 r4 r5 s4 s5 hdef hdef2 hV3 hi hP ht hTD q7 hbs hseq hOwn h4 h5
    gi_wp2_with (first
      | (refine wpLF_stv rfl 32 (.tmp 4) _ rfl b4 rfl (cs := [.int .u8 0, .int .u32 0]) rfl HQ4.out iX rfl hx1 ?_; rw [← HV3.out])
      | gi_in)
    refine ⟨by simp, .inl ⟨_, _, rfl, run_takeDeferred HD2.out, ?_⟩⟩
    exact ⟨_, results_c2 (p := 4) (q := 5) rfl _ rfl rfl HEND.out.1 HEND.out.2.1 Try.underlying32 rfl iX Try.isAgg4, by rw [HAT.out]; rfl, HEND.out.2.2⟩
  case stop =>
    intro D c xs T' B hD hP hi hdef ht hTD
    obtain ⟨rfl, -, x, hxs, q4, q5⟩ := (HX.out _ _ _ _).1 hi
    have hbs := HBS.out
    have HAT : Veil ((walkA N s).head? = some x) := ⟨by
      obtain ⟨t, ht⟩ := hP
      rw [← ht, hxs]; rfl⟩
    have HEND : Veil (CellsAt (B.putObj D (.deferred none)) b4 32 (encF x) ∧ CellsAt (B.putObj D (.deferred none)) b5 4 [.bool true] ∧ Below w.heap.size w (B.putObj D (.deferred none))) := ⟨q4.congr (World.putObj_heap_other (by omega)), q5.congr (World.putObj_heap_other (by omega)), by
      have hwz := hwA.size
      refine ⟨ht.os.trans hwA.os, ht.tape.trans hwA.tape, ht.output.trans hwA.output, ?_, fun k hk => ?_⟩
      · have h1 := ht.size
        simp [World.putObj]; omega
      · rw [World.putObj_heap_other (by omega), ht.block k (by omega) (fun q => by rcases q with (q | q) | q; omega; omega; exact q)]
        exact hwA.block k hk⟩
    have iX : (Try.prog.info? 32).map (·.size) = some (encF x).length := sizeDot
    clear q4 q5 hi hP ht hTD hbs hseq hOwn h4 h5 hxs
    gi_wp2
    refine ⟨by simp, .inl ⟨_, _, rfl, run_takeDeferred hdef, ?_⟩⟩
    exact ⟨_, results_c2 (p := 4) (q := 5) rfl _ rfl rfl HEND.out.1 HEND.out.2.1 Try.underlying32 rfl iX Try.isAgg4, by rw [HAT.out]; rfl, HEND.out.2.2⟩
end Go.Proofs.Ytnmjplngbleopaa
