/- Fg20 -/
import Derived.Test.YtnmjplngbleopaaF23
namespace Go.Proofs.Ytnmjplngbleopaa
open Go.RowKit Go.Shelf
attribute [local go_sem] Oper.semAt_some
set_option maxRecDepth 20000
set_option linter.unusedSimpArgs false
theorem okRoot : okS rootS := ⟨⟨by decide, by decide⟩, ⟨by decide, by decide⟩⟩
theorem results_c2 {P : Program} {fn : Func} {p q : Tmp} {t1 t2 u2 : TypeId} {d : TypeDesc} (h : fn.results = #[.cell p t1, .cell q t2]) (tmps : Array Value) {w : World} {A B : Nat} {cs : List Value} {v : Value} (hp : tmps.getD p undef = .pointer (some ⟨A, 0, none⟩)) (hq : tmps.getD q undef = .pointer (some ⟨B, 0, none⟩)) (hA : CellsAt w A t1 cs) (hB : CellsAt w B u2 [v])
    (hu : P.underlying t1 = some d) (hd : (match d with | .struct _ | .array _ _ => true | _ => false) = true) (hi : (P.info? t1).map (·.size) = some cs.length) (ha : ∀ w, (isAgg t2).run P w = .ok false w) :
    (results fn tmps).run P w = .ok (.tuple #[.agg cs.toArray, v]) w := by
  have hp' : tmps[p]?.getD undef = .pointer (some ⟨A, 0, none⟩) := by simpa using hp
  have hq' : tmps[q]?.getD undef = .pointer (some ⟨B, 0, none⟩) := by simpa using hq
  have hc : w.cell? ⟨B, 0, none⟩ = some v := hB.cell 0
  have hl := run_loadVar_row w A t1 t1 cs.toArray (0, 0) _ hA hu hd (by rw [hi]; simp)
  have hlB : (loadVar t2 ⟨B, 0, none⟩).run P w = .ok v w := by simp [go_sem, hc, ha]
  simp [results, h, hp', hq', asAddr, hl, hlB]
def atN (N : List Nd) (i : Int) : Option (Int × Int) := if i < 0 then none else (wrN N)[i.toNat]?
def atD (o : Option (Int × Int)) : Int × Int := o.getD (0, 0)
def atE (o : Option (Int × Int)) : Int := if o.isSome then 0 else 2
set_option maxHeartbeats 8000000 in
theorem atT2_any (base R bc bn : Nat) (N : List Nd) (V : (Int × Int) × Bool → Value) (hN : TreeOk N) (hlen : N.length ≤ 1000) (i : Int) (w : World) (hTr : TreeAt w base R bc bn N V) :
    Calls Try.prog 30 #[.pointer (some ⟨R, 0, none⟩), .int .i64 i] w fun e w' => e = .returned (.tuple #[.agg (encF (atD (atN N i))).toArray, .int .i64 (atE (atN N i))]) ∧ Below w.heap.size w w' := by
  obtain ⟨W4, hW4⟩ : ∃ W4, W4 = (((w.alloc (.cells #[.int .i64 i] 3)).alloc (.cells #[.int .u8 0, .int .u32 0] 32)).alloc (.cells #[.int .i64 0] 39)).alloc (.cells #[.int .i64 0] 3) := ⟨_, rfl⟩
  have hb4 : Below w.heap.size w W4 := by rw [hW4]; exact ((((Below.refl _ _).alloc (Nat.le_refl _) _).alloc (by simp) _).alloc (by simp; omega) _).alloc (by simp; omega) _
  have hz4 : W4.heap.size = w.heap.size + 4 := by rw [hW4]; simp
  have h3 : CellsAt W4 w.heap.size 3 [.int .i64 i] := by rw [hW4]; exact (((CellsAt.new w 3 [.int .i64 i]).alloc _).alloc _).alloc _
  have h4 : CellsAt W4 (w.heap.size + 1) 32 [.int .u8 0, .int .u32 0] := by
    rw [hW4]
    have := ((CellsAt.new (w.alloc (.cells #[.int .i64 i] 3)) 32 [.int .u8 0, .int .u32 0]).alloc (.cells #[.int .i64 0] 39)).alloc (.cells #[.int .i64 0] 3)
    rw [World.size_alloc] at this; exact this
  have h5 : CellsAt W4 (w.heap.size + 1 + 1) 39 [.int .i64 0] := by
    rw [hW4]
    have := (CellsAt.new ((w.alloc (.cells #[.int .i64 i] 3)).alloc (.cells #[.int .u8 0, .int .u32 0] 32)) 39 [.int .i64 0]).alloc (.cells #[.int .i64 0] 3)
    rw [World.size_alloc, World.size_alloc] at this; exact this
  have h6 : CellsAt W4 (w.heap.size + 1 + 1 + 1) 3 [.int .i64 0] := by
    rw [hW4]
    have := CellsAt.new (((w.alloc (.cells #[.int .i64 i] 3)).alloc (.cells #[.int .u8 0, .int .u32 0] 32)).alloc (.cells #[.int .i64 0] 39)) 3 [.int .i64 0]
    rw [World.size_alloc, World.size_alloc, World.size_alloc] at this; exact this
  have hwr := writtenT_any R W4
  rw [hz4] at hwr
  have HW := Veil.mk hW4
  have HTR := Veil.mk hTr
  have HN := Veil.mk hN
  have HL := Veil.mk hlen
  clear hW4 hTr hN hlen
  refine (callsIn_wide (n := 9)).1 ?_
  refine callsIn_of_wp_marks Try.func30 rfl trivial ?_ rfl
  simp only [Try.ntmps30, List.size_toArray, List.length_cons, List.length_nil, Nat.reduceAdd, Nat.reduceSub, Array.replicate_succ, Array.replicate_zero, List.push_toArray, List.append_toArray, List.nil_append, List.cons_append]
  gi_wp2
  rw [← HW.out]
  refine ⟨trivial, (callsIn_wide.2 hwr).mono ?_⟩
  rintro e A ⟨rfl, hbt, hbA⟩
  have hwA : Below w.heap.size w A := hb4.trans (hbA.mono (by omega))
  have hzA : w.heap.size + 4 < A.heap.size := hbt.lt
  replace h3 := h3.congr (hbA.block _ (by omega))
  replace h4 := h4.congr (hbA.block _ (by omega))
  replace h5 := h5.congr (hbA.block _ (by omega))
  replace h6 := h6.congr (hbA.block _ (by omega))
  have hseq := fun m => written1_seq m base R bc bn (w.heap.size + 4) N V HN.out.rooted HL.out A (HTR.out.far hwA) hbt
  have hOwn : ∀ k, treeP R bc bn V k ∨ k = w.heap.size + 4 → k < A.heap.size ∧ ¬ (k = w.heap.size + 1 ∨ k = w.heap.size + 1 + 1 ∨ k = w.heap.size + 1 + 1 + 1) := fun k hk => by
    rcases hk with q | q
    · have := HTR.out.blockLt k q; omega
    · omega
  clear hwr hb4 hz4 HW hbA hbt
  obtain ⟨bt, hbt⟩ : ∃ q, w.heap.size + 4 = q := ⟨_, rfl⟩
  rw [hbt] at hseq hOwn ⊢
  obtain ⟨b6, hb6⟩ : ∃ q, w.heap.size + 1 + 1 + 1 = q := ⟨_, rfl⟩
  rw [hb6] at h6 hOwn ⊢
  obtain ⟨b5, hb5⟩ : ∃ q, w.heap.size + 1 + 1 = q := ⟨_, rfl⟩
  rw [hb5] at h5 hOwn ⊢
  obtain ⟨b4, hb4⟩ : ∃ q, w.heap.size + 1 = q := ⟨_, rfl⟩
  rw [hb4] at h4 hOwn ⊢
  obtain ⟨b3, hb3⟩ : ∃ q, w.heap.size = q := ⟨_, rfl⟩
  have HBS : Veil (b3 = w.heap.size ∧ b4 = w.heap.size + 1 ∧ b5 = w.heap.size + 2 ∧ b6 = w.heap.size + 3 ∧ bt = w.heap.size + 4 ∧ w.heap.size + 4 < A.heap.size) := ⟨hb3.symm, hb4.symm, hb5.symm, hb6.symm, hbt.symm, hzA⟩
  rw [hb3] at h3
  clear hb4 hb5 hb6 hbt hzA
  try rw [hb3]
  clear hb3
  gi_wp2
  obtain ⟨I, HI⟩ : ∃ I : (Nat → Prop) → List (Int × Int) → World → Prop, Veil (∀ T pre B, I T pre B ↔ ((∀ k, T k ↔ (k = b4 ∨ k = b5 ∨ k = b6)) ∧ CellsAt B b3 3 [.int .i64 i] ∧ CellsAt B b4 32 [.int .u8 0, .int .u32 0] ∧ CellsAt B b5 39 [.int .i64 0] ∧ CellsAt B b6 3 [.int .i64 (pre.length : Nat)] ∧ (i < 0 ∨ (pre.length : Int) ≤ i) ∧ pre.length ≤ 1000)) := ⟨_, ⟨fun _ _ _ => Iff.rfl⟩⟩
  obtain ⟨Ix, HX⟩ : ∃ I : Code → (Nat → Prop) → List (Int × Int) → World → Prop, Veil (∀ c T pre B, I c T pre B ↔ (c = .ret ∧ (∀ k, T k ↔ (k = b4 ∨ k = b5 ∨ k = b6)) ∧ ∃ p0 x, pre = p0 ++ [x] ∧ i = (p0.length : Nat) ∧ CellsAt B b4 32 (encF x) ∧ CellsAt B b5 39 [.int .i64 0])) := ⟨_, ⟨fun _ _ _ _ => Iff.rfl⟩⟩
  have HLW : Veil ((walkA N rootS).length ≤ 1000) := ⟨by rw [HN.out.len]; exact HL.out⟩
  refine wpIn_rangeTl (by omega) rfl (fun _ _ => rfl) (hseq 4) (fun _ => rfl) (fun _ _ _ h _ => h) (fun _ _ _ h _ => h) (fun k => k = b4 ∨ k = b5 ∨ k = b6) (fun k hk => ⟨fun q => (hOwn k q).2 hk, by have := HBS.out; omega⟩) (fun k hk => (hOwn k hk).1)
    I Ix ?stays ?staysx ?zero ?round ?done ?stop
  case stays =>
    intro T s B C hi hs
    obtain ⟨q1, q3, q4, q5, q6, q7⟩ := (HI.out _ _ _).1 hi
    have hk : ∀ k, k < A.heap.size → C.heap[k]? = B.heap[k]? := fun k hk => hs.block k (.inr ⟨hk, id⟩)
    have := HBS.out
    exact (HI.out _ _ _).2 ⟨q1, q3.congr (hk _ (by omega)), q4.congr (hk _ (by omega)), q5.congr (hk _ (by omega)), q6.congr (hk _ (by omega)), q7⟩
  case staysx =>
    intro c T s B C hi hs
    obtain ⟨hc, q1, p0, x, q2, q3, q4, q5⟩ := (HX.out _ _ _ _).1 hi
    have hk : ∀ k, k < A.heap.size → C.heap[k]? = B.heap[k]? := fun k hk => hs.block k (.inr ⟨hk, id⟩)
    have := HBS.out
    exact (HX.out _ _ _ _).2 ⟨hc, q1, p0, x, q2, q3, q4.congr (hk _ (by omega)), q5.congr (hk _ (by omega))⟩
  case zero => exact (HI.out _ _ _).2 ⟨fun k => Iff.rfl, h3, h4, h5, h6, by simp; omega, by simp⟩
  case round =>
    intro l2 r T1 pre x B hi hok hlen hTl hT0 hlr hl2
    obtain ⟨q1, q3, q4, q5, q6, q7, q8⟩ := (HI.out _ _ _).1 hi
    have hlB : l2 < B.heap.size := (Array.getElem?_eq_some_iff.1 hlr).1
    have hbs : b3 < b4 ∧ b4 < b5 ∧ b5 < b6 ∧ b6 < A.heap.size := by have := HBS.out; omega
    obtain ⟨xa, xb⟩ := x
    have hx1 := CellsAt.new B 32 [.int .u8 xa, .int .u32 xb]
    have hb1 : Below B.heap.size B (B.alloc (.cells #[.int .u8 xa, .int .u32 xb] 32)) := (Below.refl _ _).alloc (Nat.le_refl _) _
    have hz1 : (B.alloc (.cells #[.int .u8 xa, .int .u32 xb] 32)).heap.size = B.heap.size + 1 := by simp
    clear hi hok hTl hT0 hlr
    simp only [encF, dotC]
    refine wpR_region (notOut_then notOut_false) (by kernel_rfl) ?_
    go_wp2
    refine ⟨Turn.of_below hb1, ?_⟩
    generalize B.alloc (.cells #[.int .u8 xa, .int .u32 xb] 32) = V1 at hx1 hb1 hz1 ⊢
    have hk2 : ∀ k, k < B.heap.size → k ≠ l2 → (V1.putObj l2 (.loop { r with state := .busy })).heap[k]? = B.heap[k]? := fun k hk hn => (World.putObj_heap_other hn).trans (hb1.block k hk)
    have hx2 : CellsAt (V1.putObj l2 (.loop { r with state := .busy })) B.heap.size 32 [.int .u8 xa, .int .u32 xb] := hx1.congr (World.putObj_heap_other (by omega))
    have hl3 := q3.lt
    have hl4 := q4.lt
    have hl5 := q5.lt
    have hl6 := q6.lt
    replace q3 := q3.congr (hk2 b3 hl3 (by omega))
    replace q4 := q4.congr (hk2 b4 hl4 (by omega))
    replace q5 := q5.congr (hk2 b5 hl5 (by omega))
    replace q6 := q6.congr (hk2 b6 hl6 (by omega))
    have hz2 : (V1.putObj l2 (.loop { r with state := .busy })).heap.size = B.heap.size + 1 := by simp [World.putObj, hz1]
    generalize V1.putObj l2 (.loop { r with state := .busy }) = V2 at hx2 hk2 q3 q4 q5 q6 hz2 ⊢
    have HT1 : Veil (∀ k, T1 k ↔ (k = b4 ∨ k = b5 ∨ k = b6)) := ⟨q1⟩
    have HZ : Veil (b4 < V2.heap.size ∧ b5 < V2.heap.size ∧ b6 < V2.heap.size) := ⟨by omega⟩
    clear hk2 hx1 hb1 hz1 q1 hl3 hl4 hl5 hl6 hz2
    obtain ⟨V3, hV3⟩ : ∃ V3, V3 = V2.setRow b4 #[.int .u8 xa, .int .u32 xb] := ⟨_, rfl⟩
    have r4 : CellsAt V3 b4 32 [.int .u8 xa, .int .u32 xb] := by rw [hV3]; exact q4.setRow [.int .u8 xa, .int .u32 xb]
    have r5 : CellsAt V3 b5 39 [.int .i64 0] := by rw [hV3]; exact q5.setRowM _ (by omega)
    have c3 : V2.cell? ⟨b3, 0, none⟩ = some (.int .i64 i) := q3.cell 0
    have c6 : V2.cell? ⟨b6, 0, none⟩ = some (.int .i64 (pre.length : Nat)) := q6.cell 0
    have f6 := q6.frozen 0
    have c5 : V3.cell? ⟨b5, 0, none⟩ = some (.int .i64 0) := r5.cell 0
    have f5 := r5.frozen 0
    have hr2 := hx2.wholeM
    have uD := Try.underlying32
    have iX : (Try.prog.info? 32).map (·.size) = some [Value.int .u8 xa, Value.int .u32 xb].length := sizeDot
    have hx1 : ∀ v ∈ [Value.int .u8 xa, Value.int .u32 xb], v.oneCell' = true := encF_one (xa, xb)
    have HV3 := Veil.mk hV3
    have HR : Veil (CellsAt (V3.setCell ⟨b5, 0, none⟩ (.int .i64 0)) b4 32 [.int .u8 xa, .int .u32 xb] ∧ CellsAt (V3.setCell ⟨b5, 0, none⟩ (.int .i64 0)) b5 39 [.int .i64 0]) := ⟨r4.congr (Below.heap_setCell _ ⟨b5, 0, none⟩ _ b4 (by show b4 ≠ b5; omega)), r5.set 0 _⟩
    have HM3 : Veil (MovesT T1 V2 T1 (V3.setCell ⟨b5, 0, none⟩ (.int .i64 0))) := ⟨⟨by rw [hV3]; rfl, by rw [hV3]; rfl, by rw [hV3]; rfl, by rw [hV3]; simp [World.setRow, World.putObj, World.setCell], fun k hk hn => by
      rw [Below.heap_setCell V3 ⟨b5, 0, none⟩ _ k (fun e => hn ((HT1.out k).2 (.inr (.inl e)))), hV3, setRow_other _ _ _ _ (fun e => hn ((HT1.out k).2 (.inl e)))]⟩, fun k hk => ⟨.inl hk, by
      have h2 : (V3.setCell ⟨b5, 0, none⟩ (.int .i64 0)).heap.size = V2.heap.size := by rw [hV3]; simp [World.setRow, World.putObj, World.setCell]
      rw [h2]
      rcases (HT1.out k).1 hk with q | q | q
      · rw [q]; exact HZ.out.1
      · rw [q]; exact HZ.out.2.1
      · rw [q]; exact HZ.out.2.2⟩⟩
    have HM6 : Veil (∀ v, MovesT T1 V2 T1 (V2.setCell ⟨b6, 0, none⟩ v)) := ⟨fun v => ⟨Turn.of_setCell V2 (a := ⟨b6, 0, none⟩) ((HT1.out b6).2 (.inr (.inr rfl))) v, fun k hk => ⟨.inl hk, by
      rw [show (V2.setCell ⟨b6, 0, none⟩ v).heap.size = V2.heap.size by simp [World.setCell]]
      rcases (HT1.out k).1 hk with q | q | q
      · rw [q]; exact HZ.out.1
      · rw [q]; exact HZ.out.2.1
      · rw [q]; exact HZ.out.2.2⟩⟩⟩
    have HI6 : Veil ((i < 0 ∨ (pre.length : Int) + 1 ≤ i) → pre.length < 1000 → I T1 (pre ++ [(xa, xb)]) (V2.setCell ⟨b6, 0, none⟩ (.int .i64 ((pre.length : Int) + 1)))) := ⟨fun h1 h2 => (HI.out _ _ _).2 ⟨HT1.out, q3.congr (Below.heap_setCell _ ⟨b6, 0, none⟩ _ b3 (by show b3 ≠ b6; omega)), q4.congr (Below.heap_setCell _ ⟨b6, 0, none⟩ _ b4 (by show b4 ≠ b6; omega)), q5.congr (Below.heap_setCell _ ⟨b6, 0, none⟩ _ b5 (by show b5 ≠ b6; omega)), by
      have := q6.set 0 (.int .i64 ((pre.length : Int) + 1))
      rw [List.length_append, List.length_singleton]
      push_cast
      exact this, by rw [List.length_append, List.length_singleton]; push_cast; exact h1, by rw [List.length_append, List.length_singleton]; omega⟩⟩
    have hln : pre.length < 1000 := by have := HLW.out; omega
    have HQ4 := Veil.mk q4
    have HX2 := Veil.mk hx2
    clear q3 q4 q5 q6 r4 r5 hV3 hx2 hbs hlB hl2
    by_cases hfd : (pre.length : Int) = i
    · have hbe : ((pre.length : Int) == i) = true := by simpa using hfd
      have HQ : Veil (Ix .ret T1 (pre ++ [(xa, xb)]) (V3.setCell ⟨b5, 0, none⟩ (.int .i64 0))) := ⟨(HX.out _ _ _ _).2 ⟨rfl, HT1.out, pre, (xa, xb), rfl, hfd.symm, HR.out⟩⟩
      clear hfd HI6 HM6 q7 hlen
      gi_wp2_with (first
        | (refine wpLRF_ldgv (by kernel_rfl) 32 (.tmp 7) rfl B.heap.size 0 rfl [.int .u8 xa, .int .u32 xb] hr2 uD rfl iX ?_)
        | (refine wpLRF_stv rfl 32 (.tmp 4) _ rfl b4 rfl (cs := [.int .u8 xa, .int .u32 xb]) rfl HQ4.out iX rfl hx1 ?_; rw [← HV3.out])
        | gi_in)
      exact ⟨T1, HQ.out, HM3.out⟩
    · have hbe : ((pre.length : Int) == i) = false := by simpa using hfd
      have hww : IntKind.i64.wrap ((pre.length : Int) + 1) = (pre.length : Int) + 1 := by rw [IntKind.wrap_i64]; omega
      have HQ := Veil.mk (HI6.out (by omega) hln)
      clear hfd HI6 q7 hlen hln q8
      gi_wp2
      exact ⟨T1, HQ.out, HM6.out _⟩
  case done =>
    intro D xs T' B hD hP hi hdef ht hTD
    obtain ⟨-, -, q4, q5, -, q7, -⟩ := (HI.out _ _ _).1 hi
    have hbs : b3 < b4 ∧ b4 < b5 ∧ b5 < b6 ∧ b6 < A.heap.size := by have := HBS.out; omega
    have HAT : Veil (atD (atN N i) = (0, 0) ∧ atE (atN N i) = 2) := by
      have : atN N i = none := by
        unfold atN
        split
        · rfl
        · rw [List.getElem?_eq_none_iff, ← hP]; omega
      rw [this]; exact ⟨rfl, rfl⟩
    obtain ⟨V3, hV3⟩ : ∃ V3, V3 = B.setRow b4 #[.int .u8 0, .int .u32 0] := ⟨_, rfl⟩
    have r4 : CellsAt V3 b4 32 [.int .u8 0, .int .u32 0] := by rw [hV3]; exact q4.setRow [.int .u8 0, .int .u32 0]
    have r5 : CellsAt V3 b5 39 [.int .i64 0] := by rw [hV3]; exact q5.setRowM _ (by omega)
    have c5 : V3.cell? ⟨b5, 0, none⟩ = some (.int .i64 0) := r5.cell 0
    have f5 := r5.frozen 0
    have s4 : CellsAt (V3.setCell ⟨b5, 0, none⟩ (.int .i64 2)) b4 32 [.int .u8 0, .int .u32 0] := r4.congr (Below.heap_setCell _ ⟨b5, 0, none⟩ _ b4 (by show b4 ≠ b5; omega))
    have s5 : CellsAt (V3.setCell ⟨b5, 0, none⟩ (.int .i64 2)) b5 39 [.int .i64 2] := r5.set 0 _
    have hdef2 : (V3.setCell ⟨b5, 0, none⟩ (.int .i64 2)).heap[D]? = some (.deferred (some [])) := by
      rw [Below.heap_setCell V3 ⟨b5, 0, none⟩ _ D (by show D ≠ b5; omega), hV3, setRow_other _ _ _ _ (by omega)]; exact hdef
    have HEND : Veil (CellsAt ((V3.setCell ⟨b5, 0, none⟩ (.int .i64 2)).putObj D (.deferred none)) b4 32 [.int .u8 0, .int .u32 0] ∧ CellsAt ((V3.setCell ⟨b5, 0, none⟩ (.int .i64 2)).putObj D (.deferred none)) b5 39 [.int .i64 2] ∧ Below w.heap.size w ((V3.setCell ⟨b5, 0, none⟩ (.int .i64 2)).putObj D (.deferred none))) := ⟨s4.congr (World.putObj_heap_other (by omega)), s5.congr (World.putObj_heap_other (by omega)), by
      have hb := HBS.out
      refine ⟨(by rw [hV3]; exact ht.os.trans hwA.os), (by rw [hV3]; exact ht.tape.trans hwA.tape), (by rw [hV3]; exact ht.output.trans hwA.output), ?_, fun k hk => ?_⟩
      · have h1 := ht.size
        rw [hV3]; simp [World.setRow, World.putObj, World.setCell]; omega
      · rw [World.putObj_heap_other (by omega), Below.heap_setCell V3 ⟨b5, 0, none⟩ _ k (by show k ≠ b5; omega), hV3, setRow_other _ _ _ _ (by omega), ht.block k (by omega) (fun q => by rcases q with (q | q | q) | q; omega; omega; omega; exact q)]
        exact hwA.block k hk⟩
    have iX : (Try.prog.info? 32).map (·.size) = some [Value.int .u8 0, Value.int .u32 0].length := sizeDot
    have hx1 : ∀ v ∈ [Value.int .u8 0, Value.int .u32 0], v.oneCell' = true := encF_one (0, 0)
    have HV3 := Veil.mk hV3
    have HQ4 := Veil.mk q4
    have HD2 := Veil.mk hdef2
    clear q4 q5 r4 r5 s4 s5 hdef hdef2 hV3 hi hP ht hTD q7 hbs hseq hOwn h3 h4 h5 h6
    gi_wp2_with (first
      | (refine wpLF_stv rfl 32 (.tmp 4) _ rfl b4 rfl (cs := [.int .u8 0, .int .u32 0]) rfl HQ4.out iX rfl hx1 ?_; rw [← HV3.out])
      | gi_in)
    refine ⟨by simp, .inl ⟨_, _, rfl, run_takeDeferred HD2.out, ?_⟩⟩
    exact ⟨_, results_c2 (p := 4) (q := 5) rfl _ rfl rfl HEND.out.1 HEND.out.2.1 Try.underlying32 rfl iX Try.isAgg39, by rw [HAT.out.1, HAT.out.2]; rfl, HEND.out.2.2⟩
  case stop =>
    intro D c xs T' B hD hP hi hdef ht hTD
    obtain ⟨rfl, -, p0, x, hxs, hii, q4, q5⟩ := (HX.out _ _ _ _).1 hi
    have hbs : b3 < b4 ∧ b4 < b5 ∧ b5 < b6 ∧ b6 < A.heap.size := by have := HBS.out; omega
    have HAT : Veil (atD (atN N i) = x ∧ atE (atN N i) = 0) := by
      have : atN N i = some x := by
        unfold atN
        rw [if_neg (by omega), hii, Int.toNat_natCast]
        obtain ⟨t, ht⟩ := hP
        rw [← ht, hxs, List.append_assoc, List.getElem?_append_right (Nat.le_refl _)]
        simp
      rw [this]; exact ⟨rfl, rfl⟩
    have HEND : Veil (CellsAt (B.putObj D (.deferred none)) b4 32 (encF x) ∧ CellsAt (B.putObj D (.deferred none)) b5 39 [.int .i64 0] ∧ Below w.heap.size w (B.putObj D (.deferred none))) := ⟨q4.congr (World.putObj_heap_other (by omega)), q5.congr (World.putObj_heap_other (by omega)), by
      have hb := HBS.out
      refine ⟨ht.os.trans hwA.os, ht.tape.trans hwA.tape, ht.output.trans hwA.output, ?_, fun k hk => ?_⟩
      · have h1 := ht.size
        simp [World.putObj]; omega
      · rw [World.putObj_heap_other (by omega), ht.block k (by omega) (fun q => by rcases q with (q | q | q) | q; omega; omega; omega; exact q)]
        exact hwA.block k hk⟩
    have iX : (Try.prog.info? 32).map (·.size) = some (encF x).length := sizeDot
    clear q4 q5 hi hP ht hTD hbs hseq hOwn h3 h4 h5 h6 hxs hii
    gi_wp2
    refine ⟨by simp, .inl ⟨_, _, rfl, run_takeDeferred hdef, ?_⟩⟩
    exact ⟨_, results_c2 (p := 4) (q := 5) rfl _ rfl rfl HEND.out.1 HEND.out.2.1 Try.underlying32 rfl iX Try.isAgg39, by rw [HAT.out.1, HAT.out.2], HEND.out.2.2⟩
end Go.Proofs.Ytnmjplngbleopaa
