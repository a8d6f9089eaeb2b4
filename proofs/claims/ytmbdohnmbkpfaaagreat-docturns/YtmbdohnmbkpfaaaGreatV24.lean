/- Fg23 StrC Fg24 Dc1 De0 Alv -/
import Derived.Test.YtmbdohnmbkpfaaaGreatV23
import Derived.Test.YtmbdohnmbkpfaaaGreatV15
import Derived.Test.YtmbdohnmbkpfaaaGreatV19
import Derived.Test.YtmbdohnmbkpfaaaGreatV12
import Derived.Test.YtmbdohnmbkpfaaaGreatV18
namespace Go.Proofs.YtmbdohnmbkpfaaaGreat
open Go.RowKit Go.Shelf
attribute [local go_sem] Oper.semAt_some
set_option maxRecDepth 20000
set_option linter.unusedSimpArgs false
theorem infoU8f : (Tryz.prog.info? 5).map (fun i => (i.zero, i.size, i.bytes)) = some (some (.int .u8 0), 1, 1) := by kernel_rfl
def chrC (N : List Nd) (x : Int × Int) : List Value := [.int .u8 (chr0 N x)]
def textN (N : List Nd) : List Int := (wrN N).map (chr0 N)
set_option maxHeartbeats 8000000 in
theorem textT_any (base R bc bn : Nat) (N : List Nd) (V : (Int × Int) × Bool → Value) (hN : TreeOk N) (hlen : N.length ≤ 1000) (w : World) (hTr : TreeAt w base R bc bn N V) :
    Calls Tryz.prog 46 #[.pointer (some ⟨R, 0, none⟩)] w fun e w' => ∃ v, e = .returned v ∧ OwnI w' w.heap.size 5 1 v ((wrN N).map (chrC N)) ∧ Below w.heap.size w w' := by
 obtain ⟨W4, hW4⟩ : ∃ W4, W4 = (w.alloc (.cells #[.pointer (some ⟨R, 0, none⟩)] 69)).alloc (.cells #[.slice none 0 0] 30) := ⟨_, rfl⟩
 have hb4 : Below w.heap.size w W4 := by rw [hW4]; exact ((Below.refl _ _).alloc (Nat.le_refl _) _).alloc (by simp) _
 have hz4 : W4.heap.size = w.heap.size + 2 := by rw [hW4]; simp
 have h1 : CellsAt W4 w.heap.size 69 [.pointer (some ⟨R, 0, none⟩)] := by rw [hW4]; exact (CellsAt.new w 69 [.pointer (some ⟨R, 0, none⟩)]).alloc _
 have h3 : CellsAt W4 (w.heap.size + 1) 30 [.slice none 0 0] := by
  rw [hW4]
  have := CellsAt.new (w.alloc (.cells #[.pointer (some ⟨R, 0, none⟩)] 69)) 30 [.slice none 0 0]
  rw [World.size_alloc] at this; exact this
 have hwr := writtenT_any R W4
 rw [hz4] at hwr
 have c1 : W4.cell? ⟨w.heap.size, 0, none⟩ = some (.pointer (some ⟨R, 0, none⟩)) := h1.cell 0
 have HW := Veil.mk hW4
 have HTR := Veil.mk hTr
 have HN := Veil.mk hN
 have HL := Veil.mk hlen
 rw [hW4] at c1
 clear hW4 hTr hN hlen
 refine (callsIn_wide (n := 9)).1 ?_
 refine callsIn_of_wp_marks Tryz.func46 rfl trivial ?_ rfl
 simp only [Tryz.ntmps46, List.size_toArray, List.length_cons, List.length_nil, Nat.reduceAdd, Nat.reduceSub, Array.replicate_succ, Array.replicate_zero, List.push_toArray, List.append_toArray, List.nil_append, List.cons_append]
 gi_wp2
 rw [← HW.out]
 clear c1
 refine ⟨trivial, (callsIn_wide.2 hwr).mono ?_⟩
 rintro e A ⟨rfl, hbt, hbA⟩
 have hwA : Below w.heap.size w A := hb4.trans (hbA.mono (by omega))
 have hzA : w.heap.size + 2 < A.heap.size := hbt.lt
 replace h1 := h1.congr (hbA.block _ (by omega))
 replace h3 := h3.congr (hbA.block _ (by omega))
 have hTA := HTR.out.far hwA
 have hseq := fun m => written1_seq m base R bc bn (w.heap.size + 2) N V HN.out.rooted HL.out A hTA hbt
 have hOwn : ∀ k, treeP R bc bn V k ∨ k = w.heap.size + 2 → k < A.heap.size ∧ ¬ (k = w.heap.size + 1) := fun k hk => by
  rcases hk with q | q
  · have := HTR.out.blockLt k q; omega
  · omega
 have HTA : Veil (TreeAt A base R bc bn N V ∧ ∀ k, treeP R bc bn V k → k < w.heap.size) := ⟨hTA, fun k hk => HTR.out.blockLt k hk⟩
 clear hwr hb4 hz4 HW hbA hbt hTA
 obtain ⟨bt, hbt⟩ : ∃ q, w.heap.size + 2 = q := ⟨_, rfl⟩
 rw [hbt] at hseq hOwn ⊢
 obtain ⟨b3, hb3⟩ : ∃ q, w.heap.size + 1 = q := ⟨_, rfl⟩
 rw [hb3] at h3 hOwn ⊢
 obtain ⟨b1, hb1⟩ : ∃ q, w.heap.size = q := ⟨_, rfl⟩
 have HBS : Veil (w.heap.size ≤ b1 ∧ b1 < b3 ∧ b3 < A.heap.size) := ⟨by omega⟩
 rw [hb1] at h1
 try rw [hb1]
 clear hbt hb3 hzA hb1
 gi_wp2
 obtain ⟨I, HI⟩ : ∃ I : (Nat → Prop) → List (Int × Int) → World → Prop, Veil (∀ T pre B, I T pre B ↔ ∃ v, (∀ k, T k ↔ (k = b3 ∨ v.ownBlock = some k)) ∧ CellsAt B b3 30 [v] ∧ OwnI B A.heap.size 5 1 v (pre.map (chrC N)) ∧ pre.length ≤ 1000 ∧ ∀ k, k < A.heap.size → k ≠ b3 → B.heap[k]? = A.heap[k]?) := ⟨_, ⟨fun _ _ _ => Iff.rfl⟩⟩
 have HLW : Veil ((walkA N rootS).length ≤ 1000) := ⟨by rw [HN.out.len]; exact HL.out⟩
 refine wpIn_rangeTl (by omega) rfl (fun _ _ => rfl) (hseq 4) (fun _ => rfl) (fun _ _ _ h _ => h) (fun _ _ _ h _ => h) (fun k => k = b3) (fun k hk => ⟨fun q => (hOwn k q).2 hk, by have := HBS.out; omega⟩) (fun k hk => (hOwn k hk).1)
  I (fun _ _ _ _ => False) ?stays (fun _ _ _ _ _ h _ => h) ?zero ?round ?done ?stop
 case stays =>
  intro T s B C hi hs
  obtain ⟨v, q1, q3, q4, q5, q6⟩ := (HI.out _ _ _).1 hi
  have hk : ∀ k, k < A.heap.size → C.heap[k]? = B.heap[k]? := fun k hk => hs.block k (.inr ⟨hk, id⟩)
  have := HBS.out
  exact (HI.out _ _ _).2 ⟨v, q1, q3.congr (hk _ (by omega)), q4.congr (fun g hg => hs.block g (.inl ((q1 g).2 (.inr hg)))), q5, fun k h1 h2 => (hk k h1).trans (q6 k h1 h2)⟩
 case zero => exact (HI.out _ _ _).2 ⟨.slice none 0 0, fun k => by simp [Value.ownBlock], h3, OwnI.nil _ _ _ _, by simp, fun _ _ _ => rfl⟩
 case stop => intro D c xs T W hD _ h; exact h.elim
 case round =>
  intro l2 r T1 pre x B hi hok hlen hTl hT0 hlr hl2
  obtain ⟨v, q1, q3, q4, q5, q6⟩ := (HI.out _ _ _).1 hi
  have hlB : l2 < B.heap.size := (Array.getElem?_eq_some_iff.1 hlr).1
  have hbs := HBS.out
  have HLOOK : Veil (∀ wx, MapX Tryz.prog 40 encDF okDF wx bc N.length (chrM N) → (Instr.lookup 110 (.map (some bc)) (.agg (encF x).toArray) false).run Tryz.prog wx = .ok (.int .u8 (chr0 N x)) wx) := ⟨fun wx h => by
   have := h.g.get keyEncDF Tryz.underlying110 (z := .int .u8 0) (by kernel_rfl) x hok
   rw [chrM_getD] at this
   exact this⟩
  have HMP : Veil ((pre ++ [x]).map (chrC N) = pre.map (chrC N) ++ [[.int .u8 (chr0 N x)]]) := ⟨by rw [List.map_append]; rfl⟩
  obtain ⟨c, hc⟩ : ∃ q, chr0 N x = q := ⟨_, rfl⟩
  rw [hc] at HLOOK HMP
  clear hc
  obtain ⟨xa, xb⟩ := x
  have hx1 := CellsAt.new B 40 [.int .u8 xa, .int .u32 xb]
  have hb1 : Below B.heap.size B (B.alloc (.cells #[.int .u8 xa, .int .u32 xb] 40)) := (Below.refl _ _).alloc (Nat.le_refl _) _
  have hz1 : (B.alloc (.cells #[.int .u8 xa, .int .u32 xb] 40)).heap.size = B.heap.size + 1 := by simp
  have hnl : ∀ g, v.ownBlock = some g → g ≠ l2 := fun g hg e => by
   obtain ⟨_, _, cur, h2⟩ := q4.blockLt g hg
   rw [e, hlr] at h2; cases h2
  clear hi hok hTl hT0 hlr
  simp only [encF, dotC] at HLOOK ⊢
  refine wpR_region (notOut_then notOut_false) (by kernel_rfl) ?_
  go_wp2
  refine ⟨Turn.of_below hb1, ?_⟩
  generalize B.alloc (.cells #[.int .u8 xa, .int .u32 xb] 40) = V1 at hx1 hb1 hz1 ⊢
  have hk2 : ∀ k, k < B.heap.size → k ≠ l2 → (V1.putObj l2 (.loop { r with state := .busy })).heap[k]? = B.heap[k]? := fun k hk hn => (World.putObj_heap_other hn).trans (hb1.block k hk)
  have hx2 : CellsAt (V1.putObj l2 (.loop { r with state := .busy })) B.heap.size 40 [.int .u8 xa, .int .u32 xb] := hx1.congr (World.putObj_heap_other (by omega))
  have hl3 := q3.lt
  replace q3 := q3.congr (hk2 b3 hl3 (by omega))
  have hq4l := fun g hg => (q4.blockLt g hg).1
  replace q4 := q4.congr (fun g hg => hk2 g (hq4l g hg) (hnl g hg))
  have hz2 : (V1.putObj l2 (.loop { r with state := .busy })).heap.size = B.heap.size + 1 := by simp [World.putObj, hz1]
  replace q6 : ∀ k, k < A.heap.size → k ≠ b3 → (V1.putObj l2 (.loop { r with state := .busy })).heap[k]? = A.heap[k]? := fun k h1 h2 => (hk2 k (by omega) (by omega)).trans (q6 k h1 h2)
  generalize V1.putObj l2 (.loop { r with state := .busy }) = V2 at hx2 hk2 q3 q4 q6 hz2 ⊢
  have hAB : A.heap.size + 1 < B.heap.size := by omega
  have HT1 : Veil (∀ k, T1 k ↔ (k = b3 ∨ v.ownBlock = some k)) := ⟨q1⟩
  -- the byte alone, then appended
  obtain ⟨V3, hV3⟩ : ∃ V3, V3 = (V2.alloc (.cells #[.int .u8 c] 5)).drew := ⟨_, rfl⟩
  have hb3 : Below V2.heap.size V2 V3 := by rw [hV3]; exact ((Below.refl _ _).alloc (Nat.le_refl _) _).drew
  have hc3 : CellsAt V3 V2.heap.size 5 [.int .u8 c] := by rw [hV3]; exact (CellsAt.new V2 5 [.int .u8 c]).congr rfl
  obtain ⟨v2, W4, hrun, ho4, hg4, hb4⟩ := (q4.far hb3).app (P := Tryz.prog) 30 30 Tryz.underlying30 infoU8f rfl (by decide) [.int .u8 c] rfl (by simp; rfl) V2.heap.size hc3.wholeM (by rw [List.length_map]; omega) (by decide) (by have := hb3.size; omega)
  have hz3 := hb3.size
  have hz4 := hg4.size
  have hvn : ∀ k, k < A.heap.size → v.ownBlock ≠ some k := fun k hk e => by have := (q4.blockLt k e).2.1; omega
  have q34 : CellsAt W4 b3 30 [v] := (q3.congr (hb3.block b3 (by omega))).congr (hg4.block b3 (by omega) (fun e => hvn b3 (by omega) e.symm))
  have HEND : Veil (I (fun k => k = b3 ∨ v2.ownBlock = some k) (pre ++ [(xa, xb)]) (W4.setCell ⟨b3, 0, none⟩ v2) ∧ MovesT T1 V2 (fun k => k = b3 ∨ v2.ownBlock = some k) (W4.setCell ⟨b3, 0, none⟩ v2)) := by
   have hsz : (W4.setCell ⟨b3, 0, none⟩ v2).heap.size = W4.heap.size := by simp [World.setCell]
   refine ⟨(HI.out _ _ _).2 ⟨v2, fun k => Iff.rfl, q34.set 0 v2, ?_, by simp; have := HLW.out; omega, fun k h1 h2 => ?_⟩, ⟨?_, fun k hk => ?_⟩⟩
   · rw [HMP.out]
     exact ho4.congr (fun g hg => Below.heap_setCell _ ⟨b3, 0, none⟩ _ _ (fun e => by have := (ho4.blockLt g hg).2.1; simp at e; omega))
   · rw [Below.heap_setCell W4 ⟨b3, 0, none⟩ _ k h2, hg4.block k (by omega) (fun e => hvn k h1 e.symm), hb3.block k (by omega)]
     exact q6 k h1 h2
   · exact ((Turn.of_below hb3).trans (Turn.of_grown hg4 (fun k e => (HT1.out k).2 (.inr e)))).trans (Turn.of_setCell _ ((HT1.out b3).2 (.inl rfl)) _)
   · rw [hsz]
     rcases hk with rfl | e
     · exact ⟨.inl ((HT1.out k).2 (.inl rfl)), by omega⟩
     · refine ⟨?_, (ho4.blockLt k e).1⟩
       rcases hb4 with q | q
       · rw [q] at e; exact .inl ((HT1.out k).2 (.inr e))
       · rw [q] at e
         obtain rfl := Option.some.inj e
         exact .inr (by omega)
  have HS : ∀ V', (∀ k, k < A.heap.size → k ≠ b3 → V'.heap[k]? = A.heap[k]?) → CellsAt V' b3 30 [v] → CellsAt V' B.heap.size 40 [.int .u8 xa, .int .u32 xb] → (fun w' : World => w'.cell? ⟨b3, 0, none⟩ = some v ∧ w'.cell? ⟨b1, 0, none⟩ = some (.pointer (some ⟨R, 0, none⟩)) ∧ w'.cell? ⟨R, 0, none⟩ = some (.map (some bc)) ∧ w'.rangeAt B.heap.size 0 [.int .u8 xa, .int .u32 xb] ∧ MapX Tryz.prog 40 encDF okDF w' bc N.length (chrM N)) V' := fun V' hk hcv hcx => by
   have hT3 : TreeAt V' base R bc bn N V := HTA.out.1.congr fun k q => hk k (by have := HTA.out.2 k q; omega) (by have := HTA.out.2 k q; omega)
   exact ⟨hcv.cell 0, (h1.congr (hk b1 (by omega) (by omega))).cell 0, hT3.box.cell 0, hcx.wholeM, hT3.chars⟩
  have hS := HS V2.drew (fun k h1 h2 => q6 k h1 h2) (q3.congr rfl) (hx2.congr rfl)
  have hS3 := HS V3 (fun k h1 h2 => (hb3.block k (by omega)).trans (q6 k h1 h2)) (q3.congr (hb3.block b3 (by omega))) (hx2.farM hb3)
  have hS4 := HS W4 (fun k h1 h2 => ((hg4.block k (by omega) (fun e => hvn k h1 e.symm)).trans (hb3.block k (by omega))).trans (q6 k h1 h2)) q34 ((hx2.farM hb3).congr (hg4.block _ (by have := hx2.lt; omega) (fun e => by have := hq4l _ e.symm; omega)))
  have c4 : W4.cell? ⟨b3, 0, none⟩ = some v := q34.cell 0
  have f4 := q34.frozen 0
  have uD := Tryz.underlying40
  have iX : (Tryz.prog.info? 40).map (·.size) = some [Value.int .u8 xa, Value.int .u32 xb].length := sizeDot
  obtain ⟨sx, sc, hv⟩ := q4.isSlice
  obtain ⟨sn, hsn⟩ : ∃ q, (pre.map (chrC N)).length = q := ⟨_, rfl⟩
  rw [hsn] at hv
  have HV3 := Veil.mk hV3
  obtain ⟨s2x, s2c, hv2⟩ := ho4.isSlice
  rw [List.length_append, hsn] at hv2
  clear hV3 hb3 hc3 ho4 hg4 hb4 q34 HS q3 q4 q6 hx2 hk2 hz2 hz3 hz4 hvn hl3 hq4l hnl hAB hbs hlB hx1 hb1 hz1 q1 hlen HT1 hsn
  subst hv hv2
  refine wpIn_block ?_
  refine wpR_gate (fun w' : World => w'.cell? ⟨b3, 0, none⟩ = some (.slice sx sn sc) ∧ w'.cell? ⟨b1, 0, none⟩ = some (.pointer (some ⟨R, 0, none⟩)) ∧ w'.cell? ⟨R, 0, none⟩ = some (.map (some bc)) ∧ w'.rangeAt B.heap.size 0 [.int .u8 xa, .int .u32 xb] ∧ MapX Tryz.prog 40 encDF okDF w' bc N.length (chrM N)) 9 (by kernel_rfl) (fun ⟨_, _, q⟩ => q) (by kernel_rfl) ?_
  refine grA 0 _ hS ?_
  simp only [Act.put, gA, gS, gZ, sI, sZ, sS]
  refine grA 1 _ hS ?_
  simp only [Act.put, gA, gS, gZ, sI, sZ, sS]
  refine gaA 2 _ hS ?_
  simp only [Act.put, gA, gS, gZ, sI, sZ, sS]
  refine gaA 3 _ hS ?_
  simp only [Act.put, gA, gS, gZ, sI, sZ, sS]
  refine grA 4 _ hS ?_
  simp only [Act.put, gA, gS, gZ, sI, sZ, sS]
  refine wpAnyG_load (i := 5) (dst := some 15) (ty := 40) (x := .tmp 4) (b := B.heap.size) (o := (0)) (cs := [.int .u8 xa, .int .u32 xb]) (by kernel_rfl) (by kernel_rfl) (by kernel_rfl) (by kernel_rfl) (by kernel_rfl) (fun _ _ _ h => h) (by kernel_rfl) (by kernel_rfl) (by kernel_rfl) hS (by kernel_rfl) (fun _ h => h.2.2.2.1) uD rfl iX ?_
  simp only [Act.put, gA, gS, gZ, sI, sZ, sS]
  refine wpAnyG_read (i := 6) (v := (.int .u8 c)) rfl (by kernel_rfl) (by kernel_rfl) (by kernel_rfl) (fun _ _ _ h => h) (by kernel_rfl) (by kernel_rfl) (by kernel_rfl) hS (by kernel_rfl) (fun wx h => exec_lookF rfl rfl rfl (HLOOK.out wx h.2.2.2.2)) ?_
  simp only [Act.put, gA, gS, gZ, sI, sZ, sS]
  refine wpAnyG_one (i := 7) rfl (by kernel_rfl) (by kernel_rfl) (fun K hK => ?_)
  go_simp
  rw [← HV3.out]
  replace hS := hS3
  refine hK.out _ _ (fun _ => hS) ?_
  clear hK K
  try simp only [Act.put, gA, gS, gZ, sI, sZ, sS]
  refine wpAnyG_one (i := 8) rfl (by kernel_rfl) (by kernel_rfl) (fun K hK => ?_)
  refine wpx_app _ _ _ _ rfl _ _ _ W4 rfl rfl hrun ?_
  replace hS := hS4
  refine hK.out _ _ (fun _ => hS) ?_
  clear hK K
  try simp only [Act.put, gA, gS, gZ, sI, sZ, sS]
  refine wpAnyG_one (i := 9) rfl (by kernel_rfl) (by kernel_rfl) (fun K hK => ?_)
  go_simp
  refine hK.out _ _ (fun h => absurd (show true = false from h) (by decide)) ?_
  clear hK K
  try simp only [Act.put, gA, gS, gZ, sI, sZ, sS]
  refine wpAnyG_done (by kernel_rfl) ?_ _
  clear hS hS3 hS4 hrun c4 f4 HLOOK
  gi_wp2
  exact ⟨_, HEND.out.1, HEND.out.2⟩
 case done =>
  intro D xs T' B hD hP hi hdef ht hTD
  obtain ⟨v, q1, q3, q4, q5, q6⟩ := (HI.out _ _ _).1 hi
  have hbs := HBS.out
  have c3 : B.cell? ⟨b3, 0, none⟩ = some v := q3.cell 0
  have HEND : Veil (OwnI (B.putObj D (.deferred none)) w.heap.size 5 1 v ((wrN N).map (chrC N)) ∧ Below w.heap.size w (B.putObj D (.deferred none))) := by
   have hwz := hwA.size
   refine ⟨?_, ht.os.trans hwA.os, ht.tape.trans hwA.tape, ht.output.trans hwA.output, ?_, fun k hk => ?_⟩
   · rw [← hP]
     exact (q4.congr (fun g hg => World.putObj_heap_other (fun e => hTD ((q1 D).2 (.inr (by rw [hg, e])))))).less (by omega)
   · have h1 := ht.size
     simp [World.putObj]; omega
   · rw [World.putObj_heap_other (by omega), ht.block k (by omega) (fun q => by rcases q with q | q; omega; exact q)]
     exact hwA.block k hk
  obtain ⟨sx, sc, hv⟩ := q4.isSlice
  clear q4 q1 hi q3 ht q5 q6 hP hTD hbs hseq hOwn h1 h3
  generalize (xs.map (chrC N)).length = sn at hv
  subst hv
  gi_wp2
  refine ⟨by simp, .inl ⟨_, _, rfl, run_takeDeferred hdef, ?_⟩⟩
  exact ⟨_, results_tmp (t := 2) rfl _ _ _, _, rfl, HEND.out.1, HEND.out.2⟩
open Go.RowKit
theorem flat_one (z : List Int) : (z.map fun c => [Value.int .u8 c]).flatten = z.map (Value.int .u8) := by
 induction z with
 | nil => rfl
 | cons a z ih => simp only [List.map_cons, List.flatten_cons, ih]; rfl
theorem OwnI.toB {w : World} {base : Nat} {v : Value} {z : List Int} (h : OwnI w base 5 1 v (z.map fun c => [.int .u8 c])) : OwnB w base v z := by
 have := h.own
 rw [List.length_map, flat_one] at this
 exact this
theorem text_map (N : List Nd) : (wrN N).map (chrC N) = (textN N).map fun c => [Value.int .u8 c] := by unfold textN; rw [List.map_map]; rfl
theorem textB_any (base R bc bn : Nat) (N : List Nd) (V : (Int × Int) × Bool → Value) (hN : TreeOk N) (hlen : N.length ≤ 1000) (w : World) (hTr : TreeAt w base R bc bn N V) :
    Calls Tryz.prog 46 #[.pointer (some ⟨R, 0, none⟩)] w fun e w' => ∃ v, e = .returned v ∧ OwnB w' w.heap.size v (textN N) ∧ Below w.heap.size w w' :=
 (textT_any base R bc bn N V hN hlen w hTr).mono fun e w' ⟨v, h1, h2, h3⟩ => ⟨v, h1, by rw [text_map] at h2; exact h2.toB, h3⟩
theorem TreeOk.nil : TreeOk [] := ⟨Rooted.nil, fun _ h => by simp at h⟩
theorem refI_ok {N : List Nd} {n : Nd} (h : refI N n = 0) : n.id ≠ (0, 0) ∧ 1 ≤ n.chr ∧ n.chr ≤ 127 ∧ (n.side.1 = (0, 0) → n.side.2 = true) ∧ (chrN N n.id).isSome = false ∧ (n.side.1 = (0, 0) ∨ (chrN N n.side.1).isSome = true) ∧ N.length < 512 := by
 unfold refI at h
 split at h
 · cases h
 · next h1 =>
   split at h
   · cases h
   · next h2 =>
     split at h
     · cases h
     · next h3 =>
       split at h
       · cases h
       · next h4 =>
         simp only [not_or, not_and] at h1
         refine ⟨h1.1, by omega, by omega, fun q => by simpa using h1.2.2.2 q, by simpa using h2, ?_, by omega⟩
         by_cases q : n.side.1 = (0, 0)
         · exact .inl q
         · refine .inr ?_
           cases q2 : (chrN N n.side.1).isSome with
           | false => exact absurd ⟨q, q2⟩ h3
           | true => rfl
theorem TreeOk.ins {N : List Nd} (h : TreeOk N) (n : Nd) : TreeOk (insN N n) := by
 unfold insN
 split
 · next hr =>
   obtain ⟨h1, -, -, h4, h5, h6, -⟩ := refI_ok hr
   refine ⟨h.rooted.snoc n h1 (chrN_fresh h5) (h6.imp id fun q => ?_), fun m hm hq => ?_⟩
   · obtain ⟨m, hm, e⟩ := chrN_some.1 q
     exact ⟨m, hm, e⟩
   · rcases List.mem_append.1 hm with q | q
     · exact h.right m q hq
     · rw [List.mem_singleton.1 q] at hq ⊢; exact h4 hq
 · exact h
theorem insN_len {N : List Nd} {n : Nd} : (insN N n).length ≤ N.length + 1 := by
 unfold insN
 split
 · simp
 · omega
structure Ds where
 N : List Nd
 B : List Ent
 S : List Int
 L : List Ev
 F : List (Int × Int)
def Ev.nd (e : Ev) : Nd := ⟨e.dot, ((e.pa, e.ps), e.right), e.char⟩
def Ev.par (e : Ev) : Int × Int := (e.pa, e.ps)
def mayB (st : Ds) (e : Ev) (least : Int) : Bool := decide (least ≤ roleP st.B e.da e.past)
def actB (st : Ds) (e : Ev) : Bool :=
 if e.kind = 1 then mayB st e 2 && (refI st.N e.nd == 0) else if e.kind = 2 then mayB st e 2 && (chrN st.N e.par).isSome else mayB st e 3 && (refB st.B e == 0)
def actN (st : Ds) (e : Ev) : List Nd :=
 if e.kind = 1 then (if mayB st e 2 = true then insN st.N e.nd else st.N) else if e.kind = 2 then (if mayB st e 2 = true then delN st.N e.par else st.N) else st.N
def actK (st : Ds) (e : Ev) : List Ent := if e.kind = 1 ∨ e.kind = 2 then st.B else if mayB st e 3 = true then addB st.B e else st.B
def stepS (S : List Int) (a : Int) : List Int := S.set a.toNat (S[a.toNat]?.getD 0 + 1)
def actF (st : Ds) (e : Ev) : List (Int × Int) := if actB st e = true then st.F ++ [e.dot] else st.F
def apS (st : Ds) (e : Ev) : Ds := ⟨actN st e, actK st e, stepS st.S e.da, st.L ++ [e], actF st e⟩
def refD (st : Ds) (e : Ev) : Int := if rightB e = false then 3 else if hasB st.S e.da e.ds = true then 5 else if readyB st.S e = false then 6 else if 512 ≤ st.L.length then 10 else 0
def doS (st : Ds) (e : Ev) : Ds := if refD st e = 0 then apS st e else st
def newS : Ds := ⟨[], [], [0, 0, 0, 0, 0, 0, 0, 0], [], []⟩
structure GoodD (st : Ds) : Prop where
 tree : TreeOk st.N
 nlen : st.N.length ≤ st.L.length
 blen : st.B.length ≤ st.L.length
 flen : st.F.length ≤ st.L.length
 slen : st.S.length = 8
 sval : ∀ x ∈ st.S, 0 ≤ x ∧ x ≤ (st.L.length : Int)
 llen : st.L.length ≤ 512
 lok : ∀ e ∈ st.L, e.Ok
theorem GoodD.new : GoodD newS := ⟨TreeOk.nil, Nat.le_refl _, Nat.le_refl _, Nat.le_refl _, rfl, fun x hx => by
 have : x = 0 := by simpa [newS] using hx
 subst this; decide, Nat.zero_le _, fun e he => by simp [newS] at he⟩
theorem stepS_len (S : List Int) (a : Int) : (stepS S a).length = S.length := by unfold stepS; rw [List.length_set]
theorem addB_len (L : List Ent) (e : Ev) : (addB L e).length ≤ L.length + 1 := by unfold addB; split <;> simp
theorem refD_zero {st : Ds} {e : Ev} (h : refD st e = 0) : rightB e = true ∧ hasB st.S e.da e.ds = false ∧ readyB st.S e = true ∧ st.L.length < 512 := by
 unfold refD at h
 split at h
 · cases h
 · rename_i h1
   split at h
   · cases h
   · rename_i h2
     split at h
     · cases h
     · rename_i h3
       split at h
       · cases h
       · rename_i h4
         exact ⟨by simpa using h1, by simpa using h2, by simpa using h3, by omega⟩
theorem rightB_kind {e : Ev} (h : rightB e = true) : e.kind = 1 ∨ e.kind = 2 ∨ e.kind = 3 ∨ e.kind = 4 := by
 unfold rightB rightKB at h
 by_cases h1 : e.kind = 1
 · exact .inl h1
 · by_cases h2 : e.kind = 2
   · exact .inr (.inl h2)
   · by_cases h3 : e.kind = 3
     · exact .inr (.inr (.inl h3))
     · by_cases h4 : e.kind = 4
       · exact .inr (.inr (.inr h4))
       · rw [if_neg h1, if_neg h2, if_neg h3, if_neg h4, Bool.and_false] at h; cases h
theorem rightB_author {e : Ev} (h : rightB e = true) : e.da < 8 := by
 unfold rightB rightDotB at h
 simp only [Bool.and_eq_true, decide_eq_true_eq] at h
 exact h.1.1
theorem GoodD.actN {st : Ds} (h : GoodD st) (e : Ev) : TreeOk (actN st e) ∧ (actN st e).length ≤ st.N.length + 1 := by
 unfold Go.Proofs.YtmbdohnmbkpfaaaGreat.actN
 split
 · split
   · exact ⟨h.tree.ins _, insN_len⟩
   · exact ⟨h.tree, Nat.le_succ _⟩
 · split
   · split
     · exact ⟨h.tree.del _, by rw [delN_len]; exact Nat.le_succ _⟩
     · exact ⟨h.tree, Nat.le_succ _⟩
   · exact ⟨h.tree, Nat.le_succ _⟩
theorem actK_len (st : Ds) (e : Ev) : (actK st e).length ≤ st.B.length + 1 := by
 unfold actK
 split
 · exact Nat.le_succ _
 · split
   · exact addB_len _ _
   · exact Nat.le_succ _
theorem actF_len (st : Ds) (e : Ev) : (actF st e).length ≤ st.F.length + 1 := by
 unfold actF
 split
 · rw [List.length_append, List.length_singleton]; exact Nat.le_refl _
 · exact Nat.le_succ _
theorem stepS_val {S : List Int} {a : Int} {n : Nat} (h : ∀ x ∈ S, 0 ≤ x ∧ x ≤ (n : Int)) : ∀ x ∈ stepS S a, 0 ≤ x ∧ x ≤ ((n + 1 : Nat) : Int) := fun x hx => by
 have hg : 0 ≤ S[a.toNat]?.getD 0 ∧ S[a.toNat]?.getD 0 ≤ (n : Int) := by
  cases hq : S[a.toNat]? with
  | none => exact ⟨Int.le_refl _, by simp⟩
  | some y => exact h y (List.mem_of_getElem? hq)
 unfold stepS at hx
 rcases List.mem_or_eq_of_mem_set hx with q | q
 · have := h x q; push_cast; omega
 · rw [q]; push_cast; omega
theorem GoodD.ap {st : Ds} (h : GoodD st) {e : Ev} (he : e.Ok) (hr : refD st e = 0) : GoodD (apS st e) where
 tree := (h.actN e).1
 nlen := by have := (h.actN e).2; have := h.nlen; unfold apS; rw [List.length_append, List.length_singleton]; show (Go.Proofs.YtmbdohnmbkpfaaaGreat.actN st e).length ≤ _; omega
 blen := by have := actK_len st e; have := h.blen; unfold apS; rw [List.length_append, List.length_singleton]; show (actK st e).length ≤ _; omega
 flen := by have := actF_len st e; have := h.flen; unfold apS; rw [List.length_append, List.length_singleton]; show (actF st e).length ≤ _; omega
 slen := by unfold apS; rw [stepS_len]; exact h.slen
 sval := by unfold apS; rw [List.length_append, List.length_singleton]; exact stepS_val h.sval
 llen := by have := (refD_zero hr).2.2.2; unfold apS; rw [List.length_append, List.length_singleton]; show st.L.length + 1 ≤ _; omega
 lok := fun x hx => by
  rcases List.mem_append.1 hx with q | q
  · exact h.lok x q
  · rw [List.mem_singleton.1 q]; exact he
theorem GoodD.does {st : Ds} (h : GoodD st) {e : Ev} (he : e.Ok) : GoodD (doS st e) := by
 unfold doS
 split
 · exact h.ap he ‹_›
 · exact h
structure Pl where
 D : Nat
 R : Nat
 bc : Nat
 bn : Nat
 V : (Int × Int) × Bool → Value
 H : Nat
 bk : Nat
 v : Value
 fm : Nat
def forM (F : List (Int × Int)) (x : Int × Int) : Option Value := if x ∈ F then some (.agg #[]) else none
def docC (st : Ds) (p : Pl) : List Value := [.pointer (some ⟨p.R, 0, none⟩), .pointer (some ⟨p.H, 0, none⟩)] ++ st.S.map (Value.int .u32) ++ [p.v, .map (some p.fm)]
structure ApartD (p : Pl) : Prop where
 tree : ∀ k, treeP p.R p.bc p.bn p.V k → k ≠ p.D ∧ k ≠ p.H ∧ k ≠ p.bk ∧ k ≠ p.fm ∧ p.v.ownBlock ≠ some k
 d : p.D ≠ p.H ∧ p.D ≠ p.bk ∧ p.D ≠ p.fm ∧ p.v.ownBlock ≠ some p.D
 b : p.H ≠ p.bk ∧ p.H ≠ p.fm ∧ p.v.ownBlock ≠ some p.H ∧ p.bk ≠ p.fm ∧ p.v.ownBlock ≠ some p.bk ∧ p.v.ownBlock ≠ some p.fm
structure DocAt (w : World) (base : Nat) (st : Ds) (p : Pl) : Prop where
 box : CellsAt w p.D 75 (docC st p)
 tree : TreeAt w base p.R p.bc p.bn st.N p.V
 book : BookC w p.H p.bk st.B
 evs : OwnI w base 44 17 p.v (st.L.map Ev.cells)
 force : MapG Tryz.prog 40 encDF okDF w p.fm st.F.length (forM st.F)
 apart : ApartD p
def docP (p : Pl) (k : Nat) : Prop := k = p.D ∨ treeP p.R p.bc p.bn p.V k ∨ k = p.H ∨ k = p.bk ∨ p.v.ownBlock = some k ∨ k = p.fm
theorem DocAt.congr {w w' : World} {base : Nat} {st : Ds} {p : Pl} (h : DocAt w base st p) (hk : ∀ k, docP p k → w'.heap[k]? = w.heap[k]?) : DocAt w' base st p where
 box := h.box.congr (hk _ (.inl rfl))
 tree := h.tree.congr fun k q => hk k (.inr (.inl q))
 book := h.book.congr (hk _ (.inr (.inr (.inl rfl)))) (hk _ (.inr (.inr (.inr (.inl rfl)))))
 evs := h.evs.congr fun g q => hk g (.inr (.inr (.inr (.inr (.inl q)))))
 force := h.force.congr (hk _ (.inr (.inr (.inr (.inr (.inr rfl))))))
 apart := h.apart
theorem DocAt.blockLt {w : World} {base : Nat} {st : Ds} {p : Pl} (h : DocAt w base st p) (k : Nat) (hk : docP p k) : k < w.heap.size := by
 rcases hk with rfl | q | rfl | rfl | q | rfl
 · exact h.box.lt
 · exact h.tree.blockLt k q
 · exact h.book.cells.lt
 · exact h.book.map.lt
 · exact (h.evs.blockLt k q).1
 · exact h.force.lt
theorem DocAt.far {w w' : World} {base : Nat} {st : Ds} {p : Pl} (h : DocAt w base st p) (hb : Below w.heap.size w w') : DocAt w' base st p := h.congr fun k hk => hb.block k (h.blockLt k hk)
theorem DocAt.turned {q : Nat → Prop} {w w' : World} {base : Nat} {st : Ds} {p : Pl} (h : DocAt w base st p) (ht : Turn q w w') (hq : ∀ k, docP p k → ¬ q k) : DocAt w' base st p := h.congr fun k hk => ht.block k (h.blockLt k hk) (hq k hk)
structure DocTo (p p' : Pl) (w w' : World) : Prop where
 turn : Turn (docP p) w w'
 own : ∀ k, docP p' k → docP p k ∨ w.heap.size ≤ k
 at_ : p'.D = p.D
theorem DocTo.of_below {p : Pl} {w w' : World} (h : Below w.heap.size w w') : DocTo p p w w' := ⟨Turn.of_below h, fun _ hk => .inl hk, rfl⟩
theorem DocTo.trans {p p1 p2 : Pl} {w w1 w2 : World} (h : DocTo p p1 w w1) (h2 : DocTo p1 p2 w1 w2) : DocTo p p2 w w2 where
 turn := ⟨h2.turn.os.trans h.turn.os, h2.turn.tape.trans h.turn.tape, h2.turn.output.trans h.turn.output, Nat.le_trans h.turn.size h2.turn.size, fun k hk hn => by
  rw [h2.turn.block k (Nat.lt_of_lt_of_le hk h.turn.size) (fun q => by
   rcases h.own k q with r | r
   · exact hn r
   · omega)]
  exact h.turn.block k hk hn⟩
 own := fun k hk => by
  rcases h2.own k hk with q | q
  · exact h.own k q
  · exact .inr (Nat.le_trans h.turn.size q)
 at_ := h2.at_.trans h.at_
def cntL (L : List Ent) : List Ent := L.filter (fun x => x.2)
theorem told_cnt (L : List Ent) (who : Int) (v : List Int) : toldL (cntL L) who v = toldL L who v := by
 unfold toldL cntL
 rw [List.filter_filter]
 congr 1
 refine List.filter_congr fun x _ => ?_
 cases x.2 <;> simp
theorem role_cnt (L : List Ent) (who : Int) (v : List Int) : roleP (cntL L) who v = roleP L who v := by
 unfold roleP
 rw [told_cnt]
theorem members_cnt (L : List Ent) (v : List Int) : membersL (cntL L) v = membersL L v := by
 unfold membersL
 exact List.map_congr_left fun i _ => role_cnt L i v
theorem cnt_app (L : List Ent) (e : Ev) (b : Bool) : cntL (L ++ [(e, b)]) = if b = true then cntL L ++ [(e, true)] else cntL L := by
 unfold cntL
 rw [List.filter_append]
 cases b <;> simp
theorem cnt_look {L : List Ent} {d : Int × Int} (h : lookB L d = none) : lookB (cntL L) d = none := lookB_none.2 fun x hx => lookB_none.1 h x (List.mem_filter.1 hx).1
theorem cnt_len (L : List Ent) : (cntL L).length ≤ L.length := List.length_filter_le _ _
theorem role_three (L : List Ent) (who : Int) (v : List Int) (h : ∀ x ∈ L, x.1.role ≤ 3) : roleP L who v ≤ 3 := by
 have hall : ∀ e ∈ lastL (toldL L who v), e.role ≤ 3 := fun e he => by
  have h1 := (List.mem_filter.1 he).1
  unfold toldL at h1
  obtain ⟨y, hy, rfl⟩ := List.mem_map.1 h1
  exact h y (List.mem_filter.1 hy).1
 have key : ∀ (l : List Ev) (s : Int × Bool), s.1 ≤ 3 → (∀ e ∈ l, e.role ≤ 3) → (l.foldl leastS s).1 ≤ 3 := fun l => by
  induction l with
  | nil => exact fun s hs _ => hs
  | cons e l ih =>
   intro s hs hl
   refine ih _ ?_ (fun x hx => hl x (by simp [hx]))
   unfold leastS
   split
   · exact hl e (by simp)
   · exact hs
 unfold roleP
 split
 · omega
 · split
   · exact key _ (0, false) (by decide) hall
   · split <;> omega
end Go.Proofs.YtmbdohnmbkpfaaaGreat
