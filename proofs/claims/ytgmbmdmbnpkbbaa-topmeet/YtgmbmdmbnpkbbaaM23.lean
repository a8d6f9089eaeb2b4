/- Ab4 -/
import Derived.Test.YtgmbmdmbnpkbbaaM21
import Derived.Test.YtgmbmdmbnpkbbaaM22
namespace Go.Proofs.Ytgmbmdmbnpkbbaa
open Go.RowKit Go.Shelf
attribute [local go_sem] Oper.semAt_some
set_option maxRecDepth 20000
set_option linter.unusedSimpArgs false
theorem roundIn_any {n m l2 l : Nat} {P : Program} {fn : FuncId} {tmps : Array Value} {assign body : Code} {w : World} {R : Ending → World → Prop} (h : RoundIn Fence.wide m P l fn tmps assign body w R) : RoundIn (Fence.wide.inRound l2) n P l fn tmps assign body w R := ⟨h.1, fun c cs _ => h.2 c cs (room_wide _)⟩
theorem wpLR_ldgv {P : Program} {ops : Array Oper} {rest : List Oper} {o : Oper} {a : Act} {w : World} {n l : Nat} {Q : Exit → Act → World → Prop} {d : TypeDesc} (hw : Region.wanted o (yielded ops a.tmps) = true) (ty : TypeId) (x : Operand) (ho : o.op = .load ty x)
    (g off : Nat) (hx : a.eval x = .pointer (some ⟨g, off, none⟩)) (cs : List Value) (hg : w.rangeAt g off cs)
    (hu : P.underlying ty = some d) (hd : d.isRow = true) (hi : (P.info? ty).map (·.size) = some cs.length)
    (h : wpListIn (Fence.wide.inRound l) n P ops Q rest (a.put o.dst (.agg cs.toArray)) w) : wpListIn (Fence.wide.inRound l) n P ops Q (o :: rest) a w :=
  wpListIn_step fun _ hK => by
    rw [if_pos hw]
    exact wpR_op' (fun c q => by rw [ho] at q; cases q) (wp_load_mid ty x ho g off hx cs _ hg hu hd hi (hK _ _ h))
theorem asg_new (W : World) (E : List Value) : CellsAt ((W.alloc (.cells #[.int .u8 0, .int .u32 0, .int .u32 0, .int .u32 0, .int .u32 0, .int .u32 0, .int .u32 0, .int .u32 0, .int .u32 0, .int .u32 0, .int .u8 0, .int .u8 0, .int .u32 0, .bool false, .int .u8 0, .int .u8 0, .int .u8 0] 32)).setRow W.heap.size E.toArray) W.heap.size 32 E ∧ Below W.heap.size W ((W.alloc (.cells #[.int .u8 0, .int .u32 0, .int .u32 0, .int .u32 0, .int .u32 0, .int .u32 0, .int .u32 0, .int .u32 0, .int .u32 0, .int .u32 0, .int .u8 0, .int .u8 0, .int .u32 0, .bool false, .int .u8 0, .int .u8 0, .int .u8 0] 32)).setRow W.heap.size E.toArray) ∧ ((W.alloc (.cells #[.int .u8 0, .int .u32 0, .int .u32 0, .int .u32 0, .int .u32 0, .int .u32 0, .int .u32 0, .int .u32 0, .int .u32 0, .int .u32 0, .int .u8 0, .int .u8 0, .int .u32 0, .bool false, .int .u8 0, .int .u8 0, .int .u8 0] 32)).setRow W.heap.size E.toArray).heap.size = W.heap.size + 1 := by
  refine ⟨(CellsAt.new W 32 [.int .u8 0, .int .u32 0, .int .u32 0, .int .u32 0, .int .u32 0, .int .u32 0, .int .u32 0, .int .u32 0, .int .u32 0, .int .u32 0, .int .u8 0, .int .u8 0, .int .u32 0, .bool false, .int .u8 0, .int .u8 0, .int .u8 0]).setRow E, ⟨rfl, rfl, rfl, by simp [World.setRow, World.putObj], fun k hk => ?_⟩, by simp [World.setRow, World.putObj]⟩
  rw [setRow_other _ _ _ _ (by omega)]; exact Below.heap_alloc W _ k hk
theorem last_any (gf : Nat) (lb : Array Value) (w : World) :
    Calls Try.prog 39 #[.func (.func gf) #[] lb] w fun e w' => e = .returned (.func (.func 50) #[] #[.pointer (some ⟨w.heap.size, 0, none⟩)]) ∧ w' = w.alloc (.cells #[.func (.func gf) #[] lb] 79) := by
  go_enter Try.func39, Try.ntmps39
  go_wp2
  go_ret
  exact ⟨rfl, rfl⟩
theorem map_u32_one (v : List Int) : ∀ u ∈ v.map (Value.int .u32), u.oneCell' = true := by
  intro u hu
  obtain ⟨x, _, rfl⟩ := List.mem_map.1 hu
  rfl
set_option maxHeartbeats 8000000 in
theorem last1_seq (n Be gf : Nat) (lb : Array Value) (eg : ∀ args w, (callFunc gf args).run Try.prog w = .ok (.enter gf args) w) (Own : Nat → Prop) (told : List Ev) (hto : ∀ x ∈ told, x.Ok) (N : Nat) (w : World) (hseq : ∀ m, SeqT m Try.prog gf lb (fun x : Ev => #[.agg x.cells.toArray]) Own (fun _ => False) (fun xs _ => xs.Perm told) (fun _ _ => True) (fun x => x.Ok) N w)
    (hbe : w.cell? ⟨Be, 0, none⟩ = some (.func (.func gf) #[] lb)) (hOwn : ∀ k, Own k → k < w.heap.size) :
    SeqT (n + 4) Try.prog 50 #[.pointer (some ⟨Be, 0, none⟩)] (fun x : Ev => #[.agg x.cells.toArray]) (fun k => Own k ∨ k = Be) (fun _ => False) (fun xs _ => xs.Perm (lastL told)) (fun _ _ => True) (fun x => x.Ok) N w := by
  intro l T J Jx W hWW hT hJ hJx hY h0
  have hbe2 : W.cell? ⟨Be, 0, none⟩ = some (.func (.func gf) #[] lb) := (hWW.cell (p := ⟨Be, 0, none⟩) (block_lt_of_cell hbe)).trans hbe
  have hBeW : Be < W.heap.size := block_lt_of_cell hbe2
  have hOw : ∀ k, Own k → k < W.heap.size := fun k hk => Nat.lt_of_lt_of_le (hOwn k hk) hWW.size
  obtain ⟨W2, hW2⟩ : ∃ W2, W2 = (W.alloc (.cells #[.func (.yield l) #[] #[]] 82)).alloc (.cells #[.int .u32 0, .int .u32 0, .int .u32 0, .int .u32 0, .int .u32 0, .int .u32 0, .int .u32 0, .int .u32 0] 28) := ⟨_, rfl⟩
  have hb2 : Below W.heap.size W W2 := by rw [hW2]; exact ((Below.refl _ _).alloc (Nat.le_refl _) _).alloc (by simp) _
  have hz2 : W2.heap.size = W.heap.size + 2 := by rw [hW2]; simp
  have hy2 : CellsAt W2 W.heap.size 82 [.func (.yield l) #[] #[]] := by rw [hW2]; exact (CellsAt.new W 82 [.func (.yield l) #[] #[]]).alloc _
  have hs2 : CellsAt W2 (W.heap.size + 1) 28 ((seenJ []).map (Value.int .u32)) := by
    rw [hW2]
    have := CellsAt.new (W.alloc (.cells #[.func (.yield l) #[] #[]] 82)) 28 ((seenJ []).map (Value.int .u32))
    rw [World.size_alloc] at this; exact this
  have cb2 : W2.cell? ⟨Be, 0, none⟩ = some (.func (.func gf) #[] lb) := (hb2.cell (p := ⟨Be, 0, none⟩) hBeW).trans hbe2
  have HW2 := Veil.mk hW2
  have HWW := Veil.mk hWW
  clear hW2
  refine callsIn_of_wp_marks Try.func50 rfl trivial ?_ rfl
  simp only [Try.ntmps50, List.size_toArray, List.length_cons, List.length_nil, Nat.reduceAdd, Nat.reduceSub, Array.replicate_succ, Array.replicate_zero, List.push_toArray, List.append_toArray, List.nil_append, List.cons_append]
  have cb3 : ((W.alloc (.cells #[.func (.yield l) #[] #[]] 82)).alloc (.cells #[.int .u32 0, .int .u32 0, .int .u32 0, .int .u32 0, .int .u32 0, .int .u32 0, .int .u32 0, .int .u32 0] 28)).cell? ⟨Be, 0, none⟩ = some (.func (.func gf) #[] lb) := by rw [← HW2.out]; exact cb2
  gi_wp2
  rw [← HW2.out]
  clear cb3
  obtain ⟨s0, hs0⟩ : ∃ s, W.heap.size + 1 = s := ⟨_, rfl⟩
  rw [hs0] at hs2 ⊢
  obtain ⟨y0, hy0⟩ : ∃ s, W.heap.size = s := ⟨_, rfl⟩
  rw [hy0] at hy2
  try rw [hy0]
  obtain ⟨I, HI⟩ : ∃ I : (Nat → Prop) → List Ev → World → Prop, Veil (∀ T pre A, I T pre A ↔ ((∀ k, T k ↔ k = s0) ∧ CellsAt A s0 28 ((seenJ pre).map (Value.int .u32)) ∧ ∀ x ∈ pre, x.Ok)) := ⟨_, ⟨fun _ _ _ => Iff.rfl⟩⟩
  have iV : ∀ q : List Int, q.length = 8 → (Try.prog.info? 28).map (·.size) = some (q.map (Value.int .u32)).length := fun q hq => by rw [List.length_map, hq]; kernel_rfl
  have uV := Try.underlying28
  have uD := Try.underlying26
  have uE := Try.underlying32
  refine wpIn_rangeTl (by omega) rfl eg ((hseq _).later (HWW.out.trans (hb2.mono HWW.out.size))) (fun _ => rfl) (fun _ _ _ h _ => h) (fun _ _ _ h _ => h) (fun k => k = s0) (fun k hk => ⟨fun q => by have := hOw k q; omega, by omega⟩) (fun k hk => by have := hOw k hk; omega)
    I (fun _ _ _ _ => False) ?stays (fun _ _ _ _ _ h _ => h) ?zero ?round ?done ?stop
  case stays =>
    intro T s A B hi hs
    obtain ⟨h1, h2, h3⟩ := (HI.out _ _ _).1 hi
    exact (HI.out _ _ _).2 ⟨h1, h2.congr (hs.block _ (.inl ((h1 _).2 rfl))), h3⟩
  case zero => exact (HI.out _ _ _).2 ⟨fun k => Iff.rfl, hs2, by simp⟩
  case round =>
    intro l1 r T1 pre x A hi hok hlen hTl hT0 hlr hl1
    obtain ⟨h1, hc, hk⟩ := (HI.out _ _ _).1 hi
    have he1 := aev_len x hok.past
    have he2 := aev_one x
    have hp8 := hok.past
    have iE : (Try.prog.info? 32).map (·.size) = some x.cells.length := by rw [he1]; kernel_rfl
    obtain ⟨hn1, hn2, hn3⟩ := asg_new A x.cells
    have hj : ∀ B, Calls Try.prog 51 #[.agg ((seenJ pre).map (Value.int .u32)).toArray, .agg (x.past.map (Value.int .u32)).toArray] B fun e w' => e = .returned (.agg ((seenJ (pre ++ [x])).map (Value.int .u32)).toArray) ∧ Below B.heap.size B w' := fun B => by rw [seenJ_app]; exact cjoin_any (seenJ pre) x.past B (seenJ_len _) hp8
    have hpr := (ev_parts x hp8).2.1
    have iP := iV x.past hp8
    have iS := iV (seenJ pre) (seenJ_len _)
    have iS2 := iV (seenJ (pre ++ [x])) (seenJ_len _)
    have hoS2 := map_u32_one (seenJ (pre ++ [x]))
    have hlS : ((seenJ pre).map (Value.int .u32)).length = ((seenJ (pre ++ [x])).map (Value.int .u32)).length := by rw [List.length_map, List.length_map, seenJ_len, seenJ_len]
    have hlA : l1 < A.heap.size := (Array.getElem?_eq_some_iff.1 hlr).1
    have hls : s0 ≠ l1 := fun e => by have h2 : A.heap[l1]? = _ := e ▸ hc; rw [hlr] at h2; cases h2
    have HE : Veil (∀ B, CellsAt B s0 28 ((seenJ (pre ++ [x])).map (Value.int .u32)) → I (fun k => k = s0) (pre ++ [x]) B) := ⟨fun B hB => (HI.out _ _ _).2 ⟨fun k => Iff.rfl, hB, fun y hy => by
      rcases List.mem_append.1 hy with q | q
      · exact hk y q
      · rw [List.mem_singleton.1 q]; exact hok⟩⟩
    obtain ⟨S1, hS1⟩ : ∃ S, (seenJ pre).map (Value.int .u32) = S := ⟨_, rfl⟩
    obtain ⟨S2, hS2⟩ : ∃ S, (seenJ (pre ++ [x])).map (Value.int .u32) = S := ⟨_, rfl⟩
    obtain ⟨XP, hXP⟩ : ∃ S, x.past.map (Value.int .u32) = S := ⟨_, rfl⟩
    rw [hS1] at hc hj iS hlS
    rw [hS2] at hj iS2 hoS2 hlS HE
    rw [hXP] at hj hpr iP
    obtain ⟨E, hE⟩ : ∃ E, x.cells = E := ⟨_, rfl⟩
    rw [hE] at he1 he2 iE hn1 hn2 hn3 hpr ⊢
    have HT1 : Veil (T1 s0) := ⟨(h1 _).2 rfl⟩
    clear hS1 hS2 hXP hE hi hlr hTl hT0 hk h1 hJ hJx hY h0
    refine wpR_region (notOut_then notOut_false) (by kernel_rfl) ?_
    go_wp2_with (refine wpList_stv rfl 32 _ _ rfl A.heap.size rfl rfl (CellsAt.new A 32 [.int .u8 0, .int .u32 0, .int .u32 0, .int .u32 0, .int .u32 0, .int .u32 0, .int .u32 0, .int .u32 0, .int .u32 0, .int .u32 0, .int .u8 0, .int .u8 0, .int .u32 0, .bool false, .int .u8 0, .int .u8 0, .int .u8 0]) iE (by rw [he1]; rfl) he2 ?_)
    refine ⟨Turn.of_below hn2, ?_⟩
    generalize ((A.alloc (.cells #[.int .u8 0, .int .u32 0, .int .u32 0, .int .u32 0, .int .u32 0, .int .u32 0, .int .u32 0, .int .u32 0, .int .u32 0, .int .u32 0, .int .u8 0, .int .u8 0, .int .u32 0, .bool false, .int .u8 0, .int .u8 0, .int .u8 0] 32)).setRow A.heap.size E.toArray) = V1 at hn1 hn2 hn3 ⊢
    have hx2 : CellsAt (V1.putObj l1 (.loop { r with state := .busy })) A.heap.size 32 E := hn1.congr (World.putObj_heap_other (by omega))
    have hc2 : CellsAt (V1.putObj l1 (.loop { r with state := .busy })) s0 28 S1 := (hc.congr (hn2.block _ hc.lt)).congr (World.putObj_heap_other hls)
    generalize V1.putObj l1 (.loop { r with state := .busy }) = V2 at hx2 hc2 ⊢
    have hrS := hc2.wholeM
    have hrP := hx2.range 2 8
    rw [hpr] at hrP
    have hjj := hj V2
    have HC2 := Veil.mk hc2
    clear hj hn1 hn2 hn3 hc hx2 hls
    simp only [Act.put]
    refine wpIn_block (wpR_region (fun ⟨_, _, q⟩ => q) (by kernel_rfl) ?_)
    go_wp2_with (first
      | (refine wpList_ldv rfl 28 (.tmp 3) rfl s0 0 rfl S1 hrS uV rfl iS ?_)
      | (refine wpList_ldv rfl 28 (.tmp 9) rfl A.heap.size 2 rfl XP hrP uV rfl iP ?_)
      | (go_at_call 51; refine hjj.mono ?_; rintro z V3 ⟨rfl, hb3⟩; have hc3 := HC2.out.farM hb3)
      | (refine wpList_stv rfl 28 _ _ rfl s0 rfl rfl hc3 iS2 hlS hoS2 ?_))
    refine ⟨_, HE.out _ (hc3.setRow S2), ⟨hb3.os, hb3.tape, hb3.output, by have := hb3.size; simp [World.setRow, World.putObj]; omega, fun k hk hn => ?_⟩, fun k hk => ?_⟩
    · rw [setRow_other _ _ _ _ (fun e => hn (by rw [e]; exact HT1.out))]; exact hb3.block k hk
    · rw [hk]; exact ⟨.inl HT1.out, by have := hc3.lt; simp [World.setRow, World.putObj]; omega⟩
  case stop => intro D c xs T W hD _ h; exact h.elim
  case done =>
    intro D xs T1 A hD hP hi hdef ht hTD
    obtain ⟨-, hcS, hxk⟩ := (HI.out _ _ _).1 hi
    have hAk : ∀ k, k < W.heap.size → A.heap[k]? = W.heap[k]? := fun k hk => (ht.block k (by omega) (fun q => by rcases q with q | q; omega; exact q)).trans (hb2.block k hk)
    have cbA : A.cell? ⟨Be, 0, none⟩ = some (.func (.func gf) #[] lb) := (World.cell?_of_block (a := ⟨Be, 0, none⟩) (hAk Be hBeW)).trans hbe2
    have hyA : CellsAt A y0 82 [.func (.yield l) #[] #[]] := hy2.congr (ht.block y0 (by omega) (fun q => by rcases q with q | q; omega; exact q))
    have hAz := ht.size
    have hDA : D < A.heap.size := (Array.getElem?_eq_some_iff.1 hdef).1
    have hwA : Below w.heap.size w A := ⟨(ht.os.trans hb2.os).trans hWW.os, (ht.tape.trans hb2.tape).trans hWW.tape, (ht.output.trans hb2.output).trans hWW.output, by have := hWW.size; omega, fun k hk => (hAk k (by have := hWW.size; omega)).trans (hWW.block k hk)⟩
    obtain ⟨p, HP⟩ : ∃ p : Ev → Bool, Veil (∀ x, p x = !hasB (seenJ xs) x.da x.ds) := ⟨_, ⟨fun _ => rfl⟩⟩
    have HPT : Veil (∀ ys : List Ev, ys.Perm told → (ys.filter p).Perm (lastL told)) := ⟨fun ys hys => by
      refine (hys.filter p).trans ?_
      rw [show told.filter p = lastL told from ?_]
      unfold lastL
      refine List.filter_congr fun e he => ?_
      rw [HP.out, seenJ_has _ _ _ (hto e he).dot.1.1 (hto e he).dot.2.1]
      congr 1
      rw [Bool.eq_iff_iff, List.any_eq_true, List.any_eq_true]
      exact ⟨fun ⟨x, hx, q⟩ => ⟨x, hP.mem_iff.1 hx, q⟩, fun ⟨x, hx, q⟩ => ⟨x, hP.mem_iff.2 hx, q⟩⟩⟩
    have HT := Veil.mk hT
    have HJ := Veil.mk hJ
    have HJx := Veil.mk hJx
    have HY := Veil.mk hY
    have HTW : Veil (Turn (fun k => k = s0 ∨ False) W2 A) := ⟨ht⟩
    have hS8 := seenJ_len xs
    obtain ⟨SV, hSV⟩ : ∃ q, seenJ xs = q := ⟨_, rfl⟩
    rw [hSV] at hcS HP hS8
    have HJ0 : Veil (J T [] A) := ⟨hJ _ _ _ _ h0 ⟨ht.os.trans hb2.os, ht.tape.trans hb2.tape, ht.output.trans hb2.output, by omega, fun k hk => hAk k (by rcases hk with q | q; exact (hT k q).2; exact q.1)⟩⟩
    clear hSV hP hi hxk hT hJ hJx hY h0 ht HI hs2 hy2 hTD cb2 hbe2 hbe I
    gi_wp2
    obtain ⟨I2, HI2⟩ : ∃ I : (Nat → Prop) → List Ev → World → Prop, Veil (∀ Ti pre B, I Ti pre B ↔ ∃ T', (∀ k, Ti k ↔ (T' k ∨ k = s0 ∨ k = y0)) ∧ J T' (pre.filter p) B ∧ CellsAt B s0 28 (SV.map (Value.int .u32)) ∧ CellsAt B y0 82 [.func (.yield l) #[] #[]] ∧ (∀ k, T' k → (T k ∨ A.heap.size ≤ k) ∧ k < B.heap.size)) := ⟨_, ⟨fun _ _ _ => Iff.rfl⟩⟩
    obtain ⟨Ix2, HX2⟩ : ∃ I : Code → (Nat → Prop) → List Ev → World → Prop, Veil (∀ c Ti pre B, I c Ti pre B ↔ (c = .ret ∧ ∃ T', (∀ k, Ti k ↔ (T' k ∨ k = s0 ∨ k = y0)) ∧ Jx T' (pre.filter p) B ∧ (∀ k, T' k → (T k ∨ A.heap.size ≤ k) ∧ k < B.heap.size))) := ⟨_, ⟨fun _ _ _ _ => Iff.rfl⟩⟩
    refine wpIn_rangeTl (by omega) rfl eg ((hseq _).later hwA) (fun _ => rfl) (fun _ _ _ h _ => h) (fun _ _ _ h _ => h) (fun k => T k ∨ k = s0 ∨ k = y0) (fun k hk => ?own) (fun k hk => by have := hOw k hk; omega)
      I2 Ix2 ?stays ?staysx ?zero ?round ?done ?stop
    case own =>
      rcases hk with q | q | q
      · exact ⟨fun r => (HT.out k q).1 (.inl r), by have := (HT.out k q).2; omega⟩
      · exact ⟨fun r => by have := hOw k r; omega, by omega⟩
      · exact ⟨fun r => by have := hOw k r; omega, by omega⟩
    case stays =>
      intro Ti s B C hi hs
      obtain ⟨T', h1, h2, h3, h4, h5⟩ := (HI2.out _ _ _).1 hi
      exact (HI2.out _ _ _).2 ⟨T', h1, HJ.out _ _ _ _ h2 ⟨hs.os, hs.tape, hs.output, hs.size, fun k hk => hs.block k (by rcases hk with q | q; exact .inl ((h1 k).2 (.inl q)); exact .inr ⟨by omega, id⟩)⟩, h3.congr (hs.block _ (.inl ((h1 _).2 (.inr (.inl rfl))))), h4.congr (hs.block _ (.inl ((h1 _).2 (.inr (.inr rfl))))), fun k hk => ⟨(h5 k hk).1, Nat.lt_of_lt_of_le (h5 k hk).2 hs.size⟩⟩
    case staysx =>
      intro c Ti s B C hi hs
      obtain ⟨hc, T', h1, h2, h5⟩ := (HX2.out _ _ _ _).1 hi
      exact (HX2.out _ _ _ _).2 ⟨hc, T', h1, HJx.out _ _ _ _ h2 ⟨hs.os, hs.tape, hs.output, hs.size, fun k hk => hs.block k (by rcases hk with q | q; exact .inl ((h1 k).2 (.inl q)); exact .inr ⟨by omega, id⟩)⟩, fun k hk => ⟨(h5 k hk).1, Nat.lt_of_lt_of_le (h5 k hk).2 hs.size⟩⟩
    case zero => exact (HI2.out _ _ _).2 ⟨T, fun k => Iff.rfl, HJ0.out, hcS, hyA, fun k hk => ⟨.inl hk, by have := (HT.out k hk).2; omega⟩⟩
    case round =>
      intro l2 r T1 pre x B hi hok hlen hTl hT0 hlr hl2
      obtain ⟨T', hTT, hJ', hcB, hyB, hoT⟩ := (HI2.out _ _ _).1 hi
      have he1 := aev_len x hok.past
      have he2 := aev_one x
      have iE : (Try.prog.info? 32).map (·.size) = some x.cells.length := by rw [he1]; kernel_rfl
      have iD : (Try.prog.info? 26).map (·.size) = some (dotC x.da x.ds).length := sizeDot
      have iS := iV SV hS8
      obtain ⟨hn1, hn2, hn3⟩ := asg_new B x.cells
      have hh : ∀ C, Calls Try.prog 37 #[.agg (SV.map (Value.int .u32)).toArray, .agg (dotC x.da x.ds).toArray] C fun e w' => e = .returned (.bool (hasB SV x.da x.ds)) ∧ Below C.heap.size C w' := fun C => chas_any SV x.da x.ds C hS8 hok.dot.1.1 hok.dot.2.1
      have hdp := (ev_parts x hok.past).1
      have hlB : l2 < B.heap.size := (Array.getElem?_eq_some_iff.1 hlr).1
      have hTl2 : ¬ T' l2 := fun q => by
        rcases hT0 l2 ((hTT l2).2 (.inl q)) with (e | e | e) | e
        · have := (HT.out _ e).2; omega
        · omega
        · omega
        · omega
      have hBA : A.heap.size + 2 ≤ B.heap.size := by omega
      have hfa : Veil ((pre ++ [x]).filter p = pre.filter p ++ (if p x = true then [x] else [])) := ⟨by
        rw [List.filter_append]; congr 1
        by_cases h : p x = true
        · rw [List.filter_cons_of_pos h, if_pos h]; rfl
        · rw [List.filter_cons_of_neg h, if_neg h]; rfl⟩
      have HLN : Veil ((pre.filter p).length < N) := ⟨Nat.lt_of_le_of_lt (List.length_filter_le _ _) hlen⟩
      have HOK := Veil.mk hok
      obtain ⟨px, hpx⟩ : ∃ q, p x = q := ⟨_, rfl⟩
      have HPX : Veil (hasB SV x.da x.ds = !px) := ⟨by rw [← hpx, HP.out, Bool.not_not]⟩
      rw [hpx] at hfa
      generalize hasB SV x.da x.ds = HB at hh HPX
      obtain ⟨S1, hS1⟩ : ∃ S, SV.map (Value.int .u32) = S := ⟨_, rfl⟩
      have HS1 := Veil.mk hS1
      rw [hS1] at hcB hh iS
      obtain ⟨DV, hDV⟩ : ∃ S, dotC x.da x.ds = S := ⟨_, rfl⟩
      rw [hDV] at hh hdp iD
      obtain ⟨E, hE⟩ : ∃ E, x.cells = E := ⟨_, rfl⟩
      have HEQ := Veil.mk hE
      rw [hE] at he1 he2 iE hn1 hn2 hn3 hdp ⊢
      clear hS1 hDV hE hi hlen hTl hT0 hok hpx
      refine wpR_region (notOut_then notOut_false) (by kernel_rfl) ?_
      go_wp2_with (refine wpList_stv rfl 32 _ _ rfl B.heap.size rfl rfl (CellsAt.new B 32 [.int .u8 0, .int .u32 0, .int .u32 0, .int .u32 0, .int .u32 0, .int .u32 0, .int .u32 0, .int .u32 0, .int .u32 0, .int .u32 0, .int .u8 0, .int .u8 0, .int .u32 0, .bool false, .int .u8 0, .int .u8 0, .int .u8 0]) iE (by rw [he1]; rfl) he2 ?_)
      refine ⟨Turn.of_below hn2, ?_⟩
      generalize ((B.alloc (.cells #[.int .u8 0, .int .u32 0, .int .u32 0, .int .u32 0, .int .u32 0, .int .u32 0, .int .u32 0, .int .u32 0, .int .u32 0, .int .u32 0, .int .u8 0, .int .u8 0, .int .u32 0, .bool false, .int .u8 0, .int .u8 0, .int .u8 0] 32)).setRow B.heap.size E.toArray) = V1 at hn1 hn2 hn3 ⊢
      have hx2 : CellsAt (V1.putObj l2 (.loop { r with state := .busy })) B.heap.size 32 E := hn1.congr (World.putObj_heap_other (by omega))
      have hc2 : CellsAt (V1.putObj l2 (.loop { r with state := .busy })) s0 28 S1 := (hcB.congr (hn2.block _ hcB.lt)).congr (World.putObj_heap_other (by omega))
      have hy2 : CellsAt (V1.putObj l2 (.loop { r with state := .busy })) y0 82 [.func (.yield l) #[] #[]] := (hyB.congr (hn2.block _ hyB.lt)).congr (World.putObj_heap_other (by omega))
      have hk2 : ∀ k, (T' k ∨ k < W.heap.size) → (V1.putObj l2 (.loop { r with state := .busy })).heap[k]? = B.heap[k]? := fun k hk => (World.putObj_heap_other (by rcases hk with q | q; exact fun e => hTl2 (e ▸ q); omega)).trans (hn2.block k (by rcases hk with q | q; exact (hoT k q).2; omega))
      have hz2' : (V1.putObj l2 (.loop { r with state := .busy })).heap.size = B.heap.size + 1 := by simp [World.putObj, hn3]
      have HJV : Veil (J T' (pre.filter p) (V1.putObj l2 (.loop { r with state := .busy }))) := ⟨HJ.out _ _ _ _ hJ' ⟨hn2.os, hn2.tape, hn2.output, by omega, fun k hk => hk2 k (by rcases hk with q | q; exact .inl q; exact .inr q.1)⟩⟩
      generalize V1.putObj l2 (.loop { r with state := .busy }) = V2 at hx2 hc2 hy2 hk2 hz2' HJV ⊢
      have hrS := hc2.wholeM
      have hrD := hx2.range 0 2
      rw [hdp] at hrD
      have hhj := hh V2
      have HF : Veil (∀ V3, Below V2.heap.size V2 V3 → V3.cell? ⟨y0, 0, none⟩ = some (.func (.yield l) #[] #[]) ∧ V3.rangeAt B.heap.size 0 E ∧ J T' (pre.filter p) V3 ∧ CellsAt V3 s0 28 S1 ∧ CellsAt V3 y0 82 [.func (.yield l) #[] #[]] ∧ (∀ k, T' k → k < V3.heap.size)) := ⟨fun V3 hb => ⟨(hy2.farM hb).cell 0, (hx2.farM hb).wholeM, HJ.out _ _ _ _ HJV.out (StaysT.of_below hb (fun k hk => by rcases hk with q | q; have := (hoT k q).2; omega; omega)), hc2.farM hb, hy2.farM hb, fun k hk => by have := (hoT k hk).2; have := hb.size; omega⟩⟩
      have HYY : Veil (∀ V3, Below V2.heap.size V2 V3 → YieldAt Fence.wide (n + 3) Try.prog l #[.agg E.toArray] V3 fun e W' => (e = .returned (.bool true) ∧ ∃ T2, J T2 (pre.filter p ++ [x]) W' ∧ MovesT T' V3 T2 W') ∨ (e = .returned (.bool false) ∧ ∃ T2, Jx T2 (pre.filter p ++ [x]) W' ∧ MovesT T' V3 T2 W')) := ⟨fun V3 hb => by
        obtain ⟨-, -, r3, -, -, r6⟩ := HF.out V3 hb
        have := HY.out T' (pre.filter p) x V3 r3 HOK.out HLN.out r6
        rw [HEQ.out] at this
        exact this⟩
      -- what the round's end tells
      have HEN : Veil (∀ V3, Below V2.heap.size V2 V3 → ∀ W3 T2, MovesT T' V3 T2 W3 → CellsAt W3 s0 28 S1 ∧ CellsAt W3 y0 82 [.func (.yield l) #[] #[]] ∧ (∀ k, T2 k → (T k ∨ A.heap.size ≤ k) ∧ k < W3.heap.size) ∧ MovesT T1 V2 (fun k => T2 k ∨ k = s0 ∨ k = y0) W3) := ⟨fun V3 hb W3 T2 hm => by
        obtain ⟨-, -, -, r4, r5, r6⟩ := HF.out V3 hb
        have hns : ¬ T' s0 := fun q => by rcases (hoT s0 q).1 with e | e; have := (HT.out _ e).2; omega; omega
        have hny : ¬ T' y0 := fun q => by rcases (hoT y0 q).1 with e | e; have := (HT.out _ e).2; omega; omega
        have c1 := r4.congr (hm.turn.block _ r4.lt hns)
        have c2 := r5.congr (hm.turn.block _ r5.lt hny)
        have hvs := hb.size
        have own2 : ∀ k, T2 k → (T k ∨ A.heap.size ≤ k) ∧ k < W3.heap.size := fun k hk => ⟨by
          rcases (hm.own k hk).1 with q | q
          · exact (hoT k q).1
          · exact .inr (by omega), (hm.own k hk).2⟩
        refine ⟨c1, c2, own2, ⟨hm.turn.os.trans hb.os, hm.turn.tape.trans hb.tape, hm.turn.output.trans hb.output, Nat.le_trans hvs hm.turn.size, fun k hk hn => (hm.turn.block k (by omega) (fun q => hn ((hTT k).2 (.inl q)))).trans (hb.block k hk)⟩, fun k hk => ?_⟩
        rcases hk with q | q | q
        · refine ⟨?_, (hm.own k q).2⟩
          rcases (hm.own k q).1 with e | e
          · exact .inl ((hTT k).2 (.inl e))
          · exact .inr (by omega)
        · exact ⟨.inl ((hTT k).2 (.inr (.inl q))), by rw [q]; exact c1.lt⟩
        · exact ⟨.inl ((hTT k).2 (.inr (.inr q))), by rw [q]; exact c2.lt⟩⟩
      clear hh hn1 hn2 hn3 hcB hyB hx2 hc2 hy2 hk2 hz2' HJV hJ' hoT hTT hlr hlB hTl2 hBA
      simp only [Act.put]
      cases px with
      | false =>
        obtain rfl : HB = true := HPX.out
        replace hfa : Veil ((pre ++ [x]).filter p = pre.filter p) := ⟨by rw [hfa.out]; simp⟩
        gi_wp2_with (first
          | (refine wpLR_ldgv (by kernel_rfl) 28 (.tmp 3) rfl s0 0 rfl S1 hrS uV rfl iS ?_)
          | (refine wpLR_ldgv (by kernel_rfl) 26 (.tmp 15) rfl B.heap.size 0 rfl DV hrD uD rfl iD ?_)
          | (refine ⟨trivial, ?_⟩; gi_at_call 37; refine (CallsIn.inRound _ (callsIn_wide.2 hhj)).mono ?_; rintro e V3 ⟨rfl, hb3⟩))
        refine ⟨(fun f hf => by cases hf), ?_⟩
        gi_wp2
        obtain ⟨-, -, r3, r4, r5, r6⟩ := HF.out V3 hb3
        have hmm : MovesT T' V3 T' V3 := ⟨Turn.refl _ _, fun k hk => ⟨.inl hk, r6 k hk⟩⟩
        obtain ⟨q1, q2, q3, q4⟩ := HEN.out V3 hb3 V3 T' hmm
        refine ⟨_, (HI2.out _ _ _).2 ⟨T', fun k => Iff.rfl, by rw [hfa.out]; exact r3, by rw [HS1.out]; exact q1, q2, q3⟩, q4⟩
      | true =>
        obtain rfl : HB = false := HPX.out
        replace hfa : Veil ((pre ++ [x]).filter p = pre.filter p ++ [x]) := ⟨by rw [hfa.out]; simp⟩
        gi_wp2_with (first
          | (refine wpLR_ldgv (by kernel_rfl) 28 (.tmp 3) rfl s0 0 rfl S1 hrS uV rfl iS ?_)
          | (refine wpLR_ldgv (by kernel_rfl) 26 (.tmp 15) rfl B.heap.size 0 rfl DV hrD uD rfl iD ?_)
          | (refine wpLR_ldgv (by kernel_rfl) 32 (.tmp 5) rfl B.heap.size 0 rfl E hrE uE rfl iE ?_)
          | (refine ⟨trivial, ?_⟩; gi_at_call 37; refine (CallsIn.inRound _ (callsIn_wide.2 hhj)).mono ?_; rintro e V3 ⟨rfl, hb3⟩; obtain ⟨cy3, hrE, -⟩ := HF.out V3 hb3; obtain ⟨fn, tmps, assign, body, hy, hR⟩ := HYY.out V3 hb3))
        refine (roundIn_any hR).mono ?_
        rintro e2 W3 (⟨rfl, T2, hJ3, hm3⟩ | ⟨rfl, T2, hJx3, hm3⟩)
        · obtain ⟨q1, q2, q3, q4⟩ := HEN.out V3 hb3 W3 T2 hm3
          clear hy hR hrE cy3 HEN HYY HF
          gi_wp2
          refine ⟨_, (HI2.out _ _ _).2 ⟨T2, fun k => Iff.rfl, by rw [hfa.out]; exact hJ3, by rw [HS1.out]; exact q1, q2, q3⟩, q4⟩
        · obtain ⟨q1, q2, q3, q4⟩ := HEN.out V3 hb3 W3 T2 hm3
          clear hy hR hrE cy3 HEN HYY HF
          gi_wp2
          refine ⟨_, (HX2.out _ _ _ _).2 ⟨rfl, T2, fun k => Iff.rfl, by rw [hfa.out]; exact hJx3, q3⟩, q4⟩
    case done =>
      intro D2 ys Ti B hD2 hP2 hi2 hdef2 ht2 hTD2
      obtain ⟨T', hTT, hJ', -, -, hoT⟩ := (HI2.out _ _ _).1 hi2
      have hdefB : B.heap[D]? = some (.deferred (some [])) := (ht2.block D hDA (fun q => by rcases q with (q | q | q) | q; have := (HT.out _ q).2; omega; omega; omega; exact q)).trans hdef
      gi_wp2
      have hne : D2 ≠ D := by omega
      have hdefB2 : (B.putObj D2 (.deferred none)).heap[D]? = some (.deferred (some [])) := (World.putObj_heap_other (Ne.symm hne)).trans hdefB
      have hnT2 : ¬ T' D2 := fun q => hTD2 ((hTT D2).2 (.inl q))
      have hnT : ¬ T' D := fun q => by rcases (hoT D q).1 with e | e; have := (HT.out _ e).2; omega; omega
      have hst : StaysT (fun k => T' k ∨ (k < W.heap.size ∧ ¬ False)) B ((B.putObj D2 (.deferred none)).putObj D (.deferred none)) := ⟨rfl, rfl, rfl, by simp [World.putObj], fun k hk => (World.putObj_heap_other (by rcases hk with q | q; exact fun e => hnT (e ▸ q); omega)).trans (World.putObj_heap_other (by rcases hk with q | q; exact fun e => hnT2 (e ▸ q); omega))⟩
      have HMV : Veil (MovesT (fun k => T k ∨ False) W T' ((B.putObj D2 (.deferred none)).putObj D (.deferred none))) := ⟨⟨((hst.os.trans ht2.os).trans HTW.out.os).trans hb2.os, ((hst.tape.trans ht2.tape).trans HTW.out.tape).trans hb2.tape, ((hst.output.trans ht2.output).trans HTW.out.output).trans hb2.output, by have := ht2.size; have := hst.size; omega, fun k hk hn => ((hst.block k (.inr ⟨hk, id⟩)).trans (ht2.block k (by omega) (fun q => by rcases q with (q | q | q) | q; exact hn (.inl q); omega; omega; exact q))).trans (hAk k hk)⟩, fun k hk => ⟨by rcases (hoT k hk).1 with q | q; exact .inl (.inl q); exact .inr (by omega), Nat.lt_of_lt_of_le (hoT k hk).2 hst.size⟩⟩
      have HJE := Veil.mk (HJ.out _ _ _ _ hJ' hst)
      refine ⟨by simp, .inl ⟨_, _, rfl, run_takeDeferred hdef2, ?_⟩⟩
      refine ⟨by simp, .inl ⟨_, _, rfl, run_takeDeferred hdefB2, ?_⟩⟩
      exact ⟨_, results_none rfl _ _ _, ⟨_, rfl⟩, .inl ⟨ys.filter p, T', HPT.out ys hP2, HJE.out, HMV.out⟩⟩
    case stop =>
      intro D2 c ys Ti B hD2 hP2 hi2 hdef2 ht2 hTD2
      obtain ⟨rfl, T', hTT, hJ', hoT⟩ := (HX2.out _ _ _ _).1 hi2
      have hdefB : B.heap[D]? = some (.deferred (some [])) := (ht2.block D hDA (fun q => by rcases q with (q | q | q) | q; have := (HT.out _ q).2; omega; omega; omega; exact q)).trans hdef
      gi_wp2
      have hne : D2 ≠ D := by omega
      have hdefB2 : (B.putObj D2 (.deferred none)).heap[D]? = some (.deferred (some [])) := (World.putObj_heap_other (Ne.symm hne)).trans hdefB
      have hnT2 : ¬ T' D2 := fun q => hTD2 ((hTT D2).2 (.inl q))
      have hnT : ¬ T' D := fun q => by rcases (hoT D q).1 with e | e; have := (HT.out _ e).2; omega; omega
      have hst : StaysT (fun k => T' k ∨ (k < W.heap.size ∧ ¬ False)) B ((B.putObj D2 (.deferred none)).putObj D (.deferred none)) := ⟨rfl, rfl, rfl, by simp [World.putObj], fun k hk => (World.putObj_heap_other (by rcases hk with q | q; exact fun e => hnT (e ▸ q); omega)).trans (World.putObj_heap_other (by rcases hk with q | q; exact fun e => hnT2 (e ▸ q); omega))⟩
      have HMV : Veil (MovesT (fun k => T k ∨ False) W T' ((B.putObj D2 (.deferred none)).putObj D (.deferred none))) := ⟨⟨((hst.os.trans ht2.os).trans HTW.out.os).trans hb2.os, ((hst.tape.trans ht2.tape).trans HTW.out.tape).trans hb2.tape, ((hst.output.trans ht2.output).trans HTW.out.output).trans hb2.output, by have := ht2.size; have := hst.size; omega, fun k hk hn => ((hst.block k (.inr ⟨hk, id⟩)).trans (ht2.block k (by omega) (fun q => by rcases q with (q | q | q) | q; exact hn (.inl q); omega; omega; exact q))).trans (hAk k hk)⟩, fun k hk => ⟨by rcases (hoT k hk).1 with q | q; exact .inl (.inl q); exact .inr (by omega), Nat.lt_of_lt_of_le (hoT k hk).2 hst.size⟩⟩
      have HJE := Veil.mk (HJx.out _ _ _ _ hJ' hst)
      refine ⟨by simp, .inl ⟨_, _, rfl, run_takeDeferred hdef2, ?_⟩⟩
      refine ⟨by simp, .inl ⟨_, _, rfl, run_takeDeferred hdefB2, ?_⟩⟩
      exact ⟨_, results_none rfl _ _ _, ⟨_, rfl⟩, .inr ⟨ys.filter p, T', trivial, HJE.out, HMV.out⟩⟩
end Go.Proofs.Ytgmbmdmbnpkbbaa
