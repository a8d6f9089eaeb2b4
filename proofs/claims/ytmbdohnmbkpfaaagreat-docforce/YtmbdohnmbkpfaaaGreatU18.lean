/- Ab3 Rtl -/
import Derived.Sort.MapsRangeIn
import Derived.Shelf.AbstractIn
import Derived.RegionIn
import Derived.Test.YtmbdohnmbkpfaaaGreatU17
import Derived.Test.YtmbdohnmbkpfaaaGreatU10
namespace Go.Proofs.YtmbdohnmbkpfaaaGreat
open Go.RowKit Go.Shelf
attribute [local go_sem] Oper.semAt_some
set_option maxRecDepth 20000
set_option linter.unusedSimpArgs false
theorem wpLI_ldgv {P : Program} {ops : Array Oper} {rest : List Oper} {o : Oper} {a : Act} {w : World} {n : Nat} {Q : Exit → Act → World → Prop} {d : TypeDesc} (hw : Region.wanted o (yielded ops a.tmps) = true) (ty : TypeId) (x : Operand) (ho : o.op = .load ty x)
    (g off : Nat) (hx : a.eval x = .pointer (some ⟨g, off, none⟩)) (cs : List Value) (hg : w.rangeAt g off cs)
    (hu : P.underlying ty = some d) (hd : d.isRow = true) (hi : (P.info? ty).map (·.size) = some cs.length)
    (h : wpListIn Fence.wide n P ops Q rest (a.put o.dst (.agg cs.toArray)) w) : wpListIn Fence.wide n P ops Q (o :: rest) a w :=
  wpListIn_step fun _ hK => by
    rw [if_pos hw]
    exact wpI_op (wp_load_mid ty x ho g off hx cs _ hg hu hd hi (hK _ _ h))
theorem toldL_app (xs : List Ent) (x : Ent) (who : Int) (v : List Int) : toldL (xs ++ [x]) who v = toldL xs who v ++ (if (x.2 && tellB who v x.1) = true then [x.1] else []) := by
  unfold toldL
  rw [List.filter_append, List.map_append]
  congr 1
  by_cases h : (x.2 && tellB who v x.1) = true
  · rw [List.filter_cons_of_pos (p := fun x : Ent => x.2 && tellB who v x.1) h, if_pos h]; rfl
  · rw [List.filter_cons_of_neg (p := fun x : Ent => x.2 && tellB who v x.1) h, if_neg h]; rfl
theorem toldL_len (xs : List Ent) (who : Int) (v : List Int) : (toldL xs who v).length ≤ xs.length := by
  unfold toldL; rw [List.length_map]; exact List.length_filter_le _ _
theorem toldL_perm {xs ys : List Ent} (h : xs.Perm ys) (who : Int) (v : List Int) : (toldL xs who v).Perm (toldL ys who v) := (h.filter _).map _
theorem entC_len (x : Ent) (h : x.1.Ok) : (entC x).length = 18 := by unfold entC; rw [List.length_append, aev_len _ h.past]; rfl
theorem entC_one (x : Ent) : ∀ u ∈ entC x, u.oneCell' = true := by
  intro u hu
  rcases List.mem_append.1 hu with q | q
  · exact aev_one _ u q
  · rw [List.mem_singleton.1 q]; rfl
theorem ent_cell17 (x : Ent) (h : x.1.Ok) : (entC x)[17]? = some (.bool x.2) := by
  unfold entC
  rw [List.getElem?_append_right (by rw [aev_len _ h.past]; exact Nat.le_refl _), aev_len _ h.past]; rfl
theorem ent_take (x : Ent) (h : x.1.Ok) : ((entC x).drop 0).take 17 = x.1.cells := by
  unfold entC
  rw [List.drop_zero, ← aev_len _ h.past, List.take_left]
abbrev entZ : List Value := [.int .u8 0, .int .u32 0, .int .u32 0, .int .u32 0, .int .u32 0, .int .u32 0, .int .u32 0, .int .u32 0, .int .u32 0, .int .u32 0, .int .u8 0, .int .u8 0, .int .u32 0, .bool false, .int .u8 0, .int .u8 0, .int .u8 0, .bool false]
set_option maxHeartbeats 8000000 in
theorem counting1_seq (n B1 B2 H b Bw Bv : Nat) (L : List Ent) (who : Int) (v : List Int) (w : World) (hC : CtF w B1 B2 H b Bw Bv L who v) :
    SeqT n Tryz.prog 119 #[.pointer (some ⟨B1, 0, none⟩), .pointer (some ⟨B2, 0, none⟩)] (fun x : Ev => #[.agg x.cells.toArray]) (fun k => k = b ∨ k = H ∨ k = B1 ∨ k = B2 ∨ k = Bw ∨ k = Bv) (fun _ => False) (fun xs _ => xs.Perm (toldL L who v)) (fun _ _ => True) (fun x => x.Ok) L.length w := by
  intro l T J Jx W hWW hT hJ hJx hY h0
  have hC2 := hC.keep (W := W) (fun k hk => hWW.block k hk)
  obtain ⟨D, hown, hat, hsz, hso, hok⟩ := hC2.book.map
  have hOn : ∀ k, (k = b ∨ k = H ∨ k = B1 ∨ k = B2 ∨ k = Bw ∨ k = Bv) → k < W.heap.size ∧ ¬ T k := fun k hk => ⟨by
    rcases hk with rfl | rfl | rfl | rfl | rfl | rfl
    · exact hC2.book.map.lt
    · exact hC2.book.cells.lt
    · exact block_lt_of_cell hC2.c1
    · exact block_lt_of_cell hC2.c2
    · exact block_lt_of_cell hC2.cw
    · exact block_lt_of_cell (hC2.cv 0 (.int .u32 (v[0]'(by have := hC2.len; omega))) (by rw [List.getElem?_map, List.getElem?_eq_getElem (by have := hC2.len; omega)]; rfl)), fun q => (hT k q).1 hk⟩
  have c1 := hC2.c1
  have cM := hC2.book.mapCell
  refine callsIn_of_wp Tryz.func119 rfl trivial ?_ rfl
  simp only [Tryz.ntmps119, List.size_toArray, List.length_cons, List.length_nil, Nat.reduceAdd, Nat.reduceSub, Array.replicate_succ, Array.replicate_zero, List.push_toArray, List.append_toArray, List.nil_append, List.cons_append]
  gi_wp2_with (first
    | (gi_at_range; refine wpListIn_range_own _ rfl _ 127 rfl 40 144 dotKeyed Tryz.underlying127 _ b _ _ rfl hown ?_; intro w0 hrg0 hg0 hs0)
    | gi_in)
  have hb0 : Below W.heap.size W w0 := ⟨hg0.os, hg0.tape, hg0.output, hg0.size, fun k hk => hg0.block k hk (by simp)⟩
  gi_loopw [5] (fun _ wr => ∃ (left : Lit → Bool) (cnt : Nat) (xs : List Ent) (T' : Nat → Prop), wr.ranges Tryz.prog 40 rawElem b W.heap.size L.length D left cnt ∧ xs.length + cnt ≤ L.length ∧ CollB L left xs ∧ J T' (toldL xs who v) wr ∧ MovesA T W (W.heap.size + 1) T' wr)
    (fun _ wr => wr.rangeLeft b W.heap.size)
  case atStart =>
    exact ⟨_, _, [], T, hrg0, by simp [hsz], ⟨List.nodup_nil, fun a s ho => by rw [book_has hat a s ho]; cases (lookB L (a, s)).isSome <;> simp, by simp⟩, hJ _ _ _ _ h0 (StaysT.of_below hb0 (fun k hk => hk.elim (fun q => (hT k q).2) (fun q => q.1))), ⟨Turn.of_below hb0, fun k hk => ⟨.inl hk, by have := (hT k hk).2; omega⟩⟩⟩
  case round =>
    obtain ⟨left, cnt, xs, T1, hrg, hcs, hCB, hJs, hmv⟩ := hrel
    have hT1 : ∀ k, (k = b ∨ k = H ∨ k = B1 ∨ k = B2 ∨ k = Bw ∨ k = Bv) → ¬ T1 k := fun k hk q => by
      have h1 := hOn k hk
      rcases (hmv.own k q).1 with r | r
      · exact h1.2 r
      · omega
    have hT1r : ¬ T1 W.heap.size := fun q => by rcases (hmv.own _ q).1 with e | e; have := (hT _ e).2; omega; omega
    gi_wp2_with (first
      | (gi_at_next; refine wpListIn_next_ranges _ rfl _ rfl 40 dotKeyed rawElem (fun x : { d : Int × Int // okD d.1 d.2 } => .agg (dotC x.1.1 x.1.2).toArray) (fun v : Value => v) (fun key kl hk => dotKey_inv hk) (fun v y hv => ⟨v, rfl⟩) b W.heap.size L.length _ _ _ rfl hrg ?_ ?_)
      | gi_in)
    · intro hc0 hl0
      gi_wp2
      go_end0
      refine ⟨⟨_, rfl⟩, .inl ⟨_, T1, ?_, hJs, ?_⟩⟩
      · exact toldL_perm (hCB.perm hso hok hl0) who v
      · exact ⟨hmv.turn.mono fun k _ q => .inl q, fun k hk => ⟨by rcases (hmv.own k hk).1 with q | q; exact .inl (.inl q); exact .inr (by omega), (hmv.own k hk).2⟩⟩
    · intro a s hod vv kl yd yp w2 cnt2 hkey hlk hv hat2 hrg2 hlt hg2 hs2 hen
      obtain rfl : dotLit a s = kl := by have := dotKey a s hod; rw [this] at hkey; injection hkey
      obtain ⟨x, hx⟩ : ∃ x, lookB L (a, s) = some x := by
        cases hq : lookB L (a, s) with
        | some e => exact ⟨e, rfl⟩
        | none =>
          exfalso
          have h1 := hat2 (.held (.bool true))
          have h2 := hat2 (.held (.bool false))
          rw [hat a s hod, hq] at h1 h2
          rw [← h2] at h1
          cases h1
      obtain ⟨hxm, hxd⟩ := lookB_mem hx
      have hxo := hok x hxm
      have hda : a = x.1.da ∧ s = x.1.ds := by unfold Ev.dot at hxd; injection hxd with q1 q2; exact ⟨q1.symm, q2.symm⟩
      obtain rfl : vv = .agg (entC x).toArray := by
        have h1 := hat2 (.held (.bool true))
        rw [hat a s hod, hx] at h1
        injection hv with hv
        injection hv with hv1 hv2
        rw [← hv1] at h1
        injection h1 with h1
        exact h1.symm
      have hCB2 : CollB L (fun z => left z && !z.sameKey (dotLit a s)) (xs ++ [x]) := by rw [hda.1, hda.2]; exact hCB.step hxm hxo.dot hso (by rw [← hda.1, ← hda.2]; exact hlk)
      have HS : Veil (w2.heap.size = wr.heap.size) := ⟨hs2⟩
      have hlw := hrg.lt
      have he1 := entC_len x hxo
      have he2 := entC_one x
      have iX : (Tryz.prog.info? 144).map (·.size) = some (entC x).length := by rw [he1]; kernel_rfl
      have hE17 := ent_cell17 x hxo
      have hEt := ent_take x hxo
      have HEV : Veil (x.1.cells.length = 17) := ⟨aev_len _ hxo.past⟩
      obtain ⟨V, hV⟩ : ∃ V, V = (w2.alloc (.cells #[.int .u8 0, .int .u32 0, .int .u32 0, .int .u32 0, .int .u32 0, .int .u32 0, .int .u32 0, .int .u32 0, .int .u32 0, .int .u32 0, .int .u8 0, .int .u8 0, .int .u32 0, .bool false, .int .u8 0, .int .u8 0, .int .u8 0, .bool false] 144)).setRow w2.heap.size (entC x).toArray := ⟨_, rfl⟩
      have hVx : CellsAt V w2.heap.size 144 (entC x) := by rw [hV]; exact (CellsAt.new w2 144 entZ).setRow (entC x)
      have hVz : V.heap.size = wr.heap.size + 1 := by rw [hV, ← hs2]; simp [World.setRow, World.putObj]
      have hVk : ∀ k, k < wr.heap.size → k ≠ W.heap.size → V.heap[k]? = wr.heap[k]? := fun k hk hn => by
        rw [hV, setRow_other _ _ _ _ (by omega)]
        exact (Below.heap_alloc _ _ _ (by omega)).trans (hg2.block k hk (fun e => hn (Option.some.inj e)))
      have hVr : V.ranges Tryz.prog 40 rawElem b W.heap.size L.length D (fun z => left z && !z.sameKey (dotLit a s)) cnt2 := by
        refine ranges_congr hrg2 ?_ ?_
        · rw [hV, setRow_other _ _ _ _ (by have := hrg2.owns.lt; omega)]; exact Below.heap_alloc _ _ _ hrg2.owns.lt
        · rw [hV, setRow_other _ _ _ _ (by have := hrg2.lt; omega)]; exact Below.heap_alloc _ _ _ hrg2.lt
      have hVo : V.os = wr.os ∧ V.tape = wr.tape ∧ V.output = wr.output := by rw [hV]; exact ⟨hg2.os, hg2.tape, hg2.output⟩
      have hVC : CtF V B1 B2 H b Bw Bv L who v := by
        have hk2 : ∀ k, (k = b ∨ k = H ∨ k = B1 ∨ k = B2 ∨ k = Bw ∨ k = Bv) → V.heap[k]? = W.heap[k]? := fun k hk => (hVk k (by have := (hOn k hk).1; have := hmv.turn.size; omega) (by have := (hOn k hk).1; omega)).trans (hmv.turn.block k (hOn k hk).1 (hOn k hk).2)
        exact ⟨(World.cell?_of_block (a := ⟨B1, 0, none⟩) (hk2 _ (by simp))).trans hC2.c1, (World.cell?_of_block (a := ⟨B2, 0, none⟩) (hk2 _ (by simp))).trans hC2.c2, hC2.book.congr (hk2 _ (by simp)) (hk2 _ (by simp)), (World.cell?_of_block (a := ⟨Bw, 0, none⟩) (hk2 _ (by simp))).trans hC2.cw, fun i u hu => (World.cell?_of_block (a := ⟨Bv, 0 + i, none⟩) (hk2 _ (by simp))).trans (hC2.cv i u hu), hC2.len⟩
      have c2 := hVC.c2
      have c17 : V.cell? ⟨w2.heap.size, 17, none⟩ = some (.bool x.2) := (hVx.cell 17).trans hE17
      have hEr : Veil (∀ V', Below V.heap.size V V' → V'.rangeAt w2.heap.size 0 x.1.cells) := ⟨fun V' hb => by
        have := (hVx.farM hb).range 0 17
        rwa [hEt] at this⟩
      have hro := role1_any Bw Bv who v x.1 V hVC.cw hVC.cv hVC.len hxo
      -- what stays behind the round where nothing is yielded
      have HQ : Veil (∀ V', Below V.heap.size V V' → V'.ranges Tryz.prog 40 rawElem b W.heap.size L.length D (fun z => left z && !z.sameKey (dotLit a s)) cnt2 ∧ StaysT (fun k => T1 k ∨ (k < W.heap.size ∧ ¬ False)) wr V' ∧ MovesA T W (W.heap.size + 1) T1 V' ∧ (∀ k, T1 k → k < V'.heap.size)) := ⟨fun V' hb => by
        have hst : StaysT (fun k => T1 k ∨ (k < W.heap.size ∧ ¬ False)) wr V' := ⟨hb.os.trans hVo.1, hb.tape.trans hVo.2.1, hb.output.trans hVo.2.2, by have := hb.size; omega, fun k hk => (hb.block k (by rcases hk with q | q; have := (hmv.own k q).2; omega; have := hmv.turn.size; omega)).trans (hVk k (by rcases hk with q | q; exact (hmv.own k q).2; have := hmv.turn.size; omega) (by rcases hk with q | q; exact fun e => hT1r (e ▸ q); omega))⟩
        refine ⟨ranges_congr hVr (hb.block b hVr.owns.lt) (hb.block _ hVr.lt), hst, ⟨⟨hst.os.trans hmv.turn.os, hst.tape.trans hmv.turn.tape, hst.output.trans hmv.turn.output, Nat.le_trans hmv.turn.size hst.size, fun k hk hn => (hst.block k (.inr ⟨hk, id⟩)).trans (hmv.turn.block k hk hn)⟩, fun k hk => ⟨(hmv.own k hk).1, Nat.lt_of_lt_of_le (hmv.own k hk).2 hst.size⟩⟩, fun k hk => Nat.lt_of_lt_of_le (hmv.own k hk).2 hst.size⟩⟩
      have HRG := Veil.mk (And.intro hrg.left_eq hlt)
      have HLN : Veil (xs.length + cnt ≤ L.length ∧ cnt2 < cnt) := ⟨hcs, hlt⟩
      have HTA := Veil.mk (toldL_app xs x who v)
      have HCB2 := Veil.mk hCB2
      have HTL := Veil.mk (toldL_len xs who v)
      have HXO := Veil.mk hxo
      have HJ := Veil.mk hJ
      have HJs := Veil.mk hJs
      have HY := Veil.mk hY
      have HOn := Veil.mk hOn
      have HT1 := Veil.mk (And.intro hT1 hT1r)
      have HV := Veil.mk hV
      have HMV := Veil.mk hmv
      have iE : (Tryz.prog.info? 44).map (·.size) = some x.1.cells.length := by rw [HEV.out]; kernel_rfl
      have uE := Tryz.underlying44
      obtain ⟨E, hE⟩ : ∃ E, entC x = E := ⟨_, rfl⟩
      rw [hE] at he1 he2 iX HV hen
      obtain ⟨XC, hXC⟩ : ∃ E, x.1.cells = E := ⟨_, rfl⟩
      rw [hXC] at hEr iE hro
      have HXC := Veil.mk hXC
      clear hV hE hXC hE17 hEt hVx hVr hVo hVk hVC hrg2 hat2 hkey hv hg2 hs2 hcs hlt hCB hJs hmv hCB2 hJ hJx hY h0 hT hT1 hT1r hOn hC hC2 hWW hown hat hsz hso hrg0 hg0 hs0 hb0 hxo hxm hx hrg hok c1 cM hVz hlk hod hda hlw
      have hcase : x.2 = false ∨ (x.2 = true ∧ tellB who v x.1 = false) ∨ (x.2 = true ∧ tellB who v x.1 = true) := by cases x.2 <;> cases tellB who v x.1 <;> simp
      have h0r := hEr.out V (Below.refl _ _)
      rcases hcase with hx2 | ⟨hx2, htl⟩ | ⟨hx2, htl⟩
      · rw [hx2] at c17
        replace HTA : Veil (toldL (xs ++ [x]) who v = toldL xs who v) := ⟨by rw [HTA.out, hx2]; simp⟩
        clear hx2 hro
        gi_wp2_with (first
          | (refine wpLI_stv rfl 144 _ _ rfl w2.heap.size rfl (cs := E) rfl (CellsAt.new w2 144 entZ) iX (by rw [he1]; rfl) he2 ?_; rw [← HV.out])
          | gi_in)
        refine ⟨(fun f hf => by cases hf), ?_⟩
        gi_wp2
        obtain ⟨r1, r2, r3, r4⟩ := HQ.out V (Below.refl _ _)
        go_roundw
        case rel => exact ⟨_, cnt2, xs ++ [x], T1, r1, by have := HLN.out; simp; omega, HCB2.out, by rw [HTA.out]; exact HJ.out _ _ _ _ HJs.out r2, r3⟩
        case measure => rw [r1.left_eq, HRG.out.1]; exact HRG.out.2
      · rw [hx2] at c17
        replace HTA : Veil (toldL (xs ++ [x]) who v = toldL xs who v) := ⟨by rw [HTA.out, htl]; simp⟩
        rw [htl] at hro
        clear hx2 htl
        gi_wp2_with (first
          | (refine wpLI_stv rfl 144 _ _ rfl w2.heap.size rfl (cs := E) rfl (CellsAt.new w2 144 entZ) iX (by rw [he1]; rfl) he2 ?_; rw [← HV.out])
          | (refine wpLI_ldgv (by kernel_rfl) 44 _ rfl w2.heap.size 0 rfl XC h0r uE rfl iE ?_)
          | (refine ⟨trivial, (fun h => by cases h), ?_⟩; gi_at_call 103; refine (callsIn_wide.2 hro).mono ?_; rintro e V2 ⟨rfl, hb2⟩)
          | gi_in)
        refine ⟨(fun f hf => by cases hf), ?_⟩
        gi_wp2
        obtain ⟨r1, r2, r3, r4⟩ := HQ.out V2 hb2
        go_roundw
        case rel => exact ⟨_, cnt2, xs ++ [x], T1, r1, by have := HLN.out; simp; omega, HCB2.out, by rw [HTA.out]; exact HJ.out _ _ _ _ HJs.out r2, r3⟩
        case measure => rw [r1.left_eq, HRG.out.1]; exact HRG.out.2
      · rw [hx2] at c17
        replace HTA : Veil (toldL (xs ++ [x]) who v = toldL xs who v ++ [x.1]) := ⟨by rw [HTA.out, htl, hx2]; simp⟩
        rw [htl] at hro
        clear hx2 htl
        have HYV : Veil (∀ V2, Below V.heap.size V V2 → (YieldAt Fence.wide (n - 1) Tryz.prog l #[.agg XC.toArray] V2 fun e W' => (e = .returned (.bool true) ∧ ∃ T', J T' (toldL (xs ++ [x]) who v) W' ∧ MovesT T1 V2 T' W') ∨ (e = .returned (.bool false) ∧ ∃ T', Jx T' (toldL (xs ++ [x]) who v) W' ∧ MovesT T1 V2 T' W')) ∧ V2.rangeAt w2.heap.size 0 XC) := ⟨fun V2 hb2 => by
          obtain ⟨r1, r2, r3, r4⟩ := HQ.out V2 hb2
          have := HY.out T1 (toldL xs who v) x.1 V2 (HJ.out _ _ _ _ HJs.out r2) HXO.out (by have := HTL.out; have := HLN.out; omega) r4
          rw [HXC.out] at this
          rw [HTA.out]
          exact ⟨this, hEr.out V2 hb2⟩⟩
        have HN : Veil (∀ V2 W3 T2, Below V.heap.size V V2 → MovesT T1 V2 T2 W3 → W3.ranges Tryz.prog 40 rawElem b W.heap.size L.length D (fun z => left z && !z.sameKey (dotLit a s)) cnt2 ∧ MovesA T W (W.heap.size + 1) T2 W3) := ⟨fun V2 W3 T2 hb2 hm => by
          obtain ⟨r1, r2, r3, r4⟩ := HQ.out V2 hb2
          refine ⟨ranges_congr r1 (hm.turn.block b r1.owns.lt (HT1.out.1 b (.inl rfl))) (hm.turn.block _ r1.lt HT1.out.2), ⟨hm.turn.os.trans r3.turn.os, hm.turn.tape.trans r3.turn.tape, hm.turn.output.trans r3.turn.output, Nat.le_trans r3.turn.size hm.turn.size, fun k hk hn => ?_⟩, fun k hk => ⟨?_, (hm.own k hk).2⟩⟩
          · refine (hm.turn.block k (by have := r3.turn.size; omega) (fun q => ?_)).trans (r3.turn.block k hk hn)
            rcases (r3.own k q).1 with r | r
            · exact hn r
            · omega
          · rcases (hm.own k hk).1 with q | q
            · exact (r3.own k q).1
            · exact .inr (by have := r1.lt; omega)⟩
        clear HJ HJs HY HMV
        gi_wp2_with (first
          | (refine wpLI_stv rfl 144 _ _ rfl w2.heap.size rfl (cs := E) rfl (CellsAt.new w2 144 entZ) iX (by rw [he1]; rfl) he2 ?_; rw [← HV.out])
          | (refine wpLI_ldgv (by kernel_rfl) 44 _ rfl w2.heap.size 0 rfl XC h1r uE rfl iE ?_)
          | (refine wpLI_ldgv (by kernel_rfl) 44 _ rfl w2.heap.size 0 rfl XC h0r uE rfl iE ?_)
          | (refine ⟨trivial, (fun h => by cases h), ?_⟩; gi_at_call 103; refine (callsIn_wide.2 hro).mono ?_; rintro e V2 ⟨rfl, hb2⟩; obtain ⟨⟨fn, tmps, assign, body, hy, hR⟩, h1r⟩ := HYV.out V2 hb2; clear h0r)
          | gi_in)
        refine ⟨(fun h => by cases h), hR.mono ?_⟩
        rintro e2 W3 (⟨rfl, T2, hJ3, hm3⟩ | ⟨rfl, T2, hJx3, hm3⟩)
        · obtain ⟨r1, r3⟩ := HN.out V2 W3 T2 hb2 hm3
          clear HN hm3 hy hR h1r
          gi_wp2
          go_roundw
          case rel => exact ⟨_, cnt2, xs ++ [x], T2, r1, by have := HLN.out; simp; omega, HCB2.out, hJ3, r3⟩
          case measure => rw [r1.left_eq, HRG.out.1]; exact HRG.out.2
        · obtain ⟨r1, r3⟩ := HN.out V2 W3 T2 hb2 hm3
          clear HN hm3 hy hR h1r
          gi_wp2
          refine bodyPost_ret (results_none rfl _ _ _) rfl ?_
          exact ⟨⟨_, rfl⟩, .inr ⟨_, T2, trivial, hJx3, ⟨r3.turn.mono fun k _ q => .inl q, fun k hk => ⟨by rcases (r3.own k hk).1 with q | q; exact .inl (.inl q); exact .inr (by omega), (r3.own k hk).2⟩⟩⟩⟩
open Go Go.RowKit
theorem wpIn_rangeTl {α : Type} {n : Nat} {P : Program} {g : Operand} {ps : Array Tmp} {assign body : Code} {Q : Exit → Act → World → Prop} {a : Act} {w : World}
    (h1 : 1 ≤ n) {gf : Nat} {lb : Array Value} (hg : a.eval g = .func (.func gf) #[] lb) (eg : ∀ args w, (callFunc gf args).run P w = .ok (.enter gf args) w)
    {encs : α → Array Value} {Own Wr : Nat → Prop} {Post Postx : List α → World → Prop} {ok : α → Prop} {N : Nat} (hseq : SeqT (n - 1) P gf lb encs Own Wr Post Postx ok N w) (hps : ∀ x, (encs x).size = ps.size)
    (hPost : ∀ xs A B, Post xs A → StaysT Own A B → Post xs B) (hPostx : ∀ xs A B, Postx xs A → StaysT Own A B → Postx xs B)
    (T0 : Nat → Prop) (hT0 : ∀ k, T0 k → ¬ Own k ∧ k < w.heap.size) (hOwn : ∀ k, Own k → k < w.heap.size)
    (I : (Nat → Prop) → List α → World → Prop) (Ix : Code → (Nat → Prop) → List α → World → Prop) (hI : ∀ T s A B, I T s A → StaysT (fun k => T k ∨ (k < w.heap.size ∧ ¬ Wr k)) A B → I T s B) (hIx : ∀ c T s A B, Ix c T s A → StaysT (fun k => T k ∨ (k < w.heap.size ∧ ¬ Wr k)) A B → Ix c T s B) (h0 : I T0 [] w)
    (hround : ∀ (l : Nat) (r : Loop) (T : Nat → Prop) (pre : List α) (x : α) (W : World), I T pre W → ok x → pre.length < N → (∀ k, T k → k < W.heap.size) → (∀ k, T k → T0 k ∨ w.heap.size + 2 ≤ k) → W.heap[l]? = some (.loop r) → l = w.heap.size + 1 →
      assign.wpIn (Fence.wide.inRound l) (n - 1 - 1) P (Exit.then (fun a' W' => Turn T W W' ∧
        body.wpIn (Fence.wide.inRound l) (n - 1 - 1) P (roundOut fun c W3 => ∃ T', (match c with | none => I T' (pre ++ [x]) W3 | some c => Ix c T' (pre ++ [x]) W3) ∧ MovesT T (W'.putObj l (.loop { r with state := .busy })) T' W3) a' (W'.putObj l (.loop { r with state := .busy }))) (fun _ _ _ => False))
        { tmps := (ps.zip (encs x)).foldl (fun t (p, v) => t.setIfInBounds p v) a.tmps, defers := [] } W)
    (hdone : ∀ (D : Nat) (xs : List α) (T : Nat → Prop) (W : World), w.heap.size ≤ D → Post xs W → I T xs W → W.heap[D]? = some (.deferred (some [])) → Turn (fun k => T0 k ∨ Wr k) w W → ¬ T D → Q .normal { a with defers := { target := .collected D, args := #[] } :: a.defers } W)
    (hstop : ∀ (D : Nat) (c : Code) (xs : List α) (T : Nat → Prop) (W : World), w.heap.size ≤ D → Postx xs W → Ix c T xs W → W.heap[D]? = some (.deferred (some [])) → Turn (fun k => T0 k ∨ Wr k) w W → ¬ T D → c.wpIn Fence.wide n P Q { a with defers := { target := .collected D, args := #[] } :: a.defers } W) :
    (Code.rangeFunc g ps assign body).wpIn Fence.wide n P Q a w := by
  refine wpIn_rangeFunc fun fn hfn => ?_
  obtain ⟨rec, hrec⟩ : ∃ rec : LoopState → Option Code → Loop, rec = fun st pe => { state := st, pending := pe, fn, tmps := a.tmps, params := ps, assign, body, defers := w.heap.size } := ⟨_, rfl⟩
  obtain ⟨W1, hW1⟩ : ∃ W1, (w.alloc (.deferred (some []))).alloc (.loop (rec .ready none)) = W1 := ⟨_, rfl⟩
  have hL1 : W1.heap[w.heap.size + 1]? = some (.loop (rec .ready none)) := by
    rw [← hW1]; have := World.alloc_heap_new (w.alloc (.deferred (some []))) (.loop (rec .ready none)); rwa [World.size_alloc] at this
  have hK1 : W1.heap[w.heap.size]? = some (.deferred (some [])) := by
    rw [← hW1]; exact (Below.heap_alloc _ _ _ (by simp)).trans (World.alloc_heap_new w _)
  have hb1 : Below w.heap.size w W1 := by rw [← hW1]; exact ((Below.refl _ w).alloc (Nat.le_refl _) _).alloc (by simp) _
  have hs1 : W1.heap.size = w.heap.size + 2 := by rw [← hW1]; simp
  refine ⟨w.heap.size + 1, [{ target := .collected w.heap.size, args := #[] }], W1, { target := .fn (.func gf) lb, args := #[.func (.yield (w.heap.size + 1)) #[] #[]] }, W1, gf, #[.func (.yield (w.heap.size + 1)) #[] #[]] ++ lb, W1, ?_, ?_, ?_, ?_, fun _ => h1, ?_⟩
  · rw [← hW1, hrec]; exact run_enterLoop_outer _ _ _ _ _
  · simp only [resolve, hg]; simp [go_sem]
  · intro f' _; trivial
  · simp [invoke, go_sem, eg]
  have hnT : ∀ T : Nat → Prop, (∀ k, T k → T0 k ∨ w.heap.size + 2 ≤ k) → ¬ T (w.heap.size + 1) ∧ ¬ T w.heap.size := fun T hT => ⟨fun q => by rcases hT _ q with e | e; have := (hT0 _ e).2; omega; omega, fun q => by rcases hT _ q with e | e; have := (hT0 _ e).2; omega; omega⟩
  refine (hseq (w.heap.size + 1) (fun k => T0 k ∨ k = w.heap.size + 1 ∨ k = w.heap.size)
    (fun Ti pre W => HeldT (w.heap.size + 1) w.heap.size (w.heap.size + 2) T0 (rec .ready none) (fun T W => I T pre W) Ti W)
    (fun Ti pre W => ∃ c, HeldT (w.heap.size + 1) w.heap.size (w.heap.size + 2) T0 (rec .done (some c)) (fun T W => Ix c T pre W) Ti W) W1 hb1
    (fun k hk => ?_) (fun T s A B h hs => h.stays (Z := fun k => k < w.heap.size ∧ ¬ Wr k) (fun k q => ⟨by omega, q.2⟩) (fun T' hr hq => hI _ _ _ _ hr hq) hs) (fun T s A B ⟨c, h⟩ hs => ⟨c, h.stays (Z := fun k => k < w.heap.size ∧ ¬ Wr k) (fun k q => ⟨by omega, q.2⟩) (fun T' hr hq => hIx _ _ _ _ _ hr hq) hs⟩) ?_
    ⟨T0, fun k => Iff.rfl, hI _ _ _ _ h0 (StaysT.of_below hb1 (fun k hk => hk.elim (fun q => (hT0 k q).2) (fun q => q.1))), fun k hk => .inl hk, hL1, hK1⟩).mono ?_
  · rcases hk with hk | rfl | rfl
    · exact ⟨(hT0 k hk).1, by have := (hT0 k hk).2; omega⟩
    · exact ⟨fun q => by have := hOwn _ q; omega, by omega⟩
    · exact ⟨fun q => by have := hOwn _ q; omega, by omega⟩
  · rintro Ti pre x W ⟨T, hT, hi, hgr, hl, hk⟩ hok hlen hTi
    have hlt : w.heap.size + 1 < W.heap.size := (Array.getElem?_eq_some_iff.1 hl).1
    obtain ⟨hn1, hn2⟩ := hnT T hgr
    have hy := run_yield (P := P) (args := encs x) hl (by rw [hrec]; exact hps x)
    rw [hrec] at hy
    refine ⟨fn, _, assign, body, hy, roundIn_of_wpIn hfn (wpIn_mono (hround _ _ T pre x W hi hok hlen (fun k hk' => hTi k ((hT k).2 (.inl hk'))) hgr hl rfl) ?_)⟩
    clear hy
    intro e a' W' he
    cases e with
    | normal =>
      obtain ⟨ht, hbd⟩ := he
      have hl' := (ht.block _ hlt hn1).trans hl
      have hk' := (ht.block _ (by omega) hn2).trans hk
      have hlt' : w.heap.size + 1 < W'.heap.size := (Array.getElem?_eq_some_iff.1 hl').1
      refine ⟨_, run_beginRound hl' (by rw [hrec]), wpIn_mono hbd ?_⟩
      have hl2 : (W'.putObj (w.heap.size + 1) (.loop { rec .ready none with state := .busy })).heap[w.heap.size + 1]? = some (.loop { rec .ready none with state := .busy }) := World.putObj_heap_same hlt'
      have hk2 : (W'.putObj (w.heap.size + 1) (.loop { rec .ready none with state := .busy })).heap[w.heap.size]? = some (.deferred (some [])) := (World.putObj_heap_other (by omega)).trans hk'
      have hz2 : (W'.putObj (w.heap.size + 1) (.loop { rec .ready none with state := .busy })).heap.size = W'.heap.size := by simp [World.putObj]
      have fin : ∀ (jump : Option Code) (T' : Nat → Prop) (W3 : World), MovesT T (W'.putObj (w.heap.size + 1) (.loop { rec .ready none with state := .busy })) T' W3 →
          (Instr.endRound (w.heap.size + 1) jump).run P W3 = .ok (.bool jump.isNone) (W3.putObj (w.heap.size + 1) (.loop (rec (if jump.isNone then .ready else .done) jump))) ∧
          (∀ k, T' k → T0 k ∨ w.heap.size + 2 ≤ k) ∧
          (W3.putObj (w.heap.size + 1) (.loop (rec (if jump.isNone then .ready else .done) jump))).heap[w.heap.size + 1]? = some (.loop (rec (if jump.isNone then .ready else .done) jump)) ∧
          (W3.putObj (w.heap.size + 1) (.loop (rec (if jump.isNone then .ready else .done) jump))).heap[w.heap.size]? = some (.deferred (some [])) ∧
          StaysT (fun k => T' k ∨ (k < w.heap.size ∧ ¬ Wr k)) W3 (W3.putObj (w.heap.size + 1) (.loop (rec (if jump.isNone then .ready else .done) jump))) ∧
          MovesT Ti W (fun k => T' k ∨ k = w.heap.size + 1 ∨ k = w.heap.size) (W3.putObj (w.heap.size + 1) (.loop (rec (if jump.isNone then .ready else .done) jump))) := fun jump T' W3 hm => by
        have hl3 := (hm.turn.block _ (by rw [hz2]; exact hlt') hn1).trans hl2
        have hk3 := (hm.turn.block _ (by rw [hz2]; omega) hn2).trans hk2
        have hlt3 : w.heap.size + 1 < W3.heap.size := (Array.getElem?_eq_some_iff.1 hl3).1
        have hgr' : ∀ k, T' k → T0 k ∨ w.heap.size + 2 ≤ k := fun k hk => by
          rcases (hm.own k hk).1 with q | q
          · exact hgr k q
          · rw [hz2] at q; exact .inr (by omega)
        have := run_endRound (P := P) jump hl3
        rw [hrec] at this ⊢
        refine ⟨this, hgr', World.putObj_heap_same hlt3, (World.putObj_heap_other (by omega)).trans hk3, StaysT.put _ (fun q => q.elim (hnT T' hgr').1 (fun q => by omega)), ?_⟩
        have hTl : Ti (w.heap.size + 1) := (hT _).2 (.inr (.inl rfl))
        have t1 : Turn Ti W W' := ht.mono (fun k _ q => (hT k).2 (.inl q))
        have t2 := Turn.put (p := Ti) (w := W') (.loop { rec .ready none with state := .busy }) hTl
        rw [hrec] at t2
        have t3 := hm.turn.mono (q := Ti) (fun k _ q => (hT k).2 (.inl q))
        rw [hrec] at t3
        refine ⟨((t1.trans t2).trans t3).trans (Turn.put _ hTl), fun k hk => ?_⟩
        have hz : (W3.putObj (w.heap.size + 1) (.loop { state := if jump.isNone then .ready else .done, pending := jump, fn, tmps := a.tmps, params := ps, assign, body, defers := w.heap.size })).heap.size = W3.heap.size := by simp [World.putObj]
        rw [hz]
        rcases hk with hk | rfl | rfl
        · obtain ⟨q, q2⟩ := hm.own k hk
          refine ⟨?_, q2⟩
          rcases q with q | q
          · exact .inl ((hT k).2 (.inl q))
          · rw [hz2] at q; exact .inr (Nat.le_trans ht.size q)
        · exact ⟨.inl hTl, hlt3⟩
        · exact ⟨.inl ((hT _).2 (.inr (.inr rfl))), by omega⟩
      rintro e a3 W3 hp
      cases e with
      | normal =>
        obtain ⟨T', hi3, hm⟩ := hp
        obtain ⟨hr, hg', hl4, hk4, hst, hmv⟩ := fin none T' W3 hm
        exact ⟨_, _, hr, .inl ⟨rfl, _, ⟨T', fun k => Iff.rfl, hI _ _ _ _ hi3 hst, hg', hl4, hk4⟩, hmv⟩⟩
      | ret =>
        obtain ⟨T', hi3, hm⟩ := hp
        obtain ⟨hr, hg', hl4, hk4, hst, hmv⟩ := fin (some .ret) T' W3 hm
        exact ⟨_, _, hr, .inr ⟨rfl, _, ⟨.ret, T', fun k => Iff.rfl, hIx _ _ _ _ _ hi3 hst, hg', hl4, hk4⟩, hmv⟩⟩
      | exit id =>
        obtain ⟨T', hi3, hm⟩ := hp
        obtain ⟨hr, hg', hl4, hk4, hst, hmv⟩ := fin (some (.exit id)) T' W3 hm
        exact ⟨_, _, hr, .inr ⟨rfl, _, ⟨.exit id, T', fun k => Iff.rfl, hIx _ _ _ _ _ hi3 hst, hg', hl4, hk4⟩, hmv⟩⟩
      | goto t =>
        obtain ⟨T', hi3, hm⟩ := hp
        obtain ⟨hr, hg', hl4, hk4, hst, hmv⟩ := fin (some (.goto t)) T' W3 hm
        exact ⟨_, _, hr, .inr ⟨rfl, _, ⟨.goto t, T', fun k => Iff.rfl, hIx _ _ _ _ _ hi3 hst, hg', hl4, hk4⟩, hmv⟩⟩
      | panic ch => exact hp.elim
      | outgrown => exact hp.elim
    | ret => exact he.elim
    | exit id => exact he.elim
    | goto t => exact he.elim
    | panic ch => exact he.elim
    | outgrown => exact he.elim
  · have hend : ∀ (T : Nat → Prop) (W2 : World) (o : Obj), MovesT (fun k => (T0 k ∨ k = w.heap.size + 1 ∨ k = w.heap.size) ∨ Wr k) W1 T W2 → Turn (fun k => T0 k ∨ Wr k) w (W2.putObj (w.heap.size + 1) o) := fun T W2 o hm => by
      have t := hm.turn.trans (Turn.put (p := fun k => (T0 k ∨ k = w.heap.size + 1 ∨ k = w.heap.size) ∨ Wr k) o (.inl (.inr (.inl rfl))))
      refine ⟨t.os.trans hb1.os, t.tape.trans hb1.tape, t.output.trans hb1.output, Nat.le_trans hb1.size t.size, fun k hk hn => (t.block k (by omega) (fun q => ?_)).trans (hb1.block k hk)⟩
      rcases q with (q | q | q) | q
      · exact hn (.inl q)
      · omega
      · omega
      · exact hn (.inr q)
    have hOl : ¬ Own (w.heap.size + 1) := fun q => by have := hOwn _ q; omega
    rintro e W2 ⟨⟨v, rfl⟩, (⟨xs, T', hP, ⟨T, hT, hi, hgr, hl, hk⟩, hm⟩ | ⟨xs, T', hP, ⟨c, T, hT, hi, hgr, hl, hk⟩, hm⟩)⟩
    · exact ⟨none, _, by have := run_endLoop (P := P) hl (by rw [hrec]; simp); rw [hrec] at this; exact this, hdone _ xs T _ (Nat.le_refl _) (hPost _ _ _ hP (StaysT.put _ hOl)) (hI _ _ _ _ hi (StaysT.put _ (fun q => q.elim (hnT T hgr).1 (fun q => by omega)))) ((World.putObj_heap_other (by omega)).trans hk) (hend _ _ _ hm) (hnT T hgr).2⟩
    · exact ⟨some c, _, by have := run_endLoop (P := P) hl (by rw [hrec]; simp); rw [hrec] at this; exact this, hstop _ c xs T _ (Nat.le_refl _) (hPostx _ _ _ hP (StaysT.put _ hOl)) (hIx _ _ _ _ _ hi (StaysT.put _ (fun q => q.elim (hnT T hgr).1 (fun q => by omega)))) ((World.putObj_heap_other (by omega)).trans hk) (hend _ _ _ hm) (hnT T hgr).2⟩
end Go.Proofs.YtmbdohnmbkpfaaaGreat
