/- Ab3 -/
import Derived.Sort.MapsRangeIn
import Derived.Shelf.AbstractIn
import Derived.RegionIn
import Derived.Test.YtgmbmdmbnpkbbaaM20
namespace Go.Proofs.Ytgmbmdmbnpkbbaa
open Go.RowKit Go.Shelf
attribute [local go_sem] Oper.semAt_some
set_option maxRecDepth 20000
set_option linter.unusedSimpArgs false
theorem wpLI_ldgv {P : Program} {ops : Array Oper} {rest : List Oper} {o : Oper} {a : Act} {w : World} {n : Nat} {Q : Exit → Act → World → Prop} {d : TypeDesc} (hw : Region.wanted o (yielded ops a.tmps) = true) (ty : TypeId) (x : Operand) (ho : o.op = .load ty x)
    (g off : Nat) (hx : a.eval x = .pointer (some ⟨g, off, none⟩)) (cs : List Value) (hg : w.rangeAt g off cs)
    (hu : P.underlying ty = some d) (hd : d.isRow = true) (hi : (P.info? ty).map (·.size) = some cs.length)
    (h : wpListIn Fence.wide n P ops Q rest (a.put o.dst (.agg cs.toArray)) w) : wpListIn Fence.wide n P ops Q (o :: rest) a w :=
  wpListIn_step fun _ hK => by
    rw [if_pos hw]
    exact wpI_op (wp_load_mid ty x ho g off hx cs _ hg hu hd hi (hK _ _ h))
theorem toldL_app (xs : List Ent) (x : Ent) (who : Int) (v : List Int) : toldL (xs ++ [x]) who v = toldL xs who v ++ (if (x.2 && tellB who v x.1) = true then [x.1] else []) := by
  unfold toldL
  rw [List.filter_append, List.map_append]
  congr 1
  by_cases h : (x.2 && tellB who v x.1) = true
  · rw [List.filter_cons_of_pos (p := fun x : Ent => x.2 && tellB who v x.1) h, if_pos h]; rfl
  · rw [List.filter_cons_of_neg (p := fun x : Ent => x.2 && tellB who v x.1) h, if_neg h]; rfl
theorem toldL_len (xs : List Ent) (who : Int) (v : List Int) : (toldL xs who v).length ≤ xs.length := by
  unfold toldL; rw [List.length_map]; exact List.length_filter_le _ _
theorem toldL_perm {xs ys : List Ent} (h : xs.Perm ys) (who : Int) (v : List Int) : (toldL xs who v).Perm (toldL ys who v) := (h.filter _).map _
theorem entC_len (x : Ent) (h : x.1.Ok) : (entC x).length = 18 := by unfold entC; rw [List.length_append, aev_len _ h.past]; rfl
theorem entC_one (x : Ent) : ∀ u ∈ entC x, u.oneCell' = true := by
  intro u hu
  rcases List.mem_append.1 hu with q | q
  · exact aev_one _ u q
  · rw [List.mem_singleton.1 q]; rfl
theorem ent_cell17 (x : Ent) (h : x.1.Ok) : (entC x)[17]? = some (.bool x.2) := by
  unfold entC
  rw [List.getElem?_append_right (by rw [aev_len _ h.past]; exact Nat.le_refl _), aev_len _ h.past]; rfl
theorem ent_take (x : Ent) (h : x.1.Ok) : ((entC x).drop 0).take 17 = x.1.cells := by
  unfold entC
  rw [List.drop_zero, ← aev_len _ h.past, List.take_left]
abbrev entZ : List Value := [.int .u8 0, .int .u32 0, .int .u32 0, .int .u32 0, .int .u32 0, .int .u32 0, .int .u32 0, .int .u32 0, .int .u32 0, .int .u32 0, .int .u8 0, .int .u8 0, .int .u32 0, .bool false, .int .u8 0, .int .u8 0, .int .u8 0, .bool false]
set_option maxHeartbeats 8000000 in
theorem counting1_seq (n B1 B2 H b Bw Bv : Nat) (L : List Ent) (who : Int) (v : List Int) (w : World) (hC : CtF w B1 B2 H b Bw Bv L who v) :
    SeqT n Try.prog 49 #[.pointer (some ⟨B1, 0, none⟩), .pointer (some ⟨B2, 0, none⟩)] (fun x : Ev => #[.agg x.cells.toArray]) (fun k => k = b ∨ k = H ∨ k = B1 ∨ k = B2 ∨ k = Bw ∨ k = Bv) (fun _ => False) (fun xs _ => xs.Perm (toldL L who v)) (fun _ _ => True) (fun x => x.Ok) L.length w := by
  intro l T J Jx W hWW hT hJ hJx hY h0
  have hC2 := hC.keep (W := W) (fun k hk => hWW.block k hk)
  obtain ⟨D, hown, hat, hsz, hso, hok⟩ := hC2.book.map
  have hOn : ∀ k, (k = b ∨ k = H ∨ k = B1 ∨ k = B2 ∨ k = Bw ∨ k = Bv) → k < W.heap.size ∧ ¬ T k := fun k hk => ⟨by
    rcases hk with rfl | rfl | rfl | rfl | rfl | rfl
    · exact hC2.book.map.lt
    · exact hC2.book.cells.lt
    · exact block_lt_of_cell hC2.c1
    · exact block_lt_of_cell hC2.c2
    · exact block_lt_of_cell hC2.cw
    · exact block_lt_of_cell (hC2.cv 0 (.int .u32 (v[0]'(by have := hC2.len; omega))) (by rw [List.getElem?_map, List.getElem?_eq_getElem (by have := hC2.len; omega)]; rfl)), fun q => (hT k q).1 hk⟩
  have c1 := hC2.c1
  have cM := hC2.book.mapCell
  refine callsIn_of_wp Try.func49 rfl trivial ?_ rfl
  simp only [Try.ntmps49, List.size_toArray, List.length_cons, List.length_nil, Nat.reduceAdd, Nat.reduceSub, Array.replicate_succ, Array.replicate_zero, List.push_toArray, List.append_toArray, List.nil_append, List.cons_append]
  gi_wp2_with (first
    | (gi_at_range; refine wpListIn_range_own _ rfl _ 75 rfl 26 107 dotKeyed Try.underlying75 _ b _ _ rfl hown ?_; intro w0 hrg0 hg0 hs0)
    | gi_in)
  have hb0 : Below W.heap.size W w0 := ⟨hg0.os, hg0.tape, hg0.output, hg0.size, fun k hk => hg0.block k hk (by simp)⟩
  gi_loopw [5] (fun _ wr => ∃ (left : Lit → Bool) (cnt : Nat) (xs : List Ent) (T' : Nat → Prop), wr.ranges Try.prog 26 rawElem b W.heap.size L.length D left cnt ∧ xs.length + cnt ≤ L.length ∧ CollB L left xs ∧ J T' (toldL xs who v) wr ∧ MovesA T W (W.heap.size + 1) T' wr)
    (fun _ wr => wr.rangeLeft b W.heap.size)
  case atStart =>
    exact ⟨_, _, [], T, hrg0, by simp [hsz], ⟨List.nodup_nil, fun a s ho => by rw [book_has hat a s ho]; cases (lookB L (a, s)).isSome <;> simp, by simp⟩, hJ _ _ _ _ h0 (StaysT.of_below hb0 (fun k hk => hk.elim (fun q => (hT k q).2) (fun q => q.1))), ⟨Turn.of_below hb0, fun k hk => ⟨.inl hk, by have := (hT k hk).2; omega⟩⟩⟩
  case round =>
    obtain ⟨left, cnt, xs, T1, hrg, hcs, hCB, hJs, hmv⟩ := hrel
    have hT1 : ∀ k, (k = b ∨ k = H ∨ k = B1 ∨ k = B2 ∨ k = Bw ∨ k = Bv) → ¬ T1 k := fun k hk q => by
      have h1 := hOn k hk
      rcases (hmv.own k q).1 with r | r
      · exact h1.2 r
      · omega
    have hT1r : ¬ T1 W.heap.size := fun q => by rcases (hmv.own _ q).1 with e | e; have := (hT _ e).2; omega; omega
    gi_wp2_with (first
      | (gi_at_next; refine wpListIn_next_ranges _ rfl _ rfl 26 dotKeyed rawElem (fun x : { d : Int × Int // okD d.1 d.2 } => .agg (dotC x.1.1 x.1.2).toArray) (fun v : Value => v) (fun key kl hk => dotKey_inv hk) (fun v y hv => ⟨v, rfl⟩) b W.heap.size L.length _ _ _ rfl hrg ?_ ?_)
      | gi_in)
    · intro hc0 hl0
      gi_wp2
      go_end0
      refine ⟨⟨_, rfl⟩, .inl ⟨_, T1, ?_, hJs, ?_⟩⟩
      · exact toldL_perm (hCB.perm hso hok hl0) who v
      · exact ⟨hmv.turn.mono fun k _ q => .inl q, fun k hk => ⟨by rcases (hmv.own k hk).1 with q | q; exact .inl (.inl q); exact .inr (by omega), (hmv.own k hk).2⟩⟩
    · intro a s hod vv kl yd yp w2 cnt2 hkey hlk hv hat2 hrg2 hlt hg2 hs2 hen
      obtain rfl : dotLit a s = kl := by have := dotKey a s hod; rw [this] at hkey; injection hkey
      obtain ⟨x, hx⟩ : ∃ x, lookB L (a, s) = some x := by
        cases hq : lookB L (a, s) with
        | some e => exact ⟨e, rfl⟩
        | none =>
          exfalso
          have h1 := hat2 (.held (.bool true))
          have h2 := hat2 (.held (.bool false))
          rw [hat a s hod, hq] at h1 h2
          rw [← h2] at h1
          cases h1
      obtain ⟨hxm, hxd⟩ := lookB_mem hx
      have hxo := hok x hxm
      have hda : a = x.1.da ∧ s = x.1.ds := by unfold Ev.dot at hxd; injection hxd with q1 q2; exact ⟨q1.symm, q2.symm⟩
      obtain rfl : vv = .agg (entC x).toArray := by
        have h1 := hat2 (.held (.bool true))
        rw [hat a s hod, hx] at h1
        injection hv with hv
        injection hv with hv1 hv2
        rw [← hv1] at h1
        injection h1 with h1
        exact h1.symm
      have hCB2 : CollB L (fun z => left z && !z.sameKey (dotLit a s)) (xs ++ [x]) := by rw [hda.1, hda.2]; exact hCB.step hxm hxo.dot hso (by rw [← hda.1, ← hda.2]; exact hlk)
      have HS : Veil (w2.heap.size = wr.heap.size) := ⟨hs2⟩
      have hlw := hrg.lt
      have he1 := entC_len x hxo
      have he2 := entC_one x
      have iX : (Try.prog.info? 107).map (·.size) = some (entC x).length := by rw [he1]; kernel_rfl
      have hE17 := ent_cell17 x hxo
      have hEt := ent_take x hxo
      have HEV : Veil (x.1.cells.length = 17) := ⟨aev_len _ hxo.past⟩
      obtain ⟨V, hV⟩ : ∃ V, V = (w2.alloc (.cells #[.int .u8 0, .int .u32 0, .int .u32 0, .int .u32 0, .int .u32 0, .int .u32 0, .int .u32 0, .int .u32 0, .int .u32 0, .int .u32 0, .int .u8 0, .int .u8 0, .int .u32 0, .bool false, .int .u8 0, .int .u8 0, .int .u8 0, .bool false] 107)).setRow w2.heap.size (entC x).toArray := ⟨_, rfl⟩
      have hVx : CellsAt V w2.heap.size 107 (entC x) := by rw [hV]; exact (CellsAt.new w2 107 entZ).setRow (entC x)
      have hVz : V.heap.size = wr.heap.size + 1 := by rw [hV, ← hs2]; simp [World.setRow, World.putObj]
      have hVk : ∀ k, k < wr.heap.size → k ≠ W.heap.size → V.heap[k]? = wr.heap[k]? := fun k hk hn => by
        rw [hV, setRow_other _ _ _ _ (by omega)]
        exact (Below.heap_alloc _ _ _ (by omega)).trans (hg2.block k hk (fun e => hn (Option.some.inj e)))
      have hVr : V.ranges Try.prog 26 rawElem b W.heap.size L.length D (fun z => left z && !z.sameKey (dotLit a s)) cnt2 := by
        refine ranges_congr hrg2 ?_ ?_
        · rw [hV, setRow_other _ _ _ _ (by have := hrg2.owns.lt; omega)]; exact Below.heap_alloc _ _ _ hrg2.owns.lt
        · rw [hV, setRow_other _ _ _ _ (by have := hrg2.lt; omega)]; exact Below.heap_alloc _ _ _ hrg2.lt
      have hVo : V.os = wr.os ∧ V.tape = wr.tape ∧ V.output = wr.output := by rw [hV]; exact ⟨hg2.os, hg2.tape, hg2.output⟩
      have hVC : CtF V B1 B2 H b Bw Bv L who v := by
        have hk2 : ∀ k, (k = b ∨ k = H ∨ k = B1 ∨ k = B2 ∨ k = Bw ∨ k = Bv) → V.heap[k]? = W.heap[k]? := fun k hk => (hVk k (by have := (hOn k hk).1; have := hmv.turn.size; omega) (by have := (hOn k hk).1; omega)).trans (hmv.turn.block k (hOn k hk).1 (hOn k hk).2)
        exact ⟨(World.cell?_of_block (a := ⟨B1, 0, none⟩) (hk2 _ (by simp))).trans hC2.c1, (World.cell?_of_block (a := ⟨B2, 0, none⟩) (hk2 _ (by simp))).trans hC2.c2, hC2.book.congr (hk2 _ (by simp)) (hk2 _ (by simp)), (World.cell?_of_block (a := ⟨Bw, 0, none⟩) (hk2 _ (by simp))).trans hC2.cw, fun i u hu => (World.cell?_of_block (a := ⟨Bv, 0 + i, none⟩) (hk2 _ (by simp))).trans (hC2.cv i u hu), hC2.len⟩
      have c2 := hVC.c2
      have c17 : V.cell? ⟨w2.heap.size, 17, none⟩ = some (.bool x.2) := (hVx.cell 17).trans hE17
      have hEr : Veil (∀ V', Below V.heap.size V V' → V'.rangeAt w2.heap.size 0 x.1.cells) := ⟨fun V' hb => by
        have := (hVx.farM hb).range 0 17
        rwa [hEt] at this⟩
      have hro := role1_any Bw Bv who v x.1 V hVC.cw hVC.cv hVC.len hxo
      -- what stays behind the round where nothing is yielded
      have HQ : Veil (∀ V', Below V.heap.size V V' → V'.ranges Try.prog 26 rawElem b W.heap.size L.length D (fun z => left z && !z.sameKey (dotLit a s)) cnt2 ∧ StaysT (fun k => T1 k ∨ (k < W.heap.size ∧ ¬ False)) wr V' ∧ MovesA T W (W.heap.size + 1) T1 V' ∧ (∀ k, T1 k → k < V'.heap.size)) := ⟨fun V' hb => by
        have hst : StaysT (fun k => T1 k ∨ (k < W.heap.size ∧ ¬ False)) wr V' := ⟨hb.os.trans hVo.1, hb.tape.trans hVo.2.1, hb.output.trans hVo.2.2, by have := hb.size; omega, fun k hk => (hb.block k (by rcases hk with q | q; have := (hmv.own k q).2; omega; have := hmv.turn.size; omega)).trans (hVk k (by rcases hk with q | q; exact (hmv.own k q).2; have := hmv.turn.size; omega) (by rcases hk with q | q; exact fun e => hT1r (e ▸ q); omega))⟩
        refine ⟨ranges_congr hVr (hb.block b hVr.owns.lt) (hb.block _ hVr.lt), hst, ⟨⟨hst.os.trans hmv.turn.os, hst.tape.trans hmv.turn.tape, hst.output.trans hmv.turn.output, Nat.le_trans hmv.turn.size hst.size, fun k hk hn => (hst.block k (.inr ⟨hk, id⟩)).trans (hmv.turn.block k hk hn)⟩, fun k hk => ⟨(hmv.own k hk).1, Nat.lt_of_lt_of_le (hmv.own k hk).2 hst.size⟩⟩, fun k hk => Nat.lt_of_lt_of_le (hmv.own k hk).2 hst.size⟩⟩
      have HRG := Veil.mk (And.intro hrg.left_eq hlt)
      have HLN : Veil (xs.length + cnt ≤ L.length ∧ cnt2 < cnt) := ⟨hcs, hlt⟩
      have HTA := Veil.mk (toldL_app xs x who v)
      have HCB2 := Veil.mk hCB2
      have HTL := Veil.mk (toldL_len xs who v)
      have HXO := Veil.mk hxo
      have HJ := Veil.mk hJ
      have HJs := Veil.mk hJs
      have HY := Veil.mk hY
      have HOn := Veil.mk hOn
      have HT1 := Veil.mk (And.intro hT1 hT1r)
      have HV := Veil.mk hV
      have HMV := Veil.mk hmv
      have iE : (Try.prog.info? 32).map (·.size) = some x.1.cells.length := by rw [HEV.out]; kernel_rfl
      have uE := Try.underlying32
      obtain ⟨E, hE⟩ : ∃ E, entC x = E := ⟨_, rfl⟩
      rw [hE] at he1 he2 iX HV hen
      obtain ⟨XC, hXC⟩ : ∃ E, x.1.cells = E := ⟨_, rfl⟩
      rw [hXC] at hEr iE hro
      have HXC := Veil.mk hXC
      clear hV hE hXC hE17 hEt hVx hVr hVo hVk hVC hrg2 hat2 hkey hv hg2 hs2 hcs hlt hCB hJs hmv hCB2 hJ hJx hY h0 hT hT1 hT1r hOn hC hC2 hWW hown hat hsz hso hrg0 hg0 hs0 hb0 hxo hxm hx hrg hok c1 cM hVz hlk hod hda hlw
      have hcase : x.2 = false ∨ (x.2 = true ∧ tellB who v x.1 = false) ∨ (x.2 = true ∧ tellB who v x.1 = true) := by cases x.2 <;> cases tellB who v x.1 <;> simp
      have h0r := hEr.out V (Below.refl _ _)
      rcases hcase with hx2 | ⟨hx2, htl⟩ | ⟨hx2, htl⟩
      · rw [hx2] at c17
        replace HTA : Veil (toldL (xs ++ [x]) who v = toldL xs who v) := ⟨by rw [HTA.out, hx2]; simp⟩
        clear hx2 hro
        gi_wp2_with (first
          | (refine wpLI_stv rfl 107 _ _ rfl w2.heap.size rfl (cs := E) rfl (CellsAt.new w2 107 entZ) iX (by rw [he1]; rfl) he2 ?_; rw [← HV.out])
          | gi_in)
        refine ⟨(fun f hf => by cases hf), ?_⟩
        gi_wp2
        obtain ⟨r1, r2, r3, r4⟩ := HQ.out V (Below.refl _ _)
        go_roundw
        case rel => exact ⟨_, cnt2, xs ++ [x], T1, r1, by have := HLN.out; simp; omega, HCB2.out, by rw [HTA.out]; exact HJ.out _ _ _ _ HJs.out r2, r3⟩
        case measure => rw [r1.left_eq, HRG.out.1]; exact HRG.out.2
      · rw [hx2] at c17
        replace HTA : Veil (toldL (xs ++ [x]) who v = toldL xs who v) := ⟨by rw [HTA.out, htl]; simp⟩
        rw [htl] at hro
        clear hx2 htl
        gi_wp2_with (first
          | (refine wpLI_stv rfl 107 _ _ rfl w2.heap.size rfl (cs := E) rfl (CellsAt.new w2 107 entZ) iX (by rw [he1]; rfl) he2 ?_; rw [← HV.out])
          | (refine wpLI_ldgv (by kernel_rfl) 32 _ rfl w2.heap.size 0 rfl XC h0r uE rfl iE ?_)
          | (refine ⟨trivial, (fun h => by cases h), ?_⟩; gi_at_call 36; refine (callsIn_wide.2 hro).mono ?_; rintro e V2 ⟨rfl, hb2⟩)
          | gi_in)
        refine ⟨(fun f hf => by cases hf), ?_⟩
        gi_wp2
        obtain ⟨r1, r2, r3, r4⟩ := HQ.out V2 hb2
        go_roundw
        case rel => exact ⟨_, cnt2, xs ++ [x], T1, r1, by have := HLN.out; simp; omega, HCB2.out, by rw [HTA.out]; exact HJ.out _ _ _ _ HJs.out r2, r3⟩
        case measure => rw [r1.left_eq, HRG.out.1]; exact HRG.out.2
      · rw [hx2] at c17
        replace HTA : Veil (toldL (xs ++ [x]) who v = toldL xs who v ++ [x.1]) := ⟨by rw [HTA.out, htl, hx2]; simp⟩
        rw [htl] at hro
        clear hx2 htl
        have HYV : Veil (∀ V2, Below V.heap.size V V2 → (YieldAt Fence.wide (n - 1) Try.prog l #[.agg XC.toArray] V2 fun e W' => (e = .returned (.bool true) ∧ ∃ T', J T' (toldL (xs ++ [x]) who v) W' ∧ MovesT T1 V2 T' W') ∨ (e = .returned (.bool false) ∧ ∃ T', Jx T' (toldL (xs ++ [x]) who v) W' ∧ MovesT T1 V2 T' W')) ∧ V2.rangeAt w2.heap.size 0 XC) := ⟨fun V2 hb2 => by
          obtain ⟨r1, r2, r3, r4⟩ := HQ.out V2 hb2
          have := HY.out T1 (toldL xs who v) x.1 V2 (HJ.out _ _ _ _ HJs.out r2) HXO.out (by have := HTL.out; have := HLN.out; omega) r4
          rw [HXC.out] at this
          rw [HTA.out]
          exact ⟨this, hEr.out V2 hb2⟩⟩
        have HN : Veil (∀ V2 W3 T2, Below V.heap.size V V2 → MovesT T1 V2 T2 W3 → W3.ranges Try.prog 26 rawElem b W.heap.size L.length D (fun z => left z && !z.sameKey (dotLit a s)) cnt2 ∧ MovesA T W (W.heap.size + 1) T2 W3) := ⟨fun V2 W3 T2 hb2 hm => by
          obtain ⟨r1, r2, r3, r4⟩ := HQ.out V2 hb2
          refine ⟨ranges_congr r1 (hm.turn.block b r1.owns.lt (HT1.out.1 b (.inl rfl))) (hm.turn.block _ r1.lt HT1.out.2), ⟨hm.turn.os.trans r3.turn.os, hm.turn.tape.trans r3.turn.tape, hm.turn.output.trans r3.turn.output, Nat.le_trans r3.turn.size hm.turn.size, fun k hk hn => ?_⟩, fun k hk => ⟨?_, (hm.own k hk).2⟩⟩
          · refine (hm.turn.block k (by have := r3.turn.size; omega) (fun q => ?_)).trans (r3.turn.block k hk hn)
            rcases (r3.own k q).1 with r | r
            · exact hn r
            · omega
          · rcases (hm.own k hk).1 with q | q
            · exact (r3.own k q).1
            · exact .inr (by have := r1.lt; omega)⟩
        clear HJ HJs HY HMV
        gi_wp2_with (first
          | (refine wpLI_stv rfl 107 _ _ rfl w2.heap.size rfl (cs := E) rfl (CellsAt.new w2 107 entZ) iX (by rw [he1]; rfl) he2 ?_; rw [← HV.out])
          | (refine wpLI_ldgv (by kernel_rfl) 32 _ rfl w2.heap.size 0 rfl XC h1r uE rfl iE ?_)
          | (refine wpLI_ldgv (by kernel_rfl) 32 _ rfl w2.heap.size 0 rfl XC h0r uE rfl iE ?_)
          | (refine ⟨trivial, (fun h => by cases h), ?_⟩; gi_at_call 36; refine (callsIn_wide.2 hro).mono ?_; rintro e V2 ⟨rfl, hb2⟩; obtain ⟨⟨fn, tmps, assign, body, hy, hR⟩, h1r⟩ := HYV.out V2 hb2; clear h0r)
          | gi_in)
        refine ⟨(fun h => by cases h), hR.mono ?_⟩
        rintro e2 W3 (⟨rfl, T2, hJ3, hm3⟩ | ⟨rfl, T2, hJx3, hm3⟩)
        · obtain ⟨r1, r3⟩ := HN.out V2 W3 T2 hb2 hm3
          clear HN hm3 hy hR h1r
          gi_wp2
          go_roundw
          case rel => exact ⟨_, cnt2, xs ++ [x], T2, r1, by have := HLN.out; simp; omega, HCB2.out, hJ3, r3⟩
          case measure => rw [r1.left_eq, HRG.out.1]; exact HRG.out.2
        · obtain ⟨r1, r3⟩ := HN.out V2 W3 T2 hb2 hm3
          clear HN hm3 hy hR h1r
          gi_wp2
          refine bodyPost_ret (results_none rfl _ _ _) rfl ?_
          exact ⟨⟨_, rfl⟩, .inr ⟨_, T2, trivial, hJx3, ⟨r3.turn.mono fun k _ q => .inl q, fun k hk => ⟨by rcases (r3.own k hk).1 with q | q; exact .inl (.inl q); exact .inr (by omega), (r3.own k hk).2⟩⟩⟩⟩
end Go.Proofs.Ytgmbmdmbnpkbbaa
