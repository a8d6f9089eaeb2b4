/- Fg17 -/
import Derived.Sort.MapsRangeIn
import Derived.Shelf.AbstractIn
import Derived.RegionIn
import Derived.Test.YtnmjplngbleopaaF16
import Derived.Test.YtnmjplngbleopaaF07
import Derived.Test.YtnmjplngbleopaaF20
import Derived.Test.YtnmjplngbleopaaF03
namespace Go.Proofs.Ytnmjplngbleopaa
open Go.RowKit Go.Shelf
attribute [local go_sem] Oper.semAt_some
set_option maxRecDepth 20000
set_option linter.unusedSimpArgs false
theorem wpLF_ldgv {P : Program} {ops : Array Oper} {rest : List Oper} {o : Oper} {a : Act} {w : World} {n : Nat} {Q : Exit → Act → World → Prop} {d : TypeDesc} (hw : Region.wanted o (yielded ops a.tmps) = true) (ty : TypeId) (x : Operand) (ho : o.op = .load ty x)
    (g off : Nat) (hx : a.eval x = .pointer (some ⟨g, off, none⟩)) (cs : List Value) (hg : w.rangeAt g off cs)
    (hu : P.underlying ty = some d) (hd : d.isRow = true) (hi : (P.info? ty).map (·.size) = some cs.length)
    (h : wpListIn Fence.wide n P ops Q rest (a.put o.dst (.agg cs.toArray)) w) : wpListIn Fence.wide n P ops Q (o :: rest) a w :=
  wpListIn_step fun _ hK => by
    rw [if_pos hw]
    exact wpI_op (wp_load_mid ty x ho g off hx cs _ hg hu hd hi (hK _ _ h))
theorem wpLF_stv {P : Program} {ops : Array Oper} {rest : List Oper} {o : Oper} {a : Act} {w : World} {n : Nat} {Q : Exit → Act → World → Prop} (hgd : o.guard = none) (ty : TypeId) (x y : Operand) (ho : o.op = .store ty x y)
    (g : Nat) (hx : a.eval x = .pointer (some ⟨g, 0, none⟩)) {t : TypeId} {old cs : List Value} (hy : a.eval y = .agg cs.toArray) (hg : CellsAt w g t old)
    (hi : (P.info? ty).map (·.size) = some cs.length) (hl : old.length = cs.length) (h1 : ∀ v ∈ cs, v.oneCell' = true)
    (h : wpListIn Fence.wide n P ops Q rest (a.put o.dst undef) (w.setRow g cs.toArray)) : wpListIn Fence.wide n P ops Q (o :: rest) a w :=
  wpListIn_plain hgd fun _ hK => wpI_op (wp_stvE ty x y ho g hx hy hg hi hl h1 (hK _ _ h))
theorem roundIn_deep {n m l : Nat} {P : Program} {fn : FuncId} {tmps : Array Value} {assign body : Code} {w : World} {R : Ending → World → Prop} (h : RoundIn Fence.wide m P l fn tmps assign body w R) : RoundIn Fence.wide n P l fn tmps assign body w R := ⟨h.1, fun c cs _ => h.2 c cs (room_wide _)⟩
structure YieldsT (l B0 : Nat) (total : List (Int × Int)) (J Jx : (Nat → Prop) → List (Int × Int) → World → Prop) : Prop where
  stays : ∀ T s A B, J T s A → StaysT (fun k => T k ∨ k < B0) A B → J T s B
  yields : ∀ T pre x W1, J T pre W1 → okDF x → pre ++ [x] <+: total → (∀ k, T k → k < W1.heap.size) → ∃ m, YieldAt Fence.wide m Try.prog l #[.agg (encF x).toArray] W1 fun e W' =>
    (e = .returned (.bool true) ∧ ∃ T', J T' (pre ++ [x]) W' ∧ MovesT T W1 T' W') ∨ (e = .returned (.bool false) ∧ ∃ T', Jx T' (pre ++ [x]) W' ∧ MovesT T W1 T' W')
structure WalkR (total : List (Int × Int)) (J Jx : (Nat → Prop) → List (Int × Int) → World → Prop) (T : Nat → Prop) (ps : List (Int × Int)) (W : World) (e : Ending) (W' : World) : Prop where
  out : (e = .returned (.bool true) ∧ ∃ T', J T' ps W' ∧ MovesT T W T' W') ∨ (e = .returned (.bool false) ∧ ∃ T' xs, Jx T' xs W' ∧ xs <+: total ∧ MovesT T W T' W')
structure ApartT (R bc bn : Nat) (V : (Int × Int) × Bool → Value) (B0 : Nat) (T : Nat → Prop) (W : World) : Prop where
  own : ∀ k, T k → ¬ treeP R bc bn V k ∧ k < W.heap.size
  size : B0 ≤ W.heap.size
theorem ApartT.moves {R bc bn B0 : Nat} {V : (Int × Int) × Bool → Value} {T T' : Nat → Prop} {W W' : World} (h : ApartT R bc bn V B0 T W) (hO : ∀ k, treeP R bc bn V k → k < B0) (hm : MovesT T W T' W') : ApartT R bc bn V B0 T' W' :=
  ⟨fun k hk => ⟨fun q => by
      rcases (hm.own k hk).1 with r | r
      · exact (h.own k r).1 q
      · have := hO k q; have := h.size; omega, (hm.own k hk).2⟩, Nat.le_trans h.size hm.turn.size⟩
theorem TreeAt.moves {w w' : World} {base R bc bn B0 : Nat} {N : List Nd} {V : (Int × Int) × Bool → Value} {T T' : Nat → Prop} (h : TreeAt w base R bc bn N V) (hA : ApartT R bc bn V B0 T w) (hm : MovesT T w T' w') : TreeAt w' base R bc bn N V :=
  h.congr fun k hk => hm.turn.block k (h.blockLt k hk) fun q => (hA.own k q).1 hk
theorem take_blocks {α β : Type} (f : α → List β) (l : List α) (i : Nat) (hi : i < l.length) : (l.take (i + 1)).flatMap f = (l.take i).flatMap f ++ f l[i] := by
  rw [List.take_succ_eq_append_getElem hi, List.flatMap_append]; simp
theorem blocks_prefix {α β : Type} (f : α → List β) (l : List α) (i : Nat) (hi : i < l.length) : (l.take i).flatMap f ++ f l[i] <+: l.flatMap f := by
  rw [← take_blocks f l i hi]
  conv => rhs; rw [← List.take_append_drop (i + 1) l, List.flatMap_append]
  exact List.prefix_append _ _
theorem block_one (N : List Nd) (ps : List (Int × Int)) (x : Int × Int) : ps ++ walkA N (x, false) <+: ps ++ blockN N x := by
  unfold blockN
  rw [List.append_assoc]
  exact (List.prefix_append_right_inj ps).2 (List.prefix_append _ _)
theorem block_two (N : List Nd) (ps : List (Int × Int)) (x : Int × Int) : ps ++ walkA N (x, false) ++ [x] <+: ps ++ blockN N x := by
  unfold blockN
  rw [List.append_assoc]
  exact (List.prefix_append_right_inj ps).2 (List.prefix_append _ _)
theorem block_all (N : List Nd) (ps : List (Int × Int)) (x : Int × Int) : ps ++ walkA N (x, false) ++ [x] ++ walkA N (x, true) = ps ++ blockN N x := by
  unfold blockN
  simp only [List.append_assoc]
set_option maxHeartbeats 8000000 in
theorem walkT_any (base R bc bn : Nat) (N : List Nd) (V : (Int × Int) × Bool → Value) (hN : Rooted N) (hlen : N.length ≤ 1000) (l B0 : Nat) (total : List (Int × Int)) (J Jx : (Nat → Prop) → List (Int × Int) → World → Prop) (hY : YieldsT l B0 total J Jx) (hO : ∀ k, treeP R bc bn V k → k < B0) (s : (Int × Int) × Bool) :
    okS s → ∀ (T : Nat → Prop) (pre : List (Int × Int)) (W : World), TreeAt W base R bc bn N V → ApartT R bc bn V B0 T W → pre ++ walkA N s <+: total → J T pre W →
    Calls Try.prog 37 #[.pointer (some ⟨R, 0, none⟩), .agg (sideC s).toArray, .func (.yield l) #[] #[]] W (WalkR total J Jx T (pre ++ walkA N s) W) := by
  refine walk_ind hN (C := fun s => okS s → ∀ (T : Nat → Prop) (pre : List (Int × Int)) (W : World), TreeAt W base R bc bn N V → ApartT R bc bn V B0 T W → pre ++ walkA N s <+: total → J T pre W →
    Calls Try.prog 37 #[.pointer (some ⟨R, 0, none⟩), .agg (sideC s).toArray, .func (.yield l) #[] #[]] W (WalkR total J Jx T (pre ++ walkA N s) W)) (fun s ih hs T pre W hT hA hpre h0 => ?_) s
  have hd0 := CellsAt.new W 56 (sideC s)
  have hB : Below W.heap.size W (W.alloc (.cells (sideC s).toArray 56)) := (Below.refl _ _).alloc (Nat.le_refl _) _
  have HLOOK : Veil (∀ wx, MapG Try.prog 56 encS okS wx bn N.length (sideM N V) → (Instr.lookup 49 (.map (some bn)) (.agg (sideC s).toArray) false).run Try.prog wx = .ok (V s) wx) := ⟨fun wx h => by
    have := h.get keyEncS Try.underlying49 (z := .slice none 0 0) (by kernel_rfl) s hs
    rw [sideM_getD hT.sidesIn s hs] at this
    exact this⟩
  have hOw := hT.sides.own s hs
  have hkl := kids_few N s
  obtain ⟨sx, sc, hsl⟩ := hOw.isSlice
  rw [List.length_map] at hsl
  obtain ⟨sn, hsn⟩ : ∃ q, (kids N s).length = q := ⟨_, rfl⟩
  rw [hsn] at hsl hkl
  rw [hsl] at HLOOK
  have HSL := Veil.mk hsl
  have HSN := Veil.mk hsn
  have hsm : sn ≤ 1000 := by omega
  -- what the rounds need
  have HJ := Veil.mk hY.stays
  have HYY := Veil.mk hY.yields
  have HO := Veil.mk hO
  have HT := Veil.mk hT
  have HA := Veil.mk hA
  have HIH := Veil.mk ih
  have HPR := Veil.mk hpre
  have HS := Veil.mk hs
  have HW : Veil (walkA N s = (kids N s).flatMap (blockN N)) := ⟨walkA_blocks hN s⟩
  have H0 := Veil.mk h0
  have HOI : Veil (∀ x ∈ kids N s, okDF x) := ⟨fun x hx => by
    obtain ⟨n, hn, _, rfl⟩ := mem_kids.1 hx
    exact (hT.okId n hn).1⟩
  have uS := Try.underlying56
  have iS : (Try.prog.info? 56).map (·.size) = some (sideC s).length := by rw [sideC_len]; kernel_rfl
  have uD := Try.underlying32
  obtain ⟨ES, hES⟩ : ∃ q, sideC s = q := ⟨_, rfl⟩
  rw [hES] at hd0 hB HLOOK iS ⊢
  clear hES hsl hsn hkl hOw hs hpre h0 hA hT ih hO hlen hN hY
  refine (callsIn_wide (n := 9)).1 ?_
  refine callsIn_of_wp Try.func37 rfl trivial ?_ rfl
  simp only [Try.ntmps37, List.size_toArray, List.length_cons, List.length_nil, Nat.reduceAdd, Nat.reduceSub, Array.replicate_succ, Array.replicate_zero, List.push_toArray, List.append_toArray, List.nil_append, List.cons_append]
  gi_wp2
  refine wpIn_wide.2 ?_
  refine forget (p := fun y => Code.wp _ _ _ _ y) (fun W1 => Below W.heap.size W W1 ∧ CellsAt W1 W.heap.size 56 ES) ⟨hB, hd0⟩ ?_
  clear hB hd0
  rintro W1 ⟨hB, hd⟩
  refine wp_region_gateT (fun w' => w'.cell? ⟨R, 1, none⟩ = some (.map (some bn)) ∧ w'.rangeAt W.heap.size 0 ES ∧ MapG Try.prog 56 encS okS w' bn N.length (sideM N V)) (fun _ => True) 99 (by kernel_rfl) ?_
  have hT : (fun w' : World => w'.cell? ⟨R, 1, none⟩ = some (.map (some bn)) ∧ w'.rangeAt W.heap.size 0 ES ∧ MapG Try.prog 56 encS okS w' bn N.length (sideM N V)) W1.drew := ⟨(HT.out.far hB.drew).box.cell 1, (hd.congr (w' := W1.drew) rfl).wholeM, (HT.out.far hB.drew).nodes⟩
  have hS : (fun _ : World => True) W1.drew := trivial
  refine wpAnyT_held (i := 0) (v := ?_) rfl (by kernel_rfl) (by kernel_rfl) (by kernel_rfl) (fun _ _ _ h => h) (by kernel_rfl) hT (fun _ => hS) (by kernel_rfl) ?_ ?_
  rotate_left
  · intro wx hSw; go_split_ands; go_simp; try with_reducible rfl
  simp only [Act.put, List.getElem_toArray, List.getElem_cons_succ, List.getElem_cons_zero, List.setIfInBounds_toArray, List.set_cons_zero, List.set_cons_succ]
  refine wpAnyT_held (i := 1) (v := ?_) rfl (by kernel_rfl) (by kernel_rfl) (by kernel_rfl) (fun _ _ _ h => h) (by kernel_rfl) hT (fun _ => hS) (by kernel_rfl) ?_ ?_
  rotate_left
  · intro wx hSw; go_split_ands; go_simp; try with_reducible rfl
  simp only [Act.put, List.getElem_toArray, List.getElem_cons_succ, List.getElem_cons_zero, List.setIfInBounds_toArray, List.set_cons_zero, List.set_cons_succ]
  refine wpAnyT_held (i := 2) (v := ?_) rfl (by kernel_rfl) (by kernel_rfl) (by kernel_rfl) (fun _ _ _ h => h) (by kernel_rfl) hT (fun _ => hS) (by kernel_rfl) ?_ ?_
  rotate_left
  · intro wx hSw; go_split_ands; go_simp; try with_reducible rfl
  simp only [Act.put, List.getElem_toArray, List.getElem_cons_succ, List.getElem_cons_zero, List.setIfInBounds_toArray, List.set_cons_zero, List.set_cons_succ]
  refine wpAnyT_held (i := 3) (v := ?_) rfl (by kernel_rfl) (by kernel_rfl) (by kernel_rfl) (fun _ _ _ h => h) (by kernel_rfl) hT (fun _ => hS) (by kernel_rfl) ?_ ?_
  rotate_left
  · intro wx hSw; go_split_ands; go_simp; try with_reducible rfl
  simp only [Act.put, List.getElem_toArray, List.getElem_cons_succ, List.getElem_cons_zero, List.setIfInBounds_toArray, List.set_cons_zero, List.set_cons_succ]
  refine wpAnyT_load (i := 4) (dst := some 13) (ty := 56) (x := .tmp 4) (b := W.heap.size) (o := (0)) (cs := ES) (by kernel_rfl) (by kernel_rfl) (by kernel_rfl) (by kernel_rfl) (by kernel_rfl) (fun _ _ _ h => h) (by kernel_rfl) hT (fun _ => hS) (by kernel_rfl) (fun _ h => h.2.1) uS rfl iS ?_
  simp only [Act.put, List.getElem_toArray, List.getElem_cons_succ, List.getElem_cons_zero, List.setIfInBounds_toArray, List.set_cons_zero, List.set_cons_succ]
  refine wpAnyT_held (i := 5) (v := .slice sx sn sc) rfl (by kernel_rfl) (by kernel_rfl) (by kernel_rfl) (fun _ _ _ h => h) (by kernel_rfl) hT (fun _ => hS) (by kernel_rfl) (fun wx h => exec_lookF rfl rfl rfl (HLOOK.out wx h.2.2)) ?_
  simp only [Act.put, List.getElem_toArray, List.getElem_cons_succ, List.getElem_cons_zero, List.setIfInBounds_toArray, List.set_cons_zero, List.set_cons_succ]
  refine wpAnyT_held (i := 6) (v := ?_) rfl (by kernel_rfl) (by kernel_rfl) (by kernel_rfl) (fun _ _ _ h => h) (by kernel_rfl) hT (fun _ => hS) (by kernel_rfl) ?_ ?_
  rotate_left
  · intro wx hSw; go_split_ands; go_simp; try with_reducible rfl
  simp only [Act.put, List.getElem_toArray, List.getElem_cons_succ, List.getElem_cons_zero, List.setIfInBounds_toArray, List.set_cons_zero, List.set_cons_succ]
  refine wpAnyT_held (i := 7) (v := ?_) rfl (by kernel_rfl) (by kernel_rfl) (by kernel_rfl) (fun _ _ _ h => h) (by kernel_rfl) hT (fun _ => hS) (by kernel_rfl) ?_ ?_
  rotate_left
  · intro wx hSw; go_split_ands; go_simp; try with_reducible rfl
  simp only [Act.put, List.getElem_toArray, List.getElem_cons_succ, List.getElem_cons_zero, List.setIfInBounds_toArray, List.set_cons_zero, List.set_cons_succ]
  refine wpAnyT_done (by kernel_rfl) ?_ _
  have hdl : W.heap.size + 1 ≤ W1.drew.heap.size := hd.lt
  clear hT hS hd HLOOK
  refine forget (p := fun y => Exit.then _ _ _ _ y) (fun W1 => Below W.heap.size W W1 ∧ W.heap.size + 1 ≤ W1.heap.size) ⟨hB.drew, hdl⟩ ?_
  clear hB hdl W1
  rintro W1 ⟨hB, hz1⟩
  have HAT : Veil (∀ wr T1, MovesA T W (W.heap.size + 1) T1 wr → TreeAt wr base R bc bn N V ∧ ApartT R bc bn V B0 T1 wr) := ⟨fun wr T1 hm => ⟨HT.out.congr fun k hk => hm.turn.block k (HT.out.blockLt k hk) fun q => (HA.out.own k q).1 hk, fun k hk => ⟨fun q => by
      rcases (hm.own k hk).1 with r | r
      · exact (HA.out.own k r).1 q
      · have := HO.out k q; have := HA.out.size; omega, (hm.own k hk).2⟩, Nat.le_trans HA.out.size hm.turn.size⟩⟩
  have HST : Veil (∃ T1, J T1 (pre ++ ((kids N s).take 0).flatMap (blockN N)) W1 ∧ MovesA T W (W.heap.size + 1) T1 W1) := ⟨T, by
    rw [List.take_zero, List.flatMap_nil, List.append_nil]
    exact HJ.out _ _ _ _ H0.out (StaysT.of_below hB fun k hk => hk.elim (fun q => (HA.out.own k q).2) (fun q => Nat.lt_of_lt_of_le q HA.out.size)), Turn.of_below hB, fun k hk => ⟨.inl hk, Nat.lt_of_lt_of_le (HA.out.own k hk).2 hB.size⟩⟩
  have HEND : Veil (∀ (c : Ending) W3 T1 ps, c = .returned (.bool true) → ps = pre ++ walkA N s → J T1 ps W3 → MovesA T W (W.heap.size + 1) T1 W3 → WalkR total J Jx T (pre ++ walkA N s) W c W3) := ⟨fun c W3 T1 ps hc hp hj hm => ⟨.inl ⟨hc, T1, hp ▸ hj, hm.turn, fun k hk => ⟨by rcases (hm.own k hk).1 with q | q; exact .inl q; exact .inr (by omega), (hm.own k hk).2⟩⟩⟩⟩
  have HENX : Veil (∀ (c : Ending) W3 T1 ps, c = .returned (.bool false) → ps <+: total → Jx T1 ps W3 → MovesA T W (W.heap.size + 1) T1 W3 → WalkR total J Jx T (pre ++ walkA N s) W c W3) := ⟨fun c W3 T1 ps hc hp hj hm => ⟨.inr ⟨hc, T1, ps, hj, hp, hm.turn, fun k hk => ⟨by rcases (hm.own k hk).1 with q | q; exact .inl q; exact .inr (by omega), (hm.own k hk).2⟩⟩⟩⟩
  have HLEN : Veil ((kids N s).take sn = kids N s) := ⟨by rw [← HSN.out]; exact List.take_length⟩
  clear hB
  gi_wp2
  gi_loopw [8, 16] (fun _ p wr => ∃ (i : Nat) (T1 : Nat → Prop), p = .int .i64 (i : Nat) ∧ i ≤ sn ∧ J T1 (pre ++ ((kids N s).take i).flatMap (blockN N)) wr ∧ MovesA T W (W.heap.size + 1) T1 wr) (fun _ p _ => sn - (intOf p).toNat)
  case atStart =>
    obtain ⟨T1, h1, h2⟩ := HST.out
    exact ⟨0, T1, rfl, Nat.zero_le _, h1, h2⟩
  case round =>
    obtain ⟨i, T1, rfl, hi, hj, hm⟩ := hrel
    clear HST
    have HMV := Veil.mk hm
    have HJS := Veil.mk hj
    clear hm hj
    by_cases hlt : i < sn
    · have hli : (i : Int) < (sn : Int) := by omega
      have hli0 : (0 : Int) ≤ (i : Int) := by omega
      have hki : i < (kids N s).length := by rw [HSN.out]; exact hlt
      obtain ⟨hTr, hAr⟩ := HAT.out wr T1 HMV.out
      have hOw := hTr.sides.own s HS.out
      rw [HSL.out] at hOw
      obtain ⟨g, rfl, -, hr⟩ := hOw.at_ i (by rw [List.length_map]; exact hki)
      rw [List.getElem_map] at hr
      have hmem : (kids N s)[i] ∈ kids N s := List.getElem_mem hki
      have hix := HOI.out _ hmem
      have hih := HIH.out _ hmem
      have HTB := Veil.mk (take_blocks (blockN N) (kids N s) i hki)
      have HBP : Veil (pre ++ ((kids N s).take i).flatMap (blockN N) ++ blockN N (kids N s)[i] <+: total) := ⟨by
        rw [List.append_assoc]
        refine List.IsPrefix.trans ?_ HPR.out
        rw [HW.out]
        exact (List.prefix_append_right_inj pre).2 (blocks_prefix (blockN N) (kids N s) i hki)⟩
      generalize (kids N s)[i] = x at hr hmem hix hih HTB HBP
      obtain ⟨xa, xb⟩ := x
      have iX : (Try.prog.info? 32).map (·.size) = some [Value.int .u8 xa, Value.int .u32 xb].length := sizeDot
      have hx1 : ∀ v ∈ [Value.int .u8 xa, Value.int .u32 xb], v.oneCell' = true := encF_one (xa, xb)
      generalize hps : pre ++ ((kids N s).take i).flatMap (blockN N) = ps at HJS HBP
      have HPS := Veil.mk hps
      have HNX : Veil (pre ++ ((kids N s).take (i + 1)).flatMap (blockN N) = ps ++ blockN N (xa, xb)) := ⟨by rw [HTB.out, ← hps, List.append_assoc]⟩
      have HX := Veil.mk hix
      have HIH2 := Veil.mk hih
      have HAR := Veil.mk hAr
      have HTR := Veil.mk hTr
      obtain ⟨V1, hV⟩ : ∃ V1, V1 = (wr.alloc (.cells #[.int .u8 0, .int .u32 0] 32)).setRow wr.heap.size #[.int .u8 xa, .int .u32 xb] := ⟨_, rfl⟩
      have hVx : CellsAt V1 wr.heap.size 32 [.int .u8 xa, .int .u32 xb] := by rw [hV]; exact (CellsAt.new wr 32 [.int .u8 0, .int .u32 0]).setRow [.int .u8 xa, .int .u32 xb]
      have hVb : Below wr.heap.size wr V1 := by
        rw [hV]
        refine ⟨rfl, rfl, rfl, by simp [World.setRow, World.putObj], fun k hk => ?_⟩
        rw [setRow_other _ _ _ _ (by omega)]; exact Below.heap_alloc wr _ k hk
      have hVz : wr.heap.size < V1.heap.size := hVx.lt
      have HV := Veil.mk hV
      have hrV := hVx.wholeM
      -- the first walk
      have hA1 : ApartT R bc bn V B0 T1 V1 := ⟨fun k hk => ⟨(hAr.own k hk).1, by have := (hAr.own k hk).2; omega⟩, Nat.le_trans hAr.size hVb.size⟩
      have hT1 := hTr.far hVb
      have hj1 : J T1 ps V1 := HJ.out _ _ _ _ HJS.out (StaysT.of_below hVb fun k hk => hk.elim (fun q => (hAr.own k q).2) (fun q => Nat.lt_of_lt_of_le q hAr.size))
      have hw1 := HIH2.out false HX.out T1 ps V1 hT1 hA1 ((block_one N ps (xa, xb)).trans HBP.out) hj1
      -- behind it
      have HB8 : Veil (∀ (Ta Tb : Nat → Prop) (A B : World), (∀ k, Ta k → k ≠ wr.heap.size) → MovesT Ta A Tb B → CellsAt A wr.heap.size 32 [.int .u8 xa, .int .u32 xb] → CellsAt B wr.heap.size 32 [.int .u8 xa, .int .u32 xb] ∧ ∀ k, Tb k → k ≠ wr.heap.size) := ⟨fun Ta Tb A B hn hm hc => ⟨hc.congr (hm.turn.block _ hc.lt fun q => hn _ q rfl), fun k hk => by
        rcases (hm.own k hk).1 with q | q
        · exact hn k q
        · have := hc.lt; omega⟩⟩
      have HN1 : Veil (∀ k, T1 k → k ≠ wr.heap.size) := ⟨fun k hk => by have := (hAr.own k hk).2; omega⟩
      have HMA : Veil (∀ (T2 : Nat → Prop) (W2 : World), MovesT T1 V1 T2 W2 → MovesA T W (W.heap.size + 1) T2 W2) := ⟨fun T2 W2 h => ⟨⟨h.turn.os.trans (hVb.os.trans HMV.out.turn.os), h.turn.tape.trans (hVb.tape.trans HMV.out.turn.tape), h.turn.output.trans (hVb.output.trans HMV.out.turn.output), Nat.le_trans HMV.out.turn.size (Nat.le_trans hVb.size h.turn.size), fun k hk hn => ?_⟩, fun k hk => ⟨?_, (h.own k hk).2⟩⟩⟩
      rotate_left
      · have hws := HMV.out.turn.size
        refine (h.turn.block k (by have := hVb.size; omega) fun q => ?_).trans ((hVb.block k (by omega)).trans (HMV.out.turn.block k hk hn))
        rcases (HMV.out.own k q).1 with r | r
        · exact hn r
        · omega
      · rcases (h.own k hk).1 with q | q
        · exact (HMV.out.own k q).1
        · exact .inr (by have := HMV.out.turn.size; have := hVb.size; omega)
      have HVX := Veil.mk hVx
      have HA1 := Veil.mk hA1
      have HT1 := Veil.mk hT1
      clear hps hOw hmem hix hih hTr hAr hki HTB HIH HPR HW HT H0 HEND hV hVx hVb hVz hA1 hT1 hj1 HAR HTR HMV HJS HAT
      gi_wp2_with (first
        | (refine wpLF_ldgv (by kernel_rfl) 32 (.tmp 18) rfl g (i * 2) rfl [.int .u8 xa, .int .u32 xb] hr uD rfl iX ?_)
        | (refine wpLF_stv rfl 32 _ _ rfl wr.heap.size rfl (cs := [.int .u8 xa, .int .u32 xb]) rfl (CellsAt.new wr 32 [.int .u8 0, .int .u32 0]) iX rfl hx1 ?_; rw [← HV.out])
        | (refine wpLF_ldgv (by kernel_rfl) 32 (.tmp 8) rfl wr.heap.size 0 rfl [.int .u8 xa, .int .u32 xb] hrV uD rfl iX ?_)
        | gi_in)
      refine ⟨trivial, (callsIn_wide.2 hw1).mono ?_⟩
      clear hw1 hr hrV HV hx1
      rintro e W2 ⟨(⟨rfl, T2, hJ2, hm2⟩ | ⟨rfl, T2, xs2, hJ2, hxs2, hm2⟩)⟩
      rotate_left
      · have HQ := Veil.mk (HENX.out _ W2 T2 xs2 rfl hxs2 hJ2 (HMA.out T2 W2 hm2))
        clear hJ2 hm2 hxs2
        gi_wp2
        refine ⟨(fun f hf => by cases hf), ?_⟩
        gi_wp2
        refine ⟨trivial, ?_⟩
        gi_wp2
        go_ret
        exact HQ.out
      -- the yield
      obtain ⟨hc2, hn2⟩ := HB8.out T1 T2 V1 W2 HN1.out hm2 HVX.out
      have hA2 := HA1.out.moves HO.out hm2
      have hT2 := HT1.out.moves HA1.out hm2
      obtain ⟨m2, fn2, tm2, as2, bd2, hy2, hR2⟩ := HYY.out T2 _ (xa, xb) W2 hJ2 HX.out ((block_two N ps (xa, xb)).trans HBP.out) (fun k hk => (hA2.own k hk).2)
      replace hy2 : (Instr.yield l #[.agg #[.int .u8 xa, .int .u32 xb]]).run Try.prog W2 = .ok (.round l fn2 tm2 as2 bd2) W2 := hy2
      have hrV := hc2.wholeM
      have HC2 := Veil.mk hc2
      have HN2 := Veil.mk hn2
      have HM2 := Veil.mk hm2
      have HA2 := Veil.mk hA2
      have HT2 := Veil.mk hT2
      clear hc2 hn2 hm2 hA2 hT2 hJ2 HYY HN1 HVX
      gi_wp2_with (first
        | (refine wpLF_ldgv (by kernel_rfl) 32 (.tmp 8) rfl wr.heap.size 0 rfl [.int .u8 xa, .int .u32 xb] hrV uD rfl iX ?_)
        | gi_in)
      refine (roundIn_deep hR2).mono ?_
      clear hR2 hy2 hrV
      rintro e3 W3 (⟨rfl, T3, hJ3, hm3⟩ | ⟨rfl, T3, hJ3, hm3⟩)
      rotate_left
      · have HQ := Veil.mk (HENX.out _ W3 T3 _ rfl ((block_two N ps (xa, xb)).trans HBP.out) hJ3 (HMA.out T3 W3 (HM2.out.trans hm3)))
        clear hJ3 hm3
        gi_wp2
        refine ⟨trivial, ?_⟩
        gi_wp2
        go_ret
        exact HQ.out
      -- the second walk
      obtain ⟨hc3, hn3⟩ := HB8.out T2 T3 W2 W3 HN2.out hm3 HC2.out
      have hA3 := HA2.out.moves HO.out hm3
      have hT3 := HT2.out.moves HA2.out hm3
      have hw3 := HIH2.out true HX.out T3 (ps ++ walkA N ((xa, xb), false) ++ [(xa, xb)]) W3 hT3 hA3 (by rw [block_all]; exact HBP.out) hJ3
      rw [block_all] at hw3
      have hrV := hc3.wholeM
      have HM3 := Veil.mk (HM2.out.trans hm3)
      clear hc3 hn3 hm3 hA3 hT3 hJ3 HIH2
      gi_wp2_with (first
        | (refine wpLF_ldgv (by kernel_rfl) 32 (.tmp 8) rfl wr.heap.size 0 rfl [.int .u8 xa, .int .u32 xb] hrV uD rfl iX ?_)
        | gi_in)
      refine ⟨trivial, (callsIn_wide.2 hw3).mono ?_⟩
      clear hw3 hrV
      rintro e4 W4 ⟨(⟨rfl, T4, hJ4, hm4⟩ | ⟨rfl, T4, xs4, hJ4, hxs4, hm4⟩)⟩
      · have HQ := Veil.mk (And.intro hJ4 (HMA.out T4 W4 (HM3.out.trans hm4)))
        have hwi : IntKind.i64.wrap ((i : Int) + 1) = (i : Int) + 1 := by rw [IntKind.wrap_i64]; omega
        clear hJ4 hm4
        gi_wp2
        go_roundw
        case rel => exact ⟨i + 1, T4, by push_cast; rfl, hlt, by rw [HNX.out]; exact HQ.out.1, HQ.out.2⟩
        case measure => simp [intOf]; omega
      · have HQ := Veil.mk (HENX.out _ W4 T4 xs4 rfl hxs4 hJ4 (HMA.out T4 W4 (HM3.out.trans hm4)))
        clear hJ4 hm4 hxs4
        gi_wp2
        go_ret
        exact HQ.out
    · obtain rfl : i = sn := by omega
      have hli : ¬ (i : Int) < (i : Int) := by omega
      have HQ := Veil.mk (HEND.out _ wr T1 _ rfl (by rw [HLEN.out, ← HW.out]) HJS.out HMV.out)
      gi_wp2
      go_ret
      exact HQ.out
end Go.Proofs.Ytnmjplngbleopaa
