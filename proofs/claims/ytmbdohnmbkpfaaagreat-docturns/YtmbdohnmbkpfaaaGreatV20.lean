/- Fg17 Fg18 GateR -/
import Derived.Sort.MapsRangeIn
import Derived.Shelf.AbstractIn
import Derived.RegionIn
import Derived.Test.YtmbdohnmbkpfaaaGreatV13
import Derived.Test.YtmbdohnmbkpfaaaGreatV09
import Derived.Test.YtmbdohnmbkpfaaaGreatV17
import Derived.Test.YtmbdohnmbkpfaaaGreatV03
import Derived.Test.YtmbdohnmbkpfaaaGreatV15
namespace Go.Proofs.YtmbdohnmbkpfaaaGreat
open Go.RowKit Go.Shelf
attribute [local go_sem] Oper.semAt_some
set_option maxRecDepth 20000
set_option linter.unusedSimpArgs false
theorem wpLF_ldgv {P : Program} {ops : Array Oper} {rest : List Oper} {o : Oper} {a : Act} {w : World} {n : Nat} {Q : Exit → Act → World → Prop} {d : TypeDesc} (hw : Region.wanted o (yielded ops a.tmps) = true) (ty : TypeId) (x : Operand) (ho : o.op = .load ty x)
    (g off : Nat) (hx : a.eval x = .pointer (some ⟨g, off, none⟩)) (cs : List Value) (hg : w.rangeAt g off cs)
    (hu : P.underlying ty = some d) (hd : d.isRow = true) (hi : (P.info? ty).map (·.size) = some cs.length)
    (h : wpListIn Fence.wide n P ops Q rest (a.put o.dst (.agg cs.toArray)) w) : wpListIn Fence.wide n P ops Q (o :: rest) a w :=
 wpListIn_step fun _ hK => by
  rw [if_pos hw]
  exact wpI_op (wp_load_mid ty x ho g off hx cs _ hg hu hd hi (hK _ _ h))
theorem wpLF_stv {P : Program} {ops : Array Oper} {rest : List Oper} {o : Oper} {a : Act} {w : World} {n : Nat} {Q : Exit → Act → World → Prop} (hgd : o.guard = none) (ty : TypeId) (x y : Operand) (ho : o.op = .store ty x y)
    (g : Nat) (hx : a.eval x = .pointer (some ⟨g, 0, none⟩)) {t : TypeId} {old cs : List Value} (hy : a.eval y = .agg cs.toArray) (hg : CellsAt w g t old)
    (hi : (P.info? ty).map (·.size) = some cs.length) (hl : old.length = cs.length) (h1 : ∀ v ∈ cs, v.oneCell' = true)
    (h : wpListIn Fence.wide n P ops Q rest (a.put o.dst undef) (w.setRow g cs.toArray)) : wpListIn Fence.wide n P ops Q (o :: rest) a w :=
 wpListIn_plain hgd fun _ hK => wpI_op (wp_stvE ty x y ho g hx hy hg hi hl h1 (hK _ _ h))
theorem roundIn_deep {n m l : Nat} {P : Program} {fn : FuncId} {tmps : Array Value} {assign body : Code} {w : World} {R : Ending → World → Prop} (h : RoundIn Fence.wide m P l fn tmps assign body w R) : RoundIn Fence.wide n P l fn tmps assign body w R := ⟨h.1, fun c cs _ => h.2 c cs (room_wide _)⟩
structure YieldsT (l B0 : Nat) (total : List (Int × Int)) (J Jx : (Nat → Prop) → List (Int × Int) → World → Prop) : Prop where
 stays : ∀ T s A B, J T s A → StaysT (fun k => T k ∨ k < B0) A B → J T s B
 yields : ∀ T pre x W1, J T pre W1 → okDF x → pre ++ [x] <+: total → (∀ k, T k → k < W1.heap.size) → ∃ m, YieldAt Fence.wide m Tryz.prog l #[.agg (encF x).toArray] W1 fun e W' =>
  (e = .returned (.bool true) ∧ ∃ T', J T' (pre ++ [x]) W' ∧ MovesT T W1 T' W') ∨ (e = .returned (.bool false) ∧ ∃ T', Jx T' (pre ++ [x]) W' ∧ MovesT T W1 T' W')
structure WalkR (total : List (Int × Int)) (J Jx : (Nat → Prop) → List (Int × Int) → World → Prop) (T : Nat → Prop) (ps : List (Int × Int)) (W : World) (e : Ending) (W' : World) : Prop where
 out : (e = .returned (.bool true) ∧ ∃ T', J T' ps W' ∧ MovesT T W T' W') ∨ (e = .returned (.bool false) ∧ ∃ T' xs, Jx T' xs W' ∧ xs <+: total ∧ MovesT T W T' W')
structure ApartT (R bc bn : Nat) (V : (Int × Int) × Bool → Value) (B0 : Nat) (T : Nat → Prop) (W : World) : Prop where
 own : ∀ k, T k → ¬ treeP R bc bn V k ∧ k < W.heap.size
 size : B0 ≤ W.heap.size
theorem ApartT.moves {R bc bn B0 : Nat} {V : (Int × Int) × Bool → Value} {T T' : Nat → Prop} {W W' : World} (h : ApartT R bc bn V B0 T W) (hO : ∀ k, treeP R bc bn V k → k < B0) (hm : MovesT T W T' W') : ApartT R bc bn V B0 T' W' :=
 ⟨fun k hk => ⟨fun q => by
     rcases (hm.own k hk).1 with r | r
     · exact (h.own k r).1 q
     · have := hO k q; have := h.size; omega, (hm.own k hk).2⟩, Nat.le_trans h.size hm.turn.size⟩
theorem TreeAt.moves {w w' : World} {base R bc bn B0 : Nat} {N : List Nd} {V : (Int × Int) × Bool → Value} {T T' : Nat → Prop} (h : TreeAt w base R bc bn N V) (hA : ApartT R bc bn V B0 T w) (hm : MovesT T w T' w') : TreeAt w' base R bc bn N V :=
 h.congr fun k hk => hm.turn.block k (h.blockLt k hk) fun q => (hA.own k q).1 hk
theorem take_blocks {α β : Type} (f : α → List β) (l : List α) (i : Nat) (hi : i < l.length) : (l.take (i + 1)).flatMap f = (l.take i).flatMap f ++ f l[i] := by
 rw [List.take_succ_eq_append_getElem hi, List.flatMap_append]; simp
theorem blocks_prefix {α β : Type} (f : α → List β) (l : List α) (i : Nat) (hi : i < l.length) : (l.take i).flatMap f ++ f l[i] <+: l.flatMap f := by
 rw [← take_blocks f l i hi]
 conv => rhs; rw [← List.take_append_drop (i + 1) l, List.flatMap_append]
 exact List.prefix_append _ _
theorem block_one (N : List Nd) (ps : List (Int × Int)) (x : Int × Int) : ps ++ walkA N (x, false) <+: ps ++ blockN N x := by
 unfold blockN
 rw [List.append_assoc]
 exact (List.prefix_append_right_inj ps).2 (List.prefix_append _ _)
theorem block_two (N : List Nd) (ps : List (Int × Int)) (x : Int × Int) : ps ++ walkA N (x, false) ++ [x] <+: ps ++ blockN N x := by
 unfold blockN
 rw [List.append_assoc]
 exact (List.prefix_append_right_inj ps).2 (List.prefix_append _ _)
theorem block_all (N : List Nd) (ps : List (Int × Int)) (x : Int × Int) : ps ++ walkA N (x, false) ++ [x] ++ walkA N (x, true) = ps ++ blockN N x := by
 unfold blockN
 simp only [List.append_assoc]
set_option maxHeartbeats 8000000 in
theorem walkT_any (base R bc bn : Nat) (N : List Nd) (V : (Int × Int) × Bool → Value) (hN : Rooted N) (hlen : N.length ≤ 1000) (l B0 : Nat) (total : List (Int × Int)) (J Jx : (Nat → Prop) → List (Int × Int) → World → Prop) (hY : YieldsT l B0 total J Jx) (hO : ∀ k, treeP R bc bn V k → k < B0) (s : (Int × Int) × Bool) :
    okS s → ∀ (T : Nat → Prop) (pre : List (Int × Int)) (W : World), TreeAt W base R bc bn N V → ApartT R bc bn V B0 T W → pre ++ walkA N s <+: total → J T pre W →
    Calls Tryz.prog 118 #[.pointer (some ⟨R, 0, none⟩), .agg (sideC s).toArray, .func (.yield l) #[] #[]] W (WalkR total J Jx T (pre ++ walkA N s) W) := by
 refine walk_ind hN (C := fun s => okS s → ∀ (T : Nat → Prop) (pre : List (Int × Int)) (W : World), TreeAt W base R bc bn N V → ApartT R bc bn V B0 T W → pre ++ walkA N s <+: total → J T pre W →
  Calls Tryz.prog 118 #[.pointer (some ⟨R, 0, none⟩), .agg (sideC s).toArray, .func (.yield l) #[] #[]] W (WalkR total J Jx T (pre ++ walkA N s) W)) (fun s ih hs T pre W hT hA hpre h0 => ?_) s
 have hd0 := CellsAt.new W 117 (sideC s)
 have hB : Below W.heap.size W (W.alloc (.cells (sideC s).toArray 117)) := (Below.refl _ _).alloc (Nat.le_refl _) _
 have HLOOK : Veil (∀ wx, MapG Tryz.prog 117 encS okS wx bn N.length (sideM N V) → (Instr.lookup 111 (.map (some bn)) (.agg (sideC s).toArray) false).run Tryz.prog wx = .ok (V s) wx) := ⟨fun wx h => by
  have := h.get keyEncS Tryz.underlying111 (z := .slice none 0 0) (by kernel_rfl) s hs
  rw [sideM_getD hT.sidesIn s hs] at this
  exact this⟩
 have hOw := hT.sides.own s hs
 have hkl := kids_few N s
 obtain ⟨sx, sc, hsl⟩ := hOw.isSlice
 rw [List.length_map] at hsl
 obtain ⟨sn, hsn⟩ : ∃ q, (kids N s).length = q := ⟨_, rfl⟩
 rw [hsn] at hsl hkl
 rw [hsl] at HLOOK
 have HSL := Veil.mk hsl
 have HSN := Veil.mk hsn
 have hsm : sn ≤ 1000 := by omega
 -- what the rounds need
 have HJ := Veil.mk hY.stays
 have HYY := Veil.mk hY.yields
 have HO := Veil.mk hO
 have HT := Veil.mk hT
 have HA := Veil.mk hA
 have HIH := Veil.mk ih
 have HPR := Veil.mk hpre
 have HS := Veil.mk hs
 have HW : Veil (walkA N s = (kids N s).flatMap (blockN N)) := ⟨walkA_blocks hN s⟩
 have H0 := Veil.mk h0
 have HOI : Veil (∀ x ∈ kids N s, okDF x) := ⟨fun x hx => by
  obtain ⟨n, hn, _, rfl⟩ := mem_kids.1 hx
  exact (hT.okId n hn).1⟩
 have uS := Tryz.underlying117
 have iS : (Tryz.prog.info? 117).map (·.size) = some (sideC s).length := by rw [sideC_len]; kernel_rfl
 have uD := Tryz.underlying40
 obtain ⟨ES, hES⟩ : ∃ q, sideC s = q := ⟨_, rfl⟩
 rw [hES] at hd0 hB HLOOK iS ⊢
 clear hES hsl hsn hkl hOw hs hpre h0 hA hT ih hO hlen hN hY
 refine (callsIn_wide (n := 9)).1 ?_
 refine callsIn_of_wp Tryz.func118 rfl trivial ?_ rfl
 simp only [Tryz.ntmps118, List.size_toArray, List.length_cons, List.length_nil, Nat.reduceAdd, Nat.reduceSub, Array.replicate_succ, Array.replicate_zero, List.push_toArray, List.append_toArray, List.nil_append, List.cons_append]
 gi_wp2
 refine wpIn_wide.2 ?_
 refine forget (p := fun y => Code.wp _ _ _ _ y) (fun W1 => Below W.heap.size W W1 ∧ CellsAt W1 W.heap.size 117 ES) ⟨hB, hd0⟩ ?_
 clear hB hd0
 rintro W1 ⟨hB, hd⟩
 refine wp_region_gateT (fun w' => w'.cell? ⟨R, 1, none⟩ = some (.map (some bn)) ∧ w'.rangeAt W.heap.size 0 ES ∧ MapG Tryz.prog 117 encS okS w' bn N.length (sideM N V)) (fun _ => True) 99 (by kernel_rfl) ?_
 have hT : (fun w' : World => w'.cell? ⟨R, 1, none⟩ = some (.map (some bn)) ∧ w'.rangeAt W.heap.size 0 ES ∧ MapG Tryz.prog 117 encS okS w' bn N.length (sideM N V)) W1.drew := ⟨(HT.out.far hB.drew).box.cell 1, (hd.congr (w' := W1.drew) rfl).wholeM, (HT.out.far hB.drew).nodes⟩
 have hS : (fun _ : World => True) W1.drew := trivial
 refine ghA 0 _ hT hS ?_
 simp only [Act.put, gA, gS, gZ, sI, sZ, sS]
 refine ghA 1 _ hT hS ?_
 simp only [Act.put, gA, gS, gZ, sI, sZ, sS]
 refine ghA 2 _ hT hS ?_
 simp only [Act.put, gA, gS, gZ, sI, sZ, sS]
 refine ghA 3 _ hT hS ?_
 simp only [Act.put, gA, gS, gZ, sI, sZ, sS]
 refine gl 4 13 117 4 W.heap.size 0 ES (by kernel_rfl) (by kernel_rfl) (by kernel_rfl) (fun _ _ _ h => h) hT hS (by kernel_rfl) (fun _ h => h.2.1) uS rfl iS ?_
 simp only [Act.put, gA, gS, gZ, sI, sZ, sS]
 refine wpAnyT_held (i := 5) (v := (.slice sx sn sc)) rfl (by kernel_rfl) (by kernel_rfl) (by kernel_rfl) (fun _ _ _ h => h) (by kernel_rfl) hT (fun _ => hS) (by kernel_rfl) (fun wx h => exec_lookF rfl rfl rfl (HLOOK.out wx h.2.2)) ?_
 simp only [Act.put, gA, gS, gZ, sI, sZ, sS]
 refine ghA 6 _ hT hS ?_
 simp only [Act.put, gA, gS, gZ, sI, sZ, sS]
 refine ghA 7 _ hT hS ?_
 simp only [Act.put, gA, gS, gZ, sI, sZ, sS]
 refine wpAnyT_done (by kernel_rfl) ?_ _
 have hdl : W.heap.size + 1 ≤ W1.drew.heap.size := hd.lt
 clear hT hS hd HLOOK
 refine forget (p := fun y => Exit.then _ _ _ _ y) (fun W1 => Below W.heap.size W W1 ∧ W.heap.size + 1 ≤ W1.heap.size) ⟨hB.drew, hdl⟩ ?_
 clear hB hdl W1
 rintro W1 ⟨hB, hz1⟩
 have HAT : Veil (∀ wr T1, MovesA T W (W.heap.size + 1) T1 wr → TreeAt wr base R bc bn N V ∧ ApartT R bc bn V B0 T1 wr) := ⟨fun wr T1 hm => ⟨HT.out.congr fun k hk => hm.turn.block k (HT.out.blockLt k hk) fun q => (HA.out.own k q).1 hk, fun k hk => ⟨fun q => by
     rcases (hm.own k hk).1 with r | r
     · exact (HA.out.own k r).1 q
     · have := HO.out k q; have := HA.out.size; omega, (hm.own k hk).2⟩, Nat.le_trans HA.out.size hm.turn.size⟩⟩
 have HST : Veil (∃ T1, J T1 (pre ++ ((kids N s).take 0).flatMap (blockN N)) W1 ∧ MovesA T W (W.heap.size + 1) T1 W1) := ⟨T, by
  rw [List.take_zero, List.flatMap_nil, List.append_nil]
  exact HJ.out _ _ _ _ H0.out (StaysT.of_below hB fun k hk => hk.elim (fun q => (HA.out.own k q).2) (fun q => Nat.lt_of_lt_of_le q HA.out.size)), Turn.of_below hB, fun k hk => ⟨.inl hk, Nat.lt_of_lt_of_le (HA.out.own k hk).2 hB.size⟩⟩
 have HEND : Veil (∀ (c : Ending) W3 T1 ps, c = .returned (.bool true) → ps = pre ++ walkA N s → J T1 ps W3 → MovesA T W (W.heap.size + 1) T1 W3 → WalkR total J Jx T (pre ++ walkA N s) W c W3) := ⟨fun c W3 T1 ps hc hp hj hm => ⟨.inl ⟨hc, T1, hp ▸ hj, hm.turn, fun k hk => ⟨by rcases (hm.own k hk).1 with q | q; exact .inl q; exact .inr (by omega), (hm.own k hk).2⟩⟩⟩⟩
 have HENX : Veil (∀ (c : Ending) W3 T1 ps, c = .returned (.bool false) → ps <+: total → Jx T1 ps W3 → MovesA T W (W.heap.size + 1) T1 W3 → WalkR total J Jx T (pre ++ walkA N s) W c W3) := ⟨fun c W3 T1 ps hc hp hj hm => ⟨.inr ⟨hc, T1, ps, hj, hp, hm.turn, fun k hk => ⟨by rcases (hm.own k hk).1 with q | q; exact .inl q; exact .inr (by omega), (hm.own k hk).2⟩⟩⟩⟩
 have HLEN : Veil ((kids N s).take sn = kids N s) := ⟨by rw [← HSN.out]; exact List.take_length⟩
 clear hB
 gi_wp2
 gi_loopw [8, 16] (fun _ p wr => ∃ (i : Nat) (T1 : Nat → Prop), p = .int .i64 (i : Nat) ∧ i ≤ sn ∧ J T1 (pre ++ ((kids N s).take i).flatMap (blockN N)) wr ∧ MovesA T W (W.heap.size + 1) T1 wr) (fun _ p _ => sn - (intOf p).toNat)
 case atStart =>
  obtain ⟨T1, h1, h2⟩ := HST.out
  exact ⟨0, T1, rfl, Nat.zero_le _, h1, h2⟩
 case round =>
  obtain ⟨i, T1, rfl, hi, hj, hm⟩ := hrel
  clear HST
  have HMV := Veil.mk hm
  have HJS := Veil.mk hj
  clear hm hj
  by_cases hlt : i < sn
  · have hli : (i : Int) < (sn : Int) := by omega
    have hli0 : (0 : Int) ≤ (i : Int) := by omega
    have hki : i < (kids N s).length := by rw [HSN.out]; exact hlt
    obtain ⟨hTr, hAr⟩ := HAT.out wr T1 HMV.out
    have hOw := hTr.sides.own s HS.out
    rw [HSL.out] at hOw
    obtain ⟨g, rfl, -, hr⟩ := hOw.at_ i (by rw [List.length_map]; exact hki)
    rw [List.getElem_map] at hr
    have hmem : (kids N s)[i] ∈ kids N s := List.getElem_mem hki
    have hix := HOI.out _ hmem
    have hih := HIH.out _ hmem
    have HTB := Veil.mk (take_blocks (blockN N) (kids N s) i hki)
    have HBP : Veil (pre ++ ((kids N s).take i).flatMap (blockN N) ++ blockN N (kids N s)[i] <+: total) := ⟨by
     rw [List.append_assoc]
     refine List.IsPrefix.trans ?_ HPR.out
     rw [HW.out]
     exact (List.prefix_append_right_inj pre).2 (blocks_prefix (blockN N) (kids N s) i hki)⟩
    generalize (kids N s)[i] = x at hr hmem hix hih HTB HBP
    obtain ⟨xa, xb⟩ := x
    have iX : (Tryz.prog.info? 40).map (·.size) = some [Value.int .u8 xa, Value.int .u32 xb].length := sizeDot
    have hx1 : ∀ v ∈ [Value.int .u8 xa, Value.int .u32 xb], v.oneCell' = true := encF_one (xa, xb)
    generalize hps : pre ++ ((kids N s).take i).flatMap (blockN N) = ps at HJS HBP
    have HPS := Veil.mk hps
    have HNX : Veil (pre ++ ((kids N s).take (i + 1)).flatMap (blockN N) = ps ++ blockN N (xa, xb)) := ⟨by rw [HTB.out, ← hps, List.append_assoc]⟩
    have HX := Veil.mk hix
    have HIH2 := Veil.mk hih
    have HAR := Veil.mk hAr
    have HTR := Veil.mk hTr
    obtain ⟨V1, hV⟩ : ∃ V1, V1 = (wr.alloc (.cells #[.int .u8 0, .int .u32 0] 40)).setRow wr.heap.size #[.int .u8 xa, .int .u32 xb] := ⟨_, rfl⟩
    have hVx : CellsAt V1 wr.heap.size 40 [.int .u8 xa, .int .u32 xb] := by rw [hV]; exact (CellsAt.new wr 40 [.int .u8 0, .int .u32 0]).setRow [.int .u8 xa, .int .u32 xb]
    have hVb : Below wr.heap.size wr V1 := by
     rw [hV]
     refine ⟨rfl, rfl, rfl, by simp [World.setRow, World.putObj], fun k hk => ?_⟩
     rw [setRow_other _ _ _ _ (by omega)]; exact Below.heap_alloc wr _ k hk
    have hVz : wr.heap.size < V1.heap.size := hVx.lt
    have HV := Veil.mk hV
    have hrV := hVx.wholeM
    -- the first walk
    have hA1 : ApartT R bc bn V B0 T1 V1 := ⟨fun k hk => ⟨(hAr.own k hk).1, by have := (hAr.own k hk).2; omega⟩, Nat.le_trans hAr.size hVb.size⟩
    have hT1 := hTr.far hVb
    have hj1 : J T1 ps V1 := HJ.out _ _ _ _ HJS.out (StaysT.of_below hVb fun k hk => hk.elim (fun q => (hAr.own k q).2) (fun q => Nat.lt_of_lt_of_le q hAr.size))
    have hw1 := HIH2.out false HX.out T1 ps V1 hT1 hA1 ((block_one N ps (xa, xb)).trans HBP.out) hj1
    -- behind it
    have HB8 : Veil (∀ (Ta Tb : Nat → Prop) (A B : World), (∀ k, Ta k → k ≠ wr.heap.size) → MovesT Ta A Tb B → CellsAt A wr.heap.size 40 [.int .u8 xa, .int .u32 xb] → CellsAt B wr.heap.size 40 [.int .u8 xa, .int .u32 xb] ∧ ∀ k, Tb k → k ≠ wr.heap.size) := ⟨fun Ta Tb A B hn hm hc => ⟨hc.congr (hm.turn.block _ hc.lt fun q => hn _ q rfl), fun k hk => by
     rcases (hm.own k hk).1 with q | q
     · exact hn k q
     · have := hc.lt; omega⟩⟩
    have HN1 : Veil (∀ k, T1 k → k ≠ wr.heap.size) := ⟨fun k hk => by have := (hAr.own k hk).2; omega⟩
    have HMA : Veil (∀ (T2 : Nat → Prop) (W2 : World), MovesT T1 V1 T2 W2 → MovesA T W (W.heap.size + 1) T2 W2) := ⟨fun T2 W2 h => ⟨⟨h.turn.os.trans (hVb.os.trans HMV.out.turn.os), h.turn.tape.trans (hVb.tape.trans HMV.out.turn.tape), h.turn.output.trans (hVb.output.trans HMV.out.turn.output), Nat.le_trans HMV.out.turn.size (Nat.le_trans hVb.size h.turn.size), fun k hk hn => ?_⟩, fun k hk => ⟨?_, (h.own k hk).2⟩⟩⟩
    rotate_left
    · have hws := HMV.out.turn.size
      refine (h.turn.block k (by have := hVb.size; omega) fun q => ?_).trans ((hVb.block k (by omega)).trans (HMV.out.turn.block k hk hn))
      rcases (HMV.out.own k q).1 with r | r
      · exact hn r
      · omega
    · rcases (h.own k hk).1 with q | q
      · exact (HMV.out.own k q).1
      · exact .inr (by have := HMV.out.turn.size; have := hVb.size; omega)
    have HVX := Veil.mk hVx
    have HA1 := Veil.mk hA1
    have HT1 := Veil.mk hT1
    clear hps hOw hmem hix hih hTr hAr hki HTB HIH HPR HW HT H0 HEND hV hVx hVb hVz hA1 hT1 hj1 HAR HTR HMV HJS HAT
    gi_wp2_with (first
     | (refine wpLF_ldgv (by kernel_rfl) 40 (.tmp 18) rfl g (i * 2) rfl [.int .u8 xa, .int .u32 xb] hr uD rfl iX ?_)
     | (refine wpLF_stv rfl 40 _ _ rfl wr.heap.size rfl (cs := [.int .u8 xa, .int .u32 xb]) rfl (CellsAt.new wr 40 [.int .u8 0, .int .u32 0]) iX rfl hx1 ?_; rw [← HV.out])
     | (refine wpLF_ldgv (by kernel_rfl) 40 (.tmp 8) rfl wr.heap.size 0 rfl [.int .u8 xa, .int .u32 xb] hrV uD rfl iX ?_)
     | gi_in)
    refine ⟨trivial, (callsIn_wide.2 hw1).mono ?_⟩
    clear hw1 hr hrV HV hx1
    rintro e W2 ⟨(⟨rfl, T2, hJ2, hm2⟩ | ⟨rfl, T2, xs2, hJ2, hxs2, hm2⟩)⟩
    rotate_left
    · have HQ := Veil.mk (HENX.out _ W2 T2 xs2 rfl hxs2 hJ2 (HMA.out T2 W2 hm2))
      clear hJ2 hm2 hxs2
      gi_wp2
      refine ⟨(fun f hf => by cases hf), ?_⟩
      gi_wp2
      refine ⟨trivial, ?_⟩
      gi_wp2
      go_ret
      exact HQ.out
    -- the yield
    obtain ⟨hc2, hn2⟩ := HB8.out T1 T2 V1 W2 HN1.out hm2 HVX.out
    have hA2 := HA1.out.moves HO.out hm2
    have hT2 := HT1.out.moves HA1.out hm2
    obtain ⟨m2, fn2, tm2, as2, bd2, hy2, hR2⟩ := HYY.out T2 _ (xa, xb) W2 hJ2 HX.out ((block_two N ps (xa, xb)).trans HBP.out) (fun k hk => (hA2.own k hk).2)
    replace hy2 : (Instr.yield l #[.agg #[.int .u8 xa, .int .u32 xb]]).run Tryz.prog W2 = .ok (.round l fn2 tm2 as2 bd2) W2 := hy2
    have hrV := hc2.wholeM
    have HC2 := Veil.mk hc2
    have HN2 := Veil.mk hn2
    have HM2 := Veil.mk hm2
    have HA2 := Veil.mk hA2
    have HT2 := Veil.mk hT2
    clear hc2 hn2 hm2 hA2 hT2 hJ2 HYY HN1 HVX
    gi_wp2_with (first
     | (refine wpLF_ldgv (by kernel_rfl) 40 (.tmp 8) rfl wr.heap.size 0 rfl [.int .u8 xa, .int .u32 xb] hrV uD rfl iX ?_)
     | gi_in)
    refine (roundIn_deep hR2).mono ?_
    clear hR2 hy2 hrV
    rintro e3 W3 (⟨rfl, T3, hJ3, hm3⟩ | ⟨rfl, T3, hJ3, hm3⟩)
    rotate_left
    · have HQ := Veil.mk (HENX.out _ W3 T3 _ rfl ((block_two N ps (xa, xb)).trans HBP.out) hJ3 (HMA.out T3 W3 (HM2.out.trans hm3)))
      clear hJ3 hm3
      gi_wp2
      refine ⟨trivial, ?_⟩
      gi_wp2
      go_ret
      exact HQ.out
    -- the second walk
    obtain ⟨hc3, hn3⟩ := HB8.out T2 T3 W2 W3 HN2.out hm3 HC2.out
    have hA3 := HA2.out.moves HO.out hm3
    have hT3 := HT2.out.moves HA2.out hm3
    have hw3 := HIH2.out true HX.out T3 (ps ++ walkA N ((xa, xb), false) ++ [(xa, xb)]) W3 hT3 hA3 (by rw [block_all]; exact HBP.out) hJ3
    rw [block_all] at hw3
    have hrV := hc3.wholeM
    have HM3 := Veil.mk (HM2.out.trans hm3)
    clear hc3 hn3 hm3 hA3 hT3 hJ3 HIH2
    gi_wp2_with (first
     | (refine wpLF_ldgv (by kernel_rfl) 40 (.tmp 8) rfl wr.heap.size 0 rfl [.int .u8 xa, .int .u32 xb] hrV uD rfl iX ?_)
     | gi_in)
    refine ⟨trivial, (callsIn_wide.2 hw3).mono ?_⟩
    clear hw3 hrV
    rintro e4 W4 ⟨(⟨rfl, T4, hJ4, hm4⟩ | ⟨rfl, T4, xs4, hJ4, hxs4, hm4⟩)⟩
    · have HQ := Veil.mk (And.intro hJ4 (HMA.out T4 W4 (HM3.out.trans hm4)))
      have hwi : IntKind.i64.wrap ((i : Int) + 1) = (i : Int) + 1 := by rw [IntKind.wrap_i64]; omega
      clear hJ4 hm4
      gi_wp2
      go_roundw
      case rel => exact ⟨i + 1, T4, by push_cast; rfl, hlt, by rw [HNX.out]; exact HQ.out.1, HQ.out.2⟩
      case measure => simp [intOf]; omega
    · have HQ := Veil.mk (HENX.out _ W4 T4 xs4 rfl hxs4 hJ4 (HMA.out T4 W4 (HM3.out.trans hm4)))
      clear hJ4 hm4 hxs4
      gi_wp2
      go_ret
      exact HQ.out
  · obtain rfl : i = sn := by omega
    have hli : ¬ (i : Int) < (i : Int) := by omega
    have HQ := Veil.mk (HEND.out _ wr T1 _ rfl (by rw [HLEN.out, ← HW.out]) HJS.out HMV.out)
    gi_wp2
    go_ret
    exact HQ.out
theorem prefix_lt {α : Type} {pre total : List α} {x : α} (h : pre ++ [x] <+: total) : pre.length < total.length := by
 have := h.length_le
 simp at this; omega
set_option maxHeartbeats 4000000 in
theorem at1_seq (n base R bc bn B1 B2 : Nat) (N : List Nd) (V : (Int × Int) × Bool → Value) (hN : Rooted N) (hlen : N.length ≤ 1000) (s : (Int × Int) × Bool) (hs : okS s) (w : World) (hT : TreeAt w base R bc bn N V) (h1 : CellsAt w B1 69 [.pointer (some ⟨R, 0, none⟩)]) (h2 : CellsAt w B2 117 (sideC s)) :
    SeqT n Tryz.prog 117 #[.pointer (some ⟨B1, 0, none⟩), .pointer (some ⟨B2, 0, none⟩)] (fun x : Int × Int => #[.agg (encF x).toArray]) (fun k => treeP R bc bn V k ∨ k = B1 ∨ k = B2) (fun _ => False) (fun xs _ => xs = walkA N s) (fun xs _ => xs <+: walkA N s) okDF (walkA N s).length w := by
 intro l T J Jx W hWW hTT hJ hJx hY h0
 have hW := walkT_any base R bc bn N V hN hlen l W.heap.size (walkA N s) J Jx
  ⟨fun T s A B h hs => hJ T s A B h ⟨hs.os, hs.tape, hs.output, hs.size, fun k hk => hs.block k (hk.elim .inl fun q => .inr q.1)⟩,
   fun T pre x W1 hj hx hp hl => ⟨_, hY T pre x W1 hj hx (prefix_lt hp) hl⟩⟩
  (fun k hk => Nat.lt_of_lt_of_le (hT.blockLt k hk) hWW.size) s hs T [] W (hT.far hWW) ⟨fun k hk => ⟨fun q => (hTT k hk).1 (.inl q), (hTT k hk).2⟩, Nat.le_refl _⟩ (by simp) h0
 rw [List.nil_append] at hW
 have HE : Veil (∀ e W', WalkR (walkA N s) J Jx T (walkA N s) W e W' → ∃ b, e = .returned (.bool b) ∧ ((∃ xs T', xs = walkA N s ∧ J T' xs W' ∧ MovesT (fun k => T k ∨ False) W T' W') ∨ (∃ xs T', xs <+: walkA N s ∧ Jx T' xs W' ∧ MovesT (fun k => T k ∨ False) W T' W'))) := ⟨fun e W' hq => by
  have mv : ∀ T', MovesT T W T' W' → MovesT (fun k => T k ∨ False) W T' W' := fun T' hm => ⟨hm.turn.mono fun k _ q => .inl q, fun k hk => ⟨by rcases (hm.own k hk).1 with q | q; exact .inl (.inl q); exact .inr q, (hm.own k hk).2⟩⟩
  rcases hq.out with ⟨rfl, T', hj, hm⟩ | ⟨rfl, T', xs, hj, hp, hm⟩
  · exact ⟨true, rfl, .inl ⟨_, T', rfl, hj, mv T' hm⟩⟩
  · exact ⟨false, rfl, .inr ⟨xs, T', hp, hj, mv T' hm⟩⟩⟩
 have c1 : W.cell? ⟨B1, 0, none⟩ = some (.pointer (some ⟨R, 0, none⟩)) := (h1.congr (hWW.block _ h1.lt)).cell 0
 have r2 := (h2.congr (hWW.block _ h2.lt)).wholeM
 have uS := Tryz.underlying117
 have iS : (Tryz.prog.info? 117).map (·.size) = some (sideC s).length := by rw [sideC_len]; kernel_rfl
 obtain ⟨ES, hES⟩ : ∃ q, sideC s = q := ⟨_, rfl⟩
 rw [hES] at r2 iS hW
 refine callsIn_wide.2 ?_
 clear hES hY hJ hJx h0 hTT hT h1 h2 hWW hN hlen hs
 show Calls Tryz.prog 117 #[.func (.yield l) #[] #[], .pointer (some ⟨B1, 0, none⟩), .pointer (some ⟨B2, 0, none⟩)] W _
 go_enter Tryz.func117, Tryz.ntmps117
 go_wp2_with (first
  | (refine wpList_ldv rfl 117 _ rfl B2 0 rfl ES r2 uS rfl iS ?_)
  | (go_at_call 118; refine hW.mono ?_; intro e W2 hq; obtain ⟨b, rfl, hend⟩ := HE.out e W2 hq; have HEND := Veil.mk hend; clear hq hend HE hW))
 go_end0
 exact ⟨⟨_, rfl⟩, HEND.out⟩
theorem atT_any (R : Nat) (s : (Int × Int) × Bool) (w : World) : Calls Tryz.prog 100 #[.pointer (some ⟨R, 0, none⟩), .agg (sideC s).toArray] w fun e w' => e = .returned (.func (.func 117) #[] #[.pointer (some ⟨w.heap.size, 0, none⟩), .pointer (some ⟨w.heap.size + 1, 0, none⟩)]) ∧ CellsAt w' w.heap.size 69 [.pointer (some ⟨R, 0, none⟩)] ∧ CellsAt w' (w.heap.size + 1) 117 (sideC s) ∧ Below w.heap.size w w' := by
 have h1 := (CellsAt.new w 69 [.pointer (some ⟨R, 0, none⟩)]).alloc (.cells (sideC s).toArray 117)
 have h2 := CellsAt.new (w.alloc (.cells #[.pointer (some ⟨R, 0, none⟩)] 69)) 117 (sideC s)
 rw [World.size_alloc] at h2
 have hB : Below w.heap.size w ((w.alloc (.cells #[.pointer (some ⟨R, 0, none⟩)] 69)).alloc (.cells (sideC s).toArray 117)) := ((Below.refl _ _).alloc (Nat.le_refl _) _).alloc (by simp) _
 generalize sideC s = ES at h1 h2 hB ⊢
 have HV := Veil.mk (And.intro h1 (And.intro h2 hB))
 clear h1 h2 hB
 go_enter Tryz.func100, Tryz.ntmps100
 go_wp2
 go_ret
 exact ⟨rfl, HV.out.1, HV.out.2.1, HV.out.2.2⟩
theorem underRoot_any (w : World) : Calls Tryz.prog 101 #[] w fun e w' => e = .returned (.agg (sideC rootS).toArray) ∧ Below w.heap.size w w' := by
 go_enter Tryz.func101, Tryz.ntmps101
 go_wp2
 refine bodyPost_ret (results_cells (Tryz.results101) _ rfl (CellsAt.new w 117 [.int .u8 0, .int .u32 0, .bool true]) Tryz.underlying117 rfl (by kernel_rfl)) rfl ⟨rfl, (Below.refl _ _).alloc (Nat.le_refl _) _⟩
open Go Go.RowKit
section
variable {P : Program} {ops : Array Oper} {Q : Exit → Act → World → Prop} {md : Region.Mode} {S : World → Prop} {n l : Nat}
theorem wpInR_op {o : Oper} {a : Act} {w : World} {K : Act → World → Prop} (hd : ∀ c, o.op ≠ .defer c) (h : o.wpIn Fence.wide n P a w K Q) : o.wpIn (Fence.wide.inRound l) n P a w K Q := by
 refine ⟨fun _ _ => trivial, ?_⟩
 have h := h.2
 rw [show (Fence.wide.inRound l).round = some l from rfl, Oper.semAt_some l _ _ hd]
 rw [show Fence.wide.round = none from rfl, Oper.semAt_none] at h
 generalize (execOp a.eval o).run P w = r at h
 cases r with
 | ok x w' => cases x <;> exact h
 | halt x w' => cases x <;> exact h
theorem wpAnyR_of (hd : ∀ (j : Nat) (o : Oper), ops[j]? = some o → ∀ c, o.op ≠ .defer c) : ∀ (fuel : Nat) (listed : Array Bool) (a : Act) (w : World), wpAnyIn Fence.wide n P md ops Q fuel listed a w → wpAnyIn (Fence.wide.inRound l) n P md ops Q fuel listed a w
 | 0, _, _, _, h => h
 | fuel + 1, listed, a, w, h => ⟨h.1, fun i hi => by
  have h1 := h.2 i hi
  unfold wpOpIn at h1 ⊢
  cases ho : ops[i]? with
  | none =>
   simp only [ho] at h1
   exact wpAnyR_of hd fuel _ a w h1
  | some o =>
   simp only [ho] at h1
   simp only
   by_cases hw : Region.wanted o (yielded ops a.tmps) = true
   · rw [if_pos hw] at h1 ⊢
     exact Oper.wpIn_mono (fun a w h => wpAnyR_of hd fuel _ a w h) (wpInR_op (hd i o ho) h1)
   · rw [if_neg hw] at h1 ⊢
     exact ⟨fun _ _ => trivial, wpAnyR_of hd fuel _ _ w h1.2⟩⟩
theorem wpR_region_gateI {id : Nat} {a : Act} {w : World} (S : World → Prop) (hm : P.follows .mixedOrders = true) (hd : (ops.all fun o => match o.op with | .defer _ => false | _ => true) = true)
    (h : wpAnyI P n .any ops Q S ops.size (Array.replicate ops.size false) a w.drew) : (Code.region id ops true).wpIn (Fence.wide.inRound l) n P Q a w :=
 wpIn_region_any hm (wpAnyR_of (fun j o ho c e => by
  have hm : o ∈ ops := Array.mem_of_getElem? ho
  have := (Array.all_eq_true_iff_forall_mem.1 hd) o hm
  rw [e] at this
  cases this) _ _ _ _ (wpAnyIn_of_gateI _ _ _ _ h))
theorem wpAnyI_skip {i : Nat} {oi : Oper} {fuel : Nat} {listed : Array Bool} {a : Act} {w : World} (hi : ops[i]? = some oi)
    (hs : Region.noSelect ops = true) (hf : Region.free md ops listed i = true) (hr : (Region.ready md ops listed).contains i = true)
    (hQ : ∀ c a w, Q (.panic c) (a.put oi.dst undef) w → Q (.panic c) a w) (hS : S w) (hw : Region.wanted oi (yielded ops a.tmps) = false)
    (h : wpAnyI P n md ops Q S fuel (listed.setIfInBounds i true) (a.put oi.dst undef) w) : wpAnyI P n md ops Q S (fuel + 1) listed a w :=
 wpAnyI_first hi (Region.noSelect_spec hs) hQ fuel listed a w (Region.free_spec hi hf) (by simpa using hr) (.inr ⟨hw, rfl⟩) hS h
end
theorem wpLRF_ldgv {P : Program} {ops : Array Oper} {rest : List Oper} {o : Oper} {a : Act} {w : World} {n l : Nat} {Q : Exit → Act → World → Prop} {d : TypeDesc} (hw : Region.wanted o (yielded ops a.tmps) = true) (ty : TypeId) (x : Operand) (ho : o.op = .load ty x)
    (g off : Nat) (hx : a.eval x = .pointer (some ⟨g, off, none⟩)) (cs : List Value) (hg : w.rangeAt g off cs)
    (hu : P.underlying ty = some d) (hd : d.isRow = true) (hi : (P.info? ty).map (·.size) = some cs.length)
    (h : wpListIn (Fence.wide.inRound l) n P ops Q rest (a.put o.dst (.agg cs.toArray)) w) : wpListIn (Fence.wide.inRound l) n P ops Q (o :: rest) a w :=
 wpListIn_step fun _ hK => by
  rw [if_pos hw]
  exact wpInR_op (fun c q => by rw [ho] at q; cases q) (wpI_op (wp_load_mid ty x ho g off hx cs _ hg hu hd hi (hK _ _ h)))
theorem wpLRF_stv {P : Program} {ops : Array Oper} {rest : List Oper} {o : Oper} {a : Act} {w : World} {n l : Nat} {Q : Exit → Act → World → Prop} (hgd : o.guard = none) (ty : TypeId) (x y : Operand) (ho : o.op = .store ty x y)
    (g : Nat) (hx : a.eval x = .pointer (some ⟨g, 0, none⟩)) {t : TypeId} {old cs : List Value} (hy : a.eval y = .agg cs.toArray) (hg : CellsAt w g t old)
    (hi : (P.info? ty).map (·.size) = some cs.length) (hl : old.length = cs.length) (h1 : ∀ v ∈ cs, v.oneCell' = true)
    (h : wpListIn (Fence.wide.inRound l) n P ops Q rest (a.put o.dst undef) (w.setRow g cs.toArray)) : wpListIn (Fence.wide.inRound l) n P ops Q (o :: rest) a w :=
 wpListIn_plain hgd fun _ hK => wpInR_op (fun c q => by rw [ho] at q; cases q) (wpI_op (wp_stvE ty x y ho g hx hy hg hi hl h1 (hK _ _ h)))
theorem wpIn_thenN {F : Fence} {n : Nat} {P : Program} {c : Code} {K : Act → World → Prop} {Q : Exit → Act → World → Prop} {a : Act} {w : World} (h : c.wpIn F n P (Exit.then K (fun _ _ _ => False)) a w) : c.wpIn F n P (Exit.then K Q) a w := wpIn_mono h (fun e a w h => by cases e <;> first | exact h | exact h.elim)
end Go.Proofs.YtmbdohnmbkpfaaaGreat
