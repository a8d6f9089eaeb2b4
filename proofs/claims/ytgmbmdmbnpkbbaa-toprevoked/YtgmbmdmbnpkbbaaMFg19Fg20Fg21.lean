/- fugue: written as an iterator. fugue: Order; At. fugue: first, leftOf, Place. -/
import Derived.Test.YtgmbmdmbnpkbbaaMFg18GateR
namespace Go.Proofs.Ytgmbmdmbnpkbbaa
open Go.RowKit Go.Shelf
attribute [local go_sem] Oper.semAt_some
set_option maxRecDepth 20000
set_option linter.unusedSimpArgs false
/-- Has a node a character? -/
def writB (N : List Nd) (x : Int × Int) : Bool := decide (chr0 N x ≠ 0)
/-- The nodes that have a character, in order. -/
def wrN (N : List Nd) : List (Int × Int) := (walkA N rootS).filter (writB N)
theorem filter_snoc {α : Type} (p : α → Bool) (pre : List α) (x : α) : (pre ++ [x]).filter p = pre.filter p ++ (if p x = true then [x] else []) := by
  rw [List.filter_append]; congr 1
  by_cases h : p x = true
  · rw [List.filter_cons_of_pos h, if_pos h]; rfl
  · rw [List.filter_cons_of_neg h, if_neg h]; rfl
theorem writtenT_any (R : Nat) (w : World) : Calls Try.prog 48 #[.pointer (some ⟨R, 0, none⟩)] w fun e w' => e = .returned (.func (.func 62) #[] #[.pointer (some ⟨w.heap.size, 0, none⟩)]) ∧ CellsAt w' w.heap.size 58 [.pointer (some ⟨R, 0, none⟩)] ∧ Below w.heap.size w w' := by
  have h1 := CellsAt.new w 58 [.pointer (some ⟨R, 0, none⟩)]
  have hB : Below w.heap.size w (w.alloc (.cells #[.pointer (some ⟨R, 0, none⟩)] 58)) := (Below.refl _ _).alloc (Nat.le_refl _) _
  have HV := Veil.mk (And.intro h1 hB)
  clear h1 hB
  go_enter Try.func48, Try.ntmps48
  go_wp2
  go_ret
  exact ⟨rfl, HV.out.1, HV.out.2⟩
theorem yieldAt_deep {n m l : Nat} {P : Program} {args : Array Value} {w : World} {R : Ending → World → Prop} (h : YieldAt Fence.wide m P l args w R) : YieldAt Fence.wide n P l args w R := by
  obtain ⟨fn, tmps, c1, c2, hy, hR⟩ := h
  exact ⟨fn, tmps, c1, c2, hy, roundIn_deep hR⟩
set_option maxHeartbeats 8000000 in
theorem written1_seq (n base R bc bn Bt : Nat) (N : List Nd) (V : (Int × Int) × Bool → Value) (hN : Rooted N) (hlen : N.length ≤ 1000) (w : World) (hTr : TreeAt w base R bc bn N V) (hbt : CellsAt w Bt 58 [.pointer (some ⟨R, 0, none⟩)]) :
    SeqT (n + 4) Try.prog 62 #[.pointer (some ⟨Bt, 0, none⟩)] (fun x : Int × Int => #[.agg (encF x).toArray]) (fun k => treeP R bc bn V k ∨ k = Bt) (fun _ => False) (fun xs _ => xs = wrN N) (fun xs _ => xs <+: wrN N) okDF (walkA N rootS).length w := by
  intro l T J Jx W hWW hT hJ hJx hY h0
  have hTW := hTr.far hWW
  have hbW := hbt.congr (hWW.block _ hbt.lt)
  have hOn : ∀ k, treeP R bc bn V k ∨ k = Bt → k < W.heap.size ∧ ¬ T k := fun k hk => ⟨by
    rcases hk with q | rfl
    · exact hTW.blockLt k q
    · exact hbW.lt, fun q => (hT k q).1 hk⟩
  have HTW := Veil.mk hTW
  have HBW := Veil.mk hbW
  have HON := Veil.mk hOn
  have HT := Veil.mk hT
  have HJ := Veil.mk hJ
  have HJx := Veil.mk hJx
  have HY := Veil.mk hY
  have H0 := Veil.mk h0
  have HRT := Veil.mk hN
  have HLE := Veil.mk hlen
  clear hTr hbt hWW hT hJ hJx hY h0 hTW hbW hOn hN hlen
  refine callsIn_of_wp_marks Try.func62 rfl trivial ?_ rfl
  simp only [Try.ntmps62, List.size_toArray, List.length_cons, List.length_nil, Nat.reduceAdd, Nat.reduceSub, Array.replicate_succ, Array.replicate_zero, List.push_toArray, List.append_toArray, List.nil_append, List.cons_append]
  gi_wp2
  have hB2 : Below W.heap.size W (W.alloc (.cells #[.func (.yield l) #[] #[]] 42)) := (Below.refl _ _).alloc (Nat.le_refl _) _
  have hy2 : CellsAt (W.alloc (.cells #[.func (.yield l) #[] #[]] 42)) W.heap.size 42 [.func (.yield l) #[] #[]] := CellsAt.new W 42 [.func (.yield l) #[] #[]]
  refine wpIn_thenN (wpIn_wide.2 ?_)
  refine forget (p := fun y => Code.wp _ _ _ _ y) (fun W1 => Below W.heap.size W W1 ∧ CellsAt W1 W.heap.size 42 [.func (.yield l) #[] #[]]) ⟨hB2, hy2⟩ ?_
  clear hB2 hy2
  rintro W1 ⟨hB1, hy1⟩
  refine wp_region_gateT (fun w' => w'.cell? ⟨Bt, 0, none⟩ = some (.pointer (some ⟨R, 0, none⟩))) (fun _ => True) 99 (by kernel_rfl) ?_
  have HC : ∀ W', Below W.heap.size W W' → (fun w' : World => w'.cell? ⟨Bt, 0, none⟩ = some (.pointer (some ⟨R, 0, none⟩))) W' := fun W' hb => (HBW.out.congr (hb.block _ HBW.out.lt)).cell 0
  have hT := HC W1.drew hB1.drew
  have hS : (fun _ : World => True) W1.drew := trivial
  refine wpAnyT_held (i := 0) (v := ?_) rfl (by kernel_rfl) (by kernel_rfl) (by kernel_rfl) (fun _ _ _ h => h) (by kernel_rfl) hT (fun _ => hS) (by kernel_rfl) ?_ ?_
  rotate_left
  · intro wx hSw; go_split_ands; go_simp; try with_reducible rfl
  simp only [Act.put, List.getElem_toArray, List.getElem_cons_succ, List.getElem_cons_zero, List.setIfInBounds_toArray, List.set_cons_zero, List.set_cons_succ]
  refine wpAnyT_one (i := 1) rfl (by kernel_rfl) (by kernel_rfl) (fun K hK => ?_)
  refine wpx_call _ _ (by kernel_rfl) ((underRoot_any _).mono ?_)
  rintro z W2 ⟨rfl, hb2⟩
  refine ⟨_, rfl, ?_⟩
  have hB2 : Below W.heap.size W W2 := hB1.drew.trans (hb2.mono hB1.drew.size)
  have hy2 := (hy1.congr (w' := W1.drew) rfl).farM hb2
  replace hT := HC W2 hB2
  replace hS : (fun _ : World => True) W2 := trivial
  refine hK.out _ _ hT (fun _ => hS) ?_
  clear hK K
  try simp only [Act.put, List.getElem_toArray, List.getElem_cons_succ, List.getElem_cons_zero, List.setIfInBounds_toArray, List.set_cons_zero, List.set_cons_succ]
  refine wpAnyT_one (i := 2) rfl (by kernel_rfl) (by kernel_rfl) (fun K hK => ?_)
  refine wpx_call _ _ (by kernel_rfl) ((atT_any R rootS W2).mono ?_)
  rintro z A ⟨rfl, hc1, hc2, hbA⟩
  refine ⟨_, rfl, ?_⟩
  have hBA : Below W.heap.size W A := hB2.trans (hbA.mono hB2.size)
  have hyA := hy2.farM hbA
  replace hT := HC A hBA
  replace hS : (fun _ : World => True) A := trivial
  refine hK.out _ _ hT (fun _ => hS) ?_
  clear hK K
  try simp only [Act.put, List.getElem_toArray, List.getElem_cons_succ, List.getElem_cons_zero, List.setIfInBounds_toArray, List.set_cons_zero, List.set_cons_succ]
  refine wpAnyT_done (by kernel_rfl) ?_ _
  have h2l : W.heap.size < W2.heap.size := hy2.lt
  have h2A : W2.heap.size + 1 < A.heap.size := hc2.lt
  clear hT hS HC hy1 hB1 hy2 hB2 hb2 hbA
  obtain ⟨y0, hy0⟩ : ∃ q, W.heap.size = q := ⟨_, rfl⟩
  obtain ⟨b1, hb1⟩ : ∃ q, W2.heap.size = q := ⟨_, rfl⟩
  rw [hb1] at hc1 hc2 h2l h2A ⊢
  rw [hy0] at hyA
  try rw [hy0]
  have hseq := fun m => at1_seq m base R bc bn b1 (b1 + 1) N V HRT.out HLE.out rootS (by exact ⟨⟨by decide, by decide⟩, ⟨by decide, by decide⟩⟩) A (HTW.out.far hBA) hc1 hc2
  have hAk : ∀ k, k < W.heap.size → A.heap[k]? = W.heap[k]? := fun k hk => hBA.block k hk
  have HTA : Veil (TreeAt A base R bc bn N V ∧ A.cell? ⟨Bt, 0, none⟩ = some (.pointer (some ⟨R, 0, none⟩))) := ⟨HTW.out.far hBA, (HBW.out.congr (hBA.block _ HBW.out.lt)).cell 0⟩
  clear hb1 W1 W2 hc1 hc2
  gi_wp2
  obtain ⟨p, hp⟩ : ∃ p, writB N = p := ⟨_, rfl⟩
  have HP := Veil.mk hp
  have HWR : Veil (∀ xs, xs = walkA N rootS → xs.filter p = wrN N) := ⟨fun xs e => by rw [e, ← hp]; rfl⟩
  have HWX : Veil (∀ xs, xs <+: walkA N rootS → xs.filter p <+: wrN N) := ⟨fun xs e => by unfold wrN; rw [hp]; exact e.filter p⟩
  clear hp
  obtain ⟨I, HI⟩ : ∃ I : (Nat → Prop) → List (Int × Int) → World → Prop, Veil (∀ T' pre B, I T' pre B ↔ (J T' (pre.filter p) B ∧ Turn T A B ∧ ∀ k, T' k → (T k ∨ A.heap.size ≤ k) ∧ k < B.heap.size)) := ⟨_, ⟨fun _ _ _ => Iff.rfl⟩⟩
  obtain ⟨Ix, HX⟩ : ∃ I : Code → (Nat → Prop) → List (Int × Int) → World → Prop, Veil (∀ c T' pre B, I c T' pre B ↔ (c = .ret ∧ Jx T' (pre.filter p) B ∧ Turn T A B ∧ ∀ k, T' k → (T k ∨ A.heap.size ≤ k) ∧ k < B.heap.size)) := ⟨_, ⟨fun _ _ _ _ => Iff.rfl⟩⟩
  have hzA := hBA.size
  have HST : Veil (∀ (T' : Nat → Prop) (B C : World), Turn T A B → StaysT (fun k => T' k ∨ (k < A.heap.size ∧ ¬ False)) B C → StaysT (fun k => T' k ∨ (k < W.heap.size ∧ ¬ False)) B C ∧ Turn T A C) := ⟨fun T' B C ht hs => ⟨⟨hs.os, hs.tape, hs.output, hs.size, fun k hk => hs.block k (hk.elim .inl fun q => .inr ⟨by omega, q.2⟩)⟩, hs.os.trans ht.os, hs.tape.trans ht.tape, hs.output.trans ht.output, Nat.le_trans ht.size hs.size, fun k hk hn => (hs.block k (.inr ⟨hk, id⟩)).trans (ht.block k hk hn)⟩⟩
  refine wpIn_rangeTl (by omega) rfl (fun _ _ => rfl) (hseq _) (fun _ => rfl) (fun _ _ _ h _ => h) (fun _ _ _ h _ => h) T ?own0 ?own
    I Ix ?stays ?staysx ?zero ?round ?done ?stop
  case own0 =>
    intro k hk
    refine ⟨fun q => ?_, by have := (HT.out k hk).2; omega⟩
    rcases q with q | q | q
    · exact (HT.out k hk).1 (.inl q)
    · have := (HT.out k hk).2; omega
    · have := (HT.out k hk).2; omega
  case own =>
    intro k hk
    rcases hk with q | q | q
    · have := (HON.out k (.inl q)).1; omega
    · omega
    · omega
  case stays =>
    intro T' s B C hi hs
    obtain ⟨h1, h2, h3⟩ := (HI.out _ _ _).1 hi
    obtain ⟨q1, q2⟩ := HST.out T' B C h2 hs
    exact (HI.out _ _ _).2 ⟨HJ.out _ _ _ _ h1 q1, q2, fun k hk => ⟨(h3 k hk).1, Nat.lt_of_lt_of_le (h3 k hk).2 hs.size⟩⟩
  case staysx =>
    intro c T' s B C hi hs
    obtain ⟨hc, h1, h2, h3⟩ := (HX.out _ _ _ _).1 hi
    obtain ⟨q1, q2⟩ := HST.out T' B C h2 hs
    exact (HX.out _ _ _ _).2 ⟨hc, HJx.out _ _ _ _ h1 q1, q2, fun k hk => ⟨(h3 k hk).1, Nat.lt_of_lt_of_le (h3 k hk).2 hs.size⟩⟩
  case zero =>
    refine (HI.out _ _ _).2 ⟨HJ.out _ _ _ _ H0.out (StaysT.of_below hBA fun k hk => hk.elim (fun q => (HT.out k q).2) (fun q => q.1)), Turn.refl _ _, fun k hk => ⟨.inl hk, by have := (HT.out k hk).2; omega⟩⟩
  case round =>
    intro l2 r T1 pre x B hi hok hlen hTl hT0 hlr hl2
    obtain ⟨hJ', hTu, hoT⟩ := (HI.out _ _ _).1 hi
    have hzB := hTu.size
    have hlB : l2 < B.heap.size := (Array.getElem?_eq_some_iff.1 hlr).1
    have hTl2 : ¬ T1 l2 := fun q => by
      rcases hT0 l2 q with e | e
      · have := (HT.out _ e).2; omega
      · omega
    have HFI := Veil.mk (filter_snoc p pre x)
    have HPX : Veil (p x = decide (chr0 N x ≠ 0)) := ⟨by rw [← HP.out]; rfl⟩
    have HLN : Veil ((pre.filter p).length < (walkA N rootS).length) := ⟨Nat.lt_of_le_of_lt (List.length_filter_le _ _) hlen⟩
    have HOK := Veil.mk hok
    have HLOOK : Veil (∀ wx, MapX Try.prog 26 encDF okDF wx bc N.length (chrM N) → (Instr.lookup 102 (.map (some bc)) (.agg (encF x).toArray) false).run Try.prog wx = .ok (.int .u8 (chr0 N x)) wx) := ⟨fun wx h => by
      have := h.g.get keyEncDF Try.underlying102 (z := .int .u8 0) (by kernel_rfl) x hok
      rw [chrM_getD] at this
      exact this⟩
    have HYV : Veil (∀ V3, J T1 (pre.filter p) V3 → (∀ k, T1 k → k < V3.heap.size) → ∀ m, YieldAt Fence.wide m Try.prog l #[.agg (encF x).toArray] V3 fun e W' => (e = .returned (.bool true) ∧ ∃ T2, J T2 (pre.filter p ++ [x]) W' ∧ MovesT T1 V3 T2 W') ∨ (e = .returned (.bool false) ∧ ∃ T2, Jx T2 (pre.filter p ++ [x]) W' ∧ MovesT T1 V3 T2 W')) := ⟨fun V3 h1 h2 m => yieldAt_deep (HY.out T1 (pre.filter p) x V3 h1 HOK.out HLN.out h2)⟩
    obtain ⟨xa, xb⟩ := x
    have hx1 := CellsAt.new B 26 [.int .u8 xa, .int .u32 xb]
    have hb1 : Below B.heap.size B (B.alloc (.cells #[.int .u8 xa, .int .u32 xb] 26)) := (Below.refl _ _).alloc (Nat.le_refl _) _
    have hz1 : (B.alloc (.cells #[.int .u8 xa, .int .u32 xb] 26)).heap.size = B.heap.size + 1 := by simp
    clear hi hlen hok
    simp only [encF, dotC] at HYV HLOOK ⊢
    refine wpR_region (notOut_then notOut_false) (by kernel_rfl) ?_
    go_wp2
    refine ⟨Turn.of_below hb1, ?_⟩
    generalize B.alloc (.cells #[.int .u8 xa, .int .u32 xb] 26) = V1 at hx1 hb1 hz1 ⊢
    have hx2 : CellsAt (V1.putObj l2 (.loop { r with state := .busy })) B.heap.size 26 [.int .u8 xa, .int .u32 xb] := hx1.congr (World.putObj_heap_other (by omega))
    have hk2 : ∀ k, k < B.heap.size → k ≠ l2 → (V1.putObj l2 (.loop { r with state := .busy })).heap[k]? = B.heap[k]? := fun k hk hn => (World.putObj_heap_other hn).trans (hb1.block k hk)
    have hz2 : (V1.putObj l2 (.loop { r with state := .busy })).heap.size = B.heap.size + 1 := by simp [World.putObj, hz1]
    have hJ2 : J T1 (pre.filter p) (V1.putObj l2 (.loop { r with state := .busy })) := HJ.out _ _ _ _ hJ' ⟨hb1.os, hb1.tape, hb1.output, by omega, fun k hk => hk2 k (by rcases hk with q | q; exact (hoT k q).2; omega) (by rcases hk with q | q; exact fun e => hTl2 (e ▸ q); omega)⟩
    have hTu2 : Turn T A (V1.putObj l2 (.loop { r with state := .busy })) := ⟨hb1.os.trans hTu.os, hb1.tape.trans hTu.tape, hb1.output.trans hTu.output, by omega, fun k hk hn => (hk2 k (by omega) (by omega)).trans (hTu.block k hk hn)⟩
    generalize V1.putObj l2 (.loop { r with state := .busy }) = V2 at hx2 hk2 hz2 hJ2 hTu2 ⊢
    have HS : Veil (∀ V3, Turn T A V3 → CellsAt V3 B.heap.size 26 [.int .u8 xa, .int .u32 xb] → (fun w' : World => w'.cell? ⟨Bt, 0, none⟩ = some (.pointer (some ⟨R, 0, none⟩)) ∧ w'.cell? ⟨R, 0, none⟩ = some (.map (some bc)) ∧ w'.rangeAt B.heap.size 0 [.int .u8 xa, .int .u32 xb] ∧ MapX Try.prog 26 encDF okDF w' bc N.length (chrM N) ∧ w'.cell? ⟨y0, 0, none⟩ = some (.func (.yield l) #[] #[])) V3) := ⟨fun V3 ht hc => by
      have hk : ∀ k, (treeP R bc bn V k ∨ k = Bt) → V3.heap[k]? = A.heap[k]? := fun k hk => ht.block k (by have := (HON.out k hk).1; omega) (HON.out k hk).2
      have hT3 : TreeAt V3 base R bc bn N V := HTA.out.1.congr fun k q => hk k (.inl q)
      exact ⟨(World.cell?_of_block (a := ⟨Bt, 0, none⟩) (hk Bt (.inr rfl))).trans HTA.out.2, hT3.box.cell 0, hc.wholeM, hT3.chars, (hyA.congr (ht.block y0 hyA.lt fun q => by have := (HT.out _ q).2; omega)).cell 0⟩⟩
    have HI3 : Veil (∀ V3 T2, MovesT T1 V2 T2 V3 → J T2 ((pre ++ [(xa, xb)]).filter p) V3 → I T2 (pre ++ [(xa, xb)]) V3) := ⟨fun V3 T2 hm hj => (HI.out _ _ _).2 ⟨hj, ⟨hm.turn.os.trans hTu2.os, hm.turn.tape.trans hTu2.tape, hm.turn.output.trans hTu2.output, Nat.le_trans hTu2.size hm.turn.size, fun k hk hn => (hm.turn.block k (by omega) fun q => by rcases (hoT k q).1 with e | e; exact hn e; omega).trans (hTu2.block k hk hn)⟩, fun k hk => ⟨by
        rcases (hm.own k hk).1 with q | q
        · exact (hoT k q).1
        · exact .inr (by omega), (hm.own k hk).2⟩⟩⟩
    have HX3 : Veil (∀ V3 T2, MovesT T1 V2 T2 V3 → Jx T2 ((pre ++ [(xa, xb)]).filter p) V3 → Ix .ret T2 (pre ++ [(xa, xb)]) V3) := ⟨fun V3 T2 hm hj => (HX.out _ _ _ _).2 ⟨rfl, hj, ⟨hm.turn.os.trans hTu2.os, hm.turn.tape.trans hTu2.tape, hm.turn.output.trans hTu2.output, Nat.le_trans hTu2.size hm.turn.size, fun k hk hn => (hm.turn.block k (by omega) fun q => by rcases (hoT k q).1 with e | e; exact hn e; omega).trans (hTu2.block k hk hn)⟩, fun k hk => ⟨by
        rcases (hm.own k hk).1 with q | q
        · exact (hoT k q).1
        · exact .inr (by omega), (hm.own k hk).2⟩⟩⟩
    have HS3 : Veil (∀ V3 T2, MovesT T1 V2 T2 V3 → (fun w' : World => w'.cell? ⟨Bt, 0, none⟩ = some (.pointer (some ⟨R, 0, none⟩)) ∧ w'.cell? ⟨R, 0, none⟩ = some (.map (some bc)) ∧ w'.rangeAt B.heap.size 0 [.int .u8 xa, .int .u32 xb] ∧ MapX Try.prog 26 encDF okDF w' bc N.length (chrM N) ∧ w'.cell? ⟨y0, 0, none⟩ = some (.func (.yield l) #[] #[])) V3) := ⟨fun V3 T2 hm => HS.out V3 ⟨hm.turn.os.trans hTu2.os, hm.turn.tape.trans hTu2.tape, hm.turn.output.trans hTu2.output, Nat.le_trans hTu2.size hm.turn.size, fun k hk hn => (hm.turn.block k (by omega) fun q => by rcases (hoT k q).1 with e | e; exact hn e; omega).trans (hTu2.block k hk hn)⟩ (hx2.congr (hm.turn.block _ hx2.lt fun q => by have := (hoT _ q).2; omega))⟩
    have hT1z : ∀ k, T1 k → k < V2.heap.size := fun k hk => by have := (hoT k hk).2; omega
    have HDR : Veil (MovesT T1 V2 T1 V2.drew) := ⟨⟨rfl, rfl, rfl, Nat.le_refl _, fun _ _ _ => rfl⟩, fun k hk => ⟨.inl hk, hT1z k hk⟩⟩
    have hJ3 : J T1 (pre.filter p) V2.drew := HJ.out _ _ _ _ hJ2 ⟨rfl, rfl, rfl, Nat.le_refl _, fun _ _ => rfl⟩
    have HYA := Veil.mk (HYV.out V2.drew hJ3 (fun k hk => hT1z k hk))
    have HJ3 := Veil.mk hJ3
    have uD := Try.underlying26
    have iX : (Try.prog.info? 26).map (·.size) = some [Value.int .u8 xa, Value.int .u32 xb].length := sizeDot
    obtain ⟨c, hc⟩ : ∃ q, chr0 N (xa, xb) = q := ⟨_, rfl⟩
    rw [hc] at HLOOK HPX
    have hS : (fun w' : World => w'.cell? ⟨Bt, 0, none⟩ = some (.pointer (some ⟨R, 0, none⟩)) ∧ w'.cell? ⟨R, 0, none⟩ = some (.map (some bc)) ∧ w'.rangeAt B.heap.size 0 [.int .u8 xa, .int .u32 xb] ∧ MapX Try.prog 26 encDF okDF w' bc N.length (chrM N) ∧ w'.cell? ⟨y0, 0, none⟩ = some (.func (.yield l) #[] #[])) V2.drew := HS3.out _ _ HDR.out
    clear hc hx1 hb1 hz1 hJ' hTu hoT hTl hT0 hlr hk2 hz2 hJ2 hTu2 hx2 hzB hlB hTl2 HS HYV hT1z hJ3 HY
    refine wpIn_block ?_
    by_cases hc0 : c = 0
    · subst hc0
      have HFE : Veil ((pre ++ [(xa, xb)]).filter p = pre.filter p) := ⟨by rw [HFI.out, HPX.out]; simp⟩
      refine wpIn_seq ?_
      refine wpR_region_gateI (fun w' : World => w'.cell? ⟨Bt, 0, none⟩ = some (.pointer (some ⟨R, 0, none⟩)) ∧ w'.cell? ⟨R, 0, none⟩ = some (.map (some bc)) ∧ w'.rangeAt B.heap.size 0 [.int .u8 xa, .int .u32 xb] ∧ MapX Try.prog 26 encDF okDF w' bc N.length (chrM N) ∧ w'.cell? ⟨y0, 0, none⟩ = some (.func (.yield l) #[] #[])) (by kernel_rfl) (by kernel_rfl) ?_
      refine wpAnyI_read (i := 0) (v := ?_) rfl (by kernel_rfl) (by kernel_rfl) (by kernel_rfl) (fun _ _ _ h => h) hS (by kernel_rfl) ?_ ?_
      rotate_left
      · intro wx hSw; go_split_ands; go_simp; try with_reducible rfl
      simp only [Act.put, List.getElem_toArray, List.getElem_cons_succ, List.getElem_cons_zero, List.setIfInBounds_toArray, List.set_cons_zero, List.set_cons_succ]
      refine wpAnyI_read (i := 1) (v := ?_) rfl (by kernel_rfl) (by kernel_rfl) (by kernel_rfl) (fun _ _ _ h => h) hS (by kernel_rfl) ?_ ?_
      rotate_left
      · intro wx hSw; go_split_ands; go_simp; try with_reducible rfl
      simp only [Act.put, List.getElem_toArray, List.getElem_cons_succ, List.getElem_cons_zero, List.setIfInBounds_toArray, List.set_cons_zero, List.set_cons_succ]
      refine wpAnyI_read (i := 2) (v := ?_) rfl (by kernel_rfl) (by kernel_rfl) (by kernel_rfl) (fun _ _ _ h => h) hS (by kernel_rfl) ?_ ?_
      rotate_left
      · intro wx hSw; go_split_ands; go_simp; try with_reducible rfl
      simp only [Act.put, List.getElem_toArray, List.getElem_cons_succ, List.getElem_cons_zero, List.setIfInBounds_toArray, List.set_cons_zero, List.set_cons_succ]
      refine wpAnyI_read (i := 3) (v := ?_) rfl (by kernel_rfl) (by kernel_rfl) (by kernel_rfl) (fun _ _ _ h => h) hS (by kernel_rfl) ?_ ?_
      rotate_left
      · intro wx hSw; go_split_ands; go_simp; try with_reducible rfl
      simp only [Act.put, List.getElem_toArray, List.getElem_cons_succ, List.getElem_cons_zero, List.setIfInBounds_toArray, List.set_cons_zero, List.set_cons_succ]
      refine wpAnyI_load (i := 4) (dst := some 12) (ty := 26) (x := .tmp 3) (b := B.heap.size) (o := (0)) (cs := [.int .u8 xa, .int .u32 xb]) (by kernel_rfl) (by kernel_rfl) (by kernel_rfl) (by kernel_rfl) (by kernel_rfl) (fun _ _ _ h => h) hS (by kernel_rfl) (fun _ h => h.2.2.1) uD rfl iX ?_
      simp only [Act.put, List.getElem_toArray, List.getElem_cons_succ, List.getElem_cons_zero, List.setIfInBounds_toArray, List.set_cons_zero, List.set_cons_succ]
      refine wpAnyI_read (i := 5) (v := .int .u8 0) rfl (by kernel_rfl) (by kernel_rfl) (by kernel_rfl) (fun _ _ _ h => h) hS (by kernel_rfl) (fun wx h => exec_lookF rfl rfl rfl (HLOOK.out wx h.2.2.2.1)) ?_
      simp only [Act.put, List.getElem_toArray, List.getElem_cons_succ, List.getElem_cons_zero, List.setIfInBounds_toArray, List.set_cons_zero, List.set_cons_succ]
      refine wpAnyI_read (i := 6) (v := .bool false) rfl (by kernel_rfl) (by kernel_rfl) (by kernel_rfl) (fun _ _ _ h => h) hS (by kernel_rfl) ?_ ?_
      · intro wx hSw; go_split_ands; go_simp
      simp only [Act.put, List.getElem_toArray, List.getElem_cons_succ, List.getElem_cons_zero, List.setIfInBounds_toArray, List.set_cons_zero, List.set_cons_succ]
      refine wpAnyI_read (i := 7) (v := ?_) rfl (by kernel_rfl) (by kernel_rfl) (by kernel_rfl) (fun _ _ _ h => h) hS (by kernel_rfl) ?_ ?_
      rotate_left
      · intro wx hSw; go_split_ands; go_simp; try with_reducible rfl
      simp only [Act.put, List.getElem_toArray, List.getElem_cons_succ, List.getElem_cons_zero, List.setIfInBounds_toArray, List.set_cons_zero, List.set_cons_succ]
      refine wpAnyI_skip (i := 8) rfl (by kernel_rfl) (by kernel_rfl) (by kernel_rfl) (fun _ _ _ h => h) hS (by kernel_rfl) ?_
      simp only [Act.put, List.getElem_toArray, List.getElem_cons_succ, List.getElem_cons_zero, List.setIfInBounds_toArray, List.set_cons_zero, List.set_cons_succ]
      refine wpAnyI_skip (i := 9) rfl (by kernel_rfl) (by kernel_rfl) (by kernel_rfl) (fun _ _ _ h => h) hS (by kernel_rfl) ?_
      simp only [Act.put, List.getElem_toArray, List.getElem_cons_succ, List.getElem_cons_zero, List.setIfInBounds_toArray, List.set_cons_zero, List.set_cons_succ]
      refine wpAnyI_skip (i := 10) rfl (by kernel_rfl) (by kernel_rfl) (by kernel_rfl) (fun _ _ _ h => h) hS (by kernel_rfl) ?_
      simp only [Act.put, List.getElem_toArray, List.getElem_cons_succ, List.getElem_cons_zero, List.setIfInBounds_toArray, List.set_cons_zero, List.set_cons_succ]
      refine wpAnyI_skip (i := 11) rfl (by kernel_rfl) (by kernel_rfl) (by kernel_rfl) (fun _ _ _ h => h) hS (by kernel_rfl) ?_
      simp only [Act.put, List.getElem_toArray, List.getElem_cons_succ, List.getElem_cons_zero, List.setIfInBounds_toArray, List.set_cons_zero, List.set_cons_succ]
      refine wpAnyI_read (i := 12) (v := ?_) rfl (by kernel_rfl) (by kernel_rfl) (by kernel_rfl) (fun _ _ _ h => h) hS (by kernel_rfl) ?_ ?_
      rotate_left
      · intro wx hSw; go_split_ands; go_simp; try with_reducible rfl
      simp only [Act.put, List.getElem_toArray, List.getElem_cons_succ, List.getElem_cons_zero, List.setIfInBounds_toArray, List.set_cons_zero, List.set_cons_succ]
      refine wpAnyI_done (by kernel_rfl) ?_ _
      have HQ := Veil.mk (HI3.out V2.drew T1 HDR.out (by rw [HFE.out]; exact HJ3.out))
      clear hS HI3 HX3 HS3 HYA HJ3 HLOOK
      gi_wp2
      exact ⟨T1, HQ.out, HDR.out⟩
    · have hcb : (c != 0) = true := by simpa using hc0
      have HFE : Veil ((pre ++ [(xa, xb)]).filter p = pre.filter p ++ [(xa, xb)]) := ⟨by rw [HFI.out, HPX.out]; simp [hc0]⟩
      refine wpIn_seq ?_
      refine wpR_region_gateI (fun w' : World => w'.cell? ⟨Bt, 0, none⟩ = some (.pointer (some ⟨R, 0, none⟩)) ∧ w'.cell? ⟨R, 0, none⟩ = some (.map (some bc)) ∧ w'.rangeAt B.heap.size 0 [.int .u8 xa, .int .u32 xb] ∧ MapX Try.prog 26 encDF okDF w' bc N.length (chrM N) ∧ w'.cell? ⟨y0, 0, none⟩ = some (.func (.yield l) #[] #[])) (by kernel_rfl) (by kernel_rfl) ?_
      refine wpAnyI_read (i := 0) (v := ?_) rfl (by kernel_rfl) (by kernel_rfl) (by kernel_rfl) (fun _ _ _ h => h) hS (by kernel_rfl) ?_ ?_
      rotate_left
      · intro wx hSw; go_split_ands; go_simp; try with_reducible rfl
      simp only [Act.put, List.getElem_toArray, List.getElem_cons_succ, List.getElem_cons_zero, List.setIfInBounds_toArray, List.set_cons_zero, List.set_cons_succ]
      refine wpAnyI_read (i := 1) (v := ?_) rfl (by kernel_rfl) (by kernel_rfl) (by kernel_rfl) (fun _ _ _ h => h) hS (by kernel_rfl) ?_ ?_
      rotate_left
      · intro wx hSw; go_split_ands; go_simp; try with_reducible rfl
      simp only [Act.put, List.getElem_toArray, List.getElem_cons_succ, List.getElem_cons_zero, List.setIfInBounds_toArray, List.set_cons_zero, List.set_cons_succ]
      refine wpAnyI_read (i := 2) (v := ?_) rfl (by kernel_rfl) (by kernel_rfl) (by kernel_rfl) (fun _ _ _ h => h) hS (by kernel_rfl) ?_ ?_
      rotate_left
      · intro wx hSw; go_split_ands; go_simp; try with_reducible rfl
      simp only [Act.put, List.getElem_toArray, List.getElem_cons_succ, List.getElem_cons_zero, List.setIfInBounds_toArray, List.set_cons_zero, List.set_cons_succ]
      refine wpAnyI_read (i := 3) (v := ?_) rfl (by kernel_rfl) (by kernel_rfl) (by kernel_rfl) (fun _ _ _ h => h) hS (by kernel_rfl) ?_ ?_
      rotate_left
      · intro wx hSw; go_split_ands; go_simp; try with_reducible rfl
      simp only [Act.put, List.getElem_toArray, List.getElem_cons_succ, List.getElem_cons_zero, List.setIfInBounds_toArray, List.set_cons_zero, List.set_cons_succ]
      refine wpAnyI_load (i := 4) (dst := some 12) (ty := 26) (x := .tmp 3) (b := B.heap.size) (o := (0)) (cs := [.int .u8 xa, .int .u32 xb]) (by kernel_rfl) (by kernel_rfl) (by kernel_rfl) (by kernel_rfl) (by kernel_rfl) (fun _ _ _ h => h) hS (by kernel_rfl) (fun _ h => h.2.2.1) uD rfl iX ?_
      simp only [Act.put, List.getElem_toArray, List.getElem_cons_succ, List.getElem_cons_zero, List.setIfInBounds_toArray, List.set_cons_zero, List.set_cons_succ]
      refine wpAnyI_read (i := 5) (v := .int .u8 c) rfl (by kernel_rfl) (by kernel_rfl) (by kernel_rfl) (fun _ _ _ h => h) hS (by kernel_rfl) (fun wx h => exec_lookF rfl rfl rfl (HLOOK.out wx h.2.2.2.1)) ?_
      simp only [Act.put, List.getElem_toArray, List.getElem_cons_succ, List.getElem_cons_zero, List.setIfInBounds_toArray, List.set_cons_zero, List.set_cons_succ]
      refine wpAnyI_read (i := 6) (v := .bool true) rfl (by kernel_rfl) (by kernel_rfl) (by kernel_rfl) (fun _ _ _ h => h) hS (by kernel_rfl) ?_ ?_
      · intro wx hSw; go_split_ands; go_simp
      simp only [Act.put, List.getElem_toArray, List.getElem_cons_succ, List.getElem_cons_zero, List.setIfInBounds_toArray, List.set_cons_zero, List.set_cons_succ]
      refine wpAnyI_read (i := 7) (v := ?_) rfl (by kernel_rfl) (by kernel_rfl) (by kernel_rfl) (fun _ _ _ h => h) hS (by kernel_rfl) ?_ ?_
      rotate_left
      · intro wx hSw; go_split_ands; go_simp; try with_reducible rfl
      simp only [Act.put, List.getElem_toArray, List.getElem_cons_succ, List.getElem_cons_zero, List.setIfInBounds_toArray, List.set_cons_zero, List.set_cons_succ]
      refine wpAnyI_read (i := 8) (v := ?_) rfl (by kernel_rfl) (by kernel_rfl) (by kernel_rfl) (fun _ _ _ h => h) hS (by kernel_rfl) ?_ ?_
      rotate_left
      · intro wx hSw; go_split_ands; go_simp; try with_reducible rfl
      simp only [Act.put, List.getElem_toArray, List.getElem_cons_succ, List.getElem_cons_zero, List.setIfInBounds_toArray, List.set_cons_zero, List.set_cons_succ]
      refine wpAnyI_load (i := 9) (dst := some 17) (ty := 26) (x := .tmp 3) (b := B.heap.size) (o := (0)) (cs := [.int .u8 xa, .int .u32 xb]) (by kernel_rfl) (by kernel_rfl) (by kernel_rfl) (by kernel_rfl) (by kernel_rfl) (fun _ _ _ h => h) hS (by kernel_rfl) (fun _ h => h.2.2.1) uD rfl iX ?_
      simp only [Act.put, List.getElem_toArray, List.getElem_cons_succ, List.getElem_cons_zero, List.setIfInBounds_toArray, List.set_cons_zero, List.set_cons_succ]
      refine wpAnyI_one (i := 10) rfl (by kernel_rfl) (by kernel_rfl) (fun K hK => ?_)
      refine wpI_yield _ _ _ rfl rfl rfl (HYA.out _) ?_
      rintro e W3 (⟨rfl, T2, hj4, hm4⟩ | ⟨rfl, T2, hj4, hm4⟩)
      · refine ⟨_, rfl, ?_⟩
        have hm5 := HDR.out.trans hm4
        replace hS := HS3.out W3 T2 hm5
        have HQ := Veil.mk (And.intro (HI3.out W3 T2 hm5 (by rw [HFE.out]; exact hj4)) hm5)
        clear hm4 hm5 hj4
        refine hK.out _ _ hS ?_
        clear hK K
        try simp only [Act.put, List.getElem_toArray, List.getElem_cons_succ, List.getElem_cons_zero, List.setIfInBounds_toArray, List.set_cons_zero, List.set_cons_succ]
        refine wpAnyI_read (i := 11) (v := ?_) rfl (by kernel_rfl) (by kernel_rfl) (by kernel_rfl) (fun _ _ _ h => h) hS (by kernel_rfl) ?_ ?_
        rotate_left
        · intro wx hSw; go_split_ands; go_simp; try with_reducible rfl
        simp only [Act.put, List.getElem_toArray, List.getElem_cons_succ, List.getElem_cons_zero, List.setIfInBounds_toArray, List.set_cons_zero, List.set_cons_succ]
        refine wpAnyI_read (i := 12) (v := ?_) rfl (by kernel_rfl) (by kernel_rfl) (by kernel_rfl) (fun _ _ _ h => h) hS (by kernel_rfl) ?_ ?_
        rotate_left
        · intro wx hSw; go_split_ands; go_simp; try with_reducible rfl
        simp only [Act.put, List.getElem_toArray, List.getElem_cons_succ, List.getElem_cons_zero, List.setIfInBounds_toArray, List.set_cons_zero, List.set_cons_succ]
        refine wpAnyI_done (by kernel_rfl) ?_ _
        clear hS HI3 HX3 HS3 HYA HJ3 HLOOK hcb hc0
        gi_wp2
        exact ⟨T2, HQ.out.1, HQ.out.2⟩
      · refine ⟨_, rfl, ?_⟩
        have hm5 := HDR.out.trans hm4
        replace hS := HS3.out W3 T2 hm5
        have HQ := Veil.mk (And.intro (HX3.out W3 T2 hm5 (by rw [HFE.out]; exact hj4)) hm5)
        clear hm4 hm5 hj4
        refine hK.out _ _ hS ?_
        clear hK K
        try simp only [Act.put, List.getElem_toArray, List.getElem_cons_succ, List.getElem_cons_zero, List.setIfInBounds_toArray, List.set_cons_zero, List.set_cons_succ]
        refine wpAnyI_read (i := 11) (v := ?_) rfl (by kernel_rfl) (by kernel_rfl) (by kernel_rfl) (fun _ _ _ h => h) hS (by kernel_rfl) ?_ ?_
        rotate_left
        · intro wx hSw; go_split_ands; go_simp; try with_reducible rfl
        simp only [Act.put, List.getElem_toArray, List.getElem_cons_succ, List.getElem_cons_zero, List.setIfInBounds_toArray, List.set_cons_zero, List.set_cons_succ]
        refine wpAnyI_read (i := 12) (v := ?_) rfl (by kernel_rfl) (by kernel_rfl) (by kernel_rfl) (fun _ _ _ h => h) hS (by kernel_rfl) ?_ ?_
        rotate_left
        · intro wx hSw; go_split_ands; go_simp; try with_reducible rfl
        simp only [Act.put, List.getElem_toArray, List.getElem_cons_succ, List.getElem_cons_zero, List.setIfInBounds_toArray, List.set_cons_zero, List.set_cons_succ]
        refine wpAnyI_done (by kernel_rfl) ?_ _
        clear hS HI3 HX3 HS3 HYA HJ3 HLOOK hcb hc0
        gi_wp2
        exact ⟨T2, HQ.out.1, HQ.out.2⟩
  case done =>
    intro D xs T' B hD hP hi hdef ht hTD
    obtain ⟨hJ', hTu, hoT⟩ := (HI.out _ _ _).1 hi
    have hst : StaysT (fun k => T' k ∨ (k < W.heap.size ∧ ¬ False)) B (B.putObj D (.deferred none)) := StaysT.put _ (fun q => by rcases q with q | q; exact hTD q; omega)
    have HMV : Veil (MovesT (fun k => T k ∨ False) W T' (B.putObj D (.deferred none))) := ⟨⟨(hst.os.trans hTu.os).trans hBA.os, (hst.tape.trans hTu.tape).trans hBA.tape, (hst.output.trans hTu.output).trans hBA.output, by have := hTu.size; have := hst.size; omega, fun k hk hn => ((hst.block k (.inr ⟨hk, id⟩)).trans (hTu.block k (by omega) (fun q => hn (.inl q)))).trans (hAk k hk)⟩, fun k hk => ⟨by rcases (hoT k hk).1 with q | q; exact .inl (.inl q); exact .inr (by omega), Nat.lt_of_lt_of_le (hoT k hk).2 hst.size⟩⟩
    have HJE := Veil.mk (HJ.out _ _ _ _ hJ' hst)
    have HPE := Veil.mk (HWR.out xs hP)
    clear hJ' hTu hoT hst hi hP ht
    gi_wp2
    refine ⟨by simp, .inl ⟨_, _, rfl, run_takeDeferred hdef, ?_⟩⟩
    exact ⟨_, results_none rfl _ _ _, ⟨_, rfl⟩, .inl ⟨_, T', HPE.out, HJE.out, HMV.out⟩⟩
  case stop =>
    intro D c xs T' B hD hP hi hdef ht hTD
    obtain ⟨rfl, hJ', hTu, hoT⟩ := (HX.out _ _ _ _).1 hi
    have hst : StaysT (fun k => T' k ∨ (k < W.heap.size ∧ ¬ False)) B (B.putObj D (.deferred none)) := StaysT.put _ (fun q => by rcases q with q | q; exact hTD q; omega)
    have HMV : Veil (MovesT (fun k => T k ∨ False) W T' (B.putObj D (.deferred none))) := ⟨⟨(hst.os.trans hTu.os).trans hBA.os, (hst.tape.trans hTu.tape).trans hBA.tape, (hst.output.trans hTu.output).trans hBA.output, by have := hTu.size; have := hst.size; omega, fun k hk hn => ((hst.block k (.inr ⟨hk, id⟩)).trans (hTu.block k (by omega) (fun q => hn (.inl q)))).trans (hAk k hk)⟩, fun k hk => ⟨by rcases (hoT k hk).1 with q | q; exact .inl (.inl q); exact .inr (by omega), Nat.lt_of_lt_of_le (hoT k hk).2 hst.size⟩⟩
    have HJE := Veil.mk (HJx.out _ _ _ _ hJ' hst)
    have HPE := Veil.mk (HWX.out xs hP)
    clear hJ' hTu hoT hst hi hP ht
    gi_wp2
    refine ⟨by simp, .inl ⟨_, _, rfl, run_takeDeferred hdef, ?_⟩⟩
    exact ⟨_, results_none rfl _ _ _, ⟨_, rfl⟩, .inr ⟨_, T', HPE.out, HJE.out, HMV.out⟩⟩
end Go.Proofs.Ytgmbmdmbnpkbbaa

namespace Go.Proofs.Ytgmbmdmbnpkbbaa
open Go.RowKit Go.Shelf
attribute [local go_sem] Oper.semAt_some
set_option maxRecDepth 20000
set_option linter.unusedSimpArgs false
theorem SeqT.weak {α : Type} {n : Nat} {P : Program} {gf : Nat} {lb : Array Value} {encs : α → Array Value} {Own Wr : Nat → Prop} {Post Postx : List α → World → Prop} {ok : α → Prop} {N : Nat} {w : World} (h : SeqT n P gf lb encs Own Wr Post Postx ok N w) : SeqT n P gf lb encs Own Wr Post (fun _ _ => True) ok N w :=
  fun l T J Jx W hW hT hJ hJx hY h0 => (h l T J Jx W hW hT hJ hJx hY h0).mono fun _ _ hq => ⟨hq.1, hq.2.elim .inl fun ⟨xs, T', _, hj, hm⟩ => .inr ⟨xs, T', trivial, hj, hm⟩⟩
theorem okRoot : okS rootS := ⟨⟨by decide, by decide⟩, ⟨by decide, by decide⟩⟩
/-- A row of cells and one cell, as results. -/
theorem results_c2 {P : Program} {fn : Func} {p q : Tmp} {t1 t2 u2 : TypeId} {d : TypeDesc} (h : fn.results = #[.cell p t1, .cell q t2]) (tmps : Array Value) {w : World} {A B : Nat} {cs : List Value} {v : Value} (hp : tmps.getD p undef = .pointer (some ⟨A, 0, none⟩)) (hq : tmps.getD q undef = .pointer (some ⟨B, 0, none⟩)) (hA : CellsAt w A t1 cs) (hB : CellsAt w B u2 [v])
    (hu : P.underlying t1 = some d) (hd : (match d with | .struct _ | .array _ _ => true | _ => false) = true) (hi : (P.info? t1).map (·.size) = some cs.length) (ha : ∀ w, (isAgg t2).run P w = .ok false w) :
    (results fn tmps).run P w = .ok (.tuple #[.agg cs.toArray, v]) w := by
  have hp' : tmps[p]?.getD undef = .pointer (some ⟨A, 0, none⟩) := by simpa using hp
  have hq' : tmps[q]?.getD undef = .pointer (some ⟨B, 0, none⟩) := by simpa using hq
  have hc : w.cell? ⟨B, 0, none⟩ = some v := hB.cell 0
  have hl := run_loadVar_row w A t1 t1 cs.toArray (0, 0) _ hA hu hd (by rw [hi]; simp)
  have hlB : (loadVar t2 ⟨B, 0, none⟩).run P w = .ok v w := by simp [go_sem, hc, ha]
  simp [results, h, hp', hq', asAddr, hl, hlB]
/-- The node of the i-th character. -/
def atN (N : List Nd) (i : Int) : Option (Int × Int) := if i < 0 then none else (wrN N)[i.toNat]?
def atD (o : Option (Int × Int)) : Int × Int := o.getD (0, 0)
def atE (o : Option (Int × Int)) : Int := if o.isSome then 0 else 2
set_option maxHeartbeats 8000000 in
theorem atT2_any (base R bc bn : Nat) (N : List Nd) (V : (Int × Int) × Bool → Value) (hN : TreeOk N) (hlen : N.length ≤ 1000) (i : Int) (w : World) (hTr : TreeAt w base R bc bn N V) :
    Calls Try.prog 52 #[.pointer (some ⟨R, 0, none⟩), .int .i64 i] w fun e w' => e = .returned (.tuple #[.agg (encF (atD (atN N i))).toArray, .int .i64 (atE (atN N i))]) ∧ Below w.heap.size w w' := by
  obtain ⟨W4, hW4⟩ : ∃ W4, W4 = (((w.alloc (.cells #[.int .i64 i] 3)).alloc (.cells #[.int .u8 0, .int .u32 0] 26)).alloc (.cells #[.int .i64 0] 33)).alloc (.cells #[.int .i64 0] 3) := ⟨_, rfl⟩
  have hb4 : Below w.heap.size w W4 := by rw [hW4]; exact ((((Below.refl _ _).alloc (Nat.le_refl _) _).alloc (by simp) _).alloc (by simp; omega) _).alloc (by simp; omega) _
  have hz4 : W4.heap.size = w.heap.size + 4 := by rw [hW4]; simp
  have h3 : CellsAt W4 w.heap.size 3 [.int .i64 i] := by rw [hW4]; exact (((CellsAt.new w 3 [.int .i64 i]).alloc _).alloc _).alloc _
  have h4 : CellsAt W4 (w.heap.size + 1) 26 [.int .u8 0, .int .u32 0] := by
    rw [hW4]
    have := ((CellsAt.new (w.alloc (.cells #[.int .i64 i] 3)) 26 [.int .u8 0, .int .u32 0]).alloc (.cells #[.int .i64 0] 33)).alloc (.cells #[.int .i64 0] 3)
    rw [World.size_alloc] at this; exact this
  have h5 : CellsAt W4 (w.heap.size + 1 + 1) 33 [.int .i64 0] := by
    rw [hW4]
    have := (CellsAt.new ((w.alloc (.cells #[.int .i64 i] 3)).alloc (.cells #[.int .u8 0, .int .u32 0] 26)) 33 [.int .i64 0]).alloc (.cells #[.int .i64 0] 3)
    rw [World.size_alloc, World.size_alloc] at this; exact this
  have h6 : CellsAt W4 (w.heap.size + 1 + 1 + 1) 3 [.int .i64 0] := by
    rw [hW4]
    have := CellsAt.new (((w.alloc (.cells #[.int .i64 i] 3)).alloc (.cells #[.int .u8 0, .int .u32 0] 26)).alloc (.cells #[.int .i64 0] 33)) 3 [.int .i64 0]
    rw [World.size_alloc, World.size_alloc, World.size_alloc] at this; exact this
  have hwr := writtenT_any R W4
  rw [hz4] at hwr
  have HW := Veil.mk hW4
  have HTR := Veil.mk hTr
  have HN := Veil.mk hN
  have HL := Veil.mk hlen
  clear hW4 hTr hN hlen
  refine (callsIn_wide (n := 9)).1 ?_
  refine callsIn_of_wp_marks Try.func52 rfl trivial ?_ rfl
  simp only [Try.ntmps52, List.size_toArray, List.length_cons, List.length_nil, Nat.reduceAdd, Nat.reduceSub, Array.replicate_succ, Array.replicate_zero, List.push_toArray, List.append_toArray, List.nil_append, List.cons_append]
  gi_wp2
  rw [← HW.out]
  refine ⟨trivial, (callsIn_wide.2 hwr).mono ?_⟩
  rintro e A ⟨rfl, hbt, hbA⟩
  have hwA : Below w.heap.size w A := hb4.trans (hbA.mono (by omega))
  have hzA : w.heap.size + 4 < A.heap.size := hbt.lt
  replace h3 := h3.congr (hbA.block _ (by omega))
  replace h4 := h4.congr (hbA.block _ (by omega))
  replace h5 := h5.congr (hbA.block _ (by omega))
  replace h6 := h6.congr (hbA.block _ (by omega))
  have hseq := fun m => written1_seq m base R bc bn (w.heap.size + 4) N V HN.out.rooted HL.out A (HTR.out.far hwA) hbt
  have hOwn : ∀ k, treeP R bc bn V k ∨ k = w.heap.size + 4 → k < A.heap.size ∧ ¬ (k = w.heap.size + 1 ∨ k = w.heap.size + 1 + 1 ∨ k = w.heap.size + 1 + 1 + 1) := fun k hk => by
    rcases hk with q | q
    · have := HTR.out.blockLt k q; omega
    · omega
  clear hwr hb4 hz4 HW hbA hbt
  obtain ⟨bt, hbt⟩ : ∃ q, w.heap.size + 4 = q := ⟨_, rfl⟩
  rw [hbt] at hseq hOwn ⊢
  obtain ⟨b6, hb6⟩ : ∃ q, w.heap.size + 1 + 1 + 1 = q := ⟨_, rfl⟩
  rw [hb6] at h6 hOwn ⊢
  obtain ⟨b5, hb5⟩ : ∃ q, w.heap.size + 1 + 1 = q := ⟨_, rfl⟩
  rw [hb5] at h5 hOwn ⊢
  obtain ⟨b4, hb4⟩ : ∃ q, w.heap.size + 1 = q := ⟨_, rfl⟩
  rw [hb4] at h4 hOwn ⊢
  obtain ⟨b3, hb3⟩ : ∃ q, w.heap.size = q := ⟨_, rfl⟩
  have HBS : Veil (b3 = w.heap.size ∧ b4 = w.heap.size + 1 ∧ b5 = w.heap.size + 2 ∧ b6 = w.heap.size + 3 ∧ bt = w.heap.size + 4 ∧ w.heap.size + 4 < A.heap.size) := ⟨hb3.symm, hb4.symm, hb5.symm, hb6.symm, hbt.symm, hzA⟩
  rw [hb3] at h3
  clear hb4 hb5 hb6 hbt hzA
  try rw [hb3]
  clear hb3
  gi_wp2
  obtain ⟨I, HI⟩ : ∃ I : (Nat → Prop) → List (Int × Int) → World → Prop, Veil (∀ T pre B, I T pre B ↔ ((∀ k, T k ↔ (k = b4 ∨ k = b5 ∨ k = b6)) ∧ CellsAt B b3 3 [.int .i64 i] ∧ CellsAt B b4 26 [.int .u8 0, .int .u32 0] ∧ CellsAt B b5 33 [.int .i64 0] ∧ CellsAt B b6 3 [.int .i64 (pre.length : Nat)] ∧ (i < 0 ∨ (pre.length : Int) ≤ i) ∧ pre.length ≤ 1000)) := ⟨_, ⟨fun _ _ _ => Iff.rfl⟩⟩
  obtain ⟨Ix, HX⟩ : ∃ I : Code → (Nat → Prop) → List (Int × Int) → World → Prop, Veil (∀ c T pre B, I c T pre B ↔ (c = .ret ∧ (∀ k, T k ↔ (k = b4 ∨ k = b5 ∨ k = b6)) ∧ ∃ p0 x, pre = p0 ++ [x] ∧ i = (p0.length : Nat) ∧ CellsAt B b4 26 (encF x) ∧ CellsAt B b5 33 [.int .i64 0])) := ⟨_, ⟨fun _ _ _ _ => Iff.rfl⟩⟩
  have HLW : Veil ((walkA N rootS).length ≤ 1000) := ⟨by rw [HN.out.len]; exact HL.out⟩
  refine wpIn_rangeTl (by omega) rfl (fun _ _ => rfl) (hseq 4) (fun _ => rfl) (fun _ _ _ h _ => h) (fun _ _ _ h _ => h) (fun k => k = b4 ∨ k = b5 ∨ k = b6) (fun k hk => ⟨fun q => (hOwn k q).2 hk, by have := HBS.out; omega⟩) (fun k hk => (hOwn k hk).1)
    I Ix ?stays ?staysx ?zero ?round ?done ?stop
  case stays =>
    intro T s B C hi hs
    obtain ⟨q1, q3, q4, q5, q6, q7⟩ := (HI.out _ _ _).1 hi
    have hk : ∀ k, k < A.heap.size → C.heap[k]? = B.heap[k]? := fun k hk => hs.block k (.inr ⟨hk, id⟩)
    have := HBS.out
    exact (HI.out _ _ _).2 ⟨q1, q3.congr (hk _ (by omega)), q4.congr (hk _ (by omega)), q5.congr (hk _ (by omega)), q6.congr (hk _ (by omega)), q7⟩
  case staysx =>
    intro c T s B C hi hs
    obtain ⟨hc, q1, p0, x, q2, q3, q4, q5⟩ := (HX.out _ _ _ _).1 hi
    have hk : ∀ k, k < A.heap.size → C.heap[k]? = B.heap[k]? := fun k hk => hs.block k (.inr ⟨hk, id⟩)
    have := HBS.out
    exact (HX.out _ _ _ _).2 ⟨hc, q1, p0, x, q2, q3, q4.congr (hk _ (by omega)), q5.congr (hk _ (by omega))⟩
  case zero => exact (HI.out _ _ _).2 ⟨fun k => Iff.rfl, h3, h4, h5, h6, by simp; omega, by simp⟩
  case round =>
    intro l2 r T1 pre x B hi hok hlen hTl hT0 hlr hl2
    obtain ⟨q1, q3, q4, q5, q6, q7, q8⟩ := (HI.out _ _ _).1 hi
    have hlB : l2 < B.heap.size := (Array.getElem?_eq_some_iff.1 hlr).1
    have hbs : b3 < b4 ∧ b4 < b5 ∧ b5 < b6 ∧ b6 < A.heap.size := by have := HBS.out; omega
    obtain ⟨xa, xb⟩ := x
    have hx1 := CellsAt.new B 26 [.int .u8 xa, .int .u32 xb]
    have hb1 : Below B.heap.size B (B.alloc (.cells #[.int .u8 xa, .int .u32 xb] 26)) := (Below.refl _ _).alloc (Nat.le_refl _) _
    have hz1 : (B.alloc (.cells #[.int .u8 xa, .int .u32 xb] 26)).heap.size = B.heap.size + 1 := by simp
    clear hi hok hTl hT0 hlr
    simp only [encF, dotC]
    refine wpR_region (notOut_then notOut_false) (by kernel_rfl) ?_
    go_wp2
    refine ⟨Turn.of_below hb1, ?_⟩
    generalize B.alloc (.cells #[.int .u8 xa, .int .u32 xb] 26) = V1 at hx1 hb1 hz1 ⊢
    have hk2 : ∀ k, k < B.heap.size → k ≠ l2 → (V1.putObj l2 (.loop { r with state := .busy })).heap[k]? = B.heap[k]? := fun k hk hn => (World.putObj_heap_other hn).trans (hb1.block k hk)
    have hx2 : CellsAt (V1.putObj l2 (.loop { r with state := .busy })) B.heap.size 26 [.int .u8 xa, .int .u32 xb] := hx1.congr (World.putObj_heap_other (by omega))
    have hl3 := q3.lt
    have hl4 := q4.lt
    have hl5 := q5.lt
    have hl6 := q6.lt
    replace q3 := q3.congr (hk2 b3 hl3 (by omega))
    replace q4 := q4.congr (hk2 b4 hl4 (by omega))
    replace q5 := q5.congr (hk2 b5 hl5 (by omega))
    replace q6 := q6.congr (hk2 b6 hl6 (by omega))
    have hz2 : (V1.putObj l2 (.loop { r with state := .busy })).heap.size = B.heap.size + 1 := by simp [World.putObj, hz1]
    generalize V1.putObj l2 (.loop { r with state := .busy }) = V2 at hx2 hk2 q3 q4 q5 q6 hz2 ⊢
    have HT1 : Veil (∀ k, T1 k ↔ (k = b4 ∨ k = b5 ∨ k = b6)) := ⟨q1⟩
    have HZ : Veil (b4 < V2.heap.size ∧ b5 < V2.heap.size ∧ b6 < V2.heap.size) := ⟨by omega⟩
    clear hk2 hx1 hb1 hz1 q1 hl3 hl4 hl5 hl6 hz2
    obtain ⟨V3, hV3⟩ : ∃ V3, V3 = V2.setRow b4 #[.int .u8 xa, .int .u32 xb] := ⟨_, rfl⟩
    have r4 : CellsAt V3 b4 26 [.int .u8 xa, .int .u32 xb] := by rw [hV3]; exact q4.setRow [.int .u8 xa, .int .u32 xb]
    have r5 : CellsAt V3 b5 33 [.int .i64 0] := by rw [hV3]; exact q5.setRowM _ (by omega)
    have c3 : V2.cell? ⟨b3, 0, none⟩ = some (.int .i64 i) := q3.cell 0
    have c6 : V2.cell? ⟨b6, 0, none⟩ = some (.int .i64 (pre.length : Nat)) := q6.cell 0
    have f6 := q6.frozen 0
    have c5 : V3.cell? ⟨b5, 0, none⟩ = some (.int .i64 0) := r5.cell 0
    have f5 := r5.frozen 0
    have hr2 := hx2.wholeM
    have uD := Try.underlying26
    have iX : (Try.prog.info? 26).map (·.size) = some [Value.int .u8 xa, Value.int .u32 xb].length := sizeDot
    have hx1 : ∀ v ∈ [Value.int .u8 xa, Value.int .u32 xb], v.oneCell' = true := encF_one (xa, xb)
    have HV3 := Veil.mk hV3
    have HR : Veil (CellsAt (V3.setCell ⟨b5, 0, none⟩ (.int .i64 0)) b4 26 [.int .u8 xa, .int .u32 xb] ∧ CellsAt (V3.setCell ⟨b5, 0, none⟩ (.int .i64 0)) b5 33 [.int .i64 0]) := ⟨r4.congr (Below.heap_setCell _ ⟨b5, 0, none⟩ _ b4 (by show b4 ≠ b5; omega)), r5.set 0 _⟩
    have HM3 : Veil (MovesT T1 V2 T1 (V3.setCell ⟨b5, 0, none⟩ (.int .i64 0))) := ⟨⟨by rw [hV3]; rfl, by rw [hV3]; rfl, by rw [hV3]; rfl, by rw [hV3]; simp [World.setRow, World.putObj, World.setCell], fun k hk hn => by
      rw [Below.heap_setCell V3 ⟨b5, 0, none⟩ _ k (fun e => hn ((HT1.out k).2 (.inr (.inl e)))), hV3, setRow_other _ _ _ _ (fun e => hn ((HT1.out k).2 (.inl e)))]⟩, fun k hk => ⟨.inl hk, by
      have h2 : (V3.setCell ⟨b5, 0, none⟩ (.int .i64 0)).heap.size = V2.heap.size := by rw [hV3]; simp [World.setRow, World.putObj, World.setCell]
      rw [h2]
      rcases (HT1.out k).1 hk with q | q | q
      · rw [q]; exact HZ.out.1
      · rw [q]; exact HZ.out.2.1
      · rw [q]; exact HZ.out.2.2⟩⟩
    have HM6 : Veil (∀ v, MovesT T1 V2 T1 (V2.setCell ⟨b6, 0, none⟩ v)) := ⟨fun v => ⟨Turn.of_setCell V2 (a := ⟨b6, 0, none⟩) ((HT1.out b6).2 (.inr (.inr rfl))) v, fun k hk => ⟨.inl hk, by
      rw [show (V2.setCell ⟨b6, 0, none⟩ v).heap.size = V2.heap.size by simp [World.setCell]]
      rcases (HT1.out k).1 hk with q | q | q
      · rw [q]; exact HZ.out.1
      · rw [q]; exact HZ.out.2.1
      · rw [q]; exact HZ.out.2.2⟩⟩⟩
    have HI6 : Veil ((i < 0 ∨ (pre.length : Int) + 1 ≤ i) → pre.length < 1000 → I T1 (pre ++ [(xa, xb)]) (V2.setCell ⟨b6, 0, none⟩ (.int .i64 ((pre.length : Int) + 1)))) := ⟨fun h1 h2 => (HI.out _ _ _).2 ⟨HT1.out, q3.congr (Below.heap_setCell _ ⟨b6, 0, none⟩ _ b3 (by show b3 ≠ b6; omega)), q4.congr (Below.heap_setCell _ ⟨b6, 0, none⟩ _ b4 (by show b4 ≠ b6; omega)), q5.congr (Below.heap_setCell _ ⟨b6, 0, none⟩ _ b5 (by show b5 ≠ b6; omega)), by
      have := q6.set 0 (.int .i64 ((pre.length : Int) + 1))
      rw [List.length_append, List.length_singleton]
      push_cast
      exact this, by rw [List.length_append, List.length_singleton]; push_cast; exact h1, by rw [List.length_append, List.length_singleton]; omega⟩⟩
    have hln : pre.length < 1000 := by have := HLW.out; omega
    have HQ4 := Veil.mk q4
    have HX2 := Veil.mk hx2
    clear q3 q4 q5 q6 r4 r5 hV3 hx2 hbs hlB hl2
    by_cases hfd : (pre.length : Int) = i
    · have hbe : ((pre.length : Int) == i) = true := by simpa using hfd
      have HQ : Veil (Ix .ret T1 (pre ++ [(xa, xb)]) (V3.setCell ⟨b5, 0, none⟩ (.int .i64 0))) := ⟨(HX.out _ _ _ _).2 ⟨rfl, HT1.out, pre, (xa, xb), rfl, hfd.symm, HR.out⟩⟩
      clear hfd HI6 HM6 q7 hlen
      gi_wp2_with (first
        | (refine wpLRF_ldgv (by kernel_rfl) 26 (.tmp 7) rfl B.heap.size 0 rfl [.int .u8 xa, .int .u32 xb] hr2 uD rfl iX ?_)
        | (refine wpLRF_stv rfl 26 (.tmp 4) _ rfl b4 rfl (cs := [.int .u8 xa, .int .u32 xb]) rfl HQ4.out iX rfl hx1 ?_; rw [← HV3.out])
        | gi_in)
      exact ⟨T1, HQ.out, HM3.out⟩
    · have hbe : ((pre.length : Int) == i) = false := by simpa using hfd
      have hww : IntKind.i64.wrap ((pre.length : Int) + 1) = (pre.length : Int) + 1 := by rw [IntKind.wrap_i64]; omega
      have HQ := Veil.mk (HI6.out (by omega) hln)
      clear hfd HI6 q7 hlen hln q8
      gi_wp2
      exact ⟨T1, HQ.out, HM6.out _⟩
  case done =>
    intro D xs T' B hD hP hi hdef ht hTD
    obtain ⟨-, -, q4, q5, -, q7, -⟩ := (HI.out _ _ _).1 hi
    have hbs : b3 < b4 ∧ b4 < b5 ∧ b5 < b6 ∧ b6 < A.heap.size := by have := HBS.out; omega
    have HAT : Veil (atD (atN N i) = (0, 0) ∧ atE (atN N i) = 2) := by
      have : atN N i = none := by
        unfold atN
        split
        · rfl
        · rw [List.getElem?_eq_none_iff, ← hP]; omega
      rw [this]; exact ⟨rfl, rfl⟩
    obtain ⟨V3, hV3⟩ : ∃ V3, V3 = B.setRow b4 #[.int .u8 0, .int .u32 0] := ⟨_, rfl⟩
    have r4 : CellsAt V3 b4 26 [.int .u8 0, .int .u32 0] := by rw [hV3]; exact q4.setRow [.int .u8 0, .int .u32 0]
    have r5 : CellsAt V3 b5 33 [.int .i64 0] := by rw [hV3]; exact q5.setRowM _ (by omega)
    have c5 : V3.cell? ⟨b5, 0, none⟩ = some (.int .i64 0) := r5.cell 0
    have f5 := r5.frozen 0
    have s4 : CellsAt (V3.setCell ⟨b5, 0, none⟩ (.int .i64 2)) b4 26 [.int .u8 0, .int .u32 0] := r4.congr (Below.heap_setCell _ ⟨b5, 0, none⟩ _ b4 (by show b4 ≠ b5; omega))
    have s5 : CellsAt (V3.setCell ⟨b5, 0, none⟩ (.int .i64 2)) b5 33 [.int .i64 2] := r5.set 0 _
    have hdef2 : (V3.setCell ⟨b5, 0, none⟩ (.int .i64 2)).heap[D]? = some (.deferred (some [])) := by
      rw [Below.heap_setCell V3 ⟨b5, 0, none⟩ _ D (by show D ≠ b5; omega), hV3, setRow_other _ _ _ _ (by omega)]; exact hdef
    have HEND : Veil (CellsAt ((V3.setCell ⟨b5, 0, none⟩ (.int .i64 2)).putObj D (.deferred none)) b4 26 [.int .u8 0, .int .u32 0] ∧ CellsAt ((V3.setCell ⟨b5, 0, none⟩ (.int .i64 2)).putObj D (.deferred none)) b5 33 [.int .i64 2] ∧ Below w.heap.size w ((V3.setCell ⟨b5, 0, none⟩ (.int .i64 2)).putObj D (.deferred none))) := ⟨s4.congr (World.putObj_heap_other (by omega)), s5.congr (World.putObj_heap_other (by omega)), by
      have hb := HBS.out
      refine ⟨(by rw [hV3]; exact ht.os.trans hwA.os), (by rw [hV3]; exact ht.tape.trans hwA.tape), (by rw [hV3]; exact ht.output.trans hwA.output), ?_, fun k hk => ?_⟩
      · have h1 := ht.size
        rw [hV3]; simp [World.setRow, World.putObj, World.setCell]; omega
      · rw [World.putObj_heap_other (by omega), Below.heap_setCell V3 ⟨b5, 0, none⟩ _ k (by show k ≠ b5; omega), hV3, setRow_other _ _ _ _ (by omega), ht.block k (by omega) (fun q => by rcases q with (q | q | q) | q; omega; omega; omega; exact q)]
        exact hwA.block k hk⟩
    have iX : (Try.prog.info? 26).map (·.size) = some [Value.int .u8 0, Value.int .u32 0].length := sizeDot
    have hx1 : ∀ v ∈ [Value.int .u8 0, Value.int .u32 0], v.oneCell' = true := encF_one (0, 0)
    have HV3 := Veil.mk hV3
    have HQ4 := Veil.mk q4
    have HD2 := Veil.mk hdef2
    clear q4 q5 r4 r5 s4 s5 hdef hdef2 hV3 hi hP ht hTD q7 hbs hseq hOwn h3 h4 h5 h6
    gi_wp2_with (first
      | (refine wpLF_stv rfl 26 (.tmp 4) _ rfl b4 rfl (cs := [.int .u8 0, .int .u32 0]) rfl HQ4.out iX rfl hx1 ?_; rw [← HV3.out])
      | gi_in)
    refine ⟨by simp, .inl ⟨_, _, rfl, run_takeDeferred HD2.out, ?_⟩⟩
    exact ⟨_, results_c2 (p := 4) (q := 5) rfl _ rfl rfl HEND.out.1 HEND.out.2.1 Try.underlying26 rfl iX Try.isAgg33, by rw [HAT.out.1, HAT.out.2]; rfl, HEND.out.2.2⟩
  case stop =>
    intro D c xs T' B hD hP hi hdef ht hTD
    obtain ⟨rfl, -, p0, x, hxs, hii, q4, q5⟩ := (HX.out _ _ _ _).1 hi
    have hbs : b3 < b4 ∧ b4 < b5 ∧ b5 < b6 ∧ b6 < A.heap.size := by have := HBS.out; omega
    have HAT : Veil (atD (atN N i) = x ∧ atE (atN N i) = 0) := by
      have : atN N i = some x := by
        unfold atN
        rw [if_neg (by omega), hii, Int.toNat_natCast]
        obtain ⟨t, ht⟩ := hP
        rw [← ht, hxs, List.append_assoc, List.getElem?_append_right (Nat.le_refl _)]
        simp
      rw [this]; exact ⟨rfl, rfl⟩
    have HEND : Veil (CellsAt (B.putObj D (.deferred none)) b4 26 (encF x) ∧ CellsAt (B.putObj D (.deferred none)) b5 33 [.int .i64 0] ∧ Below w.heap.size w (B.putObj D (.deferred none))) := ⟨q4.congr (World.putObj_heap_other (by omega)), q5.congr (World.putObj_heap_other (by omega)), by
      have hb := HBS.out
      refine ⟨ht.os.trans hwA.os, ht.tape.trans hwA.tape, ht.output.trans hwA.output, ?_, fun k hk => ?_⟩
      · have h1 := ht.size
        simp [World.putObj]; omega
      · rw [World.putObj_heap_other (by omega), ht.block k (by omega) (fun q => by rcases q with (q | q | q) | q; omega; omega; omega; exact q)]
        exact hwA.block k hk⟩
    have iX : (Try.prog.info? 26).map (·.size) = some (encF x).length := sizeDot
    clear q4 q5 hi hP ht hTD hbs hseq hOwn h3 h4 h5 h6 hxs hii
    gi_wp2
    refine ⟨by simp, .inl ⟨_, _, rfl, run_takeDeferred hdef, ?_⟩⟩
    exact ⟨_, results_c2 (p := 4) (q := 5) rfl _ rfl rfl HEND.out.1 HEND.out.2.1 Try.underlying26 rfl iX Try.isAgg33, by rw [HAT.out.1, HAT.out.2], HEND.out.2.2⟩
end Go.Proofs.Ytgmbmdmbnpkbbaa

namespace Go.Proofs.Ytgmbmdmbnpkbbaa
open Go.RowKit Go.Shelf
attribute [local go_sem] Oper.semAt_some
set_option maxRecDepth 20000
set_option linter.unusedSimpArgs false
set_option maxHeartbeats 8000000 in
theorem firstT_any (base R bc bn : Nat) (N : List Nd) (V : (Int × Int) × Bool → Value) (hN : TreeOk N) (hlen : N.length ≤ 1000) (s : (Int × Int) × Bool) (hs : okS s) (w : World) (hTr : TreeAt w base R bc bn N V) :
    Calls Try.prog 44 #[.pointer (some ⟨R, 0, none⟩), .agg (sideC s).toArray] w fun e w' => e = .returned (.tuple #[.agg (encF (atD (walkA N s).head?)).toArray, .bool (walkA N s).head?.isSome]) ∧ Below w.heap.size w w' := by
  obtain ⟨W4, hW4⟩ : ∃ W4, W4 = ((w.alloc (.cells (sideC s).toArray 95)).alloc (.cells #[.int .u8 0, .int .u32 0] 26)).alloc (.cells #[.bool false] 4) := ⟨_, rfl⟩
  have hb4 : Below w.heap.size w W4 := by rw [hW4]; exact (((Below.refl _ _).alloc (Nat.le_refl _) _).alloc (by simp) _).alloc (by simp; omega) _
  have hz4 : W4.heap.size = w.heap.size + 3 := by rw [hW4]; simp
  have h3 : CellsAt W4 w.heap.size 95 (sideC s) := by rw [hW4]; exact ((CellsAt.new w 95 (sideC s)).alloc _).alloc _
  have h4 : CellsAt W4 (w.heap.size + 1) 26 [.int .u8 0, .int .u32 0] := by
    rw [hW4]
    have := (CellsAt.new (w.alloc (.cells (sideC s).toArray 95)) 26 [.int .u8 0, .int .u32 0]).alloc (.cells #[.bool false] 4)
    rw [World.size_alloc] at this; exact this
  have h5 : CellsAt W4 (w.heap.size + 1 + 1) 4 [.bool false] := by
    rw [hW4]
    have := CellsAt.new ((w.alloc (.cells (sideC s).toArray 95)).alloc (.cells #[.int .u8 0, .int .u32 0] 26)) 4 [.bool false]
    rw [World.size_alloc, World.size_alloc] at this; exact this
  have hat := atT_any R s W4
  rw [hz4] at hat
  have hr3 := h3.wholeM
  have uS := Try.underlying95
  have iS : (Try.prog.info? 95).map (·.size) = some (sideC s).length := by rw [sideC_len]; kernel_rfl
  have HSQ : Veil (∀ A B1 B2, Below w.heap.size w A → CellsAt A B1 58 [.pointer (some ⟨R, 0, none⟩)] → CellsAt A B2 95 (sideC s) → ∀ m, SeqT m Try.prog 64 #[.pointer (some ⟨B1, 0, none⟩), .pointer (some ⟨B2, 0, none⟩)] (fun x : Int × Int => #[.agg (encF x).toArray]) (fun k => treeP R bc bn V k ∨ k = B1 ∨ k = B2) (fun _ => False) (fun xs _ => xs = walkA N s) (fun xs _ => xs <+: walkA N s) okDF (walkA N s).length A) := ⟨fun A B1 B2 hb h1 h2 m => at1_seq m base R bc bn B1 B2 N V hN.rooted hlen s hs A (hTr.far hb) h1 h2⟩
  have HTL : Veil (∀ k, treeP R bc bn V k → k < w.heap.size) := ⟨fun k hk => hTr.blockLt k hk⟩
  obtain ⟨ES, hES⟩ : ∃ q, sideC s = q := ⟨_, rfl⟩
  rw [hES] at hW4 h3 hr3 iS hat HSQ ⊢
  have HW := Veil.mk hW4
  clear hW4 hTr hN hlen hES h3
  refine (callsIn_wide (n := 9)).1 ?_
  refine callsIn_of_wp_marks Try.func44 rfl trivial ?_ rfl
  simp only [Try.ntmps44, List.size_toArray, List.length_cons, List.length_nil, Nat.reduceAdd, Nat.reduceSub, Array.replicate_succ, Array.replicate_zero, List.push_toArray, List.append_toArray, List.nil_append, List.cons_append]
  gi_wp2_with (first
    | (rw [← HW.out]; refine wpLF_ldgv (by kernel_rfl) 95 (.tmp 3) rfl w.heap.size 0 rfl ES hr3 uS rfl iS ?_)
    | gi_in)
  refine ⟨trivial, (callsIn_wide.2 hat).mono ?_⟩
  rintro e A ⟨rfl, hc1, hc2, hbA⟩
  have hwA : Below w.heap.size w A := hb4.trans (hbA.mono (by omega))
  have hzA : w.heap.size + 3 + 1 < A.heap.size := hc2.lt
  replace h4 := h4.congr (hbA.block _ (by omega))
  replace h5 := h5.congr (hbA.block _ (by omega))
  have hseq := HSQ.out A _ _ hwA hc1 hc2
  have hOwn : ∀ k, treeP R bc bn V k ∨ k = w.heap.size + 3 ∨ k = w.heap.size + 3 + 1 → k < A.heap.size ∧ ¬ (k = w.heap.size + 1 ∨ k = w.heap.size + 1 + 1) := fun k hk => by
    rcases hk with q | q | q
    · have := HTL.out k q; omega
    · omega
    · omega
  clear hat hb4 hz4 HW hbA hc1 hc2 hr3 HSQ
  obtain ⟨bu, hbu⟩ : ∃ q, w.heap.size + 3 + 1 = q := ⟨_, rfl⟩
  rw [hbu] at hseq hOwn ⊢
  obtain ⟨bt, hbt⟩ : ∃ q, w.heap.size + 3 = q := ⟨_, rfl⟩
  rw [hbt] at hseq hOwn ⊢
  obtain ⟨b5, hb5⟩ : ∃ q, w.heap.size + 1 + 1 = q := ⟨_, rfl⟩
  rw [hb5] at h5 hOwn ⊢
  obtain ⟨b4, hb4⟩ : ∃ q, w.heap.size + 1 = q := ⟨_, rfl⟩
  rw [hb4] at h4 hOwn ⊢
  have HBS : Veil (w.heap.size < b4 ∧ b4 < b5 ∧ b5 < A.heap.size) := ⟨by omega⟩
  clear hb4 hb5 hbt hbu hzA
  gi_wp2
  obtain ⟨I, HI⟩ : ∃ I : (Nat → Prop) → List (Int × Int) → World → Prop, Veil (∀ T pre B, I T pre B ↔ ((∀ k, T k ↔ (k = b4 ∨ k = b5)) ∧ CellsAt B b4 26 [.int .u8 0, .int .u32 0] ∧ CellsAt B b5 4 [.bool false] ∧ pre = [])) := ⟨_, ⟨fun _ _ _ => Iff.rfl⟩⟩
  obtain ⟨Ix, HX⟩ : ∃ I : Code → (Nat → Prop) → List (Int × Int) → World → Prop, Veil (∀ c T pre B, I c T pre B ↔ (c = .ret ∧ (∀ k, T k ↔ (k = b4 ∨ k = b5)) ∧ ∃ x, pre = [x] ∧ CellsAt B b4 26 (encF x) ∧ CellsAt B b5 4 [.bool true])) := ⟨_, ⟨fun _ _ _ _ => Iff.rfl⟩⟩
  refine wpIn_rangeTl (by omega) rfl (fun _ _ => rfl) (hseq _) (fun _ => rfl) (fun _ _ _ h _ => h) (fun _ _ _ h _ => h) (fun k => k = b4 ∨ k = b5) (fun k hk => ⟨fun q => (hOwn k q).2 hk, by have := HBS.out; omega⟩) (fun k hk => (hOwn k hk).1)
    I Ix ?stays ?staysx ?zero ?round ?done ?stop
  case stays =>
    intro T s B C hi hs
    obtain ⟨q1, q4, q5, q7⟩ := (HI.out _ _ _).1 hi
    have hk : ∀ k, k < A.heap.size → C.heap[k]? = B.heap[k]? := fun k hk => hs.block k (.inr ⟨hk, id⟩)
    have := HBS.out
    exact (HI.out _ _ _).2 ⟨q1, q4.congr (hk _ (by omega)), q5.congr (hk _ (by omega)), q7⟩
  case staysx =>
    intro c T s B C hi hs
    obtain ⟨hc, q1, x, q2, q4, q5⟩ := (HX.out _ _ _ _).1 hi
    have hk : ∀ k, k < A.heap.size → C.heap[k]? = B.heap[k]? := fun k hk => hs.block k (.inr ⟨hk, id⟩)
    have := HBS.out
    exact (HX.out _ _ _ _).2 ⟨hc, q1, x, q2, q4.congr (hk _ (by omega)), q5.congr (hk _ (by omega))⟩
  case zero => exact (HI.out _ _ _).2 ⟨fun k => Iff.rfl, h4, h5, rfl⟩
  case round =>
    intro l2 r T1 pre x B hi hok hlen hTl hT0 hlr hl2
    obtain ⟨q1, q4, q5, q7⟩ := (HI.out _ _ _).1 hi
    have hlB : l2 < B.heap.size := (Array.getElem?_eq_some_iff.1 hlr).1
    have hbs := HBS.out
    obtain ⟨xa, xb⟩ := x
    have hx1 := CellsAt.new B 26 [.int .u8 xa, .int .u32 xb]
    have hb1 : Below B.heap.size B (B.alloc (.cells #[.int .u8 xa, .int .u32 xb] 26)) := (Below.refl _ _).alloc (Nat.le_refl _) _
    have hz1 : (B.alloc (.cells #[.int .u8 xa, .int .u32 xb] 26)).heap.size = B.heap.size + 1 := by simp
    clear hi hok hTl hT0 hlr
    simp only [encF, dotC]
    refine wpR_region (notOut_then notOut_false) (by kernel_rfl) ?_
    go_wp2
    refine ⟨Turn.of_below hb1, ?_⟩
    generalize B.alloc (.cells #[.int .u8 xa, .int .u32 xb] 26) = V1 at hx1 hb1 hz1 ⊢
    have hk2 : ∀ k, k < B.heap.size → k ≠ l2 → (V1.putObj l2 (.loop { r with state := .busy })).heap[k]? = B.heap[k]? := fun k hk hn => (World.putObj_heap_other hn).trans (hb1.block k hk)
    have hx2 : CellsAt (V1.putObj l2 (.loop { r with state := .busy })) B.heap.size 26 [.int .u8 xa, .int .u32 xb] := hx1.congr (World.putObj_heap_other (by omega))
    have hl4 := q4.lt
    have hl5 := q5.lt
    replace q4 := q4.congr (hk2 b4 hl4 (by omega))
    replace q5 := q5.congr (hk2 b5 hl5 (by omega))
    have hz2 : (V1.putObj l2 (.loop { r with state := .busy })).heap.size = B.heap.size + 1 := by simp [World.putObj, hz1]
    generalize V1.putObj l2 (.loop { r with state := .busy }) = V2 at hx2 hk2 q4 q5 hz2 ⊢
    have HT1 : Veil (∀ k, T1 k ↔ (k = b4 ∨ k = b5)) := ⟨q1⟩
    have HZ : Veil (b4 < V2.heap.size ∧ b5 < V2.heap.size) := ⟨by omega⟩
    clear hk2 hx1 hb1 hz1 q1 hl4 hl5 hz2
    obtain ⟨V3, hV3⟩ : ∃ V3, V3 = V2.setRow b4 #[.int .u8 xa, .int .u32 xb] := ⟨_, rfl⟩
    have r4 : CellsAt V3 b4 26 [.int .u8 xa, .int .u32 xb] := by rw [hV3]; exact q4.setRow [.int .u8 xa, .int .u32 xb]
    have r5 : CellsAt V3 b5 4 [.bool false] := by rw [hV3]; exact q5.setRowM _ (by omega)
    have c5 : V3.cell? ⟨b5, 0, none⟩ = some (.bool false) := r5.cell 0
    have f5 := r5.frozen 0
    have hr2 := hx2.wholeM
    have uD := Try.underlying26
    have iX : (Try.prog.info? 26).map (·.size) = some [Value.int .u8 xa, Value.int .u32 xb].length := sizeDot
    have hx1 : ∀ v ∈ [Value.int .u8 xa, Value.int .u32 xb], v.oneCell' = true := encF_one (xa, xb)
    have HV3 := Veil.mk hV3
    have HM3 : Veil (MovesT T1 V2 T1 (V3.setCell ⟨b5, 0, none⟩ (.bool true))) := ⟨⟨by rw [hV3]; rfl, by rw [hV3]; rfl, by rw [hV3]; rfl, by rw [hV3]; simp [World.setRow, World.putObj, World.setCell], fun k hk hn => by
      rw [Below.heap_setCell V3 ⟨b5, 0, none⟩ _ k (fun e => hn ((HT1.out k).2 (.inr e))), hV3, setRow_other _ _ _ _ (fun e => hn ((HT1.out k).2 (.inl e)))]⟩, fun k hk => ⟨.inl hk, by
      have h2 : (V3.setCell ⟨b5, 0, none⟩ (.bool true)).heap.size = V2.heap.size := by rw [hV3]; simp [World.setRow, World.putObj, World.setCell]
      rw [h2]
      rcases (HT1.out k).1 hk with q | q
      · rw [q]; exact HZ.out.1
      · rw [q]; exact HZ.out.2⟩⟩
    have HQ : Veil (Ix .ret T1 (pre ++ [(xa, xb)]) (V3.setCell ⟨b5, 0, none⟩ (.bool true))) := ⟨(HX.out _ _ _ _).2 ⟨rfl, HT1.out, (xa, xb), by rw [q7]; rfl, r4.congr (Below.heap_setCell _ ⟨b5, 0, none⟩ _ b4 (by show b4 ≠ b5; omega)), r5.set 0 _⟩⟩
    have HQ4 := Veil.mk q4
    clear q4 q5 r4 r5 hV3 hx2 hbs hlB hl2 q7 hlen
    gi_wp2_with (first
      | (refine wpLRF_ldgv (by kernel_rfl) 26 (.tmp 6) rfl B.heap.size 0 rfl [.int .u8 xa, .int .u32 xb] hr2 uD rfl iX ?_)
      | (refine wpLRF_stv rfl 26 (.tmp 4) _ rfl b4 rfl (cs := [.int .u8 xa, .int .u32 xb]) rfl HQ4.out iX rfl hx1 ?_; rw [← HV3.out])
      | gi_in)
    exact ⟨T1, HQ.out, HM3.out⟩
  case done =>
    intro D xs T' B hD hP hi hdef ht hTD
    obtain ⟨-, q4, q5, q7⟩ := (HI.out _ _ _).1 hi
    have hbs := HBS.out
    have HAT : Veil ((walkA N s).head? = none) := ⟨by rw [← hP, q7]; rfl⟩
    obtain ⟨V3, hV3⟩ : ∃ V3, V3 = B.setRow b4 #[.int .u8 0, .int .u32 0] := ⟨_, rfl⟩
    have r4 : CellsAt V3 b4 26 [.int .u8 0, .int .u32 0] := by rw [hV3]; exact q4.setRow [.int .u8 0, .int .u32 0]
    have r5 : CellsAt V3 b5 4 [.bool false] := by rw [hV3]; exact q5.setRowM _ (by omega)
    have c5 : V3.cell? ⟨b5, 0, none⟩ = some (.bool false) := r5.cell 0
    have f5 := r5.frozen 0
    have s4 : CellsAt (V3.setCell ⟨b5, 0, none⟩ (.bool false)) b4 26 [.int .u8 0, .int .u32 0] := r4.congr (Below.heap_setCell _ ⟨b5, 0, none⟩ _ b4 (by show b4 ≠ b5; omega))
    have s5 : CellsAt (V3.setCell ⟨b5, 0, none⟩ (.bool false)) b5 4 [.bool false] := r5.set 0 _
    have hdef2 : (V3.setCell ⟨b5, 0, none⟩ (.bool false)).heap[D]? = some (.deferred (some [])) := by
      rw [Below.heap_setCell V3 ⟨b5, 0, none⟩ _ D (by show D ≠ b5; omega), hV3, setRow_other _ _ _ _ (by omega)]; exact hdef
    have HEND : Veil (CellsAt ((V3.setCell ⟨b5, 0, none⟩ (.bool false)).putObj D (.deferred none)) b4 26 [.int .u8 0, .int .u32 0] ∧ CellsAt ((V3.setCell ⟨b5, 0, none⟩ (.bool false)).putObj D (.deferred none)) b5 4 [.bool false] ∧ Below w.heap.size w ((V3.setCell ⟨b5, 0, none⟩ (.bool false)).putObj D (.deferred none))) := ⟨s4.congr (World.putObj_heap_other (by omega)), s5.congr (World.putObj_heap_other (by omega)), by
      have hwz := hwA.size
      refine ⟨(by rw [hV3]; exact ht.os.trans hwA.os), (by rw [hV3]; exact ht.tape.trans hwA.tape), (by rw [hV3]; exact ht.output.trans hwA.output), ?_, fun k hk => ?_⟩
      · have h1 := ht.size
        rw [hV3]; simp [World.setRow, World.putObj, World.setCell]; omega
      · rw [World.putObj_heap_other (by omega), Below.heap_setCell V3 ⟨b5, 0, none⟩ _ k (by show k ≠ b5; omega), hV3, setRow_other _ _ _ _ (by omega), ht.block k (by omega) (fun q => by rcases q with (q | q) | q; omega; omega; exact q)]
        exact hwA.block k hk⟩
    have iX : (Try.prog.info? 26).map (·.size) = some [Value.int .u8 0, Value.int .u32 0].length := sizeDot
    have hx1 : ∀ v ∈ [Value.int .u8 0, Value.int .u32 0], v.oneCell' = true := encF_one (0, 0)
    have HV3 := Veil.mk hV3
    have HQ4 := Veil.mk q4
    have HD2 := Veil.mk hdef2
    clear q4 q5 r4 r5 s4 s5 hdef hdef2 hV3 hi hP ht hTD q7 hbs hseq hOwn h4 h5
    gi_wp2_with (first
      | (refine wpLF_stv rfl 26 (.tmp 4) _ rfl b4 rfl (cs := [.int .u8 0, .int .u32 0]) rfl HQ4.out iX rfl hx1 ?_; rw [← HV3.out])
      | gi_in)
    refine ⟨by simp, .inl ⟨_, _, rfl, run_takeDeferred HD2.out, ?_⟩⟩
    exact ⟨_, results_c2 (p := 4) (q := 5) rfl _ rfl rfl HEND.out.1 HEND.out.2.1 Try.underlying26 rfl iX Try.isAgg4, by rw [HAT.out]; rfl, HEND.out.2.2⟩
  case stop =>
    intro D c xs T' B hD hP hi hdef ht hTD
    obtain ⟨rfl, -, x, hxs, q4, q5⟩ := (HX.out _ _ _ _).1 hi
    have hbs := HBS.out
    have HAT : Veil ((walkA N s).head? = some x) := ⟨by
      obtain ⟨t, ht⟩ := hP
      rw [← ht, hxs]; rfl⟩
    have HEND : Veil (CellsAt (B.putObj D (.deferred none)) b4 26 (encF x) ∧ CellsAt (B.putObj D (.deferred none)) b5 4 [.bool true] ∧ Below w.heap.size w (B.putObj D (.deferred none))) := ⟨q4.congr (World.putObj_heap_other (by omega)), q5.congr (World.putObj_heap_other (by omega)), by
      have hwz := hwA.size
      refine ⟨ht.os.trans hwA.os, ht.tape.trans hwA.tape, ht.output.trans hwA.output, ?_, fun k hk => ?_⟩
      · have h1 := ht.size
        simp [World.putObj]; omega
      · rw [World.putObj_heap_other (by omega), ht.block k (by omega) (fun q => by rcases q with (q | q) | q; omega; omega; exact q)]
        exact hwA.block k hk⟩
    have iX : (Try.prog.info? 26).map (·.size) = some (encF x).length := sizeDot
    clear q4 q5 hi hP ht hTD hbs hseq hOwn h4 h5 hxs
    gi_wp2
    refine ⟨by simp, .inl ⟨_, _, rfl, run_takeDeferred hdef, ?_⟩⟩
    exact ⟨_, results_c2 (p := 4) (q := 5) rfl _ rfl rfl HEND.out.1 HEND.out.2.1 Try.underlying26 rfl iX Try.isAgg4, by rw [HAT.out]; rfl, HEND.out.2.2⟩
end Go.Proofs.Ytgmbmdmbnpkbbaa
