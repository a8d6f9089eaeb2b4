/- Fg19 -/
import Derived.Test.YtnmjplngbleopaaF22
namespace Go.Proofs.Ytnmjplngbleopaa
open Go.RowKit Go.Shelf
attribute [local go_sem] Oper.semAt_some
set_option maxRecDepth 20000
set_option linter.unusedSimpArgs false
def writB (N : List Nd) (x : Int × Int) : Bool := decide (chr0 N x ≠ 0)
def wrN (N : List Nd) : List (Int × Int) := (walkA N rootS).filter (writB N)
theorem filter_snoc {α : Type} (p : α → Bool) (pre : List α) (x : α) : (pre ++ [x]).filter p = pre.filter p ++ (if p x = true then [x] else []) := by
  rw [List.filter_append]; congr 1
  by_cases h : p x = true
  · rw [List.filter_cons_of_pos h, if_pos h]; rfl
  · rw [List.filter_cons_of_neg h, if_neg h]; rfl
theorem writtenT_any (R : Nat) (w : World) : Calls Try.prog 15 #[.pointer (some ⟨R, 0, none⟩)] w fun e w' => e = .returned (.func (.func 26) #[] #[.pointer (some ⟨w.heap.size, 0, none⟩)]) ∧ CellsAt w' w.heap.size 24 [.pointer (some ⟨R, 0, none⟩)] ∧ Below w.heap.size w w' := by
  have h1 := CellsAt.new w 24 [.pointer (some ⟨R, 0, none⟩)]
  have hB : Below w.heap.size w (w.alloc (.cells #[.pointer (some ⟨R, 0, none⟩)] 24)) := (Below.refl _ _).alloc (Nat.le_refl _) _
  have HV := Veil.mk (And.intro h1 hB)
  clear h1 hB
  go_enter Try.func15, Try.ntmps15
  go_wp2
  go_ret
  exact ⟨rfl, HV.out.1, HV.out.2⟩
theorem yieldAt_deep {n m l : Nat} {P : Program} {args : Array Value} {w : World} {R : Ending → World → Prop} (h : YieldAt Fence.wide m P l args w R) : YieldAt Fence.wide n P l args w R := by
  obtain ⟨fn, tmps, c1, c2, hy, hR⟩ := h
  exact ⟨fn, tmps, c1, c2, hy, roundIn_deep hR⟩
set_option maxHeartbeats 8000000 in
theorem written1_seq (n base R bc bn Bt : Nat) (N : List Nd) (V : (Int × Int) × Bool → Value) (hN : Rooted N) (hlen : N.length ≤ 1000) (w : World) (hTr : TreeAt w base R bc bn N V) (hbt : CellsAt w Bt 24 [.pointer (some ⟨R, 0, none⟩)]) :
    SeqT (n + 4) Try.prog 26 #[.pointer (some ⟨Bt, 0, none⟩)] (fun x : Int × Int => #[.agg (encF x).toArray]) (fun k => treeP R bc bn V k ∨ k = Bt) (fun _ => False) (fun xs _ => xs = wrN N) (fun xs _ => xs <+: wrN N) okDF (walkA N rootS).length w := by
  intro l T J Jx W hWW hT hJ hJx hY h0
  have hTW := hTr.far hWW
  have hbW := hbt.congr (hWW.block _ hbt.lt)
  have hOn : ∀ k, treeP R bc bn V k ∨ k = Bt → k < W.heap.size ∧ ¬ T k := fun k hk => ⟨by
    rcases hk with q | rfl
    · exact hTW.blockLt k q
    · exact hbW.lt, fun q => (hT k q).1 hk⟩
  have HTW := Veil.mk hTW
  have HBW := Veil.mk hbW
  have HON := Veil.mk hOn
  have HT := Veil.mk hT
  have HJ := Veil.mk hJ
  have HJx := Veil.mk hJx
  have HY := Veil.mk hY
  have H0 := Veil.mk h0
  have HRT := Veil.mk hN
  have HLE := Veil.mk hlen
  clear hTr hbt hWW hT hJ hJx hY h0 hTW hbW hOn hN hlen
  refine callsIn_of_wp_marks Try.func26 rfl trivial ?_ rfl
  simp only [Try.ntmps26, List.size_toArray, List.length_cons, List.length_nil, Nat.reduceAdd, Nat.reduceSub, Array.replicate_succ, Array.replicate_zero, List.push_toArray, List.append_toArray, List.nil_append, List.cons_append]
  gi_wp2
  have hB2 : Below W.heap.size W (W.alloc (.cells #[.func (.yield l) #[] #[]] 64)) := (Below.refl _ _).alloc (Nat.le_refl _) _
  have hy2 : CellsAt (W.alloc (.cells #[.func (.yield l) #[] #[]] 64)) W.heap.size 64 [.func (.yield l) #[] #[]] := CellsAt.new W 64 [.func (.yield l) #[] #[]]
  refine wpIn_thenN (wpIn_wide.2 ?_)
  refine forget (p := fun y => Code.wp _ _ _ _ y) (fun W1 => Below W.heap.size W W1 ∧ CellsAt W1 W.heap.size 64 [.func (.yield l) #[] #[]]) ⟨hB2, hy2⟩ ?_
  clear hB2 hy2
  rintro W1 ⟨hB1, hy1⟩
  refine wp_region_gateT (fun w' => w'.cell? ⟨Bt, 0, none⟩ = some (.pointer (some ⟨R, 0, none⟩))) (fun _ => True) 99 (by kernel_rfl) ?_
  have HC : ∀ W', Below W.heap.size W W' → (fun w' : World => w'.cell? ⟨Bt, 0, none⟩ = some (.pointer (some ⟨R, 0, none⟩))) W' := fun W' hb => (HBW.out.congr (hb.block _ HBW.out.lt)).cell 0
  have hT := HC W1.drew hB1.drew
  have hS : (fun _ : World => True) W1.drew := trivial
  refine wpAnyT_held (i := 0) (v := ?_) rfl (by kernel_rfl) (by kernel_rfl) (by kernel_rfl) (fun _ _ _ h => h) (by kernel_rfl) hT (fun _ => hS) (by kernel_rfl) ?_ ?_
  rotate_left
  · intro wx hSw; go_split_ands; go_simp; try with_reducible rfl
  simp only [Act.put, List.getElem_toArray, List.getElem_cons_succ, List.getElem_cons_zero, List.setIfInBounds_toArray, List.set_cons_zero, List.set_cons_succ]
  refine wpAnyT_one (i := 1) rfl (by kernel_rfl) (by kernel_rfl) (fun K hK => ?_)
  refine wpx_call _ _ (by kernel_rfl) ((underRoot_any _).mono ?_)
  rintro z W2 ⟨rfl, hb2⟩
  refine ⟨_, rfl, ?_⟩
  have hB2 : Below W.heap.size W W2 := hB1.drew.trans (hb2.mono hB1.drew.size)
  have hy2 := (hy1.congr (w' := W1.drew) rfl).farM hb2
  replace hT := HC W2 hB2
  replace hS : (fun _ : World => True) W2 := trivial
  refine hK.out _ _ hT (fun _ => hS) ?_
  clear hK K
  try simp only [Act.put, List.getElem_toArray, List.getElem_cons_succ, List.getElem_cons_zero, List.setIfInBounds_toArray, List.set_cons_zero, List.set_cons_succ]
  refine wpAnyT_one (i := 2) rfl (by kernel_rfl) (by kernel_rfl) (fun K hK => ?_)
  refine wpx_call _ _ (by kernel_rfl) ((atT_any R rootS W2).mono ?_)
  rintro z A ⟨rfl, hc1, hc2, hbA⟩
  refine ⟨_, rfl, ?_⟩
  have hBA : Below W.heap.size W A := hB2.trans (hbA.mono hB2.size)
  have hyA := hy2.farM hbA
  replace hT := HC A hBA
  replace hS : (fun _ : World => True) A := trivial
  refine hK.out _ _ hT (fun _ => hS) ?_
  clear hK K
  try simp only [Act.put, List.getElem_toArray, List.getElem_cons_succ, List.getElem_cons_zero, List.setIfInBounds_toArray, List.set_cons_zero, List.set_cons_succ]
  refine wpAnyT_done (by kernel_rfl) ?_ _
  have h2l : W.heap.size < W2.heap.size := hy2.lt
  have h2A : W2.heap.size + 1 < A.heap.size := hc2.lt
  clear hT hS HC hy1 hB1 hy2 hB2 hb2 hbA
  obtain ⟨y0, hy0⟩ : ∃ q, W.heap.size = q := ⟨_, rfl⟩
  obtain ⟨b1, hb1⟩ : ∃ q, W2.heap.size = q := ⟨_, rfl⟩
  rw [hb1] at hc1 hc2 h2l h2A ⊢
  rw [hy0] at hyA
  try rw [hy0]
  have hseq := fun m => at1_seq m base R bc bn b1 (b1 + 1) N V HRT.out HLE.out rootS (by exact ⟨⟨by decide, by decide⟩, ⟨by decide, by decide⟩⟩) A (HTW.out.far hBA) hc1 hc2
  have hAk : ∀ k, k < W.heap.size → A.heap[k]? = W.heap[k]? := fun k hk => hBA.block k hk
  have HTA : Veil (TreeAt A base R bc bn N V ∧ A.cell? ⟨Bt, 0, none⟩ = some (.pointer (some ⟨R, 0, none⟩))) := ⟨HTW.out.far hBA, (HBW.out.congr (hBA.block _ HBW.out.lt)).cell 0⟩
  clear hb1 W1 W2 hc1 hc2
  gi_wp2
  obtain ⟨p, hp⟩ : ∃ p, writB N = p := ⟨_, rfl⟩
  have HP := Veil.mk hp
  have HWR : Veil (∀ xs, xs = walkA N rootS → xs.filter p = wrN N) := ⟨fun xs e => by rw [e, ← hp]; rfl⟩
  have HWX : Veil (∀ xs, xs <+: walkA N rootS → xs.filter p <+: wrN N) := ⟨fun xs e => by unfold wrN; rw [hp]; exact e.filter p⟩
  clear hp
  obtain ⟨I, HI⟩ : ∃ I : (Nat → Prop) → List (Int × Int) → World → Prop, Veil (∀ T' pre B, I T' pre B ↔ (J T' (pre.filter p) B ∧ Turn T A B ∧ ∀ k, T' k → (T k ∨ A.heap.size ≤ k) ∧ k < B.heap.size)) := ⟨_, ⟨fun _ _ _ => Iff.rfl⟩⟩
  obtain ⟨Ix, HX⟩ : ∃ I : Code → (Nat → Prop) → List (Int × Int) → World → Prop, Veil (∀ c T' pre B, I c T' pre B ↔ (c = .ret ∧ Jx T' (pre.filter p) B ∧ Turn T A B ∧ ∀ k, T' k → (T k ∨ A.heap.size ≤ k) ∧ k < B.heap.size)) := ⟨_, ⟨fun _ _ _ _ => Iff.rfl⟩⟩
  have hzA := hBA.size
  have HST : Veil (∀ (T' : Nat → Prop) (B C : World), Turn T A B → StaysT (fun k => T' k ∨ (k < A.heap.size ∧ ¬ False)) B C → StaysT (fun k => T' k ∨ (k < W.heap.size ∧ ¬ False)) B C ∧ Turn T A C) := ⟨fun T' B C ht hs => ⟨⟨hs.os, hs.tape, hs.output, hs.size, fun k hk => hs.block k (hk.elim .inl fun q => .inr ⟨by omega, q.2⟩)⟩, hs.os.trans ht.os, hs.tape.trans ht.tape, hs.output.trans ht.output, Nat.le_trans ht.size hs.size, fun k hk hn => (hs.block k (.inr ⟨hk, id⟩)).trans (ht.block k hk hn)⟩⟩
  refine wpIn_rangeTl (by omega) rfl (fun _ _ => rfl) (hseq _) (fun _ => rfl) (fun _ _ _ h _ => h) (fun _ _ _ h _ => h) T ?own0 ?own
    I Ix ?stays ?staysx ?zero ?round ?done ?stop
  case own0 =>
    intro k hk
    refine ⟨fun q => ?_, by have := (HT.out k hk).2; omega⟩
    rcases q with q | q | q
    · exact (HT.out k hk).1 (.inl q)
    · have := (HT.out k hk).2; omega
    · have := (HT.out k hk).2; omega
  case own =>
    intro k hk
    rcases hk with q | q | q
    · have := (HON.out k (.inl q)).1; omega
    · omega
    · omega
  case stays =>
    intro T' s B C hi hs
    obtain ⟨h1, h2, h3⟩ := (HI.out _ _ _).1 hi
    obtain ⟨q1, q2⟩ := HST.out T' B C h2 hs
    exact (HI.out _ _ _).2 ⟨HJ.out _ _ _ _ h1 q1, q2, fun k hk => ⟨(h3 k hk).1, Nat.lt_of_lt_of_le (h3 k hk).2 hs.size⟩⟩
  case staysx =>
    intro c T' s B C hi hs
    obtain ⟨hc, h1, h2, h3⟩ := (HX.out _ _ _ _).1 hi
    obtain ⟨q1, q2⟩ := HST.out T' B C h2 hs
    exact (HX.out _ _ _ _).2 ⟨hc, HJx.out _ _ _ _ h1 q1, q2, fun k hk => ⟨(h3 k hk).1, Nat.lt_of_lt_of_le (h3 k hk).2 hs.size⟩⟩
  case zero =>
    refine (HI.out _ _ _).2 ⟨HJ.out _ _ _ _ H0.out (StaysT.of_below hBA fun k hk => hk.elim (fun q => (HT.out k q).2) (fun q => q.1)), Turn.refl _ _, fun k hk => ⟨.inl hk, by have := (HT.out k hk).2; omega⟩⟩
  case round =>
    intro l2 r T1 pre x B hi hok hlen hTl hT0 hlr hl2
    obtain ⟨hJ', hTu, hoT⟩ := (HI.out _ _ _).1 hi
    have hzB := hTu.size
    have hlB : l2 < B.heap.size := (Array.getElem?_eq_some_iff.1 hlr).1
    have hTl2 : ¬ T1 l2 := fun q => by
      rcases hT0 l2 q with e | e
      · have := (HT.out _ e).2; omega
      · omega
    have HFI := Veil.mk (filter_snoc p pre x)
    have HPX : Veil (p x = decide (chr0 N x ≠ 0)) := ⟨by rw [← HP.out]; rfl⟩
    have HLN : Veil ((pre.filter p).length < (walkA N rootS).length) := ⟨Nat.lt_of_le_of_lt (List.length_filter_le _ _) hlen⟩
    have HOK := Veil.mk hok
    have HLOOK : Veil (∀ wx, MapX Try.prog 32 encDF okDF wx bc N.length (chrM N) → (Instr.lookup 48 (.map (some bc)) (.agg (encF x).toArray) false).run Try.prog wx = .ok (.int .u8 (chr0 N x)) wx) := ⟨fun wx h => by
      have := h.g.get keyEncDF Try.underlying48 (z := .int .u8 0) (by kernel_rfl) x hok
      rw [chrM_getD] at this
      exact this⟩
    have HYV : Veil (∀ V3, J T1 (pre.filter p) V3 → (∀ k, T1 k → k < V3.heap.size) → ∀ m, YieldAt Fence.wide m Try.prog l #[.agg (encF x).toArray] V3 fun e W' => (e = .returned (.bool true) ∧ ∃ T2, J T2 (pre.filter p ++ [x]) W' ∧ MovesT T1 V3 T2 W') ∨ (e = .returned (.bool false) ∧ ∃ T2, Jx T2 (pre.filter p ++ [x]) W' ∧ MovesT T1 V3 T2 W')) := ⟨fun V3 h1 h2 m => yieldAt_deep (HY.out T1 (pre.filter p) x V3 h1 HOK.out HLN.out h2)⟩
    obtain ⟨xa, xb⟩ := x
    have hx1 := CellsAt.new B 32 [.int .u8 xa, .int .u32 xb]
    have hb1 : Below B.heap.size B (B.alloc (.cells #[.int .u8 xa, .int .u32 xb] 32)) := (Below.refl _ _).alloc (Nat.le_refl _) _
    have hz1 : (B.alloc (.cells #[.int .u8 xa, .int .u32 xb] 32)).heap.size = B.heap.size + 1 := by simp
    clear hi hlen hok
    simp only [encF, dotC] at HYV HLOOK ⊢
    refine wpR_region (notOut_then notOut_false) (by kernel_rfl) ?_
    go_wp2
    refine ⟨Turn.of_below hb1, ?_⟩
    generalize B.alloc (.cells #[.int .u8 xa, .int .u32 xb] 32) = V1 at hx1 hb1 hz1 ⊢
    have hx2 : CellsAt (V1.putObj l2 (.loop { r with state := .busy })) B.heap.size 32 [.int .u8 xa, .int .u32 xb] := hx1.congr (World.putObj_heap_other (by omega))
    have hk2 : ∀ k, k < B.heap.size → k ≠ l2 → (V1.putObj l2 (.loop { r with state := .busy })).heap[k]? = B.heap[k]? := fun k hk hn => (World.putObj_heap_other hn).trans (hb1.block k hk)
    have hz2 : (V1.putObj l2 (.loop { r with state := .busy })).heap.size = B.heap.size + 1 := by simp [World.putObj, hz1]
    have hJ2 : J T1 (pre.filter p) (V1.putObj l2 (.loop { r with state := .busy })) := HJ.out _ _ _ _ hJ' ⟨hb1.os, hb1.tape, hb1.output, by omega, fun k hk => hk2 k (by rcases hk with q | q; exact (hoT k q).2; omega) (by rcases hk with q | q; exact fun e => hTl2 (e ▸ q); omega)⟩
    have hTu2 : Turn T A (V1.putObj l2 (.loop { r with state := .busy })) := ⟨hb1.os.trans hTu.os, hb1.tape.trans hTu.tape, hb1.output.trans hTu.output, by omega, fun k hk hn => (hk2 k (by omega) (by omega)).trans (hTu.block k hk hn)⟩
    generalize V1.putObj l2 (.loop { r with state := .busy }) = V2 at hx2 hk2 hz2 hJ2 hTu2 ⊢
    have HS : Veil (∀ V3, Turn T A V3 → CellsAt V3 B.heap.size 32 [.int .u8 xa, .int .u32 xb] → (fun w' : World => w'.cell? ⟨Bt, 0, none⟩ = some (.pointer (some ⟨R, 0, none⟩)) ∧ w'.cell? ⟨R, 0, none⟩ = some (.map (some bc)) ∧ w'.rangeAt B.heap.size 0 [.int .u8 xa, .int .u32 xb] ∧ MapX Try.prog 32 encDF okDF w' bc N.length (chrM N) ∧ w'.cell? ⟨y0, 0, none⟩ = some (.func (.yield l) #[] #[])) V3) := ⟨fun V3 ht hc => by
      have hk : ∀ k, (treeP R bc bn V k ∨ k = Bt) → V3.heap[k]? = A.heap[k]? := fun k hk => ht.block k (by have := (HON.out k hk).1; omega) (HON.out k hk).2
      have hT3 : TreeAt V3 base R bc bn N V := HTA.out.1.congr fun k q => hk k (.inl q)
      exact ⟨(World.cell?_of_block (a := ⟨Bt, 0, none⟩) (hk Bt (.inr rfl))).trans HTA.out.2, hT3.box.cell 0, hc.wholeM, hT3.chars, (hyA.congr (ht.block y0 hyA.lt fun q => by have := (HT.out _ q).2; omega)).cell 0⟩⟩
    have HI3 : Veil (∀ V3 T2, MovesT T1 V2 T2 V3 → J T2 ((pre ++ [(xa, xb)]).filter p) V3 → I T2 (pre ++ [(xa, xb)]) V3) := ⟨fun V3 T2 hm hj => (HI.out _ _ _).2 ⟨hj, ⟨hm.turn.os.trans hTu2.os, hm.turn.tape.trans hTu2.tape, hm.turn.output.trans hTu2.output, Nat.le_trans hTu2.size hm.turn.size, fun k hk hn => (hm.turn.block k (by omega) fun q => by rcases (hoT k q).1 with e | e; exact hn e; omega).trans (hTu2.block k hk hn)⟩, fun k hk => ⟨by
        rcases (hm.own k hk).1 with q | q
        · exact (hoT k q).1
        · exact .inr (by omega), (hm.own k hk).2⟩⟩⟩
    have HX3 : Veil (∀ V3 T2, MovesT T1 V2 T2 V3 → Jx T2 ((pre ++ [(xa, xb)]).filter p) V3 → Ix .ret T2 (pre ++ [(xa, xb)]) V3) := ⟨fun V3 T2 hm hj => (HX.out _ _ _ _).2 ⟨rfl, hj, ⟨hm.turn.os.trans hTu2.os, hm.turn.tape.trans hTu2.tape, hm.turn.output.trans hTu2.output, Nat.le_trans hTu2.size hm.turn.size, fun k hk hn => (hm.turn.block k (by omega) fun q => by rcases (hoT k q).1 with e | e; exact hn e; omega).trans (hTu2.block k hk hn)⟩, fun k hk => ⟨by
        rcases (hm.own k hk).1 with q | q
        · exact (hoT k q).1
        · exact .inr (by omega), (hm.own k hk).2⟩⟩⟩
    have HS3 : Veil (∀ V3 T2, MovesT T1 V2 T2 V3 → (fun w' : World => w'.cell? ⟨Bt, 0, none⟩ = some (.pointer (some ⟨R, 0, none⟩)) ∧ w'.cell? ⟨R, 0, none⟩ = some (.map (some bc)) ∧ w'.rangeAt B.heap.size 0 [.int .u8 xa, .int .u32 xb] ∧ MapX Try.prog 32 encDF okDF w' bc N.length (chrM N) ∧ w'.cell? ⟨y0, 0, none⟩ = some (.func (.yield l) #[] #[])) V3) := ⟨fun V3 T2 hm => HS.out V3 ⟨hm.turn.os.trans hTu2.os, hm.turn.tape.trans hTu2.tape, hm.turn.output.trans hTu2.output, Nat.le_trans hTu2.size hm.turn.size, fun k hk hn => (hm.turn.block k (by omega) fun q => by rcases (hoT k q).1 with e | e; exact hn e; omega).trans (hTu2.block k hk hn)⟩ (hx2.congr (hm.turn.block _ hx2.lt fun q => by have := (hoT _ q).2; omega))⟩
    have hT1z : ∀ k, T1 k → k < V2.heap.size := fun k hk => by have := (hoT k hk).2; omega
    have HDR : Veil (MovesT T1 V2 T1 V2.drew) := ⟨⟨rfl, rfl, rfl, Nat.le_refl _, fun _ _ _ => rfl⟩, fun k hk => ⟨.inl hk, hT1z k hk⟩⟩
    have hJ3 : J T1 (pre.filter p) V2.drew := HJ.out _ _ _ _ hJ2 ⟨rfl, rfl, rfl, Nat.le_refl _, fun _ _ => rfl⟩
    have HYA := Veil.mk (HYV.out V2.drew hJ3 (fun k hk => hT1z k hk))
    have HJ3 := Veil.mk hJ3
    have uD := Try.underlying32
    have iX : (Try.prog.info? 32).map (·.size) = some [Value.int .u8 xa, Value.int .u32 xb].length := sizeDot
    obtain ⟨c, hc⟩ : ∃ q, chr0 N (xa, xb) = q := ⟨_, rfl⟩
    rw [hc] at HLOOK HPX
    have hS : (fun w' : World => w'.cell? ⟨Bt, 0, none⟩ = some (.pointer (some ⟨R, 0, none⟩)) ∧ w'.cell? ⟨R, 0, none⟩ = some (.map (some bc)) ∧ w'.rangeAt B.heap.size 0 [.int .u8 xa, .int .u32 xb] ∧ MapX Try.prog 32 encDF okDF w' bc N.length (chrM N) ∧ w'.cell? ⟨y0, 0, none⟩ = some (.func (.yield l) #[] #[])) V2.drew := HS3.out _ _ HDR.out
    clear hc hx1 hb1 hz1 hJ' hTu hoT hTl hT0 hlr hk2 hz2 hJ2 hTu2 hx2 hzB hlB hTl2 HS HYV hT1z hJ3 HY
    refine wpIn_block ?_
    by_cases hc0 : c = 0
    · subst hc0
      have HFE : Veil ((pre ++ [(xa, xb)]).filter p = pre.filter p) := ⟨by rw [HFI.out, HPX.out]; simp⟩
      refine wpIn_seq ?_
      refine wpR_region_gateI (fun w' : World => w'.cell? ⟨Bt, 0, none⟩ = some (.pointer (some ⟨R, 0, none⟩)) ∧ w'.cell? ⟨R, 0, none⟩ = some (.map (some bc)) ∧ w'.rangeAt B.heap.size 0 [.int .u8 xa, .int .u32 xb] ∧ MapX Try.prog 32 encDF okDF w' bc N.length (chrM N) ∧ w'.cell? ⟨y0, 0, none⟩ = some (.func (.yield l) #[] #[])) (by kernel_rfl) (by kernel_rfl) ?_
      refine wpAnyI_read (i := 0) (v := ?_) rfl (by kernel_rfl) (by kernel_rfl) (by kernel_rfl) (fun _ _ _ h => h) hS (by kernel_rfl) ?_ ?_
      rotate_left
      · intro wx hSw; go_split_ands; go_simp; try with_reducible rfl
      simp only [Act.put, List.getElem_toArray, List.getElem_cons_succ, List.getElem_cons_zero, List.setIfInBounds_toArray, List.set_cons_zero, List.set_cons_succ]
      refine wpAnyI_read (i := 1) (v := ?_) rfl (by kernel_rfl) (by kernel_rfl) (by kernel_rfl) (fun _ _ _ h => h) hS (by kernel_rfl) ?_ ?_
      rotate_left
      · intro wx hSw; go_split_ands; go_simp; try with_reducible rfl
      simp only [Act.put, List.getElem_toArray, List.getElem_cons_succ, List.getElem_cons_zero, List.setIfInBounds_toArray, List.set_cons_zero, List.set_cons_succ]
      refine wpAnyI_read (i := 2) (v := ?_) rfl (by kernel_rfl) (by kernel_rfl) (by kernel_rfl) (fun _ _ _ h => h) hS (by kernel_rfl) ?_ ?_
      rotate_left
      · intro wx hSw; go_split_ands; go_simp; try with_reducible rfl
      simp only [Act.put, List.getElem_toArray, List.getElem_cons_succ, List.getElem_cons_zero, List.setIfInBounds_toArray, List.set_cons_zero, List.set_cons_succ]
      refine wpAnyI_read (i := 3) (v := ?_) rfl (by kernel_rfl) (by kernel_rfl) (by kernel_rfl) (fun _ _ _ h => h) hS (by kernel_rfl) ?_ ?_
      rotate_left
      · intro wx hSw; go_split_ands; go_simp; try with_reducible rfl
      simp only [Act.put, List.getElem_toArray, List.getElem_cons_succ, List.getElem_cons_zero, List.setIfInBounds_toArray, List.set_cons_zero, List.set_cons_succ]
      refine wpAnyI_load (i := 4) (dst := some 12) (ty := 32) (x := .tmp 3) (b := B.heap.size) (o := (0)) (cs := [.int .u8 xa, .int .u32 xb]) (by kernel_rfl) (by kernel_rfl) (by kernel_rfl) (by kernel_rfl) (by kernel_rfl) (fun _ _ _ h => h) hS (by kernel_rfl) (fun _ h => h.2.2.1) uD rfl iX ?_
      simp only [Act.put, List.getElem_toArray, List.getElem_cons_succ, List.getElem_cons_zero, List.setIfInBounds_toArray, List.set_cons_zero, List.set_cons_succ]
      refine wpAnyI_read (i := 5) (v := .int .u8 0) rfl (by kernel_rfl) (by kernel_rfl) (by kernel_rfl) (fun _ _ _ h => h) hS (by kernel_rfl) (fun wx h => exec_lookF rfl rfl rfl (HLOOK.out wx h.2.2.2.1)) ?_
      simp only [Act.put, List.getElem_toArray, List.getElem_cons_succ, List.getElem_cons_zero, List.setIfInBounds_toArray, List.set_cons_zero, List.set_cons_succ]
      refine wpAnyI_read (i := 6) (v := .bool false) rfl (by kernel_rfl) (by kernel_rfl) (by kernel_rfl) (fun _ _ _ h => h) hS (by kernel_rfl) ?_ ?_
      · intro wx hSw; go_split_ands; go_simp
      simp only [Act.put, List.getElem_toArray, List.getElem_cons_succ, List.getElem_cons_zero, List.setIfInBounds_toArray, List.set_cons_zero, List.set_cons_succ]
      refine wpAnyI_read (i := 7) (v := ?_) rfl (by kernel_rfl) (by kernel_rfl) (by kernel_rfl) (fun _ _ _ h => h) hS (by kernel_rfl) ?_ ?_
      rotate_left
      · intro wx hSw; go_split_ands; go_simp; try with_reducible rfl
      simp only [Act.put, List.getElem_toArray, List.getElem_cons_succ, List.getElem_cons_zero, List.setIfInBounds_toArray, List.set_cons_zero, List.set_cons_succ]
      refine wpAnyI_skip (i := 8) rfl (by kernel_rfl) (by kernel_rfl) (by kernel_rfl) (fun _ _ _ h => h) hS (by kernel_rfl) ?_
      simp only [Act.put, List.getElem_toArray, List.getElem_cons_succ, List.getElem_cons_zero, List.setIfInBounds_toArray, List.set_cons_zero, List.set_cons_succ]
      refine wpAnyI_skip (i := 9) rfl (by kernel_rfl) (by kernel_rfl) (by kernel_rfl) (fun _ _ _ h => h) hS (by kernel_rfl) ?_
      simp only [Act.put, List.getElem_toArray, List.getElem_cons_succ, List.getElem_cons_zero, List.setIfInBounds_toArray, List.set_cons_zero, List.set_cons_succ]
      refine wpAnyI_skip (i := 10) rfl (by kernel_rfl) (by kernel_rfl) (by kernel_rfl) (fun _ _ _ h => h) hS (by kernel_rfl) ?_
      simp only [Act.put, List.getElem_toArray, List.getElem_cons_succ, List.getElem_cons_zero, List.setIfInBounds_toArray, List.set_cons_zero, List.set_cons_succ]
      refine wpAnyI_skip (i := 11) rfl (by kernel_rfl) (by kernel_rfl) (by kernel_rfl) (fun _ _ _ h => h) hS (by kernel_rfl) ?_
      simp only [Act.put, List.getElem_toArray, List.getElem_cons_succ, List.getElem_cons_zero, List.setIfInBounds_toArray, List.set_cons_zero, List.set_cons_succ]
      refine wpAnyI_read (i := 12) (v := ?_) rfl (by kernel_rfl) (by kernel_rfl) (by kernel_rfl) (fun _ _ _ h => h) hS (by kernel_rfl) ?_ ?_
      rotate_left
      · intro wx hSw; go_split_ands; go_simp; try with_reducible rfl
      simp only [Act.put, List.getElem_toArray, List.getElem_cons_succ, List.getElem_cons_zero, List.setIfInBounds_toArray, List.set_cons_zero, List.set_cons_succ]
      refine wpAnyI_done (by kernel_rfl) ?_ _
      have HQ := Veil.mk (HI3.out V2.drew T1 HDR.out (by rw [HFE.out]; exact HJ3.out))
      clear hS HI3 HX3 HS3 HYA HJ3 HLOOK
      gi_wp2
      exact ⟨T1, HQ.out, HDR.out⟩
    · have hcb : (c != 0) = true := by simpa using hc0
      have HFE : Veil ((pre ++ [(xa, xb)]).filter p = pre.filter p ++ [(xa, xb)]) := ⟨by rw [HFI.out, HPX.out]; simp [hc0]⟩
      refine wpIn_seq ?_
      refine wpR_region_gateI (fun w' : World => w'.cell? ⟨Bt, 0, none⟩ = some (.pointer (some ⟨R, 0, none⟩)) ∧ w'.cell? ⟨R, 0, none⟩ = some (.map (some bc)) ∧ w'.rangeAt B.heap.size 0 [.int .u8 xa, .int .u32 xb] ∧ MapX Try.prog 32 encDF okDF w' bc N.length (chrM N) ∧ w'.cell? ⟨y0, 0, none⟩ = some (.func (.yield l) #[] #[])) (by kernel_rfl) (by kernel_rfl) ?_
      refine wpAnyI_read (i := 0) (v := ?_) rfl (by kernel_rfl) (by kernel_rfl) (by kernel_rfl) (fun _ _ _ h => h) hS (by kernel_rfl) ?_ ?_
      rotate_left
      · intro wx hSw; go_split_ands; go_simp; try with_reducible rfl
      simp only [Act.put, List.getElem_toArray, List.getElem_cons_succ, List.getElem_cons_zero, List.setIfInBounds_toArray, List.set_cons_zero, List.set_cons_succ]
      refine wpAnyI_read (i := 1) (v := ?_) rfl (by kernel_rfl) (by kernel_rfl) (by kernel_rfl) (fun _ _ _ h => h) hS (by kernel_rfl) ?_ ?_
      rotate_left
      · intro wx hSw; go_split_ands; go_simp; try with_reducible rfl
      simp only [Act.put, List.getElem_toArray, List.getElem_cons_succ, List.getElem_cons_zero, List.setIfInBounds_toArray, List.set_cons_zero, List.set_cons_succ]
      refine wpAnyI_read (i := 2) (v := ?_) rfl (by kernel_rfl) (by kernel_rfl) (by kernel_rfl) (fun _ _ _ h => h) hS (by kernel_rfl) ?_ ?_
      rotate_left
      · intro wx hSw; go_split_ands; go_simp; try with_reducible rfl
      simp only [Act.put, List.getElem_toArray, List.getElem_cons_succ, List.getElem_cons_zero, List.setIfInBounds_toArray, List.set_cons_zero, List.set_cons_succ]
      refine wpAnyI_read (i := 3) (v := ?_) rfl (by kernel_rfl) (by kernel_rfl) (by kernel_rfl) (fun _ _ _ h => h) hS (by kernel_rfl) ?_ ?_
      rotate_left
      · intro wx hSw; go_split_ands; go_simp; try with_reducible rfl
      simp only [Act.put, List.getElem_toArray, List.getElem_cons_succ, List.getElem_cons_zero, List.setIfInBounds_toArray, List.set_cons_zero, List.set_cons_succ]
      refine wpAnyI_load (i := 4) (dst := some 12) (ty := 32) (x := .tmp 3) (b := B.heap.size) (o := (0)) (cs := [.int .u8 xa, .int .u32 xb]) (by kernel_rfl) (by kernel_rfl) (by kernel_rfl) (by kernel_rfl) (by kernel_rfl) (fun _ _ _ h => h) hS (by kernel_rfl) (fun _ h => h.2.2.1) uD rfl iX ?_
      simp only [Act.put, List.getElem_toArray, List.getElem_cons_succ, List.getElem_cons_zero, List.setIfInBounds_toArray, List.set_cons_zero, List.set_cons_succ]
      refine wpAnyI_read (i := 5) (v := .int .u8 c) rfl (by kernel_rfl) (by kernel_rfl) (by kernel_rfl) (fun _ _ _ h => h) hS (by kernel_rfl) (fun wx h => exec_lookF rfl rfl rfl (HLOOK.out wx h.2.2.2.1)) ?_
      simp only [Act.put, List.getElem_toArray, List.getElem_cons_succ, List.getElem_cons_zero, List.setIfInBounds_toArray, List.set_cons_zero, List.set_cons_succ]
      refine wpAnyI_read (i := 6) (v := .bool true) rfl (by kernel_rfl) (by kernel_rfl) (by kernel_rfl) (fun _ _ _ h => h) hS (by kernel_rfl) ?_ ?_
      · intro wx hSw; go_split_ands; go_simp
      simp only [Act.put, List.getElem_toArray, List.getElem_cons_succ, List.getElem_cons_zero, List.setIfInBounds_toArray, List.set_cons_zero, List.set_cons_succ]
      refine wpAnyI_read (i := 7) (v := ?_) rfl (by kernel_rfl) (by kernel_rfl) (by kernel_rfl) (fun _ _ _ h => h) hS (by kernel_rfl) ?_ ?_
      rotate_left
      · intro wx hSw; go_split_ands; go_simp; try with_reducible rfl
      simp only [Act.put, List.getElem_toArray, List.getElem_cons_succ, List.getElem_cons_zero, List.setIfInBounds_toArray, List.set_cons_zero, List.set_cons_succ]
      refine wpAnyI_read (i := 8) (v := ?_) rfl (by kernel_rfl) (by kernel_rfl) (by kernel_rfl) (fun _ _ _ h => h) hS (by kernel_rfl) ?_ ?_
      rotate_left
      · intro wx hSw; go_split_ands; go_simp; try with_reducible rfl
      simp only [Act.put, List.getElem_toArray, List.getElem_cons_succ, List.getElem_cons_zero, List.setIfInBounds_toArray, List.set_cons_zero, List.set_cons_succ]
      refine wpAnyI_load (i := 9) (dst := some 17) (ty := 32) (x := .tmp 3) (b := B.heap.size) (o := (0)) (cs := [.int .u8 xa, .int .u32 xb]) (by kernel_rfl) (by kernel_rfl) (by kernel_rfl) (by kernel_rfl) (by kernel_rfl) (fun _ _ _ h => h) hS (by kernel_rfl) (fun _ h => h.2.2.1) uD rfl iX ?_
      simp only [Act.put, List.getElem_toArray, List.getElem_cons_succ, List.getElem_cons_zero, List.setIfInBounds_toArray, List.set_cons_zero, List.set_cons_succ]
      refine wpAnyI_one (i := 10) rfl (by kernel_rfl) (by kernel_rfl) (fun K hK => ?_)
      refine wpI_yield _ _ _ rfl rfl rfl (HYA.out _) ?_
      rintro e W3 (⟨rfl, T2, hj4, hm4⟩ | ⟨rfl, T2, hj4, hm4⟩)
      · refine ⟨_, rfl, ?_⟩
        have hm5 := HDR.out.trans hm4
        replace hS := HS3.out W3 T2 hm5
        have HQ := Veil.mk (And.intro (HI3.out W3 T2 hm5 (by rw [HFE.out]; exact hj4)) hm5)
        clear hm4 hm5 hj4
        refine hK.out _ _ hS ?_
        clear hK K
        try simp only [Act.put, List.getElem_toArray, List.getElem_cons_succ, List.getElem_cons_zero, List.setIfInBounds_toArray, List.set_cons_zero, List.set_cons_succ]
        refine wpAnyI_read (i := 11) (v := ?_) rfl (by kernel_rfl) (by kernel_rfl) (by kernel_rfl) (fun _ _ _ h => h) hS (by kernel_rfl) ?_ ?_
        rotate_left
        · intro wx hSw; go_split_ands; go_simp; try with_reducible rfl
        simp only [Act.put, List.getElem_toArray, List.getElem_cons_succ, List.getElem_cons_zero, List.setIfInBounds_toArray, List.set_cons_zero, List.set_cons_succ]
        refine wpAnyI_read (i := 12) (v := ?_) rfl (by kernel_rfl) (by kernel_rfl) (by kernel_rfl) (fun _ _ _ h => h) hS (by kernel_rfl) ?_ ?_
        rotate_left
        · intro wx hSw; go_split_ands; go_simp; try with_reducible rfl
        simp only [Act.put, List.getElem_toArray, List.getElem_cons_succ, List.getElem_cons_zero, List.setIfInBounds_toArray, List.set_cons_zero, List.set_cons_succ]
        refine wpAnyI_done (by kernel_rfl) ?_ _
        clear hS HI3 HX3 HS3 HYA HJ3 HLOOK hcb hc0
        gi_wp2
        exact ⟨T2, HQ.out.1, HQ.out.2⟩
      · refine ⟨_, rfl, ?_⟩
        have hm5 := HDR.out.trans hm4
        replace hS := HS3.out W3 T2 hm5
        have HQ := Veil.mk (And.intro (HX3.out W3 T2 hm5 (by rw [HFE.out]; exact hj4)) hm5)
        clear hm4 hm5 hj4
        refine hK.out _ _ hS ?_
        clear hK K
        try simp only [Act.put, List.getElem_toArray, List.getElem_cons_succ, List.getElem_cons_zero, List.setIfInBounds_toArray, List.set_cons_zero, List.set_cons_succ]
        refine wpAnyI_read (i := 11) (v := ?_) rfl (by kernel_rfl) (by kernel_rfl) (by kernel_rfl) (fun _ _ _ h => h) hS (by kernel_rfl) ?_ ?_
        rotate_left
        · intro wx hSw; go_split_ands; go_simp; try with_reducible rfl
        simp only [Act.put, List.getElem_toArray, List.getElem_cons_succ, List.getElem_cons_zero, List.setIfInBounds_toArray, List.set_cons_zero, List.set_cons_succ]
        refine wpAnyI_read (i := 12) (v := ?_) rfl (by kernel_rfl) (by kernel_rfl) (by kernel_rfl) (fun _ _ _ h => h) hS (by kernel_rfl) ?_ ?_
        rotate_left
        · intro wx hSw; go_split_ands; go_simp; try with_reducible rfl
        simp only [Act.put, List.getElem_toArray, List.getElem_cons_succ, List.getElem_cons_zero, List.setIfInBounds_toArray, List.set_cons_zero, List.set_cons_succ]
        refine wpAnyI_done (by kernel_rfl) ?_ _
        clear hS HI3 HX3 HS3 HYA HJ3 HLOOK hcb hc0
        gi_wp2
        exact ⟨T2, HQ.out.1, HQ.out.2⟩
  case done =>
    intro D xs T' B hD hP hi hdef ht hTD
    obtain ⟨hJ', hTu, hoT⟩ := (HI.out _ _ _).1 hi
    have hst : StaysT (fun k => T' k ∨ (k < W.heap.size ∧ ¬ False)) B (B.putObj D (.deferred none)) := StaysT.put _ (fun q => by rcases q with q | q; exact hTD q; omega)
    have HMV : Veil (MovesT (fun k => T k ∨ False) W T' (B.putObj D (.deferred none))) := ⟨⟨(hst.os.trans hTu.os).trans hBA.os, (hst.tape.trans hTu.tape).trans hBA.tape, (hst.output.trans hTu.output).trans hBA.output, by have := hTu.size; have := hst.size; omega, fun k hk hn => ((hst.block k (.inr ⟨hk, id⟩)).trans (hTu.block k (by omega) (fun q => hn (.inl q)))).trans (hAk k hk)⟩, fun k hk => ⟨by rcases (hoT k hk).1 with q | q; exact .inl (.inl q); exact .inr (by omega), Nat.lt_of_lt_of_le (hoT k hk).2 hst.size⟩⟩
    have HJE := Veil.mk (HJ.out _ _ _ _ hJ' hst)
    have HPE := Veil.mk (HWR.out xs hP)
    clear hJ' hTu hoT hst hi hP ht
    gi_wp2
    refine ⟨by simp, .inl ⟨_, _, rfl, run_takeDeferred hdef, ?_⟩⟩
    exact ⟨_, results_none rfl _ _ _, ⟨_, rfl⟩, .inl ⟨_, T', HPE.out, HJE.out, HMV.out⟩⟩
  case stop =>
    intro D c xs T' B hD hP hi hdef ht hTD
    obtain ⟨rfl, hJ', hTu, hoT⟩ := (HX.out _ _ _ _).1 hi
    have hst : StaysT (fun k => T' k ∨ (k < W.heap.size ∧ ¬ False)) B (B.putObj D (.deferred none)) := StaysT.put _ (fun q => by rcases q with q | q; exact hTD q; omega)
    have HMV : Veil (MovesT (fun k => T k ∨ False) W T' (B.putObj D (.deferred none))) := ⟨⟨(hst.os.trans hTu.os).trans hBA.os, (hst.tape.trans hTu.tape).trans hBA.tape, (hst.output.trans hTu.output).trans hBA.output, by have := hTu.size; have := hst.size; omega, fun k hk hn => ((hst.block k (.inr ⟨hk, id⟩)).trans (hTu.block k (by omega) (fun q => hn (.inl q)))).trans (hAk k hk)⟩, fun k hk => ⟨by rcases (hoT k hk).1 with q | q; exact .inl (.inl q); exact .inr (by omega), Nat.lt_of_lt_of_le (hoT k hk).2 hst.size⟩⟩
    have HJE := Veil.mk (HJx.out _ _ _ _ hJ' hst)
    have HPE := Veil.mk (HWX.out xs hP)
    clear hJ' hTu hoT hst hi hP ht
    gi_wp2
    refine ⟨by simp, .inl ⟨_, _, rfl, run_takeDeferred hdef, ?_⟩⟩
    exact ⟨_, results_none rfl _ _ _, ⟨_, rfl⟩, .inr ⟨_, T', HPE.out, HJE.out, HMV.out⟩⟩
end Go.Proofs.Ytnmjplngbleopaa
