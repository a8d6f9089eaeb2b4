/- Fg18 GateR -/
import Derived.Test.YtnmjplngbleopaaF21
import Derived.Test.YtnmjplngbleopaaF18
import Derived.Test.YtnmjplngbleopaaF07
namespace Go.Proofs.Ytnmjplngbleopaa
open Go.RowKit Go.Shelf
set_option maxRecDepth 20000
set_option linter.unusedSimpArgs false
theorem prefix_lt {α : Type} {pre total : List α} {x : α} (h : pre ++ [x] <+: total) : pre.length < total.length := by
  have := h.length_le
  simp at this; omega
set_option maxHeartbeats 4000000 in
theorem at1_seq (n base R bc bn B1 B2 : Nat) (N : List Nd) (V : (Int × Int) × Bool → Value) (hN : Rooted N) (hlen : N.length ≤ 1000) (s : (Int × Int) × Bool) (hs : okS s) (w : World) (hT : TreeAt w base R bc bn N V) (h1 : CellsAt w B1 24 [.pointer (some ⟨R, 0, none⟩)]) (h2 : CellsAt w B2 56 (sideC s)) :
    SeqT n Try.prog 36 #[.pointer (some ⟨B1, 0, none⟩), .pointer (some ⟨B2, 0, none⟩)] (fun x : Int × Int => #[.agg (encF x).toArray]) (fun k => treeP R bc bn V k ∨ k = B1 ∨ k = B2) (fun _ => False) (fun xs _ => xs = walkA N s) (fun xs _ => xs <+: walkA N s) okDF (walkA N s).length w := by
  intro l T J Jx W hWW hTT hJ hJx hY h0
  have hW := walkT_any base R bc bn N V hN hlen l W.heap.size (walkA N s) J Jx
    ⟨fun T s A B h hs => hJ T s A B h ⟨hs.os, hs.tape, hs.output, hs.size, fun k hk => hs.block k (hk.elim .inl fun q => .inr q.1)⟩,
     fun T pre x W1 hj hx hp hl => ⟨_, hY T pre x W1 hj hx (prefix_lt hp) hl⟩⟩
    (fun k hk => Nat.lt_of_lt_of_le (hT.blockLt k hk) hWW.size) s hs T [] W (hT.far hWW) ⟨fun k hk => ⟨fun q => (hTT k hk).1 (.inl q), (hTT k hk).2⟩, Nat.le_refl _⟩ (by simp) h0
  rw [List.nil_append] at hW
  have HE : Veil (∀ e W', WalkR (walkA N s) J Jx T (walkA N s) W e W' → ∃ b, e = .returned (.bool b) ∧ ((∃ xs T', xs = walkA N s ∧ J T' xs W' ∧ MovesT (fun k => T k ∨ False) W T' W') ∨ (∃ xs T', xs <+: walkA N s ∧ Jx T' xs W' ∧ MovesT (fun k => T k ∨ False) W T' W'))) := ⟨fun e W' hq => by
    have mv : ∀ T', MovesT T W T' W' → MovesT (fun k => T k ∨ False) W T' W' := fun T' hm => ⟨hm.turn.mono fun k _ q => .inl q, fun k hk => ⟨by rcases (hm.own k hk).1 with q | q; exact .inl (.inl q); exact .inr q, (hm.own k hk).2⟩⟩
    rcases hq.out with ⟨rfl, T', hj, hm⟩ | ⟨rfl, T', xs, hj, hp, hm⟩
    · exact ⟨true, rfl, .inl ⟨_, T', rfl, hj, mv T' hm⟩⟩
    · exact ⟨false, rfl, .inr ⟨xs, T', hp, hj, mv T' hm⟩⟩⟩
  have c1 : W.cell? ⟨B1, 0, none⟩ = some (.pointer (some ⟨R, 0, none⟩)) := (h1.congr (hWW.block _ h1.lt)).cell 0
  have r2 := (h2.congr (hWW.block _ h2.lt)).wholeM
  have uS := Try.underlying56
  have iS : (Try.prog.info? 56).map (·.size) = some (sideC s).length := by rw [sideC_len]; kernel_rfl
  obtain ⟨ES, hES⟩ : ∃ q, sideC s = q := ⟨_, rfl⟩
  rw [hES] at r2 iS hW
  refine callsIn_wide.2 ?_
  clear hES hY hJ hJx h0 hTT hT h1 h2 hWW hN hlen hs
  show Calls Try.prog 36 #[.func (.yield l) #[] #[], .pointer (some ⟨B1, 0, none⟩), .pointer (some ⟨B2, 0, none⟩)] W _
  go_enter Try.func36, Try.ntmps36
  go_wp2_with (first
    | (refine wpList_ldv rfl 56 _ rfl B2 0 rfl ES r2 uS rfl iS ?_)
    | (go_at_call 37; refine hW.mono ?_; intro e W2 hq; obtain ⟨b, rfl, hend⟩ := HE.out e W2 hq; have HEND := Veil.mk hend; clear hq hend HE hW))
  go_end0
  exact ⟨⟨_, rfl⟩, HEND.out⟩
theorem atT_any (R : Nat) (s : (Int × Int) × Bool) (w : World) : Calls Try.prog 27 #[.pointer (some ⟨R, 0, none⟩), .agg (sideC s).toArray] w fun e w' => e = .returned (.func (.func 36) #[] #[.pointer (some ⟨w.heap.size, 0, none⟩), .pointer (some ⟨w.heap.size + 1, 0, none⟩)]) ∧ CellsAt w' w.heap.size 24 [.pointer (some ⟨R, 0, none⟩)] ∧ CellsAt w' (w.heap.size + 1) 56 (sideC s) ∧ Below w.heap.size w w' := by
  have h1 := (CellsAt.new w 24 [.pointer (some ⟨R, 0, none⟩)]).alloc (.cells (sideC s).toArray 56)
  have h2 := CellsAt.new (w.alloc (.cells #[.pointer (some ⟨R, 0, none⟩)] 24)) 56 (sideC s)
  rw [World.size_alloc] at h2
  have hB : Below w.heap.size w ((w.alloc (.cells #[.pointer (some ⟨R, 0, none⟩)] 24)).alloc (.cells (sideC s).toArray 56)) := ((Below.refl _ _).alloc (Nat.le_refl _) _).alloc (by simp) _
  generalize sideC s = ES at h1 h2 hB ⊢
  have HV := Veil.mk (And.intro h1 (And.intro h2 hB))
  clear h1 h2 hB
  go_enter Try.func27, Try.ntmps27
  go_wp2
  go_ret
  exact ⟨rfl, HV.out.1, HV.out.2.1, HV.out.2.2⟩
theorem underRoot_any (w : World) : Calls Try.prog 28 #[] w fun e w' => e = .returned (.agg (sideC rootS).toArray) ∧ Below w.heap.size w w' := by
  go_enter Try.func28, Try.ntmps28
  go_wp2
  refine bodyPost_ret (results_cells (Try.results28) _ rfl (CellsAt.new w 56 [.int .u8 0, .int .u32 0, .bool true]) Try.underlying56 rfl (by kernel_rfl)) rfl ⟨rfl, (Below.refl _ _).alloc (Nat.le_refl _) _⟩
open Go Go.RowKit
section
variable {P : Program} {ops : Array Oper} {Q : Exit → Act → World → Prop} {md : Region.Mode} {S : World → Prop} {n l : Nat}
theorem wpInR_op {o : Oper} {a : Act} {w : World} {K : Act → World → Prop} (hd : ∀ c, o.op ≠ .defer c) (h : o.wpIn Fence.wide n P a w K Q) : o.wpIn (Fence.wide.inRound l) n P a w K Q := by
  refine ⟨fun _ _ => trivial, ?_⟩
  have h := h.2
  rw [show (Fence.wide.inRound l).round = some l from rfl, Oper.semAt_some l _ _ hd]
  rw [show Fence.wide.round = none from rfl, Oper.semAt_none] at h
  generalize (execOp a.eval o).run P w = r at h
  cases r with
  | ok x w' => cases x <;> exact h
  | halt x w' => cases x <;> exact h
theorem wpAnyR_of (hd : ∀ (j : Nat) (o : Oper), ops[j]? = some o → ∀ c, o.op ≠ .defer c) : ∀ (fuel : Nat) (listed : Array Bool) (a : Act) (w : World), wpAnyIn Fence.wide n P md ops Q fuel listed a w → wpAnyIn (Fence.wide.inRound l) n P md ops Q fuel listed a w
  | 0, _, _, _, h => h
  | fuel + 1, listed, a, w, h => ⟨h.1, fun i hi => by
    have h1 := h.2 i hi
    unfold wpOpIn at h1 ⊢
    cases ho : ops[i]? with
    | none =>
      simp only [ho] at h1
      exact wpAnyR_of hd fuel _ a w h1
    | some o =>
      simp only [ho] at h1
      simp only
      by_cases hw : Region.wanted o (yielded ops a.tmps) = true
      · rw [if_pos hw] at h1 ⊢
        exact Oper.wpIn_mono (fun a w h => wpAnyR_of hd fuel _ a w h) (wpInR_op (hd i o ho) h1)
      · rw [if_neg hw] at h1 ⊢
        exact ⟨fun _ _ => trivial, wpAnyR_of hd fuel _ _ w h1.2⟩⟩
theorem wpR_region_gateI {id : Nat} {a : Act} {w : World} (S : World → Prop) (hm : P.follows .mixedOrders = true) (hd : (ops.all fun o => match o.op with | .defer _ => false | _ => true) = true)
    (h : wpAnyI P n .any ops Q S ops.size (Array.replicate ops.size false) a w.drew) : (Code.region id ops true).wpIn (Fence.wide.inRound l) n P Q a w :=
  wpIn_region_any hm (wpAnyR_of (fun j o ho c e => by
    have hm : o ∈ ops := Array.mem_of_getElem? ho
    have := (Array.all_eq_true_iff_forall_mem.1 hd) o hm
    rw [e] at this
    cases this) _ _ _ _ (wpAnyIn_of_gateI _ _ _ _ h))
theorem wpAnyI_skip {i : Nat} {oi : Oper} {fuel : Nat} {listed : Array Bool} {a : Act} {w : World} (hi : ops[i]? = some oi)
    (hs : Region.noSelect ops = true) (hf : Region.free md ops listed i = true) (hr : (Region.ready md ops listed).contains i = true)
    (hQ : ∀ c a w, Q (.panic c) (a.put oi.dst undef) w → Q (.panic c) a w) (hS : S w) (hw : Region.wanted oi (yielded ops a.tmps) = false)
    (h : wpAnyI P n md ops Q S fuel (listed.setIfInBounds i true) (a.put oi.dst undef) w) : wpAnyI P n md ops Q S (fuel + 1) listed a w :=
  wpAnyI_first hi (Region.noSelect_spec hs) hQ fuel listed a w (Region.free_spec hi hf) (by simpa using hr) (.inr ⟨hw, rfl⟩) hS h
end
theorem wpLRF_ldgv {P : Program} {ops : Array Oper} {rest : List Oper} {o : Oper} {a : Act} {w : World} {n l : Nat} {Q : Exit → Act → World → Prop} {d : TypeDesc} (hw : Region.wanted o (yielded ops a.tmps) = true) (ty : TypeId) (x : Operand) (ho : o.op = .load ty x)
    (g off : Nat) (hx : a.eval x = .pointer (some ⟨g, off, none⟩)) (cs : List Value) (hg : w.rangeAt g off cs)
    (hu : P.underlying ty = some d) (hd : d.isRow = true) (hi : (P.info? ty).map (·.size) = some cs.length)
    (h : wpListIn (Fence.wide.inRound l) n P ops Q rest (a.put o.dst (.agg cs.toArray)) w) : wpListIn (Fence.wide.inRound l) n P ops Q (o :: rest) a w :=
  wpListIn_step fun _ hK => by
    rw [if_pos hw]
    exact wpInR_op (fun c q => by rw [ho] at q; cases q) (wpI_op (wp_load_mid ty x ho g off hx cs _ hg hu hd hi (hK _ _ h)))
theorem wpLRF_stv {P : Program} {ops : Array Oper} {rest : List Oper} {o : Oper} {a : Act} {w : World} {n l : Nat} {Q : Exit → Act → World → Prop} (hgd : o.guard = none) (ty : TypeId) (x y : Operand) (ho : o.op = .store ty x y)
    (g : Nat) (hx : a.eval x = .pointer (some ⟨g, 0, none⟩)) {t : TypeId} {old cs : List Value} (hy : a.eval y = .agg cs.toArray) (hg : CellsAt w g t old)
    (hi : (P.info? ty).map (·.size) = some cs.length) (hl : old.length = cs.length) (h1 : ∀ v ∈ cs, v.oneCell' = true)
    (h : wpListIn (Fence.wide.inRound l) n P ops Q rest (a.put o.dst undef) (w.setRow g cs.toArray)) : wpListIn (Fence.wide.inRound l) n P ops Q (o :: rest) a w :=
  wpListIn_plain hgd fun _ hK => wpInR_op (fun c q => by rw [ho] at q; cases q) (wpI_op (wp_stvE ty x y ho g hx hy hg hi hl h1 (hK _ _ h)))
theorem wpIn_thenN {F : Fence} {n : Nat} {P : Program} {c : Code} {K : Act → World → Prop} {Q : Exit → Act → World → Prop} {a : Act} {w : World} (h : c.wpIn F n P (Exit.then K (fun _ _ _ => False)) a w) : c.wpIn F n P (Exit.then K Q) a w := wpIn_mono h (fun e a w h => by cases e <;> first | exact h | exact h.elim)
end Go.Proofs.Ytnmjplngbleopaa
