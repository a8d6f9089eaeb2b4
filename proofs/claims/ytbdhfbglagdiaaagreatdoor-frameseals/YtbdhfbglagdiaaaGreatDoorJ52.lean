/- FrameSeals holds of every asking: what the program seals, or its error, is just what the reference does; conditions: none (both tables lie as their initialisers lay them). -/
import Derived.Test.YtbdhfbglagdiaaaGreatDoorCards
import Derived.Test.YtbdhfbglagdiaaaGreatDoorTie
import Derived.Test.YtbdhfbglagdiaaaGreatDoorJ10
import Derived.Test.YtbdhfbglagdiaaaGreatDoorJ51
namespace Go.Proofs.YtbdhfbglagdiaaaGreatDoor.frameSeals
set_option maxRecDepth 20000
open Go.ChangeShapes Go.WideShapes Go.ChangeAt Go.RowKit
theorem contract (H : Type) (enc : TypeId × Value → H) (W : World) (base : Nat) (args : Array Value) (ds gs : List (DataW H)) (before : List MemPlace)
    (hval : ∀ (j : Nat) t v, Tryz.f3.params[j]? = some t → args[j]? = some v → Value.okWide Tryz.prog W .any base t v)
    (hW : DataW.Whole enc Tryz.prog Tryz.f3.params.toList Rows.frameSealsSpec.vars false W args.toList ds gs before) (hL : laidMetH Tryz.prog Rows.frameSealsRow.laid W) :
    Calls Tryz.prog 3 args W fun e W' => ∃ v, e = .returned v ∧ Rows.frameSealsSpec.post enc Tryz.prog Tryz.f3 false true false false W args v W' := by
 have hW' := hW
 obtain ⟨p, q, hA0, hV, rfl, hfz, hnd⟩ := hW
 have hA : DataW.TrodAll enc Tryz.prog W 0 (fun _ => true) true Tryz.f3.params.toList args.toList ds p := hA0
 rw [Tryz.params3] at hA hval
 obtain ⟨v0, vs0, d0, ds0, p0, q0, hargs, rfl, rfl, h0, r0⟩ := trodAll_cons hA
 obtain ⟨rfl, rfl, rfl⟩ := trodAll_nil r0
 obtain rfl : args = #[v0] := by cases args; simp_all
 obtain ⟨rfl, rfl⟩ := trodVars_none hV
 have k0 := h0
 have lt0 : ∀ y ∈ p0, y.block < W.heap.size := by obtain ⟨m, hm⟩ := k0; exact DataW.trod_lt m _ _ _ hm
 obtain ⟨Q0, xw0, lw0, cw0, ws0, rfl, hQ0⟩ := open_ask (hval 0 35 v0 rfl rfl) h0
 clear hA0
 refine (frameSeals_walk Q0 xw0 lw0 cw0 ws0 W hQ0 (tables2 hL).1 (tables2 hL).2).mono fun e W' ⟨he, bel⟩ => ?_
 subst he
 exact ⟨_, rfl, _, _, _, [], _, [], hW', trodAll_mk1 (shut_bool Tryz.underlying4 _), (trodAll_cons_mk (Below.trod laidOut (by kernel_rfl) (of_decide_eq_true (by kernel_rfl)) k0 bel lt0) trodAll_mk0), rfl, bel.frame _, fun h => by cases h⟩
theorem laid_met (os : Os) : laidMet Tryz.prog Rows.frameSealsRow.laid ((laidWorld2 os).forCall (fun _ _ => 0) ⟨#[], #[.agg aqZ.cells.toArray], []⟩).memory :=
 laidMet_of_run' 8 (by kernel_rfl) (by kernel_rfl)
theorem reads (os : Os) {H : Type} (enc : TypeId × Value → H) : ∃ places ds, DataW.whole enc Tryz.prog ((laidWorld2 os).forCall (fun _ _ => 0) ⟨#[], #[.agg aqZ.cells.toArray], []⟩).memory Tryz.f3.params.toList Rows.frameSealsSpec.vars false ((#[.agg aqZ.cells.toArray] : Array Value).toList) 8 = some (ds, [], places) :=
 ⟨[], [.agg [.lit (.int .u8 0), .agg (List.replicate 32 (.lit (.int .u8 0))), .lit (.int .u32 0), .agg (List.replicate 32 (.lit (.int .u8 0))), .agg [.lit (.int .u8 0), .lit (.int .u32 0)], .nil, .agg [.agg [.lit (.int .u8 0), .lit (.int .u32 0)], .agg (List.replicate 8 (.lit (.int .u32 0))), .lit (.int .u8 0), .agg [.lit (.int .u8 0), .lit (.int .u32 0)], .lit (.bool false), .lit (.int .u8 0), .lit (.int .u8 0), .lit (.int .u8 0)]]], by kernel_rfl⟩
set_option maxRecDepth 100000 in
theorem lifted (os : Os) (started : os.Started) (H : Type) (enc : TypeId × Value → H) (F : Stop.Interp) :
    ReturnsInHanded {} Tryz.checked os 3 .any ((OpenSpec.ofChange Rows.frameSealsSpec).preRow enc Tryz.prog Tryz.f3 Rows.frameSealsRow.domain false Rows.frameSealsRow.laid) (((OpenSpec.ofChange Rows.frameSealsSpec).at F).post enc Tryz.prog Tryz.f3 false true false false) := by
 obtain ⟨places, ds, hx⟩ := reads os enc
 refine returnsInHanded_of_row (C := Tryz.checked) (s := OpenSpec.ofChange Rows.frameSealsSpec) own started (by kernel_rfl) Tryz.func3
  (witness_row_at (enc := enc) (C := Tryz.checked) false (laidWorld2 os) #[.agg aqZ.cells.toArray] rfl (by kernel_rfl) (by kernel_rfl) (by kernel_rfl)
   (OpenSpec.preRow_of_cond 8 hx (by kernel_rfl) (fun k hk => by cases hk) (by kernel_rfl) (laid_met os))) ?_
 intro W base args ds gs before hval hW _ _ _ hL _ _
 exact contract H enc W base args ds gs before hval hW hL
set_option maxHeartbeats 8000000 in
theorem said : Rows.FrameSealsSaid :=
 OpenClaim.holds_of_cond 3 Tryz.f3 rfl rfl rfl rfl rfl rfl rfl ⟨rfl, rfl, rfl, rfl, rfl⟩ rfl rfl rfl rfl rfl (by as_aux_lemma => kernel_rfl) Tryz.func3 (by as_aux_lemma => kernel_rfl)
  (of_decide_eq_true (by as_aux_lemma => kernel_rfl)) (by unfold Func.isWrapper; first | (rw [if_pos (by decide +kernel)]; kernel_rfl) | (rw [if_neg (by decide +kernel)]; exact ⟨rfl, rfl⟩))
  (fun os started H enc _ F => by rw [OpenClaim.pre_eq_preRow]; exact lifted os started H enc F)
theorem plain (f : FuncId) (fn : Func) (hf : Tryz.pinned.checked.prog.funcNamed "escritoire/escritoirelaw12.FrameSeals" = some f) (hfn : Tryz.pinned.checked.prog.funcs[f]? = some fn) :
    true = Tryz.pinned.checked.prog.looks [] ∧ ∀ (j : Nat) t, fn.params[j]? = some t → Tryz.pinned.checked.prog.wantsStandIn t = false := by
 obtain rfl : f = 3 := Option.some.inj ((show Tryz.prog.funcNamed "escritoire/escritoirelaw12.FrameSeals" = some 3 by kernel_rfl).symm.trans hf) |>.symm
 obtain rfl : fn = Tryz.f3 := (Option.some.inj (Tryz.func3.symm.trans hfn)).symm
 refine ⟨by kernel_rfl, fun j t ht => ?_⟩
 rw [Tryz.params3] at ht
 have hm : t = 35 := by have h0 := Array.mem_of_getElem? ht; simp at h0; first | exact h0 | (rcases h0 with h | h <;> simp [h]) | (rcases h0 with h | h | h <;> simp [h]) | (rcases h0 with h | h | h | h <;> simp [h])
 subst hm
 exact (show Tryz.prog.wantsStandIn 35 = false by kernel_rfl)
theorem card : Rows.FrameSealsCardSaid :=
 Claim7.holds_tied_plain_at .later [] _ _ _ _ said (fun _ h => by cases h) (by as_aux_lemma => kernel_rfl) (fun _ h => by cases h) frameSeals_row_tie rfl ⟨rfl, rfl⟩ (by as_aux_lemma => kernel_rfl) rfl plain (by as_aux_lemma => kernel_rfl)
end Go.Proofs.YtbdhfbglagdiaaaGreatDoor.frameSeals
namespace Go.Proofs.YtbdhfbglagdiaaaGreatDoor
theorem frameSeals_holds : Rows.FrameSealsCardSaid := frameSeals.card
end Go.Proofs.YtbdhfbglagdiaaaGreatDoor
