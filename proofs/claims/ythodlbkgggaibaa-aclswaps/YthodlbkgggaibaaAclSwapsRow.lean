/- AclSwaps holds of every events, two more, and a vector: two that are written in the other order tell the same, if neither saw the other one; conditions: none. -/
import Derived.Test.YthodlbkgggaibaaGoC
import Derived.Test.YthodlbkgggaibaaGo2
import Derived.Test.YthodlbkgggaibaaMAp1AbkAp2Gate6AclSwapsW
namespace Go.Proofs.Ythodlbkgggaibaa.aclSwaps
open Go.ChangeShapes Go.WideShapes Go.ChangeAt Go.RowKit
set_option maxRecDepth 100000
theorem contract (H : Type) (enc : TypeId × Value → H) (W : World) (base : Nat) (args : Array Value) (ds gs : List (DataW H)) (before : List MemPlace)
    (hval : ∀ (j : Nat) t v, Try.f6.params[j]? = some t → args[j]? = some v → Value.okWide Try.prog W .any base t v)
    (hW : DataW.Whole enc Try.prog Try.f6.params.toList Rows.aclSwapsSpec.vars false W args.toList ds gs before) (_ : laidMetH Try.prog Rows.aclSwapsRow.laid W) :
    Calls Try.prog 6 args W fun e W' => ∃ v, e = .returned v ∧ Rows.aclSwapsSpec.post enc Try.prog Try.f6 false true false false W args v W' := by
  have hW' := hW
  obtain ⟨p, q, hA0, hV, rfl, hfz, hnd⟩ := hW
  have hA : DataW.TrodAll enc Try.prog W 0 (fun _ => true) true Try.f6.params.toList args.toList ds p := hA0
  rw [Try.params6] at hA hval
  obtain ⟨v0, vs0, d0, ds0, p0, q0, hargs, rfl, rfl, h0, r0⟩ := trodAll_cons hA
  obtain ⟨v1, vs1, d1, ds1, p1, q1, rfl, rfl, rfl, h1, r1⟩ := trodAll_cons r0
  obtain ⟨v2, vs2, d2, ds2, p2, q2, rfl, rfl, rfl, h2, r2⟩ := trodAll_cons r1
  obtain ⟨rfl, rfl, rfl⟩ := trodAll_nil r2
  obtain rfl : args = #[v0, v1, v2] := by cases args; simp_all
  obtain ⟨rfl, rfl⟩ := trodVars_none hV
  have k0 := h0
  have lt0 : ∀ y ∈ p0, y.block < W.heap.size := by obtain ⟨m, hm⟩ := k0; exact DataW.trod_lt m _ _ _ hm
  have k1 := h1
  have lt1 : ∀ y ∈ p1, y.block < W.heap.size := by obtain ⟨m, hm⟩ := k1; exact DataW.trod_lt m _ _ _ hm
  have k2 := h2
  have lt2 : ∀ y ∈ p2, y.block < W.heap.size := by obtain ⟨m, hm⟩ := k2; exact DataW.trod_lt m _ _ _ hm
  obtain ⟨x0, len0, cap0, rfl⟩ := okWide_slice Try.underlying22 (hval 0 22 v0 rfl rfl)
  obtain ⟨z0, hz0⟩ := open_evsC h0
  obtain ⟨E1, F1, rfl, hE1, hF1⟩ := open_evs2 (hval 1 46 v1 rfl rfl) h1
  obtain ⟨l2, hl2, rfl, hu2⟩ := open_rowC Try.underlying25 Try.underlying23 (by kernel_rfl) (by kernel_rfl) (hval 2 25 v2 rfl rfl) h2
  clear hA0
  refine (asw_walk x0 len0 cap0 z0 E1 F1 l2 W hz0 hE1 hF1 hl2).mono fun e W' ⟨he, bel⟩ => ?_
  subst he
  exact ⟨_, rfl, _, _, _, [], _, [], hW', trodAll_mk1 (shut_bool Try.underlying4 _), (trodAll_cons_mk (Below.trod laidOut (by kernel_rfl) (of_decide_eq_true (by kernel_rfl)) k0 bel lt0) (trodAll_cons_mk (Below.trod laidOut (by kernel_rfl) (of_decide_eq_true (by kernel_rfl)) k1 bel lt1) (trodAll_cons_mk (Below.trod laidOut (by kernel_rfl) (of_decide_eq_true (by kernel_rfl)) k2 bel lt2) trodAll_mk0))), rfl, bel.frame _, fun h => by cases h⟩

theorem laid_met (os : Os) : laidMet Try.prog Rows.aclSwapsRow.laid ((laidWorld os).forCall (fun _ _ => 0) ⟨#[], #[.slice none 0 0, .agg (evZC.cells ++ evZC.cells).toArray, .agg (row .u32 (List.replicate 8 0))], []⟩).memory := laid_none _
theorem reads (os : Os) {H : Type} (enc : TypeId × Value → H) : ∃ places ds, DataW.whole enc Try.prog ((laidWorld os).forCall (fun _ _ => 0) ⟨#[], #[.slice none 0 0, .agg (evZC.cells ++ evZC.cells).toArray, .agg (row .u32 (List.replicate 8 0))], []⟩).memory Try.f6.params.toList Rows.aclSwapsSpec.vars false ((#[.slice none 0 0, .agg (evZC.cells ++ evZC.cells).toArray, .agg (row .u32 (List.replicate 8 0))] : Array Value).toList) 8 = some (ds, [], places) :=
  ⟨[], [.nil, .agg (List.replicate 2 (.agg [.agg [.lit (.int .u8 0), .lit (.int .u32 0)], .agg (List.replicate 8 (.lit (.int .u32 0))), .lit (.int .u8 0), .agg [.lit (.int .u8 0), .lit (.int .u32 0)], .lit (.bool false), .lit (.int .u8 0), .lit (.int .u8 0), .lit (.int .u8 0)])), .agg (List.replicate 8 (.lit (.int .u32 0)))], by kernel_rfl⟩

set_option maxRecDepth 100000 in
theorem lifted (os : Os) (started : os.Started) (H : Type) (enc : TypeId × Value → H) (F : Stop.Interp) :
    ReturnsInHanded {} Try.checked os 6 .any ((OpenSpec.ofChange Rows.aclSwapsSpec).preRow enc Try.prog Try.f6 Rows.aclSwapsRow.domain false Rows.aclSwapsRow.laid) (((OpenSpec.ofChange Rows.aclSwapsSpec).at F).post enc Try.prog Try.f6 false true false false) := by
  obtain ⟨places, ds, hx⟩ := reads os enc
  refine returnsInHanded_of_row (C := Try.checked) (s := OpenSpec.ofChange Rows.aclSwapsSpec) own started (by kernel_rfl) Try.func6
    (witness_row_at (enc := enc) (C := Try.checked) false (laidWorld os) #[.slice none 0 0, .agg (evZC.cells ++ evZC.cells).toArray, .agg (row .u32 (List.replicate 8 0))] rfl (by kernel_rfl) (by kernel_rfl) (by kernel_rfl)
      (OpenSpec.preRow_of_cond 8 hx (by kernel_rfl) (fun k hk => by cases hk) (by kernel_rfl) (laid_met os))) ?_
  intro W base args ds gs before hval hW _ _ _ hL _ _
  exact contract H enc W base args ds gs before hval hW hL

theorem said : Rows.AclSwapsSaid :=
  OpenClaim.holds_of_cond 6 Try.f6 rfl rfl rfl rfl rfl rfl rfl ⟨rfl, rfl, rfl, rfl, rfl⟩ rfl rfl rfl rfl rfl (by kernel_rfl) Try.func6 (by kernel_rfl)
    (of_decide_eq_true (by kernel_rfl)) (by unfold Func.isWrapper; first | (rw [if_pos (by decide +kernel)]; kernel_rfl) | (rw [if_neg (by decide +kernel)]; exact ⟨rfl, rfl⟩))
    (fun os started H enc _ F => by rw [OpenClaim.pre_eq_preRow]; exact lifted os started H enc F)

end Go.Proofs.Ythodlbkgggaibaa.aclSwaps
namespace Go.Proofs.Ythodlbkgggaibaa
theorem aclSwaps_holds : Rows.AclSwapsSaid := aclSwaps.said
end Go.Proofs.Ythodlbkgggaibaa
