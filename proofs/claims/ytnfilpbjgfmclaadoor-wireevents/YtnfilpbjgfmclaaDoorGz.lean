/- Noughts that are appended to bytes of the call's own ('append(x, make([]byte, 11)...)'). -/
import Derived.Test.YtnfilpbjgfmclaaDoorGd
namespace Go.Proofs.YtnfilpbjgfmclaaDoor
open Go.RowKit
set_option maxRecDepth 20000
set_option linter.unusedSimpArgs false

theorem zero11 : Builtin.zeroCells #[.int .u8 0] 11 = row .u8 (List.replicate 11 0) := by kernel_rfl
theorem wrap11 : IntKind.i64.wrap 11 = 11 := by rw [IntKind.wrap_i64]; rfl
theorem asInt11 (P : Program) (w : World) : (asInt (.int .i64 11)).run P w = .ok 11 w := by simp [asInt, asIntOf]
set_option maxHeartbeats 1000000 in
theorem run_app_zeros (w : World) (base : Nat) (v : Value) (z : List Int) (ty : TypeId) (hown : OwnB w base v z) (h0 : 0 < z.length) (hln : z.length ≤ 4000000) (hbase : base ≤ w.heap.size) :
    ∃ v' w', (Builtin.append_ #[31, 3] ty #[v, .int .i64 11]).run Tryd.prog w = .ok v' w' ∧ OwnB w' base v' (z ++ List.replicate 11 0) ∧ w.grownBy w' v.ownBlock := by
  obtain ⟨i0, hi, hz0, hz1, hz2⟩ := info_parts infoU8
  have hzc : (Value.int IntKind.u8 0).cells = #[.int .u8 0] := rfl
  have hai := fun wx => asInt11 Tryd.prog wx
  rcases hown.2 with ⟨_, h⟩ | ⟨g, cap, cur, rfl, hbg, hg, hnc, hcm, hcs, htake⟩
  · omega
  · rw [Nat.mul_one] at hcs htake
    by_cases hroom : z.length + 11 ≤ cap
    · have hst := run_storeCells_at Tryd.prog g z.length 5 ((List.replicate 11 (0 : Int)).map (Value.int .u8)) 0 cur w hg (by simp; omega) (by simp [Value.oneCell'])
      simp only [Nat.add_zero] at hst
      obtain ⟨N, hN⟩ : ∃ q, (List.replicate 11 (0 : Int)).map (Value.int .u8) = q := ⟨_, rfl⟩
      have hz11 : Builtin.zeroCells #[.int .u8 0] 11 = N.toArray := by rw [← hN]; exact zero11
      have hNl : N.length = 11 := by rw [← hN]; rfl
      rw [hN] at hst
      have hr : (Builtin.append_ #[31, 3] ty #[.slice (some ⟨g, 0, none⟩) z.length cap, .int .i64 11]).run Tryd.prog w = .ok (.slice (some ⟨g, 0, none⟩) (z.length + 11) cap) (w.setRow g (cur.toList.take z.length ++ N ++ cur.toList.drop (z.length + N.length)).toArray) := by
        simp [Builtin.append_, run_underlying Tryd.underlying31, run_underlying Tryd.underlying3, sizeOf, typeInfo, zeroValue, hi, hz0, hz1, hz2, hai, wrap11, hzc, hz11, hroom, Addr.add_lit, hst]
      refine ⟨_, _, hr, ⟨by simp, .inr ⟨g, cap, _, by simp, hbg, setRow_heap w g cur _ 5 _ hg, by simpa using hroom, hcm, ?_, ?_⟩⟩, ⟨rfl, rfl, rfl, by simp, fun k _ hk => setRow_other w g k _ (fun e => hk (by simp [Value.ownBlock, e]))⟩⟩
      · simp only [List.size_toArray, List.length_append, List.length_take, List.length_drop, Array.length_toList]
        omega
      · rw [htake, List.map_append, hN]
        have : (z.map (Value.int .u8) ++ N).length = (z ++ List.replicate 11 0).length * 1 := by simp [hNl]
        rw [← this]
        exact List.take_left
    · have holds : ∀ j u, (z.map (Value.int .u8))[j]? = some u → w.cell? ((⟨g, 0, none⟩ : Addr).add j) = some u := hown.cells (g := g) rfl
      have hfo := run_firstCells_some (P := Tryd.prog) w.drew 1 z.length ⟨g, 0, none⟩ z.length cap (z.map (Value.int .u8)) (by simp) (by simpa using holds)
      have h63' : ¬ (9223372036854775807 < ((z.length : Int) + 11)) := by omega
      have h63b : ¬ (9223372036854775807 < ((z.length : Int) + max 11 0)) := by omega
      have hfit := growslice_fits (need := z.length + 11) (old := cap) (bytes := 1) (by omega) (by omega)
      have h48' : ¬ (281474976710656 < Builtin.nextslicecap (z.length + 11) cap) := by omega
      obtain ⟨N, hN⟩ : ∃ q, (List.replicate 11 (0 : Int)).map (Value.int .u8) = q := ⟨_, rfl⟩
      have hz11 : Builtin.zeroCells #[.int .u8 0] 11 = N.toArray := by rw [← hN]; exact zero11
      have hr : (Builtin.append_ #[31, 3] ty #[.slice (some ⟨g, 0, none⟩) z.length cap, .int .i64 11]).run Tryd.prog w = .ok (.slice (some ⟨w.heap.size, 0, none⟩) (z.length + 11) (grownCap w (z.length + 11) cap 5)) (w.drew.alloc (.cells ((z.map (Value.int .u8)).toArray ++ N.toArray ++ Builtin.zeroCells #[.int .u8 0] (grownCap w (z.length + 11) cap 5 - (z.length + 11))) 5)) := by
        simp [Builtin.append_, run_underlying Tryd.underlying31, run_underlying Tryd.underlying3, sizeOf, typeInfo, zeroValue, hi, hz0, hz1, hz2, hai, wrap11, hzc, hz11, hroom, h63', h63b, h48', Question.forced, hfo, newRow, grownCap]
        congr 2
        apply Array.ext'
        simp [List.append_assoc]
      have hge := grownCap_ge w (z.length + 11) cap 5
      have hcm' : grownCap w (z.length + 11) cap 5 ≤ maxLen := grownCap_le_maxLen w (z.length + 11) cap 5 (by simp only [maxLen]; omega)
      have hNl : N.length = 11 := by rw [← hN]; rfl
      refine ⟨_, _, hr, ⟨by simp, .inr ⟨w.heap.size, _, _, by simp, hbase, heap_alloc_new w.drew _, by simpa using hge, hcm', ?_, ?_⟩⟩, ⟨rfl, rfl, rfl, by simp, fun k hk _ => Below.heap_alloc w.drew _ k hk⟩⟩
      · simp only [Array.size_append, List.size_toArray, size_zeroCells, List.length_map, hNl]
        simp; omega
      · simp only [Array.toList_append, List.append_assoc, List.map_append, hN]
        rw [← List.append_assoc]
        have : (z.map (Value.int .u8) ++ N).length = (z ++ List.replicate 11 0).length * 1 := by simp [hNl]
        rw [← this]
        exact List.take_left
theorem wpList_appz {w : World} {ops : Array Oper} {rest : List Oper} {o : Oper} {a : Act} {Q : Exit → Act → World → Prop} (hgd : o.guard = none) (s x : Operand)
    (ho : o.op = .call { callee := .builtin .append, args := #[s, x], argTypes := #[31, 3] }) (base : Nat) (v : Value) (zs : List Int) (hs : a.eval s = v) (hown : OwnB w base v zs)
    (hx : a.eval x = .int .i64 11) (h0 : 0 < zs.length) (hln : zs.length ≤ 4000000) (hbase : base ≤ w.heap.size)
    (h : ∀ v' w', OwnB w' base v' (zs ++ List.replicate 11 0) → w.grownBy w' v.ownBlock → wpList Tryd.prog ops Q rest (a.put o.dst v') w') : wpList Tryd.prog ops Q (o :: rest) a w :=
  wpList_plain hgd fun _ hK => by
    obtain ⟨v', w', hr, h2, h3⟩ := run_app_zeros w base v zs o.type hown h0 hln hbase
    unfold Oper.wp execOp
    simp only [ho, resolve, invoke, builtin, Sem.run_bind, Sem.run_pure, Result.andThen_ok, List.map_toArray, List.map_cons, List.map_nil, hs, hx, hr]
    exact hK _ _ (h v' w' h2 h3)
end Go.Proofs.YtnfilpbjgfmclaaDoor
