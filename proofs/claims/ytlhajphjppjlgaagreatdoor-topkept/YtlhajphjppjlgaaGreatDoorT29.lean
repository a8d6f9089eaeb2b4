/- Eqp An5 An6 Eqd Gate3 Gate4 Kfz Kf -/
import Derived.Test.YtlhajphjppjlgaaGreatDoorT02
import Derived.Laws.BitsLemmas
import Derived.Laws.Closers25b
import Derived.Test.YtlhajphjppjlgaaGreatDoorT28
import Derived.Lib.SlBytesConst
import Derived.Test.YtlhajphjppjlgaaGreatDoorT01
import Derived.Laws.StructEq
import Derived.OrdersHeld
import Derived.Deep.RegionHeld
import Derived.StillTail
import Derived.Deep.MidRow
import Derived.Test.YtlhajphjppjlgaaGreatDoorT27
namespace Go.Proofs.YtlhajphjppjlgaaGreatDoor
open Go.RowKit
set_option maxRecDepth 20000
structure VeilE (p : Prop) : Prop where
  out : p
end Go.Proofs.YtlhajphjppjlgaaGreatDoor
namespace Go.Proofs.YtlhajphjppjlgaaGreatDoor
open Go.RowKit
set_option maxRecDepth 20000
set_option linter.unusedSimpArgs false
theorem tagL_in (k n o h : List Int) (ho : ∀ v ∈ o, isB v) (hh : ∀ v ∈ h, isB v) : ∀ v ∈ tagL k n o h, isB v := by
  unfold tagL
  rw [poly_val (onceL k n) (framedL o h) (onceL_length k n) (fun v hv => joinK_u8 _ 16 v (List.mem_of_mem_take hv)) (framedL_in o h ho hh)]
  exact le16_in _
theorem xorL_in (k n : List Int) (c : Int) (z : List Int) (hz : ∀ v ∈ z, isB v) : ∀ v ∈ xorL k n c z, isB v := by
  intro v hv
  obtain ⟨i, hi, rfl⟩ := List.getElem_of_mem hv
  have h := xorL_get k n c z i (by rw [xorL_length] at hi; exact hi)
  rw [List.getElem?_eq_getElem hi, Option.getD_some] at h
  rw [h]
  exact xor_u8 (getD_u8 hz i) (strm_u8 k n c i)
end Go.Proofs.YtlhajphjppjlgaaGreatDoor
namespace Go.Proofs.YtlhajphjppjlgaaGreatDoor
open Go.RowKit
set_option maxRecDepth 20000
set_option linter.unusedSimpArgs false
theorem sealL_length (k n o b : List Int) : (sealL k n o b).length = b.length + 16 := by
  unfold sealL
  rw [List.length_append, xorL_length, show (tagL k n o (xorL k n 1 b)).length = 16 from polyL_length _ _]
theorem sealL_in (k n o b : List Int) (ho : ∀ v ∈ o, isB v) (hb : ∀ v ∈ b, isB v) : ∀ v ∈ sealL k n o b, isB v := by
  intro v hv
  unfold sealL at hv
  rcases List.mem_append.1 hv with h | h
  · exact xorL_in k n 1 b hb v h
  · exact tagL_in k n o _ ho (xorL_in k n 1 b hb) v h
end Go.Proofs.YtlhajphjppjlgaaGreatDoor
namespace Go.Proofs.YtlhajphjppjlgaaGreatDoor
open Go.RowKit
set_option maxRecDepth 20000
set_option linter.unusedSimpArgs false
theorem part_midE {P : Program} (w : World) (t : TypeId) (n : Nat) (d : TypeDesc) (cs : List Value) (off : Nat) (hu : P.underlying t = some d) (hd : (match d with | .struct _ | .array _ _ => true | _ => false) = true) (hi : (P.info? t).map (·.size) = some n) :
    (part t cs.toArray off).run P w = .ok (.agg ((cs.drop off).take n).toArray) w := by
  cases hq : P.info? t with
  | none => simp [hq] at hi
  | some i =>
    have hs : i.size = n := by simpa [hq] using hi
    cases d <;> simp_all [part, isAgg, run_underlying hu, sizeOf, typeInfo, List.extract]
theorem part_one {P : Program} (w : World) (t : TypeId) (k : IntKind) (cs : List Value) (off : Nat) (v : Value) (hu : P.underlying t = some (.int k)) (hv : cs[off]? = some v) : (part t cs.toArray off).run P w = .ok v w := by
  simp [part, isAgg, run_underlying hu, hv]
theorem eqFields_2 {P : Program} (w : World) (d : Nat) (xs ys : Array Value) (t1 t2 : TypeId) (o1 o2 : Nat) (a1 b1 a2 b2 : Value) (r1 r2 : Bool) (h1 : (part t1 xs o1).run P w = .ok a1 w) (k1 : (part t1 ys o1).run P w = .ok b1 w) (h2 : (part t2 xs o2).run P w = .ok a2 w) (k2 : (part t2 ys o2).run P w = .ok b2 w)
    (e1 : (Op.equalIn d t1 a1 b1).run P w = .ok r1 w) (e2 : (Op.equalIn d t2 a2 b2).run P w = .ok r2 w) : ∀ L : List Field, L.map (fun f => (f.name != "_", f.type, f.offset)) = [(true, t1, o1), (true, t2, o2)] → (Op.eqFields d xs ys L).run P w = .ok (r1 && r2) w
  | [], hf => by simp at hf
  | [_], hf => by simp at hf
  | _ :: _ :: _ :: _, hf => by simp at hf
  | [f, g], hf => by
    simp only [List.map_cons, List.map_nil, List.cons.injEq, Prod.mk.injEq, and_true, bne_iff_ne, ne_eq] at hf
    obtain ⟨⟨q1, q2, q3⟩, p1, p2, p3⟩ := hf
    cases r1 <;> cases r2 <;> simp only [Op.eqFields, q1, q2, q3, p1, p2, p3, ne_eq, not_false_eq_true, if_true, Sem.run_bind, h1, h2, k1, k2, e1, e2, Result.andThen_ok, Bool.not_true, Bool.not_false, Bool.false_eq_true, if_false, Sem.run_pure, Bool.and_true, Bool.and_false]
theorem dot_fields : (Tryz.prog.fieldsOf 28).toList.map (fun f => (f.name != "_", f.type, f.offset)) = [(true, 5, 0), (true, 26, 1)] := by kernel_rfl
theorem dot_under : Tryz.prog.underlying 28 = some (.struct (Tryz.prog.fieldsOf 28)) := by kernel_rfl
theorem dot_held : Tryz.prog.stoodInHeld 28 = false := by kernel_rfl
theorem dot_eqIn (d : Nat) (a s a' s' : Int) (wx : World) : (Op.equalIn (d + 1 + 1) 28 (.agg (dotC a s).toArray) (.agg (dotC a' s').toArray)).run Tryz.prog wx = .ok ((a == a') && (s == s')) wx := by
  rw [run_equalIn_struct wx _ 28 _ _ dot_under dot_held]
  exact eqFields_2 wx _ _ _ _ _ _ _ (.int .u8 a) (.int .u8 a') (.int .u32 s) (.int .u32 s') _ _ (part_one wx _ _ (dotC a s) 0 _ Tryz.underlying5 rfl) (part_one wx _ _ (dotC a' s') 0 _ Tryz.underlying5 rfl) (part_one wx _ _ (dotC a s) 1 _ Tryz.underlying26 rfl) (part_one wx _ _ (dotC a' s') 1 _ Tryz.underlying26 rfl)
    (run_equalIn_int wx d 5 .u8 .u8 a a' Tryz.underlying5) (run_equalIn_int wx d 26 .u32 .u32 s s' Tryz.underlying26) _ dot_fields
theorem dot_eql (a s a' s' : Int) (wx : World) : (binOp BinOp.eql 28 (.agg (dotC a s).toArray) (.agg (dotC a' s').toArray)).run Tryz.prog wx = .ok (.bool ((a == a') && (s == s'))) wx := by
  rw [run_eql_struct, dot_eqIn 9998]; rfl
end Go.Proofs.YtlhajphjppjlgaaGreatDoor
namespace Go.Proofs.YtlhajphjppjlgaaGreatDoor
open Go Go.RowKit
section
variable {P : Program} {ops : Array Oper} {Q : Exit → Act → World → Prop} {md : Region.Mode} {T S : World → Prop} {D : Nat}
def wpAnyT (P : Program) (md : Region.Mode) (ops : Array Oper) (Q : Exit → Act → World → Prop) (T S : World → Prop) (D : Nat) : Nat → Array Bool → Act → World → Prop
  | 0, listed, a, w => Region.ready md ops listed = [] ∧ Q .normal a w
  | fuel + 1, listed, a, w =>
    (Region.ready md ops listed = [] → Q .normal a w) ∧
    ∀ i ∈ Region.ready md ops listed, wpOp P ops Q i (fun a' w' => (T w' ∧ ((listed.setIfInBounds i true).getD D true = false → S w')) ∧ wpAnyT P md ops Q T S D fuel (listed.setIfInBounds i true) a' w') a w
theorem wpAny_of_gateT : ∀ (fuel : Nat) (listed : Array Bool) (a : Act) (w : World), wpAnyT P md ops Q T S D fuel listed a w → wpAny P md ops Q fuel listed a w
  | 0, _, _, _, h => h
  | fuel + 1, _, _, _, h => ⟨h.1, fun i hi => wpOp_mono (fun a' w' h' => wpAny_of_gateT fuel _ a' w' h'.2) (h.2 i hi)⟩
theorem wpAnyT_first {i : Nat} {oi : Oper} {v : Value} {U : World → Prop} (hi : ops[i]? = some oi) (hsel : ∀ (j : Nat) (o : Oper) cs b, ops[j]? = some o → o.op ≠ .select cs b)
    (hQ : ∀ c a w, Q (.panic c) (a.put oi.dst v) w → Q (.panic c) a w) (hD : i ≠ D)
    (hU : (∀ w, T w → U w) ∨ ((∀ w, S w → U w) ∧ ∃ oD, ops[D]? = some oD ∧ ∃ e ∈ oD.after, Region.binds md e = true ∧ e.on = i)) :
    ∀ (fuel : Nat) (listed : Array Bool) (a : Act) (w : World),
      (∀ j oj, ops[j]? = some oj → j ≠ i → listed.getD j true = false → (∀ e ∈ oj.after, Region.binds md e = true → e.on ≠ i) → oi.apart ops oj = true) →
      i ∈ Region.ready md ops listed → ((∀ w, T w → U w) ∨ listed.getD D true = false) → YieldsIf P ops U oi v a → T w → (listed.getD D true = false → S w) →
      wpAnyT P md ops Q T S D fuel (listed.setIfInBounds i true) (a.put oi.dst v) w → wpAnyT P md ops Q T S D (fuel + 1) listed a w := by
  have hUw : ∀ (listed : Array Bool) w, ((∀ w, T w → U w) ∨ listed.getD D true = false) → T w → (listed.getD D true = false → S w) → U w := fun listed w h1 h0 h2 => by
    rcases h1 with h | h
    · exact h w h0
    · rcases hU with h' | ⟨h', _⟩
      · exact h' w h0
      · exact h' w (h2 h)
  intro fuel
  induction fuel with
  | zero =>
    intro listed a w _ hr hg hy hT hS H
    refine ⟨fun h => (by rw [h] at hr; cases hr), fun j hj => ?_⟩
    by_cases hji : j = i
    · subst hji; exact hy.wpOp hi (hUw listed w hg hT hS) ⟨⟨hT, fun h => hS (by rwa [getD_set_ne true hD] at h)⟩, H⟩
    · have := ready_mono hj hji
      rw [H.1] at this
      cases this
  | succ fuel ih =>
    intro listed a w hfree hr hg hy hT hS H
    refine ⟨fun h => (by rw [h] at hr; cases hr), fun j hj => ?_⟩
    by_cases hji : j = i
    · subst hji; exact hy.wpOp hi (hUw listed w hg hT hS) ⟨⟨hT, fun h => hS (by rwa [getD_set_ne true hD] at h)⟩, H⟩
    · have h1 := H.2 j (ready_mono hj hji)
      obtain ⟨hjun, oj, hoj, hall⟩ := mem_ready.1 hj
      have hnot : ∀ e ∈ oj.after, Region.binds md e = true → e.on ≠ i := fun e he hb heq => by
        have h1 := hall e he hb
        have h0 := (mem_ready.1 hr).1
        rw [heq] at h1
        rcases Nat.lt_or_ge i listed.size with h' | h'
        · simp [h'] at h0 h1; rw [h0] at h1; cases h1
        · simp [Array.getElem?_eq_none h'] at h1
      have h2 := wpOp_putIf hoj (hfree j oj hoj hji hjun hnot) (fun cs b => hsel i oi cs b hi) (fun cs b => hsel j oj cs b hoj) hQ hy h1
      have hfree' : ∀ k ok, ops[k]? = some ok → k ≠ i → (listed.setIfInBounds j true).getD k true = false →
          (∀ e ∈ ok.after, Region.binds md e = true → e.on ≠ i) → oi.apart ops ok = true := fun k ok hk hki hun hno => by
        refine hfree k ok hk hki ?_ hno
        by_cases hjk : j = k
        · subst hjk; exact hjun
        · rw [getD_set_ne true hjk] at hun; exact hun
      have hg' : (∀ w, T w → U w) ∨ (listed.setIfInBounds j true).getD D true = false := by
        rcases hU with h | ⟨_, oD, hoD, e, he, hb, hon⟩
        · exact .inl h
        · rcases hg with h | h
          · exact .inl h
          · refine .inr ?_
            have hjD : j ≠ D := fun e' => by
              subst e'
              obtain rfl : oj = oD := Option.some.inj (hoj.symm.trans hoD)
              exact hnot e he hb hon
            rw [getD_set_ne true hjD]; exact h
      refine wpOp_mono (fun a' w' h3 => ?_) h2
      have hS' : (listed.setIfInBounds j true).getD D true = false → S w' := fun h => h3.2.1.2 (by rw [Array.setIfInBounds_comm _ _ (Ne.symm hji), getD_set_ne true hD]; exact h)
      refine ⟨⟨h3.2.1.1, hS'⟩, ih (listed.setIfInBounds j true) a' w' hfree' (ready_mono hr (Ne.symm hji)) hg' h3.1 h3.2.1.1 hS' ?_⟩
      rw [Array.setIfInBounds_comm _ _ hji]
      exact h3.2.2
theorem wpAnyT_held {i : Nat} {oi : Oper} {v : Value} {fuel : Nat} {listed : Array Bool} {a : Act} {w : World} (hi : ops[i]? = some oi)
    (hs : Region.noSelect ops = true) (hf : Region.free md ops listed i = true) (hr : (Region.ready md ops listed).contains i = true)
    (hQ : ∀ c a w, Q (.panic c) (a.put oi.dst v) w → Q (.panic c) a w) (hD : (i == D) = false) (hT : T w) (hS : listed.getD D true = false → S w) (hw : Region.wanted oi (yielded ops a.tmps) = true)
    (hy : ∀ w, T w → (execOp a.eval oi).run P w = .ok (.value v) w)
    (h : wpAnyT P md ops Q T S D fuel (listed.setIfInBounds i true) (a.put oi.dst v) w) : wpAnyT P md ops Q T S D (fuel + 1) listed a w :=
  wpAnyT_first (U := T) hi (Region.noSelect_spec hs) hQ (by simpa using hD) (.inl fun _ h => h) fuel listed a w (Region.free_spec hi hf) (by simpa using hr) (.inl fun _ h => h) (.inl ⟨hw, hy⟩) hT hS h
theorem wpAnyT_one {i : Nat} {o : Oper} {fuel : Nat} {listed : Array Bool} {a : Act} {w : World} (hi : ops[i]? = some o) (hr : Region.ready md ops listed = [i]) (hw : Region.wanted o (yielded ops a.tmps) = true)
    (h : ∀ K' : Act → World → Prop, Shut (∀ a w, T w → ((listed.setIfInBounds i true).getD D true = false → S w) → wpAnyT P md ops Q T S D fuel (listed.setIfInBounds i true) a w → K' a w) → Oper.wp P o a w K' Q) : wpAnyT P md ops Q T S D (fuel + 1) listed a w :=
  ⟨fun h0 => (by rw [hr] at h0; cases h0), fun j hj => by
    rw [hr] at hj
    obtain rfl : j = i := by simpa using hj
    refine wpOp_step hi (fun K' hK => ?_)
    rw [if_pos hw]
    exact h K' (fun a w h0 h1 h2 => hK a w ⟨⟨h0, h1⟩, h2⟩)⟩
theorem wpAnyT_done {listed : Array Bool} {a : Act} {w : World} (hr : Region.ready md ops listed = []) (h : Q .normal a w) :
    ∀ fuel, wpAnyT P md ops Q T S D fuel listed a w
  | 0 => ⟨hr, h⟩
  | _ + 1 => ⟨fun _ => h, by rw [hr]; simp⟩
theorem wp_region_gateT {id : Nat} {a : Act} {w : World} (T S : World → Prop) (D : Nat) (hm : P.follows .mixedOrders = true)
    (h : wpAnyT P .any ops Q T S D ops.size (Array.replicate ops.size false) a w.drew) : (Code.region id ops true).wp P Q a w :=
  wp_region_any hm (wpAny_of_gateT _ _ _ _ h)
end
end Go.Proofs.YtlhajphjppjlgaaGreatDoor
namespace Go.Proofs.YtlhajphjppjlgaaGreatDoor
open Go Go.RowKit
section
variable {P : Program} {ops : Array Oper} {Q : Exit → Act → World → Prop} {md : Region.Mode} {T S : World → Prop} {D : Nat}
theorem wpAnyT_load {i : Nat} {dst : Option Tmp} {ty : TypeId} {x : Operand} {b o : Nat} {cs : List Value} {d : TypeDesc} {fuel : Nat} {listed : Array Bool} {a : Act} {w : World}
    (hop : (ops[i]?).map (fun o => (o.dst, o.op)) = some (dst, .load ty x)) (hw : (ops[i]?).map (fun o => Region.wanted o (yielded ops a.tmps)) = some true)
    (hs : Region.noSelect ops = true) (hf : Region.free md ops listed i = true) (hr : (Region.ready md ops listed).contains i = true)
    (hQ : ∀ c a w, Q (.panic c) (a.put dst (.agg cs.toArray)) w → Q (.panic c) a w) (hD : (i == D) = false) (hT : T w) (hS : listed.getD D true = false → S w)
    (hx : a.eval x = .pointer (some ⟨b, o, none⟩)) (hc : ∀ w, T w → w.rangeAt b o cs) (hu : P.underlying ty = some d) (hd : d.isRow = true) (hi : (P.info? ty).map (·.size) = some cs.length)
    (h : wpAnyT P md ops Q T S D fuel (listed.setIfInBounds i true) (a.put dst (.agg cs.toArray)) w) : wpAnyT P md ops Q T S D (fuel + 1) listed a w := by
  cases ho : ops[i]? with
  | none => rw [ho] at hop; cases hop
  | some oi =>
    rw [ho] at hop hw
    simp only [Option.map_some, Option.some.injEq, Prod.mk.injEq] at hop hw
    obtain ⟨rfl, hop⟩ := hop
    exact wpAnyT_first (U := T) ho (Region.noSelect_spec hs) hQ (by simpa using hD) (.inl fun _ h => h) fuel listed a w (Region.free_spec ho hf) (by simpa using hr) (.inl fun _ h => h) (yieldsIf_load_mid hw ty x hop b o hx cs d hc hu hd hi) hT hS h
theorem wpAnyT_skip {i : Nat} {oi : Oper} {fuel : Nat} {listed : Array Bool} {a : Act} {w : World} (hi : ops[i]? = some oi)
    (hs : Region.noSelect ops = true) (hf : Region.free md ops listed i = true) (hr : (Region.ready md ops listed).contains i = true)
    (hQ : ∀ c a w, Q (.panic c) (a.put oi.dst undef) w → Q (.panic c) a w) (hD : (i == D) = false) (hT : T w) (hS : listed.getD D true = false → S w) (hw : Region.wanted oi (yielded ops a.tmps) = false)
    (h : wpAnyT P md ops Q T S D fuel (listed.setIfInBounds i true) (a.put oi.dst undef) w) : wpAnyT P md ops Q T S D (fuel + 1) listed a w :=
  wpAnyT_first (U := T) hi (Region.noSelect_spec hs) hQ (by simpa using hD) (.inl fun _ h => h) fuel listed a w (Region.free_spec hi hf) (by simpa using hr) (.inl fun _ h => h) (.inr ⟨hw, rfl⟩) hT hS h
end
end Go.Proofs.YtlhajphjppjlgaaGreatDoor
namespace Go.Proofs.YtlhajphjppjlgaaGreatDoor
open Go.RowKit
set_option maxRecDepth 20000
def z32 : List Int := List.replicate 32 0
theorem zkey_built (w : World) : (Instr.build 23 #[]).run Tryz.prog w = .ok (.agg (row .u8 z32)) w := by kernel_rfl
end Go.Proofs.YtlhajphjppjlgaaGreatDoor
namespace Go.Proofs.YtlhajphjppjlgaaGreatDoor
open Go.RowKit
set_option maxRecDepth 20000
set_option linter.unusedSimpArgs false
section
variable (base H : Nat) (own : Int) (seed : List Int) (b : Nat) (M : Int → Int → Option (List Int)) (v : Value) (L : List (Int × Int)) (w : World)
set_option maxHeartbeats 1000000 in
theorem fk_range (a s p : Int) (h8 : 8 ≤ p) :
    Calls Tryz.prog 56 #[.pointer (some ⟨H, 0, none⟩), .agg (dotC a s).toArray, .int .u8 p] w fun e w' => e = .returned (.tuple #[.agg (row .u8 z32), .int .i64 2]) ∧ Below w.heap.size w w' := by
  obtain ⟨Z, hZl, hZ, hZb⟩ : ∃ Z : List Int, Z.length = 32 ∧ z32 = Z ∧ ∀ wx, (Instr.build 23 #[]).run Tryz.prog wx = .ok (.agg (row .u8 Z)) wx := ⟨_, rfl, rfl, zkey_built⟩
  have HZb := Veil.mk hZb
  have hB : Below w.heap.size w ((w.alloc (.cells (dotC a s).toArray 28)).alloc (.cells (row .u8 z32) 23)) := ((Below.refl _ _).alloc (Nat.le_refl _) _).alloc (by simp) _
  have hr0 := Holds.new (w.alloc (.cells (dotC a s).toArray 28)) .u8 23 z32
  rw [World.size_alloc] at hr0
  rw [hZ]
  clear hZb
  go_enter Tryz.func56, Tryz.ntmps56
  go_upto_region 1 with fail
  refine forget (p := fun y => Code.wp _ _ _ _ y) (fun W => Below w.heap.size w W ∧ Holds W (w.heap.size + 1) .u8 23 Z) ⟨hB, by rw [← hZ]; exact hr0⟩ ?_
  clear hB hr0 hZ
  rintro W ⟨hB, hr0⟩
  go_wp2_with (first
    | (refine wpList_bldx rfl 23 _ rfl #[] (by first | rfl | kernel_rfl) _ (HZb.out _) ?_)
    | (refine wpList_st rfl 23 _ _ rfl _ rfl rfl hr0 (by rw [hZl]; exact sizeKeyD) rfl ?_))
  refine bodyPost_ret (results_ct (Tryz.results56) _ rfl rfl (hr0.setRow Z).cellsAt Tryz.underlying23 rfl (by rw [List.length_map, hZl]; exact sizeKeyD)) rfl ⟨rfl, ?_⟩
  exact below_setRow hB (by omega) _
set_option maxHeartbeats 4000000 in
theorem fk_nokey (a s p : Int) (ho : okD a s) (h8 : p < 8) (hR : RingAt w base H own seed b M v L) (hm : M a s = none) :
    Calls Tryz.prog 56 #[.pointer (some ⟨H, 0, none⟩), .agg (dotC a s).toArray, .int .u8 p] w fun e w' => e = .returned (.tuple #[.agg (row .u8 z32), .int .i64 9]) ∧ Below w.heap.size w w' := by
  obtain ⟨Z, hZl, hZ, hZb⟩ : ∃ Z : List Int, Z.length = 32 ∧ z32 = Z ∧ ∀ wx, (Instr.build 23 #[]).run Tryz.prog wx = .ok (.agg (row .u8 Z)) wx := ⟨_, rfl, rfl, zkey_built⟩
  have HZb := Veil.mk hZb
  have hn8 : ¬ 8 ≤ p := by omega
  have hB : Below w.heap.size w ((w.alloc (.cells (dotC a s).toArray 28)).alloc (.cells (row .u8 z32) 23)) := ((Below.refl _ _).alloc (Nat.le_refl _) _).alloc (by simp) _
  have hd0 := (CellsAt.new w 28 (dotC a s)).alloc (.cells (row .u8 z32) 23)
  have hr0 := Holds.new (w.alloc (.cells (dotC a s).toArray 28)) .u8 23 z32
  rw [World.size_alloc] at hr0
  rw [hZ]
  clear hZb
  go_enter Tryz.func56, Tryz.ntmps56
  go_upto_region 1 with fail
  refine forget (p := fun y => Code.wp _ _ _ _ y) (fun W => Below w.heap.size w W ∧ RingAt W base H own seed b M v L ∧ Holds W (w.heap.size + 1) .u8 23 Z ∧ CellsAt W w.heap.size 28 (dotC a s)) ⟨hB, hR.far hB, by rw [← hZ]; exact hr0, hd0⟩ ?_
  have HZ := Veil.mk hZ
  clear hB hr0 hd0 hZ hR
  rintro W ⟨hB, hR, hr0, hd0⟩
  have rD := hd0.range 0 2
  rw [show ((dotC a s).drop 0).take 2 = dotC a s from rfl] at rD
  have hk := rKey_any base H own seed b M v L W a s ho hR
  have hka : keyAt M a s = Z := by unfold keyAt; rw [hm, ← HZ.out]; rfl
  rw [hka, hm] at hk
  have hsz := hr0.lt
  clear hR
  go_upto_region 6 with (first
    | (refine wpList_ldv rfl 28 _ rfl _ _ rfl (dotC a s) rD Tryz.underlying28 rfl sizeDotK ?_)
    | (go_at_call 87; refine hk.mono ?_; rintro e W1 ⟨rfl, hb1⟩; have hA1 := Holds.new W1 .u8 23 (List.replicate 32 0))
    | (refine wpList_st rfl 23 _ _ rfl _ rfl rfl hA1 (by rw [hZl]; exact sizeKeyD) (by rw [hZl]; rfl) ?_))
  have hb2 : Below W.heap.size W ((W1.alloc (.cells (row .u8 (List.replicate 32 0)) 23)).setRow W1.heap.size (row .u8 Z)) := hb1.trans ((below_setRow ((Below.refl _ _).alloc (Nat.le_refl _) _) (Nat.le_refl _) _).mono hb1.size)
  refine forget (p := fun y => Code.wp _ _ _ _ y) (fun W => Below w.heap.size w W ∧ Holds W (w.heap.size + 1) .u8 23 Z) ⟨hB.trans (hb2.mono hB.size), hr0.below hb2 hr0.lt⟩ ?_
  clear hB hr0 hd0 rD hb2 hA1 hb1 hk
  rintro V ⟨hB, hr0⟩
  go_wp2_with (first
    | (refine wpList_bldx rfl 23 _ rfl #[] (by first | rfl | kernel_rfl) _ (HZb.out _) ?_)
    | (refine wpList_st rfl 23 _ _ rfl _ rfl rfl hr0 (by rw [hZl]; exact sizeKeyD) rfl ?_))
  refine bodyPost_ret (results_ct (Tryz.results56) _ rfl rfl (hr0.setRow Z).cellsAt Tryz.underlying23 rfl (by rw [List.length_map, hZl]; exact sizeKeyD)) rfl ⟨rfl, ?_⟩
  exact below_setRow hB (by omega) _
set_option maxHeartbeats 4000000 in
theorem fk_ok (a s p : Int) (k : List Int) (ho : okD a s) (h8 : p < 8) (hR : RingAt w base H own seed b M v L) (hm : M a s = some k) (hKT : S.KTab w) :
    Calls Tryz.prog 56 #[.pointer (some ⟨H, 0, none⟩), .agg (dotC a s).toArray, .int .u8 p] w fun e w' => e = .returned (.tuple #[.agg (row .u8 (fkeyL k p)), .int .i64 0]) ∧ Below w.heap.size w w' := by
  obtain ⟨Z, hZl, hZ⟩ : ∃ Z : List Int, Z.length = 32 ∧ z32 = Z := ⟨_, rfl, rfl⟩
  have hn8 : ¬ 8 ≤ p := by omega
  have hkl := hR.is32 a s k hm
  have HD : Veil (∀ W : World, S.KTab W → Calls Tryz.prog 22 #[.agg (row .u8 k), .string ⟨#[102, 114, 97, 109, 101]⟩, .slice (some ⟨W.heap.size, 0, none⟩) 1 1] (W.alloc (.cells (row .u8 [p]) 5)) fun e w' => e = .returned (.agg (row .u8 (fkeyL k p))) ∧ Below (W.alloc (.cells (row .u8 [p]) 5)).heap.size (W.alloc (.cells (row .u8 [p]) 5)) w') := ⟨fun W hk => derived_any k ⟨#[102, 114, 97, 109, 101]⟩ _ 1 1 [p] _ hkl (by decide) (newB W [p] 1 rfl (by simp)) (by omega) (hk.below ((Below.refl _ _).alloc (Nat.le_refl _) _))⟩
  have hPl : (fkeyL k p).length = 32 := derL_length _ _
  obtain ⟨PL, hPL⟩ : ∃ z, fkeyL k p = z := ⟨_, rfl⟩
  rw [hPL] at HD hPl
  have HPL := Veil.mk hPL
  clear hPL
  have hB : Below w.heap.size w ((w.alloc (.cells (dotC a s).toArray 28)).alloc (.cells (row .u8 z32) 23)) := ((Below.refl _ _).alloc (Nat.le_refl _) _).alloc (by simp) _
  have hd0 := (CellsAt.new w 28 (dotC a s)).alloc (.cells (row .u8 z32) 23)
  have hr0 := Holds.new (w.alloc (.cells (dotC a s).toArray 28)) .u8 23 z32
  rw [World.size_alloc] at hr0
  go_enter Tryz.func56, Tryz.ntmps56
  go_upto_region 1 with fail
  refine forget (p := fun y => Code.wp _ _ _ _ y) (fun W => Below w.heap.size w W ∧ RingAt W base H own seed b M v L ∧ Holds W (w.heap.size + 1) .u8 23 Z ∧ CellsAt W w.heap.size 28 (dotC a s)) ⟨hB, hR.far hB, by rw [← hZ]; exact hr0, hd0⟩ ?_
  clear hB hr0 hd0 hZ hR
  rintro W ⟨hB, hR, hr0, hd0⟩
  have rD := hd0.range 0 2
  rw [show ((dotC a s).drop 0).take 2 = dotC a s from rfl] at rD
  have hk := rKey_any base H own seed b M v L W a s ho hR
  have hka : keyAt M a s = k := by unfold keyAt; rw [hm]; rfl
  rw [hka, hm] at hk
  have hsz := hr0.lt
  clear hR
  go_upto_region 6 with (first
    | (refine wpList_ldv rfl 28 _ rfl _ _ rfl (dotC a s) rD Tryz.underlying28 rfl sizeDotK ?_)
    | (go_at_call 87; refine hk.mono ?_; rintro e W1 ⟨rfl, hb1⟩; have hA1 := Holds.new W1 .u8 23 (List.replicate 32 0))
    | (refine wpList_st rfl 23 _ _ rfl _ rfl rfl hA1 (by rw [hkl]; exact sizeKeyD) (by rw [hkl]; rfl) ?_))
  have hb2 : Below W.heap.size W ((W1.alloc (.cells (row .u8 (List.replicate 32 0)) 23)).setRow W1.heap.size (row .u8 k)) := hb1.trans ((below_setRow ((Below.refl _ _).alloc (Nat.le_refl _) _) (Nat.le_refl _) _).mono hb1.size)
  refine forget (p := fun y => Code.wp _ _ _ _ y) (fun V => Below w.heap.size w V ∧ Holds V (w.heap.size + 1) .u8 23 Z ∧ Holds V W1.heap.size .u8 23 k) ⟨hB.trans (hb2.mono hB.size), hr0.below hb2 hr0.lt, hA1.setRow _⟩ ?_
  obtain ⟨G, hG⟩ : ∃ q, W1.heap.size = q := ⟨_, rfl⟩
  rw [hG]
  clear hB hr0 hd0 rD hb2 hA1 hb1 hk hG
  rintro V ⟨hB, hr0, hx⟩
  have hd := HD.out V (hKT.below hB)
  have hB2 := hB.alloc hB.size (.cells (row .u8 [p]) 5)
  have hr2 := hr0.alloc (.cells (row .u8 [p]) 5)
  go_wp2_with (first
    | (refine wpList_ld rfl 23 _ rfl _ rfl hx Tryz.underlying23 sizeKeyD hkl ?_)
    | (go_at_call 22; refine hd.mono ?_; rintro e w1 ⟨rfl, hb1⟩; have hr3 := hr2.below hb1 hr2.lt)
    | (refine wpList_st rfl 23 _ _ rfl _ rfl rfl hr3 (by rw [hPl]; exact sizeKeyD) (by rw [hZl, hPl]) ?_))
  refine bodyPost_ret (results_ct (Tryz.results56) _ rfl rfl (hr3.setRow PL).cellsAt Tryz.underlying23 rfl (by rw [List.length_map, hPl]; exact sizeKeyD)) rfl ⟨?_, ?_⟩
  · rw [HPL.out]; rfl
  · exact below_setRow (hB2.trans (hb1.mono hB2.size)) (by omega) _
end
end Go.Proofs.YtlhajphjppjlgaaGreatDoor
