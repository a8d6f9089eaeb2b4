/- Dots, keys, wraps, rows of wraps, bytes: two of them compared. -/
import Derived.Test.YtgepicbijpfhhaaWr6
import Derived.Test.YtgepicbijpfhhaaGate2
import Derived.Laws.StructEq
namespace Go.Proofs.Ytgepicbijpfhhaa
open Go.RowKit
set_option maxRecDepth 20000
set_option linter.unusedSimpArgs false

theorem part_midE {P : Program} (w : World) (t : TypeId) (n : Nat) (d : TypeDesc) (cs : List Value) (off : Nat) (hu : P.underlying t = some d) (hd : (match d with | .struct _ | .array _ _ => true | _ => false) = true) (hi : (P.info? t).map (·.size) = some n) :
    (part t cs.toArray off).run P w = .ok (.agg ((cs.drop off).take n).toArray) w := by
  cases hq : P.info? t with
  | none => simp [hq] at hi
  | some i =>
    have hs : i.size = n := by simpa [hq] using hi
    cases d <;> simp_all [part, isAgg, run_underlying hu, sizeOf, typeInfo, List.extract]
theorem part_one {P : Program} (w : World) (t : TypeId) (k : IntKind) (cs : List Value) (off : Nat) (v : Value) (hu : P.underlying t = some (.int k)) (hv : cs[off]? = some v) : (part t cs.toArray off).run P w = .ok v w := by
  simp [part, isAgg, run_underlying hu, hv]
theorem eqFields_2 {P : Program} (w : World) (d : Nat) (xs ys : Array Value) (t1 t2 : TypeId) (o1 o2 : Nat) (a1 b1 a2 b2 : Value) (r1 r2 : Bool) (h1 : (part t1 xs o1).run P w = .ok a1 w) (k1 : (part t1 ys o1).run P w = .ok b1 w) (h2 : (part t2 xs o2).run P w = .ok a2 w) (k2 : (part t2 ys o2).run P w = .ok b2 w)
    (e1 : (Op.equalIn d t1 a1 b1).run P w = .ok r1 w) (e2 : (Op.equalIn d t2 a2 b2).run P w = .ok r2 w) : ∀ L : List Field, L.map (fun f => (f.name != "_", f.type, f.offset)) = [(true, t1, o1), (true, t2, o2)] → (Op.eqFields d xs ys L).run P w = .ok (r1 && r2) w
  | [], hf => by simp at hf
  | [_], hf => by simp at hf
  | _ :: _ :: _ :: _, hf => by simp at hf
  | [f, g], hf => by
    simp only [List.map_cons, List.map_nil, List.cons.injEq, Prod.mk.injEq, and_true, bne_iff_ne, ne_eq] at hf
    obtain ⟨⟨q1, q2, q3⟩, p1, p2, p3⟩ := hf
    cases r1 <;> cases r2 <;> simp only [Op.eqFields, q1, q2, q3, p1, p2, p3, ne_eq, not_false_eq_true, if_true, Sem.run_bind, h1, h2, k1, k2, e1, e2, Result.andThen_ok, Bool.not_true, Bool.not_false, Bool.false_eq_true, if_false, Sem.run_pure, Bool.and_true, Bool.and_false]
theorem eqFields_3 {P : Program} (w : World) (d : Nat) (xs ys : Array Value) (t1 t2 t3 : TypeId) (o1 o2 o3 : Nat) (a1 b1 a2 b2 a3 b3 : Value) (r1 r2 r3 : Bool) (h1 : (part t1 xs o1).run P w = .ok a1 w) (k1 : (part t1 ys o1).run P w = .ok b1 w) (h2 : (part t2 xs o2).run P w = .ok a2 w) (k2 : (part t2 ys o2).run P w = .ok b2 w) (h3 : (part t3 xs o3).run P w = .ok a3 w) (k3 : (part t3 ys o3).run P w = .ok b3 w)
    (e1 : (Op.equalIn d t1 a1 b1).run P w = .ok r1 w) (e2 : (Op.equalIn d t2 a2 b2).run P w = .ok r2 w) (e3 : (Op.equalIn d t3 a3 b3).run P w = .ok r3 w) : ∀ L : List Field, L.map (fun f => (f.name != "_", f.type, f.offset)) = [(true, t1, o1), (true, t2, o2), (true, t3, o3)] → (Op.eqFields d xs ys L).run P w = .ok (r1 && r2 && r3) w
  | [], hf => by simp at hf
  | [_], hf => by simp at hf
  | [_, _], hf => by simp at hf
  | _ :: _ :: _ :: _ :: _, hf => by simp at hf
  | [f, g, i], hf => by
    simp only [List.map_cons, List.map_nil, List.cons.injEq, Prod.mk.injEq, and_true, bne_iff_ne, ne_eq] at hf
    obtain ⟨⟨q1, q2, q3⟩, ⟨p1, p2, p3⟩, s1, s2, s3⟩ := hf
    cases r1 <;> cases r2 <;> cases r3 <;> simp only [Op.eqFields, q1, q2, q3, p1, p2, p3, s1, s2, s3, ne_eq, not_false_eq_true, if_true, Sem.run_bind, h1, h2, h3, k1, k2, k3, e1, e2, e3, Result.andThen_ok, Bool.not_true, Bool.not_false, Bool.false_eq_true, if_false, Sem.run_pure, Bool.and_true, Bool.and_false]
theorem dot_fields : (Try.prog.fieldsOf 24).toList.map (fun f => (f.name != "_", f.type, f.offset)) = [(true, 5, 0), (true, 22, 1)] := by kernel_rfl
theorem dot_under : Try.prog.underlying 24 = some (.struct (Try.prog.fieldsOf 24)) := by kernel_rfl
theorem dot_held : Try.prog.stoodInHeld 24 = false := by kernel_rfl
theorem dot_eqIn (d : Nat) (a s a' s' : Int) (wx : World) : (Op.equalIn (d + 1 + 1) 24 (.agg (dotC a s).toArray) (.agg (dotC a' s').toArray)).run Try.prog wx = .ok ((a == a') && (s == s')) wx := by
  rw [run_equalIn_struct wx _ 24 _ _ dot_under dot_held]
  exact eqFields_2 wx _ _ _ _ _ _ _ (.int .u8 a) (.int .u8 a') (.int .u32 s) (.int .u32 s') _ _ (part_one wx _ _ (dotC a s) 0 _ Try.underlying5 rfl) (part_one wx _ _ (dotC a' s') 0 _ Try.underlying5 rfl) (part_one wx _ _ (dotC a s) 1 _ Try.underlying22 rfl) (part_one wx _ _ (dotC a' s') 1 _ Try.underlying22 rfl)
    (run_equalIn_int wx d 5 .u8 .u8 a a' Try.underlying5) (run_equalIn_int wx d 22 .u32 .u32 s s' Try.underlying22) _ dot_fields
theorem dot_eql (a s a' s' : Int) (wx : World) : (binOp BinOp.eql 24 (.agg (dotC a s).toArray) (.agg (dotC a' s').toArray)).run Try.prog wx = .ok (.bool ((a == a') && (s == s'))) wx := by
  rw [run_eql_struct, dot_eqIn 9998]; rfl
theorem dot_neq (a s a' s' : Int) (wx : World) : (binOp BinOp.neq 24 (.agg (dotC a s).toArray) (.agg (dotC a' s').toArray)).run Try.prog wx = .ok (.bool (!((a == a') && (s == s')))) wx := by
  rw [run_neq_struct, dot_eqIn 9998]; rfl
theorem cells8 : Try.prog.cellsOf 5 = 1 := by kernel_rfl
theorem info8 : (Try.prog.info? 5).isSome = true := by kernel_rfl
theorem key_eqIn (d : Nat) (l m : List Int) (hl : l.length = 32) (hm : m.length = 32) (wx : World) : (Op.equalIn (d + 1 + 1) 26 (.agg (l.map (Value.int .u8)).toArray) (.agg (m.map (Value.int .u8)).toArray)).run Try.prog wx = .ok (l == m) wx :=
  run_equalIn_rows wx d .u8 l m Try.underlying26 Try.underlying5 cells8 info8 hl hm
theorem key_eql (l m : List Int) (hl : l.length = 32) (hm : m.length = 32) (wx : World) : (binOp BinOp.eql 26 (.agg (l.map (Value.int .u8)).toArray) (.agg (m.map (Value.int .u8)).toArray)).run Try.prog wx = .ok (.bool (l == m)) wx := by
  rw [run_eql_struct, key_eqIn 9998 l m hl hm]; rfl
theorem key_neq (l m : List Int) (hl : l.length = 32) (hm : m.length = 32) (wx : World) : (binOp BinOp.neq 26 (.agg (l.map (Value.int .u8)).toArray) (.agg (m.map (Value.int .u8)).toArray)).run Try.prog wx = .ok (.bool (!(l == m))) wx := by
  rw [run_neq_struct, key_eqIn 9998 l m hl hm]; rfl
theorem wrap_fields : (Try.prog.fieldsOf 62).toList.map (fun f => (f.name != "_", f.type, f.offset)) = [(true, 5, 0), (true, 24, 1), (true, 60, 3)] := by kernel_rfl
theorem wrap_under : Try.prog.underlying 62 = some (.struct (Try.prog.fieldsOf 62)) := by kernel_rfl
theorem wrap_held : Try.prog.stoodInHeld 62 = false := by kernel_rfl
theorem sizeData : (Try.prog.info? 60).map (·.size) = some 48 := by kernel_rfl
def wpEq (e f : Wp) : Bool := (e.too == f.too) && ((e.ea == f.ea) && (e.es == f.es)) && (e.data == f.data)
theorem wpEq_iff (e f : Wp) : wpEq e f = true ↔ e = f := by
  obtain ⟨a, b, c, d⟩ := e
  obtain ⟨a', b', c', d'⟩ := f
  unfold wpEq
  simp only [Bool.and_eq_true, beq_iff_eq, Wp.mk.injEq, and_assoc]
theorem wrap_eqIn (e f : Wp) (he : e.data.length = 48) (hf : f.data.length = 48) (wx : World) : (Op.equalIn 10000 62 (.agg e.cells.toArray) (.agg f.cells.toArray)).run Try.prog wx = .ok (wpEq e f) wx := by
  obtain ⟨_, q1, q2, q3, _⟩ := wp_parts e he
  obtain ⟨_, p1, p2, p3, _⟩ := wp_parts f hf
  have s1 := part_midE wx 24 2 _ e.cells 1 Try.underlying24 rfl sizeDot
  have s2 := part_midE wx 24 2 _ f.cells 1 Try.underlying24 rfl sizeDot
  have s3 := part_midE wx 60 48 _ e.cells 3 Try.underlying60 rfl sizeData
  have s4 := part_midE wx 60 48 _ f.cells 3 Try.underlying60 rfl sizeData
  rw [q2] at s1
  rw [p2] at s2
  rw [q3] at s3
  rw [p3] at s4
  rw [run_equalIn_struct wx 9999 62 _ _ wrap_under wrap_held]
  exact eqFields_3 wx _ _ _ _ _ _ _ _ _ (.int .u8 e.too) (.int .u8 f.too) _ _ _ _ _ _ _ (part_one wx _ _ e.cells 0 _ Try.underlying5 q1) (part_one wx _ _ f.cells 0 _ Try.underlying5 p1) s1 s2 s3 s4
    (run_equalIn_int wx 9998 5 .u8 .u8 e.too f.too Try.underlying5) (dot_eqIn 9997 _ _ _ _ wx) (run_equalIn_rows wx 9997 .u8 e.data f.data Try.underlying60 Try.underlying5 cells8 info8 he hf) _ wrap_fields
theorem wrap_neq (e f : Wp) (he : e.data.length = 48) (hf : f.data.length = 48) (wx : World) : (binOp BinOp.neq 62 (.agg e.cells.toArray) (.agg f.cells.toArray)).run Try.prog wx = .ok (.bool (!(wpEq e f))) wx := by
  rw [run_neq_struct, wrap_eqIn e f he hf]; rfl
/-- Are rows of wraps the same? -/
noncomputable def wsB (a b : List Wp) : Bool := open Classical in decide (a = b)
theorem wsB_true {a b : List Wp} (h : a = b) : wsB a b = true := by unfold wsB; simp [h]
theorem wsB_false {a b : List Wp} (h : a ≠ b) : wsB a b = false := by unfold wsB; simp [h]
theorem take_differ {a b : List Wp} {j : Nat} (h1 : j < a.length) (h2 : j < b.length) (h : a[j] ≠ b[j]) : a ≠ b := fun e => by subst e; exact h rfl
theorem take_more {a b : List Wp} {j : Nat} (h1 : j < a.length) (h2 : j < b.length) (h : a[j] = b[j]) (h0 : a.take j = b.take j) : a.take (j + 1) = b.take (j + 1) := by
  rw [List.take_succ_eq_append_getElem h1, List.take_succ_eq_append_getElem h2, h0, h]
set_option maxHeartbeats 2000000 in
theorem slicesEqual_any (x : Option Addr) (n c : Nat) (ws : List Wp) (y : Option Addr) (m d : Nat) (vs : List Wp) (w : World) (hx : WrapsAt w x n c ws) (hy : WrapsAt w y m d vs) :
    Calls Try.prog 20 #[.slice x n c, .slice y m d] w fun e w' => e = .returned (.bool (wsB ws vs)) ∧ Below w.heap.size w w' := by
  have hxl := hx.len_eq
  have hyl := hy.len_eq
  by_cases hnm : n = m
  rotate_left
  · have hbn : ((n : Int) == (m : Int)) = false := by simp; omega
    rw [wsB_false (fun e => hnm (by rw [hxl, hyl, e]))]
    clear hx hy hxl hyl
    go_enter Try.func20, Try.ntmps20
    go_wp2
    go_ret
    exact ⟨rfl, Below.refl _ _⟩
  subst hnm
  have HX : Veil (∀ wx, Below w.heap.size w wx → WrapsAt wx x n c ws) := ⟨fun wx h => hx.below h⟩
  have HY : Veil (∀ wx, Below w.heap.size w wx → WrapsAt wx y n d vs) := ⟨fun wx h => hy.below h⟩
  have HXL : Veil (n = ws.length) := ⟨hxl⟩
  have HYL : Veil (n = vs.length) := ⟨hyl⟩
  have HOX : Veil (∀ e ∈ ws, e.data.length = 48) := ⟨hx.ok⟩
  have HOY : Veil (∀ e ∈ vs, e.data.length = 48) := ⟨hy.ok⟩
  have uW := Try.underlying62
  have hlx := hx.le
  have htx := hx.top
  have hly := hy.le
  have hty := hy.top
  obtain ⟨R, hR⟩ : ∃ q, wsB ws vs = q := ⟨_, rfl⟩
  have HR : Veil (wsB ws vs = R) := ⟨hR⟩
  rw [hR]
  clear hx hy hxl hyl hR
  go_enter Try.func20, Try.ntmps20
  go_upto_region 4 with fail
  go_loopw [5, 13] (fun _ q wr => ∃ j : Nat, j ≤ n ∧ q = .int .i64 j ∧ ws.take j = vs.take j ∧ Below w.heap.size w wr) (fun _ q _ => n - (intOf q).toNat)
  case atStart => exact ⟨0, by omega, rfl, rfl, Below.refl _ _⟩
  case round =>
    obtain ⟨j, hj, rfl, htk, hB1⟩ := hrel
    have HTK : Veil (ws.take j = vs.take j) := ⟨htk⟩
    clear htk
    by_cases hlt : j < n
    · have h1 : j < ws.length := by have := HXL.out; omega
      have h2 : j < vs.length := by have := HYL.out; omega
      obtain ⟨b, off, hx, hrg⟩ : ∃ b off, x = some ⟨b, off, none⟩ ∧ ∀ wx, Below w.heap.size w wx → wx.rangeAt b (off + j * 51) (ws[j]).cells := by
        rcases (HX.out w (Below.refl _ _)).at_ with h0 | ⟨b, off, hx, hr⟩
        · omega
        · exact ⟨b, off, hx, fun wx hb => rangeAt_below (hr j h1) hb⟩
      obtain ⟨b2, off2, hy, hrg2⟩ : ∃ b off, y = some ⟨b, off, none⟩ ∧ ∀ wx, Below w.heap.size w wx → wx.rangeAt b (off + j * 51) (vs[j]).cells := by
        rcases (HY.out w (Below.refl _ _)).at_ with h0 | ⟨b, off, hx, hr⟩
        · omega
        · exact ⟨b, off, hx, fun wx hb => rangeAt_below (hr j h2) hb⟩
      subst hx hy
      have o1 := HOX.out _ (List.getElem_mem h1)
      have o2 := HOY.out _ (List.getElem_mem h2)
      have hnq := fun wx => wrap_neq ws[j] vs[j] o1 o2 wx
      have HD : Veil (wpEq ws[j] vs[j] = false → R = false) := ⟨fun h => by
        rw [← HR.out]
        exact wsB_false (take_differ h1 h2 (fun e => by rw [(wpEq_iff _ _).2 e] at h; cases h))⟩
      have HE : Veil (wpEq ws[j] vs[j] = true → ws.take (j + 1) = vs.take (j + 1)) := ⟨fun h => take_more h1 h2 ((wpEq_iff _ _).1 h) HTK.out⟩
      have i1 : (Try.prog.info? 62).map (·.size) = some (ws[j]).cells.length := by rw [(wp_parts _ o1).1]; exact sizeWrap
      have i2 : (Try.prog.info? 62).map (·.size) = some (vs[j]).cells.length := by rw [(wp_parts _ o2).1]; exact sizeWrap
      obtain ⟨C1, hC1⟩ : ∃ q, (ws[j]).cells = q := ⟨_, rfl⟩
      obtain ⟨C2, hC2⟩ : ∃ q, (vs[j]).cells = q := ⟨_, rfl⟩
      obtain ⟨r, hr⟩ : ∃ q, wpEq ws[j] vs[j] = q := ⟨_, rfl⟩
      rw [hC1] at hrg hnq i1
      rw [hC2] at hrg2 hnq i2
      rw [hr] at hnq HD HE
      have hj0 : (0 : Int) ≤ (j : Int) := by omega
      have hjn : (j : Int) < (n : Int) := by omega
      clear o1 o2 hC1 hC2 hr h1 h2 HTK
      go_upto_region 6 with fail
      refine wp_region_gate (fun w' => w'.rangeAt b (off + j * 51) C1 ∧ w'.rangeAt b2 (off2 + j * 51) C2) 8 (by kernel_rfl) ?_
      obtain ⟨D0, hD0⟩ : ∃ q, wr.drew = q := ⟨_, rfl⟩
      have hB2 : Below w.heap.size w D0 := by rw [← hD0]; exact hB1.drew
      rw [hD0]
      clear hD0 hB1
      have hS : D0.rangeAt b (off + j * 51) C1 ∧ D0.rangeAt b2 (off2 + j * 51) C2 := ⟨hrg _ hB2, hrg2 _ hB2⟩
      clear hrg hrg2
      refine wpAnyG_any (i := 0) (v := ?_) rfl (by kernel_rfl) (by kernel_rfl) (by kernel_rfl) (fun _ _ _ h => h) (by kernel_rfl) (fun _ => hS) (by kernel_rfl) ?_ ?_
      rotate_left
      · intro _; go_simp; try with_reducible rfl
      simp only [Act.put, List.setIfInBounds_toArray, List.set_cons_zero, List.set_cons_succ]
      refine wpAnyG_any (i := 1) (v := ?_) rfl (by kernel_rfl) (by kernel_rfl) (by kernel_rfl) (fun _ _ _ h => h) (by kernel_rfl) (fun _ => hS) (by kernel_rfl) ?_ ?_
      rotate_left
      · intro _; go_simp; try with_reducible rfl
      simp only [Act.put, List.setIfInBounds_toArray, List.set_cons_zero, List.set_cons_succ]
      refine wpAnyG_any (i := 2) (v := ?_) rfl (by kernel_rfl) (by kernel_rfl) (by kernel_rfl) (fun _ _ _ h => h) (by kernel_rfl) (fun _ => hS) (by kernel_rfl) ?_ ?_
      rotate_left
      · intro _; go_simp; try with_reducible rfl
      simp only [Act.put, List.setIfInBounds_toArray, List.set_cons_zero, List.set_cons_succ]
      refine wpAnyG_load (i := 3) (dst := some 19) (ty := 62) (x := .tmp 18) (b := b) (o := (off + j * 51)) (cs := (C1)) (by kernel_rfl) (by kernel_rfl) (by kernel_rfl) (by kernel_rfl) (by kernel_rfl) (fun _ _ _ h => h) (by kernel_rfl) (by kernel_rfl) (by kernel_rfl) hS (by kernel_rfl) (fun _ h => h.1) uW rfl i1 ?_
      simp only [Act.put, List.setIfInBounds_toArray, List.set_cons_zero, List.set_cons_succ]
      refine wpAnyG_any (i := 4) (v := ?_) rfl (by kernel_rfl) (by kernel_rfl) (by kernel_rfl) (fun _ _ _ h => h) (by kernel_rfl) (fun _ => hS) (by kernel_rfl) ?_ ?_
      rotate_left
      · intro _; go_simp; try with_reducible rfl
      simp only [Act.put, List.setIfInBounds_toArray, List.set_cons_zero, List.set_cons_succ]
      refine wpAnyG_any (i := 5) (v := ?_) rfl (by kernel_rfl) (by kernel_rfl) (by kernel_rfl) (fun _ _ _ h => h) (by kernel_rfl) (fun _ => hS) (by kernel_rfl) ?_ ?_
      rotate_left
      · intro _; go_simp; try with_reducible rfl
      simp only [Act.put, List.setIfInBounds_toArray, List.set_cons_zero, List.set_cons_succ]
      refine wpAnyG_any (i := 6) (v := ?_) rfl (by kernel_rfl) (by kernel_rfl) (by kernel_rfl) (fun _ _ _ h => h) (by kernel_rfl) (fun _ => hS) (by kernel_rfl) ?_ ?_
      rotate_left
      · intro _; go_simp; try with_reducible rfl
      simp only [Act.put, List.setIfInBounds_toArray, List.set_cons_zero, List.set_cons_succ]
      refine wpAnyG_load (i := 7) (dst := some 23) (ty := 62) (x := .tmp 22) (b := b2) (o := (off2 + j * 51)) (cs := (C2)) (by kernel_rfl) (by kernel_rfl) (by kernel_rfl) (by kernel_rfl) (by kernel_rfl) (fun _ _ _ h => h) (by kernel_rfl) (by kernel_rfl) (by kernel_rfl) hS (by kernel_rfl) (fun _ h => h.2) uW rfl i2 ?_
      simp only [Act.put, List.setIfInBounds_toArray, List.set_cons_zero, List.set_cons_succ]
      refine wpAnyG_one (i := 8) rfl (by kernel_rfl) (by kernel_rfl) (fun K hK => ?_)
      go_simp
      refine hK.out _ _ (fun h => absurd (show true = false from h) (by decide)) ?_
      clear hK K
      refine wpAnyG_done (by kernel_rfl) ?_ _
      cases r with
      | false =>
        have hRf := HD.out rfl
        have HRf : Veil (R = false) := ⟨hRf⟩
        clear hRf
        go_wp2
        go_ret
        exact ⟨by rw [HRf.out]; rfl, hB2⟩
      | true =>
        have HE1 := HE.out rfl
        have HE2 : Veil (ws.take (j + 1) = vs.take (j + 1)) := ⟨HE1⟩
        clear HE1
        go_wp2
        go_roundw
        case rel => exact ⟨j + 1, by omega, by go_num, HE2.out, hB2⟩
        case measure => simp [intOf]; omega
    · obtain rfl : j = n := by omega
      have HRt : Veil (R = true) := ⟨by
        rw [← HR.out]
        refine wsB_true ?_
        have := HTK.out
        rw [List.take_of_length_le (by have := HXL.out; omega), List.take_of_length_le (by have := HYL.out; omega)] at this
        exact this⟩
      clear hlt
      have hnn : ¬ (j : Int) < (j : Int) := by omega
      go_wp2
      go_ret
      exact ⟨by rw [HRt.out]; rfl, hB1⟩
set_option maxHeartbeats 1000000 in
theorem bytesEqual_any (x : Option Addr) (n c : Nat) (z : List Int) (y : Option Addr) (m d : Nat) (v : List Int) (w : World) (hx : Bytes w x n c z) (hy : Bytes w y m d v) (r : Bool) (hr : ((strOfNums z).toList == (strOfNums v).toList) = r) :
    Calls Try.prog 21 #[.slice x n c, .slice y m d] w fun e w' => e = .returned (.bool r) ∧ w = w' := by
  have c1 := conv_bytes hx
  have c2 := conv_bytes hy
  obtain ⟨S, hS⟩ : ∃ q, strOfNums z = q := ⟨_, rfl⟩
  obtain ⟨T, hT⟩ : ∃ q, strOfNums v = q := ⟨_, rfl⟩
  rw [hS] at c1 hr
  rw [hT] at c2 hr
  clear hS hT hx hy
  go_enter Try.func21, Try.ntmps21
  go_wp2
  go_ret
  exact ⟨rfl, rfl⟩
end Go.Proofs.Ytgepicbijpfhhaa
