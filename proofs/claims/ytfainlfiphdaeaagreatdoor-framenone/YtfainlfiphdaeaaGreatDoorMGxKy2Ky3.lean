/- Operations within a region, each by what its run comes to. keys: 'derived': a key of another one, for a word and bytes behind it. keys: 'Nonce', 'wrapNonce': parts that are made in any order, then joined. (Written by mkky3.py.) -/
import Derived.Test.YtfainlfiphdaeaaGreatDoorMGcWr1Gate5
import Derived.Great.BuildSlice
import Derived.Test.YtfainlfiphdaeaaGreatDoorMAn1An2Ky1
import Derived.Test.YtfainlfiphdaeaaGreatDoorMFewSMac8Od
import Derived.Test.YtfainlfiphdaeaaGreatDoorMMpKhKh2
import Derived.Test.YtfainlfiphdaeaaGreatDoorMGdRd1Rd2
namespace Go.Proofs.YtfainlfiphdaeaaGreatDoor
open Go.RowKit
set_option linter.unusedSimpArgs false
section
variable {P : Program} {o : Oper} {a : Act} {w : World} {K : Act → World → Prop} {Q : Exit → Act → World → Prop}
/-- A call, by its contract: that the operation comes to it is a closed fact for the kernel. -/
theorem wpx_call (f : FuncId) (args : Array Value) (hrun : (execOp a.eval o).run P w = .ok (.enter f args) w)
    (hc : Calls P f args w fun e w' => ∃ v, e = .returned v ∧ K (a.put o.dst v) w') : o.wp P a w K Q := by
  unfold Oper.wp
  rw [hrun, Oper.upon_enter]
  refine hc.mono fun e w'' hh => ?_
  obtain ⟨v, rfl, hk⟩ := hh
  exact hk
theorem wpx_conv (src dst : TypeId) (x : Operand) (ho : o.op = .convert src dst x) (xv v : Value) (w' : World) (hx : a.eval x = xv) (hrun : (convert src dst xv).run P w = .ok v w') (h : K (a.put o.dst v) w') : o.wp P a w K Q := by
  unfold Oper.wp execOp
  simp only [ho, hx, Sem.run_bind, hrun, Result.andThen_ok, Sem.run_pure]
  exact h
theorem wpx_arr (t : TypeId) (x : Operand) (ho : o.op = .sliceToArrayPointer t x) (xv v : Value) (w' : World) (hx : a.eval x = xv) (hrun : (Instr.arrayAt t xv).run P w = .ok v w') (h : K (a.put o.dst v) w') : o.wp P a w K Q := by
  unfold Oper.wp execOp
  simp only [ho, hx, Sem.run_bind, hrun, Result.andThen_ok, Sem.run_pure]
  exact h
theorem wpx_look (t : TypeId) (m x : Operand) (b : Bool) (ho : o.op = .lookup t m x b) (mv xv v : Value) (w' : World) (hm : a.eval m = mv) (hx : a.eval x = xv) (hrun : (Instr.lookup t mv xv b).run P w = .ok v w') (h : K (a.put o.dst v) w') : o.wp P a w K Q := by
  unfold Oper.wp execOp
  simp only [ho, hm, hx, Sem.run_bind, hrun, Result.andThen_ok, Sem.run_pure]
  exact h
theorem wpx_make (t : TypeId) (l c : Operand) (ho : o.op = .makeSlice t l c) (lv cv v : Value) (w' : World) (hl : a.eval l = lv) (hc : a.eval c = cv) (hrun : (Instr.makeSlice t lv cv).run P w = .ok v w') (h : K (a.put o.dst v) w') : o.wp P a w K Q := by
  unfold Oper.wp execOp
  simp only [ho, hl, hc, Sem.run_bind, hrun, Result.andThen_ok, Sem.run_pure]
  exact h
theorem wpx_upd (t : TypeId) (m x y : Operand) (ho : o.op = .mapUpdate t m x y) (mv xv yv : Value) (w' : World) (hm : a.eval m = mv) (hx : a.eval x = xv) (hy : a.eval y = yv) (hrun : (Instr.mapUpdate t mv xv yv).run P w = .ok () w') (h : K (a.put o.dst undef) w') : o.wp P a w K Q := by
  unfold Oper.wp execOp
  simp only [ho, hm, hx, hy, Sem.run_bind, hrun, Result.andThen_ok, Sem.run_pure]
  exact h
theorem wpx_copy (d s : Operand) (dT sT : TypeId) (ho : o.op = .call { callee := .builtin .copy, args := #[d, s], argTypes := #[dT, sT] }) (dv sv v : Value) (w' : World) (hd : a.eval d = dv) (hs : a.eval s = sv) (hrun : (Builtin.copy_ #[dT, sT] o.type #[dv, sv]).run P w = .ok v w') (h : K (a.put o.dst v) w') : o.wp P a w K Q := by
  unfold Oper.wp execOp
  simp only [ho, resolve, invoke, builtin, Sem.run_bind, Sem.run_pure, Result.andThen_ok, List.map_toArray, List.map_cons, List.map_nil, hd, hs, hrun]
  exact h
theorem wpx_app (d s : Operand) (dT sT : TypeId) (ho : o.op = .call { callee := .builtin .append, args := #[d, s], argTypes := #[dT, sT] }) (dv sv v : Value) (w' : World) (hd : a.eval d = dv) (hs : a.eval s = sv) (hrun : (Builtin.append_ #[dT, sT] o.type #[dv, sv]).run P w = .ok v w') (h : K (a.put o.dst v) w') : o.wp P a w K Q := by
  unfold Oper.wp execOp
  simp only [ho, resolve, invoke, builtin, Sem.run_bind, Sem.run_pure, Result.andThen_ok, List.map_toArray, List.map_cons, List.map_nil, hd, hs, hrun]
  exact h
theorem wpx_bld (t : TypeId) (parts : Array (Nat × Operand)) (ho : o.op = .build t parts) (vals : Array (Nat × Value)) (hv : (parts.map fun (i, x) => (i, a.eval x)) = vals) (v : Value) (hrun : (Instr.build t vals).run P w = .ok v w) (h : K (a.put o.dst v) w) : o.wp P a w K Q := by
  unfold Oper.wp execOp
  simp only [ho, hv, Sem.run_bind, hrun, Result.andThen_ok, Sem.run_pure]
  exact h
theorem wpList_bldx {ops : Array Oper} {rest : List Oper} (hgd : o.guard = none) (t : TypeId) (parts : Array (Nat × Operand)) (ho : o.op = .build t parts) (vals : Array (Nat × Value)) (hv : (parts.map fun (i, x) => (i, a.eval x)) = vals) (v : Value) (hrun : (Instr.build t vals).run P w = .ok v w)
    (h : wpList P ops Q rest (a.put o.dst v) w) : wpList P ops Q (o :: rest) a w :=
  wpList_plain hgd fun _ hK => wpx_bld t parts ho vals hv v hrun (hK _ _ h)
end
end Go.Proofs.YtfainlfiphdaeaaGreatDoor

namespace Go.Proofs.YtfainlfiphdaeaaGreatDoor
open Go.RowKit
set_option maxRecDepth 20000
set_option linter.unusedSimpArgs false

theorem Bytes.toS {w : World} {x : Option Addr} {n c : Nat} {z : List Int} (h : Bytes w x n c z) : S.Bytes w x n c z := ⟨h.1, h.2, h.3, h.4, h.5⟩
/-- 32 bytes of a key, for a purpose. -/
def derL (k b : List Int) : List Int := S.expL k b 32
theorem derL_length (k b : List Int) : (derL k b).length = 32 := S.expL_length k b 32
theorem expandK_any (k : List Int) (y : Option Addr) (lb cb : Nat) (b : List Int) (w : World) (hk : k.length = 32) (hy : Bytes w y lb cb b) (hlb : lb ≤ 100000) (hKT : S.KTab w) :
    Calls Tryz.prog 138 #[.agg (row .u8 k), .slice y lb cb, .int .i64 32] w fun e w' => ∃ v, e = .returned (.tuple #[v, .int .i64 0]) ∧ OwnB w' w.heap.size v (derL k b) ∧ Below w.heap.size w w' :=
  S.expand_any k y lb cb b 32 w hk hy.toS hlb (by omega) hKT
/-- A word's bytes. -/
def wordL (s : ByteArray) : List Int := s.data.toList.map fun b => (b.toNat : Int)
theorem wordL_length (s : ByteArray) : (wordL s).length = s.size := by unfold wordL; rw [List.length_map]; rfl
theorem conv_word (s : ByteArray) (w : World) (hs : s.size ≤ 1000) :
    ∃ c W, (convert 9 41 (.string s)).run Tryz.prog w = .ok (.slice (some ⟨w.heap.size, 0, none⟩) s.size c) W ∧ Bytes W (some ⟨w.heap.size, 0, none⟩) s.size c (wordL s) ∧ Below w.heap.size w W ∧ W.heap.size = w.heap.size + 1 := by
  refine ⟨_, _, run_bytes_of_string w 9 41 5 s Tryz.underlying9 Tryz.underlying41 Tryz.underlying5, ?_, (Below.refl _ _).drew.alloc (Nat.le_refl _) _, by simp⟩
  have hc := grownCap_ge w s.size 0 5
  have hm := grownCap_le_maxLen w s.size 0 5 (by simp [maxLen]; omega)
  generalize grownCap w s.size 0 5 = c at hc hm ⊢
  refine ⟨by rw [wordL_length], hc, by simpa [maxLen] using hm, (fun h => by cases h), .inr ⟨_, _, rfl, fun j hj => ?_⟩⟩
  have hrow : (w.drew.alloc (.cells (bytesRow s c) 5 ((bytesRow s c).size, (bytesRow s c).size + 1))).heap[w.heap.size]? = some (.cells (bytesRow s c) 5 ((bytesRow s c).size, (bytesRow s c).size + 1)) := heap_alloc_new w.drew _
  rw [cell_of_row _ _ _ _ _ _ hrow, Nat.zero_add]
  have hj' : j < s.data.size := hj
  simp [bytesRow, wordL, hj', Array.getElem?_append]
  rw [if_pos hj, Array.getElem?_eq_getElem hj']
  rfl
theorem infoSl : (Tryz.prog.info? 41).map (fun i => (i.zero, i.size, i.bytes)) = some (some (.slice none 0 0), 1, 24) := by kernel_rfl
/-- Parts that were laid into a new block. -/
theorem partsNew (w : World) (ps : List Part) (h : ∀ p ∈ ps, Bytes w p.x p.len p.cap p.z) : PartsAt (w.alloc (.cells (ps.map Part.val).toArray 41)) w.heap.size ps :=
  ⟨fun j hj => by
    rw [cell_of_row _ _ j _ _ _ (heap_alloc_new w _)]; simp [hj],
   fun j hj => (h _ (List.getElem_mem hj)).below ((Below.refl _ _).alloc (Nat.le_refl _) _)⟩
theorem Bytes.rangeK {w : World} {b off n c : Nat} {z : List Int} (h : Bytes w (some ⟨b, off, none⟩) n c z) : w.rangeAt b off (z.map (Value.int .u8)) := fun j v hv => by
  have hj : j < z.length := by have := (List.getElem?_eq_some_iff.1 hv).1; simpa using this
  rcases h.at_ with h0 | ⟨b', off', hx, hc⟩
  · have := h.len_eq; omega
  · cases hx
    rw [hc j (by have := h.len_eq; omega), ← hv, List.getElem?_map, List.getElem?_eq_getElem hj]; rfl
theorem sizeKeyD : (Tryz.prog.info? 23).map (·.size) = some 32 := by kernel_rfl
theorem zKeyL : ∃ Z : List Int, Z.length = 32 ∧ (Tryz.prog.info? 23).map (·.zero) = some (some (.agg (row .u8 Z))) := ⟨List.replicate 32 0, rfl, by kernel_rfl⟩
/-- An array's pointer out of a slice that is long enough. -/
theorem run_arrayAk {t e : TypeId} {n : Nat} (hu : Tryz.prog.underlying t = some (.array n e)) (x : Option Addr) (len cap : Nat) (h : n ≤ len) (w : World) : (Instr.arrayAt t (.slice x len cap)).run Tryz.prog w = .ok (.pointer x) w := by
  simp [Instr.arrayAt, run_underlying hu, Nat.not_lt.2 h]
set_option maxHeartbeats 4000000 in
theorem derived_any (k : List Int) (ws : ByteArray) (x : Option Addr) (n c : Nat) (m : List Int) (w : World) (hk : k.length = 32) (hws : ws.size ≤ 1000) (hm : Bytes w x n c m) (hn : n ≤ 1000) (hKT : S.KTab w) :
    Calls Tryz.prog 81 #[.agg (row .u8 k), .string ws, .slice x n c] w fun e w' => e = .returned (.agg (row .u8 (derL k (wordL ws ++ m)))) ∧ Below w.heap.size w w' := by
  have hk0 := Holds.new w .u8 23 k
  have HML : Veil (n = m.length ∧ (wordL ws).length = ws.size) := ⟨hm.len_eq, wordL_length ws⟩
  obtain ⟨Z, hZl, hZ⟩ : ∃ Z : List Int, Z.length = 32 ∧ Z = List.replicate 32 0 := ⟨_, rfl, rfl⟩
  have hr0 := Holds.new (w.alloc (.cells (row .u8 k) 23)) .u8 23 Z
  rw [World.size_alloc] at hr0
  have hk1 := hk0.alloc (.cells (row .u8 Z) 23)
  have hB : Below w.heap.size w ((w.alloc (.cells (row .u8 k) 23)).alloc (.cells (row .u8 Z) 23)) := ((Below.refl _ _).alloc (Nat.le_refl _) _).alloc (by simp) _
  go_enter Tryz.func81, Tryz.ntmps81
  go_upto_region 1 with fail
  refine forget (p := fun y => Code.wp _ _ _ _ y) (fun W => Below w.heap.size w W ∧ Holds W w.heap.size .u8 23 k ∧ Holds W (w.heap.size + 1) .u8 23 Z) ⟨by rw [hZ] at hB; exact hB, by rw [hZ] at hk1; exact hk1, by rw [hZ] at hr0 ⊢; exact hr0⟩ ?_
  clear hB hk1 hr0 hk0 hZ
  rintro W ⟨hB, hk0, hr0⟩
  have uK : Tryz.prog.underlying 23 = _ := Tryz.underlying23
  have iK : (Tryz.prog.info? 23).map (·.size) = some (k.map (Value.int .u8)).length := by rw [List.length_map, hk]; exact sizeKeyD
  have HK : ∀ W' : World, Holds W' w.heap.size .u8 23 k → W'.rangeAt w.heap.size 0 (k.map (Value.int .u8)) := fun W' h => by
    have := h.cellsAt.range 0 32
    rw [List.drop_zero, List.take_of_length_le (by simp [hk])] at this
    exact this
  refine wp_region_gate (fun w' => w'.rangeAt w.heap.size 0 (k.map (Value.int .u8))) 6 (by kernel_rfl) ?_
  have hS := HK W.drew hk0
  refine wpAnyG_load (i := 0) (dst := some 10) (ty := 23) (x := .tmp 3) (b := w.heap.size) (o := (0)) (cs := (k.map (Value.int .u8))) (by kernel_rfl) (by kernel_rfl) (by kernel_rfl) (by kernel_rfl) (by kernel_rfl) (fun _ _ _ h => h) (by kernel_rfl) (by kernel_rfl) (by kernel_rfl) hS (by kernel_rfl) (fun _ h => h) uK rfl iK ?_
  simp only [Act.put, List.getElem_toArray, List.getElem_cons_succ, List.getElem_cons_zero, List.setIfInBounds_toArray, List.set_cons_zero, List.set_cons_succ]
  refine wpAnyG_any (i := 1) (v := ?_) rfl (by kernel_rfl) (by kernel_rfl) (by kernel_rfl) (fun _ _ _ h => h) (by kernel_rfl) (fun _ => hS) (by kernel_rfl) ?_ ?_
  rotate_left
  · intro _; go_simp; try with_reducible rfl
  simp only [Act.put, List.getElem_toArray, List.getElem_cons_succ, List.getElem_cons_zero, List.setIfInBounds_toArray, List.set_cons_zero, List.set_cons_succ]
  refine wpAnyG_any (i := 3) (v := ?_) rfl (by kernel_rfl) (by kernel_rfl) (by kernel_rfl) (fun _ _ _ h => h) (by kernel_rfl) (fun _ => hS) (by kernel_rfl) ?_ ?_
  rotate_left
  · intro _; go_simp; try with_reducible rfl
  simp only [Act.put, List.getElem_toArray, List.getElem_cons_succ, List.getElem_cons_zero, List.setIfInBounds_toArray, List.set_cons_zero, List.set_cons_succ]
  refine wpAnyG_one (i := 2) rfl (by kernel_rfl) (by kernel_rfl) (fun K hK => ?_)
  obtain ⟨c2, W2, hrun2, hb2, hB2, hs2⟩ := conv_word ws W.drew hws
  refine wpx_conv _ _ _ rfl _ _ _ rfl hrun2 ?_
  have hb02 : Below W.heap.size W W2 := Below.trans (Below.refl _ W).drew hB2
  have hk2 := hk0.below hb02 hk0.lt
  have hr2 := hr0.below hb02 hr0.lt
  have hBw2 : Below w.heap.size w W2 := hB.trans (hb02.mono hB.size)
  obtain ⟨g2, hg2⟩ : ∃ g2, W.drew.heap.size = g2 := ⟨_, rfl⟩
  rw [hg2] at hb2 hs2 ⊢
  clear hrun2 hB2 hb02 hk0 hr0 hB hg2
  replace hS := HK W2 hk2
  refine hK.out _ _ (fun _ => hS) ?_
  clear hK K
  try simp only [Act.put, List.getElem_toArray, List.getElem_cons_succ, List.getElem_cons_zero, List.setIfInBounds_toArray, List.set_cons_zero, List.set_cons_succ]
  refine wpAnyG_one (i := 4) rfl (by kernel_rfl) (by kernel_rfl) (fun K hK => ?_)
  obtain ⟨iw, hiw, hwz, hws2, hwb⟩ := info_parts infoSl
  refine wp_buildSlice 187 41 2 _ rfl #[.slice (some ⟨g2, 0, none⟩) ws.size c2, .slice x n c] iw _ Tryz.underlying187 hiw hwz (by rw [hws2]; decide) (by rw [hws2]; decide) (by rw [hws2]; kernel_rfl) ?_
  have hP := partsNew W2 [⟨some ⟨g2, 0, none⟩, ws.size, c2, wordL ws⟩, ⟨x, n, c, m⟩] (fun p hp => by
    rcases List.mem_cons.1 hp with rfl | hp
    · exact hb2
    · obtain rfl := List.mem_singleton.1 hp
      exact hm.below hBw2)
  have hB3 : Below w.heap.size w (W2.alloc (.cells #[.slice (some ⟨g2, 0, none⟩) ws.size c2, .slice x n c] 41)) := hBw2.alloc hBw2.size _
  have hk3 := hk2.alloc (.cells #[.slice (some ⟨g2, 0, none⟩) ws.size c2, .slice x n c] 41)
  have hr3 := hr2.alloc (.cells #[.slice (some ⟨g2, 0, none⟩) ws.size c2, .slice x n c] 41)
  replace hS := HK _ hk3
  refine hK.out _ _ (fun _ => hS) ?_
  clear hK K
  try simp only [Act.put, List.getElem_toArray, List.getElem_cons_succ, List.getElem_cons_zero, List.setIfInBounds_toArray, List.set_cons_zero, List.set_cons_succ]
  refine wpAnyG_one (i := 5) rfl (by kernel_rfl) (by kernel_rfl) (fun K hK => ?_)
  have hj := kjoined_any W2.heap.size 2 [⟨some ⟨g2, 0, none⟩, ws.size, c2, wordL ws⟩, ⟨x, n, c, m⟩] _ hP rfl (by omega) (by have := HML.out; simp [sumN, allZ]; omega)
  refine wpx_call _ _ (by kernel_rfl) (hj.mono ?_)
  rintro e W4 ⟨v4, rfl, ho4, hb4⟩
  refine ⟨_, rfl, ?_⟩
  have hB4 := hB3.trans (hb4.mono hB3.size)
  have hk4 := hk3.below hb4 hk3.lt
  have hr4 := hr3.below hb4 hr3.lt
  replace hS := HK _ hk4
  refine hK.out _ _ (fun _ => hS) ?_
  clear hK K
  try simp only [Act.put, List.getElem_toArray, List.getElem_cons_succ, List.getElem_cons_zero, List.setIfInBounds_toArray, List.set_cons_zero, List.set_cons_succ]
  obtain ⟨x4, n4, c4, rfl, hn4⟩ := ho4.isSlice
  have hb5 := ho4.bytes.2
  rw [show allZ [⟨some ⟨g2, 0, none⟩, ws.size, c2, wordL ws⟩, ⟨x, n, c, m⟩] = wordL ws ++ m by simp [allZ]] at hb5 hn4
  rw [List.length_append] at hn4
  have he := expandK_any k x4 n4 c4 _ W4 hk hb5 (by have := HML.out; omega) (hKT.below hB4)
  clear hj hP hk3 hr3 hk2 hr2 hb2 ho4
  refine wpAnyG_one (i := 6) rfl (by kernel_rfl) (by kernel_rfl) (fun K hK => ?_)
  refine wpx_call _ _ (by kernel_rfl) (he.mono ?_)
  rintro e W6 ⟨v6, rfl, ho6, hb6⟩
  refine ⟨_, rfl, ?_⟩
  have hB6 := hB4.trans (hb6.mono hB4.size)
  have hr6 := hr4.below hb6 hr4.lt
  refine hK.out _ _ (fun h => absurd (show true = false from h) (by decide)) ?_
  clear hK K
  try simp only [Act.put, List.getElem_toArray, List.getElem_cons_succ, List.getElem_cons_zero, List.setIfInBounds_toArray, List.set_cons_zero, List.set_cons_succ]
  refine wpAnyG_any (i := 7) (v := ?_) rfl (by kernel_rfl) (by kernel_rfl) (by kernel_rfl) (fun _ _ _ h => h) (by kernel_rfl) (fun h => absurd (show true = false from h) (by decide)) (by kernel_rfl) ?_ ?_
  rotate_left
  · intro _; go_simp; try with_reducible rfl
  simp only [Act.put, List.getElem_toArray, List.getElem_cons_succ, List.getElem_cons_zero, List.setIfInBounds_toArray, List.set_cons_zero, List.set_cons_succ]
  refine wpAnyG_any (i := 8) (v := ?_) rfl (by kernel_rfl) (by kernel_rfl) (by kernel_rfl) (fun _ _ _ h => h) (by kernel_rfl) (fun h => absurd (show true = false from h) (by decide)) (by kernel_rfl) ?_ ?_
  rotate_left
  · intro _; go_simp; try with_reducible rfl
  simp only [Act.put, List.getElem_toArray, List.getElem_cons_succ, List.getElem_cons_zero, List.setIfInBounds_toArray, List.set_cons_zero, List.set_cons_succ]
  refine wpAnyG_any (i := 9) (v := ?_) rfl (by kernel_rfl) (by kernel_rfl) (by kernel_rfl) (fun _ _ _ h => h) (by kernel_rfl) (fun h => absurd (show true = false from h) (by decide)) (by kernel_rfl) ?_ ?_
  rotate_left
  · intro _; go_simp; try with_reducible rfl
  simp only [Act.put, List.getElem_toArray, List.getElem_cons_succ, List.getElem_cons_zero, List.setIfInBounds_toArray, List.set_cons_zero, List.set_cons_succ]
  refine wpAnyG_any (i := 10) (v := ?_) rfl (by kernel_rfl) (by kernel_rfl) (by kernel_rfl) (fun _ _ _ h => h) (by kernel_rfl) (fun h => absurd (show true = false from h) (by decide)) (by kernel_rfl) ?_ ?_
  rotate_left
  · intro _; go_simp; try with_reducible rfl
  simp only [Act.put, List.getElem_toArray, List.getElem_cons_succ, List.getElem_cons_zero, List.setIfInBounds_toArray, List.set_cons_zero, List.set_cons_succ]
  refine wpAnyG_any (i := 11) (v := ?_) rfl (by kernel_rfl) (by kernel_rfl) (by kernel_rfl) (fun _ _ _ h => h) (by kernel_rfl) (fun h => absurd (show true = false from h) (by decide)) (by kernel_rfl) ?_ ?_
  rotate_left
  · intro _; go_simp; try with_reducible rfl
  simp only [Act.put, List.getElem_toArray, List.getElem_cons_succ, List.getElem_cons_zero, List.setIfInBounds_toArray, List.set_cons_zero, List.set_cons_succ]
  refine wpAnyG_done (by kernel_rfl) ?_ _
  have hdl := derL_length k (wordL ws ++ m)
  obtain ⟨DK, hDK⟩ : ∃ q, derL k (wordL ws ++ m) = q := ⟨_, rfl⟩
  have HDK := Veil.mk hDK
  rw [hDK] at ho6 hdl
  obtain ⟨g6, c6, rfl, hge⟩ := ho6.slice (by omega)
  have hby := ho6.bytes.2
  have hrg : W6.rangeAt g6 0 (DK.map (Value.int .u8)) := by
    have := hby.rangeK
    exact this
  have hra : ∀ wx, (Instr.arrayAt 23 (.slice (some ⟨g6, 0, none⟩) DK.length c6)).run Tryz.prog wx = .ok (.pointer (some ⟨g6, 0, none⟩)) wx := fun wx => run_arrayAk Tryz.underlying23 _ _ _ (by omega) wx
  have HDL := Veil.mk hdl
  clear hDK ho6 he hk4 hr4 hS hB4 hb6 hb4 hB3 hb5 hby iK uK HK
  clear hdl
  go_wp2_with (first
    | (refine wpList_ldv rfl 23 _ rfl _ _ rfl (DK.map (Value.int .u8)) hrg Tryz.underlying23 rfl (by rw [List.length_map, HDL.out]; exact sizeKeyD) ?_)
    | (refine wpList_st rfl 23 _ _ rfl _ rfl (k := .u8) (l := DK) rfl hr6 (by rw [HDL.out]; exact sizeKeyD) (by rw [hZl, HDL.out]) ?_))
  refine bodyPost_ret (results_holds (Tryz.results81) _ rfl (hr6.setRow _) Tryz.underlying23 sizeKeyD HDL.out) rfl ⟨?_, ?_⟩
  · rw [HDK.out]
  · exact below_setRow hB6 (by omega) _
end Go.Proofs.YtfainlfiphdaeaaGreatDoor

namespace Go.Proofs.YtfainlfiphdaeaaGreatDoor
open Go.RowKit
set_option maxRecDepth 20000
set_option linter.unusedSimpArgs false

theorem sizeNonceD : (Tryz.prog.info? 101).map (·.size) = some 12 := by kernel_rfl
theorem run_make8 (w : World) : (Instr.makeSlice 41 (.int .i64 8) (.int .i64 8)).run Tryz.prog w = .ok (.slice (some ⟨w.heap.size, 0, none⟩) 8 8) (w.alloc (.cells (row .u8 [0, 0, 0, 0, 0, 0, 0, 0]) 5)) := by kernel_rfl
theorem run_make4 (w : World) : (Instr.makeSlice 41 (.int .i64 4) (.int .i64 4)).run Tryz.prog w = .ok (.slice (some ⟨w.heap.size, 0, none⟩) 4 4) (w.alloc (.cells (row .u8 [0, 0, 0, 0]) 5)) := by kernel_rfl
theorem newB (w : World) (l : List Int) (n : Nat) (hn : n = l.length) (hl : l.length ≤ 4000000) : Bytes (w.alloc (.cells (row .u8 l) 5)) (some ⟨w.heap.size, 0, none⟩) n n l := (Holds.new w .u8 5 l).bytes hn hl
def nonceL (n : Int) : List Int := [0, 0, 0, 0, 0, 0, 0, 0] ++ bE4 n
def wrapNL (f t a s : Int) : List Int := [f, t, a, 0] ++ (bE4 s ++ [0, 0, 0, 0])
set_option maxHeartbeats 4000000 in
theorem nonce_any (n : Int) (w : World) :
    Calls Tryz.prog 54 #[.int .u32 n] w fun e w' => e = .returned (.agg (row .u8 (nonceL n))) ∧ Below w.heap.size w w' := by
  obtain ⟨iw, hiw, hwz, hws2, hwb⟩ := info_parts infoSl
  obtain ⟨Z, hZl, hZ⟩ : ∃ Z : List Int, Z.length = 12 ∧ Z = List.replicate 12 0 := ⟨_, rfl, rfl⟩
  have hr0 := Holds.new w .u8 101 Z
  have hB : Below w.heap.size w (w.alloc (.cells (row .u8 Z) 101)) := (Below.refl _ _).alloc (Nat.le_refl _) _
  go_enter Tryz.func54, Tryz.ntmps54
  go_upto_region 1 with fail
  refine forget (p := fun y => Code.wp _ _ _ _ y) (fun W => Below w.heap.size w W ∧ Holds W w.heap.size .u8 101 Z) ⟨by rw [hZ] at hB; exact hB, by rw [hZ] at hr0 ⊢; exact hr0⟩ ?_
  clear hB hr0 hZ
  rintro W ⟨hBW, hRW⟩
  obtain ⟨V0, hV0⟩ : ∃ q, W.drew = q := ⟨_, rfl⟩
  have hBV0 : Below w.heap.size w V0 := by rw [← hV0]; exact hBW.drew
  have hRV0 : Holds V0 w.heap.size .u8 101 Z := by rw [← hV0]; exact hRW.drew
  refine wp_region_gate (fun _ => True) 7 (by kernel_rfl) ?_
  rw [hV0]
  clear hV0 hBW hRW W
  have hS : (fun _ : World => True) V0 := trivial
  have hNLl : (nonceL n).length = 12 := rfl
  obtain ⟨NL, hNL⟩ : ∃ q, nonceL n = q := ⟨_, rfl⟩
  rw [hNL] at hNLl
  refine wpAnyG_any (i := 1) (v := ?_) rfl (by kernel_rfl) (by kernel_rfl) (by kernel_rfl) (fun _ _ _ h => h) (by kernel_rfl) (fun _ => hS) (by kernel_rfl) ?_ ?_
  rotate_left
  · intro _; go_simp; try with_reducible rfl
  simp only [Act.put, List.getElem_toArray, List.getElem_cons_succ, List.getElem_cons_zero, List.setIfInBounds_toArray, List.set_cons_zero, List.set_cons_succ]
  refine wpAnyG_two (i := 0) (j := 2) rfl rfl (by kernel_rfl) (by kernel_rfl) (by kernel_rfl) (fun K hK => ?_) (fun K hK => ?_)
  · skip
    refine wpx_make _ _ _ rfl _ _ _ _ rfl rfl (run_make8 _) ?_
    have hNV1 := newB V0 [0, 0, 0, 0, 0, 0, 0, 0] 8 rfl (by simp [bE4])
    have hBV1 := hBV0.alloc hBV0.size (.cells (row .u8 [0, 0, 0, 0, 0, 0, 0, 0]) 5)
    have hRV1 := hRV0.alloc (.cells (row .u8 [0, 0, 0, 0, 0, 0, 0, 0]) 5)
    refine hK.out _ _ (fun _ => hS) ?_
    clear hK K
    try simp only [Act.put, List.getElem_toArray, List.getElem_cons_succ, List.getElem_cons_zero, List.setIfInBounds_toArray, List.set_cons_zero, List.set_cons_succ]
    obtain ⟨V1, hV1⟩ : ∃ q, V0.alloc (.cells (row .u8 [0, 0, 0, 0, 0, 0, 0, 0]) 5) = q := ⟨_, rfl⟩
    obtain ⟨g1, hg1⟩ : ∃ q, V0.heap.size = q := ⟨_, rfl⟩
    rw [hV1] at hNV1 hBV1 hRV1 ⊢
    rw [hg1] at hNV1 ⊢
    clear hV1 hg1 hBV0 hRV0
    have hN0_V1 := hNV1
    clear hNV1
    refine wpAnyG_one (i := 2) rfl (by kernel_rfl) (by kernel_rfl) (fun K hK => ?_)
    refine wpx_call _ _ (by kernel_rfl) ((kfour_any n _).mono ?_)
    rintro e wy ⟨rfl, rfl⟩
    refine ⟨_, rfl, ?_⟩
    have hNV2 := newB V1 (bE4 n) 4 rfl (by simp [bE4])
    have hBV2 := hBV1.alloc hBV1.size (.cells (row .u8 (bE4 n)) 5)
    have hRV2 := hRV1.alloc (.cells (row .u8 (bE4 n)) 5)
    have hN0_V2 := hN0_V1.below ((Below.refl _ _).alloc (Nat.le_refl _) (.cells (row .u8 (bE4 n)) 5))
    refine hK.out _ _ (fun _ => hS) ?_
    clear hK K
    try simp only [Act.put, List.getElem_toArray, List.getElem_cons_succ, List.getElem_cons_zero, List.setIfInBounds_toArray, List.set_cons_zero, List.set_cons_succ]
    obtain ⟨V2, hV2⟩ : ∃ q, V1.alloc (.cells (row .u8 (bE4 n)) 5) = q := ⟨_, rfl⟩
    obtain ⟨g2, hg2⟩ : ∃ q, V1.heap.size = q := ⟨_, rfl⟩
    rw [hV2] at hNV2 hBV2 hRV2 hN0_V2 ⊢
    rw [hg2] at hNV2 ⊢
    clear hV2 hg2 hBV1 hRV1 hN0_V1
    have hN2_V2 := hNV2
    clear hNV2
    refine wpAnyG_one (i := 3) rfl (by kernel_rfl) (by kernel_rfl) (fun K hK => ?_)
    refine wp_buildSlice 187 41 2 _ rfl #[.slice (some ⟨g1, 0, none⟩) 8 8, .slice (some ⟨g2, 0, none⟩) 4 4] iw _ Tryz.underlying187 hiw hwz (by rw [hws2]; decide) (by rw [hws2]; decide) (by rw [hws2]; kernel_rfl) ?_
    have hP := partsNew V2 [⟨some ⟨g1, 0, none⟩, 8, 8, [0, 0, 0, 0, 0, 0, 0, 0]⟩, ⟨some ⟨g2, 0, none⟩, 4, 4, (bE4 n)⟩] (fun p hp => by
      simp only [List.mem_cons, List.not_mem_nil, or_false] at hp
      rcases hp with rfl | rfl
      · exact hN0_V2
      · exact hN2_V2)
    have hBP := hBV2.alloc hBV2.size (.cells #[.slice (some ⟨g1, 0, none⟩) 8 8, .slice (some ⟨g2, 0, none⟩) 4 4] 41)
    have hRP := hRV2.alloc (.cells #[.slice (some ⟨g1, 0, none⟩) 8 8, .slice (some ⟨g2, 0, none⟩) 4 4] 41)
    refine hK.out _ _ (fun _ => hS) ?_
    clear hK K
    try simp only [Act.put, List.getElem_toArray, List.getElem_cons_succ, List.getElem_cons_zero, List.setIfInBounds_toArray, List.set_cons_zero, List.set_cons_succ]
    refine wpAnyG_one (i := 4) rfl (by kernel_rfl) (by kernel_rfl) (fun K hK => ?_)
    have hj := kjoined_any V2.heap.size 2 [⟨some ⟨g1, 0, none⟩, 8, 8, [0, 0, 0, 0, 0, 0, 0, 0]⟩, ⟨some ⟨g2, 0, none⟩, 4, 4, (bE4 n)⟩] _ hP rfl (by omega) (by simp [sumN, allZ, bE4])
    rw [show allZ [⟨some ⟨g1, 0, none⟩, 8, 8, [0, 0, 0, 0, 0, 0, 0, 0]⟩, ⟨some ⟨g2, 0, none⟩, 4, 4, (bE4 n)⟩] = nonceL n from rfl, hNL] at hj
    refine wpx_call _ _ (by kernel_rfl) (hj.mono ?_)
    rintro e WJ ⟨vj, rfl, hoj, hbj⟩
    refine ⟨_, rfl, ?_⟩
    have hBJ := hBP.trans (hbj.mono hBP.size)
    have hRJ := hRP.below hbj hRP.lt
    obtain ⟨gj, cj, rfl, hgj⟩ := hoj.slice (by rw [hNLl]; omega)
    have hrg := hoj.bytes.2.rangeK
    refine hK.out _ _ (fun _ => hS) ?_
    clear hK K
    try simp only [Act.put, List.getElem_toArray, List.getElem_cons_succ, List.getElem_cons_zero, List.setIfInBounds_toArray, List.set_cons_zero, List.set_cons_succ]
    refine wpAnyG_one (i := 5) rfl (by kernel_rfl) (by kernel_rfl) (fun K hK => ?_)
    refine wpx_arr _ _ rfl _ _ _ rfl (run_arrayAk Tryz.underlying101 _ _ _ (by rw [hNLl]; exact Nat.le_refl _) _) ?_
    refine hK.out _ _ (fun _ => hS) ?_
    clear hK K
    try simp only [Act.put, List.getElem_toArray, List.getElem_cons_succ, List.getElem_cons_zero, List.setIfInBounds_toArray, List.set_cons_zero, List.set_cons_succ]
    refine wpAnyG_one (i := 6) rfl (by kernel_rfl) (by kernel_rfl) (fun K hK => ?_)
    refine wp_load_mid 101 _ rfl gj 0 rfl _ _ hrg Tryz.underlying101 rfl (by rw [List.length_map, hNLl]; exact sizeNonceD) ?_
    refine hK.out _ _ (fun _ => hS) ?_
    clear hK K
    try simp only [Act.put, List.getElem_toArray, List.getElem_cons_succ, List.getElem_cons_zero, List.setIfInBounds_toArray, List.set_cons_zero, List.set_cons_succ]
    refine wpAnyG_one (i := 7) rfl (by kernel_rfl) (by kernel_rfl) (fun K hK => ?_)
    refine wp_stG 101 _ _ rfl _ rfl (k := .u8) (l := NL) rfl hRJ (by rw [hNLl]; exact sizeNonceD) (by rw [hZl, hNLl]) ?_
    refine hK.out _ _ (fun h => absurd (show true = false from h) (by decide)) ?_
    clear hK K
    try simp only [Act.put, List.getElem_toArray, List.getElem_cons_succ, List.getElem_cons_zero, List.setIfInBounds_toArray, List.set_cons_zero, List.set_cons_succ]
    refine wpAnyG_done (by kernel_rfl) ?_ _
    go_wp2_with fail
    refine bodyPost_ret (results_holds (Tryz.results54) _ rfl (hRJ.setRow _) Tryz.underlying101 sizeNonceD hNLl) rfl ⟨by rw [← hNL], ?_⟩
    exact below_setRow hBJ (Nat.le_refl _) _
  · skip
    refine wpx_call _ _ (by kernel_rfl) ((kfour_any n _).mono ?_)
    rintro e wy ⟨rfl, rfl⟩
    refine ⟨_, rfl, ?_⟩
    have hNV3 := newB V0 (bE4 n) 4 rfl (by simp [bE4])
    have hBV3 := hBV0.alloc hBV0.size (.cells (row .u8 (bE4 n)) 5)
    have hRV3 := hRV0.alloc (.cells (row .u8 (bE4 n)) 5)
    refine hK.out _ _ (fun _ => hS) ?_
    clear hK K
    try simp only [Act.put, List.getElem_toArray, List.getElem_cons_succ, List.getElem_cons_zero, List.setIfInBounds_toArray, List.set_cons_zero, List.set_cons_succ]
    obtain ⟨V3, hV3⟩ : ∃ q, V0.alloc (.cells (row .u8 (bE4 n)) 5) = q := ⟨_, rfl⟩
    obtain ⟨g3, hg3⟩ : ∃ q, V0.heap.size = q := ⟨_, rfl⟩
    rw [hV3] at hNV3 hBV3 hRV3 ⊢
    rw [hg3] at hNV3 ⊢
    clear hV3 hg3 hBV0 hRV0
    have hN2_V3 := hNV3
    clear hNV3
    refine wpAnyG_one (i := 0) rfl (by kernel_rfl) (by kernel_rfl) (fun K hK => ?_)
    refine wpx_make _ _ _ rfl _ _ _ _ rfl rfl (run_make8 _) ?_
    have hNV4 := newB V3 [0, 0, 0, 0, 0, 0, 0, 0] 8 rfl (by simp [bE4])
    have hBV4 := hBV3.alloc hBV3.size (.cells (row .u8 [0, 0, 0, 0, 0, 0, 0, 0]) 5)
    have hRV4 := hRV3.alloc (.cells (row .u8 [0, 0, 0, 0, 0, 0, 0, 0]) 5)
    have hN2_V4 := hN2_V3.below ((Below.refl _ _).alloc (Nat.le_refl _) (.cells (row .u8 [0, 0, 0, 0, 0, 0, 0, 0]) 5))
    refine hK.out _ _ (fun _ => hS) ?_
    clear hK K
    try simp only [Act.put, List.getElem_toArray, List.getElem_cons_succ, List.getElem_cons_zero, List.setIfInBounds_toArray, List.set_cons_zero, List.set_cons_succ]
    obtain ⟨V4, hV4⟩ : ∃ q, V3.alloc (.cells (row .u8 [0, 0, 0, 0, 0, 0, 0, 0]) 5) = q := ⟨_, rfl⟩
    obtain ⟨g4, hg4⟩ : ∃ q, V3.heap.size = q := ⟨_, rfl⟩
    rw [hV4] at hNV4 hBV4 hRV4 hN2_V4 ⊢
    rw [hg4] at hNV4 ⊢
    clear hV4 hg4 hBV3 hRV3 hN2_V3
    have hN0_V4 := hNV4
    clear hNV4
    refine wpAnyG_one (i := 3) rfl (by kernel_rfl) (by kernel_rfl) (fun K hK => ?_)
    refine wp_buildSlice 187 41 2 _ rfl #[.slice (some ⟨g4, 0, none⟩) 8 8, .slice (some ⟨g3, 0, none⟩) 4 4] iw _ Tryz.underlying187 hiw hwz (by rw [hws2]; decide) (by rw [hws2]; decide) (by rw [hws2]; kernel_rfl) ?_
    have hP := partsNew V4 [⟨some ⟨g4, 0, none⟩, 8, 8, [0, 0, 0, 0, 0, 0, 0, 0]⟩, ⟨some ⟨g3, 0, none⟩, 4, 4, (bE4 n)⟩] (fun p hp => by
      simp only [List.mem_cons, List.not_mem_nil, or_false] at hp
      rcases hp with rfl | rfl
      · exact hN0_V4
      · exact hN2_V4)
    have hBP := hBV4.alloc hBV4.size (.cells #[.slice (some ⟨g4, 0, none⟩) 8 8, .slice (some ⟨g3, 0, none⟩) 4 4] 41)
    have hRP := hRV4.alloc (.cells #[.slice (some ⟨g4, 0, none⟩) 8 8, .slice (some ⟨g3, 0, none⟩) 4 4] 41)
    refine hK.out _ _ (fun _ => hS) ?_
    clear hK K
    try simp only [Act.put, List.getElem_toArray, List.getElem_cons_succ, List.getElem_cons_zero, List.setIfInBounds_toArray, List.set_cons_zero, List.set_cons_succ]
    refine wpAnyG_one (i := 4) rfl (by kernel_rfl) (by kernel_rfl) (fun K hK => ?_)
    have hj := kjoined_any V4.heap.size 2 [⟨some ⟨g4, 0, none⟩, 8, 8, [0, 0, 0, 0, 0, 0, 0, 0]⟩, ⟨some ⟨g3, 0, none⟩, 4, 4, (bE4 n)⟩] _ hP rfl (by omega) (by simp [sumN, allZ, bE4])
    rw [show allZ [⟨some ⟨g4, 0, none⟩, 8, 8, [0, 0, 0, 0, 0, 0, 0, 0]⟩, ⟨some ⟨g3, 0, none⟩, 4, 4, (bE4 n)⟩] = nonceL n from rfl, hNL] at hj
    refine wpx_call _ _ (by kernel_rfl) (hj.mono ?_)
    rintro e WJ ⟨vj, rfl, hoj, hbj⟩
    refine ⟨_, rfl, ?_⟩
    have hBJ := hBP.trans (hbj.mono hBP.size)
    have hRJ := hRP.below hbj hRP.lt
    obtain ⟨gj, cj, rfl, hgj⟩ := hoj.slice (by rw [hNLl]; omega)
    have hrg := hoj.bytes.2.rangeK
    refine hK.out _ _ (fun _ => hS) ?_
    clear hK K
    try simp only [Act.put, List.getElem_toArray, List.getElem_cons_succ, List.getElem_cons_zero, List.setIfInBounds_toArray, List.set_cons_zero, List.set_cons_succ]
    refine wpAnyG_one (i := 5) rfl (by kernel_rfl) (by kernel_rfl) (fun K hK => ?_)
    refine wpx_arr _ _ rfl _ _ _ rfl (run_arrayAk Tryz.underlying101 _ _ _ (by rw [hNLl]; exact Nat.le_refl _) _) ?_
    refine hK.out _ _ (fun _ => hS) ?_
    clear hK K
    try simp only [Act.put, List.getElem_toArray, List.getElem_cons_succ, List.getElem_cons_zero, List.setIfInBounds_toArray, List.set_cons_zero, List.set_cons_succ]
    refine wpAnyG_one (i := 6) rfl (by kernel_rfl) (by kernel_rfl) (fun K hK => ?_)
    refine wp_load_mid 101 _ rfl gj 0 rfl _ _ hrg Tryz.underlying101 rfl (by rw [List.length_map, hNLl]; exact sizeNonceD) ?_
    refine hK.out _ _ (fun _ => hS) ?_
    clear hK K
    try simp only [Act.put, List.getElem_toArray, List.getElem_cons_succ, List.getElem_cons_zero, List.setIfInBounds_toArray, List.set_cons_zero, List.set_cons_succ]
    refine wpAnyG_one (i := 7) rfl (by kernel_rfl) (by kernel_rfl) (fun K hK => ?_)
    refine wp_stG 101 _ _ rfl _ rfl (k := .u8) (l := NL) rfl hRJ (by rw [hNLl]; exact sizeNonceD) (by rw [hZl, hNLl]) ?_
    refine hK.out _ _ (fun h => absurd (show true = false from h) (by decide)) ?_
    clear hK K
    try simp only [Act.put, List.getElem_toArray, List.getElem_cons_succ, List.getElem_cons_zero, List.setIfInBounds_toArray, List.set_cons_zero, List.set_cons_succ]
    refine wpAnyG_done (by kernel_rfl) ?_ _
    go_wp2_with fail
    refine bodyPost_ret (results_holds (Tryz.results54) _ rfl (hRJ.setRow _) Tryz.underlying101 sizeNonceD hNLl) rfl ⟨by rw [← hNL], ?_⟩
    exact below_setRow hBJ (Nat.le_refl _) _
set_option maxHeartbeats 4000000 in
theorem wnonce_any (f t a s : Int) (w : World) :
    Calls Tryz.prog 86 #[.int .u8 f, .int .u8 t, .agg (dotC a s).toArray] w fun e w' => e = .returned (.agg (row .u8 (wrapNL f t a s))) ∧ Below w.heap.size w w' := by
  obtain ⟨iw, hiw, hwz, hws2, hwb⟩ := info_parts infoSl
  obtain ⟨iu, hiu, huz, hus, hub⟩ := info_parts infoU8
  obtain ⟨Z, hZl, hZ⟩ : ∃ Z : List Int, Z.length = 12 ∧ Z = List.replicate 12 0 := ⟨_, rfl, rfl⟩
  have hd0 := (CellsAt.new w 26 (dotC a s)).alloc (.cells (row .u8 Z) 101)
  have hr0 := Holds.new (w.alloc (.cells (dotC a s).toArray 26)) .u8 101 Z
  rw [World.size_alloc] at hr0
  have hB : Below w.heap.size w ((w.alloc (.cells (dotC a s).toArray 26)).alloc (.cells (row .u8 Z) 101)) := ((Below.refl _ _).alloc (Nat.le_refl _) _).alloc (by simp) _
  go_enter Tryz.func86, Tryz.ntmps86
  go_upto_region 1 with fail
  refine forget (p := fun y => Code.wp _ _ _ _ y) (fun W => Below w.heap.size w W ∧ Holds W (w.heap.size + 1) .u8 101 Z ∧ CellsAt W w.heap.size 26 (dotC a s)) ⟨by rw [hZ] at hB; exact hB, by rw [hZ] at hr0 ⊢; exact hr0, by rw [hZ] at hd0; exact hd0⟩ ?_
  clear hB hr0 hZ hd0
  rintro W ⟨hBW, hRW, hDW⟩
  obtain ⟨V0, hV0⟩ : ∃ q, W.drew = q := ⟨_, rfl⟩
  have hBV0 : Below w.heap.size w V0 := by rw [← hV0]; exact hBW.drew
  have hRV0 : Holds V0 (w.heap.size + 1) .u8 101 Z := by rw [← hV0]; exact hRW.drew
  have hDV0 : CellsAt V0 w.heap.size 26 (dotC a s) := by rw [← hV0]; exact hDW
  refine wp_region_gate (fun w' => w'.cell? ⟨w.heap.size, 0, none⟩ = some (.int .u8 a) ∧ w'.cell? ⟨w.heap.size, 1, none⟩ = some (.int .u32 s)) 13 (by kernel_rfl) ?_
  rw [hV0]
  clear hV0 hBW hRW hDW W
  have HS : ∀ W' : World, CellsAt W' w.heap.size 26 (dotC a s) → (fun w' : World => w'.cell? ⟨w.heap.size, 0, none⟩ = some (.int .u8 a) ∧ w'.cell? ⟨w.heap.size, 1, none⟩ = some (.int .u32 s)) W' := fun W' h => ⟨h.cell 0, h.cell 1⟩
  have hS := HS V0 hDV0
  have hNLl : (wrapNL f t a s).length = 12 := rfl
  obtain ⟨NL, hNL⟩ : ∃ q, wrapNL f t a s = q := ⟨_, rfl⟩
  rw [hNL] at hNLl
  refine wpAnyG_any (i := 0) (v := ?_) rfl (by kernel_rfl) (by kernel_rfl) (by kernel_rfl) (fun _ _ _ h => h) (by kernel_rfl) (fun _ => hS) (by kernel_rfl) ?_ ?_
  rotate_left
  · intro _; go_simp; try with_reducible rfl
  simp only [Act.put, List.getElem_toArray, List.getElem_cons_succ, List.getElem_cons_zero, List.setIfInBounds_toArray, List.set_cons_zero, List.set_cons_succ]
  refine wpAnyG_any (i := 1) (v := ?_) rfl (by kernel_rfl) (by kernel_rfl) (by kernel_rfl) (fun _ _ _ h => h) (by kernel_rfl) (fun _ => hS) (by kernel_rfl) ?_ ?_
  rotate_left
  · intro _; go_simp; try with_reducible rfl
  simp only [Act.put, List.getElem_toArray, List.getElem_cons_succ, List.getElem_cons_zero, List.setIfInBounds_toArray, List.set_cons_zero, List.set_cons_succ]
  refine wpAnyG_any (i := 2) (v := ?_) rfl (by kernel_rfl) (by kernel_rfl) (by kernel_rfl) (fun _ _ _ h => h) (by kernel_rfl) (fun _ => hS) (by kernel_rfl) ?_ ?_
  rotate_left
  · intro _; go_simp; try with_reducible rfl
  simp only [Act.put, List.getElem_toArray, List.getElem_cons_succ, List.getElem_cons_zero, List.setIfInBounds_toArray, List.set_cons_zero, List.set_cons_succ]
  refine wpAnyG_read (i := 3) (v := ?_) rfl (by kernel_rfl) (by kernel_rfl) (by kernel_rfl) (fun _ _ _ h => h) (by kernel_rfl) (by kernel_rfl) (by kernel_rfl) hS (by kernel_rfl) ?_ ?_
  rotate_left
  · intro wx hSw; go_split_ands; go_simp; try with_reducible rfl
  simp only [Act.put, List.getElem_toArray, List.getElem_cons_succ, List.getElem_cons_zero, List.setIfInBounds_toArray, List.set_cons_zero, List.set_cons_succ]
  refine wpAnyG_any (i := 5) (v := ?_) rfl (by kernel_rfl) (by kernel_rfl) (by kernel_rfl) (fun _ _ _ h => h) (by kernel_rfl) (fun _ => hS) (by kernel_rfl) ?_ ?_
  rotate_left
  · intro _; go_simp; try with_reducible rfl
  simp only [Act.put, List.getElem_toArray, List.getElem_cons_succ, List.getElem_cons_zero, List.setIfInBounds_toArray, List.set_cons_zero, List.set_cons_succ]
  refine wpAnyG_read (i := 6) (v := ?_) rfl (by kernel_rfl) (by kernel_rfl) (by kernel_rfl) (fun _ _ _ h => h) (by kernel_rfl) (by kernel_rfl) (by kernel_rfl) hS (by kernel_rfl) ?_ ?_
  rotate_left
  · intro wx hSw; go_split_ands; go_simp; try with_reducible rfl
  simp only [Act.put, List.getElem_toArray, List.getElem_cons_succ, List.getElem_cons_zero, List.setIfInBounds_toArray, List.set_cons_zero, List.set_cons_succ]
  refine wpAnyG_three (i := 4) (j := 7) (l := 8) rfl rfl rfl (by kernel_rfl) (by kernel_rfl) (by kernel_rfl) (by kernel_rfl) (fun K hK => ?_) (fun K hK => ?_) (fun K hK => ?_)
  · skip
    refine wp_buildSlice 41 5 4 _ rfl (row .u8 [f, t, a, 0]) iu _ Tryz.underlying41 hiu huz (by rw [hus]; decide) (by rw [hus]; decide) (by rw [hus]; kernel_rfl) ?_
    have hNV5 := newB V0 [f, t, a, 0] 4 rfl (by simp [bE4])
    have hBV5 := hBV0.alloc hBV0.size (.cells (row .u8 [f, t, a, 0]) 5)
    have hRV5 := hRV0.alloc (.cells (row .u8 [f, t, a, 0]) 5)
    have hDV5 := hDV0.alloc (.cells (row .u8 [f, t, a, 0]) 5)
    replace hS := HS _ hDV5
    refine hK.out _ _ (fun _ => hS) ?_
    clear hK K
    try simp only [Act.put, List.getElem_toArray, List.getElem_cons_succ, List.getElem_cons_zero, List.setIfInBounds_toArray, List.set_cons_zero, List.set_cons_succ]
    obtain ⟨V5, hV5⟩ : ∃ q, V0.alloc (.cells (row .u8 [f, t, a, 0]) 5) = q := ⟨_, rfl⟩
    obtain ⟨g5, hg5⟩ : ∃ q, V0.heap.size = q := ⟨_, rfl⟩
    rw [hV5] at hNV5 hBV5 hRV5 hDV5 ⊢
    rw [hg5] at hNV5 ⊢
    clear hV5 hg5 hBV0 hRV0 hDV0
    have hN4_V5 := hNV5
    clear hNV5
    refine wpAnyG_two (i := 7) (j := 8) rfl rfl (by kernel_rfl) (by kernel_rfl) (by kernel_rfl) (fun K hK => ?_) (fun K hK => ?_)
    · skip
      refine wpx_call _ _ (by kernel_rfl) ((kfour_any s _).mono ?_)
      rintro e wy ⟨rfl, rfl⟩
      refine ⟨_, rfl, ?_⟩
      have hNV6 := newB V5 (bE4 s) 4 rfl (by simp [bE4])
      have hBV6 := hBV5.alloc hBV5.size (.cells (row .u8 (bE4 s)) 5)
      have hRV6 := hRV5.alloc (.cells (row .u8 (bE4 s)) 5)
      have hN4_V6 := hN4_V5.below ((Below.refl _ _).alloc (Nat.le_refl _) (.cells (row .u8 (bE4 s)) 5))
      have hDV6 := hDV5.alloc (.cells (row .u8 (bE4 s)) 5)
      replace hS := HS _ hDV6
      refine hK.out _ _ (fun _ => hS) ?_
      clear hK K
      try simp only [Act.put, List.getElem_toArray, List.getElem_cons_succ, List.getElem_cons_zero, List.setIfInBounds_toArray, List.set_cons_zero, List.set_cons_succ]
      obtain ⟨V6, hV6⟩ : ∃ q, V5.alloc (.cells (row .u8 (bE4 s)) 5) = q := ⟨_, rfl⟩
      obtain ⟨g6, hg6⟩ : ∃ q, V5.heap.size = q := ⟨_, rfl⟩
      rw [hV6] at hNV6 hBV6 hRV6 hN4_V6 hDV6 ⊢
      rw [hg6] at hNV6 ⊢
      clear hV6 hg6 hBV5 hRV5 hDV5 hN4_V5
      have hN7_V6 := hNV6
      clear hNV6
      refine wpAnyG_one (i := 8) rfl (by kernel_rfl) (by kernel_rfl) (fun K hK => ?_)
      refine wpx_make _ _ _ rfl _ _ _ _ rfl rfl (run_make4 _) ?_
      have hNV7 := newB V6 [0, 0, 0, 0] 4 rfl (by simp [bE4])
      have hBV7 := hBV6.alloc hBV6.size (.cells (row .u8 [0, 0, 0, 0]) 5)
      have hRV7 := hRV6.alloc (.cells (row .u8 [0, 0, 0, 0]) 5)
      have hN4_V7 := hN4_V6.below ((Below.refl _ _).alloc (Nat.le_refl _) (.cells (row .u8 [0, 0, 0, 0]) 5))
      have hN7_V7 := hN7_V6.below ((Below.refl _ _).alloc (Nat.le_refl _) (.cells (row .u8 [0, 0, 0, 0]) 5))
      have hDV7 := hDV6.alloc (.cells (row .u8 [0, 0, 0, 0]) 5)
      replace hS := HS _ hDV7
      refine hK.out _ _ (fun _ => hS) ?_
      clear hK K
      try simp only [Act.put, List.getElem_toArray, List.getElem_cons_succ, List.getElem_cons_zero, List.setIfInBounds_toArray, List.set_cons_zero, List.set_cons_succ]
      obtain ⟨V7, hV7⟩ : ∃ q, V6.alloc (.cells (row .u8 [0, 0, 0, 0]) 5) = q := ⟨_, rfl⟩
      obtain ⟨g7, hg7⟩ : ∃ q, V6.heap.size = q := ⟨_, rfl⟩
      rw [hV7] at hNV7 hBV7 hRV7 hN4_V7 hN7_V7 hDV7 ⊢
      rw [hg7] at hNV7 ⊢
      clear hV7 hg7 hBV6 hRV6 hDV6 hN4_V6 hN7_V6
      have hN8_V7 := hNV7
      clear hNV7
      refine wpAnyG_one (i := 9) rfl (by kernel_rfl) (by kernel_rfl) (fun K hK => ?_)
      refine wp_buildSlice 187 41 3 _ rfl #[.slice (some ⟨g5, 0, none⟩) 4 4, .slice (some ⟨g6, 0, none⟩) 4 4, .slice (some ⟨g7, 0, none⟩) 4 4] iw _ Tryz.underlying187 hiw hwz (by rw [hws2]; decide) (by rw [hws2]; decide) (by rw [hws2]; kernel_rfl) ?_
      have hP := partsNew V7 [⟨some ⟨g5, 0, none⟩, 4, 4, [f, t, a, 0]⟩, ⟨some ⟨g6, 0, none⟩, 4, 4, (bE4 s)⟩, ⟨some ⟨g7, 0, none⟩, 4, 4, [0, 0, 0, 0]⟩] (fun p hp => by
        simp only [List.mem_cons, List.not_mem_nil, or_false] at hp
        rcases hp with rfl | rfl | rfl
        · exact hN4_V7
        · exact hN7_V7
        · exact hN8_V7)
      have hBP := hBV7.alloc hBV7.size (.cells #[.slice (some ⟨g5, 0, none⟩) 4 4, .slice (some ⟨g6, 0, none⟩) 4 4, .slice (some ⟨g7, 0, none⟩) 4 4] 41)
      have hRP := hRV7.alloc (.cells #[.slice (some ⟨g5, 0, none⟩) 4 4, .slice (some ⟨g6, 0, none⟩) 4 4, .slice (some ⟨g7, 0, none⟩) 4 4] 41)
      have hDP := hDV7.alloc (.cells #[.slice (some ⟨g5, 0, none⟩) 4 4, .slice (some ⟨g6, 0, none⟩) 4 4, .slice (some ⟨g7, 0, none⟩) 4 4] 41)
      replace hS := HS _ hDP
      refine hK.out _ _ (fun _ => hS) ?_
      clear hK K
      try simp only [Act.put, List.getElem_toArray, List.getElem_cons_succ, List.getElem_cons_zero, List.setIfInBounds_toArray, List.set_cons_zero, List.set_cons_succ]
      refine wpAnyG_one (i := 10) rfl (by kernel_rfl) (by kernel_rfl) (fun K hK => ?_)
      have hj := kjoined_any V7.heap.size 3 [⟨some ⟨g5, 0, none⟩, 4, 4, [f, t, a, 0]⟩, ⟨some ⟨g6, 0, none⟩, 4, 4, (bE4 s)⟩, ⟨some ⟨g7, 0, none⟩, 4, 4, [0, 0, 0, 0]⟩] _ hP rfl (by omega) (by simp [sumN, allZ, bE4])
      rw [show allZ [⟨some ⟨g5, 0, none⟩, 4, 4, [f, t, a, 0]⟩, ⟨some ⟨g6, 0, none⟩, 4, 4, (bE4 s)⟩, ⟨some ⟨g7, 0, none⟩, 4, 4, [0, 0, 0, 0]⟩] = wrapNL f t a s from rfl, hNL] at hj
      refine wpx_call _ _ (by kernel_rfl) (hj.mono ?_)
      rintro e WJ ⟨vj, rfl, hoj, hbj⟩
      refine ⟨_, rfl, ?_⟩
      have hBJ := hBP.trans (hbj.mono hBP.size)
      have hRJ := hRP.below hbj hRP.lt
      obtain ⟨gj, cj, rfl, hgj⟩ := hoj.slice (by rw [hNLl]; omega)
      have hrg := hoj.bytes.2.rangeK
      have hDJ := hDP.congr (hbj.block _ hDP.lt)
      replace hS := HS _ hDJ
      refine hK.out _ _ (fun _ => hS) ?_
      clear hK K
      try simp only [Act.put, List.getElem_toArray, List.getElem_cons_succ, List.getElem_cons_zero, List.setIfInBounds_toArray, List.set_cons_zero, List.set_cons_succ]
      refine wpAnyG_one (i := 11) rfl (by kernel_rfl) (by kernel_rfl) (fun K hK => ?_)
      refine wpx_arr _ _ rfl _ _ _ rfl (run_arrayAk Tryz.underlying101 _ _ _ (by rw [hNLl]; exact Nat.le_refl _) _) ?_
      refine hK.out _ _ (fun _ => hS) ?_
      clear hK K
      try simp only [Act.put, List.getElem_toArray, List.getElem_cons_succ, List.getElem_cons_zero, List.setIfInBounds_toArray, List.set_cons_zero, List.set_cons_succ]
      refine wpAnyG_one (i := 12) rfl (by kernel_rfl) (by kernel_rfl) (fun K hK => ?_)
      refine wp_load_mid 101 _ rfl gj 0 rfl _ _ hrg Tryz.underlying101 rfl (by rw [List.length_map, hNLl]; exact sizeNonceD) ?_
      refine hK.out _ _ (fun _ => hS) ?_
      clear hK K
      try simp only [Act.put, List.getElem_toArray, List.getElem_cons_succ, List.getElem_cons_zero, List.setIfInBounds_toArray, List.set_cons_zero, List.set_cons_succ]
      refine wpAnyG_one (i := 13) rfl (by kernel_rfl) (by kernel_rfl) (fun K hK => ?_)
      refine wp_stG 101 _ _ rfl _ rfl (k := .u8) (l := NL) rfl hRJ (by rw [hNLl]; exact sizeNonceD) (by rw [hZl, hNLl]) ?_
      refine hK.out _ _ (fun h => absurd (show true = false from h) (by decide)) ?_
      clear hK K
      try simp only [Act.put, List.getElem_toArray, List.getElem_cons_succ, List.getElem_cons_zero, List.setIfInBounds_toArray, List.set_cons_zero, List.set_cons_succ]
      refine wpAnyG_done (by kernel_rfl) ?_ _
      go_wp2_with fail
      refine bodyPost_ret (results_holds (Tryz.results86) _ rfl (hRJ.setRow _) Tryz.underlying101 sizeNonceD hNLl) rfl ⟨by rw [← hNL], ?_⟩
      exact below_setRow hBJ (by omega) _
    · skip
      refine wpx_make _ _ _ rfl _ _ _ _ rfl rfl (run_make4 _) ?_
      have hNV8 := newB V5 [0, 0, 0, 0] 4 rfl (by simp [bE4])
      have hBV8 := hBV5.alloc hBV5.size (.cells (row .u8 [0, 0, 0, 0]) 5)
      have hRV8 := hRV5.alloc (.cells (row .u8 [0, 0, 0, 0]) 5)
      have hN4_V8 := hN4_V5.below ((Below.refl _ _).alloc (Nat.le_refl _) (.cells (row .u8 [0, 0, 0, 0]) 5))
      have hDV8 := hDV5.alloc (.cells (row .u8 [0, 0, 0, 0]) 5)
      replace hS := HS _ hDV8
      refine hK.out _ _ (fun _ => hS) ?_
      clear hK K
      try simp only [Act.put, List.getElem_toArray, List.getElem_cons_succ, List.getElem_cons_zero, List.setIfInBounds_toArray, List.set_cons_zero, List.set_cons_succ]
      obtain ⟨V8, hV8⟩ : ∃ q, V5.alloc (.cells (row .u8 [0, 0, 0, 0]) 5) = q := ⟨_, rfl⟩
      obtain ⟨g8, hg8⟩ : ∃ q, V5.heap.size = q := ⟨_, rfl⟩
      rw [hV8] at hNV8 hBV8 hRV8 hN4_V8 hDV8 ⊢
      rw [hg8] at hNV8 ⊢
      clear hV8 hg8 hBV5 hRV5 hDV5 hN4_V5
      have hN8_V8 := hNV8
      clear hNV8
      refine wpAnyG_one (i := 7) rfl (by kernel_rfl) (by kernel_rfl) (fun K hK => ?_)
      refine wpx_call _ _ (by kernel_rfl) ((kfour_any s _).mono ?_)
      rintro e wy ⟨rfl, rfl⟩
      refine ⟨_, rfl, ?_⟩
      have hNV9 := newB V8 (bE4 s) 4 rfl (by simp [bE4])
      have hBV9 := hBV8.alloc hBV8.size (.cells (row .u8 (bE4 s)) 5)
      have hRV9 := hRV8.alloc (.cells (row .u8 (bE4 s)) 5)
      have hN4_V9 := hN4_V8.below ((Below.refl _ _).alloc (Nat.le_refl _) (.cells (row .u8 (bE4 s)) 5))
      have hN8_V9 := hN8_V8.below ((Below.refl _ _).alloc (Nat.le_refl _) (.cells (row .u8 (bE4 s)) 5))
      have hDV9 := hDV8.alloc (.cells (row .u8 (bE4 s)) 5)
      replace hS := HS _ hDV9
      refine hK.out _ _ (fun _ => hS) ?_
      clear hK K
      try simp only [Act.put, List.getElem_toArray, List.getElem_cons_succ, List.getElem_cons_zero, List.setIfInBounds_toArray, List.set_cons_zero, List.set_cons_succ]
      obtain ⟨V9, hV9⟩ : ∃ q, V8.alloc (.cells (row .u8 (bE4 s)) 5) = q := ⟨_, rfl⟩
      obtain ⟨g9, hg9⟩ : ∃ q, V8.heap.size = q := ⟨_, rfl⟩
      rw [hV9] at hNV9 hBV9 hRV9 hN4_V9 hN8_V9 hDV9 ⊢
      rw [hg9] at hNV9 ⊢
      clear hV9 hg9 hBV8 hRV8 hDV8 hN4_V8 hN8_V8
      have hN7_V9 := hNV9
      clear hNV9
      refine wpAnyG_one (i := 9) rfl (by kernel_rfl) (by kernel_rfl) (fun K hK => ?_)
      refine wp_buildSlice 187 41 3 _ rfl #[.slice (some ⟨g5, 0, none⟩) 4 4, .slice (some ⟨g9, 0, none⟩) 4 4, .slice (some ⟨g8, 0, none⟩) 4 4] iw _ Tryz.underlying187 hiw hwz (by rw [hws2]; decide) (by rw [hws2]; decide) (by rw [hws2]; kernel_rfl) ?_
      have hP := partsNew V9 [⟨some ⟨g5, 0, none⟩, 4, 4, [f, t, a, 0]⟩, ⟨some ⟨g9, 0, none⟩, 4, 4, (bE4 s)⟩, ⟨some ⟨g8, 0, none⟩, 4, 4, [0, 0, 0, 0]⟩] (fun p hp => by
        simp only [List.mem_cons, List.not_mem_nil, or_false] at hp
        rcases hp with rfl | rfl | rfl
        · exact hN4_V9
        · exact hN7_V9
        · exact hN8_V9)
      have hBP := hBV9.alloc hBV9.size (.cells #[.slice (some ⟨g5, 0, none⟩) 4 4, .slice (some ⟨g9, 0, none⟩) 4 4, .slice (some ⟨g8, 0, none⟩) 4 4] 41)
      have hRP := hRV9.alloc (.cells #[.slice (some ⟨g5, 0, none⟩) 4 4, .slice (some ⟨g9, 0, none⟩) 4 4, .slice (some ⟨g8, 0, none⟩) 4 4] 41)
      have hDP := hDV9.alloc (.cells #[.slice (some ⟨g5, 0, none⟩) 4 4, .slice (some ⟨g9, 0, none⟩) 4 4, .slice (some ⟨g8, 0, none⟩) 4 4] 41)
      replace hS := HS _ hDP
      refine hK.out _ _ (fun _ => hS) ?_
      clear hK K
      try simp only [Act.put, List.getElem_toArray, List.getElem_cons_succ, List.getElem_cons_zero, List.setIfInBounds_toArray, List.set_cons_zero, List.set_cons_succ]
      refine wpAnyG_one (i := 10) rfl (by kernel_rfl) (by kernel_rfl) (fun K hK => ?_)
      have hj := kjoined_any V9.heap.size 3 [⟨some ⟨g5, 0, none⟩, 4, 4, [f, t, a, 0]⟩, ⟨some ⟨g9, 0, none⟩, 4, 4, (bE4 s)⟩, ⟨some ⟨g8, 0, none⟩, 4, 4, [0, 0, 0, 0]⟩] _ hP rfl (by omega) (by simp [sumN, allZ, bE4])
      rw [show allZ [⟨some ⟨g5, 0, none⟩, 4, 4, [f, t, a, 0]⟩, ⟨some ⟨g9, 0, none⟩, 4, 4, (bE4 s)⟩, ⟨some ⟨g8, 0, none⟩, 4, 4, [0, 0, 0, 0]⟩] = wrapNL f t a s from rfl, hNL] at hj
      refine wpx_call _ _ (by kernel_rfl) (hj.mono ?_)
      rintro e WJ ⟨vj, rfl, hoj, hbj⟩
      refine ⟨_, rfl, ?_⟩
      have hBJ := hBP.trans (hbj.mono hBP.size)
      have hRJ := hRP.below hbj hRP.lt
      obtain ⟨gj, cj, rfl, hgj⟩ := hoj.slice (by rw [hNLl]; omega)
      have hrg := hoj.bytes.2.rangeK
      have hDJ := hDP.congr (hbj.block _ hDP.lt)
      replace hS := HS _ hDJ
      refine hK.out _ _ (fun _ => hS) ?_
      clear hK K
      try simp only [Act.put, List.getElem_toArray, List.getElem_cons_succ, List.getElem_cons_zero, List.setIfInBounds_toArray, List.set_cons_zero, List.set_cons_succ]
      refine wpAnyG_one (i := 11) rfl (by kernel_rfl) (by kernel_rfl) (fun K hK => ?_)
      refine wpx_arr _ _ rfl _ _ _ rfl (run_arrayAk Tryz.underlying101 _ _ _ (by rw [hNLl]; exact Nat.le_refl _) _) ?_
      refine hK.out _ _ (fun _ => hS) ?_
      clear hK K
      try simp only [Act.put, List.getElem_toArray, List.getElem_cons_succ, List.getElem_cons_zero, List.setIfInBounds_toArray, List.set_cons_zero, List.set_cons_succ]
      refine wpAnyG_one (i := 12) rfl (by kernel_rfl) (by kernel_rfl) (fun K hK => ?_)
      refine wp_load_mid 101 _ rfl gj 0 rfl _ _ hrg Tryz.underlying101 rfl (by rw [List.length_map, hNLl]; exact sizeNonceD) ?_
      refine hK.out _ _ (fun _ => hS) ?_
      clear hK K
      try simp only [Act.put, List.getElem_toArray, List.getElem_cons_succ, List.getElem_cons_zero, List.setIfInBounds_toArray, List.set_cons_zero, List.set_cons_succ]
      refine wpAnyG_one (i := 13) rfl (by kernel_rfl) (by kernel_rfl) (fun K hK => ?_)
      refine wp_stG 101 _ _ rfl _ rfl (k := .u8) (l := NL) rfl hRJ (by rw [hNLl]; exact sizeNonceD) (by rw [hZl, hNLl]) ?_
      refine hK.out _ _ (fun h => absurd (show true = false from h) (by decide)) ?_
      clear hK K
      try simp only [Act.put, List.getElem_toArray, List.getElem_cons_succ, List.getElem_cons_zero, List.setIfInBounds_toArray, List.set_cons_zero, List.set_cons_succ]
      refine wpAnyG_done (by kernel_rfl) ?_ _
      go_wp2_with fail
      refine bodyPost_ret (results_holds (Tryz.results86) _ rfl (hRJ.setRow _) Tryz.underlying101 sizeNonceD hNLl) rfl ⟨by rw [← hNL], ?_⟩
      exact below_setRow hBJ (by omega) _
  · skip
    refine wpx_call _ _ (by kernel_rfl) ((kfour_any s _).mono ?_)
    rintro e wy ⟨rfl, rfl⟩
    refine ⟨_, rfl, ?_⟩
    have hNV10 := newB V0 (bE4 s) 4 rfl (by simp [bE4])
    have hBV10 := hBV0.alloc hBV0.size (.cells (row .u8 (bE4 s)) 5)
    have hRV10 := hRV0.alloc (.cells (row .u8 (bE4 s)) 5)
    have hDV10 := hDV0.alloc (.cells (row .u8 (bE4 s)) 5)
    replace hS := HS _ hDV10
    refine hK.out _ _ (fun _ => hS) ?_
    clear hK K
    try simp only [Act.put, List.getElem_toArray, List.getElem_cons_succ, List.getElem_cons_zero, List.setIfInBounds_toArray, List.set_cons_zero, List.set_cons_succ]
    obtain ⟨V10, hV10⟩ : ∃ q, V0.alloc (.cells (row .u8 (bE4 s)) 5) = q := ⟨_, rfl⟩
    obtain ⟨g10, hg10⟩ : ∃ q, V0.heap.size = q := ⟨_, rfl⟩
    rw [hV10] at hNV10 hBV10 hRV10 hDV10 ⊢
    rw [hg10] at hNV10 ⊢
    clear hV10 hg10 hBV0 hRV0 hDV0
    have hN7_V10 := hNV10
    clear hNV10
    refine wpAnyG_two (i := 4) (j := 8) rfl rfl (by kernel_rfl) (by kernel_rfl) (by kernel_rfl) (fun K hK => ?_) (fun K hK => ?_)
    · skip
      refine wp_buildSlice 41 5 4 _ rfl (row .u8 [f, t, a, 0]) iu _ Tryz.underlying41 hiu huz (by rw [hus]; decide) (by rw [hus]; decide) (by rw [hus]; kernel_rfl) ?_
      have hNV11 := newB V10 [f, t, a, 0] 4 rfl (by simp [bE4])
      have hBV11 := hBV10.alloc hBV10.size (.cells (row .u8 [f, t, a, 0]) 5)
      have hRV11 := hRV10.alloc (.cells (row .u8 [f, t, a, 0]) 5)
      have hN7_V11 := hN7_V10.below ((Below.refl _ _).alloc (Nat.le_refl _) (.cells (row .u8 [f, t, a, 0]) 5))
      have hDV11 := hDV10.alloc (.cells (row .u8 [f, t, a, 0]) 5)
      replace hS := HS _ hDV11
      refine hK.out _ _ (fun _ => hS) ?_
      clear hK K
      try simp only [Act.put, List.getElem_toArray, List.getElem_cons_succ, List.getElem_cons_zero, List.setIfInBounds_toArray, List.set_cons_zero, List.set_cons_succ]
      obtain ⟨V11, hV11⟩ : ∃ q, V10.alloc (.cells (row .u8 [f, t, a, 0]) 5) = q := ⟨_, rfl⟩
      obtain ⟨g11, hg11⟩ : ∃ q, V10.heap.size = q := ⟨_, rfl⟩
      rw [hV11] at hNV11 hBV11 hRV11 hN7_V11 hDV11 ⊢
      rw [hg11] at hNV11 ⊢
      clear hV11 hg11 hBV10 hRV10 hDV10 hN7_V10
      have hN4_V11 := hNV11
      clear hNV11
      refine wpAnyG_one (i := 8) rfl (by kernel_rfl) (by kernel_rfl) (fun K hK => ?_)
      refine wpx_make _ _ _ rfl _ _ _ _ rfl rfl (run_make4 _) ?_
      have hNV12 := newB V11 [0, 0, 0, 0] 4 rfl (by simp [bE4])
      have hBV12 := hBV11.alloc hBV11.size (.cells (row .u8 [0, 0, 0, 0]) 5)
      have hRV12 := hRV11.alloc (.cells (row .u8 [0, 0, 0, 0]) 5)
      have hN7_V12 := hN7_V11.below ((Below.refl _ _).alloc (Nat.le_refl _) (.cells (row .u8 [0, 0, 0, 0]) 5))
      have hN4_V12 := hN4_V11.below ((Below.refl _ _).alloc (Nat.le_refl _) (.cells (row .u8 [0, 0, 0, 0]) 5))
      have hDV12 := hDV11.alloc (.cells (row .u8 [0, 0, 0, 0]) 5)
      replace hS := HS _ hDV12
      refine hK.out _ _ (fun _ => hS) ?_
      clear hK K
      try simp only [Act.put, List.getElem_toArray, List.getElem_cons_succ, List.getElem_cons_zero, List.setIfInBounds_toArray, List.set_cons_zero, List.set_cons_succ]
      obtain ⟨V12, hV12⟩ : ∃ q, V11.alloc (.cells (row .u8 [0, 0, 0, 0]) 5) = q := ⟨_, rfl⟩
      obtain ⟨g12, hg12⟩ : ∃ q, V11.heap.size = q := ⟨_, rfl⟩
      rw [hV12] at hNV12 hBV12 hRV12 hN7_V12 hN4_V12 hDV12 ⊢
      rw [hg12] at hNV12 ⊢
      clear hV12 hg12 hBV11 hRV11 hDV11 hN7_V11 hN4_V11
      have hN8_V12 := hNV12
      clear hNV12
      refine wpAnyG_one (i := 9) rfl (by kernel_rfl) (by kernel_rfl) (fun K hK => ?_)
      refine wp_buildSlice 187 41 3 _ rfl #[.slice (some ⟨g11, 0, none⟩) 4 4, .slice (some ⟨g10, 0, none⟩) 4 4, .slice (some ⟨g12, 0, none⟩) 4 4] iw _ Tryz.underlying187 hiw hwz (by rw [hws2]; decide) (by rw [hws2]; decide) (by rw [hws2]; kernel_rfl) ?_
      have hP := partsNew V12 [⟨some ⟨g11, 0, none⟩, 4, 4, [f, t, a, 0]⟩, ⟨some ⟨g10, 0, none⟩, 4, 4, (bE4 s)⟩, ⟨some ⟨g12, 0, none⟩, 4, 4, [0, 0, 0, 0]⟩] (fun p hp => by
        simp only [List.mem_cons, List.not_mem_nil, or_false] at hp
        rcases hp with rfl | rfl | rfl
        · exact hN4_V12
        · exact hN7_V12
        · exact hN8_V12)
      have hBP := hBV12.alloc hBV12.size (.cells #[.slice (some ⟨g11, 0, none⟩) 4 4, .slice (some ⟨g10, 0, none⟩) 4 4, .slice (some ⟨g12, 0, none⟩) 4 4] 41)
      have hRP := hRV12.alloc (.cells #[.slice (some ⟨g11, 0, none⟩) 4 4, .slice (some ⟨g10, 0, none⟩) 4 4, .slice (some ⟨g12, 0, none⟩) 4 4] 41)
      have hDP := hDV12.alloc (.cells #[.slice (some ⟨g11, 0, none⟩) 4 4, .slice (some ⟨g10, 0, none⟩) 4 4, .slice (some ⟨g12, 0, none⟩) 4 4] 41)
      replace hS := HS _ hDP
      refine hK.out _ _ (fun _ => hS) ?_
      clear hK K
      try simp only [Act.put, List.getElem_toArray, List.getElem_cons_succ, List.getElem_cons_zero, List.setIfInBounds_toArray, List.set_cons_zero, List.set_cons_succ]
      refine wpAnyG_one (i := 10) rfl (by kernel_rfl) (by kernel_rfl) (fun K hK => ?_)
      have hj := kjoined_any V12.heap.size 3 [⟨some ⟨g11, 0, none⟩, 4, 4, [f, t, a, 0]⟩, ⟨some ⟨g10, 0, none⟩, 4, 4, (bE4 s)⟩, ⟨some ⟨g12, 0, none⟩, 4, 4, [0, 0, 0, 0]⟩] _ hP rfl (by omega) (by simp [sumN, allZ, bE4])
      rw [show allZ [⟨some ⟨g11, 0, none⟩, 4, 4, [f, t, a, 0]⟩, ⟨some ⟨g10, 0, none⟩, 4, 4, (bE4 s)⟩, ⟨some ⟨g12, 0, none⟩, 4, 4, [0, 0, 0, 0]⟩] = wrapNL f t a s from rfl, hNL] at hj
      refine wpx_call _ _ (by kernel_rfl) (hj.mono ?_)
      rintro e WJ ⟨vj, rfl, hoj, hbj⟩
      refine ⟨_, rfl, ?_⟩
      have hBJ := hBP.trans (hbj.mono hBP.size)
      have hRJ := hRP.below hbj hRP.lt
      obtain ⟨gj, cj, rfl, hgj⟩ := hoj.slice (by rw [hNLl]; omega)
      have hrg := hoj.bytes.2.rangeK
      have hDJ := hDP.congr (hbj.block _ hDP.lt)
      replace hS := HS _ hDJ
      refine hK.out _ _ (fun _ => hS) ?_
      clear hK K
      try simp only [Act.put, List.getElem_toArray, List.getElem_cons_succ, List.getElem_cons_zero, List.setIfInBounds_toArray, List.set_cons_zero, List.set_cons_succ]
      refine wpAnyG_one (i := 11) rfl (by kernel_rfl) (by kernel_rfl) (fun K hK => ?_)
      refine wpx_arr _ _ rfl _ _ _ rfl (run_arrayAk Tryz.underlying101 _ _ _ (by rw [hNLl]; exact Nat.le_refl _) _) ?_
      refine hK.out _ _ (fun _ => hS) ?_
      clear hK K
      try simp only [Act.put, List.getElem_toArray, List.getElem_cons_succ, List.getElem_cons_zero, List.setIfInBounds_toArray, List.set_cons_zero, List.set_cons_succ]
      refine wpAnyG_one (i := 12) rfl (by kernel_rfl) (by kernel_rfl) (fun K hK => ?_)
      refine wp_load_mid 101 _ rfl gj 0 rfl _ _ hrg Tryz.underlying101 rfl (by rw [List.length_map, hNLl]; exact sizeNonceD) ?_
      refine hK.out _ _ (fun _ => hS) ?_
      clear hK K
      try simp only [Act.put, List.getElem_toArray, List.getElem_cons_succ, List.getElem_cons_zero, List.setIfInBounds_toArray, List.set_cons_zero, List.set_cons_succ]
      refine wpAnyG_one (i := 13) rfl (by kernel_rfl) (by kernel_rfl) (fun K hK => ?_)
      refine wp_stG 101 _ _ rfl _ rfl (k := .u8) (l := NL) rfl hRJ (by rw [hNLl]; exact sizeNonceD) (by rw [hZl, hNLl]) ?_
      refine hK.out _ _ (fun h => absurd (show true = false from h) (by decide)) ?_
      clear hK K
      try simp only [Act.put, List.getElem_toArray, List.getElem_cons_succ, List.getElem_cons_zero, List.setIfInBounds_toArray, List.set_cons_zero, List.set_cons_succ]
      refine wpAnyG_done (by kernel_rfl) ?_ _
      go_wp2_with fail
      refine bodyPost_ret (results_holds (Tryz.results86) _ rfl (hRJ.setRow _) Tryz.underlying101 sizeNonceD hNLl) rfl ⟨by rw [← hNL], ?_⟩
      exact below_setRow hBJ (by omega) _
    · skip
      refine wpx_make _ _ _ rfl _ _ _ _ rfl rfl (run_make4 _) ?_
      have hNV13 := newB V10 [0, 0, 0, 0] 4 rfl (by simp [bE4])
      have hBV13 := hBV10.alloc hBV10.size (.cells (row .u8 [0, 0, 0, 0]) 5)
      have hRV13 := hRV10.alloc (.cells (row .u8 [0, 0, 0, 0]) 5)
      have hN7_V13 := hN7_V10.below ((Below.refl _ _).alloc (Nat.le_refl _) (.cells (row .u8 [0, 0, 0, 0]) 5))
      have hDV13 := hDV10.alloc (.cells (row .u8 [0, 0, 0, 0]) 5)
      replace hS := HS _ hDV13
      refine hK.out _ _ (fun _ => hS) ?_
      clear hK K
      try simp only [Act.put, List.getElem_toArray, List.getElem_cons_succ, List.getElem_cons_zero, List.setIfInBounds_toArray, List.set_cons_zero, List.set_cons_succ]
      obtain ⟨V13, hV13⟩ : ∃ q, V10.alloc (.cells (row .u8 [0, 0, 0, 0]) 5) = q := ⟨_, rfl⟩
      obtain ⟨g13, hg13⟩ : ∃ q, V10.heap.size = q := ⟨_, rfl⟩
      rw [hV13] at hNV13 hBV13 hRV13 hN7_V13 hDV13 ⊢
      rw [hg13] at hNV13 ⊢
      clear hV13 hg13 hBV10 hRV10 hDV10 hN7_V10
      have hN8_V13 := hNV13
      clear hNV13
      refine wpAnyG_one (i := 4) rfl (by kernel_rfl) (by kernel_rfl) (fun K hK => ?_)
      refine wp_buildSlice 41 5 4 _ rfl (row .u8 [f, t, a, 0]) iu _ Tryz.underlying41 hiu huz (by rw [hus]; decide) (by rw [hus]; decide) (by rw [hus]; kernel_rfl) ?_
      have hNV14 := newB V13 [f, t, a, 0] 4 rfl (by simp [bE4])
      have hBV14 := hBV13.alloc hBV13.size (.cells (row .u8 [f, t, a, 0]) 5)
      have hRV14 := hRV13.alloc (.cells (row .u8 [f, t, a, 0]) 5)
      have hN7_V14 := hN7_V13.below ((Below.refl _ _).alloc (Nat.le_refl _) (.cells (row .u8 [f, t, a, 0]) 5))
      have hN8_V14 := hN8_V13.below ((Below.refl _ _).alloc (Nat.le_refl _) (.cells (row .u8 [f, t, a, 0]) 5))
      have hDV14 := hDV13.alloc (.cells (row .u8 [f, t, a, 0]) 5)
      replace hS := HS _ hDV14
      refine hK.out _ _ (fun _ => hS) ?_
      clear hK K
      try simp only [Act.put, List.getElem_toArray, List.getElem_cons_succ, List.getElem_cons_zero, List.setIfInBounds_toArray, List.set_cons_zero, List.set_cons_succ]
      obtain ⟨V14, hV14⟩ : ∃ q, V13.alloc (.cells (row .u8 [f, t, a, 0]) 5) = q := ⟨_, rfl⟩
      obtain ⟨g14, hg14⟩ : ∃ q, V13.heap.size = q := ⟨_, rfl⟩
      rw [hV14] at hNV14 hBV14 hRV14 hN7_V14 hN8_V14 hDV14 ⊢
      rw [hg14] at hNV14 ⊢
      clear hV14 hg14 hBV13 hRV13 hDV13 hN7_V13 hN8_V13
      have hN4_V14 := hNV14
      clear hNV14
      refine wpAnyG_one (i := 9) rfl (by kernel_rfl) (by kernel_rfl) (fun K hK => ?_)
      refine wp_buildSlice 187 41 3 _ rfl #[.slice (some ⟨g14, 0, none⟩) 4 4, .slice (some ⟨g10, 0, none⟩) 4 4, .slice (some ⟨g13, 0, none⟩) 4 4] iw _ Tryz.underlying187 hiw hwz (by rw [hws2]; decide) (by rw [hws2]; decide) (by rw [hws2]; kernel_rfl) ?_
      have hP := partsNew V14 [⟨some ⟨g14, 0, none⟩, 4, 4, [f, t, a, 0]⟩, ⟨some ⟨g10, 0, none⟩, 4, 4, (bE4 s)⟩, ⟨some ⟨g13, 0, none⟩, 4, 4, [0, 0, 0, 0]⟩] (fun p hp => by
        simp only [List.mem_cons, List.not_mem_nil, or_false] at hp
        rcases hp with rfl | rfl | rfl
        · exact hN4_V14
        · exact hN7_V14
        · exact hN8_V14)
      have hBP := hBV14.alloc hBV14.size (.cells #[.slice (some ⟨g14, 0, none⟩) 4 4, .slice (some ⟨g10, 0, none⟩) 4 4, .slice (some ⟨g13, 0, none⟩) 4 4] 41)
      have hRP := hRV14.alloc (.cells #[.slice (some ⟨g14, 0, none⟩) 4 4, .slice (some ⟨g10, 0, none⟩) 4 4, .slice (some ⟨g13, 0, none⟩) 4 4] 41)
      have hDP := hDV14.alloc (.cells #[.slice (some ⟨g14, 0, none⟩) 4 4, .slice (some ⟨g10, 0, none⟩) 4 4, .slice (some ⟨g13, 0, none⟩) 4 4] 41)
      replace hS := HS _ hDP
      refine hK.out _ _ (fun _ => hS) ?_
      clear hK K
      try simp only [Act.put, List.getElem_toArray, List.getElem_cons_succ, List.getElem_cons_zero, List.setIfInBounds_toArray, List.set_cons_zero, List.set_cons_succ]
      refine wpAnyG_one (i := 10) rfl (by kernel_rfl) (by kernel_rfl) (fun K hK => ?_)
      have hj := kjoined_any V14.heap.size 3 [⟨some ⟨g14, 0, none⟩, 4, 4, [f, t, a, 0]⟩, ⟨some ⟨g10, 0, none⟩, 4, 4, (bE4 s)⟩, ⟨some ⟨g13, 0, none⟩, 4, 4, [0, 0, 0, 0]⟩] _ hP rfl (by omega) (by simp [sumN, allZ, bE4])
      rw [show allZ [⟨some ⟨g14, 0, none⟩, 4, 4, [f, t, a, 0]⟩, ⟨some ⟨g10, 0, none⟩, 4, 4, (bE4 s)⟩, ⟨some ⟨g13, 0, none⟩, 4, 4, [0, 0, 0, 0]⟩] = wrapNL f t a s from rfl, hNL] at hj
      refine wpx_call _ _ (by kernel_rfl) (hj.mono ?_)
      rintro e WJ ⟨vj, rfl, hoj, hbj⟩
      refine ⟨_, rfl, ?_⟩
      have hBJ := hBP.trans (hbj.mono hBP.size)
      have hRJ := hRP.below hbj hRP.lt
      obtain ⟨gj, cj, rfl, hgj⟩ := hoj.slice (by rw [hNLl]; omega)
      have hrg := hoj.bytes.2.rangeK
      have hDJ := hDP.congr (hbj.block _ hDP.lt)
      replace hS := HS _ hDJ
      refine hK.out _ _ (fun _ => hS) ?_
      clear hK K
      try simp only [Act.put, List.getElem_toArray, List.getElem_cons_succ, List.getElem_cons_zero, List.setIfInBounds_toArray, List.set_cons_zero, List.set_cons_succ]
      refine wpAnyG_one (i := 11) rfl (by kernel_rfl) (by kernel_rfl) (fun K hK => ?_)
      refine wpx_arr _ _ rfl _ _ _ rfl (run_arrayAk Tryz.underlying101 _ _ _ (by rw [hNLl]; exact Nat.le_refl _) _) ?_
      refine hK.out _ _ (fun _ => hS) ?_
      clear hK K
      try simp only [Act.put, List.getElem_toArray, List.getElem_cons_succ, List.getElem_cons_zero, List.setIfInBounds_toArray, List.set_cons_zero, List.set_cons_succ]
      refine wpAnyG_one (i := 12) rfl (by kernel_rfl) (by kernel_rfl) (fun K hK => ?_)
      refine wp_load_mid 101 _ rfl gj 0 rfl _ _ hrg Tryz.underlying101 rfl (by rw [List.length_map, hNLl]; exact sizeNonceD) ?_
      refine hK.out _ _ (fun _ => hS) ?_
      clear hK K
      try simp only [Act.put, List.getElem_toArray, List.getElem_cons_succ, List.getElem_cons_zero, List.setIfInBounds_toArray, List.set_cons_zero, List.set_cons_succ]
      refine wpAnyG_one (i := 13) rfl (by kernel_rfl) (by kernel_rfl) (fun K hK => ?_)
      refine wp_stG 101 _ _ rfl _ rfl (k := .u8) (l := NL) rfl hRJ (by rw [hNLl]; exact sizeNonceD) (by rw [hZl, hNLl]) ?_
      refine hK.out _ _ (fun h => absurd (show true = false from h) (by decide)) ?_
      clear hK K
      try simp only [Act.put, List.getElem_toArray, List.getElem_cons_succ, List.getElem_cons_zero, List.setIfInBounds_toArray, List.set_cons_zero, List.set_cons_succ]
      refine wpAnyG_done (by kernel_rfl) ?_ _
      go_wp2_with fail
      refine bodyPost_ret (results_holds (Tryz.results86) _ rfl (hRJ.setRow _) Tryz.underlying101 sizeNonceD hNLl) rfl ⟨by rw [← hNL], ?_⟩
      exact below_setRow hBJ (by omega) _
  · skip
    refine wpx_make _ _ _ rfl _ _ _ _ rfl rfl (run_make4 _) ?_
    have hNV15 := newB V0 [0, 0, 0, 0] 4 rfl (by simp [bE4])
    have hBV15 := hBV0.alloc hBV0.size (.cells (row .u8 [0, 0, 0, 0]) 5)
    have hRV15 := hRV0.alloc (.cells (row .u8 [0, 0, 0, 0]) 5)
    have hDV15 := hDV0.alloc (.cells (row .u8 [0, 0, 0, 0]) 5)
    replace hS := HS _ hDV15
    refine hK.out _ _ (fun _ => hS) ?_
    clear hK K
    try simp only [Act.put, List.getElem_toArray, List.getElem_cons_succ, List.getElem_cons_zero, List.setIfInBounds_toArray, List.set_cons_zero, List.set_cons_succ]
    obtain ⟨V15, hV15⟩ : ∃ q, V0.alloc (.cells (row .u8 [0, 0, 0, 0]) 5) = q := ⟨_, rfl⟩
    obtain ⟨g15, hg15⟩ : ∃ q, V0.heap.size = q := ⟨_, rfl⟩
    rw [hV15] at hNV15 hBV15 hRV15 hDV15 ⊢
    rw [hg15] at hNV15 ⊢
    clear hV15 hg15 hBV0 hRV0 hDV0
    have hN8_V15 := hNV15
    clear hNV15
    refine wpAnyG_two (i := 4) (j := 7) rfl rfl (by kernel_rfl) (by kernel_rfl) (by kernel_rfl) (fun K hK => ?_) (fun K hK => ?_)
    · skip
      refine wp_buildSlice 41 5 4 _ rfl (row .u8 [f, t, a, 0]) iu _ Tryz.underlying41 hiu huz (by rw [hus]; decide) (by rw [hus]; decide) (by rw [hus]; kernel_rfl) ?_
      have hNV16 := newB V15 [f, t, a, 0] 4 rfl (by simp [bE4])
      have hBV16 := hBV15.alloc hBV15.size (.cells (row .u8 [f, t, a, 0]) 5)
      have hRV16 := hRV15.alloc (.cells (row .u8 [f, t, a, 0]) 5)
      have hN8_V16 := hN8_V15.below ((Below.refl _ _).alloc (Nat.le_refl _) (.cells (row .u8 [f, t, a, 0]) 5))
      have hDV16 := hDV15.alloc (.cells (row .u8 [f, t, a, 0]) 5)
      replace hS := HS _ hDV16
      refine hK.out _ _ (fun _ => hS) ?_
      clear hK K
      try simp only [Act.put, List.getElem_toArray, List.getElem_cons_succ, List.getElem_cons_zero, List.setIfInBounds_toArray, List.set_cons_zero, List.set_cons_succ]
      obtain ⟨V16, hV16⟩ : ∃ q, V15.alloc (.cells (row .u8 [f, t, a, 0]) 5) = q := ⟨_, rfl⟩
      obtain ⟨g16, hg16⟩ : ∃ q, V15.heap.size = q := ⟨_, rfl⟩
      rw [hV16] at hNV16 hBV16 hRV16 hN8_V16 hDV16 ⊢
      rw [hg16] at hNV16 ⊢
      clear hV16 hg16 hBV15 hRV15 hDV15 hN8_V15
      have hN4_V16 := hNV16
      clear hNV16
      refine wpAnyG_one (i := 7) rfl (by kernel_rfl) (by kernel_rfl) (fun K hK => ?_)
      refine wpx_call _ _ (by kernel_rfl) ((kfour_any s _).mono ?_)
      rintro e wy ⟨rfl, rfl⟩
      refine ⟨_, rfl, ?_⟩
      have hNV17 := newB V16 (bE4 s) 4 rfl (by simp [bE4])
      have hBV17 := hBV16.alloc hBV16.size (.cells (row .u8 (bE4 s)) 5)
      have hRV17 := hRV16.alloc (.cells (row .u8 (bE4 s)) 5)
      have hN8_V17 := hN8_V16.below ((Below.refl _ _).alloc (Nat.le_refl _) (.cells (row .u8 (bE4 s)) 5))
      have hN4_V17 := hN4_V16.below ((Below.refl _ _).alloc (Nat.le_refl _) (.cells (row .u8 (bE4 s)) 5))
      have hDV17 := hDV16.alloc (.cells (row .u8 (bE4 s)) 5)
      replace hS := HS _ hDV17
      refine hK.out _ _ (fun _ => hS) ?_
      clear hK K
      try simp only [Act.put, List.getElem_toArray, List.getElem_cons_succ, List.getElem_cons_zero, List.setIfInBounds_toArray, List.set_cons_zero, List.set_cons_succ]
      obtain ⟨V17, hV17⟩ : ∃ q, V16.alloc (.cells (row .u8 (bE4 s)) 5) = q := ⟨_, rfl⟩
      obtain ⟨g17, hg17⟩ : ∃ q, V16.heap.size = q := ⟨_, rfl⟩
      rw [hV17] at hNV17 hBV17 hRV17 hN8_V17 hN4_V17 hDV17 ⊢
      rw [hg17] at hNV17 ⊢
      clear hV17 hg17 hBV16 hRV16 hDV16 hN8_V16 hN4_V16
      have hN7_V17 := hNV17
      clear hNV17
      refine wpAnyG_one (i := 9) rfl (by kernel_rfl) (by kernel_rfl) (fun K hK => ?_)
      refine wp_buildSlice 187 41 3 _ rfl #[.slice (some ⟨g16, 0, none⟩) 4 4, .slice (some ⟨g17, 0, none⟩) 4 4, .slice (some ⟨g15, 0, none⟩) 4 4] iw _ Tryz.underlying187 hiw hwz (by rw [hws2]; decide) (by rw [hws2]; decide) (by rw [hws2]; kernel_rfl) ?_
      have hP := partsNew V17 [⟨some ⟨g16, 0, none⟩, 4, 4, [f, t, a, 0]⟩, ⟨some ⟨g17, 0, none⟩, 4, 4, (bE4 s)⟩, ⟨some ⟨g15, 0, none⟩, 4, 4, [0, 0, 0, 0]⟩] (fun p hp => by
        simp only [List.mem_cons, List.not_mem_nil, or_false] at hp
        rcases hp with rfl | rfl | rfl
        · exact hN4_V17
        · exact hN7_V17
        · exact hN8_V17)
      have hBP := hBV17.alloc hBV17.size (.cells #[.slice (some ⟨g16, 0, none⟩) 4 4, .slice (some ⟨g17, 0, none⟩) 4 4, .slice (some ⟨g15, 0, none⟩) 4 4] 41)
      have hRP := hRV17.alloc (.cells #[.slice (some ⟨g16, 0, none⟩) 4 4, .slice (some ⟨g17, 0, none⟩) 4 4, .slice (some ⟨g15, 0, none⟩) 4 4] 41)
      have hDP := hDV17.alloc (.cells #[.slice (some ⟨g16, 0, none⟩) 4 4, .slice (some ⟨g17, 0, none⟩) 4 4, .slice (some ⟨g15, 0, none⟩) 4 4] 41)
      replace hS := HS _ hDP
      refine hK.out _ _ (fun _ => hS) ?_
      clear hK K
      try simp only [Act.put, List.getElem_toArray, List.getElem_cons_succ, List.getElem_cons_zero, List.setIfInBounds_toArray, List.set_cons_zero, List.set_cons_succ]
      refine wpAnyG_one (i := 10) rfl (by kernel_rfl) (by kernel_rfl) (fun K hK => ?_)
      have hj := kjoined_any V17.heap.size 3 [⟨some ⟨g16, 0, none⟩, 4, 4, [f, t, a, 0]⟩, ⟨some ⟨g17, 0, none⟩, 4, 4, (bE4 s)⟩, ⟨some ⟨g15, 0, none⟩, 4, 4, [0, 0, 0, 0]⟩] _ hP rfl (by omega) (by simp [sumN, allZ, bE4])
      rw [show allZ [⟨some ⟨g16, 0, none⟩, 4, 4, [f, t, a, 0]⟩, ⟨some ⟨g17, 0, none⟩, 4, 4, (bE4 s)⟩, ⟨some ⟨g15, 0, none⟩, 4, 4, [0, 0, 0, 0]⟩] = wrapNL f t a s from rfl, hNL] at hj
      refine wpx_call _ _ (by kernel_rfl) (hj.mono ?_)
      rintro e WJ ⟨vj, rfl, hoj, hbj⟩
      refine ⟨_, rfl, ?_⟩
      have hBJ := hBP.trans (hbj.mono hBP.size)
      have hRJ := hRP.below hbj hRP.lt
      obtain ⟨gj, cj, rfl, hgj⟩ := hoj.slice (by rw [hNLl]; omega)
      have hrg := hoj.bytes.2.rangeK
      have hDJ := hDP.congr (hbj.block _ hDP.lt)
      replace hS := HS _ hDJ
      refine hK.out _ _ (fun _ => hS) ?_
      clear hK K
      try simp only [Act.put, List.getElem_toArray, List.getElem_cons_succ, List.getElem_cons_zero, List.setIfInBounds_toArray, List.set_cons_zero, List.set_cons_succ]
      refine wpAnyG_one (i := 11) rfl (by kernel_rfl) (by kernel_rfl) (fun K hK => ?_)
      refine wpx_arr _ _ rfl _ _ _ rfl (run_arrayAk Tryz.underlying101 _ _ _ (by rw [hNLl]; exact Nat.le_refl _) _) ?_
      refine hK.out _ _ (fun _ => hS) ?_
      clear hK K
      try simp only [Act.put, List.getElem_toArray, List.getElem_cons_succ, List.getElem_cons_zero, List.setIfInBounds_toArray, List.set_cons_zero, List.set_cons_succ]
      refine wpAnyG_one (i := 12) rfl (by kernel_rfl) (by kernel_rfl) (fun K hK => ?_)
      refine wp_load_mid 101 _ rfl gj 0 rfl _ _ hrg Tryz.underlying101 rfl (by rw [List.length_map, hNLl]; exact sizeNonceD) ?_
      refine hK.out _ _ (fun _ => hS) ?_
      clear hK K
      try simp only [Act.put, List.getElem_toArray, List.getElem_cons_succ, List.getElem_cons_zero, List.setIfInBounds_toArray, List.set_cons_zero, List.set_cons_succ]
      refine wpAnyG_one (i := 13) rfl (by kernel_rfl) (by kernel_rfl) (fun K hK => ?_)
      refine wp_stG 101 _ _ rfl _ rfl (k := .u8) (l := NL) rfl hRJ (by rw [hNLl]; exact sizeNonceD) (by rw [hZl, hNLl]) ?_
      refine hK.out _ _ (fun h => absurd (show true = false from h) (by decide)) ?_
      clear hK K
      try simp only [Act.put, List.getElem_toArray, List.getElem_cons_succ, List.getElem_cons_zero, List.setIfInBounds_toArray, List.set_cons_zero, List.set_cons_succ]
      refine wpAnyG_done (by kernel_rfl) ?_ _
      go_wp2_with fail
      refine bodyPost_ret (results_holds (Tryz.results86) _ rfl (hRJ.setRow _) Tryz.underlying101 sizeNonceD hNLl) rfl ⟨by rw [← hNL], ?_⟩
      exact below_setRow hBJ (by omega) _
    · skip
      refine wpx_call _ _ (by kernel_rfl) ((kfour_any s _).mono ?_)
      rintro e wy ⟨rfl, rfl⟩
      refine ⟨_, rfl, ?_⟩
      have hNV18 := newB V15 (bE4 s) 4 rfl (by simp [bE4])
      have hBV18 := hBV15.alloc hBV15.size (.cells (row .u8 (bE4 s)) 5)
      have hRV18 := hRV15.alloc (.cells (row .u8 (bE4 s)) 5)
      have hN8_V18 := hN8_V15.below ((Below.refl _ _).alloc (Nat.le_refl _) (.cells (row .u8 (bE4 s)) 5))
      have hDV18 := hDV15.alloc (.cells (row .u8 (bE4 s)) 5)
      replace hS := HS _ hDV18
      refine hK.out _ _ (fun _ => hS) ?_
      clear hK K
      try simp only [Act.put, List.getElem_toArray, List.getElem_cons_succ, List.getElem_cons_zero, List.setIfInBounds_toArray, List.set_cons_zero, List.set_cons_succ]
      obtain ⟨V18, hV18⟩ : ∃ q, V15.alloc (.cells (row .u8 (bE4 s)) 5) = q := ⟨_, rfl⟩
      obtain ⟨g18, hg18⟩ : ∃ q, V15.heap.size = q := ⟨_, rfl⟩
      rw [hV18] at hNV18 hBV18 hRV18 hN8_V18 hDV18 ⊢
      rw [hg18] at hNV18 ⊢
      clear hV18 hg18 hBV15 hRV15 hDV15 hN8_V15
      have hN7_V18 := hNV18
      clear hNV18
      refine wpAnyG_one (i := 4) rfl (by kernel_rfl) (by kernel_rfl) (fun K hK => ?_)
      refine wp_buildSlice 41 5 4 _ rfl (row .u8 [f, t, a, 0]) iu _ Tryz.underlying41 hiu huz (by rw [hus]; decide) (by rw [hus]; decide) (by rw [hus]; kernel_rfl) ?_
      have hNV19 := newB V18 [f, t, a, 0] 4 rfl (by simp [bE4])
      have hBV19 := hBV18.alloc hBV18.size (.cells (row .u8 [f, t, a, 0]) 5)
      have hRV19 := hRV18.alloc (.cells (row .u8 [f, t, a, 0]) 5)
      have hN8_V19 := hN8_V18.below ((Below.refl _ _).alloc (Nat.le_refl _) (.cells (row .u8 [f, t, a, 0]) 5))
      have hN7_V19 := hN7_V18.below ((Below.refl _ _).alloc (Nat.le_refl _) (.cells (row .u8 [f, t, a, 0]) 5))
      have hDV19 := hDV18.alloc (.cells (row .u8 [f, t, a, 0]) 5)
      replace hS := HS _ hDV19
      refine hK.out _ _ (fun _ => hS) ?_
      clear hK K
      try simp only [Act.put, List.getElem_toArray, List.getElem_cons_succ, List.getElem_cons_zero, List.setIfInBounds_toArray, List.set_cons_zero, List.set_cons_succ]
      obtain ⟨V19, hV19⟩ : ∃ q, V18.alloc (.cells (row .u8 [f, t, a, 0]) 5) = q := ⟨_, rfl⟩
      obtain ⟨g19, hg19⟩ : ∃ q, V18.heap.size = q := ⟨_, rfl⟩
      rw [hV19] at hNV19 hBV19 hRV19 hN8_V19 hN7_V19 hDV19 ⊢
      rw [hg19] at hNV19 ⊢
      clear hV19 hg19 hBV18 hRV18 hDV18 hN8_V18 hN7_V18
      have hN4_V19 := hNV19
      clear hNV19
      refine wpAnyG_one (i := 9) rfl (by kernel_rfl) (by kernel_rfl) (fun K hK => ?_)
      refine wp_buildSlice 187 41 3 _ rfl #[.slice (some ⟨g19, 0, none⟩) 4 4, .slice (some ⟨g18, 0, none⟩) 4 4, .slice (some ⟨g15, 0, none⟩) 4 4] iw _ Tryz.underlying187 hiw hwz (by rw [hws2]; decide) (by rw [hws2]; decide) (by rw [hws2]; kernel_rfl) ?_
      have hP := partsNew V19 [⟨some ⟨g19, 0, none⟩, 4, 4, [f, t, a, 0]⟩, ⟨some ⟨g18, 0, none⟩, 4, 4, (bE4 s)⟩, ⟨some ⟨g15, 0, none⟩, 4, 4, [0, 0, 0, 0]⟩] (fun p hp => by
        simp only [List.mem_cons, List.not_mem_nil, or_false] at hp
        rcases hp with rfl | rfl | rfl
        · exact hN4_V19
        · exact hN7_V19
        · exact hN8_V19)
      have hBP := hBV19.alloc hBV19.size (.cells #[.slice (some ⟨g19, 0, none⟩) 4 4, .slice (some ⟨g18, 0, none⟩) 4 4, .slice (some ⟨g15, 0, none⟩) 4 4] 41)
      have hRP := hRV19.alloc (.cells #[.slice (some ⟨g19, 0, none⟩) 4 4, .slice (some ⟨g18, 0, none⟩) 4 4, .slice (some ⟨g15, 0, none⟩) 4 4] 41)
      have hDP := hDV19.alloc (.cells #[.slice (some ⟨g19, 0, none⟩) 4 4, .slice (some ⟨g18, 0, none⟩) 4 4, .slice (some ⟨g15, 0, none⟩) 4 4] 41)
      replace hS := HS _ hDP
      refine hK.out _ _ (fun _ => hS) ?_
      clear hK K
      try simp only [Act.put, List.getElem_toArray, List.getElem_cons_succ, List.getElem_cons_zero, List.setIfInBounds_toArray, List.set_cons_zero, List.set_cons_succ]
      refine wpAnyG_one (i := 10) rfl (by kernel_rfl) (by kernel_rfl) (fun K hK => ?_)
      have hj := kjoined_any V19.heap.size 3 [⟨some ⟨g19, 0, none⟩, 4, 4, [f, t, a, 0]⟩, ⟨some ⟨g18, 0, none⟩, 4, 4, (bE4 s)⟩, ⟨some ⟨g15, 0, none⟩, 4, 4, [0, 0, 0, 0]⟩] _ hP rfl (by omega) (by simp [sumN, allZ, bE4])
      rw [show allZ [⟨some ⟨g19, 0, none⟩, 4, 4, [f, t, a, 0]⟩, ⟨some ⟨g18, 0, none⟩, 4, 4, (bE4 s)⟩, ⟨some ⟨g15, 0, none⟩, 4, 4, [0, 0, 0, 0]⟩] = wrapNL f t a s from rfl, hNL] at hj
      refine wpx_call _ _ (by kernel_rfl) (hj.mono ?_)
      rintro e WJ ⟨vj, rfl, hoj, hbj⟩
      refine ⟨_, rfl, ?_⟩
      have hBJ := hBP.trans (hbj.mono hBP.size)
      have hRJ := hRP.below hbj hRP.lt
      obtain ⟨gj, cj, rfl, hgj⟩ := hoj.slice (by rw [hNLl]; omega)
      have hrg := hoj.bytes.2.rangeK
      have hDJ := hDP.congr (hbj.block _ hDP.lt)
      replace hS := HS _ hDJ
      refine hK.out _ _ (fun _ => hS) ?_
      clear hK K
      try simp only [Act.put, List.getElem_toArray, List.getElem_cons_succ, List.getElem_cons_zero, List.setIfInBounds_toArray, List.set_cons_zero, List.set_cons_succ]
      refine wpAnyG_one (i := 11) rfl (by kernel_rfl) (by kernel_rfl) (fun K hK => ?_)
      refine wpx_arr _ _ rfl _ _ _ rfl (run_arrayAk Tryz.underlying101 _ _ _ (by rw [hNLl]; exact Nat.le_refl _) _) ?_
      refine hK.out _ _ (fun _ => hS) ?_
      clear hK K
      try simp only [Act.put, List.getElem_toArray, List.getElem_cons_succ, List.getElem_cons_zero, List.setIfInBounds_toArray, List.set_cons_zero, List.set_cons_succ]
      refine wpAnyG_one (i := 12) rfl (by kernel_rfl) (by kernel_rfl) (fun K hK => ?_)
      refine wp_load_mid 101 _ rfl gj 0 rfl _ _ hrg Tryz.underlying101 rfl (by rw [List.length_map, hNLl]; exact sizeNonceD) ?_
      refine hK.out _ _ (fun _ => hS) ?_
      clear hK K
      try simp only [Act.put, List.getElem_toArray, List.getElem_cons_succ, List.getElem_cons_zero, List.setIfInBounds_toArray, List.set_cons_zero, List.set_cons_succ]
      refine wpAnyG_one (i := 13) rfl (by kernel_rfl) (by kernel_rfl) (fun K hK => ?_)
      refine wp_stG 101 _ _ rfl _ rfl (k := .u8) (l := NL) rfl hRJ (by rw [hNLl]; exact sizeNonceD) (by rw [hZl, hNLl]) ?_
      refine hK.out _ _ (fun h => absurd (show true = false from h) (by decide)) ?_
      clear hK K
      try simp only [Act.put, List.getElem_toArray, List.getElem_cons_succ, List.getElem_cons_zero, List.setIfInBounds_toArray, List.set_cons_zero, List.set_cons_succ]
      refine wpAnyG_done (by kernel_rfl) ?_ _
      go_wp2_with fail
      refine bodyPost_ret (results_holds (Tryz.results86) _ rfl (hRJ.setRow _) Tryz.underlying101 sizeNonceD hNLl) rfl ⟨by rw [← hNL], ?_⟩
      exact below_setRow hBJ (by omega) _
end Go.Proofs.YtfainlfiphdaeaaGreatDoor
