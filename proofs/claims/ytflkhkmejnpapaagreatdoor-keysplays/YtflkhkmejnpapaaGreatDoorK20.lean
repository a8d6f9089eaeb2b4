/- Gx Ky2 Gd -/
import Derived.Test.YtflkhkmejnpapaaGreatDoorK19
import Derived.Great.BuildSlice
import Derived.Test.YtflkhkmejnpapaaGreatDoorK16
import Derived.Test.YtflkhkmejnpapaaGreatDoorK18
import Derived.Test.YtflkhkmejnpapaaGreatDoorK15
import Derived.Test.YtflkhkmejnpapaaGreatDoorK05
namespace Go.Proofs.YtflkhkmejnpapaaGreatDoor
open Go.RowKit
set_option linter.unusedSimpArgs false
section
variable {P : Program} {o : Oper} {a : Act} {w : World} {K : Act → World → Prop} {Q : Exit → Act → World → Prop}
theorem wpx_call (f : FuncId) (args : Array Value) (hrun : (execOp a.eval o).run P w = .ok (.enter f args) w)
    (hc : Calls P f args w fun e w' => ∃ v, e = .returned v ∧ K (a.put o.dst v) w') : o.wp P a w K Q := by
 unfold Oper.wp
 rw [hrun, Oper.upon_enter]
 refine hc.mono fun e w'' hh => ?_
 obtain ⟨v, rfl, hk⟩ := hh
 exact hk
theorem wpx_conv (src dst : TypeId) (x : Operand) (ho : o.op = .convert src dst x) (xv v : Value) (w' : World) (hx : a.eval x = xv) (hrun : (convert src dst xv).run P w = .ok v w') (h : K (a.put o.dst v) w') : o.wp P a w K Q := by
 unfold Oper.wp execOp
 simp only [ho, hx, Sem.run_bind, hrun, Result.andThen_ok, Sem.run_pure]
 exact h
theorem wpx_arr (t : TypeId) (x : Operand) (ho : o.op = .sliceToArrayPointer t x) (xv v : Value) (w' : World) (hx : a.eval x = xv) (hrun : (Instr.arrayAt t xv).run P w = .ok v w') (h : K (a.put o.dst v) w') : o.wp P a w K Q := by
 unfold Oper.wp execOp
 simp only [ho, hx, Sem.run_bind, hrun, Result.andThen_ok, Sem.run_pure]
 exact h
theorem wpx_make (t : TypeId) (l c : Operand) (ho : o.op = .makeSlice t l c) (lv cv v : Value) (w' : World) (hl : a.eval l = lv) (hc : a.eval c = cv) (hrun : (Instr.makeSlice t lv cv).run P w = .ok v w') (h : K (a.put o.dst v) w') : o.wp P a w K Q := by
 unfold Oper.wp execOp
 simp only [ho, hl, hc, Sem.run_bind, hrun, Result.andThen_ok, Sem.run_pure]
 exact h
theorem wpx_copy (d s : Operand) (dT sT : TypeId) (ho : o.op = .call { callee := .builtin .copy, args := #[d, s], argTypes := #[dT, sT] }) (dv sv v : Value) (w' : World) (hd : a.eval d = dv) (hs : a.eval s = sv) (hrun : (Builtin.copy_ #[dT, sT] o.type #[dv, sv]).run P w = .ok v w') (h : K (a.put o.dst v) w') : o.wp P a w K Q := by
 unfold Oper.wp execOp
 simp only [ho, resolve, invoke, builtin, Sem.run_bind, Sem.run_pure, Result.andThen_ok, List.map_toArray, List.map_cons, List.map_nil, hd, hs, hrun]
 exact h
theorem wpx_app (d s : Operand) (dT sT : TypeId) (ho : o.op = .call { callee := .builtin .append, args := #[d, s], argTypes := #[dT, sT] }) (dv sv v : Value) (w' : World) (hd : a.eval d = dv) (hs : a.eval s = sv) (hrun : (Builtin.append_ #[dT, sT] o.type #[dv, sv]).run P w = .ok v w') (h : K (a.put o.dst v) w') : o.wp P a w K Q := by
 unfold Oper.wp execOp
 simp only [ho, resolve, invoke, builtin, Sem.run_bind, Sem.run_pure, Result.andThen_ok, List.map_toArray, List.map_cons, List.map_nil, hd, hs, hrun]
 exact h
theorem wpx_bld (t : TypeId) (parts : Array (Nat × Operand)) (ho : o.op = .build t parts) (vals : Array (Nat × Value)) (hv : (parts.map fun (i, x) => (i, a.eval x)) = vals) (v : Value) (hrun : (Instr.build t vals).run P w = .ok v w) (h : K (a.put o.dst v) w) : o.wp P a w K Q := by
 unfold Oper.wp execOp
 simp only [ho, hv, Sem.run_bind, hrun, Result.andThen_ok, Sem.run_pure]
 exact h
theorem wpList_bldx {ops : Array Oper} {rest : List Oper} (hgd : o.guard = none) (t : TypeId) (parts : Array (Nat × Operand)) (ho : o.op = .build t parts) (vals : Array (Nat × Value)) (hv : (parts.map fun (i, x) => (i, a.eval x)) = vals) (v : Value) (hrun : (Instr.build t vals).run P w = .ok v w)
    (h : wpList P ops Q rest (a.put o.dst v) w) : wpList P ops Q (o :: rest) a w :=
 wpList_plain hgd fun _ hK => wpx_bld t parts ho vals hv v hrun (hK _ _ h)
end
set_option maxRecDepth 20000
theorem Bytes.toS {w : World} {x : Option Addr} {n c : Nat} {z : List Int} (h : Bytes w x n c z) : S.Bytes w x n c z := ⟨h.1, h.2, h.3, h.4, h.5⟩
def derL (k b : List Int) : List Int := S.expL k b 32
theorem derL_length (k b : List Int) : (derL k b).length = 32 := S.expL_length k b 32
theorem expandK_any (k : List Int) (y : Option Addr) (lb cb : Nat) (b : List Int) (w : World) (hk : k.length = 32) (hy : Bytes w y lb cb b) (hlb : lb ≤ 100000) (hKT : S.KTab w) :
    Calls Tryz.prog 44 #[.agg (row .u8 k), .slice y lb cb, .int .i64 32] w fun e w' => ∃ v, e = .returned (.tuple #[v, .int .i64 0]) ∧ OwnB w' w.heap.size v (derL k b) ∧ Below w.heap.size w w' :=
 S.expand_any k y lb cb b 32 w hk hy.toS hlb (by omega) hKT
def wordL (s : ByteArray) : List Int := s.data.toList.map fun b => (b.toNat : Int)
theorem wordL_length (s : ByteArray) : (wordL s).length = s.size := by unfold wordL; rw [List.length_map]; rfl
theorem conv_word (s : ByteArray) (w : World) (hs : s.size ≤ 1000) :
    ∃ c W, (convert 9 74 (.string s)).run Tryz.prog w = .ok (.slice (some ⟨w.heap.size, 0, none⟩) s.size c) W ∧ Bytes W (some ⟨w.heap.size, 0, none⟩) s.size c (wordL s) ∧ Below w.heap.size w W ∧ W.heap.size = w.heap.size + 1 := by
 refine ⟨_, _, run_bytes_of_string w 9 74 5 s Tryz.underlying9 Tryz.underlying74 Tryz.underlying5, ?_, (Below.refl _ _).drew.alloc (Nat.le_refl _) _, by simp⟩
 have hc := grownCap_ge w s.size 0 5
 have hm := grownCap_le_maxLen w s.size 0 5 (by simp [maxLen]; omega)
 generalize grownCap w s.size 0 5 = c at hc hm ⊢
 refine ⟨by rw [wordL_length], hc, by simpa [maxLen] using hm, (fun h => by cases h), .inr ⟨_, _, rfl, fun j hj => ?_⟩⟩
 have hrow : (w.drew.alloc (.cells (bytesRow s c) 5 ((bytesRow s c).size, (bytesRow s c).size + 1))).heap[w.heap.size]? = some (.cells (bytesRow s c) 5 ((bytesRow s c).size, (bytesRow s c).size + 1)) := heap_alloc_new w.drew _
 rw [cell_of_row _ _ _ _ _ _ hrow, Nat.zero_add]
 have hj' : j < s.data.size := hj
 simp [bytesRow, wordL, hj', Array.getElem?_append]
 rw [if_pos hj, Array.getElem?_eq_getElem hj']
 rfl
theorem infoSl : (Tryz.prog.info? 74).map (fun i => (i.zero, i.size, i.bytes)) = some (some (.slice none 0 0), 1, 24) := by kernel_rfl
theorem partsNew (w : World) (ps : List Part) (h : ∀ p ∈ ps, Bytes w p.x p.len p.cap p.z) : PartsAt (w.alloc (.cells (ps.map Part.val).toArray 74)) w.heap.size ps :=
 ⟨fun j hj => by
  rw [cell_of_row _ _ j _ _ _ (heap_alloc_new w _)]; simp [hj],
  fun j hj => (h _ (List.getElem_mem hj)).below ((Below.refl _ _).alloc (Nat.le_refl _) _)⟩
theorem Bytes.rangeK {w : World} {b off n c : Nat} {z : List Int} (h : Bytes w (some ⟨b, off, none⟩) n c z) : w.rangeAt b off (z.map (Value.int .u8)) := fun j v hv => by
 have hj : j < z.length := by have := (List.getElem?_eq_some_iff.1 hv).1; simpa using this
 rcases h.at_ with h0 | ⟨b', off', hx, hc⟩
 · have := h.len_eq; omega
 · cases hx
   rw [hc j (by have := h.len_eq; omega), ← hv, List.getElem?_map, List.getElem?_eq_getElem hj]; rfl
theorem sizeKeyD : (Tryz.prog.info? 23).map (·.size) = some 32 := by kernel_rfl
theorem run_arrayAk {t e : TypeId} {n : Nat} (hu : Tryz.prog.underlying t = some (.array n e)) (x : Option Addr) (len cap : Nat) (h : n ≤ len) (w : World) : (Instr.arrayAt t (.slice x len cap)).run Tryz.prog w = .ok (.pointer x) w := by
 simp [Instr.arrayAt, run_underlying hu, Nat.not_lt.2 h]
set_option maxHeartbeats 4000000 in
theorem derived_any (k : List Int) (ws : ByteArray) (x : Option Addr) (n c : Nat) (m : List Int) (w : World) (hk : k.length = 32) (hws : ws.size ≤ 1000) (hm : Bytes w x n c m) (hn : n ≤ 1000) (hKT : S.KTab w) :
    Calls Tryz.prog 31 #[.agg (row .u8 k), .string ws, .slice x n c] w fun e w' => e = .returned (.agg (row .u8 (derL k (wordL ws ++ m)))) ∧ Below w.heap.size w w' := by
 have hk0 := Holds.new w .u8 23 k
 have HML : Veil (n = m.length ∧ (wordL ws).length = ws.size) := ⟨hm.len_eq, wordL_length ws⟩
 obtain ⟨Z, hZl, hZ⟩ : ∃ Z : List Int, Z.length = 32 ∧ Z = List.replicate 32 0 := ⟨_, rfl, rfl⟩
 have hr0 := Holds.new (w.alloc (.cells (row .u8 k) 23)) .u8 23 Z
 rw [World.size_alloc] at hr0
 have hk1 := hk0.alloc (.cells (row .u8 Z) 23)
 have hB : Below w.heap.size w ((w.alloc (.cells (row .u8 k) 23)).alloc (.cells (row .u8 Z) 23)) := ((Below.refl _ _).alloc (Nat.le_refl _) _).alloc (by simp) _
 go_enter Tryz.func31, Tryz.ntmps31
 go_upto_region 1 with fail
 refine forget (p := fun y => Code.wp _ _ _ _ y) (fun W => Below w.heap.size w W ∧ Holds W w.heap.size .u8 23 k ∧ Holds W (w.heap.size + 1) .u8 23 Z) ⟨by rw [hZ] at hB; exact hB, by rw [hZ] at hk1; exact hk1, by rw [hZ] at hr0 ⊢; exact hr0⟩ ?_
 clear hB hk1 hr0 hk0 hZ
 rintro W ⟨hB, hk0, hr0⟩
 have uK : Tryz.prog.underlying 23 = _ := Tryz.underlying23
 have iK : (Tryz.prog.info? 23).map (·.size) = some (k.map (Value.int .u8)).length := by rw [List.length_map, hk]; exact sizeKeyD
 have HK : ∀ W' : World, Holds W' w.heap.size .u8 23 k → W'.rangeAt w.heap.size 0 (k.map (Value.int .u8)) := fun W' h => by
  have := h.cellsAt.range 0 32
  rw [List.drop_zero, List.take_of_length_le (by simp [hk])] at this
  exact this
 refine wp_region_gate (fun w' => w'.rangeAt w.heap.size 0 (k.map (Value.int .u8))) 6 (by kernel_rfl) ?_
 have hS := HK W.drew hk0
 refine wpAnyG_load (i := 0) (dst := some 10) (ty := 23) (x := .tmp 3) (b := w.heap.size) (o := (0)) (cs := (k.map (Value.int .u8))) (by kernel_rfl) (by kernel_rfl) (by kernel_rfl) (by kernel_rfl) (by kernel_rfl) (fun _ _ _ h => h) (by kernel_rfl) (by kernel_rfl) (by kernel_rfl) hS (by kernel_rfl) (fun _ h => h) uK rfl iK ?_
 simp only [Act.put, gA, gS, gZ, sI, sZ, sS]
 refine gaA 1 _ hS ?_
 simp only [Act.put, gA, gS, gZ, sI, sZ, sS]
 refine gaA 3 _ hS ?_
 simp only [Act.put, gA, gS, gZ, sI, sZ, sS]
 refine wpAnyG_one (i := 2) rfl (by kernel_rfl) (by kernel_rfl) (fun K hK => ?_)
 obtain ⟨c2, W2, hrun2, hb2, hB2, hs2⟩ := conv_word ws W.drew hws
 refine wpx_conv _ _ _ rfl _ _ _ rfl hrun2 ?_
 have hb02 : Below W.heap.size W W2 := Below.trans (Below.refl _ W).drew hB2
 have hk2 := hk0.below hb02 hk0.lt
 have hr2 := hr0.below hb02 hr0.lt
 have hBw2 : Below w.heap.size w W2 := hB.trans (hb02.mono hB.size)
 obtain ⟨g2, hg2⟩ : ∃ g2, W.drew.heap.size = g2 := ⟨_, rfl⟩
 rw [hg2] at hb2 hs2 ⊢
 clear hrun2 hB2 hb02 hk0 hr0 hB hg2
 replace hS := HK W2 hk2
 refine hK.out _ _ (fun _ => hS) ?_
 clear hK K
 try simp only [Act.put, gA, gS, gZ, sI, sZ, sS]
 refine wpAnyG_one (i := 4) rfl (by kernel_rfl) (by kernel_rfl) (fun K hK => ?_)
 obtain ⟨iw, hiw, hwz, hws2, hwb⟩ := info_parts infoSl
 refine wp_buildSlice 96 74 2 _ rfl #[.slice (some ⟨g2, 0, none⟩) ws.size c2, .slice x n c] iw _ Tryz.underlying96 hiw hwz (by rw [hws2]; decide) (by rw [hws2]; decide) (by rw [hws2]; kernel_rfl) ?_
 have hP := partsNew W2 [⟨some ⟨g2, 0, none⟩, ws.size, c2, wordL ws⟩, ⟨x, n, c, m⟩] (fun p hp => by
  rcases List.mem_cons.1 hp with rfl | hp
  · exact hb2
  · obtain rfl := List.mem_singleton.1 hp
    exact hm.below hBw2)
 have hB3 : Below w.heap.size w (W2.alloc (.cells #[.slice (some ⟨g2, 0, none⟩) ws.size c2, .slice x n c] 74)) := hBw2.alloc hBw2.size _
 have hk3 := hk2.alloc (.cells #[.slice (some ⟨g2, 0, none⟩) ws.size c2, .slice x n c] 74)
 have hr3 := hr2.alloc (.cells #[.slice (some ⟨g2, 0, none⟩) ws.size c2, .slice x n c] 74)
 replace hS := HK _ hk3
 refine hK.out _ _ (fun _ => hS) ?_
 clear hK K
 try simp only [Act.put, gA, gS, gZ, sI, sZ, sS]
 refine wpAnyG_one (i := 5) rfl (by kernel_rfl) (by kernel_rfl) (fun K hK => ?_)
 have hj := kjoined_any W2.heap.size 2 [⟨some ⟨g2, 0, none⟩, ws.size, c2, wordL ws⟩, ⟨x, n, c, m⟩] _ hP rfl (by omega) (by have := HML.out; simp [sumN, allZ]; omega)
 refine wpx_call _ _ (by kernel_rfl) (hj.mono ?_)
 rintro e W4 ⟨v4, rfl, ho4, hb4⟩
 refine ⟨_, rfl, ?_⟩
 have hB4 := hB3.trans (hb4.mono hB3.size)
 have hk4 := hk3.below hb4 hk3.lt
 have hr4 := hr3.below hb4 hr3.lt
 replace hS := HK _ hk4
 refine hK.out _ _ (fun _ => hS) ?_
 clear hK K
 try simp only [Act.put, gA, gS, gZ, sI, sZ, sS]
 obtain ⟨x4, n4, c4, rfl, hn4⟩ := ho4.isSlice
 have hb5 := ho4.bytes.2
 rw [show allZ [⟨some ⟨g2, 0, none⟩, ws.size, c2, wordL ws⟩, ⟨x, n, c, m⟩] = wordL ws ++ m by simp [allZ]] at hb5 hn4
 rw [List.length_append] at hn4
 have he := expandK_any k x4 n4 c4 _ W4 hk hb5 (by have := HML.out; omega) (hKT.below hB4)
 clear hj hP hk3 hr3 hk2 hr2 hb2 ho4
 refine wpAnyG_one (i := 6) rfl (by kernel_rfl) (by kernel_rfl) (fun K hK => ?_)
 refine wpx_call _ _ (by kernel_rfl) (he.mono ?_)
 rintro e W6 ⟨v6, rfl, ho6, hb6⟩
 refine ⟨_, rfl, ?_⟩
 have hB6 := hB4.trans (hb6.mono hB4.size)
 have hr6 := hr4.below hb6 hr4.lt
 refine hK.out _ _ (fun h => absurd (show true = false from h) (by decide)) ?_
 clear hK K
 try simp only [Act.put, gA, gS, gZ, sI, sZ, sS]
 refine wpAnyG_any (i := 7) (v := ?_) rfl (by kernel_rfl) (by kernel_rfl) (by kernel_rfl) (fun _ _ _ h => h) (by kernel_rfl) (fun h => absurd (show true = false from h) (by decide)) (by kernel_rfl) ?_ ?_
 rotate_left
 · intro _; go_simp; try with_reducible rfl
 simp only [Act.put, gA, gS, gZ, sI, sZ, sS]
 refine wpAnyG_any (i := 8) (v := ?_) rfl (by kernel_rfl) (by kernel_rfl) (by kernel_rfl) (fun _ _ _ h => h) (by kernel_rfl) (fun h => absurd (show true = false from h) (by decide)) (by kernel_rfl) ?_ ?_
 rotate_left
 · intro _; go_simp; try with_reducible rfl
 simp only [Act.put, gA, gS, gZ, sI, sZ, sS]
 refine wpAnyG_any (i := 9) (v := ?_) rfl (by kernel_rfl) (by kernel_rfl) (by kernel_rfl) (fun _ _ _ h => h) (by kernel_rfl) (fun h => absurd (show true = false from h) (by decide)) (by kernel_rfl) ?_ ?_
 rotate_left
 · intro _; go_simp; try with_reducible rfl
 simp only [Act.put, gA, gS, gZ, sI, sZ, sS]
 refine wpAnyG_any (i := 10) (v := ?_) rfl (by kernel_rfl) (by kernel_rfl) (by kernel_rfl) (fun _ _ _ h => h) (by kernel_rfl) (fun h => absurd (show true = false from h) (by decide)) (by kernel_rfl) ?_ ?_
 rotate_left
 · intro _; go_simp; try with_reducible rfl
 simp only [Act.put, gA, gS, gZ, sI, sZ, sS]
 refine wpAnyG_any (i := 11) (v := ?_) rfl (by kernel_rfl) (by kernel_rfl) (by kernel_rfl) (fun _ _ _ h => h) (by kernel_rfl) (fun h => absurd (show true = false from h) (by decide)) (by kernel_rfl) ?_ ?_
 rotate_left
 · intro _; go_simp; try with_reducible rfl
 simp only [Act.put, gA, gS, gZ, sI, sZ, sS]
 refine wpAnyG_done (by kernel_rfl) ?_ _
 have hdl := derL_length k (wordL ws ++ m)
 obtain ⟨DK, hDK⟩ : ∃ q, derL k (wordL ws ++ m) = q := ⟨_, rfl⟩
 have HDK := Veil.mk hDK
 rw [hDK] at ho6 hdl
 obtain ⟨g6, c6, rfl, hge⟩ := ho6.slice (by omega)
 have hby := ho6.bytes.2
 have hrg : W6.rangeAt g6 0 (DK.map (Value.int .u8)) := by
  have := hby.rangeK
  exact this
 have hra : ∀ wx, (Instr.arrayAt 23 (.slice (some ⟨g6, 0, none⟩) DK.length c6)).run Tryz.prog wx = .ok (.pointer (some ⟨g6, 0, none⟩)) wx := fun wx => run_arrayAk Tryz.underlying23 _ _ _ (by omega) wx
 have HDL := Veil.mk hdl
 clear hDK ho6 he hk4 hr4 hS hB4 hb6 hb4 hB3 hb5 hby iK uK HK
 clear hdl
 go_wp2_with (first
  | (refine wpList_ldv rfl 23 _ rfl _ _ rfl (DK.map (Value.int .u8)) hrg Tryz.underlying23 rfl (by rw [List.length_map, HDL.out]; exact sizeKeyD) ?_)
  | (refine wpList_st rfl 23 _ _ rfl _ rfl (k := .u8) (l := DK) rfl hr6 (by rw [HDL.out]; exact sizeKeyD) (by rw [hZl, HDL.out]) ?_))
 refine bodyPost_ret (results_holds (Tryz.results31) _ rfl (hr6.setRow _) Tryz.underlying23 sizeKeyD HDL.out) rfl ⟨?_, ?_⟩
 · rw [HDK.out]
 · exact below_setRow hB6 (by omega) _
section
variable {P : Program} {ops : Array Oper} {Q : Exit → Act → World → Prop} {md : Region.Mode} {S : World → Prop} {D : Nat}
theorem wpAnyG_three {i j l : Nat} {oi oj ol : Oper} {fuel : Nat} {listed : Array Bool} {a : Act} {w : World} (hi : ops[i]? = some oi) (hj : ops[j]? = some oj) (hl : ops[l]? = some ol) (hr : Region.ready md ops listed = [i, j, l])
    (hwi : Region.wanted oi (yielded ops a.tmps) = true) (hwj : Region.wanted oj (yielded ops a.tmps) = true) (hwl : Region.wanted ol (yielded ops a.tmps) = true)
    (h1 : ∀ K' : Act → World → Prop, Shut (∀ a w, ((listed.setIfInBounds i true).getD D true = false → S w) → wpAnyG P md ops Q S D fuel (listed.setIfInBounds i true) a w → K' a w) → Oper.wp P oi a w K' Q)
    (h2 : ∀ K' : Act → World → Prop, Shut (∀ a w, ((listed.setIfInBounds j true).getD D true = false → S w) → wpAnyG P md ops Q S D fuel (listed.setIfInBounds j true) a w → K' a w) → Oper.wp P oj a w K' Q)
    (h3 : ∀ K' : Act → World → Prop, Shut (∀ a w, ((listed.setIfInBounds l true).getD D true = false → S w) → wpAnyG P md ops Q S D fuel (listed.setIfInBounds l true) a w → K' a w) → Oper.wp P ol a w K' Q) : wpAnyG P md ops Q S D (fuel + 1) listed a w :=
 ⟨fun h0 => (by rw [hr] at h0; cases h0), fun q hq => by
  rw [hr] at hq
  rcases List.mem_cons.1 hq with rfl | hq
  · refine wpOp_step hi (fun K' hK => ?_)
    rw [if_pos hwi]
    exact h1 K' (fun a w h1 h2 => hK a w ⟨h1, h2⟩)
  · rcases List.mem_cons.1 hq with rfl | hq
    · refine wpOp_step hj (fun K' hK => ?_)
      rw [if_pos hwj]
      exact h2 K' (fun a w h1 h2 => hK a w ⟨h1, h2⟩)
    · obtain rfl : q = l := by simpa using hq
      refine wpOp_step hl (fun K' hK => ?_)
      rw [if_pos hwl]
      exact h3 K' (fun a w h1 h2 => hK a w ⟨h1, h2⟩)⟩
end
theorem OwnB.keep {w w' : World} {base : Nat} {v : Value} {z : List Int} (h : OwnB w base v z) (hk : ∀ g, base ≤ g → g < w.heap.size → w'.heap[g]? = w.heap[g]?) : OwnB w' base v z := by
 refine ⟨h.1, ?_⟩
 rcases h.2 with h' | ⟨g, cap, cur, h1, h2, h3, h4⟩
 · exact .inl h'
 · refine .inr ⟨g, cap, cur, h1, h2, ?_, h4⟩
   rw [hk g h2 (Array.getElem?_eq_some_iff.1 h3).1]; exact h3
end Go.Proofs.YtflkhkmejnpapaaGreatDoor
