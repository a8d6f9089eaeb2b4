/- Pad Sum Live Eq Base -/
import Derived.Test.YtflkhkmejnpapaaGreatDoorK02
import Derived.Deep.OwnRows
import Derived.RangeFuncFrom
import Derived.RangeFuncCalls
import Derived.RangeFuncLeaves
import Derived.RangeFuncNested
import Derived.RangeFuncBound
import Derived.Shelf.Abstract
import Derived.Shelf.RegionOpen
import Derived.WalkKit
import Derived.OwnWalkIn
import Derived.TacticsInMore
import Derived.LoopNIn
import Derived.LoopIn
import Derived.ChangeKeysEq
import Derived.Test.YtflkhkmejnpapaaGreatDoorCards
import Derived.Test.YtflkhkmejnpapaaGreatDoorTie
import Derived.ProofKit
import Derived.OpenShut
import Derived.ChangeOld
import Derived.Deep.DeepHandedRow
import Derived.Lib.LaidTab
namespace Go.Proofs.YtflkhkmejnpapaaGreatDoor.S
open Go.RowKit
theorem Addr.add_mid' (b o j : Nat) : (⟨b, o, none⟩ : Addr).add j = ⟨b, o + j, none⟩ := by unfold Addr.add; split <;> simp_all
structure Bytes (w : World) (x : Option Addr) (len cap : Nat) (z : List Int) : Prop where
 len_eq : len = z.length
 le : len ≤ cap
 top : cap ≤ 9223372036854775807
 nil : x = none → cap = 0
 at_ : len = 0 ∨ ∃ b off, x = some ⟨b, off, none⟩ ∧ ∀ j, j < len → w.cell? ⟨b, off + j, none⟩ = some (.int .u8 (z[j]?.getD 0))
theorem Bytes.below {w w' : World} {x : Option Addr} {len cap : Nat} {z : List Int} (h : Bytes w x len cap z) (hb : Below w.heap.size w w') : Bytes w' x len cap z :=
 ⟨h.len_eq, h.le, h.top, h.nil, by
  rcases h.at_ with h0 | ⟨b, off, hx, hc⟩
  · exact .inl h0
  · by_cases hl : len = 0
    · exact .inl hl
    · exact .inr ⟨b, off, hx, fun j hj => (hb.cell (p := ⟨b, off + j, none⟩) (block_lt_of_cell (hc j hj))).trans (hc j hj)⟩⟩
theorem bytes_nil (w : World) : Bytes w none 0 0 [] := ⟨rfl, by omega, by omega, fun _ => rfl, .inl rfl⟩
theorem infoU8 : (Tryz.prog.info? 5).map (fun i => (i.zero, i.size, i.bytes)) = some (some (.int .u8 0), 1, 1) := by kernel_rfl
theorem size1u8 : (Tryz.prog.info? 5).map (·.size) = some 1 := by kernel_rfl
theorem made_row (n : Nat) : madeCells #[.int .u8 0] n = row .u8 (List.replicate n 0) := by
 apply Array.ext_getElem?
 intro i
 by_cases h : i < n <;> simp [madeCells, row, h, Nat.mod_one]
theorem run_copy_bytes {t : TypeId} (w : World) (g m : Nat) (x : Option Addr) (len cap : Nat) (z : List Int) (hb : Bytes w x len cap z) (hg : Holds w g .u8 t (List.replicate m 0)) (hm : len ≤ m) :
    (Builtin.copy_ #[74, 74] 3 #[.slice (some ⟨g, 0, none⟩) m m, .slice x len cap]).run Tryz.prog w = .ok (.int .i64 len) (w.setRow g (row .u8 (z ++ List.replicate (m - z.length) 0))) := by
 have hz : z.length = len := hb.len_eq.symm
 have hcopy : ∀ (a : Addr), (∀ j v, (row .u8 z).toList[j]? = some v → w.cell? (a.add j) = some v) →
     (Builtin.copy_ #[74, 74] 3 #[.slice (some ⟨g, 0, none⟩) m m, .slice (some a) len cap]).run Tryz.prog w = .ok (.int .i64 len) (w.setRow g (row .u8 (z ++ List.replicate (m - z.length) 0))) := fun a hsrc => by
  have hlen : (row .u8 z).toList.length = len := by simp [row, hz]
  have := run_copy_row (P := Tryz.prog) w 74 74 3 5 g 0 m m a len cap _ t (row .u8 z).toList Tryz.underlying74 size1u8 hg
   (by rw [hlen]; exact (Nat.min_eq_left hm).symm) hsrc (by rw [hlen, row_size, List.length_replicate]; omega) (fun v hv => (Array.all_eq_true_iff_forall_mem.1 (row_one .u8 z)) v (by simpa using hv))
  rw [this, hlen]
  have e : (List.take 0 (row .u8 (List.replicate m 0)).toList ++ (row .u8 z).toList ++ List.drop (0 + len) (row .u8 (List.replicate m 0)).toList).toArray = row .u8 (z ++ List.replicate (m - z.length) 0) := by
   simp [row, hz]
  rw [e]; rfl
 rcases hb.at_ with h0 | ⟨b, off, hx, hc⟩
 · have hz0 : z = [] := List.length_eq_zero_iff.1 (by omega)
   cases x with
   | none =>
    have hc0 := hb.nil rfl
    subst h0 hc0 hz0
    rw [run_copy_nil Tryz.prog w 74 74 3 5 ⟨g, 0, none⟩ m m Tryz.underlying74 (by rw [size1u8]; rfl)]
    simp only [List.nil_append, List.length_nil, Nat.sub_zero]
    rw [setRow_self w g _ t _ hg]; rfl
   | some a => exact hcopy a (fun j v hv => by subst hz0; simp [row] at hv)
 · subst hx
   exact hcopy _ (fun j v hv => by
    have hj : j < len := by
     have := (List.getElem?_eq_some_iff.1 hv).1
     simpa [row, hz] using this
    rw [Addr.add_mid', hc j hj]
    have : (row .u8 z).toList[j]? = some (.int .u8 (z[j]?.getD 0)) := by
     have h := row_get .u8 z j (by omega)
     simpa using h
    rw [← this]; exact hv)
theorem psize_any (len : Nat) (w : World) (h : len ≤ 1000000) :
    Calls Tryz.prog 117 #[.int .i64 len] w fun e w' => e = .returned (.int .i64 (((len : Int) + 8) / 64 * 64 + 64)) ∧ w = w' := by
 go_enter Tryz.func117, Tryz.ntmps117
 go_wp2
 go_ret
 exact ⟨rfl, rfl⟩
set_option maxHeartbeats 400000 in
theorem pad_any (x : Option Addr) (len cap : Nat) (z : List Int) (w : World) (hbz : Bytes w x len cap z) (hln : len ≤ 1000000) :
    Calls Tryz.prog 108 #[.slice x len cap] w fun e w' => ∃ g, e = .returned (.slice (some ⟨g, 0, none⟩) (padSize z.length) (padSize z.length)) ∧ w.heap.size ≤ g ∧ Holds w' g .u8 5 (padL z) ∧ Below w.heap.size w w' := by
 have hz := hbz.len_eq
 have hg9 := padSize_ge len
 have hsz : padSize len ≤ 2000000 := by unfold padSize; omega
 have hsi : ((padSize len : Nat) : Int) = ((len : Int) + 8) / 64 * 64 + 64 := by unfold padSize; omega
 have hmk : ∀ wx : World, (Instr.makeSlice 74 (.int .i64 (((len : Int) + 8) / 64 * 64 + 64)) (.int .i64 (((len : Int) + 8) / 64 * 64 + 64))).run Tryz.prog wx = .ok (.slice (some ⟨wx.heap.size, 0, none⟩) (padSize len) (padSize len)) (wx.alloc (.cells (row .u8 (List.replicate (padSize len) 0)) 5)) := fun wx => by
  have := run_make_row' (P := Tryz.prog) 74 5 (.int .u8 0) 1 Tryz.underlying74 infoU8 rfl .i64 .i64 (padSize len) (by omega) (by omega) wx
  rw [hsi, made_row] at this
  exact this
 obtain ⟨m, hm⟩ : ∃ m, padSize len = m := ⟨_, rfl⟩
 have HM : Hid (padSize z.length = m) := by rw [← hz]; exact hm
 rw [hm] at hmk hg9 hsz
 have hW1 : Holds (w.alloc (.cells (row .u8 (List.replicate m 0)) 5)) w.heap.size .u8 5 (List.replicate m 0) := Holds.new w .u8 5 _
 have hcp := run_copy_bytes (w.alloc (.cells (row .u8 (List.replicate m 0)) 5)) w.heap.size m x len cap z (hbz.below ((Below.refl _ _).alloc (Nat.le_refl _) _)) hW1 (by omega)
 have HZ : Hid (len = z.length) := hz
 clear hsi hm hbz hz
 go_enter Tryz.func108, Tryz.ntmps108
 go_upto_region 3 with (go_at_call 117; refine (psize_any _ _ hln).mono ?_; rintro e w' ⟨rfl, rfl⟩)
 refine forget (p := fun y => Code.wp _ _ _ _ y) (fun W0 => Below w.heap.size w W0 ∧ Holds W0 w.heap.size .u8 5 (z ++ List.replicate (m - z.length) 0)) ⟨below_setRow ((Below.refl _ _).alloc (Nat.le_refl _) _) (Nat.le_refl _) _, hW1.setRow _⟩ ?_
 clear hcp hW1 hmk
 rintro W0 ⟨hB, h0⟩
 have c0 := h0.cell len (by have := HZ.out; rw [List.length_append, List.length_replicate]; omega)
 have f0 := h0.frozen len
 go_wp2
 go_loopw [21] (fun i wr => ∃ k : Nat, k ≤ 8 ∧ i = .int .i64 k ∧ Below w.heap.size w wr ∧ Holds wr w.heap.size .u8 5 (padK z k)) (fun i _ => 8 - (intOf i).toNat)
 case atStart =>
  refine ⟨0, by omega, rfl, hB.setCell (Nat.le_refl _) _, ?_⟩
  have := h0.set len 128
  rw [HZ.out, ← HM.out, padK_zero] at this
  rw [HZ.out]
  exact this
 case round =>
  clear hB h0 c0 f0 W0
  obtain ⟨k, hk, rfl, hB, h0⟩ := hrel
  by_cases hlt : k < 8
  · have c0 := h0.cell (m - 1 - k) (by rw [padK_length _ _ hk, HM.out]; omega)
    have f0 := h0.frozen (m - 1 - k)
    go_wp2
    go_roundw
    case rel =>
     refine ⟨k + 1, by omega, by go_num, hB.setCell (Nat.le_refl _) _, ?_⟩
     have := h0.set (padSize z.length - 1 - k) (lenByte z.length k)
     rw [padK_set z k hlt] at this
     rw [← HM.out, HZ.out]
     exact this
    case measure => simp [intOf]; omega
  · obtain rfl : k = 8 := by omega
    go_wp2
    go_ret
    exact ⟨w.heap.size, by rw [HM.out]; rfl, Nat.le_refl _, h0, hB⟩
open Go.RowKit Go.Shelf
attribute [local go_sem] Oper.semAt_some
theorem blocks_any (x : Option Addr) (len cap : Nat) (w : World) :
    Calls Tryz.prog 107 #[.slice x len cap] w fun e w' => e = .returned (.func (.func 116) #[] #[.pointer (some ⟨w.heap.size, 0, none⟩)]) ∧ w' = w.alloc (.cells #[.slice x len cap] 74) := by
 go_enter Tryz.func107, Tryz.ntmps107
 go_wp2
 go_ret
 exact ⟨rfl, rfl⟩
theorem take_fin (N k : Nat) (h : k < N) : (List.finRange N).take (k + 1) = (List.finRange N).take k ++ [⟨k, h⟩] := by
 rw [List.take_succ_eq_append_getElem (by simpa using h)]; simp
theorem blk1_in (F : Fence) (n : Nat) (h6 : F.fn 116) (hro : F.round = none) (_hn : 1 ≤ n) (l Bn g N : Nat) (hN : 64 * N ≤ 2000000) (J Jx : List (Fin N) → World → Prop)
    (hY : ∀ pre (x : Fin N) W, J pre W → pre.length < N → YieldAt F (n - 1) Tryz.prog l #[.slice (some ⟨g, 64 * x.1, none⟩) 64 64] W fun e W' =>
     (e = .returned (.bool true) ∧ J (pre ++ [x]) W' ∧ W'.heap[Bn]? = W.heap[Bn]?) ∨ (e = .returned (.bool false) ∧ Jx (pre ++ [x]) W'))
    (W : World) (hBn : W.cell? ⟨Bn, 0, none⟩ = some (.slice (some ⟨g, 0, none⟩) (64 * N) (64 * N))) (h0 : J [] W) :
    CallsIn F n Tryz.prog 116 #[.func (.yield l) #[] #[], .pointer (some ⟨Bn, 0, none⟩)] W fun e W' => (∃ v, e = .returned v) ∧
     ((∃ ys, ys = List.finRange N ∧ J ys W') ∨ (∃ pre, pre <+: List.finRange N ∧ Jx pre W')) := by
 refine callsIn_of_wp Tryz.func116 rfl h6 ?_ hro
 simp only [Tryz.ntmps116, List.size_toArray, List.length_cons, List.length_nil, Nat.reduceAdd, Nat.reduceSub, Array.replicate_succ, Array.replicate_zero, List.push_toArray, List.append_toArray, List.nil_append, List.cons_append]
 gi_wp2
 gi_loopw [3] (fun p wr => ∃ k : Nat, k ≤ N ∧ p = .int .i64 ((64 * k : Nat) : Int) ∧ wr.cell? ⟨Bn, 0, none⟩ = some (.slice (some ⟨g, 0, none⟩) (64 * N) (64 * N)) ∧ J ((List.finRange N).take k) wr)
  (fun p _ => 64 * N - (intOf p).toNat)
 case atStart =>
  exact ⟨0, Nat.zero_le _, rfl, hBn, by simpa using h0⟩
 case round =>
  obtain ⟨k, hk, rfl, hc, hJs⟩ := hrel
  by_cases hlt : k < N
  · obtain ⟨fn, tmps, assign, body, hy, hR⟩ := hY _ ⟨k, hlt⟩ wr hJs (by simp; omega)
    dsimp only at hy
    rw [← take_fin N k hlt] at hR
    gi_wp2
    refine hR.mono ?_
    rintro e W3 (⟨rfl, hJ3, hk3⟩ | ⟨rfl, hJx3⟩)
    · have hc3 : W3.cell? ⟨Bn, 0, none⟩ = some (.slice (some ⟨g, 0, none⟩) (64 * N) (64 * N)) := (World.cell?_of_block (a := ⟨Bn, 0, none⟩) hk3).trans hc
      gi_wp2
      go_roundw
      case rel => exact ⟨k + 1, by omega, by go_num, hc3, hJ3⟩
      case measure => simp [intOf]; omega
    · gi_wp2
      refine bodyPost_ret (results_none rfl _ _ _) rfl ?_
      exact ⟨⟨_, rfl⟩, .inr ⟨_, List.take_prefix _ _, hJx3⟩⟩
  · obtain rfl : k = N := by omega
    gi_wp2
    go_end0
    exact ⟨⟨_, rfl⟩, .inl ⟨_, rfl, by rwa [List.take_of_length_le (by simp)] at hJs⟩⟩
theorem blk1_stops (F : Fence) (n : Nat) (h6 : F.fn 116) (hro : F.round = none) (hn : 1 ≤ n) (Bn g N : Nat) (hN : 64 * N ≤ 2000000) (w : World) (hBn : Bn < w.heap.size)
    (hc : w.cell? ⟨Bn, 0, none⟩ = some (.slice (some ⟨g, 0, none⟩) (64 * N) (64 * N))) :
    SeqStopsK F n Tryz.prog 116 #[.pointer (some ⟨Bn, 0, none⟩)] (fun x : Fin N => #[.slice (some ⟨g, 64 * x.1, none⟩) 64 64]) (fun A B => B.heap[Bn]? = A.heap[Bn]?) (fun ys => ys = List.finRange N) (fun pre => pre <+: List.finRange N) N w := fun l J Jx W hW _ _ hY h0 =>
 blk1_in F n h6 hro hn l Bn g N hN J Jx hY W ((hW.cell (p := ⟨Bn, 0, none⟩) hBn).trans hc) h0
theorem holds_kept {W W' : World} {row : Option Nat} {g : Nat} {k : IntKind} {t : TypeId} {l : List Int} (h : Holds W g k t l) (hg : W.grownBy W' row) (hrow : ∀ r, row = some r → ∃ o : Obj, W.heap[r]? = some o ∧ o.isCells = false) : Holds W' g k t l := by
 have hl := h.lt
 unfold Holds at h ⊢
 rw [hg.block g hl (fun e => by
  obtain ⟨o, ho, hc⟩ := hrow g e.symm
  rw [h] at ho
  cases ho
  cases hc)]
 exact h
theorem keepsOthers_of_below {W W' : World} (h : Below W.heap.size W W') : KeepsOthers W W' := ⟨h.size, fun k _ hk _ => (h.block k (Array.getElem?_eq_some_iff.1 hk).1).trans hk⟩
section
variable {P : Program} {F : Fence} {n : Nat}
theorem wpListIn_st {ops : Array Oper} {rest : List Oper} {o : Oper} {a : Act} {w : World} {Q : Exit → Act → World → Prop} (hgd : o.guard = none) (ty : TypeId) (x y : Operand) (ho : o.op = .store ty x y)
    (g : Nat) (hx : a.eval x = .pointer (some ⟨g, 0, none⟩)) {k : IntKind} {t : TypeId} {old l : List Int} (hy : a.eval y = .agg (row k l)) (hg : Holds w g k t old)
    (hi : (P.info? ty).map (·.size) = some l.length) (hl : old.length = l.length)
    (h : wpListIn F n P ops Q rest (a.put o.dst undef) (w.setRow g (row k l))) : wpListIn F n P ops Q (o :: rest) a w := by
 refine wpListIn_plain hgd fun K hK' => ?_
 unfold Oper.wpIn
 refine ⟨?_, ?_⟩
 · simp [Oper.about, ho]
 · rw [Oper.semAt_plain F _ _ (by rw [ho]; intro c hc'; cases hc')]
   simp only [execOp, ho, hx, hy, Instr.storeAt, Instr.sureAddr, Sem.run_bind, Sem.run_pure, Result.andThen_ok, run_storeVar_row w g ty t k old l hg hl hi]
   exact hK' _ _ h
end
theorem start8 (w : World) :
    Calls Tryz.prog 106 #[] w fun e w' => e = .returned (.agg #[.int .u32 1779033703, .int .u32 3144134277, .int .u32 1013904242, .int .u32 2773480762, .int .u32 1359893119, .int .u32 2600822924, .int .u32 528734635, .int .u32 1541459225]) ∧ Below w.heap.size w w' := start_any w
theorem others8 (w : World) (g : Nat) (v0 v1 v2 v3 v4 v5 v6 v7 : Value) :
    KeepsOthers w ((((((((w.setCell ⟨g, 0, none⟩ v0).setCell ⟨g, 1, none⟩ v1).setCell ⟨g, 2, none⟩ v2).setCell ⟨g, 3, none⟩ v3).setCell ⟨g, 4, none⟩ v4).setCell ⟨g, 5, none⟩ v5).setCell ⟨g, 6, none⟩ v6).setCell ⟨g, 7, none⟩ v7) :=
 (((((((KeepsOthers.setCell _ _ _).trans (KeepsOthers.setCell _ _ _)).trans (KeepsOthers.setCell _ _ _)).trans (KeepsOthers.setCell _ _ _)).trans (KeepsOthers.setCell _ _ _)).trans (KeepsOthers.setCell _ _ _)).trans (KeepsOthers.setCell _ _ _)).trans (KeepsOthers.setCell _ _ _)
set_option maxRecDepth 100000 in
set_option maxHeartbeats 1000000 in
theorem sum_in (x : Option Addr) (len cap : Nat) (z : List Int) (w : World) (hbz : Bytes w x len cap z) (hln : len ≤ 1000000) (hk : KTab w) :
    CallsIn Fence.wide 3 Tryz.prog 88 #[.slice x len cap] w fun e w' => e = .returned (.agg (row .u8 (sumL z))) ∧ Below w.heap.size w w' := by
 have hz := hbz.len_eq
 obtain ⟨N, hN⟩ : ∃ N, padSize z.length = 64 * N := ⟨(z.length + 8) / 64 + 1, by unfold padSize; omega⟩
 have hNN : padSize z.length / 64 = N := by omega
 have hN2 : 64 * N ≤ 2000000 := by rw [← hN]; unfold padSize; omega
 have hpl : (padL z).length = 64 * N := by rw [padL_length, hN]
 have pB : ∀ wx, Below w.heap.size w wx → Calls Tryz.prog 108 #[.slice x len cap] wx fun e w' => ∃ g, e = .returned (.slice (some ⟨g, 0, none⟩) (64 * N) (64 * N)) ∧ wx.heap.size ≤ g ∧ Holds w' g .u8 5 (padL z) ∧ Below wx.heap.size wx w' := fun wx hx => by
  have := pad_any x len cap z wx (hbz.below hx) hln
  rw [hN] at this
  exact this
 have HP : Hid (padSize z.length / 64 = N) := hNN
 have HL : Hid ((padL z).length = 64 * N) := hpl
 clear hN hNN hz hpl
 refine callsIn_of_wp_marks Tryz.func88 rfl trivial ?_ rfl
 simp only [Tryz.ntmps88, List.size_toArray, List.length_cons, List.length_nil, Nat.reduceAdd, Nat.reduceSub, Array.replicate_succ, Array.replicate_zero, List.push_toArray, List.append_toArray, List.nil_append, List.cons_append]
 gi_wp2_with (first
  | (refine ⟨trivial, ?_⟩; gi_at_call 106; refine (callsIn_wide.2 (start8 _)).mono ?_; rintro e w1 ⟨rfl, hb1⟩; have hB1 : Below w.heap.size w w1 := ((Below.refl _ _).alloc (Nat.le_refl _) _).trans (hb1.mono (by simp)); have hR1 : Holds w1 w.heap.size .u8 23 (List.replicate 32 0) := (Holds.new w .u8 23 (List.replicate 32 0)).below hb1 (by simp); clear hb1)
  | (refine ⟨trivial, ?_⟩; gi_at_call 108; refine (callsIn_wide.2 (pB _ (hB1.alloc hB1.size _))).mono ?_; rintro e w2 ⟨g, rfl, hg, hHg, hb2⟩)
  | (refine ⟨trivial, ?_⟩; gi_at_call 107; refine (callsIn_wide.2 (blocks_any _ _ _ _)).mono ?_; rintro e w3 ⟨rfl, rfl⟩))
 have hg1 : w1.heap.size + 1 ≤ g := by simpa using hg
 have hs1 : w.heap.size + 1 ≤ w1.heap.size := by have := hR1.lt; omega
 have hz2 : w1.heap.size + 1 ≤ w2.heap.size := by have := hb2.size; simpa using this
 have hgl := hHg.lt
 have hS2 : Holds w2 w1.heap.size .u32 158 startL := (Holds.new w1 .u32 158 startL).below hb2 (by simp)
 have hR2 : Holds w2 w.heap.size .u8 23 (List.replicate 32 0) := (hR1.alloc _).below hb2 (by simp; omega)
 have hB2 : Below w.heap.size w w2 := (hB1.alloc hB1.size _).trans (hb2.mono (by simp; omega))
 have hC2 : (w2.alloc (.cells #[.slice (some ⟨g, 0, none⟩) (64 * N) (64 * N)] 74)).cell? ⟨w2.heap.size, 0, none⟩ = some (.slice (some ⟨g, 0, none⟩) (64 * N) (64 * N)) :=
  (cell_of_row _ w2.heap.size 0 _ 74 (0, 0) (World.alloc_heap_new w2 _)).trans rfl
 clear hb2 hB1 hR1 hg pB
 refine wpIn_rangeFunc_ownF rfl (by omega) (gf := 116) (lb := #[.pointer (some ⟨w2.heap.size, 0, none⟩)]) rfl trivial (enters_of Tryz.func116 (by kernel_rfl) rfl)
  (blk1_stops Fence.wide (3 - 1) trivial rfl (by omega) w2.heap.size g N hN2 _ (by simp) hC2) (fun h k => k.trans h) (fun W l o o' hl _ _ _ => World.putObj_heap_other (by simp at hl; omega)) (Below.refl _ _) (fun _ => rfl)
  (fun pre W => (Holds W w1.heap.size .u32 158 (foldB (padL z) (pre.map (·.1)) startL) ∧ Holds W g .u8 5 (padL z) ∧ Holds W w.heap.size .u8 23 (List.replicate 32 0) ∧ w2.heap.size + 1 ≤ W.heap.size) ∧ Below w.heap.size w W)
  (fun _ _ _ => False)
  (OwnFrom.and (Own.from (fun s A B row hs hg hr => ⟨holds_kept hs.1 hg hr, holds_kept hs.2.1 hg hr, holds_kept hs.2.2.1 hg hr, Nat.le_trans hs.2.2.2 hg.size⟩) _) (ownFrom_below (Nat.le_refl _) (by simp; omega)))
  (fun _ _ _ _ _ hs _ _ => hs)
  ⟨⟨hS2.alloc _, hHg.alloc _, hR2.alloc _, by simp⟩, hB2.alloc (by omega) _⟩
  (fun i => { tmps := #[.slice x len cap, undef, .pointer (some ⟨w.heap.size, 0, none⟩), .pointer (some ⟨w1.heap.size, 0, none⟩), .slice (some ⟨g, 64 * i.1, none⟩) 64 64, .agg #[.int .u32 1779033703, .int .u32 3144134277, .int .u32 1013904242, .int .u32 2773480762, .int .u32 1359893119, .int .u32 2600822924, .int .u32 528734635, .int .u32 1541459225], .slice x len cap, .slice (some ⟨g, 0, none⟩) (64 * N) (64 * N), .func (.func 116) #[] #[.pointer (some ⟨w2.heap.size, 0, none⟩)], .slice (some ⟨g, 64 * i.1, none⟩) 64 64, undef, undef, undef, undef, undef], defers := [] }) ?assign ?body ?done ?stop
 case assign =>
  intro l i W K hK
  gi_wp2
  exact hK
 case body =>
  rintro l pre i W ⟨⟨hS, hG, hR, hW2⟩, hB⟩ _
  have hlS := foldB_length (padL z) (pre.map (·.1)) startL rfl
  have hiS := foldB_in (padL z) (pre.map (·.1)) startL startL_in
  have hnew : foldB (padL z) ((pre ++ [i]).map (·.1)) startL = stepL (foldB (padL z) (pre.map (·.1)) startL) (blk (padL z) i.1) := by rw [List.map_append]; exact foldB_snoc _ _ _ _
  obtain ⟨s0, s1, s2, s3, s4, s5, s6, s7, hs8⟩ := eight hlS
  rw [hs8] at hS hiS hnew
  obtain ⟨r0, r1, r2, r3, r4, r5, r6, r7, hr8⟩ := eight (stepL_length [s0, s1, s2, s3, s4, s5, s6, s7] (blk (padL z) i.1))
  have hst : ∀ wx, Below W.heap.size W wx → Calls Tryz.prog 109 #[.agg #[.int .u32 s0, .int .u32 s1, .int .u32 s2, .int .u32 s3, .int .u32 s4, .int .u32 s5, .int .u32 s6, .int .u32 s7], .slice (some ⟨g, 64 * i.1, none⟩) 64 64] wx
      fun e w' => e = .returned (.agg #[.int .u32 r0, .int .u32 r1, .int .u32 r2, .int .u32 r3, .int .u32 r4, .int .u32 r5, .int .u32 r6, .int .u32 r7]) ∧ Below wx.heap.size wx w' := fun wx hx => by
   have hGx := hG.below hx hG.lt
   have := step_any [s0, s1, s2, s3, s4, s5, s6, s7] (blk (padL z) i.1) g (64 * i.1) 64 wx rfl hiS ((hk.below hB).below hx) (by omega) (by omega) (fun j hj => by
    rw [blk_get _ _ _ hj]
    exact hGx.cell _ (by rw [HL.out]; have := i.2; omega))
   rw [hr8] at this
   exact this
  rw [hr8] at hnew
  have HNEW : Hid (foldB (padL z) ((pre ++ [i]).map (·.1)) startL = [r0, r1, r2, r3, r4, r5, r6, r7]) := hnew
  obtain ⟨⟨c0, c1, c2, c3, c4, c5, c6, c7⟩, cf⟩ := facts8' hS
  clear hs8 hr8 hnew hiS hlS
  gi_wp2_with (refine ⟨trivial, ?_⟩; gi_at_call 109; refine (CallsIn.inRound l (callsIn_wide.2 (hst _ (Below.refl _ _)))).mono ?_; rintro e w4 ⟨rfl, hb4⟩; obtain ⟨⟨d0, d1, d2, d3, d4, d5, d6, d7⟩, df⟩ := facts8' (hS.below hb4 hS.lt))
  refine ⟨(keepsOthers_of_below hb4).trans (others8 _ _ _ _ _ _ _ _ _ _), ?_, ⟨?_, ?_, ?_, ?_⟩, ?_⟩
  · exact (heap8 _ _ _ _ _ _ _ _ (by omega)).trans (hb4.block _ (by omega))
  · rw [HNEW.out]; exact holds8' (hS.below hb4 hS.lt) _ _ _ _ _ _ _ _
  · exact holdsOther8 (hG.below hb4 hG.lt) _ _ _ _ _ _ _ _ (by omega)
  · exact holdsOther8 (hR.below hb4 hR.lt) _ _ _ _ _ _ _ _ (by omega)
  · have := hb4.size; simp; omega
  · exact below8 (hB.trans (hb4.mono hB.size)) (by omega) _ _ _ _ _ _ _ _
 case done =>
  rintro D ys W hD rfl ⟨⟨hS, _, hR, hW2⟩, hB⟩ hK
  have hmap : (List.finRange N).map (·.1) = List.range N := by apply List.ext_getElem <;> simp
  have hfold : foldB (padL z) ((List.finRange N).map (·.1)) startL = sumS z := by rw [hmap, ← HP.out]; rfl
  rw [hfold] at hS
  have hj := fun wx => joined_any (sumS z) wx (sumS_length z)
  obtain ⟨s0, s1, s2, s3, s4, s5, s6, s7, hs8⟩ := eight (sumS_length z)
  have hjl : joinL [s0, s1, s2, s3, s4, s5, s6, s7] = sumL z := by rw [← hs8]; rfl
  rw [hs8] at hS hj
  rw [hjl] at hj
  have hj' : ∀ wx, Calls Tryz.prog 110 #[.agg #[.int .u32 s0, .int .u32 s1, .int .u32 s2, .int .u32 s3, .int .u32 s4, .int .u32 s5, .int .u32 s6, .int .u32 s7]] wx fun e w' => e = .returned (.agg (row .u8 (sumL z))) ∧ Below wx.heap.size wx w' := hj
  obtain ⟨⟨c0, c1, c2, c3, c4, c5, c6, c7⟩, cf⟩ := facts8' hS
  have hDl : D < W.heap.size := (Array.getElem?_eq_some_iff.1 hK).1
  clear hs8 hjl hfold hj hmap
  gi_wp2_with (first
   | (refine ⟨trivial, ?_⟩; gi_at_call 110; refine (callsIn_wide.2 (hj' _)).mono ?_; rintro e w5 ⟨rfl, hb5⟩; have hR5 : Holds w5 w.heap.size .u8 23 (List.replicate 32 0) := hR.below hb5 hR.lt)
   | (refine wpListIn_st rfl 23 _ _ rfl _ rfl rfl hR5 (by rw [sumL_length]; exact sizeKey) (by simp [sumL_length]) ?_))
  have hK5 : (w5.setRow w.heap.size (row .u8 (sumL z))).heap[D]? = some (.deferred (some [])) := by
   rw [setRow_other _ _ _ _ (by simp at hD; omega), hb5.block D hDl]; exact hK
  have hB5 : Below w.heap.size w (w5.setRow w.heap.size (row .u8 (sumL z))) := below_setRow (hB.trans (hb5.mono hB.size)) (Nat.le_refl _) _
  refine ⟨by simp, .inl ⟨_, _, rfl, run_takeDeferred hK5, ?_⟩⟩
  have hF := holds_kept (hR5.setRow (sumL z)) (grownBy_putObj' _ D (.deferred none)) (fun r e => by cases e; exact ⟨_, hK5, rfl⟩)
  exact ⟨_, results_holds (Tryz.results88) _ rfl hF Tryz.underlying23 sizeKey (sumL_length z), rfl, hB5.trans (belowK_b (w := w) (Nat.le_refl _) _ D _ _ (by simp at hD; omega) hK5 rfl rfl)⟩
 case stop =>
  rintro D c pre W _ _ h _
  exact h.elim
theorem sum_any (x : Option Addr) (len cap : Nat) (z : List Int) (w : World) (hbz : Bytes w x len cap z) (hln : len ≤ 1000000) (hk : KTab w) :
    Calls Tryz.prog 88 #[.slice x len cap] w fun e w' => e = .returned (.agg (row .u8 (sumL z))) ∧ Below w.heap.size w w' := callsIn_wide.1 (sum_in x len cap z w hbz hln hk)
set_option maxRecDepth 100000
section
variable {P : Program}
theorem run_part_row (w : World) (e : TypeId) (kd : IntKind) (l : List Int) (k : Nat) (hue : P.underlying e = some (.int kd)) (hk : k < l.length) :
    (part e (row kd l) (k * 1)).run P w = .ok (.int kd (l[k]?.getD 0)) w := by
 have hg := row_get kd l k hk
 simp [part, isAgg, run_underlying hue, hg]
theorem run_eqItems_rows (w : World) (d : Nat) (e : TypeId) (kd : IntKind) (l m : List Int) (hue : P.underlying e = some (.int kd)) : ∀ is : List Nat, (∀ i ∈ is, i < l.length ∧ i < m.length) →
    (Op.eqItems (d + 1) e 1 (row kd l) (row kd m) is).run P w = .ok (is.all fun i => l[i]?.getD 0 == m[i]?.getD 0) w
 | [], _ => by simp [Op.eqItems]
 | i :: is, h => by
  have h1 := (h i (by simp)).1
  have h2 := (h i (by simp)).2
  have ih := run_eqItems_rows w d e kd l m hue is (fun j hj => h j (by simp [hj]))
  have he := run_equalIn_int (P := P) (w := w) d e kd kd (l[i]?.getD 0) (m[i]?.getD 0) hue
  simp only [Op.eqItems, Sem.run_bind, run_part_row w e kd l i hue h1, run_part_row w e kd m i hue h2, Result.andThen_ok, he, List.all_cons]
  cases hq : (l[i]?.getD 0 == m[i]?.getD 0)
  · simp
  · simpa using ih
theorem all_eq (l m : List Int) (n : Nat) (hl : l.length = n) (hm : m.length = n) : ((List.range n).all fun i => l[i]?.getD 0 == m[i]?.getD 0) = (l == m) := by
 rw [Bool.eq_iff_iff]
 simp only [List.all_eq_true, List.mem_range, beq_iff_eq]
 constructor
 · intro h
   apply List.ext_getElem (by omega)
   intro i h1 h2
   have := h i (by omega)
   simpa [h1, h2] using this
 · rintro rfl i _; rfl
theorem run_equalIn_rows (w : World) (d : Nat) {t e : TypeId} {n : Nat} (kd : IntKind) (l m : List Int) (hu : P.underlying t = some (.array n e)) (hue : P.underlying e = some (.int kd)) (hc : P.cellsOf e = 1) (hi : (P.info? e).isSome = true) (hl : l.length = n) (hm : m.length = n) :
    (Op.equalIn (d + 1 + 1) t (.agg (row kd l)) (.agg (row kd m))).run P w = .ok (l == m) w := by
 obtain ⟨i, hi⟩ := Option.isSome_iff_exists.1 hi
 rw [run_equalIn_array w (d + 1) _ _ hu hi, hc, run_eqItems_rows w d e kd l m hue _ (fun j hj => by have := List.mem_range.1 hj; omega), all_eq l m n hl hm]
end
theorem cellsU32 : Tryz.prog.cellsOf 31 = 1 := by kernel_rfl
theorem cellsU8 : Tryz.prog.cellsOf 5 = 1 := by kernel_rfl
set_option maxRecDepth 20000
open Go.ChangeShapes Go.WideShapes Go.ChangeAt Go.RowKit
theorem own : ownKnob Tryz.prog.godebug = none := by kernel_rfl
theorem laidOut : laidOutB Tryz.prog = true := by kernel_rfl
theorem gTab : Tryz.prog.globalNamed "escritoire/sha.roundWords" = some 0 := by kernel_rfl
theorem gTabType : (Tryz.prog.globals[0]?).map (·.type) = some 172 := by kernel_rfl
theorem cells64 : Tryz.prog.cellsOf 172 = 64 := by kernel_rfl
theorem table {W : World} (h : laidMetH Tryz.prog [("escritoire/sha.roundWords", Rows.laid_escritoire_sha_roundWords)] W) : KTab W := fun j hj => by
 have ht : Lib.TabIs Tryz.prog W "escritoire/sha.roundWords" .u32 kTab := Lib.tabIs_of_head (rest := []) gTab gTabType Tryz.underlying172 Tryz.underlying31 cellsU32 cells64 h
 have := ht.cell gTab j hj
 rw [List.getD_eq_getElem?_getD] at this
 exact this
noncomputable def laidWorld (os : Os) : World :=
 { World.holding Tryz.prog os ⟨#[], #[], []⟩ with heap := (World.holding Tryz.prog os ⟨#[], #[], []⟩).heap.modify 0 fun
     | .cells _ t frozen => .cells (row .u32 kTab) t frozen
     | o => o }
theorem open_row {H : Type} {enc : TypeId × Value → H} {P : Program} {W : World} {r : Reach} {base n : Nat} {t e : TypeId} {k : IntKind} {v : Value} {d : DataW H} {p : List MemPlace} (hu : P.underlying t = some (.array n e)) (he : P.underlying e = some (.int k)) (hce : P.cellsOf e = 1) (hct : P.cellsOf t = n)
    (hv : Value.okWide P W r base t v) (h : DataW.Trod enc P W 0 (fun _ => true) true t v d p) :
    ∃ l : List Int, l.length = n ∧ v = .agg (row k l) ∧ ∀ x ∈ l, (Lit.int k x).wf = true := by
 simp only [Value.okWide, hu] at hv
 obtain ⟨cs, rfl, hsz, _⟩ := hv
 rw [hct] at hsz
 obtain ⟨fuel, hf⟩ := h
 obtain ⟨xs, m, _, _, _, hlen, hel⟩ := DataW.trod_array hu hf
 simp only [Value.cells, hce, Nat.mul_one] at hel
 have key : ∀ i (hi : i < cs.size), cs[i] = .int k (intOf cs[i]) ∧ (Lit.int k (intOf cs[i])).wf = true := fun i hi => by
  have h1 := hel i (by omega)
  rw [List.getElem?_eq_getElem (by omega)] at h1
  obtain ⟨a, ea, _, wa⟩ := DataW.trod_int he h1
  have e1 : (cs.toList.drop i).take 1 = [cs[i]] := by
   rw [List.drop_eq_getElem_cons (by simpa using hi)]; simp
  rw [e1] at ea
  have e2 : cs[i] = .int k a := by simpa using ea
  rw [e2]
  exact ⟨rfl, wa⟩
 refine ⟨cs.toList.map intOf, by simp [hsz], ?_, ?_⟩
 · congr 1
   apply Array.ext (by simp [row])
   intro i h1 h2
   have := (key i h1).1
   simp only [row, List.map_map, List.getElem_toArray, List.getElem_map, Function.comp, Array.getElem_toList]
   exact this
 · intro x hx
   obtain ⟨c, hc, rfl⟩ := List.mem_map.1 hx
   obtain ⟨i, hi, rfl⟩ := List.mem_iff_getElem.1 hc
   have := (key i (by simpa using hi)).2
   simpa using this
end Go.Proofs.YtflkhkmejnpapaaGreatDoor.S
