/- Pg Pr -/
import Derived.RangeFuncFrom
import Derived.RangeFuncCalls
import Derived.RangeFuncLeaves
import Derived.RangeFuncNested
import Derived.RangeFuncBound
import Derived.Shelf.Abstract
import Derived.Shelf.RegionOpen
import Derived.WalkKit
import Derived.OwnWalkIn
import Derived.TacticsInMore
import Derived.LoopNIn
import Derived.LoopIn
import Derived.Test.YtflkhkmejnpapaaGreatDoorK07
namespace Go.Proofs.YtflkhkmejnpapaaGreatDoor
open Go.RowKit Go.Shelf
set_option maxRecDepth 20000
set_option linter.unusedSimpArgs false
attribute [local go_sem] Oper.semAt_some
def blkP (z : List Int) (k : Nat) : List Int :=
 (((z.drop (16 * k)).take 16) ++ List.replicate (17 - ((z.drop (16 * k)).take 16).length) 0).set ((z.drop (16 * k)).take 16).length 1
theorem blkP_length (z : List Int) (k : Nat) : (blkP z k).length = 17 := by
 unfold blkP; rw [List.length_set, List.length_append, List.length_replicate, List.length_take]; omega
theorem blocksP_any (x : Option Addr) (len cap : Nat) (w : World) :
    Calls Tryz.prog 81 #[.slice x len cap] w fun e w' => e = .returned (.func (.func 99) #[] #[.pointer (some ⟨w.heap.size, 0, none⟩)]) ∧ w' = w.alloc (.cells #[.slice x len cap] 74) := by
 go_enter Tryz.func81, Tryz.ntmps81
 go_wp2
 go_ret
 exact ⟨rfl, rfl⟩
theorem take_finP (N k : Nat) (h : k < N) : (List.finRange N).take (k + 1) = (List.finRange N).take k ++ [⟨k, h⟩] := by
 rw [List.take_succ_eq_append_getElem (by simpa using h)]; simp
theorem run_copy_blk {t : TypeId} (w : World) (g b off len cap : Nat) (z : List Int) (hb : Bytes w (some ⟨b, off, none⟩) len cap z) (hg : Holds w g .u8 t (List.replicate 17 0)) :
    (Builtin.copy_ #[74, 74] 3 #[.slice (some ⟨g, 0, none⟩) 16 17, .slice (some ⟨b, off, none⟩) len cap]).run Tryz.prog w = .ok (.int .i64 ((z.take 16).length : Nat)) (w.setRow g (row .u8 (z.take 16 ++ List.replicate (17 - (z.take 16).length) 0))) := by
 have hz : z.length = len := hb.len_eq.symm
 have hlen : (row .u8 (z.take 16)).toList.length = (z.take 16).length := by simp [row]
 have hsrc : ∀ j v, (row .u8 (z.take 16)).toList[j]? = some v → w.cell? ((⟨b, off, none⟩ : Addr).add j) = some v := fun j v hv => by
  have hj : j < (z.take 16).length := by have := (List.getElem?_eq_some_iff.1 hv).1; simpa [row] using this
  have hj2 : j < len := by rw [List.length_take] at hj; omega
  rcases hb.at_ with h0 | ⟨b', off', hx, hc⟩
  · omega
  · cases hx
    rw [Addr.add_mid', hc j hj2]
    have : (row .u8 (z.take 16)).toList[j]? = some (.int .u8 ((z.take 16)[j]?.getD 0)) := by
     have h := row_get .u8 (z.take 16) j hj
     simpa using h
    rw [List.getElem?_take_of_lt (by rw [List.length_take] at hj; omega)] at this
    rw [← this]; exact hv
 have := run_copy_row (P := Tryz.prog) w 74 74 3 5 g 0 16 17 ⟨b, off, none⟩ len cap _ t (row .u8 (z.take 16)).toList Tryz.underlying74 size1u8 hg
  (by rw [hlen, List.length_take, hz]; exact Nat.min_comm _ _) hsrc (by rw [hlen, row_size, List.length_replicate, List.length_take]; omega) (fun v hv => (Array.all_eq_true_iff_forall_mem.1 (row_one .u8 _)) v (by simpa using hv))
 rw [this, hlen]
 have e : (List.take 0 (row .u8 (List.replicate 17 0)).toList ++ (row .u8 (z.take 16)).toList ++ List.drop (0 + (z.take 16).length) (row .u8 (List.replicate 17 0)).toList).toArray = row .u8 (z.take 16 ++ List.replicate (17 - (z.take 16).length) 0) := by
  have e0 : (row .u8 (List.replicate 17 0)).toList = List.replicate 17 (Value.int .u8 0) := by unfold row; rw [List.map_replicate]
  rw [e0, List.take_zero, List.nil_append, List.drop_replicate, Nat.zero_add]
  simp only [row, List.map_append, List.map_replicate]
 rw [e]; rfl
section
variable {P : Program} {F : Fence} {n : Nat}
theorem wpListIn_ld {ops : Array Oper} {rest : List Oper} {o : Oper} {a : Act} {w : World} {Q : Exit → Act → World → Prop} (hgd : o.guard = none) (ty : TypeId) (x : Operand) (ho : o.op = .load ty x)
    (g : Nat) (hx : a.eval x = .pointer (some ⟨g, 0, none⟩)) {k : IntKind} {t : TypeId} {l : List Int} (hg : Holds w g k t l) {n' : Nat} {e : TypeId}
    (hu : P.underlying ty = some (.array n' e)) (hi : (P.info? ty).map (·.size) = some n') (hl : l.length = n')
    (h : wpListIn F n P ops Q rest (a.put o.dst (.agg (row k l))) w) : wpListIn F n P ops Q (o :: rest) a w := by
 refine wpListIn_plain hgd fun K hK' => ?_
 unfold Oper.wpIn
 refine ⟨?_, ?_⟩
 · simp [Oper.about, ho]
 · rw [Oper.semAt_plain F _ _ (by rw [ho]; intro c hc'; cases hc')]
   have hrun := run_loadVar_mid (P := P) w g 0 ty (l.map (Value.int k)) _ hg.rangeAll hu rfl (by rw [hi, List.length_map, hl])
   simp only [execOp, ho, hx, Instr.loadAt, Instr.sureAddr, Sem.run_bind, Sem.run_pure, Result.andThen_ok, hrun]
   exact hK' _ _ h
theorem wpListIn_stP {ops : Array Oper} {rest : List Oper} {o : Oper} {a : Act} {w : World} {Q : Exit → Act → World → Prop} (hgd : o.guard = none) (ty : TypeId) (x y : Operand) (ho : o.op = .store ty x y)
    (g : Nat) (hx : a.eval x = .pointer (some ⟨g, 0, none⟩)) {k : IntKind} {t : TypeId} {old l : List Int} (hy : a.eval y = .agg (row k l)) (hg : Holds w g k t old)
    (hi : (P.info? ty).map (·.size) = some l.length) (hl : old.length = l.length)
    (h : wpListIn F n P ops Q rest (a.put o.dst undef) (w.setRow g (row k l))) : wpListIn F n P ops Q (o :: rest) a w := by
 refine wpListIn_plain hgd fun K hK' => ?_
 unfold Oper.wpIn
 refine ⟨?_, ?_⟩
 · simp [Oper.about, ho]
 · rw [Oper.semAt_plain F _ _ (by rw [ho]; intro c hc'; cases hc')]
   simp only [execOp, ho, hx, hy, Instr.storeAt, Instr.sureAddr, Sem.run_bind, Sem.run_pure, Result.andThen_ok, run_storeVar_row w g ty t k old l hg hl hi]
   exact hK' _ _ h
end
def KpP (T Bn : Nat) (A B : World) : Prop := B.heap[Bn]? = A.heap[Bn]? ∧ (∀ k, k < T → B.heap[k]? = A.heap[k]?) ∧ A.heap.size ≤ B.heap.size
set_option maxHeartbeats 2000000 in
theorem blkP_in (n : Nat) (_hn : 1 ≤ n) (l Bn T : Nat) (x : Option Addr) (len cap : Nat) (z : List Int) (N : Nat) (hN : N = (len + 15) / 16) (hln : len ≤ 1000000) (J Jx : List (Fin N) → World → Prop) (W : World)
    (hJa : ∀ s A B, J s A → A.grownBy B none → J s B)
    (hY : ∀ pre (i : Fin N) W, J pre W → pre.length < N → YieldAt Fence.wide (n - 1) Tryz.prog l #[.agg (row .u8 (blkP z i.1))] W fun e W' =>
     (e = .returned (.bool true) ∧ J (pre ++ [i]) W' ∧ KpP T Bn W W') ∨ (e = .returned (.bool false) ∧ Jx (pre ++ [i]) W'))
    (hBn : W.cell? ⟨Bn, 0, none⟩ = some (.slice x len cap)) (hb : Bytes W x len cap z) (hT : ∀ b off, x = some ⟨b, off, none⟩ → 0 < len → b < T) (hTW : T ≤ W.heap.size) (h0 : J [] W) :
    CallsIn Fence.wide n Tryz.prog 99 #[.func (.yield l) #[] #[], .pointer (some ⟨Bn, 0, none⟩)] W fun e W' => (∃ v, e = .returned v) ∧
     ((∃ ys, ys = List.finRange N ∧ J ys W') ∨ (∃ pre, pre <+: List.finRange N ∧ Jx pre W')) := by
 have hle := hb.le
 have htop := hb.top
 have HZ : Veil (z.length = len) := ⟨hb.len_eq.symm⟩
 have HN : Veil (N = (len + 15) / 16) := ⟨hN⟩
 clear hN
 refine callsIn_of_wp Tryz.func99 rfl trivial ?_ rfl
 simp only [Tryz.ntmps99, List.size_toArray, List.length_cons, List.length_nil, Nat.reduceAdd, Nat.reduceSub, Array.replicate_succ, Array.replicate_zero, List.push_toArray, List.append_toArray, List.nil_append, List.cons_append]
 gi_wp2
 gi_loopw [3] (fun p wr => ∃ k : Nat, k ≤ N ∧ p = .int .i64 ((16 * k : Nat) : Int) ∧ wr.cell? ⟨Bn, 0, none⟩ = some (.slice x len cap) ∧ (∀ q, q < T → wr.heap[q]? = W.heap[q]?) ∧ T ≤ wr.heap.size ∧ J ((List.finRange N).take k) wr)
  (fun p _ => 16 * N - (intOf p).toNat)
 case atStart =>
  exact ⟨0, Nat.zero_le _, rfl, hBn, fun _ _ => rfl, hTW, by simpa using h0⟩
 case round =>
  obtain ⟨k, hk, rfl, hc, hq, hTle, hJs⟩ := hrel
  by_cases hlt : k < N
  · have hkl : 16 * k < len := by have := HN.out; omega
    obtain ⟨b, off, hx, hcs⟩ : ∃ b off, x = some ⟨b, off, none⟩ ∧ ∀ j, j < len → W.cell? ⟨b, off + j, none⟩ = some (.int .u8 (z[j]?.getD 0)) := by
     rcases hb.at_ with h | h
     · omega
     · exact h
    have hbT := hT b off hx (by omega)
    subst hx
    have hZl := HZ.out
    have hBy : Bytes wr (some ⟨b, off + 16 * k, none⟩) (len - 16 * k) (cap - 16 * k) (z.drop (16 * k)) := by
     refine ⟨by rw [List.length_drop]; omega, by omega, by omega, (fun h => by cases h), .inr ⟨b, off + 16 * k, rfl, fun j hj => ?_⟩⟩
     rw [drop_get, ← hcs (16 * k + j) (by omega), Nat.add_assoc]
     simp only [World.cell?, hq b hbT]
    have hNw := Holds.new wr .u8 120 (List.replicate 17 0)
    have hcp : ∀ W1, Holds W1 wr.heap.size .u8 120 (List.replicate 17 0) → Below wr.heap.size wr W1 → (Builtin.copy_ #[74, 74] 3 #[.slice (some ⟨wr.heap.size, 0, none⟩) 16 17, .slice (some ⟨b, off + 16 * k, none⟩) (len - 16 * k) (cap - 16 * k)]).run Tryz.prog W1 = .ok (.int .i64 (((z.drop (16 * k)).take 16).length : Nat)) (W1.setRow wr.heap.size (row .u8 ((z.drop (16 * k)).take 16 ++ List.replicate (17 - ((z.drop (16 * k)).take 16).length) 0))) := fun W1 h1 h2 =>
     run_copy_blk W1 wr.heap.size b (off + 16 * k) (len - 16 * k) (cap - 16 * k) (z.drop (16 * k)) (hBy.below h2) h1
    have hBlt : Bn < wr.heap.size := block_lt_of_cell hc
    obtain ⟨nn, hnn⟩ : ∃ q, ((z.drop (16 * k)).take 16).length = q := ⟨_, rfl⟩
    have hnn6 : nn ≤ 16 := by rw [← hnn, List.length_take]; omega
    have HB : Veil (blkP z k = (((z.drop (16 * k)).take 16) ++ List.replicate (17 - nn) 0).set nn 1) := ⟨by unfold blkP; rw [hnn]⟩
    rw [hnn] at hcp
    obtain ⟨c, hcE⟩ : ∃ q, (z.drop (16 * k)).take 16 = q := ⟨_, rfl⟩
    rw [hcE] at hcp HB hnn
    have hcl : (c ++ List.replicate (17 - nn) 0).length = 17 := by rw [List.length_append, List.length_replicate, hnn]; omega
    clear hcE hBy hcs hb hT hnn hZl
    have hk16 : (0 : Int) ≤ 16 * (k : Int) := by omega
    have hkl2 : 16 * (k : Int) < (len : Int) := by omega
    have hkc : 16 * (k : Int) ≤ (cap : Int) := by omega
    have hkne : ¬ cap = 16 * k := by omega
    have htn : (16 * (k : Int)).toNat = 16 * k := by omega
    gi_wp2
    refine forget (p := fun y => Code.wpIn _ _ _ _ _ _ y) (fun W1 => wr.grownBy W1 none ∧ Holds W1 wr.heap.size .u8 120 (List.replicate 17 0) ∧ Below wr.heap.size wr W1) ⟨World.grownBy_alloc _ _ _, hNw, (Below.refl _ _).alloc (Nat.le_refl _) _⟩ ?_
    clear hNw
    rintro W1 ⟨hG1, hN1, hB1⟩
    have hc1 : W1.cell? ⟨Bn, 0, none⟩ = some (.slice (some ⟨b, off, none⟩) len cap) := (hB1.cell (p := ⟨Bn, 0, none⟩) hBlt).trans hc
    have hcp1 := hcp W1.drew hN1.drew hB1.drew
    clear hcp
    gi_region
    have hN2 := hN1.drew.setRow (c ++ List.replicate (17 - nn) 0)
    have c2 := hN2.cell nn (by omega)
    have f2 := hN2.frozen nn
    have hN3 := hN2.set nn 1
    rw [← HB.out] at hN3
    have hbl := blkP_length z k
    have hG3 : wr.grownBy ((W1.drew.setRow wr.heap.size (row .u8 (c ++ List.replicate (17 - nn) 0))).setCell ⟨wr.heap.size, nn, none⟩ (.int .u8 1)) none :=
     ⟨hG1.os, hG1.tape, hG1.output, by simpa [World.setCell] using hG1.size, fun q hq1 hne => by
      rw [heap_setCell_other _ _ q _ (by show q ≠ wr.heap.size; omega), setRow_other _ _ _ _ (by omega), heap_drew]; exact hG1.block q hq1 hne⟩
    have hJ3 := hJa _ _ _ hJs hG3
    obtain ⟨fn, tmps, assign, body, hy, hR⟩ := hY _ ⟨k, hlt⟩ _ hJ3 (by simp; omega)
    dsimp only at hy hR
    rw [← take_finP N k hlt] at hR
    clear hY HB
    gi_wp2_with (refine wpListIn_ld rfl 120 _ rfl _ rfl hN3 Tryz.underlying120 size17 hbl ?_)
    refine hR.mono ?_
    rintro e W3 (⟨rfl, hJ4, hk3⟩ | ⟨rfl, hJx3⟩)
    · have hh : ((W1.drew.setRow wr.heap.size (row .u8 (c ++ List.replicate (17 - nn) 0))).setCell ⟨wr.heap.size, nn, none⟩ (.int .u8 1)).heap[Bn]? = wr.heap[Bn]? := hG3.block Bn hBlt (by simp)
      have hc3 : W3.cell? ⟨Bn, 0, none⟩ = some (.slice (some ⟨b, off, none⟩) len cap) := (World.cell?_of_block (a := ⟨Bn, 0, none⟩) (hk3.1.trans hh)).trans hc
      have hq3 : ∀ q, q < T → W3.heap[q]? = W.heap[q]? := fun q hqT => by
       rw [hk3.2.1 q hqT, ← hq q hqT]
       by_cases hqw : q < wr.heap.size
       · exact hG3.block q hqw (by simp)
       · exact absurd hqw (by have := hTle; omega)
      gi_wp2
      go_roundw
      case rel => exact ⟨k + 1, by omega, by go_num, hc3, hq3, Nat.le_trans hTle (Nat.le_trans hG3.size hk3.2.2), hJ4⟩
      case measure => simp [intOf]; omega
    · gi_wp2
      refine bodyPost_ret (results_none rfl _ _ _) rfl ?_
      exact ⟨⟨_, rfl⟩, .inr ⟨_, List.take_prefix _ _, hJx3⟩⟩
  · obtain rfl : k = N := by omega
    have hkl : ¬ (16 * (k : Int) < (len : Int)) := by have := HN.out; omega
    gi_wp2
    go_end0
    exact ⟨⟨_, rfl⟩, .inl (by rwa [List.take_of_length_le (by simp)] at hJs)⟩
theorem blkP_stops (n : Nat) (hn : 1 ≤ n) (Bn T : Nat) (x : Option Addr) (len cap : Nat) (z : List Int) (N : Nat) (hN : N = (len + 15) / 16) (hln : len ≤ 1000000) (w : World) (hBn : Bn < w.heap.size)
    (hc : w.cell? ⟨Bn, 0, none⟩ = some (.slice x len cap)) (hb : Bytes w x len cap z) (hT : ∀ b off, x = some ⟨b, off, none⟩ → 0 < len → b < T) (hTW : T ≤ w.heap.size) :
    SeqStopsK Fence.wide n Tryz.prog 99 #[.pointer (some ⟨Bn, 0, none⟩)] (fun i : Fin N => #[.agg (row .u8 (blkP z i.1))]) (KpP T Bn) (fun ys => ys = List.finRange N) (fun pre => pre <+: List.finRange N) N w := fun l J Jx W hW hJ _ hY h0 =>
 blkP_in n hn l Bn T x len cap z N hN hln J Jx W (fun s A B h hg => hJ s A B none h hg (fun r e => by cases e)) hY ((hW.cell (p := ⟨Bn, 0, none⟩) hBn).trans hc) (hb.below hW) hT (Nat.le_trans hTW hW.size) h0
open Go Go.RowKit
theorem wpIn_rangeFresh {α : Type} {n : Nat} {P : Program} {g : Operand} {ps : Array Tmp} {assign body : Code} {Q : Exit → Act → World → Prop} {a : Act} {w : World}
    (h1 : 1 ≤ n) {gf : Nat} {lb : Array Value} (hg : a.eval g = .func (.func gf) #[] lb) (eg : ∀ args w, (callFunc gf args).run P w = .ok (.enter gf args) w)
    {encs : α → Array Value} {Kp : World → World → Prop} {S Sp : List α → Prop} {N : Nat} (hseq : SeqStopsK Fence.wide (n - 1) P gf lb encs Kp S Sp N w) (hps : ∀ x, (encs x).size = ps.size)
    (I : List α → World → Prop) (hI : OwnFrom w.heap.size I) (h0 : I [] w)
    (hround : ∀ (l : Nat) (r : Loop) (pre : List α) (x : α) (W : World), w.heap.size ≤ l → I pre W → pre.length < N → W.heap[l]? = some (.loop r) →
     assign.wpIn (Fence.wide.inRound l) (n - 1 - 1) P (Exit.then (fun a' W' => KeepsOthers W W' ∧
      body.wpIn (Fence.wide.inRound l) (n - 1 - 1) P (fun e _ W3 => e = .normal ∧ KeepsOthers (W'.putObj l (.loop { r with state := .busy })) W3 ∧ (∀ o, Kp W (W3.putObj l o)) ∧ I (pre ++ [x]) W3) a' (W'.putObj l (.loop { r with state := .busy }))) (fun _ _ _ => False))
      { tmps := (ps.zip (encs x)).foldl (fun t (p, v) => t.setIfInBounds p v) a.tmps, defers := [] } W)
    (hdone : ∀ (D : Nat) (xs : List α) (W : World), w.heap.size ≤ D → S xs → I xs W → W.heap[D]? = some (.deferred (some [])) → Q .normal { a with defers := { target := .collected D, args := #[] } :: a.defers } W) :
    (Code.rangeFunc g ps assign body).wpIn Fence.wide n P Q a w := by
 refine wpIn_rangeFunc fun fn hfn => ?_
 -- the record of the loop, as it lies between two rounds
 let rdy : Loop := { state := .ready, pending := none, fn, tmps := a.tmps, params := ps, assign, body, defers := w.heap.size }
 have hA : ((w.alloc (.deferred (some []))).alloc (.loop rdy)).heap[w.heap.size + 1]? = some (.loop rdy) := by
  have := World.alloc_heap_new (w.alloc (.deferred (some []))) (.loop rdy)
  rwa [World.size_alloc] at this
 have hB : ((w.alloc (.deferred (some []))).alloc (.loop rdy)).heap[w.heap.size]? = some (.deferred (some [])) := (Below.heap_alloc _ _ _ (by simp)).trans (World.alloc_heap_new w _)
 have hw : Below w.heap.size w ((w.alloc (.deferred (some []))).alloc (.loop rdy)) := ((Below.refl _ w).alloc (Nat.le_refl _) _).alloc (by simp) _
 have hsz : ((w.alloc (.deferred (some []))).alloc (.loop rdy)).heap.size = w.heap.size + 1 + 1 := by simp
 refine ⟨w.heap.size + 1, [{ target := .collected w.heap.size, args := #[] }], (w.alloc (.deferred (some []))).alloc (.loop rdy), { target := .fn (.func gf) lb, args := #[.func (.yield (w.heap.size + 1)) #[] #[]] }, (w.alloc (.deferred (some []))).alloc (.loop rdy), gf, #[.func (.yield (w.heap.size + 1)) #[] #[]] ++ lb, (w.alloc (.deferred (some []))).alloc (.loop rdy), run_enterLoop_outer _ _ _ _ _, ?_, ?_, ?_, fun _ => h1, ?_⟩
 · simp only [resolve, hg]; simp [go_sem]
 · intro f' _; trivial
 · simp [invoke, go_sem, eg]
 refine (hseq (w.heap.size + 1) (fun pre W => I pre W ∧ W.heap[w.heap.size + 1]? = some (.loop rdy) ∧ W.heap[w.heap.size]? = some (.deferred (some []))) (fun _ _ => False) _ hw
  (fun s A B row hs hg' hr => ?_) (fun _ _ _ _ hs _ _ => hs) ?_ ⟨hI.alloc _ (hI.alloc _ h0), hA, hB⟩).mono ?_
 · have hk : ∀ (k : Nat) (o : Obj), A.heap[k]? = some o → o.isWalk = false → B.heap[k]? = some o := fun k o hko ho => by
    rw [← hko]
    refine hg'.block k (Array.getElem?_eq_some_iff.1 hko).1 (fun e => ?_)
    obtain ⟨_, o', ho', hw'⟩ := hr k e.symm
    rw [hko] at ho'
    cases ho'
    rw [ho] at hw'
    cases hw'
   exact ⟨hI s A B row hs.1 hg' (fun r e => by obtain ⟨h1, o, h2, h3⟩ := hr r e; exact ⟨by rw [hsz] at h1; omega, o, h2, Obj.not_cells_of_walk h3⟩), hk _ _ hs.2.1 rfl, hk _ _ hs.2.2 rfl⟩
 · rintro pre x W ⟨hi, hl, hk⟩ hlen
   have hy := run_yield (P := P) (args := encs x) hl (hps x)
   refine ⟨fn, _, assign, body, hy, roundIn_of_wpIn hfn (wpIn_mono (hround _ rdy pre x W (by omega) hi hlen hl) ?_)⟩
   intro e a' W' he
   cases e with
   | normal =>
    obtain ⟨hko, hbd⟩ := he
    have hl' := hko.same _ _ hl rfl
    have hk' := hko.same _ _ hk rfl
    refine ⟨_, run_beginRound hl' rfl, wpIn_mono hbd ?_⟩
    rintro e a3 W3 ⟨rfl, hk3, hkp, hi3⟩
    have hlt : w.heap.size + 1 < W'.heap.size := (Array.getElem?_eq_some_iff.1 hl').1
    have hl3 := hk3.same _ _ (World.putObj_heap_same (o := .loop { rdy with state := .busy }) hlt) rfl
    have hd3 := hk3.same _ _ ((World.putObj_heap_other (by omega)).trans hk') rfl
    refine ⟨_, _, run_endRound none hl3, .inl ⟨rfl, ⟨hI.putObj _ hi3 (by omega) hl3 rfl, ?_, (World.putObj_heap_other (by omega)).trans hd3⟩, hkp _⟩⟩
    exact World.putObj_heap_same (Array.getElem?_eq_some_iff.1 hl3).1
   | ret => exact he.elim
   | exit id => exact he.elim
   | goto t => exact he.elim
   | panic ch => exact he.elim
   | outgrown => exact he.elim
 · rintro e W2 ⟨⟨v, rfl⟩, (⟨xs, hS, hi, hl, hk⟩ | ⟨pre, _, h⟩)⟩
   · exact ⟨none, _, run_endLoop hl (by simp [rdy]), hdone _ xs _ (Nat.le_refl _) hS (hI.putObj _ hi (by omega) hl rfl) ((World.putObj_heap_other (by omega)).trans hk)⟩
   · exact h.elim
end Go.Proofs.YtflkhkmejnpapaaGreatDoor
