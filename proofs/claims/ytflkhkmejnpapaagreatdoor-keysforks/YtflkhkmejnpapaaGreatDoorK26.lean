/- Kr4 Bt Oi Evm Gate3 -/
import Derived.Test.YtflkhkmejnpapaaGreatDoorK25
import Derived.Test.YtflkhkmejnpapaaGreatDoorK22
import Derived.Test.YtflkhkmejnpapaaGreatDoorK20
import Derived.Test.YtflkhkmejnpapaaGreatDoorK15
import Derived.Maps.AppendAt
import Derived.Laws.AppendOwnNone
import Derived.Great.BuildSlice
import Derived.Test.YtflkhkmejnpapaaGreatDoorK05
import Derived.OrdersHeld
import Derived.Deep.RegionHeld
import Derived.StillTail
namespace Go.Proofs.YtflkhkmejnpapaaGreatDoor
open Go.RowKit
set_option maxRecDepth 20000
set_option linter.unusedSimpArgs false
def epsC (L : List ((Int × Int) × List Int)) : List Value := (L.map fun e => epC e.1.1 e.1.2 e.2).flatten
def OwnE (w : World) (base : Nat) (v : Value) (L : List ((Int × Int) × List Int)) : Prop := w.ownsRow base 72 34 v L.length (epsC L)
def rnewL (own : Int) (seed : List Int) : List ((Int × Int) × List Int) := if own = 0 then [((0, 0), epochL seed)] else []
theorem epC_length (a s : Int) (k : List Int) (hk : k.length = 32) : (epC a s k).length = 34 := by simp [epC, dotC, hk]
set_option maxHeartbeats 4000000 in
theorem rnew_any (own : Int) (seed : List Int) (w : World) (h8 : own < 8) (hs : seed.length = 32) :
    Calls Tryz.prog 11 #[.int .u8 own, .agg (row .u8 seed)] w fun e w' => ∃ H v, e = .returned (.pointer (some ⟨H, 0, none⟩)) ∧ CellsAt w' H 69 (rringC own seed v) ∧ OwnE w' w.heap.size v (rnewL own seed) ∧ w.heap.size ≤ H ∧ Below w.heap.size w w' := by
 have HBU : Veil (∀ wx, (Instr.build 69 #[(0, .int .u8 own), (1, .agg (row .u8 seed))]).run Tryz.prog wx = .ok (.agg (rringC own seed (.slice none 0 0)).toArray) wx) := ⟨fun wx => rring_built own seed hs wx⟩
 have hk0 := Holds.new w .u8 23 seed
 have hB : Below w.heap.size w (w.alloc (.cells (row .u8 seed) 23)) := (Below.refl _ _).alloc (Nat.le_refl _) _
 have hn7 : ¬ 7 < own := by omega
 go_enter Tryz.func11, Tryz.ntmps11
 go_upto_region 3 with fail
 refine forget (p := fun y => Code.wp _ _ _ _ y) (fun W => Below w.heap.size w W ∧ Holds W w.heap.size .u8 23 seed) ⟨hB, hk0⟩ ?_
 clear hB hk0
 rintro W ⟨hB, hk0⟩
 go_upto_region 4 with (first
  | (refine wpList_ld rfl 23 _ rfl _ rfl hk0 Tryz.underlying23 sizeKeyD hs ?_)
  | (refine wpList_bldx rfl 69 _ rfl #[(0, .int .u8 own), (1, .agg (row .u8 seed))] (by first | rfl | kernel_rfl) _ (HBU.out _) ?_))
 have hx1 := CellsAt.new W 69 (rringC own seed (.slice none 0 0))
 have hB1 := hB.alloc hB.size (.cells (rringC own seed (.slice none 0 0)).toArray 69)
 have hk1 := hk0.alloc (.cells (rringC own seed (.slice none 0 0)).toArray 69)
 refine forget (p := fun y => Code.wp _ _ _ _ y) (fun V => Below w.heap.size w V ∧ Holds V w.heap.size .u8 23 seed ∧ CellsAt V W.heap.size 69 (rringC own seed (.slice none 0 0))) ⟨hB1, hk1, hx1⟩ ?_
 have hWl : w.heap.size < W.heap.size := hk0.lt
 clear hx1 hB1 hk1 hB hk0 HBU
 obtain ⟨G, hG⟩ : ∃ q, W.heap.size = q := ⟨_, rfl⟩
 rw [hG] at hWl ⊢
 clear hG
 clear W
 rintro W ⟨hB, hk0, hx⟩
 by_cases h0 : own = 0
 · subst h0
   have hd := rderive_any seed ⟨#[101, 112, 111, 99, 104]⟩ none 0 0 [] W hs (by decide) (bytes_nil W) (by omega)
   have hdl : (epochL seed).length = 32 := derL_length _ _
   rw [show derL seed (wordL ⟨#[101, 112, 111, 99, 104]⟩ ++ []) = epochL seed from rfl] at hd
   have HEB : Veil (∀ wx, (Instr.build 72 #[(0, .agg (dotC 0 0).toArray), (1, .agg (row .u8 (epochL seed)))]).run Tryz.prog wx = .ok (.agg (epC 0 0 (epochL seed)).toArray) wx) := ⟨fun wx => epoch_built 0 0 _ hdl wx⟩
   have hEl := epC_length 0 0 _ hdl
   have HN : Veil (rnewL 0 seed = [((0, 0), epochL seed)] ∧ epsC [((0, 0), epochL seed)] = epC 0 0 (epochL seed)) := ⟨if_pos rfl, by simp [epsC]⟩
   obtain ⟨iw, hiw, hwz, hws, hwb⟩ := info_parts epoch_info
   obtain ⟨EL, hEL⟩ : ∃ q, epochL seed = q := ⟨_, rfl⟩
   rw [hEL] at hd hdl HN HEB hEl
   obtain ⟨EC, hEC⟩ : ∃ q, epC 0 0 EL = q := ⟨_, rfl⟩
   rw [hEC] at HEB hEl HN
   clear hEL hEC
   have HFILL : ∀ (vs : List Value), vs.length = 34 → Instr.fill (fun i => some (i * 34, 34)) ((Array.range (1 * 34)).map ((Value.agg (dotC 0 0 ++ (List.replicate 32 (0 : Int)).map (Value.int .u8)).toArray).cells[· % (Value.agg (dotC 0 0 ++ (List.replicate 32 (0 : Int)).map (Value.int .u8)).toArray).cells.size]!)) [(0, .agg vs.toArray)] = some vs.toArray := fun vs hv => by
    have hz : ((Array.range (1 * 34)).map ((Value.agg (dotC 0 0 ++ (List.replicate 32 (0 : Int)).map (Value.int .u8)).toArray).cells[· % (Value.agg (dotC 0 0 ++ (List.replicate 32 (0 : Int)).map (Value.int .u8)).toArray).cells.size]!)) = (dotC 0 0 ++ (List.replicate 32 (0 : Int)).map (Value.int .u8)).toArray := by kernel_rfl
    rw [hz, fill_cons _ _ vs 0 0 34 _ _ rfl rfl hv (Nat.le_of_ble_eq_true rfl), Instr.fill]
    simp [dotC]
   have HF : Veil (Instr.fill (fun i => some (i * 34, 34)) ((Array.range (1 * 34)).map ((Value.agg (dotC 0 0 ++ (List.replicate 32 (0 : Int)).map (Value.int .u8)).toArray).cells[· % (Value.agg (dotC 0 0 ++ (List.replicate 32 (0 : Int)).map (Value.int .u8)).toArray).cells.size]!)) [(0, .agg EC.toArray)] = some EC.toArray) := ⟨HFILL EC hEl⟩
   have HC33 : Veil (∀ W1, Below W.heap.size W W1 → CellsAt (W1.alloc (.cells EC.toArray 72)) G 69 (rringC 0 seed (.slice none 0 0))) := ⟨fun W1 hb => (hx.congr (hb.block _ hx.lt)).alloc _⟩
   clear HFILL
   go_wp2_with (first
    | (refine wpList_ld rfl 23 _ rfl _ rfl hk0 Tryz.underlying23 sizeKeyD hs ?_)
    | (go_at_call 32; refine hd.mono ?_; rintro e w1 ⟨rfl, hb1⟩; have hx1 := HC33.out w1 hb1; have c33 := hx1.cell 33; rw [rringC_list _ _ _ hs] at c33; have f33 := hx1.frozen 33)
    | (refine wpList_bldx rfl 72 _ rfl #[(0, .agg (dotC 0 0).toArray), (1, .agg (row .u8 EL))] (by first | rfl | kernel_rfl) _ (HEB.out _) ?_)
    | (refine wpList_buildSlice rfl 67 72 1 _ rfl EC.toArray iw _ Tryz.underlying67 hiw hwz (by rw [hws]; decide) (by rw [hws]; decide) (by rw [hws]; refine Eq.trans (congrArg (Instr.fill _ _) (show _ = [(0, Value.agg EC.toArray)] by first | rfl | kernel_rfl)) HF.out) ?_))
   go_ret
   have hB1 := hB.trans (hb1.mono hB.size)
   have hgl : G < w1.heap.size := Nat.lt_of_lt_of_le hx.lt hb1.size
   have hset := hx1.set 33 (.slice (some ⟨w1.heap.size, 0, none⟩) 1 1)
   rw [rringC_set _ _ _ _ hs] at hset
   refine ⟨G, .slice (some ⟨w1.heap.size, 0, none⟩) 1 1, rfl, hset, ?_, by omega, (hB1.alloc hB1.size _).setCell (by show w.heap.size ≤ G; omega) _⟩
   rw [HN.out.1]
   refine ⟨by rw [HN.out.2, hEl]; rfl, .inr ⟨w1.heap.size, 1, EC.toArray, rfl, hB1.size, ?_, Nat.le_refl 1, by simp [maxLen], by simp [hEl], ?_⟩⟩
   · rw [Below.heap_setCell _ _ _ _ (by show w1.heap.size ≠ G; omega)]; exact heap_alloc_new w1 _
   · rw [HN.out.2]; show List.take (1 * 34) EC = EC; exact List.take_of_length_le (by omega)
 · have HN : Veil (rnewL own seed = []) := ⟨if_neg h0⟩
   have h0' : (own == 0) = false := by simpa using h0
   go_wp2
   go_ret
   refine ⟨G, rfl, .slice none 0 0, hx, ?_, by omega, hB⟩
   rw [HN.out]; exact World.ownsRow_nil _ _ _ _
def Tiles (place : Nat → Option (Nat × Nat)) : Nat → List (Nat × Value × List Value) → Prop
 | _, [] => True
 | off, x :: L => place x.1 = some (off, x.2.2.length) ∧ x.2.1.cells = x.2.2.toArray ∧ Tiles place (off + x.2.2.length) L
def tileL (L : List (Nat × Value × List Value)) : List Value := (L.map (·.2.2)).flatten
theorem tileL_cons (x : Nat × Value × List Value) (L : List (Nat × Value × List Value)) : tileL (x :: L) = x.2.2 ++ tileL L := by simp [tileL]
theorem fill_tile (place : Nat → Option (Nat × Nat)) : ∀ (L : List (Nat × Value × List Value)) (done tail : List Value), Tiles place done.length L → tail.length = (tileL L).length →
    Instr.fill place (done ++ tail).toArray (L.map fun x => (x.1, x.2.1)) = some (done ++ tileL L).toArray
 | [], done, tail, _, hl => by
  have : tail = [] := List.length_eq_zero_iff.1 (by simpa [tileL] using hl)
  rw [this]; simp [Instr.fill, tileL]
 | x :: L, done, tail, hT, hl => by
  obtain ⟨h1, h2, h3⟩ := hT
  rw [tileL_cons, List.length_append] at hl
  rw [List.map_cons, fill_cons place (done ++ tail) x.2.2 x.1 done.length x.2.2.length x.2.1 _ h1 h2 rfl (by rw [List.length_append]; omega)]
  rw [List.take_left, List.drop_length_add_append, fill_tile place L (done ++ x.2.2) (tail.drop x.2.2.length) (by rw [List.length_append]; exact h3) (by rw [List.length_drop]; omega), tileL_cons, List.append_assoc]
theorem built_tile {P : Program} {t : TypeId} {fields : Array Field} {n : Nat} {places : List (Nat × Nat)} (hz : (P.info? t).map (fun i => i.zero.map (·.cells.size)) = some (some n)) (hu : P.underlying t = some (.struct fields)) (hp : fields.toList.mapM (fun f => (P.info? f.type).map fun i => (f.offset, i.size)) = some places)
    (L : List (Nat × Value × List Value)) (hT : Tiles (places.toArray[·]?) 0 L) (hn : n = (tileL L).length) (w : World) : (Instr.build t (L.map fun x => (x.1, x.2.1)).toArray).run P w = .ok (.agg (tileL L).toArray) w := by
 refine run_build w _ _ _ ?_
 unfold Program.built
 cases hi : P.info? t with
 | none => simp [hi] at hz
 | some it =>
  cases hq : it.zero with
  | none => simp [hi, hq] at hz
  | some zv =>
   have hs : zv.cells.size = n := by simpa [hi, hq] using hz
   simp only [hu, hp, hq]
   have := fill_tile (places.toArray[·]?) L [] zv.cells.toList hT (by rw [Array.length_toList, hs, hn])
   rw [List.nil_append, List.nil_append] at this
   simpa using this
theorem execBuildT {P : Program} {o : Oper} {ev : Operand → Value} {w : World} {v : Value} (t : TypeId) (parts : Array (Nat × Operand)) (ho : o.op = .build t parts) (vs : Array (Nat × Value)) (hv : (parts.map fun (i, x) => (i, ev x)) = vs) (h : (Instr.build t vs).run P w = .ok v w) :
    (execOp ev o).run P w = .ok (.value v) w := by
 unfold execOp
 simp only [ho, hv, Sem.run_bind, Sem.run_pure, Result.andThen_ok, h]
structure OwnI (w : World) (base : Nat) (t : TypeId) (k : Nat) (v : Value) (L : List (List Value)) : Prop where
 own : w.ownsRow base t k v L.length L.flatten
 each : ∀ c ∈ L, c.length = k
theorem flat_get {k : Nat} (L : List (List Value)) (hL : ∀ c ∈ L, c.length = k) (j : Nat) (hj : j < L.length) : (L.flatten.drop (j * k)).take k = L[j] := by
 induction L generalizing j with
 | nil => simp at hj
 | cons e L ih =>
  have he : e.length = k := hL e (by simp)
  rw [List.flatten_cons]
  cases j with
  | zero => rw [Nat.zero_mul, List.drop_zero]; exact List.take_left' he
  | succ j =>
   have := ih (fun x hx => hL x (by simp [hx])) j (by simpa using hj)
   rw [show (j + 1) * k = e.length + j * k by rw [he, Nat.add_mul]; omega, List.drop_length_add_append, this]
   rfl
theorem OwnI.nil (w : World) (base : Nat) (t : TypeId) (k : Nat) : OwnI w base t k (.slice none 0 0) [] := ⟨World.ownsRow_nil w base t k, by simp⟩
theorem OwnI.isSlice {w : World} {base : Nat} {t : TypeId} {k : Nat} {v : Value} {L : List (List Value)} (h : OwnI w base t k v L) : ∃ x c, v = .slice x L.length c := by
 rcases h.own.2 with ⟨rfl, h0⟩ | ⟨g, cap, cur, rfl, _⟩
 · exact ⟨none, 0, by rw [h0]⟩
 · exact ⟨_, _, rfl⟩
theorem OwnI.congr {w w' : World} {base : Nat} {t : TypeId} {k : Nat} {v : Value} {L : List (List Value)} (h : OwnI w base t k v L) (hk : ∀ g, v.ownBlock = some g → w'.heap[g]? = w.heap[g]?) : OwnI w' base t k v L := by
 refine ⟨⟨h.own.1, ?_⟩, h.each⟩
 rcases h.own.2 with h' | ⟨g, cap, cur, h1, h2, h3, h4⟩
 · exact .inl h'
 · exact .inr ⟨g, cap, cur, h1, h2, (hk g (by rw [h1]; rfl)).trans h3, h4⟩
theorem OwnI.blockLt {w : World} {base : Nat} {t : TypeId} {k : Nat} {v : Value} {L : List (List Value)} (h : OwnI w base t k v L) (g : Nat) (hg : v.ownBlock = some g) : g < w.heap.size ∧ base ≤ g ∧ ∃ cur, w.heap[g]? = some (.cells cur t (0, 0)) := by
 rcases h.own.2 with ⟨rfl, _⟩ | ⟨g', cap, cur, rfl, h2, h3, _⟩
 · cases hg
 · obtain rfl : g' = g := by simpa [Value.ownBlock] using hg
   exact ⟨(Array.getElem?_eq_some_iff.1 h3).1, h2, cur, h3⟩
theorem OwnI.far {w w' : World} {base : Nat} {t : TypeId} {k : Nat} {v : Value} {L : List (List Value)} (h : OwnI w base t k v L) (hb : Below w.heap.size w w') : OwnI w' base t k v L := h.congr fun g hg => hb.block g (h.blockLt g hg).1
theorem OwnI.less {w : World} {base base' : Nat} {t : TypeId} {k : Nat} {v : Value} {L : List (List Value)} (h : OwnI w base t k v L) (hb : base' ≤ base) : OwnI w base' t k v L := by
 refine ⟨⟨h.own.1, ?_⟩, h.each⟩
 rcases h.own.2 with h' | ⟨g, cap, cur, h1, h2, h3⟩
 · exact .inl h'
 · exact .inr ⟨g, cap, cur, h1, by omega, h3⟩
theorem OwnI.at_ {w : World} {base : Nat} {t : TypeId} {k : Nat} {x : Option Addr} {n c : Nat} {L : List (List Value)} (h : OwnI w base t k (.slice x n c) L) (j : Nat) (hj : j < L.length) : ∃ g, x = some ⟨g, 0, none⟩ ∧ n = L.length ∧ w.rangeAt g (j * k) L[j] := by
 rcases h.own.2 with ⟨h1, h0⟩ | ⟨g, cap', cur, h1, _, hg, hc, hm, hs, ht⟩
 · omega
 · cases h1
   refine ⟨g, rfl, rfl, fun i v hv => ?_⟩
   have hi : i < k := by have := (List.getElem?_eq_some_iff.1 hv).1; rw [h.each _ (List.getElem_mem hj)] at this; exact this
   rw [cell_of_row w g _ _ _ _ hg, ← Array.getElem?_toList]
   have e := flat_get L h.each j hj
   rw [← ht] at e
   have hlt : j * k + i < L.length * k := by
    have := Nat.mul_le_mul_right k (show j + 1 ≤ L.length from hj)
    rw [Nat.add_mul] at this; omega
   rw [← e, List.getElem?_take_of_lt hi, List.getElem?_drop, List.getElem?_take_of_lt hlt] at hv
   exact hv
theorem OwnI.src {w : World} {base : Nat} {t : TypeId} {k : Nat} {g n c : Nat} {L : List (List Value)} (h : OwnI w base t k (.slice (some ⟨g, 0, none⟩) n c) L) : n = L.length ∧ ∀ j u, L.flatten[j]? = some u → w.cell? ((⟨g, 0, none⟩ : Addr).add j) = some u := by
 rcases h.own.2 with ⟨h1, h0⟩ | ⟨g', cap', cur, h1, _, hg, hc, hm, hs, ht⟩
 · cases h1
 · cases h1
   refine ⟨rfl, fun j u hu => ?_⟩
   rw [show (⟨g, 0, none⟩ : Addr).add j = ⟨g, 0 + j, none⟩ by unfold Addr.add; split <;> simp_all, cell_of_row w g _ _ _ _ hg, ← Array.getElem?_toList, Nat.zero_add]
   rw [← ht, List.getElem?_take] at hu
   split at hu
   · exact hu
   · cases hu
section
variable {P : Program}
theorem OwnI.app {w : World} {base : Nat} {t : TypeId} {k : Nat} {v : Value} {L : List (List Value)} (h : OwnI w base t k v L) (st ty : TypeId) {z : Value} {by_ : Nat} (hst : P.underlying st = some (.slice t)) (hi : (P.info? t).map (fun i => (i.zero, i.size, i.bytes)) = some (some z, k, by_)) (hz : z.cells.size = k) (hk : 0 < k)
    (c : List Value) (hc : c.length = k) (h1 : ∀ u ∈ c, u.oneCell' = true) (g : Nat) (hg : w.rangeAt g 0 c) (hln : L.length ≤ 1000000) (hby : by_ ≤ 1000) (hbase : base ≤ w.heap.size) :
    ∃ v' w', (Builtin.append_ #[st, st] ty #[v, .slice (some ⟨g, 0, none⟩) 1 1]).run P w = .ok v' w' ∧ OwnI w' base t k v' (L ++ [c]) ∧ w.grownBy w' v.ownBlock ∧ (v'.ownBlock = v.ownBlock ∨ v'.ownBlock = some w.heap.size) := by
 obtain ⟨i0, hi, hz0, hz1, hz2⟩ := info_parts hi
 obtain ⟨v', w', hr, h2, h3, _, h5⟩ := run_append_own_at (P := P) w base st ty t i0 _ k by_ hst hi hz0 hz1 hz2 hz hk v L.length L.flatten h.own ⟨g, 0, none⟩ 1 1 c (by omega) (fun j u hu => by rw [show (⟨g, 0, none⟩ : Addr).add j = ⟨g, 0 + j, none⟩ by unfold Addr.add; split <;> simp_all]; exact hg j u hu) h1 (by simp [maxLen]; omega)
  (by have := Nat.mul_le_mul (show L.length + 1 ≤ 1000001 by omega) hby; omega) hbase
 refine ⟨v', w', hr, ⟨?_, fun x hx => ?_⟩, h3, h5⟩
 · rw [List.length_append, show (L ++ [c]).flatten = L.flatten ++ c by simp]
   exact h2
 · rcases List.mem_append.1 hx with h' | h'
   · exact h.each x h'
   · rw [List.mem_singleton.1 h']; exact hc
theorem wpList_appx {ops : Array Oper} {rest : List Oper} {o : Oper} {a : Act} {w : World} {Q : Exit → Act → World → Prop} (hgd : o.guard = none) (d s : Operand) (dT sT : TypeId) (ho : o.op = .call { callee := .builtin .append, args := #[d, s], argTypes := #[dT, sT] }) (dv sv v : Value) (w' : World) (hd : a.eval d = dv) (hs : a.eval s = sv) (hrun : (Builtin.append_ #[dT, sT] o.type #[dv, sv]).run P w = .ok v w')
    (h : wpList P ops Q rest (a.put o.dst v) w') : wpList P ops Q (o :: rest) a w :=
 wpList_plain hgd fun _ hK => wpx_app d s dT sT ho dv sv v w' hd hs hrun (hK _ _ h)
theorem fill_one {k : Nat} (f : Nat → Value) (cs : List Value) (hc : cs.length = k) : Instr.fill (fun i => some (i * k, k)) ((Array.range (1 * k)).map f) [(0, .agg cs.toArray)] = some cs.toArray := by
 have e : (Array.range (1 * k)).map f = (([] : List Value) ++ (List.range (1 * k)).map f).toArray := by simp [← List.toArray_range]
 rw [e]
 have := fill_tile (fun i => some (i * k, k)) [(0, .agg cs.toArray, cs)] [] ((List.range (1 * k)).map f) ⟨by simp [hc], rfl, trivial⟩ (by simp [tileL, hc])
 simpa [tileL] using this
theorem wp_bs1 {o : Oper} {a : Act} {w : World} {K : Act → World → Prop} {Q : Exit → Act → World → Prop} (t e : TypeId) (x : Operand) (ho : o.op = .buildSlice t 1 #[(0, x)]) (cs : List Value) (hx : a.eval x = .agg cs.toArray) {z : Value} {k by_ : Nat}
    (hu : P.underlying t = some (.slice e)) (hi : (P.info? e).map (fun i => (i.zero, i.size, i.bytes)) = some (some z, k, by_)) (hk : 0 < k) (hk2 : k ≤ 1000) (hc : cs.length = k)
    (h : K (a.put o.dst (.slice (some ⟨w.heap.size, 0, none⟩) 1 1)) (w.alloc (.cells cs.toArray e))) : o.wp P a w K Q := by
 obtain ⟨i0, hi, hz0, hz1, hz2⟩ := info_parts hi
 refine wp_buildSlice t e 1 _ ho cs.toArray i0 z hu hi hz0 (by rw [hz1]; omega) (by rw [hz1]; omega) ?_ h
 rw [hz1]
 simp only [List.map_toArray, List.map_cons, List.map_nil, hx]
 exact fill_one _ cs hc
theorem wpList_bs1 {ops : Array Oper} {rest : List Oper} {o : Oper} {a : Act} {w : World} {Q : Exit → Act → World → Prop} (hgd : o.guard = none) (t e : TypeId) (x : Operand) (ho : o.op = .buildSlice t 1 #[(0, x)]) (cs : List Value) (hx : a.eval x = .agg cs.toArray) {z : Value} {k by_ : Nat}
    (hu : P.underlying t = some (.slice e)) (hi : (P.info? e).map (fun i => (i.zero, i.size, i.bytes)) = some (some z, k, by_)) (hk : 0 < k) (hk2 : k ≤ 1000) (hc : cs.length = k)
    (h : wpList P ops Q rest (a.put o.dst (.slice (some ⟨w.heap.size, 0, none⟩) 1 1)) (w.alloc (.cells cs.toArray e))) : wpList P ops Q (o :: rest) a w :=
 wpList_plain hgd fun _ hK => wp_bs1 t e x ho cs hx hu hi hk hk2 hc (hK _ _ h)
theorem OwnI.one (w : World) (t : TypeId) (k : Nat) (c : List Value) (hc : c.length = k) : OwnI (w.alloc (.cells c.toArray t)) w.heap.size t k (.slice (some ⟨w.heap.size, 0, none⟩) 1 1) [c] := ⟨⟨by simp [hc], .inr ⟨_, _, _, rfl, Nat.le_refl _, heap_alloc_new w _, by simp, by simp [maxLen], by simp [hc], by simp [← hc]⟩⟩, by simpa using hc⟩
theorem OwnI.empty (w : World) (t : TypeId) (k : Nat) : OwnI (w.alloc (.cells #[] t)) w.heap.size t k (.slice (some ⟨w.heap.size, 0, none⟩) 0 0) [] := ⟨⟨by simp, .inr ⟨_, _, _, rfl, Nat.le_refl _, heap_alloc_new w _, by simp, by simp [maxLen], by simp, by simp⟩⟩, by simp⟩
end
theorem wp_stvE {P : Program} {o : Oper} {a : Act} {w : World} {K : Act → World → Prop} {Q : Exit → Act → World → Prop} (ty : TypeId) (x y : Operand) (ho : o.op = .store ty x y)
    (g : Nat) (hx : a.eval x = .pointer (some ⟨g, 0, none⟩)) {t : TypeId} {old cs : List Value} (hy : a.eval y = .agg cs.toArray) (hg : CellsAt w g t old)
    (hi : (P.info? ty).map (·.size) = some cs.length) (hl : old.length = cs.length) (h1 : ∀ v ∈ cs, v.oneCell' = true)
    (h : K (a.put o.dst undef) (w.setRow g cs.toArray)) : o.wp P a w K Q := by
 unfold Oper.wp execOp
 simp only [ho, hx, hy, Instr.storeAt, Instr.sureAddr, Sem.run_bind, Sem.run_pure, Result.andThen_ok, run_storeVar_cells w g ty t old cs hg hl hi h1]
 exact h
theorem wp_meetE {P : Program} {c : Code} {Q : Exit → Act → World → Prop} {a : Act} {w : World} (R : Act → World → Prop) (h1 : Code.wp P c (fun ex a w => match ex with | .normal => R a w | _ => False) a w) (h2 : ∀ a w, R a w → Q .normal a w) : Code.wp P c Q a w :=
 Code.wp_mono (fun e a w q => by cases e <;> first | exact h2 _ _ q | exact q.elim) h1
theorem CellsAt.farM {w w' : World} {g : Nat} {t : TypeId} {cs : List Value} (h : CellsAt w g t cs) (hb : Below w.heap.size w w') : CellsAt w' g t cs := h.congr (hb.block _ h.lt)
theorem CellsAt.wholeM {w : World} {g : Nat} {t : TypeId} {cs : List Value} (h : CellsAt w g t cs) : w.rangeAt g 0 cs := fun j v hv => by rw [Nat.zero_add, h.cell]; exact hv
open Go Go.RowKit
section
variable {P : Program} {ops : Array Oper} {Q : Exit → Act → World → Prop} {md : Region.Mode} {T S : World → Prop} {D : Nat}
def wpAnyT (P : Program) (md : Region.Mode) (ops : Array Oper) (Q : Exit → Act → World → Prop) (T S : World → Prop) (D : Nat) : Nat → Array Bool → Act → World → Prop
 | 0, listed, a, w => Region.ready md ops listed = [] ∧ Q .normal a w
 | fuel + 1, listed, a, w =>
  (Region.ready md ops listed = [] → Q .normal a w) ∧
  ∀ i ∈ Region.ready md ops listed, wpOp P ops Q i (fun a' w' => (T w' ∧ ((listed.setIfInBounds i true).getD D true = false → S w')) ∧ wpAnyT P md ops Q T S D fuel (listed.setIfInBounds i true) a' w') a w
theorem wpAny_of_gateT : ∀ (fuel : Nat) (listed : Array Bool) (a : Act) (w : World), wpAnyT P md ops Q T S D fuel listed a w → wpAny P md ops Q fuel listed a w
 | 0, _, _, _, h => h
 | fuel + 1, _, _, _, h => ⟨h.1, fun i hi => wpOp_mono (fun a' w' h' => wpAny_of_gateT fuel _ a' w' h'.2) (h.2 i hi)⟩
theorem wpAnyT_first {i : Nat} {oi : Oper} {v : Value} {U : World → Prop} (hi : ops[i]? = some oi) (hsel : ∀ (j : Nat) (o : Oper) cs b, ops[j]? = some o → o.op ≠ .select cs b)
    (hQ : ∀ c a w, Q (.panic c) (a.put oi.dst v) w → Q (.panic c) a w) (hD : i ≠ D)
    (hU : (∀ w, T w → U w) ∨ ((∀ w, S w → U w) ∧ ∃ oD, ops[D]? = some oD ∧ ∃ e ∈ oD.after, Region.binds md e = true ∧ e.on = i)) :
    ∀ (fuel : Nat) (listed : Array Bool) (a : Act) (w : World),
     (∀ j oj, ops[j]? = some oj → j ≠ i → listed.getD j true = false → (∀ e ∈ oj.after, Region.binds md e = true → e.on ≠ i) → oi.apart ops oj = true) →
     i ∈ Region.ready md ops listed → ((∀ w, T w → U w) ∨ listed.getD D true = false) → YieldsIf P ops U oi v a → T w → (listed.getD D true = false → S w) →
     wpAnyT P md ops Q T S D fuel (listed.setIfInBounds i true) (a.put oi.dst v) w → wpAnyT P md ops Q T S D (fuel + 1) listed a w := by
 have hUw : ∀ (listed : Array Bool) w, ((∀ w, T w → U w) ∨ listed.getD D true = false) → T w → (listed.getD D true = false → S w) → U w := fun listed w h1 h0 h2 => by
  rcases h1 with h | h
  · exact h w h0
  · rcases hU with h' | ⟨h', _⟩
    · exact h' w h0
    · exact h' w (h2 h)
 intro fuel
 induction fuel with
 | zero =>
  intro listed a w _ hr hg hy hT hS H
  refine ⟨fun h => (by rw [h] at hr; cases hr), fun j hj => ?_⟩
  by_cases hji : j = i
  · subst hji; exact hy.wpOp hi (hUw listed w hg hT hS) ⟨⟨hT, fun h => hS (by rwa [getD_set_ne true hD] at h)⟩, H⟩
  · have := ready_mono hj hji
    rw [H.1] at this
    cases this
 | succ fuel ih =>
  intro listed a w hfree hr hg hy hT hS H
  refine ⟨fun h => (by rw [h] at hr; cases hr), fun j hj => ?_⟩
  by_cases hji : j = i
  · subst hji; exact hy.wpOp hi (hUw listed w hg hT hS) ⟨⟨hT, fun h => hS (by rwa [getD_set_ne true hD] at h)⟩, H⟩
  · have h1 := H.2 j (ready_mono hj hji)
    obtain ⟨hjun, oj, hoj, hall⟩ := mem_ready.1 hj
    have hnot : ∀ e ∈ oj.after, Region.binds md e = true → e.on ≠ i := fun e he hb heq => by
     have h1 := hall e he hb
     have h0 := (mem_ready.1 hr).1
     rw [heq] at h1
     rcases Nat.lt_or_ge i listed.size with h' | h'
     · simp [h'] at h0 h1; rw [h0] at h1; cases h1
     · simp [Array.getElem?_eq_none h'] at h1
    have h2 := wpOp_putIf hoj (hfree j oj hoj hji hjun hnot) (fun cs b => hsel i oi cs b hi) (fun cs b => hsel j oj cs b hoj) hQ hy h1
    have hfree' : ∀ k ok, ops[k]? = some ok → k ≠ i → (listed.setIfInBounds j true).getD k true = false →
        (∀ e ∈ ok.after, Region.binds md e = true → e.on ≠ i) → oi.apart ops ok = true := fun k ok hk hki hun hno => by
     refine hfree k ok hk hki ?_ hno
     by_cases hjk : j = k
     · subst hjk; exact hjun
     · rw [getD_set_ne true hjk] at hun; exact hun
    have hg' : (∀ w, T w → U w) ∨ (listed.setIfInBounds j true).getD D true = false := by
     rcases hU with h | ⟨_, oD, hoD, e, he, hb, hon⟩
     · exact .inl h
     · rcases hg with h | h
       · exact .inl h
       · refine .inr ?_
         have hjD : j ≠ D := fun e' => by
          subst e'
          obtain rfl : oj = oD := Option.some.inj (hoj.symm.trans hoD)
          exact hnot e he hb hon
         rw [getD_set_ne true hjD]; exact h
    refine wpOp_mono (fun a' w' h3 => ?_) h2
    have hS' : (listed.setIfInBounds j true).getD D true = false → S w' := fun h => h3.2.1.2 (by rw [Array.setIfInBounds_comm _ _ (Ne.symm hji), getD_set_ne true hD]; exact h)
    refine ⟨⟨h3.2.1.1, hS'⟩, ih (listed.setIfInBounds j true) a' w' hfree' (ready_mono hr (Ne.symm hji)) hg' h3.1 h3.2.1.1 hS' ?_⟩
    rw [Array.setIfInBounds_comm _ _ hji]
    exact h3.2.2
theorem wpAnyT_held {i : Nat} {oi : Oper} {v : Value} {fuel : Nat} {listed : Array Bool} {a : Act} {w : World} (hi : ops[i]? = some oi)
    (hs : Region.noSelect ops = true) (hf : Region.free md ops listed i = true) (hr : (Region.ready md ops listed).contains i = true)
    (hQ : ∀ c a w, Q (.panic c) (a.put oi.dst v) w → Q (.panic c) a w) (hD : (i == D) = false) (hT : T w) (hS : listed.getD D true = false → S w) (hw : Region.wanted oi (yielded ops a.tmps) = true)
    (hy : ∀ w, T w → (execOp a.eval oi).run P w = .ok (.value v) w)
    (h : wpAnyT P md ops Q T S D fuel (listed.setIfInBounds i true) (a.put oi.dst v) w) : wpAnyT P md ops Q T S D (fuel + 1) listed a w :=
 wpAnyT_first (U := T) hi (Region.noSelect_spec hs) hQ (by simpa using hD) (.inl fun _ h => h) fuel listed a w (Region.free_spec hi hf) (by simpa using hr) (.inl fun _ h => h) (.inl ⟨hw, hy⟩) hT hS h
theorem gh (i : Nat) {oi : Oper} (v : Value) {fuel : Nat} {listed : Array Bool} {a : Act} {w : World} (hT : T w) (hS : S w)
    (hy : ∀ w, T w → (execOp a.eval oi).run P w = .ok (.value v) w)
    (h : wpAnyT P md ops Q T S D fuel (listed.setIfInBounds i true) (a.put oi.dst v) w) (hi : ops[i]? = some oi := by exact rfl)
    (hb : (Region.noSelect ops && (Region.free md ops listed i && ((Region.ready md ops listed).contains i && (!(i == D) && Region.wanted oi (yielded ops a.tmps))))) = true := by kernel_rfl)
    (hQ : ∀ c a w, Q (.panic c) (a.put oi.dst v) w → Q (.panic c) a w := by exact fun _ _ _ h => h) : wpAnyT P md ops Q T S D (fuel + 1) listed a w := by
 rw [Bool.and_eq_true, Bool.and_eq_true, Bool.and_eq_true, Bool.and_eq_true, Bool.not_eq_true'] at hb
 exact wpAnyT_held hi hb.1 hb.2.1 hb.2.2.1 hQ hb.2.2.2.1 hT (fun _ => hS) hb.2.2.2.2 hy h
theorem ghA (i : Nat) {oi : Oper} (v : Value) {fuel : Nat} {listed : Array Bool} {a : Act} {w : World} (hT : T w) (hS : S w)
    (h : wpAnyT P md ops Q T S D fuel (listed.setIfInBounds i true) (a.put oi.dst v) w) (hi : ops[i]? = some oi := by exact rfl)
    (hb : (Region.noSelect ops && (Region.free md ops listed i && ((Region.ready md ops listed).contains i && (!(i == D) && Region.wanted oi (yielded ops a.tmps))))) = true := by kernel_rfl)
    (hQ : ∀ c a w, Q (.panic c) (a.put oi.dst v) w → Q (.panic c) a w := by exact fun _ _ _ h => h)
    (hy : ∀ w, T w → (execOp a.eval oi).run P w = .ok (.value v) w := by intro wx hSw; go_split_ands; go_simp; try with_reducible rfl) : wpAnyT P md ops Q T S D (fuel + 1) listed a w := by
 rw [Bool.and_eq_true, Bool.and_eq_true, Bool.and_eq_true, Bool.and_eq_true, Bool.not_eq_true'] at hb
 exact wpAnyT_held hi hb.1 hb.2.1 hb.2.2.1 hQ hb.2.2.2.1 hT (fun _ => hS) hb.2.2.2.2 hy h
theorem wpAnyT_read {i : Nat} {oi : Oper} {v : Value} {fuel : Nat} {listed : Array Bool} {a : Act} {w : World} (hi : ops[i]? = some oi)
    (hs : Region.noSelect ops = true) (hf : Region.free md ops listed i = true) (hr : (Region.ready md ops listed).contains i = true)
    (hQ : ∀ c a w, Q (.panic c) (a.put oi.dst v) w → Q (.panic c) a w) (hD : (i == D) = false) (hwait : Region.waitsFor md ops D i = true) (hg : listed.getD D true = false) (hT : T w) (hS : S w) (hw : Region.wanted oi (yielded ops a.tmps) = true)
    (hy : ∀ w, S w → (execOp a.eval oi).run P w = .ok (.value v) w)
    (h : wpAnyT P md ops Q T S D fuel (listed.setIfInBounds i true) (a.put oi.dst v) w) : wpAnyT P md ops Q T S D (fuel + 1) listed a w :=
 wpAnyT_first (U := S) hi (Region.noSelect_spec hs) hQ (by simpa using hD) (.inr ⟨fun _ h => h, by
  obtain ⟨oD, h1, e, h2, h3, h4⟩ := Region.waitsFor_spec hwait
  exact ⟨oD, h1, e, h2, h3, h4⟩⟩) fuel listed a w (Region.free_spec hi hf) (by simpa using hr) (.inr hg) (.inl ⟨hw, hy⟩) hT (fun _ => hS) h
theorem wpAnyT_one {i : Nat} {o : Oper} {fuel : Nat} {listed : Array Bool} {a : Act} {w : World} (hi : ops[i]? = some o) (hr : Region.ready md ops listed = [i]) (hw : Region.wanted o (yielded ops a.tmps) = true)
    (h : ∀ K' : Act → World → Prop, Shut (∀ a w, T w → ((listed.setIfInBounds i true).getD D true = false → S w) → wpAnyT P md ops Q T S D fuel (listed.setIfInBounds i true) a w → K' a w) → Oper.wp P o a w K' Q) : wpAnyT P md ops Q T S D (fuel + 1) listed a w :=
 ⟨fun h0 => (by rw [hr] at h0; cases h0), fun j hj => by
  rw [hr] at hj
  obtain rfl : j = i := by simpa using hj
  refine wpOp_step hi (fun K' hK => ?_)
  rw [if_pos hw]
  exact h K' (fun a w h0 h1 h2 => hK a w ⟨⟨h0, h1⟩, h2⟩)⟩
theorem wpAnyT_done {listed : Array Bool} {a : Act} {w : World} (hr : Region.ready md ops listed = []) (h : Q .normal a w) :
    ∀ fuel, wpAnyT P md ops Q T S D fuel listed a w
 | 0 => ⟨hr, h⟩
 | _ + 1 => ⟨fun _ => h, by rw [hr]; simp⟩
theorem wp_region_gateT {id : Nat} {a : Act} {w : World} (T S : World → Prop) (D : Nat) (hm : P.follows .mixedOrders = true)
    (h : wpAnyT P .any ops Q T S D ops.size (Array.replicate ops.size false) a w.drew) : (Code.region id ops true).wp P Q a w :=
 wp_region_any hm (wpAny_of_gateT _ _ _ _ h)
end
end Go.Proofs.YtflkhkmejnpapaaGreatDoor
