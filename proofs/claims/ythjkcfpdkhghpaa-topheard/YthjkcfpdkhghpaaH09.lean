/- GoC Lsd -/
import Derived.Test.YthjkcfpdkhghpaaRows
import Derived.Test.YthjkcfpdkhghpaaH08
import Derived.ProofKit
import Derived.OpenShut
import Derived.ChangeOld
import Derived.Deep.DeepHandedRow
import Derived.Shelf.SlSortCmp.WholeK
import Derived.Test.YthjkcfpdkhghpaaProg
namespace Go.Proofs.Ythjkcfpdkhghpaa
open Go.ChangeShapes Go.WideShapes Go.ChangeAt Go.RowKit
set_option maxRecDepth 20000
set_option linter.unusedSimpArgs false
theorem own : ownKnob Try.prog.godebug = none := by kernel_rfl
theorem laidOut : laidOutB Try.prog = true := by kernel_rfl
theorem addC_mid (b o j : Nat) : (⟨b, o, none⟩ : Addr).add j = ⟨b, o + j, none⟩ := by unfold Addr.add; split <;> simp_all
theorem wfU8 {a : Int} (h : (Lit.int .u8 a).wf = true) : 0 ≤ a ∧ a ≤ 255 := by
  have h : (decide ((0 : Int) ≤ a) && decide (a ≤ 255)) = true := h
  simpa using h
theorem wfU32 {a : Int} (h : (Lit.int .u32 a).wf = true) : 0 ≤ a ∧ a ≤ 4294967295 := by
  have h : (decide ((0 : Int) ≤ a) && decide (a ≤ 4294967295)) = true := h
  simpa using h
theorem row_of_trodC {H : Type} {enc : TypeId × Value → H} {P : Program} {W : World} {n fuel : Nat} {t e : TypeId} {k : IntKind} {cs : List Value} {x : DataW H × List MemPlace} (hu : P.underlying t = some (.array n e)) (he : P.underlying e = some (.int k)) (hce : P.cellsOf e = 1)
    (hsz : cs.length = n) (h : DataW.trod enc P W 0 (fun _ => true) true fuel t cs = some x) :
    ∃ l : List Int, l.length = n ∧ cs = l.map (Value.int k) ∧ ∀ x ∈ l, (Lit.int k x).wf = true := by
  obtain ⟨xs, m, _, _, _, hlen, hel⟩ := DataW.trod_array hu h
  simp only [hce, Nat.mul_one] at hel
  have key : ∀ i (hi : i < cs.length), cs[i] = .int k (intOf cs[i]) ∧ (Lit.int k (intOf cs[i])).wf = true := fun i hi => by
    have h1 := hel i (by omega)
    rw [List.getElem?_eq_getElem (by omega)] at h1
    obtain ⟨a, ea, _, wa⟩ := DataW.trod_int he h1
    have e1 : (cs.drop i).take 1 = [cs[i]] := by
      rw [List.drop_eq_getElem_cons hi, List.take_succ_cons, List.take_zero]
    rw [e1] at ea
    have e2 : cs[i] = .int k a := by simpa using ea
    rw [e2]
    exact ⟨rfl, wa⟩
  refine ⟨cs.map intOf, by simp [hsz], ?_, ?_⟩
  · apply List.ext_getElem (by simp)
    intro i h1 h2
    have := (key i h1).1
    simp only [List.map_map, List.getElem_map, Function.comp]
    exact this
  · intro x hx
    obtain ⟨c, hc, rfl⟩ := List.mem_map.1 hx
    obtain ⟨i, hi, rfl⟩ := List.mem_iff_getElem.1 hc
    exact (key i hi).2
section
variable {H : Type} {enc : TypeId × Value → H} {W : World} {fuel : Nat} {cs : List Value} {x : DataW H × List MemPlace}
theorem dot_of_trodC (h : DataW.trod enc Try.prog W 0 (fun _ => true) true fuel 32 cs = some x) : ∃ a s, cs = dotC a s ∧ (0 ≤ a ∧ a ≤ 255) ∧ 0 ≤ s ∧ s ≤ 4294967295 := by
  obtain ⟨xs, m, _, _, hl, hlen, hfd⟩ := DataW.trod_struct Try.underlying32 h
  have hc : Try.prog.cellsOf 32 = 2 := by kernel_rfl
  have h8 : Try.prog.cellsOf 5 = 1 := by kernel_rfl
  have h32 : Try.prog.cellsOf 30 = 1 := by kernel_rfl
  rw [hc] at hl
  have g0 : DataW.trod enc Try.prog W 0 (fun _ => true) true m 5 (List.take (Try.prog.cellsOf 5) (List.drop 0 cs)) = xs[0]? := hfd 0 _ rfl
  have g1 : DataW.trod enc Try.prog W 0 (fun _ => true) true m 30 (List.take (Try.prog.cellsOf 30) (List.drop 1 cs)) = xs[1]? := hfd 1 _ rfl
  simp only [List.size_toArray, List.length_cons, List.length_nil, Nat.reduceAdd] at hlen
  rw [h8, List.getElem?_eq_getElem (by omega)] at g0
  rw [h32, List.getElem?_eq_getElem (by omega)] at g1
  obtain ⟨a, ea, _, wa⟩ := DataW.trod_int Try.underlying5 g0
  obtain ⟨s, es, _, ws⟩ := DataW.trod_int Try.underlying30 g1
  match cs, hl with
  | [c, d], _ =>
    simp at ea es
    subst ea es
    exact ⟨a, s, rfl, bounds_u8 wa, bounds_u32 ws⟩
end
theorem ev_of_trodC {H : Type} {enc : TypeId × Value → H} {W : World} {fuel : Nat} {l : List Value} {x : DataW H × List MemPlace} (h : DataW.trod enc Try.prog W 0 (fun _ => true) true fuel 38 l = some x) : ∃ E : Ev, l = E.cells ∧ E.Ok := by
  obtain ⟨xs, m, _, _, hl, hlen, hfd⟩ := DataW.trod_struct Try.underlying38 h
  have hc : Try.prog.cellsOf 38 = 17 := by kernel_rfl
  have h8 : Try.prog.cellsOf 5 = 1 := by kernel_rfl
  have hk1 : Try.prog.cellsOf 35 = 1 := by kernel_rfl
  have hr1 : Try.prog.cellsOf 36 = 1 := by kernel_rfl
  have hb1 : Try.prog.cellsOf 4 = 1 := by kernel_rfl
  have hd : Try.prog.cellsOf 32 = 2 := by kernel_rfl
  have hp : Try.prog.cellsOf 34 = 8 := by kernel_rfl
  rw [hc] at hl
  have g0 : DataW.trod enc Try.prog W 0 (fun _ => true) true m 32 (List.take (Try.prog.cellsOf 32) (List.drop 0 l)) = xs[0]? := hfd 0 _ rfl
  have g1 : DataW.trod enc Try.prog W 0 (fun _ => true) true m 34 (List.take (Try.prog.cellsOf 34) (List.drop 2 l)) = xs[1]? := hfd 1 _ rfl
  have g2 : DataW.trod enc Try.prog W 0 (fun _ => true) true m 35 (List.take (Try.prog.cellsOf 35) (List.drop 10 l)) = xs[2]? := hfd 2 _ rfl
  have g3 : DataW.trod enc Try.prog W 0 (fun _ => true) true m 32 (List.take (Try.prog.cellsOf 32) (List.drop 11 l)) = xs[3]? := hfd 3 _ rfl
  have g4 : DataW.trod enc Try.prog W 0 (fun _ => true) true m 4 (List.take (Try.prog.cellsOf 4) (List.drop 13 l)) = xs[4]? := hfd 4 _ rfl
  have g5 : DataW.trod enc Try.prog W 0 (fun _ => true) true m 5 (List.take (Try.prog.cellsOf 5) (List.drop 14 l)) = xs[5]? := hfd 5 _ rfl
  have g6 : DataW.trod enc Try.prog W 0 (fun _ => true) true m 5 (List.take (Try.prog.cellsOf 5) (List.drop 15 l)) = xs[6]? := hfd 6 _ rfl
  have g7 : DataW.trod enc Try.prog W 0 (fun _ => true) true m 36 (List.take (Try.prog.cellsOf 36) (List.drop 16 l)) = xs[7]? := hfd 7 _ rfl
  simp only [List.size_toArray, List.length_cons, List.length_nil, Nat.reduceAdd] at hlen
  rw [hd, List.getElem?_eq_getElem (by omega)] at g0 g3
  rw [hp, List.getElem?_eq_getElem (by omega)] at g1
  rw [hk1, List.getElem?_eq_getElem (by omega)] at g2
  rw [hb1, List.getElem?_eq_getElem (by omega)] at g4
  rw [h8, List.getElem?_eq_getElem (by omega)] at g5 g6
  rw [hr1, List.getElem?_eq_getElem (by omega)] at g7
  obtain ⟨da, dsq, ed, wd⟩ := dot_of_trodC g0
  obtain ⟨pv, hpv, ep, wp⟩ := row_of_trodC Try.underlying34 Try.underlying30 (by kernel_rfl) (by simp [hl]) g1
  obtain ⟨k, ek, _, wk⟩ := DataW.trod_int Try.underlying35 g2
  obtain ⟨pa, psq, ea, wa⟩ := dot_of_trodC g3
  obtain ⟨b, eb, _⟩ := DataW.trod_bool Try.underlying4 g4
  obtain ⟨c, ec, _, wc⟩ := DataW.trod_int Try.underlying5 g5
  obtain ⟨o, eo, _, wo⟩ := DataW.trod_int Try.underlying5 g6
  obtain ⟨ro, er, _, wr⟩ := DataW.trod_int Try.underlying36 g7
  refine ⟨⟨da, dsq, pv, k, pa, psq, b, c, o, ro⟩, ?_, ⟨⟨wd.1, wd.2⟩, hpv, fun x hx => wfU32 (wp x hx), ⟨wa.1, wa.2⟩, wfU8 wk, wfU8 wc, wfU8 wo, wfU8 wr⟩⟩
  show l = dotC da dsq ++ pv.map (Value.int .u32) ++ ([.int .u8 k] ++ dotC pa psq ++ [.bool b, .int .u8 c, .int .u8 o, .int .u8 ro])
  have e4 : ([.bool b, .int .u8 c, .int .u8 o, .int .u8 ro] : List Value) = [.bool b] ++ [.int .u8 c] ++ [.int .u8 o] ++ [.int .u8 ro] := rfl
  rw [e4, ← ed, ← ep, ← ek, ← ea, ← eb, ← ec, ← eo, ← er, List.drop_zero]
  have s : ∀ a n m : Nat, a + n = m → l.take a ++ (l.drop a).take n = l.take m := fun a n m h => by rw [← h, List.take_add]
  simp only [← List.append_assoc]
  rw [s 2 8 10 rfl, s 10 1 11 rfl, s 11 2 13 rfl, s 13 1 14 rfl, s 14 1 15 rfl, s 15 1 16 rfl, s 16 1 17 rfl, List.take_of_length_le (by omega)]
theorem exists_listC {α : Type} (n : Nat) (P : Nat → α → Prop) (h : ∀ i, i < n → ∃ a, P i a) : ∃ l : List α, l.length = n ∧ ∀ i (_ : i < n), ∃ hl : i < l.length, P i (l[i]'hl) := by
  induction n with
  | zero => exact ⟨[], rfl, fun i hi => by omega⟩
  | succ n ih =>
    obtain ⟨l, hl, hp⟩ := ih fun i hi => h i (by omega)
    obtain ⟨a, ha⟩ := h n (by omega)
    refine ⟨l ++ [a], by simp [hl], fun i hi => ?_⟩
    by_cases e : i < n
    · obtain ⟨h1, h2⟩ := hp i e
      exact ⟨by simp; omega, by rw [List.getElem_append_left h1]; exact h2⟩
    · obtain rfl : i = n := by omega
      refine ⟨by simp [hl], ?_⟩
      rw [List.getElem_append_right (by omega)]
      simpa [hl] using ha
structure EvsAt (w : World) (x : Option Addr) (len cap : Nat) (ds : List Ev) : Prop where
  len_eq : len = ds.length
  le : len ≤ cap
  top : cap ≤ 9223372036854775807
  at_ : len = 0 ∨ ∃ b off, x = some ⟨b, off, none⟩ ∧ ∀ j (hj : j < ds.length) (i : Nat) v, ds[j].cells[i]? = some v → w.cell? ⟨b, off + j * 17 + i, none⟩ = some v
  ok : ∀ d ∈ ds, d.Ok
theorem EvsAt.below {w w' : World} {x : Option Addr} {len cap : Nat} {ds : List Ev} (h : EvsAt w x len cap ds) (hb : Below w.heap.size w w') : EvsAt w' x len cap ds :=
  ⟨h.len_eq, h.le, h.top, by
    rcases h.at_ with h0 | ⟨b, off, hx, hc⟩
    · exact .inl h0
    · refine .inr ⟨b, off, hx, fun j hj i v hv => ?_⟩
      have := hc j hj i v hv
      exact (hb.cell (p := ⟨b, off + j * 17 + i, none⟩) (block_lt_of_cell this)).trans this, h.ok⟩
theorem evs_of_trodC {H : Type} {enc : TypeId × Value → H} {W : World} {fuel : Nat} {cs : List Value} {x : DataW H × List MemPlace} (h : DataW.trod enc Try.prog W 0 (fun _ => true) true fuel 22 cs = some x) : ∃ y len cap ds, cs = [.slice y len cap] ∧ EvsAt W y len cap ds := by
  have hc : Try.prog.cellsOf 38 = 17 := by kernel_rfl
  rcases DataW.trod_slice Try.underlying22 h with ⟨hcs, _⟩ | ⟨a, len, cap, elems, rest, m, _, hcs, _, _, hl, hm, hlen, hel, _⟩
  · exact ⟨none, 0, 0, [], hcs, ⟨rfl, by omega, by omega, .inl rfl, (fun e he => by cases he)⟩⟩
  · have each : ∀ i, i < len → ∃ e : Ev, (∀ (j : Nat) v, e.cells[j]? = some v → W.cell? ((a.add (i * 17)).add j) = some v) ∧ e.Ok := fun i hi => by
      have h1 := hel i hi
      rw [hc, List.getElem?_eq_getElem (by omega), Option.bind_eq_some_iff] at h1
      obtain ⟨ci, hci, hti⟩ := h1
      obtain ⟨e, rfl, hin⟩ := ev_of_trodC hti
      have hs := World.cells?_some hci
      refine ⟨e, fun j v hv => ?_, hin⟩
      have hj : j < 17 := by
        have := (List.getElem?_eq_some_iff.1 hv).1
        have := hs.2.1
        omega
      rw [hs.2.2 j hj]; exact hv
    obtain ⟨ds, hdl, hds⟩ := exists_listC len _ each
    refine ⟨some a, len, cap, ds, hcs, ⟨hdl.symm, hl, by simpa [maxLen] using hm, ?_, fun e he => ?_⟩⟩
    · by_cases h0 : len = 0
      · exact .inl h0
      · obtain ⟨b, off, spot⟩ := a
        obtain ⟨hl0, h00, _⟩ := hds 0 (by omega)
        have h00 := h00 0 (.int .u8 (ds[0]).da) rfl
        have hspot : spot = none := by
          have := World.cell?_spot h00
          simpa [Addr.add] using this
        subst hspot
        refine .inr ⟨b, off, rfl, fun j hj i v hv => ?_⟩
        obtain ⟨_, hj2, _⟩ := hds j (by omega)
        have := hj2 i v hv
        rw [addC_mid, addC_mid] at this
        exact this
    · obtain ⟨i, hi, rfl⟩ := List.mem_iff_getElem.1 he
      obtain ⟨_, _, h2⟩ := hds i (by omega)
      exact h2
theorem open_evsC {H : Type} {enc : TypeId × Value → H} {W : World} {x : Option Addr} {len cap : Nat} {d : DataW H} {p : List MemPlace} (h : DataW.Trod enc Try.prog W 0 (fun _ => true) true 22 (.slice x len cap) d p) : ∃ ds, EvsAt W x len cap ds := by
  obtain ⟨fuel, hf⟩ := h
  obtain ⟨y, l, c, ds, hcs, hd⟩ := evs_of_trodC hf
  simp [Value.cells] at hcs
  obtain ⟨rfl, rfl, rfl⟩ := hcs
  exact ⟨ds, hd⟩
noncomputable def laidWorld (os : Os) : World := World.holding Try.prog os ⟨#[], #[], []⟩
theorem laid_none {P : Program} (w : World) : laidMet P [] w := ⟨[], by simp [DataW.LaidVars], by simp, by simp⟩
def sortD_ren : Go.Shelf.Ren := ⟨fun | 6 => 58 | 15 => 63 | 14 => 62 | 28 => 72 | 29 => 73 | 20 => 64 | 21 => 65 | 22 => 66 | 23 => 67 | 24 => 68 | 25 => 69 | 26 => 70 | 27 => 71 | 46 => 74 | 47 => 75 | 48 => 76 | 49 => 77 | 50 => 78 | 57 => 79 | n => n, fun | 22 => 83 | 24 => 32 | 25 => 86 | 3 => 3 | 39 => 90 | 0 => 0 | 53 => 30 | 55 => 114 | 4 => 4 | 46 => 107 | 45 => 106 | 50 => 84 | 5 => 5 | 9 => 9 | 66 => 115 | 70 => 119 | 76 => 121 | 77 => 122 | n => n, fun | n => n⟩
theorem sortD : Go.Proofs.SlLaysF0.n6 Try.prog sortD_ren := {
  mixed := by kernel_rfl
  f6 := ⟨Try.f58.name, by decide, Try.func58.trans (congrArg some (by kernel_rfl))⟩
  f14 := ⟨Try.f62.name, by decide, Try.func62.trans (congrArg some (by kernel_rfl))⟩
  f15 := Try.func63.trans (congrArg some (by kernel_rfl))
  f20 := ⟨Try.f64.name, by decide, Try.func64.trans (congrArg some (by kernel_rfl))⟩
  f21 := ⟨Try.f65.name, by decide, Try.func65.trans (congrArg some (by kernel_rfl))⟩
  f22 := ⟨Try.f66.name, by decide, Try.func66.trans (congrArg some (by kernel_rfl))⟩
  f23 := ⟨Try.f67.name, by decide, Try.func67.trans (congrArg some (by kernel_rfl))⟩
  f24 := ⟨Try.f68.name, by decide, Try.func68.trans (congrArg some (by kernel_rfl))⟩
  f25 := ⟨Try.f69.name, by decide, Try.func69.trans (congrArg some (by kernel_rfl))⟩
  f26 := ⟨Try.f70.name, by decide, Try.func70.trans (congrArg some (by kernel_rfl))⟩
  f27 := ⟨Try.f71.name, by decide, Try.func71.trans (congrArg some (by kernel_rfl))⟩
  f28 := Try.func72.trans (congrArg some (by kernel_rfl))
  f29 := Try.func73.trans (congrArg some (by kernel_rfl))
  f46 := ⟨Try.f74.name, by decide, Try.func74.trans (congrArg some (by kernel_rfl))⟩
  f47 := Try.func75.trans (congrArg some (by kernel_rfl))
  f48 := Try.func76.trans (congrArg some (by kernel_rfl))
  f49 := ⟨Try.f77.name, by decide, Try.func77.trans (congrArg some (by kernel_rfl))⟩
  f50 := ⟨Try.f78.name, by decide, Try.func78.trans (congrArg some (by kernel_rfl))⟩
  f57 := ⟨Try.f79.name, by decide, Try.func79.trans (congrArg some (by kernel_rfl))⟩
  t0 := Try.underlying0
  a0 := Try.isAgg0
  z0 := Try.sizeOf0
  v0 := Try.zeroValue0
  t3 := Try.underlying3
  a3 := Try.isAgg3
  z3 := Try.sizeOf3
  v3 := Try.zeroValue3
  t4 := Try.underlying4
  a4 := Try.isAgg4
  z4 := Try.sizeOf4
  v4 := Try.zeroValue4
  t5 := Try.underlying5
  a5 := Try.isAgg5
  z5 := Try.sizeOf5
  v5 := Try.zeroValue5
  t9 := Try.underlying9
  a9 := Try.isAgg9
  z9 := Try.sizeOf9
  v9 := Try.zeroValue9
  t22 := Try.underlying83
  a22 := Try.isAgg83
  z22 := Try.sizeOf83
  v22 := Try.zeroValue83
  t25 := Try.underlying86
  a25 := Try.isAgg86
  z25 := Try.sizeOf86
  v25 := Try.zeroValue86
  t39 := Try.underlying90
  a39 := Try.isAgg90
  z39 := Try.sizeOf90
  v39 := Try.zeroValue90
  t45 := Try.underlying106
  a45 := Try.isAgg106
  z45 := Try.sizeOf106
  v45 := Try.zeroValue106
  t46 := Try.underlying107
  a46 := Try.isAgg107
  z46 := Try.sizeOf107
  v46 := Try.zeroValue107
  t50 := Try.underlying84
  a50 := Try.isAgg84
  z50 := Try.sizeOf84
  v50 := Try.zeroValue84
  t53 := Try.underlying30
  a53 := Try.isAgg30
  z53 := Try.sizeOf30
  v53 := Try.zeroValue30
  t55 := Try.underlying114
  a55 := Try.isAgg114
  z55 := Try.sizeOf114
  v55 := Try.zeroValue114
  t66 := Try.underlying115
  a66 := Try.isAgg115
  z66 := Try.sizeOf115
  v66 := Try.zeroValue115
  t70 := Try.underlying119
  a70 := Try.isAgg119
  z70 := Try.sizeOf119
  v70 := Try.zeroValue119
  t76 := Try.underlying121
  a76 := Try.isAgg121
  z76 := Try.sizeOf121
  v76 := Try.zeroValue121
  t77 := Try.underlying122
  a77 := Try.isAgg122
  z77 := Try.sizeOf122
  v77 := Try.zeroValue122 }
end Go.Proofs.Ythjkcfpdkhghpaa
