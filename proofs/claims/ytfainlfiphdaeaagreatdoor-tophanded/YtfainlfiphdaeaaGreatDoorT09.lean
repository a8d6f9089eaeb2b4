/- Re5 Fd GoF GoW Re6 -/
import Derived.Test.YtfainlfiphdaeaaGreatDoorT08
import Derived.Test.YtfainlfiphdaeaaGreatDoorT04
import Derived.Test.YtfainlfiphdaeaaGreatDoorRows
import Derived.ProofKit
import Derived.OpenShut
import Derived.ChangeOld
import Derived.ChangeSame
import Derived.Deep.DeepHandedRow
import Derived.Test.YtfainlfiphdaeaaGreatDoorCards
import Derived.Test.YtfainlfiphdaeaaGreatDoorTie
import Derived.Test.YtfainlfiphdaeaaGreatDoorT07
import Derived.Lib.LaidTab
namespace Go.Proofs.YtfainlfiphdaeaaGreatDoor
open Go.RowKit
set_option maxRecDepth 20000
set_option linter.unusedSimpArgs false
noncomputable def revB (z : List Int) : Ev := open Classical in if evAll z then evOf z else evZ
noncomputable def revE (z : List Int) : Int := open Classical in if evAll z then 0 else 3
theorem revB_past (z : List Int) : (revB z).past.length = 8 := by
  unfold revB
  split
  · exact evOf_past z
  · rfl
set_option maxHeartbeats 4000000 in
theorem ReadEvent_any (x : Option Addr) (n c : Nat) (z : List Int) (w : World) (hb : Bytes w x n c z) (hz : ∀ v ∈ z, b8 v) :
    Calls Tryz.prog 70 #[.slice x n c] w fun e w' => e = .returned (.tuple #[.agg (revB z).cells.toArray, .int .i64 (revE z)]) ∧ Below w.heap.size w w' := by
  have hrd : Calls Tryz.prog 124 #[.slice x n c, .func (.func 125) #[] #[]] (w.alloc (.cells evZ.cells.toArray 33)) fun e w' => e = .returned (.tuple #[.agg (revB z).cells.toArray, .int .i64 (revE z)]) ∧ Below (w.heap.size + 1) (w.alloc (.cells evZ.cells.toArray 33)) w' := (readE_any x n c z _ (hb.below ((Below.refl _ _).alloc (Nat.le_refl _) _)) hz).mono fun e w' h => by
    rw [World.size_alloc] at h
    unfold revB revE
    rcases h with ⟨h0, h1, h2⟩ | ⟨h0, h1, h2⟩
    · rw [if_pos h0, if_pos h0]; exact ⟨h1, h2⟩
    · rw [if_neg h0, if_neg h0]; exact ⟨h1, h2⟩
  have hA0 := CellsAt.new w 33 evZ.cells
  have hP := revB_past z
  obtain ⟨E, hE⟩ : ∃ q, revE z = q := ⟨_, rfl⟩
  obtain ⟨U, hU⟩ : ∃ q, revB z = q := ⟨_, rfl⟩
  rw [hU] at hP
  rw [hE, hU] at hrd ⊢
  have hiU := sizeEvZ U hP
  have h1U := ev_one U
  have hlU : evZ.cells.length = U.cells.length := by rw [ev_len U hP]; rfl
  have HP : Veil (U.past.length = 8) := ⟨hP⟩
  have hB0 : Below w.heap.size w (w.alloc (.cells evZ.cells.toArray 33)) := (Below.refl _ _).alloc (Nat.le_refl _) _
  clear hb hz hE hU hP
  go_enter Tryz.func70, Tryz.ntmps70
  go_upto_region 1 with fail
  refine forget (p := fun y => Code.wp _ _ _ _ y) (fun W => CellsAt W w.heap.size 33 evZ.cells ∧ Below w.heap.size w W ∧ Calls Tryz.prog 124 #[.slice x n c, .func (.func 125) #[] #[]] W fun e w' => e = .returned (.tuple #[.agg U.cells.toArray, .int .i64 E]) ∧ Below (w.heap.size + 1) W w') ⟨hA0, hB0, hrd⟩ ?_
  clear hA0 hB0 hrd
  rintro W ⟨hA0, hB0, hrd⟩
  go_wp2_with (first
    | (go_at_call 124; refine hrd.mono ?_; rintro e w1 ⟨rfl, hb1⟩; have hA1 : CellsAt w1 w.heap.size 33 evZ.cells := (by unfold CellsAt at hA0 ⊢; rw [hb1.block _ (by omega)]; exact hA0))
    | (refine wpList_stv rfl 33 _ _ rfl _ rfl rfl hA1 hiU hlU h1U ?_))
  have hA2 := hA1.setRow U.cells
  refine bodyPost_ret (results_evt Tryz.results70 _ rfl rfl hA2 HP.out) rfl ⟨rfl, ?_⟩
  exact below_setRow (hB0.trans (hb1.mono (by omega))) (Nat.le_refl _) _
end Go.Proofs.YtfainlfiphdaeaaGreatDoor
namespace Go.Proofs.YtfainlfiphdaeaaGreatDoor
open Go.RowKit
abbrev in8 (x : Int) : Prop := 0 ≤ x ∧ x ≤ 255
abbrev in32 (x : Int) : Prop := 0 ≤ x ∧ x ≤ 4294967295
structure Wp.In (e : Wp) : Prop where
  too : in8 e.too
  ea : in8 e.ea
  es : in32 e.es
  data : ∀ x ∈ e.data, in8 x
structure Fr.In (F : Fr) : Prop where
  author : in8 F.author
  number : in32 F.number
  ea : in8 F.ea
  es : in32 F.es
  prev : ∀ x ∈ F.prev, in8 x
  mac : ∀ x ∈ F.mac, in8 x
structure FrIn (W : World) (F : Fr) (xw : Option Addr) (lw cw : Nat) (ws : List Wp) (xb : Option Addr) (lb cb : Nat) (body : List Int) : Prop where
  prev : F.prev.length = 32
  mac : F.mac.length = 32
  wraps : F.wraps = .slice xw lw cw
  body_ : F.body = .slice xb lb cb
  hw : WrapsAt W xw lw cw ws
  hb : Bytes W xb lb cb body
  inF : F.In
  inW : ∀ e ∈ ws, e.In
  inB : ∀ x ∈ body, in8 x
end Go.Proofs.YtfainlfiphdaeaaGreatDoor
namespace Go.Proofs.YtfainlfiphdaeaaGreatDoor
open Go.ChangeShapes Go.WideShapes Go.ChangeAt Go.RowKit
set_option maxRecDepth 20000
theorem cellsU8 : Tryz.prog.cellsOf 5 = 1 := by kernel_rfl
theorem open_row {H : Type} {enc : TypeId × Value → H} {P : Program} {W : World} {r : Reach} {base n : Nat} {t e : TypeId} {k : IntKind} {v : Value} {d : DataW H} {p : List MemPlace} (hu : P.underlying t = some (.array n e)) (he : P.underlying e = some (.int k)) (hce : P.cellsOf e = 1) (hct : P.cellsOf t = n)
    (hv : Value.okWide P W r base t v) (h : DataW.Trod enc P W 0 (fun _ => true) true t v d p) :
    ∃ l : List Int, l.length = n ∧ v = .agg (row k l) ∧ ∀ x ∈ l, (Lit.int k x).wf = true := by
  simp only [Value.okWide, hu] at hv
  obtain ⟨cs, rfl, hsz, _⟩ := hv
  rw [hct] at hsz
  obtain ⟨fuel, hf⟩ := h
  obtain ⟨xs, m, _, _, _, hlen, hel⟩ := DataW.trod_array hu hf
  simp only [Value.cells, hce, Nat.mul_one] at hel
  have key : ∀ i (hi : i < cs.size), cs[i] = .int k (intOf cs[i]) ∧ (Lit.int k (intOf cs[i])).wf = true := fun i hi => by
    have h1 := hel i (by omega)
    rw [List.getElem?_eq_getElem (by omega)] at h1
    obtain ⟨a, ea, _, wa⟩ := DataW.trod_int he h1
    have e1 : (cs.toList.drop i).take 1 = [cs[i]] := by
      rw [List.drop_eq_getElem_cons (by simpa using hi)]; simp
    rw [e1] at ea
    have e2 : cs[i] = .int k a := by simpa using ea
    rw [e2]
    exact ⟨rfl, wa⟩
  refine ⟨cs.toList.map intOf, by simp [hsz], ?_, ?_⟩
  · congr 1
    apply Array.ext (by simp [row])
    intro i h1 h2
    have := (key i h1).1
    simp only [row, List.map_map, gA, List.getElem_map, Function.comp, Array.getElem_toList]
    exact this
  · intro x hx
    obtain ⟨c, hc, rfl⟩ := List.mem_map.1 hx
    obtain ⟨i, hi, rfl⟩ := List.mem_iff_getElem.1 hc
    have := (key i (by simpa using hi)).2
    simpa using this
theorem row_of_trod5 {H : Type} {enc : TypeId × Value → H} {P : Program} {W : World} {n fuel : Nat} {t e : TypeId} {k : IntKind} {cs : List Value} {x : DataW H × List MemPlace} (hu : P.underlying t = some (.array n e)) (he : P.underlying e = some (.int k)) (hce : P.cellsOf e = 1)
    (hsz : cs.length = n) (h : DataW.trod enc P W 0 (fun _ => true) true fuel t cs = some x) :
    ∃ l : List Int, l.length = n ∧ cs = l.map (Value.int k) ∧ ∀ x ∈ l, (Lit.int k x).wf = true := by
  obtain ⟨xs, m, _, _, _, hlen, hel⟩ := DataW.trod_array hu h
  simp only [hce, Nat.mul_one] at hel
  have key : ∀ i (hi : i < cs.length), cs[i] = .int k (intOf cs[i]) ∧ (Lit.int k (intOf cs[i])).wf = true := fun i hi => by
    have h1 := hel i (by omega)
    rw [List.getElem?_eq_getElem (by omega)] at h1
    obtain ⟨a, ea, _, wa⟩ := DataW.trod_int he h1
    have e1 : (cs.drop i).take 1 = [cs[i]] := by
      rw [List.drop_eq_getElem_cons hi, List.take_succ_cons, List.take_zero]
    rw [e1] at ea
    have e2 : cs[i] = .int k a := by simpa using ea
    rw [e2]
    exact ⟨rfl, wa⟩
  refine ⟨cs.map intOf, by simp [hsz], ?_, ?_⟩
  · apply List.ext_getElem (by simp)
    intro i h1 h2
    have := (key i h1).1
    simp only [List.map_map, List.getElem_map, Function.comp]
    exact this
  · intro x hx
    obtain ⟨c, hc, rfl⟩ := List.mem_map.1 hx
    obtain ⟨i, hi, rfl⟩ := List.mem_iff_getElem.1 hc
    exact (key i hi).2
theorem slice_of_trod {H : Type} {enc : TypeId × Value → H} {W : World} {fuel : Nat} {cs : List Value} {x : DataW H × List MemPlace} (h : DataW.trod enc Tryz.prog W 0 (fun _ => true) true fuel 41 cs = some x) :
    ∃ y len cap z, cs = [.slice y len cap] ∧ Bytes W y len cap z ∧ (∀ v ∈ z, 0 ≤ v ∧ v ≤ 255) := by
  rcases open_ints Tryz.underlying41 Tryz.underlying5 cellsU8 h with ⟨hcs, _⟩ | ⟨a, l, c, zs, hcs, _, hl, hm, hz, _, hcell, hwz⟩
  · exact ⟨none, 0, 0, [], hcs, bytes_nil W, by simp⟩
  · simp only [if_true] at hz
    refine ⟨some a, l, c, zs.take l, hcs, ⟨by simp; omega, hl, by simpa [maxLen] using hm, (fun h => by cases h), ?_⟩, fun v hv => bounds_u8 (hwz v (List.mem_of_mem_take hv))⟩
    by_cases h0 : l = 0
    · exact .inl h0
    · obtain ⟨b, off, rfl, hc⟩ := ints_at hcell (by omega)
      refine .inr ⟨b, off, rfl, fun j hj => ?_⟩
      have := hc j (by omega)
      rw [List.getElem?_take_of_lt hj]
      rw [List.getD_eq_getElem?_getD] at this
      exact this
theorem exists_list {α : Type} (n : Nat) (p : Nat → α → Prop) (h : ∀ i, i < n → ∃ a, p i a) : ∃ l : List α, l.length = n ∧ ∀ i (hi : i < l.length), p i l[i] := by
  induction n with
  | zero => exact ⟨[], rfl, fun i hi => by cases hi⟩
  | succ n ih =>
    obtain ⟨l, hl, hp⟩ := ih (fun i hi => h i (by omega))
    obtain ⟨a, ha⟩ := h n (by omega)
    refine ⟨l ++ [a], by simp [hl], fun i hi => ?_⟩
    by_cases hi' : i < l.length
    · rw [List.getElem_append_left hi']; exact hp i hi'
    · have e : i = n := by simp at hi; omega
      subst e
      rw [List.getElem_append_right (by omega)]
      simpa [hl] using ha
section
variable {H : Type} {enc : TypeId × Value → H} {W : World} {fuel : Nat} {cs : List Value} {x : DataW H × List MemPlace}
theorem dot_of_trod (h : DataW.trod enc Tryz.prog W 0 (fun _ => true) true fuel 26 cs = some x) : ∃ a s, cs = dotC a s ∧ in8 a ∧ in32 s := by
  obtain ⟨xs, m, _, _, hl, hlen, hfd⟩ := DataW.trod_struct Tryz.underlying26 h
  have hc : Tryz.prog.cellsOf 26 = 2 := by kernel_rfl
  have h8 : Tryz.prog.cellsOf 5 = 1 := by kernel_rfl
  have h32 : Tryz.prog.cellsOf 24 = 1 := by kernel_rfl
  rw [hc] at hl
  have g0 : DataW.trod enc Tryz.prog W 0 (fun _ => true) true m 5 (List.take (Tryz.prog.cellsOf 5) (List.drop 0 cs)) = xs[0]? := hfd 0 _ rfl
  have g1 : DataW.trod enc Tryz.prog W 0 (fun _ => true) true m 24 (List.take (Tryz.prog.cellsOf 24) (List.drop 1 cs)) = xs[1]? := hfd 1 _ rfl
  simp only [List.size_toArray, List.length_cons, List.length_nil, Nat.reduceAdd] at hlen
  rw [h8, List.getElem?_eq_getElem (by omega)] at g0
  rw [h32, List.getElem?_eq_getElem (by omega)] at g1
  obtain ⟨a, ea, _, wa⟩ := DataW.trod_int Tryz.underlying5 g0
  obtain ⟨s, es, _, ws⟩ := DataW.trod_int Tryz.underlying24 g1
  match cs, hl with
  | [c, d], _ =>
    simp at ea es
    subst ea es
    exact ⟨a, s, rfl, bounds_u8 wa, bounds_u32 ws⟩
theorem wrap_of_trod (h : DataW.trod enc Tryz.prog W 0 (fun _ => true) true fuel 73 cs = some x) : ∃ e : Wp, cs = e.cells ∧ e.data.length = 48 ∧ e.In := by
  obtain ⟨xs, m, _, _, hl, hlen, hfd⟩ := DataW.trod_struct Tryz.underlying73 h
  have hc : Tryz.prog.cellsOf 73 = 51 := by kernel_rfl
  have h8 : Tryz.prog.cellsOf 5 = 1 := by kernel_rfl
  have hd : Tryz.prog.cellsOf 26 = 2 := by kernel_rfl
  have h48 : Tryz.prog.cellsOf 71 = 48 := by kernel_rfl
  rw [hc] at hl
  have g0 : DataW.trod enc Tryz.prog W 0 (fun _ => true) true m 5 (List.take (Tryz.prog.cellsOf 5) (List.drop 0 cs)) = xs[0]? := hfd 0 _ rfl
  have g1 : DataW.trod enc Tryz.prog W 0 (fun _ => true) true m 26 (List.take (Tryz.prog.cellsOf 26) (List.drop 1 cs)) = xs[1]? := hfd 1 _ rfl
  have g2 : DataW.trod enc Tryz.prog W 0 (fun _ => true) true m 71 (List.take (Tryz.prog.cellsOf 71) (List.drop 3 cs)) = xs[2]? := hfd 2 _ rfl
  simp only [List.size_toArray, List.length_cons, List.length_nil, Nat.reduceAdd] at hlen
  rw [h8, List.getElem?_eq_getElem (by omega)] at g0
  rw [hd, List.getElem?_eq_getElem (by omega)] at g1
  rw [h48, List.getElem?_eq_getElem (by omega)] at g2
  obtain ⟨a, ea, _, wa⟩ := DataW.trod_int Tryz.underlying5 g0
  obtain ⟨da, dsq, ed, wd⟩ := dot_of_trod g1
  obtain ⟨l, hll, el, wl⟩ := row_of_trod5 Tryz.underlying71 Tryz.underlying5 (by kernel_rfl) (by simp [hl]) g2
  refine ⟨⟨a, da, dsq, l⟩, ?_, hll, ⟨bounds_u8 wa, wd.1, wd.2, fun v hv => bounds_u8 (wl v hv)⟩⟩
  show cs = [.int .u8 a] ++ dotC da dsq ++ l.map (Value.int .u8)
  rw [← ea, ← ed, ← el, List.drop_zero]
  have h1 : cs.take 1 ++ (cs.drop 1).take 2 = cs.take 3 := by rw [← List.take_add]
  rw [h1, List.take_of_length_le (l := cs.drop 3) (by rw [List.length_drop, hl]; decide), List.take_append_drop]
theorem wraps_of_trod (h : DataW.trod enc Tryz.prog W 0 (fun _ => true) true fuel 27 cs = some x) : ∃ y len cap ws, cs = [.slice y len cap] ∧ WrapsAt W y len cap ws ∧ ∀ e ∈ ws, e.In := by
  have hc : Tryz.prog.cellsOf 73 = 51 := by kernel_rfl
  rcases DataW.trod_slice Tryz.underlying27 h with ⟨hcs, _⟩ | ⟨a, len, cap, elems, rest, m, _, hcs, _, _, hl, hm, hlen, hel, _⟩
  · exact ⟨none, 0, 0, [], hcs, ⟨rfl, by omega, by omega, fun _ => rfl, (fun e he => by cases he), .inl rfl⟩, fun e he => by cases he⟩
  · have each : ∀ i, i < len → ∃ e : Wp, (∀ j v, e.cells[j]? = some v → W.cell? ((a.add (i * 51)).add j) = some v) ∧ e.data.length = 48 ∧ e.In := fun i hi => by
      have h1 := hel i hi
      rw [hc, List.getElem?_eq_getElem (by omega), Option.bind_eq_some_iff] at h1
      obtain ⟨ci, hci, hti⟩ := h1
      obtain ⟨e, rfl, h48, hin⟩ := wrap_of_trod hti
      have hs := World.cells?_some hci
      refine ⟨e, fun j v hv => ?_, h48, hin⟩
      have hj : j < 51 := by
        have := (List.getElem?_eq_some_iff.1 hv).1
        have := hs.2.1
        omega
      rw [hs.2.2 j hj]; exact hv
    obtain ⟨ws, hwl, hws⟩ := exists_list len _ each
    refine ⟨some a, len, cap, ws, hcs, ⟨hwl.symm, hl, by simpa [maxLen] using hm, (fun h => by cases h), fun e he => ?_, ?_⟩, fun e he => ?_⟩
    · obtain ⟨i, hi, rfl⟩ := List.mem_iff_getElem.1 he
      exact (hws i hi).2.1
    · by_cases h0 : len = 0
      · exact .inl h0
      · obtain ⟨b, off, spot⟩ := a
        have h00 := (hws 0 (by omega)).1 0 (.int .u8 (ws[0]'(by omega)).too) rfl
        have hspot : spot = none := by
          have := World.cell?_spot h00
          simpa [Addr.add] using this
        subst hspot
        refine .inr ⟨b, off, rfl, fun j hj i v hv => ?_⟩
        have := (hws j hj).1 i v hv
        rw [Addr.add_mid', Addr.add_mid'] at this
        exact this
    · obtain ⟨i, hi, rfl⟩ := List.mem_iff_getElem.1 he
      exact (hws i hi).2.2
theorem frame_of_trod (h : DataW.trod enc Tryz.prog W 0 (fun _ => true) true fuel 43 cs = some x) :
    ∃ (F : Fr) (xw : Option Addr) (lw cw : Nat) (ws : List Wp) (xb : Option Addr) (lb cb : Nat) (body : List Int), cs = F.cells ∧ FrIn W F xw lw cw ws xb lb cb body := by
  obtain ⟨xs, m, _, _, hl, hlen, hfd⟩ := DataW.trod_struct Tryz.underlying43 h
  have hc : Tryz.prog.cellsOf 43 = 70 := by kernel_rfl
  have h8 : Tryz.prog.cellsOf 5 = 1 := by kernel_rfl
  have h32 : Tryz.prog.cellsOf 24 = 1 := by kernel_rfl
  have hd : Tryz.prog.cellsOf 26 = 2 := by kernel_rfl
  have hk : Tryz.prog.cellsOf 23 = 32 := by kernel_rfl
  have hw : Tryz.prog.cellsOf 27 = 1 := by kernel_rfl
  have hb : Tryz.prog.cellsOf 41 = 1 := by kernel_rfl
  rw [hc] at hl
  have g0 : DataW.trod enc Tryz.prog W 0 (fun _ => true) true m 5 (List.take (Tryz.prog.cellsOf 5) (List.drop 0 cs)) = xs[0]? := hfd 0 _ rfl
  have g1 : DataW.trod enc Tryz.prog W 0 (fun _ => true) true m 24 (List.take (Tryz.prog.cellsOf 24) (List.drop 1 cs)) = xs[1]? := hfd 1 _ rfl
  have g2 : DataW.trod enc Tryz.prog W 0 (fun _ => true) true m 26 (List.take (Tryz.prog.cellsOf 26) (List.drop 2 cs)) = xs[2]? := hfd 2 _ rfl
  have g3 : DataW.trod enc Tryz.prog W 0 (fun _ => true) true m 23 (List.take (Tryz.prog.cellsOf 23) (List.drop 4 cs)) = xs[3]? := hfd 3 _ rfl
  have g4 : DataW.trod enc Tryz.prog W 0 (fun _ => true) true m 27 (List.take (Tryz.prog.cellsOf 27) (List.drop 36 cs)) = xs[4]? := hfd 4 _ rfl
  have g5 : DataW.trod enc Tryz.prog W 0 (fun _ => true) true m 41 (List.take (Tryz.prog.cellsOf 41) (List.drop 37 cs)) = xs[5]? := hfd 5 _ rfl
  have g6 : DataW.trod enc Tryz.prog W 0 (fun _ => true) true m 23 (List.take (Tryz.prog.cellsOf 23) (List.drop 38 cs)) = xs[6]? := hfd 6 _ rfl
  simp only [List.size_toArray, List.length_cons, List.length_nil, Nat.reduceAdd] at hlen
  rw [h8, List.getElem?_eq_getElem (by omega)] at g0
  rw [h32, List.getElem?_eq_getElem (by omega)] at g1
  rw [hd, List.getElem?_eq_getElem (by omega)] at g2
  rw [hk, List.getElem?_eq_getElem (by omega)] at g3 g6
  rw [hw, List.getElem?_eq_getElem (by omega)] at g4
  rw [hb, List.getElem?_eq_getElem (by omega)] at g5
  obtain ⟨a, ea, _, wa⟩ := DataW.trod_int Tryz.underlying5 g0
  obtain ⟨n, en, _, wn⟩ := DataW.trod_int Tryz.underlying24 g1
  obtain ⟨da, dsq, ed, wd⟩ := dot_of_trod g2
  obtain ⟨pv, hpv, ep, wp⟩ := row_of_trod5 Tryz.underlying23 Tryz.underlying5 (by kernel_rfl) (by simp [hl]) g3
  obtain ⟨yw, lw, cw, ws, ew, hWs, hWi⟩ := wraps_of_trod g4
  obtain ⟨yb, lb, cb, body, eb, hBo, hBi⟩ := slice_of_trod g5
  obtain ⟨mc, hmc, em, wm⟩ := row_of_trod5 Tryz.underlying23 Tryz.underlying5 (by kernel_rfl) (by simp [hl]) g6
  refine ⟨⟨a, n, da, dsq, pv, .slice yw lw cw, .slice yb lb cb, mc⟩, yw, lw, cw, ws, yb, lb, cb, body, ?_, ⟨hpv, hmc, rfl, rfl, hWs, hBo, ⟨bounds_u8 wa, bounds_u32 wn, wd.1, wd.2, fun v hv => bounds_u8 (wp v hv), fun v hv => bounds_u8 (wm v hv)⟩, hWi, hBi⟩⟩
  show cs = ([.int .u8 a, .int .u32 n] : List Value) ++ dotC da dsq ++ pv.map (Value.int .u8) ++ [.slice yw lw cw, .slice yb lb cb] ++ mc.map (Value.int .u8)
  have e1 : ([.int .u8 a, .int .u32 n] : List Value) = cs.take 2 := by
    rw [show ([.int .u8 a, .int .u32 n] : List Value) = [.int .u8 a] ++ [.int .u32 n] from rfl, ← ea, ← en, List.drop_zero, ← List.take_add]
  have e2 : ([.slice yw lw cw, .slice yb lb cb] : List Value) = (cs.drop 36).take 2 := by
    rw [show ([.slice yw lw cw, .slice yb lb cb] : List Value) = [.slice yw lw cw] ++ [.slice yb lb cb] from rfl, ← ew, ← eb, show 37 = 36 + 1 from rfl, ← List.drop_drop, ← List.take_add]
  rw [e1, e2, ← ed, ← ep, ← em]
  have f1 : cs.take 2 ++ (cs.drop 2).take 2 = cs.take 4 := by rw [← List.take_add]
  have f2 : cs.take 4 ++ (cs.drop 4).take 32 = cs.take 36 := by rw [← List.take_add]
  have f3 : cs.take 36 ++ (cs.drop 36).take 2 = cs.take 38 := by rw [← List.take_add]
  rw [f1, f2, f3, List.take_of_length_le (l := cs.drop 38) (by rw [List.length_drop, hl]; decide), List.take_append_drop]
end
theorem open_frame {H : Type} {enc : TypeId × Value → H} {W : World} {r : Reach} {base : Nat} {v : Value} {d : DataW H} {p : List MemPlace} (hv : Value.okWide Tryz.prog W r base 43 v) (h : DataW.Trod enc Tryz.prog W 0 (fun _ => true) true 43 v d p) :
    ∃ (F : Fr) (xw : Option Addr) (lw cw : Nat) (ws : List Wp) (xb : Option Addr) (lb cb : Nat) (body : List Int), v = .agg F.cells.toArray ∧ FrIn W F xw lw cw ws xb lb cb body := by
  simp only [Value.okWide, Tryz.underlying43] at hv
  obtain ⟨cs, rfl, hsz, _⟩ := hv
  obtain ⟨fuel, hf⟩ := h
  obtain ⟨F, xw, lw, cw, ws, xb, lb, cb, body, e, hF⟩ := frame_of_trod hf
  refine ⟨F, xw, lw, cw, ws, xb, lb, cb, body, ?_, hF⟩
  simp only [Value.cells] at e
  rw [← e]
end Go.Proofs.YtfainlfiphdaeaaGreatDoor
namespace Go.Proofs.YtfainlfiphdaeaaGreatDoor
open Go.ChangeShapes Go.WideShapes Go.ChangeAt Go.RowKit
set_option maxRecDepth 20000
theorem own : ownKnob Tryz.prog.godebug = none := by kernel_rfl
theorem laidOut : laidOutB Tryz.prog = true := by kernel_rfl
theorem gTab : Tryz.prog.globalNamed "escritoire/wire.buckets" = some 0 := by kernel_rfl
theorem gTabType : (Tryz.prog.globals[0]?).map (·.type) = some 180 := by kernel_rfl
theorem cells6 : Tryz.prog.cellsOf 180 = 6 := by kernel_rfl
theorem cellsI64 : Tryz.prog.cellsOf 3 = 1 := by kernel_rfl
theorem table {W : World} (h : laidMetH Tryz.prog [("escritoire/wire.buckets", Rows.laid_escritoire_wire_buckets)] W) : BTab W := fun j v hv => by
  have ht : Lib.TabIs Tryz.prog W "escritoire/wire.buckets" .i64 bTab := Lib.tabIs_of_head (rest := []) gTab gTabType Tryz.underlying180 Tryz.underlying3 cellsI64 cells6 h
  have hj : j < bTab.length := by have := (List.getElem?_eq_some_iff.1 hv).1; simpa using this
  have := ht.cell gTab j hj
  rw [Nat.zero_add, this, ← hv, List.getElem?_map, List.getD_eq_getElem?_getD, List.getElem?_eq_getElem hj]; rfl
end Go.Proofs.YtfainlfiphdaeaaGreatDoor
namespace Go.Proofs.YtfainlfiphdaeaaGreatDoor
open Go.ChangeShapes Go.WideShapes Go.ChangeAt Go.RowKit
set_option maxRecDepth 20000
set_option linter.unusedSimpArgs false
structure Ev.In (e : Ev) : Prop where
  da : in8 e.da
  ds : in32 e.ds
  plen : e.past.length = 8
  past : ∀ x ∈ e.past, in32 x
  kind : in8 e.kind
  pa : in8 e.pa
  ps : in32 e.ps
  char : in8 e.char
  who : in8 e.who
  role : in8 e.role
theorem val4_back (n : Int) (h : in32 n) : val4 (n / 16777216 % 256) (n / 65536 % 256) (n / 256 % 256) (n % 256) = n := by
  have h1 := h.1
  have h2 := h.2
  unfold val4; omega
theorem list8 (l : List Int) (h : l.length = 8) : ∃ p0 p1 p2 p3 p4 p5 p6 p7, l = [p0, p1, p2, p3, p4, p5, p6, p7] := by
  match l, h with
  | [a, b, c, d, e, f, g, i], _ => exact ⟨a, b, c, d, e, f, g, i, rfl⟩
theorem event_back (e : Ev) (h : e.In) : evAll (eventL e) ∧ evOf (eventL e) = e := by
  obtain ⟨da, ds, past, kind, pa, ps, right, char, who, role⟩ := e
  obtain ⟨p0, p1, p2, p3, p4, p5, p6, p7, rfl⟩ := list8 past h.plen
  have hp := h.past
  have hds := val4_back ds h.ds
  have hps := val4_back ps h.ps
  have h0 := val4_back p0 (hp p0 (by simp))
  have h1 := val4_back p1 (hp p1 (by simp))
  have h2 := val4_back p2 (hp p2 (by simp))
  have h3 := val4_back p3 (hp p3 (by simp))
  have h4 := val4_back p4 (hp p4 (by simp))
  have h5 := val4_back p5 (hp p5 (by simp))
  have h6 := val4_back p6 (hp p6 (by simp))
  have h7 := val4_back p7 (hp p7 (by simp))
  have ht : (truthB right == 1) = right := by cases right <;> rfl
  constructor
  · refine ⟨rfl, ?_, fun j hj => ?_⟩
    · show truthB right ≤ 1
      cases right <;> decide
    · have hic : j = 0 ∨ j = 1 ∨ j = 2 ∨ j = 3 ∨ j = 4 ∨ j = 5 ∨ j = 6 ∨ j = 7 ∨ j = 8 ∨ j = 9 ∨ j = 10 := by omega
      rcases hic with rfl | rfl | rfl | rfl | rfl | rfl | rfl | rfl | rfl | rfl | rfl <;> rfl
  · show (⟨da, val4 (ds / 16777216 % 256) (ds / 65536 % 256) (ds / 256 % 256) (ds % 256), [val4 (p0 / 16777216 % 256) (p0 / 65536 % 256) (p0 / 256 % 256) (p0 % 256), val4 (p1 / 16777216 % 256) (p1 / 65536 % 256) (p1 / 256 % 256) (p1 % 256), val4 (p2 / 16777216 % 256) (p2 / 65536 % 256) (p2 / 256 % 256) (p2 % 256), val4 (p3 / 16777216 % 256) (p3 / 65536 % 256) (p3 / 256 % 256) (p3 % 256), val4 (p4 / 16777216 % 256) (p4 / 65536 % 256) (p4 / 256 % 256) (p4 % 256), val4 (p5 / 16777216 % 256) (p5 / 65536 % 256) (p5 / 256 % 256) (p5 % 256), val4 (p6 / 16777216 % 256) (p6 / 65536 % 256) (p6 / 256 % 256) (p6 % 256), val4 (p7 / 16777216 % 256) (p7 / 65536 % 256) (p7 / 256 % 256) (p7 % 256)], kind, pa, val4 (ps / 16777216 % 256) (ps / 65536 % 256) (ps / 256 % 256) (ps % 256), truthB right == 1, char, who, role⟩ : Ev) = _
    rw [hds, hps, h0, h1, h2, h3, h4, h5, h6, h7, ht]
theorem event_in (e : Ev) (h : e.In) : ∀ v ∈ eventL e, b8 v := by
  have q4 : ∀ n : Int, ∀ v ∈ be4 n, b8 v := fun n v hv => by
    unfold be4 at hv
    simp only [List.mem_cons, List.not_mem_nil, or_false] at hv
    rcases hv with rfl | rfl | rfl | rfl <;> constructor <;> omega
  have qp : ∀ l : List Int, ∀ v ∈ pastL l, b8 v := fun l v hv => by
    unfold pastL at hv
    rw [List.mem_flatten] at hv
    obtain ⟨m, hm, hv⟩ := hv
    obtain ⟨n, _, rfl⟩ := List.mem_map.1 hm
    exact q4 n v hv
  intro v hv
  unfold eventL dotL at hv
  simp only [List.mem_append, List.mem_cons, List.not_mem_nil, or_false, List.mem_replicate] at hv
  rcases hv with (((((((rfl | hv) | hv) | rfl) | (rfl | hv)) | rfl) | (rfl | rfl | rfl)) | ⟨_, rfl⟩)
  · exact h.da
  · exact q4 _ v hv
  · exact qp _ v hv
  · exact h.kind
  · exact h.pa
  · exact q4 _ v hv
  · cases e.right <;> exact ⟨by decide, by decide⟩
  · exact h.char
  · exact h.who
  · exact h.role
  · exact ⟨by decide, by decide⟩
end Go.Proofs.YtfainlfiphdaeaaGreatDoor
