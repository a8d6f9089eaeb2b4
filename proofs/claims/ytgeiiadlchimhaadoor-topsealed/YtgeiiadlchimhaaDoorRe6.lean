/- Events, as bytes and back; an event that came in; two that are the same. -/
import Derived.Test.YtgeiiadlchimhaaDoorMRe4Re5
import Derived.Test.YtgeiiadlchimhaaDoorGoW
namespace Go.Proofs.YtgeiiadlchimhaaDoor
open Go.ChangeShapes Go.WideShapes Go.ChangeAt Go.RowKit
set_option maxRecDepth 20000
set_option linter.unusedSimpArgs false

structure Ev.In (e : Ev) : Prop where
  da : in8 e.da
  ds : in32 e.ds
  plen : e.past.length = 8
  past : ∀ x ∈ e.past, in32 x
  kind : in8 e.kind
  pa : in8 e.pa
  ps : in32 e.ps
  char : in8 e.char
  who : in8 e.who
  role : in8 e.role
theorem val4_back (n : Int) (h : in32 n) : val4 (n / 16777216 % 256) (n / 65536 % 256) (n / 256 % 256) (n % 256) = n := by
  have h1 := h.1
  have h2 := h.2
  unfold val4; omega
theorem be4_val (a b c d : Int) (ha : b8 a) (hb : b8 b) (hc : b8 c) (hd : b8 d) : be4 (val4 a b c d) = [a, b, c, d] := by
  have h1 := ha.1; have h2 := ha.2; have h3 := hb.1; have h4 := hb.2; have h5 := hc.1; have h6 := hc.2; have h7 := hd.1; have h8 := hd.2
  unfold be4 val4
  congr 1
  · omega
  congr 1
  · omega
  congr 1
  · omega
  congr 1
  omega
theorem list8 (l : List Int) (h : l.length = 8) : ∃ p0 p1 p2 p3 p4 p5 p6 p7, l = [p0, p1, p2, p3, p4, p5, p6, p7] := by
  match l, h with
  | [a, b, c, d, e, f, g, i], _ => exact ⟨a, b, c, d, e, f, g, i, rfl⟩
theorem event_back (e : Ev) (h : e.In) : evAll (eventL e) ∧ evOf (eventL e) = e := by
  obtain ⟨da, ds, past, kind, pa, ps, right, char, who, role⟩ := e
  obtain ⟨p0, p1, p2, p3, p4, p5, p6, p7, rfl⟩ := list8 past h.plen
  have hp := h.past
  have hds := val4_back ds h.ds
  have hps := val4_back ps h.ps
  have h0 := val4_back p0 (hp p0 (by simp))
  have h1 := val4_back p1 (hp p1 (by simp))
  have h2 := val4_back p2 (hp p2 (by simp))
  have h3 := val4_back p3 (hp p3 (by simp))
  have h4 := val4_back p4 (hp p4 (by simp))
  have h5 := val4_back p5 (hp p5 (by simp))
  have h6 := val4_back p6 (hp p6 (by simp))
  have h7 := val4_back p7 (hp p7 (by simp))
  have ht : (truthB right == 1) = right := by cases right <;> rfl
  constructor
  · refine ⟨rfl, ?_, fun j hj => ?_⟩
    · show truthB right ≤ 1
      cases right <;> decide
    · have hic : j = 0 ∨ j = 1 ∨ j = 2 ∨ j = 3 ∨ j = 4 ∨ j = 5 ∨ j = 6 ∨ j = 7 ∨ j = 8 ∨ j = 9 ∨ j = 10 := by omega
      rcases hic with rfl | rfl | rfl | rfl | rfl | rfl | rfl | rfl | rfl | rfl | rfl <;> rfl
  · show (⟨da, val4 (ds / 16777216 % 256) (ds / 65536 % 256) (ds / 256 % 256) (ds % 256), [val4 (p0 / 16777216 % 256) (p0 / 65536 % 256) (p0 / 256 % 256) (p0 % 256), val4 (p1 / 16777216 % 256) (p1 / 65536 % 256) (p1 / 256 % 256) (p1 % 256), val4 (p2 / 16777216 % 256) (p2 / 65536 % 256) (p2 / 256 % 256) (p2 % 256), val4 (p3 / 16777216 % 256) (p3 / 65536 % 256) (p3 / 256 % 256) (p3 % 256), val4 (p4 / 16777216 % 256) (p4 / 65536 % 256) (p4 / 256 % 256) (p4 % 256), val4 (p5 / 16777216 % 256) (p5 / 65536 % 256) (p5 / 256 % 256) (p5 % 256), val4 (p6 / 16777216 % 256) (p6 / 65536 % 256) (p6 / 256 % 256) (p6 % 256), val4 (p7 / 16777216 % 256) (p7 / 65536 % 256) (p7 / 256 % 256) (p7 % 256)], kind, pa, val4 (ps / 16777216 % 256) (ps / 65536 % 256) (ps / 256 % 256) (ps % 256), truthB right == 1, char, who, role⟩ : Ev) = _
    rw [hds, hps, h0, h1, h2, h3, h4, h5, h6, h7, ht]
theorem seg1 (z : List Int) (o : Nat) (h : o < z.length) : [at1 z o] = (z.drop o).take 1 := by
  rw [List.drop_eq_getElem_cons h, List.take_succ_cons, List.take_zero]
  unfold at1
  rw [List.getElem?_eq_getElem h]; rfl
theorem seg4 (z : List Int) (hz : ∀ v ∈ z, b8 v) (o : Nat) (h : o + 4 ≤ z.length) : be4 (at4 z o) = (z.drop o).take 4 := by
  have g : ∀ j, b8 (at1 z j) := fun j => b8_get hz j
  unfold at4
  rw [be4_val _ _ _ _ (g _) (g _) (g _) (g _)]
  have s1 := seg1 z o (by omega)
  have s2 := seg1 z (o + 1) (by omega)
  have s3 := seg1 z (o + 2) (by omega)
  have s4 := seg1 z (o + 3) (by omega)
  rw [show ([at1 z o, at1 z (o + 1), at1 z (o + 2), at1 z (o + 3)] : List Int) = [at1 z o] ++ [at1 z (o + 1)] ++ [at1 z (o + 2)] ++ [at1 z (o + 3)] from rfl, s1, s2, s3, s4]
  have q : ∀ a n : Nat, (z.drop o).take a ++ (z.drop (o + a)).take n = (z.drop o).take (a + n) := fun a n => by rw [← List.drop_drop, List.take_add]
  rw [q 1 1, q 2 1, q 3 1]
set_option maxHeartbeats 800000 in
theorem event_forth (z : List Int) (hz : ∀ v ∈ z, b8 v) (h : evAll z) : eventL (evOf z) = z := by
  obtain ⟨h1, h2, h3⟩ := h
  have g43 := (b8_get hz 43).1
  have ht : truthB (at1 z 43 == 1) = at1 z 43 := by
    have g1 : 0 ≤ at1 z 43 := g43
    have hc : at1 z 43 = 0 ∨ at1 z 43 = 1 := by omega
    rcases hc with hc | hc <;> rw [hc] <;> rfl
  have hp : pastL (pastZ z) = be4 (at4 z 5) ++ (be4 (at4 z 9) ++ (be4 (at4 z 13) ++ (be4 (at4 z 17) ++ (be4 (at4 z 21) ++ (be4 (at4 z 25) ++ (be4 (at4 z 29) ++ (be4 (at4 z 33) ++ []))))))) := rfl
  have hE : eventL (evOf z) = ([at1 z 0] ++ be4 (at4 z 1)) ++ pastL (pastZ z) ++ [at1 z 37] ++ ([at1 z 38] ++ be4 (at4 z 39)) ++ [truthB (at1 z 43 == 1)] ++ ([at1 z 44] ++ [at1 z 45] ++ [at1 z 46]) ++ List.replicate 11 0 := rfl
  have hzr : List.replicate 11 0 = (z.drop 47).take 11 := by
    apply List.ext_getElem?
    intro i
    by_cases hi : i < 11
    · rw [List.getElem?_replicate_of_lt hi, List.getElem?_take_of_lt hi, List.getElem?_drop, List.getElem?_eq_getElem (by omega)]
      have := h3 i hi
      unfold at1 at this
      rw [List.getElem?_eq_getElem (by omega)] at this
      exact congrArg some this.symm
    · rw [List.getElem?_eq_none (by simp; omega), List.getElem?_eq_none (by rw [List.length_take]; omega)]
  rw [hE, hp, ht, hzr, seg1 z 0 (by omega), seg1 z 37 (by omega), seg1 z 38 (by omega), seg1 z 43 (by omega), seg1 z 44 (by omega), seg1 z 45 (by omega), seg1 z 46 (by omega), seg4 z hz 1 (by omega), seg4 z hz 5 (by omega), seg4 z hz 9 (by omega), seg4 z hz 13 (by omega), seg4 z hz 17 (by omega), seg4 z hz 21 (by omega), seg4 z hz 25 (by omega), seg4 z hz 29 (by omega), seg4 z hz 33 (by omega), seg4 z hz 39 (by omega)]
  have s : ∀ a n m : Nat, a + n = m → z.take a ++ (z.drop a).take n = z.take m := fun a n m h => by rw [← h, List.take_add]
  simp only [List.append_nil, ← List.append_assoc]
  rw [List.drop_zero, s 1 4 5 rfl, s 5 4 9 rfl, s 9 4 13 rfl, s 13 4 17 rfl, s 17 4 21 rfl, s 21 4 25 rfl, s 25 4 29 rfl, s 29 4 33 rfl, s 33 4 37 rfl, s 37 1 38 rfl, s 38 1 39 rfl, s 39 4 43 rfl, s 43 1 44 rfl, s 44 1 45 rfl, s 45 1 46 rfl, s 46 1 47 rfl, s 47 11 58 rfl, List.take_of_length_le (by omega)]
theorem event_in (e : Ev) (h : e.In) : ∀ v ∈ eventL e, b8 v := by
  have q4 : ∀ n : Int, ∀ v ∈ be4 n, b8 v := fun n v hv => by
    unfold be4 at hv
    simp only [List.mem_cons, List.not_mem_nil, or_false] at hv
    rcases hv with rfl | rfl | rfl | rfl <;> constructor <;> omega
  have qp : ∀ l : List Int, ∀ v ∈ pastL l, b8 v := fun l v hv => by
    unfold pastL at hv
    rw [List.mem_flatten] at hv
    obtain ⟨m, hm, hv⟩ := hv
    obtain ⟨n, _, rfl⟩ := List.mem_map.1 hm
    exact q4 n v hv
  intro v hv
  unfold eventL dotL at hv
  simp only [List.mem_append, List.mem_cons, List.not_mem_nil, or_false, List.mem_replicate] at hv
  rcases hv with (((((((rfl | hv) | hv) | rfl) | (rfl | hv)) | rfl) | (rfl | rfl | rfl)) | ⟨_, rfl⟩)
  · exact h.da
  · exact q4 _ v hv
  · exact qp _ v hv
  · exact h.kind
  · exact h.pa
  · exact q4 _ v hv
  · cases e.right <;> exact ⟨by decide, by decide⟩
  · exact h.char
  · exact h.who
  · exact h.role
  · exact ⟨by decide, by decide⟩
theorem open_event {H : Type} {enc : TypeId × Value → H} {W : World} {r : Reach} {base : Nat} {v : Value} {d : DataW H} {p : List MemPlace} (hv : Value.okWide Tryd.prog W r base 34 v) (h : DataW.Trod enc Tryd.prog W 0 (fun _ => true) true 34 v d p) :
    ∃ E : Ev, v = .agg E.cells.toArray ∧ E.In := by
  simp only [Value.okWide, Tryd.underlying34] at hv
  obtain ⟨cs, rfl, hsz, _⟩ := hv
  obtain ⟨fuel, hf⟩ := h
  obtain ⟨xs, m, _, _, hl, hlen, hfd⟩ := DataW.trod_struct Tryd.underlying34 hf
  simp only [Value.cells] at hfd hl
  obtain ⟨l⟩ := cs
  simp only at hfd hl
  have hc : Tryd.prog.cellsOf 34 = 17 := by kernel_rfl
  have h8 : Tryd.prog.cellsOf 5 = 1 := by kernel_rfl
  have hk1 : Tryd.prog.cellsOf 31 = 1 := by kernel_rfl
  have hr1 : Tryd.prog.cellsOf 32 = 1 := by kernel_rfl
  have hb1 : Tryd.prog.cellsOf 4 = 1 := by kernel_rfl
  have hd : Tryd.prog.cellsOf 28 = 2 := by kernel_rfl
  have hp : Tryd.prog.cellsOf 30 = 8 := by kernel_rfl
  rw [hc] at hl
  have g0 : DataW.trod enc Tryd.prog W 0 (fun _ => true) true m 28 (List.take (Tryd.prog.cellsOf 28) (List.drop 0 l)) = xs[0]? := hfd 0 _ rfl
  have g1 : DataW.trod enc Tryd.prog W 0 (fun _ => true) true m 30 (List.take (Tryd.prog.cellsOf 30) (List.drop 2 l)) = xs[1]? := hfd 1 _ rfl
  have g2 : DataW.trod enc Tryd.prog W 0 (fun _ => true) true m 31 (List.take (Tryd.prog.cellsOf 31) (List.drop 10 l)) = xs[2]? := hfd 2 _ rfl
  have g3 : DataW.trod enc Tryd.prog W 0 (fun _ => true) true m 28 (List.take (Tryd.prog.cellsOf 28) (List.drop 11 l)) = xs[3]? := hfd 3 _ rfl
  have g4 : DataW.trod enc Tryd.prog W 0 (fun _ => true) true m 4 (List.take (Tryd.prog.cellsOf 4) (List.drop 13 l)) = xs[4]? := hfd 4 _ rfl
  have g5 : DataW.trod enc Tryd.prog W 0 (fun _ => true) true m 5 (List.take (Tryd.prog.cellsOf 5) (List.drop 14 l)) = xs[5]? := hfd 5 _ rfl
  have g6 : DataW.trod enc Tryd.prog W 0 (fun _ => true) true m 5 (List.take (Tryd.prog.cellsOf 5) (List.drop 15 l)) = xs[6]? := hfd 6 _ rfl
  have g7 : DataW.trod enc Tryd.prog W 0 (fun _ => true) true m 32 (List.take (Tryd.prog.cellsOf 32) (List.drop 16 l)) = xs[7]? := hfd 7 _ rfl
  simp only [List.size_toArray, List.length_cons, List.length_nil, Nat.reduceAdd] at hlen
  rw [hd, List.getElem?_eq_getElem (by omega)] at g0 g3
  rw [hp, List.getElem?_eq_getElem (by omega)] at g1
  rw [hk1, List.getElem?_eq_getElem (by omega)] at g2
  rw [hb1, List.getElem?_eq_getElem (by omega)] at g4
  rw [h8, List.getElem?_eq_getElem (by omega)] at g5 g6
  rw [hr1, List.getElem?_eq_getElem (by omega)] at g7
  obtain ⟨da, dsq, ed, wd⟩ := dot_of_trod g0
  obtain ⟨pv, hpv, ep, wp⟩ := row_of_trod5 Tryd.underlying30 Tryd.underlying26 (by kernel_rfl) (by simp [hl]) g1
  obtain ⟨k, ek, _, wk⟩ := DataW.trod_int Tryd.underlying31 g2
  obtain ⟨pa, psq, ea, wa⟩ := dot_of_trod g3
  obtain ⟨b, eb, _⟩ := DataW.trod_bool Tryd.underlying4 g4
  obtain ⟨c, ec, _, wc⟩ := DataW.trod_int Tryd.underlying5 g5
  obtain ⟨o, eo, _, wo⟩ := DataW.trod_int Tryd.underlying5 g6
  obtain ⟨ro, er, _, wr⟩ := DataW.trod_int Tryd.underlying32 g7
  refine ⟨⟨da, dsq, pv, k, pa, psq, b, c, o, ro⟩, ?_, ⟨wd.1, wd.2, hpv, fun x hx => bounds_u32 (wp x hx), bounds_u8 wk, wa.1, wa.2, bounds_u8 wc, bounds_u8 wo, bounds_u8 wr⟩⟩
  congr 2
  show l = dotC da dsq ++ pv.map (Value.int .u32) ++ ([.int .u8 k] ++ dotC pa psq ++ [.bool b, .int .u8 c, .int .u8 o, .int .u8 ro])
  have e4 : ([.bool b, .int .u8 c, .int .u8 o, .int .u8 ro] : List Value) = [.bool b] ++ [.int .u8 c] ++ [.int .u8 o] ++ [.int .u8 ro] := rfl
  rw [e4, ← ed, ← ep, ← ek, ← ea, ← eb, ← ec, ← eo, ← er, List.drop_zero]
  have s : ∀ a n m : Nat, a + n = m → l.take a ++ (l.drop a).take n = l.take m := fun a n m h => by rw [← h, List.take_add]
  simp only [← List.append_assoc]
  rw [s 2 8 10 rfl, s 10 1 11 rfl, s 11 2 13 rfl, s 13 1 14 rfl, s 14 1 15 rfl, s 15 1 16 rfl, s 16 1 17 rfl, List.take_of_length_le (by omega)]
end Go.Proofs.YtgeiiadlchimhaaDoor
