/- Wr4 Re1 Re2 Re3 Wr5 Wr6 -/
import Derived.Test.YtlhajphjppjlgaaGreatDoorT03
import Derived.Test.YtlhajphjppjlgaaGreatDoorT02
namespace Go.Proofs.YtlhajphjppjlgaaGreatDoor
open Go.RowKit
set_option maxRecDepth 20000
set_option linter.unusedSimpArgs false
theorem Went.setRow {w : World} {g H base : Nat} (hb : base ≤ g) (w0 : World) (hlt : w0.heap.size ≤ g) (h0 : Went w0 w H base) (cs' : Array Value) : Went w0 (w.setRow g cs') H base :=
  ⟨below_setRow h0.below hb _, fun g' cs t fr h1 h2 h3 => by
    have hl : g' < w0.heap.size := (Array.getElem?_eq_some_iff.1 h3).1
    rw [setRow_other w g g' cs' (by omega)]
    exact h0.kept g' cs t fr h1 h2 h3⟩
def wrapL (e : Wp) : List Int := [e.too] ++ dotL e.ea e.es ++ e.data
structure Fr where
  author : Int
  number : Int
  ea : Int
  es : Int
  prev : List Int
  wraps : Value
  body : Value
  mac : List Int
def Fr.cells (f : Fr) : List Value := [.int .u8 f.author, .int .u32 f.number] ++ dotC f.ea f.es ++ f.prev.map (Value.int .u8) ++ [f.wraps, f.body] ++ f.mac.map (Value.int .u8)
def wrapsL (ws : List Wp) : List Int := (ws.map wrapL).flatten
def openL (f : Fr) (ws : List Wp) : List Int := [69, 83, f.author] ++ be4 f.number ++ dotL f.ea f.es ++ f.prev ++ [(ws.length : Int)] ++ wrapsL ws
theorem wrapL_length (e : Wp) (h : e.data.length = 48) : (wrapL e).length = 54 := by unfold wrapL; simp [dotL_length, h]
theorem wrapsL_take (ws : List Wp) (j : Nat) (hj : j < ws.length) : wrapsL (ws.take (j + 1)) = wrapsL (ws.take j) ++ wrapL ws[j] := by
  unfold wrapsL
  rw [List.take_succ_eq_append_getElem hj, List.map_append, List.flatten_append]
  simp only [List.map_cons, List.map_nil, List.flatten_cons, List.flatten_nil, List.append_nil]
theorem wrapsL_le (ws : List Wp) (h : ∀ e ∈ ws, e.data.length = 48) : (wrapsL ws).length = 54 * ws.length := by
  induction ws with
  | nil => rfl
  | cons e ws ih =>
    have := ih (fun x hx => h x (List.mem_cons_of_mem _ hx))
    unfold wrapsL at this ⊢
    rw [List.map_cons, List.flatten_cons, List.length_append, wrapL_length e (h e (by simp)), this, List.length_cons]; omega
structure WrapsAt (w : World) (x : Option Addr) (len cap : Nat) (ws : List Wp) : Prop where
  len_eq : len = ws.length
  le : len ≤ cap
  top : cap ≤ 9223372036854775807
  nil : x = none → cap = 0
  ok : ∀ e ∈ ws, e.data.length = 48
  at_ : len = 0 ∨ ∃ b off, x = some ⟨b, off, none⟩ ∧ ∀ j (hj : j < ws.length), w.rangeAt b (off + j * 51) (ws[j]).cells
theorem rangeAt_below {w w' : World} {b o : Nat} {cs : List Value} (h : w.rangeAt b o cs) (hb : Below w.heap.size w w') : w'.rangeAt b o cs := fun j v hv => by
  have := h j v hv
  rw [hb.cell (p := ⟨b, o + j, none⟩) (block_lt_of_cell this)]; exact this
theorem WrapsAt.below {w w' : World} {x : Option Addr} {len cap : Nat} {ws : List Wp} (h : WrapsAt w x len cap ws) (hb : Below w.heap.size w w') : WrapsAt w' x len cap ws :=
  ⟨h.len_eq, h.le, h.top, h.nil, h.ok, by
    rcases h.at_ with h0 | ⟨b, off, hx, hc⟩
    · exact .inl h0
    · exact .inr ⟨b, off, hx, fun j hj => rangeAt_below (hc j hj) hb⟩⟩
theorem fr_parts (f : Fr) (hp : f.prev.length = 32) (hm : f.mac.length = 32) : f.cells.length = 70 ∧ f.cells[0]? = some (.int .u8 f.author) ∧ f.cells[1]? = some (.int .u32 f.number) ∧ (f.cells.drop 2).take 2 = dotC f.ea f.es ∧ (f.cells.drop 4).take 32 = f.prev.map (Value.int .u8) ∧ f.cells[36]? = some f.wraps ∧ f.cells[37]? = some f.body ∧ (f.cells.drop 38).take 32 = f.mac.map (Value.int .u8) := by
  have e1 : ∀ X : List Value, (([.int .u8 f.author, .int .u32 f.number] : List Value) ++ dotC f.ea f.es ++ X).drop 4 = X := fun X => rfl
  have hP : (f.prev.map (Value.int .u8)).length = 32 := by rw [List.length_map, hp]
  have hM : (f.mac.map (Value.int .u8)).length = 32 := by rw [List.length_map, hm]
  have e0 : f.cells = ([.int .u8 f.author, .int .u32 f.number] : List Value) ++ dotC f.ea f.es ++ (f.prev.map (Value.int .u8) ++ ([f.wraps, f.body] ++ f.mac.map (Value.int .u8))) := by unfold Fr.cells; simp only [List.append_assoc]
  have e36 : f.cells.drop 36 = [f.wraps, f.body] ++ f.mac.map (Value.int .u8) := by
    rw [show 36 = 4 + 32 from rfl, ← List.drop_drop, e0, e1, List.drop_left' hP]
  refine ⟨by rw [e0]; simp [dotC, hp, hm], by rw [e0]; rfl, by rw [e0]; rfl, by rw [e0]; rfl, by rw [e0, e1, List.take_left' hP], ?_, ?_, ?_⟩
  · have := congrArg (fun l => l[0]?) e36
    simpa using this
  · have := congrArg (fun l => l[1]?) e36
    simpa using this
  · rw [show 38 = 36 + 2 from rfl, ← List.drop_drop, e36]
    exact List.take_of_length_le (by simp [hm])
theorem sizeWrap : (Tryz.prog.info? 119).map (·.size) = some 51 := by kernel_rfl
end Go.Proofs.YtlhajphjppjlgaaGreatDoor
namespace Go.Proofs.YtlhajphjppjlgaaGreatDoor
open Go.RowKit
set_option maxRecDepth 20000
set_option linter.unusedSimpArgs false
end Go.Proofs.YtlhajphjppjlgaaGreatDoor
namespace Go.Proofs.YtlhajphjppjlgaaGreatDoor
open Go.RowKit
set_option maxRecDepth 20000
set_option linter.unusedSimpArgs false
theorem CellsAt.setOther2 {w : World} {g : Nat} {t : TypeId} {cs : List Value} (h : CellsAt w g t cs) (a : Addr) (v : Value) (hne : g ≠ a.block) : CellsAt (w.setCell a v) g t cs := by
  unfold CellsAt at h ⊢
  rw [heap_setCell_other w a g v hne]; exact h
end Go.Proofs.YtlhajphjppjlgaaGreatDoor
namespace Go.Proofs.YtlhajphjppjlgaaGreatDoor
open Go.RowKit
set_option maxRecDepth 20000
set_option linter.unusedSimpArgs false
def evZ : Ev := ⟨0, 0, List.replicate 8 0, 0, 0, 0, false, 0, 0, 0⟩
theorem ev_split (e : Ev) : e.cells = (dotC e.da e.ds ++ e.past.map (Value.int .u32)) ++ ([.int .u8 e.kind] ++ dotC e.pa e.ps ++ [.bool e.right, .int .u8 e.char, .int .u8 e.who, .int .u8 e.role]) := rfl
theorem ev_pre (e : Ev) (h : e.past.length = 8) : (dotC e.da e.ds ++ e.past.map (Value.int .u32)).length = 10 := by simp [dotC, h]
theorem ev_len (e : Ev) (h : e.past.length = 8) : e.cells.length = 17 := by rw [ev_split, List.length_append, ev_pre e h]; simp [dotC]
theorem ev_one (e : Ev) : ∀ v ∈ e.cells, v.oneCell' = true := by
  intro v hv
  rw [ev_split] at hv
  simp only [dotC, List.mem_append, List.mem_cons, List.not_mem_nil, or_false, List.mem_map] at hv
  rcases hv with ((rfl | rfl) | ⟨_, _, rfl⟩) | ((rfl | (rfl | rfl)) | (rfl | rfl | rfl | rfl)) <;> rfl
theorem sizeEv17 : (Tryz.prog.info? 76).map (·.size) = some 17 := by kernel_rfl
end Go.Proofs.YtlhajphjppjlgaaGreatDoor
namespace Go.Proofs.YtlhajphjppjlgaaGreatDoor
open Go.RowKit
set_option maxRecDepth 20000
set_option linter.unusedSimpArgs false
theorem rangeBytes {w : World} {g o : Nat} {l : List Int} {n : Nat} (h : w.rangeAt g o (l.map (Value.int .u8))) (hn : n = l.length) (hl : l.length ≤ 4000000) : Bytes w (some ⟨g, o, none⟩) n n l := by
  subst hn
  exact ⟨rfl, Nat.le_refl _, by omega, (fun h => by cases h), .inr ⟨g, o, rfl, fun j hj => h j _ (by rw [List.getElem?_map, List.getElem?_eq_getElem hj]; rfl)⟩⟩
theorem Wr.setRow {w : World} {H base g : Nat} {L : List Int} {t : TypeId} {old : List Value} (h : Wr w H base L) (hc : CellsAt w g t old) (ht : t ≠ 5) (hne : H ≠ g) (cs : Array Value) : Wr (w.setRow g cs) H base L := by
  obtain ⟨v, hb, ho⟩ := h.has
  refine ⟨h.ge, v, ?_, ho.1, ?_⟩
  · unfold Box at hb ⊢
    rw [setRow_other w g H cs hne]; exact hb
  · rcases ho.2 with h' | ⟨g', cap, cur, h1, h2, h3, h4⟩
    · exact .inl h'
    · refine .inr ⟨g', cap, cur, h1, h2, ?_, h4⟩
      rw [setRow_other w g g' cs (fun e => by
        subst e
        unfold CellsAt at hc
        rw [h3] at hc
        simp at hc
        exact ht hc.2.symm)]
      exact h3
def zeroWp : List Value := [.int .u8 0] ++ dotC 0 0 ++ (List.replicate 48 0).map (Value.int .u8)
set_option maxHeartbeats 8000000 in
theorem openly_any (H base : Nat) (L : List Int) (F : Fr) (xw : Option Addr) (lw cw : Nat) (ws : List Wp) (w : World) (hW : Wr w H base L) (hp : F.prev.length = 32) (hm : F.mac.length = 32) (hfw : F.wraps = .slice xw lw cw) (hws : ∀ wx, Below base w wx → WrapsAt wx xw lw cw ws) (hl : lw ≤ 255) (hln : L.length ≤ 1000000) :
    Calls Tryz.prog 34 #[.pointer (some ⟨H, 0, none⟩), .agg F.cells.toArray] w fun e w' => (∃ r, e = .returned r) ∧ Wr w' H base (L ++ openL F ws) ∧ Went w w' H base := by
  have hsz := hW.size
  have hlt : H < w.heap.size := by obtain ⟨v, h1, _⟩ := hW.has; exact h1.lt
  have hD0 := CellsAt.new w 32 F.cells
  have hgo := Went.alloc (H := H) hsz (.cells F.cells.toArray 32)
  have hW0 := hW.alloc (.cells F.cells.toArray 32)
  have HP : Veil (F.cells.length = 70 ∧ F.cells[0]? = some (.int .u8 F.author) ∧ F.cells[1]? = some (.int .u32 F.number) ∧ (F.cells.drop 2).take 2 = dotC F.ea F.es ∧ (F.cells.drop 4).take 32 = F.prev.map (Value.int .u8) ∧ F.cells[36]? = some F.wraps ∧ F.cells[37]? = some F.body ∧ (F.cells.drop 38).take 32 = F.mac.map (Value.int .u8)) := ⟨fr_parts F hp hm⟩
  have HPL : Veil (F.prev.length = 32) := ⟨hp⟩
  have HWS : Veil (∀ wx, Below base w wx → WrapsAt wx xw lw cw ws) := ⟨hws⟩
  have HFW : Veil (F.wraps = .slice xw lw cw) := ⟨hfw⟩
  have hw0 := hws w (Below.refl _ _)
  have HLW : Veil (lw = ws.length) := ⟨hw0.len_eq⟩
  have HOK : Veil (∀ e ∈ ws, e.data.length = 48) := ⟨hw0.ok⟩
  have hcw := hw0.le
  have htw := hw0.top
  clear hW hp hm hfw hws hw0
  go_enter Tryz.func34, Tryz.ntmps34
  go_upto_region 1 with fail
  refine forget (p := fun y => Code.wp _ _ _ _ y) (fun W0 => Went w W0 H base ∧ Wr W0 H base L ∧ CellsAt W0 w.heap.size 32 F.cells) ⟨hgo, hW0, hD0⟩ ?_
  clear hgo hW0 hD0
  rintro W0 ⟨hg0, hW0, hD0⟩
  have hs0 := hW0.size
  have c0 : W0.cell? ⟨w.heap.size, 0, none⟩ = some (.int .u8 F.author) := by rw [hD0.cell]; exact HP.out.2.1
  have hp0 := put_any H base L (some ⟨W0.heap.size, 0, none⟩) 3 3 [69, 83, F.author] (W0.alloc (.cells (row .u8 [69, 83, F.author]) 5)) (hW0.alloc _) (new_bytes W0 [69, 83, F.author] (by simp)) (by omega)
  have hgo := Went.alloc (H := H) hs0 (.cells (row .u8 [69, 83, F.author]) 5)
  go_upto_region 2 with (go_at_call 36; refine hp0.mono ?_; rintro e w1 ⟨⟨r1, rfl⟩, hW1, hg1⟩)
  have hD1 := (hD0.went hgo (by omega) (by decide)).went hg1 (by omega) (by decide)
  have hg01 := hg0.trans (hgo.trans hg1)
  have hl1 : (L ++ [69, 83, F.author]).length ≤ 1000003 := by rw [List.length_append]; simp; omega
  obtain ⟨L1, hL1⟩ : ∃ q, L ++ [69, 83, F.author] = q := ⟨_, rfl⟩
  have HL1 : Veil (L ++ [69, 83, F.author] = L1) := ⟨hL1⟩
  rw [hL1] at hW1 hl1
  have c1 : w1.cell? ⟨w.heap.size, 1, none⟩ = some (.int .u32 F.number) := by rw [hD1.cell]; exact HP.out.2.2.1
  have hf1 := four_any H base L1 F.number w1 hW1 (by omega)
  clear hp0 c0 hgo hg0 hg1 hD0 hW0 hL1
  go_upto_region 3 with (go_at_call 69; refine hf1.mono ?_; rintro e w2 ⟨⟨r2, rfl⟩, hW2, hg2⟩)
  have hD2 := hD1.went hg2 (by omega) (by decide)
  have hg02 := hg01.trans hg2
  have hl2 : (L1 ++ be4 F.number).length ≤ 1000007 := by rw [List.length_append, be4_length]; omega
  obtain ⟨L2, hL2⟩ : ∃ q, L1 ++ be4 F.number = q := ⟨_, rfl⟩
  have HL2 : Veil (L1 ++ be4 F.number = L2) := ⟨hL2⟩
  rw [hL2] at hW2 hl2
  have hdt := dot_any H base L2 F.ea F.es w2 hW2 (by omega)
  have rD : w2.rangeAt w.heap.size 2 (dotC F.ea F.es) := by
    have := hD2.range 2 2
    rw [HP.out.2.2.2.1] at this
    exact this
  clear hf1 c1 hg01 hg2 hD1 hW1 hL2
  go_upto_region 4 with (first
    | (refine wpList_ldv rfl 28 _ rfl _ _ rfl (dotC F.ea F.es) rD Tryz.underlying28 rfl sizeDot ?_)
    | (go_at_call 70; refine hdt.mono ?_; rintro e w3 ⟨⟨r3, rfl⟩, hW3, hg3⟩))
  have hD3 := hD2.went hg3 (by omega) (by decide)
  have hg03 := hg02.trans hg3
  have hl3 : (L2 ++ dotL F.ea F.es).length ≤ 1000020 := by rw [List.length_append, dotL_length]; omega
  obtain ⟨L3, hL3⟩ : ∃ q, L2 ++ dotL F.ea F.es = q := ⟨_, rfl⟩
  have HL3 : Veil (L2 ++ dotL F.ea F.es = L3) := ⟨hL3⟩
  rw [hL3] at hW3 hl3
  have rP : w3.rangeAt w.heap.size 4 (F.prev.map (Value.int .u8)) := by
    have := hD3.range 4 32
    rw [HP.out.2.2.2.2.1] at this
    exact this
  have hpP := put_any H base L3 (some ⟨w.heap.size, 4, none⟩) 32 32 F.prev w3 hW3 (rangeBytes rP HPL.out.symm (by rw [HPL.out]; omega)) (by omega)
  clear hdt rD hg02 hg3 hD2 hW2 hL3
  go_upto_region 5 with (go_at_call 36; refine hpP.mono ?_; rintro e w4 ⟨⟨r4, rfl⟩, hW4, hg4⟩)
  have hD4 := hD3.went hg4 (by omega) (by decide)
  have hg04 := hg03.trans hg4
  have hl4 : (L3 ++ F.prev).length ≤ 1000100 := by rw [List.length_append, HPL.out]; omega
  obtain ⟨L4, hL4⟩ : ∃ q, L3 ++ F.prev = q := ⟨_, rfl⟩
  have HL4 : Veil (L3 ++ F.prev = L4) := ⟨hL4⟩
  rw [hL4] at hW4 hl4
  have c36 : w4.cell? ⟨w.heap.size, 36, none⟩ = some (.slice xw lw cw) := by rw [hD4.cell, ← HFW.out]; exact HP.out.2.2.2.2.2.1
  have hs4 := hW4.size
  have hwr : IntKind.u8.wrap (lw : Int) = (lw : Int) := by rw [IntKind.wrap_u8]; omega
  have hp5 := put_any H base L4 (some ⟨w4.heap.size, 0, none⟩) 1 1 [(lw : Int)] (w4.alloc (.cells (row .u8 [(lw : Int)]) 5)) (hW4.alloc _) (new_bytes w4 [(lw : Int)] (by simp)) (by omega)
  have hgo := Went.alloc (H := H) hs4 (.cells (row .u8 [(lw : Int)]) 5)
  clear hpP rP hg03 hg4 hD3 hW3 hL4
  go_upto_region 6 with (go_at_call 36; refine hp5.mono ?_; rintro e w5 ⟨⟨r5, rfl⟩, hW5, hg5⟩)
  have hD5 := (hD4.went hgo (by omega) (by decide)).went hg5 (by omega) (by decide)
  have hg05 := hg04.trans (hgo.trans hg5)
  have hl5 : (L4 ++ [(lw : Int)]).length ≤ 1000101 := by rw [List.length_append]; simp; omega
  obtain ⟨L5, hL5⟩ : ∃ q, L4 ++ [(lw : Int)] = q := ⟨_, rfl⟩
  have HL5 : Veil (L4 ++ [(lw : Int)] = L5) := ⟨hL5⟩
  rw [hL5] at hW5 hl5
  have c36 : w5.cell? ⟨w.heap.size, 36, none⟩ = some (.slice xw lw cw) := by rw [hD5.cell, ← HFW.out]; exact HP.out.2.2.2.2.2.1
  clear hp5 hgo hg04 hg5 hD4 hW4 hL5 hwr
  go_wp2_with fail
  go_loopw [33] (fun q wr => ∃ j : Nat, j ≤ lw ∧ q = .int .i64 j ∧ Wr wr H base (L5 ++ wrapsL (ws.take j)) ∧ Went w wr H base) (fun q _ => lw - (intOf q).toNat)
  case atStart => exact ⟨0, by omega, rfl, by simpa [wrapsL] using hW5, hg05⟩
  case round =>
    clear hW5 hg05 hD5 c36
    obtain ⟨j, hj, rfl, hW1, hg1⟩ := hrel
    have hlen : (wrapsL (ws.take j)).length ≤ 54 * 255 := by
      rw [wrapsL_le _ (fun e he => HOK.out e (List.mem_of_mem_take he)), List.length_take]; omega
    by_cases hlt : j < lw
    · have hjw : j < ws.length := by have := HLW.out; omega
      obtain ⟨b, off, hx, hrg⟩ : ∃ b off, xw = some ⟨b, off, none⟩ ∧ ∀ j (hj : j < ws.length), wr.rangeAt b (off + j * 51) (ws[j]).cells := by
        rcases (HWS.out wr hg1.below).at_ with h0 | h
        · omega
        · exact h
      subst hx
      have hr := hrg j hjw
      have hts := wrapsL_take ws j hjw
      have hok := HOK.out ws[j] (List.getElem_mem hjw)
      obtain ⟨E, hE⟩ : ∃ q, ws[j] = q := ⟨_, rfl⟩
      rw [hE] at hr hts hok
      have HTS : Veil (L5 ++ wrapsL (ws.take j) ++ wrapL E = L5 ++ wrapsL (ws.take (j + 1))) := ⟨by rw [hts, List.append_assoc]⟩
      obtain ⟨q1, q2, q3, q4, q5⟩ := wp_parts E hok
      have HQ : Veil (E.cells[0]? = some (.int .u8 E.too) ∧ (E.cells.drop 1).take 2 = dotC E.ea E.es ∧ (E.cells.drop 3).take 48 = E.data.map (Value.int .u8)) := ⟨q2, q3, q4⟩
      have HOKE : Veil (E.data.length = 48) := ⟨hok⟩
      have hsW := hg1.below.size
      have hsz1 := hW1.size
      have hl6 : (L5 ++ wrapsL (ws.take j)).length ≤ 1100000 := by rw [List.length_append]; omega
      obtain ⟨A, hA⟩ : ∃ q, L5 ++ wrapsL (ws.take j) = q := ⟨_, rfl⟩
      rw [hA] at hW1 HTS hl6
      have hltw : H < wr.heap.size := by obtain ⟨v, h1, _⟩ := hW1.has; exact h1.lt
      have hZ0 : CellsAt (wr.alloc (.cells zeroWp.toArray 119)) wr.heap.size 119 zeroWp := CellsAt.new wr 119 zeroWp
      have hWZ := hW1.alloc (.cells zeroWp.toArray 119)
      have hgZ := hg1.trans (Went.alloc (H := H) hsz1 (.cells zeroWp.toArray 119))
      have hj0 : (0 : Int) ≤ (j : Int) := by omega
      have hjl : (j : Int) < (lw : Int) := by omega
      have hiW : (Tryz.prog.info? 119).map (·.size) = some E.cells.length := by rw [q1]; exact sizeWrap
      have hzl : zeroWp.length = E.cells.length := by rw [q1]; rfl
      clear hrg hts hE hA q1 q2 q3 q4 hlen hjw hok
      go_upto_region 9 with (first
        | (refine wpList_ldv rfl 119 _ rfl _ _ rfl E.cells hr Tryz.underlying119 rfl hiW ?_)
        | (refine wpList_stv rfl 119 _ _ rfl _ rfl rfl hZ0 hiW hzl q5 ?_))
      refine forget (p := fun y => Code.wp _ _ _ _ y) (fun W1 => Went w W1 H base ∧ Wr W1 H base A ∧ CellsAt W1 wr.heap.size 119 E.cells) ⟨Went.setRow (by omega) w (by omega) hgZ _, hWZ.setRow hZ0 (by decide) (by omega) _, hZ0.setRow _⟩ ?_
      obtain ⟨G, hG⟩ : ∃ q, wr.heap.size = q := ⟨_, rfl⟩
      rw [hG] at hltw hsW ⊢
      clear hZ0 hWZ hgZ hr hiW hzl q5 hG hW1 hg1 hsz1
      rintro W1 ⟨hg1, hW1, hD1⟩
      have hs1 := hW1.size
      have c0 : W1.cell? ⟨G, 0, none⟩ = some (.int .u8 E.too) := by rw [hD1.cell]; exact HQ.out.1
      have hp1 := put_any H base A (some ⟨W1.heap.size, 0, none⟩) 1 1 [E.too] (W1.alloc (.cells (row .u8 [E.too]) 5)) (hW1.alloc _) (new_bytes W1 [E.too] (by simp)) (by omega)
      have hgo := Went.alloc (H := H) hs1 (.cells (row .u8 [E.too]) 5)
      go_upto_region 10 with (go_at_call 36; refine hp1.mono ?_; rintro e w2 ⟨⟨r2, rfl⟩, hW2, hg2⟩)
      have hD2 := (hD1.went hgo (by omega) (by decide)).went hg2 (by omega) (by decide)
      have hg02 := hg1.trans (hgo.trans hg2)
      have hdt := dot_any H base (A ++ [E.too]) E.ea E.es w2 hW2 (by rw [List.length_append]; simp; omega)
      have rD : w2.rangeAt G 1 (dotC E.ea E.es) := by
        have := hD2.range 1 2
        rw [HQ.out.2.1] at this
        exact this
      clear hp1 c0 hgo hg1 hg2 hD1 hW1
      go_upto_region 11 with (first
        | (refine wpList_ldv rfl 28 _ rfl _ _ rfl (dotC E.ea E.es) rD Tryz.underlying28 rfl sizeDot ?_)
        | (go_at_call 70; refine hdt.mono ?_; rintro e w3 ⟨⟨r3, rfl⟩, hW3, hg3⟩))
      have hD3 := hD2.went hg3 (by omega) (by decide)
      have hg03 := hg02.trans hg3
      have rP : w3.rangeAt G 3 (E.data.map (Value.int .u8)) := by
        have := hD3.range 3 48
        rw [HQ.out.2.2] at this
        exact this
      have hpP := put_any H base (A ++ [E.too] ++ dotL E.ea E.es) (some ⟨G, 3, none⟩) 48 48 E.data w3 hW3 (rangeBytes rP HOKE.out.symm (by rw [HOKE.out]; omega)) (by rw [List.length_append, List.length_append, dotL_length]; simp; omega)
      clear hdt rD hg02 hg3 hD2 hW2
      go_wp2_with (go_at_call 36; refine hpP.mono ?_; rintro e w4 ⟨⟨r4, rfl⟩, hW4, hg4⟩)
      have hW4' : Wr w4 H base (L5 ++ wrapsL (ws.take (j + 1))) := by
        rw [← HTS.out]
        unfold wrapL
        simp only [List.append_assoc] at hW4 ⊢
        exact hW4
      clear hW4
      go_roundw
      case rel => exact ⟨j + 1, by omega, by go_num, hW4', hg03.trans hg4⟩
      case measure => simp [intOf]; omega
    · obtain rfl : j = lw := by omega
      have HA : Veil (ws.take j = ws) := ⟨List.take_of_length_le (by have := HLW.out; omega)⟩
      rw [HA.out] at hW1
      go_wp2
      go_end0
      refine ⟨⟨_, rfl⟩, ?_, hg1⟩
      rw [← HL5.out, ← HL4.out, ← HL3.out, ← HL2.out, ← HL1.out, HLW.out] at hW1
      unfold openL
      simp only [List.append_assoc] at hW1 ⊢
      exact hW1
end Go.Proofs.YtlhajphjppjlgaaGreatDoor
namespace Go.Proofs.YtlhajphjppjlgaaGreatDoor
open Go.RowKit
set_option maxRecDepth 20000
set_option linter.unusedSimpArgs false
def frameL (f : Fr) (ws : List Wp) (body : List Int) : List Int := openL f ws ++ be2 body.length ++ body ++ f.mac
theorem openL_length (f : Fr) (ws : List Wp) (hp : f.prev.length = 32) (h : ∀ e ∈ ws, e.data.length = 48) : (openL f ws).length = 45 + 54 * ws.length := by
  unfold openL
  simp only [List.length_append, be4_length, dotL_length, hp, wrapsL_le ws h, List.length_cons, List.length_nil]
theorem sizeFrame : (Tryz.prog.info? 32).map (·.size) = some 70 := by kernel_rfl
set_option maxHeartbeats 4000000 in
theorem Frame_long (F : Fr) (xw : Option Addr) (lw cw : Nat) (xb : Option Addr) (lb cb : Nat) (w : World) (hp : F.prev.length = 32) (hm : F.mac.length = 32) (hfw : F.wraps = .slice xw lw cw) (hfb : F.body = .slice xb lb cb) (hl : 64 < lw ∨ 4112 < lb) :
    Calls Tryz.prog 14 #[.agg F.cells.toArray] w fun e w' => e = .returned (.tuple #[.slice none 0 0, .int .i64 2]) ∧ Below w.heap.size w w' := by
  obtain ⟨_, _, _, _, _, q6, q7, _⟩ := fr_parts F hp hm
  have hD0 := CellsAt.new w 32 F.cells
  have hB0 : Below w.heap.size w (w.alloc (.cells F.cells.toArray 32)) := (Below.refl _ _).alloc (Nat.le_refl _) _
  have c36 := hD0.cell 36
  have c37 := hD0.cell 37
  rw [q6, hfw] at c36
  rw [q7, hfb] at c37
  clear q6 q7 hfw hfb hp hm hD0
  by_cases h1 : 64 < lw
  · have h1' : (lw : Int) > 64 := by omega
    clear hl
    go_enter Tryz.func14, Tryz.ntmps14
    go_wp2
    go_ret2
    exact ⟨rfl, hB0⟩
  · have h1' : ¬ (lw : Int) > 64 := by omega
    have h2' : (lb : Int) > 4112 := by omega
    clear hl
    go_enter Tryz.func14, Tryz.ntmps14
    go_wp2
    go_ret2
    exact ⟨rfl, hB0⟩
set_option maxHeartbeats 4000000 in
theorem Frame_any (F : Fr) (xw : Option Addr) (lw cw : Nat) (ws : List Wp) (xb : Option Addr) (lb cb : Nat) (body : List Int) (w : World) (hp : F.prev.length = 32) (hm : F.mac.length = 32) (hfw : F.wraps = .slice xw lw cw) (hws : WrapsAt w xw lw cw ws) (hfb : F.body = .slice xb lb cb) (hbo : Bytes w xb lb cb body) (h1 : lw ≤ 64) (h2 : lb ≤ 4112) :
    Calls Tryz.prog 14 #[.agg F.cells.toArray] w fun e w' => ∃ v, e = .returned (.tuple #[v, .int .i64 0]) ∧ OwnB w' w.heap.size v (frameL F ws body) ∧ Below w.heap.size w w' := by
  obtain ⟨q0, _, _, _, _, q6, q7, q8⟩ := fr_parts F hp hm
  have HQ : Veil (F.cells[36]? = some (.slice xw lw cw) ∧ F.cells[37]? = some (.slice xb lb cb) ∧ (F.cells.drop 38).take 32 = F.mac.map (Value.int .u8)) := ⟨by rw [← hfw]; exact q6, by rw [← hfb]; exact q7, q8⟩
  have hiF : (Tryz.prog.info? 32).map (·.size) = some F.cells.length := by rw [q0]; exact sizeFrame
  have hol := openL_length F ws hp hws.ok
  rw [← hws.len_eq] at hol
  have HBL : Veil (body.length = lb) := ⟨hbo.len_eq.symm⟩
  have HML : Veil (F.mac.length = 32) := ⟨hm⟩
  have hbody := fun wx (h : Below w.heap.size w wx) => hbo.below h
  have hop := fun wx (h0 : Below w.heap.size w wx) (h : Wr wx (w.heap.size + 1) w.heap.size []) => openly_any (w.heap.size + 1) w.heap.size [] F xw lw cw ws wx h hp hm hfw (fun wy hy => hws.below (h0.trans hy)) (by omega) (by simp)
  have hD0 := CellsAt.new w 32 F.cells
  have hB0 : Below w.heap.size w (w.alloc (.cells F.cells.toArray 32)) := (Below.refl _ _).alloc (Nat.le_refl _) _
  have h1' : ¬ (lw : Int) > 64 := by omega
  have h2' : ¬ (lb : Int) > 4112 := by omega
  have c36 := hD0.cell 36
  have c37 := hD0.cell 37
  rw [HQ.out.1] at c36
  rw [HQ.out.2.1] at c37
  have hcw := hws.le
  have htw := hws.top
  have hcb := hbo.le
  have htb := hbo.top
  clear q0 q6 q7 q8 hfw hfb hp hm hws hbo
  go_enter Tryz.func14, Tryz.ntmps14
  go_upto_region 3 with fail
  refine forget (p := fun y => Code.wp _ _ _ _ y) (fun W0 => Below w.heap.size w W0 ∧ W0.heap.size = w.heap.size + 1 ∧ CellsAt W0 w.heap.size 32 F.cells) ⟨hB0, by simp, hD0⟩ ?_
  clear hB0 hD0 c36 c37
  rintro W0 ⟨hB0, hsz0, hD0⟩
  have hbx : Box (W0.alloc (.cells #[.slice none 0 0] 94)) (w.heap.size + 1) 94 (.slice none 0 0) := by
    have : Box (W0.alloc (.cells #[.slice none 0 0] 94)) W0.heap.size 94 (.slice none 0 0) := heap_alloc_new _ _
    rw [hsz0] at this
    exact this
  have hW1 : Wr (W0.alloc (.cells #[.slice none 0 0] 94)) (w.heap.size + 1) w.heap.size [] := ⟨by omega, _, hbx, OwnB.nil _ _⟩
  have hD1 := hD0.alloc (.cells #[.slice none 0 0] 94)
  have hB1 := hB0.alloc hB0.size (.cells #[.slice none 0 0] 94)
  go_upto_region 4 with fail
  refine forget (p := fun y => Code.wp _ _ _ _ y) (fun W1 => Below w.heap.size w W1 ∧ Wr W1 (w.heap.size + 1) w.heap.size [] ∧ CellsAt W1 w.heap.size 32 F.cells) ⟨hB1, hW1, hD1⟩ ?_
  clear hB1 hW1 hD1 hbx hB0 hD0 hsz0
  rintro W1 ⟨hB1, hW1, hD1⟩
  have rE : W1.rangeAt w.heap.size 0 F.cells := fun j v hv => by rw [Nat.zero_add, hD1.cell]; exact hv
  have hop1 := hop W1 hB1 hW1
  rw [List.nil_append] at hop1
  go_upto_region 5 with (first
    | (refine wpList_ldv rfl 32 _ rfl _ _ rfl F.cells rE Tryz.underlying32 rfl hiF ?_)
    | (go_at_call 34; refine hop1.mono ?_; rintro e w2 ⟨⟨r2, rfl⟩, hW2, hg2⟩))
  have hD2 := hD1.went hg2 (by omega) (by decide)
  have hB2 : Below w.heap.size w w2 := hB1.trans hg2.below
  obtain ⟨L1, hL1⟩ : ∃ q, openL F ws = q := ⟨_, rfl⟩
  have HL1 : Veil (openL F ws = L1) := ⟨hL1⟩
  rw [hL1] at hW2 hol
  have hl1 : L1.length ≤ 10000 := by omega
  have c37 : w2.cell? ⟨w.heap.size, 37, none⟩ = some (.slice xb lb cb) := by rw [hD2.cell]; exact HQ.out.2.1
  have htw2 := two_any (w.heap.size + 1) w.heap.size L1 lb w2 hW2 (by omega)
  clear hop hop1 rE hD1 hW1 hB1 hg2 hL1 hol
  go_upto_region 6 with (go_at_call 35; refine htw2.mono ?_; rintro e w3 ⟨⟨r3, rfl⟩, hW3, hg3⟩)
  have hD3 := hD2.went hg3 (by omega) (by decide)
  have hB3 : Below w.heap.size w w3 := hB2.trans hg3.below
  have hl2 : (L1 ++ be2 lb).length ≤ 10002 := by rw [List.length_append]; simp [be2]; omega
  have hp3 := put_any (w.heap.size + 1) w.heap.size (L1 ++ be2 lb) xb lb cb body w3 hW3 (hbody w3 hB3) (by omega)
  have c37 : w3.cell? ⟨w.heap.size, 37, none⟩ = some (.slice xb lb cb) := by rw [hD3.cell]; exact HQ.out.2.1
  clear htw2 hD2 hW2 hB2 hg3
  go_upto_region 7 with (go_at_call 36; refine hp3.mono ?_; rintro e w4 ⟨⟨r4, rfl⟩, hW4, hg4⟩)
  have hD4 := hD3.went hg4 (by omega) (by decide)
  have hB4 : Below w.heap.size w w4 := hB3.trans hg4.below
  have rM : w4.rangeAt w.heap.size 38 (F.mac.map (Value.int .u8)) := by
    have := hD4.range 38 32
    rw [HQ.out.2.2] at this
    exact this
  have hp4 := put_any (w.heap.size + 1) w.heap.size (L1 ++ be2 lb ++ body) (some ⟨w.heap.size, 38, none⟩) 32 32 F.mac w4 hW4 (rangeBytes rM HML.out.symm (by rw [HML.out]; omega)) (by rw [List.length_append, HBL.out]; omega)
  clear hp3 c37 hD3 hW3 hB3 hg4
  go_upto_region 8 with (go_at_call 36; refine hp4.mono ?_; rintro e w5 ⟨⟨r5, rfl⟩, hW5, hg5⟩)
  obtain ⟨v, hb5, ho5⟩ := hW5.has
  have c0 := hb5.cell
  have hB5 : Below w.heap.size w w5 := hB4.trans hg5.below
  obtain ⟨x5, n5, c5, rfl, hn5⟩ := ho5.isSlice
  clear hn5 hp4 rM hW5 hb5 hg5 hD4 hW4 hB4
  go_wp2
  go_ret2
  refine ⟨_, rfl, ?_, hB5⟩
  unfold frameL
  rw [HBL.out, HL1.out]
  exact ho5
end Go.Proofs.YtlhajphjppjlgaaGreatDoor
