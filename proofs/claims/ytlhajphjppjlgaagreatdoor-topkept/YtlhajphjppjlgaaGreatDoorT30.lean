/- Wo2 Cv1 Cv3 Evl -/
import Derived.Test.YtlhajphjppjlgaaGreatDoorT03
import Derived.Test.YtlhajphjppjlgaaGreatDoorT04
import Derived.Test.YtlhajphjppjlgaaGreatDoorT01
import Derived.Test.YtlhajphjppjlgaaGreatDoorT29
namespace Go.Proofs.YtlhajphjppjlgaaGreatDoor
open Go.RowKit
set_option maxRecDepth 20000
set_option linter.unusedSimpArgs false
theorem CellsAt.afar {w w' : World} {g : Nat} {t : TypeId} {cs : List Value} (h : CellsAt w g t cs) (hb : Below w.heap.size w w') : CellsAt w' g t cs := by
  have hl := h.lt
  unfold CellsAt at h ⊢; rw [hb.block g hl]; exact h
theorem CellsAt.grown {w w' : World} {base g : Nat} {v : Value} {z : List Int} {t : TypeId} {cs : List Value} (h : CellsAt w g t cs) (ho : OwnB w base v z) (hg : w.grownBy w' v.ownBlock) (ht : t ≠ 5) : CellsAt w' g t cs := grownT ho hg h ht
set_option maxHeartbeats 4000000 in
theorem Open_any (F : Fr) (xw : Option Addr) (lw cw : Nat) (ws : List Wp) (w : World) (hp : F.prev.length = 32) (hm : F.mac.length = 32) (hfw : F.wraps = .slice xw lw cw) (hws : WrapsAt w xw lw cw ws) (h1 : lw ≤ 64) :
    Calls Tryz.prog 61 #[.agg F.cells.toArray] w fun e w' => ∃ v, e = .returned v ∧ OwnB w' w.heap.size v (openL F ws) ∧ Below w.heap.size w w' := by
  obtain ⟨q0, _, _, _, _, q6, q7, q8⟩ := fr_parts F hp hm
  have HQ : Veil (F.cells[36]? = some (.slice xw lw cw)) := ⟨by rw [← hfw]; exact q6⟩
  have hiF : (Tryz.prog.info? 32).map (·.size) = some F.cells.length := by rw [q0]; exact sizeFrame
  have hop := fun wx (h0 : Below w.heap.size w wx) (h : Wr wx (w.heap.size + 1) w.heap.size []) => openly_any (w.heap.size + 1) w.heap.size [] F xw lw cw ws wx h hp hm hfw (fun wy hy => hws.below (h0.trans hy)) (by omega) (by simp)
  have hD0 := CellsAt.new w 32 F.cells
  have hB0 : Below w.heap.size w (w.alloc (.cells F.cells.toArray 32)) := (Below.refl _ _).alloc (Nat.le_refl _) _
  have h1' : ¬ (lw : Int) > 64 := by omega
  have c36 := hD0.cell 36
  rw [HQ.out] at c36
  have hcw := hws.le
  have htw := hws.top
  clear q0 q6 q7 q8 hfw hp hm hws
  go_enter Tryz.func61, Tryz.ntmps61
  go_upto_region 3 with fail
  refine forget (p := fun y => Code.wp _ _ _ _ y) (fun W0 => Below w.heap.size w W0 ∧ W0.heap.size = w.heap.size + 1 ∧ CellsAt W0 w.heap.size 32 F.cells) ⟨hB0, by simp, hD0⟩ ?_
  clear hB0 hD0 c36
  rintro W0 ⟨hB0, hsz0, hD0⟩
  have hbx : Box (W0.alloc (.cells #[.slice none 0 0] 94)) (w.heap.size + 1) 94 (.slice none 0 0) := by
    have : Box (W0.alloc (.cells #[.slice none 0 0] 94)) W0.heap.size 94 (.slice none 0 0) := heap_alloc_new _ _
    rw [hsz0] at this
    exact this
  have hW1 : Wr (W0.alloc (.cells #[.slice none 0 0] 94)) (w.heap.size + 1) w.heap.size [] := ⟨by omega, _, hbx, OwnB.nil _ _⟩
  have hD1 := hD0.alloc (.cells #[.slice none 0 0] 94)
  have hB1 := hB0.alloc hB0.size (.cells #[.slice none 0 0] 94)
  go_upto_region 4 with fail
  refine forget (p := fun y => Code.wp _ _ _ _ y) (fun W1 => Below w.heap.size w W1 ∧ Wr W1 (w.heap.size + 1) w.heap.size [] ∧ CellsAt W1 w.heap.size 32 F.cells) ⟨hB1, hW1, hD1⟩ ?_
  clear hB1 hW1 hD1 hbx hB0 hD0 hsz0
  rintro W1 ⟨hB1, hW1, hD1⟩
  have rE : W1.rangeAt w.heap.size 0 F.cells := fun j v hv => by rw [Nat.zero_add, hD1.cell]; exact hv
  have hop1 := hop W1 hB1 hW1
  rw [List.nil_append] at hop1
  go_upto_region 5 with (first
    | (refine wpList_ldv rfl 32 _ rfl _ _ rfl F.cells rE Tryz.underlying32 rfl hiF ?_)
    | (go_at_call 34; refine hop1.mono ?_; rintro e w2 ⟨⟨r2, rfl⟩, hW2, hg2⟩))
  have hB2 : Below w.heap.size w w2 := hB1.trans hg2.below
  obtain ⟨v, hb5, ho5⟩ := hW2.has
  have c0 := hb5.cell
  obtain ⟨x5, n5, c5, rfl, hn5⟩ := ho5.isSlice
  clear hn5 hop hop1 rE hD1 hW1 hB1 hg2 hb5 hW2
  go_wp2
  go_ret
  exact ⟨_, rfl, ho5, hB2⟩
end Go.Proofs.YtlhajphjppjlgaaGreatDoor
namespace Go.Proofs.YtlhajphjppjlgaaGreatDoor
open Go.RowKit
set_option maxRecDepth 20000
set_option linter.unusedSimpArgs false
def hasB (v : List Int) (a s : Int) : Bool := decide (a < 8) && (!(s == 0) && decide (s ≤ v[a.toNat]?.getD 0))
theorem ret_bC {a b : Bool} (h : a = b) : Ending.returned (.bool a) = .returned (.bool b) := by rw [h]
set_option maxHeartbeats 1000000 in
theorem chas_any (v : List Int) (a s : Int) (w : World) (hv : v.length = 8) (ha : 0 ≤ a) (hs : 0 ≤ s) :
    Calls Tryz.prog 112 #[.agg (row .u32 v), .agg (dotC a s).toArray] w fun e w' => e = .returned (.bool (hasB v a s)) ∧ Below w.heap.size w w' := by
  have hv0 := Holds.new w .u32 74 v
  have hd0 := CellsAt.new (w.alloc (.cells (row .u32 v) 74)) 28 (dotC a s)
  rw [World.size_alloc] at hd0
  have hv1 := hv0.alloc (.cells (dotC a s).toArray 28)
  have hB : Below w.heap.size w ((w.alloc (.cells (row .u32 v) 74)).alloc (.cells (dotC a s).toArray 28)) := ((Below.refl _ _).alloc (Nat.le_refl _) _).alloc (by simp) _
  have c0 := hd0.cell 0
  have c1 := hd0.cell 1
  rw [show (dotC a s)[0]? = some (.int .u8 a) from rfl] at c0
  rw [show (dotC a s)[1]? = some (.int .u32 s) from rfl] at c1
  by_cases ha8 : a < 8
  · have HH : Veil (hasB v a s = (!(s == 0) && decide (s ≤ v[a.toNat]?.getD 0))) := ⟨by simp [hasB, ha8]⟩
    have cv := hv1.cell a.toNat (by omega)
    obtain ⟨q, hq⟩ : ∃ q, v[a.toNat]?.getD 0 = q := ⟨_, rfl⟩
    rw [hq] at cv HH
    obtain ⟨n, rfl⟩ := Int.eq_ofNat_of_zero_le ha
    rw [Int.toNat_natCast] at cv
    by_cases h0 : s = 0
    · subst h0
      clear hq hv hs
      go_enter Tryz.func112, Tryz.ntmps112
      go_wp2_with fail
      refine forget (p := fun y => Code.wp _ _ _ _ y) (fun W => Below w.heap.size w W ∧ W.cell? ⟨w.heap.size + 1, 0, none⟩ = some (.int .u8 n) ∧ W.cell? ⟨w.heap.size + 1, 1, none⟩ = some (.int .u32 0)) ⟨hB, c0, c1⟩ ?_
      clear hB c0 c1 hd0 hv0 hv1 cv
      rintro W ⟨hB, c0, c1⟩
      go_quiet ((fail))
      go_wp2
      go_ret
      exact ⟨by rw [HH.out]; rfl, below_drewN hB _⟩
    · have h1 : (s == 0) = false := by simpa using h0
      have h2 : 0 < s := by omega
      rw [h1] at HH
      clear hq hv hs
      go_enter Tryz.func112, Tryz.ntmps112
      go_wp2_with fail
      refine forget (p := fun y => Code.wp _ _ _ _ y) (fun W => Below w.heap.size w W ∧ W.cell? ⟨w.heap.size + 1, 0, none⟩ = some (.int .u8 n) ∧ W.cell? ⟨w.heap.size + 1, 1, none⟩ = some (.int .u32 s) ∧ W.cell? ⟨w.heap.size, n, none⟩ = some (.int .u32 q)) ⟨hB, c0, c1, cv⟩ ?_
      clear hB c0 c1 hd0 hv0 hv1 cv
      rintro W ⟨hB, c0, c1, cv⟩
      go_quiet ((fail))
      go_wp2
      go_ret
      exact ⟨by rw [HH.out]; exact ret_bC (by simp [bne, h1]), below_drewN hB _⟩
  · have HH : Veil (hasB v a s = false) := ⟨by simp [hasB, ha8]⟩
    have hd8 : decide (a < 8) = false := by simp [ha8]
    clear hv hs ha
    go_enter Tryz.func112, Tryz.ntmps112
    go_wp2_with fail
    refine forget (p := fun y => Code.wp _ _ _ _ y) (fun W => Below w.heap.size w W ∧ W.cell? ⟨w.heap.size + 1, 0, none⟩ = some (.int .u8 a)) ⟨hB, c0⟩ ?_
    clear hB c0 c1 hd0 hv0 hv1
    rintro W ⟨hB, c0⟩
    go_quiet ((fail))
    go_wp2
    go_ret
    exact ⟨by rw [HH.out]; rfl, below_drewN hB _⟩
end Go.Proofs.YtlhajphjppjlgaaGreatDoor
namespace Go.Proofs.YtlhajphjppjlgaaGreatDoor
open Go.RowKit
set_option maxRecDepth 20000
set_option linter.unusedSimpArgs false
def noMemB (e : Ev) : Bool := (e.who == 0) && (e.role == 0)
def noTextB (e : Ev) : Bool := ((e.pa == 0) && (e.ps == 0)) && (!e.right && (e.char == 0))
theorem ev_cell15 (e : Ev) (hp : e.past.length = 8) : e.cells[13]? = some (.bool e.right) ∧ e.cells[14]? = some (.int .u8 e.char) ∧ e.cells[15]? = some (.int .u8 e.who) ∧ e.cells[16]? = some (.int .u8 e.role) ∧ e.cells.length = 17 := by
  obtain ⟨da, ds, past, kind, pa, ps, right, char, who, role⟩ := e
  match past, hp with
  | [_, _, _, _, _, _, _, _], _ => exact ⟨rfl, rfl, rfl, rfl, rfl⟩
set_option maxHeartbeats 1000000 in
theorem cnoMem_any (e : Ev) (w : World) (hp : e.past.length = 8) :
    Calls Tryz.prog 111 #[.agg e.cells.toArray] w fun x w' => x = .returned (.bool (noMemB e)) ∧ Below w.heap.size w w' := by
  have h0 := CellsAt.new w 76 e.cells
  have hB : Below w.heap.size w (w.alloc (.cells e.cells.toArray 76)) := (Below.refl _ _).alloc (Nat.le_refl _) _
  obtain ⟨_, _, q15, q16, _⟩ := ev_cell15 e hp
  have c15 := (h0.cell 15).trans q15
  have c16 := (h0.cell 16).trans q16
  have HH : Veil (noMemB e = ((e.who == 0) && (e.role == 0))) := ⟨rfl⟩
  obtain ⟨wo, hwo⟩ : ∃ q, e.who = q := ⟨_, rfl⟩
  obtain ⟨ro, hro⟩ : ∃ q, e.role = q := ⟨_, rfl⟩
  rw [hwo] at c15 HH
  rw [hro] at c16 HH
  clear q15 q16 hwo hro h0
  by_cases k1 : wo = 0
  · subst k1
    go_enter Tryz.func111, Tryz.ntmps111
    go_upto_region 1 with fail
    refine forget (p := fun y => Code.wp _ _ _ _ y) (fun W => Below w.heap.size w W ∧ W.cell? ⟨w.heap.size, 15, none⟩ = some (.int .u8 0) ∧ W.cell? ⟨w.heap.size, 16, none⟩ = some (.int .u8 ro)) ⟨hB, c15, c16⟩ ?_
    clear hB c15 c16
    rintro W ⟨hB, c15, c16⟩
    go_wp2
    go_ret
    exact ⟨by rw [HH.out]; rfl, hB⟩
  · have k1' : (wo == 0) = false := by simpa using k1
    go_enter Tryz.func111, Tryz.ntmps111
    go_upto_region 1 with fail
    refine forget (p := fun y => Code.wp _ _ _ _ y) (fun W => Below w.heap.size w W ∧ W.cell? ⟨w.heap.size, 15, none⟩ = some (.int .u8 wo) ∧ W.cell? ⟨w.heap.size, 16, none⟩ = some (.int .u8 ro)) ⟨hB, c15, c16⟩ ?_
    clear hB c15 c16
    rintro W ⟨hB, c15, c16⟩
    go_wp2
    go_ret
    exact ⟨by rw [HH.out, k1']; rfl, hB⟩
theorem ev_parent (e : Ev) (hp : e.past.length = 8) : (e.cells.drop 11).take 2 = dotC e.pa e.ps := (ev_parts e hp).2.2.2.1
theorem ev_past (e : Ev) (hp : e.past.length = 8) : (e.cells.drop 2).take 8 = e.past.map (Value.int .u32) := (ev_parts e hp).2.1
set_option maxHeartbeats 2000000 in
theorem cnoText_any (e : Ev) (w : World) (hp : e.past.length = 8) :
    Calls Tryz.prog 113 #[.agg e.cells.toArray] w fun x w' => x = .returned (.bool (noTextB e)) ∧ Below w.heap.size w w' := by
  have h0 := CellsAt.new w 76 e.cells
  have hB : Below w.heap.size w (w.alloc (.cells e.cells.toArray 76)) := (Below.refl _ _).alloc (Nat.le_refl _) _
  obtain ⟨q13, q14, _, _, _⟩ := ev_cell15 e hp
  have c13 := (h0.cell 13).trans q13
  have c14 := (h0.cell 14).trans q14
  have rg := h0.range 11 2
  rw [ev_parent e hp] at rg
  have heq : ∀ wx, (binOp BinOp.eql 28 (.agg (dotC e.pa e.ps).toArray) (.agg #[.int .u8 0, .int .u32 0])).run Tryz.prog wx = .ok (.bool ((e.pa == 0) && (e.ps == 0))) wx := fun wx => dot_eql e.pa e.ps 0 0 wx
  have HH : Veil (noTextB e = (((e.pa == 0) && (e.ps == 0)) && (!e.right && (e.char == 0)))) := ⟨rfl⟩
  obtain ⟨r, hr⟩ : ∃ q, ((e.pa == 0) && (e.ps == 0)) = q := ⟨_, rfl⟩
  simp only [hr] at heq
  rw [hr] at HH
  have hDl : (Tryz.prog.info? 28).map (·.size) = some (dotC e.pa e.ps).length := sizeDot
  obtain ⟨DP, hDP⟩ : ∃ q, dotC e.pa e.ps = q := ⟨_, rfl⟩
  rw [hDP] at rg hDl
  simp only [hDP] at heq
  obtain ⟨ri, hri⟩ : ∃ q, e.right = q := ⟨_, rfl⟩
  obtain ⟨ch, hch⟩ : ∃ q, e.char = q := ⟨_, rfl⟩
  rw [hri] at c13 HH
  rw [hch] at c14 HH
  have uD := Tryz.underlying28
  clear q13 q14 hri hch h0 hDP hr
  cases r <;> cases ri
  all_goals
    go_enter Tryz.func113, Tryz.ntmps113
    go_upto_region 1 with fail
    refine forget (p := fun y => Code.wp _ _ _ _ y) (fun W => Below w.heap.size w W ∧ W.cell? ⟨w.heap.size, 13, none⟩ = some (.bool _) ∧ W.cell? ⟨w.heap.size, 14, none⟩ = some (.int .u8 ch) ∧ W.rangeAt w.heap.size 11 DP) ⟨hB, c13, c14, rg⟩ ?_
    clear hB c13 c14 rg
    rintro W ⟨hB, c13, c14, rg⟩
    go_wp2_with (refine wpList_ldv rfl 28 _ rfl w.heap.size 11 rfl DP rg uD rfl hDl ?_)
    go_ret
    exact ⟨by rw [HH.out]; simp, hB⟩
end Go.Proofs.YtlhajphjppjlgaaGreatDoor
namespace Go.Proofs.YtlhajphjppjlgaaGreatDoor
open Go.RowKit
set_option maxRecDepth 20000
theorem wpList_ldgv {P : Program} {ops : Array Oper} {rest : List Oper} {o : Oper} {a : Act} {w : World} {Q : Exit → Act → World → Prop} {d : TypeDesc} (hw : Region.wanted o (yielded ops a.tmps) = true) (ty : TypeId) (x : Operand) (ho : o.op = .load ty x)
    (g off : Nat) (hx : a.eval x = .pointer (some ⟨g, off, none⟩)) (cs : List Value) (hg : w.rangeAt g off cs)
    (hu : P.underlying ty = some d) (hd : d.isRow = true) (hi : (P.info? ty).map (·.size) = some cs.length)
    (h : wpList P ops Q rest (a.put o.dst (.agg cs.toArray)) w) : wpList P ops Q (o :: rest) a w :=
  wpList_step fun K hK => by
    rw [if_pos hw]
    exact wp_load_mid ty x ho g off hx cs _ hg hu hd hi (hK _ _ h)
end Go.Proofs.YtlhajphjppjlgaaGreatDoor
