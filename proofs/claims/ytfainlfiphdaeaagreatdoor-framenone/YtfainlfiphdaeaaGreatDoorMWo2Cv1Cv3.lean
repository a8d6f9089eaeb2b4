/- 'Open' of wire; the reference's 'Open'. What was seen: 'Has', 'Within', 'Join' of causal and of its reference. (Written by mkcv1.py.) Which events are right: 'noMember', 'noText', 'rightDot' of causal. -/
import Derived.Test.YtfainlfiphdaeaaGreatDoorMGdRd1Rd2
import Derived.Test.YtfainlfiphdaeaaGreatDoorMRe3Wr5Wr6
import Derived.Test.YtfainlfiphdaeaaGreatDoorMGkEv0Gate
import Derived.Test.YtfainlfiphdaeaaGreatDoorMAn6EqdGate3
namespace Go.Proofs.YtfainlfiphdaeaaGreatDoor
open Go.RowKit
set_option maxRecDepth 20000
set_option linter.unusedSimpArgs false

theorem CellsAt.afar {w w' : World} {g : Nat} {t : TypeId} {cs : List Value} (h : CellsAt w g t cs) (hb : Below w.heap.size w w') : CellsAt w' g t cs := by
  have hl := h.lt
  unfold CellsAt at h ⊢; rw [hb.block g hl]; exact h
theorem CellsAt.grown {w w' : World} {base g : Nat} {v : Value} {z : List Int} {t : TypeId} {cs : List Value} (h : CellsAt w g t cs) (ho : OwnB w base v z) (hg : w.grownBy w' v.ownBlock) (ht : t ≠ 5) : CellsAt w' g t cs := grownT ho hg h ht
/-- A change of a block of another type leaves the bytes that grow. -/
theorem OwnB.keepT {w w' : World} {base g0 : Nat} {v : Value} {z : List Int} {t : TypeId} {cs : List Value} (h : OwnB w base v z) (hc : CellsAt w g0 t cs) (ht : t ≠ 5) (hk : ∀ g, g ≠ g0 → w'.heap[g]? = w.heap[g]?) : OwnB w' base v z := by
  refine ⟨h.1, ?_⟩
  rcases h.2 with h' | ⟨g, cap, cur, h1, h2, h3, h4⟩
  · exact .inl h'
  · refine .inr ⟨g, cap, cur, h1, h2, ?_, h4⟩
    rw [hk g (fun e => by
      subst e
      unfold CellsAt at hc
      rw [h3] at hc
      simp at hc
      exact ht hc.2.symm)]
    exact h3
set_option maxHeartbeats 4000000 in
theorem Open_long (F : Fr) (xw : Option Addr) (lw cw : Nat) (w : World) (hp : F.prev.length = 32) (hm : F.mac.length = 32) (hfw : F.wraps = .slice xw lw cw) (hl : 64 < lw) :
    Calls Tryz.prog 55 #[.agg F.cells.toArray] w fun e w' => e = .returned (.slice none 0 0) ∧ Below w.heap.size w w' := by
  obtain ⟨_, _, _, _, _, q6, _, _⟩ := fr_parts F hp hm
  have hD0 := CellsAt.new w 43 F.cells
  have hB0 : Below w.heap.size w (w.alloc (.cells F.cells.toArray 43)) := (Below.refl _ _).alloc (Nat.le_refl _) _
  have c36 := hD0.cell 36
  rw [q6, hfw] at c36
  clear q6 hfw hp hm hD0
  have h1' : (lw : Int) > 64 := by omega
  go_enter Tryz.func55, Tryz.ntmps55
  go_wp2
  go_ret
  exact ⟨rfl, hB0⟩
set_option maxHeartbeats 4000000 in
theorem Open_any (F : Fr) (xw : Option Addr) (lw cw : Nat) (ws : List Wp) (w : World) (hp : F.prev.length = 32) (hm : F.mac.length = 32) (hfw : F.wraps = .slice xw lw cw) (hws : WrapsAt w xw lw cw ws) (h1 : lw ≤ 64) :
    Calls Tryz.prog 55 #[.agg F.cells.toArray] w fun e w' => ∃ v, e = .returned v ∧ OwnB w' w.heap.size v (openL F ws) ∧ Below w.heap.size w w' := by
  obtain ⟨q0, _, _, _, _, q6, q7, q8⟩ := fr_parts F hp hm
  have HQ : Veil (F.cells[36]? = some (.slice xw lw cw)) := ⟨by rw [← hfw]; exact q6⟩
  have hiF : (Tryz.prog.info? 43).map (·.size) = some F.cells.length := by rw [q0]; exact sizeFrame
  have hop := fun wx (h0 : Below w.heap.size w wx) (h : Wr wx (w.heap.size + 1) w.heap.size []) => openly_any (w.heap.size + 1) w.heap.size [] F xw lw cw ws wx h hp hm hfw (fun wy hy => hws.below (h0.trans hy)) (by omega) (by simp)
  have hD0 := CellsAt.new w 43 F.cells
  have hB0 : Below w.heap.size w (w.alloc (.cells F.cells.toArray 43)) := (Below.refl _ _).alloc (Nat.le_refl _) _
  have h1' : ¬ (lw : Int) > 64 := by omega
  have c36 := hD0.cell 36
  rw [HQ.out] at c36
  have hcw := hws.le
  have htw := hws.top
  clear q0 q6 q7 q8 hfw hp hm hws
  go_enter Tryz.func55, Tryz.ntmps55
  go_upto_region 3 with fail
  refine forget (p := fun y => Code.wp _ _ _ _ y) (fun W0 => Below w.heap.size w W0 ∧ W0.heap.size = w.heap.size + 1 ∧ CellsAt W0 w.heap.size 43 F.cells) ⟨hB0, by simp, hD0⟩ ?_
  clear hB0 hD0 c36
  rintro W0 ⟨hB0, hsz0, hD0⟩
  have hbx : Box (W0.alloc (.cells #[.slice none 0 0] 143)) (w.heap.size + 1) 143 (.slice none 0 0) := by
    have : Box (W0.alloc (.cells #[.slice none 0 0] 143)) W0.heap.size 143 (.slice none 0 0) := heap_alloc_new _ _
    rw [hsz0] at this
    exact this
  have hW1 : Wr (W0.alloc (.cells #[.slice none 0 0] 143)) (w.heap.size + 1) w.heap.size [] := ⟨by omega, _, hbx, OwnB.nil _ _⟩
  have hD1 := hD0.alloc (.cells #[.slice none 0 0] 143)
  have hB1 := hB0.alloc hB0.size (.cells #[.slice none 0 0] 143)
  go_upto_region 4 with fail
  refine forget (p := fun y => Code.wp _ _ _ _ y) (fun W1 => Below w.heap.size w W1 ∧ Wr W1 (w.heap.size + 1) w.heap.size [] ∧ CellsAt W1 w.heap.size 43 F.cells) ⟨hB1, hW1, hD1⟩ ?_
  clear hB1 hW1 hD1 hbx hB0 hD0 hsz0
  rintro W1 ⟨hB1, hW1, hD1⟩
  have rE : W1.rangeAt w.heap.size 0 F.cells := fun j v hv => by rw [Nat.zero_add, hD1.cell]; exact hv
  have hop1 := hop W1 hB1 hW1
  rw [List.nil_append] at hop1
  go_upto_region 5 with (first
    | (refine wpList_ldv rfl 43 _ rfl _ _ rfl F.cells rE Tryz.underlying43 rfl hiF ?_)
    | (go_at_call 111; refine hop1.mono ?_; rintro e w2 ⟨⟨r2, rfl⟩, hW2, hg2⟩))
  have hB2 : Below w.heap.size w w2 := hB1.trans hg2.below
  obtain ⟨v, hb5, ho5⟩ := hW2.has
  have c0 := hb5.cell
  obtain ⟨x5, n5, c5, rfl, hn5⟩ := ho5.isSlice
  clear hn5 hop hop1 rE hD1 hW1 hB1 hg2 hb5 hW2
  go_wp2
  go_ret
  exact ⟨_, rfl, ho5, hB2⟩
end Go.Proofs.YtfainlfiphdaeaaGreatDoor

namespace Go.Proofs.YtfainlfiphdaeaaGreatDoor
open Go.RowKit
set_option maxRecDepth 20000
set_option linter.unusedSimpArgs false

/-- Was the dot a, s seen by v? -/
def hasB (v : List Int) (a s : Int) : Bool := decide (a < 8) && (!(s == 0) && decide (s ≤ v[a.toNat]?.getD 0))
theorem ret_bC {a b : Bool} (h : a = b) : Ending.returned (.bool a) = .returned (.bool b) := by rw [h]
/-- Are the first n numbers of a none above those of b? -/
def withinTo (a b : List Int) : Nat → Bool
  | 0 => true
  | n + 1 => withinTo a b n && !decide (a[n]?.getD 0 > b[n]?.getD 0)
def withinB (a b : List Int) : Bool := withinTo a b 8
theorem withinTo_false (a b : List Int) (k : Nat) : ∀ {n : Nat}, k < n → b[k]?.getD 0 < a[k]?.getD 0 → withinTo a b n = false
  | 0, h, _ => absurd h (Nat.not_lt_zero _)
  | n + 1, h, hl => by
    unfold withinTo
    by_cases e : k = n
    · subst e; simp [hl]
    · rw [withinTo_false a b k (n := n) (by omega) hl]; rfl

set_option maxHeartbeats 1000000 in
theorem chas_any (v : List Int) (a s : Int) (w : World) (hv : v.length = 8) (ha : 0 ≤ a) (hs : 0 ≤ s) :
    Calls Tryz.prog 147 #[.agg (row .u32 v), .agg (dotC a s).toArray] w fun e w' => e = .returned (.bool (hasB v a s)) ∧ Below w.heap.size w w' := by
  have hv0 := Holds.new w .u32 29 v
  have hd0 := CellsAt.new (w.alloc (.cells (row .u32 v) 29)) 26 (dotC a s)
  rw [World.size_alloc] at hd0
  have hv1 := hv0.alloc (.cells (dotC a s).toArray 26)
  have hB : Below w.heap.size w ((w.alloc (.cells (row .u32 v) 29)).alloc (.cells (dotC a s).toArray 26)) := ((Below.refl _ _).alloc (Nat.le_refl _) _).alloc (by simp) _
  have c0 := hd0.cell 0
  have c1 := hd0.cell 1
  rw [show (dotC a s)[0]? = some (.int .u8 a) from rfl] at c0
  rw [show (dotC a s)[1]? = some (.int .u32 s) from rfl] at c1
  by_cases ha8 : a < 8
  · have HH : Veil (hasB v a s = (!(s == 0) && decide (s ≤ v[a.toNat]?.getD 0))) := ⟨by simp [hasB, ha8]⟩
    have cv := hv1.cell a.toNat (by omega)
    obtain ⟨q, hq⟩ : ∃ q, v[a.toNat]?.getD 0 = q := ⟨_, rfl⟩
    rw [hq] at cv HH
    obtain ⟨n, rfl⟩ := Int.eq_ofNat_of_zero_le ha
    rw [Int.toNat_natCast] at cv
    by_cases h0 : s = 0
    · subst h0
      clear hq hv hs
      go_enter Tryz.func147, Tryz.ntmps147
      go_wp2_with fail
      refine forget (p := fun y => Code.wp _ _ _ _ y) (fun W => Below w.heap.size w W ∧ W.cell? ⟨w.heap.size + 1, 0, none⟩ = some (.int .u8 n) ∧ W.cell? ⟨w.heap.size + 1, 1, none⟩ = some (.int .u32 0)) ⟨hB, c0, c1⟩ ?_
      clear hB c0 c1 hd0 hv0 hv1 cv
      rintro W ⟨hB, c0, c1⟩
      go_quiet ((fail))
      go_wp2
      go_ret
      exact ⟨by rw [HH.out]; rfl, below_drewN hB _⟩
    · have h1 : (s == 0) = false := by simpa using h0
      have h2 : 0 < s := by omega
      rw [h1] at HH
      clear hq hv hs
      go_enter Tryz.func147, Tryz.ntmps147
      go_wp2_with fail
      refine forget (p := fun y => Code.wp _ _ _ _ y) (fun W => Below w.heap.size w W ∧ W.cell? ⟨w.heap.size + 1, 0, none⟩ = some (.int .u8 n) ∧ W.cell? ⟨w.heap.size + 1, 1, none⟩ = some (.int .u32 s) ∧ W.cell? ⟨w.heap.size, n, none⟩ = some (.int .u32 q)) ⟨hB, c0, c1, cv⟩ ?_
      clear hB c0 c1 hd0 hv0 hv1 cv
      rintro W ⟨hB, c0, c1, cv⟩
      go_quiet ((fail))
      go_wp2
      go_ret
      exact ⟨by rw [HH.out]; exact ret_bC (by simp [bne, h1]), below_drewN hB _⟩
  · have HH : Veil (hasB v a s = false) := ⟨by simp [hasB, ha8]⟩
    have hd8 : decide (a < 8) = false := by simp [ha8]
    clear hv hs ha
    go_enter Tryz.func147, Tryz.ntmps147
    go_wp2_with fail
    refine forget (p := fun y => Code.wp _ _ _ _ y) (fun W => Below w.heap.size w W ∧ W.cell? ⟨w.heap.size + 1, 0, none⟩ = some (.int .u8 a)) ⟨hB, c0⟩ ?_
    clear hB c0 c1 hd0 hv0 hv1
    rintro W ⟨hB, c0⟩
    go_quiet ((fail))
    go_wp2
    go_ret
    exact ⟨by rw [HH.out]; rfl, below_drewN hB _⟩
set_option maxHeartbeats 1000000 in
theorem rhas_any (v : List Int) (a s : Int) (w : World) (hv : v.length = 8) (ha : 0 ≤ a) (hs : 0 ≤ s) :
    Calls Tryz.prog 83 #[.agg (row .u32 v), .agg (dotC a s).toArray] w fun e w' => e = .returned (.bool (hasB v a s)) ∧ Below w.heap.size w w' := by
  have hv0 := Holds.new w .u32 29 v
  have hd0 := CellsAt.new (w.alloc (.cells (row .u32 v) 29)) 26 (dotC a s)
  rw [World.size_alloc] at hd0
  have hv1 := hv0.alloc (.cells (dotC a s).toArray 26)
  have hB : Below w.heap.size w ((w.alloc (.cells (row .u32 v) 29)).alloc (.cells (dotC a s).toArray 26)) := ((Below.refl _ _).alloc (Nat.le_refl _) _).alloc (by simp) _
  have c0 := hd0.cell 0
  have c1 := hd0.cell 1
  rw [show (dotC a s)[0]? = some (.int .u8 a) from rfl] at c0
  rw [show (dotC a s)[1]? = some (.int .u32 s) from rfl] at c1
  by_cases ha8 : a < 8
  · have HH : Veil (hasB v a s = (!(s == 0) && decide (s ≤ v[a.toNat]?.getD 0))) := ⟨by simp [hasB, ha8]⟩
    have cv := hv1.cell a.toNat (by omega)
    obtain ⟨q, hq⟩ : ∃ q, v[a.toNat]?.getD 0 = q := ⟨_, rfl⟩
    rw [hq] at cv HH
    obtain ⟨n, rfl⟩ := Int.eq_ofNat_of_zero_le ha
    rw [Int.toNat_natCast] at cv
    by_cases h0 : s = 0
    · subst h0
      clear hq hv hs
      go_enter Tryz.func83, Tryz.ntmps83
      go_wp2_with fail
      refine forget (p := fun y => Code.wp _ _ _ _ y) (fun W => Below w.heap.size w W ∧ W.cell? ⟨w.heap.size + 1, 0, none⟩ = some (.int .u8 n) ∧ W.cell? ⟨w.heap.size + 1, 1, none⟩ = some (.int .u32 0)) ⟨hB, c0, c1⟩ ?_
      clear hB c0 c1 hd0 hv0 hv1 cv
      rintro W ⟨hB, c0, c1⟩
      go_quiet ((fail))
      go_wp2
      go_ret
      exact ⟨by rw [HH.out]; rfl, below_drewN hB _⟩
    · have h1 : (s == 0) = false := by simpa using h0
      have h2 : 0 < s := by omega
      rw [h1] at HH
      clear hq hv hs
      go_enter Tryz.func83, Tryz.ntmps83
      go_wp2_with fail
      refine forget (p := fun y => Code.wp _ _ _ _ y) (fun W => Below w.heap.size w W ∧ W.cell? ⟨w.heap.size + 1, 0, none⟩ = some (.int .u8 n) ∧ W.cell? ⟨w.heap.size + 1, 1, none⟩ = some (.int .u32 s) ∧ W.cell? ⟨w.heap.size, n, none⟩ = some (.int .u32 q)) ⟨hB, c0, c1, cv⟩ ?_
      clear hB c0 c1 hd0 hv0 hv1 cv
      rintro W ⟨hB, c0, c1, cv⟩
      go_quiet ((fail))
      go_wp2
      go_ret
      exact ⟨by rw [HH.out]; exact ret_bC (by simp [bne, h1]), below_drewN hB _⟩
  · have HH : Veil (hasB v a s = false) := ⟨by simp [hasB, ha8]⟩
    have hd8 : decide (a < 8) = false := by simp [ha8]
    clear hv hs ha
    go_enter Tryz.func83, Tryz.ntmps83
    go_wp2_with fail
    refine forget (p := fun y => Code.wp _ _ _ _ y) (fun W => Below w.heap.size w W ∧ W.cell? ⟨w.heap.size + 1, 0, none⟩ = some (.int .u8 a)) ⟨hB, c0⟩ ?_
    clear hB c0 c1 hd0 hv0 hv1
    rintro W ⟨hB, c0⟩
    go_quiet ((fail))
    go_wp2
    go_ret
    exact ⟨by rw [HH.out]; rfl, below_drewN hB _⟩
end Go.Proofs.YtfainlfiphdaeaaGreatDoor

namespace Go.Proofs.YtfainlfiphdaeaaGreatDoor
open Go.RowKit
set_option maxRecDepth 20000
set_option linter.unusedSimpArgs false

/-- An event's number of a member, and role, are none. -/
def noMemB (e : Ev) : Bool := (e.who == 0) && (e.role == 0)
/-- An event says nothing of a text. -/
def noTextB (e : Ev) : Bool := ((e.pa == 0) && (e.ps == 0)) && (!e.right && (e.char == 0))
theorem ev_cell15 (e : Ev) (hp : e.past.length = 8) : e.cells[13]? = some (.bool e.right) ∧ e.cells[14]? = some (.int .u8 e.char) ∧ e.cells[15]? = some (.int .u8 e.who) ∧ e.cells[16]? = some (.int .u8 e.role) ∧ e.cells.length = 17 := by
  obtain ⟨da, ds, past, kind, pa, ps, right, char, who, role⟩ := e
  match past, hp with
  | [_, _, _, _, _, _, _, _], _ => exact ⟨rfl, rfl, rfl, rfl, rfl⟩
set_option maxHeartbeats 1000000 in
theorem cnoMem_any (e : Ev) (w : World) (hp : e.past.length = 8) :
    Calls Tryz.prog 146 #[.agg e.cells.toArray] w fun x w' => x = .returned (.bool (noMemB e)) ∧ Below w.heap.size w w' := by
  have h0 := CellsAt.new w 33 e.cells
  have hB : Below w.heap.size w (w.alloc (.cells e.cells.toArray 33)) := (Below.refl _ _).alloc (Nat.le_refl _) _
  obtain ⟨_, _, q15, q16, _⟩ := ev_cell15 e hp
  have c15 := (h0.cell 15).trans q15
  have c16 := (h0.cell 16).trans q16
  have HH : Veil (noMemB e = ((e.who == 0) && (e.role == 0))) := ⟨rfl⟩
  obtain ⟨wo, hwo⟩ : ∃ q, e.who = q := ⟨_, rfl⟩
  obtain ⟨ro, hro⟩ : ∃ q, e.role = q := ⟨_, rfl⟩
  rw [hwo] at c15 HH
  rw [hro] at c16 HH
  clear q15 q16 hwo hro h0
  by_cases k1 : wo = 0
  · subst k1
    go_enter Tryz.func146, Tryz.ntmps146
    go_upto_region 1 with fail
    refine forget (p := fun y => Code.wp _ _ _ _ y) (fun W => Below w.heap.size w W ∧ W.cell? ⟨w.heap.size, 15, none⟩ = some (.int .u8 0) ∧ W.cell? ⟨w.heap.size, 16, none⟩ = some (.int .u8 ro)) ⟨hB, c15, c16⟩ ?_
    clear hB c15 c16
    rintro W ⟨hB, c15, c16⟩
    go_wp2
    go_ret
    exact ⟨by rw [HH.out]; rfl, hB⟩
  · have k1' : (wo == 0) = false := by simpa using k1
    go_enter Tryz.func146, Tryz.ntmps146
    go_upto_region 1 with fail
    refine forget (p := fun y => Code.wp _ _ _ _ y) (fun W => Below w.heap.size w W ∧ W.cell? ⟨w.heap.size, 15, none⟩ = some (.int .u8 wo) ∧ W.cell? ⟨w.heap.size, 16, none⟩ = some (.int .u8 ro)) ⟨hB, c15, c16⟩ ?_
    clear hB c15 c16
    rintro W ⟨hB, c15, c16⟩
    go_wp2
    go_ret
    exact ⟨by rw [HH.out, k1']; rfl, hB⟩
theorem ev_parent (e : Ev) (hp : e.past.length = 8) : (e.cells.drop 11).take 2 = dotC e.pa e.ps := (ev_parts e hp).2.2.2.1
theorem ev_past (e : Ev) (hp : e.past.length = 8) : (e.cells.drop 2).take 8 = e.past.map (Value.int .u32) := (ev_parts e hp).2.1
set_option maxHeartbeats 2000000 in
theorem cnoText_any (e : Ev) (w : World) (hp : e.past.length = 8) :
    Calls Tryz.prog 148 #[.agg e.cells.toArray] w fun x w' => x = .returned (.bool (noTextB e)) ∧ Below w.heap.size w w' := by
  have h0 := CellsAt.new w 33 e.cells
  have hB : Below w.heap.size w (w.alloc (.cells e.cells.toArray 33)) := (Below.refl _ _).alloc (Nat.le_refl _) _
  obtain ⟨q13, q14, _, _, _⟩ := ev_cell15 e hp
  have c13 := (h0.cell 13).trans q13
  have c14 := (h0.cell 14).trans q14
  have rg := h0.range 11 2
  rw [ev_parent e hp] at rg
  have heq : ∀ wx, (binOp BinOp.eql 26 (.agg (dotC e.pa e.ps).toArray) (.agg #[.int .u8 0, .int .u32 0])).run Tryz.prog wx = .ok (.bool ((e.pa == 0) && (e.ps == 0))) wx := fun wx => dot_eql e.pa e.ps 0 0 wx
  have HH : Veil (noTextB e = (((e.pa == 0) && (e.ps == 0)) && (!e.right && (e.char == 0)))) := ⟨rfl⟩
  obtain ⟨r, hr⟩ : ∃ q, ((e.pa == 0) && (e.ps == 0)) = q := ⟨_, rfl⟩
  simp only [hr] at heq
  rw [hr] at HH
  have hDl : (Tryz.prog.info? 26).map (·.size) = some (dotC e.pa e.ps).length := sizeDot
  obtain ⟨DP, hDP⟩ : ∃ q, dotC e.pa e.ps = q := ⟨_, rfl⟩
  rw [hDP] at rg hDl
  simp only [hDP] at heq
  obtain ⟨ri, hri⟩ : ∃ q, e.right = q := ⟨_, rfl⟩
  obtain ⟨ch, hch⟩ : ∃ q, e.char = q := ⟨_, rfl⟩
  rw [hri] at c13 HH
  rw [hch] at c14 HH
  have uD := Tryz.underlying26
  clear q13 q14 hri hch h0 hDP hr
  cases r <;> cases ri
  all_goals
    go_enter Tryz.func148, Tryz.ntmps148
    go_upto_region 1 with fail
    refine forget (p := fun y => Code.wp _ _ _ _ y) (fun W => Below w.heap.size w W ∧ W.cell? ⟨w.heap.size, 13, none⟩ = some (.bool _) ∧ W.cell? ⟨w.heap.size, 14, none⟩ = some (.int .u8 ch) ∧ W.rangeAt w.heap.size 11 DP) ⟨hB, c13, c14, rg⟩ ?_
    clear hB c13 c14 rg
    rintro W ⟨hB, c13, c14, rg⟩
    go_wp2_with (refine wpList_ldv rfl 26 _ rfl w.heap.size 11 rfl DP rg uD rfl hDl ?_)
    go_ret
    exact ⟨by rw [HH.out]; simp, hB⟩
end Go.Proofs.YtfainlfiphdaeaaGreatDoor
