/- 'SameFrame' of wire, and the reference's, of any two frames. (Written by mksame.py.) 'SameFrame' of wire. (Written by mksame.py.) -/
import Derived.Test.YtgepicbijpfhhaaEqw
import Derived.Test.YtgepicbijpfhhaaEvl
import Derived.Test.YtgepicbijpfhhaaWo2
namespace Go.Proofs.Ytgepicbijpfhhaa
open Go.RowKit
set_option maxRecDepth 20000
set_option linter.unusedSimpArgs false

/-- Are frames the same? -/
noncomputable def sameB (F : Fr) (ws : List Wp) (body : List Int) (G : Fr) (vs : List Wp) (bp : List Int) : Bool :=
  (F.author == G.author) && (F.number == G.number) && ((F.ea == G.ea) && (F.es == G.es)) && (F.prev == G.prev) && wsB ws vs && ((strOfNums body).toList == (strOfNums bp).toList) && (F.mac == G.mac)
theorem sameB_refl (F : Fr) (ws : List Wp) (body : List Int) : sameB F ws body F ws body = true := by unfold sameB; simp [wsB_true]
theorem wsB_comm (a b : List Wp) : wsB a b = wsB b a := by
  by_cases h : a = b
  · rw [wsB_true h, wsB_true h.symm]
  · rw [wsB_false h, wsB_false (fun e => h e.symm)]
theorem beqInt_comm (a b : Int) : (a == b) = (b == a) := BEq.comm
theorem beqList_comm (a b : List Int) : (a == b) = (b == a) := BEq.comm
theorem beqBytes_comm (a b : List UInt8) : (a == b) = (b == a) := BEq.comm
theorem sameB_comm (F : Fr) (ws : List Wp) (body : List Int) (G : Fr) (vs : List Wp) (bp : List Int) : sameB F ws body G vs bp = sameB G vs bp F ws body := by
  unfold sameB
  rw [beqInt_comm F.author, beqInt_comm F.number, beqInt_comm F.ea, beqInt_comm F.es, beqList_comm F.prev, beqList_comm F.mac, wsB_comm ws, beqBytes_comm (strOfNums body).toList]
end Go.Proofs.Ytgepicbijpfhhaa

namespace Go.Proofs.Ytgepicbijpfhhaa
open Go.RowKit
set_option maxRecDepth 20000
set_option linter.unusedSimpArgs false

set_option maxHeartbeats 8000000 in
theorem SameFrame_any (F : Fr) (xw : Option Addr) (lw cw : Nat) (ws : List Wp) (xb : Option Addr) (lb cb : Nat) (body : List Int) (G : Fr) (yw : Option Addr) (mw dw : Nat) (vs : List Wp) (yb : Option Addr) (mb db : Nat) (bp : List Int) (w : World)
    (hp : F.prev.length = 32) (hm : F.mac.length = 32) (hfw : F.wraps = .slice xw lw cw) (hws : WrapsAt w xw lw cw ws) (hfb : F.body = .slice xb lb cb) (hbo : Bytes w xb lb cb body)
    (kp : G.prev.length = 32) (km : G.mac.length = 32) (kfw : G.wraps = .slice yw mw dw) (kws : WrapsAt w yw mw dw vs) (kfb : G.body = .slice yb mb db) (kbo : Bytes w yb mb db bp) :
    Calls Try.prog 10 #[.agg F.cells.toArray, .agg G.cells.toArray] w fun e w' => e = .returned (.bool (sameB F ws body G vs bp)) ∧ Below w.heap.size w w' := by
  obtain ⟨_, q1, q2, q3, q4, q5, q6, q7⟩ := fr_parts F hp hm
  obtain ⟨_, p1, p2, p3, p4, p5, p6, p7⟩ := fr_parts G kp km
  rw [hfw] at q5
  rw [hfb] at q6
  rw [kfw] at p5
  rw [kfb] at p6
  have hdq := fun wx => dot_eql F.ea F.es G.ea G.es wx
  have hkq := fun wx => key_eql F.prev G.prev hp kp wx
  have hmq := fun wx => key_eql F.mac G.mac hm km wx
  have uD := Try.underlying24
  have iD : ∀ a s : Int, (Try.prog.info? 24).map (·.size) = some (dotC a s).length := fun a s => sizeDot
  have uK := Try.underlying26
  have iK : ∀ l : List Int, l.length = 32 → (Try.prog.info? 26).map (·.size) = some (l.map (Value.int .u8)).length := fun l hl => by rw [List.length_map, hl]; exact keySz
  have i1 := iK F.prev hp
  have i2 := iK G.prev kp
  have i3 := iK F.mac hm
  have i4 := iK G.mac km
  have j1 := iD F.ea F.es
  have j2 := iD G.ea G.es
  have HSAME : Veil (sameB F ws body G vs bp = ((F.author == G.author) && (F.number == G.number) && ((F.ea == G.ea) && (F.es == G.es)) && (F.prev == G.prev) && wsB ws vs && ((strOfNums body).toList == (strOfNums bp).toList) && (F.mac == G.mac))) := ⟨rfl⟩
  obtain ⟨SB, hSB⟩ : ∃ q, sameB F ws body G vs bp = q := ⟨_, rfl⟩
  rw [hSB] at HSAME ⊢
  obtain ⟨b1, h1⟩ : ∃ q, (F.author == G.author) = q := ⟨_, rfl⟩
  obtain ⟨b2, h2⟩ : ∃ q, (F.number == G.number) = q := ⟨_, rfl⟩
  obtain ⟨b3, h3⟩ : ∃ q, ((F.ea == G.ea) && (F.es == G.es)) = q := ⟨_, rfl⟩
  obtain ⟨b4, h4⟩ : ∃ q, (F.prev == G.prev) = q := ⟨_, rfl⟩
  obtain ⟨b5, h5⟩ : ∃ q, wsB ws vs = q := ⟨_, rfl⟩
  obtain ⟨b6, h6⟩ : ∃ q, ((strOfNums body).toList == (strOfNums bp).toList) = q := ⟨_, rfl⟩
  obtain ⟨b7, h7⟩ : ∃ q, (F.mac == G.mac) = q := ⟨_, rfl⟩
  rw [h1, h2, h3, h4, h5, h6, h7] at HSAME
  rw [h3] at hdq
  rw [h4] at hkq
  rw [h7] at hmq
  have h1b : (F.author != G.author) = !b1 := by rw [bne, h1]
  have h2b : (F.number != G.number) = !b2 := by rw [bne, h2]
  have hsl : ∀ wx, Below w.heap.size w wx → Calls Try.prog 20 #[.slice xw lw cw, .slice yw mw dw] wx fun e w' => e = .returned (.bool b5) ∧ Below wx.heap.size wx w' := fun wx h => by rw [← h5]; exact slicesEqual_any xw lw cw ws yw mw dw vs wx (hws.below h) (kws.below h)
  have hbe : ∀ wx, Below w.heap.size w wx → Calls Try.prog 21 #[.slice xb lb cb, .slice yb mb db] wx fun e w' => e = .returned (.bool b6) ∧ wx = w' := fun wx h => bytesEqual_any xb lb cb body yb mb db bp wx (hbo.below h) (kbo.below h) b6 h6
  have hA0 : CellsAt ((w.alloc (.cells F.cells.toArray 30)).alloc (.cells G.cells.toArray 30)) w.heap.size 30 F.cells := (CellsAt.new w 30 F.cells).alloc _
  have hG0 : CellsAt ((w.alloc (.cells F.cells.toArray 30)).alloc (.cells G.cells.toArray 30)) (w.heap.size + 1) 30 G.cells := by
    have := CellsAt.new (w.alloc (.cells F.cells.toArray 30)) 30 G.cells
    rw [World.size_alloc] at this
    exact this
  have hB0 : Below w.heap.size w ((w.alloc (.cells F.cells.toArray 30)).alloc (.cells G.cells.toArray 30)) := ((Below.refl _ _).alloc (Nat.le_refl _) _).alloc (by simp) _
  have KEEP : Veil (∀ W, CellsAt W w.heap.size 30 F.cells → CellsAt W (w.heap.size + 1) 30 G.cells → (W.cell? ⟨w.heap.size, 0, none⟩ = some (.int .u8 F.author) ∧ W.cell? ⟨w.heap.size, 1, none⟩ = some (.int .u32 F.number) ∧ W.rangeAt w.heap.size 2 (dotC F.ea F.es) ∧ W.rangeAt w.heap.size 4 (F.prev.map (Value.int .u8)) ∧ W.cell? ⟨w.heap.size, 36, none⟩ = some (.slice xw lw cw) ∧ W.cell? ⟨w.heap.size, 37, none⟩ = some (.slice xb lb cb) ∧ W.rangeAt w.heap.size 38 (F.mac.map (Value.int .u8))) ∧
      (W.cell? ⟨w.heap.size + 1, 0, none⟩ = some (.int .u8 G.author) ∧ W.cell? ⟨w.heap.size + 1, 1, none⟩ = some (.int .u32 G.number) ∧ W.rangeAt (w.heap.size + 1) 2 (dotC G.ea G.es) ∧ W.rangeAt (w.heap.size + 1) 4 (G.prev.map (Value.int .u8)) ∧ W.cell? ⟨w.heap.size + 1, 36, none⟩ = some (.slice yw mw dw) ∧ W.cell? ⟨w.heap.size + 1, 37, none⟩ = some (.slice yb mb db) ∧ W.rangeAt (w.heap.size + 1) 38 (G.mac.map (Value.int .u8)))) := ⟨fun W h k =>
    ⟨⟨by rw [h.cell]; exact q1, by rw [h.cell]; exact q2, by have := h.range 2 2; rw [q3] at this; exact this, by have := h.range 4 32; rw [q4] at this; exact this, by rw [h.cell]; exact q5, by rw [h.cell]; exact q6, by have := h.range 38 32; rw [q7] at this; exact this⟩,
     ⟨by rw [k.cell]; exact p1, by rw [k.cell]; exact p2, by have := k.range 2 2; rw [p3] at this; exact this, by have := k.range 4 32; rw [p4] at this; exact this, by rw [k.cell]; exact p5, by rw [k.cell]; exact p6, by have := k.range 38 32; rw [p7] at this; exact this⟩⟩⟩
  clear hSB hp hm hfw hws hfb hbo kp km kfw kws kfb kbo q1 q2 q3 q4 q5 q6 q7 p1 p2 p3 p4 p5 p6 p7 h3 h4 h5 h6 h7 iK iD
  go_enter Try.func10, Try.ntmps10
  go_upto_region 1 with fail
  refine forget (p := fun y => Code.wp _ _ _ _ y) (fun W => Below w.heap.size w W ∧ CellsAt W w.heap.size 30 F.cells ∧ CellsAt W (w.heap.size + 1) 30 G.cells) ⟨hB0, hA0, hG0⟩ ?_
  clear hB0 hA0 hG0
  rintro W ⟨hB0, hA0, hG0⟩
  obtain ⟨GB, hGB⟩ : ∃ q, w.heap.size + 1 = q := ⟨_, rfl⟩
  have HGB : Veil (w.heap.size + 1 = GB) := ⟨hGB⟩
  rw [hGB] at hG0 KEEP ⊢
  clear hGB
  obtain ⟨⟨c0, c1, rD, rP, c36, c37, rM⟩, ⟨k0, k1, sD, sP, k36, k37, sM⟩⟩ := KEEP.out W hA0 hG0
  cases b1 with
  | false =>
    go_wp2_with fail
    go_ret
    exact ⟨by rw [HSAME.out]; rfl, hB0⟩
  | true =>
    cases b2 with
    | false =>
      go_wp2_with fail
      go_ret
      exact ⟨by rw [HSAME.out]; rfl, hB0⟩
    | true =>
      cases b3 with
      | false =>
        go_wp2_with (first
            | (refine wpList_ldgv (by kernel_rfl) _ _ rfl _ _ rfl _ (by assumption) (by assumption) (by rfl) (by assumption) ?_))
        go_ret
        exact ⟨by rw [HSAME.out]; rfl, hB0⟩
      | true =>
        cases b4 with
        | false =>
          go_wp2_with (first
              | (refine wpList_ldgv (by kernel_rfl) _ _ rfl _ _ rfl _ (by assumption) (by assumption) (by rfl) (by assumption) ?_))
          go_ret
          exact ⟨by rw [HSAME.out]; rfl, hB0⟩
        | true =>
          cases b5 with
          | false =>
            go_wp2_with (first
                | (refine wpList_ldgv (by kernel_rfl) _ _ rfl _ _ rfl _ (by assumption) (by assumption) (by rfl) (by assumption) ?_)
                | (go_at_call 20; refine (hsl _ hB0).mono ?_; rintro e w1 ⟨rfl, hb1⟩; obtain ⟨⟨_, _, _, _, _, c37b, rM1⟩, ⟨_, _, _, _, _, k37b, sM1⟩⟩ := KEEP.out w1 (hA0.afar hb1) (hG0.afar hb1); have hB1 := hB0.trans (hb1.mono hB0.size)))
            go_ret
            exact ⟨by rw [HSAME.out]; rfl, hB1⟩
          | true =>
            cases b6 with
            | false =>
              go_wp2_with (first
                  | (refine wpList_ldgv (by kernel_rfl) _ _ rfl _ _ rfl _ (by assumption) (by assumption) (by rfl) (by assumption) ?_)
                  | (go_at_call 20; refine (hsl _ hB0).mono ?_; rintro e w1 ⟨rfl, hb1⟩; obtain ⟨⟨_, _, _, _, _, c37b, rM1⟩, ⟨_, _, _, _, _, k37b, sM1⟩⟩ := KEEP.out w1 (hA0.afar hb1) (hG0.afar hb1); have hB1 := hB0.trans (hb1.mono hB0.size))
                  | (go_at_call 21; refine (hbe _ hB1).mono ?_; rintro e w2 ⟨rfl, rfl⟩))
              go_ret
              exact ⟨by rw [HSAME.out]; rfl, hB1⟩
            | true =>
              cases b7 with
              | false =>
                go_wp2_with (first
                    | (refine wpList_ldgv (by kernel_rfl) _ _ rfl _ _ rfl _ (by assumption) (by assumption) (by rfl) (by assumption) ?_)
                    | (go_at_call 20; refine (hsl _ hB0).mono ?_; rintro e w1 ⟨rfl, hb1⟩; obtain ⟨⟨_, _, _, _, _, c37b, rM1⟩, ⟨_, _, _, _, _, k37b, sM1⟩⟩ := KEEP.out w1 (hA0.afar hb1) (hG0.afar hb1); have hB1 := hB0.trans (hb1.mono hB0.size))
                    | (go_at_call 21; refine (hbe _ hB1).mono ?_; rintro e w2 ⟨rfl, rfl⟩))
                go_ret
                exact ⟨by rw [HSAME.out]; rfl, hB1⟩
              | true =>
                go_wp2_with (first
                    | (refine wpList_ldgv (by kernel_rfl) _ _ rfl _ _ rfl _ (by assumption) (by assumption) (by rfl) (by assumption) ?_)
                    | (go_at_call 20; refine (hsl _ hB0).mono ?_; rintro e w1 ⟨rfl, hb1⟩; obtain ⟨⟨_, _, _, _, _, c37b, rM1⟩, ⟨_, _, _, _, _, k37b, sM1⟩⟩ := KEEP.out w1 (hA0.afar hb1) (hG0.afar hb1); have hB1 := hB0.trans (hb1.mono hB0.size))
                    | (go_at_call 21; refine (hbe _ hB1).mono ?_; rintro e w2 ⟨rfl, rfl⟩))
                go_ret
                exact ⟨by rw [HSAME.out]; rfl, hB1⟩
end Go.Proofs.Ytgepicbijpfhhaa
