/- Sf0 Sf2 -/
import Derived.Test.YtfainlfiphdaeaaGreatDoorR49
import Derived.Test.YtfainlfiphdaeaaGreatDoorR40
import Derived.Test.YtfainlfiphdaeaaGreatDoorR39
import Derived.Test.YtfainlfiphdaeaaGreatDoorR35
namespace Go.Proofs.YtfainlfiphdaeaaGreatDoor
open Go.RowKit
set_option maxRecDepth 20000
set_option linter.unusedSimpArgs false
noncomputable def sameB (F : Fr) (ws : List Wp) (body : List Int) (G : Fr) (vs : List Wp) (bp : List Int) : Bool :=
  (F.author == G.author) && (F.number == G.number) && ((F.ea == G.ea) && (F.es == G.es)) && (F.prev == G.prev) && wsB ws vs && ((strOfNums body).toList == (strOfNums bp).toList) && (F.mac == G.mac)
theorem sameB_refl (F : Fr) (ws : List Wp) (body : List Int) : sameB F ws body F ws body = true := by unfold sameB; simp [wsB_true]
end Go.Proofs.YtfainlfiphdaeaaGreatDoor
namespace Go.Proofs.YtfainlfiphdaeaaGreatDoor
open Go.RowKit
set_option maxRecDepth 20000
set_option linter.unusedSimpArgs false
set_option maxHeartbeats 8000000 in
theorem refSame_any (F : Fr) (xw : Option Addr) (lw cw : Nat) (ws : List Wp) (xb : Option Addr) (lb cb : Nat) (body : List Int) (G : Fr) (yw : Option Addr) (mw dw : Nat) (vs : List Wp) (yb : Option Addr) (mb db : Nat) (bp : List Int) (w : World)
    (hp : F.prev.length = 32) (hm : F.mac.length = 32) (hfw : F.wraps = .slice xw lw cw) (hws : WrapsAt w xw lw cw ws) (hfb : F.body = .slice xb lb cb) (hbo : Bytes w xb lb cb body)
    (kp : G.prev.length = 32) (km : G.mac.length = 32) (kfw : G.wraps = .slice yw mw dw) (kws : WrapsAt w yw mw dw vs) (kfb : G.body = .slice yb mb db) (kbo : Bytes w yb mb db bp) :
    Calls Tryz.prog 20 #[.agg F.cells.toArray, .agg G.cells.toArray] w fun e w' => e = .returned (.bool (sameB F ws body G vs bp)) ∧ Below w.heap.size w w' := by
  obtain ⟨_, q1, q2, q3, q4, q5, q6, q7⟩ := fr_parts F hp hm
  obtain ⟨_, p1, p2, p3, p4, p5, p6, p7⟩ := fr_parts G kp km
  rw [hfw] at q5
  rw [hfb] at q6
  rw [kfw] at p5
  rw [kfb] at p6
  have hdq := fun wx => dot_neq F.ea F.es G.ea G.es wx
  have hkq := fun wx => key_neq F.prev G.prev hp kp wx
  have hmq := fun wx => key_neq F.mac G.mac hm km wx
  have uD := Tryz.underlying26
  have iD : ∀ a s : Int, (Tryz.prog.info? 26).map (·.size) = some (dotC a s).length := fun a s => sizeDot
  have uK := Tryz.underlying23
  have iK : ∀ l : List Int, l.length = 32 → (Tryz.prog.info? 23).map (·.size) = some (l.map (Value.int .u8)).length := fun l hl => by rw [List.length_map, hl]; exact keySz
  have i1 := iK F.prev hp
  have i2 := iK G.prev kp
  have i3 := iK F.mac hm
  have i4 := iK G.mac km
  have j1 := iD F.ea F.es
  have j2 := iD G.ea G.es
  have HSAME : Veil (sameB F ws body G vs bp = ((F.author == G.author) && (F.number == G.number) && ((F.ea == G.ea) && (F.es == G.es)) && (F.prev == G.prev) && wsB ws vs && ((strOfNums body).toList == (strOfNums bp).toList) && (F.mac == G.mac))) := ⟨rfl⟩
  obtain ⟨SB, hSB⟩ : ∃ q, sameB F ws body G vs bp = q := ⟨_, rfl⟩
  rw [hSB] at HSAME ⊢
  obtain ⟨b1, h1⟩ : ∃ q, (F.author == G.author) = q := ⟨_, rfl⟩
  obtain ⟨b2, h2⟩ : ∃ q, (F.number == G.number) = q := ⟨_, rfl⟩
  obtain ⟨b3, h3⟩ : ∃ q, ((F.ea == G.ea) && (F.es == G.es)) = q := ⟨_, rfl⟩
  obtain ⟨b4, h4⟩ : ∃ q, (F.prev == G.prev) = q := ⟨_, rfl⟩
  obtain ⟨b5, h5⟩ : ∃ q, wsB ws vs = q := ⟨_, rfl⟩
  obtain ⟨b6, h6⟩ : ∃ q, ((strOfNums body).toList == (strOfNums bp).toList) = q := ⟨_, rfl⟩
  obtain ⟨b7, h7⟩ : ∃ q, (F.mac == G.mac) = q := ⟨_, rfl⟩
  rw [h1, h2, h3, h4, h5, h6, h7] at HSAME
  rw [h3] at hdq
  rw [h4] at hkq
  rw [h7] at hmq
  have h1b : (F.author != G.author) = !b1 := by rw [bne, h1]
  have h2b : (F.number != G.number) = !b2 := by rw [bne, h2]
  have HXL := Veil.mk hws.len_eq
  have HYL := Veil.mk kws.len_eq
  have HOX := Veil.mk hws.ok
  have HOY := Veil.mk kws.ok
  have HX : Veil (∀ wx, Below w.heap.size w wx → WrapsAt wx xw lw cw ws) := ⟨fun wx h => hws.below h⟩
  have HY : Veil (∀ wx, Below w.heap.size w wx → WrapsAt wx yw mw dw vs) := ⟨fun wx h => kws.below h⟩
  have lex := hws.le
  have tpx := hws.top
  have ley := kws.le
  have tpy := kws.top
  have H5 : Veil (wsB ws vs = b5) := ⟨h5⟩
  have hcva : ∀ wx, Below w.heap.size w wx → (convert 41 9 (.slice xb lb cb)).run Tryz.prog wx = .ok (.string (strOfNums body)) wx := fun wx h => conv_bytes (hbo.below h)
  have hcvb : ∀ wx, Below w.heap.size w wx → (convert 41 9 (.slice yb mb db)).run Tryz.prog wx = .ok (.string (strOfNums bp)) wx := fun wx h => conv_bytes (kbo.below h)
  obtain ⟨S1, hS1⟩ : ∃ q, strOfNums body = q := ⟨_, rfl⟩
  obtain ⟨S2, hS2⟩ : ∃ q, strOfNums bp = q := ⟨_, rfl⟩
  rw [hS1] at hcva h6
  rw [hS2] at hcvb h6
  have h6b : (S1.toList != S2.toList) = !b6 := by rw [bne, h6]
  clear hS1 hS2
  have hA0 : CellsAt ((w.alloc (.cells F.cells.toArray 43)).alloc (.cells G.cells.toArray 43)) w.heap.size 43 F.cells := (CellsAt.new w 43 F.cells).alloc _
  have hG0 : CellsAt ((w.alloc (.cells F.cells.toArray 43)).alloc (.cells G.cells.toArray 43)) (w.heap.size + 1) 43 G.cells := by
    have := CellsAt.new (w.alloc (.cells F.cells.toArray 43)) 43 G.cells
    rw [World.size_alloc] at this
    exact this
  have hB0 : Below w.heap.size w ((w.alloc (.cells F.cells.toArray 43)).alloc (.cells G.cells.toArray 43)) := ((Below.refl _ _).alloc (Nat.le_refl _) _).alloc (by simp) _
  have KEEP : Veil (∀ W, CellsAt W w.heap.size 43 F.cells → CellsAt W (w.heap.size + 1) 43 G.cells → (W.cell? ⟨w.heap.size, 0, none⟩ = some (.int .u8 F.author) ∧ W.cell? ⟨w.heap.size, 1, none⟩ = some (.int .u32 F.number) ∧ W.rangeAt w.heap.size 2 (dotC F.ea F.es) ∧ W.rangeAt w.heap.size 4 (F.prev.map (Value.int .u8)) ∧ W.cell? ⟨w.heap.size, 36, none⟩ = some (.slice xw lw cw) ∧ W.cell? ⟨w.heap.size, 37, none⟩ = some (.slice xb lb cb) ∧ W.rangeAt w.heap.size 38 (F.mac.map (Value.int .u8))) ∧
      (W.cell? ⟨w.heap.size + 1, 0, none⟩ = some (.int .u8 G.author) ∧ W.cell? ⟨w.heap.size + 1, 1, none⟩ = some (.int .u32 G.number) ∧ W.rangeAt (w.heap.size + 1) 2 (dotC G.ea G.es) ∧ W.rangeAt (w.heap.size + 1) 4 (G.prev.map (Value.int .u8)) ∧ W.cell? ⟨w.heap.size + 1, 36, none⟩ = some (.slice yw mw dw) ∧ W.cell? ⟨w.heap.size + 1, 37, none⟩ = some (.slice yb mb db) ∧ W.rangeAt (w.heap.size + 1) 38 (G.mac.map (Value.int .u8)))) := ⟨fun W h k =>
    ⟨⟨by rw [h.cell]; exact q1, by rw [h.cell]; exact q2, by have := h.range 2 2; rw [q3] at this; exact this, by have := h.range 4 32; rw [q4] at this; exact this, by rw [h.cell]; exact q5, by rw [h.cell]; exact q6, by have := h.range 38 32; rw [q7] at this; exact this⟩,
     ⟨by rw [k.cell]; exact p1, by rw [k.cell]; exact p2, by have := k.range 2 2; rw [p3] at this; exact this, by have := k.range 4 32; rw [p4] at this; exact this, by rw [k.cell]; exact p5, by rw [k.cell]; exact p6, by have := k.range 38 32; rw [p7] at this; exact this⟩⟩⟩
  clear hSB hp hm hfw hws hfb hbo kp km kfw kws kfb kbo q1 q2 q3 q4 q5 q6 q7 p1 p2 p3 p4 p5 p6 p7 h3 h4 h5 h7 iK iD
  go_enter Tryz.func20, Tryz.ntmps20
  go_upto_region 1 with fail
  refine forget (p := fun y => Code.wp _ _ _ _ y) (fun W => Below w.heap.size w W ∧ CellsAt W w.heap.size 43 F.cells ∧ CellsAt W (w.heap.size + 1) 43 G.cells) ⟨hB0, hA0, hG0⟩ ?_
  clear hB0 hA0 hG0
  rintro W ⟨hB0, hA0, hG0⟩
  obtain ⟨GB, hGB⟩ : ∃ q, w.heap.size + 1 = q := ⟨_, rfl⟩
  have HGB : Veil (w.heap.size + 1 = GB) := ⟨hGB⟩
  rw [hGB] at hG0 KEEP ⊢
  clear hGB
  obtain ⟨⟨c0, c1, rD, rP, c36, c37, rM⟩, ⟨k0, k1, sD, sP, k36, k37, sM⟩⟩ := KEEP.out W hA0 hG0
  have cva := hcva W hB0
  have cvb := hcvb W hB0
  clear hcva hcvb
  cases b1 with
  | false =>
    go_wp2_with fail
    go_ret
    exact ⟨by rw [HSAME.out]; first | rfl | (simp; rfl) | simp, hB0⟩
  | true =>
    cases b2 with
    | false =>
      go_wp2_with fail
      go_ret
      exact ⟨by rw [HSAME.out]; first | rfl | (simp; rfl) | simp, hB0⟩
    | true =>
      cases b3 with
      | false =>
        go_wp2_with (first
            | (refine wpList_ldgv (by kernel_rfl) _ _ rfl _ _ rfl _ (by assumption) (by assumption) (by rfl) (by assumption) ?_))
        go_ret
        exact ⟨by rw [HSAME.out]; first | rfl | (simp; rfl) | simp, hB0⟩
      | true =>
        cases b4 with
        | false =>
          go_wp2_with (first
              | (refine wpList_ldgv (by kernel_rfl) _ _ rfl _ _ rfl _ (by assumption) (by assumption) (by rfl) (by assumption) ?_))
          go_ret
          exact ⟨by rw [HSAME.out]; first | rfl | (simp; rfl) | simp, hB0⟩
        | true =>
          cases b7 with
          | false =>
            go_wp2_with (first
                | (refine wpList_ldgv (by kernel_rfl) _ _ rfl _ _ rfl _ (by assumption) (by assumption) (by rfl) (by assumption) ?_))
            go_ret
            exact ⟨by rw [HSAME.out]; first | rfl | (simp; rfl) | simp, hB0⟩
          | true =>
            by_cases hlm : lw = mw
            rotate_left
            · have hbl : ((lw : Int) == (mw : Int)) = false := by simp; omega
              have HRf : Veil (b5 = false) := ⟨by rw [← H5.out]; exact wsB_false (fun e => hlm (by rw [HXL.out, HYL.out, e]))⟩
              go_wp2_with (first
                  | (refine wpList_ldgv (by kernel_rfl) _ _ rfl _ _ rfl _ (by assumption) (by assumption) (by rfl) (by assumption) ?_))
              go_ret
              exact ⟨by rw [HSAME.out]; rw [HRf.out]; first | rfl | (simp; rfl) | simp, hB0⟩
            subst hlm
            cases b6 with
            | false =>
              go_wp2_with (first
                  | (refine wpList_ldgv (by kernel_rfl) _ _ rfl _ _ rfl _ (by assumption) (by assumption) (by rfl) (by assumption) ?_))
              go_ret
              exact ⟨by rw [HSAME.out]; first | rfl | (simp; rfl) | simp, hB0⟩
            | true =>
              go_upto_region 3 with (first
                  | (refine wpList_ldgv (by kernel_rfl) _ _ rfl _ _ rfl _ (by assumption) (by assumption) (by rfl) (by assumption) ?_))
              clear rD sD rP sP rM sM c0 k0 c1 k1 c37 k37 cva cvb hdq hkq hmq h1 h2 h1b h2b h6 h6b
              refine forget (p := fun y => Code.wp _ _ _ _ y) (fun W => Below w.heap.size w W ∧ CellsAt W w.heap.size 43 F.cells ∧ CellsAt W (GB) 43 G.cells) ⟨hB0, hA0, hG0⟩ ?_
              clear hB0 hA0 hG0 c36 k36
              rintro W ⟨hB0, hA0, hG0⟩
              go_wp2_with fail
              go_loopw [5] (fun q wr => ∃ j : Nat, j ≤ lw ∧ q = .int .i64 j ∧ Veil (ws.take j = vs.take j) ∧ Below w.heap.size w wr ∧ CellsAt wr w.heap.size 43 F.cells ∧ CellsAt wr (GB) 43 G.cells) (fun q _ => lw - (intOf q).toNat)
              case atStart => exact ⟨0, by omega, rfl, ⟨rfl⟩, hB0, hA0, hG0⟩
              case round =>
                clear hB0 hA0 hG0
                obtain ⟨j, hj, rfl, HTK, hB0, hA0, hG0⟩ := hrel
                obtain ⟨⟨_, _, _, _, c36, _, _⟩, ⟨_, _, _, _, k36, _, _⟩⟩ := KEEP.out wr hA0 hG0
                by_cases hlt : j < lw
                · have h1 : j < ws.length := by have := HXL.out; omega
                  have h2 : j < vs.length := by have := HYL.out; omega
                  obtain ⟨b, off, hx, hrg⟩ : ∃ b off, xw = some ⟨b, off, none⟩ ∧ ∀ wx, Below w.heap.size w wx → wx.rangeAt b (off + j * 51) (ws[j]).cells := by
                    rcases (HX.out wr hB0).at_ with h0 | ⟨b, off, hx, _⟩
                    · omega
                    · refine ⟨b, off, hx, fun wx hb => ?_⟩
                      rcases (HX.out wx hb).at_ with h0 | ⟨b', off', hx', hr⟩
                      · omega
                      · rw [hx] at hx'; cases hx'; exact hr j h1
                  obtain ⟨b2, off2, hy, hrg2⟩ : ∃ b off, yw = some ⟨b, off, none⟩ ∧ ∀ wx, Below w.heap.size w wx → wx.rangeAt b (off + j * 51) (vs[j]).cells := by
                    rcases (HY.out wr hB0).at_ with h0 | ⟨b, off, hx, _⟩
                    · omega
                    · refine ⟨b, off, hx, fun wx hb => ?_⟩
                      rcases (HY.out wx hb).at_ with h0 | ⟨b', off', hx', hr⟩
                      · omega
                      · rw [hx] at hx'; cases hx'; exact hr j h2
                  subst hx hy
                  have o1 := HOX.out _ (List.getElem_mem h1)
                  have o2 := HOY.out _ (List.getElem_mem h2)
                  have hnq := fun wx => wrap_neq ws[j] vs[j] o1 o2 wx
                  have HD : Veil (wpEq ws[j] vs[j] = false → b5 = false) := ⟨fun h => by
                    rw [← H5.out]
                    exact wsB_false (take_differ h1 h2 (fun e => by rw [(wpEq_iff _ _).2 e] at h; cases h))⟩
                  have HE : Veil (wpEq ws[j] vs[j] = true → ws.take (j + 1) = vs.take (j + 1)) := ⟨fun h => take_more h1 h2 ((wpEq_iff _ _).1 h) HTK.out⟩
                  have i1 : (Tryz.prog.info? 73).map (·.size) = some (ws[j]).cells.length := by rw [(wp_parts _ o1).1]; exact sizeWrap
                  have i2 : (Tryz.prog.info? 73).map (·.size) = some (vs[j]).cells.length := by rw [(wp_parts _ o2).1]; exact sizeWrap
                  obtain ⟨C1, hC1⟩ : ∃ q, (ws[j]).cells = q := ⟨_, rfl⟩
                  obtain ⟨C2, hC2⟩ : ∃ q, (vs[j]).cells = q := ⟨_, rfl⟩
                  obtain ⟨r, hr⟩ : ∃ q, wpEq ws[j] vs[j] = q := ⟨_, rfl⟩
                  rw [hC1] at hrg hnq i1
                  rw [hC2] at hrg2 hnq i2
                  rw [hr] at hnq HD HE
                  have hj0 : (0 : Int) ≤ (j : Int) := by omega
                  have hjn : (j : Int) < (lw : Int) := by omega
                  have uW := Tryz.underlying73
                  clear o1 o2 hC1 hC2 hr h1 h2 HTK
                  go_upto_region 6 with fail
                  refine wp_region_gateT (fun w' => (w'.cell? ⟨w.heap.size, 36, none⟩ = some (.slice (some ⟨b, off, none⟩) lw cw) ∧ w'.cell? ⟨GB, 36, none⟩ = some (.slice (some ⟨b2, off2, none⟩) lw dw)) ∧ w'.rangeAt b (off + j * 51) C1 ∧ w'.rangeAt b2 (off2 + j * 51) C2) (fun _ => True) 10 (by kernel_rfl) ?_
                  obtain ⟨D0, hD0⟩ : ∃ q, wr.drew = q := ⟨_, rfl⟩
                  have hb1 : Below wr.heap.size wr D0 := by rw [← hD0]; exact (Below.refl _ _).drew
                  rw [hD0]
                  have hB2 := hB0.trans (hb1.mono hB0.size)
                  have hA2 := hA0.afar hb1
                  have hG2 := hG0.afar hb1
                  clear hD0 hb1 hB0 hA0 hG0 c36 k36
                  obtain ⟨⟨_, _, _, _, c36, _, _⟩, ⟨_, _, _, _, k36, _, _⟩⟩ := KEEP.out D0 hA2 hG2
                  have hT : (D0.cell? ⟨w.heap.size, 36, none⟩ = some (.slice (some ⟨b, off, none⟩) lw cw) ∧ D0.cell? ⟨GB, 36, none⟩ = some (.slice (some ⟨b2, off2, none⟩) lw dw)) ∧ D0.rangeAt b (off + j * 51) C1 ∧ D0.rangeAt b2 (off2 + j * 51) C2 := ⟨⟨c36, k36⟩, hrg _ hB2, hrg2 _ hB2⟩
                  have hS : True := trivial
                  clear hrg hrg2 c36 k36
                  refine wpAnyT_held (i := 0) (v := ?_) rfl (by kernel_rfl) (by kernel_rfl) (by kernel_rfl) (fun _ _ _ h => h) (by kernel_rfl) hT (fun _ => hS) (by kernel_rfl) ?_ ?_
                  rotate_left
                  · intro wx hSw; go_split_ands; go_simp; try with_reducible rfl
                  simp only [Act.put, sI, sZ, sS]
                  refine wpAnyT_held (i := 1) (v := ?_) rfl (by kernel_rfl) (by kernel_rfl) (by kernel_rfl) (fun _ _ _ h => h) (by kernel_rfl) hT (fun _ => hS) (by kernel_rfl) ?_ ?_
                  rotate_left
                  · intro wx hSw; go_split_ands; go_simp; try with_reducible rfl
                  simp only [Act.put, sI, sZ, sS]
                  refine wpAnyT_held (i := 2) (v := ?_) rfl (by kernel_rfl) (by kernel_rfl) (by kernel_rfl) (fun _ _ _ h => h) (by kernel_rfl) hT (fun _ => hS) (by kernel_rfl) ?_ ?_
                  rotate_left
                  · intro wx hSw; go_split_ands; go_simp; try with_reducible rfl
                  simp only [Act.put, sI, sZ, sS]
                  refine wpAnyT_held (i := 3) (v := ?_) rfl (by kernel_rfl) (by kernel_rfl) (by kernel_rfl) (fun _ _ _ h => h) (by kernel_rfl) hT (fun _ => hS) (by kernel_rfl) ?_ ?_
                  rotate_left
                  · intro wx hSw; go_split_ands; go_simp; try with_reducible rfl
                  simp only [Act.put, sI, sZ, sS]
                  refine wpAnyT_load (i := 4) (dst := some 68) (ty := 73) (x := .tmp 67) (b := b) (o := (off + j * 51)) (cs := (C1)) (by kernel_rfl) (by kernel_rfl) (by kernel_rfl) (by kernel_rfl) (by kernel_rfl) (fun _ _ _ h => h) (by kernel_rfl) hT (fun _ => hS) (by kernel_rfl) (fun _ h => h.2.1) uW rfl i1 ?_
                  simp only [Act.put, sI, sZ, sS]
                  refine wpAnyT_held (i := 5) (v := ?_) rfl (by kernel_rfl) (by kernel_rfl) (by kernel_rfl) (fun _ _ _ h => h) (by kernel_rfl) hT (fun _ => hS) (by kernel_rfl) ?_ ?_
                  rotate_left
                  · intro wx hSw; go_split_ands; go_simp; try with_reducible rfl
                  simp only [Act.put, sI, sZ, sS]
                  refine wpAnyT_held (i := 6) (v := ?_) rfl (by kernel_rfl) (by kernel_rfl) (by kernel_rfl) (fun _ _ _ h => h) (by kernel_rfl) hT (fun _ => hS) (by kernel_rfl) ?_ ?_
                  rotate_left
                  · intro wx hSw; go_split_ands; go_simp; try with_reducible rfl
                  simp only [Act.put, sI, sZ, sS]
                  refine wpAnyT_held (i := 7) (v := ?_) rfl (by kernel_rfl) (by kernel_rfl) (by kernel_rfl) (fun _ _ _ h => h) (by kernel_rfl) hT (fun _ => hS) (by kernel_rfl) ?_ ?_
                  rotate_left
                  · intro wx hSw; go_split_ands; go_simp; try with_reducible rfl
                  simp only [Act.put, sI, sZ, sS]
                  refine wpAnyT_held (i := 8) (v := ?_) rfl (by kernel_rfl) (by kernel_rfl) (by kernel_rfl) (fun _ _ _ h => h) (by kernel_rfl) hT (fun _ => hS) (by kernel_rfl) ?_ ?_
                  rotate_left
                  · intro wx hSw; go_split_ands; go_simp; try with_reducible rfl
                  simp only [Act.put, sI, sZ, sS]
                  refine wpAnyT_load (i := 9) (dst := some 73) (ty := 73) (x := .tmp 72) (b := b2) (o := (off2 + j * 51)) (cs := (C2)) (by kernel_rfl) (by kernel_rfl) (by kernel_rfl) (by kernel_rfl) (by kernel_rfl) (fun _ _ _ h => h) (by kernel_rfl) hT (fun _ => hS) (by kernel_rfl) (fun _ h => h.2.2) uW rfl i2 ?_
                  simp only [Act.put, sI, sZ, sS]
                  refine wpAnyT_one (i := 10) rfl (by kernel_rfl) (by kernel_rfl) (fun K hK => ?_)
                  go_simp
                  refine hK.out _ _ hT (fun h => absurd (show true = false from h) (by decide)) ?_
                  clear hK K
                  refine wpAnyT_done (by kernel_rfl) ?_ _
                  cases r with
                  | false =>
                    have HRf : Veil (b5 = false) := ⟨HD.out rfl⟩
                    go_wp2
                    go_ret
                    exact ⟨by rw [HSAME.out, HRf.out]; rfl, hB2⟩
                  | true =>
                    have HE2 : Veil (ws.take (j + 1) = vs.take (j + 1)) := ⟨HE.out rfl⟩
                    clear HE hnq
                    go_wp2
                    go_roundw
                    case rel => exact ⟨j + 1, by omega, by go_num, HE2, hB2, hA2, hG2⟩
                    case measure => simp [intOf]; omega
                · obtain rfl : j = lw := by omega
                  have HRt : Veil (b5 = true) := ⟨by
                    rw [← H5.out]
                    refine wsB_true ?_
                    have := HTK.out
                    rw [List.take_of_length_le (by have := HXL.out; omega), List.take_of_length_le (by have := HYL.out; omega)] at this
                    exact this⟩
                  clear hlt
                  have hnn : ¬ (j : Int) < (j : Int) := by omega
                  go_wp2
                  go_ret
                  exact ⟨by rw [HSAME.out, HRt.out]; rfl, hB0⟩
end Go.Proofs.YtfainlfiphdaeaaGreatDoor
