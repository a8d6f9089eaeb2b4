/- Wo1 Wo3 Wo4 Fsz FrameSizesW -/
import Derived.Test.YtfainlfiphdaeaaGreatDoorR03
import Derived.Test.YtfainlfiphdaeaaGreatDoorR02
import Derived.Test.YtfainlfiphdaeaaGreatDoorR39
import Derived.Test.YtfainlfiphdaeaaGreatDoorR07
import Derived.Test.YtfainlfiphdaeaaGreatDoorR49
import Derived.Test.YtfainlfiphdaeaaGreatDoorR13
import Derived.Test.YtfainlfiphdaeaaGreatDoorR30
namespace Go.Proofs.YtfainlfiphdaeaaGreatDoor
open Go.RowKit
set_option maxRecDepth 20000
set_option linter.unusedSimpArgs false
theorem OwnB.afarW {w w' : World} {base : Nat} {v : Value} {z : List Int} (h : OwnB w base v z) (hb : Below w.heap.size w w') : OwnB w' base v z := h.keep (fun g _ hg => hb.block g hg)
end Go.Proofs.YtfainlfiphdaeaaGreatDoor
namespace Go.Proofs.YtfainlfiphdaeaaGreatDoor
open Go.RowKit
set_option maxRecDepth 20000
set_option linter.unusedSimpArgs false
theorem OwnB.keepT {w w' : World} {base g0 : Nat} {v : Value} {z : List Int} {t : TypeId} {cs : List Value} (h : OwnB w base v z) (hc : CellsAt w g0 t cs) (ht : t ≠ 5) (hk : ∀ g, g ≠ g0 → w'.heap[g]? = w.heap[g]?) : OwnB w' base v z := by
  refine ⟨h.1, ?_⟩
  rcases h.2 with h' | ⟨g, cap, cur, h1, h2, h3, h4⟩
  · exact .inl h'
  · refine .inr ⟨g, cap, cur, h1, h2, ?_, h4⟩
    rw [hk g (fun e => by
      subst e
      unfold CellsAt at hc
      rw [h3] at hc
      simp at hc
      exact ht hc.2.symm)]
    exact h3
end Go.Proofs.YtfainlfiphdaeaaGreatDoor
namespace Go.Proofs.YtfainlfiphdaeaaGreatDoor
open Go.RowKit
set_option maxRecDepth 20000
set_option linter.unusedSimpArgs false
theorem OwnB.newW (w : World) (l : List Int) (hl : l.length ≤ 4000000) : OwnB (w.alloc (.cells (row .u8 l) 5)) w.heap.size (.slice (some ⟨w.heap.size, 0, none⟩) l.length l.length) l := OwnB.ofHolds (Holds.new w .u8 5 l) (Nat.le_refl _) hl
set_option maxHeartbeats 1000000 in
theorem refFour_any (n : Int) (w : World) :
    Calls Tryz.prog 116 #[.int .u32 n] w fun e w' => ∃ v, e = .returned v ∧ OwnB w' w.heap.size v (be4 n) ∧ Below w.heap.size w w' := by
  have e1 : IntKind.u8.wrap (n / 16777216) = n / 16777216 % 256 := by simp [IntKind.wrap, IntKind.bits, IntKind.signed]
  have e2 : IntKind.u8.wrap (n / 65536) = n / 65536 % 256 := by simp [IntKind.wrap, IntKind.bits, IntKind.signed]
  have e3 : IntKind.u8.wrap (n / 256) = n / 256 % 256 := by simp [IntKind.wrap, IntKind.bits, IntKind.signed]
  have e4 : IntKind.u8.wrap n = n % 256 := by simp [IntKind.wrap, IntKind.bits, IntKind.signed]
  have hO := OwnB.newW w (be4 n) (by simp [be4])
  have hB : Below w.heap.size w (w.alloc (.cells (row .u8 (be4 n)) 5)) := (Below.refl _ _).alloc (Nat.le_refl _) _
  go_enter Tryz.func116, Tryz.ntmps116
  go_wp2
  go_ret
  exact ⟨_, rfl, hO, hB⟩
set_option maxHeartbeats 1000000 in
theorem refDot_any (a s : Int) (w : World) :
    Calls Tryz.prog 115 #[.agg (dotC a s).toArray] w fun e w' => ∃ v, e = .returned v ∧ OwnB w' w.heap.size v (dotL a s) ∧ Below w.heap.size w w' := by
  have hD0 := CellsAt.new w 26 (dotC a s)
  have hB0 : Below w.heap.size w (w.alloc (.cells (dotC a s).toArray 26)) := (Below.refl _ _).alloc (Nat.le_refl _) _
  have hf := fun wx => refFour_any s wx
  have hfl : (be4 s).length = 4 := be4_length s
  have HD : Veil ([a] ++ be4 s = dotL a s) := ⟨rfl⟩
  obtain ⟨F, hF⟩ : ∃ q, be4 s = q := ⟨_, rfl⟩
  rw [hF] at hf hfl HD
  clear hF
  go_enter Tryz.func115, Tryz.ntmps115
  go_upto_region 1 with fail
  refine forget (p := fun y => Code.wp _ _ _ _ y) (fun W0 => Below w.heap.size w W0 ∧ CellsAt W0 w.heap.size 26 (dotC a s)) ⟨hB0, hD0⟩ ?_
  clear hB0 hD0
  rintro W0 ⟨hB0, hD0⟩
  have hsz := hB0.size
  have keep : ∀ w', Below W0.heap.size W0 w' → w'.cell? ⟨w.heap.size, 0, none⟩ = some (.int .u8 a) ∧ w'.cell? ⟨w.heap.size, 1, none⟩ = some (.int .u32 s) := fun w' hb => by
    have hc := (bcell hb).1
    exact ⟨by rw [hc _ _ hD0.lt]; exact hD0.cell 0, by rw [hc _ _ hD0.lt]; exact hD0.cell 1⟩
  clear hD0
  refine wp_region_gate (fun w' => w'.cell? ⟨w.heap.size, 0, none⟩ = some (.int .u8 a) ∧ w'.cell? ⟨w.heap.size, 1, none⟩ = some (.int .u32 s)) 7 (by kernel_rfl) ?_
  obtain ⟨D0, hD0⟩ : ∃ q, W0.drew = q := ⟨_, rfl⟩
  have hb0 : Below W0.heap.size W0 D0 := by rw [← hD0]; exact (Below.refl _ _).drew
  rw [hD0]
  clear hD0
  have hS := keep _ hb0
  refine wpAnyG_any (i := 0) (v := ?_) rfl (by kernel_rfl) (by kernel_rfl) (by kernel_rfl) (fun _ _ _ h => h) (by kernel_rfl) (fun _ => hS) (by kernel_rfl) ?_ ?_
  rotate_left
  · intro _; go_simp; try with_reducible rfl
  simp only [Act.put, sI, sZ, sS]
  refine wpAnyG_read (i := 1) (v := ?_) rfl (by kernel_rfl) (by kernel_rfl) (by kernel_rfl) (fun _ _ _ h => h) (by kernel_rfl) (by kernel_rfl) (by kernel_rfl) hS (by kernel_rfl) ?_ ?_
  rotate_left
  · intro wx hSw; go_split_ands; go_simp; try with_reducible rfl
  simp only [Act.put, sI, sZ, sS]
  refine wpAnyG_any (i := 3) (v := ?_) rfl (by kernel_rfl) (by kernel_rfl) (by kernel_rfl) (fun _ _ _ h => h) (by kernel_rfl) (fun _ => hS) (by kernel_rfl) ?_ ?_
  rotate_left
  · intro _; go_simp; try with_reducible rfl
  simp only [Act.put, sI, sZ, sS]
  refine wpAnyG_read (i := 4) (v := ?_) rfl (by kernel_rfl) (by kernel_rfl) (by kernel_rfl) (fun _ _ _ h => h) (by kernel_rfl) (by kernel_rfl) (by kernel_rfl) hS (by kernel_rfl) ?_ ?_
  rotate_left
  · intro wx hSw; go_split_ands; go_simp; try with_reducible rfl
  simp only [Act.put, sI, sZ, sS]
  refine wpAnyG_two (i := 2) (j := 5) rfl rfl (by kernel_rfl) (by kernel_rfl) (by kernel_rfl) (fun K hK => ?_) (fun K hK => ?_)
  · skip
    go_simp
    have hN1 := OwnB.newW D0 [a] (by simp)
    have hn1 : Below D0.heap.size D0 (D0.alloc (.cells (row .u8 [a]) 5)) := (Below.refl _ _).alloc (Nat.le_refl _) _
    have hb1 : Below W0.heap.size W0 (D0.alloc (.cells (row .u8 [a]) 5)) := hb0.trans (hn1.mono hb0.size)
    replace hS := keep _ hb1
    refine hK.out _ _ (fun _ => hS) ?_
    clear hK K
    have hO1 := hN1.lessG hb0.size
    obtain ⟨U1, hU1⟩ : ∃ q, D0.alloc (.cells (row .u8 [a]) 5) = q := ⟨_, rfl⟩
    have hc1 : D0.alloc (.cells #[.int .u8 a] 5) = U1 := hU1
    rw [hU1] at hb1 hO1
    rw [hc1]
    clear hU1 hc1 hn1 hN1
    refine wpAnyG_one (i := 5) rfl (by kernel_rfl) (by kernel_rfl) (fun K hK => ?_)
    go_wp2_with (go_at_call 116; refine (hf _).mono ?_; rintro e w2 ⟨v2, rfl, ho2, hb2⟩)
    have hB2 : Below W0.heap.size W0 w2 := hb1.trans (hb2.mono hb1.size)
    have hO2 := hO1.afarW hb2
    obtain ⟨x2, n2, c2, rfl, hn2⟩ := ho2.isSlice
    have hy2 := ho2.bytes.2
    rw [hfl] at hn2
    subst hn2
    replace hS := keep _ hB2
    refine hK.out _ _ (fun _ => hS) ?_
    clear hK K
    refine wpAnyG_one (i := 6) rfl (by kernel_rfl) (by kernel_rfl) (fun K hK => ?_)
    refine wp_appA _ _ rfl W0.heap.size _ [a] rfl hO2 x2 4 c2 F rfl hy2 (by simp) hB2.size ?_
    intro v3 w3 ho3 hg3
    have hB3 : Below W0.heap.size W0 w3 := below_grown hB2 hO2 hg3 hB2.size
    replace hS := keep _ hB3
    refine hK.out _ _ (fun _ => hS) ?_
    clear hK K
    refine wpAnyG_one (i := 7) rfl (by kernel_rfl) (by kernel_rfl) (fun K hK => ?_)
    go_simp
    refine hK.out _ _ (fun h => absurd (show true = false from h) (by decide)) ?_
    clear hK K
    refine wpAnyG_done (by kernel_rfl) ?_ _
    go_wp2
    go_ret
    rw [HD.out] at ho3
    exact ⟨_, rfl, ho3.lessG hsz, hB0.trans (hB3.mono hsz)⟩
  · skip
    go_wp2_with (go_at_call 116; refine (hf _).mono ?_; rintro e w2 ⟨v2, rfl, ho2, hb2⟩)
    have hB2 : Below W0.heap.size W0 w2 := hb0.trans (hb2.mono hb0.size)
    obtain ⟨x2, n2, c2, rfl, hn2⟩ := ho2.isSlice
    have hy2 := ho2.bytes.2
    rw [hfl] at hn2
    subst hn2
    replace hS := keep _ hB2
    refine hK.out _ _ (fun _ => hS) ?_
    clear hK K
    refine wpAnyG_one (i := 2) rfl (by kernel_rfl) (by kernel_rfl) (fun K hK => ?_)
    go_simp
    have hN1 := OwnB.newW w2 [a] (by simp)
    have hn1 : Below w2.heap.size w2 (w2.alloc (.cells (row .u8 [a]) 5)) := (Below.refl _ _).alloc (Nat.le_refl _) _
    have hb1 : Below W0.heap.size W0 (w2.alloc (.cells (row .u8 [a]) 5)) := hB2.trans (hn1.mono hB2.size)
    have hy3 := hy2.below hn1
    replace hS := keep _ hb1
    refine hK.out _ _ (fun _ => hS) ?_
    clear hK K
    have hO1 := hN1.lessG hB2.size
    obtain ⟨U1, hU1⟩ : ∃ q, w2.alloc (.cells (row .u8 [a]) 5) = q := ⟨_, rfl⟩
    have hc1 : w2.alloc (.cells #[.int .u8 a] 5) = U1 := hU1
    rw [hU1] at hb1 hO1 hy3
    rw [hc1]
    clear hU1 hc1 hn1 hN1
    refine wpAnyG_one (i := 6) rfl (by kernel_rfl) (by kernel_rfl) (fun K hK => ?_)
    refine wp_appA _ _ rfl W0.heap.size _ [a] rfl hO1 x2 4 c2 F rfl hy3 (by simp) hb1.size ?_
    intro v3 w3 ho3 hg3
    have hB3 : Below W0.heap.size W0 w3 := below_grown hb1 hO1 hg3 hb1.size
    replace hS := keep _ hB3
    refine hK.out _ _ (fun _ => hS) ?_
    clear hK K
    refine wpAnyG_one (i := 7) rfl (by kernel_rfl) (by kernel_rfl) (fun K hK => ?_)
    go_simp
    refine hK.out _ _ (fun h => absurd (show true = false from h) (by decide)) ?_
    clear hK K
    refine wpAnyG_done (by kernel_rfl) ?_ _
    go_wp2
    go_ret
    rw [HD.out] at ho3
    exact ⟨_, rfl, ho3.lessG hsz, hB0.trans (hB3.mono hsz)⟩
end Go.Proofs.YtfainlfiphdaeaaGreatDoor
namespace Go.Proofs.YtfainlfiphdaeaaGreatDoor
open Go.RowKit
set_option maxRecDepth 20000
set_option linter.unusedSimpArgs false
set_option maxHeartbeats 8000000 in
theorem refOpen_any (F : Fr) (xw : Option Addr) (lw cw : Nat) (ws : List Wp) (w : World) (hp : F.prev.length = 32) (hm : F.mac.length = 32) (hfw : F.wraps = .slice xw lw cw) (hws : WrapsAt w xw lw cw ws) (h1 : lw ≤ 64) :
    Calls Tryz.prog 63 #[.agg F.cells.toArray] w fun e w' => ∃ v, e = .returned v ∧ OwnB w' w.heap.size v (openL F ws) ∧ Below w.heap.size w w' := by
  have HP : Veil (F.cells.length = 70 ∧ F.cells[0]? = some (.int .u8 F.author) ∧ F.cells[1]? = some (.int .u32 F.number) ∧ (F.cells.drop 2).take 2 = dotC F.ea F.es ∧ (F.cells.drop 4).take 32 = F.prev.map (Value.int .u8) ∧ F.cells[36]? = some F.wraps ∧ F.cells[37]? = some F.body ∧ (F.cells.drop 38).take 32 = F.mac.map (Value.int .u8)) := ⟨fr_parts F hp hm⟩
  have HPL : Veil (F.prev.length = 32) := ⟨hp⟩
  have HWS : Veil (∀ wx, Below w.heap.size w wx → WrapsAt wx xw lw cw ws) := ⟨fun wx h => hws.below h⟩
  have HFW : Veil (F.wraps = .slice xw lw cw) := ⟨hfw⟩
  have HLW : Veil (lw = ws.length) := ⟨hws.len_eq⟩
  have HOK : Veil (∀ e ∈ ws, e.data.length = 48) := ⟨hws.ok⟩
  have hcw := hws.le
  have htw := hws.top
  have hD0 := CellsAt.new w 43 F.cells
  have hB0 : Below w.heap.size w (w.alloc (.cells F.cells.toArray 43)) := (Below.refl _ _).alloc (Nat.le_refl _) _
  have h1' : ¬ (lw : Int) > 64 := by omega
  have c36 := hD0.cell 36
  rw [HP.out.2.2.2.2.2.1, HFW.out] at c36
  have uD := Tryz.underlying26
  have iD := sizeDot
  clear hfw hp hm hws
  go_enter Tryz.func63, Tryz.ntmps63
  go_upto_region 3 with fail
  refine forget (p := fun y => Code.wp _ _ _ _ y) (fun W0 => Below w.heap.size w W0 ∧ CellsAt W0 w.heap.size 43 F.cells) ⟨hB0, hD0⟩ ?_
  clear hB0 hD0 c36
  rintro W0 ⟨hB0, hD0⟩
  have c0 : W0.cell? ⟨w.heap.size, 0, none⟩ = some (.int .u8 F.author) := by rw [hD0.cell]; exact HP.out.2.1
  have hO0 := (OwnB.newW W0 [69, 83, F.author] (by simp)).lessG hB0.size
  go_upto_region 4 with fail
  refine forget (p := fun y => Code.wp _ _ _ _ y) (fun W1 => Below w.heap.size w W1 ∧ CellsAt W1 w.heap.size 43 F.cells ∧ OwnB W1 w.heap.size (.slice (some ⟨W0.heap.size, 0, none⟩) 3 3) [69, 83, F.author]) ⟨hB0.alloc hB0.size _, hD0.alloc _, hO0⟩ ?_
  obtain ⟨G0, hG0⟩ : ∃ q, W0.heap.size = q := ⟨_, rfl⟩
  rw [hG0]
  clear c0 hO0 hB0 hD0 hG0
  rintro W1 ⟨hB1, hD1, hO1⟩
  have hl1 : ([69, 83, F.author] : List Int).length ≤ 1000 := by simp
  obtain ⟨L1, hL1⟩ : ∃ q, ([69, 83, F.author] : List Int) = q := ⟨_, rfl⟩
  have HL1 : Veil (([69, 83, F.author] : List Int) = L1) := ⟨hL1⟩
  rw [hL1] at hO1 hl1
  have c1 : W1.cell? ⟨w.heap.size, 1, none⟩ = some (.int .u32 F.number) := by rw [hD1.cell]; exact HP.out.2.2.1
  have hf1 := refFour_any F.number W1
  have hfl := be4_length F.number
  obtain ⟨N4, hN4⟩ : ∃ q, be4 F.number = q := ⟨_, rfl⟩
  have HN4 : Veil (be4 F.number = N4) := ⟨hN4⟩
  rw [hN4] at hf1 hfl
  clear hL1 hN4
  go_upto_region 5 with (first
    | (go_at_call 116; refine hf1.mono ?_; rintro e w2 ⟨v2, rfl, ho2, hb2⟩; obtain ⟨x2, n2, c2, rfl, hn2⟩ := ho2.isSlice; have hy2 := ho2.bytes.2; rw [hfl] at hn2; subst hn2; have hO2 := hO1.afarW hb2; have hB2 := hB1.trans (hb2.mono hB1.size))
    | (at_builtin; refine wpList_app rfl _ _ rfl w.heap.size _ L1 rfl hO2 x2 4 c2 N4 rfl hy2 (by omega) hB2.size ?_; intro v3 w3 ho3 hg3))
  have hD3 := (hD1.afar hb2).grown hO2 hg3 (by decide)
  have hB3 : Below w.heap.size w w3 := below_grown hB2 hO2 hg3 hB2.size
  have hl3 : (L1 ++ N4).length ≤ 1004 := by rw [List.length_append]; omega
  obtain ⟨L3, hL3⟩ : ∃ q, L1 ++ N4 = q := ⟨_, rfl⟩
  have HL3 : Veil (L1 ++ N4 = L3) := ⟨hL3⟩
  rw [hL3] at ho3 hl3
  clear hL3 hg3 hO2 hB2 hy2 ho2 hb2 c1 hf1 hB1 hD1 hO1 hfl hl1
  have kD : ∀ w', CellsAt w' w.heap.size 43 F.cells → w'.rangeAt w.heap.size 2 (dotC F.ea F.es) := fun w' h => by
    have := h.range 2 2
    rw [HP.out.2.2.2.1] at this
    exact this
  have kP : ∀ w', CellsAt w' w.heap.size 43 F.cells → Bytes w' (some ⟨w.heap.size, 4, none⟩) 32 32 F.prev := fun w' h => by
    have := h.range 4 32
    rw [HP.out.2.2.2.2.1] at this
    exact rangeBytes this HPL.out.symm (by rw [HPL.out]; omega)
  have hdt := fun wx => refDot_any F.ea F.es wx
  have hdl := dotL_length F.ea F.es
  obtain ⟨DL, hDL⟩ : ∃ q, dotL F.ea F.es = q := ⟨_, rfl⟩
  have HDL : Veil (dotL F.ea F.es = DL) := ⟨hDL⟩
  rw [hDL] at hdt hdl
  clear hDL
  refine wp_region_gate (fun w' => w'.rangeAt w.heap.size 2 (dotC F.ea F.es)) 8 (by kernel_rfl) ?_
  obtain ⟨D0, hD0⟩ : ∃ q, w3.drew = q := ⟨_, rfl⟩
  have hb0 : Below w3.heap.size w3 D0 := by rw [← hD0]; exact (Below.refl _ _).drew
  rw [hD0]
  have hB4 := hB3.trans (hb0.mono hB3.size)
  have hD4 := hD3.afar hb0
  have hO4 := ho3.afarW hb0
  clear hD0 hb0 hB3 hD3 ho3
  have hS := kD _ hD4
  refine wpAnyG_any (i := 0) (v := ?_) rfl (by kernel_rfl) (by kernel_rfl) (by kernel_rfl) (fun _ _ _ h => h) (by kernel_rfl) (fun _ => hS) (by kernel_rfl) ?_ ?_
  rotate_left
  · intro _; go_simp; try with_reducible rfl
  simp only [Act.put, sI, sZ, sS]
  refine wpAnyG_any (i := 1) (v := ?_) rfl (by kernel_rfl) (by kernel_rfl) (by kernel_rfl) (fun _ _ _ h => h) (by kernel_rfl) (fun _ => hS) (by kernel_rfl) ?_ ?_
  rotate_left
  · intro _; go_simp; try with_reducible rfl
  simp only [Act.put, sI, sZ, sS]
  refine wpAnyG_load (i := 2) (dst := some 20) (ty := 26) (x := .tmp 19) (b := w.heap.size) (o := (2)) (cs := (dotC F.ea F.es)) (by kernel_rfl) (by kernel_rfl) (by kernel_rfl) (by kernel_rfl) (by kernel_rfl) (fun _ _ _ h => h) (by kernel_rfl) (by kernel_rfl) (by kernel_rfl) hS (by kernel_rfl) (fun _ h => h) uD rfl iD ?_
  simp only [Act.put, sI, sZ, sS]
  refine wpAnyG_any (i := 5) (v := ?_) rfl (by kernel_rfl) (by kernel_rfl) (by kernel_rfl) (fun _ _ _ h => h) (by kernel_rfl) (fun _ => hS) (by kernel_rfl) ?_ ?_
  rotate_left
  · intro _; go_simp; try with_reducible rfl
  simp only [Act.put, sI, sZ, sS]
  refine wpAnyG_any (i := 6) (v := ?_) rfl (by kernel_rfl) (by kernel_rfl) (by kernel_rfl) (fun _ _ _ h => h) (by kernel_rfl) (fun _ => hS) (by kernel_rfl) ?_ ?_
  rotate_left
  · intro _; go_simp; try with_reducible rfl
  simp only [Act.put, sI, sZ, sS]
  refine wpAnyG_one (i := 3) rfl (by kernel_rfl) (by kernel_rfl) (fun K hK => ?_)
  go_wp2_with (go_at_call 115; refine (hdt _).mono ?_; rintro e w5 ⟨v5, rfl, ho5, hb5⟩)
  obtain ⟨x5, n5, c5, rfl, hn5⟩ := ho5.isSlice
  have hy5 := ho5.bytes.2
  rw [hdl] at hn5
  subst hn5
  have hO5 := hO4.afarW hb5
  have hD5 := hD4.afar hb5
  have hB5 := hB4.trans (hb5.mono hB4.size)
  clear hO4 hD4 hB4 hb5 ho5
  replace hS := kD _ hD5
  refine hK.out _ _ (fun _ => hS) ?_
  clear hK K
  refine wpAnyG_one (i := 4) rfl (by kernel_rfl) (by kernel_rfl) (fun K hK => ?_)
  refine wp_appA _ _ rfl w.heap.size _ L3 rfl hO5 x5 5 c5 DL rfl hy5 (by omega) hB5.size ?_
  intro v6 w6 ho6 hg6
  have hD6 := hD5.grown hO5 hg6 (by decide)
  have hB6 : Below w.heap.size w w6 := below_grown hB5 hO5 hg6 hB5.size
  replace hS := kD _ hD6
  clear hg6 hO5 hD5 hB5 hy5
  refine hK.out _ _ (fun _ => hS) ?_
  clear hK K
  refine wpAnyG_one (i := 7) rfl (by kernel_rfl) (by kernel_rfl) (fun K hK => ?_)
  refine wp_appA _ _ rfl w.heap.size _ (L3 ++ DL) rfl ho6 (some ⟨w.heap.size, 4, none⟩) 32 32 F.prev rfl (kP _ hD6) (by rw [List.length_append]; omega) hB6.size ?_
  intro v7 w7 ho7 hg7
  have hD7 := hD6.grown ho6 hg7 (by decide)
  have hB7 : Below w.heap.size w w7 := below_grown hB6 ho6 hg7 hB6.size
  replace hS := kD _ hD7
  clear hg7 ho6 hD6 hB6
  refine hK.out _ _ (fun _ => hS) ?_
  clear hK K
  refine wpAnyG_one (i := 8) rfl (by kernel_rfl) (by kernel_rfl) (fun K hK => ?_)
  go_simp
  refine hK.out _ _ (fun h => absurd (show true = false from h) (by decide)) ?_
  clear hK K
  refine wpAnyG_done (by kernel_rfl) ?_ _
  have hl7 : (L3 ++ DL ++ F.prev).length ≤ 1100 := by rw [List.length_append, List.length_append, HPL.out]; omega
  obtain ⟨L7, hL7⟩ : ∃ q, L3 ++ DL ++ F.prev = q := ⟨_, rfl⟩
  have HL7 : Veil (L3 ++ DL ++ F.prev = L7) := ⟨hL7⟩
  rw [hL7] at ho7 hl7
  clear hL7 hS kD kP hdt
  have c36 : w7.cell? ⟨w.heap.size, 36, none⟩ = some (.slice xw lw cw) := by rw [hD7.cell, ← HFW.out]; exact HP.out.2.2.2.2.2.1
  have hwr : IntKind.u8.wrap (lw : Int) = (lw : Int) := by rw [IntKind.wrap_u8]; omega
  have hO8 : OwnB (w7.alloc (.cells (row .u8 [(lw : Int)]) 5)) w.heap.size v7 L7 := ho7.alloc _
  have hD8 := hD7.alloc (.cells (row .u8 [(lw : Int)]) 5)
  have hB8 := hB7.alloc hB7.size (.cells (row .u8 [(lw : Int)]) 5)
  have hy8 := new_bytes w7 [(lw : Int)] (by simp)
  go_upto_region 7 with (at_builtin; refine wpList_app rfl _ _ rfl w.heap.size _ L7 rfl hO8 (some ⟨w7.heap.size, 0, none⟩) 1 1 [(lw : Int)] rfl hy8 (by omega) hB8.size ?_; intro v9 w9 ho9 hg9)
  have hD9 := hD8.grown hO8 hg9 (by decide)
  have hB9 : Below w.heap.size w w9 := below_grown hB8 hO8 hg9 hB8.size
  have hl9 : (L7 ++ [(lw : Int)]).length ≤ 1101 := by rw [List.length_append]; simp; omega
  obtain ⟨L9, hL9⟩ : ∃ q, L7 ++ [(lw : Int)] = q := ⟨_, rfl⟩
  have HL9 : Veil (L7 ++ [(lw : Int)] = L9) := ⟨hL9⟩
  rw [hL9] at ho9 hl9
  clear hL9 hg9 hO8 hD8 hB8 hy8 hwr c36 hB7 hD7 ho7
  go_wp2_with fail
  go_loopw [3, 4] (fun v q wr => ∃ j : Nat, j ≤ lw ∧ q = .int .i64 j ∧ OwnB wr w.heap.size v (L9 ++ wrapsL (ws.take j)) ∧ CellsAt wr w.heap.size 43 F.cells ∧ Below w.heap.size w wr) (fun _ q _ => lw - (intOf q).toNat)
  case atStart => exact ⟨0, by omega, rfl, by simpa [wrapsL] using ho9, hD9, hB9⟩
  case round =>
    clear ho9 hD9 hB9
    obtain ⟨j, hj, rfl, hO1, hD1, hB1⟩ := hrel
    obtain ⟨x1, n1, c1, hv1, hn1⟩ := hO1.isSlice
    subst hv1
    clear hn1
    have hlen : (wrapsL (ws.take j)).length ≤ 54 * 64 := by
      rw [wrapsL_le _ (fun e he => HOK.out e (List.mem_of_mem_take he)), List.length_take]; omega
    have c36 : wr.cell? ⟨w.heap.size, 36, none⟩ = some (.slice xw lw cw) := by rw [hD1.cell, ← HFW.out]; exact HP.out.2.2.2.2.2.1
    by_cases hlt : j < lw
    · have hjw : j < ws.length := by have := HLW.out; omega
      obtain ⟨b, off, hx, hrg⟩ : ∃ b off, xw = some ⟨b, off, none⟩ ∧ ∀ j (hj : j < ws.length), wr.rangeAt b (off + j * 51) (ws[j]).cells := by
        rcases (HWS.out wr hB1).at_ with h0 | h
        · omega
        · exact h
      subst hx
      have hr := hrg j hjw
      have hts := wrapsL_take ws j hjw
      have hok := HOK.out ws[j] (List.getElem_mem hjw)
      obtain ⟨E, hE⟩ : ∃ q, ws[j] = q := ⟨_, rfl⟩
      rw [hE] at hr hts hok
      have HTS : Veil (L9 ++ wrapsL (ws.take j) ++ wrapL E = L9 ++ wrapsL (ws.take (j + 1))) := ⟨by rw [hts, List.append_assoc]⟩
      obtain ⟨q1, q2, q3, q4, q5⟩ := wp_parts E hok
      have HQ : Veil (E.cells[0]? = some (.int .u8 E.too) ∧ (E.cells.drop 1).take 2 = dotC E.ea E.es ∧ (E.cells.drop 3).take 48 = E.data.map (Value.int .u8)) := ⟨q2, q3, q4⟩
      have HOKE : Veil (E.data.length = 48) := ⟨hok⟩
      have hsW := hB1.size
      have hltF := hD1.lt
      have hl6 : (L9 ++ wrapsL (ws.take j)).length ≤ 1100000 := by rw [List.length_append]; omega
      obtain ⟨A, hA⟩ : ∃ q, L9 ++ wrapsL (ws.take j) = q := ⟨_, rfl⟩
      rw [hA] at hO1 HTS hl6
      have hZ0 : CellsAt (wr.alloc (.cells zeroWp.toArray 73)) wr.heap.size 73 zeroWp := CellsAt.new wr 73 zeroWp
      have hj0 : (0 : Int) ≤ (j : Int) := by omega
      have hjl : (j : Int) < (lw : Int) := by omega
      have hiW : (Tryz.prog.info? 73).map (·.size) = some E.cells.length := by rw [q1]; exact sizeWrap
      have hzl : zeroWp.length = E.cells.length := by rw [q1]; rfl
      clear hrg hts hE hA q1 q2 q3 q4 hlen hjw hok
      go_upto_region 11 with (first
        | (refine wpList_ldv rfl 73 _ rfl _ _ rfl E.cells hr Tryz.underlying73 rfl hiW ?_)
        | (refine wpList_stv rfl 73 _ _ rfl _ rfl rfl hZ0 hiW hzl q5 ?_))
      have hD2 : CellsAt ((wr.alloc (.cells zeroWp.toArray 73)).setRow wr.heap.size E.cells.toArray) w.heap.size 43 F.cells := by
        have := hD1.alloc (.cells zeroWp.toArray 73)
        unfold CellsAt at this ⊢
        rw [setRow_other _ _ _ _ (by omega)]; exact this
      have hO2 : OwnB ((wr.alloc (.cells zeroWp.toArray 73)).setRow wr.heap.size E.cells.toArray) w.heap.size (.slice x1 n1 c1) A := by
        refine (hO1.alloc (.cells zeroWp.toArray 73)).keepT hZ0 (by decide) (fun g hg => setRow_other _ _ _ _ hg)
      refine forget (p := fun y => Code.wp _ _ _ _ y) (fun W1 => Below w.heap.size w W1 ∧ OwnB W1 w.heap.size (.slice x1 n1 c1) A ∧ CellsAt W1 w.heap.size 43 F.cells ∧ CellsAt W1 wr.heap.size 73 E.cells) ⟨below_setRow (hB1.alloc hsW _) hsW _, hO2, hD2, hZ0.setRow _⟩ ?_
      obtain ⟨G, hG⟩ : ∃ q, wr.heap.size = q := ⟨_, rfl⟩
      rw [hG] at hsW hltF ⊢
      clear hZ0 hO2 hD2 hr hiW hzl q5 hG hO1 hD1 hB1 c36
      rintro W1 ⟨hB1, hO1, hD1, hE1⟩
      have kW : ∀ w', CellsAt w' G 73 E.cells → w'.cell? ⟨G, 0, none⟩ = some (.int .u8 E.too) ∧ w'.rangeAt G 1 (dotC E.ea E.es) := fun w' h => by
        have := h.range 1 2
        rw [HQ.out.2.1] at this
        exact ⟨by rw [h.cell]; exact HQ.out.1, this⟩
      have kP : ∀ w', CellsAt w' G 73 E.cells → Bytes w' (some ⟨G, 3, none⟩) 48 48 E.data := fun w' h => by
        have := h.range 3 48
        rw [HQ.out.2.2] at this
        exact rangeBytes this HOKE.out.symm (by rw [HOKE.out]; omega)
      have hdt := fun wx => refDot_any E.ea E.es wx
      have hdl2 := dotL_length E.ea E.es
      have HWL : Veil ([E.too] ++ dotL E.ea E.es ++ E.data = wrapL E) := ⟨rfl⟩
      obtain ⟨DL2, hDL2⟩ : ∃ q, dotL E.ea E.es = q := ⟨_, rfl⟩
      rw [hDL2] at hdt hdl2 HWL
      clear hDL2
      refine wp_region_gate (fun w' => w'.cell? ⟨G, 0, none⟩ = some (.int .u8 E.too) ∧ w'.rangeAt G 1 (dotC E.ea E.es)) 12 (by kernel_rfl) ?_
      obtain ⟨D0, hD0⟩ : ∃ q, W1.drew = q := ⟨_, rfl⟩
      have hb0 : Below W1.heap.size W1 D0 := by rw [← hD0]; exact (Below.refl _ _).drew
      rw [hD0]
      have hB2 := hB1.trans (hb0.mono hB1.size)
      have hD2 := hD1.afar hb0
      have hE2 := hE1.afar hb0
      have hO2 := hO1.afarW hb0
      clear hD0 hb0 hB1 hD1 hE1 hO1
      have hS := kW _ hE2
      refine wpAnyG_any (i := 0) (v := ?_) rfl (by kernel_rfl) (by kernel_rfl) (by kernel_rfl) (fun _ _ _ h => h) (by kernel_rfl) (fun _ => hS) (by kernel_rfl) ?_ ?_
      rotate_left
      · intro _; go_simp; try with_reducible rfl
      simp only [Act.put, sI, sZ, sS]
      refine wpAnyG_any (i := 1) (v := ?_) rfl (by kernel_rfl) (by kernel_rfl) (by kernel_rfl) (fun _ _ _ h => h) (by kernel_rfl) (fun _ => hS) (by kernel_rfl) ?_ ?_
      rotate_left
      · intro _; go_simp; try with_reducible rfl
      simp only [Act.put, sI, sZ, sS]
      refine wpAnyG_read (i := 2) (v := ?_) rfl (by kernel_rfl) (by kernel_rfl) (by kernel_rfl) (fun _ _ _ h => h) (by kernel_rfl) (by kernel_rfl) (by kernel_rfl) hS (by kernel_rfl) ?_ ?_
      rotate_left
      · intro wx hSw; go_split_ands; go_simp; try with_reducible rfl
      simp only [Act.put, sI, sZ, sS]
      refine wpAnyG_any (i := 5) (v := ?_) rfl (by kernel_rfl) (by kernel_rfl) (by kernel_rfl) (fun _ _ _ h => h) (by kernel_rfl) (fun _ => hS) (by kernel_rfl) ?_ ?_
      rotate_left
      · intro _; go_simp; try with_reducible rfl
      simp only [Act.put, sI, sZ, sS]
      refine wpAnyG_load (i := 6) (dst := some 51) (ty := 26) (x := .tmp 50) (b := G) (o := (1)) (cs := (dotC E.ea E.es)) (by kernel_rfl) (by kernel_rfl) (by kernel_rfl) (by kernel_rfl) (by kernel_rfl) (fun _ _ _ h => h) (by kernel_rfl) (by kernel_rfl) (by kernel_rfl) hS (by kernel_rfl) (fun _ h => h.2) uD rfl iD ?_
      simp only [Act.put, sI, sZ, sS]
      refine wpAnyG_any (i := 9) (v := ?_) rfl (by kernel_rfl) (by kernel_rfl) (by kernel_rfl) (fun _ _ _ h => h) (by kernel_rfl) (fun _ => hS) (by kernel_rfl) ?_ ?_
      rotate_left
      · intro _; go_simp; try with_reducible rfl
      simp only [Act.put, sI, sZ, sS]
      refine wpAnyG_any (i := 10) (v := ?_) rfl (by kernel_rfl) (by kernel_rfl) (by kernel_rfl) (fun _ _ _ h => h) (by kernel_rfl) (fun _ => hS) (by kernel_rfl) ?_ ?_
      rotate_left
      · intro _; go_simp; try with_reducible rfl
      simp only [Act.put, sI, sZ, sS]
      refine wpAnyG_one (i := 3) rfl (by kernel_rfl) (by kernel_rfl) (fun K hK => ?_)
      go_simp
      have hO3 := hO2.alloc (.cells (row .u8 [E.too]) 5)
      have hD3 := hD2.alloc (.cells (row .u8 [E.too]) 5)
      have hE3 := hE2.alloc (.cells (row .u8 [E.too]) 5)
      have hB3 := hB2.alloc hB2.size (.cells (row .u8 [E.too]) 5)
      have hy3 := new_bytes D0 [E.too] (by simp)
      replace hS := kW _ hE3
      refine hK.out _ _ (fun _ => hS) ?_
      clear hK K
      obtain ⟨G3, hG3⟩ : ∃ q, D0.heap.size = q := ⟨_, rfl⟩
      obtain ⟨U3, hU3⟩ : ∃ q, D0.alloc (.cells (row .u8 [E.too]) 5) = q := ⟨_, rfl⟩
      have hc3 : D0.alloc (.cells #[.int .u8 E.too] 5) = U3 := hU3
      rw [hU3] at hO3 hD3 hE3 hB3 hy3
      rw [hG3] at hy3
      rw [hc3, hG3]
      clear hU3 hc3 hG3 hO2 hD2 hE2 hB2
      refine wpAnyG_one (i := 4) rfl (by kernel_rfl) (by kernel_rfl) (fun K hK => ?_)
      refine wp_appA _ _ rfl w.heap.size _ A rfl hO3 (some ⟨G3, 0, none⟩) 1 1 [E.too] rfl hy3 (by omega) hB3.size ?_
      intro v4 w4 ho4 hg4
      have hD4 := hD3.grown hO3 hg4 (by decide)
      have hE4 := hE3.grown hO3 hg4 (by decide)
      have hB4 : Below w.heap.size w w4 := below_grown hB3 hO3 hg4 hB3.size
      replace hS := kW _ hE4
      clear hg4 hO3 hD3 hB3 hE3 hy3
      refine hK.out _ _ (fun _ => hS) ?_
      clear hK K
      refine wpAnyG_one (i := 7) rfl (by kernel_rfl) (by kernel_rfl) (fun K hK => ?_)
      go_wp2_with (go_at_call 115; refine (hdt _).mono ?_; rintro e w5 ⟨v5, rfl, ho5, hb5⟩)
      obtain ⟨x5, n5, c5, rfl, hn5⟩ := ho5.isSlice
      have hy5 := ho5.bytes.2
      rw [hdl2] at hn5
      subst hn5
      have hO5 := ho4.afarW hb5
      have hD5 := hD4.afar hb5
      have hE5 := hE4.afar hb5
      have hB5 := hB4.trans (hb5.mono hB4.size)
      clear ho4 hD4 hB4 hE4 hb5 ho5
      replace hS := kW _ hE5
      refine hK.out _ _ (fun _ => hS) ?_
      clear hK K
      refine wpAnyG_one (i := 8) rfl (by kernel_rfl) (by kernel_rfl) (fun K hK => ?_)
      refine wp_appA _ _ rfl w.heap.size _ (A ++ [E.too]) rfl hO5 x5 5 c5 DL2 rfl hy5 (by rw [List.length_append]; simp; omega) hB5.size ?_
      intro v6 w6 ho6 hg6
      have hD6 := hD5.grown hO5 hg6 (by decide)
      have hE6 := hE5.grown hO5 hg6 (by decide)
      have hB6 : Below w.heap.size w w6 := below_grown hB5 hO5 hg6 hB5.size
      replace hS := kW _ hE6
      clear hg6 hO5 hD5 hB5 hE5 hy5
      refine hK.out _ _ (fun _ => hS) ?_
      clear hK K
      refine wpAnyG_one (i := 11) rfl (by kernel_rfl) (by kernel_rfl) (fun K hK => ?_)
      refine wp_appA _ _ rfl w.heap.size _ (A ++ [E.too] ++ DL2) rfl ho6 (some ⟨G, 3, none⟩) 48 48 E.data rfl (kP _ hE6) (by rw [List.length_append, List.length_append]; simp; omega) hB6.size ?_
      intro v7 w7 ho7 hg7
      have hD7 := hD6.grown ho6 hg7 (by decide)
      have hE7 := hE6.grown ho6 hg7 (by decide)
      have hB7 : Below w.heap.size w w7 := below_grown hB6 ho6 hg7 hB6.size
      replace hS := kW _ hE7
      clear hg7 ho6 hD6 hB6 hE6
      refine hK.out _ _ (fun _ => hS) ?_
      clear hK K
      refine wpAnyG_one (i := 12) rfl (by kernel_rfl) (by kernel_rfl) (fun K hK => ?_)
      go_simp
      refine hK.out _ _ (fun h => absurd (show true = false from h) (by decide)) ?_
      clear hK K
      refine wpAnyG_done (by kernel_rfl) ?_ _
      have ho8 : OwnB w7 w.heap.size v7 (L9 ++ wrapsL (ws.take (j + 1))) := by
        rw [← HTS.out, ← HWL.out]
        simp only [List.append_assoc] at ho7 ⊢
        exact ho7
      clear ho7 hS hE7 kW kP
      go_wp2
      go_roundw
      case rel => exact ⟨j + 1, by omega, by go_num, ho8, hD7, hB7⟩
      case measure => simp [intOf]; omega
    · obtain rfl : j = lw := by omega
      have HA : Veil (ws.take j = ws) := ⟨List.take_of_length_le (by have := HLW.out; omega)⟩
      rw [HA.out] at hO1
      go_wp2
      go_ret
      refine ⟨_, rfl, ?_, hB1⟩
      rw [← HL9.out, ← HL7.out, ← HL3.out, ← HL1.out, ← HN4.out, ← HDL.out, HLW.out] at hO1
      unfold openL
      simp only [List.append_assoc] at hO1 ⊢
      exact hO1
end Go.Proofs.YtfainlfiphdaeaaGreatDoor
namespace Go.Proofs.YtfainlfiphdaeaaGreatDoor
open Go.RowKit
set_option maxRecDepth 20000
set_option linter.unusedSimpArgs false
set_option maxHeartbeats 4000000 in
theorem refFrame_any (F : Fr) (xw : Option Addr) (lw cw : Nat) (ws : List Wp) (xb : Option Addr) (lb cb : Nat) (body : List Int) (w : World) (hp : F.prev.length = 32) (hm : F.mac.length = 32) (hfw : F.wraps = .slice xw lw cw) (hws : WrapsAt w xw lw cw ws) (hfb : F.body = .slice xb lb cb) (hbo : Bytes w xb lb cb body) (h1 : lw ≤ 64) (h2 : lb ≤ 4112) :
    Calls Tryz.prog 31 #[.agg F.cells.toArray] w fun e w' => ∃ v, e = .returned (.tuple #[v, .int .i64 0]) ∧ OwnB w' w.heap.size v (frameL F ws body) ∧ Below w.heap.size w w' := by
  obtain ⟨q0, _, _, _, _, q6, q7, q8⟩ := fr_parts F hp hm
  have HQ : Veil (F.cells[36]? = some (.slice xw lw cw) ∧ F.cells[37]? = some (.slice xb lb cb) ∧ (F.cells.drop 38).take 32 = F.mac.map (Value.int .u8)) := ⟨by rw [← hfw]; exact q6, by rw [← hfb]; exact q7, q8⟩
  have hiF : (Tryz.prog.info? 43).map (·.size) = some F.cells.length := by rw [q0]; exact sizeFrame
  have hol := openL_length F ws hp hws.ok
  rw [← hws.len_eq] at hol
  have HBL : Veil (body.length = lb) := ⟨hbo.len_eq.symm⟩
  have HML : Veil (F.mac.length = 32) := ⟨hm⟩
  have hbody := fun wx (h : Below w.heap.size w wx) => hbo.below h
  have hop := fun wx (h0 : Below w.heap.size w wx) => refOpen_any F xw lw cw ws wx hp hm hfw (hws.below h0) h1
  have hD0 := CellsAt.new w 43 F.cells
  have hB0 : Below w.heap.size w (w.alloc (.cells F.cells.toArray 43)) := (Below.refl _ _).alloc (Nat.le_refl _) _
  have h1' : ¬ (lw : Int) > 64 := by omega
  have h2' : ¬ (lb : Int) > 4112 := by omega
  have c36 := hD0.cell 36
  have c37 := hD0.cell 37
  rw [HQ.out.1] at c36
  rw [HQ.out.2.1] at c37
  have hcw := hws.le
  have htw := hws.top
  have hcb := hbo.le
  have htb := hbo.top
  clear q0 q6 q7 q8 hfw hfb hp hm hws hbo
  go_enter Tryz.func31, Tryz.ntmps31
  go_upto_region 3 with fail
  refine forget (p := fun y => Code.wp _ _ _ _ y) (fun W0 => Below w.heap.size w W0 ∧ CellsAt W0 w.heap.size 43 F.cells) ⟨hB0, hD0⟩ ?_
  clear hB0 hD0 c36 c37
  rintro W0 ⟨hB0, hD0⟩
  have rE : W0.rangeAt w.heap.size 0 F.cells := fun j v hv => by rw [Nat.zero_add, hD0.cell]; exact hv
  have hop1 := hop W0 hB0
  go_upto_region 4 with (first
    | (refine wpList_ldv rfl 43 _ rfl _ _ rfl F.cells rE Tryz.underlying43 rfl hiF ?_)
    | (go_at_call 63; refine hop1.mono ?_; rintro e w1 ⟨v1, rfl, ho1, hb1⟩))
  have hO1 := ho1.lessG hB0.size
  have hD1 := hD0.afar hb1
  have hB1 := hB0.trans (hb1.mono hB0.size)
  obtain ⟨L1, hL1⟩ : ∃ q, openL F ws = q := ⟨_, rfl⟩
  have HL1 : Veil (openL F ws = L1) := ⟨hL1⟩
  rw [hL1] at hO1 hol
  have hl1 : L1.length ≤ 10000 := by omega
  clear hop hop1 rE hD0 hB0 ho1 hb1 hL1 hol
  have c37 : w1.cell? ⟨w.heap.size, 37, none⟩ = some (.slice xb lb cb) := by rw [hD1.cell]; exact HQ.out.2.1
  have e1 : IntKind.u8.wrap ((lb : Int) / 2 ^ 8) = (lb : Int) / 256 % 256 := by simp [IntKind.wrap, IntKind.bits, IntKind.signed]
  have e2 : IntKind.u8.wrap (lb : Int) = (lb : Int) % 256 := by simp [IntKind.wrap, IntKind.bits, IntKind.signed]
  have e3 : IntKind.u8.wrap ((lb : Int) / 256) = (lb : Int) / 256 % 256 := by simp [IntKind.wrap, IntKind.bits, IntKind.signed]
  have hO2 : OwnB (w1.alloc (.cells (row .u8 (be2 lb)) 5)) w.heap.size v1 L1 := hO1.alloc _
  have hD2 := hD1.alloc (.cells (row .u8 (be2 lb)) 5)
  have hB2 := hB1.alloc hB1.size (.cells (row .u8 (be2 lb)) 5)
  have hy2 := new_bytes w1 (be2 lb) (by simp [be2])
  go_upto_region 5 with (at_builtin; refine wpList_app rfl _ _ rfl w.heap.size _ L1 rfl hO2 (some ⟨w1.heap.size, 0, none⟩) 2 2 (be2 lb) rfl hy2 (by omega) hB2.size ?_; intro v3 w3 ho3 hg3)
  have hD3 := hD2.grown hO2 hg3 (by decide)
  have hB3 : Below w.heap.size w w3 := below_grown hB2 hO2 hg3 hB2.size
  have hl3 : (L1 ++ be2 lb).length ≤ 10002 := by rw [List.length_append]; simp [be2]; omega
  obtain ⟨L3, hL3⟩ : ∃ q, L1 ++ be2 lb = q := ⟨_, rfl⟩
  have HL3 : Veil (L1 ++ be2 lb = L3) := ⟨hL3⟩
  rw [hL3] at ho3 hl3
  clear hL3 hg3 hO2 hD2 hB2 hy2 e1 e2 e3 c37 hO1 hD1 hB1
  have c37 : w3.cell? ⟨w.heap.size, 37, none⟩ = some (.slice xb lb cb) := by rw [hD3.cell]; exact HQ.out.2.1
  have hy3 := hbody w3 hB3
  go_upto_region 6 with (at_builtin; refine wpList_app rfl _ _ rfl w.heap.size _ L3 rfl ho3 xb lb cb body rfl hy3 (by omega) hB3.size ?_; intro v4 w4 ho4 hg4)
  have hD4 := hD3.grown ho3 hg4 (by decide)
  have hB4 : Below w.heap.size w w4 := below_grown hB3 ho3 hg4 hB3.size
  have hl4 : (L3 ++ body).length ≤ 20000 := by rw [List.length_append, HBL.out]; omega
  clear hg4 ho3 hD3 hB3 c37 hy3 hbody
  have rM : w4.rangeAt w.heap.size 38 (F.mac.map (Value.int .u8)) := by
    have := hD4.range 38 32
    rw [HQ.out.2.2] at this
    exact this
  have hy4 := rangeBytes rM HML.out.symm (by rw [HML.out]; omega)
  go_wp2_with (at_builtin; refine wpList_app rfl _ _ rfl w.heap.size _ (L3 ++ body) rfl ho4 (some ⟨w.heap.size, 38, none⟩) 32 32 F.mac rfl hy4 (by omega) hB4.size ?_; intro v5 w5 ho5 hg5)
  go_ret2
  refine ⟨_, rfl, ?_, below_grown hB4 ho4 hg5 hB4.size⟩
  unfold frameL
  rw [HBL.out, HL1.out, HL3.out]
  exact ho5
end Go.Proofs.YtfainlfiphdaeaaGreatDoor
namespace Go.Proofs.YtfainlfiphdaeaaGreatDoor
open Go.RowKit
set_option maxRecDepth 20000
set_option linter.unusedSimpArgs false
theorem frameL_len7 (F : Fr) (ws : List Wp) (body : List Int) (hp : F.prev.length = 32) (hm : F.mac.length = 32) (h : ∀ e ∈ ws, e.data.length = 48) : (frameL F ws body).length = 79 + 54 * ws.length + body.length := by
  unfold frameL
  simp only [List.length_append, openL_length F ws hp h, hm, be2, List.length_cons, List.length_nil]
  omega
theorem sealed_frame {V : World} {seed : List Int} {own : Int} {k : List Int} {n : Int} {lw : Nat} {ws : List Wp} {E : Ev} {ea es : Int} {F : Fr} (h : SealedF V seed own k n lw ws E ea es F) :
    Calls Tryz.prog 31 #[.agg F.cells.toArray] V fun e w' => ∃ x c, e = .returned (.tuple #[.slice x (223 + 54 * lw) c, .int .i64 0]) ∧ Below V.heap.size V w' := by
  obtain ⟨yw, dw, yb, db, hq⟩ := h.ok
  have hl := (seal_zero h.zero).2.1
  have hbl : (sbodyL k F ws E).length = 144 := hq.hb.len_eq.symm
  refine (refFrame_any F yw lw dw ws yb 144 db _ V hq.prev hq.mac hq.wraps hq.hw hq.body_ hq.hb hl (by omega)).mono ?_
  rintro e w' ⟨v, he, hv, hb⟩
  have hlen := frameL_len7 F ws (sbodyL k F ws E) hq.prev hq.mac (fun e he => hq.hw.ok e he)
  have hwl := hq.hw.len_eq
  rcases hv.2 with ⟨rfl, h0⟩ | ⟨g, cap, cur, rfl, -⟩
  · omega
  · have e1 : (frameL F ws (sbodyL k F ws E)).length = 223 + 54 * lw := by rw [hlen, hbl, hwl]; omega
    rw [e1] at he
    exact ⟨some ⟨g, 0, none⟩, cap, he, hb⟩
theorem sealed_body {V : World} {seed : List Int} {own : Int} {k : List Int} {n : Int} {lw : Nat} {ws : List Wp} {E : Ev} {ea es : Int} {F : Fr} (h : SealedF V seed own k n lw ws E ea es F) : ∃ x c, F.cells[37]? = some (.slice x 144 c) := by
  obtain ⟨yw, dw, yb, db, hq⟩ := h.ok
  have := (fr_parts F hq.prev hq.mac).2.2.2.2.2.2.1
  rw [hq.body_] at this
  exact ⟨yb, db, this⟩
theorem aq_at {w W : World} {g : Nat} {q : Aq} {xw : Option Addr} {lw cw : Nat} {ws : List Wp} (hq : AqIn w q xw lw cw ws) (h : CellsAt W g 35 q.cells) : W.cell? ⟨g, 0, none⟩ = some (.int .u8 q.own) ∧ W.rangeAt g 1 (q.seed.map (Value.int .u8)) ∧ W.cell? ⟨g, 33, none⟩ = some (.int .u32 q.num) ∧ W.rangeAt g 34 (q.prev.map (Value.int .u8)) ∧ W.rangeAt g 66 (dotC q.ea q.es) ∧ W.cell? ⟨g, 68, none⟩ = some (.slice xw lw cw) ∧ W.rangeAt g 69 q.E.cells := by
  obtain ⟨-, q0, q1, q33, q34, q66, q68, q69⟩ := aq_parts q hq.seed hq.prev hq.E.plen
  rw [hq.wraps] at q68
  refine ⟨(h.cell 0).trans q0, ?_, (h.cell 33).trans q33, ?_, ?_, (h.cell 68).trans q68, ?_⟩
  · have := h.range 1 32; rw [q1] at this; exact this
  · have := h.range 34 32; rw [q34] at this; exact this
  · have := h.range 66 2; rw [q66] at this; exact this
  · have := h.range 69 17; rw [q69] at this; exact this
def RQ (V : World) (q : Aq) (H : Nat) : Prop := ∃ base b v L, RingAt V base H ((q.own.toNat % 8 : Nat) : Int) q.seed b (ringM ((q.own.toNat % 8 : Nat) : Int) q.seed q.ea q.es) v L
theorem RQ.far {V V' : World} {q : Aq} {H : Nat} (h : RQ V q H) (hb : Below V.heap.size V V') : RQ V' q H := by
  obtain ⟨base, b, v, L, hR⟩ := h
  exact ⟨base, b, v, L, hR.far hb⟩
theorem ringsQ {w V : World} {q : Aq} {xw : Option Addr} {lw cw : Nat} {ws : List Wp} (hq : AqIn w q xw lw cw ws) (hKT : S.KTab V) :
    Calls Tryz.prog 16 #[.int .u8 q.own, .agg (q.seed.map (Value.int .u8)).toArray, .agg (dotC q.ea q.es).toArray] V fun e w' => ∃ H O, e = .returned (.tuple #[.pointer (some ⟨H, 0, none⟩), .pointer (some ⟨O, 0, none⟩)]) ∧ RQ w' q H ∧ Below V.heap.size V w' := by
  have h0 := hq.own.1
  have h5 := hq.own.2
  have hm : q.own = ((q.own.toNat : Nat) : Int) := by omega
  have := rings_any q.own.toNat (by omega) q.seed hq.seed q.ea q.es ⟨hq.ea, hq.es⟩ V hKT
  rw [← hm] at this
  refine this.mono ?_
  rintro e w' ⟨H, O, b, v, L, vo, he, hR⟩
  exact ⟨H, O, he, ⟨_, b, v, L, hR.ring⟩, hR.below⟩
def SZ (V : World) (lw : Nat) (F : Fr) : Prop := ∃ seed own k n ws E ea es, SealedF V seed own k n lw ws E ea es F
theorem SZ.below {V V' : World} {lw : Nat} {F : Fr} (h : SZ V lw F) (hb : Below V.heap.size V V') : SZ V' lw F := by
  obtain ⟨seed, own, k, n, ws, E, ea, es, hS⟩ := h
  exact ⟨seed, own, k, n, ws, E, ea, es, hS.below hb⟩
theorem SZ.frame {V : World} {lw : Nat} {F : Fr} (h : SZ V lw F) : Calls Tryz.prog 31 #[.agg F.cells.toArray] V fun e w' => ∃ x c, e = .returned (.tuple #[.slice x (223 + 54 * lw) c, .int .i64 0]) ∧ Below V.heap.size V w' := by
  obtain ⟨seed, own, k, n, ws, E, ea, es, hS⟩ := h
  exact sealed_frame hS
theorem SZ.facts {V : World} {lw : Nat} {F : Fr} (h : SZ V lw F) : lw ≤ 64 ∧ ∃ x c, F.cells[37]? = some (.slice x 144 c) := by
  obtain ⟨seed, own, k, n, ws, E, ea, es, hS⟩ := h
  exact ⟨(seal_zero hS.zero).2.1, sealed_body hS⟩
theorem sealQ {W : World} {q : Aq} {xw : Option Addr} {lw cw : Nat} {ws : List Wp} {H : Nat} (hq : AqIn W q xw lw cw ws) (hR : RQ W q H) (hKT : S.KTab W) (hBT : BTab W) :
    Calls Tryz.prog 17 #[.pointer (some ⟨H, 0, none⟩), .int .u32 q.num, .agg (q.prev.map (Value.int .u8)).toArray, .agg (dotC q.ea q.es).toArray, .slice xw lw cw, .agg q.E.cells.toArray] W fun e w' => ∃ (F : Fr) (n : Int), e = .returned (.tuple #[.agg F.cells.toArray, .int .i64 n]) ∧ F.cells.length = 70 ∧ (∀ v ∈ F.cells, v.oneCell' = true) ∧ (n = 0 → SZ w' lw F) ∧ Below W.heap.size W w' := by
  obtain ⟨base, b, v, L, hR⟩ := hR
  refine (sealS_any base H _ _ b _ v L W q xw lw cw ws hq hR hKT hBT (by omega)).mono ?_
  rintro e w' ⟨F, n, he, hp, hm, h1, -, h0, hb⟩
  refine ⟨F, n, he, (fr_parts F hp hm).1, h1, fun h => ?_, hb⟩
  obtain ⟨k, -, hS⟩ := h0 h
  exact ⟨_, _, _, _, _, _, _, _, hS⟩
end Go.Proofs.YtfainlfiphdaeaaGreatDoor
namespace Go.Proofs.YtfainlfiphdaeaaGreatDoor
open Go.RowKit
set_option maxRecDepth 20000
set_option linter.unusedSimpArgs false
set_option maxHeartbeats 16000000 in
theorem frameSizes_walk (q0 : Aq) (xw : Option Addr) (lw0 cw : Nat) (ws0 : List Wp) (p0 : Aq) (yw : Option Addr) (mw0 dw : Nat) (vs0 : List Wp) (w : World) (hq0 : AqIn w q0 xw lw0 cw ws0) (hp0 : AqIn w p0 yw mw0 dw vs0) (hKT : S.KTab w) (hBT : BTab w) :
    Calls Tryz.prog 6 #[.agg q0.cells.toArray, .agg p0.cells.toArray] w fun e w' => e = .returned (.bool true) ∧ Below w.heap.size w w' := by
  have hA := (CellsAt.new w 35 q0.cells).alloc (.cells p0.cells.toArray 35)
  have hB := CellsAt.new (w.alloc (.cells q0.cells.toArray 35)) 35 p0.cells
  rw [World.size_alloc] at hB
  have hb0 : Below w.heap.size w ((w.alloc (.cells q0.cells.toArray 35)).alloc (.cells p0.cells.toArray 35)) := ((Below.refl _ _).alloc (Nat.le_refl _) _).alloc (by simp) _
  have HFX : Veil (∀ W, Below w.heap.size w W → Calls Tryz.prog 15 #[.agg q0.cells.toArray] W fun e w' => ∃ (q : Aq) (lw : Nat) (ws : List Wp), e = .returned (.agg q.cells.toArray) ∧ AqIn w q xw lw cw ws ∧ q.cells.length = 86 ∧ (∀ v ∈ q.cells, v.oneCell' = true) ∧ Below W.heap.size W w') := ⟨fun W hb => by
    refine (few7_any q0 xw lw0 cw ws0 W (hq0.below hb)).mono ?_
    rintro e w' ⟨q, lw, ws, he, hq, -, hb'⟩
    have hq := hq w hq0
    exact ⟨q, lw, ws, he, hq, (aq_parts q hq.seed hq.prev hq.E.plen).1, aq_one q hq.wraps, hb'⟩⟩
  have HFY : Veil (∀ W, Below w.heap.size w W → Calls Tryz.prog 15 #[.agg p0.cells.toArray] W fun e w' => ∃ (q : Aq) (lw : Nat) (ws : List Wp), e = .returned (.agg q.cells.toArray) ∧ AqIn w q yw lw dw ws ∧ q.cells.length = 86 ∧ (∀ v ∈ q.cells, v.oneCell' = true) ∧ Below W.heap.size W w') := ⟨fun W hb => by
    refine (few7_any p0 yw mw0 dw vs0 W (hp0.below hb)).mono ?_
    rintro e w' ⟨q, lw, ws, he, hq, -, hb'⟩
    have hq := hq w hp0
    exact ⟨q, lw, ws, he, hq, (aq_parts q hq.seed hq.prev hq.E.plen).1, aq_one q hq.wraps, hb'⟩⟩
  have h86 := (aq_parts q0 hq0.seed hq0.prev hq0.E.plen).1
  have h87 := (aq_parts p0 hp0.seed hp0.prev hp0.E.plen).1
  have iA0 : (Tryz.prog.info? 35).map (·.size) = some q0.cells.length := by rw [h86]; exact sizeAq
  have iB0 : (Tryz.prog.info? 35).map (·.size) = some p0.cells.length := by rw [h87]; exact sizeAq
  have HKT : Veil (∀ W, Below w.heap.size w W → S.KTab W ∧ BTab W) := ⟨fun W hb => ⟨hKT.below hb, hBT.below hb⟩⟩
  have HLV : Veil (∀ W, Below w.heap.size w W → Calls Tryz.prog 19 #[] W fun e w' => e = .returned (.bool true) ∧ Below W.heap.size W w') := ⟨fun W hb => flive_any W (hKT.below hb) (hBT.below hb)⟩
  have uA := Tryz.underlying35
  have uF := Tryz.underlying43
  have uE := Tryz.underlying33
  have uK := Tryz.underlying23
  have uD := Tryz.underlying26
  clear hq0 hp0 hKT hBT
  generalize q0.cells = QC at hA hB hb0 HFX h86 iA0 ⊢
  generalize p0.cells = PC at hA hB hb0 HFY h87 iB0 ⊢
  go_enter Tryz.func6, Tryz.ntmps6
  go_upto_region 1 with fail
  refine wp_region_gate (fun w' => w'.rangeAt (w.heap.size + 1) 0 PC) 5 (by kernel_rfl) ?_
  refine forget (p := fun y => wpAnyG _ _ _ _ _ _ _ _ _ y) (fun V => Below w.heap.size w V ∧ CellsAt V w.heap.size 35 QC ∧ CellsAt V (w.heap.size + 1) 35 PC) ⟨hb0.drew, hA.congr rfl, hB.congr rfl⟩ ?_
  clear hb0 hA hB
  rintro V ⟨hb, hA, hB⟩
  have hS : (fun w' : World => w'.rangeAt (w.heap.size + 1) 0 PC) V := hB.wholeM
  refine wpAnyG_load (i := 2) (dst := some 19) (ty := 35) (x := .tmp 3) (b := (w.heap.size + 1)) (o := (0)) (cs := PC) (by kernel_rfl) (by kernel_rfl) (by kernel_rfl) (by kernel_rfl) (by kernel_rfl) (fun _ _ _ h => h) (by kernel_rfl) (by kernel_rfl) (by kernel_rfl) hS (by kernel_rfl) (fun _ h => h) uA rfl iB0 ?_
  simp only [Act.put, gA, gS, gZ, sI, sZ, sS]
  refine wpAnyG_one (i := 0) rfl (by kernel_rfl) (by kernel_rfl) (fun K hK => ?_)
  refine wp_load_mid 35 _ rfl w.heap.size 0 rfl QC _ hA.wholeM uA rfl iA0 ?_
  go_simp
  refine hK.out _ _ (fun _ => hS) ?_
  clear hK K
  try simp only [Act.put, gA, gS, gZ, sI, sZ, sS]
  refine wpAnyG_one (i := 1) rfl (by kernel_rfl) (by kernel_rfl) (fun K hK => ?_)
  refine wpx_call _ _ (by kernel_rfl) ((HFX.out V hb).mono ?_)
  rintro e w1 ⟨q, lw, ws, rfl, hq, q86, q1, hb1⟩
  refine ⟨_, rfl, ?_⟩
  have hA1 := hA.farM hb1
  have hB1 := hB.farM hb1
  have hw1 := hb.trans (hb1.mono hb.size)
  replace hS : (fun w' : World => w'.rangeAt (w.heap.size + 1) 0 PC) w1 := hB1.wholeM
  refine hK.out _ _ (fun _ => hS) ?_
  clear hK K
  try simp only [Act.put, gA, gS, gZ, sI, sZ, sS]
  refine wpAnyG_one (i := 3) rfl (by kernel_rfl) (by kernel_rfl) (fun K hK => ?_)
  refine wpx_call _ _ (by kernel_rfl) ((HFY.out w1 hw1).mono ?_)
  rintro e w2 ⟨p, mw, vs, rfl, hp, p86, p1, hb2⟩
  refine ⟨_, rfl, ?_⟩
  have hA2 := hA1.farM hb2
  have hB2 := hB1.farM hb2
  have hw2 := hw1.trans (hb2.mono hw1.size)
  replace hS : (fun w' : World => w'.rangeAt (w.heap.size + 1) 0 PC) w2 := hB2.wholeM
  refine hK.out _ _ (fun _ => hS) ?_
  clear hK K
  try simp only [Act.put, gA, gS, gZ, sI, sZ, sS]
  have iA : (Tryz.prog.info? 35).map (·.size) = some q.cells.length := by rw [q86]; exact sizeAq
  have iB : (Tryz.prog.info? 35).map (·.size) = some p.cells.length := by rw [p86]; exact sizeAq
  have hB3 : CellsAt (w2.setRow w.heap.size q.cells.toArray) (w.heap.size + 1) 35 PC := hB2.congr (setRow_other _ _ _ _ (by omega))
  refine wpAnyG_one (i := 4) rfl (by kernel_rfl) (by kernel_rfl) (fun K hK => ?_)
  refine wp_stvE 35 _ _ rfl _ rfl rfl hA2 iA (by rw [h86, q86]) q1 ?_
  go_simp
  replace hS : (fun w' : World => w'.rangeAt (w.heap.size + 1) 0 PC) (w2.setRow w.heap.size q.cells.toArray) := hB3.wholeM
  refine hK.out _ _ (fun _ => hS) ?_
  clear hK K
  try simp only [Act.put, gA, gS, gZ, sI, sZ, sS]
  refine wpAnyG_one (i := 5) rfl (by kernel_rfl) (by kernel_rfl) (fun K hK => ?_)
  refine wp_stvE 35 _ _ rfl _ rfl rfl hB3 iB (by rw [h87, p86]) p1 ?_
  go_simp
  refine hK.out _ _ (fun h => absurd (show true = false from h) (by decide)) ?_
  clear hK K
  try simp only [Act.put, gA, gS, gZ, sI, sZ, sS]
  refine wpAnyG_done (by kernel_rfl) ?_ _
  refine forget (p := fun y => Exit.then _ _ _ _ y) (fun W => Below w.heap.size w W ∧ CellsAt W w.heap.size 35 q.cells ∧ CellsAt W (w.heap.size + 1) 35 p.cells) ⟨below_setRow (below_setRow hw2 (Nat.le_refl _) _) (by omega) _, (hA2.setRow q.cells).congr (setRow_other _ _ _ _ (by omega)), hB3.setRow _⟩ ?_
  clear hS hA2 hB2 hB3 hA1 hB1 hA hB hb hw1 hw2 hb1 hb2 iA iB q1 p1 q86 p86 h86 h87 iA0 iB0 HFX HFY
  clear w2 w1 V
  have HQX : Veil (∀ W, CellsAt W w.heap.size 35 q.cells → W.cell? ⟨w.heap.size, 0, none⟩ = some (.int .u8 q.own) ∧ W.rangeAt (w.heap.size) 1 (q.seed.map (Value.int .u8)) ∧ W.cell? ⟨w.heap.size, 33, none⟩ = some (.int .u32 q.num) ∧ W.rangeAt (w.heap.size) 34 (q.prev.map (Value.int .u8)) ∧ W.rangeAt (w.heap.size) 66 (dotC q.ea q.es) ∧ W.cell? ⟨w.heap.size, 68, none⟩ = some (.slice xw lw cw) ∧ W.rangeAt (w.heap.size) 69 q.E.cells) := ⟨fun W h => aq_at hq h⟩
  obtain ⟨RX, hRX⟩ : ∃ A : World → Nat → Prop, A = fun V H => RQ V q H := ⟨_, rfl⟩
  have HFX : Veil (∀ V V' H, RX V H → Below V.heap.size V V' → RX V' H) := ⟨fun V V' H h hb => by rw [hRX] at h ⊢; exact RQ.far h hb⟩
  have HRX : Veil (∀ W, Below w.heap.size w W → Calls Tryz.prog 16 #[.int .u8 q.own, .agg (q.seed.map (Value.int .u8)).toArray, .agg (dotC q.ea q.es).toArray] W fun e w' => ∃ H O, e = .returned (.tuple #[.pointer (some ⟨H, 0, none⟩), .pointer (some ⟨O, 0, none⟩)]) ∧ RX w' H ∧ Below W.heap.size W w') := ⟨fun W hb => by rw [hRX]; exact ringsQ hq (HKT.out W hb).1⟩
  have HSX : Veil (∀ W H, Below w.heap.size w W → RX W H → Calls Tryz.prog 17 #[.pointer (some ⟨H, 0, none⟩), .int .u32 q.num, .agg (q.prev.map (Value.int .u8)).toArray, .agg (dotC q.ea q.es).toArray, .slice xw lw cw, .agg q.E.cells.toArray] W fun e w' => ∃ (F : Fr) (n : Int), e = .returned (.tuple #[.agg F.cells.toArray, .int .i64 n]) ∧ F.cells.length = 70 ∧ (∀ v ∈ F.cells, v.oneCell' = true) ∧ (n = 0 → SZ w' lw F) ∧ Below W.heap.size W w') := ⟨fun W H hb hR => by rw [hRX] at hR; exact sealQ (hq.below hb) hR (HKT.out W hb).1 (HKT.out W hb).2⟩
  have iSX : (Tryz.prog.info? 23).map (·.size) = some (q.seed.map (Value.int .u8)).length := by rw [List.length_map, hq.seed]; exact sizeKeyD
  have iPX : (Tryz.prog.info? 23).map (·.size) = some (q.prev.map (Value.int .u8)).length := by rw [List.length_map, hq.prev]; exact sizeKeyD
  have iDX : (Tryz.prog.info? 26).map (·.size) = some (dotC q.ea q.es).length := sizeDot
  have iEX := sizeEvZ q.E hq.E.plen
  clear hRX hq
  generalize q.own = OWX at HQX HRX
  generalize q.num = QNX at HQX HSX
  generalize q.prev.map (Value.int .u8) = PVX at HQX HSX iPX
  generalize q.seed.map (Value.int .u8) = SVX at HQX HRX iSX
  generalize dotC q.ea q.es = DVX at HQX HRX HSX iDX
  generalize q.E.cells = EVX at HQX HSX iEX
  generalize q.cells = QX at HQX ⊢
  have HQY : Veil (∀ W, CellsAt W (w.heap.size + 1) 35 p.cells → W.cell? ⟨w.heap.size + 1, 0, none⟩ = some (.int .u8 p.own) ∧ W.rangeAt (w.heap.size + 1) 1 (p.seed.map (Value.int .u8)) ∧ W.cell? ⟨w.heap.size + 1, 33, none⟩ = some (.int .u32 p.num) ∧ W.rangeAt (w.heap.size + 1) 34 (p.prev.map (Value.int .u8)) ∧ W.rangeAt (w.heap.size + 1) 66 (dotC p.ea p.es) ∧ W.cell? ⟨w.heap.size + 1, 68, none⟩ = some (.slice yw mw dw) ∧ W.rangeAt (w.heap.size + 1) 69 p.E.cells) := ⟨fun W h => aq_at hp h⟩
  obtain ⟨RY, hRY⟩ : ∃ A : World → Nat → Prop, A = fun V H => RQ V p H := ⟨_, rfl⟩
  have HFY : Veil (∀ V V' H, RY V H → Below V.heap.size V V' → RY V' H) := ⟨fun V V' H h hb => by rw [hRY] at h ⊢; exact RQ.far h hb⟩
  have HRY : Veil (∀ W, Below w.heap.size w W → Calls Tryz.prog 16 #[.int .u8 p.own, .agg (p.seed.map (Value.int .u8)).toArray, .agg (dotC p.ea p.es).toArray] W fun e w' => ∃ H O, e = .returned (.tuple #[.pointer (some ⟨H, 0, none⟩), .pointer (some ⟨O, 0, none⟩)]) ∧ RY w' H ∧ Below W.heap.size W w') := ⟨fun W hb => by rw [hRY]; exact ringsQ hp (HKT.out W hb).1⟩
  have HSY : Veil (∀ W H, Below w.heap.size w W → RY W H → Calls Tryz.prog 17 #[.pointer (some ⟨H, 0, none⟩), .int .u32 p.num, .agg (p.prev.map (Value.int .u8)).toArray, .agg (dotC p.ea p.es).toArray, .slice yw mw dw, .agg p.E.cells.toArray] W fun e w' => ∃ (F : Fr) (n : Int), e = .returned (.tuple #[.agg F.cells.toArray, .int .i64 n]) ∧ F.cells.length = 70 ∧ (∀ v ∈ F.cells, v.oneCell' = true) ∧ (n = 0 → SZ w' mw F) ∧ Below W.heap.size W w') := ⟨fun W H hb hR => by rw [hRY] at hR; exact sealQ (hp.below hb) hR (HKT.out W hb).1 (HKT.out W hb).2⟩
  have iSY : (Tryz.prog.info? 23).map (·.size) = some (p.seed.map (Value.int .u8)).length := by rw [List.length_map, hp.seed]; exact sizeKeyD
  have iPY : (Tryz.prog.info? 23).map (·.size) = some (p.prev.map (Value.int .u8)).length := by rw [List.length_map, hp.prev]; exact sizeKeyD
  have iDY : (Tryz.prog.info? 26).map (·.size) = some (dotC p.ea p.es).length := sizeDot
  have iEY := sizeEvZ p.E hp.E.plen
  clear hRY hp
  generalize p.own = OWY at HQY HRY
  generalize p.num = QNY at HQY HSY
  generalize p.prev.map (Value.int .u8) = PVY at HQY HSY iPY
  generalize p.seed.map (Value.int .u8) = SVY at HQY HRY iSY
  generalize dotC p.ea p.es = DVY at HQY HRY HSY iDY
  generalize p.E.cells = EVY at HQY HSY iEY
  generalize p.cells = QY at HQY ⊢
  rintro W ⟨hb, hA, hB⟩
  obtain ⟨c0, r1, -, -, r66, -, -⟩ := HQX.out W hA
  have hrg := HRX.out W hb
  go_upto_region 3 with (first
    | (refine wpList_ldv rfl 23 _ rfl _ _ rfl SVX r1 uK rfl iSX ?_)
    | (refine wpList_ldv rfl 26 _ rfl _ _ rfl DVX r66 uD rfl iDX ?_)
    | (go_at_call 16; refine hrg.mono ?_; rintro e w1 ⟨HX, OX, rfl, hN, hbf⟩; clear hrg))
  refine forget (p := fun y => Code.wp _ _ _ _ y) (fun V => Below w.heap.size w V ∧ CellsAt V (w.heap.size) 35 QX ∧ CellsAt V (w.heap.size + 1) 35 QY ∧ RX V HX) ⟨hb.trans (hbf.mono hb.size), hA.farM hbf, hB.farM hbf, hN⟩ ?_
  clear hN hbf c0 r1 r66 hA hB hb
  clear w1 W
  rintro W ⟨hb, hA, hB, hRX⟩
  obtain ⟨c0, r1, -, -, r66, -, -⟩ := HQY.out W hB
  have hrg := HRY.out W hb
  go_upto_region 4 with (first
    | (refine wpList_ldv rfl 23 _ rfl _ _ rfl SVY r1 uK rfl iSY ?_)
    | (refine wpList_ldv rfl 26 _ rfl _ _ rfl DVY r66 uD rfl iDY ?_)
    | (go_at_call 16; refine hrg.mono ?_; rintro e w1 ⟨HY, OY, rfl, hN, hbf⟩; clear hrg))
  refine forget (p := fun y => Code.wp _ _ _ _ y) (fun V => Below w.heap.size w V ∧ CellsAt V (w.heap.size) 35 QX ∧ CellsAt V (w.heap.size + 1) 35 QY ∧ RX V HX ∧ RY V HY) ⟨hb.trans (hbf.mono hb.size), hA.farM hbf, hB.farM hbf, HFX.out _ _ _ hRX hbf, hN⟩ ?_
  clear hN hbf c0 r1 r66 hA hB hb hRX
  clear w1 W
  rintro W ⟨hb, hA, hB, hRX, hRY⟩
  obtain ⟨Z, hzv, hz1, hZ⟩ : ∃ Z : List Value, (∀ wx, (zeroValue 43).run Tryz.prog wx = .ok (.agg Z.toArray) wx) ∧ ¬ Z.toArray = #[] ∧ Z.length = 70 := ⟨frZ1.cells, fun wx => by kernel_rfl, by decide, rfl⟩
  obtain ⟨-, -, c33, r34, r66, c68, r69⟩ := HQX.out W hA
  have hsl := HSX.out W HX hb hRX
  go_upto_region 5 with (first
    | (refine wpList_ldv rfl 23 _ rfl _ _ rfl PVX r34 uK rfl iPX ?_)
    | (refine wpList_ldv rfl 26 _ rfl _ _ rfl DVX r66 uD rfl iDX ?_)
    | (refine wpList_ldv rfl 33 _ rfl _ _ rfl EVX r69 uE rfl iEX ?_)
    | (go_at_call 17; refine hsl.mono ?_; rintro e w1 ⟨F, n, rfl, h70F, h1F, hN, hb1⟩; have hG1 := CellsAt.new w1 43 Z; have iF : (Tryz.prog.info? 43).map (·.size) = some F.cells.length := (by rw [h70F]; exact sizeFrame); have HN := Veil.mk hN; clear hsl hN)
    | (refine wpList_stv rfl 43 _ _ rfl _ rfl rfl hG1 iF (by rw [hZ, h70F]) h1F ?_))
  have hb2 : Below w1.heap.size w1 ((w1.alloc (.cells Z.toArray 43)).setRow w1.heap.size F.cells.toArray) := below_setRow ((Below.refl _ _).alloc (Nat.le_refl _) _) (Nat.le_refl _) _
  have hbf := hb1.trans (hb2.mono hb1.size)
  refine forget (p := fun y => Code.wp _ _ _ _ y) (fun V => Below w.heap.size w V ∧ CellsAt V (w.heap.size) 35 QX ∧ CellsAt V (w.heap.size + 1) 35 QY ∧ RX V HX ∧ RY V HY ∧ CellsAt V w1.heap.size 43 F.cells ∧ Veil (n = 0 → SZ V lw F)) ⟨hb.trans (hbf.mono hb.size), hA.farM hbf, hB.farM hbf, HFX.out _ _ _ hRX hbf, HFY.out _ _ _ hRY hbf, hG1.setRow _, ⟨fun h => SZ.below (HN.out h) hb2⟩⟩ ?_
  clear hbf hb2 hG1 hb hA hB c33 r34 r66 c68 r69 hb1 HN h1F hRX hRY
  obtain ⟨g1, hg⟩ : ∃ x, w1.heap.size = x := ⟨_, rfl⟩
  rw [hg]
  clear hg
  clear w1 W
  rintro W ⟨hb, hA, hB, hRX, hRY, hGF, HZF⟩
  obtain ⟨-, -, c33, r34, r66, c68, r69⟩ := HQY.out W hB
  have hsl := HSY.out W HY hb hRY
  go_upto_region 6 with (first
    | (refine wpList_ldv rfl 23 _ rfl _ _ rfl PVY r34 uK rfl iPY ?_)
    | (refine wpList_ldv rfl 26 _ rfl _ _ rfl DVY r66 uD rfl iDY ?_)
    | (refine wpList_ldv rfl 33 _ rfl _ _ rfl EVY r69 uE rfl iEY ?_)
    | (go_at_call 17; refine hsl.mono ?_; rintro e w1 ⟨G, k, rfl, h70G, h1F, hN, hb1⟩; have hG1 := CellsAt.new w1 43 Z; have iG : (Tryz.prog.info? 43).map (·.size) = some G.cells.length := (by rw [h70G]; exact sizeFrame); have HN := Veil.mk hN; clear hsl hN)
    | (refine wpList_stv rfl 43 _ _ rfl _ rfl rfl hG1 iG (by rw [hZ, h70G]) h1F ?_))
  have hb2 : Below w1.heap.size w1 ((w1.alloc (.cells Z.toArray 43)).setRow w1.heap.size G.cells.toArray) := below_setRow ((Below.refl _ _).alloc (Nat.le_refl _) _) (Nat.le_refl _) _
  have hbf := hb1.trans (hb2.mono hb1.size)
  refine forget (p := fun y => Code.wp _ _ _ _ y) (fun V => Below w.heap.size w V ∧ CellsAt V (w.heap.size) 35 QX ∧ CellsAt V (w.heap.size + 1) 35 QY ∧ RX V HX ∧ RY V HY ∧ CellsAt V g1 43 F.cells ∧ Veil (n = 0 → SZ V lw F) ∧ CellsAt V w1.heap.size 43 G.cells ∧ Veil (k = 0 → SZ V mw G)) ⟨hb.trans (hbf.mono hb.size), hA.farM hbf, hB.farM hbf, HFX.out _ _ _ hRX hbf, HFY.out _ _ _ hRY hbf, hGF.farM hbf, ⟨fun h => SZ.below (HZF.out h) hbf⟩, hG1.setRow _, ⟨fun h => SZ.below (HN.out h) hb2⟩⟩ ?_
  clear hbf hb2 hG1 hb hA hB c33 r34 r66 c68 r69 hb1 HN h1F hRX hRY hGF HZF
  obtain ⟨g2, hg⟩ : ∃ x, w1.heap.size = x := ⟨_, rfl⟩
  rw [hg]
  clear hg
  clear w1 W
  rintro W ⟨hb, hA, hB, hRX, hRY, hGF, HZF, hGG, HZG⟩
  clear hRX hRY hzv hz1
  have hlv := HLV.out W hb
  by_cases hn : n = 0
  rotate_left
  · have hn0 : (n == 0) = false := by simpa using hn
    clear hn
    go_wp2_with (first
      | (go_at_call 19; refine hlv.mono ?_; rintro e w2 ⟨rfl, hb3⟩; clear hlv))
    go_ret
    exact ⟨rfl, hb.trans (hb3.mono hb.size)⟩
  by_cases hk : k = 0
  rotate_left
  · have hk0 : (k == 0) = false := by simpa using hk
    subst hn
    clear hk
    go_wp2_with (first
      | (go_at_call 19; refine hlv.mono ?_; rintro e w2 ⟨rfl, hb3⟩; clear hlv))
    go_ret
    exact ⟨rfl, hb.trans (hb3.mono hb.size)⟩
  subst hn hk
  clear hlv
  have hzF := HZF.out rfl
  have hzG := HZG.out rfl
  obtain ⟨hl64, xF, cF, hF37⟩ := hzF.facts
  obtain ⟨hm64, xG, cG, hG37⟩ := hzG.facts
  have HFAR : Veil (∀ V, Below W.heap.size W V → Below w.heap.size w V ∧ V.rangeAt g1 0 F.cells ∧ V.rangeAt g2 0 G.cells ∧ (V.cell? ⟨w.heap.size, 68, none⟩ = some (.slice xw lw cw) ∧ V.cell? ⟨w.heap.size + 1, 68, none⟩ = some (.slice yw mw dw) ∧ V.cell? ⟨g1, 37, none⟩ = some (.slice xF 144 cF) ∧ V.cell? ⟨g2, 37, none⟩ = some (.slice xG 144 cG)) ∧ (Calls Tryz.prog 31 #[.agg F.cells.toArray] V fun e w' => ∃ x c, e = .returned (.tuple #[.slice x (223 + 54 * lw) c, .int .i64 0]) ∧ Below V.heap.size V w') ∧ (Calls Tryz.prog 31 #[.agg G.cells.toArray] V fun e w' => ∃ x c, e = .returned (.tuple #[.slice x (223 + 54 * mw) c, .int .i64 0]) ∧ Below V.heap.size V w')) := ⟨fun V h => ⟨hb.trans (h.mono hb.size), (hGF.farM h).wholeM, (hGG.farM h).wholeM, ⟨(HQX.out V (hA.farM h)).2.2.2.2.2.1, (HQY.out V (hB.farM h)).2.2.2.2.2.1, ((hGF.farM h).cell 37).trans hF37, ((hGG.farM h).cell 37).trans hG37⟩, (hzF.below h).frame, (hzG.below h).frame⟩⟩
  have hmX : IntKind.i64.wrap (54 * (lw : Int)) = 54 * (lw : Int) := by rw [IntKind.wrap_i64]; omega
  have hmY : IntKind.i64.wrap (54 * (mw : Int)) = 54 * (mw : Int) := by rw [IntKind.wrap_i64]; omega
  obtain ⟨LX, hLX⟩ : ∃ x : Nat, 223 + 54 * lw = x := ⟨_, rfl⟩
  obtain ⟨LY, hLY⟩ : ∃ x : Nat, 223 + 54 * mw = x := ⟨_, rfl⟩
  have haX : IntKind.i64.wrap (223 + 54 * (lw : Int)) = (LX : Int) := by rw [IntKind.wrap_i64]; omega
  have haY : IntKind.i64.wrap (223 + 54 * (mw : Int)) = (LY : Int) := by rw [IntKind.wrap_i64]; omega
  rw [hLX, hLY] at HFAR
  generalize F.cells = FC at HFAR iF
  generalize G.cells = GC at HFAR iG
  clear hLX hLY hF37 hG37 hzF hzG HZF HZG hGF hGG hA hB hl64 hm64 hb h70F h70G
  obtain ⟨-, rF, -, -, hfr, -⟩ := HFAR.out W (Below.refl _ _)
  go_upto_region 9 with (first
    | (refine wpList_ldv rfl 43 _ rfl _ _ rfl FC rF uF rfl iF ?_)
    | (go_at_call 31; refine hfr.mono ?_; rintro e w2 ⟨x2, c2, rfl, hb2⟩; clear hfr))
  obtain ⟨-, -, rG, -, -, hfg⟩ := HFAR.out w2 hb2
  clear rF
  go_upto_region 10 with (first
    | (refine wpList_ldv rfl 43 _ rfl _ _ rfl GC rG uF rfl iG ?_)
    | (go_at_call 31; refine hfg.mono ?_; rintro e w3 ⟨x3, c3, rfl, hb3⟩; clear hfg))
  have hb23 := hb2.trans (hb3.mono hb2.size)
  have hlv := HLV.out w3 (HFAR.out w3 hb23).1
  clear rG
  go_wp2_with (first
    | (go_at_call 19; refine hlv.mono ?_; rintro e w4 ⟨rfl, hb4⟩; obtain ⟨hB4, -, -, ⟨cA, cB, cF37, cG37⟩, -, -⟩ := HFAR.out w4 (hb23.trans (hb4.mono hb23.size)); clear hlv))
  go_ret
  exact ⟨rfl, hB4⟩
end Go.Proofs.YtfainlfiphdaeaaGreatDoor
