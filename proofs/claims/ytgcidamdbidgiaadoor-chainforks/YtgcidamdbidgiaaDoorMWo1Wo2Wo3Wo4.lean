/- The reference of wire: a number's bytes, a dot's bytes. 'Open' of wire; the reference's 'Open'. The reference's 'Open'. The reference's 'Frame'. -/
import Derived.Test.YtgcidamdbidgiaaDoorMGateGate2Gate5Gd
import Derived.Test.YtgcidamdbidgiaaDoorWr6
namespace Go.Proofs.YtgcidamdbidgiaaDoor
open Go.RowKit
set_option maxRecDepth 20000
set_option linter.unusedSimpArgs false

theorem OwnB.newW (w : World) (l : List Int) (hl : l.length ≤ 4000000) : OwnB (w.alloc (.cells (row .u8 l) 5)) w.heap.size (.slice (some ⟨w.heap.size, 0, none⟩) l.length l.length) l := OwnB.ofHolds (Holds.new w .u8 5 l) (Nat.le_refl _) hl
set_option maxHeartbeats 1000000 in
theorem refFour_any (n : Int) (w : World) :
    Calls Tryd.prog 54 #[.int .u32 n] w fun e w' => ∃ v, e = .returned v ∧ OwnB w' w.heap.size v (be4 n) ∧ Below w.heap.size w w' := by
  have e1 : IntKind.u8.wrap (n / 16777216) = n / 16777216 % 256 := by simp [IntKind.wrap, IntKind.bits, IntKind.signed]
  have e2 : IntKind.u8.wrap (n / 65536) = n / 65536 % 256 := by simp [IntKind.wrap, IntKind.bits, IntKind.signed]
  have e3 : IntKind.u8.wrap (n / 256) = n / 256 % 256 := by simp [IntKind.wrap, IntKind.bits, IntKind.signed]
  have e4 : IntKind.u8.wrap n = n % 256 := by simp [IntKind.wrap, IntKind.bits, IntKind.signed]
  have hO := OwnB.newW w (be4 n) (by simp [be4])
  have hB : Below w.heap.size w (w.alloc (.cells (row .u8 (be4 n)) 5)) := (Below.refl _ _).alloc (Nat.le_refl _) _
  go_enter Tryd.func54, Tryd.ntmps54
  go_wp2
  go_ret
  exact ⟨_, rfl, hO, hB⟩

set_option maxHeartbeats 1000000 in
theorem refDot_any (a s : Int) (w : World) :
    Calls Tryd.prog 55 #[.agg (dotC a s).toArray] w fun e w' => ∃ v, e = .returned v ∧ OwnB w' w.heap.size v (dotL a s) ∧ Below w.heap.size w w' := by
  have hD0 := CellsAt.new w 32 (dotC a s)
  have hB0 : Below w.heap.size w (w.alloc (.cells (dotC a s).toArray 32)) := (Below.refl _ _).alloc (Nat.le_refl _) _
  have hf := fun wx => refFour_any s wx
  have hfl : (be4 s).length = 4 := be4_length s
  have HD : Veil ([a] ++ be4 s = dotL a s) := ⟨rfl⟩
  obtain ⟨F, hF⟩ : ∃ q, be4 s = q := ⟨_, rfl⟩
  rw [hF] at hf hfl HD
  clear hF
  go_enter Tryd.func55, Tryd.ntmps55
  go_upto_region 1 with fail
  refine forget (p := fun y => Code.wp _ _ _ _ y) (fun W0 => Below w.heap.size w W0 ∧ CellsAt W0 w.heap.size 32 (dotC a s)) ⟨hB0, hD0⟩ ?_
  clear hB0 hD0
  rintro W0 ⟨hB0, hD0⟩
  have hsz := hB0.size
  have keep : ∀ w', Below W0.heap.size W0 w' → w'.cell? ⟨w.heap.size, 0, none⟩ = some (.int .u8 a) ∧ w'.cell? ⟨w.heap.size, 1, none⟩ = some (.int .u32 s) := fun w' hb => by
    have hc := (bcell hb).1
    exact ⟨by rw [hc _ _ hD0.lt]; exact hD0.cell 0, by rw [hc _ _ hD0.lt]; exact hD0.cell 1⟩
  clear hD0
  refine wp_region_gate (fun w' => w'.cell? ⟨w.heap.size, 0, none⟩ = some (.int .u8 a) ∧ w'.cell? ⟨w.heap.size, 1, none⟩ = some (.int .u32 s)) 7 (by kernel_rfl) ?_
  obtain ⟨D0, hD0⟩ : ∃ q, W0.drew = q := ⟨_, rfl⟩
  have hb0 : Below W0.heap.size W0 D0 := by rw [← hD0]; exact (Below.refl _ _).drew
  rw [hD0]
  clear hD0
  have hS := keep _ hb0
  refine wpAnyG_any (i := 0) (v := ?_) rfl (by kernel_rfl) (by kernel_rfl) (by kernel_rfl) (fun _ _ _ h => h) (by kernel_rfl) (fun _ => hS) (by kernel_rfl) ?_ ?_
  rotate_left
  · intro _; go_simp; try with_reducible rfl
  simp only [Act.put, List.setIfInBounds_toArray, List.set_cons_zero, List.set_cons_succ]
  refine wpAnyG_read (i := 1) (v := ?_) rfl (by kernel_rfl) (by kernel_rfl) (by kernel_rfl) (fun _ _ _ h => h) (by kernel_rfl) (by kernel_rfl) (by kernel_rfl) hS (by kernel_rfl) ?_ ?_
  rotate_left
  · intro wx hSw; go_split_ands; go_simp; try with_reducible rfl
  simp only [Act.put, List.setIfInBounds_toArray, List.set_cons_zero, List.set_cons_succ]
  refine wpAnyG_any (i := 3) (v := ?_) rfl (by kernel_rfl) (by kernel_rfl) (by kernel_rfl) (fun _ _ _ h => h) (by kernel_rfl) (fun _ => hS) (by kernel_rfl) ?_ ?_
  rotate_left
  · intro _; go_simp; try with_reducible rfl
  simp only [Act.put, List.setIfInBounds_toArray, List.set_cons_zero, List.set_cons_succ]
  refine wpAnyG_read (i := 4) (v := ?_) rfl (by kernel_rfl) (by kernel_rfl) (by kernel_rfl) (fun _ _ _ h => h) (by kernel_rfl) (by kernel_rfl) (by kernel_rfl) hS (by kernel_rfl) ?_ ?_
  rotate_left
  · intro wx hSw; go_split_ands; go_simp; try with_reducible rfl
  simp only [Act.put, List.setIfInBounds_toArray, List.set_cons_zero, List.set_cons_succ]
  refine wpAnyG_two (i := 2) (j := 5) rfl rfl (by kernel_rfl) (by kernel_rfl) (by kernel_rfl) (fun K hK => ?_) (fun K hK => ?_)
  · skip
    go_simp
    have hN1 := OwnB.newW D0 [a] (by simp)
    have hn1 : Below D0.heap.size D0 (D0.alloc (.cells (row .u8 [a]) 5)) := (Below.refl _ _).alloc (Nat.le_refl _) _
    have hb1 : Below W0.heap.size W0 (D0.alloc (.cells (row .u8 [a]) 5)) := hb0.trans (hn1.mono hb0.size)
    replace hS := keep _ hb1
    refine hK.out _ _ (fun _ => hS) ?_
    clear hK K
    have hO1 := hN1.lessG hb0.size
    obtain ⟨U1, hU1⟩ : ∃ q, D0.alloc (.cells (row .u8 [a]) 5) = q := ⟨_, rfl⟩
    have hc1 : D0.alloc (.cells #[.int .u8 a] 5) = U1 := hU1
    rw [hU1] at hb1 hO1
    rw [hc1]
    clear hU1 hc1 hn1 hN1
    refine wpAnyG_one (i := 5) rfl (by kernel_rfl) (by kernel_rfl) (fun K hK => ?_)
    go_wp2_with (go_at_call 54; refine (hf _).mono ?_; rintro e w2 ⟨v2, rfl, ho2, hb2⟩)
    have hB2 : Below W0.heap.size W0 w2 := hb1.trans (hb2.mono hb1.size)
    have hO2 := hO1.afarW hb2
    obtain ⟨x2, n2, c2, rfl, hn2⟩ := ho2.isSlice
    have hy2 := ho2.bytes.2
    rw [hfl] at hn2
    subst hn2
    replace hS := keep _ hB2
    refine hK.out _ _ (fun _ => hS) ?_
    clear hK K
    refine wpAnyG_one (i := 6) rfl (by kernel_rfl) (by kernel_rfl) (fun K hK => ?_)
    refine wp_appA _ _ rfl W0.heap.size _ [a] rfl hO2 x2 4 c2 F rfl hy2 (by simp) hB2.size ?_
    intro v3 w3 ho3 hg3
    have hB3 : Below W0.heap.size W0 w3 := below_grown hB2 hO2 hg3 hB2.size
    replace hS := keep _ hB3
    refine hK.out _ _ (fun _ => hS) ?_
    clear hK K
    refine wpAnyG_one (i := 7) rfl (by kernel_rfl) (by kernel_rfl) (fun K hK => ?_)
    go_simp
    refine hK.out _ _ (fun h => absurd (show true = false from h) (by decide)) ?_
    clear hK K
    refine wpAnyG_done (by kernel_rfl) ?_ _
    go_wp2
    go_ret
    rw [HD.out] at ho3
    exact ⟨_, rfl, ho3.lessG hsz, hB0.trans (hB3.mono hsz)⟩
  · skip
    go_wp2_with (go_at_call 54; refine (hf _).mono ?_; rintro e w2 ⟨v2, rfl, ho2, hb2⟩)
    have hB2 : Below W0.heap.size W0 w2 := hb0.trans (hb2.mono hb0.size)
    obtain ⟨x2, n2, c2, rfl, hn2⟩ := ho2.isSlice
    have hy2 := ho2.bytes.2
    rw [hfl] at hn2
    subst hn2
    replace hS := keep _ hB2
    refine hK.out _ _ (fun _ => hS) ?_
    clear hK K
    refine wpAnyG_one (i := 2) rfl (by kernel_rfl) (by kernel_rfl) (fun K hK => ?_)
    go_simp
    have hN1 := OwnB.newW w2 [a] (by simp)
    have hn1 : Below w2.heap.size w2 (w2.alloc (.cells (row .u8 [a]) 5)) := (Below.refl _ _).alloc (Nat.le_refl _) _
    have hb1 : Below W0.heap.size W0 (w2.alloc (.cells (row .u8 [a]) 5)) := hB2.trans (hn1.mono hB2.size)
    have hy3 := hy2.below hn1
    replace hS := keep _ hb1
    refine hK.out _ _ (fun _ => hS) ?_
    clear hK K
    have hO1 := hN1.lessG hB2.size
    obtain ⟨U1, hU1⟩ : ∃ q, w2.alloc (.cells (row .u8 [a]) 5) = q := ⟨_, rfl⟩
    have hc1 : w2.alloc (.cells #[.int .u8 a] 5) = U1 := hU1
    rw [hU1] at hb1 hO1 hy3
    rw [hc1]
    clear hU1 hc1 hn1 hN1
    refine wpAnyG_one (i := 6) rfl (by kernel_rfl) (by kernel_rfl) (fun K hK => ?_)
    refine wp_appA _ _ rfl W0.heap.size _ [a] rfl hO1 x2 4 c2 F rfl hy3 (by simp) hb1.size ?_
    intro v3 w3 ho3 hg3
    have hB3 : Below W0.heap.size W0 w3 := below_grown hb1 hO1 hg3 hb1.size
    replace hS := keep _ hB3
    refine hK.out _ _ (fun _ => hS) ?_
    clear hK K
    refine wpAnyG_one (i := 7) rfl (by kernel_rfl) (by kernel_rfl) (fun K hK => ?_)
    go_simp
    refine hK.out _ _ (fun h => absurd (show true = false from h) (by decide)) ?_
    clear hK K
    refine wpAnyG_done (by kernel_rfl) ?_ _
    go_wp2
    go_ret
    rw [HD.out] at ho3
    exact ⟨_, rfl, ho3.lessG hsz, hB0.trans (hB3.mono hsz)⟩
end Go.Proofs.YtgcidamdbidgiaaDoor

namespace Go.Proofs.YtgcidamdbidgiaaDoor
open Go.RowKit
set_option maxRecDepth 20000
set_option linter.unusedSimpArgs false

theorem CellsAt.afar {w w' : World} {g : Nat} {t : TypeId} {cs : List Value} (h : CellsAt w g t cs) (hb : Below w.heap.size w w') : CellsAt w' g t cs := by
  have hl := h.lt
  unfold CellsAt at h ⊢; rw [hb.block g hl]; exact h
theorem CellsAt.grown {w w' : World} {base g : Nat} {v : Value} {z : List Int} {t : TypeId} {cs : List Value} (h : CellsAt w g t cs) (ho : OwnB w base v z) (hg : w.grownBy w' v.ownBlock) (ht : t ≠ 5) : CellsAt w' g t cs := grownT ho hg h ht
/-- A change of a block of another type leaves the bytes that grow. -/
theorem OwnB.keepT {w w' : World} {base g0 : Nat} {v : Value} {z : List Int} {t : TypeId} {cs : List Value} (h : OwnB w base v z) (hc : CellsAt w g0 t cs) (ht : t ≠ 5) (hk : ∀ g, g ≠ g0 → w'.heap[g]? = w.heap[g]?) : OwnB w' base v z := by
  refine ⟨h.1, ?_⟩
  rcases h.2 with h' | ⟨g, cap, cur, h1, h2, h3, h4⟩
  · exact .inl h'
  · refine .inr ⟨g, cap, cur, h1, h2, ?_, h4⟩
    rw [hk g (fun e => by
      subst e
      unfold CellsAt at hc
      rw [h3] at hc
      simp at hc
      exact ht hc.2.symm)]
    exact h3
end Go.Proofs.YtgcidamdbidgiaaDoor

namespace Go.Proofs.YtgcidamdbidgiaaDoor
open Go.RowKit
set_option maxRecDepth 20000
set_option linter.unusedSimpArgs false

set_option maxHeartbeats 4000000 in
theorem refOpen_long (F : Fr) (xw : Option Addr) (lw cw : Nat) (w : World) (hp : F.prev.length = 32) (hm : F.mac.length = 32) (hfw : F.wraps = .slice xw lw cw) (hl : 64 < lw) :
    Calls Tryd.prog 43 #[.agg F.cells.toArray] w fun e w' => e = .returned (.slice none 0 0) ∧ Below w.heap.size w w' := by
  obtain ⟨_, _, _, _, _, q6, _, _⟩ := fr_parts F hp hm
  have hD0 := CellsAt.new w 38 F.cells
  have hB0 : Below w.heap.size w (w.alloc (.cells F.cells.toArray 38)) := (Below.refl _ _).alloc (Nat.le_refl _) _
  have c36 := hD0.cell 36
  rw [q6, hfw] at c36
  clear q6 hfw hp hm hD0
  have h1' : (lw : Int) > 64 := by omega
  go_enter Tryd.func43, Tryd.ntmps43
  go_wp2
  go_ret
  exact ⟨rfl, hB0⟩

set_option maxHeartbeats 8000000 in
theorem refOpen_any (F : Fr) (xw : Option Addr) (lw cw : Nat) (ws : List Wp) (w : World) (hp : F.prev.length = 32) (hm : F.mac.length = 32) (hfw : F.wraps = .slice xw lw cw) (hws : WrapsAt w xw lw cw ws) (h1 : lw ≤ 64) :
    Calls Tryd.prog 43 #[.agg F.cells.toArray] w fun e w' => ∃ v, e = .returned v ∧ OwnB w' w.heap.size v (openL F ws) ∧ Below w.heap.size w w' := by
  have HP : Veil (F.cells.length = 70 ∧ F.cells[0]? = some (.int .u8 F.author) ∧ F.cells[1]? = some (.int .u32 F.number) ∧ (F.cells.drop 2).take 2 = dotC F.ea F.es ∧ (F.cells.drop 4).take 32 = F.prev.map (Value.int .u8) ∧ F.cells[36]? = some F.wraps ∧ F.cells[37]? = some F.body ∧ (F.cells.drop 38).take 32 = F.mac.map (Value.int .u8)) := ⟨fr_parts F hp hm⟩
  have HPL : Veil (F.prev.length = 32) := ⟨hp⟩
  have HWS : Veil (∀ wx, Below w.heap.size w wx → WrapsAt wx xw lw cw ws) := ⟨fun wx h => hws.below h⟩
  have HFW : Veil (F.wraps = .slice xw lw cw) := ⟨hfw⟩
  have HLW : Veil (lw = ws.length) := ⟨hws.len_eq⟩
  have HOK : Veil (∀ e ∈ ws, e.data.length = 48) := ⟨hws.ok⟩
  have hcw := hws.le
  have htw := hws.top
  have hD0 := CellsAt.new w 38 F.cells
  have hB0 : Below w.heap.size w (w.alloc (.cells F.cells.toArray 38)) := (Below.refl _ _).alloc (Nat.le_refl _) _
  have h1' : ¬ (lw : Int) > 64 := by omega
  have c36 := hD0.cell 36
  rw [HP.out.2.2.2.2.2.1, HFW.out] at c36
  have uD := Tryd.underlying32
  have iD := sizeDot
  clear hfw hp hm hws
  go_enter Tryd.func43, Tryd.ntmps43
  go_upto_region 3 with fail
  refine forget (p := fun y => Code.wp _ _ _ _ y) (fun W0 => Below w.heap.size w W0 ∧ CellsAt W0 w.heap.size 38 F.cells) ⟨hB0, hD0⟩ ?_
  clear hB0 hD0 c36
  rintro W0 ⟨hB0, hD0⟩
  have c0 : W0.cell? ⟨w.heap.size, 0, none⟩ = some (.int .u8 F.author) := by rw [hD0.cell]; exact HP.out.2.1
  have hO0 := (OwnB.newW W0 [69, 83, F.author] (by simp)).lessG hB0.size
  go_upto_region 4 with fail
  refine forget (p := fun y => Code.wp _ _ _ _ y) (fun W1 => Below w.heap.size w W1 ∧ CellsAt W1 w.heap.size 38 F.cells ∧ OwnB W1 w.heap.size (.slice (some ⟨W0.heap.size, 0, none⟩) 3 3) [69, 83, F.author]) ⟨hB0.alloc hB0.size _, hD0.alloc _, hO0⟩ ?_
  obtain ⟨G0, hG0⟩ : ∃ q, W0.heap.size = q := ⟨_, rfl⟩
  rw [hG0]
  clear c0 hO0 hB0 hD0 hG0
  rintro W1 ⟨hB1, hD1, hO1⟩
  have hl1 : ([69, 83, F.author] : List Int).length ≤ 1000 := by simp
  obtain ⟨L1, hL1⟩ : ∃ q, ([69, 83, F.author] : List Int) = q := ⟨_, rfl⟩
  have HL1 : Veil (([69, 83, F.author] : List Int) = L1) := ⟨hL1⟩
  rw [hL1] at hO1 hl1
  have c1 : W1.cell? ⟨w.heap.size, 1, none⟩ = some (.int .u32 F.number) := by rw [hD1.cell]; exact HP.out.2.2.1
  have hf1 := refFour_any F.number W1
  have hfl := be4_length F.number
  obtain ⟨N4, hN4⟩ : ∃ q, be4 F.number = q := ⟨_, rfl⟩
  have HN4 : Veil (be4 F.number = N4) := ⟨hN4⟩
  rw [hN4] at hf1 hfl
  clear hL1 hN4
  go_upto_region 5 with (first
    | (go_at_call 54; refine hf1.mono ?_; rintro e w2 ⟨v2, rfl, ho2, hb2⟩; obtain ⟨x2, n2, c2, rfl, hn2⟩ := ho2.isSlice; have hy2 := ho2.bytes.2; rw [hfl] at hn2; subst hn2; have hO2 := hO1.afarW hb2; have hB2 := hB1.trans (hb2.mono hB1.size))
    | (at_builtin; refine wpList_app rfl _ _ rfl w.heap.size _ L1 rfl hO2 x2 4 c2 N4 rfl hy2 (by omega) hB2.size ?_; intro v3 w3 ho3 hg3))
  have hD3 := (hD1.afar hb2).grown hO2 hg3 (by decide)
  have hB3 : Below w.heap.size w w3 := below_grown hB2 hO2 hg3 hB2.size
  have hl3 : (L1 ++ N4).length ≤ 1004 := by rw [List.length_append]; omega
  obtain ⟨L3, hL3⟩ : ∃ q, L1 ++ N4 = q := ⟨_, rfl⟩
  have HL3 : Veil (L1 ++ N4 = L3) := ⟨hL3⟩
  rw [hL3] at ho3 hl3
  clear hL3 hg3 hO2 hB2 hy2 ho2 hb2 c1 hf1 hB1 hD1 hO1 hfl hl1
  have kD : ∀ w', CellsAt w' w.heap.size 38 F.cells → w'.rangeAt w.heap.size 2 (dotC F.ea F.es) := fun w' h => by
    have := h.range 2 2
    rw [HP.out.2.2.2.1] at this
    exact this
  have kP : ∀ w', CellsAt w' w.heap.size 38 F.cells → Bytes w' (some ⟨w.heap.size, 4, none⟩) 32 32 F.prev := fun w' h => by
    have := h.range 4 32
    rw [HP.out.2.2.2.2.1] at this
    exact rangeBytes this HPL.out.symm (by rw [HPL.out]; omega)
  have hdt := fun wx => refDot_any F.ea F.es wx
  have hdl := dotL_length F.ea F.es
  obtain ⟨DL, hDL⟩ : ∃ q, dotL F.ea F.es = q := ⟨_, rfl⟩
  have HDL : Veil (dotL F.ea F.es = DL) := ⟨hDL⟩
  rw [hDL] at hdt hdl
  clear hDL
  refine wp_region_gate (fun w' => w'.rangeAt w.heap.size 2 (dotC F.ea F.es)) 8 (by kernel_rfl) ?_
  obtain ⟨D0, hD0⟩ : ∃ q, w3.drew = q := ⟨_, rfl⟩
  have hb0 : Below w3.heap.size w3 D0 := by rw [← hD0]; exact (Below.refl _ _).drew
  rw [hD0]
  have hB4 := hB3.trans (hb0.mono hB3.size)
  have hD4 := hD3.afar hb0
  have hO4 := ho3.afarW hb0
  clear hD0 hb0 hB3 hD3 ho3
  have hS := kD _ hD4
  refine wpAnyG_any (i := 0) (v := ?_) rfl (by kernel_rfl) (by kernel_rfl) (by kernel_rfl) (fun _ _ _ h => h) (by kernel_rfl) (fun _ => hS) (by kernel_rfl) ?_ ?_
  rotate_left
  · intro _; go_simp; try with_reducible rfl
  simp only [Act.put, List.setIfInBounds_toArray, List.set_cons_zero, List.set_cons_succ]
  refine wpAnyG_any (i := 1) (v := ?_) rfl (by kernel_rfl) (by kernel_rfl) (by kernel_rfl) (fun _ _ _ h => h) (by kernel_rfl) (fun _ => hS) (by kernel_rfl) ?_ ?_
  rotate_left
  · intro _; go_simp; try with_reducible rfl
  simp only [Act.put, List.setIfInBounds_toArray, List.set_cons_zero, List.set_cons_succ]
  refine wpAnyG_load (i := 2) (dst := some 20) (ty := 32) (x := .tmp 19) (b := w.heap.size) (o := (2)) (cs := (dotC F.ea F.es)) (by kernel_rfl) (by kernel_rfl) (by kernel_rfl) (by kernel_rfl) (by kernel_rfl) (fun _ _ _ h => h) (by kernel_rfl) (by kernel_rfl) (by kernel_rfl) hS (by kernel_rfl) (fun _ h => h) uD rfl iD ?_
  simp only [Act.put, List.setIfInBounds_toArray, List.set_cons_zero, List.set_cons_succ]
  refine wpAnyG_any (i := 5) (v := ?_) rfl (by kernel_rfl) (by kernel_rfl) (by kernel_rfl) (fun _ _ _ h => h) (by kernel_rfl) (fun _ => hS) (by kernel_rfl) ?_ ?_
  rotate_left
  · intro _; go_simp; try with_reducible rfl
  simp only [Act.put, List.setIfInBounds_toArray, List.set_cons_zero, List.set_cons_succ]
  refine wpAnyG_any (i := 6) (v := ?_) rfl (by kernel_rfl) (by kernel_rfl) (by kernel_rfl) (fun _ _ _ h => h) (by kernel_rfl) (fun _ => hS) (by kernel_rfl) ?_ ?_
  rotate_left
  · intro _; go_simp; try with_reducible rfl
  simp only [Act.put, List.setIfInBounds_toArray, List.set_cons_zero, List.set_cons_succ]
  refine wpAnyG_one (i := 3) rfl (by kernel_rfl) (by kernel_rfl) (fun K hK => ?_)
  go_wp2_with (go_at_call 55; refine (hdt _).mono ?_; rintro e w5 ⟨v5, rfl, ho5, hb5⟩)
  obtain ⟨x5, n5, c5, rfl, hn5⟩ := ho5.isSlice
  have hy5 := ho5.bytes.2
  rw [hdl] at hn5
  subst hn5
  have hO5 := hO4.afarW hb5
  have hD5 := hD4.afar hb5
  have hB5 := hB4.trans (hb5.mono hB4.size)
  clear hO4 hD4 hB4 hb5 ho5
  replace hS := kD _ hD5
  refine hK.out _ _ (fun _ => hS) ?_
  clear hK K
  refine wpAnyG_one (i := 4) rfl (by kernel_rfl) (by kernel_rfl) (fun K hK => ?_)
  refine wp_appA _ _ rfl w.heap.size _ L3 rfl hO5 x5 5 c5 DL rfl hy5 (by omega) hB5.size ?_
  intro v6 w6 ho6 hg6
  have hD6 := hD5.grown hO5 hg6 (by decide)
  have hB6 : Below w.heap.size w w6 := below_grown hB5 hO5 hg6 hB5.size
  replace hS := kD _ hD6
  clear hg6 hO5 hD5 hB5 hy5
  refine hK.out _ _ (fun _ => hS) ?_
  clear hK K
  refine wpAnyG_one (i := 7) rfl (by kernel_rfl) (by kernel_rfl) (fun K hK => ?_)
  refine wp_appA _ _ rfl w.heap.size _ (L3 ++ DL) rfl ho6 (some ⟨w.heap.size, 4, none⟩) 32 32 F.prev rfl (kP _ hD6) (by rw [List.length_append]; omega) hB6.size ?_
  intro v7 w7 ho7 hg7
  have hD7 := hD6.grown ho6 hg7 (by decide)
  have hB7 : Below w.heap.size w w7 := below_grown hB6 ho6 hg7 hB6.size
  replace hS := kD _ hD7
  clear hg7 ho6 hD6 hB6
  refine hK.out _ _ (fun _ => hS) ?_
  clear hK K
  refine wpAnyG_one (i := 8) rfl (by kernel_rfl) (by kernel_rfl) (fun K hK => ?_)
  go_simp
  refine hK.out _ _ (fun h => absurd (show true = false from h) (by decide)) ?_
  clear hK K
  refine wpAnyG_done (by kernel_rfl) ?_ _
  have hl7 : (L3 ++ DL ++ F.prev).length ≤ 1100 := by rw [List.length_append, List.length_append, HPL.out]; omega
  obtain ⟨L7, hL7⟩ : ∃ q, L3 ++ DL ++ F.prev = q := ⟨_, rfl⟩
  have HL7 : Veil (L3 ++ DL ++ F.prev = L7) := ⟨hL7⟩
  rw [hL7] at ho7 hl7
  clear hL7 hS kD kP hdt
  have c36 : w7.cell? ⟨w.heap.size, 36, none⟩ = some (.slice xw lw cw) := by rw [hD7.cell, ← HFW.out]; exact HP.out.2.2.2.2.2.1
  have hwr : IntKind.u8.wrap (lw : Int) = (lw : Int) := by rw [IntKind.wrap_u8]; omega
  have hO8 : OwnB (w7.alloc (.cells (row .u8 [(lw : Int)]) 5)) w.heap.size v7 L7 := ho7.alloc _
  have hD8 := hD7.alloc (.cells (row .u8 [(lw : Int)]) 5)
  have hB8 := hB7.alloc hB7.size (.cells (row .u8 [(lw : Int)]) 5)
  have hy8 := new_bytes w7 [(lw : Int)] (by simp)
  go_upto_region 7 with (at_builtin; refine wpList_app rfl _ _ rfl w.heap.size _ L7 rfl hO8 (some ⟨w7.heap.size, 0, none⟩) 1 1 [(lw : Int)] rfl hy8 (by omega) hB8.size ?_; intro v9 w9 ho9 hg9)
  have hD9 := hD8.grown hO8 hg9 (by decide)
  have hB9 : Below w.heap.size w w9 := below_grown hB8 hO8 hg9 hB8.size
  have hl9 : (L7 ++ [(lw : Int)]).length ≤ 1101 := by rw [List.length_append]; simp; omega
  obtain ⟨L9, hL9⟩ : ∃ q, L7 ++ [(lw : Int)] = q := ⟨_, rfl⟩
  have HL9 : Veil (L7 ++ [(lw : Int)] = L9) := ⟨hL9⟩
  rw [hL9] at ho9 hl9
  clear hL9 hg9 hO8 hD8 hB8 hy8 hwr c36 hB7 hD7 ho7
  go_wp2_with fail
  go_loopw [3, 4] (fun v q wr => ∃ j : Nat, j ≤ lw ∧ q = .int .i64 j ∧ OwnB wr w.heap.size v (L9 ++ wrapsL (ws.take j)) ∧ CellsAt wr w.heap.size 38 F.cells ∧ Below w.heap.size w wr) (fun _ q _ => lw - (intOf q).toNat)
  case atStart => exact ⟨0, by omega, rfl, by simpa [wrapsL] using ho9, hD9, hB9⟩
  case round =>
    clear ho9 hD9 hB9
    obtain ⟨j, hj, rfl, hO1, hD1, hB1⟩ := hrel
    obtain ⟨x1, n1, c1, hv1, hn1⟩ := hO1.isSlice
    subst hv1
    clear hn1
    have hlen : (wrapsL (ws.take j)).length ≤ 54 * 64 := by
      rw [wrapsL_le _ (fun e he => HOK.out e (List.mem_of_mem_take he)), List.length_take]; omega
    have c36 : wr.cell? ⟨w.heap.size, 36, none⟩ = some (.slice xw lw cw) := by rw [hD1.cell, ← HFW.out]; exact HP.out.2.2.2.2.2.1
    by_cases hlt : j < lw
    · have hjw : j < ws.length := by have := HLW.out; omega
      obtain ⟨b, off, hx, hrg⟩ : ∃ b off, xw = some ⟨b, off, none⟩ ∧ ∀ j (hj : j < ws.length), wr.rangeAt b (off + j * 51) (ws[j]).cells := by
        rcases (HWS.out wr hB1).at_ with h0 | h
        · omega
        · exact h
      subst hx
      have hr := hrg j hjw
      have hts := wrapsL_take ws j hjw
      have hok := HOK.out ws[j] (List.getElem_mem hjw)
      obtain ⟨E, hE⟩ : ∃ q, ws[j] = q := ⟨_, rfl⟩
      rw [hE] at hr hts hok
      have HTS : Veil (L9 ++ wrapsL (ws.take j) ++ wrapL E = L9 ++ wrapsL (ws.take (j + 1))) := ⟨by rw [hts, List.append_assoc]⟩
      obtain ⟨q1, q2, q3, q4, q5⟩ := wp_parts E hok
      have HQ : Veil (E.cells[0]? = some (.int .u8 E.too) ∧ (E.cells.drop 1).take 2 = dotC E.ea E.es ∧ (E.cells.drop 3).take 48 = E.data.map (Value.int .u8)) := ⟨q2, q3, q4⟩
      have HOKE : Veil (E.data.length = 48) := ⟨hok⟩
      have hsW := hB1.size
      have hltF := hD1.lt
      have hl6 : (L9 ++ wrapsL (ws.take j)).length ≤ 1100000 := by rw [List.length_append]; omega
      obtain ⟨A, hA⟩ : ∃ q, L9 ++ wrapsL (ws.take j) = q := ⟨_, rfl⟩
      rw [hA] at hO1 HTS hl6
      have hZ0 : CellsAt (wr.alloc (.cells zeroWp.toArray 100)) wr.heap.size 100 zeroWp := CellsAt.new wr 100 zeroWp
      have hj0 : (0 : Int) ≤ (j : Int) := by omega
      have hjl : (j : Int) < (lw : Int) := by omega
      have hiW : (Tryd.prog.info? 100).map (·.size) = some E.cells.length := by rw [q1]; exact sizeWrap
      have hzl : zeroWp.length = E.cells.length := by rw [q1]; rfl
      clear hrg hts hE hA q1 q2 q3 q4 hlen hjw hok
      go_upto_region 11 with (first
        | (refine wpList_ldv rfl 100 _ rfl _ _ rfl E.cells hr Tryd.underlying100 rfl hiW ?_)
        | (refine wpList_stv rfl 100 _ _ rfl _ rfl rfl hZ0 hiW hzl q5 ?_))
      have hD2 : CellsAt ((wr.alloc (.cells zeroWp.toArray 100)).setRow wr.heap.size E.cells.toArray) w.heap.size 38 F.cells := by
        have := hD1.alloc (.cells zeroWp.toArray 100)
        unfold CellsAt at this ⊢
        rw [setRow_other _ _ _ _ (by omega)]; exact this
      have hO2 : OwnB ((wr.alloc (.cells zeroWp.toArray 100)).setRow wr.heap.size E.cells.toArray) w.heap.size (.slice x1 n1 c1) A := by
        refine (hO1.alloc (.cells zeroWp.toArray 100)).keepT hZ0 (by decide) (fun g hg => setRow_other _ _ _ _ hg)
      refine forget (p := fun y => Code.wp _ _ _ _ y) (fun W1 => Below w.heap.size w W1 ∧ OwnB W1 w.heap.size (.slice x1 n1 c1) A ∧ CellsAt W1 w.heap.size 38 F.cells ∧ CellsAt W1 wr.heap.size 100 E.cells) ⟨below_setRow (hB1.alloc hsW _) hsW _, hO2, hD2, hZ0.setRow _⟩ ?_
      obtain ⟨G, hG⟩ : ∃ q, wr.heap.size = q := ⟨_, rfl⟩
      rw [hG] at hsW hltF ⊢
      clear hZ0 hO2 hD2 hr hiW hzl q5 hG hO1 hD1 hB1 c36
      rintro W1 ⟨hB1, hO1, hD1, hE1⟩
      have kW : ∀ w', CellsAt w' G 100 E.cells → w'.cell? ⟨G, 0, none⟩ = some (.int .u8 E.too) ∧ w'.rangeAt G 1 (dotC E.ea E.es) := fun w' h => by
        have := h.range 1 2
        rw [HQ.out.2.1] at this
        exact ⟨by rw [h.cell]; exact HQ.out.1, this⟩
      have kP : ∀ w', CellsAt w' G 100 E.cells → Bytes w' (some ⟨G, 3, none⟩) 48 48 E.data := fun w' h => by
        have := h.range 3 48
        rw [HQ.out.2.2] at this
        exact rangeBytes this HOKE.out.symm (by rw [HOKE.out]; omega)
      have hdt := fun wx => refDot_any E.ea E.es wx
      have hdl2 := dotL_length E.ea E.es
      have HWL : Veil ([E.too] ++ dotL E.ea E.es ++ E.data = wrapL E) := ⟨rfl⟩
      obtain ⟨DL2, hDL2⟩ : ∃ q, dotL E.ea E.es = q := ⟨_, rfl⟩
      rw [hDL2] at hdt hdl2 HWL
      clear hDL2
      refine wp_region_gate (fun w' => w'.cell? ⟨G, 0, none⟩ = some (.int .u8 E.too) ∧ w'.rangeAt G 1 (dotC E.ea E.es)) 12 (by kernel_rfl) ?_
      obtain ⟨D0, hD0⟩ : ∃ q, W1.drew = q := ⟨_, rfl⟩
      have hb0 : Below W1.heap.size W1 D0 := by rw [← hD0]; exact (Below.refl _ _).drew
      rw [hD0]
      have hB2 := hB1.trans (hb0.mono hB1.size)
      have hD2 := hD1.afar hb0
      have hE2 := hE1.afar hb0
      have hO2 := hO1.afarW hb0
      clear hD0 hb0 hB1 hD1 hE1 hO1
      have hS := kW _ hE2
      refine wpAnyG_any (i := 0) (v := ?_) rfl (by kernel_rfl) (by kernel_rfl) (by kernel_rfl) (fun _ _ _ h => h) (by kernel_rfl) (fun _ => hS) (by kernel_rfl) ?_ ?_
      rotate_left
      · intro _; go_simp; try with_reducible rfl
      simp only [Act.put, List.setIfInBounds_toArray, List.set_cons_zero, List.set_cons_succ]
      refine wpAnyG_any (i := 1) (v := ?_) rfl (by kernel_rfl) (by kernel_rfl) (by kernel_rfl) (fun _ _ _ h => h) (by kernel_rfl) (fun _ => hS) (by kernel_rfl) ?_ ?_
      rotate_left
      · intro _; go_simp; try with_reducible rfl
      simp only [Act.put, List.setIfInBounds_toArray, List.set_cons_zero, List.set_cons_succ]
      refine wpAnyG_read (i := 2) (v := ?_) rfl (by kernel_rfl) (by kernel_rfl) (by kernel_rfl) (fun _ _ _ h => h) (by kernel_rfl) (by kernel_rfl) (by kernel_rfl) hS (by kernel_rfl) ?_ ?_
      rotate_left
      · intro wx hSw; go_split_ands; go_simp; try with_reducible rfl
      simp only [Act.put, List.setIfInBounds_toArray, List.set_cons_zero, List.set_cons_succ]
      refine wpAnyG_any (i := 5) (v := ?_) rfl (by kernel_rfl) (by kernel_rfl) (by kernel_rfl) (fun _ _ _ h => h) (by kernel_rfl) (fun _ => hS) (by kernel_rfl) ?_ ?_
      rotate_left
      · intro _; go_simp; try with_reducible rfl
      simp only [Act.put, List.setIfInBounds_toArray, List.set_cons_zero, List.set_cons_succ]
      refine wpAnyG_load (i := 6) (dst := some 51) (ty := 32) (x := .tmp 50) (b := G) (o := (1)) (cs := (dotC E.ea E.es)) (by kernel_rfl) (by kernel_rfl) (by kernel_rfl) (by kernel_rfl) (by kernel_rfl) (fun _ _ _ h => h) (by kernel_rfl) (by kernel_rfl) (by kernel_rfl) hS (by kernel_rfl) (fun _ h => h.2) uD rfl iD ?_
      simp only [Act.put, List.setIfInBounds_toArray, List.set_cons_zero, List.set_cons_succ]
      refine wpAnyG_any (i := 9) (v := ?_) rfl (by kernel_rfl) (by kernel_rfl) (by kernel_rfl) (fun _ _ _ h => h) (by kernel_rfl) (fun _ => hS) (by kernel_rfl) ?_ ?_
      rotate_left
      · intro _; go_simp; try with_reducible rfl
      simp only [Act.put, List.setIfInBounds_toArray, List.set_cons_zero, List.set_cons_succ]
      refine wpAnyG_any (i := 10) (v := ?_) rfl (by kernel_rfl) (by kernel_rfl) (by kernel_rfl) (fun _ _ _ h => h) (by kernel_rfl) (fun _ => hS) (by kernel_rfl) ?_ ?_
      rotate_left
      · intro _; go_simp; try with_reducible rfl
      simp only [Act.put, List.setIfInBounds_toArray, List.set_cons_zero, List.set_cons_succ]
      refine wpAnyG_one (i := 3) rfl (by kernel_rfl) (by kernel_rfl) (fun K hK => ?_)
      go_simp
      have hO3 := hO2.alloc (.cells (row .u8 [E.too]) 5)
      have hD3 := hD2.alloc (.cells (row .u8 [E.too]) 5)
      have hE3 := hE2.alloc (.cells (row .u8 [E.too]) 5)
      have hB3 := hB2.alloc hB2.size (.cells (row .u8 [E.too]) 5)
      have hy3 := new_bytes D0 [E.too] (by simp)
      replace hS := kW _ hE3
      refine hK.out _ _ (fun _ => hS) ?_
      clear hK K
      obtain ⟨G3, hG3⟩ : ∃ q, D0.heap.size = q := ⟨_, rfl⟩
      obtain ⟨U3, hU3⟩ : ∃ q, D0.alloc (.cells (row .u8 [E.too]) 5) = q := ⟨_, rfl⟩
      have hc3 : D0.alloc (.cells #[.int .u8 E.too] 5) = U3 := hU3
      rw [hU3] at hO3 hD3 hE3 hB3 hy3
      rw [hG3] at hy3
      rw [hc3, hG3]
      clear hU3 hc3 hG3 hO2 hD2 hE2 hB2
      refine wpAnyG_one (i := 4) rfl (by kernel_rfl) (by kernel_rfl) (fun K hK => ?_)
      refine wp_appA _ _ rfl w.heap.size _ A rfl hO3 (some ⟨G3, 0, none⟩) 1 1 [E.too] rfl hy3 (by omega) hB3.size ?_
      intro v4 w4 ho4 hg4
      have hD4 := hD3.grown hO3 hg4 (by decide)
      have hE4 := hE3.grown hO3 hg4 (by decide)
      have hB4 : Below w.heap.size w w4 := below_grown hB3 hO3 hg4 hB3.size
      replace hS := kW _ hE4
      clear hg4 hO3 hD3 hB3 hE3 hy3
      refine hK.out _ _ (fun _ => hS) ?_
      clear hK K
      refine wpAnyG_one (i := 7) rfl (by kernel_rfl) (by kernel_rfl) (fun K hK => ?_)
      go_wp2_with (go_at_call 55; refine (hdt _).mono ?_; rintro e w5 ⟨v5, rfl, ho5, hb5⟩)
      obtain ⟨x5, n5, c5, rfl, hn5⟩ := ho5.isSlice
      have hy5 := ho5.bytes.2
      rw [hdl2] at hn5
      subst hn5
      have hO5 := ho4.afarW hb5
      have hD5 := hD4.afar hb5
      have hE5 := hE4.afar hb5
      have hB5 := hB4.trans (hb5.mono hB4.size)
      clear ho4 hD4 hB4 hE4 hb5 ho5
      replace hS := kW _ hE5
      refine hK.out _ _ (fun _ => hS) ?_
      clear hK K
      refine wpAnyG_one (i := 8) rfl (by kernel_rfl) (by kernel_rfl) (fun K hK => ?_)
      refine wp_appA _ _ rfl w.heap.size _ (A ++ [E.too]) rfl hO5 x5 5 c5 DL2 rfl hy5 (by rw [List.length_append]; simp; omega) hB5.size ?_
      intro v6 w6 ho6 hg6
      have hD6 := hD5.grown hO5 hg6 (by decide)
      have hE6 := hE5.grown hO5 hg6 (by decide)
      have hB6 : Below w.heap.size w w6 := below_grown hB5 hO5 hg6 hB5.size
      replace hS := kW _ hE6
      clear hg6 hO5 hD5 hB5 hE5 hy5
      refine hK.out _ _ (fun _ => hS) ?_
      clear hK K
      refine wpAnyG_one (i := 11) rfl (by kernel_rfl) (by kernel_rfl) (fun K hK => ?_)
      refine wp_appA _ _ rfl w.heap.size _ (A ++ [E.too] ++ DL2) rfl ho6 (some ⟨G, 3, none⟩) 48 48 E.data rfl (kP _ hE6) (by rw [List.length_append, List.length_append]; simp; omega) hB6.size ?_
      intro v7 w7 ho7 hg7
      have hD7 := hD6.grown ho6 hg7 (by decide)
      have hE7 := hE6.grown ho6 hg7 (by decide)
      have hB7 : Below w.heap.size w w7 := below_grown hB6 ho6 hg7 hB6.size
      replace hS := kW _ hE7
      clear hg7 ho6 hD6 hB6 hE6
      refine hK.out _ _ (fun _ => hS) ?_
      clear hK K
      refine wpAnyG_one (i := 12) rfl (by kernel_rfl) (by kernel_rfl) (fun K hK => ?_)
      go_simp
      refine hK.out _ _ (fun h => absurd (show true = false from h) (by decide)) ?_
      clear hK K
      refine wpAnyG_done (by kernel_rfl) ?_ _
      have ho8 : OwnB w7 w.heap.size v7 (L9 ++ wrapsL (ws.take (j + 1))) := by
        rw [← HTS.out, ← HWL.out]
        simp only [List.append_assoc] at ho7 ⊢
        exact ho7
      clear ho7 hS hE7 kW kP
      go_wp2
      go_roundw
      case rel => exact ⟨j + 1, by omega, by go_num, ho8, hD7, hB7⟩
      case measure => simp [intOf]; omega
    · obtain rfl : j = lw := by omega
      have HA : Veil (ws.take j = ws) := ⟨List.take_of_length_le (by have := HLW.out; omega)⟩
      rw [HA.out] at hO1
      go_wp2
      go_ret
      refine ⟨_, rfl, ?_, hB1⟩
      rw [← HL9.out, ← HL7.out, ← HL3.out, ← HL1.out, ← HN4.out, ← HDL.out, HLW.out] at hO1
      unfold openL
      simp only [List.append_assoc] at hO1 ⊢
      exact hO1
end Go.Proofs.YtgcidamdbidgiaaDoor

namespace Go.Proofs.YtgcidamdbidgiaaDoor
open Go.RowKit
set_option maxRecDepth 20000
set_option linter.unusedSimpArgs false

set_option maxHeartbeats 4000000 in
theorem refFrame_long (F : Fr) (xw : Option Addr) (lw cw : Nat) (xb : Option Addr) (lb cb : Nat) (w : World) (hp : F.prev.length = 32) (hm : F.mac.length = 32) (hfw : F.wraps = .slice xw lw cw) (hfb : F.body = .slice xb lb cb) (hl : 64 < lw ∨ 4112 < lb) :
    Calls Tryd.prog 32 #[.agg F.cells.toArray] w fun e w' => e = .returned (.tuple #[.slice none 0 0, .int .i64 2]) ∧ Below w.heap.size w w' := by
  obtain ⟨_, _, _, _, _, q6, q7, _⟩ := fr_parts F hp hm
  have hD0 := CellsAt.new w 38 F.cells
  have hB0 : Below w.heap.size w (w.alloc (.cells F.cells.toArray 38)) := (Below.refl _ _).alloc (Nat.le_refl _) _
  have c36 := hD0.cell 36
  have c37 := hD0.cell 37
  rw [q6, hfw] at c36
  rw [q7, hfb] at c37
  clear q6 q7 hfw hfb hp hm hD0
  by_cases h1 : 64 < lw
  · have h1' : (lw : Int) > 64 := by omega
    clear hl
    go_enter Tryd.func32, Tryd.ntmps32
    go_wp2
    go_ret2
    exact ⟨rfl, hB0⟩
  · have h1' : ¬ (lw : Int) > 64 := by omega
    have h2' : (lb : Int) > 4112 := by omega
    clear hl
    go_enter Tryd.func32, Tryd.ntmps32
    go_wp2
    go_ret2
    exact ⟨rfl, hB0⟩

set_option maxHeartbeats 4000000 in
theorem refFrame_any (F : Fr) (xw : Option Addr) (lw cw : Nat) (ws : List Wp) (xb : Option Addr) (lb cb : Nat) (body : List Int) (w : World) (hp : F.prev.length = 32) (hm : F.mac.length = 32) (hfw : F.wraps = .slice xw lw cw) (hws : WrapsAt w xw lw cw ws) (hfb : F.body = .slice xb lb cb) (hbo : Bytes w xb lb cb body) (h1 : lw ≤ 64) (h2 : lb ≤ 4112) :
    Calls Tryd.prog 32 #[.agg F.cells.toArray] w fun e w' => ∃ v, e = .returned (.tuple #[v, .int .i64 0]) ∧ OwnB w' w.heap.size v (frameL F ws body) ∧ Below w.heap.size w w' := by
  obtain ⟨q0, _, _, _, _, q6, q7, q8⟩ := fr_parts F hp hm
  have HQ : Veil (F.cells[36]? = some (.slice xw lw cw) ∧ F.cells[37]? = some (.slice xb lb cb) ∧ (F.cells.drop 38).take 32 = F.mac.map (Value.int .u8)) := ⟨by rw [← hfw]; exact q6, by rw [← hfb]; exact q7, q8⟩
  have hiF : (Tryd.prog.info? 38).map (·.size) = some F.cells.length := by rw [q0]; exact sizeFrame
  have hol := openL_length F ws hp hws.ok
  rw [← hws.len_eq] at hol
  have HBL : Veil (body.length = lb) := ⟨hbo.len_eq.symm⟩
  have HML : Veil (F.mac.length = 32) := ⟨hm⟩
  have hbody := fun wx (h : Below w.heap.size w wx) => hbo.below h
  have hop := fun wx (h0 : Below w.heap.size w wx) => refOpen_any F xw lw cw ws wx hp hm hfw (hws.below h0) h1
  have hD0 := CellsAt.new w 38 F.cells
  have hB0 : Below w.heap.size w (w.alloc (.cells F.cells.toArray 38)) := (Below.refl _ _).alloc (Nat.le_refl _) _
  have h1' : ¬ (lw : Int) > 64 := by omega
  have h2' : ¬ (lb : Int) > 4112 := by omega
  have c36 := hD0.cell 36
  have c37 := hD0.cell 37
  rw [HQ.out.1] at c36
  rw [HQ.out.2.1] at c37
  have hcw := hws.le
  have htw := hws.top
  have hcb := hbo.le
  have htb := hbo.top
  clear q0 q6 q7 q8 hfw hfb hp hm hws hbo
  go_enter Tryd.func32, Tryd.ntmps32
  go_upto_region 3 with fail
  refine forget (p := fun y => Code.wp _ _ _ _ y) (fun W0 => Below w.heap.size w W0 ∧ CellsAt W0 w.heap.size 38 F.cells) ⟨hB0, hD0⟩ ?_
  clear hB0 hD0 c36 c37
  rintro W0 ⟨hB0, hD0⟩
  have rE : W0.rangeAt w.heap.size 0 F.cells := fun j v hv => by rw [Nat.zero_add, hD0.cell]; exact hv
  have hop1 := hop W0 hB0
  go_upto_region 4 with (first
    | (refine wpList_ldv rfl 38 _ rfl _ _ rfl F.cells rE Tryd.underlying38 rfl hiF ?_)
    | (go_at_call 43; refine hop1.mono ?_; rintro e w1 ⟨v1, rfl, ho1, hb1⟩))
  have hO1 := ho1.lessG hB0.size
  have hD1 := hD0.afar hb1
  have hB1 := hB0.trans (hb1.mono hB0.size)
  obtain ⟨L1, hL1⟩ : ∃ q, openL F ws = q := ⟨_, rfl⟩
  have HL1 : Veil (openL F ws = L1) := ⟨hL1⟩
  rw [hL1] at hO1 hol
  have hl1 : L1.length ≤ 10000 := by omega
  clear hop hop1 rE hD0 hB0 ho1 hb1 hL1 hol
  have c37 : w1.cell? ⟨w.heap.size, 37, none⟩ = some (.slice xb lb cb) := by rw [hD1.cell]; exact HQ.out.2.1
  have e1 : IntKind.u8.wrap ((lb : Int) / 2 ^ 8) = (lb : Int) / 256 % 256 := by simp [IntKind.wrap, IntKind.bits, IntKind.signed]
  have e2 : IntKind.u8.wrap (lb : Int) = (lb : Int) % 256 := by simp [IntKind.wrap, IntKind.bits, IntKind.signed]
  have e3 : IntKind.u8.wrap ((lb : Int) / 256) = (lb : Int) / 256 % 256 := by simp [IntKind.wrap, IntKind.bits, IntKind.signed]
  have hO2 : OwnB (w1.alloc (.cells (row .u8 (be2 lb)) 5)) w.heap.size v1 L1 := hO1.alloc _
  have hD2 := hD1.alloc (.cells (row .u8 (be2 lb)) 5)
  have hB2 := hB1.alloc hB1.size (.cells (row .u8 (be2 lb)) 5)
  have hy2 := new_bytes w1 (be2 lb) (by simp [be2])
  go_upto_region 5 with (at_builtin; refine wpList_app rfl _ _ rfl w.heap.size _ L1 rfl hO2 (some ⟨w1.heap.size, 0, none⟩) 2 2 (be2 lb) rfl hy2 (by omega) hB2.size ?_; intro v3 w3 ho3 hg3)
  have hD3 := hD2.grown hO2 hg3 (by decide)
  have hB3 : Below w.heap.size w w3 := below_grown hB2 hO2 hg3 hB2.size
  have hl3 : (L1 ++ be2 lb).length ≤ 10002 := by rw [List.length_append]; simp [be2]; omega
  obtain ⟨L3, hL3⟩ : ∃ q, L1 ++ be2 lb = q := ⟨_, rfl⟩
  have HL3 : Veil (L1 ++ be2 lb = L3) := ⟨hL3⟩
  rw [hL3] at ho3 hl3
  clear hL3 hg3 hO2 hD2 hB2 hy2 e1 e2 e3 c37 hO1 hD1 hB1
  have c37 : w3.cell? ⟨w.heap.size, 37, none⟩ = some (.slice xb lb cb) := by rw [hD3.cell]; exact HQ.out.2.1
  have hy3 := hbody w3 hB3
  go_upto_region 6 with (at_builtin; refine wpList_app rfl _ _ rfl w.heap.size _ L3 rfl ho3 xb lb cb body rfl hy3 (by omega) hB3.size ?_; intro v4 w4 ho4 hg4)
  have hD4 := hD3.grown ho3 hg4 (by decide)
  have hB4 : Below w.heap.size w w4 := below_grown hB3 ho3 hg4 hB3.size
  have hl4 : (L3 ++ body).length ≤ 20000 := by rw [List.length_append, HBL.out]; omega
  clear hg4 ho3 hD3 hB3 c37 hy3 hbody
  have rM : w4.rangeAt w.heap.size 38 (F.mac.map (Value.int .u8)) := by
    have := hD4.range 38 32
    rw [HQ.out.2.2] at this
    exact this
  have hy4 := rangeBytes rM HML.out.symm (by rw [HML.out]; omega)
  go_wp2_with (at_builtin; refine wpList_app rfl _ _ rfl w.heap.size _ (L3 ++ body) rfl ho4 (some ⟨w.heap.size, 38, none⟩) 32 32 F.mac rfl hy4 (by omega) hB4.size ?_; intro v5 w5 ho5 hg5)
  go_ret2
  refine ⟨_, rfl, ?_, below_grown hB4 ho4 hg5 hB4.size⟩
  unfold frameL
  rw [HBL.out, HL1.out, HL3.out]
  exact ho5
end Go.Proofs.YtgcidamdbidgiaaDoor
