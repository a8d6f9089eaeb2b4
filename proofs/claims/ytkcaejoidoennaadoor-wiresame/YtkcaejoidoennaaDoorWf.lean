/- 'few' of the statements on wire. (Written by mkwf.py.) -/
import Derived.Test.YtkcaejoidoennaaDoorWo2
import Derived.Test.YtkcaejoidoennaaDoorWl
namespace Go.Proofs.YtkcaejoidoennaaDoor
open Go.RowKit
set_option maxRecDepth 20000
set_option linter.unusedSimpArgs false

theorem CellsAt.frozen {w : World} {g : Nat} {t : TypeId} {cs : List Value} (h : CellsAt w g t cs) (j : Nat) : w.frozen? ⟨g, j, none⟩ = false := frozen_of_row w g j _ t h
theorem CellsAt.set {w : World} {g : Nat} {t : TypeId} {cs : List Value} (h : CellsAt w g t cs) (j : Nat) (v : Value) : CellsAt (w.setCell ⟨g, j, none⟩ v) g t (cs.set j v) := by
  unfold CellsAt at h ⊢
  rw [heap_setCell_same w g j _ t _ h]; simp
theorem CellsAt.setOther {w : World} {g : Nat} {t : TypeId} {cs : List Value} (h : CellsAt w g t cs) (a : Addr) (v : Value) (hne : g ≠ a.block) : CellsAt (w.setCell a v) g t cs := by
  unfold CellsAt at h ⊢
  rw [heap_setCell_other w a g v hne]; exact h
theorem CellsAt.whole {w : World} {g : Nat} {t : TypeId} {cs : List Value} (h : CellsAt w g t cs) : w.rangeAt g 0 cs := fun j v hv => by rw [Nat.zero_add, h.cell]; exact hv
theorem fr_setW (F : Fr) (v : Value) (hp : F.prev.length = 32) : F.cells.set 36 v = ({ F with wraps := v } : Fr).cells := by
  have e0 : ∀ G : Fr, G.cells = ([.int .u8 G.author, .int .u32 G.number] ++ dotC G.ea G.es ++ G.prev.map (Value.int .u8)) ++ ([G.wraps, G.body] ++ G.mac.map (Value.int .u8)) := fun G => by unfold Fr.cells; simp only [List.append_assoc]
  have hl : (([.int .u8 F.author, .int .u32 F.number] : List Value) ++ dotC F.ea F.es ++ F.prev.map (Value.int .u8)).length = 36 := by simp [dotC, hp]
  rw [e0 F, e0 _, List.set_append_right _ _ (by omega), hl]; rfl
theorem fr_setB (F : Fr) (v : Value) (hp : F.prev.length = 32) : F.cells.set 37 v = ({ F with body := v } : Fr).cells := by
  have e0 : ∀ G : Fr, G.cells = ([.int .u8 G.author, .int .u32 G.number] ++ dotC G.ea G.es ++ G.prev.map (Value.int .u8)) ++ ([G.wraps, G.body] ++ G.mac.map (Value.int .u8)) := fun G => by unfold Fr.cells; simp only [List.append_assoc]
  have hl : (([.int .u8 F.author, .int .u32 F.number] : List Value) ++ dotC F.ea F.es ++ F.prev.map (Value.int .u8)).length = 36 := by simp [dotC, hp]
  rw [e0 F, e0 _, List.set_append_right _ _ (by omega), hl]; rfl
theorem fr_one (F : Fr) (x y : Option Addr) (l c m d : Nat) (hw : F.wraps = .slice x l c) (hb : F.body = .slice y m d) : ∀ v ∈ F.cells, v.oneCell' = true := by
  intro v hv
  unfold Fr.cells dotC at hv
  rw [hw, hb] at hv
  simp only [List.mem_append, List.mem_cons, List.not_mem_nil, or_false, List.mem_map] at hv
  rcases hv with ((((rfl | rfl) | (rfl | rfl)) | ⟨_, _, rfl⟩) | (rfl | rfl)) | ⟨_, _, rfl⟩ <;> rfl
theorem sizeWp (w : World) : (sizeOf (Tryd.prog.elem 27)).run Tryd.prog w = .ok 51 w := by kernel_rfl
theorem elemW : Tryd.prog.underlying 27 = some (.slice (Tryd.prog.elem 27)) := by kernel_rfl
theorem run_cutW (w : World) (b o len cap : Nat) (hh : 80 ≤ cap) : (Instr.slice 27 (.slice (some ⟨b, o, none⟩) len cap) none (some (.int .i64 80)) none).run Tryd.prog w = .ok (.slice (some ⟨b, o, none⟩) 80 cap) w := by
  rw [run_slice_h w 27 (some ⟨b, o, none⟩) len cap elemW .i64 80 (by omega) (by omega), sizeWp]
  simp [sliced, Result.andThen, Addr.add_mid']
theorem run_cutB (w : World) (b o len cap : Nat) (hh : 5000 ≤ cap) : (Instr.slice 28 (.slice (some ⟨b, o, none⟩) len cap) none (some (.int .i64 5000)) none).run Tryd.prog w = .ok (.slice (some ⟨b, o, none⟩) 5000 cap) w := by
  rw [run_slice_h w 28 (some ⟨b, o, none⟩) len cap elemB .i64 5000 (by omega) (by omega), sizeU8]
  simp [sliced, Result.andThen, Addr.add_mid']
/-- A frame of not too many wraps, and a body that is not too long. -/
def Fr.few (F : Fr) (x : Option Addr) (l c : Nat) (y : Option Addr) (m d : Nat) : Fr := { F with wraps := .slice x (min l 80) c, body := .slice y (min m 5000) d }
theorem WrapsAt.few {w : World} {x : Option Addr} {len cap : Nat} {ws : List Wp} (h : WrapsAt w x len cap ws) (n : Nat) : WrapsAt w x (min len n) cap (ws.take n) := by
  have hz := h.len_eq
  refine ⟨by rw [List.length_take]; omega, by have := h.le; omega, h.top, h.nil, fun e he => h.ok e (List.mem_of_mem_take he), ?_⟩
  rcases h.at_ with h0 | ⟨b, off, hx, hc⟩
  · exact .inl (by omega)
  · exact .inr ⟨b, off, hx, fun j hj => by rw [List.getElem_take]; exact hc j (by rw [List.length_take] at hj; omega)⟩

set_option maxHeartbeats 4000000 in
theorem few6_any (F : Fr) (xw : Option Addr) (lw cw : Nat) (ws : List Wp) (xb : Option Addr) (lb cb : Nat) (body : List Int) (w : World) (hp : F.prev.length = 32) (hm : F.mac.length = 32) (hfw : F.wraps = .slice xw lw cw) (hws : WrapsAt w xw lw cw ws) (hfb : F.body = .slice xb lb cb) (hbo : Bytes w xb lb cb body) :
    Calls Tryd.prog 4 #[.agg F.cells.toArray] w fun e w' => e = .returned (.agg (F.few xw lw cw xb lb cb).cells.toArray) ∧ Below w.heap.size w w' := by
  obtain ⟨Z, hzv, hz1, _, hZ⟩ := zeroFrame_has
  have hcw := hws.le
  have htw := hws.top
  have hcb := hbo.le
  have htb := hbo.top
  have hD0 := (CellsAt.new w 30 F.cells).alloc (.cells Z 30)
  have hR0 : CellsAt ((w.alloc (.cells F.cells.toArray 30)).alloc (.cells Z 30)) (w.heap.size + 1) 30 fr00.cells := by
    have := CellsAt.new (w.alloc (.cells F.cells.toArray 30)) 30 fr00.cells
    rw [World.size_alloc, ← hZ] at this
    exact this
  have hB0 : Below w.heap.size w ((w.alloc (.cells F.cells.toArray 30)).alloc (.cells Z 30)) := ((Below.refl _ _).alloc (Nat.le_refl _) _).alloc (by simp) _
  have HW1 : Veil (80 < lw → ∃ b o, xw = some ⟨b, o, none⟩) := ⟨fun h => by
    rcases hws.at_ with h0 | ⟨b, o, hx, _⟩
    · omega
    · exact ⟨b, o, hx⟩⟩
  have HB1 : Veil (5000 < lb → ∃ b o, xb = some ⟨b, o, none⟩) := ⟨fun h => by
    rcases hbo.at_ with h0 | ⟨b, o, hx, _⟩
    · omega
    · exact ⟨b, o, hx⟩⟩
  have HP : Veil (F.prev.length = 32 ∧ F.mac.length = 32 ∧ F.wraps = .slice xw lw cw ∧ F.body = .slice xb lb cb) := ⟨hp, hm, hfw, hfb⟩
  clear hws hbo hZ hp hm hfw hfb
  go_enter Tryd.func4, Tryd.ntmps4
  go_upto_region 1 with fail
  refine forget (p := fun y => Code.wp _ _ _ _ y) (fun W0 => Below w.heap.size w W0 ∧ CellsAt W0 w.heap.size 30 F.cells ∧ CellsAt W0 (w.heap.size + 1) 30 fr00.cells) ⟨hB0, hD0, hR0⟩ ?_
  clear hB0 hD0 hR0 hzv hz1
  rintro W0 ⟨hB0, hD0, hR0⟩
  have c36 : W0.cell? ⟨w.heap.size, 36, none⟩ = some (.slice xw lw cw) := by
    obtain ⟨_, _, _, _, _, q6, _⟩ := fr_parts F HP.out.1 HP.out.2.1
    rw [hD0.cell, q6, HP.out.2.2.1]
  have f36 := hD0.frozen 36
  by_cases hA : 80 < lw
  · obtain ⟨b1, o1, rfl⟩ := HW1.out hA
    have hcut := fun wx => run_cutW wx b1 o1 lw cw (by omega)
    have hA' : (lw : Int) > 80 := by omega
    go_upto_region 3 with fail
    refine forget (p := fun y => Code.wp _ _ _ _ y) (fun W1 => Below w.heap.size w W1 ∧ CellsAt W1 w.heap.size 30 ({ F with wraps := .slice (some ⟨b1, o1, none⟩) 80 cw } : Fr).cells ∧ CellsAt W1 (w.heap.size + 1) 30 fr00.cells) ⟨hB0.setCell (Nat.le_refl _) _, by rw [← fr_setW F _ HP.out.1]; exact hD0.set 36 _, hR0.setOther _ _ (by show w.heap.size + 1 ≠ w.heap.size; omega)⟩ ?_
    obtain ⟨F1, hF1⟩ : ∃ q, ({ F with wraps := .slice (some ⟨b1, o1, none⟩) 80 cw } : Fr) = q := ⟨_, rfl⟩
    have HF : Veil (F1.prev.length = 32 ∧ F1.mac.length = 32 ∧ F1.wraps = .slice (some ⟨b1, o1, none⟩) 80 cw ∧ F1.body = .slice xb lb cb ∧ ∀ v, ({ F1 with body := v } : Fr) = { F with wraps := .slice (some ⟨b1, o1, none⟩) (min lw 80) cw, body := v }) := ⟨by
      rw [← hF1]
      exact ⟨HP.out.1, HP.out.2.1, rfl, HP.out.2.2.2, fun v => by rw [Nat.min_eq_right (show 80 ≤ lw by omega)]⟩⟩
    rw [hF1]
    clear hF1 hcut c36 f36 hB0 hD0 hR0
    rintro W1 ⟨hB1, hD1, hR1⟩
    have c37 : W1.cell? ⟨w.heap.size, 37, none⟩ = some (.slice xb lb cb) := by
      obtain ⟨_, _, _, _, _, _, q7, _⟩ := fr_parts F1 HF.out.1 HF.out.2.1
      rw [hD1.cell, q7, HF.out.2.2.2.1]
    have f37 := hD1.frozen 37
    by_cases hB : 5000 < lb
    · obtain ⟨b2, o2, rfl⟩ := HB1.out hB
      have hcut := fun wx => run_cutB wx b2 o2 lb cb (by omega)
      have hB' : (lb : Int) > 5000 := by omega
      go_upto_region 5 with fail
      refine forget (p := fun y => Code.wp _ _ _ _ y) (fun W2 => Below w.heap.size w W2 ∧ CellsAt W2 w.heap.size 30 ({ F1 with body := .slice (some ⟨b2, o2, none⟩) 5000 cb } : Fr).cells ∧ CellsAt W2 (w.heap.size + 1) 30 fr00.cells) ⟨hB1.setCell (Nat.le_refl _) _, by rw [← fr_setB F1 _ HF.out.1]; exact hD1.set 37 _, hR1.setOther _ _ (by show w.heap.size + 1 ≠ w.heap.size; omega)⟩ ?_
      have HE : Veil (({ F1 with body := .slice (some ⟨b2, o2, none⟩) 5000 cb } : Fr) = F.few (some ⟨b1, o1, none⟩) lw cw (some ⟨b2, o2, none⟩) lb cb) := ⟨by
        rw [HF.out.2.2.2.2]; unfold Fr.few; rw [Nat.min_eq_right (show 5000 ≤ lb by omega)]⟩
      rw [HE.out]
      have h1 := fr_one (F.few (some ⟨b1, o1, none⟩) lw cw (some ⟨b2, o2, none⟩) lb cb) (some ⟨b1, o1, none⟩) (some ⟨b2, o2, none⟩) _ cw _ cb rfl rfl
      obtain ⟨q0, _⟩ := fr_parts (F.few (some ⟨b1, o1, none⟩) lw cw (some ⟨b2, o2, none⟩) lb cb) HP.out.1 HP.out.2.1
      obtain ⟨F2, hF2⟩ : ∃ q, F.few (some ⟨b1, o1, none⟩) lw cw (some ⟨b2, o2, none⟩) lb cb = q := ⟨_, rfl⟩
      rw [hF2] at h1 q0 ⊢
      have HF2 : Veil (F.few (some ⟨b1, o1, none⟩) lw cw (some ⟨b2, o2, none⟩) lb cb = F2) := ⟨hF2⟩
      clear HE c37 f37 hB1 hD1 hR1 hcut hF2
      rintro W2 ⟨hB2, hD2, hR2⟩
      have rE := hD2.whole
      have hiF : (Tryd.prog.info? 30).map (·.size) = some F2.cells.length := by rw [q0]; exact sizeFrame
      go_wp2_with (first
        | (refine wpList_ldv rfl 30 _ rfl _ _ rfl F2.cells rE Tryd.underlying30 rfl hiF ?_)
        | (refine wpList_stv rfl 30 _ _ rfl _ rfl rfl hR2 hiF (by rw [q0]; rfl) h1 ?_))
      refine bodyPost_ret (results_cell_row (Tryd.results4) _ _ _ _ _ (0, 0) _ rfl (hR2.setRow F2.cells) Tryd.underlying30 rfl (by rw [hiF]; simp)) rfl ⟨by rw [HF2.out], ?_⟩
      exact below_setRow hB2 (by omega) _
    · have hB' : ¬ (lb : Int) > 5000 := by omega
      go_upto_region 5 with fail
      have HE : Veil (F1 = F.few (some ⟨b1, o1, none⟩) lw cw xb lb cb) := ⟨by
        have e1 : F1 = { F1 with body := .slice xb lb cb } := by rw [← HF.out.2.2.2.1]
        rw [e1, HF.out.2.2.2.2]; unfold Fr.few; rw [Nat.min_eq_left (show lb ≤ 5000 by omega)]⟩
      rw [HE.out] at hD1
      have h1 := fr_one (F.few (some ⟨b1, o1, none⟩) lw cw xb lb cb) (some ⟨b1, o1, none⟩) xb _ cw _ cb rfl rfl
      obtain ⟨q0, _⟩ := fr_parts (F.few (some ⟨b1, o1, none⟩) lw cw xb lb cb) HP.out.1 HP.out.2.1
      obtain ⟨F2, hF2⟩ : ∃ q, F.few (some ⟨b1, o1, none⟩) lw cw xb lb cb = q := ⟨_, rfl⟩
      rw [hF2] at h1 q0 hD1
      have HF2 : Veil (F.few (some ⟨b1, o1, none⟩) lw cw xb lb cb = F2) := ⟨hF2⟩
      clear HE c37 f37 hF2
      have rE := hD1.whole
      have hiF : (Tryd.prog.info? 30).map (·.size) = some F2.cells.length := by rw [q0]; exact sizeFrame
      go_wp2_with (first
        | (refine wpList_ldv rfl 30 _ rfl _ _ rfl F2.cells rE Tryd.underlying30 rfl hiF ?_)
        | (refine wpList_stv rfl 30 _ _ rfl _ rfl rfl hR1 hiF (by rw [q0]; rfl) h1 ?_))
      refine bodyPost_ret (results_cell_row (Tryd.results4) _ _ _ _ _ (0, 0) _ rfl (hR1.setRow F2.cells) Tryd.underlying30 rfl (by rw [hiF]; simp)) rfl ⟨by rw [HF2.out], ?_⟩
      exact below_setRow hB1 (by omega) _
  · have hA' : ¬ (lw : Int) > 80 := by omega
    go_upto_region 3 with fail
    obtain ⟨F1, hF1⟩ : ∃ q, F = q := ⟨_, rfl⟩
    have HF : Veil (F1.prev.length = 32 ∧ F1.mac.length = 32 ∧ F1.wraps = .slice xw lw cw ∧ F1.body = .slice xb lb cb ∧ ∀ v, ({ F1 with body := v } : Fr) = { F with wraps := .slice xw (min lw 80) cw, body := v }) := ⟨by
      rw [← hF1]
      exact ⟨HP.out.1, HP.out.2.1, HP.out.2.2.1, HP.out.2.2.2, fun v => by rw [Nat.min_eq_left (show lw ≤ 80 by omega), ← HP.out.2.2.1]⟩⟩
    rw [hF1] at hD0
    clear hF1 c36 f36
    obtain ⟨W1, hW1⟩ : ∃ q, W0 = q := ⟨_, rfl⟩
    rw [hW1] at hB0 hD0 hR0 ⊢
    have hB1 := hB0
    have hD1 := hD0
    have hR1 := hR0
    clear hB0 hD0 hR0 hW1
    have c37 : W1.cell? ⟨w.heap.size, 37, none⟩ = some (.slice xb lb cb) := by
      obtain ⟨_, _, _, _, _, _, q7, _⟩ := fr_parts F1 HF.out.1 HF.out.2.1
      rw [hD1.cell, q7, HF.out.2.2.2.1]
    have f37 := hD1.frozen 37
    by_cases hB : 5000 < lb
    · obtain ⟨b2, o2, rfl⟩ := HB1.out hB
      have hcut := fun wx => run_cutB wx b2 o2 lb cb (by omega)
      have hB' : (lb : Int) > 5000 := by omega
      go_upto_region 5 with fail
      refine forget (p := fun y => Code.wp _ _ _ _ y) (fun W2 => Below w.heap.size w W2 ∧ CellsAt W2 w.heap.size 30 ({ F1 with body := .slice (some ⟨b2, o2, none⟩) 5000 cb } : Fr).cells ∧ CellsAt W2 (w.heap.size + 1) 30 fr00.cells) ⟨hB1.setCell (Nat.le_refl _) _, by rw [← fr_setB F1 _ HF.out.1]; exact hD1.set 37 _, hR1.setOther _ _ (by show w.heap.size + 1 ≠ w.heap.size; omega)⟩ ?_
      have HE : Veil (({ F1 with body := .slice (some ⟨b2, o2, none⟩) 5000 cb } : Fr) = F.few xw lw cw (some ⟨b2, o2, none⟩) lb cb) := ⟨by
        rw [HF.out.2.2.2.2]; unfold Fr.few; rw [Nat.min_eq_right (show 5000 ≤ lb by omega)]⟩
      rw [HE.out]
      have h1 := fr_one (F.few xw lw cw (some ⟨b2, o2, none⟩) lb cb) xw (some ⟨b2, o2, none⟩) _ cw _ cb rfl rfl
      obtain ⟨q0, _⟩ := fr_parts (F.few xw lw cw (some ⟨b2, o2, none⟩) lb cb) HP.out.1 HP.out.2.1
      obtain ⟨F2, hF2⟩ : ∃ q, F.few xw lw cw (some ⟨b2, o2, none⟩) lb cb = q := ⟨_, rfl⟩
      rw [hF2] at h1 q0 ⊢
      have HF2 : Veil (F.few xw lw cw (some ⟨b2, o2, none⟩) lb cb = F2) := ⟨hF2⟩
      clear HE c37 f37 hB1 hD1 hR1 hcut hF2
      rintro W2 ⟨hB2, hD2, hR2⟩
      have rE := hD2.whole
      have hiF : (Tryd.prog.info? 30).map (·.size) = some F2.cells.length := by rw [q0]; exact sizeFrame
      go_wp2_with (first
        | (refine wpList_ldv rfl 30 _ rfl _ _ rfl F2.cells rE Tryd.underlying30 rfl hiF ?_)
        | (refine wpList_stv rfl 30 _ _ rfl _ rfl rfl hR2 hiF (by rw [q0]; rfl) h1 ?_))
      refine bodyPost_ret (results_cell_row (Tryd.results4) _ _ _ _ _ (0, 0) _ rfl (hR2.setRow F2.cells) Tryd.underlying30 rfl (by rw [hiF]; simp)) rfl ⟨by rw [HF2.out], ?_⟩
      exact below_setRow hB2 (by omega) _
    · have hB' : ¬ (lb : Int) > 5000 := by omega
      go_upto_region 5 with fail
      have HE : Veil (F1 = F.few xw lw cw xb lb cb) := ⟨by
        have e1 : F1 = { F1 with body := .slice xb lb cb } := by rw [← HF.out.2.2.2.1]
        rw [e1, HF.out.2.2.2.2]; unfold Fr.few; rw [Nat.min_eq_left (show lb ≤ 5000 by omega)]⟩
      rw [HE.out] at hD1
      have h1 := fr_one (F.few xw lw cw xb lb cb) xw xb _ cw _ cb rfl rfl
      obtain ⟨q0, _⟩ := fr_parts (F.few xw lw cw xb lb cb) HP.out.1 HP.out.2.1
      obtain ⟨F2, hF2⟩ : ∃ q, F.few xw lw cw xb lb cb = q := ⟨_, rfl⟩
      rw [hF2] at h1 q0 hD1
      have HF2 : Veil (F.few xw lw cw xb lb cb = F2) := ⟨hF2⟩
      clear HE c37 f37 hF2
      have rE := hD1.whole
      have hiF : (Tryd.prog.info? 30).map (·.size) = some F2.cells.length := by rw [q0]; exact sizeFrame
      go_wp2_with (first
        | (refine wpList_ldv rfl 30 _ rfl _ _ rfl F2.cells rE Tryd.underlying30 rfl hiF ?_)
        | (refine wpList_stv rfl 30 _ _ rfl _ rfl rfl hR1 hiF (by rw [q0]; rfl) h1 ?_))
      refine bodyPost_ret (results_cell_row (Tryd.results4) _ _ _ _ _ (0, 0) _ rfl (hR1.setRow F2.cells) Tryd.underlying30 rfl (by rw [hiF]; simp)) rfl ⟨by rw [HF2.out], ?_⟩
      exact below_setRow hB1 (by omega) _
end Go.Proofs.YtkcaejoidoennaaDoor
