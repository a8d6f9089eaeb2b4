/- The reference of wire: 'ReadFrame' of bytes that are a frame. (Written by mkrf2.py.) -/
import Derived.Test.YtdfjfafhpjoilaaDoorRf1
import Derived.Test.YtdfjfafhpjoilaaDoorHr
import Derived.Test.YtdfjfafhpjoilaaDoorOw
namespace Go.Proofs.YtdfjfafhpjoilaaDoor
open Go.RowKit
set_option maxRecDepth 20000
set_option linter.unusedSimpArgs false

/-- A call within a region, by its contract: that the operation comes to it is a closed fact for the kernel. -/
theorem wp_callE {P : Program} {o : Oper} {a : Act} {w : World} {K : Act → World → Prop} {Q : Exit → Act → World → Prop} (f : FuncId) (args : Array Value) (hrun : (execOp a.eval o).run P w = .ok (.enter f args) w)
    (hc : Calls P f args w fun e w' => ∃ v, e = .returned v ∧ K (a.put o.dst v) w') : o.wp P a w K Q := by
  unfold Oper.wp
  rw [hrun, Oper.upon_enter]
  refine hc.mono fun e w'' hh => ?_
  obtain ⟨v, rfl, hk⟩ := hh
  exact hk
theorem meetU {a : Act} {F : (Nat → Value) → Act} {P : Prop} (h : a = F (fun i => a.tmps.getD i undef)) (hp : P) : ∃ u, a = F u ∧ P := ⟨_, h, hp⟩
theorem at1_seg (z : List Int) (o m j : Nat) (hj : j < m) : at1 ((z.drop o).take m) j = at1 z (o + j) := by unfold at1; rw [List.getElem?_take_of_lt hj, List.getElem?_drop]
theorem dot_seg (z : List Int) (o : Nat) : at1 ((z.drop o).take 5) 0 = at1 z o ∧ at4 ((z.drop o).take 5) 1 = at4 z (o + 1) := by
  refine ⟨by rw [at1_seg z o 5 0 (by omega), Nat.add_zero], ?_⟩
  unfold at4
  rw [at1_seg z o 5 1 (by omega), at1_seg z o 5 (1 + 1) (by omega), at1_seg z o 5 (1 + 2) (by omega), at1_seg z o 5 (1 + 3) (by omega)]

theorem fr_set (f : Fr) (hp : f.prev.length = 32) (v u : Value) : (f.cells.set 36 v).set 37 u = ({ f with wraps := v, body := u } : Fr).cells := by
  have hA : ([Value.int .u8 f.author, .int .u32 f.number] ++ dotC f.ea f.es ++ f.prev.map (Value.int .u8)).length = 36 := by simp [dotC, hp]
  unfold Fr.cells
  rw [List.append_assoc _ [f.wraps, f.body], List.set_append_right _ _ (by omega), hA, List.set_append_right _ _ (by omega), hA]
  simp
theorem fr_at37 (f : Fr) (hp : f.prev.length = 32) : f.cells[37]? = some f.body := by
  have hA : ([Value.int .u8 f.author, .int .u32 f.number] ++ dotC f.ea f.es ++ f.prev.map (Value.int .u8)).length = 36 := by simp [dotC, hp]
  unfold Fr.cells
  rw [List.append_assoc _ [f.wraps, f.body], List.getElem?_append_right (by omega), hA]
  rfl
theorem fr_set36 (f : Fr) (hp : f.prev.length = 32) : f.cells.set 36 f.wraps = f.cells := by
  have hA : ([Value.int .u8 f.author, .int .u32 f.number] ++ dotC f.ea f.es ++ f.prev.map (Value.int .u8)).length = 36 := by simp [dotC, hp]
  unfold Fr.cells
  rw [List.append_assoc _ [f.wraps, f.body], List.set_append_right _ _ (by omega), hA]
  simp

theorem zeroWpL : ∃ Z : List Value, (∀ wx : World, (zeroValue 52).run Tryd.prog wx = .ok (.agg Z.toArray) wx) ∧ ¬ Z.toArray = #[] ∧ Z = wpZ.cells := by
  refine ⟨wpZ.cells, fun wx => ?_, by intro h; have := congrArg Array.size h; revert this; decide, rfl⟩
  obtain ⟨i0, hi, hz0, _, _⟩ := info_parts infoWp
  simp [zeroValue, typeInfo, hi, hz0]
theorem wp_setJ (a b c : Int) (l : List Int) (j : Nat) (v : Int) : ((⟨a, b, c, l⟩ : Wp).cells).set (3 + j) (.int .u8 v) = (⟨a, b, c, l.set j v⟩ : Wp).cells := by
  unfold Wp.cells dotC
  rw [Nat.add_comm]
  simp [List.map_set]
theorem take_set48 (z : List Int) (j : Nat) (hj : j < 48) (hl : 48 ≤ z.length) : (z.take j ++ List.replicate (48 - j) 0).set j (z[j]?.getD 0) = z.take (j + 1) ++ List.replicate (48 - (j + 1)) 0 := by
  have hjl : (z.take j).length = j := by rw [List.length_take]; omega
  rw [show 48 - j = (48 - (j + 1)) + 1 by omega, take_next z j (by omega)]
  have := set_next (z.take j) (48 - (j + 1)) (z[j]?.getD 0)
  rw [hjl] at this
  exact this
theorem wp_cellJ (a b c : Int) (l : List Int) (j : Nat) (h : j < l.length) : ((⟨a, b, c, l⟩ : Wp).cells)[3 + j]? = some (.int .u8 l[j]) := by
  unfold Wp.cells dotC
  rw [Nat.add_comm]
  simp [h]
theorem fill_wp (cs : List Value) (base : Array Value) (hb : base.size = 51) (hc : cs.length = 51) (pl : Nat → Option (Nat × Nat)) (hp : pl 0 = some (0, 51)) : Instr.fill pl base [(0, .agg cs.toArray)] = some cs.toArray := by
  have e := fill_cons pl base.toList cs 0 0 51 (.agg cs.toArray) [] hp rfl hc (by simpa using Nat.le_of_eq hb.symm)
  rw [Array.toArray_toList] at e
  rw [e, Instr.fill]
  simp [hb]
theorem OwnW.ownLt {w : World} {base : Nat} {v : Value} {ws : List Wp} (h : OwnW w base v ws) (g : Nat) (hg : v.ownBlock = some g) : g < w.heap.size ∧ ∃ cur, w.heap[g]? = some (.cells cur 52 (0, 0)) := by
  rcases h.2 with ⟨rfl, _⟩ | ⟨g', cap, cur, rfl, hb, hc, _⟩
  · cases hg
  · simp [Value.ownBlock] at hg
    subst hg
    exact ⟨(Array.getElem?_eq_some_iff.1 hc).1, cur, hc⟩
theorem OwnW.setOther {w : World} {base : Nat} {v : Value} {ws : List Wp} (h : OwnW w base v ws) (a : Addr) (u : Value) (hne : ∀ g, v.ownBlock = some g → g ≠ a.block) : OwnW (w.setCell a u) base v ws := by
  refine ⟨h.1, ?_⟩
  rcases h.2 with h' | ⟨g, cap, cur, rfl, h2, h3, h4⟩
  · exact .inl h'
  · refine .inr ⟨g, cap, cur, rfl, h2, ?_, h4⟩
    rw [Below.heap_setCell w a u g (hne g rfl)]; exact h3

theorem OwnW.setRowW {w : World} {base : Nat} {v : Value} {ws : List Wp} {H : Nat} {t : TypeId} {cs : List Value} (h : OwnW w base v ws) (_hH : CellsAt w H t cs) (hne : ∀ g, v.ownBlock = some g → g ≠ H) (cs' : Array Value) : OwnW (w.setRow H cs') base v ws := by
  refine ⟨h.1, ?_⟩
  rcases h.2 with h' | ⟨g, cap, cur, rfl, h2, h3, h4⟩
  · exact .inl h'
  · refine .inr ⟨g, cap, cur, rfl, h2, ?_, h4⟩
    have := hne g rfl
    have e : (w.setRow H cs').heap[g]? = w.heap[g]? := by
      simp only [World.setRow, Array.getElem?_modify]
      rw [if_neg (fun e => this e.symm)]
    rw [e]; exact h3

theorem heap_setRow_ne (w : World) (H : Nat) (cs' : Array Value) (g : Nat) (h : g ≠ H) : (w.setRow H cs').heap[g]? = w.heap[g]? := by
  simp only [World.setRow, Array.getElem?_modify]
  rw [if_neg (fun e => h e.symm)]
theorem CellsAt.grownW {w w' : World} {g base : Nat} {t : TypeId} {cs : List Value} {v : Value} {ws : List Wp} (h : CellsAt w g t cs) (ho : OwnW w base v ws) (hg : w.grownBy w' v.ownBlock) (ht : t ≠ 52) : CellsAt w' g t cs :=
  (hg.block g h.lt (fun e => by
    obtain ⟨_, cur, hc⟩ := ho.ownLt g e.symm
    unfold CellsAt at h
    rw [h] at hc
    have := Option.some.inj hc
    injection this with _ e2 _
    exact ht e2)).trans h
theorem OwnW.keepG {w w' : World} {base : Nat} {v : Value} {ws : List Wp} (h : OwnW w base v ws) (hk : ∀ g, g < w.heap.size → w'.heap[g]? = w.heap[g]?) : OwnW w' base v ws := by
  refine ⟨h.1, ?_⟩
  rcases h.2 with h' | ⟨g, cap, cur, h1, h2, h3, h4⟩
  · exact .inl h'
  · exact .inr ⟨g, cap, cur, h1, h2, (hk g (Array.getElem?_eq_some_iff.1 h3).1).trans h3, h4⟩
theorem OwnB.keepTB {w w' : World} {base g0 : Nat} {v : Value} {z : List Int} {t : TypeId} {cs : List Value} (h : OwnB w base v z) (hc : CellsAt w g0 t cs) (ht : t ≠ 5) (hk : ∀ g, g ≠ g0 → w'.heap[g]? = w.heap[g]?) : OwnB w' base v z := by
  refine ⟨h.1, ?_⟩
  rcases h.2 with h' | ⟨g, cap, cur, h1, h2, h3, h4⟩
  · exact .inl h'
  · refine .inr ⟨g, cap, cur, h1, h2, ?_, h4⟩
    rw [hk g (fun e => by
      subst e
      unfold CellsAt at hc
      rw [hc] at h3
      have := Option.some.inj h3
      injection this with _ e2 _
      exact ht e2)]
    exact h3

theorem wpList_bsR {P : Program} {ops : Array Oper} {rest : List Oper} {o : Oper} {a : Act} {w w' : World} {Q : Exit → Act → World → Prop} (hgd : o.guard = none) (t : TypeId) (m : Nat) (parts : Array (Nat × Operand)) (ho : o.op = .buildSlice t m parts) (vs : Array (Nat × Value)) (hv : (parts.map fun (i, x) => (i, a.eval x)) = vs) (v : Value)
    (hrun : (Instr.buildSlice t m vs).run P w = .ok v w') (h : wpList P ops Q rest (a.put o.dst v) w') : wpList P ops Q (o :: rest) a w :=
  wpList_plain hgd fun _ hK => by
    have e : (Instr.buildSlice t m (parts.map fun (i, x) => (i, a.eval x))).run P w = .ok v w' := by rw [hv]; exact hrun
    unfold Oper.wp execOp
    simp only [ho, Sem.run_bind, e, Result.andThen_ok]
    exact hK _ _ h

set_option maxHeartbeats 16000000 in
theorem refRF_good (x : Option Addr) (n c : Nat) (z : List Int) (w : World) (hb : Bytes w x n c z) (hz : ∀ v ∈ z, b8 v) (hok : 45 ≤ n ∧ at1 z 0 = 69 ∧ at1 z 1 = 83 ∧ fN z ≤ 64) (hbad : fQ z + 2 ≤ n ∧ fM z ≤ 4112 ∧ n = fO z + 32) :
    Calls Tryd.prog 5 #[.slice x n c] w fun e w' => ∃ xw lw cw xb lb cb, e = .returned (.tuple #[.agg (frOf z (.slice xw lw cw) (.slice xb lb cb)).cells.toArray, .int .i64 0]) ∧ WrapsAt w' xw lw cw (wsOf z) ∧ Bytes w' xb lb cb (boOf z) ∧ Below w.heap.size w w' := by
  have hle := hb.le
  have hct := hb.top
  have hzl := hb.len_eq
  obtain ⟨Z, hzv, hz1, hZ⟩ := zeroFrL
  have hiZ : (Tryd.prog.info? 30).map (·.size) = some Z.length := by rw [hZ, fr_len frZ rfl rfl]; exact sizeFrame
  have HZL : Veil (Z.length = 70) := ⟨by rw [hZ, fr_len frZ rfl rfl]⟩
  have hG0 := CellsAt.new w 30 Z
  have hB0 : Below w.heap.size w (w.alloc (.cells Z.toArray 30)) := (Below.refl _ _).alloc (Nat.le_refl _) _
  have hOn : fO z + 32 ≤ n := by omega
  have hseg : ∀ (o m : Nat), ∀ v ∈ (z.drop o).take m, b8 v := fun o m v hv => hz v (List.mem_of_mem_drop (List.mem_of_mem_take hv))
  have hf3 : ∀ wx, Below w.heap.size w wx → Calls Tryd.prog 12 #[.slice (subA x c 3) 4 (c - 3)] wx fun e w' => e = .returned (.int .u32 (at4 z 3)) ∧ Below wx.heap.size wx w' := fun wx h => by
    have := refNum_any (subA x c 3) (c - 3) ((z.drop 3).take 4) wx ((hb.below h).cut 3 7 (by omega) (by omega)) (hseg 3 4)
    rw [at4_seg] at this; exact this
  have hd7 : ∀ wx, Below w.heap.size w wx → Calls Tryd.prog 13 #[.slice (subA x c 7) 5 (c - 7)] wx fun e w' => e = .returned (.agg (dotC (at1 z 7) (at4 z 8)).toArray) ∧ Below wx.heap.size wx w' := fun wx h => by
    have := refDotR_any (subA x c 7) (c - 7) ((z.drop 7).take 5) wx ((hb.below h).cut 7 12 (by omega) (by omega)) (hseg 7 5)
    rw [(dot_seg z 7).1, (dot_seg z 7).2] at this; exact this
  have hk12 : ∀ wx, Below w.heap.size w wx → Calls Tryd.prog 14 #[.slice (subA x c 12) 32 (c - 12)] wx fun e w' => e = .returned (.agg (byC ((z.drop 12).take 32)).toArray) ∧ Below wx.heap.size wx w' := fun wx h => by
    have := refKey_any (subA x c 12) 32 (c - 12) ((z.drop 12).take 32) wx ((hb.below h).cut 12 44 (by omega) (by omega)) (Nat.le_refl _)
    rw [List.take_take, Nat.min_self] at this; exact this
  have hkO : ∀ wx, Below w.heap.size w wx → Calls Tryd.prog 14 #[.slice (subA x c (fO z)) (n - fO z) (c - fO z)] wx fun e w' => e = .returned (.agg (byC ((z.drop (fO z)).take 32)).toArray) ∧ Below wx.heap.size wx w' := fun wx h => by
    have := refKey_any (subA x c (fO z)) (n - fO z) (c - fO z) ((z.drop (fO z)).take (n - fO z)) wx ((hb.below h).cut (fO z) n (by omega) (Nat.le_refl _)) (by omega)
    rw [List.take_take, show min 32 (n - fO z) = 32 by omega] at this; exact this
  have hs3 : ∀ wx : World, (Instr.slice 22 (.slice x n c) (some (.int .i64 3)) (some (.int .i64 7)) none).run Tryd.prog wx = .ok (.slice (subA x c 3) 4 (c - 3)) wx := fun wx => run_cutLH2 wx x n c 3 7 (by omega) (by omega)
  have hs7 : ∀ wx : World, (Instr.slice 22 (.slice x n c) (some (.int .i64 7)) (some (.int .i64 12)) none).run Tryd.prog wx = .ok (.slice (subA x c 7) 5 (c - 7)) wx := fun wx => run_cutLH2 wx x n c 7 12 (by omega) (by omega)
  have hs12 : ∀ wx : World, (Instr.slice 22 (.slice x n c) (some (.int .i64 12)) (some (.int .i64 44)) none).run Tryd.prog wx = .ok (.slice (subA x c 12) 32 (c - 12)) wx := fun wx => run_cutLH2 wx x n c 12 44 (by omega) (by omega)
  have hsO : ∀ wx : World, (Instr.slice 22 (.slice x n c) (some (.int .i64 (fO z : Int))) none none).run Tryd.prog wx = .ok (.slice (subA x c (fO z)) (n - fO z) (c - fO z)) wx := fun wx => run_cut_l wx x n c (fO z) (by omega)
  have hPL : ((z.drop 12).take 32).length = 32 := by rw [List.length_take, List.length_drop]; omega
  have hML : ((z.drop (fO z)).take 32).length = 32 := by rw [List.length_take, List.length_drop]; omega
  have hbf := fun wx => frame_built (at1 z 2) (at4 z 3) (at1 z 7) (at4 z 8) _ _ hPL hML wx
  have HFO : Veil (∀ wv bv, frOf z wv bv = ⟨at1 z 2, at4 z 3, at1 z 7, at4 z 8, (z.drop 12).take 32, wv, bv, (z.drop (fO z)).take 32⟩) := ⟨fun _ _ => rfl⟩
  obtain ⟨AU, hAU⟩ : ∃ q, at1 z 2 = q := ⟨_, rfl⟩
  obtain ⟨NU, hNU⟩ : ∃ q, at4 z 3 = q := ⟨_, rfl⟩
  obtain ⟨EA, hEA⟩ : ∃ q, at1 z 7 = q := ⟨_, rfl⟩
  obtain ⟨ES, hES⟩ : ∃ q, at4 z 8 = q := ⟨_, rfl⟩
  obtain ⟨PV, hPV⟩ : ∃ q, (z.drop 12).take 32 = q := ⟨_, rfl⟩
  obtain ⟨MC, hMC⟩ : ∃ q, (z.drop (fO z)).take 32 = q := ⟨_, rfl⟩
  rw [hNU] at hf3
  rw [hEA, hES] at hd7
  rw [hPV] at hk12 hPL
  rw [hMC] at hkO hML
  simp only [hAU, hNU, hEA, hES, hPV, hMC] at hbf HFO
  have hFl : (⟨AU, NU, EA, ES, PV, .slice none 0 0, .slice none 0 0, MC⟩ : Fr).cells.length = 70 := fr_len _ hPL hML
  have hF1 := fr_one (⟨AU, NU, EA, ES, PV, .slice none 0 0, .slice none 0 0, MC⟩ : Fr) none none 0 0 0 0 rfl rfl
  obtain ⟨DT, hDT⟩ : ∃ q, (dotC EA ES).toArray = q := ⟨_, rfl⟩
  obtain ⟨KP, hKP⟩ : ∃ q, (byC PV).toArray = q := ⟨_, rfl⟩
  obtain ⟨KM, hKM⟩ : ∃ q, (byC MC).toArray = q := ⟨_, rfl⟩
  rw [hDT] at hd7
  rw [hKP] at hk12
  rw [hKM] at hkO
  simp only [hDT, hKP, hKM] at hbf
  obtain ⟨FC, hFC⟩ : ∃ q, (⟨AU, NU, EA, ES, PV, .slice none 0 0, .slice none 0 0, MC⟩ : Fr).cells = q := ⟨_, rfl⟩
  have HFC := Veil.mk hFC
  rw [hFC] at hFl hF1
  simp only [hFC] at hbf
  have iFC : (Tryd.prog.info? 30).map (·.size) = some FC.length := by rw [hFl]; exact sizeFrame
  have hlFC : Z.length = FC.length := by rw [HZL.out, hFl]
  have HFL := Veil.mk hFl
  have HPL := Veil.mk hPL
  have HML := Veil.mk hML
  have HBY : Veil (∀ wx, Below w.heap.size w wx → Bytes wx x n c z) := ⟨fun wx h => hb.below h⟩
  have HSEG := Veil.mk hseg
  have HZLEN : Veil (n = z.length) := ⟨hzl⟩
  have h2c : 2 < n := by omega
  have HC2 : Veil (∀ w', Below w.heap.size w w' → ∀ b off, x = some ⟨b, off, none⟩ → w'.cell? ⟨b, off + 2, none⟩ = some (.int .u8 AU)) := ⟨fun w' h b off hx => by
    rcases (hb.below h).at_ with h0 | ⟨b', off', hx', hc⟩
    · omega
    · rw [hx] at hx'; cases hx'; rw [← hAU]; exact hc 2 (by omega)⟩
  have hg2 : (2 : Int) < (n : Int) := by omega
  clear hAU hNU hEA hES hPV hMC hDT hKP hKM hFC hFl hPL hML hseg hzl h2c
  obtain ⟨y3, hy3⟩ : ∃ q, subA x c 3 = q := ⟨_, rfl⟩
  obtain ⟨y7, hy7⟩ : ∃ q, subA x c 7 = q := ⟨_, rfl⟩
  obtain ⟨y12, hy12⟩ : ∃ q, subA x c 12 = q := ⟨_, rfl⟩
  obtain ⟨yO, hyO⟩ : ∃ q, subA x c (fO z) = q := ⟨_, rfl⟩
  rw [hy3] at hf3 hs3
  rw [hy7] at hd7 hs7
  rw [hy12] at hk12 hs12
  rw [hyO] at hkO hsO
  clear hy3 hy7 hy12 hyO
  obtain ⟨h45, hz0, hz1', hN64⟩ := hok
  have hnlt : ¬ (n : Int) < 45 := by omega
  have g0 : (0 : Int) < (n : Int) := by omega
  have g1 : (1 : Int) < (n : Int) := by omega
  have g44 : (44 : Int) < (n : Int) := by omega
  have e44 : at1 z 44 = (fN z : Int) := by have := b8_get hz 44; unfold fN at1; omega
  obtain ⟨b, off, rfl, hcl⟩ := bytes_cells hb (by omega)
  have hlb : b < w.heap.size := block_lt_of_cell (hcl 0 (by omega))
  have HC : Veil (∀ w', Below w.heap.size w w' → w'.cell? ⟨b, off, none⟩ = some (.int .u8 69) ∧ w'.cell? ⟨b, off + 1, none⟩ = some (.int .u8 83) ∧ w'.cell? ⟨b, off + 44, none⟩ = some (.int .u8 (fN z))) := ⟨fun w' h => ⟨by rw [(bcell h).1 _ _ hlb, ← hz0]; exact hcl 0 (by omega), by rw [(bcell h).1 _ _ hlb, ← hz1']; exact hcl 1 (by omega), by rw [(bcell h).1 _ _ hlb, ← e44]; exact hcl 44 (by omega)⟩⟩
  have HCQ : Veil (fQ z + 2 ≤ n → Veil (∀ w', Below w.heap.size w w' → w'.cell? ⟨b, off + fQ z, none⟩ = some (.int .u8 (at1 z (fQ z))) ∧ w'.cell? ⟨b, off + (fQ z + 1), none⟩ = some (.int .u8 (at1 z (fQ z + 1))))) := ⟨fun hq => ⟨fun w' h => ⟨by rw [(bcell h).1 _ _ hlb]; exact hcl _ (by omega), by rw [(bcell h).1 _ _ hlb]; exact hcl _ (by omega)⟩⟩⟩
  have hB1r := b8_get hz (fQ z)
  have hB2r := b8_get hz (fQ z + 1)
  have hMv : bits .or .i64 (at1 z (fQ z) * 256) (at1 z (fQ z + 1)) = (fM z : Int) := by
    have h1 := val2_or _ _ hB1r hB2r
    have h2 : (fM z : Int) = val2 (at1 z (fQ z)) (at1 z (fQ z + 1)) := by
      have : 0 ≤ val2 (at1 z (fQ z)) (at1 z (fQ z + 1)) := by unfold val2 at1; omega
      unfold fM told2; omega
    rw [h2]; exact h1
  have hM65 : fM z ≤ 65535 := by unfold fM told2 val2 at1; omega
  obtain ⟨N, hN⟩ : ∃ q, fN z = q := ⟨_, rfl⟩
  obtain ⟨P, hPe⟩ : ∃ q, 54 * fN z = q := ⟨_, rfl⟩
  obtain ⟨Q, hQe⟩ : ∃ q, 45 + 54 * fN z = q := ⟨_, rfl⟩
  obtain ⟨Q1, hQ1e⟩ : ∃ q, Q + 1 = q := ⟨_, rfl⟩
  obtain ⟨Q2, hQ2e⟩ : ∃ q, Q + 2 = q := ⟨_, rfl⟩
  have hQf : fQ z = Q := hQe
  obtain ⟨M, hMe⟩ : ∃ q, fM z = q := ⟨_, rfl⟩
  have hOf : fO z = Q2 + M := by show fQ z + 2 + fM z = _; omega
  obtain ⟨O, hOe⟩ : ∃ q, Q2 + M = q := ⟨_, rfl⟩
  obtain ⟨O32, hO32⟩ : ∃ q, O + 32 = q := ⟨_, rfl⟩
  rw [hQf, hMe] at hMv
  rw [hQf] at HCQ hB1r hB2r
  rw [hN] at HC hN64
  rw [hQf, hMe, hOf, hOe] at hbad
  rw [hQ1e] at hMv HCQ hB2r
  rw [hN] at hPe hQe
  rw [hMe] at hM65
  obtain ⟨B1, hB1⟩ : ∃ q, at1 z Q = q := ⟨_, rfl⟩
  obtain ⟨B2, hB2⟩ : ∃ q, at1 z Q1 = q := ⟨_, rfl⟩
  have hB1r' : 0 ≤ B1 ∧ B1 ≤ 255 := by rw [← hB1]; exact hB1r
  have hB2r' : 0 ≤ B2 ∧ B2 ≤ 255 := by rw [← hB2]; exact hB2r
  rw [hB1, hB2] at hMv HCQ
  have e0 : IntKind.i64.wrap (N : Int) = (N : Int) := by rw [IntKind.wrap_i64]; omega
  have e1 : IntKind.i64.wrap (54 * (N : Int)) = (P : Int) := by rw [IntKind.wrap_i64]; omega
  have e2 : IntKind.i64.wrap (45 + (P : Int)) = (Q : Int) := by rw [IntKind.wrap_i64]; omega
  have e3 : IntKind.i64.wrap ((Q : Int) + 2) = (Q2 : Int) := by rw [IntKind.wrap_i64]; omega
  have e4 : IntKind.i64.wrap ((Q : Int) + 1) = (Q1 : Int) := by rw [IntKind.wrap_i64]; omega
  have e7 : IntKind.i64.wrap B1 = B1 := by rw [IntKind.wrap_i64]; omega
  have e8 : IntKind.i64.wrap B2 = B2 := by rw [IntKind.wrap_i64]; omega
  have e9 : IntKind.i64.wrap (B1 * 256) = B1 * 256 := by rw [IntKind.wrap_i64]; omega
  have q2 : ¬ (64 : Int) < (N : Int) := by omega
  have HMV := Veil.mk hMv
  rw [hOf, hOe] at hkO hsO
  have HBO : Veil (boOf z = (z.drop Q2).take M) := ⟨by unfold boOf; rw [hQf, hMe, hQ2e]⟩
  have HWNe : Veil (wsOf z = wpsN z 45 N) := ⟨by unfold wsOf; rw [hN]⟩
  clear hb hz hZ hcl hlb e44 hz0 hz1' hN hB1 hB2 hB1r hB2r hMv hQf hMe hOf
  obtain ⟨k3, k4, k5⟩ := hbad
  have q3 : ¬ (n : Int) < (Q2 : Int) := by omega
  have gQ : (Q : Int) < (n : Int) := by omega
  have gQ1 : (Q1 : Int) < (n : Int) := by omega
  have gQ0 : (0 : Int) ≤ (Q : Int) := by omega
  have gQ10 : (0 : Int) ≤ (Q1 : Int) := by omega
  have HCQ1 := HCQ.out (by omega)
  have q4 : ¬ (4112 : Int) < (M : Int) := by omega
  have e5 : IntKind.i64.wrap ((Q2 : Int) + (M : Int)) = (O : Int) := by rw [IntKind.wrap_i64]; omega
  have e6 : IntKind.i64.wrap ((O : Int) + 32) = (n : Int) := by rw [IntKind.wrap_i64]; omega
  have HN5 : Veil (n = O + 32 ∧ O = Q2 + M ∧ Q2 = Q + 2 ∧ Q1 = Q + 1 ∧ Q = 45 + 54 * N) := ⟨by omega, by omega, by omega, by omega, by omega⟩
  have HC2' : Veil (∀ w', Below w.heap.size w w' → w'.cell? ⟨b, off + 2, none⟩ = some (.int .u8 AU)) := ⟨fun w' h => HC2.out w' h b off rfl⟩
  obtain ⟨nO, hnO⟩ : ∃ q, n - O = q := ⟨_, rfl⟩
  rw [hnO] at hkO hsO
  clear k3 k5 hOe hO32 hQ2e hQ1e hQe hPe hnO HC2 hOn
  go_enter Tryd.func5, Tryd.ntmps5
  go_upto_region 1 with fail
  refine forget (p := fun y => Code.wp _ _ _ _ y) (fun W => Below w.heap.size w W ∧ CellsAt W w.heap.size 30 Z) ⟨hB0, hG0⟩ ?_
  clear hB0 hG0
  rintro W ⟨hB0, hG0⟩
  obtain ⟨c0, c1, c44⟩ := HC.out _ hB0
  go_upto_region 7 with fail
  obtain ⟨cB1, cB2⟩ := HCQ1.out _ hB0
  refine wp_region_gate (fun w' => w'.cell? ⟨b, off + Q, none⟩ = some (.int .u8 B1) ∧ w'.cell? ⟨b, off + Q1, none⟩ = some (.int .u8 B2)) 13 (by kernel_rfl) ?_
  obtain ⟨D0, hD0⟩ : ∃ q, W.drew = q := ⟨_, rfl⟩
  have hb0 : Below W.heap.size W D0 := by rw [← hD0]; exact (Below.refl _ _).drew
  rw [hD0]
  replace hB0 := hB0.trans (hb0.mono hB0.size)
  replace hG0 : CellsAt D0 w.heap.size 30 Z := by
    have hl := hG0.lt
    unfold CellsAt at hG0 ⊢; rw [hb0.block _ hl]; exact hG0
  clear hD0 hb0 c0 c1 c44 cB1 cB2
  have hS := HCQ1.out _ hB0
  refine wpAnyG_any (i := 0) (v := ?_) rfl (by kernel_rfl) (by kernel_rfl) (by kernel_rfl) (fun _ _ _ h => h) (by kernel_rfl) (fun _ => hS) (by kernel_rfl) ?_ ?_
  rotate_left
  · intro _; go_simp; try with_reducible rfl
  simp only [Act.put, List.getElem_toArray, List.getElem_cons_succ, List.getElem_cons_zero, List.setIfInBounds_toArray, List.set_cons_zero, List.set_cons_succ]
  refine wpAnyG_any (i := 1) (v := ?_) rfl (by kernel_rfl) (by kernel_rfl) (by kernel_rfl) (fun _ _ _ h => h) (by kernel_rfl) (fun _ => hS) (by kernel_rfl) ?_ ?_
  rotate_left
  · intro _; go_simp; try with_reducible rfl
  simp only [Act.put, List.getElem_toArray, List.getElem_cons_succ, List.getElem_cons_zero, List.setIfInBounds_toArray, List.set_cons_zero, List.set_cons_succ]
  refine wpAnyG_any (i := 2) (v := ?_) rfl (by kernel_rfl) (by kernel_rfl) (by kernel_rfl) (fun _ _ _ h => h) (by kernel_rfl) (fun _ => hS) (by kernel_rfl) ?_ ?_
  rotate_left
  · intro _; go_simp; try with_reducible rfl
  simp only [Act.put, List.getElem_toArray, List.getElem_cons_succ, List.getElem_cons_zero, List.setIfInBounds_toArray, List.set_cons_zero, List.set_cons_succ]
  refine wpAnyG_read (i := 3) (v := ?_) rfl (by kernel_rfl) (by kernel_rfl) (by kernel_rfl) (fun _ _ _ h => h) (by kernel_rfl) (by kernel_rfl) (by kernel_rfl) hS (by kernel_rfl) ?_ ?_
  rotate_left
  · intro wx hSw; go_split_ands; go_simp; try with_reducible rfl
  simp only [Act.put, List.getElem_toArray, List.getElem_cons_succ, List.getElem_cons_zero, List.setIfInBounds_toArray, List.set_cons_zero, List.set_cons_succ]
  refine wpAnyG_any (i := 4) (v := ?_) rfl (by kernel_rfl) (by kernel_rfl) (by kernel_rfl) (fun _ _ _ h => h) (by kernel_rfl) (fun _ => hS) (by kernel_rfl) ?_ ?_
  rotate_left
  · intro _; go_simp; try with_reducible rfl
  simp only [Act.put, List.getElem_toArray, List.getElem_cons_succ, List.getElem_cons_zero, List.setIfInBounds_toArray, List.set_cons_zero, List.set_cons_succ]
  refine wpAnyG_any (i := 5) (v := ?_) rfl (by kernel_rfl) (by kernel_rfl) (by kernel_rfl) (fun _ _ _ h => h) (by kernel_rfl) (fun _ => hS) (by kernel_rfl) ?_ ?_
  rotate_left
  · intro _; go_simp; try with_reducible rfl
  simp only [Act.put, List.getElem_toArray, List.getElem_cons_succ, List.getElem_cons_zero, List.setIfInBounds_toArray, List.set_cons_zero, List.set_cons_succ]
  refine wpAnyG_any (i := 6) (v := ?_) rfl (by kernel_rfl) (by kernel_rfl) (by kernel_rfl) (fun _ _ _ h => h) (by kernel_rfl) (fun _ => hS) (by kernel_rfl) ?_ ?_
  rotate_left
  · intro _; go_simp; try with_reducible rfl
  simp only [Act.put, List.getElem_toArray, List.getElem_cons_succ, List.getElem_cons_zero, List.setIfInBounds_toArray, List.set_cons_zero, List.set_cons_succ]
  refine wpAnyG_any (i := 7) (v := ?_) rfl (by kernel_rfl) (by kernel_rfl) (by kernel_rfl) (fun _ _ _ h => h) (by kernel_rfl) (fun _ => hS) (by kernel_rfl) ?_ ?_
  rotate_left
  · intro _; go_simp; try with_reducible rfl
  simp only [Act.put, List.getElem_toArray, List.getElem_cons_succ, List.getElem_cons_zero, List.setIfInBounds_toArray, List.set_cons_zero, List.set_cons_succ]
  refine wpAnyG_any (i := 8) (v := ?_) rfl (by kernel_rfl) (by kernel_rfl) (by kernel_rfl) (fun _ _ _ h => h) (by kernel_rfl) (fun _ => hS) (by kernel_rfl) ?_ ?_
  rotate_left
  · intro _; go_simp; try with_reducible rfl
  simp only [Act.put, List.getElem_toArray, List.getElem_cons_succ, List.getElem_cons_zero, List.setIfInBounds_toArray, List.set_cons_zero, List.set_cons_succ]
  refine wpAnyG_any (i := 9) (v := ?_) rfl (by kernel_rfl) (by kernel_rfl) (by kernel_rfl) (fun _ _ _ h => h) (by kernel_rfl) (fun _ => hS) (by kernel_rfl) ?_ ?_
  rotate_left
  · intro _; go_simp; try with_reducible rfl
  simp only [Act.put, List.getElem_toArray, List.getElem_cons_succ, List.getElem_cons_zero, List.setIfInBounds_toArray, List.set_cons_zero, List.set_cons_succ]
  refine wpAnyG_read (i := 10) (v := ?_) rfl (by kernel_rfl) (by kernel_rfl) (by kernel_rfl) (fun _ _ _ h => h) (by kernel_rfl) (by kernel_rfl) (by kernel_rfl) hS (by kernel_rfl) ?_ ?_
  rotate_left
  · intro wx hSw; go_split_ands; go_simp; try with_reducible rfl
  simp only [Act.put, List.getElem_toArray, List.getElem_cons_succ, List.getElem_cons_zero, List.setIfInBounds_toArray, List.set_cons_zero, List.set_cons_succ]
  refine wpAnyG_any (i := 11) (v := ?_) rfl (by kernel_rfl) (by kernel_rfl) (by kernel_rfl) (fun _ _ _ h => h) (by kernel_rfl) (fun _ => hS) (by kernel_rfl) ?_ ?_
  rotate_left
  · intro _; go_simp; try with_reducible rfl
  simp only [Act.put, List.getElem_toArray, List.getElem_cons_succ, List.getElem_cons_zero, List.setIfInBounds_toArray, List.set_cons_zero, List.set_cons_succ]
  refine wpAnyG_any (i := 12) (v := .int .i64 (bits .or .i64 (B1 * 256) B2)) rfl (by kernel_rfl) (by kernel_rfl) (by kernel_rfl) (fun _ _ _ h => h) (by kernel_rfl) (fun _ => hS) (by kernel_rfl) ?_ ?_
  · intro _; go_simp
  simp only [Act.put, List.getElem_toArray, List.getElem_cons_succ, List.getElem_cons_zero, List.setIfInBounds_toArray, List.set_cons_zero, List.set_cons_succ]
  refine wpAnyG_one (i := 13) rfl (by kernel_rfl) (by kernel_rfl) (fun K hK => ?_)
  go_simp
  refine hK.out _ _ (fun h => absurd (show true = false from h) (by decide)) ?_
  clear hK K
  try simp only [Act.put, List.getElem_toArray, List.getElem_cons_succ, List.getElem_cons_zero, List.setIfInBounds_toArray, List.set_cons_zero, List.set_cons_succ]
  refine wpAnyG_done (by kernel_rfl) ?_ _
  rw [HMV.out]
  go_upto_region 10 with fail
  refine wp_meetE (fun a V => ∃ (G : Nat) (u : Nat → Value), a = ⟨#[.slice (some ⟨b, off, none⟩) n c, undef, .pointer (some ⟨w.heap.size, 0, none⟩), .int .i64 0, .int .i64 N, .int .i64 Q, .int .i64 M, .pointer (some ⟨G, 0, none⟩), undef, undef, undef, undef, u 12, u 13, u 14, u 15, u 16, u 17, u 18, u 19, u 20, u 21, u 22, u 23, u 24, u 25, u 26, u 27, u 28, u 29, u 30, u 31, u 32, u 33, u 34, u 35, u 36, u 37, u 38, u 39, u 40, u 41, u 42, u 43, u 44, u 45, u 46, u 47, u 48, u 49, u 50, u 51, u 52, u 53, u 54, u 55, u 56, u 57, u 58, u 59, u 60, u 61, u 62, u 63, u 64, u 65, u 66, u 67, u 68, u 69, u 70, u 71, u 72, u 73, u 74, u 75, u 76, u 77, u 78, u 79, u 80, u 81, u 82, u 83, u 84, u 85, u 86, u 87, u 88, u 89, u 90, u 91, u 92, u 93, undef, undef, undef, undef, undef, undef, undef, undef, undef, undef, undef, undef, undef, undef, undef, undef, undef, undef, undef, undef, undef, undef, undef, undef, undef, undef, undef, undef, undef, undef, undef, undef, undef, undef, undef, undef, undef, undef, undef, undef, undef, undef, undef, undef, undef, undef, undef, undef, undef, undef, undef], []⟩ ∧ Below w.heap.size w V ∧ CellsAt V w.heap.size 30 Z ∧ CellsAt V G 30 FC ∧ w.heap.size < G) ?_ ?_
  · clear e0 e1 e2 e4 e7 e8 e9 HMV HCQ1 HCQ HC hS
    refine wp_region_gate (fun w' => w'.cell? ⟨b, off + 2, none⟩ = some (.int .u8 AU)) 21 (by kernel_rfl) ?_
    obtain ⟨E0, hE0⟩ : ∃ q, D0.drew = q := ⟨_, rfl⟩
    have hb0 : Below D0.heap.size D0 E0 := by rw [← hE0]; exact (Below.refl _ _).drew
    rw [hE0]
    have hBE0 := hB0.trans (hb0.mono hB0.size)
    have hGE0 := hG0.far6 hb0
    clear hE0 hb0 hB0 hG0
    have hS := HC2'.out _ hBE0
    refine wpAnyG_any (i := 0) (v := ?_) rfl (by kernel_rfl) (by kernel_rfl) (by kernel_rfl) (fun _ _ _ h => h) (by kernel_rfl) (fun _ => hS) (by kernel_rfl) ?_ ?_
    rotate_left
    · intro _; go_simp; try with_reducible rfl
    simp only [Act.put, List.getElem_toArray, List.getElem_cons_succ, List.getElem_cons_zero, List.setIfInBounds_toArray, List.set_cons_zero, List.set_cons_succ]
    refine wpAnyG_any (i := 1) (v := ?_) rfl (by kernel_rfl) (by kernel_rfl) (by kernel_rfl) (fun _ _ _ h => h) (by kernel_rfl) (fun _ => hS) (by kernel_rfl) ?_ ?_
    rotate_left
    · intro _; go_simp; try with_reducible rfl
    simp only [Act.put, List.getElem_toArray, List.getElem_cons_succ, List.getElem_cons_zero, List.setIfInBounds_toArray, List.set_cons_zero, List.set_cons_succ]
    refine wpAnyG_read (i := 2) (v := ?_) rfl (by kernel_rfl) (by kernel_rfl) (by kernel_rfl) (fun _ _ _ h => h) (by kernel_rfl) (by kernel_rfl) (by kernel_rfl) hS (by kernel_rfl) ?_ ?_
    rotate_left
    · intro wx hSw; go_split_ands; go_simp; try with_reducible rfl
    simp only [Act.put, List.getElem_toArray, List.getElem_cons_succ, List.getElem_cons_zero, List.setIfInBounds_toArray, List.set_cons_zero, List.set_cons_succ]
    refine wpAnyG_any (i := 3) (v := ?_) rfl (by kernel_rfl) (by kernel_rfl) (by kernel_rfl) (fun _ _ _ h => h) (by kernel_rfl) (fun _ => hS) (by kernel_rfl) ?_ ?_
    rotate_left
    · intro _; go_simp; try with_reducible rfl
    simp only [Act.put, List.getElem_toArray, List.getElem_cons_succ, List.getElem_cons_zero, List.setIfInBounds_toArray, List.set_cons_zero, List.set_cons_succ]
    refine wpAnyG_any (i := 4) (v := ?_) rfl (by kernel_rfl) (by kernel_rfl) (by kernel_rfl) (fun _ _ _ h => h) (by kernel_rfl) (fun _ => hS) (by kernel_rfl) ?_ ?_
    rotate_left
    · intro _; go_simp; try with_reducible rfl
    simp only [Act.put, List.getElem_toArray, List.getElem_cons_succ, List.getElem_cons_zero, List.setIfInBounds_toArray, List.set_cons_zero, List.set_cons_succ]
    refine wpAnyG_any (i := 6) (v := ?_) rfl (by kernel_rfl) (by kernel_rfl) (by kernel_rfl) (fun _ _ _ h => h) (by kernel_rfl) (fun _ => hS) (by kernel_rfl) ?_ ?_
    rotate_left
    · intro _; go_simp; try with_reducible rfl
    simp only [Act.put, List.getElem_toArray, List.getElem_cons_succ, List.getElem_cons_zero, List.setIfInBounds_toArray, List.set_cons_zero, List.set_cons_succ]
    refine wpAnyG_any (i := 7) (v := ?_) rfl (by kernel_rfl) (by kernel_rfl) (by kernel_rfl) (fun _ _ _ h => h) (by kernel_rfl) (fun _ => hS) (by kernel_rfl) ?_ ?_
    rotate_left
    · intro _; go_simp; try with_reducible rfl
    simp only [Act.put, List.getElem_toArray, List.getElem_cons_succ, List.getElem_cons_zero, List.setIfInBounds_toArray, List.set_cons_zero, List.set_cons_succ]
    refine wpAnyG_any (i := 9) (v := ?_) rfl (by kernel_rfl) (by kernel_rfl) (by kernel_rfl) (fun _ _ _ h => h) (by kernel_rfl) (fun _ => hS) (by kernel_rfl) ?_ ?_
    rotate_left
    · intro _; go_simp; try with_reducible rfl
    simp only [Act.put, List.getElem_toArray, List.getElem_cons_succ, List.getElem_cons_zero, List.setIfInBounds_toArray, List.set_cons_zero, List.set_cons_succ]
    refine wpAnyG_any (i := 10) (v := ?_) rfl (by kernel_rfl) (by kernel_rfl) (by kernel_rfl) (fun _ _ _ h => h) (by kernel_rfl) (fun _ => hS) (by kernel_rfl) ?_ ?_
    rotate_left
    · intro _; go_simp; try with_reducible rfl
    simp only [Act.put, List.getElem_toArray, List.getElem_cons_succ, List.getElem_cons_zero, List.setIfInBounds_toArray, List.set_cons_zero, List.set_cons_succ]
    refine wpAnyG_any (i := 12) (v := ?_) rfl (by kernel_rfl) (by kernel_rfl) (by kernel_rfl) (fun _ _ _ h => h) (by kernel_rfl) (fun _ => hS) (by kernel_rfl) ?_ ?_
    rotate_left
    · intro _; go_simp; try with_reducible rfl
    simp only [Act.put, List.getElem_toArray, List.getElem_cons_succ, List.getElem_cons_zero, List.setIfInBounds_toArray, List.set_cons_zero, List.set_cons_succ]
    refine wpAnyG_any (i := 13) (v := ?_) rfl (by kernel_rfl) (by kernel_rfl) (by kernel_rfl) (fun _ _ _ h => h) (by kernel_rfl) (fun _ => hS) (by kernel_rfl) ?_ ?_
    rotate_left
    · intro _; go_simp; try with_reducible rfl
    simp only [Act.put, List.getElem_toArray, List.getElem_cons_succ, List.getElem_cons_zero, List.setIfInBounds_toArray, List.set_cons_zero, List.set_cons_succ]
    refine wpAnyG_any (i := 14) (v := ?_) rfl (by kernel_rfl) (by kernel_rfl) (by kernel_rfl) (fun _ _ _ h => h) (by kernel_rfl) (fun _ => hS) (by kernel_rfl) ?_ ?_
    rotate_left
    · intro _; go_simp; try with_reducible rfl
    simp only [Act.put, List.getElem_toArray, List.getElem_cons_succ, List.getElem_cons_zero, List.setIfInBounds_toArray, List.set_cons_zero, List.set_cons_succ]
    refine wpAnyG_any (i := 15) (v := ?_) rfl (by kernel_rfl) (by kernel_rfl) (by kernel_rfl) (fun _ _ _ h => h) (by kernel_rfl) (fun _ => hS) (by kernel_rfl) ?_ ?_
    rotate_left
    · intro _; go_simp; try with_reducible rfl
    simp only [Act.put, List.getElem_toArray, List.getElem_cons_succ, List.getElem_cons_zero, List.setIfInBounds_toArray, List.set_cons_zero, List.set_cons_succ]
    refine wpAnyG_any (i := 16) (v := ?_) rfl (by kernel_rfl) (by kernel_rfl) (by kernel_rfl) (fun _ _ _ h => h) (by kernel_rfl) (fun _ => hS) (by kernel_rfl) ?_ ?_
    rotate_left
    · intro _; go_simp; try with_reducible rfl
    simp only [Act.put, List.getElem_toArray, List.getElem_cons_succ, List.getElem_cons_zero, List.setIfInBounds_toArray, List.set_cons_zero, List.set_cons_succ]
    refine wpAnyG_any (i := 17) (v := ?_) rfl (by kernel_rfl) (by kernel_rfl) (by kernel_rfl) (fun _ _ _ h => h) (by kernel_rfl) (fun _ => hS) (by kernel_rfl) ?_ ?_
    rotate_left
    · intro _; go_simp; try with_reducible rfl
    simp only [Act.put, List.getElem_toArray, List.getElem_cons_succ, List.getElem_cons_zero, List.setIfInBounds_toArray, List.set_cons_zero, List.set_cons_succ]
    refine wpAnyG_two (i := 5) (j := 20) rfl rfl (by kernel_rfl) (by kernel_rfl) (by kernel_rfl) (fun K hK => ?_) (fun K hK => ?_)
    · skip
      refine wp_callE 12 #[.slice y3 4 (c - 3)] (by kernel_rfl) ((hf3 _ hBE0).mono ?_)
      rintro e E1 ⟨rfl, hbE1⟩
      refine ⟨_, rfl, ?_⟩
      have hBE1 := hBE0.trans (hbE1.mono hBE0.size)
      have hGE1 := hGE0.far6 hbE1
      replace hS := HC2'.out _ hBE1
      refine hK.out _ _ (fun _ => hS) ?_
      clear hK K
      try simp only [Act.put, List.getElem_toArray, List.getElem_cons_succ, List.getElem_cons_zero, List.setIfInBounds_toArray, List.set_cons_zero, List.set_cons_succ]
      refine wpAnyG_two (i := 8) (j := 20) rfl rfl (by kernel_rfl) (by kernel_rfl) (by kernel_rfl) (fun K hK => ?_) (fun K hK => ?_)
      · skip
        refine wp_callE 13 #[.slice y7 5 (c - 7)] (by kernel_rfl) ((hd7 _ hBE1).mono ?_)
        rintro e E2 ⟨rfl, hbE2⟩
        refine ⟨_, rfl, ?_⟩
        have hBE2 := hBE1.trans (hbE2.mono hBE1.size)
        have hGE2 := hGE1.far6 hbE2
        replace hS := HC2'.out _ hBE2
        refine hK.out _ _ (fun _ => hS) ?_
        clear hK K
        try simp only [Act.put, List.getElem_toArray, List.getElem_cons_succ, List.getElem_cons_zero, List.setIfInBounds_toArray, List.set_cons_zero, List.set_cons_succ]
        refine wpAnyG_two (i := 11) (j := 20) rfl rfl (by kernel_rfl) (by kernel_rfl) (by kernel_rfl) (fun K hK => ?_) (fun K hK => ?_)
        · skip
          refine wp_callE 14 #[.slice y12 32 (c - 12)] (by kernel_rfl) ((hk12 _ hBE2).mono ?_)
          rintro e E3 ⟨rfl, hbE3⟩
          refine ⟨_, rfl, ?_⟩
          have hBE3 := hBE2.trans (hbE3.mono hBE2.size)
          have hGE3 := hGE2.far6 hbE3
          replace hS := HC2'.out _ hBE3
          refine hK.out _ _ (fun _ => hS) ?_
          clear hK K
          try simp only [Act.put, List.getElem_toArray, List.getElem_cons_succ, List.getElem_cons_zero, List.setIfInBounds_toArray, List.set_cons_zero, List.set_cons_succ]
          refine wpAnyG_two (i := 18) (j := 20) rfl rfl (by kernel_rfl) (by kernel_rfl) (by kernel_rfl) (fun K hK => ?_) (fun K hK => ?_)
          · skip
            refine wp_callE 14 #[.slice yO nO (c - O)] (by kernel_rfl) ((hkO _ hBE3).mono ?_)
            rintro e E4 ⟨rfl, hbE4⟩
            refine ⟨_, rfl, ?_⟩
            have hBE4 := hBE3.trans (hbE4.mono hBE3.size)
            have hGE4 := hGE3.far6 hbE4
            replace hS := HC2'.out _ hBE4
            refine hK.out _ _ (fun _ => hS) ?_
            clear hK K
            try simp only [Act.put, List.getElem_toArray, List.getElem_cons_succ, List.getElem_cons_zero, List.setIfInBounds_toArray, List.set_cons_zero, List.set_cons_succ]
            refine wpAnyG_any (i := 19) (v := .agg FC.toArray) rfl (by kernel_rfl) (by kernel_rfl) (by kernel_rfl) (fun _ _ _ h => h) (by kernel_rfl) (fun _ => hS) (by kernel_rfl) (fun wx => execBuild _ _ rfl #[(0, .int .u8 AU), (1, .int .u32 NU), (2, .agg DT), (3, .agg KP), (6, .agg KM)] (by first | kernel_rfl | rfl) (hbf wx)) ?_
            simp only [Act.put, List.getElem_toArray, List.getElem_cons_succ, List.getElem_cons_zero, List.setIfInBounds_toArray, List.set_cons_zero, List.set_cons_succ]
            refine wpAnyG_one (i := 20) rfl (by kernel_rfl) (by kernel_rfl) (fun K hK => ?_)
            go_simp
            have hBE5 := hBE4.alloc hBE4.size (.cells Z.toArray 30)
            have hGE5 := hGE4.alloc (.cells Z.toArray 30)
            have hKE5 := CellsAt.new E4 30 Z
            have hlg5 := hGE4.lt
            replace hS := HC2'.out _ hBE5
            refine hK.out _ _ (fun _ => hS) ?_
            clear hK K
            try simp only [Act.put, List.getElem_toArray, List.getElem_cons_succ, List.getElem_cons_zero, List.setIfInBounds_toArray, List.set_cons_zero, List.set_cons_succ]
            obtain ⟨E5, hUE5⟩ : ∃ q, E4.alloc (.cells Z.toArray 30) = q := ⟨_, rfl⟩
            obtain ⟨g5, hgE5⟩ : ∃ q, E4.heap.size = q := ⟨_, rfl⟩
            rw [hUE5] at hBE5 hGE5 hKE5
            rw [hgE5] at hKE5 hlg5
            rw [hUE5, hgE5]
            clear hUE5 hgE5
            refine wpAnyG_one (i := 21) rfl (by kernel_rfl) (by kernel_rfl) (fun K hK => ?_)
            refine wp_stvE 30 _ _ rfl _ rfl (cs := FC) rfl hKE5 iFC hlFC hF1 ?_
            refine hK.out _ _ (fun h => absurd (show true = false from h) (by decide)) ?_
            clear hK K
            try simp only [Act.put, List.getElem_toArray, List.getElem_cons_succ, List.getElem_cons_zero, List.setIfInBounds_toArray, List.set_cons_zero, List.set_cons_succ]
            refine wpAnyG_done (by kernel_rfl) ?_ _
            exact ⟨g5, meetU (by kernel_rfl) ⟨below_setRow hBE5 (by omega) _, hGE5.setRowO6 _ (by omega), hKE5.setRow _, hlg5⟩⟩
          · skip
            go_simp
            have hBE6 := hBE3.alloc hBE3.size (.cells Z.toArray 30)
            have hGE6 := hGE3.alloc (.cells Z.toArray 30)
            have hKE6 := CellsAt.new E3 30 Z
            have hlg6 := hGE3.lt
            replace hS := HC2'.out _ hBE6
            refine hK.out _ _ (fun _ => hS) ?_
            clear hK K
            try simp only [Act.put, List.getElem_toArray, List.getElem_cons_succ, List.getElem_cons_zero, List.setIfInBounds_toArray, List.set_cons_zero, List.set_cons_succ]
            obtain ⟨E6, hUE6⟩ : ∃ q, E3.alloc (.cells Z.toArray 30) = q := ⟨_, rfl⟩
            obtain ⟨g6, hgE6⟩ : ∃ q, E3.heap.size = q := ⟨_, rfl⟩
            rw [hUE6] at hBE6 hGE6 hKE6
            rw [hgE6] at hKE6 hlg6
            rw [hUE6, hgE6]
            clear hUE6 hgE6
            refine wpAnyG_one (i := 18) rfl (by kernel_rfl) (by kernel_rfl) (fun K hK => ?_)
            refine wp_callE 14 #[.slice yO nO (c - O)] (by kernel_rfl) ((hkO _ hBE6).mono ?_)
            rintro e E7 ⟨rfl, hbE7⟩
            refine ⟨_, rfl, ?_⟩
            have hBE7 := hBE6.trans (hbE7.mono hBE6.size)
            have hGE7 := hGE6.far6 hbE7
            have hKE7 := hKE6.far6 hbE7
            replace hS := HC2'.out _ hBE7
            refine hK.out _ _ (fun _ => hS) ?_
            clear hK K
            try simp only [Act.put, List.getElem_toArray, List.getElem_cons_succ, List.getElem_cons_zero, List.setIfInBounds_toArray, List.set_cons_zero, List.set_cons_succ]
            refine wpAnyG_any (i := 19) (v := .agg FC.toArray) rfl (by kernel_rfl) (by kernel_rfl) (by kernel_rfl) (fun _ _ _ h => h) (by kernel_rfl) (fun _ => hS) (by kernel_rfl) (fun wx => execBuild _ _ rfl #[(0, .int .u8 AU), (1, .int .u32 NU), (2, .agg DT), (3, .agg KP), (6, .agg KM)] (by first | kernel_rfl | rfl) (hbf wx)) ?_
            simp only [Act.put, List.getElem_toArray, List.getElem_cons_succ, List.getElem_cons_zero, List.setIfInBounds_toArray, List.set_cons_zero, List.set_cons_succ]
            refine wpAnyG_one (i := 21) rfl (by kernel_rfl) (by kernel_rfl) (fun K hK => ?_)
            refine wp_stvE 30 _ _ rfl _ rfl (cs := FC) rfl hKE7 iFC hlFC hF1 ?_
            refine hK.out _ _ (fun h => absurd (show true = false from h) (by decide)) ?_
            clear hK K
            try simp only [Act.put, List.getElem_toArray, List.getElem_cons_succ, List.getElem_cons_zero, List.setIfInBounds_toArray, List.set_cons_zero, List.set_cons_succ]
            refine wpAnyG_done (by kernel_rfl) ?_ _
            exact ⟨g6, meetU (by kernel_rfl) ⟨below_setRow hBE7 (by omega) _, hGE7.setRowO6 _ (by omega), hKE7.setRow _, hlg6⟩⟩
        · skip
          go_simp
          have hBE8 := hBE2.alloc hBE2.size (.cells Z.toArray 30)
          have hGE8 := hGE2.alloc (.cells Z.toArray 30)
          have hKE8 := CellsAt.new E2 30 Z
          have hlg8 := hGE2.lt
          replace hS := HC2'.out _ hBE8
          refine hK.out _ _ (fun _ => hS) ?_
          clear hK K
          try simp only [Act.put, List.getElem_toArray, List.getElem_cons_succ, List.getElem_cons_zero, List.setIfInBounds_toArray, List.set_cons_zero, List.set_cons_succ]
          obtain ⟨E8, hUE8⟩ : ∃ q, E2.alloc (.cells Z.toArray 30) = q := ⟨_, rfl⟩
          obtain ⟨g8, hgE8⟩ : ∃ q, E2.heap.size = q := ⟨_, rfl⟩
          rw [hUE8] at hBE8 hGE8 hKE8
          rw [hgE8] at hKE8 hlg8
          rw [hUE8, hgE8]
          clear hUE8 hgE8
          refine wpAnyG_one (i := 11) rfl (by kernel_rfl) (by kernel_rfl) (fun K hK => ?_)
          refine wp_callE 14 #[.slice y12 32 (c - 12)] (by kernel_rfl) ((hk12 _ hBE8).mono ?_)
          rintro e E9 ⟨rfl, hbE9⟩
          refine ⟨_, rfl, ?_⟩
          have hBE9 := hBE8.trans (hbE9.mono hBE8.size)
          have hGE9 := hGE8.far6 hbE9
          have hKE9 := hKE8.far6 hbE9
          replace hS := HC2'.out _ hBE9
          refine hK.out _ _ (fun _ => hS) ?_
          clear hK K
          try simp only [Act.put, List.getElem_toArray, List.getElem_cons_succ, List.getElem_cons_zero, List.setIfInBounds_toArray, List.set_cons_zero, List.set_cons_succ]
          refine wpAnyG_one (i := 18) rfl (by kernel_rfl) (by kernel_rfl) (fun K hK => ?_)
          refine wp_callE 14 #[.slice yO nO (c - O)] (by kernel_rfl) ((hkO _ hBE9).mono ?_)
          rintro e E10 ⟨rfl, hbE10⟩
          refine ⟨_, rfl, ?_⟩
          have hBE10 := hBE9.trans (hbE10.mono hBE9.size)
          have hGE10 := hGE9.far6 hbE10
          have hKE10 := hKE9.far6 hbE10
          replace hS := HC2'.out _ hBE10
          refine hK.out _ _ (fun _ => hS) ?_
          clear hK K
          try simp only [Act.put, List.getElem_toArray, List.getElem_cons_succ, List.getElem_cons_zero, List.setIfInBounds_toArray, List.set_cons_zero, List.set_cons_succ]
          refine wpAnyG_any (i := 19) (v := .agg FC.toArray) rfl (by kernel_rfl) (by kernel_rfl) (by kernel_rfl) (fun _ _ _ h => h) (by kernel_rfl) (fun _ => hS) (by kernel_rfl) (fun wx => execBuild _ _ rfl #[(0, .int .u8 AU), (1, .int .u32 NU), (2, .agg DT), (3, .agg KP), (6, .agg KM)] (by first | kernel_rfl | rfl) (hbf wx)) ?_
          simp only [Act.put, List.getElem_toArray, List.getElem_cons_succ, List.getElem_cons_zero, List.setIfInBounds_toArray, List.set_cons_zero, List.set_cons_succ]
          refine wpAnyG_one (i := 21) rfl (by kernel_rfl) (by kernel_rfl) (fun K hK => ?_)
          refine wp_stvE 30 _ _ rfl _ rfl (cs := FC) rfl hKE10 iFC hlFC hF1 ?_
          refine hK.out _ _ (fun h => absurd (show true = false from h) (by decide)) ?_
          clear hK K
          try simp only [Act.put, List.getElem_toArray, List.getElem_cons_succ, List.getElem_cons_zero, List.setIfInBounds_toArray, List.set_cons_zero, List.set_cons_succ]
          refine wpAnyG_done (by kernel_rfl) ?_ _
          exact ⟨g8, meetU (by kernel_rfl) ⟨below_setRow hBE10 (by omega) _, hGE10.setRowO6 _ (by omega), hKE10.setRow _, hlg8⟩⟩
      · skip
        go_simp
        have hBE11 := hBE1.alloc hBE1.size (.cells Z.toArray 30)
        have hGE11 := hGE1.alloc (.cells Z.toArray 30)
        have hKE11 := CellsAt.new E1 30 Z
        have hlg11 := hGE1.lt
        replace hS := HC2'.out _ hBE11
        refine hK.out _ _ (fun _ => hS) ?_
        clear hK K
        try simp only [Act.put, List.getElem_toArray, List.getElem_cons_succ, List.getElem_cons_zero, List.setIfInBounds_toArray, List.set_cons_zero, List.set_cons_succ]
        obtain ⟨E11, hUE11⟩ : ∃ q, E1.alloc (.cells Z.toArray 30) = q := ⟨_, rfl⟩
        obtain ⟨g11, hgE11⟩ : ∃ q, E1.heap.size = q := ⟨_, rfl⟩
        rw [hUE11] at hBE11 hGE11 hKE11
        rw [hgE11] at hKE11 hlg11
        rw [hUE11, hgE11]
        clear hUE11 hgE11
        refine wpAnyG_one (i := 8) rfl (by kernel_rfl) (by kernel_rfl) (fun K hK => ?_)
        refine wp_callE 13 #[.slice y7 5 (c - 7)] (by kernel_rfl) ((hd7 _ hBE11).mono ?_)
        rintro e E12 ⟨rfl, hbE12⟩
        refine ⟨_, rfl, ?_⟩
        have hBE12 := hBE11.trans (hbE12.mono hBE11.size)
        have hGE12 := hGE11.far6 hbE12
        have hKE12 := hKE11.far6 hbE12
        replace hS := HC2'.out _ hBE12
        refine hK.out _ _ (fun _ => hS) ?_
        clear hK K
        try simp only [Act.put, List.getElem_toArray, List.getElem_cons_succ, List.getElem_cons_zero, List.setIfInBounds_toArray, List.set_cons_zero, List.set_cons_succ]
        refine wpAnyG_one (i := 11) rfl (by kernel_rfl) (by kernel_rfl) (fun K hK => ?_)
        refine wp_callE 14 #[.slice y12 32 (c - 12)] (by kernel_rfl) ((hk12 _ hBE12).mono ?_)
        rintro e E13 ⟨rfl, hbE13⟩
        refine ⟨_, rfl, ?_⟩
        have hBE13 := hBE12.trans (hbE13.mono hBE12.size)
        have hGE13 := hGE12.far6 hbE13
        have hKE13 := hKE12.far6 hbE13
        replace hS := HC2'.out _ hBE13
        refine hK.out _ _ (fun _ => hS) ?_
        clear hK K
        try simp only [Act.put, List.getElem_toArray, List.getElem_cons_succ, List.getElem_cons_zero, List.setIfInBounds_toArray, List.set_cons_zero, List.set_cons_succ]
        refine wpAnyG_one (i := 18) rfl (by kernel_rfl) (by kernel_rfl) (fun K hK => ?_)
        refine wp_callE 14 #[.slice yO nO (c - O)] (by kernel_rfl) ((hkO _ hBE13).mono ?_)
        rintro e E14 ⟨rfl, hbE14⟩
        refine ⟨_, rfl, ?_⟩
        have hBE14 := hBE13.trans (hbE14.mono hBE13.size)
        have hGE14 := hGE13.far6 hbE14
        have hKE14 := hKE13.far6 hbE14
        replace hS := HC2'.out _ hBE14
        refine hK.out _ _ (fun _ => hS) ?_
        clear hK K
        try simp only [Act.put, List.getElem_toArray, List.getElem_cons_succ, List.getElem_cons_zero, List.setIfInBounds_toArray, List.set_cons_zero, List.set_cons_succ]
        refine wpAnyG_any (i := 19) (v := .agg FC.toArray) rfl (by kernel_rfl) (by kernel_rfl) (by kernel_rfl) (fun _ _ _ h => h) (by kernel_rfl) (fun _ => hS) (by kernel_rfl) (fun wx => execBuild _ _ rfl #[(0, .int .u8 AU), (1, .int .u32 NU), (2, .agg DT), (3, .agg KP), (6, .agg KM)] (by first | kernel_rfl | rfl) (hbf wx)) ?_
        simp only [Act.put, List.getElem_toArray, List.getElem_cons_succ, List.getElem_cons_zero, List.setIfInBounds_toArray, List.set_cons_zero, List.set_cons_succ]
        refine wpAnyG_one (i := 21) rfl (by kernel_rfl) (by kernel_rfl) (fun K hK => ?_)
        refine wp_stvE 30 _ _ rfl _ rfl (cs := FC) rfl hKE14 iFC hlFC hF1 ?_
        refine hK.out _ _ (fun h => absurd (show true = false from h) (by decide)) ?_
        clear hK K
        try simp only [Act.put, List.getElem_toArray, List.getElem_cons_succ, List.getElem_cons_zero, List.setIfInBounds_toArray, List.set_cons_zero, List.set_cons_succ]
        refine wpAnyG_done (by kernel_rfl) ?_ _
        exact ⟨g11, meetU (by kernel_rfl) ⟨below_setRow hBE14 (by omega) _, hGE14.setRowO6 _ (by omega), hKE14.setRow _, hlg11⟩⟩
    · skip
      go_simp
      have hBE15 := hBE0.alloc hBE0.size (.cells Z.toArray 30)
      have hGE15 := hGE0.alloc (.cells Z.toArray 30)
      have hKE15 := CellsAt.new E0 30 Z
      have hlg15 := hGE0.lt
      replace hS := HC2'.out _ hBE15
      refine hK.out _ _ (fun _ => hS) ?_
      clear hK K
      try simp only [Act.put, List.getElem_toArray, List.getElem_cons_succ, List.getElem_cons_zero, List.setIfInBounds_toArray, List.set_cons_zero, List.set_cons_succ]
      obtain ⟨E15, hUE15⟩ : ∃ q, E0.alloc (.cells Z.toArray 30) = q := ⟨_, rfl⟩
      obtain ⟨g15, hgE15⟩ : ∃ q, E0.heap.size = q := ⟨_, rfl⟩
      rw [hUE15] at hBE15 hGE15 hKE15
      rw [hgE15] at hKE15 hlg15
      rw [hUE15, hgE15]
      clear hUE15 hgE15
      refine wpAnyG_one (i := 5) rfl (by kernel_rfl) (by kernel_rfl) (fun K hK => ?_)
      refine wp_callE 12 #[.slice y3 4 (c - 3)] (by kernel_rfl) ((hf3 _ hBE15).mono ?_)
      rintro e E16 ⟨rfl, hbE16⟩
      refine ⟨_, rfl, ?_⟩
      have hBE16 := hBE15.trans (hbE16.mono hBE15.size)
      have hGE16 := hGE15.far6 hbE16
      have hKE16 := hKE15.far6 hbE16
      replace hS := HC2'.out _ hBE16
      refine hK.out _ _ (fun _ => hS) ?_
      clear hK K
      try simp only [Act.put, List.getElem_toArray, List.getElem_cons_succ, List.getElem_cons_zero, List.setIfInBounds_toArray, List.set_cons_zero, List.set_cons_succ]
      refine wpAnyG_one (i := 8) rfl (by kernel_rfl) (by kernel_rfl) (fun K hK => ?_)
      refine wp_callE 13 #[.slice y7 5 (c - 7)] (by kernel_rfl) ((hd7 _ hBE16).mono ?_)
      rintro e E17 ⟨rfl, hbE17⟩
      refine ⟨_, rfl, ?_⟩
      have hBE17 := hBE16.trans (hbE17.mono hBE16.size)
      have hGE17 := hGE16.far6 hbE17
      have hKE17 := hKE16.far6 hbE17
      replace hS := HC2'.out _ hBE17
      refine hK.out _ _ (fun _ => hS) ?_
      clear hK K
      try simp only [Act.put, List.getElem_toArray, List.getElem_cons_succ, List.getElem_cons_zero, List.setIfInBounds_toArray, List.set_cons_zero, List.set_cons_succ]
      refine wpAnyG_one (i := 11) rfl (by kernel_rfl) (by kernel_rfl) (fun K hK => ?_)
      refine wp_callE 14 #[.slice y12 32 (c - 12)] (by kernel_rfl) ((hk12 _ hBE17).mono ?_)
      rintro e E18 ⟨rfl, hbE18⟩
      refine ⟨_, rfl, ?_⟩
      have hBE18 := hBE17.trans (hbE18.mono hBE17.size)
      have hGE18 := hGE17.far6 hbE18
      have hKE18 := hKE17.far6 hbE18
      replace hS := HC2'.out _ hBE18
      refine hK.out _ _ (fun _ => hS) ?_
      clear hK K
      try simp only [Act.put, List.getElem_toArray, List.getElem_cons_succ, List.getElem_cons_zero, List.setIfInBounds_toArray, List.set_cons_zero, List.set_cons_succ]
      refine wpAnyG_one (i := 18) rfl (by kernel_rfl) (by kernel_rfl) (fun K hK => ?_)
      refine wp_callE 14 #[.slice yO nO (c - O)] (by kernel_rfl) ((hkO _ hBE18).mono ?_)
      rintro e E19 ⟨rfl, hbE19⟩
      refine ⟨_, rfl, ?_⟩
      have hBE19 := hBE18.trans (hbE19.mono hBE18.size)
      have hGE19 := hGE18.far6 hbE19
      have hKE19 := hKE18.far6 hbE19
      replace hS := HC2'.out _ hBE19
      refine hK.out _ _ (fun _ => hS) ?_
      clear hK K
      try simp only [Act.put, List.getElem_toArray, List.getElem_cons_succ, List.getElem_cons_zero, List.setIfInBounds_toArray, List.set_cons_zero, List.set_cons_succ]
      refine wpAnyG_any (i := 19) (v := .agg FC.toArray) rfl (by kernel_rfl) (by kernel_rfl) (by kernel_rfl) (fun _ _ _ h => h) (by kernel_rfl) (fun _ => hS) (by kernel_rfl) (fun wx => execBuild _ _ rfl #[(0, .int .u8 AU), (1, .int .u32 NU), (2, .agg DT), (3, .agg KP), (6, .agg KM)] (by first | kernel_rfl | rfl) (hbf wx)) ?_
      simp only [Act.put, List.getElem_toArray, List.getElem_cons_succ, List.getElem_cons_zero, List.setIfInBounds_toArray, List.set_cons_zero, List.set_cons_succ]
      refine wpAnyG_one (i := 21) rfl (by kernel_rfl) (by kernel_rfl) (fun K hK => ?_)
      refine wp_stvE 30 _ _ rfl _ rfl (cs := FC) rfl hKE19 iFC hlFC hF1 ?_
      refine hK.out _ _ (fun h => absurd (show true = false from h) (by decide)) ?_
      clear hK K
      try simp only [Act.put, List.getElem_toArray, List.getElem_cons_succ, List.getElem_cons_zero, List.setIfInBounds_toArray, List.set_cons_zero, List.set_cons_succ]
      refine wpAnyG_done (by kernel_rfl) ?_ _
      exact ⟨g15, meetU (by kernel_rfl) ⟨below_setRow hBE19 (by omega) _, hGE19.setRowO6 _ (by omega), hKE19.setRow _, hlg15⟩⟩
  rintro a V ⟨G, u, rfl, hB1, hG1, hK1, hltG⟩
  have HFS : Veil (∀ v u, (FC.set 36 v).set 37 u = (frOf z v u).cells) := ⟨fun v u => by rw [HFO.out, ← HFC.out, fr_set _ HPL.out]⟩
  have HF37 : Veil (FC[37]? = some (.slice none 0 0)) := ⟨by rw [← HFC.out, fr_at37 _ HPL.out]⟩
  have HF36 : FC.set 36 (.slice none 0 0) = FC := by rw [← HFC.out]; exact fr_set36 _ HPL.out
  have hWN : Veil (∀ k, 45 + 54 * k ≤ z.length → ∀ e ∈ wpsN z 45 k, e.data.length = 48) := ⟨fun k hk => wpsN_ok z 45 k hk⟩
  rw [← HF36] at hK1
  have hO1 : OwnW V w.heap.size (.slice none 0 0) (wpsN z 45 0) := OwnW.nil V _
  have hi36 : ∀ v, (Tryd.prog.info? 30).map (·.size) = some (FC.set 36 v).length := fun v => by rw [List.length_set]; exact iFC
  clear HF36 hbf hf3 hd7 hk12 hkO hs3 hs7 hs12 hsO hF1 iFC hlFC HC2' HCQ HC HMV HCQ1 e0 e1 e2 e4 e7 e8 e9
  go_wp2_with fail
  go_loopw [8] (fun p wr => ∃ k : Nat, k ≤ N ∧ p = .int .i64 (k : Nat) ∧ Below w.heap.size w wr ∧ CellsAt wr w.heap.size 30 Z ∧ ∃ v, CellsAt wr G 30 (FC.set 36 v) ∧ OwnW wr w.heap.size v (wpsN z 45 k)) (fun p _ => N - (intOf p).toNat)
  case atStart => exact ⟨0, Nat.zero_le _, rfl, hB1, hG1, _, hK1, hO1⟩
  case round =>
    obtain ⟨k, hk, rfl, hB, hR, v, hK, hO⟩ := hrel
    clear hB1 hG1 hK1 hO1
    obtain ⟨W1, hW1e⟩ : ∃ q, q = wr := ⟨_, rfl⟩
    subst hW1e
    by_cases hlt : k < N
    · have hlti : (k : Int) < (N : Int) := by omega
      have hLn : 45 + 54 * k + 54 ≤ n := by have := HN5.out; omega
      obtain ⟨P1, hP1⟩ : ∃ q, 54 * k = q := ⟨_, rfl⟩
      obtain ⟨L, hL⟩ : ∃ q, 45 + 54 * k = q := ⟨_, rfl⟩
      obtain ⟨L54, hL54⟩ : ∃ q, 99 + 54 * k = q := ⟨_, rfl⟩
      obtain ⟨cL, hcL⟩ : ∃ q, c - L = q := ⟨_, rfl⟩
      have m1 : IntKind.i64.wrap (54 * (k : Int)) = (P1 : Int) := by rw [IntKind.wrap_i64]; omega
      have m2 : IntKind.i64.wrap (45 + (P1 : Int)) = (L : Int) := by rw [IntKind.wrap_i64]; omega
      have m3 : IntKind.i64.wrap (99 + (P1 : Int)) = (L54 : Int) := by rw [IntKind.wrap_i64]; omega
      have hcut : ∀ wx : World, (Instr.slice 22 (.slice (some ⟨b, off, none⟩) n c) (some (.int .i64 (L : Int))) (some (.int .i64 (L54 : Int))) none).run Tryd.prog wx = .ok (.slice (some ⟨b, off + L, none⟩) 54 cL) wx := fun wx => by
        have := run_cutLH2 wx (some ⟨b, off, none⟩) n c L L54 (by omega) (by omega)
        rw [show L54 - L = 54 by omega, hcL, show subA (some ⟨b, off, none⟩) c L = some ⟨b, off + L, none⟩ by unfold subA; rw [if_neg (by omega)]; simp [Addr.add] <;> omega] at this
        exact this
      obtain ⟨y1, hy1⟩ : ∃ q, (some ⟨b, off + (L + 1), none⟩ : Option Addr) = q := ⟨_, rfl⟩
      obtain ⟨c1, hc1⟩ : ∃ q, cL - 1 = q := ⟨_, rfl⟩
      have hs1 : ∀ wx : World, (Instr.slice 22 (.slice (some ⟨b, off + L, none⟩) 54 cL) (some (.int .i64 1)) (some (.int .i64 6)) none).run Tryd.prog wx = .ok (.slice y1 5 c1) wx := fun wx => by
        have := run_cutLH2 wx (some ⟨b, off + L, none⟩) 54 cL 1 6 (by omega) (by omega)
        rw [hc1, show subA (some ⟨b, off + L, none⟩) cL 1 = y1 by rw [← hy1]; unfold subA; rw [if_neg (by omega)]; simp [Addr.add, Nat.add_assoc]] at this
        exact this
      have hd1 : ∀ wx, Below w.heap.size w wx → Calls Tryd.prog 13 #[.slice y1 5 c1] wx fun e w' => e = .returned (.agg (dotC (at1 z (L + 1)) (at4 z (L + 2))).toArray) ∧ Below wx.heap.size wx w' := fun wx h => by
        have hc := (HBY.out wx h).cut (L + 1) (L + 6) (by omega) (by omega)
        rw [show L + 6 - (L + 1) = 5 by omega, show c - (L + 1) = c1 by omega, show subA (some ⟨b, off, none⟩) c (L + 1) = y1 by rw [← hy1]; unfold subA; rw [if_neg (by omega)]; simp [Addr.add]] at hc
        have := refDotR_any y1 c1 ((z.drop (L + 1)).take 5) wx hc (HSEG.out (L + 1) 5)
        rw [(dot_seg z (L + 1)).1, (dot_seg z (L + 1)).2] at this; exact this
      have HCL : Veil (∀ w', Below w.heap.size w w' → w'.cell? ⟨b, off + L, none⟩ = some (.int .u8 (at1 z L))) := ⟨fun w' h => by
        obtain ⟨b', off', hx', hc⟩ := bytes_cells (HBY.out w' h) (by omega)
        cases hx'
        exact hc L (by omega)⟩
      have HCD : Veil (∀ w', Below w.heap.size w w' → ∀ j, j < 48 → w'.cell? ⟨b, off + L + (6 + j), none⟩ = some (.int .u8 (((z.drop (L + 6)).take 48)[j]?.getD 0))) := ⟨fun w' h j hj => by
        obtain ⟨b', off', hx', hc⟩ := bytes_cells (HBY.out w' h) (by omega)
        cases hx'
        have := hc (L + (6 + j)) (by omega)
        rw [List.getElem?_take_of_lt hj, List.getElem?_drop, show off + L + (6 + j) = off + (L + (6 + j)) by omega, show L + 6 + j = L + (6 + j) by omega]
        exact this⟩
      have HWS : Veil (wpsN z 45 (k + 1) = wpsN z 45 k ++ [⟨at1 z L, at1 z (L + 1), at4 z (L + 2), (z.drop (L + 6)).take 48⟩]) := ⟨by rw [wpsN_succ, hL]; rfl⟩
      have HDL : Veil (((z.drop (L + 6)).take 48).length = 48) := ⟨by rw [List.length_take, List.length_drop]; have := HZLEN.out; omega⟩
      have hbw := fun wx => wrap_built (at1 z L) (at1 z (L + 1)) (at4 z (L + 2)) wx
      have HWL : Veil ((wpsN z 45 k).length = k) := ⟨wpsN_len z 45 k⟩
      obtain ⟨ws, hws⟩ : ∃ q, wpsN z 45 k = q := ⟨_, rfl⟩
      obtain ⟨TO, hTO⟩ : ∃ q, at1 z L = q := ⟨_, rfl⟩
      obtain ⟨WA, hWA⟩ : ∃ q, at1 z (L + 1) = q := ⟨_, rfl⟩
      obtain ⟨WE, hWE⟩ : ∃ q, at4 z (L + 2) = q := ⟨_, rfl⟩
      obtain ⟨DD, hDD⟩ : ∃ q, (z.drop (L + 6)).take 48 = q := ⟨_, rfl⟩
      rw [hws] at hO HWS HWL
      rw [hTO, hWA, hWE, hDD] at HWS
      rw [hTO] at HCL
      rw [hWA, hWE] at hd1
      rw [hDD] at HCD HDL
      simp only [hTO, hWA, hWE] at hbw
      obtain ⟨DW, hDW⟩ : ∃ q, (dotC WA WE).toArray = q := ⟨_, rfl⟩
      obtain ⟨WC, hWC⟩ : ∃ q, (⟨TO, WA, WE, dataZ⟩ : Wp).cells = q := ⟨_, rfl⟩
      rw [hDW] at hd1
      simp only [hDW, hWC] at hbw
      have HWC := Veil.mk hWC
      have hWl : WC.length = 51 := by rw [← hWC]; rfl
      have hW1 : ∀ u ∈ WC, u.oneCell' = true := by rw [← hWC]; exact (wp_parts _ rfl).2.2.2.2
      have iWC : (Tryd.prog.info? 52).map (·.size) = some WC.length := by rw [hWl]; kernel_rfl
      obtain ⟨ZW, hzvW, hz1W, hZW⟩ := zeroWpL
      have hlWC : ZW.length = WC.length := by rw [hZW, hWl]; rfl
      have HKL : Veil (45 + 54 * k = L ∧ L + 54 ≤ n) := ⟨hL, by omega⟩
      clear hws hTO hWA hWE hDD hDW hWC hP1 hL hL54 hcL hy1 hc1 hLn hWl hZW
      go_upto_region 15 with fail
      refine wp_meetE (fun a V => ∃ (H : Nat) (u' : Nat → Value), a = ⟨#[.slice (some ⟨b, off, none⟩) n c, undef, .pointer (some ⟨w.heap.size, 0, none⟩), .int .i64 0, .int .i64 N, .int .i64 Q, .int .i64 M, .pointer (some ⟨G, 0, none⟩), .int .i64 k, .slice (some ⟨b, off + L, none⟩) 54 cL, .pointer (some ⟨H, 0, none⟩), u' 11, u 12, u 13, u 14, u 15, u 16, u 17, u 18, u 19, u 20, u 21, u 22, u 23, u 24, u 25, u 26, u 27, u 28, u 29, u 30, u 31, u 32, u 33, u 34, u 35, u 36, u 37, u 38, u 39, u 40, u 41, u 42, u 43, u 44, u 45, u 46, u 47, u 48, u 49, u 50, u 51, u 52, u 53, u 54, u 55, u 56, u 57, u 58, u 59, u 60, u 61, u 62, u 63, u 64, u 65, u 66, u 67, u 68, u 69, u 70, u 71, u 72, u 73, u 74, u 75, u 76, u 77, u 78, u 79, u 80, u 81, u 82, u 83, u 84, u 85, u 86, u 87, u 88, u 89, u 90, u 91, u 92, u 93, u' 94, u' 95, u' 96, u' 97, u' 98, u' 99, u' 100, u' 101, u' 102, u' 103, u' 104, u' 105, u' 106, u' 107, u' 108, u' 109, u' 110, u' 111, u' 112, u' 113, u' 114, u' 115, u' 116, u' 117, u' 118, u' 119, u' 120, u' 121, u' 122, u' 123, u' 124, u' 125, u' 126, u' 127, u' 128, u' 129, u' 130, u' 131, undef, undef, undef, undef, undef, undef, undef, undef, undef, undef, undef, undef, undef], []⟩ ∧ Below w.heap.size w V ∧ CellsAt V w.heap.size 30 Z ∧ CellsAt V G 30 (FC.set 36 v) ∧ OwnW V w.heap.size v ws ∧ CellsAt V H 52 WC ∧ W1.heap.size ≤ H) ?_ ?_
      · refine wp_region_gate (fun w' => w'.cell? ⟨b, off + L, none⟩ = some (.int .u8 TO)) 8 (by kernel_rfl) ?_
        obtain ⟨E0, hE0⟩ : ∃ q, W1.drew = q := ⟨_, rfl⟩
        have hb0 : Below W1.heap.size W1 E0 := by rw [← hE0]; exact (Below.refl _ _).drew
        rw [hE0]
        have hBw := hB
        have hBE0 := hB.trans (hb0.mono hB.size)
        have hRE0 := hR.far6 hb0
        have hKE0 := hK.far6 hb0
        have hOE0 := hO.afar hb0
        have hsE0 : W1.heap.size ≤ E0.heap.size := hb0.size
        clear hE0 hb0 hB
        have hS := HCL.out _ hBE0
        refine wpAnyG_any (i := 0) (v := ?_) rfl (by kernel_rfl) (by kernel_rfl) (by kernel_rfl) (fun _ _ _ h => h) (by kernel_rfl) (fun _ => hS) (by kernel_rfl) ?_ ?_
        rotate_left
        · intro _; go_simp; try with_reducible rfl
        simp only [Act.put, List.getElem_toArray, List.getElem_cons_succ, List.getElem_cons_zero, List.setIfInBounds_toArray, List.set_cons_zero, List.set_cons_succ]
        refine wpAnyG_any (i := 1) (v := ?_) rfl (by kernel_rfl) (by kernel_rfl) (by kernel_rfl) (fun _ _ _ h => h) (by kernel_rfl) (fun _ => hS) (by kernel_rfl) ?_ ?_
        rotate_left
        · intro _; go_simp; try with_reducible rfl
        simp only [Act.put, List.getElem_toArray, List.getElem_cons_succ, List.getElem_cons_zero, List.setIfInBounds_toArray, List.set_cons_zero, List.set_cons_succ]
        refine wpAnyG_read (i := 2) (v := ?_) rfl (by kernel_rfl) (by kernel_rfl) (by kernel_rfl) (fun _ _ _ h => h) (by kernel_rfl) (by kernel_rfl) (by kernel_rfl) hS (by kernel_rfl) ?_ ?_
        rotate_left
        · intro wx hSw; go_split_ands; go_simp; try with_reducible rfl
        simp only [Act.put, List.getElem_toArray, List.getElem_cons_succ, List.getElem_cons_zero, List.setIfInBounds_toArray, List.set_cons_zero, List.set_cons_succ]
        refine wpAnyG_any (i := 3) (v := ?_) rfl (by kernel_rfl) (by kernel_rfl) (by kernel_rfl) (fun _ _ _ h => h) (by kernel_rfl) (fun _ => hS) (by kernel_rfl) ?_ ?_
        rotate_left
        · intro _; go_simp; try with_reducible rfl
        simp only [Act.put, List.getElem_toArray, List.getElem_cons_succ, List.getElem_cons_zero, List.setIfInBounds_toArray, List.set_cons_zero, List.set_cons_succ]
        refine wpAnyG_any (i := 4) (v := ?_) rfl (by kernel_rfl) (by kernel_rfl) (by kernel_rfl) (fun _ _ _ h => h) (by kernel_rfl) (fun _ => hS) (by kernel_rfl) ?_ ?_
        rotate_left
        · intro _; go_simp; try with_reducible rfl
        simp only [Act.put, List.getElem_toArray, List.getElem_cons_succ, List.getElem_cons_zero, List.setIfInBounds_toArray, List.set_cons_zero, List.set_cons_succ]
        refine wpAnyG_two (i := 5) (j := 7) rfl rfl (by kernel_rfl) (by kernel_rfl) (by kernel_rfl) (fun K hK => ?_) (fun K hK => ?_)
        · skip
          refine wp_callE 13 #[.slice y1 5 c1] (by kernel_rfl) ((hd1 _ hBE0).mono ?_)
          rintro e E1 ⟨rfl, hbE1⟩
          refine ⟨_, rfl, ?_⟩
          have hBE1 := hBE0.trans (hbE1.mono hBE0.size)
          have hRE1 := hRE0.far6 hbE1
          have hKE1 := hKE0.far6 hbE1
          have hOE1 := hOE0.afar hbE1
          have hsE1 := Nat.le_trans hsE0 hbE1.size
          replace hS := HCL.out _ hBE1
          refine hK.out _ _ (fun _ => hS) ?_
          clear hK K
          try simp only [Act.put, List.getElem_toArray, List.getElem_cons_succ, List.getElem_cons_zero, List.setIfInBounds_toArray, List.set_cons_zero, List.set_cons_succ]
          refine wpAnyG_any (i := 6) (v := .agg WC.toArray) rfl (by kernel_rfl) (by kernel_rfl) (by kernel_rfl) (fun _ _ _ h => h) (by kernel_rfl) (fun _ => hS) (by kernel_rfl) (fun wx => execBuild _ _ rfl #[(0, .int .u8 TO), (1, .agg DW)] (by first | kernel_rfl | rfl) (hbw wx)) ?_
          simp only [Act.put, List.getElem_toArray, List.getElem_cons_succ, List.getElem_cons_zero, List.setIfInBounds_toArray, List.set_cons_zero, List.set_cons_succ]
          refine wpAnyG_one (i := 7) rfl (by kernel_rfl) (by kernel_rfl) (fun K hK => ?_)
          go_simp
          have hBE2 := hBE1.alloc hBE1.size (.cells ZW.toArray 52)
          have hRE2 := hRE1.alloc (.cells ZW.toArray 52)
          have hKE2 := hKE1.alloc (.cells ZW.toArray 52)
          have hOE2 := hOE1.alloc (.cells ZW.toArray 52)
          have hHE2 := CellsAt.new E1 52 ZW
          have hgg2 := hsE1
          replace hS := HCL.out _ hBE2
          refine hK.out _ _ (fun _ => hS) ?_
          clear hK K
          try simp only [Act.put, List.getElem_toArray, List.getElem_cons_succ, List.getElem_cons_zero, List.setIfInBounds_toArray, List.set_cons_zero, List.set_cons_succ]
          obtain ⟨E2, hUE2⟩ : ∃ q, E1.alloc (.cells ZW.toArray 52) = q := ⟨_, rfl⟩
          obtain ⟨g2, hEg2⟩ : ∃ q, E1.heap.size = q := ⟨_, rfl⟩
          have hsE2 : W1.heap.size ≤ E2.heap.size := by rw [← hUE2, World.size_alloc]; omega
          rw [hUE2] at hBE2 hRE2 hKE2 hOE2 hHE2
          rw [hEg2] at hHE2 hgg2
          rw [hUE2, hEg2]
          clear hUE2 hEg2
          refine wpAnyG_one (i := 8) rfl (by kernel_rfl) (by kernel_rfl) (fun K hK => ?_)
          refine wp_stvE 52 _ _ rfl _ rfl (cs := WC) rfl hHE2 iWC hlWC hW1 ?_
          refine hK.out _ _ (fun h => absurd (show true = false from h) (by decide)) ?_
          clear hK K
          try simp only [Act.put, List.getElem_toArray, List.getElem_cons_succ, List.getElem_cons_zero, List.setIfInBounds_toArray, List.set_cons_zero, List.set_cons_succ]
          refine wpAnyG_done (by kernel_rfl) ?_ _
          exact ⟨g2, meetU (by kernel_rfl) ⟨below_setRow hBE2 (Nat.le_trans hBw.size hgg2) _, hRE2.setRowO6 _ (fun e => absurd (hRE2.typ hHE2 e.symm) (by decide)), hKE2.setRowO6 _ (fun e => absurd (hKE2.typ hHE2 e.symm) (by decide)), hOE2.setRowW hHE2 (fun g' hg' e => by have := (hO.ownLt g' hg').1; omega) _, hHE2.setRow _, hgg2⟩⟩
        · skip
          go_simp
          have hBE3 := hBE0.alloc hBE0.size (.cells ZW.toArray 52)
          have hRE3 := hRE0.alloc (.cells ZW.toArray 52)
          have hKE3 := hKE0.alloc (.cells ZW.toArray 52)
          have hOE3 := hOE0.alloc (.cells ZW.toArray 52)
          have hHE3 := CellsAt.new E0 52 ZW
          have hgg3 := hsE0
          replace hS := HCL.out _ hBE3
          refine hK.out _ _ (fun _ => hS) ?_
          clear hK K
          try simp only [Act.put, List.getElem_toArray, List.getElem_cons_succ, List.getElem_cons_zero, List.setIfInBounds_toArray, List.set_cons_zero, List.set_cons_succ]
          obtain ⟨E3, hUE3⟩ : ∃ q, E0.alloc (.cells ZW.toArray 52) = q := ⟨_, rfl⟩
          obtain ⟨g3, hEg3⟩ : ∃ q, E0.heap.size = q := ⟨_, rfl⟩
          have hsE3 : W1.heap.size ≤ E3.heap.size := by rw [← hUE3, World.size_alloc]; omega
          rw [hUE3] at hBE3 hRE3 hKE3 hOE3 hHE3
          rw [hEg3] at hHE3 hgg3
          rw [hUE3, hEg3]
          clear hUE3 hEg3
          refine wpAnyG_one (i := 5) rfl (by kernel_rfl) (by kernel_rfl) (fun K hK => ?_)
          refine wp_callE 13 #[.slice y1 5 c1] (by kernel_rfl) ((hd1 _ hBE3).mono ?_)
          rintro e E4 ⟨rfl, hbE4⟩
          refine ⟨_, rfl, ?_⟩
          have hBE4 := hBE3.trans (hbE4.mono hBE3.size)
          have hRE4 := hRE3.far6 hbE4
          have hKE4 := hKE3.far6 hbE4
          have hOE4 := hOE3.afar hbE4
          have hsE4 := Nat.le_trans hsE3 hbE4.size
          have hHE4 := hHE3.far6 hbE4
          replace hS := HCL.out _ hBE4
          refine hK.out _ _ (fun _ => hS) ?_
          clear hK K
          try simp only [Act.put, List.getElem_toArray, List.getElem_cons_succ, List.getElem_cons_zero, List.setIfInBounds_toArray, List.set_cons_zero, List.set_cons_succ]
          refine wpAnyG_any (i := 6) (v := .agg WC.toArray) rfl (by kernel_rfl) (by kernel_rfl) (by kernel_rfl) (fun _ _ _ h => h) (by kernel_rfl) (fun _ => hS) (by kernel_rfl) (fun wx => execBuild _ _ rfl #[(0, .int .u8 TO), (1, .agg DW)] (by first | kernel_rfl | rfl) (hbw wx)) ?_
          simp only [Act.put, List.getElem_toArray, List.getElem_cons_succ, List.getElem_cons_zero, List.setIfInBounds_toArray, List.set_cons_zero, List.set_cons_succ]
          refine wpAnyG_one (i := 8) rfl (by kernel_rfl) (by kernel_rfl) (fun K hK => ?_)
          refine wp_stvE 52 _ _ rfl _ rfl (cs := WC) rfl hHE4 iWC hlWC hW1 ?_
          refine hK.out _ _ (fun h => absurd (show true = false from h) (by decide)) ?_
          clear hK K
          try simp only [Act.put, List.getElem_toArray, List.getElem_cons_succ, List.getElem_cons_zero, List.setIfInBounds_toArray, List.set_cons_zero, List.set_cons_succ]
          refine wpAnyG_done (by kernel_rfl) ?_ _
          exact ⟨g3, meetU (by kernel_rfl) ⟨below_setRow hBE4 (Nat.le_trans hBw.size hgg3) _, hRE4.setRowO6 _ (fun e => absurd (hRE4.typ hHE4 e.symm) (by decide)), hKE4.setRowO6 _ (fun e => absurd (hKE4.typ hHE4 e.symm) (by decide)), hOE4.setRowW hHE4 (fun g' hg' e => by have := (hO.ownLt g' hg').1; omega) _, hHE4.setRow _, hgg3⟩⟩
      rintro a V ⟨H, u', rfl, hB2, hR2, hK2, hO2, hH2, hHw⟩
      have hneH : ∀ g', v.ownBlock = some g' → g' ≠ H := fun g' hg' e => by have := (hO.ownLt g' hg').1; omega
      have hGH : G ≠ H := fun e => absurd (hK2.typ hH2 e.symm) (by decide)
      have hRH : w.heap.size ≠ H := fun e => absurd (hR2.typ hH2 e.symm) (by decide)
      have hwH : w.heap.size ≤ H := Nat.le_trans hB.size hHw
      have HNE := Veil.mk hneH
      rw [← HWC.out] at hH2
      clear hneH hB hR hK hO hd1 hbw hW1 iWC hlWC hs1 hcut m1 m2 m3 HCL hHw
      go_wp2_with fail
      go_loopw [11] (fun p wq => ∃ j : Nat, j ≤ 48 ∧ p = .int .i64 (j : Nat) ∧ Below w.heap.size w wq ∧ CellsAt wq w.heap.size 30 Z ∧ CellsAt wq G 30 (FC.set 36 v) ∧ OwnW wq w.heap.size v ws ∧ CellsAt wq H 52 (⟨TO, WA, WE, DD.take j ++ List.replicate (48 - j) 0⟩ : Wp).cells) (fun p _ => 48 - (intOf p).toNat)
      case atStart => exact ⟨0, Nat.zero_le _, rfl, hB2, hR2, hK2, hO2, hH2⟩
      case round =>
        obtain ⟨j, hj, rfl, hB3, hR3, hK3, hO3, hH3⟩ := hrel
        clear hB2 hR2 hK2 hO2 hH2
        by_cases hj48 : j < 48
        · have hji : (j : Int) < 48 := by omega
          have cg := HCD.out wr hB3 j hj48
          have hjl : (DD.take j ++ List.replicate (48 - j) 0).length = 48 := by have := HDL.out; rw [List.length_append, List.length_take, List.length_replicate]; omega
          have HST : Veil ((DD.take j ++ List.replicate (48 - j) 0).set j (DD[j]?.getD 0) = DD.take (j + 1) ++ List.replicate (48 - (j + 1)) 0) := ⟨take_set48 DD j hj48 (by have := HDL.out; omega)⟩
          obtain ⟨DV, hDV⟩ : ∃ q, DD[j]?.getD 0 = q := ⟨_, rfl⟩
          obtain ⟨DL, hDLe⟩ : ∃ q, DD.take j ++ List.replicate (48 - j) 0 = q := ⟨_, rfl⟩
          rw [hDV] at cg HST
          rw [hDLe] at hH3 hjl HST
          obtain ⟨cu, hcu⟩ : ∃ q, ((⟨TO, WA, WE, DL⟩ : Wp).cells)[3 + j]? = some (.int .u8 q) := ⟨_, wp_cellJ TO WA WE DL j (by omega)⟩
          have ca := (hH3.cell (3 + j)).trans hcu
          clear hcu
          have fa := hH3.frozen2 (3 + j)
          have hH4 := hH3.set2 (3 + j) (.int .u8 DV)
          rw [wp_setJ, HST.out] at hH4
          have hB4 : Below w.heap.size w (wr.setCell ⟨H, 3 + j, none⟩ (.int .u8 DV)) := hB3.setCell hwH _
          have hR4 := hR3.setOther2 ⟨H, 3 + j, none⟩ (.int .u8 DV) hRH
          have hK4 := hK3.setOther2 ⟨H, 3 + j, none⟩ (.int .u8 DV) hGH
          have hO4 := hO3.setOther ⟨H, 3 + j, none⟩ (.int .u8 DV) HNE.out
          have w6 : IntKind.i64.wrap (6 + (j : Int)) = 6 + (j : Int) := by rw [IntKind.wrap_i64]; omega
          have w60 : (0 : Int) ≤ 6 + (j : Int) := by omega
          have w61 : 6 + (j : Int) < 54 := by omega
          have w62 : (6 + (j : Int)).toNat = 6 + j := by omega
          have j0 : (0 : Int) ≤ (j : Int) := by omega
          have wj : IntKind.i64.wrap ((j : Int) + 1) = (j : Int) + 1 := by rw [IntKind.wrap_i64]; omega
          clear hDV hDLe hjl hH3 hK3 hO3 hR3 hB3 HST
          go_wp2
          go_roundw
          case rel => exact ⟨j + 1, hj48, by push_cast; rfl, hB4, hR4, hK4, hO4, hH4⟩
          case measure => simp [intOf]; omega
        · have hji : ¬ (j : Int) < 48 := by omega
          obtain rfl : j = 48 := by omega
          rw [Nat.sub_self, List.replicate_zero, List.append_nil, List.take_of_length_le (Nat.le_of_eq HDL.out)] at hH3
          obtain ⟨xv, cv, hv⟩ := hO3.isSlice
          rw [HWL.out] at hv
          subst hv
          have c36 : wr.cell? ⟨G, 36, none⟩ = some (.slice xv k cv) := (hK3.cell 36).trans (List.getElem?_set_self (by rw [HFL.out]; decide))
          obtain ⟨EW, hEW⟩ : ∃ q : Wp, (⟨TO, WA, WE, DD⟩ : Wp) = q := ⟨_, rfl⟩
          have hEl : EW.data.length = 48 := by rw [← hEW]; exact HDL.out
          rw [hEW] at hH3 HWS
          have iCW : (Tryd.prog.info? 52).map (·.size) = some EW.cells.length := by rw [wp_len EW hEl]; kernel_rfl
          have hEc := wp_len EW hEl
          have HW3 := hH3.whole2
          have hB5 := hB3.alloc hB3.size (.cells EW.cells.toArray 52)
          have hR5 := hR3.alloc (.cells EW.cells.toArray 52)
          have hK5 := hK3.alloc (.cells EW.cells.toArray 52)
          have hO5 := hO3.alloc (.cells EW.cells.toArray 52)
          have rg5 := (CellsAt.new wr 52 EW.cells).whole2
          obtain ⟨i0, hi, hz0, hz1', hz2⟩ := info_parts infoWp
          have hbs : ∀ wx : World, (Instr.buildSlice 28 1 #[(0, .agg EW.cells.toArray)]).run Tryd.prog wx = .ok (.slice (some ⟨wx.heap.size, 0, none⟩) 1 1) (wx.alloc (.cells EW.cells.toArray 52)) := fun wx => run_buildSlice wx 28 52 1 _ EW.cells.toArray i0 _ Tryd.underlying28 hi hz0 (by rw [hz1']; decide) (by rw [hz1']; decide) (fill_wp EW.cells _ (by simp [hz1']) hEc _ (by simp [hz1']))
          have hwl : ws.length ≤ 1000 := by rw [HWL.out]; have := hN64; omega
          have wk : IntKind.i64.wrap ((k : Int) + 1) = (k : Int) + 1 := by rw [IntKind.wrap_i64]; omega
          clear hEW hB3 hH3 hR3 hO3 HCD hzvW hz1W hi hz0 hz1' hz2
          go_wp2_with (first
            | (refine wpList_ldv rfl 52 _ rfl H 0 rfl EW.cells HW3 Tryd.underlying52 rfl iCW ?_)
            | (refine wpList_bsR rfl 28 1 _ rfl #[(0, .agg EW.cells.toArray)] (by first | kernel_rfl | rfl) _ (hbs _) ?_)
            | (at_builtin; refine wpList_appW rfl _ _ rfl w.heap.size (.slice xv k cv) ws rfl hO5 EW hEl wr.heap.size rfl rg5 hwl hB5.size ?_; intro v6 w6 ho6 hg6; have hb6 := below_grownW hB5 hO5 hg6 hB5.size; have hR6 := hR5.grownW hO5 hg6 (by decide); have hK6 := hK5.grownW hO5 hg6 (by decide); have c366 : w6.cell? ⟨G, 36, none⟩ = some (.slice xv k cv) := (hK6.cell 36).trans (List.getElem?_set_self (by rw [HFL.out]; decide)); have f366 := hK6.frozen2 36; obtain ⟨x6, c6, hv6⟩ := ho6.isSlice; rw [List.length_append, List.length_singleton, HWL.out] at hv6; subst hv6; clear hg6 hO5 hK5 hR5 hB5 rg5))
          go_roundw
          case rel =>
            refine ⟨k + 1, hlt, by push_cast; rfl, hb6.setCell (by show w.heap.size ≤ G; omega) _, hR6.setOther2 _ _ (by show w.heap.size ≠ G; omega), .slice x6 (k + 1) c6, ?_, ?_⟩
            · have := hK6.set2 36 (.slice x6 (k + 1) c6)
              rw [List.set_set] at this
              exact this
            · rw [HWS.out]
              exact ho6.setOther _ _ (fun g' hg' e => by
                obtain ⟨_, cur, hc⟩ := ho6.ownLt g' hg'
                have e' : g' = G := e
                subst e'
                unfold CellsAt at hK6
                rw [hc] at hK6
                have := Option.some.inj hK6
                injection this with _ e2 _
                exact absurd e2 (by decide))
          case measure => simp [intOf]; omega
    · have hlti : ¬ (k : Int) < (N : Int) := by omega
      obtain rfl : k = N := by omega
      obtain ⟨xv, cv, hv⟩ := hO.isSlice
      rw [wpsN_len] at hv
      subst hv
      obtain ⟨qn1, qn2, qn3, qn4, qn5⟩ := HN5.out
      have eQ2 : IntKind.i64.wrap ((Q : Int) + 2) = (Q2 : Int) := by rw [IntKind.wrap_i64]; omega
      obtain ⟨yB, hyB⟩ : ∃ q, subA (some ⟨b, off, none⟩) c Q2 = q := ⟨_, rfl⟩
      obtain ⟨cB, hcB⟩ : ∃ q, c - Q2 = q := ⟨_, rfl⟩
      have hsl : ∀ wx : World, (Instr.slice 22 (.slice (some ⟨b, off, none⟩) n c) (some (.int .i64 (Q2 : Int))) (some (.int .i64 (O : Int))) none).run Tryd.prog wx = .ok (.slice yB M cB) wx := fun wx => by
        have := run_cutLH2 wx (some ⟨b, off, none⟩) n c Q2 O (by omega) (by omega)
        rw [show O - Q2 = M by omega, hyB, hcB] at this
        exact this
      have HBB : Veil (∀ wx, Below w.heap.size w wx → Bytes wx yB M cB (boOf z)) := ⟨fun wx h => by
        have := (HBY.out wx h).cut Q2 O (by omega) (by omega)
        rw [show O - Q2 = M by omega, hyB, hcB] at this
        rw [HBO.out]
        exact this⟩
      have hM4 : M ≤ 4112 := k4
      have hzN : 45 + 54 * k ≤ z.length := by have := HZLEN.out; omega
      obtain ⟨BO, hBO⟩ : ∃ q, boOf z = q := ⟨_, rfl⟩
      rw [hBO] at HBB
      have HBOe := Veil.mk hBO
      clear hBO hyB hcB qn1 qn2 qn3 qn4 qn5 k4
      go_upto_region 21 with fail
      obtain ⟨E0, hE0⟩ : ∃ q, W1.drew = q := ⟨_, rfl⟩
      have hb0 : Below W1.heap.size W1 E0 := by rw [← hE0]; exact (Below.refl _ _).drew
      refine wp_region_gate (fun w' => w'.cell? ⟨G, 37, none⟩ = some (.slice none 0 0)) 12 (by kernel_rfl) ?_
      rw [hE0]
      have hBE0 := hB.trans (hb0.mono hB.size)
      have hRE0 := hR.far6 hb0
      have hKE0 := hK.far6 hb0
      have hOE0 := hO.afar hb0
      clear hE0 hb0 hB hR hK hO
      have hS : E0.cell? ⟨G, 37, none⟩ = some (.slice none 0 0) := (hKE0.cell 37).trans (by rw [List.getElem?_set_ne (by decide)]; exact HF37.out)
      refine wpAnyG_any (i := 0) (v := ?_) rfl (by kernel_rfl) (by kernel_rfl) (by kernel_rfl) (fun _ _ _ h => h) (by kernel_rfl) (fun _ => hS) (by kernel_rfl) ?_ ?_
      rotate_left
      · intro _; go_simp; try with_reducible rfl
      simp only [Act.put, List.getElem_toArray, List.getElem_cons_succ, List.getElem_cons_zero, List.setIfInBounds_toArray, List.set_cons_zero, List.set_cons_succ]
      refine wpAnyG_read (i := 1) (v := ?_) rfl (by kernel_rfl) (by kernel_rfl) (by kernel_rfl) (fun _ _ _ h => h) (by kernel_rfl) (by kernel_rfl) (by kernel_rfl) hS (by kernel_rfl) ?_ ?_
      rotate_left
      · intro wx hSw; go_split_ands; go_simp; try with_reducible rfl
      simp only [Act.put, List.getElem_toArray, List.getElem_cons_succ, List.getElem_cons_zero, List.setIfInBounds_toArray, List.set_cons_zero, List.set_cons_succ]
      refine wpAnyG_any (i := 2) (v := ?_) rfl (by kernel_rfl) (by kernel_rfl) (by kernel_rfl) (fun _ _ _ h => h) (by kernel_rfl) (fun _ => hS) (by kernel_rfl) ?_ ?_
      rotate_left
      · intro _; go_simp; try with_reducible rfl
      simp only [Act.put, List.getElem_toArray, List.getElem_cons_succ, List.getElem_cons_zero, List.setIfInBounds_toArray, List.set_cons_zero, List.set_cons_succ]
      refine wpAnyG_any (i := 3) (v := ?_) rfl (by kernel_rfl) (by kernel_rfl) (by kernel_rfl) (fun _ _ _ h => h) (by kernel_rfl) (fun _ => hS) (by kernel_rfl) ?_ ?_
      rotate_left
      · intro _; go_simp; try with_reducible rfl
      simp only [Act.put, List.getElem_toArray, List.getElem_cons_succ, List.getElem_cons_zero, List.setIfInBounds_toArray, List.set_cons_zero, List.set_cons_succ]
      refine wpAnyG_any (i := 4) (v := ?_) rfl (by kernel_rfl) (by kernel_rfl) (by kernel_rfl) (fun _ _ _ h => h) (by kernel_rfl) (fun _ => hS) (by kernel_rfl) ?_ ?_
      rotate_left
      · intro _; go_simp; try with_reducible rfl
      simp only [Act.put, List.getElem_toArray, List.getElem_cons_succ, List.getElem_cons_zero, List.setIfInBounds_toArray, List.set_cons_zero, List.set_cons_succ]
      refine wpAnyG_any (i := 5) (v := ?_) rfl (by kernel_rfl) (by kernel_rfl) (by kernel_rfl) (fun _ _ _ h => h) (by kernel_rfl) (fun _ => hS) (by kernel_rfl) ?_ ?_
      rotate_left
      · intro _; go_simp; try with_reducible rfl
      simp only [Act.put, List.getElem_toArray, List.getElem_cons_succ, List.getElem_cons_zero, List.setIfInBounds_toArray, List.set_cons_zero, List.set_cons_succ]
      refine wpAnyG_any (i := 6) (v := ?_) rfl (by kernel_rfl) (by kernel_rfl) (by kernel_rfl) (fun _ _ _ h => h) (by kernel_rfl) (fun _ => hS) (by kernel_rfl) ?_ ?_
      rotate_left
      · intro _; go_simp; try with_reducible rfl
      simp only [Act.put, List.getElem_toArray, List.getElem_cons_succ, List.getElem_cons_zero, List.setIfInBounds_toArray, List.set_cons_zero, List.set_cons_succ]
      refine wpAnyG_any (i := 7) (v := ?_) rfl (by kernel_rfl) (by kernel_rfl) (by kernel_rfl) (fun _ _ _ h => h) (by kernel_rfl) (fun _ => hS) (by kernel_rfl) ?_ ?_
      rotate_left
      · intro _; go_simp; try with_reducible rfl
      simp only [Act.put, List.getElem_toArray, List.getElem_cons_succ, List.getElem_cons_zero, List.setIfInBounds_toArray, List.set_cons_zero, List.set_cons_succ]
      refine wpAnyG_any (i := 8) (v := ?_) rfl (by kernel_rfl) (by kernel_rfl) (by kernel_rfl) (fun _ _ _ h => h) (by kernel_rfl) (fun _ => hS) (by kernel_rfl) ?_ ?_
      rotate_left
      · intro _; go_simp; try with_reducible rfl
      simp only [Act.put, List.getElem_toArray, List.getElem_cons_succ, List.getElem_cons_zero, List.setIfInBounds_toArray, List.set_cons_zero, List.set_cons_succ]
      refine wpAnyG_any (i := 9) (v := ?_) rfl (by kernel_rfl) (by kernel_rfl) (by kernel_rfl) (fun _ _ _ h => h) (by kernel_rfl) (fun _ => hS) (by kernel_rfl) ?_ ?_
      rotate_left
      · intro _; go_simp; try with_reducible rfl
      simp only [Act.put, List.getElem_toArray, List.getElem_cons_succ, List.getElem_cons_zero, List.setIfInBounds_toArray, List.set_cons_zero, List.set_cons_succ]
      refine wpAnyG_one (i := 10) rfl (by kernel_rfl) (by kernel_rfl) (fun K hK => ?_)
      refine wp_appA _ _ rfl w.heap.size (.slice none 0 0) [] rfl (OwnB.nil _ _) yB M cB BO rfl (HBB.out _ hBE0) (by simp; omega) hBE0.size ?_
      intro v2 W2 ho2 hg2
      rw [List.nil_append] at ho2
      have hB2 : Below w.heap.size w W2 := below_grown hBE0 (OwnB.nil E0 w.heap.size) hg2 hBE0.size
      have hg2' : ∀ g, g < E0.heap.size → W2.heap[g]? = E0.heap[g]? := fun g hg => hg2.block g hg (fun e => by cases e)
      have hR2 : CellsAt W2 w.heap.size 30 Z := (hg2' _ hRE0.lt).trans hRE0
      have hK2 : CellsAt W2 G 30 (FC.set 36 (.slice xv k cv)) := (hg2' _ hKE0.lt).trans hKE0
      have hO2 : OwnW W2 w.heap.size (.slice xv k cv) (wpsN z 45 k) := hOE0.keepG hg2'
      replace hS : W2.cell? ⟨G, 37, none⟩ = some (.slice none 0 0) := (hK2.cell 37).trans (by rw [List.getElem?_set_ne (by decide)]; exact HF37.out)
      have f37 := hK2.frozen2 37
      obtain ⟨xb, nb, cb, rfl, hnb⟩ := ho2.isSlice
      clear hg2 hg2' hnb hRE0 hKE0 hOE0
      refine hK.out _ _ (fun _ => hS) ?_
      clear hK K
      try simp only [Act.put, List.getElem_toArray, List.getElem_cons_succ, List.getElem_cons_zero, List.setIfInBounds_toArray, List.set_cons_zero, List.set_cons_succ]
      refine wpAnyG_any (i := 11) (v := ?_) rfl (by kernel_rfl) (by kernel_rfl) (by kernel_rfl) (fun _ _ _ h => h) (by kernel_rfl) (fun _ => hS) (by kernel_rfl) ?_ ?_
      rotate_left
      · intro _; go_simp; try with_reducible rfl
      simp only [Act.put, List.getElem_toArray, List.getElem_cons_succ, List.getElem_cons_zero, List.setIfInBounds_toArray, List.set_cons_zero, List.set_cons_succ]
      refine wpAnyG_one (i := 12) rfl (by kernel_rfl) (by kernel_rfl) (fun K hK => ?_)
      go_simp
      refine hK.out _ _ (fun h => absurd (show true = false from h) (by decide)) ?_
      clear hK K
      try simp only [Act.put, List.getElem_toArray, List.getElem_cons_succ, List.getElem_cons_zero, List.setIfInBounds_toArray, List.set_cons_zero, List.set_cons_succ]
      refine wpAnyG_done (by kernel_rfl) ?_ _
      have hFR := hK2.set2 37 (.slice xb nb cb)
      rw [HFS.out] at hFR
      have hFl : (frOf z (.slice xv k cv) (.slice xb nb cb)).cells.length = 70 := by rw [← HFS.out, List.length_set, List.length_set, HFL.out]
      have hF1 := fr_one (frOf z (.slice xv k cv) (.slice xb nb cb)) xv xb k cv nb cb rfl rfl
      have hR3 := hR2.setOther2 ⟨G, 37, none⟩ (.slice xb nb cb) (by show w.heap.size ≠ G; omega)
      have hB3 : Below w.heap.size w (W2.setCell ⟨G, 37, none⟩ (.slice xb nb cb)) := hB2.setCell (by show w.heap.size ≤ G; omega) _
      have hO3 := hO2.keepT hK2 (by decide) (fun g hg => Below.heap_setCell W2 ⟨G, 37, none⟩ (.slice xb nb cb) g hg)
      have ho3 := ho2.keepTB hK2 (by decide) (fun g hg => Below.heap_setCell W2 ⟨G, 37, none⟩ (.slice xb nb cb) g hg)
      obtain ⟨FR, hFRe⟩ : ∃ q, (frOf z (.slice xv k cv) (.slice xb nb cb)).cells = q := ⟨_, rfl⟩
      rw [hFRe] at hFR hFl hF1
      have iFR : (Tryd.prog.info? 30).map (·.size) = some FR.length := by rw [hFl]; exact sizeFrame
      have hlZ : Z.length = FR.length := by rw [HZL.out, hFl]
      have hFW := hFR.whole2
      have HFRE := Veil.mk hFRe
      obtain ⟨W3, hW3⟩ : ∃ q, W2.setCell ⟨G, 37, none⟩ (.slice xb nb cb) = q := ⟨_, rfl⟩
      rw [hW3] at hFR hR3 hB3 hO3 ho3 hFW ⊢
      clear hW3 hFRe hK2 hR2 hB2 hO2 ho2 hS f37 hFl
      go_wp2_with (first
        | (refine wpList_ldv rfl 30 _ rfl G 0 rfl FR hFW Tryd.underlying30 rfl iFR ?_)
        | (refine wpList_stv rfl 30 _ _ rfl _ rfl rfl hR3 iFR hlZ hF1 ?_))
      refine bodyPost_ret (results_frt Tryd.results5 _ rfl rfl (hR3.setRow FR) iFR) rfl ⟨xv, k, cv, xb, nb, cb, ?_, ?_, ?_, ?_⟩
      · rw [HFRE.out]; rfl
      · have := (hO3.keepT hR3 (by decide) (fun g hg => heap_setRow_ne W3 w.heap.size FR.toArray g hg)).wraps (hWN.out k hzN)
        rw [HWNe.out]
        exact this
      · have := (ho3.keepTB hR3 (by decide) (fun g hg => heap_setRow_ne W3 w.heap.size FR.toArray g hg)).bytes.2
        rw [HBOe.out]
        exact this
      · exact below_setRow hB3 (Nat.le_refl _) _
end Go.Proofs.YtdfjfafhpjoilaaDoor
