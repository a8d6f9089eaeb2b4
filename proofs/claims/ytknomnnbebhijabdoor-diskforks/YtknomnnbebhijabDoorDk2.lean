/- disk: 'firstSize'. -/
import Derived.Test.YtknomnnbebhijabDoorDk1
import Derived.Laws.StructEq
namespace Go.Proofs.YtknomnnbebhijabDoor
open Go.RowKit
set_option maxRecDepth 20000
set_option linter.unusedSimpArgs false

theorem cells8D : Tryd.prog.cellsOf 5 = 1 := by kernel_rfl
theorem info8D : (Tryd.prog.info? 5).isSome = true := by kernel_rfl
theorem head_neq (l m : List Int) (hl : l.length = 10) (hm : m.length = 10) (wx : World) : (binOp BinOp.neq 51 (.agg (row .u8 l)) (.agg (row .u8 m))).run Tryd.prog wx = .ok (.bool (!(l == m))) wx := by
  rw [run_neq_struct, run_equalIn_rows wx 9998 .u8 l m Tryd.underlying51 Tryd.underlying5 cells8D info8D hl hm]; rfl
/-- Where a slice goes on that is cut from l to h, with no room behind. -/
def cutA (x : Option Addr) (l h : Nat) : Option Addr := if h = l then x else x.map (·.add (l * 1))
/-- Bytes cut out of others, with no room behind. -/
theorem Bytes.cut3 {w : World} {x : Option Addr} {len cap : Nat} {z : List Int} (hb : Bytes w x len cap z) (l h : Nat) (h1 : l ≤ h) (h2 : h ≤ len) : Bytes w (cutA x l h) (h - l) (h - l) ((z.drop l).take (h - l)) := by
  have hz := hb.len_eq
  have hle := hb.le
  refine ⟨by rw [List.length_take, List.length_drop]; omega, Nat.le_refl _, by have := hb.top; omega, ?_, ?_⟩
  · unfold cutA
    split
    · intro _; omega
    · intro hn
      cases x with
      | none => have := hb.nil rfl; omega
      | some a => simp at hn
  · by_cases h0 : h - l = 0
    · exact .inl h0
    · rcases hb.at_ with h00 | ⟨b, off, hx, hc⟩
      · omega
      · refine .inr ⟨b, off + l, ?_, fun j hj => ?_⟩
        · rw [cutA, if_neg (by omega), hx, Option.map_some, Addr.add_mid', Nat.mul_one]
        · rw [Nat.add_assoc, hc (l + j) (by omega), List.getElem?_take_of_lt hj, List.getElem?_drop]
theorem Bytes.rangeD {w : World} {b off n c : Nat} {z : List Int} (h : Bytes w (some ⟨b, off, none⟩) n c z) (m : Nat) : w.rangeAt b off ((z.take m).map (Value.int .u8)) := fun j v hv => by
  have hj' : j < (z.take m).length := by have := (List.getElem?_eq_some_iff.1 hv).1; simpa using this
  have hj : j < z.length := by rw [List.length_take] at hj'; omega
  rcases h.at_ with h0 | ⟨b', off', hx, hc⟩
  · have := h.len_eq; omega
  · cases hx
    rw [hc j (by have := h.len_eq; omega), ← hv, List.getElem?_map, List.getElem?_eq_getElem hj']
    simp [List.getElem?_eq_getElem hj]
theorem wpx_val {P : Program} {o : Oper} {a : Act} {w : World} {K : Act → World → Prop} {Q : Exit → Act → World → Prop} (v : Value) (w' : World) (hrun : (execOp a.eval o).run P w = .ok (.value v) w') (h : K (a.put o.dst v) w') : o.wp P a w K Q := by
  unfold Oper.wp
  rw [hrun]
  exact h
theorem wpx_neq {P : Program} {o : Oper} {a : Act} {w : World} {K : Act → World → Prop} {Q : Exit → Act → World → Prop} (t : TypeId) (x y : Operand) (ho : o.op = .binOp .neq t x y t) (xv yv v : Value) (hx : a.eval x = xv) (hy : a.eval y = yv) (hgd : (eqGuard .neq t x y xv yv).run P w = .ok () w) (hrun : (binOp .neq t xv yv).run P w = .ok v w) (h : K (a.put o.dst v) w) : o.wp P a w K Q := by
  unfold Oper.wp
  simp [execOp, ho, hx, hy, hgd, hrun, Result.andThen]
  exact h
/-- An array's pointer out of a slice that is long enough. -/
theorem run_arrayAtD {t e : TypeId} {n : Nat} (hu : Tryd.prog.underlying t = some (.array n e)) (x : Option Addr) (len cap : Nat) (h : n ≤ len) (w : World) : (Instr.arrayAt t (.slice x len cap)).run Tryd.prog w = .ok (.pointer x) w := by
  simp [Instr.arrayAt, run_underlying hu, Nat.not_lt.2 h]
set_option maxHeartbeats 4000000 in
theorem firstSize_any (x : Option Addr) (len cap : Nat) (z : List Int) (w : World) (hb : Bytes w x len cap z) (hz : isB z) (hln : len ≤ 65536) (hKT : S.KTab w) :
    Calls Tryd.prog 36 #[.slice x len cap] w fun e w' => e = .returned (.int .i64 (firstN z)) ∧ Below w.heap.size w w' := by
  have hzl := hb.len_eq
  by_cases h10 : len < 10
  · have H0 : Veil (firstN z = 0) := ⟨by unfold firstN; rw [if_pos (by omega)]⟩
    clear hb hzl hKT
    go_enter Tryd.func36, Tryd.ntmps36
    go_wp2
    go_ret
    exact ⟨by rw [H0.out]; rfl, Below.refl _ _⟩
  · have hi10 : ¬ ((len : Int) < 10) := by omega
    obtain ⟨b, off, rfl, hc⟩ : ∃ b off, x = some ⟨b, off, none⟩ ∧ ∀ j, j < len → w.cell? ⟨b, off + j, none⟩ = some (.int .u8 (z[j]?.getD 0)) := by
      rcases hb.at_ with h0 | h0
      · omega
      · exact h0
    obtain ⟨p, hp⟩ : ∃ p, z[0]?.getD 0 = p := ⟨_, rfl⟩
    obtain ⟨q, hq⟩ : ∃ q, z[1]?.getD 0 = q := ⟨_, rfl⟩
    have gB : ∀ j : Nat, 0 ≤ z[j]?.getD 0 ∧ z[j]?.getD 0 ≤ 255 := fun j => by
      cases hj : z[j]? with
      | none => simp
      | some v => exact hz v (List.mem_of_getElem? hj)
    have hp2 := gB 0
    have hq2 := gB 1
    have c0 := hc 0 (by omega)
    have c1 := hc 1 (by omega)
    rw [hp] at hp2 c0
    rw [hq] at hq2 c1
    rw [Nat.add_zero] at c0
    obtain ⟨hp0, hp255⟩ := hp2
    obtain ⟨hq0, hq255⟩ := hq2
    obtain ⟨n, hn⟩ := Int.eq_ofNat_of_zero_le (show 0 ≤ 10 + p * 256 + q by omega)
    have HT : Veil (toldN z = n) := ⟨by unfold toldN; rw [hp, hq]; omega⟩
    have HZ : Veil (len = z.length) := ⟨hzl⟩
    have hn10 : 10 ≤ n := by omega
    clear hc gB hp hq hzl
    go_enter Tryd.func36, Tryd.ntmps36
    go_upto_region 3 with fail
    go_quiet ((fail))
    refine forget (p := fun y => Exit.then _ _ _ _ y) (fun X => Below w.heap.size w X) (below_drewN (Below.refl _ _) _) ?_
    intro X hX
    have hbX := hb.below hX
    clear c0 c1 hb
    go_upto_region 4 with fail
    by_cases hlt : len < n
    · have H0 : Veil (firstN z = 0) := ⟨by unfold firstN; rw [if_neg (by rw [← HZ.out]; exact h10), if_pos (by rw [HT.out, ← HZ.out]; exact hlt)]⟩
      have hlti : (len : Int) < (n : Int) := by omega
      clear hbX hn
      go_quiet ((fail))
      go_wp2
      go_ret
      exact ⟨by rw [H0.out]; rfl, below_drewN hX _⟩
    · have hlti : ¬ (len : Int) < (n : Int) := by omega
      have hle := hbX.le
      have hcap : ¬ cap = 0 := by omega
      have hc10 : (10 : Int) ≤ (cap : Int) := by omega
      have hnc : (n : Int) ≤ (cap : Int) := by omega
      have hni : (10 : Int) ≤ (n : Int) := by omega
      have hA := hbX.rangeD 10
      have hAl : (z.take 10).length = 10 := by rw [List.length_take, ← HZ.out]; omega
      obtain ⟨A, hAA⟩ : ∃ A, z.take 10 = A := ⟨_, rfl⟩
      rw [hAA] at hA hAl
      have hcut := hbX.cut3 10 n hn10 (by omega)
      have hH : ∀ wx, Below X.heap.size X wx → Calls Tryd.prog 29 #[.slice (cutA (some ⟨b, off, none⟩) 10 n) (n - 10) (n - 10)] wx fun e w' => e = .returned (.agg (row .u8 (headL ((z.drop 10).take (n - 10))))) ∧ Below wx.heap.size wx w' := fun wx hx => headOf_any _ _ _ _ wx (hcut.below hx) (by omega) ((hKT.below hX).below hx)
      have hHl := headL_length ((z.drop 10).take (n - 10))
      have HF : Veil (firstN z = if A = headL ((z.drop 10).take (n - 10)) then n else 0) := ⟨by unfold firstN; rw [HT.out, ← HZ.out, if_neg h10, if_neg hlt, hAA]⟩
      obtain ⟨HD, hHD⟩ : ∃ q, headL ((z.drop 10).take (n - 10)) = q := ⟨_, rfl⟩
      rw [hHD] at hH hHl HF
      obtain ⟨y, hy⟩ : ∃ y, cutA (some ⟨b, off, none⟩) 10 n = y := ⟨_, rfl⟩
      rw [hy] at hH
      have HY : Veil (cutA (some ⟨b, off, none⟩) 10 n = y) := ⟨hy⟩
      have hSz : (Tryd.prog.info? 51).map (·.size) = some (A.map (Value.int .u8)).length := by rw [List.length_map, hAl]; exact size10
      have hBd := hX.drew
      have hXs : X.heap.size ≤ X.drew.heap.size := Nat.le_refl _
      have hNQ := head_neq A HD hAl hHl
      have hS6 : ∀ wx, (Instr.slice 31 (.slice (some ⟨b, off, none⟩) len cap) none (some (.int .i64 10)) none).run Tryd.prog wx = .ok (.slice (some ⟨b, off, none⟩) 10 cap) wx := fun wx => by
        have := run_cut_h wx (some ⟨b, off, none⟩) len cap 10 (by omega)
        rw [show subA (some ⟨b, off, none⟩) cap 0 = some ⟨b, off, none⟩ by unfold subA; rw [if_neg hcap, Option.map_some, Addr.add_mid']; simp] at this
        exact this
      have hS12 : ∀ wx, (Instr.slice 31 (.slice (some ⟨b, off, none⟩) len cap) (some (.int .i64 10)) (some (.int .i64 n)) (some (.int .i64 n))).run Tryd.prog wx = .ok (.slice y (n - 10) (n - 10)) wx := fun wx => by
        rw [run_slice_lhm wx 31 _ len cap elemB .i64 .i64 .i64 10 n n (by omega) hni (Int.le_refl _) hnc, sizeU8]
        rw [← HY.out]
        simp [sliced, cutA, Result.andThen]
      have hA7 : ∀ wx, (Instr.arrayAt 51 (.slice (some ⟨b, off, none⟩) 10 cap)).run Tryd.prog wx = .ok (.pointer (some ⟨b, off, none⟩)) wx := fun wx => run_arrayAtD Tryd.underlying51 _ 10 cap (Nat.le_refl _) wx
      clear hy hHD hAA hcut hbX HT HZ hn hp0 hp255 hq0 hq255
      refine wp_region_gate (fun w' => w'.rangeAt b off (A.map (Value.int .u8))) 14 (by kernel_rfl) ?_
      have hS : (fun w' : World => w'.rangeAt b off (A.map (Value.int .u8))) X.drew := hA
      refine wpAnyG_any (i := 0) (v := ?_) rfl (by kernel_rfl) (by kernel_rfl) (by kernel_rfl) (fun _ _ _ h => h) (by kernel_rfl) (fun _ => hS) (by kernel_rfl) ?_ ?_
      rotate_left
      · intro _; go_simp; try with_reducible rfl
      simp only [Act.put, List.getElem_toArray, List.getElem_cons_succ, List.getElem_cons_zero, List.setIfInBounds_toArray, List.set_cons_zero, List.set_cons_succ]
      refine wpAnyG_any (i := 1) (v := ?_) rfl (by kernel_rfl) (by kernel_rfl) (by kernel_rfl) (fun _ _ _ h => h) (by kernel_rfl) (fun _ => hS) (by kernel_rfl) ?_ ?_
      rotate_left
      · intro _; go_simp; try with_reducible rfl
      simp only [Act.put, List.getElem_toArray, List.getElem_cons_succ, List.getElem_cons_zero, List.setIfInBounds_toArray, List.set_cons_zero, List.set_cons_succ]
      refine wpAnyG_any (i := 2) (v := ?_) rfl (by kernel_rfl) (by kernel_rfl) (by kernel_rfl) (fun _ _ _ h => h) (by kernel_rfl) (fun _ => hS) (by kernel_rfl) ?_ ?_
      rotate_left
      · intro _; go_simp; try with_reducible rfl
      simp only [Act.put, List.getElem_toArray, List.getElem_cons_succ, List.getElem_cons_zero, List.setIfInBounds_toArray, List.set_cons_zero, List.set_cons_succ]
      refine wpAnyG_any (i := 3) (v := .bool false) rfl (by kernel_rfl) (by kernel_rfl) (by kernel_rfl) (fun _ _ _ h => h) (by kernel_rfl) (fun _ => hS) (by kernel_rfl) ?_ ?_
      · intro _; go_simp
      simp only [Act.put, List.getElem_toArray, List.getElem_cons_succ, List.getElem_cons_zero, List.setIfInBounds_toArray, List.set_cons_zero, List.set_cons_succ]
      refine wpAnyG_any (i := 4) (v := ?_) rfl (by kernel_rfl) (by kernel_rfl) (by kernel_rfl) (fun _ _ _ h => h) (by kernel_rfl) (fun _ => hS) (by kernel_rfl) ?_ ?_
      rotate_left
      · intro _; go_simp; try with_reducible rfl
      simp only [Act.put, List.getElem_toArray, List.getElem_cons_succ, List.getElem_cons_zero, List.setIfInBounds_toArray, List.set_cons_zero, List.set_cons_succ]
      refine wpAnyG_any (i := 5) (v := ?_) rfl (by kernel_rfl) (by kernel_rfl) (by kernel_rfl) (fun _ _ _ h => h) (by kernel_rfl) (fun _ => hS) (by kernel_rfl) ?_ ?_
      rotate_left
      · intro _; go_simp; try with_reducible rfl
      simp only [Act.put, List.getElem_toArray, List.getElem_cons_succ, List.getElem_cons_zero, List.setIfInBounds_toArray, List.set_cons_zero, List.set_cons_succ]
      refine wpAnyG_any (i := 6) (v := .slice (some ⟨b, off, none⟩) 10 cap) rfl (by kernel_rfl) (by kernel_rfl) (by kernel_rfl) (fun _ _ _ h => h) (by kernel_rfl) (fun _ => hS) (by kernel_rfl) ?_ ?_
      · intro _; go_simp
      simp only [Act.put, List.getElem_toArray, List.getElem_cons_succ, List.getElem_cons_zero, List.setIfInBounds_toArray, List.set_cons_zero, List.set_cons_succ]
      refine wpAnyG_any (i := 7) (v := .pointer (some ⟨b, off, none⟩)) rfl (by kernel_rfl) (by kernel_rfl) (by kernel_rfl) (fun _ _ _ h => h) (by kernel_rfl) (fun _ => hS) (by kernel_rfl) ?_ ?_
      · intro _; go_simp
      simp only [Act.put, List.getElem_toArray, List.getElem_cons_succ, List.getElem_cons_zero, List.setIfInBounds_toArray, List.set_cons_zero, List.set_cons_succ]
      refine wpAnyG_load (i := 8) (dst := some 26) (ty := 51) (x := .tmp 25) (b := b) (o := (off)) (cs := (A.map (Value.int .u8))) (by kernel_rfl) (by kernel_rfl) (by kernel_rfl) (by kernel_rfl) (by kernel_rfl) (fun _ _ _ h => h) (by kernel_rfl) (by kernel_rfl) (by kernel_rfl) hS (by kernel_rfl) (fun _ h => h) Tryd.underlying51 rfl hSz ?_
      simp only [Act.put, List.getElem_toArray, List.getElem_cons_succ, List.getElem_cons_zero, List.setIfInBounds_toArray, List.set_cons_zero, List.set_cons_succ]
      refine wpAnyG_any (i := 9) (v := ?_) rfl (by kernel_rfl) (by kernel_rfl) (by kernel_rfl) (fun _ _ _ h => h) (by kernel_rfl) (fun _ => hS) (by kernel_rfl) ?_ ?_
      rotate_left
      · intro _; go_simp; try with_reducible rfl
      simp only [Act.put, List.getElem_toArray, List.getElem_cons_succ, List.getElem_cons_zero, List.setIfInBounds_toArray, List.set_cons_zero, List.set_cons_succ]
      refine wpAnyG_any (i := 10) (v := ?_) rfl (by kernel_rfl) (by kernel_rfl) (by kernel_rfl) (fun _ _ _ h => h) (by kernel_rfl) (fun _ => hS) (by kernel_rfl) ?_ ?_
      rotate_left
      · intro _; go_simp; try with_reducible rfl
      simp only [Act.put, List.getElem_toArray, List.getElem_cons_succ, List.getElem_cons_zero, List.setIfInBounds_toArray, List.set_cons_zero, List.set_cons_succ]
      refine wpAnyG_any (i := 11) (v := ?_) rfl (by kernel_rfl) (by kernel_rfl) (by kernel_rfl) (fun _ _ _ h => h) (by kernel_rfl) (fun _ => hS) (by kernel_rfl) ?_ ?_
      rotate_left
      · intro _; go_simp; try with_reducible rfl
      simp only [Act.put, List.getElem_toArray, List.getElem_cons_succ, List.getElem_cons_zero, List.setIfInBounds_toArray, List.set_cons_zero, List.set_cons_succ]
      refine wpAnyG_any (i := 12) (v := .slice y (n - 10) (n - 10)) rfl (by kernel_rfl) (by kernel_rfl) (by kernel_rfl) (fun _ _ _ h => h) (by kernel_rfl) (fun _ => hS) (by kernel_rfl) ?_ ?_
      · intro _; go_simp
      simp only [Act.put, List.getElem_toArray, List.getElem_cons_succ, List.getElem_cons_zero, List.setIfInBounds_toArray, List.set_cons_zero, List.set_cons_succ]
      refine wpAnyG_one (i := 13) rfl (by kernel_rfl) (by kernel_rfl) (fun K hK => ?_)
      refine wpx_call _ _ (by kernel_rfl) ((hH _ (Below.refl _ _).drew).mono ?_)
      rintro e w1 ⟨rfl, hb1⟩
      refine ⟨_, rfl, ?_⟩
      replace hS : (fun w' : World => w'.rangeAt b off (A.map (Value.int .u8))) w1 := fun j v hv => by
        have := hA j v hv
        rw [← this]
        exact hb1.cell (p := ⟨b, off + j, none⟩) (block_lt_of_cell this)
      refine hK.out _ _ (fun _ => hS) ?_
      clear hK K
      try simp only [Act.put, List.getElem_toArray, List.getElem_cons_succ, List.getElem_cons_zero, List.setIfInBounds_toArray, List.set_cons_zero, List.set_cons_succ]
      refine wpAnyG_one (i := 14) rfl (by kernel_rfl) (by kernel_rfl) (fun K hK => ?_)
      refine wpx_neq 51 _ _ rfl (.agg (A.map (Value.int .u8)).toArray) (.agg (row .u8 HD)) (.bool (!(A == HD))) rfl rfl (by kernel_rfl) (hNQ w1) ?_
      refine hK.out _ _ (fun h => absurd (show true = false from h) (by decide)) ?_
      clear hK K
      try simp only [Act.put, List.getElem_toArray, List.getElem_cons_succ, List.getElem_cons_zero, List.setIfInBounds_toArray, List.set_cons_zero, List.set_cons_succ]
      refine wpAnyG_one (i := 15) rfl (by kernel_rfl) (by kernel_rfl) (fun K hK => ?_)
      refine wpx_val (.bool (!(A == HD))) w1 ?_ ?_
      · kernel_rfl
      refine hK.out _ _ (fun h => absurd (show true = false from h) (by decide)) ?_
      clear hK K
      try simp only [Act.put, List.getElem_toArray, List.getElem_cons_succ, List.getElem_cons_zero, List.setIfInBounds_toArray, List.set_cons_zero, List.set_cons_succ]
      refine wpAnyG_done (by kernel_rfl) ?_ _
      have hB1 : Below w.heap.size w w1 := hBd.trans (hb1.mono hX.size)
      by_cases hAH : A = HD
      · have e1 : (A == HD) = true := by simp [hAH]
        rw [e1]
        rw [if_pos hAH] at HF
        clear hNQ hH hS hb1 hBd hA
        go_wp2
        go_ret
        exact ⟨by rw [HF.out]; rfl, hB1⟩
      · have e1 : (A == HD) = false := by simp [hAH]
        rw [e1]
        rw [if_neg hAH] at HF
        clear hNQ hH hS hb1 hBd hA
        go_wp2
        go_ret
        exact ⟨by rw [HF.out]; rfl, hB1⟩
end Go.Proofs.YtknomnnbebhijabDoor
