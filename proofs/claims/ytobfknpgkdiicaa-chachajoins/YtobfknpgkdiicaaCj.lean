/- The statement ChachaJoins, walked. -/
import Derived.Test.YtobfknpgkdiicaaCt
namespace Go.Proofs.Ytobfknpgkdiicaa
open Go.RowKit
set_option maxRecDepth 20000
set_option linter.unusedSimpArgs false

theorem strm_shift (k n : List Int) (c : Int) (j i : Nat) : strm k n ((c + (j : Int)) % 4294967296) i = strm k n c (64 * j + i) := by
  unfold strm
  rw [show (64 * j + i) / 64 = j + i / 64 by omega, show (64 * j + i) % 64 = i % 64 by omega]
  congr 3
  omega
theorem xor_cut (k n : List Int) (c : Int) (z : List Int) (j : Nat) (h : 64 * j ≤ z.length) : xorL k n c (z.take (64 * j)) ++ xorL k n ((c + (j : Int)) % 4294967296) (z.drop (64 * j)) = xorL k n c z := by
  have hl : (xorL k n c (z.take (64 * j))).length = 64 * j := by rw [xorL_length, List.length_take]; omega
  refine getD_ext (by rw [List.length_append, hl, xorL_length, xorL_length, List.length_drop]; omega) fun i hi => ?_
  rw [List.length_append, hl, xorL_length, List.length_drop] at hi
  rw [xorL_get _ _ _ _ _ (by omega)]
  by_cases hlt : i < 64 * j
  · rw [List.getElem?_append_left (by omega), xorL_get _ _ _ _ _ (by rw [List.length_take]; omega), List.getElem?_take_of_lt hlt]
  · rw [List.getElem?_append_right (by omega), hl, xorL_get _ _ _ _ _ (by rw [List.length_drop]; omega), strm_shift, List.getElem?_drop]
    congr 2 <;> congr 1 <;> omega

/-- Where a slice goes on that is cut at l. -/
def subA (x : Option Addr) (cap l : Nat) : Option Addr := if cap = l then x else x.map (·.add (l * 1))
theorem Bytes.cut {w : World} {x : Option Addr} {len cap : Nat} {z : List Int} (hb : Bytes w x len cap z) (l h : Nat) (h1 : l ≤ h) (h2 : h ≤ len) : Bytes w (subA x cap l) (h - l) (cap - l) ((z.drop l).take (h - l)) := by
  have hz := hb.len_eq
  have hle := hb.le
  refine ⟨by rw [List.length_take, List.length_drop]; omega, by omega, by have := hb.top; omega, ?_, ?_⟩
  · unfold subA
    split
    · intro _; omega
    · intro hn
      cases x with
      | none => have := hb.nil rfl; omega
      | some a => simp at hn
  · by_cases h0 : h - l = 0
    · exact .inl h0
    · rcases hb.at_ with h00 | ⟨b, off, hx, hc⟩
      · omega
      · refine .inr ⟨b, off + l, ?_, fun j hj => ?_⟩
        · unfold subA
          rw [if_neg (by omega), hx, Option.map_some, Addr.add_mid', Nat.mul_one]
        · rw [Nat.add_assoc, hc (l + j) (by omega), List.getElem?_take_of_lt hj, List.getElem?_drop]
theorem sizeU8 (w : World) : (sizeOf (Try.prog.elem 38)).run Try.prog w = .ok 1 w := by kernel_rfl
theorem elemB : Try.prog.underlying 38 = some (.slice (Try.prog.elem 38)) := by kernel_rfl
theorem run_cut_h (w : World) (x : Option Addr) (len cap h : Nat) (hh : h ≤ cap) : (Instr.slice 38 (.slice x len cap) none (some (.int .i64 (h : Int))) none).run Try.prog w = .ok (.slice (subA x cap 0) h cap) w := by
  rw [run_slice_h w 38 x len cap elemB .i64 (h : Int) (by omega) (by omega), sizeU8]
  simp [sliced, subA, Result.andThen]
theorem run_cut_l (w : World) (x : Option Addr) (len cap l : Nat) (hl : l ≤ len) : (Instr.slice 38 (.slice x len cap) (some (.int .i64 (l : Int))) none none).run Try.prog w = .ok (.slice (subA x cap l) (len - l) (cap - l)) w := by
  rw [run_slice_l w 38 x len cap elemB .i64 (l : Int) (by omega) (by omega), sizeU8]
  simp [sliced, subA, Result.andThen]
theorem OwnB.ofHolds {w : World} {g base : Nat} {l : List Int} (h : Holds w g .u8 5 l) (hb : base ≤ g) (hl : l.length ≤ 4000000) : OwnB w base (.slice (some ⟨g, 0, none⟩) l.length l.length) l :=
  ⟨by simp, .inr ⟨g, l.length, row .u8 l, rfl, hb, h, Nat.le_refl _, by simp [maxLen]; omega, by rw [row_size]; omega, by simp only [row, Nat.mul_one]; exact List.take_of_length_le (by simp)⟩⟩
/-- Bytes behind bytes of the call's own, within a region. -/
theorem wp_app {w : World} {o : Oper} {a : Act} {K : Act → World → Prop} {Q : Exit → Act → World → Prop} (s x : Operand)
    (ho : o.op = .call { callee := .builtin .append, args := #[s, x], argTypes := #[38, 38] }) (base : Nat) (v : Value) (zs : List Int) (hs : a.eval s = v) (hown : OwnB w base v zs)
    (g len cap : Nat) (z : List Int) (hx : a.eval x = .slice (some ⟨g, 0, none⟩) len cap) (hb : Bytes w (some ⟨g, 0, none⟩) len cap z) (hln : zs.length + len ≤ 4000000) (hbase : base ≤ w.heap.size)
    (h : ∀ v' w', OwnB w' base v' (zs ++ z) → w.grownBy w' v.ownBlock → K (a.put o.dst v') w') : o.wp Try.prog a w K Q := by
  obtain ⟨i0, hi, hz0, hz1, hz2⟩ := info_parts infoU8
  have hzl := hb.len_eq
  refine wp_append_own w s x 38 ho base 5 i0 (.int .u8 0) 1 1 Try.underlying38 hi hz0 hz1 hz2 rfl (by decide) v zs.length (zs.map (Value.int .u8)) hs hown ⟨g, 0, none⟩ len cap (z.map (Value.int .u8)) hx (by simp [hzl]) ?_ (by simp [Value.oneCell']) (by simp [maxLen]; omega) (by omega) hbase ?_
  · intro j u hu
    have hj : j < len := by have := (List.getElem?_eq_some_iff.1 hu).1; simpa [hzl] using this
    rcases hb.at_ with h0 | ⟨b, off, hy, hc⟩
    · omega
    · cases hy
      rw [Addr.add_mid', hc j hj, ← hu, List.getElem?_map, List.getElem?_eq_getElem (by omega)]; rfl
  · intro v' w' h1 h2 _
    exact h v' w' (OwnB.cast h1 (by simp [hzl]) (by simp)) h2

set_option maxHeartbeats 4000000 in
theorem joins_walk (k n : List Int) (c : Int) (x : Option Addr) (len cap : Nat) (z : List Int) (at_ : Int) (w : World) (hk : k.length = 32) (hn : n.length = 12) (hc : U32 c) (hz : Bytes w x len cap z) (ha : U8 at_) :
    Calls Try.prog 8 #[.agg (askRow k n c), .slice x len cap, .int .u8 at_] w fun e w' => e = .returned (.bool true) ∧ Below w.heap.size w w' := by
  have hf := fun wx h => few_any x len cap 500 z wx h (by omega) (by omega)
  have hz5 := hz.few 500
  obtain ⟨m, hm⟩ : ∃ m, min len 500 = m := ⟨_, rfl⟩
  obtain ⟨y, hy⟩ : ∃ y, z.take 500 = y := ⟨_, rfl⟩
  have hm5 : m ≤ 500 := by omega
  rw [hm] at hf hz5
  rw [hy] at hz5
  clear hm hy
  obtain ⟨A, hA, rfl⟩ := ha.nat
  obtain ⟨J, hJe⟩ : ∃ J, A % (m / 64 + 1) = J := ⟨_, rfl⟩
  have hJ : (A : Int) % ((m : Int) / 64 + 1) = (J : Int) := by rw [← hJe]; push_cast; rfl
  have hJm : 64 * J ≤ m := by
    have : A % (m / 64 + 1) < m / 64 + 1 := Nat.mod_lt _ (by omega)
    omega
  obtain ⟨H, hHe⟩ : ∃ H, 64 * J = H := ⟨_, rfl⟩
  have hH : (64 : Int) * (J : Int) = (H : Int) := by omega
  have hmz := hz5.len_eq
  have hcut : Veil (xorL k n c (y.take H) ++ xorL k n ((c + (J : Int)) % 4294967296) (y.drop H) = xorL k n c y) := ⟨by
    rw [← hHe]; exact xor_cut k n c y J (by omega)⟩
  rw [hHe] at hJm
  have hwH : IntKind.i64.wrap (H : Int) = (H : Int) := by rw [IntKind.wrap_i64]; omega
  have hwJ : IntKind.u32.wrap (J : Int) = (J : Int) := by simp [IntKind.wrap, IntKind.bits, IntKind.signed]; omega
  obtain ⟨CC, hCC⟩ : ∃ X, (c + (J : Int)) % 4294967296 = X := ⟨_, rfl⟩
  have hCu : U32 CC := by rw [← hCC]; exact mod_u32 _
  rw [hCC] at hcut
  have hwC : IntKind.u32.wrap (c + (J : Int)) = CC := by rw [← hCC]; simp [IntKind.wrap, IntKind.bits, IntKind.signed]
  clear hCC
  clear hJe hHe
  have uK := Try.underlying30
  have uN := Try.underlying32
  have iK := sizeKeyM k hk
  have iN := sizeNonceM n hn
  have hxor : ∀ (c : Int) (x : Option Addr) (len cap : Nat) (z : List Int) (wx : World), U32 c → Bytes wx x len cap z → len ≤ 500 → Calls Try.prog 16 #[.agg (List.map (Value.int .u8) k).toArray, .agg (List.map (Value.int .u8) n).toArray, .int .u32 c, .slice x len cap] wx fun e w' => ∃ g, e = .returned (.slice (some ⟨g, 0, none⟩) len len) ∧ wx.heap.size ≤ g ∧ Holds w' g .u8 5 (xorL k n c z) ∧ Below wx.heap.size wx w' := fun c x len cap z wx hc h hl =>
    xor_any k n c x len cap z wx hk hn hc h (by omega)
  have hA0 := AskAt.new w k n c
  have hz0 : Bytes (w.alloc (.cells (askRow k n c) 37)) x m cap y := hz5.below ((Below.refl _ _).alloc (Nat.le_refl _) _)
  have hzf : Bytes (w.alloc (.cells (askRow k n c) 37)) x len cap z := hz.below ((Below.refl _ _).alloc (Nat.le_refl _) _)
  have hf0 := hf _ hzf
  have hle := hz5.le
  have hB0 : Below w.heap.size w (w.alloc (.cells (askRow k n c) 37)) := (Below.refl _ _).alloc (Nat.le_refl _) _
  have hs1 := fun wx => run_cut_h wx x m cap H (by omega)
  have hs2 := fun wx => run_cut_l wx x m cap H (by omega)
  obtain ⟨X1, hX1⟩ : ∃ X, subA x cap 0 = X := ⟨_, rfl⟩
  obtain ⟨X2, hX2⟩ : ∃ X, subA x cap H = X := ⟨_, rfl⟩
  obtain ⟨L2, hL2⟩ : ∃ X, m - H = X := ⟨_, rfl⟩
  obtain ⟨C2, hC2⟩ : ∃ X, cap - H = X := ⟨_, rfl⟩
  have hb1 : ∀ wx, Bytes wx x m cap y → Bytes wx X1 H cap (y.take H) := fun wx h => by
    have := h.cut 0 H (by omega) (by omega)
    rw [hX1] at this
    simpa using this
  have hb2 : ∀ wx, Bytes wx x m cap y → Bytes wx X2 L2 C2 (y.drop H) := fun wx h => by
    have := h.cut H m (by omega) (by omega)
    rw [hX2, hL2, hC2, List.take_of_length_le (by rw [List.length_drop]; omega)] at this
    exact this
  rw [hX1] at hs1
  rw [hX2, hL2, hC2] at hs2
  have hLH : Veil (H + L2 = m) := ⟨by omega⟩
  have hL25 : L2 ≤ 500 := by omega
  have hH5 : H ≤ 500 := by omega
  clear hf hz hz5 hzf hX1 hX2 hL2 hC2 hmz
  go_enter Try.func8, Try.ntmps8
  go_upto_region 3 with (go_at_call 15; refine hf0.mono ?_; rintro e w' ⟨rfl, rfl⟩)
  obtain ⟨W0, hW0⟩ : ∃ W, w.alloc (.cells (askRow k n c) 37) = W := ⟨_, rfl⟩
  rw [hW0] at hA0 hz0 hB0 ⊢
  clear hW0 hf0
  have keep0 : ∀ w', Below W0.heap.size W0 w' → w'.rangeAt w.heap.size 0 (k.map (Value.int .u8)) ∧ w'.rangeAt w.heap.size 32 (n.map (Value.int .u8)) ∧ w'.cell? ⟨w.heap.size, 44, none⟩ = some (.int .u32 c) := fun w' hb => by
    have hA' := hA0.below hb hA0.lt
    exact ⟨hA'.key, hA'.nonce hk, hA'.count hk hn⟩
  refine wp_region_gate (fun w' => w'.rangeAt w.heap.size 0 (k.map (Value.int .u8)) ∧ w'.rangeAt w.heap.size 32 (n.map (Value.int .u8)) ∧ w'.cell? ⟨w.heap.size, 44, none⟩ = some (.int .u32 c)) 11 (by kernel_rfl) ?_
  have hS := keep0 _ (Below.refl _ _).drew
  refine wpAnyG_any (i := 0) (v := ?_) rfl (by kernel_rfl) (by kernel_rfl) (by kernel_rfl) (fun _ _ _ h => h) (by kernel_rfl) (fun _ => hS) (by kernel_rfl) ?_ ?_
  rotate_left
  · intro _; go_simp; try with_reducible rfl
  simp only [Act.put, List.setIfInBounds_toArray, List.set_cons_zero, List.set_cons_succ]
  refine wpAnyG_load (i := 1) (dst := some 20) (ty := 30) (x := .tmp 19) (b := w.heap.size) (o := 0) (cs := (k.map (Value.int .u8))) (by kernel_rfl) (by kernel_rfl) (by kernel_rfl) (by kernel_rfl) (by kernel_rfl) (fun _ _ _ h => h) (by kernel_rfl) (by kernel_rfl) (by kernel_rfl) hS (by kernel_rfl) (fun _ h => h.1) uK rfl iK ?_
  simp only [Act.put, List.setIfInBounds_toArray, List.set_cons_zero, List.set_cons_succ]
  refine wpAnyG_any (i := 2) (v := ?_) rfl (by kernel_rfl) (by kernel_rfl) (by kernel_rfl) (fun _ _ _ h => h) (by kernel_rfl) (fun _ => hS) (by kernel_rfl) ?_ ?_
  rotate_left
  · intro _; go_simp; try with_reducible rfl
  simp only [Act.put, List.setIfInBounds_toArray, List.set_cons_zero, List.set_cons_succ]
  refine wpAnyG_load (i := 3) (dst := some 22) (ty := 32) (x := .tmp 21) (b := w.heap.size) (o := 32) (cs := (n.map (Value.int .u8))) (by kernel_rfl) (by kernel_rfl) (by kernel_rfl) (by kernel_rfl) (by kernel_rfl) (fun _ _ _ h => h) (by kernel_rfl) (by kernel_rfl) (by kernel_rfl) hS (by kernel_rfl) (fun _ h => h.2.1) uN rfl iN ?_
  simp only [Act.put, List.setIfInBounds_toArray, List.set_cons_zero, List.set_cons_succ]
  refine wpAnyG_any (i := 4) (v := ?_) rfl (by kernel_rfl) (by kernel_rfl) (by kernel_rfl) (fun _ _ _ h => h) (by kernel_rfl) (fun _ => hS) (by kernel_rfl) ?_ ?_
  rotate_left
  · intro _; go_simp; try with_reducible rfl
  simp only [Act.put, List.setIfInBounds_toArray, List.set_cons_zero, List.set_cons_succ]
  refine wpAnyG_read (i := 5) (v := ?_) rfl (by kernel_rfl) (by kernel_rfl) (by kernel_rfl) (fun _ _ _ h => h) (by kernel_rfl) (by kernel_rfl) (by kernel_rfl) hS (by kernel_rfl) ?_ ?_
  rotate_left
  · intro wx hSw; go_split_ands; go_simp; try with_reducible rfl
  simp only [Act.put, List.setIfInBounds_toArray, List.set_cons_zero, List.set_cons_succ]
  refine wpAnyG_any (i := 6) (v := ?_) rfl (by kernel_rfl) (by kernel_rfl) (by kernel_rfl) (fun _ _ _ h => h) (by kernel_rfl) (fun _ => hS) (by kernel_rfl) ?_ ?_
  rotate_left
  · intro _; go_simp; try with_reducible rfl
  simp only [Act.put, List.setIfInBounds_toArray, List.set_cons_zero, List.set_cons_succ]
  refine wpAnyG_any (i := 7) (v := ?_) rfl (by kernel_rfl) (by kernel_rfl) (by kernel_rfl) (fun _ _ _ h => h) (by kernel_rfl) (fun _ => hS) (by kernel_rfl) ?_ ?_
  rotate_left
  · intro _; go_simp; try with_reducible rfl
  simp only [Act.put, List.setIfInBounds_toArray, List.set_cons_zero, List.set_cons_succ]
  refine wpAnyG_any (i := 8) (v := .int .i64 (H : Int)) rfl (by kernel_rfl) (by kernel_rfl) (by kernel_rfl) (fun _ _ _ h => h) (by kernel_rfl) (fun _ => hS) (by kernel_rfl) ?_ ?_
  · intro _; go_simp
  simp only [Act.put, List.setIfInBounds_toArray, List.set_cons_zero, List.set_cons_succ]
  refine wpAnyG_any (i := 9) (v := .slice X1 H cap) rfl (by kernel_rfl) (by kernel_rfl) (by kernel_rfl) (fun _ _ _ h => h) (by kernel_rfl) (fun _ => hS) (by kernel_rfl) ?_ ?_
  · intro _; go_simp
  simp only [Act.put, List.setIfInBounds_toArray, List.set_cons_zero, List.set_cons_succ]
  refine wpAnyG_one (i := 10) rfl (by kernel_rfl) (by kernel_rfl) (fun K hK => ?_)
  go_wp2_with (go_at_call 16; refine (hxor c X1 H cap (y.take H) _ hc (hb1 _ (hz0.below (Below.refl _ _).drew)) hH5).mono ?_; rintro e w1 ⟨g1, rfl, hg1, hH1, hBB1⟩)
  have hB1 : Below W0.heap.size W0 w1 := ((Below.refl _ _).drew).trans hBB1
  replace hS := keep0 _ hB1
  refine hK.out _ _ (fun _ => hS) ?_
  clear hK K
  refine wpAnyG_one (i := 11) rfl (by kernel_rfl) (by kernel_rfl) (fun K hK => ?_)
  go_simp
  refine hK.out _ _ (fun h => absurd (show true = false from h) (by decide)) ?_
  clear hK K
  refine wpAnyG_done (by kernel_rfl) ?_ _
  clear hS
  have hBB2 : Below w.heap.size w w1 := hB0.trans (hB1.mono hB0.size)
  go_upto_region 4 with fail
  refine wp_region_gate (fun w' => w'.rangeAt w.heap.size 0 (k.map (Value.int .u8)) ∧ w'.rangeAt w.heap.size 32 (n.map (Value.int .u8)) ∧ w'.cell? ⟨w.heap.size, 44, none⟩ = some (.int .u32 c)) 14 (by kernel_rfl) ?_
  have hS := keep0 _ hB1.drew
  refine wpAnyG_any (i := 0) (v := ?_) rfl (by kernel_rfl) (by kernel_rfl) (by kernel_rfl) (fun _ _ _ h => h) (by kernel_rfl) (fun _ => hS) (by kernel_rfl) ?_ ?_
  rotate_left
  · intro _; go_simp; try with_reducible rfl
  simp only [Act.put, List.setIfInBounds_toArray, List.set_cons_zero, List.set_cons_succ]
  refine wpAnyG_load (i := 1) (dst := some 31) (ty := 30) (x := .tmp 30) (b := w.heap.size) (o := 0) (cs := (k.map (Value.int .u8))) (by kernel_rfl) (by kernel_rfl) (by kernel_rfl) (by kernel_rfl) (by kernel_rfl) (fun _ _ _ h => h) (by kernel_rfl) (by kernel_rfl) (by kernel_rfl) hS (by kernel_rfl) (fun _ h => h.1) uK rfl iK ?_
  simp only [Act.put, List.setIfInBounds_toArray, List.set_cons_zero, List.set_cons_succ]
  refine wpAnyG_any (i := 2) (v := ?_) rfl (by kernel_rfl) (by kernel_rfl) (by kernel_rfl) (fun _ _ _ h => h) (by kernel_rfl) (fun _ => hS) (by kernel_rfl) ?_ ?_
  rotate_left
  · intro _; go_simp; try with_reducible rfl
  simp only [Act.put, List.setIfInBounds_toArray, List.set_cons_zero, List.set_cons_succ]
  refine wpAnyG_load (i := 3) (dst := some 33) (ty := 32) (x := .tmp 32) (b := w.heap.size) (o := 32) (cs := (n.map (Value.int .u8))) (by kernel_rfl) (by kernel_rfl) (by kernel_rfl) (by kernel_rfl) (by kernel_rfl) (fun _ _ _ h => h) (by kernel_rfl) (by kernel_rfl) (by kernel_rfl) hS (by kernel_rfl) (fun _ h => h.2.1) uN rfl iN ?_
  simp only [Act.put, List.setIfInBounds_toArray, List.set_cons_zero, List.set_cons_succ]
  refine wpAnyG_any (i := 4) (v := ?_) rfl (by kernel_rfl) (by kernel_rfl) (by kernel_rfl) (fun _ _ _ h => h) (by kernel_rfl) (fun _ => hS) (by kernel_rfl) ?_ ?_
  rotate_left
  · intro _; go_simp; try with_reducible rfl
  simp only [Act.put, List.setIfInBounds_toArray, List.set_cons_zero, List.set_cons_succ]
  refine wpAnyG_read (i := 5) (v := ?_) rfl (by kernel_rfl) (by kernel_rfl) (by kernel_rfl) (fun _ _ _ h => h) (by kernel_rfl) (by kernel_rfl) (by kernel_rfl) hS (by kernel_rfl) ?_ ?_
  rotate_left
  · intro wx hSw; go_split_ands; go_simp; try with_reducible rfl
  simp only [Act.put, List.setIfInBounds_toArray, List.set_cons_zero, List.set_cons_succ]
  refine wpAnyG_any (i := 6) (v := ?_) rfl (by kernel_rfl) (by kernel_rfl) (by kernel_rfl) (fun _ _ _ h => h) (by kernel_rfl) (fun _ => hS) (by kernel_rfl) ?_ ?_
  rotate_left
  · intro _; go_simp; try with_reducible rfl
  simp only [Act.put, List.setIfInBounds_toArray, List.set_cons_zero, List.set_cons_succ]
  refine wpAnyG_any (i := 7) (v := .int .u32 (J : Int)) rfl (by kernel_rfl) (by kernel_rfl) (by kernel_rfl) (fun _ _ _ h => h) (by kernel_rfl) (fun _ => hS) (by kernel_rfl) ?_ ?_
  · intro _; go_simp
  simp only [Act.put, List.setIfInBounds_toArray, List.set_cons_zero, List.set_cons_succ]
  refine wpAnyG_any (i := 8) (v := .int .u32 CC) rfl (by kernel_rfl) (by kernel_rfl) (by kernel_rfl) (fun _ _ _ h => h) (by kernel_rfl) (fun _ => hS) (by kernel_rfl) ?_ ?_
  · intro _; go_simp
  simp only [Act.put, List.setIfInBounds_toArray, List.set_cons_zero, List.set_cons_succ]
  refine wpAnyG_any (i := 9) (v := ?_) rfl (by kernel_rfl) (by kernel_rfl) (by kernel_rfl) (fun _ _ _ h => h) (by kernel_rfl) (fun _ => hS) (by kernel_rfl) ?_ ?_
  rotate_left
  · intro _; go_simp; try with_reducible rfl
  simp only [Act.put, List.setIfInBounds_toArray, List.set_cons_zero, List.set_cons_succ]
  refine wpAnyG_any (i := 10) (v := ?_) rfl (by kernel_rfl) (by kernel_rfl) (by kernel_rfl) (fun _ _ _ h => h) (by kernel_rfl) (fun _ => hS) (by kernel_rfl) ?_ ?_
  rotate_left
  · intro _; go_simp; try with_reducible rfl
  simp only [Act.put, List.setIfInBounds_toArray, List.set_cons_zero, List.set_cons_succ]
  refine wpAnyG_any (i := 11) (v := .int .i64 (H : Int)) rfl (by kernel_rfl) (by kernel_rfl) (by kernel_rfl) (fun _ _ _ h => h) (by kernel_rfl) (fun _ => hS) (by kernel_rfl) ?_ ?_
  · intro _; go_simp
  simp only [Act.put, List.setIfInBounds_toArray, List.set_cons_zero, List.set_cons_succ]
  refine wpAnyG_any (i := 12) (v := .slice X2 L2 C2) rfl (by kernel_rfl) (by kernel_rfl) (by kernel_rfl) (fun _ _ _ h => h) (by kernel_rfl) (fun _ => hS) (by kernel_rfl) ?_ ?_
  · intro _; go_simp
  simp only [Act.put, List.setIfInBounds_toArray, List.set_cons_zero, List.set_cons_succ]
  refine wpAnyG_one (i := 13) rfl (by kernel_rfl) (by kernel_rfl) (fun K hK => ?_)
  go_wp2_with (go_at_call 16; refine (hxor CC X2 L2 C2 (y.drop H) _ hCu (hb2 _ (hz0.below hB1.drew)) hL25).mono ?_; rintro e w2 ⟨g2, rfl, hg2, hH2, hBB3⟩)
  have hB2 : Below W0.heap.size W0 w2 := (hB1.drew).trans (hBB3.mono hB1.size)
  replace hS := keep0 _ hB2
  refine hK.out _ _ (fun _ => hS) ?_
  clear hK K
  refine wpAnyG_one (i := 14) rfl (by kernel_rfl) (by kernel_rfl) (fun K hK => ?_)
  go_simp
  refine hK.out _ _ (fun h => absurd (show true = false from h) (by decide)) ?_
  clear hK K
  refine wpAnyG_done (by kernel_rfl) ?_ _
  clear hS
  have hl1 : (xorL k n c (y.take H)).length = H := by rw [xorL_length, ← (hb1 _ hz0).len_eq]
  have hl2 : (xorL k n CC (y.drop H)).length = L2 := by rw [xorL_length, ← (hb2 _ hz0).len_eq]
  have hO1 : OwnB w2.drew W0.heap.size (.slice (some ⟨g1, 0, none⟩) H H) (xorL k n c (y.take H)) := by
    have := OwnB.ofHolds (base := W0.heap.size) ((hH1.drew).below hBB3 (by simpa using hH1.lt)).drew (by simpa using hg1) (by omega)
    rw [hl1] at this
    exact this
  have hY2 : Bytes w2.drew (some ⟨g2, 0, none⟩) L2 L2 (xorL k n CC (y.drop H)) := hH2.drew.bytes hl2.symm (by omega)
  obtain ⟨Z1, hZ1⟩ : ∃ X, xorL k n c (y.take H) = X := ⟨_, rfl⟩
  obtain ⟨Z2, hZ2⟩ : ∃ X, xorL k n CC (y.drop H) = X := ⟨_, rfl⟩
  obtain ⟨ZZ, hZZ⟩ : ∃ X, xorL k n c y = X := ⟨_, rfl⟩
  have hx3 : ∀ wx, Below W0.heap.size W0 wx → Calls Try.prog 16 #[.agg (List.map (Value.int .u8) k).toArray, .agg (List.map (Value.int .u8) n).toArray, .int .u32 c, .slice x m cap] wx fun e w' => ∃ g, e = .returned (.slice (some ⟨g, 0, none⟩) m m) ∧ Bytes w' (some ⟨g, 0, none⟩) m m ZZ ∧ Below wx.heap.size wx w' := fun wx hx => by
    refine (hxor c x m cap y wx hc (hz0.below hx) hm5).mono ?_
    rintro e w' ⟨g, h1, _, h3, h4⟩
    rw [← hZZ]
    exact ⟨g, h1, h3.bytes (by rw [xorL_length]; exact hz0.len_eq) (by rw [xorL_length, ← hz0.len_eq]; omega), h4⟩
  rw [hZ1, hZ2, hZZ] at hcut
  rw [hZ1] at hO1 hl1
  rw [hZ2] at hY2 hl2
  obtain ⟨SY, hSY⟩ : ∃ s, strOfNums ZZ = s := ⟨_, rfl⟩
  clear hZ1 hZ2 hZZ hxor hb1 hb2 hs1 hs2 hH1 hH2 hz0 hA0 hBB3 hBB1 hg1 hg2
  go_upto_region 5 with fail
  refine wp_region_gate (fun w' => w'.rangeAt w.heap.size 0 (k.map (Value.int .u8)) ∧ w'.rangeAt w.heap.size 32 (n.map (Value.int .u8)) ∧ w'.cell? ⟨w.heap.size, 44, none⟩ = some (.int .u32 c)) 17 (by kernel_rfl) ?_
  have hS := keep0 _ hB2.drew
  refine wpAnyG_one (i := 0) rfl (by kernel_rfl) (by kernel_rfl) (fun K hK => ?_)
  go_wp2_with (go_at_call 11; refine (live_any _).mono ?_; rintro e w3 ⟨rfl, rfl⟩)
  refine hK.out _ _ (fun _ => hS) ?_
  clear hK K
  refine wpAnyG_any (i := 1) (v := ?_) rfl (by kernel_rfl) (by kernel_rfl) (by kernel_rfl) (fun _ _ _ h => h) (by kernel_rfl) (fun _ => hS) (by kernel_rfl) ?_ ?_
  rotate_left
  · intro _; go_simp; try with_reducible rfl
  simp only [Act.put, List.setIfInBounds_toArray, List.set_cons_zero, List.set_cons_succ]
  refine wpAnyG_any (i := 2) (v := ?_) rfl (by kernel_rfl) (by kernel_rfl) (by kernel_rfl) (fun _ _ _ h => h) (by kernel_rfl) (fun _ => hS) (by kernel_rfl) ?_ ?_
  rotate_left
  · intro _; go_simp; try with_reducible rfl
  simp only [Act.put, List.setIfInBounds_toArray, List.set_cons_zero, List.set_cons_succ]
  refine wpAnyG_any (i := 3) (v := ?_) rfl (by kernel_rfl) (by kernel_rfl) (by kernel_rfl) (fun _ _ _ h => h) (by kernel_rfl) (fun _ => hS) (by kernel_rfl) ?_ ?_
  rotate_left
  · intro _; go_simp; try with_reducible rfl
  simp only [Act.put, List.setIfInBounds_toArray, List.set_cons_zero, List.set_cons_succ]
  refine wpAnyG_any (i := 6) (v := ?_) rfl (by kernel_rfl) (by kernel_rfl) (by kernel_rfl) (fun _ _ _ h => h) (by kernel_rfl) (fun _ => hS) (by kernel_rfl) ?_ ?_
  rotate_left
  · intro _; go_simp; try with_reducible rfl
  simp only [Act.put, List.setIfInBounds_toArray, List.set_cons_zero, List.set_cons_succ]
  refine wpAnyG_load (i := 7) (dst := some 51) (ty := 30) (x := .tmp 50) (b := w.heap.size) (o := 0) (cs := (k.map (Value.int .u8))) (by kernel_rfl) (by kernel_rfl) (by kernel_rfl) (by kernel_rfl) (by kernel_rfl) (fun _ _ _ h => h) (by kernel_rfl) (by kernel_rfl) (by kernel_rfl) hS (by kernel_rfl) (fun _ h => h.1) uK rfl iK ?_
  simp only [Act.put, List.setIfInBounds_toArray, List.set_cons_zero, List.set_cons_succ]
  refine wpAnyG_any (i := 8) (v := ?_) rfl (by kernel_rfl) (by kernel_rfl) (by kernel_rfl) (fun _ _ _ h => h) (by kernel_rfl) (fun _ => hS) (by kernel_rfl) ?_ ?_
  rotate_left
  · intro _; go_simp; try with_reducible rfl
  simp only [Act.put, List.setIfInBounds_toArray, List.set_cons_zero, List.set_cons_succ]
  refine wpAnyG_load (i := 9) (dst := some 53) (ty := 32) (x := .tmp 52) (b := w.heap.size) (o := 32) (cs := (n.map (Value.int .u8))) (by kernel_rfl) (by kernel_rfl) (by kernel_rfl) (by kernel_rfl) (by kernel_rfl) (fun _ _ _ h => h) (by kernel_rfl) (by kernel_rfl) (by kernel_rfl) hS (by kernel_rfl) (fun _ h => h.2.1) uN rfl iN ?_
  simp only [Act.put, List.setIfInBounds_toArray, List.set_cons_zero, List.set_cons_succ]
  refine wpAnyG_any (i := 10) (v := ?_) rfl (by kernel_rfl) (by kernel_rfl) (by kernel_rfl) (fun _ _ _ h => h) (by kernel_rfl) (fun _ => hS) (by kernel_rfl) ?_ ?_
  rotate_left
  · intro _; go_simp; try with_reducible rfl
  simp only [Act.put, List.setIfInBounds_toArray, List.set_cons_zero, List.set_cons_succ]
  refine wpAnyG_read (i := 11) (v := ?_) rfl (by kernel_rfl) (by kernel_rfl) (by kernel_rfl) (fun _ _ _ h => h) (by kernel_rfl) (by kernel_rfl) (by kernel_rfl) hS (by kernel_rfl) ?_ ?_
  rotate_left
  · intro wx hSw; go_split_ands; go_simp; try with_reducible rfl
  simp only [Act.put, List.setIfInBounds_toArray, List.set_cons_zero, List.set_cons_succ]
  refine wpAnyG_any (i := 12) (v := ?_) rfl (by kernel_rfl) (by kernel_rfl) (by kernel_rfl) (fun _ _ _ h => h) (by kernel_rfl) (fun _ => hS) (by kernel_rfl) ?_ ?_
  rotate_left
  · intro _; go_simp; try with_reducible rfl
  simp only [Act.put, List.setIfInBounds_toArray, List.set_cons_zero, List.set_cons_succ]
  refine wpAnyG_one (i := 4) rfl (by kernel_rfl) (by kernel_rfl) (fun K hK => ?_)
  refine wp_app (.tmp 46) (.tmp 47) (by kernel_rfl) W0.heap.size _ Z1 (by kernel_rfl) hO1 g2 L2 L2 Z2 (by kernel_rfl) hY2 (by omega) (by simpa using hB2.size) ?_
  rintro v' w4 hO4 hgr
  have hB4 : Below W0.heap.size W0 w4 := below_grown hB2.drew hO1 hgr (by simpa using hB2.size)
  rw [hcut.out] at hO4
  obtain ⟨x', n', c', rfl, hn'⟩ := hO4.isSlice
  have hY4 := hO4.bytes.2
  clear hn' hO4
  replace hS := keep0 _ hB4
  refine hK.out _ _ (fun _ => hS) ?_
  clear hK K
  refine wpAnyG_more (S' := fun w' => (w'.rangeAt w.heap.size 0 (k.map (Value.int .u8)) ∧ w'.rangeAt w.heap.size 32 (n.map (Value.int .u8)) ∧ w'.cell? ⟨w.heap.size, 44, none⟩ = some (.int .u32 c)) ∧ (convert 38 9 (.slice x' n' c')).run Try.prog w' = .ok (.string SY) w') (fun _ h => h.1) _ _ _ _ ?_
  have keep4 : ∀ w', Below w4.heap.size w4 w' → (w'.rangeAt w.heap.size 0 (k.map (Value.int .u8)) ∧ w'.rangeAt w.heap.size 32 (n.map (Value.int .u8)) ∧ w'.cell? ⟨w.heap.size, 44, none⟩ = some (.int .u32 c)) ∧ (convert 38 9 (.slice x' n' c')).run Try.prog w' = .ok (.string SY) w' := fun w' hb =>
    ⟨keep0 _ (hB4.trans (hb.mono hB4.size)), by rw [← hSY]; exact conv_bytes (hY4.below hb)⟩
  replace hS := keep4 _ (Below.refl _ _)
  simp only [Act.put, List.setIfInBounds_toArray, List.set_cons_zero, List.set_cons_succ]
  refine wpAnyG_read (i := 5) (v := ?_) rfl (by kernel_rfl) (by kernel_rfl) (by kernel_rfl) (fun _ _ _ h => h) (by kernel_rfl) (by kernel_rfl) (by kernel_rfl) hS (by kernel_rfl) ?_ ?_
  rotate_left
  · intro wx hSw; go_split_ands; go_simp; try with_reducible rfl
  simp only [Act.put, List.setIfInBounds_toArray, List.set_cons_zero, List.set_cons_succ]
  refine wpAnyG_one (i := 13) rfl (by kernel_rfl) (by kernel_rfl) (fun K hK => ?_)
  go_wp2_with (go_at_call 16; refine (hx3 _ hB4).mono ?_; rintro e w5 ⟨g5, rfl, hY5, hB5⟩)
  replace hS := keep4 _ hB5
  have hcv : (convert 38 9 (.slice (some ⟨g5, 0, none⟩) m m)).run Try.prog w5 = .ok (.string SY) w5 := by rw [← hSY]; exact conv_bytes hY5
  clear hSY
  refine hK.out _ _ (fun _ => hS) ?_
  clear hK K
  refine wpAnyG_one (i := 14) rfl (by kernel_rfl) (by kernel_rfl) (fun K hK => ?_)
  go_simp
  refine hK.out _ _ (fun _ => hS) ?_
  clear hK K
  refine wpAnyG_any (i := 15) (v := .bool true) rfl (by kernel_rfl) (by kernel_rfl) (by kernel_rfl) (fun _ _ _ h => h) (by kernel_rfl) (fun _ => hS) (by kernel_rfl) ?_ ?_
  · intro _; go_simp
  simp only [Act.put, List.setIfInBounds_toArray, List.set_cons_zero, List.set_cons_succ]
  refine wpAnyG_any (i := 16) (v := .bool true) rfl (by kernel_rfl) (by kernel_rfl) (by kernel_rfl) (fun _ _ _ h => h) (by kernel_rfl) (fun _ => hS) (by kernel_rfl) ?_ ?_
  · intro _; go_simp
  simp only [Act.put, List.setIfInBounds_toArray, List.set_cons_zero, List.set_cons_succ]
  refine wpAnyG_one (i := 17) rfl (by kernel_rfl) (by kernel_rfl) (fun K hK => ?_)
  go_simp
  refine hK.out _ _ (fun h => absurd (show true = false from h) (by decide)) ?_
  clear hK K
  refine wpAnyG_done (by kernel_rfl) ?_ _
  go_wp2
  go_ret
  exact ⟨rfl, (hB0.trans ((hB4.trans (hB5.mono hB4.size)).mono hB0.size))⟩
theorem bounds8 {v : Int} (h : (Lit.int .u8 v).wf = true) : U8 v := by
  simp [Lit.wf, IntKind.min, IntKind.max, IntKind.bits, IntKind.signed] at h
  exact ⟨h.1, by omega⟩
end Go.Proofs.Ytobfknpgkdiicaa
