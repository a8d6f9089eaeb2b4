/- The statement TopStreams, walked. -/
import Derived.Test.YtobfknpgkdiicabCy
import Derived.Test.YtobfknpgkdiicabFewT
import Derived.Test.YtobfknpgkdiicabGate4
namespace Go.Proofs.Ytobfknpgkdiicab
open Go.RowKit
set_option maxRecDepth 20000
set_option linter.unusedSimpArgs false

theorem xor_take (k n : List Int) (c : Int) (z : List Int) (i : Nat) (h : i ≤ z.length) : xorL k n c (z.take i) = (xorL k n c z).take i := by
  refine getD_ext (by rw [xorL_length, List.length_take, List.length_take, xorL_length]) fun j hj => ?_
  rw [xorL_length, List.length_take] at hj
  rw [List.getElem?_take_of_lt (by omega), xorL_get _ _ _ _ _ (by rw [List.length_take]; omega), xorL_get _ _ _ _ _ (by omega), List.getElem?_take_of_lt (by omega)]
set_option maxRecDepth 100000 in
theorem zero0 : (blockL (List.replicate 32 0) (List.replicate 12 0) 0)[0]?.getD 0 = 118 := by kernel_rfl
set_option maxRecDepth 100000 in
theorem zero1 : (blockL (List.replicate 32 0) (List.replicate 12 0) 0)[1]?.getD 0 = 184 := by kernel_rfl
/-- An array that is written out. -/
theorem wpList_buildT {P : Program} {ops : Array Oper} {rest : List Oper} {o : Oper} {a : Act} {w : World} {Q : Exit → Act → World → Prop} (hgd : o.guard = none) (t : TypeId) (parts : Array (Nat × Operand)) (ho : o.op = .build t parts) (v : Value)
    (hrun : ∀ wx, (Instr.build t (parts.map fun (i, x) => (i, a.eval x))).run P wx = .ok v wx) (h : wpList P ops Q rest (a.put o.dst v) w) : wpList P ops Q (o :: rest) a w :=
  wpList_plain hgd fun _ hK => by
    unfold Oper.wp execOp
    simp only [ho, Sem.run_bind, Sem.run_pure, Result.andThen_ok, hrun]
    exact hK _ _ h
theorem Holds.rangeT {w : World} {g : Nat} {k : IntKind} {t : TypeId} {l : List Int} (h : Holds w g k t l) : w.rangeAt g 0 (l.map (Value.int k)) := fun j v hv => by
  have hj : j < l.length := by have := (List.getElem?_eq_some_iff.1 hv).1; simpa using this
  rw [Nat.zero_add, h.cell j hj, ← hv, List.getElem?_map, List.getElem?_eq_getElem hj]; rfl
theorem sizeKeyT (k : List Int) (hk : k.length = 32) : (Try.prog.info? 23).map (·.size) = some (k.map (Value.int .u8)).length := by rw [List.length_map, hk]; exact sizeKey
theorem sizeNonceT (n : List Int) (hn : n.length = 12) : (Try.prog.info? 25).map (·.size) = some (n.map (Value.int .u8)).length := by rw [List.length_map, hn]; exact sizeNonce

set_option maxHeartbeats 4000000 in
theorem streams_walk (k n : List Int) (x : Option Addr) (len cap : Nat) (z : List Int) (w : World) (hk : k.length = 32) (hn : n.length = 12) (hz : Bytes w x len cap z) :
    Calls Try.prog 4 #[.agg (row .u8 k), .agg (row .u8 n), .slice x len cap] w fun e w' => e = .returned (.bool true) ∧ Below w.heap.size w w' := by
  have hf := fun wx h => fewT_any x len cap 400 z wx h (by omega) (by omega)
  have hz5 := hz.few 400
  obtain ⟨m, hm⟩ : ∃ m, min len 400 = m := ⟨_, rfl⟩
  obtain ⟨y, hy⟩ : ∃ y, z.take 400 = y := ⟨_, rfl⟩
  have hm5 : m ≤ 400 := by omega
  rw [hm] at hf hz5
  rw [hy] at hz5
  clear hm hy
  have hmy := hz5.len_eq
  have hle := hz5.le
  have htop := hz5.top
  have h7 : U32 7 := ⟨by decide, by decide⟩
  have uK := Try.underlying23
  have uN := Try.underlying25
  have iK := sizeKeyT k hk
  have iN := sizeNonceT n hn
  have hxor : ∀ (x : Option Addr) (len cap : Nat) (z : List Int) (wx : World), Bytes wx x len cap z → len ≤ 400 → Calls Try.prog 9 #[.agg (List.map (Value.int .u8) k).toArray, .agg (List.map (Value.int .u8) n).toArray, .int .u32 7, .slice x len cap] wx fun e w' => ∃ g, e = .returned (.slice (some ⟨g, 0, none⟩) len len) ∧ wx.heap.size ≤ g ∧ Holds w' g .u8 5 (xorL k n 7 z) ∧ Below wx.heap.size wx w' := fun x len cap z wx h hl =>
    xor_any k n 7 x len cap z wx hk hn h7 h (by omega)
  have HXT : Veil (∀ i, i ≤ m → xorL k n 7 (y.take i) = (xorL k n 7 y).take i) := ⟨fun i hi => xor_take k n 7 y i (by omega)⟩
  have hXl : (xorL k n 7 y).length = m := by rw [xorL_length, hmy]
  obtain ⟨XL, hXL⟩ : ∃ X, xorL k n 7 y = X := ⟨_, rfl⟩
  have HXL : Veil (xorL k n 7 y = XL) := ⟨hXL⟩
  rw [hXL] at HXT hXl
  clear hXL hmy
  go_enter Try.func4, Try.ntmps4
  go_upto_region 1 with fail
  refine forget (p := fun y => Code.wp _ _ _ _ y) (fun W0 => Below w.heap.size w W0 ∧ W0.heap.size = w.heap.size + 1 + 1 ∧ Holds W0 w.heap.size .u8 23 k ∧ Holds W0 (w.heap.size + 1) .u8 25 n) ⟨?_, by simp, ?_, ?_⟩ ?_
  · exact ((Below.refl _ _).alloc (Nat.le_refl _) _).alloc (by simp) _
  · exact (Holds.new w .u8 23 k).alloc _
  · have := (Holds.new (w.alloc (.cells (row .u8 k) 23)) .u8 25 n)
    rw [World.size_alloc] at this
    exact this
  rintro W0 ⟨hB0, hs0, hK0, hN0⟩
  have hf0 := hf _ (hz.below hB0)
  have hX0 := hxor x m cap y W0 (hz5.below hB0) hm5
  rw [HXL.out] at hX0
  clear hf hz
  go_upto_region 5 with (first
    | (go_at_call 12; refine hf0.mono ?_; rintro e w' ⟨rfl, rfl⟩)
    | (refine wpList_load_mid rfl 23 _ rfl _ _ rfl _ _ hK0.rangeT uK rfl iK ?_)
    | (refine wpList_load_mid rfl 25 _ rfl _ _ rfl _ _ hN0.rangeT uN rfl iN ?_)
    | (go_at_call 9; refine hX0.mono ?_; rintro e w1 ⟨g, rfl, hg, hX1, hb1⟩))
  have hB1 : Below w.heap.size w w1 := hB0.trans (hb1.mono hB0.size)
  have hK1 := hK0.below hb1 hK0.lt
  have hN1 := hN0.below hb1 hN0.lt
  have hs1 := hb1.size
  clear hX0 hf0 hb1 hB0 hK0 hN0
  go_wp2_with fail
  go_loopw [8] (fun v wr => ∃ j : Nat, 37 * j < m + 37 ∧ v = .int .i64 ((37 * j : Nat) : Int) ∧ Below w.heap.size w wr ∧ Holds wr w.heap.size .u8 23 k ∧ Holds wr (w.heap.size + 1) .u8 25 n ∧ Holds wr g .u8 5 XL)
    (fun v _ => m + 37 - (intOf v).toNat)
  case atStart => exact ⟨0, by omega, rfl, hB1, hK1, hN1, hX1⟩
  case round =>
    clear hB1 hK1 hN1 hX1 hs1 hg
    obtain ⟨j, hj, rfl, hB, hK, hN, hX⟩ := hrel
    obtain ⟨I, hIe⟩ : ∃ I, 37 * j = I := ⟨_, rfl⟩
    have HI : Veil (37 * j = I) := ⟨hIe⟩
    rw [hIe] at hj ⊢
    clear hIe
    by_cases hlt : I < m
    · have hIi : (I : Int) < (m : Int) := by omega
      have hIc : (I : Int) ≤ (cap : Int) := by omega
      have hIm : (I : Int) ≤ (m : Int) := by omega
      have hxt := HXT.out I (by omega)
      obtain ⟨X2, hX2⟩ : ∃ X, (if cap = 0 then x else x.map (·.add (0 * 1))) = X := ⟨_, rfl⟩
      have hs1 : ∀ wx, (Instr.slice 29 (.slice x m cap) none (some (.int .i64 (I : Int))) none).run Try.prog wx = .ok (.slice X2 I cap) wx := fun wx => by
        have eB : Try.prog.underlying 29 = some (.slice (Try.prog.elem 29)) := by kernel_rfl
        have eS : (sizeOf (Try.prog.elem 29)).run Try.prog wx = .ok 1 wx := by kernel_rfl
        rw [run_slice_h wx 29 x m cap eB .i64 (I : Int) (by omega) (by omega), eS, ← hX2]
        simp [sliced, Result.andThen]
      have hx2 : x = X2 ∨ I = 0 := by
        rw [← hX2]
        rcases (hz5.at_) with h0 | ⟨b, off, hx, _⟩
        · omega
        · left
          rw [hx]
          split
          · rfl
          · rw [Option.map_some, Addr.add_mid', Nat.zero_mul, Nat.add_zero]
      have hyI : ∀ wx, Below w.heap.size w wx → Bytes wx X2 I cap (y.take I) := fun wx hb => by
        have h := (hz5.below hb).few I
        rw [Nat.min_eq_right (by omega)] at h
        rcases hx2 with rfl | h0
        · exact h
        · subst h0
          refine ⟨by simp, by omega, h.top, ?_, .inl rfl⟩
          intro hn0
          rw [← hX2] at hn0
          split at hn0
          · omega
          · cases x with
            | none => exact absurd (hz5.nil rfl) (by omega)
            | some a => simp at hn0
      clear hX2 hx2
      have hxr := hxor X2 I cap (y.take I)
      rw [hxt] at hxr
      obtain ⟨SI, hSI⟩ : ∃ s, strOfNums (XL.take I) = s := ⟨_, rfl⟩
      have hcvA : ∀ wx, Below wr.heap.size wr wx → (convert 29 9 (.slice (some ⟨g, 0, none⟩) I m)).run Try.prog wx = .ok (.string SI) wx := fun wx hb => by
        have h := ((hX.below hb hX.lt).bytes hXl.symm (by omega)).few I
        rw [Nat.min_eq_right (by omega)] at h
        rw [← hSI]; exact conv_bytes h
      have keep : ∀ w', Below wr.heap.size wr w' → w'.rangeAt w.heap.size 0 (k.map (Value.int .u8)) ∧ w'.rangeAt (w.heap.size + 1) 0 (n.map (Value.int .u8)) ∧ (convert 29 9 (.slice (some ⟨g, 0, none⟩) I m)).run Try.prog w' = .ok (.string SI) w' := fun w' hb =>
        ⟨(hK.below hb hK.lt).rangeT, (hN.below hb hN.lt).rangeT, hcvA _ hb⟩
      clear hxt hcvA
      go_upto_region 8 with fail
      refine wp_region_gateT (fun w' => w'.rangeAt w.heap.size 0 (k.map (Value.int .u8)) ∧ w'.rangeAt (w.heap.size + 1) 0 (n.map (Value.int .u8)) ∧ (convert 29 9 (.slice (some ⟨g, 0, none⟩) I m)).run Try.prog w' = .ok (.string SI) w') (fun _ => True) 11 (by kernel_rfl) ?_
      have hS := trivial
      have hT := keep _ (Below.refl _ _).drew
      refine wpAnyT_load (i := 0) (dst := some 27) (ty := 23) (x := .tmp 3) (b := w.heap.size) (o := 0) (cs := (k.map (Value.int .u8))) (by kernel_rfl) (by kernel_rfl) (by kernel_rfl) (by kernel_rfl) (by kernel_rfl) (fun _ _ _ h => h) (by kernel_rfl) hT (fun _ => hS) (by kernel_rfl) (fun _ h => h.1) uK rfl iK ?_
      simp only [Act.put, List.setIfInBounds_toArray, List.set_cons_zero, List.set_cons_succ]
      refine wpAnyT_load (i := 1) (dst := some 28) (ty := 25) (x := .tmp 4) (b := (w.heap.size + 1)) (o := 0) (cs := (n.map (Value.int .u8))) (by kernel_rfl) (by kernel_rfl) (by kernel_rfl) (by kernel_rfl) (by kernel_rfl) (fun _ _ _ h => h) (by kernel_rfl) hT (fun _ => hS) (by kernel_rfl) (fun _ h => h.2.1) uN rfl iN ?_
      simp only [Act.put, List.setIfInBounds_toArray, List.set_cons_zero, List.set_cons_succ]
      refine wpAnyT_held (i := 2) (v := ?_) rfl (by kernel_rfl) (by kernel_rfl) (by kernel_rfl) (fun _ _ _ h => h) (by kernel_rfl) hT (fun _ => hS) (by kernel_rfl) ?_ ?_
      rotate_left
      · intro wx hSw; go_split_ands; go_simp; try with_reducible rfl
      simp only [Act.put, List.setIfInBounds_toArray, List.set_cons_zero, List.set_cons_succ]
      refine wpAnyT_held (i := 3) (v := ?_) rfl (by kernel_rfl) (by kernel_rfl) (by kernel_rfl) (fun _ _ _ h => h) (by kernel_rfl) hT (fun _ => hS) (by kernel_rfl) ?_ ?_
      rotate_left
      · intro wx hSw; go_split_ands; go_simp; try with_reducible rfl
      simp only [Act.put, List.setIfInBounds_toArray, List.set_cons_zero, List.set_cons_succ]
      refine wpAnyT_held (i := 4) (v := .slice X2 I cap) rfl (by kernel_rfl) (by kernel_rfl) (by kernel_rfl) (fun _ _ _ h => h) (by kernel_rfl) hT (fun _ => hS) (by kernel_rfl) ?_ ?_
      · intro wx hSw; go_split_ands; go_simp
      simp only [Act.put, List.setIfInBounds_toArray, List.set_cons_zero, List.set_cons_succ]
      refine wpAnyT_held (i := 7) (v := ?_) rfl (by kernel_rfl) (by kernel_rfl) (by kernel_rfl) (fun _ _ _ h => h) (by kernel_rfl) hT (fun _ => hS) (by kernel_rfl) ?_ ?_
      rotate_left
      · intro wx hSw; go_split_ands; go_simp; try with_reducible rfl
      simp only [Act.put, List.setIfInBounds_toArray, List.set_cons_zero, List.set_cons_succ]
      refine wpAnyT_held (i := 8) (v := ?_) rfl (by kernel_rfl) (by kernel_rfl) (by kernel_rfl) (fun _ _ _ h => h) (by kernel_rfl) hT (fun _ => hS) (by kernel_rfl) ?_ ?_
      rotate_left
      · intro wx hSw; go_split_ands; go_simp; try with_reducible rfl
      simp only [Act.put, List.setIfInBounds_toArray, List.set_cons_zero, List.set_cons_succ]
      refine wpAnyT_held (i := 9) (v := .slice (some ⟨g, 0, none⟩) I m) rfl (by kernel_rfl) (by kernel_rfl) (by kernel_rfl) (fun _ _ _ h => h) (by kernel_rfl) hT (fun _ => hS) (by kernel_rfl) ?_ ?_
      · intro wx hSw; go_split_ands; go_simp
      simp only [Act.put, List.setIfInBounds_toArray, List.set_cons_zero, List.set_cons_succ]
      refine wpAnyT_held (i := 10) (v := ?_) rfl (by kernel_rfl) (by kernel_rfl) (by kernel_rfl) (fun _ _ _ h => h) (by kernel_rfl) hT (fun _ => hS) (by kernel_rfl) ?_ ?_
      rotate_left
      · intro wx hSw; go_split_ands; go_simp; try with_reducible rfl
      simp only [Act.put, List.setIfInBounds_toArray, List.set_cons_zero, List.set_cons_succ]
      refine wpAnyT_one (i := 5) rfl (by kernel_rfl) (by kernel_rfl) (fun K hK => ?_)
      go_wp2_with (go_at_call 9; refine (hxr _ (hyI _ hB.drew) (by omega)).mono ?_; rintro e w3 ⟨g3, rfl, hg3, hX3, hb3⟩)
      have hB3 : Below wr.heap.size wr w3 := ((Below.refl _ _).drew).trans hb3
      replace hT := keep _ hB3
      have hcv : (convert 29 9 (.slice (some ⟨g3, 0, none⟩) I I)).run Try.prog w3 = .ok (.string SI) w3 := by
        rw [← hSI]; exact conv_bytes (hX3.bytes (by rw [List.length_take]; omega) (by rw [List.length_take]; omega))
      clear hSI
      refine hK.out _ _ hT (fun _ => hS) ?_
      clear hK K
      refine wpAnyT_one (i := 6) rfl (by kernel_rfl) (by kernel_rfl) (fun K hK => ?_)
      go_simp
      refine hK.out _ _ hT (fun _ => hS) ?_
      clear hK K
      refine wpAnyT_one (i := 11) rfl (by kernel_rfl) (by kernel_rfl) (fun K hK => ?_)
      go_simp
      refine hK.out _ _ hT (fun _ => trivial) ?_
      clear hK K
      refine wpAnyT_done (by kernel_rfl) ?_ _
      clear hT hS hxr hyI keep hcv
      have hw37 : IntKind.i64.wrap ((I : Int) + 37) = (I : Int) + 37 := by rw [IntKind.wrap_i64]; omega
      go_wp2
      go_roundw
      case rel =>
        have hI := HI.out
        exact ⟨j + 1, by omega, by congr 1; omega, hB.trans (hB3.mono hB.size), hK.below hB3 hK.lt, hN.below hB3 hN.lt, hX.below hB3 hX.lt⟩
      case measure => simp [intOf]; omega
    · have nle : ¬ ((I : Int) < (m : Int)) := by omega
      have hbz := fun wx => block_any (List.replicate 32 0) (List.replicate 12 0) 0 wx (by simp) (by simp)
      have hbl := blockL_length (List.replicate 32 0) (List.replicate 12 0) 0
      have e0 := zero0
      have e1 := zero1
      obtain ⟨BZ, hBZ⟩ : ∃ B, blockL (List.replicate 32 0) (List.replicate 12 0) 0 = B := ⟨_, rfl⟩
      rw [hBZ] at hbz hbl e0 e1
      clear hBZ hxor HXT HXL hXl hX hK hN
      go_upto_region 11 with (first
        | (refine wpList_buildT rfl 23 _ rfl (.agg (row .u8 (List.replicate 32 0))) (fun _ => by kernel_rfl) ?_)
        | (refine wpList_buildT rfl 25 _ rfl (.agg (row .u8 (List.replicate 12 0))) (fun _ => by kernel_rfl) ?_)
        | (go_at_call 10; refine (hbz _).mono ?_; rintro e w5 ⟨rfl, hb5⟩; have hF0 := Holds.new w5 .u8 31 (List.replicate 64 0))
        | (refine wpList_st rfl 31 _ _ rfl _ rfl rfl hF0 (by rw [hbl]; exact size64) (by simp [hbl]) ?_))
      have hsz5 := hb5.size
      refine forget (p := fun y => Code.wp _ _ _ _ y) (fun W6 => Below w.heap.size w W6 ∧ Holds W6 w5.heap.size .u8 31 BZ) ⟨below_setRow ((hB.trans (hb5.mono hB.size)).alloc (by have := hB.size; omega) _) (by have := hB.size; omega) _, hF0.setRow _⟩ ?_
      clear hF0 hB hb5 hbz
      rintro W6 ⟨hB6, hF6⟩
      have c0 := hF6.cell 0 (by omega)
      have c1 := hF6.cell 1 (by omega)
      rw [e0] at c0
      rw [e1] at c1
      simp only [Act.put]
      go_wp2
      go_ret
      exact ⟨rfl, hB6⟩
end Go.Proofs.Ytobfknpgkdiicab
