/- The statement TopTags, walked. -/
import Derived.Test.YtobfknpgkdiicadDoorMac7
import Derived.Test.YtobfknpgkdiicadDoorEq
import Derived.Test.YtobfknpgkdiicadDoorFewS
import Derived.Test.YtobfknpgkdiicadDoorGateS2
namespace Go.Proofs.YtobfknpgkdiicadDoor
open Go.RowKit
set_option maxRecDepth 20000
set_option linter.unusedSimpArgs false

theorem own_first {w : World} {base : Nat} {v : Value} {z : List Int} (h : OwnB w base v z) (hz : 0 < z.length) : ∃ g, v.ownBlock = some g ∧ w.cell? ⟨g, 0, none⟩ = some (.int .u8 (z[0]?.getD 0)) := by
  rcases h.2 with ⟨_, h0⟩ | ⟨g, cap, cur, rfl, hb, hg, hc, hm, hs, ht⟩
  · omega
  · refine ⟨g, rfl, ?_⟩
    rw [cell_of_row w g 0 _ _ _ hg, ← Array.getElem?_toList]
    have e : (cur.toList.take (z.length * 1))[0]? = (z.map (Value.int .u8))[0]? := by rw [ht]
    rw [Nat.mul_one, List.getElem?_take_of_lt hz, List.getElem?_map, List.getElem?_eq_getElem hz] at e
    rw [e, List.getElem?_eq_getElem hz]; rfl
/-- Rows whose first bytes are unlike lie apart. -/
theorem own_apart {w : World} {base base' : Nat} {v u : Value} {z y : List Int} (hv : OwnB w base v z) (hu : OwnB w base' u y) (hz : 0 < z.length) (hy : 0 < y.length) (hne : z[0]?.getD 0 ≠ y[0]?.getD 0) : v.ownBlock ≠ u.ownBlock := by
  obtain ⟨g, h1, h2⟩ := own_first hv hz
  obtain ⟨g', h3, h4⟩ := own_first hu hy
  intro e
  rw [h1, h3] at e
  cases e
  have h5 := Option.some.inj (h2.symm.trans h4)
  injection h5 with _ h6
  exact hne h6
theorem own_kept {w w' : World} {base : Nat} {u v : Value} {y : List Int} (hu : OwnB w base u y) (hg : w.grownBy w' v.ownBlock) (hne : u = .slice none 0 0 ∨ v.ownBlock = none ∨ v.ownBlock ≠ u.ownBlock) : OwnB w' base u y := by
  refine ⟨hu.1, ?_⟩
  rcases hu.2 with h' | ⟨g, cap, cur, h1, h2, h3, h4⟩
  · exact .inl h'
  · refine .inr ⟨g, cap, cur, h1, h2, ?_, h4⟩
    rw [hg.block g (Array.getElem?_eq_some_iff.1 h3).1 (fun e => by
      rcases hne with h | h | h
      · rw [h1] at h; cases h
      · rw [h] at e; cases e
      · exact h (by rw [h1]; exact e.symm))]
    exact h3
theorem OwnB.belowM {w w' : World} {base : Nat} {v : Value} {z : List Int} (h : OwnB w base v z) (hb : Below w.heap.size w w') : OwnB w' base v z := by
  refine ⟨h.1, ?_⟩
  rcases h.2 with h' | ⟨g, cap, cur, h1, h2, h3, h4⟩
  · exact .inl h'
  · refine .inr ⟨g, cap, cur, h1, h2, ?_, h4⟩
    rw [hb.block g (Array.getElem?_eq_some_iff.1 h3).1]; exact h3
theorem xor_ne (c : Int) (h0 : 0 ≤ c) (h1 : c ≤ 255) : bits .xor .u8 c 54 ≠ bits .xor .u8 c 92 := by
  obtain ⟨n, rfl⟩ : ∃ n : Nat, c = n := ⟨c.toNat, by omega⟩
  have hn : n < 256 := by omega
  have key : ∀ m : Fin 256, bits .xor .u8 (m.1 : Int) 54 ≠ bits .xor .u8 (m.1 : Int) 92 := by decide +kernel
  exact key ⟨n, hn⟩

/-- What is kept of a row of the call's own where only blocks of another type turn. -/
theorem OwnB.keepM {w w' : World} {base : Nat} {v : Value} {z : List Int} (h : OwnB w base v z) (hk : ∀ g, base ≤ g → g < w.heap.size → w'.heap[g]? = w.heap[g]? ∨ ∃ cs t fr, w.heap[g]? = some (.cells cs t fr) ∧ t ≠ 5) : OwnB w' base v z := by
  refine ⟨h.1, ?_⟩
  rcases h.2 with h' | ⟨g, cap, cur, h1, h2, h3, h4⟩
  · exact .inl h'
  · refine .inr ⟨g, cap, cur, h1, h2, ?_, h4⟩
    rcases hk g h2 (Array.getElem?_eq_some_iff.1 h3).1 with h | ⟨cs, t, fr, h5, h6⟩
    · rw [h]; exact h3
    · rw [h3] at h5
      simp at h5
      exact absurd h5.2.1.symm h6
theorem holds_grown {w w' : World} {g base : Nat} {t : TypeId} {l z : List Int} {v : Value} (h : Holds w g .u8 t l) (hv : OwnB w base v z) (hg : w.grownBy w' v.ownBlock) (ht : t ≠ 5) : Holds w' g .u8 t l := by
  have hl := h.lt
  unfold Holds at h ⊢
  rw [hg.block g hl (fun e => by
    rcases hv.2 with ⟨rfl, _⟩ | ⟨g', cap, cur, rfl, _, h3, _⟩
    · cases e
    · simp [Value.ownBlock] at e
      subst e
      rw [h] at h3
      simp at h3
      exact ht h3.2)]
  exact h
theorem wp_appM {w : World} {o : Oper} {a : Act} {K : Act → World → Prop} {Q : Exit → Act → World → Prop} (s x : Operand)
    (ho : o.op = .call { callee := .builtin .append, args := #[s, x], argTypes := #[24, 24] }) (base : Nat) (v : Value) (zs : List Int) (hs : a.eval s = v) (hown : OwnB w base v zs)
    (g len cap : Nat) (z : List Int) (hx : a.eval x = .slice (some ⟨g, 0, none⟩) len cap) (hb : Bytes w (some ⟨g, 0, none⟩) len cap z) (hln : zs.length + len ≤ 4000000) (hbase : base ≤ w.heap.size)
    (h : ∀ v' w', OwnB w' base v' (zs ++ z) → w.grownBy w' v.ownBlock → K (a.put o.dst v') w') : o.wp Tryd.prog a w K Q := by
  obtain ⟨i0, hi, hz0, hz1, hz2⟩ := info_parts infoU8
  have hzl := hb.len_eq
  refine wp_append_own w s x 24 ho base 5 i0 (.int .u8 0) 1 1 Tryd.underlying24 hi hz0 hz1 hz2 rfl (by decide) v zs.length (zs.map (Value.int .u8)) hs hown ⟨g, 0, none⟩ len cap (z.map (Value.int .u8)) hx (by simp [hzl]) ?_ (by simp [Value.oneCell']) (by simp [maxLen]; omega) (by omega) hbase ?_
  · intro j u hu
    have hj : j < len := by have := (List.getElem?_eq_some_iff.1 hu).1; simpa [hzl] using this
    rcases hb.at_ with h0 | ⟨b, off, hy, hc⟩
    · omega
    · cases hy
      rw [Addr.add_mid', hc j hj, ← hu, List.getElem?_map, List.getElem?_eq_getElem (by omega)]; rfl
  · intro v' w' h1 h2 _
    exact h v' w' (OwnB.cast h1 (by simp [hzl]) (by simp)) h2

set_option maxHeartbeats 4000000 in
theorem tags_walk (x : Option Addr) (len cap : Nat) (z0 : List Int) (y : Option Addr) (lb cb : Nat) (b0 : List Int) (w : World) (hKT : KTab w) (hx : Bytes w x len cap z0) (hu : ∀ v ∈ z0, 0 ≤ v ∧ v ≤ 255) (hy : Bytes w y lb cb b0) :
    Calls Tryd.prog 7 #[.slice x len cap, .slice y lb cb] w fun e w' => e = .returned (.bool true) ∧ Below w.heap.size w w' := by
  have hf1 : Calls Tryd.prog 17 #[.slice x len cap, .int .i64 64] w (fun e w' => e = .returned (.slice x (min len 64) cap) ∧ w = w') := fewS_any x len cap 64 z0 w hx (by omega) (by omega)
  have hf2 : Calls Tryd.prog 17 #[.slice y lb cb, .int .i64 300] w (fun e w' => e = .returned (.slice y (min lb 300) cb) ∧ w = w') := fewS_any y lb cb 300 b0 w hy (by omega) (by omega)
  have hx6 := hx.fewM 64
  have hy6 := hy.fewM 300
  have hu6 : ∀ v ∈ z0.take 64, 0 ≤ v ∧ v ≤ 255 := fun v hv => hu v (List.mem_of_mem_take hv)
  obtain ⟨m, hm⟩ : ∃ q, min len 64 = q := ⟨_, rfl⟩
  obtain ⟨z, hz⟩ : ∃ q, z0.take 64 = q := ⟨_, rfl⟩
  obtain ⟨k, hk⟩ : ∃ q, min lb 300 = q := ⟨_, rfl⟩
  obtain ⟨b, hb⟩ : ∃ q, b0.take 300 = q := ⟨_, rfl⟩
  have hm6 : m ≤ 64 := by omega
  have hk3 : k ≤ 300 := by omega
  rw [hm] at hf1 hx6
  rw [hk] at hf2 hy6
  rw [hz] at hx6 hu6
  rw [hb] at hy6
  clear hm hz hk hb hx hy hu
  have hzl := hx6.len_eq
  have hb3 : b.length ≤ 300 := by rw [← hy6.len_eq]; omega
  have hFl : (fillL z).length = 64 := fillL_length z
  have hFg : ∀ i, i < 64 → (fillL z)[i]?.getD 0 = if i < m then z[i]?.getD 0 else 0 := fun i hi => by
    unfold fillL
    rw [if_neg (by omega)]
    by_cases h : i < m
    · rw [List.getElem?_append_left (by omega), if_pos h]
    · rw [List.getElem?_append_right (by omega), if_neg h, List.getElem?_replicate]
      split <;> rfl
  have hFu : (0 : Int) ≤ (fillL z)[0]?.getD 0 ∧ (fillL z)[0]?.getD 0 ≤ 255 := by
    rw [hFg 0 (by omega)]
    split
    · next h => rw [List.getElem?_eq_getElem (by omega)]; exact hu6 _ (List.getElem_mem _)
    · exact ⟨by omega, by omega⟩
  have hT1 : ∀ i, i < 64 → (turnL 54 (fillL z))[i]?.getD 0 = bits .xor .u8 ((fillL z)[i]?.getD 0) 54 := fun i hi => by
    unfold turnL; rw [List.getElem?_map, List.getElem?_eq_getElem (by omega)]; rfl
  have hT2 : ∀ i, i < 64 → (turnL 92 (fillL z))[i]?.getD 0 = bits .xor .u8 ((fillL z)[i]?.getD 0) 92 := fun i hi => by
    unfold turnL; rw [List.getElem?_map, List.getElem?_eq_getElem (by omega)]; rfl
  have hl1 : (turnL 54 (fillL z)).length = 64 := by rw [turnL_length, hFl]
  have hl2 : (turnL 92 (fillL z)).length = 64 := by rw [turnL_length, hFl]
  have hne : (turnL 54 (fillL z))[0]?.getD 0 ≠ (turnL 92 (fillL z))[0]?.getD 0 := by
    rw [hT1 0 (by omega), hT2 0 (by omega)]; exact xor_ne _ hFu.1 hFu.2
  have hH := fun wx (hb' : Below w.heap.size w wx) => hmac_any x m cap z y k cb b wx (hx6.below hb') (by omega) (hy6.below hb') (by omega) (hKT.below hb')
  have HT : VeilM (tagL z b = sumL (turnL 92 (fillL z) ++ sumL (turnL 54 (fillL z) ++ b))) := ⟨rfl⟩
  obtain ⟨F, hF⟩ : ∃ q, fillL z = q := ⟨_, rfl⟩
  obtain ⟨TG, hTG⟩ : ∃ q, tagL z b = q := ⟨_, rfl⟩
  rw [hTG] at hH HT
  rw [hF] at hFl hFg hFu hT1 hT2 hl1 hl2 hne HT
  obtain ⟨I1, hI1⟩ : ∃ q, turnL 54 F = q := ⟨_, rfl⟩
  obtain ⟨O1, hO1⟩ : ∃ q, turnL 92 F = q := ⟨_, rfl⟩
  rw [hI1] at hT1 hl1 hne HT
  rw [hO1] at hT2 hl2 hne HT
  have HFG : VeilM (∀ i, i < 64 → F[i]?.getD 0 = if i < m then z[i]?.getD 0 else 0) := ⟨hFg⟩
  have HT1 : VeilM (∀ i, i < 64 → I1[i]?.getD 0 = bits .xor .u8 (F[i]?.getD 0) 54) := ⟨hT1⟩
  have HT2 : VeilM (∀ i, i < 64 → O1[i]?.getD 0 = bits .xor .u8 (F[i]?.getD 0) 92) := ⟨hT2⟩
  have HNE : VeilM (I1[0]?.getD 0 ≠ O1[0]?.getD 0) := ⟨hne⟩
  have htk : ∀ (l : List Int) i, 0 < i → i ≤ 64 → l.length = 64 → (l.take i)[0]?.getD 0 = l[0]?.getD 0 := fun l i h1 h2 h3 => by rw [List.getElem?_take_of_lt h1]
  have HTK : VeilM (∀ (l : List Int) i, 0 < i → i ≤ 64 → l.length = 64 → (l.take i)[0]?.getD 0 = l[0]?.getD 0) := ⟨htk⟩
  clear hFg hT1 hT2 hne htk hF hTG hI1 hO1 hFu hzl
  go_enter Tryd.func7, Tryd.ntmps7
  go_upto_region 3 with (first
    | (go_at_call 17; with_reducible refine hf1.mono ?_; rintro e w' ⟨rfl, rfl⟩)
    | (go_at_call 17; with_reducible refine hf2.mono ?_; rintro e w' ⟨rfl, rfl⟩))
  clear hf1 hf2
  go_wp2_with fail
  go_loopw [5, 6, 7] (fun v u p wr => ∃ i : Nat, i ≤ 64 ∧ p = .int .i64 i ∧ OwnB wr w.heap.size v (I1.take i) ∧ OwnB wr w.heap.size u (O1.take i) ∧ (i = 0 → v = .slice none 0 0 ∧ u = .slice none 0 0) ∧ Below w.heap.size w wr)
    (fun _ _ p _ => 64 - (intOf p).toNat)
  case atStart => exact ⟨0, by omega, rfl, OwnB.nil _ _, OwnB.nil _ _, fun _ => ⟨rfl, rfl⟩, Below.refl _ _⟩
  case round =>
    obtain ⟨i, hi, rfl, ho, hp, h0, hB⟩ := hrel
    by_cases hlt : i < 64
    · by_cases hkl : i < m
      · obtain ⟨C, hCe⟩ : ∃ q, z[i]?.getD 0 = q := ⟨_, rfl⟩
        have hC : F[i]?.getD 0 = C := by rw [HFG.out i hlt, if_pos hkl, hCe]
        obtain ⟨bb, off, hxx, hcell⟩ : ∃ bb off, x = some ⟨bb, off, none⟩ ∧ ∀ j, j < m → wr.cell? ⟨bb, off + j, none⟩ = some (.int .u8 (z[j]?.getD 0)) := by
          rcases (hx6.below hB).at_ with h | h
          · omega
          · exact h
        subst hxx
        have cc := hcell i hkl
        rw [hCe] at cc
        have hki : (i : Int) < (m : Int) := by omega
        clear hcell hCe
        obtain ⟨A1, hA1⟩ : ∃ q, bits .xor .u8 C 54 = q := ⟨_, rfl⟩
        obtain ⟨A2, hA2⟩ : ∃ q, bits .xor .u8 C 92 = q := ⟨_, rfl⟩
        have e1 : I1[i]?.getD 0 = A1 := by rw [HT1.out i hlt, hC, hA1]
        have e2 : O1[i]?.getD 0 = A2 := by rw [HT2.out i hlt, hC, hA2]
        have hn1 : I1.take (i + 1) = I1.take i ++ [A1] := by rw [take_next I1 i (by omega), e1]
        have hn2 : O1.take (i + 1) = O1.take i ++ [A2] := by rw [take_next O1 i (by omega), e2]
        have hli : (I1.take i).length = i := by rw [List.length_take]; omega
        have hlo : (O1.take i).length = i := by rw [List.length_take]; omega
        have HAP : VeilM (∀ (wq : World) (v' u' : Value) (zs ys : List Int), OwnB wq w.heap.size v' zs → OwnB wq w.heap.size u' ys → 0 < zs.length → 0 < ys.length → zs[0]?.getD 0 = I1[0]?.getD 0 → ys[0]?.getD 0 = O1[0]?.getD 0 → v'.ownBlock ≠ u'.ownBlock) := ⟨fun wq v' u' zs ys h1 h2 h3 h4 h5 h6 => own_apart h1 h2 h3 h4 (by rw [h5, h6]; exact HNE.out)⟩
        have HZ1 : VeilM (0 < i → (I1.take i)[0]?.getD 0 = I1[0]?.getD 0) := ⟨fun h => HTK.out I1 i h (by omega) hl1⟩
        have HZ2 : VeilM (0 < i → (O1.take i)[0]?.getD 0 = O1[0]?.getD 0) := ⟨fun h => HTK.out O1 i h (by omega) hl2⟩
        have HZ3 : VeilM ((I1.take (i + 1))[0]?.getD 0 = I1[0]?.getD 0) := ⟨HTK.out I1 (i + 1) (by omega) (by omega) hl1⟩
        obtain ⟨zs, hzs⟩ : ∃ q, I1.take i = q := ⟨_, rfl⟩
        obtain ⟨ys, hys⟩ : ∃ q, O1.take i = q := ⟨_, rfl⟩
        rw [hzs] at ho hn1 hli HZ1
        rw [hys] at hp hn2 hlo HZ2
        have HN1 : VeilM (I1.take (i + 1) = zs ++ [A1]) := ⟨hn1⟩
        have HN2 : VeilM (O1.take (i + 1) = ys ++ [A2]) := ⟨hn2⟩
        have hzl4 : zs.length ≤ 64 := by omega
        have hyl4 : ys.length ≤ 64 := by omega
        have H0 : VeilM (i = 0 → u5 = .slice none 0 0 ∧ u6 = .slice none 0 0) := ⟨h0⟩
        have hli' : VeilM (zs.length = i) := ⟨hli⟩
        have hlo' : VeilM (ys.length = i) := ⟨hlo⟩
        clear e1 e2 hn1 hn2 hli hlo hzs hys h0
        go_upto_region 9 with fail
        go_wp2_with (first
          | (at_builtin; refine wpList_app1 rfl _ _ rfl w.heap.size _ zs rfl A1 (ho.alloc _) rfl (by omega) hB.size ?_; intro v3 w3 ho3 hg3; have hp3 : OwnB w3 w.heap.size u6 ys := own_kept (hp.alloc _) hg3 (by
              by_cases h : i = 0
              · exact .inl (H0.out h).2
              · exact .inr (.inr (HAP.out _ _ _ _ _ (ho.alloc (.cells #[.int .u8 A1] 5)) (hp.alloc _) (by have := hli'.out; omega) (by have := hlo'.out; omega) (HZ1.out (by omega)) (HZ2.out (by omega))))); have hB3 : Below w.heap.size w w3 := below_grown (hB.alloc hB.size _) (ho.alloc _) hg3 (by have := hB.size; simp; omega))
          | (at_builtin; refine wpList_app1 rfl _ _ rfl w.heap.size _ ys rfl A2 (hp3.alloc _) rfl (by omega) hB3.size ?_; intro v4 w4 ho4 hg4; have hq4 : OwnB w4 w.heap.size v3 (zs ++ [A1]) := own_kept (ho3.alloc _) hg4 (by
              by_cases h : i = 0
              · rw [(H0.out h).2]; exact .inr (.inl rfl)
              · refine .inr (.inr fun e => ?_)
                exact HAP.out _ _ _ _ _ (ho3.alloc (.cells #[.int .u8 A2] 5)) (hp3.alloc _) (by simp) (by have := hlo'.out; omega) (by rw [← HN1.out]; exact HZ3.out) (HZ2.out (by omega)) e.symm); have hB4 : Below w.heap.size w w4 := below_grown (hB3.alloc hB3.size _) (hp3.alloc _) hg4 (by have := hB3.size; simp; omega)))
        go_roundw
        case rel => exact ⟨i + 1, by omega, by go_num, by rw [HN1.out]; exact hq4, by rw [HN2.out]; exact ho4, fun h => by omega, hB4⟩
        case measure => simp [intOf]; omega
      · obtain ⟨C, hCe⟩ : ∃ q : Int, (0 : Int) = q := ⟨_, rfl⟩
        have hC : F[i]?.getD 0 = C := by rw [HFG.out i hlt, if_neg hkl, hCe]
        subst hCe
        have hki : ¬ ((i : Int) < (m : Int)) := by omega
        obtain ⟨A1, hA1⟩ : ∃ q, bits .xor .u8 0 54 = q := ⟨_, rfl⟩
        obtain ⟨A2, hA2⟩ : ∃ q, bits .xor .u8 0 92 = q := ⟨_, rfl⟩
        have e1 : I1[i]?.getD 0 = A1 := by rw [HT1.out i hlt, hC, hA1]
        have e2 : O1[i]?.getD 0 = A2 := by rw [HT2.out i hlt, hC, hA2]
        have hn1 : I1.take (i + 1) = I1.take i ++ [A1] := by rw [take_next I1 i (by omega), e1]
        have hn2 : O1.take (i + 1) = O1.take i ++ [A2] := by rw [take_next O1 i (by omega), e2]
        have hli : (I1.take i).length = i := by rw [List.length_take]; omega
        have hlo : (O1.take i).length = i := by rw [List.length_take]; omega
        have HAP : VeilM (∀ (wq : World) (v' u' : Value) (zs ys : List Int), OwnB wq w.heap.size v' zs → OwnB wq w.heap.size u' ys → 0 < zs.length → 0 < ys.length → zs[0]?.getD 0 = I1[0]?.getD 0 → ys[0]?.getD 0 = O1[0]?.getD 0 → v'.ownBlock ≠ u'.ownBlock) := ⟨fun wq v' u' zs ys h1 h2 h3 h4 h5 h6 => own_apart h1 h2 h3 h4 (by rw [h5, h6]; exact HNE.out)⟩
        have HZ1 : VeilM (0 < i → (I1.take i)[0]?.getD 0 = I1[0]?.getD 0) := ⟨fun h => HTK.out I1 i h (by omega) hl1⟩
        have HZ2 : VeilM (0 < i → (O1.take i)[0]?.getD 0 = O1[0]?.getD 0) := ⟨fun h => HTK.out O1 i h (by omega) hl2⟩
        have HZ3 : VeilM ((I1.take (i + 1))[0]?.getD 0 = I1[0]?.getD 0) := ⟨HTK.out I1 (i + 1) (by omega) (by omega) hl1⟩
        obtain ⟨zs, hzs⟩ : ∃ q, I1.take i = q := ⟨_, rfl⟩
        obtain ⟨ys, hys⟩ : ∃ q, O1.take i = q := ⟨_, rfl⟩
        rw [hzs] at ho hn1 hli HZ1
        rw [hys] at hp hn2 hlo HZ2
        have HN1 : VeilM (I1.take (i + 1) = zs ++ [A1]) := ⟨hn1⟩
        have HN2 : VeilM (O1.take (i + 1) = ys ++ [A2]) := ⟨hn2⟩
        have hzl4 : zs.length ≤ 64 := by omega
        have hyl4 : ys.length ≤ 64 := by omega
        have H0 : VeilM (i = 0 → u5 = .slice none 0 0 ∧ u6 = .slice none 0 0) := ⟨h0⟩
        have hli' : VeilM (zs.length = i) := ⟨hli⟩
        have hlo' : VeilM (ys.length = i) := ⟨hlo⟩
        clear e1 e2 hn1 hn2 hli hlo hzs hys h0
        go_upto_region 9 with fail
        go_wp2_with (first
          | (at_builtin; refine wpList_app1 rfl _ _ rfl w.heap.size _ zs rfl A1 (ho.alloc _) rfl (by omega) hB.size ?_; intro v3 w3 ho3 hg3; have hp3 : OwnB w3 w.heap.size u6 ys := own_kept (hp.alloc _) hg3 (by
              by_cases h : i = 0
              · exact .inl (H0.out h).2
              · exact .inr (.inr (HAP.out _ _ _ _ _ (ho.alloc (.cells #[.int .u8 A1] 5)) (hp.alloc _) (by have := hli'.out; omega) (by have := hlo'.out; omega) (HZ1.out (by omega)) (HZ2.out (by omega))))); have hB3 : Below w.heap.size w w3 := below_grown (hB.alloc hB.size _) (ho.alloc _) hg3 (by have := hB.size; simp; omega))
          | (at_builtin; refine wpList_app1 rfl _ _ rfl w.heap.size _ ys rfl A2 (hp3.alloc _) rfl (by omega) hB3.size ?_; intro v4 w4 ho4 hg4; have hq4 : OwnB w4 w.heap.size v3 (zs ++ [A1]) := own_kept (ho3.alloc _) hg4 (by
              by_cases h : i = 0
              · rw [(H0.out h).2]; exact .inr (.inl rfl)
              · refine .inr (.inr fun e => ?_)
                exact HAP.out _ _ _ _ _ (ho3.alloc (.cells #[.int .u8 A2] 5)) (hp3.alloc _) (by simp) (by have := hlo'.out; omega) (by rw [← HN1.out]; exact HZ3.out) (HZ2.out (by omega)) e.symm); have hB4 : Below w.heap.size w w4 := below_grown (hB3.alloc hB3.size _) (hp3.alloc _) hg4 (by have := hB3.size; simp; omega)))
        go_roundw
        case rel => exact ⟨i + 1, by omega, by go_num, by rw [HN1.out]; exact hq4, by rw [HN2.out]; exact ho4, fun h => by omega, hB4⟩
        case measure => simp [intOf]; omega
    · obtain rfl : i = 64 := by omega
      have e64 : ((64 : Nat) : Int) = 64 := rfl
      rw [e64]
      clear e64
      rw [List.take_of_length_le (by omega)] at ho hp
      have hap : u5.ownBlock ≠ u6.ownBlock := own_apart ho hp (by omega) (by omega) HNE.out
      have hsA : ∀ (x' : Option Addr) (n' c' : Nat) (wx : World), Bytes wx x' n' c' (I1 ++ b) → KTab wx → Calls Tryd.prog 13 #[.slice x' n' c'] wx fun e w' => e = .returned (.agg (row .u8 (sumL (I1 ++ b)))) ∧ Below wx.heap.size wx w' := fun x' n' c' wx h1 h2 => sum_any x' n' c' (I1 ++ b) wx h1 (by have := h1.len_eq; rw [List.length_append] at this; omega) h2
      have hd1 := sumL_length (I1 ++ b)
      obtain ⟨D1, hD1⟩ : ∃ q, sumL (I1 ++ b) = q := ⟨_, rfl⟩
      rw [hD1] at hsA hd1 HT
      have hsB : ∀ (x' : Option Addr) (n' c' : Nat) (wx : World), Bytes wx x' n' c' (O1 ++ D1) → KTab wx → Calls Tryd.prog 13 #[.slice x' n' c'] wx fun e w' => e = .returned (.agg (row .u8 TG)) ∧ Below wx.heap.size wx w' := fun x' n' c' wx h1 h2 => by
        rw [HT.out]
        exact sum_any x' n' c' (O1 ++ D1) wx h1 (by have := h1.len_eq; rw [List.length_append] at this; omega) h2
      have htl : TG.length = 32 := by rw [HT.out]; exact sumL_length _
      have hE := fun wx => eqKey TG TG htl htl wx
      rw [beq_self_eq_true] at hE
      have hgd := guardKey
      have hsN := fun wx (h : KTab wx) => sum_any none 0 0 [] wx (bytes_nil wx) (by omega) h
      have hE0 : (sumL [])[0]?.getD 0 = 227 := by rw [sum_nil]; rfl
      have hEl := sumL_length []
      obtain ⟨E, hEe⟩ : ∃ q, sumL [] = q := ⟨_, rfl⟩
      rw [hEe] at hsN hE0 hEl
      clear hD1 hEe HT HT1 HT2 HFG HTK
      have hyB := hy6.below hB
      go_upto_region 11 with (first
        | (at_builtin; refine wpList_app rfl _ _ rfl w.heap.size _ I1 rfl ho y k cb b rfl hyB (by omega) hB.size ?_; intro v5 w5 ho5 hg5; have hB5 : Below w.heap.size w w5 := below_grown hB ho hg5 hB.size; have hp5 : OwnB w5 w.heap.size u6 O1 := own_kept hp hg5 (.inr (.inr hap)); obtain ⟨x5, n5, c5, rfl, hn5⟩ := ho5.isSlice; have hY5 := ho5.bytes.2; clear hn5)
        | (go_at_call 13; refine (hsA _ _ _ _ hY5 (hKT.below hB5)).mono ?_; rintro e w6 ⟨rfl, hb6⟩; have hN6 := Holds.new w6 .u8 23 (List.replicate 32 0))
        | (refine wpList_st rfl 23 _ _ rfl _ rfl rfl hN6 (by rw [hd1]; exact sizeKey) (by simp [hd1]) ?_))
      have hs6 := hb6.size
      have hl5 := hB5.size
      refine forget (p := fun y => Code.wp _ _ _ _ y) (fun W7 => Below w.heap.size w W7 ∧ OwnB W7 w.heap.size u6 O1 ∧ Holds W7 w6.heap.size .u8 23 D1) ⟨below_setRow ((hB5.trans (hb6.mono hB5.size)).alloc (by omega) _) (by omega) _, ?_, hN6.setRow _⟩ ?_
      · refine ((hp5.belowM hb6).alloc (.cells (row .u8 (List.replicate 32 0)) 23)).keepM (fun g h1 h2 => ?_)
        by_cases hgg : g = w6.heap.size
        · exact .inr (by rw [hgg]; exact ⟨_, _, _, hN6, by decide⟩)
        · exact .inl (setRow_other _ _ _ _ hgg)
      clear hN6 hB5 hp5 hb6 hB ho hp hsA hap hY5
      rintro W7 ⟨hB7, hp7, hD7⟩
      obtain ⟨Pb, hPb⟩ : ∃ q, w6.heap.size = q := ⟨_, rfl⟩
      rw [hPb] at hs6 hD7 ⊢
      clear hPb hs6 hl5
      simp only [Act.put]
      have hk7 := hKT.below hB7
      go_upto_region 12 with (first
        | (go_at_call 13; refine (hsN _ hk7).mono ?_; rintro e w8 ⟨rfl, hb8⟩; have hN8 := Holds.new w8 .u8 23 (List.replicate 32 0))
        | (refine wpList_st rfl 23 _ _ rfl _ rfl rfl hN8 (by rw [hEl]; exact sizeKey) (by simp [hEl]) ?_))
      have hs8 := hb8.size
      have hl7 := hB7.size
      have hPl := hD7.lt
      refine forget (p := fun y => Code.wp _ _ _ _ y) (fun W9 => Below w.heap.size w W9 ∧ OwnB W9 w.heap.size u6 O1 ∧ Holds W9 Pb .u8 23 D1 ∧ Holds W9 w8.heap.size .u8 23 E) ⟨below_setRow ((hB7.trans (hb8.mono hB7.size)).alloc (by omega) _) (by omega) _, ?_, ((hD7.below hb8 hD7.lt).alloc _).setRowOther _ (by omega), hN8.setRow _⟩ ?_
      · refine ((hp7.belowM hb8).alloc (.cells (row .u8 (List.replicate 32 0)) 23)).keepM (fun g h1 h2 => ?_)
        by_cases hgg : g = w8.heap.size
        · exact .inr (by rw [hgg]; exact ⟨_, _, _, hN8, by decide⟩)
        · exact .inl (setRow_other _ _ _ _ hgg)
      clear hN8 hB7 hp7 hD7 hb8 hsN hk7
      rintro W9 ⟨hB9, hp9, hD9, hE9⟩
      obtain ⟨Eb, hEb⟩ : ∃ q, w8.heap.size = q := ⟨_, rfl⟩
      rw [hEb] at hs8 hE9 ⊢
      clear hEb hs8 hl7 hPl
      simp only [Act.put]
      refine wp_region_gate (fun _ => True) 13 (by kernel_rfl) ?_
      have hS : True := trivial
      refine wpAnyG_any (i := 0) (v := ?_) rfl (by kernel_rfl) (by kernel_rfl) (by kernel_rfl) (fun _ _ _ h => h) (by kernel_rfl) (fun _ => hS) (by kernel_rfl) ?_ ?_
      rotate_left
      · intro _; go_simp; try with_reducible rfl
      simp only [Act.put, List.setIfInBounds_toArray, List.set_cons_zero, List.set_cons_succ]
      refine wpAnyG_any (i := 1) (v := ?_) rfl (by kernel_rfl) (by kernel_rfl) (by kernel_rfl) (fun _ _ _ h => h) (by kernel_rfl) (fun _ => hS) (by kernel_rfl) ?_ ?_
      rotate_left
      · intro _; go_simp; try with_reducible rfl
      simp only [Act.put, List.setIfInBounds_toArray, List.set_cons_zero, List.set_cons_succ]
      refine wpAnyG_any (i := 3) (v := ?_) rfl (by kernel_rfl) (by kernel_rfl) (by kernel_rfl) (fun _ _ _ h => h) (by kernel_rfl) (fun _ => hS) (by kernel_rfl) ?_ ?_
      rotate_left
      · intro _; go_simp; try with_reducible rfl
      simp only [Act.put, List.setIfInBounds_toArray, List.set_cons_zero, List.set_cons_succ]
      refine wpAnyG_any (i := 4) (v := .slice (some ⟨Pb, 0, none⟩) 32 32) rfl (by kernel_rfl) (by kernel_rfl) (by kernel_rfl) (fun _ _ _ h => h) (by kernel_rfl) (fun _ => hS) (by kernel_rfl) ?_ ?_
      · intro _; go_simp
      simp only [Act.put, List.setIfInBounds_toArray, List.set_cons_zero, List.set_cons_succ]
      refine wpAnyG_one (i := 2) rfl (by kernel_rfl) (by kernel_rfl) (fun K hK => ?_)
      go_wp2_with (go_at_call 11; refine (hH _ hB9.drew).mono ?_; rintro e w10 ⟨rfl, hb10⟩)
      refine hK.out _ _ (fun _ => hS) ?_
      clear hK K
      have hB10 : Below w.heap.size w w10 := (hB9.drew).trans (hb10.mono hB9.size)
      have hx10 : Below W9.heap.size W9 w10 := ((Below.refl _ _).drew).trans hb10
      have hp10 := hp9.belowM hx10
      have hD10 := hD9.below hx10 hD9.lt
      have hE10 := hE9.below hx10 hE9.lt
      clear hx10 hp9 hD9 hE9
      refine wpAnyG_one (i := 5) rfl (by kernel_rfl) (by kernel_rfl) (fun K hK => ?_)
      refine wp_appM (.tmp 45) (.tmp 46) (by kernel_rfl) w.heap.size u6 O1 (by kernel_rfl) hp10 Pb 32 32 D1 (by kernel_rfl) (hD10.bytes hd1.symm (by omega)) (by omega) hB10.size ?_
      rintro v11 w11 ho11 hg11
      have hB11 : Below w.heap.size w w11 := below_grown hB10 hp10 hg11 hB10.size
      have hE11 := holds_grown hE10 hp10 hg11 (by decide)
      obtain ⟨x11, n11, c11, rfl, hn11⟩ := ho11.isSlice
      have hY11 := ho11.bytes.2
      clear hn11 ho11 hg11 hp10 hD10 hE10
      refine hK.out _ _ (fun _ => hS) ?_
      clear hK K
      simp only [Act.put, List.setIfInBounds_toArray, List.set_cons_zero, List.set_cons_succ]
      refine wpAnyG_one (i := 6) rfl (by kernel_rfl) (by kernel_rfl) (fun K hK => ?_)
      go_wp2_with (go_at_call 13; refine (hsB _ _ _ _ hY11 (hKT.below hB11)).mono ?_; rintro e w12 ⟨rfl, hb12⟩)
      refine hK.out _ _ (fun _ => hS) ?_
      clear hK K
      have hE12 := hE11.below hb12 hE11.lt
      have c0 := hE12.cell 0 (by omega)
      rw [hE0] at c0
      refine wpAnyG_any (i := 7) (v := .bool true) rfl (by kernel_rfl) (by kernel_rfl) (by kernel_rfl) (fun _ _ _ h => h) (by kernel_rfl) (fun _ => hS) (by kernel_rfl) ?_ ?_
      · intro _; go_simp
      simp only [Act.put, List.setIfInBounds_toArray, List.set_cons_zero, List.set_cons_succ]
      refine wpAnyG_any (i := 8) (v := .bool true) rfl (by kernel_rfl) (by kernel_rfl) (by kernel_rfl) (fun _ _ _ h => h) (by kernel_rfl) (fun _ => hS) (by kernel_rfl) ?_ ?_
      · intro _; go_simp
      simp only [Act.put, List.setIfInBounds_toArray, List.set_cons_zero, List.set_cons_succ]
      refine wpAnyG_any (i := 9) (v := ?_) rfl (by kernel_rfl) (by kernel_rfl) (by kernel_rfl) (fun _ _ _ h => h) (by kernel_rfl) (fun _ => hS) (by kernel_rfl) ?_ ?_
      rotate_left
      · intro _; go_simp; try with_reducible rfl
      simp only [Act.put, List.setIfInBounds_toArray, List.set_cons_zero, List.set_cons_succ]
      refine wpAnyG_one (i := 10) rfl (by kernel_rfl) (by kernel_rfl) (fun K hK => ?_)
      go_simp
      refine hK.out _ _ (fun _ => hS) ?_
      clear hK K
      refine wpAnyG_any (i := 11) (v := .bool true) rfl (by kernel_rfl) (by kernel_rfl) (by kernel_rfl) (fun _ _ _ h => h) (by kernel_rfl) (fun _ => hS) (by kernel_rfl) ?_ ?_
      · intro _; go_simp
      simp only [Act.put, List.setIfInBounds_toArray, List.set_cons_zero, List.set_cons_succ]
      refine wpAnyG_any (i := 12) (v := .bool true) rfl (by kernel_rfl) (by kernel_rfl) (by kernel_rfl) (fun _ _ _ h => h) (by kernel_rfl) (fun _ => hS) (by kernel_rfl) ?_ ?_
      · intro _; go_simp
      simp only [Act.put, List.setIfInBounds_toArray, List.set_cons_zero, List.set_cons_succ]
      refine wpAnyG_one (i := 13) rfl (by kernel_rfl) (by kernel_rfl) (fun K hK => ?_)
      go_simp
      refine hK.out _ _ (fun h => absurd (show true = false from h) (by decide)) ?_
      clear hK K
      refine wpAnyG_done (by kernel_rfl) ?_ _
      go_wp2
      go_ret
      exact ⟨rfl, hB11.trans (hb12.mono hB11.size)⟩
end Go.Proofs.YtobfknpgkdiicadDoor
