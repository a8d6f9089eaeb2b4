/- Kr1 FewL2 RefPad RefLeaf -/
import Derived.Test.YtfainlfiphdaeaaGreatDoorT30
import Derived.ArgAppend
import Derived.Lib.LazyBuf
import Derived.Test.YtfainlfiphdaeaaGreatDoorT26
import Derived.Test.YtfainlfiphdaeaaGreatDoorT27
import Derived.Test.YtfainlfiphdaeaaGreatDoorT24
import Derived.Test.YtfainlfiphdaeaaGreatDoorT11
import Derived.Deep.RegionHeldLaw
namespace Go.Proofs.YtfainlfiphdaeaaGreatDoor
open Go.RowKit
set_option maxRecDepth 20000
set_option linter.unusedSimpArgs false
theorem conv_word2 (s : ByteArray) (w : World) (hs : s.size ≤ 1000) :
    ∃ c W, (convert 9 41 (.string s)).run Tryz.prog w = .ok (.slice (some ⟨w.heap.size, 0, none⟩) s.size c) W ∧ s.size ≤ c ∧ c ≤ maxLen ∧ W.heap[w.heap.size]? = some (.cells (bytesRow s c) 5 ((bytesRow s c).size, (bytesRow s c).size + 1)) ∧ Below w.heap.size w W ∧ W.heap.size = w.heap.size + 1 :=
  ⟨_, _, run_bytes_of_string w 9 41 5 s Tryz.underlying9 Tryz.underlying41 Tryz.underlying5, grownCap_ge w s.size 0 5, grownCap_le_maxLen w s.size 0 5 (by simp [maxLen]; omega), heap_alloc_new w.drew _, (Below.refl _ _).drew.alloc (Nat.le_refl _) _, by simp⟩
theorem bytesRow_size (s : ByteArray) (c : Nat) (h : s.size ≤ c) : (bytesRow s c).size = c := by
  have : s.data.size = s.size := rfl
  simp [bytesRow]; omega
theorem bytesRow_get (s : ByteArray) (c j : Nat) (h : j < s.size) : (bytesRow s c)[j]? = some (.int .u8 ((wordL s)[j]?.getD 0)) := by
  have hj' : j < s.data.size := h
  simp [bytesRow, wordL, hj', Array.getElem?_append]
  rw [if_pos h, Array.getElem?_eq_getElem hj']
  rfl
theorem app_word (ws : ByteArray) (W : World) (g c2 : Nat) (ty : TypeId) (hrow : W.heap[g]? = some (.cells (bytesRow ws c2) 5 ((bytesRow ws c2).size, (bytesRow ws c2).size + 1))) (hc : ws.size ≤ c2) (hcm : c2 ≤ maxLen) (x : Option Addr) (n c : Nat) (m : List Int) (hm : Bytes W x n c m) (hn : n ≤ 1000) (hws : ws.size ≤ 1000) (hx : ∀ b off, x = some ⟨b, off, none⟩ → 0 < n → b ≠ g) :
    ∃ x' n' c' W3, (Builtin.append_ #[41, 41] ty #[.slice (some ⟨g, 0, none⟩) ws.size c2, .slice x n c]).run Tryz.prog W = .ok (.slice x' n' c') W3 ∧ Bytes W3 x' n' c' (wordL ws ++ m) ∧ Below g W W3 := by
  obtain ⟨i0, hi, hz0, hz1, hz2⟩ := info_parts infoU8
  have hml := hm.len_eq
  have hwl := wordL_length ws
  have hgl : g < W.heap.size := (Array.getElem?_eq_some_iff.1 hrow).1
  have hcell : ∀ j, j < ws.size → W.cell? ⟨g, j, none⟩ = some (.int .u8 ((wordL ws)[j]?.getD 0)) := fun j hj => by
    rw [cell_of_row W g j _ _ _ hrow]; exact bytesRow_get ws c2 j hj
  have hsome : ∀ j, j < c2 → (W.cell? ⟨g, j, none⟩).isSome = true := fun j hj => by
    rw [cell_of_row W g j _ _ _ hrow, Array.getElem?_eq_getElem (by rw [bytesRow_size ws c2 hc]; exact hj)]; rfl
  have hbase : Bytes W (some ⟨g, 0, none⟩) ws.size c2 (wordL ws) := ⟨hwl.symm, hc, by simpa [maxLen] using hcm, (fun h => by cases h), .inr ⟨_, _, rfl, fun j hj => by rw [Nat.zero_add]; exact hcell j hj⟩⟩
  have hmain : ∀ ad : Addr, x = some ad → (∀ j u, (m.map (Value.int .u8))[j]? = some u → W.cell? (ad.add j) = some u) → (0 < n → ad.block ≠ g) →
      ∃ x' n' c' W3, (Builtin.append_ #[41, 41] ty #[.slice (some ⟨g, 0, none⟩) ws.size c2, .slice x n c]).run Tryz.prog W = .ok (.slice x' n' c') W3 ∧ Bytes W3 x' n' c' (wordL ws ++ m) ∧ Below g W W3 := fun ad hxa hsrc hne => by
    subst hxa
    have h1 : ∀ u ∈ m.map (Value.int .u8), u.oneCell' = true := fun u hu => by simp only [List.mem_map] at hu; obtain ⟨_, _, rfl⟩ := hu; rfl
    by_cases hr : ws.size + n ≤ c2
    · have hst := run_append_room_cells (P := Tryz.prog) W 41 ty 5 i0 Tryz.underlying41 hi g 0 ws.size c2 ad n c (m.map (Value.int .u8)) (by rw [List.length_map, hz1]; omega) hsrc h1 hr
        (fun j hj => by rw [hz1, Nat.zero_add, Nat.mul_one]; exact hsome _ (by simp at hj; omega))
        (fun j hj => by
          rw [hz1, Nat.zero_add, Nat.mul_one]
          simp only [List.length_map] at hj
          unfold World.frozen?
          rw [hrow]
          simp [bytesRow_size ws c2 hc]
          omega)
      refine ⟨_, _, _, _, hst, ⟨by rw [List.length_append, hwl, hml], hr, by simpa [maxLen] using hcm, (fun h => by cases h), .inr ⟨_, _, rfl, fun j hj => ?_⟩⟩, below_setCells (Nat.le_refl _) _ _ _ (Below.refl _ _)⟩
      rw [hz1, Nat.zero_add, Nat.zero_add, Nat.mul_one]
      by_cases hj2 : j < ws.size
      · rw [World.cell?_setCells_out _ _ _ _ _ (fun _ _ => .inl hj2), hcell j hj2, List.getElem?_append_left (by omega)]
      · have := World.cell?_setCells_in g (m.map (Value.int .u8)) ws.size W (fun j hj => hsome _ (by simp at hj; omega)) (j - ws.size) (by simp; omega)
        rw [show ws.size + (j - ws.size) = j by omega] at this
        rw [this, List.getElem?_append_right (by omega), hwl]
        simp only [List.getElem_map]
        rw [List.getElem?_eq_getElem (by omega)]; rfl
    · obtain ⟨v', w', hrun, hown, hgr⟩ := run_append_arg_grows (P := Tryz.prog) W 41 ty 5 i0 _ 1 1 Tryz.underlying41 hi hz0 hz1 hz2 rfl (by decide) ⟨g, 0, none⟩ ws.size c2 ((wordL ws).map (Value.int .u8)) (by simp [hwl])
        (fun j u hu => by rw [Addr.add_mid']; exact hbase.rangeK j u hu) ad n c (m.map (Value.int .u8)) (by simp; omega) hsrc (by omega) (by simp [maxLen]; omega) (by omega)
      have ho : OwnB w' W.heap.size v' (wordL ws ++ m) := OwnB.cast hown (by simp [hwl, hml]) (by simp)
      obtain ⟨x', n', c', rfl, hn'⟩ := ho.isSlice
      exact ⟨x', n', c', w', hrun, ho.bytes.2, ((Below.refl g W).grown hgr (Nat.le_of_lt hgl) (fun k hk => by cases hk))⟩
  rcases hm.at_ with h0 | ⟨b, off, hy, hcs⟩
  · have hm0 : m = [] := List.length_eq_zero_iff.1 (by omega)
    cases x with
    | none =>
      have hc0 := hm.nil rfl
      subst h0 hc0 hm0
      refine ⟨_, _, _, W, ?_, by rw [List.append_nil]; exact hbase, Below.refl _ _⟩
      simp [Builtin.append_, run_underlying Tryz.underlying41, sizeOf, typeInfo, hi, Builtin.lenOf, hc, Builtin.firstCells, storeCells]
    | some ad => exact hmain ad rfl (fun j u hu => by subst hm0; simp at hu) (fun h => by omega)
  · exact hmain _ hy (fun j u hu => by
      have hj : j < n := by have := (List.getElem?_eq_some_iff.1 hu).1; simpa [hml] using this
      rw [Addr.add_mid', hcs j hj, ← hu, List.getElem?_map, List.getElem?_eq_getElem (by omega)]; rfl) (fun h => hx b off hy h)
end Go.Proofs.YtfainlfiphdaeaaGreatDoor
namespace Go.Proofs.YtfainlfiphdaeaaGreatDoor.S
open Go.RowKit
theorem OwnB.empty (w : World) (base : Nat) (h : base ≤ w.heap.size) : OwnB (w.alloc (.cells #[] 5)) base (.slice (some ⟨w.heap.size, 0, none⟩) 0 0) [] :=
  ⟨rfl, .inr ⟨w.heap.size, 0, #[], rfl, h, heap_alloc_new w _, Nat.le_refl _, by simp [maxLen], rfl, rfl⟩⟩
end Go.Proofs.YtfainlfiphdaeaaGreatDoor.S
namespace Go.Proofs.YtfainlfiphdaeaaGreatDoor.S
open Go.RowKit
set_option maxHeartbeats 1000000 in
theorem refPad_any (x : Option Addr) (len cap : Nat) (z : List Int) (w : World) (hbz : Bytes w x len cap z) (hln : len ≤ 1000000) :
    Calls Tryz.prog 135 #[.slice x len cap] w fun e w' => ∃ v, e = .returned v ∧ OwnB w' w.heap.size v (padL z) ∧ Below w.heap.size w w' := by
  have HZ : Hid (len = z.length) := hbz.len_eq
  have hsp := padSize_ge len
  have hsp2 : padSize len ≤ 2000000 := by unfold padSize; omega
  have hsp3 : padSize len % 64 = 0 := by unfold padSize; omega
  have hsp4 : padSize len ≤ len + 72 := by unfold padSize; omega
  obtain ⟨m, hm⟩ : ∃ m, padSize len = m := ⟨_, rfl⟩
  have HM : Hid (padSize len = m) := hm
  rw [hm] at hsp hsp2 hsp3 hsp4
  clear hm
  go_enter Tryz.func135, Tryz.ntmps135
  go_upto_region 3 with (first
    | (at_builtin; refine wpList_app rfl _ _ rfl w.heap.size _ [] rfl (OwnB.nil _ _) x len cap z rfl hbz (by simp; omega) (Nat.le_refl _) ?_; intro v1 w1 ho1 hg1; have hB1 := below_grown (Below.refl _ _) (OwnB.nil w w.heap.size) hg1 (Nat.le_refl _))
    | (at_builtin; refine wpList_app1 rfl _ _ rfl w.heap.size _ z rfl 128 (ho1.alloc _) rfl (by have := HZ.out; omega) hB1.size ?_; intro v2 w2 ho2 hg2))
  have hB2 : Below w.heap.size w w2 := below_grown (hB1.alloc hB1.size _) (ho1.alloc _) hg2 (by have := hB1.size; simp; omega)
  clear hg2 ho1 hB1 hg1 hbz
  go_loopw [3] (fun v wr => ∃ k : Nat, len + 1 + k ≤ m - 8 ∧ Below w.heap.size w wr ∧ OwnB wr w.heap.size v (z ++ [128] ++ List.replicate k 0)) (fun v _ => m - lenOf v)
  case atStart => exact ⟨0, by omega, hB2, by simpa using ho2⟩
  case round =>
    clear hB2 ho2
    obtain ⟨k, hk, hB, ho⟩ := hrel
    have hlen : (z ++ [128] ++ List.replicate k 0).length = len + 1 + k := by have := HZ.out; simp; omega
    obtain ⟨g, cp, rfl, hg⟩ := ho.slice (by omega)
    rw [hlen]
    by_cases hlt : len + 1 + k < m - 8
    · have hne : (((len : Int) + 1 + (k : Int)) % 64 != 56) = true := by simp; omega
      go_wp2_with (at_builtin; refine wpList_app1 rfl _ _ rfl w.heap.size _ (z ++ [128] ++ List.replicate k 0) (by rw [hlen]; rfl) 0 (ho.alloc _) rfl (by omega) hB.size ?_; intro v3 w3 ho3 hg3)
      obtain ⟨g', cp', hv3, _⟩ := ho3.slice (by simp; omega)
      have hl3 : (z ++ [128] ++ List.replicate k 0 ++ [0]).length = len + 1 + (k + 1) := by rw [List.length_append, hlen]; rfl
      rw [hl3] at hv3
      subst hv3
      go_roundw
      case rel =>
        refine ⟨k + 1, by omega, below_grown (hB.alloc hB.size _) (ho.alloc _) (by rw [hlen]; exact hg3) (by have := hB.size; simp; omega), ?_⟩
        rw [List.replicate_succ', ← List.append_assoc]
        exact ho3
      case measure => simp only [lenOf]; omega
    · obtain rfl : k = m - 9 - len := by omega
      have hne : (((len : Int) + 1 + ((m - 9 - len : Nat) : Int)) % 64 != 56) = false := by simp; omega
      have hpre : z ++ [128] ++ List.replicate (m - 9 - len) 0 = z ++ [128] ++ List.replicate (padSize z.length - z.length - 9) 0 := by
        rw [← HZ.out, HM.out]; congr 2; omega
      rw [hpre] at ho
      have hlp : (z ++ [128] ++ List.replicate (padSize z.length - z.length - 9) 0).length = m - 8 := by rw [← hpre, hlen]; omega
      go_wp2_with fail
      rw [show len + 1 + (m - 9 - len) = m - 8 by omega]
      have HP : Hid (padL z = z ++ [128] ++ List.replicate (padSize z.length - z.length - 9) 0 ++ lenTail z.length 8) := by
        show padK z 8 = _
        simp [padK]
      obtain ⟨pr, hpr⟩ : ∃ pr, z ++ [128] ++ List.replicate (padSize z.length - z.length - 9) 0 = pr := ⟨_, rfl⟩
      rw [hpr] at ho HP hlp
      clear hpr hpre hlen
      go_loopw [3, 5] (fun v i wr => ∃ j : Nat, j ≤ 8 ∧ i = .int .i64 j ∧ Below w.heap.size w wr ∧ OwnB wr w.heap.size v (pr ++ (lenTail len 8).take j)) (fun _ i _ => 8 - (intOf i).toNat)
      case atStart => exact ⟨0, by omega, rfl, hB, by rw [← hlp] ; simpa using ho⟩
      case round =>
        clear hB ho
        obtain ⟨j, hj, rfl, hB, ho⟩ := hrel
        have hlj : (pr ++ (lenTail len 8).take j).length = m - 8 + j := by rw [List.length_append, List.length_take, lenTail_length, hlp]; omega
        obtain ⟨g2, cp2, hv2, hg2⟩ := ho.slice (by omega)
        subst hv2
        rw [hlj]
        by_cases hlt2 : j < 8
        · have hbyte := lenTail_get len 8 j hlt2
          have htk := take_next (lenTail len 8) j (by rw [lenTail_length]; exact hlt2)
          rw [hbyte] at htk
          have HT : Hid ((lenTail len 8).take (j + 1) = (lenTail len 8).take j ++ [lenByte len (8 - 1 - j)]) := htk
          clear hbyte htk
          go_wp2_with (at_builtin; refine wpList_app1 rfl _ _ rfl w.heap.size _ (pr ++ (lenTail len 8).take j) (by rw [hlj]; rfl) _ (ho.alloc _) rfl (by omega) hB.size ?_; intro v3 w3 ho3 hg3)
          go_roundw
          case rel =>
            have hB3 : Below w.heap.size w w3 := below_grown (hB.alloc hB.size _) (ho.alloc _) (by rw [hlj]; exact hg3) (by have := hB.size; simp; omega)
            have ho4 : OwnB w3 w.heap.size v3 (pr ++ (lenTail len 8).take (j + 1)) := by
              rw [HT.out, ← List.append_assoc]
              have e : lenByte len (8 - 1 - j) = (len : Int) * 8 / 2 ^ (56 - 8 * j) % 256 := by unfold lenByte; rw [show 8 * (8 - 1 - j) = 56 - 8 * j by omega]
              rw [e]
              exact ho3
            first
              | exact ⟨j + 1, by omega, by go_num, hB3, ho4⟩
              | ((repeat apply Exists.intro); exact ⟨⟨j + 1, by omega, by go_num, hB3, ho4⟩, rfl⟩)
          case measure => simp [intOf]; omega
        · obtain rfl : j = 8 := by omega
          go_wp2
          go_ret
          refine ⟨_, rfl, ?_, hB⟩
          rw [HP.out, ← HZ.out]
          rw [List.take_of_length_le (by rw [lenTail_length]; omega)] at ho hlj
          rw [← hlj]
          exact ho
end Go.Proofs.YtfainlfiphdaeaaGreatDoor.S
namespace Go.Proofs.YtfainlfiphdaeaaGreatDoor.S
open Go.RowKit
set_option maxRecDepth 20000
theorem refRight_any (x n : Int) (w : World) (hn : rotN n) :
    Calls Tryz.prog 179 #[.int .u32 x, .int .i64 n] w fun e w' => e = .returned (.int .u32 (rr n x)) ∧ ∃ q, w' = w.drewN q := by
  rcases hn with rfl | rfl | rfl | rfl | rfl | rfl | rfl | rfl | rfl | rfl
  all_goals
    go_enter Tryz.func179, Tryz.ntmps179
    go_wp2
    go_quiet ((fail))
    go_wp2
    go_ret
    exact ⟨ret_u32 rfl, _, rfl⟩
theorem wpList_build {P : Program} {ops : Array Oper} {rest : List Oper} {o : Oper} {a : Act} {w : World} {Q : Exit → Act → World → Prop} (hgd : o.guard = none) (t : TypeId) (parts : Array (Nat × Operand)) (ho : o.op = .build t parts) (v : Value)
    (hrun : ∀ wx, (Instr.build t (parts.map fun (i, x) => (i, a.eval x))).run P wx = .ok v wx) (h : wpList P ops Q rest (a.put o.dst v) w) : wpList P ops Q (o :: rest) a w :=
  wpList_plain hgd fun _ hK => by
    unfold Oper.wp execOp
    simp only [ho, Sem.run_bind, Sem.run_pure, Result.andThen_ok, hrun]
    exact hK _ _ h
theorem refK_any (i : Nat) (w : World) (h : i < 64) :
    Calls Tryz.prog 180 #[.int .i64 i] w fun e w' => e = .returned (.int .u32 (kTab[i]?.getD 0)) ∧ w' = w := by
  have hix := fun wx => run_index_row wx 207 24 64 .u32 kTab i Tryz.underlying207 Tryz.underlying24 size1u32 rfl h
  obtain ⟨V, hV⟩ : ∃ V, kTab[i]?.getD 0 = V := ⟨_, rfl⟩
  rw [hV] at hix ⊢
  clear hV
  go_enter Tryz.func180, Tryz.ntmps180
  go_wp2_with (refine wpList_build rfl 207 _ rfl (.agg (row .u32 kTab)) (fun _ => by kernel_rfl) ?_)
  go_ret
  exact ⟨rfl, rfl⟩
theorem infoU32 : (Tryz.prog.info? 24).map (fun i => (i.zero, i.size, i.bytes)) = some (some (.int .u32 0), 1, 4) := by kernel_rfl
def OwnW (w : World) (base : Nat) (v : Value) (l : List Int) : Prop := w.ownsRow base 24 1 v l.length (l.map (Value.int .u32))
theorem OwnW.cast {w : World} {base n : Nat} {v : Value} {z : List Int} {xs : List Value} (h : w.ownsRow base 24 1 v n xs) (hn : n = z.length) (hx : xs = z.map (Value.int .u32)) : OwnW w base v z := by
  subst hn hx; exact h
theorem OwnW.nil (w : World) (base : Nat) : OwnW w base (.slice none 0 0) [] := World.ownsRow_nil w base 24 1
theorem OwnW.alloc {w : World} {base : Nat} {v : Value} {z : List Int} (h : OwnW w base v z) (o : Obj) : OwnW (w.alloc o) base v z := World.ownsRow.alloc h o
theorem OwnW.drewN {w : World} {base : Nat} {v : Value} {z : List Int} (h : OwnW w base v z) (n : Nat) : OwnW (w.drewN n) base v z := by
  induction n with
  | zero => exact h
  | succ n ih => exact World.ownsRow.drew ih
theorem OwnW.slice {w : World} {base : Nat} {v : Value} {z : List Int} (h : OwnW w base v z) (hz : 0 < z.length) : ∃ g cap, v = .slice (some ⟨g, 0, none⟩) z.length cap ∧ base ≤ g ∧ cap ≤ 9223372036854775807 ∧ z.length ≤ cap ∧ ∀ j, j < z.length → w.cell? ⟨g, j, none⟩ = some (.int .u32 (z[j]?.getD 0)) := by
  rcases h.2 with ⟨_, h0⟩ | ⟨g, cap, cur, rfl, hb, hg, hc, hm, hs, ht⟩
  · omega
  · refine ⟨g, cap, rfl, hb, by simpa [maxLen] using hm, hc, fun j hj => ?_⟩
    rw [cell_of_row w g j _ _ _ hg, ← Array.getElem?_toList]
    have e : (cur.toList.take (z.length * 1))[j]? = (z.map (Value.int .u32))[j]? := by rw [ht]
    rw [Nat.mul_one, List.getElem?_take_of_lt hj, List.getElem?_map, List.getElem?_eq_getElem hj] at e
    rw [e, List.getElem?_eq_getElem hj]; rfl
theorem below_grownW {base : Nat} {w0 w w' : World} {v : Value} {z : List Int} (hb : Below base w0 w) (hown : OwnW w base v z) (hg : w.grownBy w' v.ownBlock) (hbase : base ≤ w.heap.size) : Below base w0 w' :=
  hb.grown hg hbase (fun k hk => by
    rcases hown.2 with ⟨rfl, _⟩ | ⟨g, cap, cur, rfl, hb, _⟩
    · cases hk
    · simp [Value.ownBlock] at hk; omega)
theorem wp_appW {w : World} {o : Oper} {a : Act} {K : Act → World → Prop} {Q : Exit → Act → World → Prop} (s x : Operand)
    (ho : o.op = .call { callee := .builtin .append, args := #[s, x], argTypes := #[211, 211] }) (base : Nat) (v : Value) (zs : List Int) (hs : a.eval s = v) (c : Int) (hown : OwnW w base v zs) (g : Nat)
    (hx : a.eval x = .slice (some ⟨g, 0, none⟩) 1 1) (hc : w.cell? ⟨g, 0, none⟩ = some (.int .u32 c)) (hln : zs.length ≤ 4000000) (hbase : base ≤ w.heap.size)
    (h : ∀ v' w', OwnW w' base v' (zs ++ [c]) → w.grownBy w' v.ownBlock → K (a.put o.dst v') w') : o.wp Tryz.prog a w K Q := by
  obtain ⟨i0, hi, hz0, hz1, hz2⟩ := info_parts infoU32
  refine wp_append_own w s x 211 ho base 24 i0 (.int .u32 0) 1 4 Tryz.underlying211 hi hz0 hz1 hz2 rfl (by decide) v zs.length (zs.map (Value.int .u32)) hs hown ⟨g, 0, none⟩ 1 1 [.int .u32 c] hx rfl ?_ (by simp [Value.oneCell']) (by simp [maxLen]; omega) (by omega) hbase ?_
  · intro j u hj
    cases j with
    | zero => rw [Addr.add_mid']; simp at hj; rw [← hj]; exact hc
    | succ j => simp at hj
  intro v' w' h1 h2 _
  exact h v' w' (OwnW.cast h1 (by simp) (by simp)) h2
theorem wp_appW1 {w : World} {o : Oper} {a : Act} {K : Act → World → Prop} {Q : Exit → Act → World → Prop} (s x : Operand)
    (ho : o.op = .call { callee := .builtin .append, args := #[s, x], argTypes := #[211, 211] }) (base : Nat) (v : Value) (zs : List Int) (hs : a.eval s = v) (c : Int) (hown : OwnW (w.alloc (.cells #[.int .u32 c] 24)) base v zs)
    (hx : a.eval x = .slice (some ⟨w.heap.size, 0, none⟩) 1 1) (hln : zs.length ≤ 4000000) (hbase : base ≤ w.heap.size)
    (h : ∀ v' w', OwnW w' base v' (zs ++ [c]) → (w.alloc (.cells #[.int .u32 c] 24)).grownBy w' v.ownBlock → K (a.put o.dst v') w') : o.wp Tryz.prog a (w.alloc (.cells #[.int .u32 c] 24)) K Q :=
  wp_appW s x ho base v zs hs c hown w.heap.size hx ((cell_of_row _ w.heap.size 0 _ 24 (0, 0) (World.alloc_heap_new w _)).trans rfl) hln (by simp; omega) h
theorem wpList_appW1 {w : World} {ops : Array Oper} {rest : List Oper} {o : Oper} {a : Act} {Q : Exit → Act → World → Prop} (hgd : o.guard = none) (s x : Operand)
    (ho : o.op = .call { callee := .builtin .append, args := #[s, x], argTypes := #[211, 211] }) (base : Nat) (v : Value) (zs : List Int) (hs : a.eval s = v) (c : Int) (hown : OwnW (w.alloc (.cells #[.int .u32 c] 24)) base v zs)
    (hx : a.eval x = .slice (some ⟨w.heap.size, 0, none⟩) 1 1) (hln : zs.length ≤ 4000000) (hbase : base ≤ w.heap.size)
    (h : ∀ v' w', OwnW w' base v' (zs ++ [c]) → (w.alloc (.cells #[.int .u32 c] 24)).grownBy w' v.ownBlock → wpList Tryz.prog ops Q rest (a.put o.dst v') w') : wpList Tryz.prog ops Q (o :: rest) a (w.alloc (.cells #[.int .u32 c] 24)) :=
  wpList_plain hgd fun _ hK => wp_appW1 s x ho base v zs hs c hown hx hln hbase fun v' w' h1 h2 => hK _ _ (h v' w' h1 h2)
end Go.Proofs.YtfainlfiphdaeaaGreatDoor.S
