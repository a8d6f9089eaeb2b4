/- FewL2 RefPad RefLeaf RefStepB -/
import Derived.Test.YtflkhkmejnpapaaGreatDoorK18
import Derived.Test.YtflkhkmejnpapaaGreatDoorK16
import Derived.Test.YtflkhkmejnpapaaGreatDoorK02
import Derived.Deep.RegionHeldLaw
import Derived.Deep.DeepCutAuto
import Derived.Deep.CutBlock
namespace Go.Proofs.YtflkhkmejnpapaaGreatDoor.S
open Go.RowKit
theorem OwnB.empty (w : World) (base : Nat) (h : base ≤ w.heap.size) : OwnB (w.alloc (.cells #[] 5)) base (.slice (some ⟨w.heap.size, 0, none⟩) 0 0) [] :=
 ⟨rfl, .inr ⟨w.heap.size, 0, #[], rfl, h, heap_alloc_new w _, Nat.le_refl _, by simp [maxLen], rfl, rfl⟩⟩
set_option maxHeartbeats 1000000 in
theorem refPad_any (x : Option Addr) (len cap : Nat) (z : List Int) (w : World) (hbz : Bytes w x len cap z) (hln : len ≤ 1000000) :
    Calls Tryz.prog 93 #[.slice x len cap] w fun e w' => ∃ v, e = .returned v ∧ OwnB w' w.heap.size v (padL z) ∧ Below w.heap.size w w' := by
 have HZ : Hid (len = z.length) := hbz.len_eq
 have hsp := padSize_ge len
 have hsp2 : padSize len ≤ 2000000 := by unfold padSize; omega
 have hsp3 : padSize len % 64 = 0 := by unfold padSize; omega
 have hsp4 : padSize len ≤ len + 72 := by unfold padSize; omega
 obtain ⟨m, hm⟩ : ∃ m, padSize len = m := ⟨_, rfl⟩
 have HM : Hid (padSize len = m) := hm
 rw [hm] at hsp hsp2 hsp3 hsp4
 clear hm
 go_enter Tryz.func93, Tryz.ntmps93
 go_upto_region 3 with (first
  | (at_builtin; refine wpList_app rfl _ _ rfl w.heap.size _ [] rfl (OwnB.nil _ _) x len cap z rfl hbz (by simp; omega) (Nat.le_refl _) ?_; intro v1 w1 ho1 hg1; have hB1 := below_grown (Below.refl _ _) (OwnB.nil w w.heap.size) hg1 (Nat.le_refl _))
  | (at_builtin; refine wpList_app1 rfl _ _ rfl w.heap.size _ z rfl 128 (ho1.alloc _) rfl (by have := HZ.out; omega) hB1.size ?_; intro v2 w2 ho2 hg2))
 have hB2 : Below w.heap.size w w2 := below_grown (hB1.alloc hB1.size _) (ho1.alloc _) hg2 (by have := hB1.size; simp; omega)
 clear hg2 ho1 hB1 hg1 hbz
 go_loopw [3] (fun v wr => ∃ k : Nat, len + 1 + k ≤ m - 8 ∧ Below w.heap.size w wr ∧ OwnB wr w.heap.size v (z ++ [128] ++ List.replicate k 0)) (fun v _ => m - lenOf v)
 case atStart => exact ⟨0, by omega, hB2, by simpa using ho2⟩
 case round =>
  clear hB2 ho2
  obtain ⟨k, hk, hB, ho⟩ := hrel
  have hlen : (z ++ [128] ++ List.replicate k 0).length = len + 1 + k := by have := HZ.out; simp; omega
  obtain ⟨g, cp, rfl, hg⟩ := ho.slice (by omega)
  rw [hlen]
  by_cases hlt : len + 1 + k < m - 8
  · have hne : (((len : Int) + 1 + (k : Int)) % 64 != 56) = true := by simp; omega
    go_wp2_with (at_builtin; refine wpList_app1 rfl _ _ rfl w.heap.size _ (z ++ [128] ++ List.replicate k 0) (by rw [hlen]; rfl) 0 (ho.alloc _) rfl (by omega) hB.size ?_; intro v3 w3 ho3 hg3)
    obtain ⟨g', cp', hv3, _⟩ := ho3.slice (by simp; omega)
    have hl3 : (z ++ [128] ++ List.replicate k 0 ++ [0]).length = len + 1 + (k + 1) := by rw [List.length_append, hlen]; rfl
    rw [hl3] at hv3
    subst hv3
    go_roundw
    case rel =>
     refine ⟨k + 1, by omega, below_grown (hB.alloc hB.size _) (ho.alloc _) (by rw [hlen]; exact hg3) (by have := hB.size; simp; omega), ?_⟩
     rw [List.replicate_succ', ← List.append_assoc]
     exact ho3
    case measure => simp only [lenOf]; omega
  · obtain rfl : k = m - 9 - len := by omega
    have hne : (((len : Int) + 1 + ((m - 9 - len : Nat) : Int)) % 64 != 56) = false := by simp; omega
    have hpre : z ++ [128] ++ List.replicate (m - 9 - len) 0 = z ++ [128] ++ List.replicate (padSize z.length - z.length - 9) 0 := by
     rw [← HZ.out, HM.out]; congr 2; omega
    rw [hpre] at ho
    have hlp : (z ++ [128] ++ List.replicate (padSize z.length - z.length - 9) 0).length = m - 8 := by rw [← hpre, hlen]; omega
    go_wp2_with fail
    rw [show len + 1 + (m - 9 - len) = m - 8 by omega]
    have HP : Hid (padL z = z ++ [128] ++ List.replicate (padSize z.length - z.length - 9) 0 ++ lenTail z.length 8) := by
     show padK z 8 = _
     simp [padK]
    obtain ⟨pr, hpr⟩ : ∃ pr, z ++ [128] ++ List.replicate (padSize z.length - z.length - 9) 0 = pr := ⟨_, rfl⟩
    rw [hpr] at ho HP hlp
    clear hpr hpre hlen
    go_loopw [3, 5] (fun v i wr => ∃ j : Nat, j ≤ 8 ∧ i = .int .i64 j ∧ Below w.heap.size w wr ∧ OwnB wr w.heap.size v (pr ++ (lenTail len 8).take j)) (fun _ i _ => 8 - (intOf i).toNat)
    case atStart => exact ⟨0, by omega, rfl, hB, by rw [← hlp] ; simpa using ho⟩
    case round =>
     clear hB ho
     obtain ⟨j, hj, rfl, hB, ho⟩ := hrel
     have hlj : (pr ++ (lenTail len 8).take j).length = m - 8 + j := by rw [List.length_append, List.length_take, lenTail_length, hlp]; omega
     obtain ⟨g2, cp2, hv2, hg2⟩ := ho.slice (by omega)
     subst hv2
     rw [hlj]
     by_cases hlt2 : j < 8
     · have hbyte := lenTail_get len 8 j hlt2
       have htk := take_next (lenTail len 8) j (by rw [lenTail_length]; exact hlt2)
       rw [hbyte] at htk
       have HT : Hid ((lenTail len 8).take (j + 1) = (lenTail len 8).take j ++ [lenByte len (8 - 1 - j)]) := htk
       clear hbyte htk
       go_wp2_with (at_builtin; refine wpList_app1 rfl _ _ rfl w.heap.size _ (pr ++ (lenTail len 8).take j) (by rw [hlj]; rfl) _ (ho.alloc _) rfl (by omega) hB.size ?_; intro v3 w3 ho3 hg3)
       go_roundw
       case rel =>
        have hB3 : Below w.heap.size w w3 := below_grown (hB.alloc hB.size _) (ho.alloc _) (by rw [hlj]; exact hg3) (by have := hB.size; simp; omega)
        have ho4 : OwnB w3 w.heap.size v3 (pr ++ (lenTail len 8).take (j + 1)) := by
         rw [HT.out, ← List.append_assoc]
         have e : lenByte len (8 - 1 - j) = (len : Int) * 8 / 2 ^ (56 - 8 * j) % 256 := by unfold lenByte; rw [show 8 * (8 - 1 - j) = 56 - 8 * j by omega]
         rw [e]
         exact ho3
        first
         | exact ⟨j + 1, by omega, by go_num, hB3, ho4⟩
         | ((repeat apply Exists.intro); exact ⟨⟨j + 1, by omega, by go_num, hB3, ho4⟩, rfl⟩)
       case measure => simp [intOf]; omega
     · obtain rfl : j = 8 := by omega
       go_wp2
       go_ret
       refine ⟨_, rfl, ?_, hB⟩
       rw [HP.out, ← HZ.out]
       rw [List.take_of_length_le (by rw [lenTail_length]; omega)] at ho hlj
       rw [← hlj]
       exact ho
set_option maxRecDepth 20000
theorem refRight_any (x n : Int) (w : World) (hn : rotN n) :
    Calls Tryz.prog 111 #[.int .u32 x, .int .i64 n] w fun e w' => e = .returned (.int .u32 (rr n x)) ∧ ∃ q, w' = w.drewN q := by
 rcases hn with rfl | rfl | rfl | rfl | rfl | rfl | rfl | rfl | rfl | rfl
 all_goals
  go_enter Tryz.func111, Tryz.ntmps111
  go_wp2
  go_quiet ((fail))
  go_wp2
  go_ret
  exact ⟨ret_u32 rfl, _, rfl⟩
theorem wpList_build {P : Program} {ops : Array Oper} {rest : List Oper} {o : Oper} {a : Act} {w : World} {Q : Exit → Act → World → Prop} (hgd : o.guard = none) (t : TypeId) (parts : Array (Nat × Operand)) (ho : o.op = .build t parts) (v : Value)
    (hrun : ∀ wx, (Instr.build t (parts.map fun (i, x) => (i, a.eval x))).run P wx = .ok v wx) (h : wpList P ops Q rest (a.put o.dst v) w) : wpList P ops Q (o :: rest) a w :=
 wpList_plain hgd fun _ hK => by
  unfold Oper.wp execOp
  simp only [ho, Sem.run_bind, Sem.run_pure, Result.andThen_ok, hrun]
  exact hK _ _ h
theorem refK_any (i : Nat) (w : World) (h : i < 64) :
    Calls Tryz.prog 112 #[.int .i64 i] w fun e w' => e = .returned (.int .u32 (kTab[i]?.getD 0)) ∧ w' = w := by
 have hix := fun wx => run_index_row wx 172 31 64 .u32 kTab i Tryz.underlying172 Tryz.underlying31 size1u32 rfl h
 obtain ⟨V, hV⟩ : ∃ V, kTab[i]?.getD 0 = V := ⟨_, rfl⟩
 rw [hV] at hix ⊢
 clear hV
 go_enter Tryz.func112, Tryz.ntmps112
 go_wp2_with (refine wpList_build rfl 172 _ rfl (.agg (row .u32 kTab)) (fun _ => by kernel_rfl) ?_)
 go_ret
 exact ⟨rfl, rfl⟩
theorem infoU32 : (Tryz.prog.info? 31).map (fun i => (i.zero, i.size, i.bytes)) = some (some (.int .u32 0), 1, 4) := by kernel_rfl
def OwnW (w : World) (base : Nat) (v : Value) (l : List Int) : Prop := w.ownsRow base 31 1 v l.length (l.map (Value.int .u32))
theorem OwnW.cast {w : World} {base n : Nat} {v : Value} {z : List Int} {xs : List Value} (h : w.ownsRow base 31 1 v n xs) (hn : n = z.length) (hx : xs = z.map (Value.int .u32)) : OwnW w base v z := by
 subst hn hx; exact h
theorem OwnW.nil (w : World) (base : Nat) : OwnW w base (.slice none 0 0) [] := World.ownsRow_nil w base 31 1
theorem OwnW.alloc {w : World} {base : Nat} {v : Value} {z : List Int} (h : OwnW w base v z) (o : Obj) : OwnW (w.alloc o) base v z := World.ownsRow.alloc h o
theorem OwnW.drewN {w : World} {base : Nat} {v : Value} {z : List Int} (h : OwnW w base v z) (n : Nat) : OwnW (w.drewN n) base v z := by
 induction n with
 | zero => exact h
 | succ n ih => exact World.ownsRow.drew ih
theorem OwnW.slice {w : World} {base : Nat} {v : Value} {z : List Int} (h : OwnW w base v z) (hz : 0 < z.length) : ∃ g cap, v = .slice (some ⟨g, 0, none⟩) z.length cap ∧ base ≤ g ∧ cap ≤ 9223372036854775807 ∧ z.length ≤ cap ∧ ∀ j, j < z.length → w.cell? ⟨g, j, none⟩ = some (.int .u32 (z[j]?.getD 0)) := by
 rcases h.2 with ⟨_, h0⟩ | ⟨g, cap, cur, rfl, hb, hg, hc, hm, hs, ht⟩
 · omega
 · refine ⟨g, cap, rfl, hb, by simpa [maxLen] using hm, hc, fun j hj => ?_⟩
   rw [cell_of_row w g j _ _ _ hg, ← Array.getElem?_toList]
   have e : (cur.toList.take (z.length * 1))[j]? = (z.map (Value.int .u32))[j]? := by rw [ht]
   rw [Nat.mul_one, List.getElem?_take_of_lt hj, List.getElem?_map, List.getElem?_eq_getElem hj] at e
   rw [e, List.getElem?_eq_getElem hj]; rfl
theorem below_grownW {base : Nat} {w0 w w' : World} {v : Value} {z : List Int} (hb : Below base w0 w) (hown : OwnW w base v z) (hg : w.grownBy w' v.ownBlock) (hbase : base ≤ w.heap.size) : Below base w0 w' :=
 hb.grown hg hbase (fun k hk => by
  rcases hown.2 with ⟨rfl, _⟩ | ⟨g, cap, cur, rfl, hb, _⟩
  · cases hk
  · simp [Value.ownBlock] at hk; omega)
theorem wp_appW {w : World} {o : Oper} {a : Act} {K : Act → World → Prop} {Q : Exit → Act → World → Prop} (s x : Operand)
    (ho : o.op = .call { callee := .builtin .append, args := #[s, x], argTypes := #[150, 150] }) (base : Nat) (v : Value) (zs : List Int) (hs : a.eval s = v) (c : Int) (hown : OwnW w base v zs) (g : Nat)
    (hx : a.eval x = .slice (some ⟨g, 0, none⟩) 1 1) (hc : w.cell? ⟨g, 0, none⟩ = some (.int .u32 c)) (hln : zs.length ≤ 4000000) (hbase : base ≤ w.heap.size)
    (h : ∀ v' w', OwnW w' base v' (zs ++ [c]) → w.grownBy w' v.ownBlock → K (a.put o.dst v') w') : o.wp Tryz.prog a w K Q := by
 obtain ⟨i0, hi, hz0, hz1, hz2⟩ := info_parts infoU32
 refine wp_append_own w s x 150 ho base 31 i0 (.int .u32 0) 1 4 Tryz.underlying150 hi hz0 hz1 hz2 rfl (by decide) v zs.length (zs.map (Value.int .u32)) hs hown ⟨g, 0, none⟩ 1 1 [.int .u32 c] hx rfl ?_ (by simp [Value.oneCell']) (by simp [maxLen]; omega) (by omega) hbase ?_
 · intro j u hj
   cases j with
   | zero => rw [Addr.add_mid']; simp at hj; rw [← hj]; exact hc
   | succ j => simp at hj
 intro v' w' h1 h2 _
 exact h v' w' (OwnW.cast h1 (by simp) (by simp)) h2
theorem wp_appW1 {w : World} {o : Oper} {a : Act} {K : Act → World → Prop} {Q : Exit → Act → World → Prop} (s x : Operand)
    (ho : o.op = .call { callee := .builtin .append, args := #[s, x], argTypes := #[150, 150] }) (base : Nat) (v : Value) (zs : List Int) (hs : a.eval s = v) (c : Int) (hown : OwnW (w.alloc (.cells #[.int .u32 c] 31)) base v zs)
    (hx : a.eval x = .slice (some ⟨w.heap.size, 0, none⟩) 1 1) (hln : zs.length ≤ 4000000) (hbase : base ≤ w.heap.size)
    (h : ∀ v' w', OwnW w' base v' (zs ++ [c]) → (w.alloc (.cells #[.int .u32 c] 31)).grownBy w' v.ownBlock → K (a.put o.dst v') w') : o.wp Tryz.prog a (w.alloc (.cells #[.int .u32 c] 31)) K Q :=
 wp_appW s x ho base v zs hs c hown w.heap.size hx ((cell_of_row _ w.heap.size 0 _ 31 (0, 0) (World.alloc_heap_new w _)).trans rfl) hln (by simp; omega) h
theorem wpList_appW1 {w : World} {ops : Array Oper} {rest : List Oper} {o : Oper} {a : Act} {Q : Exit → Act → World → Prop} (hgd : o.guard = none) (s x : Operand)
    (ho : o.op = .call { callee := .builtin .append, args := #[s, x], argTypes := #[150, 150] }) (base : Nat) (v : Value) (zs : List Int) (hs : a.eval s = v) (c : Int) (hown : OwnW (w.alloc (.cells #[.int .u32 c] 31)) base v zs)
    (hx : a.eval x = .slice (some ⟨w.heap.size, 0, none⟩) 1 1) (hln : zs.length ≤ 4000000) (hbase : base ≤ w.heap.size)
    (h : ∀ v' w', OwnW w' base v' (zs ++ [c]) → (w.alloc (.cells #[.int .u32 c] 31)).grownBy w' v.ownBlock → wpList Tryz.prog ops Q rest (a.put o.dst v') w') : wpList Tryz.prog ops Q (o :: rest) a (w.alloc (.cells #[.int .u32 c] 31)) :=
 wpList_plain hgd fun _ hK => wp_appW1 s x ho base v zs hs c hown hx hln hbase fun v' w' h1 h2 => hK _ _ (h v' w' h1 h2)
set_option linter.unusedSimpArgs false
structure VeilR (p : Prop) : Prop where
 out : p
set_option maxHeartbeats 4000000 in
theorem refStep_any (s z : List Int) (b off cap : Nat) (w : World) (hs : s.length = 8) (hin : InU s) (_hcap : 64 ≤ cap) (_hcap2 : cap ≤ 9223372036854775807)
    (hcell : ∀ j, j < 64 → w.cell? ⟨b, off + j, none⟩ = some (.int .u8 (z[j]?.getD 0))) :
    Calls Tryz.prog 95 #[.agg (row .u32 s), .slice (some ⟨b, off, none⟩) 64 cap] w fun e w' => e = .returned (.agg (row .u32 (stepL s z))) ∧ Below w.heap.size w w' := by
 have hb : b < w.heap.size := block_lt_of_cell (hcell 0 (by omega))
 go_enter Tryz.func95, Tryz.ntmps95
 go_upto_block 0 with fail
 refine forget (p := fun x => Code.wp _ _ _ _ x) (fun W0 => Below w.heap.size w W0 ∧ W0.heap.size = w.heap.size + 2 ∧ Holds W0 w.heap.size .u32 146 s ∧ Holds W0 (w.heap.size + 1) .u32 146 (List.replicate 8 0)) ⟨((Below.refl _ _).alloc (Nat.le_refl _) _).alloc (by simp) _, by simp, ?_, ?_⟩ ?_
 · exact (Holds.new w .u32 146 s).alloc _
 · have hn := Holds.new (w.alloc (.cells (row .u32 s) 146)) .u32 146 (List.replicate 8 0)
   rw [World.size_alloc] at hn
   exact hn
 rintro W0 ⟨hB0, hsz, h0, h1⟩
 have hsl : w.heap.size + 2 ≤ W0.heap.size := by omega
 have hcw : ∀ w', Below W0.heap.size W0 w' → ∀ j, j < 64 → w'.cell? ⟨b, off + j, none⟩ = some (.int .u8 (z[j]?.getD 0)) := fun w' hx j hj => ((hB0.trans (hx.mono hB0.size)).cell (p := ⟨b, off + j, none⟩) hb).trans (hcell j hj)
 clear hsz hcell
 go_cut [5] (fun v wx => Below W0.heap.size W0 wx ∧ OwnW wx W0.heap.size v (wordsL z 16))
 case first =>
  go_wp2_with fail
  go_loopw [5, 6] (fun v i wr => ∃ k : Nat, k ≤ 16 ∧ i = .int .i64 ((4 * k : Nat) : Int) ∧ Below W0.heap.size W0 wr ∧ OwnW wr W0.heap.size v (wordsL z k)) (fun _ i _ => 64 - (intOf i).toNat)
  case atStart => exact ⟨0, by omega, rfl, Below.refl _ _, OwnW.nil _ _⟩
  case round =>
   obtain ⟨k, hk, rfl, hB, ho⟩ := hrel
   by_cases hlt : k < 16
   · obtain ⟨I, hI⟩ : ∃ I, 4 * k = I := ⟨_, rfl⟩
     have HI : VeilR (4 * k = I) := ⟨hI⟩
     obtain ⟨z0, e0⟩ : ∃ q, z[4 * k]?.getD 0 = q := ⟨_, rfl⟩
     obtain ⟨z1, e1⟩ : ∃ q, z[4 * k + 1]?.getD 0 = q := ⟨_, rfl⟩
     obtain ⟨z2, e2⟩ : ∃ q, z[4 * k + 2]?.getD 0 = q := ⟨_, rfl⟩
     obtain ⟨z3, e3⟩ : ∃ q, z[4 * k + 3]?.getD 0 = q := ⟨_, rfl⟩
     have hkeep : ∀ w', Below W0.heap.size W0 w' → (w'.cell? ⟨b, off + I, none⟩ = some (.int .u8 z0) ∧ w'.cell? ⟨b, off + (I + 1), none⟩ = some (.int .u8 z1) ∧ w'.cell? ⟨b, off + (I + 2), none⟩ = some (.int .u8 z2) ∧ w'.cell? ⟨b, off + (I + 3), none⟩ = some (.int .u8 z3)) := fun w' hx => by
      subst hI
      rw [← e0, ← e1, ← e2, ← e3]
      exact ⟨hcw w' hx _ (by omega), hcw w' hx _ (by omega), hcw w' hx _ (by omega), hcw w' hx _ (by omega)⟩
     have HW : VeilR (wordsL z (k + 1) = wordsL z k ++ [wd z0 z1 z2 z3]) := ⟨by
      rw [wordsL_succ, wdAt, e0, e1, e2, e3]⟩
     have hwl : (wordsL z k).length ≤ 16 := by rw [wordsL_length]; omega
     rw [hI]
     have i0 : (0 : Int) ≤ (I : Int) := by omega
     have i1 : (I : Int) < 64 := by omega
     have i2 : (I : Int) + 1 < 64 := by omega
     have i3 : (I : Int) + 2 < 64 := by omega
     have i4 : (I : Int) + 3 < 64 := by omega
     have j1 : IntKind.i64.wrap ((I : Int) + 1) = (I : Int) + 1 := by rw [IntKind.wrap_i64]; omega
     have j2 : IntKind.i64.wrap ((I : Int) + 2) = (I : Int) + 2 := by rw [IntKind.wrap_i64]; omega
     have j3 : IntKind.i64.wrap ((I : Int) + 3) = (I : Int) + 3 := by rw [IntKind.wrap_i64]; omega
     clear e0 e1 e2 e3 hI hcw
     go_upto_region 7 with fail
     go_region_held_law (fun w' => w'.cell? ⟨b, off + I, none⟩ = some (.int .u8 z0) ∧ w'.cell? ⟨b, off + (I + 1), none⟩ = some (.int .u8 z1) ∧ w'.cell? ⟨b, off + (I + 2), none⟩ = some (.int .u8 z2) ∧ w'.cell? ⟨b, off + (I + 3), none⟩ = some (.int .u8 z3))
      ((refine hkeep _ ?_; first | with_reducible exact hB.drew | with_reducible exact hB4 | with_reducible exact (hB.alloc hB.size _).drew | with_reducible exact hB.drew.alloc hB.size _))
      (first
      | (refine wp_appW _ _ rfl W0.heap.size _ (wordsL z k) rfl (wd z0 z1 z2 z3) (w := World.drew (World.alloc wr _)) ?_ wr.heap.size rfl ?_ ?_ ?_ ?_; exact World.ownsRow.drew (ho.alloc _); exact (cell_of_row _ wr.heap.size 0 _ 31 (0, 0) (World.alloc_heap_new wr _)).trans rfl; (omega); (have := hB.size; simp; omega); intro v4 w4 ho4 hg4; have hB4 : Below W0.heap.size W0 w4 := below_grownW ((hB.alloc hB.size _).drew) (World.ownsRow.drew (ho.alloc _)) hg4 (by have := hB.size; simp; omega)))
     all_goals go_wp2
     all_goals go_roundw
     all_goals first
      | exact ⟨k + 1, by omega, by have := HI.out; congr 1; omega, hB4, by rw [HW.out]; exact ho4⟩
      | (have := HI.out; simp [intOf]; omega)
   · obtain rfl : k = 16 := by omega
     go_wp2_with fail
     go_meet
     exact ⟨hB, ho⟩
 case rest =>
  obtain ⟨hB, ho⟩ := hcut
  go_upto_block 2 with fail
  have hwl : (wordsL z 16).length = 16 := wordsL_length z 16
  obtain ⟨F, hF⟩ : ∃ F, wordsL z 16 = F := ⟨_, rfl⟩
  have HF : VeilR (wordsL z 16 = F) := ⟨hF⟩
  rw [hF] at ho hwl
  clear hF hcw
  go_cut [5] (fun v wx => Below W0.heap.size W0 wx ∧ OwnW wx W0.heap.size v (sched F 48))
  case first =>
   go_wp2_with fail
   go_loopw [5, 7] (fun v i wr => ∃ m : Nat, m ≤ 48 ∧ i = .int .i64 ((16 + m : Nat) : Int) ∧ Below W0.heap.size W0 wr ∧ OwnW wr W0.heap.size v (sched F m)) (fun _ i _ => 64 - (intOf i).toNat)
   case atStart => exact ⟨0, by omega, rfl, hB, ho⟩
   case round =>
    clear hB ho
    obtain ⟨m, hm, rfl, hB, ho⟩ := hrel
    have hln : (sched F m).length = 16 + m := by rw [sched_length, hwl]
    by_cases hlt : m < 48
    · obtain ⟨k, hk⟩ : ∃ k, 16 + m = k := ⟨_, rfl⟩
      have HK : VeilR (16 + m = k) := ⟨hk⟩
      have hk1 : 16 ≤ k := by omega
      have hk2 : k < 64 := by omega
      obtain ⟨g, cp, rfl, hg, hcp, hle, hc⟩ := ho.slice (by omega)
      rw [hln, hk] at hc hle ⊢
      have c2 := hc (k - 2) (by omega)
      have c7 := hc (k - 7) (by omega)
      have c15 := hc (k - 15) (by omega)
      have c16 := hc (k - 16) (by omega)
      have HS : VeilR (sched F (m + 1) = sched F m ++ [swdAt (sched F m) k]) := ⟨by
       rw [sched, swd, hln, hk]⟩
      have hll : (sched F m).length ≤ 64 := by omega
      have HLN : VeilR ((sched F m).length = k) := ⟨by omega⟩
      obtain ⟨a2, q2⟩ : ∃ a, (sched F m)[k - 2]?.getD 0 = a := ⟨_, rfl⟩
      obtain ⟨a7, q7⟩ : ∃ a, (sched F m)[k - 7]?.getD 0 = a := ⟨_, rfl⟩
      obtain ⟨a15, q15⟩ : ∃ a, (sched F m)[k - 15]?.getD 0 = a := ⟨_, rfl⟩
      obtain ⟨a16, q16⟩ : ∃ a, (sched F m)[k - 16]?.getD 0 = a := ⟨_, rfl⟩
      have HV : VeilR (swdAt (sched F m) k = (near a2 + a7 + far a15 + a16) % 4294967296) := ⟨by
       rw [swdAt, q2, q7, q15, q16]⟩
      rw [q2] at c2
      rw [q7] at c7
      rw [q15] at c15
      rw [q16] at c16
      clear hk hc hln q2 q7 q15 q16
      go_upto_region 11 with fail
      go_quiet ((fail))
      go_upto_region 12 with fail
      refine forget (p := fun y => Code.wp _ _ _ _ y) (fun W1 => Below W0.heap.size W0 W1 ∧ OwnW W1 W0.heap.size (.slice (some ⟨g, 0, none⟩) k cp) (sched F m) ∧ W1.cell? ⟨g, k - 7, none⟩ = some (.int .u32 a7) ∧ W1.cell? ⟨g, k - 16, none⟩ = some (.int .u32 a16)) ⟨below_drewN hB _, ?_, ?_, ?_⟩ ?_
      · rw [← HLN.out]; exact ho.drewN _
      · simpa using c7
      · simpa using c16
      clear c2 c7 c15 c16 ho hB
      rintro W1 ⟨hB, ho, c7, c16⟩
      go_quiet ((go_at_call 111; exact Calls.quiet_of (refRight_any _ _ _ (by unfold rotN; omega))))
      go_wp2_with (at_builtin; refine wpList_appW1 rfl _ _ rfl W0.heap.size _ (sched F m) rfl ((near a2 + a7 + far a15 + a16) % 4294967296) ((ho.drewN _).alloc _) rfl (by omega) (by have := hB.size; simp; omega) ?_; intro v3 w3 ho3 hg3)
      have hB3 : Below W0.heap.size W0 w3 := below_grownW ((below_drewN hB _).alloc (by have := hB.size; simp; omega) _) ((ho.drewN _).alloc _) hg3 (by have := hB.size; simp; omega)
      have ho4 : OwnW w3 W0.heap.size v3 (sched F (m + 1)) := by rw [HS.out, HV.out]; exact ho3
      have hi4 : Value.int .i64 ((k : Int) + 1) = .int .i64 ((16 + (m + 1) : Nat) : Int) := by have := HK.out; congr 1; omega
      go_roundw
      case rel =>
       first
        | exact ⟨m + 1, by omega, hi4, hB3, ho4⟩
        | ((repeat apply Exists.intro); exact ⟨⟨m + 1, by omega, hi4, hB3, ho4⟩, rfl⟩)
      case measure => have := HK.out; simp [intOf]; omega
    · obtain rfl : m = 48 := by omega
      clear hln
      go_wp2_with fail
      go_meet
      exact ⟨hB, ho⟩
  case rest =>
   clear hB ho
   obtain ⟨hB, ho⟩ := hcut
   have hln : (sched F 48).length = 64 := by rw [sched_length, hwl]
   obtain ⟨WS, hWS⟩ : ∃ l, sched F 48 = l := ⟨_, rfl⟩
   have HWS : VeilR (sched (wordsL z 16) 48 = WS) := ⟨by rw [HF.out]; exact hWS⟩
   rw [hWS] at ho hln
   obtain ⟨g, cp, hv, hg, hcp, hle, hc⟩ := ho.slice (by omega)
   subst hv
   rw [hln] at hc hle ⊢
   have hs0 : Holds wc w.heap.size .u32 146 s := h0.below hB (by omega)
   have hs1 : Holds wc (w.heap.size + 1) .u32 146 (List.replicate 8 0) := h1.below hB (by omega)
   have hBw : Below w.heap.size w wc := hB0.trans (hB.mono (by omega))
   have hgl : w.heap.size + 2 ≤ g := by omega
   clear hWS hln hwl ho h0 h1 hB0 hB hsl hg hle
   obtain ⟨s0, s1, s2, s3, s4, s5, s6, s7, rfl⟩ := eight hs
   obtain ⟨⟨b0, b1, b2, b3, b4, b5, b6, b7⟩, bf⟩ := facts8' hs0
   go_upto_block 4 with fail
   obtain ⟨R, hR⟩ : ∃ R, wc.heap.size = R := ⟨_, rfl⟩
   have hRl : w.heap.size + 2 ≤ R := by have := hs1.lt; omega
   have hgR : g < R := by rw [← hR]; exact block_lt_of_cell (hc 0 (by omega))
   rw [hR]
   refine forget (p := fun y => Code.wp _ _ _ _ y) (fun W1 => Below w.heap.size w W1 ∧ Holds W1 w.heap.size .u32 146 [s0, s1, s2, s3, s4, s5, s6, s7] ∧ Holds W1 (w.heap.size + 1) .u32 146 (List.replicate 8 0) ∧ Holds W1 R .u32 146 [s0, s1, s2, s3, s4, s5, s6, s7] ∧ ∀ j, j < 64 → W1.cell? ⟨g, j, none⟩ = some (.int .u32 (WS[j]?.getD 0))) ⟨hBw.alloc hBw.size _, hs0.alloc _, hs1.alloc _, ?_, ?_⟩ ?_
   · rw [← hR]; exact Holds.new wc .u32 146 [s0, s1, s2, s3, s4, s5, s6, s7]
   · exact fun j hj => (((Below.refl wc.heap.size wc).alloc (Nat.le_refl _) _).cell (p := ⟨g, j, none⟩) (block_lt_of_cell (hc j hj))).trans (hc j hj)
   clear hBw hs0 hs1 hc b0 b1 b2 b3 b4 b5 b6 b7 bf hR
   rintro W1 ⟨hB, hs0, hs1, hRR, hc⟩
   go_cut [] (fun wx => Below w.heap.size w wx ∧ Holds wx w.heap.size .u32 146 [s0, s1, s2, s3, s4, s5, s6, s7] ∧ Holds wx (w.heap.size + 1) .u32 146 (List.replicate 8 0) ∧ Holds wx R .u32 146 (rounds WS [s0, s1, s2, s3, s4, s5, s6, s7] 64))
   case first =>
       go_wp2_with fail
       go_loopw [12] (fun i wr => ∃ (k : Nat) (a' b' c' d' e' f' g' h' : Int), k ≤ 64 ∧ i = .int .i64 k ∧ rounds WS [s0, s1, s2, s3, s4, s5, s6, s7] k = [a', b', c', d', e', f', g', h'] ∧ Below w.heap.size w wr ∧ Holds wr w.heap.size .u32 146 [s0, s1, s2, s3, s4, s5, s6, s7] ∧ Holds wr (w.heap.size + 1) .u32 146 (List.replicate 8 0) ∧ Holds wr R .u32 146 [a', b', c', d', e', f', g', h'] ∧ ∀ j, j < 64 → wr.cell? ⟨g, j, none⟩ = some (.int .u32 (WS[j]?.getD 0)))
        (fun i _ => 64 - (intOf i).toNat)
       case atStart => exact ⟨0, s0, s1, s2, s3, s4, s5, s6, s7, by omega, rfl, rfl, hB, hs0, hs1, hRR, hc⟩
       case round =>
        clear hB hs0 hs1 hRR hc
        obtain ⟨k, a', b', c', d', e', f', g', h', hk64, rfl, HR, hB, hs0, hs1, hRR, hc⟩ := hrel
        by_cases hlt : k < 64
        · have HH : VeilR (rounds WS [s0, s1, s2, s3, s4, s5, s6, s7] k = [a', b', c', d', e', f', g', h']) := ⟨HR⟩
          have hin' := rounds_in WS [s0, s1, s2, s3, s4, s5, s6, s7] k hs hin
          rw [HR] at hin'
          obtain ⟨he0, he1⟩ := hin' e' (by simp)
          clear HR hin'
          obtain ⟨⟨x0, x1, x2, x3, x4, x5, x6, x7⟩, xf⟩ := facts8' hRR
          have cw := hc k hlt
          obtain ⟨V, hV⟩ : ∃ V, WS[k]?.getD 0 = V := ⟨_, rfl⟩
          have HV : VeilR (WS[k]?.getD 0 = V) := ⟨hV⟩
          rw [hV] at cw
          have kc := fun wx => refK_any k wx hlt
          obtain ⟨K, hK⟩ : ∃ K, kTab[k]?.getD 0 = K := ⟨_, rfl⟩
          have HK : VeilR (kTab[k]?.getD 0 = K) := ⟨hK⟩
          rw [hK] at kc
          have HC : VeilR (∀ j, j < 64 → wr.cell? ⟨g, j, none⟩ = some (.int .u32 (WS[j]?.getD 0))) := ⟨hc⟩
          have HKC : VeilR (∀ wx, Calls Tryz.prog 112 #[.int .i64 k] wx fun e w' => e = .returned (.int .u32 K) ∧ w' = wx) := ⟨kc⟩
          clear hV hK hc kc
          go_upto_region 18 with fail
          go_quiet ((fail))
          go_upto_region 19 with fail
          refine forget (p := fun y => Code.wp _ _ _ _ y) (fun W1 => Below w.heap.size w W1 ∧ Holds W1 w.heap.size .u32 146 [s0, s1, s2, s3, s4, s5, s6, s7] ∧ Holds W1 (w.heap.size + 1) .u32 146 (List.replicate 8 0) ∧ Holds W1 R .u32 146 [a', b', c', d', e', f', g', h'] ∧ (∀ j, j < 64 → W1.cell? ⟨g, j, none⟩ = some (.int .u32 (WS[j]?.getD 0))) ∧ W1.cell? ⟨g, k, none⟩ = some (.int .u32 V)) ⟨below_drewN hB _, hs0.drewN _, hs1.drewN _, hRR.drewN _, fun j hj => by simpa using HC.out j hj, by simpa using cw⟩ ?_
          clear hB hs0 hs1 hRR HC cw x0 x1 x2 x3 x4 x5 x6 x7 xf
          rintro W2 ⟨hB, hs0, hs1, hRR, hc, cw⟩
          have HC : VeilR (∀ j, j < 64 → W2.cell? ⟨g, j, none⟩ = some (.int .u32 (WS[j]?.getD 0))) := ⟨hc⟩
          clear hc
          go_quiet ((first | (go_at_call 111; exact Calls.quiet_of (refRight_any _ _ _ (by unfold rotN; omega))) | (go_at_call 112; exact Calls.quiet_of_same (HKC.out _))))
          obtain ⟨⟨x0, x1, x2, x3, x4, x5, x6, x7⟩, xf⟩ := facts8' hRR
          clear cw
          go_wp2_with (go_at_call 111; refine (refRight_any _ _ _ (by unfold rotN; omega)).mono ?_; rintro e w' ⟨rfl, q, rfl⟩)
          go_roundw
          case rel =>
           refine ⟨k + 1, _, a', b', c', _, e', f', g', by omega, by go_num, ?_, below8 (below_drewN hB _) (by omega) _ _ _ _ _ _ _ _, holdsOther8 (hs0.drewN _) _ _ _ _ _ _ _ _ (by omega), holdsOther8 (hs1.drewN _) _ _ _ _ _ _ _ _ (by omega), holds8' (hRR.drewN _) _ _ _ _ _ _ _ _, fun j hj => ?_⟩
           · show rnd _ _ _ = _
             rw [HH.out, HK.out, HV.out]
             exact rnd_of rfl rfl
           · rw [World.cell?_of_block (a := ⟨g, j, none⟩) (heap8 _ _ _ _ _ _ _ _ (by show g ≠ R; omega))]
             simpa using HC.out j hj
          case measure => simp [intOf]; omega
        · obtain rfl : k = 64 := by omega
          go_wp2_with fail
          go_meet
          exact ⟨hB, hs0, hs1, by rw [HR]; exact hRR⟩
   case rest =>
    clear hB hs0 hs1 hRR hc
    obtain ⟨hB, hs0, hs1, hRR⟩ := hcut
    obtain ⟨r0, r1, r2, r3, r4, r5, r6, r7, hR8⟩ := eight (rounds_length WS [s0, s1, s2, s3, s4, s5, s6, s7] 64 rfl)
    have HR8 : VeilR (rounds WS [s0, s1, s2, s3, s4, s5, s6, s7] 64 = [r0, r1, r2, r3, r4, r5, r6, r7]) := ⟨hR8⟩
    rw [hR8] at hRR
    clear hR8
    have hA0 : Holds wc R .u32 146 (addK [r0, r1, r2, r3, r4, r5, r6, r7] [s0, s1, s2, s3, s4, s5, s6, s7] 0) := by rw [addK_zero _ _ rfl]; exact hRR
    clear hRR
    go_wp2_with fail
    go_loopw [23] (fun i wr => ∃ k : Nat, k ≤ 8 ∧ i = .int .i64 k ∧ Below w.heap.size w wr ∧ Holds wr w.heap.size .u32 146 [s0, s1, s2, s3, s4, s5, s6, s7] ∧ Holds wr (w.heap.size + 1) .u32 146 (List.replicate 8 0) ∧ Holds wr R .u32 146 (addK [r0, r1, r2, r3, r4, r5, r6, r7] [s0, s1, s2, s3, s4, s5, s6, s7] k))
     (fun i _ => 8 - (intOf i).toNat)
    case atStart => exact ⟨0, by omega, rfl, hB, hs0, hs1, hA0⟩
    case round =>
     clear hB hs0 hs1 hA0
     obtain ⟨k, hk8, rfl, hB, hs0, hs1, hA⟩ := hrel
     by_cases hlt : k < 8
     · have cx := hA.cell k (by rw [addK_length]; exact hlt)
       rw [addK_get _ _ _ _ hlt, if_neg (by omega)] at cx
       have cs := hs0.cell k hlt
       have fx := hA.frozen k
       have hst := addK_set [r0, r1, r2, r3, r4, r5, r6, r7] [s0, s1, s2, s3, s4, s5, s6, s7] k
       obtain ⟨RK, hRK⟩ : ∃ v, [r0, r1, r2, r3, r4, r5, r6, r7][k]?.getD 0 = v := ⟨_, rfl⟩
       obtain ⟨SK, hSK⟩ : ∃ v, [s0, s1, s2, s3, s4, s5, s6, s7][k]?.getD 0 = v := ⟨_, rfl⟩
       rw [hRK] at cx hst
       rw [hSK] at cs hst
       have HST : VeilR ((addK [r0, r1, r2, r3, r4, r5, r6, r7] [s0, s1, s2, s3, s4, s5, s6, s7] k).set k ((RK + SK) % 4294967296) = addK [r0, r1, r2, r3, r4, r5, r6, r7] [s0, s1, s2, s3, s4, s5, s6, s7] (k + 1)) := ⟨hst⟩
       have hne : ¬ R = w.heap.size := by omega
       clear hRK hSK hst
       go_wp2
       go_region
       all_goals go_wp2
       all_goals go_roundw
       case rel =>
        refine ⟨k + 1, by omega, by go_num, (below_drewN hB 1).setCell (by simp; omega) _, (hs0.drew).setOther _ _ (by simp; omega), (hs1.drew).setOther _ _ (by simp; omega), ?_⟩
        have := hA.drew.set k ((RK + SK) % 4294967296)
        rw [HST.out] at this
        exact this
       case measure => simp [intOf]; omega
     · obtain rfl : k = 8 := by omega
       rw [addK_eight] at hA
       have hl : (addL [r0, r1, r2, r3, r4, r5, r6, r7] [s0, s1, s2, s3, s4, s5, s6, s7]).length = 8 := by simp [addL]
       have HE : VeilR (stepL [s0, s1, s2, s3, s4, s5, s6, s7] z = addL [r0, r1, r2, r3, r4, r5, r6, r7] [s0, s1, s2, s3, s4, s5, s6, s7]) := ⟨by unfold stepL; rw [HWS.out, HR8.out]⟩
       obtain ⟨L, hL⟩ : ∃ L, addL [r0, r1, r2, r3, r4, r5, r6, r7] [s0, s1, s2, s3, s4, s5, s6, s7] = L := ⟨_, rfl⟩
       rw [hL] at hA hl HE
       clear hL
       go_wp2_with (first | (refine wpList_ld rfl 146 _ rfl _ rfl hA Tryz.underlying146 size8 hl ?_) | (refine wpList_st rfl 146 _ _ rfl _ rfl rfl hs1 (by rw [hl]; exact size8) (by simp [hl]) ?_))
       refine bodyPost_ret (results_holds (Tryz.results95) _ rfl (hs1.setRow _) Tryz.underlying146 size8 hl) rfl ⟨by rw [HE.out], ?_⟩
       exact below_setRow hB (by omega) _
end Go.Proofs.YtflkhkmejnpapaaGreatDoor.S
