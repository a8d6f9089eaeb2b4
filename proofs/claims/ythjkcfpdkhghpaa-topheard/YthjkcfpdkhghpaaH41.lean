/- Tp2 -/
import Derived.Test.YthjkcfpdkhghpaaH40
import Derived.Test.YthjkcfpdkhghpaaH32
namespace Go.Proofs.Ythjkcfpdkhghpaa
open Go.RowKit Go.Shelf
set_option maxRecDepth 20000
set_option linter.unusedSimpArgs false
theorem TreeTo.then_ {R bc bn : Nat} {V V1 V2 : (Int × Int) × Bool → Value} {w w1 w2 : World} (h : TreeTo R bc bn V V1 w w1) (h2 : TreeTo R bc bn V1 V2 w1 w2) : TreeTo R bc bn V V2 w w2 where
  turn := ⟨h2.turn.os.trans h.turn.os, h2.turn.tape.trans h.turn.tape, h2.turn.output.trans h.turn.output, Nat.le_trans h.turn.size h2.turn.size, fun k hk hn => by
    rw [h2.turn.block k (Nat.lt_of_lt_of_le hk h.turn.size) (fun q => by
      rcases h.own k q with r | r
      · exact hn r
      · omega)]
    exact h.turn.block k hk hn⟩
  own := fun k hk => by
    rcases h2.own k hk with q | q
    · exact h.own k q
    · exact .inr (Nat.le_trans h.turn.size q)
theorem foldl_eff {N : List Nd} (h : TreeOk N) (X : List Ev) : TreeOk (X.foldl effN N) ∧ (X.foldl effN N).length ≤ N.length + X.length := by
  induction X using snoc_ind with
  | h0 => exact ⟨h, Nat.le_refl _⟩
  | h1 X e ih =>
    rw [List.foldl_append, List.length_append, List.length_singleton]
    show TreeOk (effN (X.foldl effN N) e) ∧ (effN (X.foldl effN N) e).length ≤ _
    generalize X.foldl effN N = M at ih
    unfold effN
    split
    · exact ⟨ih.1.ins _, by have := insN_len (N := M) (n := evNd e); omega⟩
    · split
      · exact ⟨ih.1.del _, by rw [delN_len]; omega⟩
      · exact ⟨ih.1, by omega⟩
theorem foldl_take {N : List Nd} {X : List Ev} {i : Nat} (h : i < X.length) : (X.take (i + 1)).foldl effN N = effN ((X.take i).foldl effN N) X[i] := by
  rw [List.take_succ_eq_append_getElem h, List.foldl_append]; rfl
set_option maxHeartbeats 16000000 in
theorem inserts_any (base R bc bn : Nat) (N : List Nd) (V : (Int × Int) × Bool → Value) (B' : Nat) (x : Option Addr) (n c : Nat) (X : List Ev) (w : World) (hN : TreeOk N) (hT : TreeAt w base R bc bn N V) (hO : OwnI w B' 38 17 (.slice x n c) (X.map Ev.cells)) (hX : ∀ e ∈ X, e.Ok) (hl : N.length + X.length ≤ 500) (hbase : base ≤ w.heap.size) (hsep : ∀ g, (Value.slice x n c).ownBlock = some g → ¬ treeP R bc bn V g) :
    Calls Try.prog 9 #[.pointer (some ⟨R, 0, none⟩), .slice x n c] w fun r w' => r = .returned (.tuple #[]) ∧ ∃ V', TreeAt w' base R bc bn (X.foldl effN N) V' ∧ TreeTo R bc bn V V' w w' := by
  have hn : n = X.length := by
    obtain ⟨y, d, hy⟩ := hO.isSlice
    injection hy with _ h2 _
    rw [h2, List.length_map]
  have HN := Veil.mk hn
  have HO : Veil (∀ W V', TreeTo R bc bn V V' w W → OwnI W B' 38 17 (.slice x n c) (X.map Ev.cells)) := ⟨fun W V' h => hO.congr fun g hg => h.turn.block g (hO.blockLt g hg).1 (hsep g hg)⟩
  have HX := Veil.mk hX
  have HOKN := Veil.mk hN
  have hn5 : n ≤ 500 := by omega
  have HLN : Veil (∀ i, i ≤ X.length → ((X.take i).foldl effN N).length ≤ 1000) := ⟨fun i hi => by have := (foldl_eff hN (X.take i)).2; rw [List.length_take] at this; omega⟩
  have HBS := Veil.mk hbase
  have H0 : Veil (TreeAt w base R bc bn ((X.take 0).foldl effN N) V ∧ TreeTo R bc bn V V w w) := ⟨hT, TreeTo.of_below (Below.refl _ _)⟩
  clear hn hO hX hl hbase hsep hN hT
  go_enter Try.func9, Try.ntmps9
  go_wp2_with fail
  go_loopw [4] (fun p wr => ∃ (i : Nat) (V1 : (Int × Int) × Bool → Value), p = .int .i64 (i : Nat) ∧ i ≤ n ∧ TreeAt wr base R bc bn ((X.take i).foldl effN N) V1 ∧ TreeTo R bc bn V V1 w wr) (fun p _ => n - (intOf p).toNat)
  case atStart => exact ⟨0, V, rfl, Nat.zero_le _, H0.out.1, H0.out.2⟩
  case round =>
    obtain ⟨i, V1, rfl, hi, hT, hto⟩ := hrel
    clear H0
    have HT := Veil.mk hT
    have HTO := Veil.mk hto
    clear hT hto
    by_cases hlt : i < n
    · have hli : decide ((i : Int) < (n : Int)) = true := by simp; omega
      have hil : i < X.length := by rw [← HN.out]; exact hlt
      have hi0 : (0 : Int) ≤ (i : Int) := by omega
      have hlti : (i : Int) < (n : Int) := by omega
      have hww : IntKind.i64.wrap ((i : Int) + 1) = (i : Int) + 1 := by rw [IntKind.wrap_i64]; omega
      have hok := HX.out _ (List.getElem_mem hil)
      obtain ⟨g, hxg, -, hr0⟩ := (HO.out wr V1 HTO.out).at_ i (by rw [List.length_map]; exact hil)
      subst hxg
      have HP : Veil (∀ W V2, TreeTo R bc bn V V2 w W → W.cell? ⟨g, i * 17 + 10, none⟩ = some (.int .u8 X[i].kind) ∧ W.rangeAt g (i * 17) (encF X[i].dot) ∧ W.rangeAt g (i * 17 + 11) (encF (evPar X[i])) ∧ W.cell? ⟨g, i * 17 + 13, none⟩ = some (.bool X[i].right) ∧ W.cell? ⟨g, i * 17 + 14, none⟩ = some (.int .u8 X[i].char)) := ⟨fun W V2 h => by
        obtain ⟨g', e, -, hr⟩ := (HO.out W V2 h).at_ i (by rw [List.length_map]; exact hil)
        injection e with e
        injection e with e
        subst e
        rw [List.getElem_map] at hr
        obtain ⟨p0, -, p10, p11, p13, p14, -, -⟩ := ev_parts X[i] hok.past
        refine ⟨hr 10 _ p10, fun j u hu => ?_, fun j u hu => ?_, hr 13 _ p13, hr 14 _ p14⟩
        · have hu' : (dotC X[i].da X[i].ds)[j]? = some u := hu
          rw [← p0, List.drop_zero, List.getElem?_take] at hu'
          split at hu'
          · exact hr j u hu'
          · cases hu'
        · have hu' : (dotC X[i].pa X[i].ps)[j]? = some u := hu
          rw [← p11, List.getElem?_take] at hu'
          split at hu'
          · rw [List.getElem?_drop] at hu'
            have := hr (11 + j) u hu'
            rw [← Nat.add_assoc] at this
            exact this
          · cases hu'⟩
      have HIN : Veil (X[i].kind = 1 → ∀ W, Below wr.heap.size wr W → Calls Try.prog 15 #[.pointer (some ⟨R, 0, none⟩), .agg (encF X[i].dot).toArray, .agg (encF (evPar X[i])).toArray, .bool X[i].right, .int .u8 X[i].char] W fun e w' => ∃ ec, e = .returned (.int .i64 ec) ∧ ∃ V2, TreeAt w' base R bc bn ((X.take (i + 1)).foldl effN N) V2 ∧ TreeTo R bc bn V V2 w w') := ⟨fun hk W hb => by
        have h1 := HT.out.far hb
        have h2 : TreeTo R bc bn V V1 w W := HTO.out.then_ (TreeTo.of_below hb)
        refine (insT_any base R bc bn _ V1 (evNd X[i]) hok.dot hok.par (HLN.out i (by omega)) W (by have := HBS.out; have := HTO.out.turn.size; have := hb.size; omega) h1).mono ?_
        rintro e w' ⟨rfl, V2, q1, q2⟩
        refine ⟨_, rfl, V2, ?_, h2.then_ q2⟩
        rw [foldl_take hil]
        unfold effN
        rw [if_pos hk]; exact q1⟩
      have HDE : Veil (X[i].kind = 2 → ∀ W, Below wr.heap.size wr W → Calls Try.prog 13 #[.pointer (some ⟨R, 0, none⟩), .agg (encF (evPar X[i])).toArray] W fun e w' => ∃ ec, e = .returned (.int .i64 ec) ∧ ∃ V2, TreeAt w' base R bc bn ((X.take (i + 1)).foldl effN N) V2 ∧ TreeTo R bc bn V V2 w w') := ⟨fun hk W hb => by
        have h1 := HT.out.far hb
        have h2 : TreeTo R bc bn V V1 w W := HTO.out.then_ (TreeTo.of_below hb)
        refine (delT_any base R bc bn _ V1 (evPar X[i]) hok.par (HLN.out i (by omega)) W h1).mono ?_
        rintro e w' ⟨rfl, q1, q2⟩
        refine ⟨_, rfl, V1, ?_, h2.then_ q2⟩
        rw [foldl_take hil]
        unfold effN
        rw [if_neg (by omega), if_pos hk]; exact q1⟩
      have HNO : Veil (X[i].kind ≠ 1 → X[i].kind ≠ 2 → TreeAt wr base R bc bn ((X.take (i + 1)).foldl effN N) V1) := ⟨fun h1 h2 => by
        rw [foldl_take hil]
        unfold effN
        rw [if_neg h1, if_neg h2]; exact HT.out⟩
      obtain ⟨ck, -⟩ := HP.out wr V1 HTO.out
      obtain ⟨N2, hN2⟩ : ∃ q, (X.take (i + 1)).foldl effN N = q := ⟨_, rfl⟩
      rw [hN2] at HIN HDE HNO
      have HN2 := Veil.mk hN2
      clear hN2
      have HP2 := HP
      generalize X[i].kind = kd at HP HP2 ck HIN HDE HNO
      generalize X[i].right = ri at HP HP2 HIN
      generalize X[i].char = ch at HP HP2 HIN
      have uD := Try.underlying32
      have iD : (Try.prog.info? 32).map (·.size) = some (encF X[i].dot).length := sizeDot
      have iP : (Try.prog.info? 32).map (·.size) = some (encF (evPar X[i])).length := sizeDot
      generalize encF X[i].dot = DT at HP HP2 HIN iD
      generalize encF (evPar X[i]) = DP at HP HP2 HIN HDE iP
      clear hr0 hok hil HO HX HOKN HLN HP2
      by_cases h1 : kd = 1
      · subst h1
        clear HDE HNO
        go_upto_region 5 with fail
        have hb0 : Below wr.heap.size wr wr.drew := (Below.refl _ _).drew
        have hin := HIN.out rfl _ hb0
        obtain ⟨-, t1, t2, t3, t4⟩ := HP.out _ V1 (HTO.out.then_ (TreeTo.of_below hb0))
        refine wp_region_gateT (fun W : World => W.rangeAt g (i * 17) DT ∧ W.rangeAt g (i * 17 + 11) DP ∧ W.cell? ⟨g, i * 17 + 13, none⟩ = some (.bool ri) ∧ W.cell? ⟨g, i * 17 + 14, none⟩ = some (.int .u8 ch)) (fun _ => True) 99 (by kernel_rfl) ?_
        have hT : (fun W : World => W.rangeAt g (i * 17) DT ∧ W.rangeAt g (i * 17 + 11) DP ∧ W.cell? ⟨g, i * 17 + 13, none⟩ = some (.bool ri) ∧ W.cell? ⟨g, i * 17 + 14, none⟩ = some (.int .u8 ch)) wr.drew := ⟨t1, t2, t3, t4⟩
        have hS : (fun _ : World => True) wr.drew := trivial
        refine wpAnyT_held (i := 0) (v := ?_) rfl (by kernel_rfl) (by kernel_rfl) (by kernel_rfl) (fun _ _ _ h => h) (by kernel_rfl) hT (fun _ => hS) (by kernel_rfl) ?_ ?_
        rotate_left
        · intro wx hSw; go_split_ands; go_simp; try with_reducible rfl
        simp only [Act.put, List.getElem_toArray, List.getElem_cons_succ, List.getElem_cons_zero, List.setIfInBounds_toArray, List.set_cons_zero, List.set_cons_succ]
        refine wpAnyT_held (i := 1) (v := ?_) rfl (by kernel_rfl) (by kernel_rfl) (by kernel_rfl) (fun _ _ _ h => h) (by kernel_rfl) hT (fun _ => hS) (by kernel_rfl) ?_ ?_
        rotate_left
        · intro wx hSw; go_split_ands; go_simp; try with_reducible rfl
        simp only [Act.put, List.getElem_toArray, List.getElem_cons_succ, List.getElem_cons_zero, List.setIfInBounds_toArray, List.set_cons_zero, List.set_cons_succ]
        refine wpAnyT_held (i := 2) (v := ?_) rfl (by kernel_rfl) (by kernel_rfl) (by kernel_rfl) (fun _ _ _ h => h) (by kernel_rfl) hT (fun _ => hS) (by kernel_rfl) ?_ ?_
        rotate_left
        · intro wx hSw; go_split_ands; go_simp; try with_reducible rfl
        simp only [Act.put, List.getElem_toArray, List.getElem_cons_succ, List.getElem_cons_zero, List.setIfInBounds_toArray, List.set_cons_zero, List.set_cons_succ]
        refine wpAnyT_held (i := 3) (v := ?_) rfl (by kernel_rfl) (by kernel_rfl) (by kernel_rfl) (fun _ _ _ h => h) (by kernel_rfl) hT (fun _ => hS) (by kernel_rfl) ?_ ?_
        rotate_left
        · intro wx hSw; go_split_ands; go_simp; try with_reducible rfl
        simp only [Act.put, List.getElem_toArray, List.getElem_cons_succ, List.getElem_cons_zero, List.setIfInBounds_toArray, List.set_cons_zero, List.set_cons_succ]
        refine wpAnyT_held (i := 4) (v := ?_) rfl (by kernel_rfl) (by kernel_rfl) (by kernel_rfl) (fun _ _ _ h => h) (by kernel_rfl) hT (fun _ => hS) (by kernel_rfl) ?_ ?_
        rotate_left
        · intro wx hSw; go_split_ands; go_simp; try with_reducible rfl
        simp only [Act.put, List.getElem_toArray, List.getElem_cons_succ, List.getElem_cons_zero, List.setIfInBounds_toArray, List.set_cons_zero, List.set_cons_succ]
        refine wpAnyT_load (i := 5) (dst := some 23) (ty := 32) (x := .tmp 22) (b := g) (o := ((i * 17))) (cs := DT) (by kernel_rfl) (by kernel_rfl) (by kernel_rfl) (by kernel_rfl) (by kernel_rfl) (fun _ _ _ h => h) (by kernel_rfl) hT (fun _ => hS) (by kernel_rfl) (fun _ h => h.1) uD rfl iD ?_
        simp only [Act.put, List.getElem_toArray, List.getElem_cons_succ, List.getElem_cons_zero, List.setIfInBounds_toArray, List.set_cons_zero, List.set_cons_succ]
        refine wpAnyT_held (i := 6) (v := ?_) rfl (by kernel_rfl) (by kernel_rfl) (by kernel_rfl) (fun _ _ _ h => h) (by kernel_rfl) hT (fun _ => hS) (by kernel_rfl) ?_ ?_
        rotate_left
        · intro wx hSw; go_split_ands; go_simp; try with_reducible rfl
        simp only [Act.put, List.getElem_toArray, List.getElem_cons_succ, List.getElem_cons_zero, List.setIfInBounds_toArray, List.set_cons_zero, List.set_cons_succ]
        refine wpAnyT_held (i := 7) (v := ?_) rfl (by kernel_rfl) (by kernel_rfl) (by kernel_rfl) (fun _ _ _ h => h) (by kernel_rfl) hT (fun _ => hS) (by kernel_rfl) ?_ ?_
        rotate_left
        · intro wx hSw; go_split_ands; go_simp; try with_reducible rfl
        simp only [Act.put, List.getElem_toArray, List.getElem_cons_succ, List.getElem_cons_zero, List.setIfInBounds_toArray, List.set_cons_zero, List.set_cons_succ]
        refine wpAnyT_held (i := 8) (v := ?_) rfl (by kernel_rfl) (by kernel_rfl) (by kernel_rfl) (fun _ _ _ h => h) (by kernel_rfl) hT (fun _ => hS) (by kernel_rfl) ?_ ?_
        rotate_left
        · intro wx hSw; go_split_ands; go_simp; try with_reducible rfl
        simp only [Act.put, List.getElem_toArray, List.getElem_cons_succ, List.getElem_cons_zero, List.setIfInBounds_toArray, List.set_cons_zero, List.set_cons_succ]
        refine wpAnyT_held (i := 9) (v := ?_) rfl (by kernel_rfl) (by kernel_rfl) (by kernel_rfl) (fun _ _ _ h => h) (by kernel_rfl) hT (fun _ => hS) (by kernel_rfl) ?_ ?_
        rotate_left
        · intro wx hSw; go_split_ands; go_simp; try with_reducible rfl
        simp only [Act.put, List.getElem_toArray, List.getElem_cons_succ, List.getElem_cons_zero, List.setIfInBounds_toArray, List.set_cons_zero, List.set_cons_succ]
        refine wpAnyT_load (i := 10) (dst := some 28) (ty := 32) (x := .tmp 27) (b := g) (o := ((i * 17 + 11))) (cs := DP) (by kernel_rfl) (by kernel_rfl) (by kernel_rfl) (by kernel_rfl) (by kernel_rfl) (fun _ _ _ h => h) (by kernel_rfl) hT (fun _ => hS) (by kernel_rfl) (fun _ h => h.2.1) uD rfl iP ?_
        simp only [Act.put, List.getElem_toArray, List.getElem_cons_succ, List.getElem_cons_zero, List.setIfInBounds_toArray, List.set_cons_zero, List.set_cons_succ]
        refine wpAnyT_held (i := 11) (v := ?_) rfl (by kernel_rfl) (by kernel_rfl) (by kernel_rfl) (fun _ _ _ h => h) (by kernel_rfl) hT (fun _ => hS) (by kernel_rfl) ?_ ?_
        rotate_left
        · intro wx hSw; go_split_ands; go_simp; try with_reducible rfl
        simp only [Act.put, List.getElem_toArray, List.getElem_cons_succ, List.getElem_cons_zero, List.setIfInBounds_toArray, List.set_cons_zero, List.set_cons_succ]
        refine wpAnyT_held (i := 12) (v := ?_) rfl (by kernel_rfl) (by kernel_rfl) (by kernel_rfl) (fun _ _ _ h => h) (by kernel_rfl) hT (fun _ => hS) (by kernel_rfl) ?_ ?_
        rotate_left
        · intro wx hSw; go_split_ands; go_simp; try with_reducible rfl
        simp only [Act.put, List.getElem_toArray, List.getElem_cons_succ, List.getElem_cons_zero, List.setIfInBounds_toArray, List.set_cons_zero, List.set_cons_succ]
        refine wpAnyT_held (i := 13) (v := ?_) rfl (by kernel_rfl) (by kernel_rfl) (by kernel_rfl) (fun _ _ _ h => h) (by kernel_rfl) hT (fun _ => hS) (by kernel_rfl) ?_ ?_
        rotate_left
        · intro wx hSw; go_split_ands; go_simp; try with_reducible rfl
        simp only [Act.put, List.getElem_toArray, List.getElem_cons_succ, List.getElem_cons_zero, List.setIfInBounds_toArray, List.set_cons_zero, List.set_cons_succ]
        refine wpAnyT_held (i := 14) (v := ?_) rfl (by kernel_rfl) (by kernel_rfl) (by kernel_rfl) (fun _ _ _ h => h) (by kernel_rfl) hT (fun _ => hS) (by kernel_rfl) ?_ ?_
        rotate_left
        · intro wx hSw; go_split_ands; go_simp; try with_reducible rfl
        simp only [Act.put, List.getElem_toArray, List.getElem_cons_succ, List.getElem_cons_zero, List.setIfInBounds_toArray, List.set_cons_zero, List.set_cons_succ]
        refine wpAnyT_held (i := 15) (v := ?_) rfl (by kernel_rfl) (by kernel_rfl) (by kernel_rfl) (fun _ _ _ h => h) (by kernel_rfl) hT (fun _ => hS) (by kernel_rfl) ?_ ?_
        rotate_left
        · intro wx hSw; go_split_ands; go_simp; try with_reducible rfl
        simp only [Act.put, List.getElem_toArray, List.getElem_cons_succ, List.getElem_cons_zero, List.setIfInBounds_toArray, List.set_cons_zero, List.set_cons_succ]
        refine wpAnyT_held (i := 16) (v := ?_) rfl (by kernel_rfl) (by kernel_rfl) (by kernel_rfl) (fun _ _ _ h => h) (by kernel_rfl) hT (fun _ => hS) (by kernel_rfl) ?_ ?_
        rotate_left
        · intro wx hSw; go_split_ands; go_simp; try with_reducible rfl
        simp only [Act.put, List.getElem_toArray, List.getElem_cons_succ, List.getElem_cons_zero, List.setIfInBounds_toArray, List.set_cons_zero, List.set_cons_succ]
        refine wpAnyT_held (i := 17) (v := ?_) rfl (by kernel_rfl) (by kernel_rfl) (by kernel_rfl) (fun _ _ _ h => h) (by kernel_rfl) hT (fun _ => hS) (by kernel_rfl) ?_ ?_
        rotate_left
        · intro wx hSw; go_split_ands; go_simp; try with_reducible rfl
        simp only [Act.put, List.getElem_toArray, List.getElem_cons_succ, List.getElem_cons_zero, List.setIfInBounds_toArray, List.set_cons_zero, List.set_cons_succ]
        refine wpAnyT_held (i := 18) (v := ?_) rfl (by kernel_rfl) (by kernel_rfl) (by kernel_rfl) (fun _ _ _ h => h) (by kernel_rfl) hT (fun _ => hS) (by kernel_rfl) ?_ ?_
        rotate_left
        · intro wx hSw; go_split_ands; go_simp; try with_reducible rfl
        simp only [Act.put, List.getElem_toArray, List.getElem_cons_succ, List.getElem_cons_zero, List.setIfInBounds_toArray, List.set_cons_zero, List.set_cons_succ]
        refine wpAnyT_held (i := 19) (v := ?_) rfl (by kernel_rfl) (by kernel_rfl) (by kernel_rfl) (fun _ _ _ h => h) (by kernel_rfl) hT (fun _ => hS) (by kernel_rfl) ?_ ?_
        rotate_left
        · intro wx hSw; go_split_ands; go_simp; try with_reducible rfl
        simp only [Act.put, List.getElem_toArray, List.getElem_cons_succ, List.getElem_cons_zero, List.setIfInBounds_toArray, List.set_cons_zero, List.set_cons_succ]
        refine wpAnyT_held (i := 20) (v := ?_) rfl (by kernel_rfl) (by kernel_rfl) (by kernel_rfl) (fun _ _ _ h => h) (by kernel_rfl) hT (fun _ => hS) (by kernel_rfl) ?_ ?_
        rotate_left
        · intro wx hSw; go_split_ands; go_simp; try with_reducible rfl
        simp only [Act.put, List.getElem_toArray, List.getElem_cons_succ, List.getElem_cons_zero, List.setIfInBounds_toArray, List.set_cons_zero, List.set_cons_succ]
        refine wpAnyT_one (i := 21) rfl (by kernel_rfl) (by kernel_rfl) (fun K hK => ?_)
        refine wpx_call _ _ (by kernel_rfl) (hin.mono ?_)
        rintro y W1 ⟨ec, rfl, V2, hT2, hto2⟩
        refine ⟨_, rfl, ?_⟩
        obtain ⟨-, s1, s2, s3, s4⟩ := HP.out _ V2 hto2
        replace hT : (fun W : World => W.rangeAt g (i * 17) DT ∧ W.rangeAt g (i * 17 + 11) DP ∧ W.cell? ⟨g, i * 17 + 13, none⟩ = some (.bool ri) ∧ W.cell? ⟨g, i * 17 + 14, none⟩ = some (.int .u8 ch)) W1 := ⟨s1, s2, s3, s4⟩
        replace hS : (fun _ : World => True) W1 := trivial
        have HQ := Veil.mk (And.intro hT2 hto2)
        clear hin t1 t2 t3 t4 s1 s2 s3 s4 hT2 hto2
        refine hK.out _ _ hT (fun _ => hS) ?_
        clear hK K
        try simp only [Act.put, List.getElem_toArray, List.getElem_cons_succ, List.getElem_cons_zero, List.setIfInBounds_toArray, List.set_cons_zero, List.set_cons_succ]
        refine wpAnyT_done (by kernel_rfl) ?_ _
        clear hT hS
        go_wp2
        go_roundw
        case rel => exact ⟨i + 1, V2, by push_cast; rfl, hlt, by rw [HN2.out]; exact HQ.out.1, HQ.out.2⟩
        case measure => simp [intOf]; omega
      · have h1b : (kd == 1) = false := by simpa using h1
        by_cases h2 : kd = 2
        · subst h2
          have hin := HDE.out rfl wr (Below.refl _ _)
          obtain ⟨-, -, t2, -, -⟩ := HP.out wr V1 HTO.out
          clear HIN HNO
          go_wp2_with (first
            | (refine wpList_ldv rfl 32 _ rfl g (i * 17 + 11) rfl DP t2 uD rfl iP ?_)
            | (go_at_call 13; refine hin.mono ?_; rintro y W1 ⟨ec, rfl, V2, hT2, hto2⟩; have HQ := Veil.mk (And.intro hT2 hto2); clear hin hT2 hto2))
          go_roundw
          case rel => exact ⟨i + 1, V2, by push_cast; rfl, hlt, by rw [HN2.out]; exact HQ.out.1, HQ.out.2⟩
          case measure => simp [intOf]; omega
        · have h2b : (kd == 2) = false := by simpa using h2
          have HQ := Veil.mk (And.intro (HNO.out h1 h2) HTO.out)
          clear HIN HDE HNO
          go_wp2
          go_roundw
          case rel => exact ⟨i + 1, V1, by push_cast; rfl, hlt, by rw [HN2.out]; exact HQ.out.1, HQ.out.2⟩
          case measure => simp [intOf]; omega
    · obtain rfl : i = n := by omega
      have hli : decide ((i : Int) < (i : Int)) = false := by simp
      have HE : Veil (TreeAt wr base R bc bn (X.foldl effN N) V1) := ⟨by
        have := HT.out
        rw [HN.out, List.take_length] at this
        exact this⟩
      go_wp2
      go_end0
      exact ⟨rfl, V1, HE.out, HTO.out⟩
end Go.Proofs.Ythjkcfpdkhghpaa
