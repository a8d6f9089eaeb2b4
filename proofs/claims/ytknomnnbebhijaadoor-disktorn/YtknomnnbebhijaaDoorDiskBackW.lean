/- The statement DiskBack, walked. -/
import Derived.Test.YtknomnnbebhijaaDoorDx7
namespace Go.Proofs.YtknomnnbebhijaaDoor
open Go.RowKit Go.Shelf
set_option maxRecDepth 20000
set_option linter.unusedSimpArgs false

theorem sizeSl (w : World) : (sizeOf (Tryd.prog.elem 33)).run Tryd.prog w = .ok 1 w := by kernel_rfl
theorem elemSl : Tryd.prog.underlying 33 = some (.slice (Tryd.prog.elem 33)) := by kernel_rfl
theorem run_rows_h (w : World) (x : Option Addr) (len cap h : Nat) (hx : TopA x) (hh : h ≤ cap) : (Instr.slice 33 (.slice x len cap) none (some (.int .i64 (h : Int))) none).run Tryd.prog w = .ok (.slice x h cap) w := by
  rw [run_slice_h w 33 x len cap elemSl .i64 (h : Int) (by omega) (by omega), sizeSl]
  simp only [sliced, Result.andThen, Int.toNat_natCast, Nat.sub_zero]
  split
  · rfl
  · rw [TopA.zero hx]
theorem RowsV.top_ {w : World} {x : Option Addr} {n c : Nat} {rs : List (List Int)} (h : RowsV w x n c rs) (hn : n ≠ 0) : TopA x := by
  rcases h.at_ with h0 | ⟨b, hx, _⟩
  · exact absurd h0 hn
  · exact .inr ⟨b, hx⟩
/-- What is written behind whole records, as it is told then. -/
theorem back_recs (z b : List Int) (hb : b.length < 65536) : recsL (z.take (trimN z) ++ recL b) = recsL (z.take (trimN z)) ++ [b] := by
  obtain ⟨_, h2⟩ := whole_take _ z (Nat.le_refl _)
  have hl : (z.take (trimN z)).length = trimN z := by rw [List.length_take]; have := trimN_le z; omega
  rw [recsL_join _ _ _ (Nat.le_refl _) (by omega)]
  have := recsL_rec b [] hb
  rw [List.append_nil, recsL_none [] (by unfold firstN; rw [if_pos (by decide)])] at this
  rw [this]
set_option maxHeartbeats 8000000 in
theorem diskBack_walk (x : Option Addr) (len cap : Nat) (ds : List Dd) (y : Option Addr) (lb cb : Nat) (b : List Int) (w : World) (hd : DeedsAt w x len cap ds) (hy : Bytes w y lb cb b) (hbB : isB b) (hKT : S.KTab w) :
    Calls Tryd.prog 6 #[.slice x len cap, .slice y lb cb] w fun e w' => e = .returned (.bool true) ∧ Below w.heap.size w w' := by
  have hP := play_any x len cap ds w hd hKT
  go_enter Tryd.func6, Tryd.ntmps6
  go_upto_region 4 with (first
    | (go_at_call 9; refine hP.mono ?_; rintro e w1 ⟨D, R, rfl, ⟨v, u, z, s, hB1⟩, hb1⟩)
    | (go_at_call 10; refine (dLive_any w1 (hKT.below hb1)).mono ?_; rintro e w2 ⟨rfl, hb2⟩))
  have hb12 := hb1.trans (hb2.mono hb1.size)
  have hD2 := hB1.d.far hb2
  have hT := dTrim_any _ _ _ _ _ w2 hD2 (hKT.below hb12)
  clear hP hB1 hd hb1 hb2
  have HBK : Veil (∀ b' : List Int, b'.length < 65536 → recsL (z.take (trimN z) ++ recL b') = recsL (z.take (trimN z)) ++ [b']) := ⟨fun b' hb' => back_recs z b' hb'⟩
  obtain ⟨m, hm⟩ : ∃ q, trimN z = q := ⟨_, rfl⟩
  rw [hm] at hT HBK
  obtain ⟨z3, hz3⟩ : ∃ q, z.take m = q := ⟨_, rfl⟩
  rw [hz3] at hT HBK
  clear hm hz3
  go_upto_region 5 with (go_at_call 21; refine hT.mono ?_; rintro e w3 ⟨rfl, v3, hd3⟩)
  have hb13 := hb12.trans (hd3.below hD2 hb12.size)
  have hD3 := hd3.disk
  clear hT hd3 hD2 hb12
  have hR3 := records_any _ _ _ _ _ w3 hD3 (hKT.below hb13)
  have hzB := hD3.isb
  have hzl := hD3.len
  have hrB := recsL_in z3 hzB
  have hrl := recsL_few z3 hzl
  obtain ⟨rs, hrs⟩ : ∃ q, recsL z3 = q := ⟨_, rfl⟩
  have HRS := Veil.mk hrs
  rw [hrs] at hR3 hrB hrl HBK
  clear hrs
  go_upto_region 6 with (go_at_call 13; refine hR3.mono ?_; rintro e w4 ⟨v4, rfl, hr4, hb4⟩)
  have ho4 : DiskOut w3.heap.size w4.heap.size D v3 := hD3.out _
  have hb14 := hb13.trans (hb4.mono hb13.size)
  have hD4 := hD3.far hb4
  have hy4 := hy.below hb14
  have hyw := hy.blockLt
  have hle := hy.le
  have hW4 := hb14.size
  clear hR3 hD3 hb4 hy
  obtain ⟨x4, c4, hx4, hv4⟩ := hr4.view
  subst hx4
  obtain ⟨n, hn⟩ : ∃ q, rs.length = q := ⟨_, rfl⟩
  have HN := Veil.mk hn
  rw [hn] at hrl ⊢
  clear hn hv4
  by_cases h3 : 300 < lb
  · have h3i : (300 : Int) < (lb : Int) := by omega
    have hs3 : ∀ wx, (Instr.slice 35 (.slice y lb cb) none (some (.int .i64 300)) none).run Tryd.prog wx = .ok (.slice (subA y cb 0) 300 cb) wx := fun wx => run_cut_h wx y lb cb 300 (by omega)
    have hyE := hy4.cut 0 300 (by omega) (by omega)
    have hBE : isB ((b.drop 0).take (300 - 0)) := fun v hv => hbB v (List.mem_of_mem_drop (List.mem_of_mem_take hv))
    have hyx : ∀ a, 300 ≠ 0 → subA y cb 0 = some a → a.block < w.heap.size := fun a _ ha => by
      unfold subA at ha
      rw [if_neg (by omega)] at ha
      cases y with
      | none => cases ha
      | some a0 =>
        have h1 := hyw a0 (by omega) rfl
        simp only [Option.map_some, Option.some.injEq] at ha
        rw [← ha]
        unfold Addr.add
        split <;> exact h1
    rw [show 300 - 0 = 300 from rfl, show cb - 0 = cb from rfl] at hyE
    rw [show 300 - 0 = 300 from rfl] at hBE
    obtain ⟨y3, hy3⟩ : ∃ q, subA y cb 0 = q := ⟨_, rfl⟩
    obtain ⟨b3, hb3⟩ : ∃ q, (b.drop 0).take 300 = q := ⟨_, rfl⟩
    rw [hy3] at hs3 hyE hyx
    rw [hb3] at hyE hBE
    clear hy3 hb3
    go_upto_region 8 with fail
    have hkt4 := hKT.below hb14
    by_cases hf : 65536 < z3.length + 10 + 300
    · have hWr := dWrite_full _ _ _ _ _ w4 hD4 y3 300 cb (by omega) hf
      have hR5 := records_any _ _ _ _ _ w4 hD4 hkt4
      rw [HRS.out] at hR5
      have hnk := HN.out
      clear HBK HRS
      go_wp2_with (first
        | (go_at_call 15; refine hWr.mono ?_; rintro e w5 ⟨rfl, rfl⟩)
        | (go_at_call 13; refine hR5.mono ?_; rintro e w6 ⟨v6, rfl, hr6, hb6⟩; have hr46 := hr4.far hb6; obtain ⟨x46, c46, hx46, hv46⟩ := hr46.view; obtain ⟨x6, c6, hx6, hv6⟩ := hr6.view; subst hx6; cases hx46; rw [hnk] at hv46 hv6; have hsr := sameRows_any _ _ _ _ _ _ _ _ w6 hv46 hv6 hrB hrB hrl; rw [show (rs == rs) = true by simp] at hsr; have hb16 := hb14.trans (hb6.mono hb14.size); rw [hnk]; clear hr46 hr6 hv46 hv6)
        | (go_at_call 20; refine hsr.mono ?_; rintro e w8 ⟨rfl, hb8⟩))
      go_ret
      exact ⟨rfl, hb16.trans (hb8.mono hb16.size)⟩
    · have hWr := dWrite_any _ _ _ _ _ w4 hD4 y3 300 cb b3 hyE hBE (by omega) (by omega) (fun a hl0 ha e => by
        have h1 := hyx a hl0 ha
        have h2 := (hD4.inside a.block (.inr e)).2
        omega) hW4 hkt4
      go_upto_region 9 with (go_at_call 15; refine hWr.mono ?_; rintro e w5 ⟨rfl, v5, hd5⟩)
      have hb15 := hb14.trans (hd5.below hD4 hW4)
      have hk5 := hd5.range ho4 (Nat.le_refl _)
      have hs5 := hd5.turn.size
      have hD5 := hd5.disk
      have hy5 : Bytes w5 y3 300 cb b3 := hyE.turn hd5.turn fun a hl0 ha hp => by
        have h1 := hyx a hl0 ha
        have h2 := (hD4.inside a.block hp).2
        omega
      have hR5 := records_any _ _ _ _ _ w5 hD5 (hKT.below hb15)
      rw [HBK.out b3 (by rw [← hyE.len_eq]; omega)] at hR5
      clear hWr HBK hD4 hd5 hy4 hyE
      go_upto_region 12 with (go_at_call 13; refine hR5.mono ?_; rintro e w6 ⟨v6, rfl, hr6, hb6⟩; obtain ⟨x6, c6, hx6, hv6⟩ := hr6.view; subst hx6; rw [List.length_append, List.length_singleton])
      have hb16 := hb15.trans (hb6.mono hb15.size)
      have hr46 := hr4.range (hk5.trans (RangeK.of_below hb6 hs5))
      obtain ⟨x46, c46, hx46, hv46⟩ := hr46.view
      cases hx46
      have hnk := HN.out
      rw [List.length_append, List.length_singleton, hnk] at hv6
      rw [hnk] at hv46 ⊢
      have hy6 := hy5.below hb6
      obtain ⟨b6, rfl, hc6⟩ : ∃ b', x6 = some ⟨b', 0, none⟩ ∧ ∀ j (hj : j < (rs ++ [b3]).length), ∃ xx cc, w6.cell? ⟨b', j, none⟩ = some (.slice xx (rs ++ [b3])[j].length cc) ∧ Bytes w6 xx (rs ++ [b3])[j].length cc (rs ++ [b3])[j] := by
        rcases hv6.at_ with h0 | h0
        · omega
        · exact h0
      obtain ⟨xx, cc, e1, e2⟩ := hc6 n (by rw [List.length_append, List.length_singleton]; omega)
      have e3 : (rs ++ [b3])[n]'(by rw [List.length_append, List.length_singleton]; omega) = b3 := by
        rw [List.getElem_append_right (by omega)]
        simp [hnk]
      rw [e3] at e1 e2
      obtain ⟨SB, hSB⟩ : ∃ q, strOfNums (b3) = q := ⟨_, rfl⟩
      obtain ⟨bl, hbl⟩ : ∃ q, (b3).length = q := ⟨_, rfl⟩
      rw [hbl] at e1 e2
      have hvf := hv6.few n (by omega)
      rw [List.take_append_of_le_length (by omega), List.take_of_length_le (by omega)] at hvf
      have hsr := sameRows_any _ _ _ _ _ _ _ _ w6.drew (hvf.below (Below.refl _ _).drew) (hv46.below (Below.refl _ _).drew) hrB hrB hrl
      rw [show (rs == rs) = true by simp] at hsr
      have hsl := fun wx => run_rows_h wx (some ⟨b6, 0, none⟩) (n + 1) c6 n (.inr ⟨_, rfl⟩) (by have := hv6.le; omega)
      have keep : ∀ w', Below w6.heap.size w6 w' → w'.cell? ⟨b6, n, none⟩ = some (.slice xx bl cc) ∧ (convert 35 9 (.slice xx bl cc)).run Tryd.prog w' = .ok (.string SB) w' ∧ (convert 35 9 (.slice y3 300 cb)).run Tryd.prog w' = .ok (.string SB) w' := fun w' hb' =>
        ⟨(hb'.cell (p := ⟨b6, n, none⟩) (block_lt_of_cell e1)).trans e1, by rw [← hSB]; exact conv_bytes (e2.below hb'), by rw [← hSB]; exact conv_bytes (hy6.below hb')⟩
      have hwn : IntKind.i64.wrap ((n : Int) + 1) = (n : Int) + 1 := by rw [IntKind.wrap_i64]; omega
      have hni : (n : Int) < (n : Int) + 1 := by omega
      clear hv6 hvf hv46 hr46 hr6 hc6 e1 e2 e3 hSB hbl hR5 hy5 hy6 hr4 HN hnk
      refine wp_region_gateT (fun w' => w'.cell? ⟨b6, n, none⟩ = some (.slice xx bl cc) ∧ (convert 35 9 (.slice xx bl cc)).run Tryd.prog w' = .ok (.string SB) w' ∧ (convert 35 9 (.slice y3 300 cb)).run Tryd.prog w' = .ok (.string SB) w') (fun _ => True) 25 (by kernel_rfl) ?_
      have hS := trivial
      have hT := keep _ (Below.refl _ _).drew
      refine wpAnyT_held (i := 0) (v := ?_) rfl (by kernel_rfl) (by kernel_rfl) (by kernel_rfl) (fun _ _ _ h => h) (by kernel_rfl) hT (fun _ => hS) (by kernel_rfl) ?_ ?_
      rotate_left
      · intro wx hSw; go_split_ands; go_simp; try with_reducible rfl
      simp only [Act.put, List.getElem_toArray, List.getElem_cons_succ, List.getElem_cons_zero, List.setIfInBounds_toArray, List.set_cons_zero, List.set_cons_succ]
      refine wpAnyT_held (i := 1) (v := ?_) rfl (by kernel_rfl) (by kernel_rfl) (by kernel_rfl) (fun _ _ _ h => h) (by kernel_rfl) hT (fun _ => hS) (by kernel_rfl) ?_ ?_
      rotate_left
      · intro wx hSw; go_split_ands; go_simp; try with_reducible rfl
      simp only [Act.put, List.getElem_toArray, List.getElem_cons_succ, List.getElem_cons_zero, List.setIfInBounds_toArray, List.set_cons_zero, List.set_cons_succ]
      refine wpAnyT_held (i := 2) (v := ?_) rfl (by kernel_rfl) (by kernel_rfl) (by kernel_rfl) (fun _ _ _ h => h) (by kernel_rfl) hT (fun _ => hS) (by kernel_rfl) ?_ ?_
      rotate_left
      · intro wx hSw; go_split_ands; go_simp; try with_reducible rfl
      simp only [Act.put, List.getElem_toArray, List.getElem_cons_succ, List.getElem_cons_zero, List.setIfInBounds_toArray, List.set_cons_zero, List.set_cons_succ]
      refine wpAnyT_held (i := 3) (v := ?_) rfl (by kernel_rfl) (by kernel_rfl) (by kernel_rfl) (fun _ _ _ h => h) (by kernel_rfl) hT (fun _ => hS) (by kernel_rfl) ?_ ?_
      rotate_left
      · intro wx hSw; go_split_ands; go_simp; try with_reducible rfl
      simp only [Act.put, List.getElem_toArray, List.getElem_cons_succ, List.getElem_cons_zero, List.setIfInBounds_toArray, List.set_cons_zero, List.set_cons_succ]
      refine wpAnyT_held (i := 4) (v := ?_) rfl (by kernel_rfl) (by kernel_rfl) (by kernel_rfl) (fun _ _ _ h => h) (by kernel_rfl) hT (fun _ => hS) (by kernel_rfl) ?_ ?_
      rotate_left
      · intro wx hSw; go_split_ands; go_simp; try with_reducible rfl
      simp only [Act.put, List.getElem_toArray, List.getElem_cons_succ, List.getElem_cons_zero, List.setIfInBounds_toArray, List.set_cons_zero, List.set_cons_succ]
      refine wpAnyT_held (i := 5) (v := .bool true) rfl (by kernel_rfl) (by kernel_rfl) (by kernel_rfl) (fun _ _ _ h => h) (by kernel_rfl) hT (fun _ => hS) (by kernel_rfl) ?_ ?_
      · intro wx hSw; go_split_ands; go_simp
      simp only [Act.put, List.getElem_toArray, List.getElem_cons_succ, List.getElem_cons_zero, List.setIfInBounds_toArray, List.set_cons_zero, List.set_cons_succ]
      refine wpAnyT_held (i := 6) (v := ?_) rfl (by kernel_rfl) (by kernel_rfl) (by kernel_rfl) (fun _ _ _ h => h) (by kernel_rfl) hT (fun _ => hS) (by kernel_rfl) ?_ ?_
      rotate_left
      · intro wx hSw; go_split_ands; go_simp; try with_reducible rfl
      simp only [Act.put, List.getElem_toArray, List.getElem_cons_succ, List.getElem_cons_zero, List.setIfInBounds_toArray, List.set_cons_zero, List.set_cons_succ]
      refine wpAnyT_held (i := 7) (v := ?_) rfl (by kernel_rfl) (by kernel_rfl) (by kernel_rfl) (fun _ _ _ h => h) (by kernel_rfl) hT (fun _ => hS) (by kernel_rfl) ?_ ?_
      rotate_left
      · intro wx hSw; go_split_ands; go_simp; try with_reducible rfl
      simp only [Act.put, List.getElem_toArray, List.getElem_cons_succ, List.getElem_cons_zero, List.setIfInBounds_toArray, List.set_cons_zero, List.set_cons_succ]
      refine wpAnyT_held (i := 8) (v := ?_) rfl (by kernel_rfl) (by kernel_rfl) (by kernel_rfl) (fun _ _ _ h => h) (by kernel_rfl) hT (fun _ => hS) (by kernel_rfl) ?_ ?_
      rotate_left
      · intro wx hSw; go_split_ands; go_simp; try with_reducible rfl
      simp only [Act.put, List.getElem_toArray, List.getElem_cons_succ, List.getElem_cons_zero, List.setIfInBounds_toArray, List.set_cons_zero, List.set_cons_succ]
      refine wpAnyT_held (i := 9) (v := ?_) rfl (by kernel_rfl) (by kernel_rfl) (by kernel_rfl) (fun _ _ _ h => h) (by kernel_rfl) hT (fun _ => hS) (by kernel_rfl) ?_ ?_
      rotate_left
      · intro wx hSw; go_split_ands; go_simp; try with_reducible rfl
      simp only [Act.put, List.getElem_toArray, List.getElem_cons_succ, List.getElem_cons_zero, List.setIfInBounds_toArray, List.set_cons_zero, List.set_cons_succ]
      refine wpAnyT_held (i := 10) (v := .slice (some ⟨b6, 0, none⟩) n c6) rfl (by kernel_rfl) (by kernel_rfl) (by kernel_rfl) (fun _ _ _ h => h) (by kernel_rfl) hT (fun _ => hS) (by kernel_rfl) ?_ ?_
      · intro wx hSw; go_split_ands; go_simp
      simp only [Act.put, List.getElem_toArray, List.getElem_cons_succ, List.getElem_cons_zero, List.setIfInBounds_toArray, List.set_cons_zero, List.set_cons_succ]
      refine wpAnyT_held (i := 11) (v := ?_) rfl (by kernel_rfl) (by kernel_rfl) (by kernel_rfl) (fun _ _ _ h => h) (by kernel_rfl) hT (fun _ => hS) (by kernel_rfl) ?_ ?_
      rotate_left
      · intro wx hSw; go_split_ands; go_simp; try with_reducible rfl
      simp only [Act.put, List.getElem_toArray, List.getElem_cons_succ, List.getElem_cons_zero, List.setIfInBounds_toArray, List.set_cons_zero, List.set_cons_succ]
      refine wpAnyT_one (i := 12) rfl (by kernel_rfl) (by kernel_rfl) (fun K hK => ?_)
      refine wpx_call _ _ (by kernel_rfl) (hsr.mono ?_)
      rintro e w8 ⟨rfl, hb8⟩
      refine ⟨_, rfl, ?_⟩
      have hb68 : Below w6.heap.size w6 w8 := ((Below.refl _ _).drew).trans hb8
      replace hT := keep _ hb68
      refine hK.out _ _ hT (fun _ => hS) ?_
      clear hK K
      try simp only [Act.put, List.getElem_toArray, List.getElem_cons_succ, List.getElem_cons_zero, List.setIfInBounds_toArray, List.set_cons_zero, List.set_cons_succ]
      refine wpAnyT_held (i := 13) (v := .bool true) rfl (by kernel_rfl) (by kernel_rfl) (by kernel_rfl) (fun _ _ _ h => h) (by kernel_rfl) hT (fun _ => hS) (by kernel_rfl) ?_ ?_
      · intro wx hSw; go_split_ands; go_simp
      simp only [Act.put, List.getElem_toArray, List.getElem_cons_succ, List.getElem_cons_zero, List.setIfInBounds_toArray, List.set_cons_zero, List.set_cons_succ]
      refine wpAnyT_held (i := 14) (v := ?_) rfl (by kernel_rfl) (by kernel_rfl) (by kernel_rfl) (fun _ _ _ h => h) (by kernel_rfl) hT (fun _ => hS) (by kernel_rfl) ?_ ?_
      rotate_left
      · intro wx hSw; go_split_ands; go_simp; try with_reducible rfl
      simp only [Act.put, List.getElem_toArray, List.getElem_cons_succ, List.getElem_cons_zero, List.setIfInBounds_toArray, List.set_cons_zero, List.set_cons_succ]
      refine wpAnyT_held (i := 15) (v := ?_) rfl (by kernel_rfl) (by kernel_rfl) (by kernel_rfl) (fun _ _ _ h => h) (by kernel_rfl) hT (fun _ => hS) (by kernel_rfl) ?_ ?_
      rotate_left
      · intro wx hSw; go_split_ands; go_simp; try with_reducible rfl
      simp only [Act.put, List.getElem_toArray, List.getElem_cons_succ, List.getElem_cons_zero, List.setIfInBounds_toArray, List.set_cons_zero, List.set_cons_succ]
      refine wpAnyT_held (i := 16) (v := ?_) rfl (by kernel_rfl) (by kernel_rfl) (by kernel_rfl) (fun _ _ _ h => h) (by kernel_rfl) hT (fun _ => hS) (by kernel_rfl) ?_ ?_
      rotate_left
      · intro wx hSw; go_split_ands; go_simp; try with_reducible rfl
      simp only [Act.put, List.getElem_toArray, List.getElem_cons_succ, List.getElem_cons_zero, List.setIfInBounds_toArray, List.set_cons_zero, List.set_cons_succ]
      refine wpAnyT_held (i := 17) (v := ?_) rfl (by kernel_rfl) (by kernel_rfl) (by kernel_rfl) (fun _ _ _ h => h) (by kernel_rfl) hT (fun _ => hS) (by kernel_rfl) ?_ ?_
      rotate_left
      · intro wx hSw; go_split_ands; go_simp; try with_reducible rfl
      simp only [Act.put, List.getElem_toArray, List.getElem_cons_succ, List.getElem_cons_zero, List.setIfInBounds_toArray, List.set_cons_zero, List.set_cons_succ]
      refine wpAnyT_held (i := 18) (v := ?_) rfl (by kernel_rfl) (by kernel_rfl) (by kernel_rfl) (fun _ _ _ h => h) (by kernel_rfl) hT (fun _ => hS) (by kernel_rfl) ?_ ?_
      rotate_left
      · intro wx hSw; go_split_ands; go_simp; try with_reducible rfl
      simp only [Act.put, List.getElem_toArray, List.getElem_cons_succ, List.getElem_cons_zero, List.setIfInBounds_toArray, List.set_cons_zero, List.set_cons_succ]
      refine wpAnyT_held (i := 19) (v := ?_) rfl (by kernel_rfl) (by kernel_rfl) (by kernel_rfl) (fun _ _ _ h => h) (by kernel_rfl) hT (fun _ => hS) (by kernel_rfl) ?_ ?_
      rotate_left
      · intro wx hSw; go_split_ands; go_simp; try with_reducible rfl
      simp only [Act.put, List.getElem_toArray, List.getElem_cons_succ, List.getElem_cons_zero, List.setIfInBounds_toArray, List.set_cons_zero, List.set_cons_succ]
      refine wpAnyT_held (i := 20) (v := .string SB) rfl (by kernel_rfl) (by kernel_rfl) (by kernel_rfl) (fun _ _ _ h => h) (by kernel_rfl) hT (fun _ => hS) (by kernel_rfl) ?_ ?_
      · intro wx hSw; go_split_ands; go_simp
      simp only [Act.put, List.getElem_toArray, List.getElem_cons_succ, List.getElem_cons_zero, List.setIfInBounds_toArray, List.set_cons_zero, List.set_cons_succ]
      refine wpAnyT_held (i := 21) (v := ?_) rfl (by kernel_rfl) (by kernel_rfl) (by kernel_rfl) (fun _ _ _ h => h) (by kernel_rfl) hT (fun _ => hS) (by kernel_rfl) ?_ ?_
      rotate_left
      · intro wx hSw; go_split_ands; go_simp; try with_reducible rfl
      simp only [Act.put, List.getElem_toArray, List.getElem_cons_succ, List.getElem_cons_zero, List.setIfInBounds_toArray, List.set_cons_zero, List.set_cons_succ]
      refine wpAnyT_held (i := 22) (v := .string SB) rfl (by kernel_rfl) (by kernel_rfl) (by kernel_rfl) (fun _ _ _ h => h) (by kernel_rfl) hT (fun _ => hS) (by kernel_rfl) ?_ ?_
      · intro wx hSw; go_split_ands; go_simp
      simp only [Act.put, List.getElem_toArray, List.getElem_cons_succ, List.getElem_cons_zero, List.setIfInBounds_toArray, List.set_cons_zero, List.set_cons_succ]
      refine wpAnyT_held (i := 23) (v := .bool true) rfl (by kernel_rfl) (by kernel_rfl) (by kernel_rfl) (fun _ _ _ h => h) (by kernel_rfl) hT (fun _ => hS) (by kernel_rfl) ?_ ?_
      · intro wx hSw; go_split_ands; go_simp
      simp only [Act.put, List.getElem_toArray, List.getElem_cons_succ, List.getElem_cons_zero, List.setIfInBounds_toArray, List.set_cons_zero, List.set_cons_succ]
      refine wpAnyT_held (i := 24) (v := .bool true) rfl (by kernel_rfl) (by kernel_rfl) (by kernel_rfl) (fun _ _ _ h => h) (by kernel_rfl) hT (fun _ => hS) (by kernel_rfl) ?_ ?_
      · intro wx hSw; go_split_ands; go_simp
      simp only [Act.put, List.getElem_toArray, List.getElem_cons_succ, List.getElem_cons_zero, List.setIfInBounds_toArray, List.set_cons_zero, List.set_cons_succ]
      refine wpAnyT_one (i := 25) rfl (by kernel_rfl) (by kernel_rfl) (fun K hK => ?_)
      go_simp
      refine hK.out _ _ hT (fun _ => trivial) ?_
      clear hK K
      refine wpAnyT_done (by kernel_rfl) ?_ _
      clear hT hS keep hsr
      go_wp2
      go_ret
      exact ⟨rfl, hb16.trans (hb68.mono hb16.size)⟩
  · have h3i : ¬ (300 : Int) < (lb : Int) := by omega
    have hyE := hy4
    have hBE := hbB
    have hyx := hyw
    go_upto_region 8 with fail
    have hkt4 := hKT.below hb14
    by_cases hf : 65536 < z3.length + 10 + lb
    · have hWr := dWrite_full _ _ _ _ _ w4 hD4 y lb cb (by omega) hf
      have hR5 := records_any _ _ _ _ _ w4 hD4 hkt4
      rw [HRS.out] at hR5
      have hnk := HN.out
      clear HBK HRS
      go_wp2_with (first
        | (go_at_call 15; refine hWr.mono ?_; rintro e w5 ⟨rfl, rfl⟩)
        | (go_at_call 13; refine hR5.mono ?_; rintro e w6 ⟨v6, rfl, hr6, hb6⟩; have hr46 := hr4.far hb6; obtain ⟨x46, c46, hx46, hv46⟩ := hr46.view; obtain ⟨x6, c6, hx6, hv6⟩ := hr6.view; subst hx6; cases hx46; rw [hnk] at hv46 hv6; have hsr := sameRows_any _ _ _ _ _ _ _ _ w6 hv46 hv6 hrB hrB hrl; rw [show (rs == rs) = true by simp] at hsr; have hb16 := hb14.trans (hb6.mono hb14.size); rw [hnk]; clear hr46 hr6 hv46 hv6)
        | (go_at_call 20; refine hsr.mono ?_; rintro e w8 ⟨rfl, hb8⟩))
      go_ret
      exact ⟨rfl, hb16.trans (hb8.mono hb16.size)⟩
    · have hWr := dWrite_any _ _ _ _ _ w4 hD4 y lb cb b hyE hBE (by omega) (by omega) (fun a hl0 ha e => by
        have h1 := hyx a hl0 ha
        have h2 := (hD4.inside a.block (.inr e)).2
        omega) hW4 hkt4
      go_upto_region 9 with (go_at_call 15; refine hWr.mono ?_; rintro e w5 ⟨rfl, v5, hd5⟩)
      have hb15 := hb14.trans (hd5.below hD4 hW4)
      have hk5 := hd5.range ho4 (Nat.le_refl _)
      have hs5 := hd5.turn.size
      have hD5 := hd5.disk
      have hy5 : Bytes w5 y lb cb b := hyE.turn hd5.turn fun a hl0 ha hp => by
        have h1 := hyx a hl0 ha
        have h2 := (hD4.inside a.block hp).2
        omega
      have hR5 := records_any _ _ _ _ _ w5 hD5 (hKT.below hb15)
      rw [HBK.out b (by rw [← hyE.len_eq]; omega)] at hR5
      clear hWr HBK hD4 hd5 hy4 hyE
      go_upto_region 12 with (go_at_call 13; refine hR5.mono ?_; rintro e w6 ⟨v6, rfl, hr6, hb6⟩; obtain ⟨x6, c6, hx6, hv6⟩ := hr6.view; subst hx6; rw [List.length_append, List.length_singleton])
      have hb16 := hb15.trans (hb6.mono hb15.size)
      have hr46 := hr4.range (hk5.trans (RangeK.of_below hb6 hs5))
      obtain ⟨x46, c46, hx46, hv46⟩ := hr46.view
      cases hx46
      have hnk := HN.out
      rw [List.length_append, List.length_singleton, hnk] at hv6
      rw [hnk] at hv46 ⊢
      have hy6 := hy5.below hb6
      obtain ⟨b6, rfl, hc6⟩ : ∃ b', x6 = some ⟨b', 0, none⟩ ∧ ∀ j (hj : j < (rs ++ [b]).length), ∃ xx cc, w6.cell? ⟨b', j, none⟩ = some (.slice xx (rs ++ [b])[j].length cc) ∧ Bytes w6 xx (rs ++ [b])[j].length cc (rs ++ [b])[j] := by
        rcases hv6.at_ with h0 | h0
        · omega
        · exact h0
      obtain ⟨xx, cc, e1, e2⟩ := hc6 n (by rw [List.length_append, List.length_singleton]; omega)
      have e3 : (rs ++ [b])[n]'(by rw [List.length_append, List.length_singleton]; omega) = b := by
        rw [List.getElem_append_right (by omega)]
        simp [hnk]
      rw [e3] at e1 e2
      obtain ⟨SB, hSB⟩ : ∃ q, strOfNums (b) = q := ⟨_, rfl⟩
      obtain ⟨bl, hbl⟩ : ∃ q, (b).length = q := ⟨_, rfl⟩
      rw [hbl] at e1 e2
      have hvf := hv6.few n (by omega)
      rw [List.take_append_of_le_length (by omega), List.take_of_length_le (by omega)] at hvf
      have hsr := sameRows_any _ _ _ _ _ _ _ _ w6.drew (hvf.below (Below.refl _ _).drew) (hv46.below (Below.refl _ _).drew) hrB hrB hrl
      rw [show (rs == rs) = true by simp] at hsr
      have hsl := fun wx => run_rows_h wx (some ⟨b6, 0, none⟩) (n + 1) c6 n (.inr ⟨_, rfl⟩) (by have := hv6.le; omega)
      have keep : ∀ w', Below w6.heap.size w6 w' → w'.cell? ⟨b6, n, none⟩ = some (.slice xx bl cc) ∧ (convert 35 9 (.slice xx bl cc)).run Tryd.prog w' = .ok (.string SB) w' ∧ (convert 35 9 (.slice y lb cb)).run Tryd.prog w' = .ok (.string SB) w' := fun w' hb' =>
        ⟨(hb'.cell (p := ⟨b6, n, none⟩) (block_lt_of_cell e1)).trans e1, by rw [← hSB]; exact conv_bytes (e2.below hb'), by rw [← hSB]; exact conv_bytes (hy6.below hb')⟩
      have hwn : IntKind.i64.wrap ((n : Int) + 1) = (n : Int) + 1 := by rw [IntKind.wrap_i64]; omega
      have hni : (n : Int) < (n : Int) + 1 := by omega
      clear hv6 hvf hv46 hr46 hr6 hc6 e1 e2 e3 hSB hbl hR5 hy5 hy6 hr4 HN hnk
      refine wp_region_gateT (fun w' => w'.cell? ⟨b6, n, none⟩ = some (.slice xx bl cc) ∧ (convert 35 9 (.slice xx bl cc)).run Tryd.prog w' = .ok (.string SB) w' ∧ (convert 35 9 (.slice y lb cb)).run Tryd.prog w' = .ok (.string SB) w') (fun _ => True) 25 (by kernel_rfl) ?_
      have hS := trivial
      have hT := keep _ (Below.refl _ _).drew
      refine wpAnyT_held (i := 0) (v := ?_) rfl (by kernel_rfl) (by kernel_rfl) (by kernel_rfl) (fun _ _ _ h => h) (by kernel_rfl) hT (fun _ => hS) (by kernel_rfl) ?_ ?_
      rotate_left
      · intro wx hSw; go_split_ands; go_simp; try with_reducible rfl
      simp only [Act.put, List.getElem_toArray, List.getElem_cons_succ, List.getElem_cons_zero, List.setIfInBounds_toArray, List.set_cons_zero, List.set_cons_succ]
      refine wpAnyT_held (i := 1) (v := ?_) rfl (by kernel_rfl) (by kernel_rfl) (by kernel_rfl) (fun _ _ _ h => h) (by kernel_rfl) hT (fun _ => hS) (by kernel_rfl) ?_ ?_
      rotate_left
      · intro wx hSw; go_split_ands; go_simp; try with_reducible rfl
      simp only [Act.put, List.getElem_toArray, List.getElem_cons_succ, List.getElem_cons_zero, List.setIfInBounds_toArray, List.set_cons_zero, List.set_cons_succ]
      refine wpAnyT_held (i := 2) (v := ?_) rfl (by kernel_rfl) (by kernel_rfl) (by kernel_rfl) (fun _ _ _ h => h) (by kernel_rfl) hT (fun _ => hS) (by kernel_rfl) ?_ ?_
      rotate_left
      · intro wx hSw; go_split_ands; go_simp; try with_reducible rfl
      simp only [Act.put, List.getElem_toArray, List.getElem_cons_succ, List.getElem_cons_zero, List.setIfInBounds_toArray, List.set_cons_zero, List.set_cons_succ]
      refine wpAnyT_held (i := 3) (v := ?_) rfl (by kernel_rfl) (by kernel_rfl) (by kernel_rfl) (fun _ _ _ h => h) (by kernel_rfl) hT (fun _ => hS) (by kernel_rfl) ?_ ?_
      rotate_left
      · intro wx hSw; go_split_ands; go_simp; try with_reducible rfl
      simp only [Act.put, List.getElem_toArray, List.getElem_cons_succ, List.getElem_cons_zero, List.setIfInBounds_toArray, List.set_cons_zero, List.set_cons_succ]
      refine wpAnyT_held (i := 4) (v := ?_) rfl (by kernel_rfl) (by kernel_rfl) (by kernel_rfl) (fun _ _ _ h => h) (by kernel_rfl) hT (fun _ => hS) (by kernel_rfl) ?_ ?_
      rotate_left
      · intro wx hSw; go_split_ands; go_simp; try with_reducible rfl
      simp only [Act.put, List.getElem_toArray, List.getElem_cons_succ, List.getElem_cons_zero, List.setIfInBounds_toArray, List.set_cons_zero, List.set_cons_succ]
      refine wpAnyT_held (i := 5) (v := .bool true) rfl (by kernel_rfl) (by kernel_rfl) (by kernel_rfl) (fun _ _ _ h => h) (by kernel_rfl) hT (fun _ => hS) (by kernel_rfl) ?_ ?_
      · intro wx hSw; go_split_ands; go_simp
      simp only [Act.put, List.getElem_toArray, List.getElem_cons_succ, List.getElem_cons_zero, List.setIfInBounds_toArray, List.set_cons_zero, List.set_cons_succ]
      refine wpAnyT_held (i := 6) (v := ?_) rfl (by kernel_rfl) (by kernel_rfl) (by kernel_rfl) (fun _ _ _ h => h) (by kernel_rfl) hT (fun _ => hS) (by kernel_rfl) ?_ ?_
      rotate_left
      · intro wx hSw; go_split_ands; go_simp; try with_reducible rfl
      simp only [Act.put, List.getElem_toArray, List.getElem_cons_succ, List.getElem_cons_zero, List.setIfInBounds_toArray, List.set_cons_zero, List.set_cons_succ]
      refine wpAnyT_held (i := 7) (v := ?_) rfl (by kernel_rfl) (by kernel_rfl) (by kernel_rfl) (fun _ _ _ h => h) (by kernel_rfl) hT (fun _ => hS) (by kernel_rfl) ?_ ?_
      rotate_left
      · intro wx hSw; go_split_ands; go_simp; try with_reducible rfl
      simp only [Act.put, List.getElem_toArray, List.getElem_cons_succ, List.getElem_cons_zero, List.setIfInBounds_toArray, List.set_cons_zero, List.set_cons_succ]
      refine wpAnyT_held (i := 8) (v := ?_) rfl (by kernel_rfl) (by kernel_rfl) (by kernel_rfl) (fun _ _ _ h => h) (by kernel_rfl) hT (fun _ => hS) (by kernel_rfl) ?_ ?_
      rotate_left
      · intro wx hSw; go_split_ands; go_simp; try with_reducible rfl
      simp only [Act.put, List.getElem_toArray, List.getElem_cons_succ, List.getElem_cons_zero, List.setIfInBounds_toArray, List.set_cons_zero, List.set_cons_succ]
      refine wpAnyT_held (i := 9) (v := ?_) rfl (by kernel_rfl) (by kernel_rfl) (by kernel_rfl) (fun _ _ _ h => h) (by kernel_rfl) hT (fun _ => hS) (by kernel_rfl) ?_ ?_
      rotate_left
      · intro wx hSw; go_split_ands; go_simp; try with_reducible rfl
      simp only [Act.put, List.getElem_toArray, List.getElem_cons_succ, List.getElem_cons_zero, List.setIfInBounds_toArray, List.set_cons_zero, List.set_cons_succ]
      refine wpAnyT_held (i := 10) (v := .slice (some ⟨b6, 0, none⟩) n c6) rfl (by kernel_rfl) (by kernel_rfl) (by kernel_rfl) (fun _ _ _ h => h) (by kernel_rfl) hT (fun _ => hS) (by kernel_rfl) ?_ ?_
      · intro wx hSw; go_split_ands; go_simp
      simp only [Act.put, List.getElem_toArray, List.getElem_cons_succ, List.getElem_cons_zero, List.setIfInBounds_toArray, List.set_cons_zero, List.set_cons_succ]
      refine wpAnyT_held (i := 11) (v := ?_) rfl (by kernel_rfl) (by kernel_rfl) (by kernel_rfl) (fun _ _ _ h => h) (by kernel_rfl) hT (fun _ => hS) (by kernel_rfl) ?_ ?_
      rotate_left
      · intro wx hSw; go_split_ands; go_simp; try with_reducible rfl
      simp only [Act.put, List.getElem_toArray, List.getElem_cons_succ, List.getElem_cons_zero, List.setIfInBounds_toArray, List.set_cons_zero, List.set_cons_succ]
      refine wpAnyT_one (i := 12) rfl (by kernel_rfl) (by kernel_rfl) (fun K hK => ?_)
      refine wpx_call _ _ (by kernel_rfl) (hsr.mono ?_)
      rintro e w8 ⟨rfl, hb8⟩
      refine ⟨_, rfl, ?_⟩
      have hb68 : Below w6.heap.size w6 w8 := ((Below.refl _ _).drew).trans hb8
      replace hT := keep _ hb68
      refine hK.out _ _ hT (fun _ => hS) ?_
      clear hK K
      try simp only [Act.put, List.getElem_toArray, List.getElem_cons_succ, List.getElem_cons_zero, List.setIfInBounds_toArray, List.set_cons_zero, List.set_cons_succ]
      refine wpAnyT_held (i := 13) (v := .bool true) rfl (by kernel_rfl) (by kernel_rfl) (by kernel_rfl) (fun _ _ _ h => h) (by kernel_rfl) hT (fun _ => hS) (by kernel_rfl) ?_ ?_
      · intro wx hSw; go_split_ands; go_simp
      simp only [Act.put, List.getElem_toArray, List.getElem_cons_succ, List.getElem_cons_zero, List.setIfInBounds_toArray, List.set_cons_zero, List.set_cons_succ]
      refine wpAnyT_held (i := 14) (v := ?_) rfl (by kernel_rfl) (by kernel_rfl) (by kernel_rfl) (fun _ _ _ h => h) (by kernel_rfl) hT (fun _ => hS) (by kernel_rfl) ?_ ?_
      rotate_left
      · intro wx hSw; go_split_ands; go_simp; try with_reducible rfl
      simp only [Act.put, List.getElem_toArray, List.getElem_cons_succ, List.getElem_cons_zero, List.setIfInBounds_toArray, List.set_cons_zero, List.set_cons_succ]
      refine wpAnyT_held (i := 15) (v := ?_) rfl (by kernel_rfl) (by kernel_rfl) (by kernel_rfl) (fun _ _ _ h => h) (by kernel_rfl) hT (fun _ => hS) (by kernel_rfl) ?_ ?_
      rotate_left
      · intro wx hSw; go_split_ands; go_simp; try with_reducible rfl
      simp only [Act.put, List.getElem_toArray, List.getElem_cons_succ, List.getElem_cons_zero, List.setIfInBounds_toArray, List.set_cons_zero, List.set_cons_succ]
      refine wpAnyT_held (i := 16) (v := ?_) rfl (by kernel_rfl) (by kernel_rfl) (by kernel_rfl) (fun _ _ _ h => h) (by kernel_rfl) hT (fun _ => hS) (by kernel_rfl) ?_ ?_
      rotate_left
      · intro wx hSw; go_split_ands; go_simp; try with_reducible rfl
      simp only [Act.put, List.getElem_toArray, List.getElem_cons_succ, List.getElem_cons_zero, List.setIfInBounds_toArray, List.set_cons_zero, List.set_cons_succ]
      refine wpAnyT_held (i := 17) (v := ?_) rfl (by kernel_rfl) (by kernel_rfl) (by kernel_rfl) (fun _ _ _ h => h) (by kernel_rfl) hT (fun _ => hS) (by kernel_rfl) ?_ ?_
      rotate_left
      · intro wx hSw; go_split_ands; go_simp; try with_reducible rfl
      simp only [Act.put, List.getElem_toArray, List.getElem_cons_succ, List.getElem_cons_zero, List.setIfInBounds_toArray, List.set_cons_zero, List.set_cons_succ]
      refine wpAnyT_held (i := 18) (v := ?_) rfl (by kernel_rfl) (by kernel_rfl) (by kernel_rfl) (fun _ _ _ h => h) (by kernel_rfl) hT (fun _ => hS) (by kernel_rfl) ?_ ?_
      rotate_left
      · intro wx hSw; go_split_ands; go_simp; try with_reducible rfl
      simp only [Act.put, List.getElem_toArray, List.getElem_cons_succ, List.getElem_cons_zero, List.setIfInBounds_toArray, List.set_cons_zero, List.set_cons_succ]
      refine wpAnyT_held (i := 19) (v := ?_) rfl (by kernel_rfl) (by kernel_rfl) (by kernel_rfl) (fun _ _ _ h => h) (by kernel_rfl) hT (fun _ => hS) (by kernel_rfl) ?_ ?_
      rotate_left
      · intro wx hSw; go_split_ands; go_simp; try with_reducible rfl
      simp only [Act.put, List.getElem_toArray, List.getElem_cons_succ, List.getElem_cons_zero, List.setIfInBounds_toArray, List.set_cons_zero, List.set_cons_succ]
      refine wpAnyT_held (i := 20) (v := .string SB) rfl (by kernel_rfl) (by kernel_rfl) (by kernel_rfl) (fun _ _ _ h => h) (by kernel_rfl) hT (fun _ => hS) (by kernel_rfl) ?_ ?_
      · intro wx hSw; go_split_ands; go_simp
      simp only [Act.put, List.getElem_toArray, List.getElem_cons_succ, List.getElem_cons_zero, List.setIfInBounds_toArray, List.set_cons_zero, List.set_cons_succ]
      refine wpAnyT_held (i := 21) (v := ?_) rfl (by kernel_rfl) (by kernel_rfl) (by kernel_rfl) (fun _ _ _ h => h) (by kernel_rfl) hT (fun _ => hS) (by kernel_rfl) ?_ ?_
      rotate_left
      · intro wx hSw; go_split_ands; go_simp; try with_reducible rfl
      simp only [Act.put, List.getElem_toArray, List.getElem_cons_succ, List.getElem_cons_zero, List.setIfInBounds_toArray, List.set_cons_zero, List.set_cons_succ]
      refine wpAnyT_held (i := 22) (v := .string SB) rfl (by kernel_rfl) (by kernel_rfl) (by kernel_rfl) (fun _ _ _ h => h) (by kernel_rfl) hT (fun _ => hS) (by kernel_rfl) ?_ ?_
      · intro wx hSw; go_split_ands; go_simp
      simp only [Act.put, List.getElem_toArray, List.getElem_cons_succ, List.getElem_cons_zero, List.setIfInBounds_toArray, List.set_cons_zero, List.set_cons_succ]
      refine wpAnyT_held (i := 23) (v := .bool true) rfl (by kernel_rfl) (by kernel_rfl) (by kernel_rfl) (fun _ _ _ h => h) (by kernel_rfl) hT (fun _ => hS) (by kernel_rfl) ?_ ?_
      · intro wx hSw; go_split_ands; go_simp
      simp only [Act.put, List.getElem_toArray, List.getElem_cons_succ, List.getElem_cons_zero, List.setIfInBounds_toArray, List.set_cons_zero, List.set_cons_succ]
      refine wpAnyT_held (i := 24) (v := .bool true) rfl (by kernel_rfl) (by kernel_rfl) (by kernel_rfl) (fun _ _ _ h => h) (by kernel_rfl) hT (fun _ => hS) (by kernel_rfl) ?_ ?_
      · intro wx hSw; go_split_ands; go_simp
      simp only [Act.put, List.getElem_toArray, List.getElem_cons_succ, List.getElem_cons_zero, List.setIfInBounds_toArray, List.set_cons_zero, List.set_cons_succ]
      refine wpAnyT_one (i := 25) rfl (by kernel_rfl) (by kernel_rfl) (fun K hK => ?_)
      go_simp
      refine hK.out _ _ hT (fun _ => trivial) ?_
      clear hK K
      refine wpAnyT_done (by kernel_rfl) ?_ _
      clear hT hS keep hsr
      go_wp2
      go_ret
      exact ⟨rfl, hb16.trans (hb68.mono hb16.size)⟩
end Go.Proofs.YtknomnnbebhijaaDoor
