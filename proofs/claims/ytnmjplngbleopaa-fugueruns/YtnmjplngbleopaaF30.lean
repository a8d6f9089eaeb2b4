/- Fr2 -/
import Derived.Test.YtnmjplngbleopaaF19
import Derived.Test.YtnmjplngbleopaaF29
namespace Go.Proofs.Ytnmjplngbleopaa
open Go.RowKit Go.Shelf
set_option maxRecDepth 20000
set_option linter.unusedSimpArgs false
structure RefTo (R : Nat) (v v' : Value) (w w' : World) : Prop where
  turn : Turn (refP R v) w w'
  own : ∀ k, refP R v' k → refP R v k ∨ w.heap.size ≤ k
theorem RefTo.of_below {R : Nat} {v : Value} {w w' : World} (h : Below w.heap.size w w') : RefTo R v v w w' := ⟨Turn.of_below h, fun _ hk => .inl hk⟩
theorem infoN6 : (Try.prog.info? 80).map (fun i => (i.zero, i.size, i.bytes)) = some (some (.agg #[.int .u8 0, .int .u32 0, .int .u8 0, .int .u32 0, .bool false, .int .u8 0]), 6, 20) := by kernel_rfl
theorem rnewT_any (w : World) : Calls Try.prog 13 #[] w fun e w' => ∃ R, e = .returned (.pointer (some ⟨R, 0, none⟩)) ∧ RefT w' w.heap.size R (.slice none 0 0) [] ∧ Below w.heap.size w w' ∧ w.heap.size ≤ R := by
  have hb := CellsAt.new w 68 [.slice none 0 0]
  have hB : Below w.heap.size w (w.alloc (.cells #[.slice none 0 0] 68)) := (Below.refl _ _).alloc (Nat.le_refl _) _
  have HT : Veil (RefT (w.alloc (.cells #[.slice none 0 0] 68)) w.heap.size w.heap.size (.slice none 0 0) [] ∧ Below w.heap.size w (w.alloc (.cells #[.slice none 0 0] 68))) := ⟨⟨hb, OwnI.nil _ _ _ _, by simp⟩, hB⟩
  clear hb hB
  go_enter Try.func13, Try.ntmps13
  go_wp2
  go_ret
  exact ⟨_, rfl, HT.out.1, HT.out.2, Nat.le_refl _⟩
set_option maxHeartbeats 16000000 in
theorem rinsT_any (base R : Nat) (v : Value) (N : List Nd) (n : Nd) (hlen : N.length ≤ 900) (w : World) (hb0 : base ≤ w.heap.size) (hT : RefT w base R v N) :
    Calls Try.prog 23 #[.pointer (some ⟨R, 0, none⟩), .agg (encF n.id).toArray, .agg (encF n.side.1).toArray, .bool n.side.2, .int .u8 n.chr] w fun e w' => e = .returned (.int .i64 (refI N n)) ∧ ∃ v', RefT w' base R v' (insN N n) ∧ RefTo R v v' w w' := by
  have hd0 := (CellsAt.new w 32 (encF n.id)).alloc (.cells (encF n.side.1).toArray 32)
  have hk0 := CellsAt.new (w.alloc (.cells (encF n.id).toArray 32)) 32 (encF n.side.1)
  rw [World.size_alloc] at hk0
  have hB : Below w.heap.size w ((w.alloc (.cells (encF n.id).toArray 32)).alloc (.cells (encF n.side.1).toArray 32)) := ((Below.refl _ _).alloc (Nat.le_refl _) _).alloc (by simp) _
  have HRI : Veil (∀ W, Calls Try.prog 34 #[.agg (encF n.id).toArray] W fun e w' => e = .returned (.bool (decide (n.id = (0, 0)))) ∧ Below W.heap.size W w') := ⟨fun W => rnone8_any n.id W⟩
  have HRP : Veil (∀ W, Calls Try.prog 34 #[.agg (encF n.side.1).toArray] W fun e w' => e = .returned (.bool (decide (n.side.1 = (0, 0)))) ∧ Below W.heap.size W w') := ⟨fun W => rnone8_any n.side.1 W⟩
  have HAI : Veil (∀ W, Below w.heap.size w W → Calls Try.prog 35 #[.pointer (some ⟨R, 0, none⟩), .agg (encF n.id).toArray] W fun e w' => e = .returned (.int .i64 (idxN N n.id)) ∧ Below W.heap.size W w') := ⟨fun W h => ratT_any base R v N n.id W (hT.far h)⟩
  have HAP : Veil (∀ W, Below w.heap.size w W → Calls Try.prog 35 #[.pointer (some ⟨R, 0, none⟩), .agg (encF n.side.1).toArray] W fun e w' => e = .returned (.int .i64 (idxN N n.side.1)) ∧ Below W.heap.size W w') := ⟨fun W h => ratT_any base R v N n.side.1 W (hT.far h)⟩
  have HCI := Veil.mk (idxN_cases N n.id)
  have HCP := Veil.mk (idxN_cases N n.side.1)
  have HER : Veil (∀ W, Below w.heap.size w W → refI N n ≠ 0 → ∃ v', RefT W base R v' (insN N n) ∧ RefTo R v v' w W) := ⟨fun W hb hr => ⟨v, by unfold insN; rw [if_neg hr]; exact hT.far hb, RefTo.of_below hb⟩⟩
  have HRF : Veil (refI N n = if decide (n.id = (0, 0)) = true ∨ n.chr < 1 ∨ 127 < n.chr ∨ (decide (n.side.1 = (0, 0)) = true ∧ n.side.2 = false) then 3 else if (chrN N n.id).isSome = true then 5 else if decide (n.side.1 = (0, 0)) = false ∧ (chrN N n.side.1).isSome = false then 7 else if 512 ≤ N.length then 10 else 0) := ⟨by unfold refI; simp⟩
  have HTF : Veil (∀ W, Below w.heap.size w W → RefT W base R v N) := ⟨fun W hb => hT.far hb⟩
  -- what becomes of it
  have HOK : Veil (refI N n = 0 → ∀ W, Below w.heap.size w W → ∃ v' W1, (Builtin.append_ #[66, 66] 66 #[v, .slice (some ⟨W.drew.heap.size, 0, none⟩) 1 1]).run Try.prog (W.drew.alloc (.cells (ndC n).toArray 80)) = .ok v' W1 ∧ (∃ x c, v' = .slice x (N.length + 1) c) ∧ CellsAt W1 R 68 [v] ∧ (∀ k, k < W.heap.size → v.ownBlock ≠ some k → W1.heap[k]? = W.heap[k]?) ∧ RefT (W1.setCell ⟨R, 0, none⟩ v') base R v' (insN N n) ∧ RefTo R v v' w (W1.setCell ⟨R, 0, none⟩ v')) := ⟨fun hr W hb => by
    have hTW := hT.far hb
    have hbA : Below W.heap.size W (W.drew.alloc (.cells (ndC n).toArray 80)) := ((Below.refl _ _).drew).alloc (Nat.le_refl _) _
    have hzw := hb.size
    obtain ⟨v', W1, hrun, ho, hg, hbl⟩ := (hTW.own.far hbA).app (P := Try.prog) 66 66 Try.underlying66 infoN6 rfl (by decide) (ndC n) rfl (ndC_one n) W.drew.heap.size (CellsAt.new W.drew 80 (ndC n)).wholeM (by rw [List.length_map]; omega) (by decide) (by simp; omega)
    have hza := hbA.size
    have hzg := hg.size
    have keep : ∀ k, k < W.heap.size → v.ownBlock ≠ some k → W1.heap[k]? = W.heap[k]? := fun k hk hn => (hg.block k (by omega) (fun e => hn e.symm)).trans (hbA.block k hk)
    have hR1 : CellsAt W1 R 68 [v] := hTW.box.congr (keep R hTW.box.lt hTW.ne)
    have hv' : ∀ g, v'.ownBlock = some g → g ≠ R := fun g hg' e => by
      rcases hbl with q | q
      · rw [q] at hg'; exact hTW.ne (e ▸ hg')
      · rw [q] at hg'
        have := hTW.box.lt
        have := Option.some.inj hg'
        omega
    obtain ⟨x, c, hxc⟩ := ho.isSlice
    refine ⟨v', W1, hrun, ⟨x, c, by rw [hxc]; simp⟩, hR1, keep, ⟨hR1.set 0 v', ?_, ?_⟩, ?_, fun k hk => ?_⟩
    · unfold insN
      rw [if_pos hr, List.map_append]
      exact ho.congr fun g hg' => Below.heap_setCell _ ⟨R, 0, none⟩ _ g (hv' g hg')
    · have := insN_len (N := N) (n := n); omega
    · exact (((Turn.of_below hb).trans (Turn.of_below hbA)).trans (Turn.of_grown hg fun k hk => .inr hk)).trans (Turn.of_setCell _ (a := ⟨R, 0, none⟩) (.inl rfl) _)
    · rcases hk with q | q
      · exact .inl (.inl q)
      · rcases hbl with r | r
        · rw [r] at q; exact .inl (.inr q)
        · rw [r] at q
          have := Option.some.inj q
          exact .inr (by omega)⟩
  have HLE := Veil.mk hlen
  have HRL : Veil (R < w.heap.size) := ⟨hT.box.lt⟩
  have HVL : Veil (∀ k, v.ownBlock = some k → k < w.heap.size) := ⟨fun k hk => (hT.own.blockLt k hk).1⟩
  obtain ⟨sx, sc, hsl⟩ := hT.own.isSlice
  rw [List.length_map] at hsl
  obtain ⟨RN, hRN⟩ : ∃ q, refI N n = q := ⟨_, rfl⟩
  rw [hRN] at HER HOK HRF ⊢
  obtain ⟨⟨ia, is⟩, ⟨⟨pa, ps⟩, rg⟩, ch⟩ := n
  simp only [encF, dotC] at hd0 hk0 hB HRI HRP HAI HAP HRF HCI HCP ⊢
  have hnc : ndC ⟨(ia, is), ((pa, ps), rg), ch⟩ = [.int .u8 ia, .int .u32 is, .int .u8 pa, .int .u32 ps, .bool rg, .int .u8 ch] := rfl
  rw [hnc] at HOK
  generalize decide ((ia, is) = (0, 0)) = RI at HRI HRF
  generalize decide ((pa, ps) = (0, 0)) = RP at HRP HRF
  generalize (chrN N (ia, is)).isSome = HI at HCI HRF
  generalize (chrN N (pa, ps)).isSome = HP at HCP HRF
  generalize idxN N (ia, is) = XI at HAI HCI
  generalize idxN N (pa, ps) = XP at HAP HCP
  obtain ⟨ln, hln⟩ : ∃ q, N.length = q := ⟨_, rfl⟩
  rw [hln] at HRF HOK hsl
  have HLN := Veil.mk hln
  clear hln hRN hnc hlen
  subst hsl
  have uD := Try.underlying32
  have iI : (Try.prog.info? 32).map (·.size) = some [Value.int .u8 ia, Value.int .u32 is].length := sizeDot
  have iP : (Try.prog.info? 32).map (·.size) = some [Value.int .u8 pa, Value.int .u32 ps].length := sizeDot
  clear hT
  go_enter Try.func23, Try.ntmps23
  go_upto_region 3 with fail
  refine forget (p := fun y => Code.wp _ _ _ _ y) (fun W => Below w.heap.size w W ∧ CellsAt W w.heap.size 32 [.int .u8 ia, .int .u32 is] ∧ CellsAt W (w.heap.size + 1) 32 [.int .u8 pa, .int .u32 ps]) ⟨hB, hd0, hk0⟩ ?_
  clear hB hd0 hk0
  rintro W0 ⟨hB0, hd0, hk0⟩
  have HF : Veil (∀ W, Below W0.heap.size W0 W → Below w.heap.size w W ∧ W.rangeAt w.heap.size 0 [.int .u8 ia, .int .u32 is] ∧ W.rangeAt (w.heap.size + 1) 0 [.int .u8 pa, .int .u32 ps]) := ⟨fun W hb => ⟨hB0.trans (hb.mono hB0.size), (hd0.farM hb).wholeM, (hk0.farM hb).wholeM⟩⟩
  obtain ⟨hB0', r01, r02⟩ := HF.out W0 (Below.refl _ _)
  clear hd0 hk0 hB0'
  obtain ⟨b2, hb2⟩ : ∃ q, w.heap.size + 1 = q := ⟨_, rfl⟩
  rw [hb2] at HF r02 ⊢
  obtain ⟨b1, hb1⟩ : ∃ q, w.heap.size = q := ⟨_, rfl⟩
  rw [hb1] at r01
  have HF1 : Veil (∀ W, Below W0.heap.size W0 W → Below w.heap.size w W ∧ W.rangeAt b1 0 [.int .u8 ia, .int .u32 is] ∧ W.rangeAt b2 0 [.int .u8 pa, .int .u32 ps]) := ⟨fun W hb => by rw [← hb1]; exact HF.out W hb⟩
  have HB1 : Veil (w.heap.size ≤ b1 ∧ w.heap.size ≤ b2) := ⟨by omega⟩
  try rw [hb1]
  clear HF hb1 hb2
  cases RI
  case true =>
    have h3 : RN = 3 := HRF.out
    go_wp2_with (first
      | (refine wpList_ldgv (by kernel_rfl) 32 (.tmp 6) rfl b1 0 rfl [.int .u8 ia, .int .u32 is] r01 uD rfl iI ?_)
      | (go_at_call 34; refine (HRI.out _).mono ?_; rintro z W1 ⟨rfl, h1⟩; clear HRI))
    go_ret
    exact ⟨by rw [h3]; rfl, HER.out _ (HF1.out _ h1).1 (by rw [h3]; decide)⟩
  by_cases hc1 : ch < 1
  · have h3 : RN = 3 := by rw [HRF.out, if_pos (.inr (.inl hc1))]
    have hd1 : decide (ch < 1) = true := by simpa using hc1
    go_wp2_with (first
      | (refine wpList_ldgv (by kernel_rfl) 32 (.tmp 6) rfl b1 0 rfl [.int .u8 ia, .int .u32 is] r01 uD rfl iI ?_)
      | (go_at_call 34; refine (HRI.out _).mono ?_; rintro z W1 ⟨rfl, h1⟩; clear HRI))
    go_ret
    exact ⟨by rw [h3]; rfl, HER.out _ (HF1.out _ h1).1 (by rw [h3]; decide)⟩
  by_cases hc2 : 127 < ch
  · have h3 : RN = 3 := by rw [HRF.out, if_pos (.inr (.inr (.inl hc2)))]
    have hd1 : decide (ch < 1) = false := by simpa using hc1
    have hd2 : decide (127 < ch) = true := by simpa using hc2
    go_wp2_with (first
      | (refine wpList_ldgv (by kernel_rfl) 32 (.tmp 6) rfl b1 0 rfl [.int .u8 ia, .int .u32 is] r01 uD rfl iI ?_)
      | (go_at_call 34; refine (HRI.out _).mono ?_; rintro z W1 ⟨rfl, h1⟩; clear HRI))
    go_ret
    exact ⟨by rw [h3]; rfl, HER.out _ (HF1.out _ h1).1 (by rw [h3]; decide)⟩
  have hd1 : decide (ch < 1) = false := by simpa using hc1
  have hd2 : decide (127 < ch) = false := by simpa using hc2
  replace HRF : Veil (RN = if RP = true ∧ rg = false then 3 else if HI = true then 5 else if RP = false ∧ HP = false then 7 else if 512 ≤ ln then 10 else 0) := ⟨by rw [HRF.out]; simp [hc1, hc2]⟩
  clear hc1 hc2
  have hcase : (RP = true ∧ rg = false) ∨ (RP = true ∧ rg = true) ∨ (RP = false ∧ rg = true) ∨ (RP = false ∧ rg = false) := by cases RP <;> cases rg <;> simp
  rcases hcase with ⟨rfl, rfl⟩ | hcase
  · have h3 : RN = 3 := HRF.out
    go_wp2_with (first
      | (refine wpList_ldgv (by kernel_rfl) 32 (.tmp 6) rfl b1 0 rfl [.int .u8 ia, .int .u32 is] r01 uD rfl iI ?_)
      | (refine wpList_ldgv (by kernel_rfl) 32 (.tmp 7) rfl b2 0 rfl [.int .u8 pa, .int .u32 ps] r12 uD rfl iP ?_)
      | (go_at_call 34; refine (HRI.out _).mono ?_; rintro z W1 ⟨rfl, h1⟩; obtain ⟨-, r11, r12⟩ := HF1.out W1 h1; clear HRI)
      | (go_at_call 34; refine (HRP.out _).mono ?_; rintro z W2 ⟨rfl, h2⟩; clear HRP))
    go_ret
    exact ⟨by rw [h3]; rfl, HER.out _ (HF1.out _ (h1.trans (h2.mono h1.size))).1 (by rw [h3]; decide)⟩
  rcases hcase with ⟨rfl, rfl⟩ | ⟨rfl, rfl⟩ | ⟨rfl, rfl⟩
  · go_upto_region 5 with (first
      | (refine wpList_ldgv (by kernel_rfl) 32 (.tmp 6) rfl b1 0 rfl [.int .u8 ia, .int .u32 is] r01 uD rfl iI ?_)
      | (refine wpList_ldgv (by kernel_rfl) 32 (.tmp 7) rfl b2 0 rfl [.int .u8 pa, .int .u32 ps] r12 uD rfl iP ?_)
      | (go_at_call 34; refine (HRI.out _).mono ?_; rintro z W1 ⟨rfl, h1⟩; obtain ⟨-, r11, r12⟩ := HF1.out W1 h1; clear HRI)
      | (go_at_call 34; refine (HRP.out _).mono ?_; rintro z W2 ⟨rfl, h2⟩))
    replace h2 := h1.trans (h2.mono h1.size)
    clear h1 r11 r12 r01 r02
    obtain ⟨hq2, r21, r22⟩ := HF1.out W2 h2
    have hai := HAI.out W2 hq2
    rcases HCI.out with ⟨rfl, rfl⟩ | ⟨j, -, hxi, -, rfl⟩
    rotate_left
    · have he5 : RN = 5 := by rw [HRF.out]; rfl
      rw [hxi] at hai
      have hj0 : decide ((0 : Int) ≤ (j : Int)) = true := by simp
      clear hxi
      go_wp2_with (first
        | (refine wpList_ldgv (by kernel_rfl) 32 (.tmp 6) rfl b1 0 rfl [.int .u8 ia, .int .u32 is] r21 uD rfl iI ?_)
        | (go_at_call 35; refine hai.mono ?_; rintro z W3 ⟨rfl, h3⟩))
      go_ret
      exact ⟨by rw [he5]; rfl, HER.out _ (HF1.out _ (h2.trans (h3.mono h2.size))).1 (by rw [he5]; decide)⟩
    go_upto_region 7 with (first
      | (refine wpList_ldgv (by kernel_rfl) 32 (.tmp 6) rfl b1 0 rfl [.int .u8 ia, .int .u32 is] r21 uD rfl iI ?_)
      | (go_at_call 35; refine hai.mono ?_; rintro z W3 ⟨rfl, h3⟩))
    replace h3 := h2.trans (h3.mono h2.size)
    clear h2 hai hq2 r21 r22
    obtain ⟨hq3, r31, r32⟩ := HF1.out W3 h3
    replace HRF : Veil (RN = if 512 ≤ ln then 10 else 0) := ⟨by rw [HRF.out]; rfl⟩
    go_upto_region 9 with (first
      | (refine wpList_ldv rfl 32 (.tmp 7) rfl b2 0 rfl [.int .u8 pa, .int .u32 ps] r32 uD rfl iP ?_)
      | (go_at_call 34; refine (HRP.out _).mono ?_; rintro z W5 ⟨rfl, h5⟩))
    replace h5 := h3.trans (h5.mono h3.size)
    clear h3 hq3 r31 r32
    obtain ⟨hq5, r51, r52⟩ := HF1.out W5 h5
    have cR : W5.cell? ⟨R, 0, none⟩ = some (.slice sx ln sc) := (HTF.out W5 hq5).box.cell 0
    by_cases hfull : 512 ≤ ln
    · have h10 : RN = 10 := by rw [HRF.out, if_pos hfull]
      have hfi : decide ((512 : Int) ≤ (ln : Int)) = true := by simp; omega
      go_wp2
      go_ret
      exact ⟨by rw [h10]; rfl, HER.out _ hq5 (by rw [h10]; decide)⟩
    have h0 : RN = 0 := by rw [HRF.out, if_neg hfull]
    have hfi : decide ((512 : Int) ≤ (ln : Int)) = false := by simp; omega
    go_upto_region 11 with fail
    clear hfull hfi
    obtain ⟨v', W8, hrun, ⟨x8, c8, rfl⟩, hR8, hk8, hE⟩ := HOK.out h0 W5 hq5
    have HE := Veil.mk hE
    have c8' : W8.cell? ⟨R, 0, none⟩ = some (.slice sx ln sc) := hR8.cell 0
    have f8 := hR8.frozen 0
    have hzw := hq5.size
    have hS : (fun w' : World => w'.cell? ⟨R, 0, none⟩ = some (.slice sx ln sc) ∧ w'.rangeAt b1 0 [.int .u8 ia, .int .u32 is] ∧ w'.rangeAt b2 0 [.int .u8 pa, .int .u32 ps]) W5.drew := ⟨cR, r51, r52⟩
    have hbA : Below W5.heap.size W5 (W5.drew.alloc (.cells #[.int .u8 ia, .int .u32 is, .int .u8 pa, .int .u32 ps, .bool true, .int .u8 ch] 80)) := ((Below.refl _ _).drew).alloc (Nat.le_refl _) _
    have hSA : (fun w' : World => w'.cell? ⟨R, 0, none⟩ = some (.slice sx ln sc) ∧ w'.rangeAt b1 0 [.int .u8 ia, .int .u32 is] ∧ w'.rangeAt b2 0 [.int .u8 pa, .int .u32 ps]) (W5.drew.alloc (.cells #[.int .u8 ia, .int .u32 is, .int .u8 pa, .int .u32 ps, .bool true, .int .u8 ch] 80)) := ⟨(hbA.cell (p := ⟨R, 0, none⟩) (block_lt_of_cell cR)).trans cR, fun q u hu => (hbA.cell (p := ⟨b1, 0 + q, none⟩) (block_lt_of_cell (r51 q u hu))).trans (r51 q u hu), fun q u hu => (hbA.cell (p := ⟨b2, 0 + q, none⟩) (block_lt_of_cell (r52 q u hu))).trans (r52 q u hu)⟩
    have hS8 : (fun w' : World => w'.cell? ⟨R, 0, none⟩ = some (.slice sx ln sc) ∧ w'.rangeAt b1 0 [.int .u8 ia, .int .u32 is] ∧ w'.rangeAt b2 0 [.int .u8 pa, .int .u32 ps]) W8 := ⟨c8', fun q u hu => by
        have h9 := r51 q u hu
        exact (World.cell?_of_block (a := ⟨b1, 0 + q, none⟩) (hk8 b1 (block_lt_of_cell h9) (fun e => by have := HVL.out b1 e; have := HB1.out; omega))).trans h9, fun q u hu => by
        have h9 := r52 q u hu
        exact (World.cell?_of_block (a := ⟨b2, 0 + q, none⟩) (hk8 b2 (block_lt_of_cell h9) (fun e => by have := HVL.out b2 e; have := HB1.out; omega))).trans h9⟩
    clear hE hk8 hR8 hbA hzw
    obtain ⟨gb, hgb⟩ : ∃ q, W5.drew.heap.size = q := ⟨_, rfl⟩
    rw [hgb] at hrun
    obtain ⟨WA, hWA⟩ : ∃ q, W5.drew.alloc (.cells #[.int .u8 ia, .int .u32 is, .int .u8 pa, .int .u32 ps, .bool true, .int .u8 ch] 80) = q := ⟨_, rfl⟩
    rw [hWA] at hSA
    replace hrun : (Builtin.append_ #[66, 66] 66 #[.slice sx ln sc, .slice (some ⟨gb, 0, none⟩) 1 1]).run Try.prog WA = .ok (.slice x8 (ln + 1) c8) W8 := by rw [← hWA]; exact hrun
    have HWA := Veil.mk hWA
    have HGB := Veil.mk hgb
    clear hWA hgb
    refine wp_region_gate (fun w' => w'.cell? ⟨R, 0, none⟩ = some (.slice sx ln sc) ∧ w'.rangeAt b1 0 [.int .u8 ia, .int .u32 is] ∧ w'.rangeAt b2 0 [.int .u8 pa, .int .u32 ps]) 14 (by kernel_rfl) ?_
    refine wpAnyG_any (i := 0) (v := ?_) rfl (by kernel_rfl) (by kernel_rfl) (by kernel_rfl) (fun _ _ _ h => h) (by kernel_rfl) (fun _ => hS) (by kernel_rfl) ?_ ?_
    rotate_left
    · intro _; go_simp; try with_reducible rfl
    simp only [Act.put, List.getElem_toArray, List.getElem_cons_succ, List.getElem_cons_zero, List.setIfInBounds_toArray, List.set_cons_zero, List.set_cons_succ]
    refine wpAnyG_any (i := 1) (v := ?_) rfl (by kernel_rfl) (by kernel_rfl) (by kernel_rfl) (fun _ _ _ h => h) (by kernel_rfl) (fun _ => hS) (by kernel_rfl) ?_ ?_
    rotate_left
    · intro _; go_simp; try with_reducible rfl
    simp only [Act.put, List.getElem_toArray, List.getElem_cons_succ, List.getElem_cons_zero, List.setIfInBounds_toArray, List.set_cons_zero, List.set_cons_succ]
    refine wpAnyG_any (i := 2) (v := ?_) rfl (by kernel_rfl) (by kernel_rfl) (by kernel_rfl) (fun _ _ _ h => h) (by kernel_rfl) (fun _ => hS) (by kernel_rfl) ?_ ?_
    rotate_left
    · intro _; go_simp; try with_reducible rfl
    simp only [Act.put, List.getElem_toArray, List.getElem_cons_succ, List.getElem_cons_zero, List.setIfInBounds_toArray, List.set_cons_zero, List.set_cons_succ]
    refine wpAnyG_any (i := 3) (v := ?_) rfl (by kernel_rfl) (by kernel_rfl) (by kernel_rfl) (fun _ _ _ h => h) (by kernel_rfl) (fun _ => hS) (by kernel_rfl) ?_ ?_
    rotate_left
    · intro _; go_simp; try with_reducible rfl
    simp only [Act.put, List.getElem_toArray, List.getElem_cons_succ, List.getElem_cons_zero, List.setIfInBounds_toArray, List.set_cons_zero, List.set_cons_succ]
    refine wpAnyG_read (i := 4) (v := ?_) rfl (by kernel_rfl) (by kernel_rfl) (by kernel_rfl) (fun _ _ _ h => h) (by kernel_rfl) (by kernel_rfl) (by kernel_rfl) hS (by kernel_rfl) ?_ ?_
    rotate_left
    · intro wx hSw; go_split_ands; go_simp; try with_reducible rfl
    simp only [Act.put, List.getElem_toArray, List.getElem_cons_succ, List.getElem_cons_zero, List.setIfInBounds_toArray, List.set_cons_zero, List.set_cons_succ]
    refine wpAnyG_load (i := 5) (dst := some 60) (ty := 32) (x := .tmp 6) (b := b1) (o := (0)) (cs := [.int .u8 ia, .int .u32 is]) (by kernel_rfl) (by kernel_rfl) (by kernel_rfl) (by kernel_rfl) (by kernel_rfl) (fun _ _ _ h => h) (by kernel_rfl) (by kernel_rfl) (by kernel_rfl) hS (by kernel_rfl) (fun _ h => h.2.1) uD rfl iI ?_
    simp only [Act.put, List.getElem_toArray, List.getElem_cons_succ, List.getElem_cons_zero, List.setIfInBounds_toArray, List.set_cons_zero, List.set_cons_succ]
    refine wpAnyG_load (i := 6) (dst := some 61) (ty := 32) (x := .tmp 7) (b := b2) (o := (0)) (cs := [.int .u8 pa, .int .u32 ps]) (by kernel_rfl) (by kernel_rfl) (by kernel_rfl) (by kernel_rfl) (by kernel_rfl) (fun _ _ _ h => h) (by kernel_rfl) (by kernel_rfl) (by kernel_rfl) hS (by kernel_rfl) (fun _ h => h.2.2) uD rfl iP ?_
    simp only [Act.put, List.getElem_toArray, List.getElem_cons_succ, List.getElem_cons_zero, List.setIfInBounds_toArray, List.set_cons_zero, List.set_cons_succ]
    refine wpAnyG_any (i := 7) (v := ?_) rfl (by kernel_rfl) (by kernel_rfl) (by kernel_rfl) (fun _ _ _ h => h) (by kernel_rfl) (fun _ => hS) (by kernel_rfl) ?_ ?_
    rotate_left
    · intro _; go_simp; try with_reducible rfl
    simp only [Act.put, List.getElem_toArray, List.getElem_cons_succ, List.getElem_cons_zero, List.setIfInBounds_toArray, List.set_cons_zero, List.set_cons_succ]
    refine wpAnyG_any (i := 8) (v := ?_) rfl (by kernel_rfl) (by kernel_rfl) (by kernel_rfl) (fun _ _ _ h => h) (by kernel_rfl) (fun _ => hS) (by kernel_rfl) ?_ ?_
    rotate_left
    · intro _; go_simp; try with_reducible rfl
    simp only [Act.put, List.getElem_toArray, List.getElem_cons_succ, List.getElem_cons_zero, List.setIfInBounds_toArray, List.set_cons_zero, List.set_cons_succ]
    refine wpAnyG_any (i := 9) (v := ?_) rfl (by kernel_rfl) (by kernel_rfl) (by kernel_rfl) (fun _ _ _ h => h) (by kernel_rfl) (fun _ => hS) (by kernel_rfl) ?_ ?_
    rotate_left
    · intro _; go_simp; try with_reducible rfl
    simp only [Act.put, List.getElem_toArray, List.getElem_cons_succ, List.getElem_cons_zero, List.setIfInBounds_toArray, List.set_cons_zero, List.set_cons_succ]
    refine wpAnyG_one (i := 10) rfl (by kernel_rfl) (by kernel_rfl) (fun K hK => ?_)
    refine wp_bs1 66 80 _ rfl [.int .u8 ia, .int .u32 is, .int .u8 pa, .int .u32 ps, .bool true, .int .u8 ch] rfl Try.underlying66 infoN6 (by decide) (by decide) rfl ?_
    rw [HWA.out, HGB.out]
    replace hS := hSA
    refine hK.out _ _ (fun _ => hS) ?_
    clear hK K
    try simp only [Act.put, List.getElem_toArray, List.getElem_cons_succ, List.getElem_cons_zero, List.setIfInBounds_toArray, List.set_cons_zero, List.set_cons_succ]
    refine wpAnyG_one (i := 11) rfl (by kernel_rfl) (by kernel_rfl) (fun K hK => ?_)
    refine wpx_app _ _ _ _ rfl _ _ _ W8 rfl rfl hrun ?_
    replace hS := hS8
    refine hK.out _ _ (fun _ => hS) ?_
    clear hK K
    try simp only [Act.put, List.getElem_toArray, List.getElem_cons_succ, List.getElem_cons_zero, List.setIfInBounds_toArray, List.set_cons_zero, List.set_cons_succ]
    refine wpAnyG_any (i := 12) (v := ?_) rfl (by kernel_rfl) (by kernel_rfl) (by kernel_rfl) (fun _ _ _ h => h) (by kernel_rfl) (fun _ => hS) (by kernel_rfl) ?_ ?_
    rotate_left
    · intro _; go_simp; try with_reducible rfl
    simp only [Act.put, List.getElem_toArray, List.getElem_cons_succ, List.getElem_cons_zero, List.setIfInBounds_toArray, List.set_cons_zero, List.set_cons_succ]
    refine wpAnyG_any (i := 13) (v := ?_) rfl (by kernel_rfl) (by kernel_rfl) (by kernel_rfl) (fun _ _ _ h => h) (by kernel_rfl) (fun _ => hS) (by kernel_rfl) ?_ ?_
    rotate_left
    · intro _; go_simp; try with_reducible rfl
    simp only [Act.put, List.getElem_toArray, List.getElem_cons_succ, List.getElem_cons_zero, List.setIfInBounds_toArray, List.set_cons_zero, List.set_cons_succ]
    refine wpAnyG_one (i := 14) rfl (by kernel_rfl) (by kernel_rfl) (fun K hK => ?_)
    go_simp
    refine hK.out _ _ (fun h => absurd (show true = false from h) (by decide)) ?_
    clear hK K
    try simp only [Act.put, List.getElem_toArray, List.getElem_cons_succ, List.getElem_cons_zero, List.setIfInBounds_toArray, List.set_cons_zero, List.set_cons_succ]
    refine wpAnyG_done (by kernel_rfl) ?_ _
    clear hS hS8 hSA hrun c8' f8 r51 r52 cR
    go_wp2
    go_ret
    exact ⟨by rw [h0]; rfl, _, HE.out⟩
  · go_upto_region 5 with (first
      | (refine wpList_ldgv (by kernel_rfl) 32 (.tmp 6) rfl b1 0 rfl [.int .u8 ia, .int .u32 is] r01 uD rfl iI ?_)
      | (refine wpList_ldgv (by kernel_rfl) 32 (.tmp 7) rfl b2 0 rfl [.int .u8 pa, .int .u32 ps] r12 uD rfl iP ?_)
      | (go_at_call 34; refine (HRI.out _).mono ?_; rintro z W1 ⟨rfl, h1⟩; obtain ⟨-, r11, r12⟩ := HF1.out W1 h1; clear HRI)
      | (go_at_call 34; refine (HRP.out _).mono ?_; rintro z W2 ⟨rfl, h2⟩))
    replace h2 := h1.trans (h2.mono h1.size)
    clear h1 r11 r12 r01 r02
    obtain ⟨hq2, r21, r22⟩ := HF1.out W2 h2
    have hai := HAI.out W2 hq2
    rcases HCI.out with ⟨rfl, rfl⟩ | ⟨j, -, hxi, -, rfl⟩
    rotate_left
    · have he5 : RN = 5 := by rw [HRF.out]; rfl
      rw [hxi] at hai
      have hj0 : decide ((0 : Int) ≤ (j : Int)) = true := by simp
      clear hxi
      go_wp2_with (first
        | (refine wpList_ldgv (by kernel_rfl) 32 (.tmp 6) rfl b1 0 rfl [.int .u8 ia, .int .u32 is] r21 uD rfl iI ?_)
        | (go_at_call 35; refine hai.mono ?_; rintro z W3 ⟨rfl, h3⟩))
      go_ret
      exact ⟨by rw [he5]; rfl, HER.out _ (HF1.out _ (h2.trans (h3.mono h2.size))).1 (by rw [he5]; decide)⟩
    go_upto_region 7 with (first
      | (refine wpList_ldgv (by kernel_rfl) 32 (.tmp 6) rfl b1 0 rfl [.int .u8 ia, .int .u32 is] r21 uD rfl iI ?_)
      | (go_at_call 35; refine hai.mono ?_; rintro z W3 ⟨rfl, h3⟩))
    replace h3 := h2.trans (h3.mono h2.size)
    clear h2 hai hq2 r21 r22
    obtain ⟨hq3, r31, r32⟩ := HF1.out W3 h3
    rcases HCP.out with ⟨rfl, rfl⟩ | ⟨j, -, hxp, -, rfl⟩
    · have he7 : RN = 7 := by rw [HRF.out]; rfl
      go_wp2_with (first
        | (refine wpList_ldgv (by kernel_rfl) 32 (.tmp 7) rfl b2 0 rfl [.int .u8 pa, .int .u32 ps] r42 uD rfl iP ?_)
        | (refine wpList_ldgv (by kernel_rfl) 32 (.tmp 7) rfl b2 0 rfl [.int .u8 pa, .int .u32 ps] r32 uD rfl iP ?_)
        | (go_at_call 34; refine (HRP.out _).mono ?_; rintro z W4 ⟨rfl, h4⟩; clear HRP; replace h4 := h3.trans (h4.mono h3.size); obtain ⟨hq4, r41, r42⟩ := HF1.out W4 h4; have hap := HAP.out W4 hq4)
        | (go_at_call 35; refine hap.mono ?_; rintro z W5 ⟨rfl, h5⟩))
      go_ret
      exact ⟨by rw [he7]; rfl, HER.out _ (HF1.out _ (h4.trans (h5.mono h4.size))).1 (by rw [he7]; decide)⟩
    replace HRF : Veil (RN = if 512 ≤ ln then 10 else 0) := ⟨by rw [HRF.out]; rfl⟩
    rw [hxp] at HAP
    have hj0 : decide ((j : Int) < (0 : Int)) = false := by simp
    clear hxp
    go_upto_region 9 with (first
      | (refine wpList_ldgv (by kernel_rfl) 32 (.tmp 7) rfl b2 0 rfl [.int .u8 pa, .int .u32 ps] r42 uD rfl iP ?_)
      | (refine wpList_ldgv (by kernel_rfl) 32 (.tmp 7) rfl b2 0 rfl [.int .u8 pa, .int .u32 ps] r32 uD rfl iP ?_)
      | (go_at_call 34; refine (HRP.out _).mono ?_; rintro z W4 ⟨rfl, h4⟩; clear HRP; replace h4 := h3.trans (h4.mono h3.size); obtain ⟨hq4, r41, r42⟩ := HF1.out W4 h4; have hap := HAP.out W4 hq4)
      | (go_at_call 35; refine hap.mono ?_; rintro z W5 ⟨rfl, h5⟩))
    replace h5 := h4.trans (h5.mono h4.size)
    clear h4 hq4 h3 hq3 hap r31 r32 r41 r42 hj0
    obtain ⟨hq5, r51, r52⟩ := HF1.out W5 h5
    have cR : W5.cell? ⟨R, 0, none⟩ = some (.slice sx ln sc) := (HTF.out W5 hq5).box.cell 0
    by_cases hfull : 512 ≤ ln
    · have h10 : RN = 10 := by rw [HRF.out, if_pos hfull]
      have hfi : decide ((512 : Int) ≤ (ln : Int)) = true := by simp; omega
      go_wp2
      go_ret
      exact ⟨by rw [h10]; rfl, HER.out _ hq5 (by rw [h10]; decide)⟩
    have h0 : RN = 0 := by rw [HRF.out, if_neg hfull]
    have hfi : decide ((512 : Int) ≤ (ln : Int)) = false := by simp; omega
    go_upto_region 11 with fail
    clear hfull hfi
    obtain ⟨v', W8, hrun, ⟨x8, c8, rfl⟩, hR8, hk8, hE⟩ := HOK.out h0 W5 hq5
    have HE := Veil.mk hE
    have c8' : W8.cell? ⟨R, 0, none⟩ = some (.slice sx ln sc) := hR8.cell 0
    have f8 := hR8.frozen 0
    have hzw := hq5.size
    have hS : (fun w' : World => w'.cell? ⟨R, 0, none⟩ = some (.slice sx ln sc) ∧ w'.rangeAt b1 0 [.int .u8 ia, .int .u32 is] ∧ w'.rangeAt b2 0 [.int .u8 pa, .int .u32 ps]) W5.drew := ⟨cR, r51, r52⟩
    have hbA : Below W5.heap.size W5 (W5.drew.alloc (.cells #[.int .u8 ia, .int .u32 is, .int .u8 pa, .int .u32 ps, .bool true, .int .u8 ch] 80)) := ((Below.refl _ _).drew).alloc (Nat.le_refl _) _
    have hSA : (fun w' : World => w'.cell? ⟨R, 0, none⟩ = some (.slice sx ln sc) ∧ w'.rangeAt b1 0 [.int .u8 ia, .int .u32 is] ∧ w'.rangeAt b2 0 [.int .u8 pa, .int .u32 ps]) (W5.drew.alloc (.cells #[.int .u8 ia, .int .u32 is, .int .u8 pa, .int .u32 ps, .bool true, .int .u8 ch] 80)) := ⟨(hbA.cell (p := ⟨R, 0, none⟩) (block_lt_of_cell cR)).trans cR, fun q u hu => (hbA.cell (p := ⟨b1, 0 + q, none⟩) (block_lt_of_cell (r51 q u hu))).trans (r51 q u hu), fun q u hu => (hbA.cell (p := ⟨b2, 0 + q, none⟩) (block_lt_of_cell (r52 q u hu))).trans (r52 q u hu)⟩
    have hS8 : (fun w' : World => w'.cell? ⟨R, 0, none⟩ = some (.slice sx ln sc) ∧ w'.rangeAt b1 0 [.int .u8 ia, .int .u32 is] ∧ w'.rangeAt b2 0 [.int .u8 pa, .int .u32 ps]) W8 := ⟨c8', fun q u hu => by
        have h9 := r51 q u hu
        exact (World.cell?_of_block (a := ⟨b1, 0 + q, none⟩) (hk8 b1 (block_lt_of_cell h9) (fun e => by have := HVL.out b1 e; have := HB1.out; omega))).trans h9, fun q u hu => by
        have h9 := r52 q u hu
        exact (World.cell?_of_block (a := ⟨b2, 0 + q, none⟩) (hk8 b2 (block_lt_of_cell h9) (fun e => by have := HVL.out b2 e; have := HB1.out; omega))).trans h9⟩
    clear hE hk8 hR8 hbA hzw
    obtain ⟨gb, hgb⟩ : ∃ q, W5.drew.heap.size = q := ⟨_, rfl⟩
    rw [hgb] at hrun
    obtain ⟨WA, hWA⟩ : ∃ q, W5.drew.alloc (.cells #[.int .u8 ia, .int .u32 is, .int .u8 pa, .int .u32 ps, .bool true, .int .u8 ch] 80) = q := ⟨_, rfl⟩
    rw [hWA] at hSA
    replace hrun : (Builtin.append_ #[66, 66] 66 #[.slice sx ln sc, .slice (some ⟨gb, 0, none⟩) 1 1]).run Try.prog WA = .ok (.slice x8 (ln + 1) c8) W8 := by rw [← hWA]; exact hrun
    have HWA := Veil.mk hWA
    have HGB := Veil.mk hgb
    clear hWA hgb
    refine wp_region_gate (fun w' => w'.cell? ⟨R, 0, none⟩ = some (.slice sx ln sc) ∧ w'.rangeAt b1 0 [.int .u8 ia, .int .u32 is] ∧ w'.rangeAt b2 0 [.int .u8 pa, .int .u32 ps]) 14 (by kernel_rfl) ?_
    refine wpAnyG_any (i := 0) (v := ?_) rfl (by kernel_rfl) (by kernel_rfl) (by kernel_rfl) (fun _ _ _ h => h) (by kernel_rfl) (fun _ => hS) (by kernel_rfl) ?_ ?_
    rotate_left
    · intro _; go_simp; try with_reducible rfl
    simp only [Act.put, List.getElem_toArray, List.getElem_cons_succ, List.getElem_cons_zero, List.setIfInBounds_toArray, List.set_cons_zero, List.set_cons_succ]
    refine wpAnyG_any (i := 1) (v := ?_) rfl (by kernel_rfl) (by kernel_rfl) (by kernel_rfl) (fun _ _ _ h => h) (by kernel_rfl) (fun _ => hS) (by kernel_rfl) ?_ ?_
    rotate_left
    · intro _; go_simp; try with_reducible rfl
    simp only [Act.put, List.getElem_toArray, List.getElem_cons_succ, List.getElem_cons_zero, List.setIfInBounds_toArray, List.set_cons_zero, List.set_cons_succ]
    refine wpAnyG_any (i := 2) (v := ?_) rfl (by kernel_rfl) (by kernel_rfl) (by kernel_rfl) (fun _ _ _ h => h) (by kernel_rfl) (fun _ => hS) (by kernel_rfl) ?_ ?_
    rotate_left
    · intro _; go_simp; try with_reducible rfl
    simp only [Act.put, List.getElem_toArray, List.getElem_cons_succ, List.getElem_cons_zero, List.setIfInBounds_toArray, List.set_cons_zero, List.set_cons_succ]
    refine wpAnyG_any (i := 3) (v := ?_) rfl (by kernel_rfl) (by kernel_rfl) (by kernel_rfl) (fun _ _ _ h => h) (by kernel_rfl) (fun _ => hS) (by kernel_rfl) ?_ ?_
    rotate_left
    · intro _; go_simp; try with_reducible rfl
    simp only [Act.put, List.getElem_toArray, List.getElem_cons_succ, List.getElem_cons_zero, List.setIfInBounds_toArray, List.set_cons_zero, List.set_cons_succ]
    refine wpAnyG_read (i := 4) (v := ?_) rfl (by kernel_rfl) (by kernel_rfl) (by kernel_rfl) (fun _ _ _ h => h) (by kernel_rfl) (by kernel_rfl) (by kernel_rfl) hS (by kernel_rfl) ?_ ?_
    rotate_left
    · intro wx hSw; go_split_ands; go_simp; try with_reducible rfl
    simp only [Act.put, List.getElem_toArray, List.getElem_cons_succ, List.getElem_cons_zero, List.setIfInBounds_toArray, List.set_cons_zero, List.set_cons_succ]
    refine wpAnyG_load (i := 5) (dst := some 60) (ty := 32) (x := .tmp 6) (b := b1) (o := (0)) (cs := [.int .u8 ia, .int .u32 is]) (by kernel_rfl) (by kernel_rfl) (by kernel_rfl) (by kernel_rfl) (by kernel_rfl) (fun _ _ _ h => h) (by kernel_rfl) (by kernel_rfl) (by kernel_rfl) hS (by kernel_rfl) (fun _ h => h.2.1) uD rfl iI ?_
    simp only [Act.put, List.getElem_toArray, List.getElem_cons_succ, List.getElem_cons_zero, List.setIfInBounds_toArray, List.set_cons_zero, List.set_cons_succ]
    refine wpAnyG_load (i := 6) (dst := some 61) (ty := 32) (x := .tmp 7) (b := b2) (o := (0)) (cs := [.int .u8 pa, .int .u32 ps]) (by kernel_rfl) (by kernel_rfl) (by kernel_rfl) (by kernel_rfl) (by kernel_rfl) (fun _ _ _ h => h) (by kernel_rfl) (by kernel_rfl) (by kernel_rfl) hS (by kernel_rfl) (fun _ h => h.2.2) uD rfl iP ?_
    simp only [Act.put, List.getElem_toArray, List.getElem_cons_succ, List.getElem_cons_zero, List.setIfInBounds_toArray, List.set_cons_zero, List.set_cons_succ]
    refine wpAnyG_any (i := 7) (v := ?_) rfl (by kernel_rfl) (by kernel_rfl) (by kernel_rfl) (fun _ _ _ h => h) (by kernel_rfl) (fun _ => hS) (by kernel_rfl) ?_ ?_
    rotate_left
    · intro _; go_simp; try with_reducible rfl
    simp only [Act.put, List.getElem_toArray, List.getElem_cons_succ, List.getElem_cons_zero, List.setIfInBounds_toArray, List.set_cons_zero, List.set_cons_succ]
    refine wpAnyG_any (i := 8) (v := ?_) rfl (by kernel_rfl) (by kernel_rfl) (by kernel_rfl) (fun _ _ _ h => h) (by kernel_rfl) (fun _ => hS) (by kernel_rfl) ?_ ?_
    rotate_left
    · intro _; go_simp; try with_reducible rfl
    simp only [Act.put, List.getElem_toArray, List.getElem_cons_succ, List.getElem_cons_zero, List.setIfInBounds_toArray, List.set_cons_zero, List.set_cons_succ]
    refine wpAnyG_any (i := 9) (v := ?_) rfl (by kernel_rfl) (by kernel_rfl) (by kernel_rfl) (fun _ _ _ h => h) (by kernel_rfl) (fun _ => hS) (by kernel_rfl) ?_ ?_
    rotate_left
    · intro _; go_simp; try with_reducible rfl
    simp only [Act.put, List.getElem_toArray, List.getElem_cons_succ, List.getElem_cons_zero, List.setIfInBounds_toArray, List.set_cons_zero, List.set_cons_succ]
    refine wpAnyG_one (i := 10) rfl (by kernel_rfl) (by kernel_rfl) (fun K hK => ?_)
    refine wp_bs1 66 80 _ rfl [.int .u8 ia, .int .u32 is, .int .u8 pa, .int .u32 ps, .bool true, .int .u8 ch] rfl Try.underlying66 infoN6 (by decide) (by decide) rfl ?_
    rw [HWA.out, HGB.out]
    replace hS := hSA
    refine hK.out _ _ (fun _ => hS) ?_
    clear hK K
    try simp only [Act.put, List.getElem_toArray, List.getElem_cons_succ, List.getElem_cons_zero, List.setIfInBounds_toArray, List.set_cons_zero, List.set_cons_succ]
    refine wpAnyG_one (i := 11) rfl (by kernel_rfl) (by kernel_rfl) (fun K hK => ?_)
    refine wpx_app _ _ _ _ rfl _ _ _ W8 rfl rfl hrun ?_
    replace hS := hS8
    refine hK.out _ _ (fun _ => hS) ?_
    clear hK K
    try simp only [Act.put, List.getElem_toArray, List.getElem_cons_succ, List.getElem_cons_zero, List.setIfInBounds_toArray, List.set_cons_zero, List.set_cons_succ]
    refine wpAnyG_any (i := 12) (v := ?_) rfl (by kernel_rfl) (by kernel_rfl) (by kernel_rfl) (fun _ _ _ h => h) (by kernel_rfl) (fun _ => hS) (by kernel_rfl) ?_ ?_
    rotate_left
    · intro _; go_simp; try with_reducible rfl
    simp only [Act.put, List.getElem_toArray, List.getElem_cons_succ, List.getElem_cons_zero, List.setIfInBounds_toArray, List.set_cons_zero, List.set_cons_succ]
    refine wpAnyG_any (i := 13) (v := ?_) rfl (by kernel_rfl) (by kernel_rfl) (by kernel_rfl) (fun _ _ _ h => h) (by kernel_rfl) (fun _ => hS) (by kernel_rfl) ?_ ?_
    rotate_left
    · intro _; go_simp; try with_reducible rfl
    simp only [Act.put, List.getElem_toArray, List.getElem_cons_succ, List.getElem_cons_zero, List.setIfInBounds_toArray, List.set_cons_zero, List.set_cons_succ]
    refine wpAnyG_one (i := 14) rfl (by kernel_rfl) (by kernel_rfl) (fun K hK => ?_)
    go_simp
    refine hK.out _ _ (fun h => absurd (show true = false from h) (by decide)) ?_
    clear hK K
    try simp only [Act.put, List.getElem_toArray, List.getElem_cons_succ, List.getElem_cons_zero, List.setIfInBounds_toArray, List.set_cons_zero, List.set_cons_succ]
    refine wpAnyG_done (by kernel_rfl) ?_ _
    clear hS hS8 hSA hrun c8' f8 r51 r52 cR
    go_wp2
    go_ret
    exact ⟨by rw [h0]; rfl, _, HE.out⟩
  · go_upto_region 5 with (first
      | (refine wpList_ldgv (by kernel_rfl) 32 (.tmp 6) rfl b1 0 rfl [.int .u8 ia, .int .u32 is] r01 uD rfl iI ?_)
      | (refine wpList_ldgv (by kernel_rfl) 32 (.tmp 7) rfl b2 0 rfl [.int .u8 pa, .int .u32 ps] r12 uD rfl iP ?_)
      | (go_at_call 34; refine (HRI.out _).mono ?_; rintro z W1 ⟨rfl, h1⟩; obtain ⟨-, r11, r12⟩ := HF1.out W1 h1; clear HRI)
      | (go_at_call 34; refine (HRP.out _).mono ?_; rintro z W2 ⟨rfl, h2⟩))
    replace h2 := h1.trans (h2.mono h1.size)
    clear h1 r11 r12 r01 r02
    obtain ⟨hq2, r21, r22⟩ := HF1.out W2 h2
    have hai := HAI.out W2 hq2
    rcases HCI.out with ⟨rfl, rfl⟩ | ⟨j, -, hxi, -, rfl⟩
    rotate_left
    · have he5 : RN = 5 := by rw [HRF.out]; rfl
      rw [hxi] at hai
      have hj0 : decide ((0 : Int) ≤ (j : Int)) = true := by simp
      clear hxi
      go_wp2_with (first
        | (refine wpList_ldgv (by kernel_rfl) 32 (.tmp 6) rfl b1 0 rfl [.int .u8 ia, .int .u32 is] r21 uD rfl iI ?_)
        | (go_at_call 35; refine hai.mono ?_; rintro z W3 ⟨rfl, h3⟩))
      go_ret
      exact ⟨by rw [he5]; rfl, HER.out _ (HF1.out _ (h2.trans (h3.mono h2.size))).1 (by rw [he5]; decide)⟩
    go_upto_region 7 with (first
      | (refine wpList_ldgv (by kernel_rfl) 32 (.tmp 6) rfl b1 0 rfl [.int .u8 ia, .int .u32 is] r21 uD rfl iI ?_)
      | (go_at_call 35; refine hai.mono ?_; rintro z W3 ⟨rfl, h3⟩))
    replace h3 := h2.trans (h3.mono h2.size)
    clear h2 hai hq2 r21 r22
    obtain ⟨hq3, r31, r32⟩ := HF1.out W3 h3
    rcases HCP.out with ⟨rfl, rfl⟩ | ⟨j, -, hxp, -, rfl⟩
    · have he7 : RN = 7 := by rw [HRF.out]; rfl
      go_wp2_with (first
        | (refine wpList_ldgv (by kernel_rfl) 32 (.tmp 7) rfl b2 0 rfl [.int .u8 pa, .int .u32 ps] r42 uD rfl iP ?_)
        | (refine wpList_ldgv (by kernel_rfl) 32 (.tmp 7) rfl b2 0 rfl [.int .u8 pa, .int .u32 ps] r32 uD rfl iP ?_)
        | (go_at_call 34; refine (HRP.out _).mono ?_; rintro z W4 ⟨rfl, h4⟩; clear HRP; replace h4 := h3.trans (h4.mono h3.size); obtain ⟨hq4, r41, r42⟩ := HF1.out W4 h4; have hap := HAP.out W4 hq4)
        | (go_at_call 35; refine hap.mono ?_; rintro z W5 ⟨rfl, h5⟩))
      go_ret
      exact ⟨by rw [he7]; rfl, HER.out _ (HF1.out _ (h4.trans (h5.mono h4.size))).1 (by rw [he7]; decide)⟩
    replace HRF : Veil (RN = if 512 ≤ ln then 10 else 0) := ⟨by rw [HRF.out]; rfl⟩
    rw [hxp] at HAP
    have hj0 : decide ((j : Int) < (0 : Int)) = false := by simp
    clear hxp
    go_upto_region 9 with (first
      | (refine wpList_ldgv (by kernel_rfl) 32 (.tmp 7) rfl b2 0 rfl [.int .u8 pa, .int .u32 ps] r42 uD rfl iP ?_)
      | (refine wpList_ldgv (by kernel_rfl) 32 (.tmp 7) rfl b2 0 rfl [.int .u8 pa, .int .u32 ps] r32 uD rfl iP ?_)
      | (go_at_call 34; refine (HRP.out _).mono ?_; rintro z W4 ⟨rfl, h4⟩; clear HRP; replace h4 := h3.trans (h4.mono h3.size); obtain ⟨hq4, r41, r42⟩ := HF1.out W4 h4; have hap := HAP.out W4 hq4)
      | (go_at_call 35; refine hap.mono ?_; rintro z W5 ⟨rfl, h5⟩))
    replace h5 := h4.trans (h5.mono h4.size)
    clear h4 hq4 h3 hq3 hap r31 r32 r41 r42 hj0
    obtain ⟨hq5, r51, r52⟩ := HF1.out W5 h5
    have cR : W5.cell? ⟨R, 0, none⟩ = some (.slice sx ln sc) := (HTF.out W5 hq5).box.cell 0
    by_cases hfull : 512 ≤ ln
    · have h10 : RN = 10 := by rw [HRF.out, if_pos hfull]
      have hfi : decide ((512 : Int) ≤ (ln : Int)) = true := by simp; omega
      go_wp2
      go_ret
      exact ⟨by rw [h10]; rfl, HER.out _ hq5 (by rw [h10]; decide)⟩
    have h0 : RN = 0 := by rw [HRF.out, if_neg hfull]
    have hfi : decide ((512 : Int) ≤ (ln : Int)) = false := by simp; omega
    go_upto_region 11 with fail
    clear hfull hfi
    obtain ⟨v', W8, hrun, ⟨x8, c8, rfl⟩, hR8, hk8, hE⟩ := HOK.out h0 W5 hq5
    have HE := Veil.mk hE
    have c8' : W8.cell? ⟨R, 0, none⟩ = some (.slice sx ln sc) := hR8.cell 0
    have f8 := hR8.frozen 0
    have hzw := hq5.size
    have hS : (fun w' : World => w'.cell? ⟨R, 0, none⟩ = some (.slice sx ln sc) ∧ w'.rangeAt b1 0 [.int .u8 ia, .int .u32 is] ∧ w'.rangeAt b2 0 [.int .u8 pa, .int .u32 ps]) W5.drew := ⟨cR, r51, r52⟩
    have hbA : Below W5.heap.size W5 (W5.drew.alloc (.cells #[.int .u8 ia, .int .u32 is, .int .u8 pa, .int .u32 ps, .bool false, .int .u8 ch] 80)) := ((Below.refl _ _).drew).alloc (Nat.le_refl _) _
    have hSA : (fun w' : World => w'.cell? ⟨R, 0, none⟩ = some (.slice sx ln sc) ∧ w'.rangeAt b1 0 [.int .u8 ia, .int .u32 is] ∧ w'.rangeAt b2 0 [.int .u8 pa, .int .u32 ps]) (W5.drew.alloc (.cells #[.int .u8 ia, .int .u32 is, .int .u8 pa, .int .u32 ps, .bool false, .int .u8 ch] 80)) := ⟨(hbA.cell (p := ⟨R, 0, none⟩) (block_lt_of_cell cR)).trans cR, fun q u hu => (hbA.cell (p := ⟨b1, 0 + q, none⟩) (block_lt_of_cell (r51 q u hu))).trans (r51 q u hu), fun q u hu => (hbA.cell (p := ⟨b2, 0 + q, none⟩) (block_lt_of_cell (r52 q u hu))).trans (r52 q u hu)⟩
    have hS8 : (fun w' : World => w'.cell? ⟨R, 0, none⟩ = some (.slice sx ln sc) ∧ w'.rangeAt b1 0 [.int .u8 ia, .int .u32 is] ∧ w'.rangeAt b2 0 [.int .u8 pa, .int .u32 ps]) W8 := ⟨c8', fun q u hu => by
        have h9 := r51 q u hu
        exact (World.cell?_of_block (a := ⟨b1, 0 + q, none⟩) (hk8 b1 (block_lt_of_cell h9) (fun e => by have := HVL.out b1 e; have := HB1.out; omega))).trans h9, fun q u hu => by
        have h9 := r52 q u hu
        exact (World.cell?_of_block (a := ⟨b2, 0 + q, none⟩) (hk8 b2 (block_lt_of_cell h9) (fun e => by have := HVL.out b2 e; have := HB1.out; omega))).trans h9⟩
    clear hE hk8 hR8 hbA hzw
    obtain ⟨gb, hgb⟩ : ∃ q, W5.drew.heap.size = q := ⟨_, rfl⟩
    rw [hgb] at hrun
    obtain ⟨WA, hWA⟩ : ∃ q, W5.drew.alloc (.cells #[.int .u8 ia, .int .u32 is, .int .u8 pa, .int .u32 ps, .bool false, .int .u8 ch] 80) = q := ⟨_, rfl⟩
    rw [hWA] at hSA
    replace hrun : (Builtin.append_ #[66, 66] 66 #[.slice sx ln sc, .slice (some ⟨gb, 0, none⟩) 1 1]).run Try.prog WA = .ok (.slice x8 (ln + 1) c8) W8 := by rw [← hWA]; exact hrun
    have HWA := Veil.mk hWA
    have HGB := Veil.mk hgb
    clear hWA hgb
    refine wp_region_gate (fun w' => w'.cell? ⟨R, 0, none⟩ = some (.slice sx ln sc) ∧ w'.rangeAt b1 0 [.int .u8 ia, .int .u32 is] ∧ w'.rangeAt b2 0 [.int .u8 pa, .int .u32 ps]) 14 (by kernel_rfl) ?_
    refine wpAnyG_any (i := 0) (v := ?_) rfl (by kernel_rfl) (by kernel_rfl) (by kernel_rfl) (fun _ _ _ h => h) (by kernel_rfl) (fun _ => hS) (by kernel_rfl) ?_ ?_
    rotate_left
    · intro _; go_simp; try with_reducible rfl
    simp only [Act.put, List.getElem_toArray, List.getElem_cons_succ, List.getElem_cons_zero, List.setIfInBounds_toArray, List.set_cons_zero, List.set_cons_succ]
    refine wpAnyG_any (i := 1) (v := ?_) rfl (by kernel_rfl) (by kernel_rfl) (by kernel_rfl) (fun _ _ _ h => h) (by kernel_rfl) (fun _ => hS) (by kernel_rfl) ?_ ?_
    rotate_left
    · intro _; go_simp; try with_reducible rfl
    simp only [Act.put, List.getElem_toArray, List.getElem_cons_succ, List.getElem_cons_zero, List.setIfInBounds_toArray, List.set_cons_zero, List.set_cons_succ]
    refine wpAnyG_any (i := 2) (v := ?_) rfl (by kernel_rfl) (by kernel_rfl) (by kernel_rfl) (fun _ _ _ h => h) (by kernel_rfl) (fun _ => hS) (by kernel_rfl) ?_ ?_
    rotate_left
    · intro _; go_simp; try with_reducible rfl
    simp only [Act.put, List.getElem_toArray, List.getElem_cons_succ, List.getElem_cons_zero, List.setIfInBounds_toArray, List.set_cons_zero, List.set_cons_succ]
    refine wpAnyG_any (i := 3) (v := ?_) rfl (by kernel_rfl) (by kernel_rfl) (by kernel_rfl) (fun _ _ _ h => h) (by kernel_rfl) (fun _ => hS) (by kernel_rfl) ?_ ?_
    rotate_left
    · intro _; go_simp; try with_reducible rfl
    simp only [Act.put, List.getElem_toArray, List.getElem_cons_succ, List.getElem_cons_zero, List.setIfInBounds_toArray, List.set_cons_zero, List.set_cons_succ]
    refine wpAnyG_read (i := 4) (v := ?_) rfl (by kernel_rfl) (by kernel_rfl) (by kernel_rfl) (fun _ _ _ h => h) (by kernel_rfl) (by kernel_rfl) (by kernel_rfl) hS (by kernel_rfl) ?_ ?_
    rotate_left
    · intro wx hSw; go_split_ands; go_simp; try with_reducible rfl
    simp only [Act.put, List.getElem_toArray, List.getElem_cons_succ, List.getElem_cons_zero, List.setIfInBounds_toArray, List.set_cons_zero, List.set_cons_succ]
    refine wpAnyG_load (i := 5) (dst := some 60) (ty := 32) (x := .tmp 6) (b := b1) (o := (0)) (cs := [.int .u8 ia, .int .u32 is]) (by kernel_rfl) (by kernel_rfl) (by kernel_rfl) (by kernel_rfl) (by kernel_rfl) (fun _ _ _ h => h) (by kernel_rfl) (by kernel_rfl) (by kernel_rfl) hS (by kernel_rfl) (fun _ h => h.2.1) uD rfl iI ?_
    simp only [Act.put, List.getElem_toArray, List.getElem_cons_succ, List.getElem_cons_zero, List.setIfInBounds_toArray, List.set_cons_zero, List.set_cons_succ]
    refine wpAnyG_load (i := 6) (dst := some 61) (ty := 32) (x := .tmp 7) (b := b2) (o := (0)) (cs := [.int .u8 pa, .int .u32 ps]) (by kernel_rfl) (by kernel_rfl) (by kernel_rfl) (by kernel_rfl) (by kernel_rfl) (fun _ _ _ h => h) (by kernel_rfl) (by kernel_rfl) (by kernel_rfl) hS (by kernel_rfl) (fun _ h => h.2.2) uD rfl iP ?_
    simp only [Act.put, List.getElem_toArray, List.getElem_cons_succ, List.getElem_cons_zero, List.setIfInBounds_toArray, List.set_cons_zero, List.set_cons_succ]
    refine wpAnyG_any (i := 7) (v := ?_) rfl (by kernel_rfl) (by kernel_rfl) (by kernel_rfl) (fun _ _ _ h => h) (by kernel_rfl) (fun _ => hS) (by kernel_rfl) ?_ ?_
    rotate_left
    · intro _; go_simp; try with_reducible rfl
    simp only [Act.put, List.getElem_toArray, List.getElem_cons_succ, List.getElem_cons_zero, List.setIfInBounds_toArray, List.set_cons_zero, List.set_cons_succ]
    refine wpAnyG_any (i := 8) (v := ?_) rfl (by kernel_rfl) (by kernel_rfl) (by kernel_rfl) (fun _ _ _ h => h) (by kernel_rfl) (fun _ => hS) (by kernel_rfl) ?_ ?_
    rotate_left
    · intro _; go_simp; try with_reducible rfl
    simp only [Act.put, List.getElem_toArray, List.getElem_cons_succ, List.getElem_cons_zero, List.setIfInBounds_toArray, List.set_cons_zero, List.set_cons_succ]
    refine wpAnyG_any (i := 9) (v := ?_) rfl (by kernel_rfl) (by kernel_rfl) (by kernel_rfl) (fun _ _ _ h => h) (by kernel_rfl) (fun _ => hS) (by kernel_rfl) ?_ ?_
    rotate_left
    · intro _; go_simp; try with_reducible rfl
    simp only [Act.put, List.getElem_toArray, List.getElem_cons_succ, List.getElem_cons_zero, List.setIfInBounds_toArray, List.set_cons_zero, List.set_cons_succ]
    refine wpAnyG_one (i := 10) rfl (by kernel_rfl) (by kernel_rfl) (fun K hK => ?_)
    refine wp_bs1 66 80 _ rfl [.int .u8 ia, .int .u32 is, .int .u8 pa, .int .u32 ps, .bool false, .int .u8 ch] rfl Try.underlying66 infoN6 (by decide) (by decide) rfl ?_
    rw [HWA.out, HGB.out]
    replace hS := hSA
    refine hK.out _ _ (fun _ => hS) ?_
    clear hK K
    try simp only [Act.put, List.getElem_toArray, List.getElem_cons_succ, List.getElem_cons_zero, List.setIfInBounds_toArray, List.set_cons_zero, List.set_cons_succ]
    refine wpAnyG_one (i := 11) rfl (by kernel_rfl) (by kernel_rfl) (fun K hK => ?_)
    refine wpx_app _ _ _ _ rfl _ _ _ W8 rfl rfl hrun ?_
    replace hS := hS8
    refine hK.out _ _ (fun _ => hS) ?_
    clear hK K
    try simp only [Act.put, List.getElem_toArray, List.getElem_cons_succ, List.getElem_cons_zero, List.setIfInBounds_toArray, List.set_cons_zero, List.set_cons_succ]
    refine wpAnyG_any (i := 12) (v := ?_) rfl (by kernel_rfl) (by kernel_rfl) (by kernel_rfl) (fun _ _ _ h => h) (by kernel_rfl) (fun _ => hS) (by kernel_rfl) ?_ ?_
    rotate_left
    · intro _; go_simp; try with_reducible rfl
    simp only [Act.put, List.getElem_toArray, List.getElem_cons_succ, List.getElem_cons_zero, List.setIfInBounds_toArray, List.set_cons_zero, List.set_cons_succ]
    refine wpAnyG_any (i := 13) (v := ?_) rfl (by kernel_rfl) (by kernel_rfl) (by kernel_rfl) (fun _ _ _ h => h) (by kernel_rfl) (fun _ => hS) (by kernel_rfl) ?_ ?_
    rotate_left
    · intro _; go_simp; try with_reducible rfl
    simp only [Act.put, List.getElem_toArray, List.getElem_cons_succ, List.getElem_cons_zero, List.setIfInBounds_toArray, List.set_cons_zero, List.set_cons_succ]
    refine wpAnyG_one (i := 14) rfl (by kernel_rfl) (by kernel_rfl) (fun K hK => ?_)
    go_simp
    refine hK.out _ _ (fun h => absurd (show true = false from h) (by decide)) ?_
    clear hK K
    try simp only [Act.put, List.getElem_toArray, List.getElem_cons_succ, List.getElem_cons_zero, List.setIfInBounds_toArray, List.set_cons_zero, List.set_cons_succ]
    refine wpAnyG_done (by kernel_rfl) ?_ _
    clear hS hS8 hSA hrun c8' f8 r51 r52 cR
    go_wp2
    go_ret
    exact ⟨by rw [h0]; rfl, _, HE.out⟩
end Go.Proofs.Ytnmjplngbleopaa
