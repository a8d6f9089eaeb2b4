/- Fg15 -/
import Derived.Test.YtnmjplngbleopaaF16
namespace Go.Proofs.Ytnmjplngbleopaa
open Go.RowKit Go.Shelf
set_option maxRecDepth 20000
set_option linter.unusedSimpArgs false
def refI (N : List Nd) (n : Nd) : Int :=
  if n.id = (0, 0) ∨ n.chr < 1 ∨ 127 < n.chr ∨ (n.side.1 = (0, 0) ∧ n.side.2 = false) then 3 else if (chrN N n.id).isSome = true then 5 else if n.side.1 ≠ (0, 0) ∧ (chrN N n.side.1).isSome = false then 7 else if 512 ≤ N.length then 10 else 0
def insN (N : List Nd) (n : Nd) : List Nd := if refI N n = 0 then N ++ [n] else N
structure TreeTo (R bc bn : Nat) (V V' : (Int × Int) × Bool → Value) (w w' : World) : Prop where
  turn : Turn (treeP R bc bn V) w w'
  own : ∀ k, treeP R bc bn V' k → treeP R bc bn V k ∨ w.heap.size ≤ k
theorem TreeTo.of_below {R bc bn : Nat} {V : (Int × Int) × Bool → Value} {w w' : World} (h : Below w.heap.size w w') : TreeTo R bc bn V V w w' := ⟨Turn.of_below h, fun _ hk => .inl hk⟩
theorem chrM_put (N : List Nd) (n : Nd) (hn : ∀ m ∈ N, m.id ≠ n.id) : putG (chrM N) n.id (.int .u8 n.chr) = chrM (N ++ [n]) := by
  funext y
  unfold putG chrM
  rw [chrN_snoc N n hn]
  by_cases e : y = n.id <;> simp [e]
theorem chrN_fresh {N : List Nd} {x : Int × Int} (h : (chrN N x).isSome = false) : ∀ m ∈ N, m.id ≠ x := fun m hm e => by
  have := (chrN_some (N := N) (x := x)).2 ⟨m, hm, e⟩
  rw [h] at this; cases this
set_option maxHeartbeats 16000000 in
theorem insT_any (base R bc bn : Nat) (N : List Nd) (V : (Int × Int) × Bool → Value) (n : Nd) (hn : okDF n.id) (hs : okS n.side) (hlen : N.length ≤ 1000) (w : World) (hb0 : base ≤ w.heap.size) (hT : TreeAt w base R bc bn N V) :
    Calls Try.prog 10 #[.pointer (some ⟨R, 0, none⟩), .agg (encF n.id).toArray, .agg (encF n.side.1).toArray, .bool n.side.2, .int .u8 n.chr] w fun e w' => e = .returned (.int .i64 (refI N n)) ∧ ∃ V', TreeAt w' base R bc bn (insN N n) V' ∧ TreeTo R bc bn V V' w w' := by
  have hd0 := (CellsAt.new w 32 (encF n.id)).alloc (.cells (encF n.side.1).toArray 32)
  have hk0 := CellsAt.new (w.alloc (.cells (encF n.id).toArray 32)) 32 (encF n.side.1)
  rw [World.size_alloc] at hk0
  have hB : Below w.heap.size w ((w.alloc (.cells (encF n.id).toArray 32)).alloc (.cells (encF n.side.1).toArray 32)) := ((Below.refl _ _).alloc (Nat.le_refl _) _).alloc (by simp) _
  have HRI : Veil (∀ W, Calls Try.prog 20 #[.agg (encF n.id).toArray] W fun e w' => e = .returned (.bool (decide (n.id = (0, 0)))) ∧ Below W.heap.size W w') := ⟨fun W => isRoot_any n.id W⟩
  have HRP : Veil (∀ W, Calls Try.prog 20 #[.agg (encF n.side.1).toArray] W fun e w' => e = .returned (.bool (decide (n.side.1 = (0, 0)))) ∧ Below W.heap.size W w') := ⟨fun W => isRoot_any n.side.1 W⟩
  have HHI : Veil (∀ W, TreeAt W base R bc bn N V → Calls Try.prog 21 #[.pointer (some ⟨R, 0, none⟩), .agg (encF n.id).toArray] W fun e w' => e = .returned (.bool (chrN N n.id).isSome) ∧ Below W.heap.size W w') := ⟨fun W h => hasT_any base R bc bn N V n.id hn W h⟩
  have HHP : Veil (∀ W, TreeAt W base R bc bn N V → Calls Try.prog 21 #[.pointer (some ⟨R, 0, none⟩), .agg (encF n.side.1).toArray] W fun e w' => e = .returned (.bool (chrN N n.side.1).isSome) ∧ Below W.heap.size W w') := ⟨fun W h => hasT_any base R bc bn N V n.side.1 hs W h⟩
  have HLN : Veil (∀ W, TreeAt W base R bc bn N V → Calls Try.prog 6 #[.pointer (some ⟨R, 0, none⟩)] W fun e w' => e = .returned (.int .i64 (N.length : Nat)) ∧ w' = W) := ⟨fun W h => lenT_any base R bc bn N V W h⟩
  have HER : Veil (∀ W, Below w.heap.size w W → refI N n ≠ 0 → ∃ V', TreeAt W base R bc bn (insN N n) V' ∧ TreeTo R bc bn V V' w W) := ⟨fun W hb hr => ⟨V, by unfold insN; rw [if_neg hr]; exact hT.far hb, TreeTo.of_below hb⟩⟩
  have HOK : Veil (refI N n = 0 → ∀ W W1 W2 v', Below w.heap.size w W → MapX Try.prog 32 encDF okDF W1 bc (N.length + 1) (putG (chrM N) n.id (.int .u8 n.chr)) → W.grownBy W1 (some bc) → SidesIn W2 base R bc bn (N ++ [n]) (putV V n.side v') → Turn (fun k => k = bn ∨ (V n.side).ownBlock = some k) W1 W2 → (∀ k, v'.ownBlock = some k → (V n.side).ownBlock = some k ∨ W1.heap.size ≤ k) → ∃ V', TreeAt W2 base R bc bn (insN N n) V' ∧ TreeTo R bc bn V V' w W2) := ⟨fun hr W W1 W2 v' hb hM hg hS ht hv => by
    have hfresh : (chrN N n.id).isSome = false ∧ 1 ≤ n.chr ∧ n.chr ≤ 127 := by
      unfold refI at hr
      split at hr
      · cases hr
      · next h1 =>
        split at hr
        · cases hr
        · next h2 => exact ⟨by simpa using h2, by omega, by omega⟩
    have hfr := chrN_fresh hfresh.1
    have hz1 := hg.size
    have hzw := hb.size
    refine ⟨putV V n.side v', ?_, (Turn.of_below hb).trans ((Turn.of_grown hg fun k hk => .inr (.inl (Option.some.inj hk).symm)).trans (ht.mono fun k _ hk => ?_)), fun k hk => ?_⟩
    · unfold insN
      rw [if_pos hr]
      rw [chrM_put N n hfr] at hM
      have hcl := hT.chars.lt
      exact { box := hS.box, nodes := hS.nodes, sides := hS.sides, empty := hS.empty, ne := hT.ne
              chars := by
                have := hM.congr (ht.block bc hM.lt (fun q => by rcases q with q | q; exact hT.ne q; exact (hT.sides.far n.side hs).2.1 q))
                simpa using this
              nodup := by
                rw [List.map_append, List.nodup_append]
                refine ⟨hT.nodup, by simp, fun a ha b hb e => ?_⟩
                obtain ⟨m, hm, rfl⟩ := List.mem_map.1 ha
                exact hfr m hm (by rw [e]; simpa using hb)
              okId := fun m hm => by
                rcases List.mem_append.1 hm with q | q
                · exact hT.okId m q
                · rw [List.mem_singleton.1 q]; exact ⟨hn, hs⟩
              okChr := fun m hm => by
                rcases List.mem_append.1 hm with q | q
                · exact hT.okChr m q
                · rw [List.mem_singleton.1 q]; exact ⟨by omega, hfresh.2.2⟩ }
    · rcases hk with q | q
      · exact .inr (.inr (.inl q))
      · exact .inr (.inr (.inr ⟨_, hs, q⟩))
    · rcases hk with q | q | q | ⟨s, hs', q⟩
      · exact .inl (.inl q)
      · exact .inl (.inr (.inl q))
      · exact .inl (.inr (.inr (.inl q)))
      · unfold putV at q
        split at q
        · rcases hv k q with r | r
          · exact .inl (.inr (.inr (.inr ⟨_, hs, r⟩)))
          · exact .inr (by omega)
        · exact .inl (.inr (.inr (.inr ⟨_, hs', q⟩)))⟩
  have HST : Veil (refI N n = 0 → ∀ W W1, Below w.heap.size w W → W.grownBy W1 (some bc) → Calls Try.prog 22 #[.pointer (some ⟨R, 0, none⟩), .agg (encF n.id).toArray, .agg (sideC n.side).toArray] W1 fun e w' => ∃ v' r, e = .returned r ∧ SidesIn w' base R bc bn (N ++ [n]) (putV V n.side v') ∧ Turn (fun k => k = bn ∨ (V n.side).ownBlock = some k) W1 w' ∧ ∀ k, v'.ownBlock = some k → (V n.side).ownBlock = some k ∨ W1.heap.size ≤ k) := ⟨fun _ W W1 hb hg => by
    have hz1 := hg.size
    have hzw := hb.size
    have hcl := hT.chars.lt
    have hRc : R ≠ bc := fun e => hT.chars.g.cellsNe hT.box e.symm
    refine standT_any base R bc bn N V n hs hT.nodup (by omega) W1 (by omega) (by omega) ((hT.sidesIn.far hb).congr (hg.block R (by have := hT.box.lt; omega) (fun e => hRc (Option.some.inj e))) (hg.block bn (by have := hT.nodes.lt; omega) (fun e => hT.ne (Option.some.inj e).symm)) fun s k ok hk => hg.block k (by have := ((hT.sides.own s ok).blockLt k hk).1; omega) (fun e => (hT.sides.far s ok).2.1 (by rw [hk, e])))⟩
  have HRF : Veil (refI N n = if decide (n.id = (0, 0)) = true ∨ n.chr < 1 ∨ 127 < n.chr ∨ (decide (n.side.1 = (0, 0)) = true ∧ n.side.2 = false) then 3 else if (chrN N n.id).isSome = true then 5 else if decide (n.side.1 = (0, 0)) = false ∧ (chrN N n.side.1).isSome = false then 7 else if 512 ≤ N.length then 10 else 0) := ⟨by unfold refI; simp⟩
  have HMX : Veil (∀ W, Below w.heap.size w W → MapX Try.prog 32 encDF okDF W bc N.length (chrM N) ∧ W.cell? ⟨R, 0, none⟩ = some (.map (some bc)) ∧ TreeAt W base R bc bn N V) := ⟨fun W hb => ⟨(hT.far hb).chars, (hT.far hb).box.cell 0, hT.far hb⟩⟩
  have HSP : Veil (encF n.side.1 = [.int .u8 n.side.1.1, .int .u32 n.side.1.2] ∧ sideC n.side = [.int .u8 n.side.1.1, .int .u32 n.side.1.2, .bool n.side.2]) := ⟨rfl, rfl⟩
  have HLE := Veil.mk hlen
  have HBC := Veil.mk hT.chars.lt
  have HNI := Veil.mk hn
  have uD := Try.underlying32
  have iI : (Try.prog.info? 32).map (·.size) = some (encF n.id).length := sizeDot
  have iP : (Try.prog.info? 32).map (·.size) = some (encF n.side.1).length := sizeDot
  have HEI : Veil (encDF n.id = .agg (encF n.id).toArray) := ⟨rfl⟩
  have HFR : Veil (refI N n = 0 → (chrM N n.id).isSome = false) := ⟨fun hr => by
    rw [chrM_some]
    unfold refI at hr
    split at hr
    · cases hr
    · split at hr
      · cases hr
      · next h2 => simpa using h2⟩
  obtain ⟨RN, hRN⟩ : ∃ q, refI N n = q := ⟨_, rfl⟩
  rw [hRN] at HER HOK HST HRF HFR ⊢
  obtain ⟨DI, hDI⟩ : ∃ q, encF n.id = q := ⟨_, rfl⟩
  rw [hDI] at hd0 hk0 hB HRI HHI HST iI HEI ⊢
  obtain ⟨DP, hDP⟩ : ∃ q, encF n.side.1 = q := ⟨_, rfl⟩
  rw [hDP] at hd0 hk0 hB HRP HHP iP HSP ⊢
  generalize decide (n.id = (0, 0)) = RI at HRI HRF
  generalize decide (n.side.1 = (0, 0)) = RP at HRP HRF
  generalize (chrN N n.id).isSome = HI at HHI HRF
  generalize (chrN N n.side.1).isSome = HP at HHP HRF
  obtain ⟨SC, hSC⟩ : ∃ q, sideC n.side = q := ⟨_, rfl⟩
  rw [hSC] at HST HSP
  obtain ⟨rg, hrg⟩ : ∃ q, n.side.2 = q := ⟨_, rfl⟩
  rw [hrg] at HRF HSP ⊢
  generalize n.side.1.1 = p1 at HSP
  generalize n.side.1.2 = p2 at HSP
  obtain ⟨ch, hch⟩ : ∃ q, n.chr = q := ⟨_, rfl⟩
  rw [hch] at HRF HOK ⊢
  obtain ⟨ln, hln⟩ : ∃ q, N.length = q := ⟨_, rfl⟩
  have HLL := Veil.mk hln
  rw [hln] at HRF HLN
  clear hT hn hs hlen hRN hDI hDP hSC hrg hch hln
  go_enter Try.func10, Try.ntmps10
  go_upto_region 3 with fail
  refine forget (p := fun y => Code.wp _ _ _ _ y) (fun W => Below w.heap.size w W ∧ CellsAt W w.heap.size 32 DI ∧ CellsAt W (w.heap.size + 1) 32 DP) ⟨hB, hd0, hk0⟩ ?_
  clear hB hd0 hk0
  rintro W0 ⟨hB0, hd0, hk0⟩
  have HF : Veil (∀ W, Below W0.heap.size W0 W → Below w.heap.size w W ∧ W.rangeAt w.heap.size 0 DI ∧ W.rangeAt (w.heap.size + 1) 0 DP) := ⟨fun W hb => ⟨hB0.trans (hb.mono hB0.size), (hd0.farM hb).wholeM, (hk0.farM hb).wholeM⟩⟩
  obtain ⟨hB0', r01, r02⟩ := HF.out W0 (Below.refl _ _)
  clear hd0 hk0 hB0'
  obtain ⟨b2, hb2⟩ : ∃ q, w.heap.size + 1 = q := ⟨_, rfl⟩
  rw [hb2] at HF r02 ⊢
  obtain ⟨b1, hb1⟩ : ∃ q, w.heap.size = q := ⟨_, rfl⟩
  rw [hb1] at r01
  have HF1 : Veil (∀ W, Below W0.heap.size W0 W → Below w.heap.size w W ∧ W.rangeAt b1 0 DI ∧ W.rangeAt b2 0 DP) := ⟨fun W hb => by rw [← hb1]; exact HF.out W hb⟩
  try rw [hb1]
  have HB1 : Veil (b1 ≠ bc) := ⟨fun e => by have := HBC.out; omega⟩
  have HB2 : Veil (b2 ≠ bc) := ⟨fun e => by have := HBC.out; omega⟩
  clear HF hb1 hb2
  -- the node is the root
  cases RI
  case true =>
    have h3 : RN = 3 := HRF.out
    go_wp2_with (first
      | (refine wpList_ldv rfl 32 (.tmp 6) rfl b1 0 rfl DI (by assumption) uD rfl iI ?_)
      | (go_at_call 20; refine (HRI.out _).mono ?_; rintro z W1 ⟨rfl, h1⟩; clear HRI))
    go_ret
    exact ⟨by rw [h3]; rfl, HER.out _ (HF1.out _ h1).1 (by rw [h3]; decide)⟩
  by_cases hc1 : ch < 1
  · have h3 : RN = 3 := by rw [HRF.out, if_pos (.inr (.inl hc1))]
    have hd1 : decide (ch < 1) = true := by simpa using hc1
    go_wp2_with (first
      | (refine wpList_ldv rfl 32 (.tmp 6) rfl b1 0 rfl DI (by assumption) uD rfl iI ?_)
      | (go_at_call 20; refine (HRI.out _).mono ?_; rintro z W1 ⟨rfl, h1⟩; clear HRI))
    go_ret
    exact ⟨by rw [h3]; rfl, HER.out _ (HF1.out _ h1).1 (by rw [h3]; decide)⟩
  by_cases hc2 : 127 < ch
  · have h3 : RN = 3 := by rw [HRF.out, if_pos (.inr (.inr (.inl hc2)))]
    have hd1 : decide (ch < 1) = false := by simpa using hc1
    have hd2 : decide (127 < ch) = true := by simpa using hc2
    go_wp2_with (first
      | (refine wpList_ldv rfl 32 (.tmp 6) rfl b1 0 rfl DI (by assumption) uD rfl iI ?_)
      | (go_at_call 20; refine (HRI.out _).mono ?_; rintro z W1 ⟨rfl, h1⟩; clear HRI))
    go_ret
    exact ⟨by rw [h3]; rfl, HER.out _ (HF1.out _ h1).1 (by rw [h3]; decide)⟩
  have hd1 : decide (ch < 1) = false := by simpa using hc1
  have hd2 : decide (127 < ch) = false := by simpa using hc2
  replace HRF : Veil (RN = if RP = true ∧ rg = false then 3 else if HI = true then 5 else if RP = false ∧ HP = false then 7 else if 512 ≤ ln then 10 else 0) := ⟨by rw [HRF.out]; simp [hc1, hc2]⟩
  clear hc1 hc2
  have hcase : (RP = true ∧ rg = false) ∨ (RP = true ∧ rg = true) ∨ (RP = false ∧ rg = true) ∨ (RP = false ∧ rg = false) := by cases RP <;> cases rg <;> simp
  rcases hcase with ⟨rfl, rfl⟩ | hcase
  · have h3 : RN = 3 := HRF.out
    go_wp2_with (first
      | (refine wpList_ldgv (by kernel_rfl) 32 (.tmp 6) rfl b1 0 rfl DI (by assumption) uD rfl iI ?_)
      | (refine wpList_ldgv (by kernel_rfl) 32 (.tmp 7) rfl b2 0 rfl DP (by assumption) uD rfl iP ?_)
      | (go_at_call 20; refine (HRI.out _).mono ?_; rintro z W1 ⟨rfl, h1⟩; obtain ⟨-, r11, r12⟩ := HF1.out W1 h1; clear HRI)
      | (go_at_call 20; refine (HRP.out _).mono ?_; rintro z W2 ⟨rfl, h2⟩; clear HRP))
    go_ret
    exact ⟨by rw [h3]; rfl, HER.out _ (HF1.out _ (h1.trans (h2.mono h1.size))).1 (by rw [h3]; decide)⟩
  rcases hcase with ⟨rfl, rfl⟩ | ⟨rfl, rfl⟩ | ⟨rfl, rfl⟩
  · go_upto_region 5 with (first
      | (refine wpList_ldgv (by kernel_rfl) 32 (.tmp 6) rfl b1 0 rfl DI (by assumption) uD rfl iI ?_)
      | (refine wpList_ldgv (by kernel_rfl) 32 (.tmp 7) rfl b2 0 rfl DP (by assumption) uD rfl iP ?_)
      | (go_at_call 20; refine (HRI.out _).mono ?_; rintro z W1 ⟨rfl, h1⟩; obtain ⟨-, r11, r12⟩ := HF1.out W1 h1; clear HRI r01 r02)
      | (go_at_call 20; refine (HRP.out _).mono ?_; rintro z W2 ⟨rfl, h2⟩; clear r11 r12))
    replace h2 := h1.trans (h2.mono h1.size)
    clear h1
    obtain ⟨hq2, r21, r22⟩ := HF1.out W2 h2
    have hhi := HHI.out W2 (HMX.out W2 hq2).2.2
    cases HI
    case true =>
      have he5 : RN = 5 := by rw [HRF.out]; rfl
      go_wp2_with (first
        | (refine wpList_ldv rfl 32 (.tmp 6) rfl b1 0 rfl DI (by assumption) uD rfl iI ?_)
        | (go_at_call 21; refine hhi.mono ?_; rintro z W3 ⟨rfl, h3⟩))
      go_ret
      exact ⟨by rw [he5]; rfl, HER.out _ (HF1.out _ (h2.trans (h3.mono h2.size))).1 (by rw [he5]; decide)⟩
    go_upto_region 7 with (first
      | (refine wpList_ldv rfl 32 (.tmp 6) rfl b1 0 rfl DI (by assumption) uD rfl iI ?_)
      | (go_at_call 21; refine hhi.mono ?_; rintro z W3 ⟨rfl, h3⟩; clear r21 r22))
    replace h3 := h2.trans (h3.mono h2.size)
    clear h2 hhi hq2
    obtain ⟨hq3, r31, r32⟩ := HF1.out W3 h3
    replace HRF : Veil (RN = if 512 ≤ ln then 10 else 0) := ⟨by rw [HRF.out]; rfl⟩
    go_upto_region 9 with (first
      | (refine wpList_ldv rfl 32 (.tmp 7) rfl b2 0 rfl DP (by assumption) uD rfl iP ?_)
      | (go_at_call 20; refine (HRP.out _).mono ?_; rintro z W5 ⟨rfl, h5⟩; clear r31 r32))
    replace h5 := h3.trans (h5.mono h3.size)
    clear h3 hq3
    obtain ⟨hq5, r51, r52⟩ := HF1.out W5 h5
    have hln := HLN.out W5 (HMX.out W5 hq5).2.2
    by_cases hfull : 512 ≤ ln
    · have h10 : RN = 10 := by rw [HRF.out, if_pos hfull]
      have hfi : (512 : Int) ≤ (ln : Int) := by omega
      go_wp2_with (go_at_call 6; refine hln.mono ?_; rintro z W6 ⟨rfl, rfl⟩)
      go_ret
      exact ⟨by rw [h10]; rfl, HER.out _ hq5 (by rw [h10]; decide)⟩
    have h0 : RN = 0 := by rw [HRF.out, if_neg hfull]
    have hfi : ¬ (512 : Int) ≤ (ln : Int) := by omega
    go_upto_region 11 with (go_at_call 6; refine hln.mono ?_; rintro z W6 ⟨rfl, rfl⟩)
    clear hln hfi hfull
    obtain ⟨hmx, hcR, -⟩ := HMX.out W6.drew hq5.drew
    obtain ⟨V6, hrun, hM6, hg6⟩ := hmx.store keyEncDF Try.underlying48 (by have := HLE.out; simp [maxLen]; omega) n.id HNI.out (.int .u8 ch)
    rw [HFR.out h0] at hM6
    rw [HEI.out] at hrun
    have hst := HST.out h0 W6.drew V6 hq5.drew hg6
    have HOK2 := Veil.mk (HOK.out h0 W6.drew V6)
    have r61 : V6.rangeAt b1 0 DI := fun q u hu => by
      have hq : W6.drew.cell? ⟨b1, 0 + q, none⟩ = some u := r51 q u hu
      rw [World.cell?_of_block (a := ⟨b1, 0 + q, none⟩) (hg6.block b1 (block_lt_of_cell hq) (fun e => HB1.out (Option.some.inj e)))]
      exact hq
    have r62 : V6.rangeAt b2 0 DP := fun q u hu => by
      have hq : W6.drew.cell? ⟨b2, 0 + q, none⟩ = some u := r52 q u hu
      rw [World.cell?_of_block (a := ⟨b2, 0 + q, none⟩) (hg6.block b2 (block_lt_of_cell hq) (fun e => HB2.out (Option.some.inj e)))]
      exact hq
    refine wp_region_gate (fun w' => w'.cell? ⟨R, 0, none⟩ = some (.map (some bc)) ∧ w'.rangeAt b1 0 DI) 6 (by kernel_rfl) ?_
    have hS : (fun w' : World => w'.cell? ⟨R, 0, none⟩ = some (.map (some bc)) ∧ w'.rangeAt b1 0 DI) W6.drew := ⟨hcR, r51⟩
    clear hmx hcR
    refine wpAnyG_any (i := 0) (v := ?_) rfl (by kernel_rfl) (by kernel_rfl) (by kernel_rfl) (fun _ _ _ h => h) (by kernel_rfl) (fun _ => hS) (by kernel_rfl) ?_ ?_
    rotate_left
    · intro _; go_simp; try with_reducible rfl
    simp only [Act.put, List.getElem_toArray, List.getElem_cons_succ, List.getElem_cons_zero, List.setIfInBounds_toArray, List.set_cons_zero, List.set_cons_succ]
    refine wpAnyG_any (i := 1) (v := ?_) rfl (by kernel_rfl) (by kernel_rfl) (by kernel_rfl) (fun _ _ _ h => h) (by kernel_rfl) (fun _ => hS) (by kernel_rfl) ?_ ?_
    rotate_left
    · intro _; go_simp; try with_reducible rfl
    simp only [Act.put, List.getElem_toArray, List.getElem_cons_succ, List.getElem_cons_zero, List.setIfInBounds_toArray, List.set_cons_zero, List.set_cons_succ]
    refine wpAnyG_any (i := 2) (v := ?_) rfl (by kernel_rfl) (by kernel_rfl) (by kernel_rfl) (fun _ _ _ h => h) (by kernel_rfl) (fun _ => hS) (by kernel_rfl) ?_ ?_
    rotate_left
    · intro _; go_simp; try with_reducible rfl
    simp only [Act.put, List.getElem_toArray, List.getElem_cons_succ, List.getElem_cons_zero, List.setIfInBounds_toArray, List.set_cons_zero, List.set_cons_succ]
    refine wpAnyG_read (i := 3) (v := ?_) rfl (by kernel_rfl) (by kernel_rfl) (by kernel_rfl) (fun _ _ _ h => h) (by kernel_rfl) (by kernel_rfl) (by kernel_rfl) hS (by kernel_rfl) ?_ ?_
    rotate_left
    · intro wx hSw; go_split_ands; go_simp; try with_reducible rfl
    simp only [Act.put, List.getElem_toArray, List.getElem_cons_succ, List.getElem_cons_zero, List.setIfInBounds_toArray, List.set_cons_zero, List.set_cons_succ]
    refine wpAnyG_load (i := 4) (dst := some 50) (ty := 32) (x := .tmp 6) (b := b1) (o := (0)) (cs := DI) (by kernel_rfl) (by kernel_rfl) (by kernel_rfl) (by kernel_rfl) (by kernel_rfl) (fun _ _ _ h => h) (by kernel_rfl) (by kernel_rfl) (by kernel_rfl) hS (by kernel_rfl) (fun _ h => h.2) uD rfl iI ?_
    simp only [Act.put, List.getElem_toArray, List.getElem_cons_succ, List.getElem_cons_zero, List.setIfInBounds_toArray, List.set_cons_zero, List.set_cons_succ]
    refine wpAnyG_any (i := 5) (v := ?_) rfl (by kernel_rfl) (by kernel_rfl) (by kernel_rfl) (fun _ _ _ h => h) (by kernel_rfl) (fun _ => hS) (by kernel_rfl) ?_ ?_
    rotate_left
    · intro _; go_simp; try with_reducible rfl
    simp only [Act.put, List.getElem_toArray, List.getElem_cons_succ, List.getElem_cons_zero, List.setIfInBounds_toArray, List.set_cons_zero, List.set_cons_succ]
    refine wpAnyG_one (i := 6) rfl (by kernel_rfl) (by kernel_rfl) (fun K hK => ?_)
    refine wpx_upd _ _ _ _ rfl _ _ _ V6 rfl rfl rfl hrun ?_
    refine hK.out _ _ (fun h => absurd (show true = false from h) (by decide)) ?_
    clear hK K
    try simp only [Act.put, List.getElem_toArray, List.getElem_cons_succ, List.getElem_cons_zero, List.setIfInBounds_toArray, List.set_cons_zero, List.set_cons_succ]
    refine wpAnyG_done (by kernel_rfl) ?_ _
    clear hS hrun r51 r52
    have HMG := Veil.mk (And.intro hM6 hg6)
    rw [HSP.out.1] at r62 iP
    rw [HSP.out.2] at hst
    clear hM6 hg6
    go_wp2_with (first
      | (refine wpList_ldv rfl 32 (.tmp 6) rfl b1 0 rfl DI r61 uD rfl iI ?_)
      | (refine wpList_ldv rfl 32 (.tmp 7) rfl b2 0 rfl [.int .u8 p1, .int .u32 p2] r62 uD rfl iP ?_)
      | (go_at_call 22; refine hst.mono ?_; rintro z W7 ⟨v7, y7, rfl, hq7⟩; have HQ7 := Veil.mk hq7; clear hq7 hst))
    go_ret
    exact ⟨by rw [h0]; rfl, HOK2.out W7 v7 hq5.drew HMG.out.1 HMG.out.2 HQ7.out.1 HQ7.out.2.1 HQ7.out.2.2⟩
  · go_upto_region 5 with (first
      | (refine wpList_ldgv (by kernel_rfl) 32 (.tmp 6) rfl b1 0 rfl DI (by assumption) uD rfl iI ?_)
      | (refine wpList_ldgv (by kernel_rfl) 32 (.tmp 7) rfl b2 0 rfl DP (by assumption) uD rfl iP ?_)
      | (go_at_call 20; refine (HRI.out _).mono ?_; rintro z W1 ⟨rfl, h1⟩; obtain ⟨-, r11, r12⟩ := HF1.out W1 h1; clear HRI r01 r02)
      | (go_at_call 20; refine (HRP.out _).mono ?_; rintro z W2 ⟨rfl, h2⟩; clear r11 r12))
    replace h2 := h1.trans (h2.mono h1.size)
    clear h1
    obtain ⟨hq2, r21, r22⟩ := HF1.out W2 h2
    have hhi := HHI.out W2 (HMX.out W2 hq2).2.2
    cases HI
    case true =>
      have he5 : RN = 5 := by rw [HRF.out]; rfl
      go_wp2_with (first
        | (refine wpList_ldv rfl 32 (.tmp 6) rfl b1 0 rfl DI (by assumption) uD rfl iI ?_)
        | (go_at_call 21; refine hhi.mono ?_; rintro z W3 ⟨rfl, h3⟩))
      go_ret
      exact ⟨by rw [he5]; rfl, HER.out _ (HF1.out _ (h2.trans (h3.mono h2.size))).1 (by rw [he5]; decide)⟩
    go_upto_region 7 with (first
      | (refine wpList_ldv rfl 32 (.tmp 6) rfl b1 0 rfl DI (by assumption) uD rfl iI ?_)
      | (go_at_call 21; refine hhi.mono ?_; rintro z W3 ⟨rfl, h3⟩; clear r21 r22))
    replace h3 := h2.trans (h3.mono h2.size)
    clear h2 hhi hq2
    obtain ⟨hq3, r31, r32⟩ := HF1.out W3 h3
    cases HP
    case false =>
      have he7 : RN = 7 := by rw [HRF.out]; rfl
      go_wp2_with (first
        | (refine wpList_ldgv (by kernel_rfl) 32 (.tmp 7) rfl b2 0 rfl DP (by assumption) uD rfl iP ?_)
        | (go_at_call 20; refine (HRP.out _).mono ?_; rintro z W4 ⟨rfl, h4⟩; clear HRP r31 r32; replace h4 := h3.trans (h4.mono h3.size); obtain ⟨hq4, r41, r42⟩ := HF1.out W4 h4; have hhp := HHP.out W4 (HMX.out W4 hq4).2.2)
        | (go_at_call 21; refine hhp.mono ?_; rintro z W5 ⟨rfl, h5⟩))
      go_ret
      exact ⟨by rw [he7]; rfl, HER.out _ (HF1.out _ (h4.trans (h5.mono h4.size))).1 (by rw [he7]; decide)⟩
    replace HRF : Veil (RN = if 512 ≤ ln then 10 else 0) := ⟨by rw [HRF.out]; rfl⟩
    go_upto_region 9 with (first
      | (refine wpList_ldgv (by kernel_rfl) 32 (.tmp 7) rfl b2 0 rfl DP (by assumption) uD rfl iP ?_)
      | (go_at_call 20; refine (HRP.out _).mono ?_; rintro z W4 ⟨rfl, h4⟩; clear HRP r31 r32; replace h4 := h3.trans (h4.mono h3.size); obtain ⟨hq4, r41, r42⟩ := HF1.out W4 h4; have hhp := HHP.out W4 (HMX.out W4 hq4).2.2)
      | (go_at_call 21; refine hhp.mono ?_; rintro z W5 ⟨rfl, h5⟩; clear r41 r42 HHP))
    replace h5 := h4.trans (h5.mono h4.size)
    clear h4 hq4 h3 hq3 hhp
    obtain ⟨hq5, r51, r52⟩ := HF1.out W5 h5
    have hln := HLN.out W5 (HMX.out W5 hq5).2.2
    by_cases hfull : 512 ≤ ln
    · have h10 : RN = 10 := by rw [HRF.out, if_pos hfull]
      have hfi : (512 : Int) ≤ (ln : Int) := by omega
      go_wp2_with (go_at_call 6; refine hln.mono ?_; rintro z W6 ⟨rfl, rfl⟩)
      go_ret
      exact ⟨by rw [h10]; rfl, HER.out _ hq5 (by rw [h10]; decide)⟩
    have h0 : RN = 0 := by rw [HRF.out, if_neg hfull]
    have hfi : ¬ (512 : Int) ≤ (ln : Int) := by omega
    go_upto_region 11 with (go_at_call 6; refine hln.mono ?_; rintro z W6 ⟨rfl, rfl⟩)
    clear hln hfi hfull
    obtain ⟨hmx, hcR, -⟩ := HMX.out W6.drew hq5.drew
    obtain ⟨V6, hrun, hM6, hg6⟩ := hmx.store keyEncDF Try.underlying48 (by have := HLE.out; simp [maxLen]; omega) n.id HNI.out (.int .u8 ch)
    rw [HFR.out h0] at hM6
    rw [HEI.out] at hrun
    have hst := HST.out h0 W6.drew V6 hq5.drew hg6
    have HOK2 := Veil.mk (HOK.out h0 W6.drew V6)
    have r61 : V6.rangeAt b1 0 DI := fun q u hu => by
      have hq : W6.drew.cell? ⟨b1, 0 + q, none⟩ = some u := r51 q u hu
      rw [World.cell?_of_block (a := ⟨b1, 0 + q, none⟩) (hg6.block b1 (block_lt_of_cell hq) (fun e => HB1.out (Option.some.inj e)))]
      exact hq
    have r62 : V6.rangeAt b2 0 DP := fun q u hu => by
      have hq : W6.drew.cell? ⟨b2, 0 + q, none⟩ = some u := r52 q u hu
      rw [World.cell?_of_block (a := ⟨b2, 0 + q, none⟩) (hg6.block b2 (block_lt_of_cell hq) (fun e => HB2.out (Option.some.inj e)))]
      exact hq
    refine wp_region_gate (fun w' => w'.cell? ⟨R, 0, none⟩ = some (.map (some bc)) ∧ w'.rangeAt b1 0 DI) 6 (by kernel_rfl) ?_
    have hS : (fun w' : World => w'.cell? ⟨R, 0, none⟩ = some (.map (some bc)) ∧ w'.rangeAt b1 0 DI) W6.drew := ⟨hcR, r51⟩
    clear hmx hcR
    refine wpAnyG_any (i := 0) (v := ?_) rfl (by kernel_rfl) (by kernel_rfl) (by kernel_rfl) (fun _ _ _ h => h) (by kernel_rfl) (fun _ => hS) (by kernel_rfl) ?_ ?_
    rotate_left
    · intro _; go_simp; try with_reducible rfl
    simp only [Act.put, List.getElem_toArray, List.getElem_cons_succ, List.getElem_cons_zero, List.setIfInBounds_toArray, List.set_cons_zero, List.set_cons_succ]
    refine wpAnyG_any (i := 1) (v := ?_) rfl (by kernel_rfl) (by kernel_rfl) (by kernel_rfl) (fun _ _ _ h => h) (by kernel_rfl) (fun _ => hS) (by kernel_rfl) ?_ ?_
    rotate_left
    · intro _; go_simp; try with_reducible rfl
    simp only [Act.put, List.getElem_toArray, List.getElem_cons_succ, List.getElem_cons_zero, List.setIfInBounds_toArray, List.set_cons_zero, List.set_cons_succ]
    refine wpAnyG_any (i := 2) (v := ?_) rfl (by kernel_rfl) (by kernel_rfl) (by kernel_rfl) (fun _ _ _ h => h) (by kernel_rfl) (fun _ => hS) (by kernel_rfl) ?_ ?_
    rotate_left
    · intro _; go_simp; try with_reducible rfl
    simp only [Act.put, List.getElem_toArray, List.getElem_cons_succ, List.getElem_cons_zero, List.setIfInBounds_toArray, List.set_cons_zero, List.set_cons_succ]
    refine wpAnyG_read (i := 3) (v := ?_) rfl (by kernel_rfl) (by kernel_rfl) (by kernel_rfl) (fun _ _ _ h => h) (by kernel_rfl) (by kernel_rfl) (by kernel_rfl) hS (by kernel_rfl) ?_ ?_
    rotate_left
    · intro wx hSw; go_split_ands; go_simp; try with_reducible rfl
    simp only [Act.put, List.getElem_toArray, List.getElem_cons_succ, List.getElem_cons_zero, List.setIfInBounds_toArray, List.set_cons_zero, List.set_cons_succ]
    refine wpAnyG_load (i := 4) (dst := some 50) (ty := 32) (x := .tmp 6) (b := b1) (o := (0)) (cs := DI) (by kernel_rfl) (by kernel_rfl) (by kernel_rfl) (by kernel_rfl) (by kernel_rfl) (fun _ _ _ h => h) (by kernel_rfl) (by kernel_rfl) (by kernel_rfl) hS (by kernel_rfl) (fun _ h => h.2) uD rfl iI ?_
    simp only [Act.put, List.getElem_toArray, List.getElem_cons_succ, List.getElem_cons_zero, List.setIfInBounds_toArray, List.set_cons_zero, List.set_cons_succ]
    refine wpAnyG_any (i := 5) (v := ?_) rfl (by kernel_rfl) (by kernel_rfl) (by kernel_rfl) (fun _ _ _ h => h) (by kernel_rfl) (fun _ => hS) (by kernel_rfl) ?_ ?_
    rotate_left
    · intro _; go_simp; try with_reducible rfl
    simp only [Act.put, List.getElem_toArray, List.getElem_cons_succ, List.getElem_cons_zero, List.setIfInBounds_toArray, List.set_cons_zero, List.set_cons_succ]
    refine wpAnyG_one (i := 6) rfl (by kernel_rfl) (by kernel_rfl) (fun K hK => ?_)
    refine wpx_upd _ _ _ _ rfl _ _ _ V6 rfl rfl rfl hrun ?_
    refine hK.out _ _ (fun h => absurd (show true = false from h) (by decide)) ?_
    clear hK K
    try simp only [Act.put, List.getElem_toArray, List.getElem_cons_succ, List.getElem_cons_zero, List.setIfInBounds_toArray, List.set_cons_zero, List.set_cons_succ]
    refine wpAnyG_done (by kernel_rfl) ?_ _
    clear hS hrun r51 r52
    have HMG := Veil.mk (And.intro hM6 hg6)
    rw [HSP.out.1] at r62 iP
    rw [HSP.out.2] at hst
    clear hM6 hg6
    go_wp2_with (first
      | (refine wpList_ldv rfl 32 (.tmp 6) rfl b1 0 rfl DI r61 uD rfl iI ?_)
      | (refine wpList_ldv rfl 32 (.tmp 7) rfl b2 0 rfl [.int .u8 p1, .int .u32 p2] r62 uD rfl iP ?_)
      | (go_at_call 22; refine hst.mono ?_; rintro z W7 ⟨v7, y7, rfl, hq7⟩; have HQ7 := Veil.mk hq7; clear hq7 hst))
    go_ret
    exact ⟨by rw [h0]; rfl, HOK2.out W7 v7 hq5.drew HMG.out.1 HMG.out.2 HQ7.out.1 HQ7.out.2.1 HQ7.out.2.2⟩
  · go_upto_region 5 with (first
      | (refine wpList_ldgv (by kernel_rfl) 32 (.tmp 6) rfl b1 0 rfl DI (by assumption) uD rfl iI ?_)
      | (refine wpList_ldgv (by kernel_rfl) 32 (.tmp 7) rfl b2 0 rfl DP (by assumption) uD rfl iP ?_)
      | (go_at_call 20; refine (HRI.out _).mono ?_; rintro z W1 ⟨rfl, h1⟩; obtain ⟨-, r11, r12⟩ := HF1.out W1 h1; clear HRI r01 r02)
      | (go_at_call 20; refine (HRP.out _).mono ?_; rintro z W2 ⟨rfl, h2⟩; clear r11 r12))
    replace h2 := h1.trans (h2.mono h1.size)
    clear h1
    obtain ⟨hq2, r21, r22⟩ := HF1.out W2 h2
    have hhi := HHI.out W2 (HMX.out W2 hq2).2.2
    cases HI
    case true =>
      have he5 : RN = 5 := by rw [HRF.out]; rfl
      go_wp2_with (first
        | (refine wpList_ldv rfl 32 (.tmp 6) rfl b1 0 rfl DI (by assumption) uD rfl iI ?_)
        | (go_at_call 21; refine hhi.mono ?_; rintro z W3 ⟨rfl, h3⟩))
      go_ret
      exact ⟨by rw [he5]; rfl, HER.out _ (HF1.out _ (h2.trans (h3.mono h2.size))).1 (by rw [he5]; decide)⟩
    go_upto_region 7 with (first
      | (refine wpList_ldv rfl 32 (.tmp 6) rfl b1 0 rfl DI (by assumption) uD rfl iI ?_)
      | (go_at_call 21; refine hhi.mono ?_; rintro z W3 ⟨rfl, h3⟩; clear r21 r22))
    replace h3 := h2.trans (h3.mono h2.size)
    clear h2 hhi hq2
    obtain ⟨hq3, r31, r32⟩ := HF1.out W3 h3
    cases HP
    case false =>
      have he7 : RN = 7 := by rw [HRF.out]; rfl
      go_wp2_with (first
        | (refine wpList_ldgv (by kernel_rfl) 32 (.tmp 7) rfl b2 0 rfl DP (by assumption) uD rfl iP ?_)
        | (go_at_call 20; refine (HRP.out _).mono ?_; rintro z W4 ⟨rfl, h4⟩; clear HRP r31 r32; replace h4 := h3.trans (h4.mono h3.size); obtain ⟨hq4, r41, r42⟩ := HF1.out W4 h4; have hhp := HHP.out W4 (HMX.out W4 hq4).2.2)
        | (go_at_call 21; refine hhp.mono ?_; rintro z W5 ⟨rfl, h5⟩))
      go_ret
      exact ⟨by rw [he7]; rfl, HER.out _ (HF1.out _ (h4.trans (h5.mono h4.size))).1 (by rw [he7]; decide)⟩
    replace HRF : Veil (RN = if 512 ≤ ln then 10 else 0) := ⟨by rw [HRF.out]; rfl⟩
    go_upto_region 9 with (first
      | (refine wpList_ldgv (by kernel_rfl) 32 (.tmp 7) rfl b2 0 rfl DP (by assumption) uD rfl iP ?_)
      | (go_at_call 20; refine (HRP.out _).mono ?_; rintro z W4 ⟨rfl, h4⟩; clear HRP r31 r32; replace h4 := h3.trans (h4.mono h3.size); obtain ⟨hq4, r41, r42⟩ := HF1.out W4 h4; have hhp := HHP.out W4 (HMX.out W4 hq4).2.2)
      | (go_at_call 21; refine hhp.mono ?_; rintro z W5 ⟨rfl, h5⟩; clear r41 r42 HHP))
    replace h5 := h4.trans (h5.mono h4.size)
    clear h4 hq4 h3 hq3 hhp
    obtain ⟨hq5, r51, r52⟩ := HF1.out W5 h5
    have hln := HLN.out W5 (HMX.out W5 hq5).2.2
    by_cases hfull : 512 ≤ ln
    · have h10 : RN = 10 := by rw [HRF.out, if_pos hfull]
      have hfi : (512 : Int) ≤ (ln : Int) := by omega
      go_wp2_with (go_at_call 6; refine hln.mono ?_; rintro z W6 ⟨rfl, rfl⟩)
      go_ret
      exact ⟨by rw [h10]; rfl, HER.out _ hq5 (by rw [h10]; decide)⟩
    have h0 : RN = 0 := by rw [HRF.out, if_neg hfull]
    have hfi : ¬ (512 : Int) ≤ (ln : Int) := by omega
    go_upto_region 11 with (go_at_call 6; refine hln.mono ?_; rintro z W6 ⟨rfl, rfl⟩)
    clear hln hfi hfull
    obtain ⟨hmx, hcR, -⟩ := HMX.out W6.drew hq5.drew
    obtain ⟨V6, hrun, hM6, hg6⟩ := hmx.store keyEncDF Try.underlying48 (by have := HLE.out; simp [maxLen]; omega) n.id HNI.out (.int .u8 ch)
    rw [HFR.out h0] at hM6
    rw [HEI.out] at hrun
    have hst := HST.out h0 W6.drew V6 hq5.drew hg6
    have HOK2 := Veil.mk (HOK.out h0 W6.drew V6)
    have r61 : V6.rangeAt b1 0 DI := fun q u hu => by
      have hq : W6.drew.cell? ⟨b1, 0 + q, none⟩ = some u := r51 q u hu
      rw [World.cell?_of_block (a := ⟨b1, 0 + q, none⟩) (hg6.block b1 (block_lt_of_cell hq) (fun e => HB1.out (Option.some.inj e)))]
      exact hq
    have r62 : V6.rangeAt b2 0 DP := fun q u hu => by
      have hq : W6.drew.cell? ⟨b2, 0 + q, none⟩ = some u := r52 q u hu
      rw [World.cell?_of_block (a := ⟨b2, 0 + q, none⟩) (hg6.block b2 (block_lt_of_cell hq) (fun e => HB2.out (Option.some.inj e)))]
      exact hq
    refine wp_region_gate (fun w' => w'.cell? ⟨R, 0, none⟩ = some (.map (some bc)) ∧ w'.rangeAt b1 0 DI) 6 (by kernel_rfl) ?_
    have hS : (fun w' : World => w'.cell? ⟨R, 0, none⟩ = some (.map (some bc)) ∧ w'.rangeAt b1 0 DI) W6.drew := ⟨hcR, r51⟩
    clear hmx hcR
    refine wpAnyG_any (i := 0) (v := ?_) rfl (by kernel_rfl) (by kernel_rfl) (by kernel_rfl) (fun _ _ _ h => h) (by kernel_rfl) (fun _ => hS) (by kernel_rfl) ?_ ?_
    rotate_left
    · intro _; go_simp; try with_reducible rfl
    simp only [Act.put, List.getElem_toArray, List.getElem_cons_succ, List.getElem_cons_zero, List.setIfInBounds_toArray, List.set_cons_zero, List.set_cons_succ]
    refine wpAnyG_any (i := 1) (v := ?_) rfl (by kernel_rfl) (by kernel_rfl) (by kernel_rfl) (fun _ _ _ h => h) (by kernel_rfl) (fun _ => hS) (by kernel_rfl) ?_ ?_
    rotate_left
    · intro _; go_simp; try with_reducible rfl
    simp only [Act.put, List.getElem_toArray, List.getElem_cons_succ, List.getElem_cons_zero, List.setIfInBounds_toArray, List.set_cons_zero, List.set_cons_succ]
    refine wpAnyG_any (i := 2) (v := ?_) rfl (by kernel_rfl) (by kernel_rfl) (by kernel_rfl) (fun _ _ _ h => h) (by kernel_rfl) (fun _ => hS) (by kernel_rfl) ?_ ?_
    rotate_left
    · intro _; go_simp; try with_reducible rfl
    simp only [Act.put, List.getElem_toArray, List.getElem_cons_succ, List.getElem_cons_zero, List.setIfInBounds_toArray, List.set_cons_zero, List.set_cons_succ]
    refine wpAnyG_read (i := 3) (v := ?_) rfl (by kernel_rfl) (by kernel_rfl) (by kernel_rfl) (fun _ _ _ h => h) (by kernel_rfl) (by kernel_rfl) (by kernel_rfl) hS (by kernel_rfl) ?_ ?_
    rotate_left
    · intro wx hSw; go_split_ands; go_simp; try with_reducible rfl
    simp only [Act.put, List.getElem_toArray, List.getElem_cons_succ, List.getElem_cons_zero, List.setIfInBounds_toArray, List.set_cons_zero, List.set_cons_succ]
    refine wpAnyG_load (i := 4) (dst := some 50) (ty := 32) (x := .tmp 6) (b := b1) (o := (0)) (cs := DI) (by kernel_rfl) (by kernel_rfl) (by kernel_rfl) (by kernel_rfl) (by kernel_rfl) (fun _ _ _ h => h) (by kernel_rfl) (by kernel_rfl) (by kernel_rfl) hS (by kernel_rfl) (fun _ h => h.2) uD rfl iI ?_
    simp only [Act.put, List.getElem_toArray, List.getElem_cons_succ, List.getElem_cons_zero, List.setIfInBounds_toArray, List.set_cons_zero, List.set_cons_succ]
    refine wpAnyG_any (i := 5) (v := ?_) rfl (by kernel_rfl) (by kernel_rfl) (by kernel_rfl) (fun _ _ _ h => h) (by kernel_rfl) (fun _ => hS) (by kernel_rfl) ?_ ?_
    rotate_left
    · intro _; go_simp; try with_reducible rfl
    simp only [Act.put, List.getElem_toArray, List.getElem_cons_succ, List.getElem_cons_zero, List.setIfInBounds_toArray, List.set_cons_zero, List.set_cons_succ]
    refine wpAnyG_one (i := 6) rfl (by kernel_rfl) (by kernel_rfl) (fun K hK => ?_)
    refine wpx_upd _ _ _ _ rfl _ _ _ V6 rfl rfl rfl hrun ?_
    refine hK.out _ _ (fun h => absurd (show true = false from h) (by decide)) ?_
    clear hK K
    try simp only [Act.put, List.getElem_toArray, List.getElem_cons_succ, List.getElem_cons_zero, List.setIfInBounds_toArray, List.set_cons_zero, List.set_cons_succ]
    refine wpAnyG_done (by kernel_rfl) ?_ _
    clear hS hrun r51 r52
    have HMG := Veil.mk (And.intro hM6 hg6)
    rw [HSP.out.1] at r62 iP
    rw [HSP.out.2] at hst
    clear hM6 hg6
    go_wp2_with (first
      | (refine wpList_ldv rfl 32 (.tmp 6) rfl b1 0 rfl DI r61 uD rfl iI ?_)
      | (refine wpList_ldv rfl 32 (.tmp 7) rfl b2 0 rfl [.int .u8 p1, .int .u32 p2] r62 uD rfl iP ?_)
      | (go_at_call 22; refine hst.mono ?_; rintro z W7 ⟨v7, y7, rfl, hq7⟩; have HQ7 := Veil.mk hq7; clear hq7 hst))
    go_ret
    exact ⟨by rw [h0]; rfl, HOK2.out W7 v7 hq5.drew HMG.out.1 HMG.out.2 HQ7.out.1 HQ7.out.2.1 HQ7.out.2.2⟩
end Go.Proofs.Ytnmjplngbleopaa
