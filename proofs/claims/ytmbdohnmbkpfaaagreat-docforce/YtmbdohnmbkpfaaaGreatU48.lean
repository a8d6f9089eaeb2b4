/- Dc16 Sm10 De11 Gate6 -/
import Derived.Test.YtmbdohnmbkpfaaaGreatU42
import Derived.Test.YtmbdohnmbkpfaaaGreatU16
import Derived.Test.YtmbdohnmbkpfaaaGreatU08
import Derived.Test.YtmbdohnmbkpfaaaGreatU17
import Derived.Test.YtmbdohnmbkpfaaaGreatU03
import Derived.Test.YtmbdohnmbkpfaaaGreatU43
import Derived.Test.YtmbdohnmbkpfaaaGreatU44
import Derived.Test.YtmbdohnmbkpfaaaGreatU45
import Derived.Test.YtmbdohnmbkpfaaaGreatU46
import Derived.Test.YtmbdohnmbkpfaaaGreatU47
import Derived.Test.YtmbdohnmbkpfaaaGreatU09
namespace Go.Proofs.YtmbdohnmbkpfaaaGreat
open Go.RowKit Go.Shelf
set_option maxRecDepth 20000
set_option linter.unusedSimpArgs false
set_option maxHeartbeats 16000000 in
theorem dWrite_any (base : Nat) (st : Ds) (p : Pl) (a i c : Int) (w : World) (hD : DocAt w base st p) (hG : GoodD st) (ha0 : 0 ≤ a) (hi : i ≤ 9223372036854775807) :
    Calls Tryz.prog 25 #[.pointer (some ⟨p.D, 0, none⟩), .int .u8 a, .int .i64 i, .int .u8 c] w fun r w' => r = .returned (.tuple #[.agg (tellW st a i c).1.cells.toArray, .int .i64 (tellW st a i c).2]) ∧ Below w.heap.size w w' := by
  have hB0 : Below w.heap.size w (w.alloc (.cells zC.toArray 44)) := (Below.refl _ _).alloc (Nat.le_refl _) _
  have hz0 := CellsAt.new w 44 zC
  have hD0 := hD.far hB0
  have hsl := hG.slen
  have HFB : Veil (∀ W, DocAt W base st p → Calls Tryz.prog 50 #[.pointer (some ⟨p.D, 0, none⟩), .int .u8 a, .bool (decide (1 ≤ c) && decide (c ≤ 127)), .int .u8 2] W fun r w' => r = .returned (.int .i64 (forbN st a (decide (1 ≤ c) && decide (c ≤ 127)) 2)) ∧ Below W.heap.size W w') := ⟨fun W h => dforbid_any base st p a (decide (1 ≤ c) && decide (c ≤ 127)) 2 W h hG ha0⟩
  have HPL : Veil (∀ W, DocAt W base st p → Calls Tryz.prog 52 #[.pointer (some ⟨p.R, 0, none⟩), .int .i64 i] W fun e w' => e = .returned (.tuple #[.agg (encF (placeN st.N i).1).toArray, .bool (placeN st.N i).2.1, .int .i64 (placeN st.N i).2.2]) ∧ Below W.heap.size W w') := ⟨fun W h => placeT_any base p.R p.bc p.bn st.N p.V hG.tree (by have := hG.nlen; have := hG.llen; omega) i hi W h.tree⟩
  have HR1 : Veil (forbN st a (decide (1 ≤ c) && decide (c ≤ 127)) 2 ≠ 0 → (tellW st a i c).1.cells = zC ∧ (tellW st a i c).2 = forbN st a (decide (1 ≤ c) && decide (c ≤ 127)) 2) := ⟨fun h => by
    have : tellW st a i c = (evZ0, forbN st a (decide (1 ≤ c) && decide (c ≤ 127)) 2) := if_pos h
    rw [this]; exact ⟨rfl, rfl⟩⟩
  have HR2 : Veil (forbN st a (decide (1 ≤ c) && decide (c ≤ 127)) 2 = 0 → (placeN st.N i).2.2 ≠ 0 → (tellW st a i c).1.cells = zC ∧ (tellW st a i c).2 = (placeN st.N i).2.2) := ⟨fun h h2 => by
    have : tellW st a i c = (evZ0, (placeN st.N i).2.2) := (if_neg (by rw [h]; simp)).trans (if_pos h2)
    rw [this]; exact ⟨rfl, rfl⟩⟩
  have HR3 : Veil (forbN st a (decide (1 ≤ c) && decide (c ≤ 127)) 2 = 0 → (placeN st.N i).2.2 = 0 → ∃ n : Nat, a = (n : Int) ∧ (tellW st a i c).1.cells.length = 17 ∧ (∀ u ∈ (tellW st a i c).1.cells, u.oneCell' = true) ∧ (tellW st a i c).2 = 0 ∧ ∀ W, DocAt W base st p → Calls Tryz.prog 53 #[.pointer (some ⟨p.D, 0, none⟩), .int .u8 (n : Int), .agg (evKC 1 (placeN st.N i).1.1 (placeN st.N i).1.2 (placeN st.N i).2.1 c 0 0).toArray] W fun r w' => r = .returned (.agg (tellW st a i c).1.cells.toArray) ∧ Below W.heap.size W w') := ⟨fun h h2 => by
    have ha8 := (forbN_zero h).1
    have e1 : tellW st a i c = (nextE st a.toNat (evK 1 (placeN st.N i).1 (placeN st.N i).2.1 c 0 0), 0) := (if_neg (by rw [h]; simp)).trans (if_neg (by rw [h2]; simp))
    rw [e1]
    exact ⟨a.toNat, by omega, aev_len _ hG.slen, aev_one _, rfl, fun W hW => dnext_any base st p a.toNat (evK 1 (placeN st.N i).1 (placeN st.N i).2.1 c 0 0) W hW hG (by omega) rfl⟩⟩
  generalize (tellW st a i c).1.cells = TC at HR1 HR2 HR3 ⊢
  generalize (tellW st a i c).2 = TN at HR1 HR2 HR3 ⊢
  generalize forbN st a (decide (1 ≤ c) && decide (c ≤ 127)) 2 = fN at HFB HR1 HR2 HR3
  generalize placeN st.N i = PL at HPL HR2 HR3
  obtain ⟨⟨pa, pb⟩, pr, pe⟩ := PL
  simp only [encF, dotC] at HPL HR2 HR3
  have uE := Tryz.underlying44
  have uD := Tryz.underlying40
  have iZ : (Tryz.prog.info? 44).map (·.size) = some zC.length := by show _ = some 17; kernel_rfl
  have h1Z := zC_one
  have HCR : Veil (∀ W, DocAt W base st p → W.cell? ⟨p.D, 0, none⟩ = some (.pointer (some ⟨p.R, 0, none⟩))) := ⟨fun W h => h.cR hG.slen⟩
  obtain ⟨Z, hZ⟩ : ∃ Z, Z = zC := ⟨_, rfl⟩
  obtain ⟨D, hDD⟩ : ∃ q, p.D = q := ⟨_, rfl⟩
  rw [hDD] at HFB HR3 HCR ⊢
  rw [← hZ] at HR1 HR2 iZ h1Z
  clear hD hG hDD
  unfold zC at hB0 hz0 hD0
  go_enter Tryz.func25, Tryz.ntmps25
  go_upto_region 1 with fail
  refine forget (p := fun y => Code.wp _ _ _ _ y) (fun W => Below w.heap.size w W ∧ CellsAt W w.heap.size 44 Z ∧ DocAt W base st p) ⟨hB0, by rw [hZ]; exact hz0, hD0⟩ ?_
  clear hB0 hz0 hD0
  rintro W ⟨hB, hz, hD⟩
  have hfb := HFB.out W hD
  have hch := isChar_any c W
  go_upto_region 2 with (first
    | (go_at_call 51; refine hch.mono ?_; rintro y W1 ⟨rfl, h1⟩; replace h1 := h1.symm; subst h1; clear hch)
    | (go_at_call 50; refine hfb.mono ?_; rintro y W2 ⟨rfl, hb2⟩; clear hfb))
  have hB2 := hB.trans (hb2.mono hB.size)
  have hz2 := hz.farM hb2
  have hD2 := hD.far hb2
  clear hb2 hB hz hD W
  by_cases h0 : fN = 0
  rotate_left
  · have h0b : (fN == 0) = false := by simpa using h0
    obtain ⟨e1, e2⟩ := HR1.out h0
    have hzz : Z = [.int .u8 0, .int .u32 0, .int .u32 0, .int .u32 0, .int .u32 0, .int .u32 0, .int .u32 0, .int .u32 0, .int .u32 0, .int .u32 0, .int .u8 0, .int .u8 0, .int .u32 0, .bool false, .int .u8 0, .int .u8 0, .int .u8 0] := hZ
    clear e1 e2
    go_wp2_with (refine wpList_stv (cs := [.int .u8 0, .int .u32 0, .int .u32 0, .int .u32 0, .int .u32 0, .int .u32 0, .int .u32 0, .int .u32 0, .int .u32 0, .int .u32 0, .int .u8 0, .int .u8 0, .int .u32 0, .bool false, .int .u8 0, .int .u8 0, .int .u8 0]) rfl 44 _ _ rfl w.heap.size rfl rfl hz2 (by rw [← hzz]; exact iZ) (by rw [hzz]) (by rw [← hzz]; exact h1Z) ?_)
    obtain ⟨e1, e2⟩ := HR1.out h0
    refine bodyPost_ret (results_ct (Tryz.results25) _ rfl rfl (hz2.setRow _) uE rfl (by rw [← hzz]; exact iZ)) rfl ⟨?_, below_setRow hB2 (Nat.le_refl _) _⟩
    rw [e1, e2, hzz]; rfl
  subst h0
  have hcl := HPL.out W2 hD2
  have hcr := HCR.out W2 hD2
  have HRR : Veil (p.R = p.R) := ⟨rfl⟩
  go_upto_region 5 with (go_at_call 52; refine hcl.mono ?_; rintro y W3 ⟨rfl, hb3⟩; clear hcl)
  have hb4 : Below W3.heap.size W3 (W3.alloc (.cells #[.int .u8 pa, .int .u32 pb] 40)) := (Below.refl _ _).alloc (Nat.le_refl _) _
  have hb24 := hb3.trans (hb4.mono hb3.size)
  refine forget (p := fun y => Code.wp _ _ _ _ y) (fun W => Below W2.heap.size W2 W ∧ CellsAt W W3.heap.size 40 [.int .u8 pa, .int .u32 pb]) ⟨hb24, CellsAt.new W3 40 [.int .u8 pa, .int .u32 pb]⟩ ?_
  have HLP : Veil (w.heap.size < W3.heap.size) := ⟨by have := hz2.lt; have := hb3.size; omega⟩
  generalize W3.heap.size = bd at HLP
  clear hb24 hb4 hb3 W3
  rintro W4 ⟨hb4, hd4⟩
  have hB4 := hB2.trans (hb4.mono hB2.size)
  have hz4 := hz2.farM hb4
  have hD4 := hD2.far hb4
  clear hb4 hB2 hz2 hD2 hcr W2
  by_cases h2 : pe = 0
  rotate_left
  · have h2b : (pe == 0) = false := by simpa using h2
    have hzz : Z = [.int .u8 0, .int .u32 0, .int .u32 0, .int .u32 0, .int .u32 0, .int .u32 0, .int .u32 0, .int .u32 0, .int .u32 0, .int .u32 0, .int .u8 0, .int .u8 0, .int .u32 0, .bool false, .int .u8 0, .int .u8 0, .int .u8 0] := hZ
    go_wp2_with (refine wpList_stv (cs := [.int .u8 0, .int .u32 0, .int .u32 0, .int .u32 0, .int .u32 0, .int .u32 0, .int .u32 0, .int .u32 0, .int .u32 0, .int .u32 0, .int .u8 0, .int .u8 0, .int .u32 0, .bool false, .int .u8 0, .int .u8 0, .int .u8 0]) rfl 44 _ _ rfl w.heap.size rfl rfl hz4 (by rw [← hzz]; exact iZ) (by rw [hzz]) (by rw [← hzz]; exact h1Z) ?_)
    obtain ⟨e1, e2⟩ := HR2.out (by first | rfl | trivial) h2
    refine bodyPost_ret (results_ct (Tryz.results25) _ rfl rfl (hz4.setRow _) uE rfl (by rw [← hzz]; exact iZ)) rfl ⟨?_, below_setRow hB4 (Nat.le_refl _) _⟩
    rw [e1, e2, hzz]; rfl
  subst h2
  obtain ⟨n, rfl, hl17, h1c, rfl, hnx⟩ := HR3.out (by first | rfl | trivial) (by first | rfl | trivial)
  have iN : (Tryz.prog.info? 44).map (·.size) = some TC.length := by rw [hl17]; kernel_rfl
  have iD2 : (Tryz.prog.info? 40).map (·.size) = some [Value.int .u8 pa, Value.int .u32 pb].length := sizeDot
  have HZ17 : Veil (Z.length = 17) := ⟨by rw [hZ]; rfl⟩
  have HNX := Veil.mk hnx
  clear hnx
  go_upto_region 7 with fail
  have hb0 : Below W4.heap.size W4 W4.drew := (Below.refl _ _).drew
  have hT : (fun W : World => W.rangeAt bd 0 [Value.int .u8 pa, Value.int .u32 pb]) W4.drew := (hd4.farM hb0).wholeM
  have hS : (fun _ : World => True) W4.drew := trivial
  refine wp_region_gateT (fun W : World => W.rangeAt bd 0 [Value.int .u8 pa, Value.int .u32 pb]) (fun _ => True) 99 (by kernel_rfl) ?_
  refine gh 0 ?_ hT hS ?_ ?_
  rotate_left
  · intro wx hSw; go_split_ands; go_simp; try with_reducible rfl
  simp only [Act.put, gA, gS, gZ, sI, sZ, sS]
  refine gh 1 ?_ hT hS ?_ ?_
  rotate_left
  · intro wx hSw; go_split_ands; go_simp; try with_reducible rfl
  simp only [Act.put, gA, gS, gZ, sI, sZ, sS]
  refine gh 2 ?_ hT hS ?_ ?_
  rotate_left
  · intro wx hSw; go_split_ands; go_simp; try with_reducible rfl
  simp only [Act.put, gA, gS, gZ, sI, sZ, sS]
  refine gh 3 ?_ hT hS ?_ ?_
  rotate_left
  · intro wx hSw; go_split_ands; go_simp; try with_reducible rfl
  simp only [Act.put, gA, gS, gZ, sI, sZ, sS]
  refine gl 4 42 40 11 bd 0 [Value.int .u8 pa, Value.int .u32 pb] (by kernel_rfl) (by kernel_rfl) (by kernel_rfl) (fun _ _ _ h => h) hT hS (by kernel_rfl) (fun _ h => h) uD rfl iD2 ?_
  simp only [Act.put, gA, gS, gZ, sI, sZ, sS]
  refine gh 5 ?_ hT hS ?_ ?_
  rotate_left
  · intro wx hSw; go_split_ands; go_simp; try with_reducible rfl
  simp only [Act.put, gA, gS, gZ, sI, sZ, sS]
  refine gh 6 ?_ hT hS ?_ ?_
  rotate_left
  · intro wx hSw; go_split_ands; go_simp; try with_reducible rfl
  simp only [Act.put, gA, gS, gZ, sI, sZ, sS]
  refine gh 7 ?_ hT hS ?_ ?_
  rotate_left
  · intro wx hSw; go_split_ands; go_simp; try with_reducible rfl
  simp only [Act.put, gA, gS, gZ, sI, sZ, sS]
  refine wpAnyT_one (i := 8) rfl (by kernel_rfl) (by kernel_rfl) (fun K hK => ?_)
  refine wpx_call _ _ (by kernel_rfl) ((HNX.out _ (hD4.far hb0)).mono ?_)
  rintro y W5 ⟨rfl, hb5⟩
  refine ⟨_, rfl, ?_⟩
  replace hb5 : Below W4.heap.size W4 W5 := hb0.trans hb5
  have hd5 := hd4.farM hb5
  have hz5 := hz4.farM hb5
  have hB5 := hB4.trans (hb5.mono hB4.size)
  replace hT : (fun W : World => W.rangeAt bd 0 [Value.int .u8 pa, Value.int .u32 pb]) W5 := hd5.wholeM
  replace hS : (fun _ : World => True) W5 := trivial
  refine hK.out _ _ hT (fun _ => hS) ?_
  clear hK K
  try simp only [Act.put, gA, gS, gZ, sI, sZ, sS]
  refine wpAnyT_one (i := 9) rfl (by kernel_rfl) (by kernel_rfl) (fun K hK => ?_)
  refine wp_stvE (cs := TC) 44 _ _ rfl w.heap.size rfl rfl hz5 iN (by rw [HZ17.out, hl17]) h1c ?_
  replace hT : (fun W : World => W.rangeAt bd 0 [Value.int .u8 pa, Value.int .u32 pb]) (W5.setRow w.heap.size TC.toArray) := (hd5.setRowM _ (by have := HLP.out; omega)).wholeM
  replace hS : (fun _ : World => True) (W5.setRow w.heap.size TC.toArray) := trivial
  refine hK.out _ _ hT (fun _ => hS) ?_
  clear hK K
  try simp only [Act.put, gA, gS, gZ, sI, sZ, sS]
  refine gh 10 ?_ hT hS ?_ ?_
  rotate_left
  · intro wx hSw; go_split_ands; go_simp; try with_reducible rfl
  simp only [Act.put, gA, gS, gZ, sI, sZ, sS]
  refine wpAnyT_done (by kernel_rfl) ?_ _
  clear hT hS
  go_wp2
  refine bodyPost_ret (results_ct (Tryz.results25) _ rfl rfl (hz5.setRow _) uE rfl iN) rfl ⟨rfl, below_setRow hB5 (Nat.le_refl _) _⟩
theorem evEqD_refl (e : Ev) : evEq e e = true := by unfold evEq; simp
def tellD (st : Ds) (X : Ed) : Ev × Int := if X.kind = 0 then tellW st X.au X.i X.c else if X.kind = 1 then tellE st X.au X.i else if X.kind = 2 then tellG st X.au X.who X.role else if X.kind = 3 then tellT st X.au X.who else (X.e, 0)
def stepX (st : Ds) (X : Ed) : Ds := if X.kind = 0 ∨ X.kind = 1 ∨ X.kind = 2 ∨ X.kind = 3 ∨ X.kind = 4 then (if (tellD st X).2 = 0 then doS st (tellD st X).1 else st) else st
def IdsOk (N : List Nd) : Prop := ∀ n ∈ N, okDF n.id
theorem evZ0_ok : evZ0.Ok where
  dot := by unfold evZ0 evK okD; simp
  past := rfl
  pastB := fun x hx => by
    have : x = 0 := by simpa [evZ0, evK] using hx
    subst this; decide
  par := by unfold evZ0 evK okD; simp
  kind := by unfold evZ0 evK; simp
  char := by unfold evZ0 evK; simp
  who := by unfold evZ0 evK; simp
  role := by unfold evZ0 evK; simp
theorem nextE_okD {st : Ds} (hG : GoodD st) {a : Nat} (ha : a < 8) {k who role c : Int} {par : Int × Int} {r : Bool} (hp : okDF par) (hk : 0 ≤ k ∧ k ≤ 255) (hc : 0 ≤ c ∧ c ≤ 255) (hw : 0 ≤ who ∧ who ≤ 255) (hr : 0 ≤ role ∧ role ≤ 255) : (nextE st a (evK k par r c who role)).Ok where
  dot := by
    have := hG.seen ha
    have := hG.llen
    unfold nextE okD
    simp only
    omega
  past := hG.slen
  pastB := fun x hx => by have := hG.sval x hx; have := hG.llen; omega
  par := hp
  kind := hk
  char := hc
  who := hw
  role := hr
theorem okDF_zero : okDF (0, 0) := ⟨by decide, by decide⟩
theorem IdsOk.place {N : List Nd} (hN : TreeOk N) (h : IdsOk N) (i : Int) : okDF (placeN N i).1 := by
  by_cases hi : i < 0 ∨ ((textN N).length : Int) < i
  · rw [leftN_far hi]; exact okDF_zero
  · have h0 : 0 ≤ i := by omega
    have hk : i.toNat ≤ (wrN N).length := by rw [← text_len]; omega
    have hp := place_ok hN hk
    rw [Int.toNat_of_nonneg h0] at hp
    rcases hp.2.2 with q | q
    · rw [q]; exact okDF_zero
    · obtain ⟨n, hn, e⟩ := chrN_some.1 q
      rw [← e]; exact h n hn
theorem IdsOk.at_ {N : List Nd} (hN : TreeOk N) (h : IdsOk N) (i : Int) : okDF (atD (atN N i)) := by
  unfold atN
  split
  · exact okDF_zero
  · cases hq : (wrN N)[i.toNat]? with
    | none => exact okDF_zero
    | some x =>
      have hx := List.mem_of_getElem? hq
      unfold wrN at hx
      obtain ⟨n, hn, e⟩ := mem_walk hN.rooted rootS x (List.mem_filter.1 hx).1
      show okDF x
      rw [← e]; exact h n hn
theorem tellD_ok {st : Ds} (hG : GoodD st) (hI : IdsOk st.N) {X : Ed} (hX : X.Ok) : (tellD st X).1.Ok := by
  have lt8 : ∀ {fit : Bool} {least : Int}, forbN st X.au fit least = 0 → X.au.toNat < 8 := fun h => by have := (forbN_zero h).1; have := hX.au.1; omega
  unfold tellD
  split
  · unfold tellW
    split
    · exact evZ0_ok
    · split
      · exact evZ0_ok
      · rename_i h _
        exact nextE_okD hG (lt8 (by simpa using h)) (hI.place hG.tree _) (by decide) hX.c (by decide) (by decide)
  · split
    · unfold tellE
      split
      · exact evZ0_ok
      · split
        · exact evZ0_ok
        · rename_i h _
          exact nextE_okD hG (lt8 (by simpa using h)) (hI.at_ hG.tree _) (by decide) (by decide) (by decide) (by decide)
    · split
      · unfold tellG
        split
        · exact evZ0_ok
        · rename_i h
          exact nextE_okD hG (lt8 (by simpa using h)) okDF_zero (by decide) (by decide) hX.who hX.role
      · split
        · unfold tellT
          split
          · exact evZ0_ok
          · rename_i h
            exact nextE_okD hG (lt8 (by simpa using h)) okDF_zero (by decide) (by decide) hX.who (by decide)
        · exact hX.e
structure BothP (B : Nat) (W : World) (s1 s2 : Ds) (p : Pl) (q : Rp) (K : List (Nat × List Value)) : Prop where
  d : DocAt W B s1 p
  r : RDocAt W B s2 q
  g1 : GoodD s1
  g2 : GoodD s2
  rel : GoodR s2 q.K q.G
  a1 : ∀ k, docP p k → B ≤ k
  a2 : ∀ k, rdocP q k → B ≤ k
  apart : ∀ k, docP p k → ¬ rdocP q k
  kept : ∀ x ∈ K, CellsAt W x.1 44 x.2 ∧ ¬ docP p x.1 ∧ ¬ rdocP q x.1
def BothD (B : Nat) (W : World) (s1 s2 : Ds) (D Q : Nat) (K : List (Nat × List Value)) : Prop := ∃ p q, p.D = D ∧ q.D = Q ∧ BothP B W s1 s2 p q K
section
variable {B : Nat} {W W' : World} {s1 s2 : Ds} {D Q : Nat} {K : List (Nat × List Value)}
theorem BothD.far (h : BothD B W s1 s2 D Q K) (hb : Below W.heap.size W W') : BothD B W' s1 s2 D Q K := by
  obtain ⟨p, q, h1, h2, h⟩ := h
  exact ⟨p, q, h1, h2, ⟨h.d.far hb, h.r.far hb, h.g1, h.g2, h.rel, h.a1, h.a2, h.apart, fun x hx => ⟨(h.kept x hx).1.farM hb, (h.kept x hx).2⟩⟩⟩
theorem BothD.keep (h : BothD B W s1 s2 D Q K) (hb : Below W.heap.size W W') {b : Nat} {cs : List Value} (hc : CellsAt W' b 44 cs) (hl : W.heap.size ≤ b) : BothD B W' s1 s2 D Q ((b, cs) :: K) := by
  obtain ⟨p, q, h1, h2, h⟩ := h
  refine ⟨p, q, h1, h2, ⟨h.d.far hb, h.r.far hb, h.g1, h.g2, h.rel, h.a1, h.a2, h.apart, fun x hx => ?_⟩⟩
  rcases List.mem_cons.1 hx with rfl | q
  · exact ⟨hc, fun q => by have := h.d.blockLt _ q; omega, fun q => by have := h.r.blockLt _ q; omega⟩
  · exact ⟨(h.kept x q).1.farM hb, (h.kept x q).2⟩
theorem BothD.drop (h : BothD B W s1 s2 D Q K) : BothD B W s1 s2 D Q [] := by
  obtain ⟨p, q, h1, h2, h⟩ := h
  exact ⟨p, q, h1, h2, ⟨h.d, h.r, h.g1, h.g2, h.rel, h.a1, h.a2, h.apart, fun x hx => by cases hx⟩⟩
theorem BothD.cells (h : BothD B W s1 s2 D Q K) {x : Nat × List Value} (hx : x ∈ K) : CellsAt W x.1 44 x.2 := by
  obtain ⟨p, q, h1, h2, h⟩ := h
  exact (h.kept x hx).1
theorem BothD.ids (h : BothD B W s1 s2 D Q K) : IdsOk s1.N := by
  obtain ⟨p, q, h1, h2, h⟩ := h
  exact fun n hn => (h.d.tree.okId n hn).1
theorem BothD.good (h : BothD B W s1 s2 D Q K) : GoodD s1 := by
  obtain ⟨p, q, h1, h2, h⟩ := h
  exact h.g1
theorem BothD.applyD (h : BothD B W s1 s2 D Q K) {e : Ev} (he : e.Ok) (hB : B ≤ W.heap.size) :
    Calls Tryz.prog 18 #[.pointer (some ⟨D, 0, none⟩), .agg e.cells.toArray] W fun r w' => r = .returned (.int .i64 (refD s1 e)) ∧ BothD B w' (doS s1 e) s2 D Q K ∧ Below B W w' := by
  obtain ⟨p, q, rfl, h2, h⟩ := h
  refine (dApply_any B s1 p e W h.d h.g1 he hB).mono ?_
  rintro r w' ⟨h3, p3, hD3, ht⟩
  have hnew : ∀ k, k < W.heap.size → ¬ docP p k → ¬ docP p3 k := fun k hk hn q => by
    rcases ht.own k q with r | r
    · exact hn r
    · omega
  refine ⟨h3, ⟨p3, q, ht.at_, h2, ⟨hD3, h.r.turned ht.turn fun k q r => h.apart k r q, h.g1.does he, h.g2, h.rel, fun k q => ?_, h.a2, fun k q r => ?_, fun x hx => ?_⟩⟩, ht.turn.below hB h.a1⟩
  · rcases ht.own k q with r | r
    · exact h.a1 k r
    · omega
  · exact hnew k (h.r.blockLt k r) (fun s => h.apart k s r) q
  · obtain ⟨c1, c2, c3⟩ := h.kept x hx
    exact ⟨c1.congr (ht.turn.block _ c1.lt c2), hnew _ c1.lt c2, c3⟩
theorem BothD.applyR (h : BothD B W s1 s2 D Q K) {e : Ev} (he : e.Ok) (hB : B ≤ W.heap.size) :
    Calls Tryz.prog 31 #[.pointer (some ⟨Q, 0, none⟩), .agg e.cells.toArray] W fun r w' => r = .returned (.int .i64 (refD s2 e)) ∧ BothD B w' s1 (doS s2 e) D Q K ∧ Below B W w' := by
  obtain ⟨p, q, h1, rfl, h⟩ := h
  refine (rapply_any B s2 q e W h.r h.g2 h.rel he hB).mono ?_
  rintro r w' ⟨h3, q3, hD3, hR3, ht⟩
  have hnew : ∀ k, k < W.heap.size → ¬ rdocP q k → ¬ rdocP q3 k := fun k hk hn s => by
    rcases ht.own k s with r | r
    · exact hn r
    · omega
  refine ⟨h3, ⟨p, q3, h1, ht.at_, ⟨h.d.turned ht.turn fun k s r => h.apart k s r, hD3, h.g1, h.g2.does he, hR3, h.a1, fun k s => ?_, fun k s r => ?_, fun x hx => ?_⟩⟩, ht.turn.below hB h.a2⟩
  · rcases ht.own k s with r | r
    · exact h.a2 k r
    · omega
  · exact hnew k (h.d.blockLt k s) (h.apart k s) r
  · obtain ⟨c1, c2, c3⟩ := h.kept x hx
    exact ⟨c1.congr (ht.turn.block _ c1.lt c3), c2, hnew _ c1.lt c3⟩
end
open Go Go.RowKit
section
variable {P : Program} {ops : Array Oper} {Q : Exit → Act → World → Prop} {md : Region.Mode} {T S : World → Prop} {D : Nat}
end
end Go.Proofs.YtmbdohnmbkpfaaaGreat
