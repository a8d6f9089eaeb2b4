/- Mt1 Dc14 -/
import Derived.Test.YtgmbmdmbnpkbbaaM43
import Derived.Test.YtgmbmdmbnpkbbaaM44
namespace Go.Proofs.Ytgmbmdmbnpkbbaa
open Go.RowKit Go.Shelf
set_option maxRecDepth 20000
set_option linter.unusedSimpArgs false
def evA (w : List Int) (k : Nat) : Ev := ⟨0, (k : Int) + 2, [(k : Int) + 1, 0, 0, 0, 0, 0, 0, 0], 1, 0, if k = 0 then 0 else (k : Int) + 1, true, w[k]?.getD 0, 0, 0⟩
def evB (w : List Int) (k : Nat) : Ev := ⟨1, (k : Int) + 1, [1, (k : Int), 0, 0, 0, 0, 0, 0], 1, if k = 0 then 0 else 1, (k : Int), true, w[k]?.getD 0, 0, 0⟩
structure WordOk (w : List Int) : Prop where
  len : w.length ≤ 10
  chr : ∀ k, k < w.length → 1 ≤ w[k]?.getD 0 ∧ w[k]?.getD 0 ≤ 127
def idA (k : Nat) : Int × Int := (0, (k : Int) + 2)
def idB (k : Nat) : Int × Int := (1, (k : Int) + 1)
theorem ndA_id (w : List Int) (k : Nat) : (evA w k).nd.id = idA k := rfl
theorem ndB_id (w : List Int) (k : Nat) : (evB w k).nd.id = idB k := rfl
theorem ndA_side (w : List Int) (k : Nat) : (evA w k).nd.side = if k = 0 then rootS else (idA (k - 1), true) := by
  unfold evA Ev.nd rootS idA
  by_cases h : k = 0
  · simp [h]
  · simp only [h, if_false, Prod.mk.injEq, and_true, true_and]
    omega
theorem ndB_side (w : List Int) (k : Nat) : (evB w k).nd.side = if k = 0 then rootS else (idB (k - 1), true) := by
  unfold evB Ev.nd rootS idB
  by_cases h : k = 0
  · simp [h]
  · simp only [h, if_false, Prod.mk.injEq, and_true, true_and]
    omega
def rolesM : Bool := (List.range 11).all fun k => decide (roleP vS1.B 0 [(k : Int) + 1, 0, 0, 0, 0, 0, 0, 0] = 3) && decide (roleP vS1.B 1 [1, (k : Int), 0, 0, 0, 0, 0, 0] = 2)
theorem rolesM_all : rolesM = true := by kernel_rfl
theorem rolesM_at {k : Nat} (h : k < 11) : roleP vS1.B 0 [(k : Int) + 1, 0, 0, 0, 0, 0, 0, 0] = 3 ∧ roleP vS1.B 1 [1, (k : Int), 0, 0, 0, 0, 0, 0] = 2 := by
  have h1 := rolesM_all
  unfold rolesM at h1
  rw [List.all_eq_true] at h1
  have h2 := h1 k (List.mem_range.2 h)
  simpa using h2
theorem evA_ok {w : List Int} (hw : WordOk w) {k : Nat} (hk : k < w.length) : (evA w k).Ok where
  dot := by have := hw.len; unfold evA okD; simp only; omega
  past := rfl
  pastB := fun x hx => by have := hw.len; simp [evA] at hx; omega
  par := by have := hw.len; unfold evA okD; simp only; split <;> omega
  kind := by unfold evA; simp
  char := by have := hw.chr k hk; unfold evA; simp only; omega
  who := by unfold evA; simp
  role := by unfold evA; simp
theorem evB_ok {w : List Int} (hw : WordOk w) {k : Nat} (hk : k < w.length) : (evB w k).Ok where
  dot := by have := hw.len; unfold evB okD; simp only; omega
  past := rfl
  pastB := fun x hx => by have := hw.len; simp [evB] at hx; omega
  par := by have := hw.len; unfold evB okD; simp only; split <;> omega
  kind := by unfold evB; simp
  char := by have := hw.chr k hk; unfold evB; simp only; omega
  who := by unfold evB; simp
  role := by unfold evB; simp
theorem evA_right {w : List Int} (hw : WordOk w) {k : Nat} (hk : k < w.length) : rightB (evA w k) = true := by
  have h1 := hw.chr k hk
  have h2 := hw.len
  unfold rightB rightDotB rightKB rightParB noMemB hasB evA
  simp only [pastTo]
  by_cases h : k = 0
  · subst h; simp; omega
  · simp [h]; omega
theorem evB_right {w : List Int} (hw : WordOk w) {k : Nat} (hk : k < w.length) : rightB (evB w k) = true := by
  have h1 := hw.chr k hk
  have h2 := hw.len
  unfold rightB rightDotB rightKB rightParB noMemB hasB evB
  simp only [pastTo]
  by_cases h : k = 0
  · subst h; simp; omega
  · simp [h]; omega
structure MI (a b : List Int) (st : Ds) (i j : Nat) : Prop where
  good : GoodD st
  B : st.B = vS1.B
  S : st.S = [(i : Int) + 1, (j : Int), 0, 0, 0, 0, 0, 0]
  L : st.L.length = 1 + i + j
  N : ∀ n, n ∈ st.N ↔ (∃ k, k < i ∧ n = (evA a k).nd) ∨ (∃ k, k < j ∧ n = (evB b k).nd)
theorem MI.first (r1 : refD newS vE1 = 0) (a b : List Int) : MI a b vS1 0 0 where
  good := GoodD.new.ap (nextE_ok GoodD.new (by omega) (by omega) (by omega) (by omega)) r1
  B := rfl
  S := by kernel_rfl
  L := rfl
  N := fun n => by simp [show vS1.N = [] by kernel_rfl]
theorem MI.ap {a b : List Int} {st : Ds} {i j : Nat} (h : MI a b st i j) {e : Ev} (he : e.Ok) (hr : refD st e = 0) (hk : e.kind = 1) (hm : mayB st e 2 = true) (hi : refI st.N e.nd = 0) {i' j' : Nat} (hS : stepS st.S e.da = [(i' : Int) + 1, (j' : Int), 0, 0, 0, 0, 0, 0]) (hij : i' + j' = i + j + 1) (hN : ∀ n, (n ∈ st.N ∨ n = e.nd) ↔ (∃ k, k < i' ∧ n = (evA a k).nd) ∨ (∃ k, k < j' ∧ n = (evB b k).nd)) : MI a b (apS st e) i' j' ∧ (apS st e).N = st.N ++ [e.nd] := by
  have e1 : (apS st e).N = st.N ++ [e.nd] := by
    show actN st e = _
    unfold actN
    rw [if_pos hk, if_pos hm]
    unfold insN
    rw [if_pos hi]
  refine ⟨⟨h.good.ap he hr, ?_, hS, ?_, fun n => ?_⟩, e1⟩
  · show actK st e = _
    unfold actK
    rw [if_pos (.inl hk)]
    exact h.B
  · show (st.L ++ [e]).length = _
    rw [List.length_append, List.length_singleton, h.L]; omega
  · rw [e1, List.mem_append, List.mem_singleton]
    exact hN n
theorem MI.refA {a b : List Int} {st : Ds} {i j : Nat} (h : MI a b st i j) (hw : WordOk a) (hi : i < a.length) (hj : j ≤ 10) : refD st (evA a i) = 0 := by
  have h1 := evA_right hw hi
  have h2 := hw.len
  have h3 := h.L
  unfold refD
  rw [h1, h.S, if_neg (by simp), if_neg, if_neg, if_neg (by omega)]
  · unfold readyB withinB
    rw [h1]
    simp [withinTo, evA]
    omega
  · unfold hasB evA
    simp
theorem MI.refB {a b : List Int} {st : Ds} {i j : Nat} (h : MI a b st i j) (hw : WordOk b) (hj : j < b.length) (hi : i ≤ 10) : refD st (evB b j) = 0 := by
  have h1 := evB_right hw hj
  have h2 := hw.len
  have h3 := h.L
  unfold refD
  rw [h1, h.S, if_neg (by simp), if_neg, if_neg, if_neg (by omega)]
  · unfold readyB withinB
    rw [h1]
    simp [withinTo, evB]
    omega
  · unfold hasB evB
    simp
    omega
theorem MI.ids {a b : List Int} {st : Ds} {i j : Nat} (h : MI a b st i j) {x : Int × Int} : (∃ n ∈ st.N, n.id = x) ↔ (∃ k, k < i ∧ x = idA k) ∨ (∃ k, k < j ∧ x = idB k) := by
  constructor
  · rintro ⟨n, hn, rfl⟩
    rcases (h.N n).1 hn with ⟨k, hk, rfl⟩ | ⟨k, hk, rfl⟩
    · exact .inl ⟨k, hk, rfl⟩
    · exact .inr ⟨k, hk, rfl⟩
  · rintro (⟨k, hk, rfl⟩ | ⟨k, hk, rfl⟩)
    · exact ⟨_, (h.N _).2 (.inl ⟨k, hk, rfl⟩), rfl⟩
    · exact ⟨_, (h.N _).2 (.inr ⟨k, hk, rfl⟩), rfl⟩
theorem idA_inj {k l : Nat} (h : idA k = idA l) : k = l := by have := congrArg Prod.snd h; simp [idA] at this; omega
theorem idB_inj {k l : Nat} (h : idB k = idB l) : k = l := by have := congrArg Prod.snd h; simp [idB] at this; omega
theorem idAB (k l : Nat) : idA k ≠ idB l := fun h => by have := congrArg Prod.fst h; simp [idA, idB] at this
theorem MI.putA {a b : List Int} {st : Ds} {i j : Nat} (h : MI a b st i j) (hw : WordOk a) (hi : i < a.length) (hj : j ≤ 10) : MI a b (apS st (evA a i)) (i + 1) j ∧ (apS st (evA a i)).N = st.N ++ [(evA a i).nd] := by
  have hc := hw.chr i hi
  have hl := hw.len
  have hL := h.L
  refine h.ap (evA_ok hw hi) (h.refA hw hi hj) rfl ?_ ?_ ?_ (by omega) fun n => ?_
  · unfold mayB
    rw [h.B]
    have := (rolesM_at (show i < 11 by omega)).1
    show decide (2 ≤ roleP vS1.B 0 [(i : Int) + 1, 0, 0, 0, 0, 0, 0, 0]) = true
    rw [this]; rfl
  · have hs := ndA_side a i
    refine refI_zero (by rw [ndA_id]; simp [idA]; omega) hc.1 hc.2 (fun _ => rfl) (fun m hm q => ?_) ?_ ?_
    · rw [ndA_id] at q
      rcases h.ids.1 ⟨m, hm, q⟩ with ⟨k, hk, e⟩ | ⟨k, hk, e⟩
      · have := idA_inj e; omega
      · exact idAB _ _ e
    · rw [hs]
      by_cases q : i = 0
      · exact .inl (by rw [if_pos q]; rfl)
      · refine .inr ?_
        rw [if_neg q]
        exact chrN_some.2 (h.ids.2 (.inl ⟨i - 1, by omega, rfl⟩))
    · have := h.good.nlen; omega
  · rw [h.S]
    show [(i : Int) + 1 + 1, (j : Int), 0, 0, 0, 0, 0, 0] = _
    push_cast; rfl
  · rw [h.N]
    constructor
    · rintro ((⟨k, hk, q⟩ | q) | q)
      · exact .inl ⟨k, by omega, q⟩
      · exact .inr q
      · exact .inl ⟨i, by omega, q⟩
    · rintro (⟨k, hk, q⟩ | q)
      · by_cases hki : k = i
        · exact .inr (by rw [q, hki])
        · exact .inl (.inl ⟨k, by omega, q⟩)
      · exact .inl (.inr q)
theorem MI.putB {a b : List Int} {st : Ds} {i j : Nat} (h : MI a b st i j) (hw : WordOk b) (hj : j < b.length) (hi : i ≤ 10) : MI a b (apS st (evB b j)) i (j + 1) ∧ (apS st (evB b j)).N = st.N ++ [(evB b j).nd] := by
  have hc := hw.chr j hj
  have hl := hw.len
  have hL := h.L
  refine h.ap (evB_ok hw hj) (h.refB hw hj hi) rfl ?_ ?_ ?_ (by omega) fun n => ?_
  · unfold mayB
    rw [h.B]
    have := (rolesM_at (show j < 11 by omega)).2
    show decide (2 ≤ roleP vS1.B 1 [1, (j : Int), 0, 0, 0, 0, 0, 0]) = true
    rw [this]; rfl
  · have hs := ndB_side b j
    refine refI_zero (by rw [ndB_id]; simp [idB]) hc.1 hc.2 (fun _ => rfl) (fun m hm q => ?_) ?_ ?_
    · rw [ndB_id] at q
      rcases h.ids.1 ⟨m, hm, q⟩ with ⟨k, hk, e⟩ | ⟨k, hk, e⟩
      · exact idAB _ _ e.symm
      · have := idB_inj e; omega
    · rw [hs]
      by_cases q : j = 0
      · exact .inl (by rw [if_pos q]; rfl)
      · refine .inr ?_
        rw [if_neg q]
        exact chrN_some.2 (h.ids.2 (.inr ⟨j - 1, by omega, rfl⟩))
    · have := h.good.nlen; omega
  · rw [h.S]
    show [(i : Int) + 1, (j : Int) + 1, 0, 0, 0, 0, 0, 0] = _
    push_cast; rfl
  · rw [h.N]
    constructor
    · rintro ((q | ⟨k, hk, q⟩) | q)
      · exact .inl q
      · exact .inr ⟨k, by omega, q⟩
      · exact .inr ⟨j, by omega, q⟩
    · rintro (q | ⟨k, hk, q⟩)
      · exact .inl (.inl q)
      · by_cases hkj : k = j
        · exact .inr (by rw [q, hkj])
        · exact .inl (.inr ⟨k, by omega, q⟩)
set_option maxHeartbeats 16000000 in
theorem dGive_any (base : Nat) (st : Ds) (p : Pl) (a who role : Int) (w : World) (hD : DocAt w base st p) (hG : GoodD st) (ha0 : 0 ≤ a) :
    Calls Try.prog 7 #[.pointer (some ⟨p.D, 0, none⟩), .int .u8 a, .int .u8 who, .int .u8 role] w fun r w' => r = .returned (.tuple #[.agg (tellG st a who role).1.cells.toArray, .int .i64 (tellG st a who role).2]) ∧ Below w.heap.size w w' := by
  have hB0 : Below w.heap.size w (w.alloc (.cells zC.toArray 32)) := (Below.refl _ _).alloc (Nat.le_refl _) _
  have hz0 := CellsAt.new w 32 zC
  have hD0 := hD.far hB0
  have hsl := hG.slen
  have HFB : Veil (∀ W, DocAt W base st p → Calls Try.prog 24 #[.pointer (some ⟨p.D, 0, none⟩), .int .u8 a, .bool (decide (who < 8) && (decide (1 ≤ role) && decide (role ≤ 3))), .int .u8 3] W fun r w' => r = .returned (.int .i64 (forbN st a (decide (who < 8) && (decide (1 ≤ role) && decide (role ≤ 3))) 3)) ∧ Below W.heap.size W w') := ⟨fun W h => dforbid_any base st p a (decide (who < 8) && (decide (1 ≤ role) && decide (role ≤ 3))) 3 W h hG ha0⟩
  have HR1 : Veil (forbN st a (decide (who < 8) && (decide (1 ≤ role) && decide (role ≤ 3))) 3 ≠ 0 → (tellG st a who role).1.cells = zC ∧ (tellG st a who role).2 = forbN st a (decide (who < 8) && (decide (1 ≤ role) && decide (role ≤ 3))) 3) := ⟨fun h => by
    have : tellG st a who role = (evZ0, forbN st a (decide (who < 8) && (decide (1 ≤ role) && decide (role ≤ 3))) 3) := if_pos h
    rw [this]; exact ⟨rfl, rfl⟩⟩
  have HR3 : Veil (forbN st a (decide (who < 8) && (decide (1 ≤ role) && decide (role ≤ 3))) 3 = 0 → ∃ n : Nat, a = (n : Int) ∧ (tellG st a who role).1.cells.length = 17 ∧ (∀ u ∈ (tellG st a who role).1.cells, u.oneCell' = true) ∧ (tellG st a who role).2 = 0 ∧ ∀ W, DocAt W base st p → Calls Try.prog 27 #[.pointer (some ⟨p.D, 0, none⟩), .int .u8 (n : Int), .agg (evKC 3 0 0 false 0 who role).toArray] W fun r w' => r = .returned (.agg (tellG st a who role).1.cells.toArray) ∧ Below W.heap.size W w') := ⟨fun h => by
    have ha8 := (forbN_zero h).1
    have e1 : tellG st a who role = (nextE st a.toNat (evK 3 (0, 0) false 0 who role), 0) := (if_neg (by rw [h]; simp))
    rw [e1]
    exact ⟨a.toNat, by omega, aev_len _ hG.slen, aev_one _, rfl, fun W hW => dnext_any base st p a.toNat (evK 3 (0, 0) false 0 who role) W hW hG (by omega) rfl⟩⟩
  generalize (tellG st a who role).1.cells = TC at HR1 HR3 ⊢
  generalize (tellG st a who role).2 = TN at HR1 HR3 ⊢
  generalize forbN st a (decide (who < 8) && (decide (1 ≤ role) && decide (role ≤ 3))) 3 = fN at HFB HR1 HR3
  have uE := Try.underlying32
  have uD := Try.underlying26
  have iZ : (Try.prog.info? 32).map (·.size) = some zC.length := by show _ = some 17; kernel_rfl
  have h1Z := zC_one
  have HCR : Veil (∀ W, DocAt W base st p → W.cell? ⟨p.D, 0, none⟩ = some (.pointer (some ⟨p.R, 0, none⟩))) := ⟨fun W h => h.cR hG.slen⟩
  obtain ⟨Z, hZ⟩ : ∃ Z, Z = zC := ⟨_, rfl⟩
  obtain ⟨D, hDD⟩ : ∃ q, p.D = q := ⟨_, rfl⟩
  rw [hDD] at HFB HR3 HCR ⊢
  rw [← hZ] at HR1 iZ h1Z
  clear hD hG hDD
  unfold zC at hB0 hz0 hD0
  go_enter Try.func7, Try.ntmps7
  go_upto_region 1 with fail
  refine forget (p := fun y => Code.wp _ _ _ _ y) (fun W => Below w.heap.size w W ∧ CellsAt W w.heap.size 32 Z ∧ DocAt W base st p) ⟨hB0, by rw [hZ]; exact hz0, hD0⟩ ?_
  clear hB0 hz0 hD0
  rintro W ⟨hB, hz, hD⟩
  have hfb := HFB.out W hD
  have hmw := isMember_any who W
  have hgv := isGiven_any role W
  generalize decide (who < 8) = MW at hmw hfb
  generalize (decide (1 ≤ role) && decide (role ≤ 3)) = GV at hgv hfb
  cases MW
  case' false => simp only [Bool.false_and] at hfb
  case' true => simp only [Bool.true_and] at hfb
  all_goals
    go_upto_region 2 with (first
      | (go_at_call 25; refine hmw.mono ?_; rintro y W1 ⟨rfl, h1⟩; replace h1 := h1.symm; subst h1; clear hmw)
      | (go_at_call 26; refine hgv.mono ?_; rintro y W1 ⟨rfl, h1⟩; replace h1 := h1.symm; subst h1; clear hgv)
      | (go_at_call 24; refine hfb.mono ?_; rintro y W2 ⟨rfl, hb2⟩; clear hfb))
  all_goals
    have hB2 := hB.trans (hb2.mono hB.size)
    have hz2 := hz.farM hb2
    have hD2 := hD.far hb2
    try clear hgv
    clear hb2 hB hz hD W
    by_cases h0 : fN = 0
    rotate_left
    · have h0b : (fN == 0) = false := by simpa using h0
      obtain ⟨e1, e2⟩ := HR1.out h0
      have hzz : Z = [.int .u8 0, .int .u32 0, .int .u32 0, .int .u32 0, .int .u32 0, .int .u32 0, .int .u32 0, .int .u32 0, .int .u32 0, .int .u32 0, .int .u8 0, .int .u8 0, .int .u32 0, .bool false, .int .u8 0, .int .u8 0, .int .u8 0] := hZ
      clear e1 e2
      go_wp2_with (refine wpList_stv (cs := [.int .u8 0, .int .u32 0, .int .u32 0, .int .u32 0, .int .u32 0, .int .u32 0, .int .u32 0, .int .u32 0, .int .u32 0, .int .u32 0, .int .u8 0, .int .u8 0, .int .u32 0, .bool false, .int .u8 0, .int .u8 0, .int .u8 0]) rfl 32 _ _ rfl w.heap.size rfl rfl hz2 (by rw [← hzz]; exact iZ) (by rw [hzz]) (by rw [← hzz]; exact h1Z) ?_)
      obtain ⟨e1, e2⟩ := HR1.out h0
      refine bodyPost_ret (results_ct (Try.results7) _ rfl rfl (hz2.setRow _) uE rfl (by rw [← hzz]; exact iZ)) rfl ⟨?_, below_setRow hB2 (Nat.le_refl _) _⟩
      rw [e1, e2, hzz]; rfl
    subst h0
    obtain ⟨n, rfl, hl17, h1c, rfl, hnx⟩ := HR3.out (by first | rfl | trivial)
    have iN : (Try.prog.info? 32).map (·.size) = some TC.length := by rw [hl17]; kernel_rfl
    have HZ17 : Veil (Z.length = 17) := ⟨by rw [hZ]; rfl⟩
    have hnc := hnx W2 hD2
    unfold evKC at hnc
    clear hnx
    go_wp2_with (first
      | (go_at_call 27; refine hnc.mono ?_; rintro y W5 ⟨rfl, hb5⟩; have hz5 := hz2.farM hb5; clear hnc)
      | (refine wpList_stv (cs := TC) rfl 32 _ _ rfl w.heap.size rfl rfl hz5 iN (by rw [HZ17.out, hl17]) h1c ?_))
    refine bodyPost_ret (results_ct (Try.results7) _ rfl rfl (hz5.setRow _) uE rfl iN) rfl ⟨rfl, below_setRow (hB2.trans (hb5.mono hB2.size)) (Nat.le_refl _) _⟩
end Go.Proofs.Ytgmbmdmbnpkbbaa
