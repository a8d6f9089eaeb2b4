/- Dc13 Ht2 Dc18 Ht3 -/
import Derived.Test.YtgmbmdmbnpkbbaaM43
import Derived.Test.YtgmbmdmbnpkbbaaM45
namespace Go.Proofs.Ytgmbmdmbnpkbbaa
open Go.RowKit Go.Shelf
set_option maxRecDepth 20000
set_option linter.unusedSimpArgs false
set_option maxHeartbeats 16000000 in
theorem dTake_any (base : Nat) (st : Ds) (p : Pl) (a who : Int) (w : World) (hD : DocAt w base st p) (hG : GoodD st) (ha0 : 0 ≤ a) :
    Calls Try.prog 9 #[.pointer (some ⟨p.D, 0, none⟩), .int .u8 a, .int .u8 who] w fun r w' => r = .returned (.tuple #[.agg (tellT st a who).1.cells.toArray, .int .i64 (tellT st a who).2]) ∧ Below w.heap.size w w' := by
  have hB0 : Below w.heap.size w (w.alloc (.cells zC.toArray 32)) := (Below.refl _ _).alloc (Nat.le_refl _) _
  have hz0 := CellsAt.new w 32 zC
  have hD0 := hD.far hB0
  have hsl := hG.slen
  have HFB : Veil (∀ W, DocAt W base st p → Calls Try.prog 24 #[.pointer (some ⟨p.D, 0, none⟩), .int .u8 a, .bool (decide (who < 8)), .int .u8 3] W fun r w' => r = .returned (.int .i64 (forbN st a (decide (who < 8)) 3)) ∧ Below W.heap.size W w') := ⟨fun W h => dforbid_any base st p a (decide (who < 8)) 3 W h hG ha0⟩
  have HR1 : Veil (forbN st a (decide (who < 8)) 3 ≠ 0 → (tellT st a who).1.cells = zC ∧ (tellT st a who).2 = forbN st a (decide (who < 8)) 3) := ⟨fun h => by
    have : tellT st a who = (evZ0, forbN st a (decide (who < 8)) 3) := if_pos h
    rw [this]; exact ⟨rfl, rfl⟩⟩
  have HR3 : Veil (forbN st a (decide (who < 8)) 3 = 0 → ∃ n : Nat, a = (n : Int) ∧ (tellT st a who).1.cells.length = 17 ∧ (∀ u ∈ (tellT st a who).1.cells, u.oneCell' = true) ∧ (tellT st a who).2 = 0 ∧ ∀ W, DocAt W base st p → Calls Try.prog 27 #[.pointer (some ⟨p.D, 0, none⟩), .int .u8 (n : Int), .agg (evKC 4 0 0 false 0 who 0).toArray] W fun r w' => r = .returned (.agg (tellT st a who).1.cells.toArray) ∧ Below W.heap.size W w') := ⟨fun h => by
    have ha8 := (forbN_zero h).1
    have e1 : tellT st a who = (nextE st a.toNat (evK 4 (0, 0) false 0 who 0), 0) := (if_neg (by rw [h]; simp))
    rw [e1]
    exact ⟨a.toNat, by omega, aev_len _ hG.slen, aev_one _, rfl, fun W hW => dnext_any base st p a.toNat (evK 4 (0, 0) false 0 who 0) W hW hG (by omega) rfl⟩⟩
  generalize (tellT st a who).1.cells = TC at HR1 HR3 ⊢
  generalize (tellT st a who).2 = TN at HR1 HR3 ⊢
  generalize forbN st a (decide (who < 8)) 3 = fN at HFB HR1 HR3
  have uE := Try.underlying32
  have uD := Try.underlying26
  have iZ : (Try.prog.info? 32).map (·.size) = some zC.length := by show _ = some 17; kernel_rfl
  have h1Z := zC_one
  have HCR : Veil (∀ W, DocAt W base st p → W.cell? ⟨p.D, 0, none⟩ = some (.pointer (some ⟨p.R, 0, none⟩))) := ⟨fun W h => h.cR hG.slen⟩
  obtain ⟨Z, hZ⟩ : ∃ Z, Z = zC := ⟨_, rfl⟩
  obtain ⟨D, hDD⟩ : ∃ q, p.D = q := ⟨_, rfl⟩
  rw [hDD] at HFB HR3 HCR ⊢
  rw [← hZ] at HR1 iZ h1Z
  clear hD hG hDD
  unfold zC at hB0 hz0 hD0
  go_enter Try.func9, Try.ntmps9
  go_upto_region 1 with fail
  refine forget (p := fun y => Code.wp _ _ _ _ y) (fun W => Below w.heap.size w W ∧ CellsAt W w.heap.size 32 Z ∧ DocAt W base st p) ⟨hB0, by rw [hZ]; exact hz0, hD0⟩ ?_
  clear hB0 hz0 hD0
  rintro W ⟨hB, hz, hD⟩
  have hfb := HFB.out W hD
  have hmw := isMember_any who W
  go_upto_region 2 with (first
    | (go_at_call 25; refine hmw.mono ?_; rintro y W1 ⟨rfl, h1⟩; replace h1 := h1.symm; subst h1; clear hmw)
    | (go_at_call 24; refine hfb.mono ?_; rintro y W2 ⟨rfl, hb2⟩; clear hfb))
  have hB2 := hB.trans (hb2.mono hB.size)
  have hz2 := hz.farM hb2
  have hD2 := hD.far hb2
  clear hb2 hB hz hD W
  by_cases h0 : fN = 0
  rotate_left
  · have h0b : (fN == 0) = false := by simpa using h0
    obtain ⟨e1, e2⟩ := HR1.out h0
    have hzz : Z = [.int .u8 0, .int .u32 0, .int .u32 0, .int .u32 0, .int .u32 0, .int .u32 0, .int .u32 0, .int .u32 0, .int .u32 0, .int .u32 0, .int .u8 0, .int .u8 0, .int .u32 0, .bool false, .int .u8 0, .int .u8 0, .int .u8 0] := hZ
    clear e1 e2
    go_wp2_with (refine wpList_stv (cs := [.int .u8 0, .int .u32 0, .int .u32 0, .int .u32 0, .int .u32 0, .int .u32 0, .int .u32 0, .int .u32 0, .int .u32 0, .int .u32 0, .int .u8 0, .int .u8 0, .int .u32 0, .bool false, .int .u8 0, .int .u8 0, .int .u8 0]) rfl 32 _ _ rfl w.heap.size rfl rfl hz2 (by rw [← hzz]; exact iZ) (by rw [hzz]) (by rw [← hzz]; exact h1Z) ?_)
    obtain ⟨e1, e2⟩ := HR1.out h0
    refine bodyPost_ret (results_ct (Try.results9) _ rfl rfl (hz2.setRow _) uE rfl (by rw [← hzz]; exact iZ)) rfl ⟨?_, below_setRow hB2 (Nat.le_refl _) _⟩
    rw [e1, e2, hzz]; rfl
  subst h0
  obtain ⟨n, rfl, hl17, h1c, rfl, hnx⟩ := HR3.out (by first | rfl | trivial)
  have iN : (Try.prog.info? 32).map (·.size) = some TC.length := by rw [hl17]; kernel_rfl
  have HZ17 : Veil (Z.length = 17) := ⟨by rw [hZ]; rfl⟩
  have hnc := hnx W2 hD2
  unfold evKC at hnc
  clear hnx
  go_wp2_with (first
    | (go_at_call 27; refine hnc.mono ?_; rintro y W5 ⟨rfl, hb5⟩; have hz5 := hz2.farM hb5; clear hnc)
    | (refine wpList_stv (cs := TC) rfl 32 _ _ rfl w.heap.size rfl rfl hz5 iN (by rw [HZ17.out, hl17]) h1c ?_))
  refine bodyPost_ret (results_ct (Try.results9) _ rfl rfl (hz5.setRow _) uE rfl iN) rfl ⟨rfl, below_setRow (hB2.trans (hb5.mono hB2.size)) (Nat.le_refl _) _⟩
def AtD (base : Nat) (W : World) (st : Ds) (D : Nat) : Prop := ∃ p, p.D = D ∧ DocAt W base st p ∧ ∀ k, docP p k → base ≤ k
theorem AtD.far {base : Nat} {W W' : World} {st : Ds} {D : Nat} (h : AtD base W st D) (hb : Below W.heap.size W W') : AtD base W' st D := by
  obtain ⟨p, h1, h2, h3⟩ := h
  exact ⟨p, h1, h2.far hb, h3⟩
theorem AtD.to {base : Nat} {W W' : World} {st' : Ds} {D : Nat} {p p' : Pl} (hD : p.D = D) (ha : ∀ k, docP p k → base ≤ k) (h : DocAt W' base st' p') (ht : DocTo p p' W W') (hb : base ≤ W.heap.size) : AtD base W' st' D ∧ Below base W W' :=
  ⟨⟨p', ht.at_.trans hD, h, fun k q => by
    rcases ht.own k q with r | r
    · exact ha k r
    · omega⟩, ht.turn.below hb ha⟩
theorem AtD.new (w : World) : Calls Try.prog 6 #[] w fun r w' => ∃ D, r = .returned (.pointer (some ⟨D, 0, none⟩)) ∧ AtD w.heap.size w' newS D ∧ Below w.heap.size w w' :=
  (dNew_any w).mono fun _ _ ⟨p, h1, h2, h3, h4⟩ => ⟨p.D, h1, ⟨p, rfl, h2, h4⟩, h3⟩
set_option maxHeartbeats 4000000 in
theorem applied_any (base : Nat) (st : Ds) (D : Nat) (e : Ev) (w : World) (hA : AtD base w st D) (hG : GoodD st) (he : e.Ok) (hr : refD st e = 0) (hbase : base ≤ w.heap.size) :
    Calls Try.prog 8 #[.pointer (some ⟨D, 0, none⟩), .agg e.cells.toArray, .int .i64 0] w fun r w' => r = .returned (.bool true) ∧ AtD base w' (apS st e) D ∧ Below base w w' := by
  have hB0 : Below w.heap.size w (w.alloc (.cells e.cells.toArray 32)) := (Below.refl _ _).alloc (Nat.le_refl _) _
  have hx0 := CellsAt.new w 32 e.cells
  have he1 := aev_len e he.past
  have iE : (Try.prog.info? 32).map (·.size) = some e.cells.length := by rw [he1]; kernel_rfl
  have uE := Try.underlying32
  have hdo : doS st e = apS st e := if_pos hr
  obtain ⟨p, hpD, hD, hab⟩ := hA
  have hap := dApply_any base st p e _ (hD.far hB0) hG he (Nat.le_trans hbase hB0.size)
  rw [hr, hdo, hpD] at hap
  have hr0 := hx0.wholeM
  generalize e.cells = E at hB0 hx0 iE hap hr0 ⊢
  have HAB := Veil.mk hab
  have HPD := Veil.mk hpD
  have HB0 := Veil.mk hB0
  clear hD he hG hdo he1 hr hx0 hab hpD hB0
  go_enter Try.func8, Try.ntmps8
  go_wp2_with (first
    | (refine wpList_ldgv (by kernel_rfl) 32 _ rfl w.heap.size 0 rfl E hr0 uE rfl iE ?_)
    | (go_at_call 12; refine hap.mono ?_; rintro y W1 ⟨rfl, p1, hD1, ht1⟩; clear hap))
  go_ret
  exact ⟨rfl, AtD.to HPD.out HAB.out hD1 ((DocTo.of_below HB0.out).trans ht1) hbase⟩
set_option maxHeartbeats 4000000 in
theorem eCloneD_any (base : Nat) (w : World) (u : Value) (Q : List Ev) (hu : OwnI w base 32 17 u (Q.map Ev.cells)) (hl : Q.length ≤ 1000) :
    Calls Try.prog 34 #[u] w fun e w' => ∃ v', e = .returned v' ∧ OwnI w' w.heap.size 32 17 v' (Q.map Ev.cells) ∧ Below w.heap.size w w' := by
  rcases hu.own.2 with ⟨rfl, h0⟩ | ⟨g, cap, cur, rfl, hbg, hrest⟩
  · have hL : Q.map Ev.cells = [] := List.length_eq_zero_iff.1 h0
    have hnil : ∀ wx : World, (binOp BinOp.eql 50 (.slice none 0 0) (.slice none 0 0)).run Try.prog wx = .ok (.bool true) wx := fun _ => by kernel_rfl
    rw [hL]
    clear hu hL h0
    go_enter Try.func34, Try.ntmps34
    go_wp2
    go_ret
    exact ⟨_, rfl, OwnI.nil _ _ _ _, Below.refl _ _⟩
  · have hB : Below w.heap.size w (w.alloc (.cells #[] 32)) := (Below.refl _ _).alloc (Nat.le_refl _) _
    have hE := OwnI.empty w 32 17
    have hu1 := hu.far hB
    have hone : ∀ c ∈ Q.map Ev.cells, ∀ u ∈ c, u.oneCell' = true := fun c hc u hu => by
      obtain ⟨q, _, rfl⟩ := List.mem_map.1 hc
      exact aev_one q u hu
    have hap := hE.apps (P := Try.prog) 50 50 Try.underlying50 infoE17D (by rfl) (by decide) (Q.map Ev.cells) hu.each hone base _ hu1 (by simp; omega) (by decide) (by simp)
    rw [List.nil_append] at hap
    have hnil : ∀ (n : Nat) (wx : World), (binOp BinOp.eql 50 (.slice (some ⟨g, 0, none⟩) n cap) (.slice none 0 0)).run Try.prog wx = .ok (.bool false) wx := fun _ _ => by kernel_rfl
    have HAP := Veil.mk hap
    generalize (Q.map Ev.cells).length = n at HAP hnil ⊢
    have hnl := hnil n
    clear hu hE hu1 hone hrest hnil hap
    go_enter Try.func34, Try.ntmps34
    go_wp2_with (at_builtin; obtain ⟨v1, w1, hr1, ho1, hg1, _⟩ := HAP.out; refine wpList_appx rfl _ _ 50 50 rfl _ _ _ _ rfl rfl hr1 ?_)
    go_ret
    refine ⟨_, rfl, ho1, ?_⟩
    exact hB.grown hg1 (by simp) (fun k hk => by cases hk; exact Nat.le_refl _)
set_option maxHeartbeats 4000000 in
theorem dEvents_any (base : Nat) (st : Ds) (p : Pl) (w : World) (hD : DocAt w base st p) (hG : GoodD st) :
    Calls Try.prog 19 #[.pointer (some ⟨p.D, 0, none⟩)] w fun r w' => ∃ v, r = .returned v ∧ OwnI w' w.heap.size 32 17 v (st.L.map Ev.cells) ∧ Below w.heap.size w w' := by
  have hcl := eCloneD_any base w p.v st.L hD.evs (by have := hG.llen; omega)
  have c10 := hD.cV hG.slen
  obtain ⟨x, c, hv⟩ := hD.evs.isSlice
  rw [hv] at hcl c10
  generalize (st.L.map Ev.cells).length = n at hcl c10
  generalize p.D = D at c10 ⊢
  clear hD hG hv
  go_enter Try.func19, Try.ntmps19
  go_wp2_with (go_at_call 34; refine hcl.mono ?_; rintro y W1 ⟨v, rfl, ho, hb⟩)
  go_ret
  exact ⟨v, rfl, ho, hb⟩
def playD (L : List Ev) : Ds := L.foldl doS newS
def Made (st : Ds) : Prop := playD st.L = st
theorem Made.new : Made newS := rfl
theorem playD_snoc (L : List Ev) (e : Ev) : playD (L ++ [e]) = doS (playD L) e := by unfold playD; rw [List.foldl_append]; rfl
theorem Made.ap {st : Ds} (h : Made st) {e : Ev} (hr : refD st e = 0) : Made (apS st e) := by
  unfold Made at *
  show playD (st.L ++ [e]) = _
  rw [playD_snoc, h]
  exact if_pos hr
theorem GoodD.play {L : List Ev} (h : ∀ e ∈ L, e.Ok) : GoodD (playD L) := by
  have key : ∀ (L : List Ev) (st : Ds), GoodD st → (∀ e ∈ L, e.Ok) → GoodD (L.foldl doS st) := fun L => by
    induction L with
    | nil => exact fun st h _ => h
    | cons e L ih => exact fun st h he => ih _ (h.does (he e (by simp))) (fun x hx => he x (by simp [hx]))
  exact key L newS GoodD.new h
theorem OwnI.turnedD {p : Nat → Prop} {w w' : World} {base : Nat} {t : TypeId} {k : Nat} {v : Value} {L : List (List Value)} (h : OwnI w base t k v L) (ht : Turn p w w') (hp : ∀ g, v.ownBlock = some g → ¬ p g) : OwnI w' base t k v L := h.congr fun g hg => ht.block g (h.blockLt g hg).1 (hp g hg)
structure CopI (w0 wr : World) (B : Nat) (D : Nat) (v : Value) (L : List Ev) (i : Nat) (p : Pl) : Prop where
  at_ : p.D = D
  doc : DocAt wr w0.heap.size (playD (L.take i)) p
  above : ∀ k, docP p k → w0.heap.size ≤ k
  own : OwnI wr B 32 17 v (L.map Ev.cells)
  apart : ∀ g, v.ownBlock = some g → ¬ docP p g
  below : Below w0.heap.size w0 wr
theorem CopI.to {w0 wr w' : World} {B D : Nat} {v : Value} {L : List Ev} {i : Nat} {p p' : Pl} (h : CopI w0 wr B D v L i p) (hi : i < L.length) (hD : DocAt w' w0.heap.size (doS (playD (L.take i)) L[i]) p') (ht : DocTo p p' wr w') : CopI w0 w' B D v L (i + 1) p' where
  at_ := ht.at_.trans h.at_
  doc := by rw [List.take_succ_eq_append_getElem hi, playD_snoc]; exact hD
  above := fun k q => by
    rcases ht.own k q with r | r
    · exact h.above k r
    · have := h.below.size; omega
  own := h.own.turnedD ht.turn h.apart
  apart := fun g hg q => by
    rcases ht.own g q with r | r
    · exact h.apart g hg r
    · have := (h.own.blockLt g hg).1; omega
  below := h.below.trans (ht.turn.below h.below.size h.above)
set_option maxHeartbeats 8000000 in
theorem copied_any (base : Nat) (st : Ds) (D : Nat) (w : World) (hA : AtD base w st D) (hG : GoodD st) (hM : Made st) :
    Calls Try.prog 11 #[.pointer (some ⟨D, 0, none⟩)] w fun r w' => ∃ D', r = .returned (.pointer (some ⟨D', 0, none⟩)) ∧ AtD w.heap.size w' st D' ∧ Below w.heap.size w w' := by
  have hnew := dNew_any w
  have HEV : Veil (∀ W, Below w.heap.size w W → Calls Try.prog 19 #[.pointer (some ⟨D, 0, none⟩)] W fun r w' => ∃ x c, r = .returned (.slice x st.L.length c) ∧ OwnI w' W.heap.size 32 17 (.slice x st.L.length c) (st.L.map Ev.cells) ∧ Below W.heap.size W w') := ⟨fun W hb => by
    obtain ⟨p, rfl, hD, -⟩ := hA.far hb
    refine (dEvents_any base st p W hD hG).mono ?_
    rintro r w' ⟨v, h1, h2, h3⟩
    obtain ⟨x, c, hv⟩ := h2.isSlice
    rw [List.length_map] at hv
    subst hv
    exact ⟨x, c, h1, h2, h3⟩⟩
  have hml : playD st.L = st := hM
  have hlok := hG.lok
  have hl5 := hG.llen
  obtain ⟨L, hL⟩ : ∃ q, st.L = q := ⟨_, rfl⟩
  rw [hL] at HEV hml hlok hl5
  obtain ⟨n, hn⟩ : ∃ q, L.length = q := ⟨_, rfl⟩
  have HML := Veil.mk hml
  have HOK := Veil.mk hlok
  have HN := Veil.mk hn
  rw [hn] at HEV hl5
  have uE := Try.underlying32
  clear hA hG hM hL hml hlok hn
  go_enter Try.func11, Try.ntmps11
  go_upto_region 3 with (first
    | (go_at_call 6; refine hnew.mono ?_; rintro z W1 ⟨p1, rfl, hD1, hB1, hab1⟩; have hev := HEV.out W1 hB1; clear hnew)
    | (go_at_call 19; refine hev.mono ?_; rintro z W2 ⟨x, c, rfl, ho2, hb2⟩; clear hev))
  have HI0 : CopI w W2 W1.heap.size p1.D (.slice x n c) L 0 p1 := ⟨rfl, hD1.far hb2, hab1, ho2, (fun g hg q => by have := (ho2.blockLt g hg).2.1; have := hD1.blockLt g q; omega), hB1.trans (hb2.mono hB1.size)⟩
  generalize W1.heap.size = B1 at HI0
  generalize p1.D = D1 at HI0 ⊢
  clear hD1 hB1 hab1 ho2 hb2 HEV W1
  go_wp2_with fail
  go_loopw [5] (fun iv wr => ∃ (i : Nat) (p : Pl), iv = .int .i64 (i : Nat) ∧ i ≤ n ∧ CopI w wr B1 D1 (.slice x n c) L i p) (fun iv _ => n - (intOf iv).toNat)
  case atStart => exact ⟨0, p1, rfl, Nat.zero_le _, HI0⟩
  case round =>
    obtain ⟨i, p, rfl, hi, hI⟩ := hrel
    clear HI0
    by_cases hlt : i < n
    · have hiL : i < L.length := by have := HN.out; omega
      have d1 : decide ((i : Int) < (n : Int)) = true := by simp; omega
      have l1 : (i : Int) < (n : Int) := by omega
      have hi0 : (0 : Int) ≤ (i : Int) := by omega
      have hww : IntKind.i64.wrap ((i : Int) + 1) = (i : Int) + 1 := by rw [IntKind.wrap_i64]; omega
      obtain ⟨g, rfl, -, hrg⟩ := hI.own.at_ i (by rw [List.length_map]; exact hiL)
      rw [List.getElem_map] at hrg
      have hap := dApply_any w.heap.size _ p L[i] wr hI.doc (GoodD.play fun e he => HOK.out e (List.mem_of_mem_take he)) (HOK.out _ (List.getElem_mem hiL)) hI.below.size
      rw [hI.at_] at hap
      have he1 := aev_len L[i] (HOK.out _ (List.getElem_mem hiL)).past
      have iE : (Try.prog.info? 32).map (·.size) = some L[i].cells.length := by rw [he1]; kernel_rfl
      have HST : Veil (∀ w' p', DocAt w' w.heap.size (doS (playD (L.take i)) L[i]) p' → DocTo p p' wr w' → CopI w w' B1 D1 (.slice (some ⟨g, 0, none⟩) n c) L (i + 1) p') := ⟨fun w' p' h1 h2 => hI.to hiL h1 h2⟩
      generalize doS (playD (L.take i)) L[i] = DS at hap HST
      generalize refD (playD (L.take i)) L[i] = RN at hap
      generalize L[i].cells = E at hap hrg iE he1
      clear hI hiL he1
      go_wp2_with (first
        | (refine wpList_ldv rfl 32 _ rfl g (i * 17) rfl E hrg uE rfl iE ?_)
        | (go_at_call 12; refine hap.mono ?_; rintro z W3 ⟨rfl, p3, hD3, ht3⟩; have hI3 := HST.out W3 p3 hD3 ht3; clear hap hD3 ht3))
      go_roundw
      case rel => exact ⟨i + 1, p3, by push_cast; rfl, hlt, hI3⟩
      case measure => simp [intOf]; omega
    · obtain rfl : i = n := by omega
      have d1 : decide ((i : Int) < (i : Int)) = false := by simp
      have l1 : ¬ (i : Int) < (i : Int) := by omega
      have hfin : DocAt wr w.heap.size st p := by
        have := hI.doc
        rw [List.take_of_length_le (by have := HN.out; omega), HML.out] at this
        exact this
      go_wp2
      go_ret
      exact ⟨D1, rfl, ⟨p, hI.at_, hfin, hI.above⟩, hI.below⟩
end Go.Proofs.Ytgmbmdmbnpkbbaa
