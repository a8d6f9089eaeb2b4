/- Fr11 De10 -/
import Derived.Test.YtmbdohnmbkpfaaaGreatV40
import Derived.Test.YtmbdohnmbkpfaaaGreatV34
import Derived.Test.YtmbdohnmbkpfaaaGreatV39
namespace Go.Proofs.YtmbdohnmbkpfaaaGreat
open Go.RowKit Go.Shelf
set_option maxRecDepth 20000
set_option linter.unusedSimpArgs false
def NextAt (M : List (Int × Int)) (x : Int × Int) (k m : Nat) : Prop := (m = 0 ∧ ∀ j (hj : j < M.length), j < k → M[j] ≠ x) ∨ ∃ j, ∃ hj : j < M.length, j < k ∧ m = j + 1 ∧ M[j] = x
theorem NextAt.zero (M : List (Int × Int)) (x : Int × Int) : NextAt M x 0 0 := .inl ⟨rfl, fun j hj h => by omega⟩
theorem NextAt.yes {M : List (Int × Int)} {x : Int × Int} {k : Nat} (hk : k < M.length) (h : M[k] = x) : NextAt M x (k + 1) (k + 1) := .inr ⟨k, hk, by omega, rfl, h⟩
theorem NextAt.no {M : List (Int × Int)} {x : Int × Int} {k m : Nat} (hk : k < M.length) (h : M[k] ≠ x) (hm : NextAt M x k m) : NextAt M x (k + 1) m := by
 rcases hm with ⟨h1, h2⟩ | ⟨j, hj, h1, h2, h3⟩
 · refine .inl ⟨h1, fun j hj hjk => ?_⟩
   rcases Nat.lt_or_eq_of_le (Nat.le_of_lt_succ hjk) with q | q
   · exact h2 j hj q
   · subst q; exact h
 · exact .inr ⟨j, hj, by omega, h2, h3⟩
theorem NextAt.le {M : List (Int × Int)} {x : Int × Int} {k m : Nat} (h : NextAt M x k m) : m ≤ k := by rcases h with ⟨h1, _⟩ | ⟨j, hj, h1, h2, _⟩ <;> omega
theorem next_is {N : List Nd} (hN : TreeOk N) {x y : Int × Int} (hx : x = (0, 0) ∨ x ∈ walkA N rootS) (hy : (walkA N (x, true)).head? = some y) {m : Nat} (hm : NextAt (walkA N rootS) x (walkA N rootS).length m) : ∃ hm : m < (walkA N rootS).length, (walkA N rootS)[m] = y := by
 obtain ⟨t, ht⟩ : ∃ t, walkA N (x, true) = y :: t := by
  cases h : walkA N (x, true) with
  | nil => rw [h] at hy; cases hy
  | cons a t => rw [h] at hy; cases hy; exact ⟨t, rfl⟩
 rcases hx with rfl | hx
 · have h0 := not_mem_root hN.rooted rootS
   rcases hm with ⟨rfl, _⟩ | ⟨j, hj, _, _, e⟩
   · have h1 : walkA N rootS = y :: t := ht
     exact ⟨by rw [h1]; simp, by simp only [h1]; rfl⟩
   · exact absurd (by rw [← e]; exact List.getElem_mem hj) h0
 · have hnd := nodup_root hN.rooted
   obtain ⟨A, B, e⟩ := split_walk hN.rooted rootS x hx
   unfold blockN at e
   rw [ht] at e
   have e2 : walkA N rootS = (A ++ walkA N (x, false)) ++ x :: y :: (t ++ B) := by rw [e]; simp
   generalize walkA N rootS = M at *
   generalize A ++ walkA N (x, false) = C at e2
   subst e2
   rcases hm with ⟨_, h2⟩ | ⟨j, hj, h1, rfl, h3⟩
   · exact absurd (by simp) (h2 C.length (by simp) (by simp))
   · have hC : C.length < (C ++ x :: y :: (t ++ B)).length := by simp
     have hj2 : j = C.length := (List.getElem_inj hnd (h₀ := hj) (h₁ := hC)).1 (by rw [h3]; simp)
     subst hj2
     refine ⟨by simp, ?_⟩
     rw [List.getElem_append_right (by omega)]
     simp
theorem kids_head {N : List Nd} (hN : Rooted N) (s : (Int × Int) × Bool) : ((kids N s).length = 0 ∧ (walkA N s).head? = none) ∨ ((kids N s).length ≠ 0 ∧ ∃ y, (walkA N s).head? = some y) := by
 cases h : kids N s with
 | nil => exact .inl ⟨rfl, by rw [walk_empty hN h]; rfl⟩
 | cons a l =>
  refine .inr ⟨by simp, ?_⟩
  cases hw : walkA N s with
  | nil => rw [walk_nil hN hw] at h; cases h
  | cons y t => exact ⟨y, rfl⟩
theorem text_len (N : List Nd) : (textN N).length = (wrN N).length := by unfold textN; rw [List.length_map]
theorem leftN_far {N : List Nd} {i : Int} (h : i < 0 ∨ ((textN N).length : Int) < i) : placeN N i = ((0, 0), false, 2) := by
 have h2 : (leftN N i).2 = 2 := by
  unfold leftN
  rcases h with h | h
  · rw [if_pos h]
  · rw [if_neg (by omega), if_neg (by omega)]
    have : atN N (i - 1) = none := atN_miss N (i - 1) (.inr (by rw [text_len] at h; unfold wrN at h; omega))
    rw [this]; rfl
 unfold placeN
 rw [h2]; rfl
theorem leftN_near {N : List Nd} (_ : TreeOk N) {i : Int} (h0 : 0 ≤ i) (h : i ≤ ((textN N).length : Int)) : (leftN N i).2 = 0 ∧ ((leftN N i).1 = (0, 0) ∨ (leftN N i).1 ∈ walkA N rootS) := by
 unfold leftN
 rw [if_neg (by omega)]
 split
 · exact ⟨rfl, .inl rfl⟩
 · rw [text_len] at h
   have hk : (i - 1).toNat < (wrN N).length := by omega
   have : atN N (i - 1) = some ((wrN N)[(i - 1).toNat]) := by unfold atN; rw [if_neg (by omega), List.getElem?_eq_getElem hk]
   rw [this]
   exact ⟨rfl, .inr ((List.mem_filter.1 (List.getElem_mem hk)).1)⟩
set_option maxHeartbeats 16000000 in
theorem rplace_any (base R : Nat) (v : Value) (N : List Nd) (hN : TreeOk N) (hlen : N.length ≤ 1000) (i : Int) (w : World) (hT : RefT w base R v N) :
    Calls Tryz.prog 88 #[.pointer (some ⟨R, 0, none⟩), .int .i64 i] w fun e w' => e = .returned (.tuple #[.agg (encF (placeN N i).1).toArray, .bool (placeN N i).2.1, .int .i64 (placeN N i).2.2]) ∧ Below w.heap.size w w' := by
 have hB : Below w.heap.size w (w.alloc (.cells #[.int .u8 0, .int .u32 0] 40)) := (Below.refl _ _).alloc (Nat.le_refl _) _
 have hc := CellsAt.new w 40 [.int .u8 0, .int .u32 0]
 have HTX : Veil (∀ W, Below w.heap.size w W → Calls Tryz.prog 68 #[.pointer (some ⟨R, 0, none⟩)] W fun e w' => ∃ x c, e = .returned (.slice x (textN N).length c) ∧ Below W.heap.size W w') := ⟨fun W hb => (rtext_any base R v N hN hlen W (hT.far hb)).mono fun e w' ⟨v, h1, h2, h3⟩ => by
  obtain ⟨x, n, c, rfl, rfl⟩ := h2.isSlice
  exact ⟨x, c, h1, h3⟩⟩
 have HAT : Veil (∀ W, Below w.heap.size w W → Calls Tryz.prog 89 #[.pointer (some ⟨R, 0, none⟩), .int .i64 (i - 1)] W fun e w' => e = .returned (.tuple #[.agg (encF (atD (atN N (i - 1)))).toArray, .int .i64 (atE (atN N (i - 1)))]) ∧ Below W.heap.size W w') := ⟨fun W hb => rat2_any base R v N hN hlen (i - 1) W (hT.far hb)⟩
 have HKD : Veil (∀ (x : Int × Int) W, Below w.heap.size w W → Calls Tryz.prog 111 #[.pointer (some ⟨R, 0, none⟩), .agg (encF x).toArray, .bool true] W fun e w' => ∃ y c, e = .returned (.slice y (kids N (x, true)).length c) ∧ Below W.heap.size W w') := ⟨fun x W hb => (rkids_any base R v N (x, true) hN.rooted.nodup W (hT.far hb)).mono fun e w' ⟨v, h1, h2, h3⟩ => by
  obtain ⟨y, c, rfl⟩ := h2.isSlice
  rw [List.length_map] at h1
  exact ⟨y, c, h1, h3⟩⟩
 have HAL : Veil (∀ W, Below w.heap.size w W → Calls Tryz.prog 90 #[.pointer (some ⟨R, 0, none⟩)] W fun e w' => ∃ x c, e = .returned (.slice x N.length c) ∧ OwnI w' W.heap.size 124 6 (.slice x N.length c) ((walkA N rootS).map (cF N)) ∧ Below W.heap.size W w') := ⟨fun W hb => rall_any base R v N hN hlen W (hT.far hb)⟩
 have uD := Tryz.underlying40
 have iZ : (Tryz.prog.info? 40).map (·.size) = some [Value.int .u8 0, Value.int .u32 0].length := sizeDot
 have hz1 : ∀ v ∈ [Value.int .u8 0, Value.int .u32 0], v.oneCell' = true := encF_one (0, 0)
 have HFAR := Veil.mk (fun h => leftN_far (N := N) (i := i) h)
 have HNEAR := Veil.mk (fun h0 h => leftN_near hN (i := i) h0 h)
 have HML : Veil ((walkA N rootS).length = N.length) := ⟨hN.len⟩
 have HMI : Veil (∀ x ∈ walkA N rootS, ∃ m ∈ N, m.id = x) := ⟨fun x hx => mem_walk hN.rooted rootS x hx⟩
 have HOK := Veil.mk hN
 have HL1 : Veil (leftN N i = if i < 0 then ((0, 0), 2) else if i = 0 then ((0, 0), 0) else (atD (atN N (i - 1)), atE (atN N (i - 1)))) := ⟨rfl⟩
 have HP1 : Veil ((leftN N i).2 = 0 → placeN N i = match (walkA N ((leftN N i).1, true)).head? with | some x => (x, false, 0) | none => ((leftN N i).1, true, 0)) := ⟨fun h => by unfold placeN; rw [if_neg (by rw [h]; simp)]; cases (walkA N ((leftN N i).1, true)).head? <;> rfl⟩
 have HC0 : Veil (∀ W, Below w.heap.size w W → CellsAt W w.heap.size 40 [.int .u8 0, .int .u32 0] → ∀ a b : Int, CellsAt (W.setRow w.heap.size #[.int .u8 a, .int .u32 b]) w.heap.size 40 [.int .u8 a, .int .u32 b] ∧ Below w.heap.size w (W.setRow w.heap.size #[.int .u8 a, .int .u32 b])) := ⟨fun W hb h a b => ⟨h.setRow [.int .u8 a, .int .u32 b], below_setRowN hb (Nat.le_refl _) _⟩⟩
 obtain ⟨PL, hPL⟩ : ∃ q, placeN N i = q := ⟨_, rfl⟩
 rw [hPL] at HFAR HP1 ⊢
 have HTL : Veil ((textN N).length ≤ 1000) := ⟨by rw [text_len]; unfold wrN; have h1 := List.length_filter_le (writB N) (walkA N rootS); rw [hN.len] at h1; omega⟩
 obtain ⟨tn, htn⟩ : ∃ q, (textN N).length = q := ⟨_, rfl⟩
 rw [htn] at HTX HFAR HNEAR HTL
 obtain ⟨n, hn⟩ : ∃ q, N.length = q := ⟨_, rfl⟩
 rw [hn] at HAL HML hlen
 clear hT hN hPL htn hn
 go_enter Tryz.func88, Tryz.ntmps88
 go_upto_region 3 with fail
 refine forget (p := fun y => Code.wp _ _ _ _ y) (fun W => Below w.heap.size w W ∧ CellsAt W w.heap.size 40 [.int .u8 0, .int .u32 0]) ⟨hB, hc⟩ ?_
 clear hB hc
 rintro W0 ⟨hB0, hc0⟩
 by_cases hneg : i < 0
 · have HE : Veil (PL = ((0, 0), false, 2)) := ⟨HFAR.out (.inl hneg)⟩
   have hdn : decide (i < 0) = true := by simpa using hneg
   have HEND := Veil.mk (HC0.out W0 hB0 hc0 0 0)
   clear HFAR HNEAR HP1 HL1 HTX HAT HKD HAL hB0
   go_upto_region 4 with fail
   go_wp2_with (refine wpList_stv rfl 40 (.tmp 4) _ rfl w.heap.size rfl (cs := [.int .u8 0, .int .u32 0]) rfl hc0 iZ rfl hz1 ?_)
   refine bodyPost_ret (results_ctt (Tryz.results88) _ rfl rfl rfl HEND.out.1 uD rfl iZ) rfl ⟨by rw [HE.out]; rfl, HEND.out.2⟩
 have hdn : decide (i < 0) = false := by simpa using hneg
 have htx := HTX.out W0 hB0
 by_cases hfar : (tn : Int) < i
 · have HE : Veil (PL = ((0, 0), false, 2)) := ⟨HFAR.out (.inr hfar)⟩
   have hdf : decide ((tn : Int) < i) = true := by simpa using hfar
   have HC1 : Veil (∀ W1, Below W0.heap.size W0 W1 → CellsAt W1 w.heap.size 40 [.int .u8 0, .int .u32 0] ∧ CellsAt (W1.setRow w.heap.size #[.int .u8 0, .int .u32 0]) w.heap.size 40 [.int .u8 0, .int .u32 0] ∧ Below w.heap.size w (W1.setRow w.heap.size #[.int .u8 0, .int .u32 0])) := ⟨fun W1 hb => ⟨hc0.farM hb, HC0.out W1 (hB0.trans (hb.mono hB0.size)) (hc0.farM hb) 0 0⟩⟩
   clear HFAR HNEAR HP1 HL1 HTX HAT HKD HAL hB0 hc0
   go_upto_region 4 with (go_at_call 68; refine htx.mono ?_; rintro z W1 ⟨tx, tc, rfl, hb1⟩)
   obtain ⟨hc1, hE1⟩ := HC1.out W1 hb1
   have HEND := Veil.mk hE1
   clear htx hE1 HC1 hb1
   go_wp2_with (refine wpList_stv rfl 40 (.tmp 4) _ rfl w.heap.size rfl (cs := [.int .u8 0, .int .u32 0]) rfl hc1 iZ rfl hz1 ?_)
   refine bodyPost_ret (results_ctt (Tryz.results88) _ rfl rfl rfl HEND.out.1 uD rfl iZ) rfl ⟨by rw [HE.out]; rfl, HEND.out.2⟩
 have hdf : decide ((tn : Int) < i) = false := by simpa using hfar
 obtain ⟨hl0, hlm⟩ := HNEAR.out (by omega) (by omega)
 replace HP1 : Veil (PL = match (walkA N ((leftN N i).1, true)).head? with | some x => (x, false, 0) | none => ((leftN N i).1, true, 0)) := ⟨HP1.out hl0⟩
 have HLM := Veil.mk hlm
 obtain ⟨⟨xa, xb⟩, hx⟩ : ∃ q, (leftN N i).1 = q := ⟨_, rfl⟩
 rw [hx] at HP1 HLM
 have HX := Veil.mk hx
 clear HNEAR HFAR hl0 hlm hx
 have HC1 : Veil (∀ W1, Below W0.heap.size W0 W1 → Below w.heap.size w W1 ∧ CellsAt W1 w.heap.size 40 [.int .u8 0, .int .u32 0]) := ⟨fun W1 hb => ⟨hB0.trans (hb.mono hB0.size), hc0.farM hb⟩⟩
 clear hB0 hc0 HTX
 go_upto_region 5 with (go_at_call 68; refine htx.mono ?_; rintro z W1 ⟨tx, tc, rfl, hb1⟩)
 have hq1 := HC1.out W1 hb1
 have hb2 := (Below.refl W1.heap.size W1).alloc (Nat.le_refl _) (.cells #[.int .u8 0, .int .u32 0] 40)
 have HQ2 : Veil (∀ W, W = (W1.alloc (.cells #[.int .u8 0, .int .u32 0] 40)).setRow W1.heap.size #[.int .u8 0, .int .u32 0] → Below w.heap.size w W ∧ CellsAt W w.heap.size 40 [.int .u8 0, .int .u32 0] ∧ CellsAt W W1.heap.size 40 [.int .u8 0, .int .u32 0]) := ⟨fun W hW => by
  subst hW
  exact ⟨below_setRowN (hq1.1.trans (hb2.mono hq1.1.size)) hq1.1.size _, (hq1.2.farM hb2).setRowM _ (by have := hq1.2.lt; omega), (CellsAt.new W1 40 [.int .u8 0, .int .u32 0]).setRow [.int .u8 0, .int .u32 0]⟩⟩
 have HNE : Veil (w.heap.size ≠ W1.heap.size ∧ w.heap.size ≤ W1.heap.size) := ⟨by have := hq1.2.lt; omega⟩
 clear hq1 hb2 htx HC1 hb1
 go_upto_region 6 with (refine wpList_stv rfl 40 (.tmp 7) _ rfl W1.heap.size rfl (cs := [.int .u8 0, .int .u32 0]) rfl (CellsAt.new W1 40 [.int .u8 0, .int .u32 0]) iZ rfl hz1 ?_)
 refine forget (p := fun y => Code.wp _ _ _ _ y) (fun W => Below w.heap.size w W ∧ CellsAt W w.heap.size 40 [.int .u8 0, .int .u32 0] ∧ CellsAt W W1.heap.size 40 [.int .u8 0, .int .u32 0]) (HQ2.out _ rfl) ?_
 clear HQ2
 rintro W2 ⟨hB2, hc2, hd2⟩
 obtain ⟨bl, hbl⟩ : ∃ q, W1.heap.size = q := ⟨_, rfl⟩
 rw [hbl] at HNE hd2 ⊢
 clear hbl
 have iX : (Tryz.prog.info? 40).map (·.size) = some [Value.int .u8 xa, Value.int .u32 xb].length := sizeDot
 have hx1 : ∀ v ∈ [Value.int .u8 xa, Value.int .u32 xb], v.oneCell' = true := encF_one (xa, xb)
 have hw1 : IntKind.i64.wrap (i - 1) = i - 1 ∨ i = 0 := by
  by_cases h : i = 0
  · exact .inr h
  · refine .inl ?_; rw [IntKind.wrap_i64]; have := HTL.out; omega
 by_cases hz : i = 0
 case' pos =>
  have hdz : decide (0 < i) = false := by simp; omega
  have HX0 : Veil (xa = 0 ∧ xb = 0) := ⟨by have h1 := HX.out; rw [HL1.out, if_neg (by omega), if_pos hz] at h1; cases h1; exact ⟨rfl, rfl⟩⟩
  go_upto_region 8 with fail
  refine forget (p := fun y => Code.wp _ _ _ _ y) (fun W => Below w.heap.size w W ∧ CellsAt W w.heap.size 40 [.int .u8 0, .int .u32 0] ∧ CellsAt W bl 40 [.int .u8 xa, .int .u32 xb]) ⟨hB2, hc2, by rw [HX0.out.1, HX0.out.2]; exact hd2⟩ ?_
  clear hdz HX0
 case' neg =>
  have hdz : decide (0 < i) = true := by simp; omega
  have hw2 : IntKind.i64.wrap (i - 1) = i - 1 := by omega
  have hat := HAT.out W2 hB2
  have h1 := HX.out
  rw [HL1.out, if_neg (by omega), if_neg hz] at h1
  simp only at h1
  rw [h1] at hat
  clear h1
  generalize atE (atN N (i - 1)) = EE at hat
  have HS3 : Veil (∀ W3, Below W2.heap.size W2 W3 → CellsAt W3 bl 40 [.int .u8 0, .int .u32 0] ∧ Below w.heap.size w (W3.setRow bl #[.int .u8 xa, .int .u32 xb]) ∧ CellsAt (W3.setRow bl #[.int .u8 xa, .int .u32 xb]) w.heap.size 40 [.int .u8 0, .int .u32 0] ∧ CellsAt (W3.setRow bl #[.int .u8 xa, .int .u32 xb]) bl 40 [.int .u8 xa, .int .u32 xb]) := ⟨fun W3 hb => by
   have h3 := hd2.farM hb
   exact ⟨h3, below_setRowN (hB2.trans (hb.mono hB2.size)) HNE.out.2 _, (hc2.farM hb).setRowM _ HNE.out.1, h3.setRow [.int .u8 xa, .int .u32 xb]⟩⟩
  simp only [encF, dotC] at hat
  go_upto_region 8 with (first
   | (go_at_call 89; refine hat.mono ?_; rintro z W3 ⟨rfl, hb3⟩; obtain ⟨hd3, hE3⟩ := HS3.out W3 hb3; have HE3 := Veil.mk hE3; clear hat hE3)
   | (refine wpList_stv rfl 40 (.tmp 7) _ rfl bl rfl (cs := [.int .u8 xa, .int .u32 xb]) rfl hd3 iX rfl hx1 ?_))
  refine forget (p := fun y => Code.wp _ _ _ _ y) (fun W => Below w.heap.size w W ∧ CellsAt W w.heap.size 40 [.int .u8 0, .int .u32 0] ∧ CellsAt W bl 40 [.int .u8 xa, .int .u32 xb]) HE3.out ?_
  clear hdz hw2 HE3 HS3 hd3 hb3
 all_goals (
  clear hB2 hc2 hd2 hw1 hz HAT HL1 HX
  rintro W4 ⟨hB4, hc4, hd4⟩
  have HE4 : Veil (∀ W, Below W4.heap.size W4 W → Below w.heap.size w W ∧ CellsAt W w.heap.size 40 [.int .u8 0, .int .u32 0] ∧ CellsAt W bl 40 [.int .u8 xa, .int .u32 xb]) := ⟨fun W hb => ⟨hB4.trans (hb.mono hB4.size), hc4.farM hb, hd4.farM hb⟩⟩
  have hkd := HKD.out (xa, xb) W4 hB4
  simp only [encF, dotC] at hkd
  have rd4 := hd4.wholeM
  have HKH := Veil.mk (kids_head HOK.out.rooted ((xa, xb), true))
  obtain ⟨kn, hkn⟩ : ∃ q, (kids N ((xa, xb), true)).length = q := ⟨_, rfl⟩
  rw [hkn] at hkd HKH
  have HNX : Veil (∀ y m, (walkA N ((xa, xb), true)).head? = some y → NextAt (walkA N rootS) (xa, xb) (walkA N rootS).length m → ∃ hm : m < (walkA N rootS).length, (walkA N rootS)[m] = y) := ⟨fun y m h1 h2 => next_is HOK.out HLM.out h1 h2⟩
  generalize (walkA N ((xa, xb), true)).head? = HD at HP1 HKH HNX
  clear hkn hB4 hc4 hd4 HKD
  rcases HKH.out with ⟨rfl, rfl⟩ | ⟨hkn, y, rfl⟩
  · replace HP1 : Veil (PL = ((xa, xb), true, 0)) := ⟨HP1.out⟩
    clear HKH HNX HAL
    go_upto_region 9 with (first
     | (refine wpList_ldv rfl 40 (.tmp 7) rfl bl 0 rfl [.int .u8 xa, .int .u32 xb] rd4 uD rfl iX ?_)
     | (go_at_call 111; refine hkd.mono ?_; rintro z W5 ⟨kx, kc, rfl, hb5⟩; clear hkd))
    obtain ⟨hB5, hc5, hd5⟩ := HE4.out W5 hb5
    have rd5 := hd5.wholeM
    have HEND := Veil.mk (HC0.out W5 hB5 hc5 xa xb)
    clear HE4 hB5 hd5 hb5 rd4
    go_wp2_with (first
     | (refine wpList_ldv rfl 40 (.tmp 7) rfl bl 0 rfl [.int .u8 xa, .int .u32 xb] rd5 uD rfl iX ?_)
     | (refine wpList_stv rfl 40 (.tmp 4) _ rfl w.heap.size rfl (cs := [.int .u8 xa, .int .u32 xb]) rfl hc5 iX rfl hx1 ?_))
    refine bodyPost_ret (results_ctt (Tryz.results88) _ rfl rfl rfl HEND.out.1 uD rfl iX) rfl ⟨by rw [HP1.out]; rfl, HEND.out.2⟩
  · replace HP1 : Veil (PL = (y, false, 0)) := ⟨HP1.out⟩
    replace HNX : Veil (∀ m, NextAt (walkA N rootS) (xa, xb) (walkA N rootS).length m → ∃ hm : m < (walkA N rootS).length, (walkA N rootS)[m] = y) := ⟨fun m h2 => HNX.out y m rfl h2⟩
    have hkb : ((kn : Int) == 0) = false := by simpa using hkn
    have HAL2 : Veil (∀ W, Below W4.heap.size W4 W → Calls Tryz.prog 90 #[.pointer (some ⟨R, 0, none⟩)] W fun e w' => ∃ x c, e = .returned (.slice x n c) ∧ OwnI w' W.heap.size 124 6 (.slice x n c) ((walkA N rootS).map (cF N)) ∧ Below W.heap.size W w') := ⟨fun W hb => HAL.out W (HE4.out W hb).1⟩
    generalize walkA N rootS = M at HML HMI HNX HAL2
    clear HKH hkn HAL HLM
    go_wp2_with (first
     | (refine wpList_ldv rfl 40 (.tmp 7) rfl bl 0 rfl [.int .u8 xa, .int .u32 xb] rd4 uD rfl iX ?_)
     | (go_at_call 111; refine hkd.mono ?_; rintro z W5 ⟨kx, kc, rfl, hb5⟩; have hal := HAL2.out W5 hb5; clear hkd)
     | (go_at_call 90; refine hal.mono ?_; rintro z W6 ⟨ax, ac, rfl, ho6, hb6⟩; clear hal))
    have HO6 := Veil.mk ho6
    have HE6 : Veil (∀ W, Below W6.heap.size W6 W → Below w.heap.size w W ∧ CellsAt W w.heap.size 40 [.int .u8 0, .int .u32 0] ∧ CellsAt W bl 40 [.int .u8 xa, .int .u32 xb]) := ⟨fun W hb => HE4.out W (hb5.trans ((hb6.trans (hb.mono hb6.size)).mono hb5.size))⟩
    clear ho6 hb5 hb6 HE4 rd4 HAL2 hkb
    go_loopw [9, 10] (fun p q wr => ∃ k m : Nat, q = .int .i64 (k : Nat) ∧ k ≤ n ∧ p = .int .i64 (m : Nat) ∧ NextAt M (xa, xb) k m ∧ Below W6.heap.size W6 wr) (fun _ q _ => n - (intOf q).toNat)
    case atStart => exact ⟨0, 0, rfl, Nat.zero_le _, rfl, NextAt.zero _ _, Below.refl _ _⟩
    case round =>
     obtain ⟨k, m, rfl, hk, rfl, hm, hB⟩ := hrel
     have HM := Veil.mk hm
     have hml := hm.le
     clear hm
     by_cases hlt : k < n
     · have hli : (k : Int) < (n : Int) := by omega
       have hli0 : (0 : Int) ≤ (k : Int) := by omega
       have hki : k < M.length := by rw [HML.out]; exact hlt
       have hww : IntKind.i64.wrap ((k : Int) + 1) = (k : Int) + 1 := by rw [IntKind.wrap_i64]; omega
       obtain ⟨g, rfl, -, hr⟩ := (HO6.out.far hB).at_ k (by rw [List.length_map]; exact hki)
       rw [List.getElem_map] at hr
       have hrd := cF_id (HMI.out _ (List.getElem_mem hki)) hr
       have hrx := (HE6.out wr hB).2.2.wholeM
       have HY : Veil (M[k] = (xa, xb) → NextAt M (xa, xb) (k + 1) (k + 1)) := ⟨fun h => NextAt.yes hki h⟩
       have HNO : Veil (M[k] ≠ (xa, xb) → NextAt M (xa, xb) (k + 1) m) := ⟨fun h => NextAt.no hki h HM.out⟩
       have iH : (Tryz.prog.info? 40).map (·.size) = some (encF M[k]).length := sizeDot
       have HEQ : Veil (∀ wx : World, (binOp BinOp.eql 40 (.agg (encF M[k]).toArray) (.agg #[.int .u8 xa, .int .u32 xb])).run Tryz.prog wx = .ok (.bool (decide (M[k] = (xa, xb)))) wx) := ⟨fun wx => by
        generalize M[k] = q
        obtain ⟨qa, qb⟩ := q
        have h1 := dot_eql qa qb xa xb wx
        simp only [dotC] at h1
        simp only [encF, dotC]
        rw [h1]
        by_cases e1 : qa = xa <;> by_cases e2 : qb = xb <;> simp [e1, e2]⟩
       generalize M[k] = y2 at hrd HY HNO iH HEQ
       generalize encF y2 = DH at hrd iH HEQ
       obtain ⟨DX, hDX⟩ : ∃ q, [Value.int .u8 xa, Value.int .u32 xb] = q := ⟨_, rfl⟩
       have heq : ∀ wx : World, (binOp BinOp.eql 40 (.agg DH.toArray) (.agg DX.toArray)).run Tryz.prog wx = .ok (.bool (decide (y2 = (xa, xb)))) wx := by rw [← hDX]; exact HEQ.out
       have iX2 := iX
       rw [hDX] at hrx iX2
       have HB := Veil.mk hB
       clear hr hki hDX HEQ hB HM
       go_upto_region 15 with fail
       refine wp_region_gateT (fun w' => w'.rangeAt g (k * 6) DH ∧ w'.rangeAt bl 0 DX) (fun _ => True) 99 (by kernel_rfl) ?_
       have hT : (fun w' : World => w'.rangeAt g (k * 6) DH ∧ w'.rangeAt bl 0 DX) wr.drew := ⟨hrd, hrx⟩
       have hS : (fun _ : World => True) wr.drew := trivial
       by_cases he : y2 = (xa, xb)
       · have hde : decide (y2 = (xa, xb)) = true := by simpa using he
         rw [hde] at heq
         refine ghA 0 _ hT hS ?_
         simp only [Act.put, gA, gS, gZ, sI, sZ, sS]
         refine ghA 1 _ hT hS ?_
         simp only [Act.put, gA, gS, gZ, sI, sZ, sS]
         refine ghA 2 _ hT hS ?_
         simp only [Act.put, gA, gS, gZ, sI, sZ, sS]
         refine ghA 3 _ hT hS ?_
         simp only [Act.put, gA, gS, gZ, sI, sZ, sS]
         refine gl 4 54 40 53 g (k * 6) DH (by kernel_rfl) (by kernel_rfl) (by kernel_rfl) (fun _ _ _ h => h) hT hS (by kernel_rfl) (fun _ h => h.1) uD rfl iH ?_
         simp only [Act.put, gA, gS, gZ, sI, sZ, sS]
         refine gl 5 55 40 7 bl 0 DX (by kernel_rfl) (by kernel_rfl) (by kernel_rfl) (fun _ _ _ h => h) hT hS (by kernel_rfl) (fun _ h => h.2) uD rfl iX2 ?_
         simp only [Act.put, gA, gS, gZ, sI, sZ, sS]
         refine wpAnyT_held (i := 6) (v := (.bool true)) rfl (by kernel_rfl) (by kernel_rfl) (by kernel_rfl) (fun _ _ _ h => h) (by kernel_rfl) hT (fun _ => hS) (by kernel_rfl) (fun wx h => exec_eqF rfl rfl rfl (by go_simp) (heq wx)) ?_
         simp only [Act.put, gA, gS, gZ, sI, sZ, sS]
         refine wpAnyT_done (by kernel_rfl) ?_ _
         have HR := Veil.mk (HY.out he)
         have HBD := Veil.mk HB.out.drew
         clear hT hS heq hrd hrx hde HY HNO HB
         go_wp2
         go_roundw
         case rel =>
          refine ⟨k + 1, k + 1, ?_, hlt, ?_, HR.out, HBD.out⟩
          · push_cast; rfl
          · push_cast; rfl
         case measure => simp [intOf]; omega
       · have hde : decide (y2 = (xa, xb)) = false := by simpa using he
         rw [hde] at heq
         refine ghA 0 _ hT hS ?_
         simp only [Act.put, gA, gS, gZ, sI, sZ, sS]
         refine ghA 1 _ hT hS ?_
         simp only [Act.put, gA, gS, gZ, sI, sZ, sS]
         refine ghA 2 _ hT hS ?_
         simp only [Act.put, gA, gS, gZ, sI, sZ, sS]
         refine ghA 3 _ hT hS ?_
         simp only [Act.put, gA, gS, gZ, sI, sZ, sS]
         refine gl 4 54 40 53 g (k * 6) DH (by kernel_rfl) (by kernel_rfl) (by kernel_rfl) (fun _ _ _ h => h) hT hS (by kernel_rfl) (fun _ h => h.1) uD rfl iH ?_
         simp only [Act.put, gA, gS, gZ, sI, sZ, sS]
         refine gl 5 55 40 7 bl 0 DX (by kernel_rfl) (by kernel_rfl) (by kernel_rfl) (fun _ _ _ h => h) hT hS (by kernel_rfl) (fun _ h => h.2) uD rfl iX2 ?_
         simp only [Act.put, gA, gS, gZ, sI, sZ, sS]
         refine wpAnyT_held (i := 6) (v := (.bool false)) rfl (by kernel_rfl) (by kernel_rfl) (by kernel_rfl) (fun _ _ _ h => h) (by kernel_rfl) hT (fun _ => hS) (by kernel_rfl) (fun wx h => exec_eqF rfl rfl rfl (by go_simp) (heq wx)) ?_
         simp only [Act.put, gA, gS, gZ, sI, sZ, sS]
         refine wpAnyT_done (by kernel_rfl) ?_ _
         have HR := Veil.mk (HNO.out he)
         have HBD := Veil.mk HB.out.drew
         clear hT hS heq hrd hrx hde HY HNO HB he
         go_wp2
         go_roundw
         case rel =>
          refine ⟨k + 1, m, ?_, hlt, rfl, HR.out, HBD.out⟩
          push_cast; rfl
         case measure => simp [intOf]; omega
     · obtain rfl : k = n := by omega
       have hli : ¬ (k : Int) < (k : Int) := by omega
       obtain ⟨hmm, hmy⟩ := HNX.out m (by rw [HML.out]; exact HM.out)
       obtain ⟨g, rfl, -, hr⟩ := (HO6.out.far hB).at_ m (by rw [List.length_map]; exact hmm)
       rw [List.getElem_map] at hr
       have hrd := cF_id (HMI.out _ (List.getElem_mem hmm)) hr
       rw [hmy] at hrd
       have hmk : (m : Int) < (k : Int) := by rw [HML.out] at hmm; omega
       have hm0 : (0 : Int) ≤ (m : Int) := by omega
       obtain ⟨ya, yb⟩ := y
       simp only [encF, dotC] at hrd
       have iY : (Tryz.prog.info? 40).map (·.size) = some [Value.int .u8 ya, Value.int .u32 yb].length := sizeDot
       have hy1 : ∀ v ∈ [Value.int .u8 ya, Value.int .u32 yb], v.oneCell' = true := encF_one (ya, yb)
       obtain ⟨hB7, hc7, -⟩ := HE6.out wr hB
       have HEND := Veil.mk (HC0.out wr hB7 hc7 ya yb)
       clear hr hmm hmy HM HNX hB hB7 HE6
       go_wp2_with (first
        | (refine wpList_ldv rfl 40 (.tmp 62) rfl g (m * 6) rfl [.int .u8 ya, .int .u32 yb] hrd uD rfl iY ?_)
        | (refine wpList_stv rfl 40 (.tmp 4) _ rfl w.heap.size rfl (cs := [.int .u8 ya, .int .u32 yb]) rfl hc7 iY rfl hy1 ?_))
       refine bodyPost_ret (results_ctt (Tryz.results88) _ rfl rfl rfl HEND.out.1 uD rfl iY) rfl ⟨by rw [HP1.out]; rfl, HEND.out.2⟩)
set_option maxHeartbeats 16000000 in
theorem rWrite_any (base : Nat) (st : Ds) (p : Rp) (a i c : Int) (w : World) (hD : RDocAt w base st p) (hG : GoodD st) (hR : GoodR st p.K p.G) (ha0 : 0 ≤ a) :
    Calls Tryz.prog 63 #[.pointer (some ⟨p.D, 0, none⟩), .int .u8 a, .int .i64 i, .int .u8 c] w fun r w' => r = .returned (.tuple #[.agg (tellW st a i c).1.cells.toArray, .int .i64 (tellW st a i c).2]) ∧ Below w.heap.size w w' := by
 have hB0 : Below w.heap.size w (w.alloc (.cells zC.toArray 44)) := (Below.refl _ _).alloc (Nat.le_refl _) _
 have hz0 := CellsAt.new w 44 zC
 have hD0 := hD.far hB0
 have HMY : Veil (∀ fit W, RDocAt W base st p → Calls Tryz.prog 87 #[.pointer (some ⟨p.D, 0, none⟩), .int .u8 a, .bool fit, .int .u8 2] W fun r w' => r = .returned (.tuple #[.agg (mayE st a fit 2).cells.toArray, .int .i64 (forbN st a fit 2)]) ∧ Below W.heap.size W w') := ⟨fun fit W h => rmay_any base st p a fit 2 W h hG hR ha0⟩
 have HPL : Veil (∀ W, RDocAt W base st p → W.cell? ⟨p.D, 10, none⟩ = some (.pointer (some ⟨p.T, 0, none⟩)) ∧ Calls Tryz.prog 88 #[.pointer (some ⟨p.T, 0, none⟩), .int .i64 i] W fun e w' => e = .returned (.tuple #[.agg (encF ((placeN st.N i).1)).toArray, .bool (placeN st.N i).2.1, .int .i64 ((placeN st.N i).2.2)]) ∧ Below W.heap.size W w') := ⟨fun W h => ⟨h.cT hG.slen, rplace_any base p.T p.tv st.N hG.tree (by have := hG.nlen; have := hG.llen; omega) i W h.tree⟩⟩
 have HBAD : Veil (forbN st a (decide (1 ≤ c) && decide (c ≤ 127)) 2 ≠ 0 → (tellW st a i c).1.cells = zC ∧ (tellW st a i c).2 = forbN st a (decide (1 ≤ c) && decide (c ≤ 127)) 2) := ⟨fun h => by
  have : tellW st a i c = (evZ0, forbN st a (decide (1 ≤ c) && decide (c ≤ 127)) 2) := if_pos h
  rw [this]; exact ⟨rfl, rfl⟩⟩
 have HBAD2 : Veil (forbN st a (decide (1 ≤ c) && decide (c ≤ 127)) 2 = 0 → (placeN st.N i).2.2 ≠ 0 → (tellW st a i c).1.cells = zC ∧ (tellW st a i c).2 = (placeN st.N i).2.2) := ⟨fun h h2 => by
  have : tellW st a i c = (evZ0, (placeN st.N i).2.2) := (if_neg (by rw [h]; simp)).trans (if_pos h2)
  rw [this]; exact ⟨rfl, rfl⟩⟩
 have HOK : Veil (forbN st a (decide (1 ≤ c) && decide (c ≤ 127)) 2 = 0 → (placeN st.N i).2.2 = 0 → (tellW st a i c).2 = 0 ∧ (((((mayE st a (decide (1 ≤ c) && decide (c ≤ 127)) 2).cells.set 10 (.int .u8 1)).set 14 (.int .u8 c)).take 11 ++ Value.int .u8 ((placeN st.N i).1).1 :: Value.int .u32 ((placeN st.N i).1).2 :: (((mayE st a (decide (1 ≤ c) && decide (c ≤ 127)) 2).cells.set 10 (.int .u8 1)).set 14 (.int .u8 c)).drop 13).set 13 (.bool (placeN st.N i).2.1)) = (tellW st a i c).1.cells) := ⟨fun h h2 => by
  have e1 : tellW st a i c = (nextE st a.toNat (evK 1 (placeN st.N i).1 (placeN st.N i).2.1 c 0 0), 0) := (if_neg (by rw [h]; simp)).trans (if_neg (by rw [h2]; simp))
  obtain ⟨s0, s1, s2, s3, s4, s5, s6, s7, hS8⟩ := eight st.S hG.slen
  rw [e1]
  refine ⟨rfl, ?_⟩
  unfold mayE
  rw [if_pos h]
  unfold nextE evZ0 evK Ev.cells dotC
  simp only [hS8]
  rfl⟩
 have HM17 : Veil (∀ fit, (mayE st a fit 2).cells.length = 17 ∧ ∀ u ∈ (mayE st a fit 2).cells, u.oneCell' = true) := ⟨fun fit => ⟨aev_len _ (mayE_past hG), aev_one _⟩⟩
 have h1T : ∀ u ∈ (tellW st a i c).1.cells, u.oneCell' = true := aev_one _
 have HLT : Veil (∀ k, rdocP p k → k < w.heap.size) := ⟨hD.blockLt⟩
 have hfit : ((decide (1 ≤ c) && decide (c ≤ 127)) = true ∧ 1 ≤ c ∧ c ≤ 127) ∨ ((decide (1 ≤ c) && decide (c ≤ 127)) = false ∧ c < 1) ∨ ((decide (1 ≤ c) && decide (c ≤ 127)) = false ∧ 1 ≤ c ∧ 127 < c) := by
  by_cases h1 : 1 ≤ c
  · by_cases h2 : c ≤ 127
    · exact .inl ⟨by simp; omega, h1, h2⟩
    · exact .inr (.inr ⟨by simp; omega, h1, by omega⟩)
  · exact .inr (.inl ⟨by simp; omega, by omega⟩)
 obtain ⟨fit, hft⟩ : ∃ q, (decide (1 ≤ c) && decide (c ≤ 127)) = q := ⟨_, rfl⟩
 rw [hft] at HBAD HBAD2 HOK hfit
 have hmy := HMY.out fit
 obtain ⟨hlM, h1M⟩ := HM17.out fit
 generalize (mayE st a fit 2).cells = MC at hmy HOK hlM h1M
 generalize forbN st a fit 2 = FN at hmy HBAD HBAD2 HOK
 generalize (tellW st a i c).1.cells = TC at HBAD HBAD2 HOK h1T ⊢
 generalize (tellW st a i c).2 = TN at HBAD HBAD2 HOK ⊢
 generalize placeN st.N i = PL at HPL HBAD2 HOK
 obtain ⟨⟨pa, pb⟩, pr, pe⟩ := PL
 simp only [encF, dotC] at HPL HBAD2 HOK
 have HMC := Veil.mk hmy
 have uE := Tryz.underlying44
 have iZ : (Tryz.prog.info? 44).map (·.size) = some zC.length := by show _ = some 17; kernel_rfl
 have iM : (Tryz.prog.info? 44).map (·.size) = some MC.length := by rw [hlM]; kernel_rfl
 have h1Z := zC_one
 have HZN : Veil (∀ W : World, CellsAt (W.alloc (.cells zC.toArray 44)) W.heap.size 44 zC ∧ Below W.heap.size W ((W.alloc (.cells zC.toArray 44)).setRow W.heap.size MC.toArray)) := ⟨fun W => ⟨CellsAt.new W 44 zC, below_setRow ((Below.refl _ _).alloc (Nat.le_refl _) _) (Nat.le_refl _) _⟩⟩
 obtain ⟨Z, hZ0⟩ : ∃ Z, Z = zC := ⟨_, rfl⟩
 rw [← hZ0] at iZ h1Z HBAD HBAD2
 have hZ := hZ0
 unfold zC at hZ HZN hB0 hz0 hD0
 have HZ17 : Veil (Z.length = 17) := ⟨by rw [hZ0]; rfl⟩
 obtain ⟨D, hDD⟩ : ∃ q, p.D = q := ⟨_, rfl⟩
 rw [hDD] at HMC HPL ⊢
 clear hD hG hR hft HMY HM17 hmy hDD
 rcases hfit with ⟨rfl, h1, h2⟩ | ⟨rfl, h1⟩ | ⟨rfl, h1, h2⟩
 all_goals
  first | (have g1 : decide (1 ≤ c) = true := by simp; omega) | (have g1 : decide (1 ≤ c) = false := by simp; omega)
  try first | (have g2 : decide (c ≤ 127) = true := by simp; omega) | (have g2 : decide (c ≤ 127) = false := by simp; omega)
  go_enter Tryz.func63, Tryz.ntmps63
  go_upto_region 1 with fail
  refine forget (p := fun y => Code.wp _ _ _ _ y) (fun W => Below w.heap.size w W ∧ CellsAt W w.heap.size 44 Z ∧ RDocAt W base st p) ⟨hB0, by rw [hZ]; exact hz0, hD0⟩ ?_
  clear hB0 hz0 hD0
  rintro W ⟨hB, hz, hD⟩
  have hcl := HMC.out W hD
  go_upto_region 2 with (first
   | (go_at_call 87; refine hcl.mono ?_; rintro z W1 ⟨rfl, hb1⟩; have hz1 := (HZN.out W1).1; clear hcl)
   | (refine wpList_stv (cs := MC) rfl 44 _ _ rfl W1.heap.size rfl rfl hz1 iM (by rw [hlM]; rfl) h1M ?_))
  have hb2 := (HZN.out W1).2
  have hx2 := hz1.setRow MC
  have hb12 := hb1.trans (hb2.mono hb1.size)
  have HBL : Veil (w.heap.size < W1.heap.size) := ⟨by have := hz.lt; have := hb1.size; omega⟩
  refine forget (p := fun y => Code.wp _ _ _ _ y) (fun W2 => Below w.heap.size w W2 ∧ CellsAt W2 w.heap.size 44 Z ∧ RDocAt W2 base st p ∧ CellsAt W2 W1.heap.size 44 MC) ⟨hB.trans (hb12.mono hB.size), hz.farM hb12, hD.far hb12, hx2⟩ ?_
  generalize W1.heap.size = b1 at HBL
  clear hb1 hb2 hb12 hz1 hx2 hB hz hD HMC HZN W W1
  rintro W ⟨hB, hz, hD, hx⟩
  have hzz : Z = [.int .u8 0, .int .u32 0, .int .u32 0, .int .u32 0, .int .u32 0, .int .u32 0, .int .u32 0, .int .u32 0, .int .u32 0, .int .u32 0, .int .u8 0, .int .u8 0, .int .u32 0, .bool false, .int .u8 0, .int .u8 0, .int .u8 0] := hZ
  by_cases h0 : FN = 0
  rotate_left
  · have h0b : (FN == 0) = false := by simpa using h0
    have HQ := Veil.mk (HBAD.out h0)
    clear hx
    go_wp2_with (refine wpList_stv (cs := [.int .u8 0, .int .u32 0, .int .u32 0, .int .u32 0, .int .u32 0, .int .u32 0, .int .u32 0, .int .u32 0, .int .u32 0, .int .u32 0, .int .u8 0, .int .u8 0, .int .u32 0, .bool false, .int .u8 0, .int .u8 0, .int .u8 0]) rfl 44 _ _ rfl w.heap.size rfl rfl hz (by rw [← hzz]; exact iZ) (by rw [hzz]) (by rw [← hzz]; exact h1Z) ?_)
    refine bodyPost_ret (results_ct (Tryz.results63) _ rfl rfl (hz.setRow _) uE rfl (by rw [← hzz]; exact iZ)) rfl ⟨?_, below_setRow hB (Nat.le_refl _) _⟩
    rw [HQ.out.1, HQ.out.2, hzz]; rfl
  subst h0
  replace HBAD2 := Veil.mk (HBAD2.out rfl)
  replace HOK := Veil.mk (HOK.out rfl)
  have hb1l : w.heap.size ≤ b1 := Nat.le_of_lt HBL.out
  have hb1n : w.heap.size ≠ b1 := Nat.ne_of_lt HBL.out
  have c0 := hx.cell 10
  have f0 := hx.frozen 10
  rw [List.getElem?_eq_getElem (by simp [hlM])] at c0
  have d0 := hx.cell 10
  have e0 := hx.frozen 10
  rw [List.getElem?_eq_getElem (by rw [hlM]; decide)] at d0
  have hx0 := hx.set 10 (.int .u8 1)
  have c1 := hx0.cell 14
  have f1 := hx0.frozen 14
  rw [List.getElem?_eq_getElem (by simp [hlM])] at c1
  have d1 := hx.cell 14
  have e1 := hx.frozen 14
  rw [List.getElem?_eq_getElem (by rw [hlM]; decide)] at d1
  have hx1 := hx0.set 14 (.int .u8 c)
  have HX3 := Veil.mk hx1
  have HZ3 : Veil (CellsAt ((W.setCell ⟨b1, 10, none⟩ (.int .u8 1)).setCell ⟨b1, 14, none⟩ (.int .u8 c)) w.heap.size 44 Z) := ⟨((hz.setOther17 hb1n _).setOther17 hb1n _)⟩
  have HB3 : Veil (Below w.heap.size w ((W.setCell ⟨b1, 10, none⟩ (.int .u8 1)).setCell ⟨b1, 14, none⟩ (.int .u8 c))) := ⟨((hB.setCell hb1l _).setCell hb1l _)⟩
  have hDa : RDocAt (W.setCell ⟨b1, 10, none⟩ (.int .u8 1)) base st p := hD.congr fun k q => Below.heap_setCell _ _ _ k (Nat.ne_of_lt (Nat.lt_of_lt_of_le (HLT.out k q) hb1l))
  have HD3 : Veil (RDocAt ((W.setCell ⟨b1, 10, none⟩ (.int .u8 1)).setCell ⟨b1, 14, none⟩ (.int .u8 c)) base st p) := ⟨hDa.congr fun k q => Below.heap_setCell _ _ _ k (Nat.ne_of_lt (Nat.lt_of_lt_of_le (HLT.out k q) hb1l))⟩
  clear hDa
  have HCL : Veil (((MC.set 10 (.int .u8 1)).set 14 (.int .u8 c)).length = 17) := ⟨by simp [hlM]⟩
  clear hx0 hx1 hx
  go_upto_region 5 with fail
  refine forget (p := fun y => Code.wp _ _ _ _ y) (fun W2 => Below w.heap.size w W2 ∧ CellsAt W2 w.heap.size 44 Z ∧ RDocAt W2 base st p ∧ CellsAt W2 b1 44 (((MC.set 10 (.int .u8 1)).set 14 (.int .u8 c)))) ⟨HB3.out, HZ3.out, HD3.out, HX3.out⟩ ?_
  clear c0 f0 d0 e0 c1 f1 d1 e1 HX3 HZ3 HB3 HD3 hz hB hD W
  generalize ((MC.set 10 (.int .u8 1)).set 14 (.int .u8 c)) = CC at HCL HOK ⊢
  clear hlM h1M iM
  rintro W ⟨hB, hz, hD, hx⟩
  obtain ⟨ct, hpl⟩ := HPL.out W hD
  have iQ : (Tryz.prog.info? 40).map (·.size) = some [Value.int .u8 pa, Value.int .u32 pb].length := sizeDot
  have h1Q : ∀ u ∈ [Value.int .u8 pa, Value.int .u32 pb], u.oneCell' = true := fun u hu => by
   simp only [List.mem_cons, List.not_mem_nil, or_false] at hu
   rcases hu with rfl | rfl <;> rfl
  have HL6 : Veil ((CC.take 11 ++ Value.int .u8 pa :: Value.int .u32 pb :: CC.drop 13).length = 17) := ⟨by have := HCL.out; simp; omega⟩
  have HCQ : Veil (11 + [Value.int .u8 pa, Value.int .u32 pb].length ≤ CC.length) := ⟨by rw [HCL.out]; show 11 + 2 ≤ 17; decide⟩
  clear hD
  go_upto_region 6 with (first
   | (go_at_call 88; refine hpl.mono ?_; rintro z W5 ⟨rfl, hb5⟩; have hx5 := hx.farM hb5; have hz5 := hz.farM hb5; have hB5 := hB.trans (hb5.mono hB.size); have hx6 := hx5.setRow (CC.take 11 ++ Value.int .u8 pa :: Value.int .u32 pb :: CC.drop 13); have c13 := hx6.cell 13; have f13 := hx6.frozen 13; rw [List.getElem?_eq_getElem (by rw [HL6.out]; decide)] at c13; clear hpl)
   | (refine wpList_stm (cs := [Value.int .u8 pa, Value.int .u32 pb]) rfl 40 _ _ rfl b1 11 rfl rfl hx5 iQ HCQ.out h1Q ?_))
  have hx7 := hx6.set 13 (.bool pr)
  have hz6 : CellsAt (W5.setRow b1 (CC.take 11 ++ Value.int .u8 pa :: Value.int .u32 pb :: CC.drop 13).toArray) w.heap.size 44 Z := hz5.setRowM _ (by omega)
  have hz7 := hz6.setOther17 hb1n (o := 13) (.bool pr)
  have hB6 : Below w.heap.size w (W5.setRow b1 (CC.take 11 ++ Value.int .u8 pa :: Value.int .u32 pb :: CC.drop 13).toArray) := below_setRow hB5 hb1l _
  have hB7 : Below w.heap.size w ((W5.setRow b1 (CC.take 11 ++ Value.int .u8 pa :: Value.int .u32 pb :: CC.drop 13).toArray).setCell ⟨b1, 13, none⟩ (.bool pr)) := hB6.setCell hb1l _
  clear hx5 hz5 hB5 hb5 hx6 hz6 hB6 c13 f13 hx hz hB ct
  refine forget (p := fun y => Code.wp _ _ _ _ y) (fun W2 => Below w.heap.size w W2 ∧ CellsAt W2 w.heap.size 44 Z ∧ CellsAt W2 b1 44 ((CC.take 11 ++ Value.int .u8 pa :: Value.int .u32 pb :: CC.drop 13).set 13 (.bool pr))) ⟨hB7, hz7, hx7⟩ ?_
  clear hB7 hz7 hx7 W W5
  rintro W ⟨hB, hz, hx⟩
  by_cases h2p : pe = 0
  rotate_left
  · have h2b : (pe == 0) = false := by simpa using h2p
    have HQ := Veil.mk (HBAD2.out h2p)
    clear hx
    go_wp2_with (refine wpList_stv (cs := [.int .u8 0, .int .u32 0, .int .u32 0, .int .u32 0, .int .u32 0, .int .u32 0, .int .u32 0, .int .u32 0, .int .u32 0, .int .u32 0, .int .u8 0, .int .u8 0, .int .u32 0, .bool false, .int .u8 0, .int .u8 0, .int .u8 0]) rfl 44 _ _ rfl w.heap.size rfl rfl hz (by rw [← hzz]; exact iZ) (by rw [hzz]) (by rw [← hzz]; exact h1Z) ?_)
    refine bodyPost_ret (results_ct (Tryz.results63) _ rfl rfl (hz.setRow _) uE rfl (by rw [← hzz]; exact iZ)) rfl ⟨?_, below_setRow hB (Nat.le_refl _) _⟩
    rw [HQ.out.1, HQ.out.2, hzz]; rfl
  obtain ⟨q1, q2⟩ := HOK.out h2p
  subst h2p q1
  rw [q2] at hx
  have hlT : TC.length = 17 := by
   rw [← q2, List.length_set]; exact HL6.out
  have iT : (Tryz.prog.info? 44).map (·.size) = some TC.length := by rw [hlT]; kernel_rfl
  have HZT : Veil (Z.length = TC.length) := ⟨by rw [HZ17.out, hlT]⟩
  have hr := hx.wholeM
  clear q2 hlT hzz
  go_wp2_with (first
   | (refine wpList_ldv rfl 44 _ rfl b1 0 rfl TC hr uE rfl iT ?_)
   | (refine wpList_stv (cs := TC) rfl 44 _ _ rfl w.heap.size rfl rfl hz iT HZT.out h1T ?_))
  exact bodyPost_ret (results_ct (Tryz.results63) _ rfl rfl (hz.setRow _) uE rfl iT) rfl ⟨rfl, below_setRow hB (Nat.le_refl _) _⟩
end Go.Proofs.YtmbdohnmbkpfaaaGreat
