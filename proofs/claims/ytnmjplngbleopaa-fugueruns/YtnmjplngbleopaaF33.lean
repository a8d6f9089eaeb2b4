/- Fr5 Fp1 -/
import Derived.Test.YtnmjplngbleopaaF32
namespace Go.Proofs.Ytnmjplngbleopaa
open Go.RowKit Go.Shelf
set_option maxRecDepth 20000
set_option linter.unusedSimpArgs false
def playN (L : List Dd8) : List Nd := L.foldl doN []
theorem playN_ok (L : List Dd8) : TreeOk (playN L) := by
  unfold playN
  suffices h : ∀ (L : List Dd8) (N : List Nd), TreeOk N → TreeOk (L.foldl doN N) from h L [] TreeOk.nil
  intro L
  induction L with
  | nil => intro N h; exact h
  | cons d L ih => intro N h; exact ih _ (doN_ok h d)
theorem playN_snoc (L : List Dd8) (d : Dd8) : playN (L ++ [d]) = doN (playN L) d := by unfold playN; rw [List.foldl_append]; rfl
theorem playN_len (L : List Dd8) : (playN L).length ≤ L.length := by
  induction L using snoc_ind with
  | h0 => simp [playN]
  | h1 L d ih =>
    rw [playN_snoc, List.length_append, List.length_singleton]
    have := doN_len (playN L) d
    omega
structure PlayR (w : World) (L : List Dd8) (v0 : Value) (w' : World) : Prop where
  out : ∃ R bc bn V Q v, v0 = .tuple #[.pointer (some ⟨R, 0, none⟩), .pointer (some ⟨Q, 0, none⟩), .bool true] ∧ BothT w' w.heap.size R bc bn V Q v (playN (L.take 60)) ∧ Below w.heap.size w w'
set_option maxHeartbeats 8000000 in
theorem play8_any (x : Option Addr) (len cap : Nat) (L : List Dd8) (w : World) (hL : DeedsAt w x len cap L) :
    Calls Try.prog 4 #[.slice x len cap] w fun e w' => ∃ v0, e = .returned v0 ∧ PlayR w L v0 w' := by
  have hnew := newT_any w
  have HRN : Veil (∀ W, Calls Try.prog 13 #[] W fun e w' => ∃ R, e = .returned (.pointer (some ⟨R, 0, none⟩)) ∧ RefT w' W.heap.size R (.slice none 0 0) [] ∧ Below W.heap.size W w' ∧ W.heap.size ≤ R) := ⟨fun W => rnewT_any W⟩
  have HL := Veil.mk hL
  have hle := hL.le
  have htop := hL.top
  have HLE := Veil.mk hL.len_eq
  clear hL
  go_enter Try.func4, Try.ntmps4
  go_upto_region 2 with (first
    | (go_at_call 12; refine hnew.mono ?_; rintro z W1 ⟨R, bc, bn, rfl, hT, hb1, hR, hbc, hbn⟩; have hrn := HRN.out W1; clear hnew)
    | (go_at_call 13; refine hrn.mono ?_; rintro z W2 ⟨Q, rfl, hQ, hb2, hQl⟩))
  have hz1 := hb1.size
  have hz2 := hb2.size
  have hBT : BothT W2 w.heap.size R bc bn (fun _ => .slice none 0 0) Q (.slice none 0 0) (playN (L.take 0)) := by
    refine ⟨hT.far hb2, ⟨hQ.box, OwnI.nil _ _ _ _, by show (0 : Nat) ≤ 1000; omega⟩, TreeOk.nil, fun k hk hq => ?_, fun k hk => ?_, by omega⟩
    · have := hT.blockLt k hk
      rcases hq with q | q
      · omega
      · cases q
    · rcases hk with (q | q | q | ⟨s, _, q⟩) | q | q
      · omega
      · omega
      · omega
      · cases q
      · omega
      · cases q
  have hB2 : Below w.heap.size w W2 := hb1.trans (hb2.mono hb1.size)
  refine forget (p := fun y => Code.wp _ _ _ _ y) (fun W => ∃ V v, BothT W w.heap.size R bc bn V Q v (playN (L.take 0)) ∧ Below w.heap.size w W) ⟨_, _, hBT, hB2⟩ ?_
  clear hBT hB2 hb1 hb2 hT hQ hrn hz1 hz2 HRN hR hbc hbn hQl W1 W2
  rintro W0 h0
  go_wp2_with fail
  go_loopw [7] (fun p wr => ∃ (i : Nat) (V : (Int × Int) × Bool → Value) (v : Value), p = .int .i64 (i : Nat) ∧ i ≤ len ∧ i ≤ 60 ∧ BothT wr w.heap.size R bc bn V Q v (playN (L.take i)) ∧ Below w.heap.size w wr) (fun p _ => 60 - (intOf p).toNat)
  case atStart =>
    obtain ⟨V, v, h1, h2⟩ := h0
    exact ⟨0, V, v, rfl, Nat.zero_le _, Nat.zero_le _, h1, h2⟩
  case round =>
    obtain ⟨i, V, v, rfl, hi, hi60, hBT, hB⟩ := hrel
    clear h0
    have HB := Veil.mk hB
    have HBT := Veil.mk hBT
    clear hB hBT
    by_cases hlt : i < len
    · have hli : decide ((i : Int) < (len : Int)) = true := by simp; omega
      by_cases h60 : i < 60
      · have hl6 : decide ((i : Int) < 60) = true := by simp; omega
        have hil : i < L.length := by have := HLE.out; omega
        have hi0 : (0 : Int) ≤ (i : Int) := by omega
        have hlti : (i : Int) < (len : Int) := by omega
        obtain ⟨g, off, hxg, hcl⟩ : ∃ g off, x = some ⟨g, off, none⟩ ∧ wr.rangeAt g (off + i * 7) L[i].cells := by
          rcases (HL.out.below HB.out).at_ with h | ⟨g, off, hx, hc⟩
          · omega
          · exact ⟨g, off, hx, fun q u hu => hc i hil q u hu⟩
        have hdo := do8_any w.heap.size R bc bn V Q v (playN (L.take i)) L[i] (HL.out.ok _ (List.getElem_mem hil)) (by have := playN_len (L.take i); have := List.length_take_le i L; omega) wr HBT.out
        have HNX : Veil (doN (playN (L.take i)) L[i] = playN (L.take (i + 1))) := ⟨by rw [List.take_succ_eq_append_getElem hil, playN_snoc]⟩
        have iC : (Try.prog.info? 34).map (·.size) = some L[i].cells.length := by show _ = some 7; kernel_rfl
        have uC := Try.underlying34
        generalize doN (playN (L.take i)) L[i] = DO at hdo HNX
        generalize L[i].cells = DC at hcl hdo iC
        have hww : IntKind.i64.wrap ((i : Int) + 1) = (i : Int) + 1 := by rw [IntKind.wrap_i64]; omega
        clear hil
        subst hxg
        go_wp2_with (first
          | (refine wpList_ldv rfl 34 (.tmp 24) rfl g (off + i * 7) rfl DC hcl uC rfl iC ?_)
          | (go_at_call 14; refine hdo.mono ?_; rintro z W3 ⟨rfl, hq3⟩; have HQ3 := Veil.mk hq3; clear hq3 hdo))
        go_roundw
        case rel =>
          obtain ⟨V3, v3, h1, h2⟩ := HQ3.out
          exact ⟨i + 1, V3, v3, by push_cast; rfl, hlt, h60, by rw [← HNX.out]; exact h1, HB.out.trans h2⟩
        case measure => simp [intOf]; omega
      · have hl6 : decide ((i : Int) < 60) = false := by simp; omega
        have HE : Veil (L.take i = L.take 60) := ⟨by rw [show i = 60 by omega]⟩
        have HPR : Veil (PlayR w L (.tuple #[.pointer (some ⟨R, 0, none⟩), .pointer (some ⟨Q, 0, none⟩), .bool true]) wr) := ⟨⟨R, bc, bn, V, Q, v, rfl, by rw [← HE.out]; exact HBT.out, HB.out⟩⟩
        go_wp2
        refine bodyPost_ret (results_tmp3 rfl _ _ _) rfl ?_
        exact ⟨_, rfl, HPR.out⟩
    · have hli : decide ((i : Int) < (len : Int)) = false := by simp; omega
      have HE : Veil (L.take i = L.take 60) := ⟨by have := HLE.out; rw [List.take_of_length_le (by omega), List.take_of_length_le (by omega)]⟩
      have HPR : Veil (PlayR w L (.tuple #[.pointer (some ⟨R, 0, none⟩), .pointer (some ⟨Q, 0, none⟩), .bool true]) wr) := ⟨⟨R, bc, bn, V, Q, v, rfl, by rw [← HE.out]; exact HBT.out, HB.out⟩⟩
      go_wp2
      refine bodyPost_ret (results_tmp3 rfl _ _ _) rfl ?_
      exact ⟨_, rfl, HPR.out⟩
theorem split_at {α : Type} [DecidableEq α] {l : List α} {p : α → Bool} (hl : l.Nodup) {k : Nat} (hk : k < (l.filter p).length) {A B : List α} (h : l = A ++ [(l.filter p)[k]] ++ B) : (A.filter p).length = k := by
  have hx : p (l.filter p)[k] = true := (List.mem_filter.1 (List.getElem_mem hk)).2
  generalize hy : (l.filter p)[k] = y at h hx
  have hf : l.filter p = A.filter p ++ [y] ++ B.filter p := by
    rw [h, List.filter_append, List.filter_append, List.filter_cons_of_pos hx, List.filter_nil]
  have hnd : (l.filter p).Nodup := hl.filter _
  have h1 : (A.filter p).length < (l.filter p).length := by rw [hf, List.length_append, List.length_append, List.length_singleton]; omega
  have h2 : (l.filter p)[(A.filter p).length] = y := by
    have : (l.filter p)[(A.filter p).length]? = some y := by
      rw [hf, List.append_assoc, List.getElem?_append_right (Nat.le_refl _)]; simp
    rw [List.getElem?_eq_getElem h1] at this
    exact Option.some.inj this
  exact (List.getElem_inj hnd).1 (h2.trans hy.symm)
theorem place_walk {N : List Nd} (hN : TreeOk N) {k : Nat} (hk : k ≤ (wrN N).length) {n : Nd} (hs : n.side = ((placeN N (k : Nat)).1, (placeN N (k : Nat)).2.1)) (hr : refI N n = 0) :
    ∃ P S, walkA N rootS = P ++ S ∧ walkA (N ++ [n]) rootS = P ++ [n.id] ++ S ∧ (P.filter (writB N)).length = k := by
  have hN' : TreeOk (N ++ [n]) := by have := hN.ins n; unfold insN at this; rwa [if_pos hr] at this
  have hroot := nodup_root hN.rooted
  -- the node on the left
  obtain ⟨left, hl0, hl1⟩ : ∃ left, leftN N (k : Nat) = (left, 0) ∧ ((k = 0 ∧ left = (0, 0)) ∨ (∃ hk' : k - 1 < (wrN N).length, 0 < k ∧ left = (wrN N)[k - 1])) := by
    unfold leftN
    rw [if_neg (by omega)]
    by_cases h0 : k = 0
    · exact ⟨(0, 0), by rw [if_pos (by omega)], .inl ⟨h0, rfl⟩⟩
    · refine ⟨(wrN N)[k - 1]'(by omega), ?_, .inr ⟨by omega, by omega, rfl⟩⟩
      rw [if_neg (by omega)]
      unfold atN
      rw [if_neg (by omega), show ((k : Int) - 1).toNat = k - 1 by omega, List.getElem?_eq_getElem (by omega)]
      rfl
  -- where it stands in the walk
  obtain ⟨A, B, hAB, hA⟩ : ∃ A B, walkA N rootS = A ++ walkA N (left, true) ++ B ∧ (A.filter (writB N)).length = k ∧ (left = (0, 0) → A = [] ∧ B = []) ∧ (left ≠ (0, 0) → ∃ A', A = A' ++ [left]) := by
    rcases hl1 with ⟨h0, hl⟩ | ⟨hk', h0, hl⟩
    · subst hl
      exact ⟨[], [], by simp [rootS], by simp [h0], fun _ => ⟨rfl, rfl⟩, fun h => absurd rfl h⟩
    · have hm : left ∈ walkA N rootS := by rw [hl]; exact (List.mem_filter.1 (List.getElem_mem hk')).1
      obtain ⟨A, B, e⟩ := split_walk hN.rooted rootS left hm
      have hne : left ≠ (0, 0) := fun q => not_mem_root hN.rooted rootS (q ▸ hm)
      refine ⟨A ++ walkA N (left, false) ++ [left], B, by rw [e]; unfold blockN; simp only [List.append_assoc], ?_, fun h => absurd h hne, fun _ => ⟨_, rfl⟩⟩
      have h2 : ((A ++ walkA N (left, false)).filter (writB N)).length = k - 1 := by
        refine split_at (p := writB N) hroot (k := k - 1) hk' (B := walkA N (left, true) ++ B) ?_
        have e4 : walkA N rootS = A ++ walkA N (left, false) ++ [left] ++ (walkA N (left, true) ++ B) := by
          rw [e]
          unfold blockN
          simp only [List.append_assoc]
        rw [show ((walkA N rootS).filter (writB N))[k - 1]'hk' = left from hl.symm]
        exact e4
      rw [List.filter_append, List.length_append, h2]
      have hp : writB N left = true := by rw [hl]; exact (List.mem_filter.1 (List.getElem_mem hk')).2
      rw [List.filter_cons_of_pos hp]
      simp; omega
  have hpl : placeN N (k : Nat) = match (walkA N (left, true)).head? with | some x => (x, false, 0) | none => (left, true, 0) := by
    unfold placeN; rw [hl0]; rfl
  rw [hpl] at hs
  cases hh : walkA N (left, true) with
  | nil =>
    rw [hh] at hs hAB
    have hk0 : kids N n.side = [] := by rw [hs]; exact walk_nil hN.rooted hh
    rw [List.append_nil] at hAB
    by_cases hz : left = (0, 0)
    · obtain ⟨rfl, rfl⟩ := hA.2.1 hz
      refine ⟨[], [], by rw [hAB], ?_, hA.1⟩
      have : n.side = rootS := by rw [hs, hz]; rfl
      rw [← this]
      rw [walk_leaf hN.rooted hN'.rooted hk0]
      simp
    · refine ⟨A, B, hAB, ?_, hA.1⟩
      obtain ⟨A', rfl⟩ := hA.2.2 hz
      have hne : rootS ≠ n.side := fun q => hz (by rw [hs] at q; exact (congrArg Prod.fst q).symm)
      rw [walk_beside hN.rooted hN'.rooted hk0 rootS hne, hAB, show n.side.1 = left by rw [hs]; rfl, show n.side.2 = true by rw [hs]; rfl]
      rw [hAB] at hroot
      rw [beside_at hroot]
      simp
  | cons x rest =>
    rw [hh] at hs hAB
    have hnd2 : (x :: rest).Nodup := by
      rw [hAB, List.append_assoc, List.nodup_append] at hroot
      exact (List.nodup_append.1 hroot.2.1).1
    have hx1 : x ∈ walkA N (left, true) := by rw [hh]; exact List.mem_cons_self
    obtain ⟨C, D, e⟩ := split_walk hN.rooted (left, true) x hx1
    have hk0 : kids N n.side = [] := by
      rw [hs]
      refine walk_nil hN.rooted ?_
      rw [hh] at e
      unfold blockN at e
      cases hC : C ++ walkA N (x, false) with
      | nil => exact (List.append_eq_nil_iff.1 hC).2
      | cons y t =>
        exfalso
        have e2 : x :: rest = y :: (t ++ ([x] ++ walkA N (x, true) ++ D)) := by
          rw [e]
          have : C ++ (walkA N (x, false) ++ [x] ++ walkA N (x, true)) ++ D = (C ++ walkA N (x, false)) ++ ([x] ++ walkA N (x, true) ++ D) := by simp only [List.append_assoc]
          rw [this, hC]; rfl
        have h3 := (List.cons.inj e2).2
        rw [h3] at hnd2
        exact (List.nodup_cons.1 hnd2).1 (by simp)
    refine ⟨A, x :: rest ++ B, by rw [hAB, List.append_assoc], ?_, hA.1⟩
    have hne : rootS ≠ n.side := fun q => by rw [hs] at q; have := congrArg Prod.snd q; simp [rootS] at this
    have e3 : walkA N rootS = A ++ [x] ++ (rest ++ B) := by rw [hAB]; simp
    rw [walk_beside hN.rooted hN'.rooted hk0 rootS hne, e3, show n.side.1 = x by rw [hs]; rfl, show n.side.2 = false by rw [hs]; rfl]
    rw [e3] at hroot
    rw [beside_at hroot]
    simp
theorem chr0_snoc {N : List Nd} {n : Nd} (hn : ∀ m ∈ N, m.id ≠ n.id) (x : Int × Int) : chr0 (N ++ [n]) x = if x = n.id then n.chr else chr0 N x := by
  unfold chr0
  rw [chrN_snoc N n hn]
  split <;> rfl
theorem place_ok {N : List Nd} (hN : TreeOk N) {k : Nat} (hk : k ≤ (wrN N).length) : (placeN N (k : Nat)).2.2 = 0 ∧ ((placeN N (k : Nat)).1 = (0, 0) → (placeN N (k : Nat)).2.1 = true) ∧ ((placeN N (k : Nat)).1 = (0, 0) ∨ (chrN N (placeN N (k : Nat)).1).isSome = true) := by
  obtain ⟨left, hl0, hl1⟩ : ∃ left, leftN N (k : Nat) = (left, 0) ∧ (left = (0, 0) ∨ left ∈ wrN N) := by
    unfold leftN
    rw [if_neg (by omega)]
    by_cases h0 : k = 0
    · exact ⟨(0, 0), by rw [if_pos (by omega)], .inl rfl⟩
    · refine ⟨(wrN N)[k - 1]'(by omega), ?_, .inr (List.getElem_mem _)⟩
      rw [if_neg (by omega)]
      unfold atN
      rw [if_neg (by omega), show ((k : Int) - 1).toNat = k - 1 by omega, List.getElem?_eq_getElem (by omega)]
      rfl
  have hpl : placeN N (k : Nat) = match (walkA N (left, true)).head? with | some x => (x, false, 0) | none => (left, true, 0) := by
    unfold placeN; rw [hl0]; rfl
  rw [hpl]
  cases hh : (walkA N (left, true)).head? with
  | none =>
    refine ⟨rfl, fun _ => rfl, hl1.imp id fun q => ?_⟩
    obtain ⟨n, hn, e⟩ := mem_walk hN.rooted rootS left (List.mem_filter.1 q).1
    exact chrN_some.2 ⟨n, hn, e⟩
  | some x =>
    have hx : x ∈ walkA N (left, true) := List.mem_of_mem_head? hh
    obtain ⟨n, hn, e⟩ := mem_walk hN.rooted _ x hx
    exact ⟨rfl, fun q => absurd (e.trans q) (hN.rooted.id n hn), .inr (chrN_some.2 ⟨n, hn, e⟩)⟩
end Go.Proofs.Ytnmjplngbleopaa
