/- Fm5 Gate6 -/
import Derived.Test.YtlhajphjppjlgaaGreatDoorV34
import Derived.Test.YtlhajphjppjlgaaGreatDoorT29
namespace Go.Proofs.YtlhajphjppjlgaaGreatDoor
open Go.RowKit
set_option maxRecDepth 20000
set_option linter.unusedSimpArgs false
theorem infoWrapF : (Tryz.prog.info? 119).map (fun i => (i.zero, i.size, i.bytes)) = some (some (.agg (Wp.cells ⟨0, 0, 0, List.replicate 48 0⟩).toArray), 51, 60) := by kernel_rfl
theorem wraps_src {w : World} {b off : Nat} {ws : List Wp} (hok : ∀ e ∈ ws, e.data.length = 48) (h : ∀ j (hj : j < ws.length), w.rangeAt b (off + j * 51) (ws[j]).cells) :
    ∀ j u, (ws.map Wp.cells).flatten[j]? = some u → w.cell? ((⟨b, off, none⟩ : Addr).add j) = some u := by
  intro j u hu
  have hall : ∀ c ∈ ws.map Wp.cells, c.length = 51 := fun c hc => by
    obtain ⟨e, he, rfl⟩ := List.mem_map.1 hc
    exact (wp_parts e (hok e he)).1
  have hlt := (List.getElem?_eq_some_iff.1 hu).1
  rw [flat_len _ hall, List.length_map] at hlt
  have hq : j / 51 < ws.length := by omega
  have hg := flat_get (ws.map Wp.cells) hall (j / 51) (by rw [List.length_map]; exact hq)
  rw [List.getElem_map] at hg
  have hr := h (j / 51) hq (j % 51) u (by
    rw [← hg, List.getElem?_take_of_lt (by omega), List.getElem?_drop, show j / 51 * 51 + j % 51 = j by omega]
    exact hu)
  rw [Addr.add_mid']
  rw [show off + j / 51 * 51 + j % 51 = off + j by omega] at hr
  exact hr
set_option maxHeartbeats 4000000 in
theorem wclone_any (x : Option Addr) (n c : Nat) (ws : List Wp) (w : World) (h : WrapsAt w x n c ws) (hl : n ≤ 1000) :
    Calls Tryz.prog 53 #[.slice x n c] w fun e w' => ∃ x' c', e = .returned (.slice x' n c') ∧ (∀ w2 : World, (∀ k, w.heap.size ≤ k → k < w'.heap.size → w2.heap[k]? = w'.heap[k]?) → WrapsAt w2 x' n c' ws) ∧ Below w.heap.size w w' := by
  have hn := h.len_eq
  cases x with
  | none =>
    have hc := h.nil rfl
    have hle := h.le
    obtain rfl : n = 0 := by omega
    subst hc
    have hnil : ∀ wx : World, (binOp BinOp.eql 29 (.slice none 0 0) (.slice none 0 0)).run Tryz.prog wx = .ok (.bool true) wx := fun _ => by kernel_rfl
    have HW : Veil (∀ w2 : World, WrapsAt w2 none 0 0 ws) := ⟨fun w2 => ⟨hn, by omega, by omega, fun _ => rfl, h.ok, .inl rfl⟩⟩
    clear h hn hle hl
    go_enter Tryz.func53, Tryz.ntmps53
    go_wp2
    go_ret
    exact ⟨none, 0, rfl, fun w2 _ => HW.out w2, Below.refl _ _⟩
  | some ad =>
    obtain ⟨i0, hi, hz0, hz1, hz2⟩ := info_parts infoWrapF
    have hE := OwnI.empty w 119 51
    have hb0 : Below w.heap.size w (w.alloc (.cells #[] 119)) := (Below.refl _ _).alloc (Nat.le_refl _) _
    have hnil : ∀ wx : World, (binOp BinOp.eql 29 (.slice (some ad) n c) (.slice none 0 0)).run Tryz.prog wx = .ok (.bool false) wx := fun _ => by kernel_rfl
    have hall : ∀ c ∈ ws.map Wp.cells, c.length = 51 := fun c hc => by
      obtain ⟨e, he, rfl⟩ := List.mem_map.1 hc
      exact (wp_parts e (h.ok e he)).1
    have hsrc : ∀ j u, (ws.map Wp.cells).flatten[j]? = some u → (w.alloc (.cells #[] 119)).cell? (ad.add j) = some u := by
      rcases (h.below hb0).at_ with h0 | ⟨b, off, hx, hc⟩
      · have : ws = [] := List.length_eq_zero_iff.1 (by omega)
        subst this
        intro j u hu
        simp at hu
      · cases hx
        exact wraps_src h.ok hc
    have hone : ∀ u ∈ (ws.map Wp.cells).flatten, u.oneCell' = true := fun u hu => by
      obtain ⟨l, hl, hu⟩ := List.mem_flatten.1 hu
      obtain ⟨e, he, rfl⟩ := List.mem_map.1 hl
      exact (wp_parts e (h.ok e he)).2.2.2.2 u hu
    obtain ⟨v1, w1, hr1, h2, h3, _, _⟩ := run_append_own_at (P := Tryz.prog) (w.alloc (.cells #[] 119)) w.heap.size 29 29 119 i0 _ 51 60 Tryz.underlying29 hi hz0 hz1 hz2 (by rfl) (by decide) (.slice (some ⟨w.heap.size, 0, none⟩) 0 0) 0 [] hE.own ad n c (ws.map Wp.cells).flatten (by rw [flat_len _ hall, List.length_map, hn]) hsrc hone (by simp [maxLen]; omega) (by omega) (by simp)
    have hb1 : Below w.heap.size w w1 := hb0.grown h3 (by simp) (fun k hk => by cases hk; exact Nat.le_refl _)
    have hown : OwnI w1 w.heap.size 119 51 v1 (ws.map Wp.cells) := ⟨by rw [List.length_map, ← hn]; simpa using h2, hall⟩
    have HW : Veil (∃ x' c', v1 = .slice x' n c' ∧ ∀ w2 : World, (∀ k, w.heap.size ≤ k → k < w1.heap.size → w2.heap[k]? = w1.heap[k]?) → WrapsAt w2 x' n c' ws) := ⟨by
      have hok := h.ok
      rcases hown.own.2 with ⟨rfl, h0⟩ | ⟨g, cap', cur, hv, _, hg, hc, hm, hs, ht⟩
      · rw [List.length_map] at h0
        exact ⟨none, 0, by rw [show n = 0 by omega], fun w2 _ => ⟨by omega, by omega, by omega, fun _ => rfl, hok, .inl (by omega)⟩⟩
      · rw [List.length_map, ← hn] at hv hc
        refine ⟨some ⟨g, 0, none⟩, cap', hv, fun w2 hk2 => ⟨hn, hc, (by unfold maxLen at hm; omega), (fun h => by cases h), hok, ?_⟩⟩
        refine .inr ⟨g, 0, rfl, fun j hj => ?_⟩
        rw [hv] at hown
        obtain ⟨g', hx', _, hr'⟩ := (hown.congr (w' := w2) fun q hq => hk2 q (hown.blockLt q hq).2.1 (hown.blockLt q hq).1).at_ j (by rw [List.length_map]; exact hj)
        cases hx'
        rw [List.getElem_map] at hr'
        rw [Nat.zero_add]
        exact hr'⟩
    have HR := Veil.mk (And.intro hr1 hb1)
    clear h hE hb0 hall hsrc hone hr1 h2 h3 hb1 hown hi hz0 hz1 hz2 hn hl
    go_enter Tryz.func53, Tryz.ntmps53
    go_wp2_with (at_builtin; refine wpList_appx rfl _ _ 29 29 rfl _ _ _ _ rfl rfl HR.out.1 ?_)
    go_ret
    obtain ⟨x', c', hv, hw⟩ := HW.out
    exact ⟨x', c', by rw [← hv]; rfl, hw, HR.out.2⟩
open Go Go.RowKit
section
variable {P : Program} {ops : Array Oper} {Q : Exit → Act → World → Prop} {md : Region.Mode} {T S : World → Prop} {D : Nat}
theorem wpAnyT_two {i j : Nat} {oi oj : Oper} {fuel : Nat} {listed : Array Bool} {a : Act} {w : World} (hi : ops[i]? = some oi) (hj : ops[j]? = some oj) (hr : Region.ready md ops listed = [i, j])
    (hwi : Region.wanted oi (yielded ops a.tmps) = true) (hwj : Region.wanted oj (yielded ops a.tmps) = true)
    (h1 : ∀ K' : Act → World → Prop, Shut (∀ a w, T w → ((listed.setIfInBounds i true).getD D true = false → S w) → wpAnyT P md ops Q T S D fuel (listed.setIfInBounds i true) a w → K' a w) → Oper.wp P oi a w K' Q)
    (h2 : ∀ K' : Act → World → Prop, Shut (∀ a w, T w → ((listed.setIfInBounds j true).getD D true = false → S w) → wpAnyT P md ops Q T S D fuel (listed.setIfInBounds j true) a w → K' a w) → Oper.wp P oj a w K' Q) : wpAnyT P md ops Q T S D (fuel + 1) listed a w :=
  ⟨fun h0 => (by rw [hr] at h0; cases h0), fun q hq => by
    rw [hr] at hq
    rcases List.mem_cons.1 hq with rfl | hq
    · refine wpOp_step hi (fun K' hK => ?_)
      rw [if_pos hwi]
      exact h1 K' (fun a w h0 h1 h2 => hK a w ⟨⟨h0, h1⟩, h2⟩)
    · obtain rfl : q = j := by simpa using hq
      refine wpOp_step hj (fun K' hK => ?_)
      rw [if_pos hwj]
      exact h2 K' (fun a w h0 h1 h2 => hK a w ⟨⟨h0, h1⟩, h2⟩)⟩
theorem wpAnyT_three {i j l : Nat} {oi oj ol : Oper} {fuel : Nat} {listed : Array Bool} {a : Act} {w : World} (hi : ops[i]? = some oi) (hj : ops[j]? = some oj) (hl : ops[l]? = some ol) (hr : Region.ready md ops listed = [i, j, l])
    (hwi : Region.wanted oi (yielded ops a.tmps) = true) (hwj : Region.wanted oj (yielded ops a.tmps) = true) (hwl : Region.wanted ol (yielded ops a.tmps) = true)
    (h1 : ∀ K' : Act → World → Prop, Shut (∀ a w, T w → ((listed.setIfInBounds i true).getD D true = false → S w) → wpAnyT P md ops Q T S D fuel (listed.setIfInBounds i true) a w → K' a w) → Oper.wp P oi a w K' Q)
    (h2 : ∀ K' : Act → World → Prop, Shut (∀ a w, T w → ((listed.setIfInBounds j true).getD D true = false → S w) → wpAnyT P md ops Q T S D fuel (listed.setIfInBounds j true) a w → K' a w) → Oper.wp P oj a w K' Q)
    (h3 : ∀ K' : Act → World → Prop, Shut (∀ a w, T w → ((listed.setIfInBounds l true).getD D true = false → S w) → wpAnyT P md ops Q T S D fuel (listed.setIfInBounds l true) a w → K' a w) → Oper.wp P ol a w K' Q) : wpAnyT P md ops Q T S D (fuel + 1) listed a w :=
  ⟨fun h0 => (by rw [hr] at h0; cases h0), fun q hq => by
    rw [hr] at hq
    rcases List.mem_cons.1 hq with rfl | hq
    · refine wpOp_step hi (fun K' hK => ?_)
      rw [if_pos hwi]
      exact h1 K' (fun a w h0 h1 h2 => hK a w ⟨⟨h0, h1⟩, h2⟩)
    · rcases List.mem_cons.1 hq with rfl | hq
      · refine wpOp_step hj (fun K' hK => ?_)
        rw [if_pos hwj]
        exact h2 K' (fun a w h0 h1 h2 => hK a w ⟨⟨h0, h1⟩, h2⟩)
      · obtain rfl : q = l := by simpa using hq
        refine wpOp_step hl (fun K' hK => ?_)
        rw [if_pos hwl]
        exact h3 K' (fun a w h0 h1 h2 => hK a w ⟨⟨h0, h1⟩, h2⟩)⟩
end
end Go.Proofs.YtlhajphjppjlgaaGreatDoor
