/- The reference's buffer: Waiting; what 'answer' needs. -/
import Derived.Test.YtmoabomoodddkaaRb1
namespace Go.Proofs.Ytmoabomoodddkaa
open Go.RowKit Go.Shelf
set_option maxRecDepth 20000
set_option linter.unusedSimpArgs false
theorem OwnI.appAt {w : World} {base : Nat} {v : Value} {L : List (List Value)} (h : OwnI w base 37 17 v L) (a : Addr) (c : Nat) (C : List (List Value)) (hC : ∀ c ∈ C, c.length = 17) (h1 : ∀ c ∈ C, ∀ u ∈ c, u.oneCell' = true) (hsrc : ∀ j u, C.flatten[j]? = some u → w.cell? (a.add j) = some u) (hln : L.length + C.length ≤ 1000000) (hbase : base ≤ w.heap.size) :
    ∃ v' w', (Builtin.append_ #[42, 42] 42 #[v, .slice (some a) C.length c]).run Try.prog w = .ok v' w' ∧ OwnI w' base 37 17 v' (L ++ C) ∧ w.grownBy w' v.ownBlock ∧ (v'.ownBlock = v.ownBlock ∨ v'.ownBlock = some w.heap.size) := by
  obtain ⟨i0, hi, hz0, hz1, hz2⟩ := info_parts infoE17x
  obtain ⟨v', w', hr, h2, h3, _, h5⟩ := run_append_own_at (P := Try.prog) w base 42 42 37 i0 _ 17 56 Try.underlying42 hi hz0 hz1 hz2 rfl (by decide) v L.length L.flatten h.own a C.length c C.flatten (flat_len C hC) hsrc (fun x hx => by
    obtain ⟨c, hc, hxc⟩ := List.mem_flatten.1 hx
    exact h1 c hc x hxc) (by simp [maxLen]; omega) (by omega) hbase
  refine ⟨v', w', hr, ⟨?_, fun x hx => ?_⟩, h3, h5⟩
  · rw [List.length_append, List.flatten_append]; exact h2
  · rcases List.mem_append.1 hx with h' | h'
    · exact h.each x h'
    · exact hC x h'
theorem evLen {L : List Ev} (h : ∀ e ∈ L, e.Ok) : ∀ c ∈ L.map Ev.cells, c.length = 17 := fun c hc => by
  obtain ⟨e, he, rfl⟩ := List.mem_map.1 hc
  exact ev_len e (h e he).past
set_option maxHeartbeats 4000000 in
theorem rwaiting_any (R : Nat) (S : List Int) (L : List Ev) (x : Option Addr) (c : Nat) (w : World) (hC : RefC w R S L x c) (hL : L.length ≤ 1000) :
    Calls Try.prog 41 #[.pointer (some ⟨R, 0, none⟩)] w fun r w' => ∃ v, r = .returned v ∧ OwnI w' w.heap.size 37 17 v (L.map Ev.cells) ∧ Below w.heap.size w w' := by
  have hB : Below w.heap.size w (w.alloc (.cells #[] 37)) := (Below.refl _ _).alloc (Nat.le_refl _) _
  have hE := OwnI.empty w 37 17
  have hC1 := hC.far hB
  have hwc := hC1.waitC
  have hap := hE.apps (P := Try.prog) 42 42 Try.underlying42 infoE17x (by rfl) (by decide) (L.map Ev.cells) hC.own.each (evOne L) 0 _ hC1.own (by simp; omega) (by decide) (by simp)
  rw [List.nil_append] at hap
  have HAP := Veil.mk hap
  generalize L.length = n at hwc HAP
  clear hC hC1 hE hap
  go_enter Try.func41, Try.ntmps41
  go_wp2_with (at_builtin; obtain ⟨v1, w1, hr1, ho1, hg1, _⟩ := HAP.out; refine wpList_appx rfl _ _ 42 42 rfl _ _ _ _ rfl rfl hr1 ?_)
  go_ret
  refine ⟨_, rfl, ho1, ?_⟩
  exact hB.grown hg1 (by simp) (fun k hk => by cases hk; exact Nat.le_refl _)
def waitLen (w : World) (R : Nat) : Nat := match w.cell? ⟨R, 9, none⟩ with | some (.slice _ n _) => n | _ => 0
theorem RefC.wl {w : World} {R : Nat} {S : List Int} {L : List Ev} {x : Option Addr} {c : Nat} (h : RefC w R S L x c) : waitLen w R = L.length := by unfold waitLen; rw [h.waitC]
structure Gd (S : List Int) (L : List Ev) : Prop where
  rng : ∀ q ∈ S, 0 ≤ q ∧ q ≤ 4294967295
  srt : sortedE L
  ok : ∀ e ∈ L, e.Ok
theorem del_at : ∀ {L : List Ev}, sortedE L → ∀ (a : Nat) (ha : a < L.length), delE L[a].dot L = L.take a ++ L.drop (a + 1)
  | x :: L, hs, 0, _ => by
    have hs' := List.pairwise_cons.1 hs
    show (x :: L).filter (fun y => !(y.dot == x.dot)) = [] ++ L
    rw [List.filter_cons_of_neg (by simp), List.nil_append, List.filter_eq_self]
    intro y hy
    have := ltD_ne (hs'.1 y hy)
    simpa using fun e : y.dot = x.dot => this e.symm
  | x :: L, hs, a + 1, ha => by
    have hs' := List.pairwise_cons.1 hs
    have ha' : a < L.length := by simpa using ha
    have hne := ltD_ne (hs'.1 L[a] (List.getElem_mem ha'))
    show (x :: L).filter (fun y => !(y.dot == L[a].dot)) = x :: L.take a ++ L.drop (a + 1)
    rw [List.filter_cons_of_pos (by simpa using hne)]
    have := del_at hs'.2 a ha'
    unfold delE at this
    rw [this]; rfl
theorem refCells_upd (S : List Int) (v v2 : Value) (an : Nat) (h8 : S.length = 8) (ha : an < 8) : (((refCells S v).set 9 v2).set 8 (.int .i64 (sumS S + 1))).set an (.int .u32 (S[an]?.getD 0 + 1)) = refCells (incS S (an : Int)) v2 := by
  unfold refCells
  rw [sumS_inc h8 (by omega) (by omega)]
  rw [List.set_append_right _ _ (by rw [List.length_map]; omega), List.set_append_right _ _ (by rw [List.length_map]; omega), List.length_map, h8]
  rw [List.set_append_left _ _ (by rw [List.length_map]; omega)]
  unfold incS
  rw [List.map_set, Int.toNat_natCast]
  rfl
theorem sumS_nn {S : List Int} (h : ∀ q ∈ S, 0 ≤ q ∧ q ≤ 4294967295) : 0 ≤ sumS S := by
  have := (sumS_take_rng S h S.length (Nat.le_refl _)).1
  rw [List.take_length] at this; exact this
theorem sub_src {w : World} {B : Nat} {g n c : Nat} {L : List Ev} (h : OwnI w B 37 17 (.slice (some ⟨g, 0, none⟩) n c) (L.map Ev.cells)) (hk : ∀ e ∈ L, e.Ok) (p q : List Ev) (r : List Ev) (hL : L = p ++ q ++ r) : ∀ j u, (q.map Ev.cells).flatten[j]? = some u → w.cell? ((⟨g, p.length * 17, none⟩ : Addr).add j) = some u := fun j u hu => by
  obtain ⟨_, hs⟩ := h.src
  have hl : (p.map Ev.cells).flatten.length = p.length * 17 := by
    rw [flat_len (k := 17) _ (evLen (fun e he => hk e (by rw [hL]; simp [he]))), List.length_map]
  have := hs (p.length * 17 + j) u (by
    rw [hL, List.map_append, List.map_append, List.append_assoc, List.flatten_append, List.getElem?_append_right (by rw [hl]; omega), hl, List.flatten_append, Nat.add_sub_cancel_left]
    have hj : j < (q.map Ev.cells).flatten.length := by
      rcases Nat.lt_or_ge j (q.map Ev.cells).flatten.length with h' | h'
      · exact h'
      · rw [List.getElem?_eq_none h'] at hu; cases hu
    rw [List.getElem?_append_left hj]; exact hu)
  rw [show (⟨g, 0, none⟩ : Addr).add (p.length * 17 + j) = ⟨g, 0 + (p.length * 17 + j), none⟩ by unfold Addr.add; split <;> simp_all] at this
  rw [show (⟨g, p.length * 17, none⟩ : Addr).add j = ⟨g, p.length * 17 + j, none⟩ by unfold Addr.add; split <;> simp_all]
  rw [Nat.zero_add] at this
  exact this
end Go.Proofs.Ytmoabomoodddkaa
