/- doc: Events. -/
import Derived.Test.YtgmbmdmbnpkbbaaDc12
namespace Go.Proofs.Ytgmbmdmbnpkbbaa
open Go.RowKit Go.Shelf
set_option maxRecDepth 20000
set_option linter.unusedSimpArgs false
set_option maxHeartbeats 4000000 in
theorem eCloneD_any (base : Nat) (w : World) (u : Value) (Q : List Ev) (hu : OwnI w base 32 17 u (Q.map Ev.cells)) (hl : Q.length ≤ 1000) :
    Calls Try.prog 34 #[u] w fun e w' => ∃ v', e = .returned v' ∧ OwnI w' w.heap.size 32 17 v' (Q.map Ev.cells) ∧ Below w.heap.size w w' := by
  rcases hu.own.2 with ⟨rfl, h0⟩ | ⟨g, cap, cur, rfl, hbg, hrest⟩
  · have hL : Q.map Ev.cells = [] := List.length_eq_zero_iff.1 h0
    have hnil : ∀ wx : World, (binOp BinOp.eql 50 (.slice none 0 0) (.slice none 0 0)).run Try.prog wx = .ok (.bool true) wx := fun _ => by kernel_rfl
    rw [hL]
    clear hu hL h0
    go_enter Try.func34, Try.ntmps34
    go_wp2
    go_ret
    exact ⟨_, rfl, OwnI.nil _ _ _ _, Below.refl _ _⟩
  · have hB : Below w.heap.size w (w.alloc (.cells #[] 32)) := (Below.refl _ _).alloc (Nat.le_refl _) _
    have hE := OwnI.empty w 32 17
    have hu1 := hu.far hB
    have hone : ∀ c ∈ Q.map Ev.cells, ∀ u ∈ c, u.oneCell' = true := fun c hc u hu => by
      obtain ⟨q, _, rfl⟩ := List.mem_map.1 hc
      exact aev_one q u hu
    have hap := hE.apps (P := Try.prog) 50 50 Try.underlying50 infoE17D (by rfl) (by decide) (Q.map Ev.cells) hu.each hone base _ hu1 (by simp; omega) (by decide) (by simp)
    rw [List.nil_append] at hap
    have hnil : ∀ (n : Nat) (wx : World), (binOp BinOp.eql 50 (.slice (some ⟨g, 0, none⟩) n cap) (.slice none 0 0)).run Try.prog wx = .ok (.bool false) wx := fun _ _ => by kernel_rfl
    have HAP := Veil.mk hap
    generalize (Q.map Ev.cells).length = n at HAP hnil ⊢
    have hnl := hnil n
    clear hu hE hu1 hone hrest hnil hap
    go_enter Try.func34, Try.ntmps34
    go_wp2_with (at_builtin; obtain ⟨v1, w1, hr1, ho1, hg1, _⟩ := HAP.out; refine wpList_appx rfl _ _ 50 50 rfl _ _ _ _ rfl rfl hr1 ?_)
    go_ret
    refine ⟨_, rfl, ho1, ?_⟩
    exact hB.grown hg1 (by simp) (fun k hk => by cases hk; exact Nat.le_refl _)
set_option maxHeartbeats 4000000 in
theorem dEvents_any (base : Nat) (st : Ds) (p : Pl) (w : World) (hD : DocAt w base st p) (hG : GoodD st) :
    Calls Try.prog 19 #[.pointer (some ⟨p.D, 0, none⟩)] w fun r w' => ∃ v, r = .returned v ∧ OwnI w' w.heap.size 32 17 v (st.L.map Ev.cells) ∧ Below w.heap.size w w' := by
  have hcl := eCloneD_any base w p.v st.L hD.evs (by have := hG.llen; omega)
  have c10 := hD.cV hG.slen
  obtain ⟨x, c, hv⟩ := hD.evs.isSlice
  rw [hv] at hcl c10
  generalize (st.L.map Ev.cells).length = n at hcl c10
  generalize p.D = D at c10 ⊢
  clear hD hG hv
  go_enter Try.func19, Try.ntmps19
  go_wp2_with (go_at_call 34; refine hcl.mono ?_; rintro y W1 ⟨v, rfl, ho, hb⟩)
  go_ret
  exact ⟨v, rfl, ho, hb⟩
end Go.Proofs.Ytgmbmdmbnpkbbaa

