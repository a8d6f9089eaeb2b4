/- doc: deeds; what an event does, by its kind. -/
import Derived.Test.YtgmbmdmbnpkbbaaDc4
namespace Go.Proofs.Ytgmbmdmbnpkbbaa
open Go.RowKit Go.Shelf
set_option maxRecDepth 20000
set_option linter.unusedSimpArgs false
def encKD (k : Int) : Value := .int .u8 k
def okKD (k : Int) : Prop := k = 1 ∨ k = 2 ∨ k = 3 ∨ k = 4
theorem keyEncKD : KeyEnc Try.prog 29 encKD okKD where
  keyed := Go.Maps.int_keyed (q := .u8) Try.underlying29
  has := fun k h => by
    rcases h with rfl | rfl | rfl | rfl
    · exact ⟨.int .u8 1, by kernel_rfl⟩
    · exact ⟨.int .u8 2, by kernel_rfl⟩
    · exact ⟨.int .u8 3, by kernel_rfl⟩
    · exact ⟨.int .u8 4, by kernel_rfl⟩
  inj := fun x y _ _ e => by unfold encKD at e; injection e
def deedV (D f : Nat) : Value := .func (.func f) #[.pointer (some ⟨D, 0, none⟩)] #[]
def deedF (k : Int) : Nat := if k = 1 then 59 else if k = 2 then 60 else 61
def deedM (D : Nat) : Int → Option Value := putG (putG (putG (putG (fun _ => none) 1 (deedV D 59)) 2 (deedV D 60)) 3 (deedV D 61)) 4 (deedV D 61)
theorem deedM_at (D : Nat) {k : Int} (h : okKD k) : deedM D k = some (deedV D (deedF k)) := by
  rcases h with rfl | rfl | rfl | rfl <;> rfl
set_option maxHeartbeats 4000000 in
theorem ddeeds_any (D : Nat) (w : World) :
    Calls Try.prog 47 #[.pointer (some ⟨D, 0, none⟩)] w fun r w' => ∃ mb, r = .returned (.map (some mb)) ∧ Below w.heap.size w w' ∧ MapG Try.prog 29 encKD okKD w' mb 4 (deedM D) := by
  have hmk := @run_makeMap Try.prog
  have hb0 : Below w.heap.size w (w.alloc (.map #[] 0)) := (Below.refl _ _).alloc (Nat.le_refl _) _
  have ut := Try.underlying97
  obtain ⟨W1, r1, m1, g1⟩ := (MapG.made (P := Try.prog) (kt := 29) (enc := encKD) (ok := okKD) w).store keyEncKD ut (by simp [maxLen]) 1 (.inl rfl) (deedV D 59)
  obtain ⟨W2, r2, m2, g2⟩ := m1.store keyEncKD ut (by simp [maxLen]) 2 (.inr (.inl rfl)) (deedV D 60)
  obtain ⟨W3, r3, m3, g3⟩ := m2.store keyEncKD ut (by simp [maxLen]) 3 (.inr (.inr (.inl rfl))) (deedV D 61)
  obtain ⟨W4, r4, m4, g4⟩ := m3.store keyEncKD ut (by simp [maxLen]) 4 (.inr (.inr (.inr rfl))) (deedV D 61)
  have tb : ∀ {a b : World}, a.grownBy b (some w.heap.size) → Below w.heap.size w a → Below w.heap.size w b := fun {a b} g h => h.trans ((Turn.of_grown (p := fun k => k = w.heap.size) g fun k e => by injection e with e; exact e.symm).below h.size fun k e => by omega)
  have HB := Veil.mk (tb g4 (tb g3 (tb g2 (tb g1 hb0))))
  have HM := Veil.mk m4
  unfold encKD deedV at r1 r2 r3 r4
  clear tb g1 g2 g3 g4 m1 m2 m3 m4 hb0
  go_enter Try.func47, Try.ntmps47
  go_wp2
  go_ret
  exact ⟨_, rfl, HB.out, HM.out⟩
theorem dact_any (base : Nat) (st : Ds) (p : Pl) (e : Ev) (w : World) (hD : DocAt w base st p) (hG : GoodD st) (he : e.Ok) (hk : okKD e.kind) (hbase : base ≤ w.heap.size) :
    Calls Try.prog (deedF e.kind) #[.pointer (some ⟨p.D, 0, none⟩), .agg e.cells.toArray] w fun r w' => r = .returned (.bool (actB st e)) ∧ ∃ p', DocAt w' base { st with N := actN st e, B := actK st e } p' ∧ DocTo p p' w w' := by
  rcases hk with h | h | h | h
  · have e1 : deedF e.kind = 59 := if_pos h
    have e2 : actB st e = (mayB st e 2 && (refI st.N e.nd == 0)) := if_pos h
    have e3 : actN st e = (if mayB st e 2 = true then insN st.N e.nd else st.N) := if_pos h
    have e4 : actK st e = st.B := if_pos (Or.inl h)
    rw [e1, e2, e3, e4]
    exact dinsert_any base st p e w hD hG he hbase
  · have h1 : ¬ e.kind = 1 := by omega
    have e1 : deedF e.kind = 60 := (if_neg h1).trans (if_pos h)
    have e2 : actB st e = (mayB st e 2 && (chrN st.N e.par).isSome) := (if_neg h1).trans (if_pos h)
    have e3 : actN st e = (if mayB st e 2 = true then delN st.N e.par else st.N) := (if_neg h1).trans (if_pos h)
    have e4 : actK st e = st.B := if_pos (Or.inr h)
    rw [e1, e2, e3, e4]
    exact derase_any base st p e w hD hG he hbase
  all_goals
    have h1 : ¬ e.kind = 1 := by omega
    have h2 : ¬ e.kind = 2 := by omega
    have e1 : deedF e.kind = 61 := (if_neg h1).trans (if_neg h2)
    have e2 : actB st e = (mayB st e 3 && (refB st.B e == 0)) := (if_neg h1).trans (if_neg h2)
    have e3 : actN st e = st.N := (if_neg h1).trans (if_neg h2)
    have e4 : actK st e = (if mayB st e 3 = true then addB st.B e else st.B) := if_neg (by omega)
    rw [e1, e2, e3, e4]
    exact denter_any base st p e w hD hG he hbase
end Go.Proofs.Ytgmbmdmbnpkbbaa

