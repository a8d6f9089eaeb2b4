/- The readers of wire: bytes that were filled up, as a whole. -/
import Derived.Test.YtgeiiadlchimhaaDoorRd4
namespace Go.Proofs.YtgeiiadlchimhaaDoor
open Go.RowKit
set_option maxRecDepth 20000
set_option linter.unusedSimpArgs false

theorem Box.other {w : World} {H : Nat} {t : TypeId} {v : Value} (h : Box w H t v) (a : Addr) (u : Value) (hne : H ≠ a.block) : Box (w.setCell a u) H t v := by
  unfold Box at h ⊢
  rw [heap_setCell_other w a H u hne]; exact h
theorem wrong_asserted (wx : World) : (Instr.typeAssert (.iface 77 (.agg #[])) 20 77 true).run Tryd.prog wx = .ok (.tuple #[.agg #[], .bool true]) wx := by kernel_rfl
theorem wrong_stored (wx : World) (g : Nat) : (Instr.storeAt 77 (.pointer (some ⟨g, 0, none⟩)) (.agg #[])).run Tryd.prog wx = .ok () wx := by kernel_rfl
set_option maxHeartbeats 2000000 in
theorem catchB_panicking (A B : Nat) (u v : Value) (w : World) (hA : Box w A 35 u) (hB : Box w B 36 v) (hne : A ≠ B) :
    CallsD Tryd.prog 30 #[.pointer (some ⟨A, 0, none⟩), .pointer (some ⟨B, 0, none⟩)] (.panicking [wrongP]) w fun e u' w' =>
      e = .returned (.tuple #[]) ∧ u' = .panicking [{ v := .iface 77 (.agg #[]), recovered := true }] ∧ w' = ((w.alloc (.cells #[] 77)).setCell ⟨A, 0, none⟩ (.slice none 0 0)).setCell ⟨B, 0, none⟩ (.int .i64 3) := by
  have hta := wrong_asserted
  have hst := wrong_stored
  have cA := (hA.alloc (.cells #[] 77)).cell
  have fA := (hA.alloc (.cells #[] 77)).frozen
  have hB2 : Box ((w.alloc (.cells #[] 77)).setCell ⟨A, 0, none⟩ (.slice none 0 0)) B 36 v := by
    have := hB.alloc (.cells #[] 77)
    unfold Box at this ⊢
    rw [heap_setCell_other _ _ B _ (by exact fun e => hne e.symm)]; exact this
  have cB := hB2.cell
  have fB := hB2.frozen
  clear hA hB hB2
  refine callsD_of_wpS Tryd.func30 rfl fun c₀ cs hu => ?_
  apply wpS_seq
  apply wpS_region
  simp [wpOpsS, go_sem, recoverD, hu, wrongP, Tryd.ntmps30, Exit.thenS]
  refine wpS_of_wp ?_
  change Code.wp _ _ _ { tmps := #[.pointer (some ⟨A, 0, none⟩), .pointer (some ⟨B, 0, none⟩), undef, undef, undef, undef, .iface 77 (.agg #[]), undef, undef, undef, undef, undef, undef], defers := [] } _
  go_wp2
  simp [bodyPostS, results, Tryd.results30]
set_option maxHeartbeats 2000000 in
theorem catchB_idle (A B : Nat) (w : World) :
    CallsD Tryd.prog 30 #[.pointer (some ⟨A, 0, none⟩), .pointer (some ⟨B, 0, none⟩)] .returning w fun e u' w' => e = .returned (.tuple #[]) ∧ u' = .returning ∧ w' = w := by
  refine callsD_of_wpS Tryd.func30 rfl fun c₀ cs hu => ?_
  apply wpS_seq
  apply wpS_region
  simp [wpOpsS, go_sem, recoverD, hu, Tryd.ntmps30, Exit.thenS]
  refine wpS_of_wp ?_
  change Code.wp _ _ _ { tmps := #[.pointer (some ⟨A, 0, none⟩), .pointer (some ⟨B, 0, none⟩), undef, undef, undef, undef, .nilIface, undef, undef, undef, undef, undef, undef], defers := [] } _
  go_wp2
  cases c₀
  simp_all [bodyPostS, results, Tryd.results30]
theorem nilIface_eq (wx : World) : (binOp BinOp.eql 20 .nilIface .nilIface).run Tryd.prog wx = .ok (.bool true) wx := by kernel_rfl
theorem make_func (fn : Fn) (first cap : Array Value) (w : World) : (Instr.makeFunc fn first cap).run Tryd.prog w = .ok (.func fn first cap) w := rfl

set_option maxHeartbeats 4000000 in
theorem readB_any (x : Option Addr) (n c : Nat) (z : List Int) (w : World) (hT : BTab w) (hb : Bytes w x n c z) (hz : ∀ v ∈ z, b8 v) (hl : z.length ≤ 1000000) :
    Calls Tryd.prog 19 #[.slice x n c, .func (.func 20) #[] #[]] w fun e w' =>
      (unpadOk z ∧ ∃ x' n' c', e = .returned (.tuple #[.slice x' n' c', .int .i64 0]) ∧ OwnB w' w.heap.size (.slice x' n' c') (unpadL z) ∧ Below w.heap.size w w') ∨ (¬ unpadOk z ∧ e = .returned (.tuple #[.slice none 0 0, .int .i64 3]) ∧ Below w.heap.size w w') := by
  have hmf := make_func
  have hA0 : Box ((w.alloc (.cells #[.slice none 0 0] 35)).alloc (.cells #[.int .i64 0] 36)) w.heap.size 35 (.slice none 0 0) := Box.alloc (heap_alloc_new _ _) _
  have hB0 : Box ((w.alloc (.cells #[.slice none 0 0] 35)).alloc (.cells #[.int .i64 0] 36)) (w.heap.size + 1) 36 (.int .i64 0) := by
    have : Box ((w.alloc (.cells #[.slice none 0 0] 35)).alloc (.cells #[.int .i64 0] 36)) (w.alloc (.cells #[.slice none 0 0] 35)).heap.size 36 (.int .i64 0) := heap_alloc_new _ _
    rw [World.size_alloc] at this
    exact this
  have hW0 : Below w.heap.size w ((w.alloc (.cells #[.slice none 0 0] 35)).alloc (.cells #[.int .i64 0] 36)) := ((Below.refl _ _).alloc (Nat.le_refl _) _).alloc (by simp) _
  have hs0 : ((w.alloc (.cells #[.slice none 0 0] 35)).alloc (.cells #[.int .i64 0] 36)).heap.size = w.heap.size + 2 := by simp
  have hpd := fun W1 (hW1 : Below w.heap.size w W1) (hR1 : Rd W1 (w.heap.size + 2) w.heap.size z) => padded_any (w.heap.size + 2) w.heap.size z W1 hR1 (fun wx hx => hT.below (hW1.trans hx)) hz hl
  obtain ⟨U, hU⟩ : ∃ q, unpadL z = q := ⟨_, rfl⟩
  rw [hU] at hpd ⊢
  obtain ⟨OK, hOK⟩ : ∃ q, unpadOk z = q := ⟨_, rfl⟩
  rw [hOK] at hpd ⊢
  clear hU hOK hT hz hl
  go_enter_defers Tryd.func19, Tryd.ntmps19
  go_upto_region 2 with fail
  refine forget (p := fun y => Code.wp _ _ _ _ y) (fun W0 => Below w.heap.size w W0 ∧ W0.heap.size = w.heap.size + 2 ∧ Box W0 w.heap.size 35 (.slice none 0 0) ∧ Box W0 (w.heap.size + 1) 36 (.int .i64 0)) ⟨hW0, hs0, hA0, hB0⟩ ?_
  clear hW0 hs0 hA0 hB0 hmf
  rintro W0 ⟨hW0, hs0, hA0, hB0⟩
  have hRx : Box (W0.alloc (.cells #[.slice x n c] 81)) (w.heap.size + 2) 81 (.slice x n c) := by
    have : Box (W0.alloc (.cells #[.slice x n c] 81)) W0.heap.size 81 (.slice x n c) := heap_alloc_new _ _
    rw [hs0] at this
    exact this
  have hR1 : Rd (W0.alloc (.cells #[.slice x n c] 81)) (w.heap.size + 2) w.heap.size z := ⟨by omega, x, n, c, hRx, fun wx hx => hb.below ((hW0.alloc hW0.size _).trans hx)⟩
  have hA1 := hA0.alloc (.cells #[.slice x n c] 81)
  have hB1 := hB0.alloc (.cells #[.slice x n c] 81)
  have hW1 := hW0.alloc hW0.size (.cells #[.slice x n c] 81)
  go_upto_region 3 with fail
  refine forget (p := fun y => Code.wp _ _ _ _ y) (fun W1 => Below w.heap.size w W1 ∧ Rd W1 (w.heap.size + 2) w.heap.size z ∧ Box W1 w.heap.size 35 (.slice none 0 0) ∧ Box W1 (w.heap.size + 1) 36 (.int .i64 0)) ⟨hW1, hR1, hA1, hB1⟩ ?_
  clear hW1 hR1 hA1 hB1 hRx hW0 hs0 hA0 hB0
  rintro W1 ⟨hW1, hR1, hA1, hB1⟩
  have hrd := hpd W1 hW1 hR1
  have keep : ∀ w', Took W1 w' (w.heap.size + 2) w.heap.size → Box w' w.heap.size 35 (.slice none 0 0) ∧ Box w' (w.heap.size + 1) 36 (.int .i64 0) := fun w' ht => by
    have l1 := hA1.lt
    have l2 := hB1.lt
    unfold Box at hA1 hB1 ⊢
    exact ⟨by rw [ht.kept _ l1 (by omega)]; exact hA1, by rw [ht.kept _ l2 (by omega)]; exact hB1⟩
  clear hb hR1 hpd
  by_cases hO : OK
  · have h1 : Calls Tryd.prog 20 #[.pointer (some ⟨w.heap.size + 2, 0, none⟩)] W1 fun e w' => ∃ x' n' c', e = .returned (.slice x' n' c') ∧ OwnB w' w.heap.size (.slice x' n' c') U ∧ Rd w' (w.heap.size + 2) w.heap.size [] ∧ Took W1 w' (w.heap.size + 2) w.heap.size := hrd.mono fun e w' h => by
      rcases h with ⟨_, v, h1, h2, h3, h4⟩ | ⟨h, _⟩
      · obtain ⟨x', n', c', rfl, _⟩ := h2.isSlice
        exact ⟨x', n', c', h1, h2, h3, h4⟩
      · exact absurd hO h
    have HO : Veil OK := ⟨hO⟩
    clear hrd hO hA1 hB1
    go_upto_region 4 with (go_at_call 20; refine h1.mono ?_; rintro e w2 ⟨x2, n2, c2, rfl, ho2, hR2, ht2⟩; have hk2 := keep _ ht2; have cA := hk2.1.cell; have fA := hk2.1.frozen)
    have hW2 := hW1.trans ht2.below
    obtain ⟨xr, nr, cr, hbr, hyr⟩ := hR2.has
    have hyr0 := hyr w2 (Below.refl _ _)
    obtain rfl : nr = 0 := hyr0.len_eq
    have hler := hyr0.le
    have htpr := hyr0.top
    have hA3 : Box (w2.setCell ⟨w.heap.size, 0, none⟩ (.slice x2 n2 c2)) w.heap.size 35 (.slice x2 n2 c2) := hk2.1.set _
    have hB3 : Box (w2.setCell ⟨w.heap.size, 0, none⟩ (.slice x2 n2 c2)) (w.heap.size + 1) 36 (.int .i64 0) := hk2.2.other _ _ (by show w.heap.size + 1 ≠ w.heap.size; omega)
    have hR3 : Box (w2.setCell ⟨w.heap.size, 0, none⟩ (.slice x2 n2 c2)) (w.heap.size + 2) 81 (.slice xr 0 cr) := hbr.other _ _ (by show w.heap.size + 2 ≠ w.heap.size; omega)
    have hO3 := ho2.setBox hk2.1 (by decide) (.slice x2 n2 c2)
    refine forget (p := fun y => Code.wp _ _ _ _ y) (fun W3 => Below w.heap.size w W3 ∧ Box W3 w.heap.size 35 (.slice x2 n2 c2) ∧ Box W3 (w.heap.size + 1) 36 (.int .i64 0) ∧ Box W3 (w.heap.size + 2) 81 (.slice xr 0 cr) ∧ OwnB W3 w.heap.size (.slice x2 n2 c2) U) ⟨hW2.setCell (Nat.le_refl _) _, hA3, hB3, hR3, hO3⟩ ?_
    clear hA3 hB3 hR3 hO3 hW2 hk2 cA fA ht2 hR2 ho2 hbr hyr hyr0 h1 keep hW1
    rintro W3 ⟨hW3, hA3, hB3, hR3, hO3⟩
    have cR := hR3.cell
    have cA := hA3.cell
    have fA := hA3.frozen
    have hnd := need_ok W3
    go_upto_region 5 with (go_at_call 31; refine hnd.mono ?_; rintro e w4 ⟨⟨r4, rfl⟩, rfl⟩)
    have hA4 := hA3.set (.slice x2 n2 c2)
    have hB4 := hB3.other ⟨w.heap.size, 0, none⟩ (.slice x2 n2 c2) (by show w.heap.size + 1 ≠ w.heap.size; omega)
    have cB := hB4.cell
    have fB := hB4.frozen
    go_wp2
    refine leaves_cons (f := 30) (args := #[.pointer (some ⟨w.heap.size, 0, none⟩), .pointer (some ⟨w.heap.size + 1, 0, none⟩)]) (by simp) (by simp [go_sem]) ?_
    refine (catchB_idle w.heap.size (w.heap.size + 1) _).mono ?_
    rintro e u' w'' ⟨rfl, rfl, rfl⟩
    have hA5 := hA4.other ⟨w.heap.size + 1, 0, none⟩ (.int .i64 0) (by show w.heap.size ≠ w.heap.size + 1; omega)
    have hB5 := hB4.set (.int .i64 0)
    have dA := hA5.cell
    have dB := hB5.cell
    have hO5 := (hO3.setBox hA3 (by decide) (.slice x2 n2 c2)).setBox hB4 (by decide) (.int .i64 0)
    have hW5 : Below w.heap.size w ((W3.setCell ⟨w.heap.size, 0, none⟩ (.slice x2 n2 c2)).setCell ⟨w.heap.size + 1, 0, none⟩ (.int .i64 0)) := (hW3.setCell (Nat.le_refl _) _).setCell (by show w.heap.size ≤ w.heap.size + 1; omega) _
    refine ⟨.tuple #[.slice x2 n2 c2, .int .i64 0], ?_, .inl ⟨HO.out, x2, n2, c2, rfl, hO5, hW5⟩⟩
    simp [results, Tryd.results19, go_sem, dA, dB]
  · have h1 : Calls Tryd.prog 20 #[.pointer (some ⟨w.heap.size + 2, 0, none⟩)] W1 fun e w' => e = .panicked [wrongP] ∧ Took W1 w' (w.heap.size + 2) w.heap.size := hrd.mono fun e w' h => by
      rcases h with ⟨h, _⟩ | ⟨_, h1, h2⟩
      · exact absurd h hO
      · exact ⟨h1, h2⟩
    have HO : Veil (¬ OK) := ⟨hO⟩
    clear hrd hO hA1 hB1
    go_upto_region 4 with (go_at_call 20; refine h1.mono ?_; rintro e w2 ⟨rfl, ht2⟩)
    have hk2 := keep _ ht2
    have hW2 := hW1.trans ht2.below
    refine leaves_cons (f := 30) (args := #[.pointer (some ⟨w.heap.size, 0, none⟩), .pointer (some ⟨w.heap.size + 1, 0, none⟩)]) (by simp) (by simp [go_sem]) ?_
    refine (catchB_panicking w.heap.size (w.heap.size + 1) _ _ w2 hk2.1 hk2.2 (by omega)).mono ?_
    rintro e u' w'' ⟨rfl, rfl, rfl⟩
    have hA3 := (hk2.1.alloc (.cells #[] 77)).set (.slice none 0 0)
    have hB3 := (hk2.2.alloc (.cells #[] 77)).other ⟨w.heap.size, 0, none⟩ (.slice none 0 0) (by show w.heap.size + 1 ≠ w.heap.size; omega)
    have dA := (hA3.other ⟨w.heap.size + 1, 0, none⟩ (.int .i64 3) (by show w.heap.size ≠ w.heap.size + 1; omega)).cell
    have dB := (hB3.set (.int .i64 3)).cell
    have hW5 : Below w.heap.size w (((w2.alloc (.cells #[] 77)).setCell ⟨w.heap.size, 0, none⟩ (.slice none 0 0)).setCell ⟨w.heap.size + 1, 0, none⟩ (.int .i64 3)) := ((hW2.alloc hW2.size _).setCell (Nat.le_refl _) _).setCell (by show w.heap.size ≤ w.heap.size + 1; omega) _
    refine ⟨.tuple #[.slice none 0 0, .int .i64 3], ?_, .inr ⟨HO.out, rfl, hW5⟩⟩
    simp [results, Tryd.results19, go_sem, dA, dB]
end Go.Proofs.YtgeiiadlchimhaaDoor
