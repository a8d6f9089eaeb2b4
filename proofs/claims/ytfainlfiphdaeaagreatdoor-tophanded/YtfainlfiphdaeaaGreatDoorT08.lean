/- Rd4 Rd5 Re4 -/
import Derived.Test.YtfainlfiphdaeaaGreatDoorT03
import Derived.Test.YtfainlfiphdaeaaGreatDoorT07
import Derived.Test.YtfainlfiphdaeaaGreatDoorT06
namespace Go.Proofs.YtfainlfiphdaeaaGreatDoor
open Go.RowKit
set_option maxRecDepth 20000
set_option linter.unusedSimpArgs false
def toldN (z : List Int) : Nat := (val2 (z[0]?.getD 0) (z[1]?.getD 0)).toNat
def unpadOk (z : List Int) : Prop := 2 ≤ z.length ∧ bucketN (toldN z) = (z.length : Int) ∧ ∀ j, j < z.length - (2 + toldN z) → (z.drop (2 + toldN z))[j]?.getD 0 = 0
def unpadL (z : List Int) : List Int := (z.drop 2).take (toldN z)
theorem told_val (z : List Int) (hz : ∀ v ∈ z, b8 v) : val2 (z[0]?.getD 0) (z[1]?.getD 0) = (toldN z : Int) ∧ toldN z ≤ 65535 := by
  have h0 := b8_get hz 0
  have h1 := b8_get hz 1
  unfold toldN val2
  omega
set_option maxHeartbeats 4000000 in
theorem padded_any (R base : Nat) (z : List Int) (w : World) (hR : Rd w R base z) (hT : ∀ wx, Below base w wx → BTab wx) (hz : ∀ v ∈ z, b8 v) (hl : z.length ≤ 1000000) :
    Calls Tryz.prog 127 #[.pointer (some ⟨R, 0, none⟩)] w fun e w' =>
      (unpadOk z ∧ ∃ v, e = .returned v ∧ OwnB w' base v (unpadL z) ∧ Rd w' R base [] ∧ Took w w' R base) ∨ (¬ unpadOk z ∧ e = .panicked [wrongP] ∧ Took w w' R base) := by
  obtain ⟨hv, hlt⟩ := told_val z hz
  obtain ⟨s, hs, hs'⟩ := bucketN_in (toldN z)
  have HOK : Veil (unpadOk z ↔ (2 ≤ z.length ∧ s = z.length ∧ ∀ j, j < z.length - (2 + toldN z) → (z.drop (2 + toldN z))[j]?.getD 0 = 0)) := ⟨by
    unfold unpadOk; rw [hs]; constructor
    · rintro ⟨h1, h2, h3⟩; exact ⟨h1, by omega, h3⟩
    · rintro ⟨h1, h2, h3⟩; exact ⟨h1, by omega, h3⟩⟩
  have h2 := rtwo_any R base z w hR hz
  rw [hv] at h2
  have HU : Veil (unpadL z = (z.drop 2).take (toldN z)) := ⟨rfl⟩
  obtain ⟨U, hU⟩ : ∃ q, unpadL z = q := ⟨_, rfl⟩
  rw [hU] at HU ⊢
  obtain ⟨OK, hOK⟩ : ∃ q, unpadOk z = q := ⟨_, rfl⟩
  rw [hOK] at HOK ⊢
  obtain ⟨L, hL⟩ : ∃ q, toldN z = q := ⟨_, rfl⟩
  rw [hL] at h2 hs hs' HOK HU hlt
  have hbk := fun wx (h : Below base w wx) => bucket_any (L : Int) wx (hT wx h)
  rw [hs] at hbk
  have hge := hR.ge
  obtain ⟨x, n, c, hbx, hby⟩ := hR.has
  have hn := (hby w (Below.refl _ _)).len_eq
  have HN : Veil (n = z.length) := ⟨hn⟩
  have hcl := hbx.cell
  have hle := (hby w (Below.refl _ _)).le
  have htp := (hby w (Below.refl _ _)).top
  have hnl : n ≤ 1000000 := by omega
  have hok := fun wx => need_ok wx
  have hbad := fun wx => need_bad wx
  clear hR hbx hby hn hU hOK hL hv hT hs hz
  go_enter Tryz.func127, Tryz.ntmps127
  go_upto_region 3 with (go_at_call 171; refine h2.mono ?_; rintro e w1 (⟨hk, rfl, hR1, ht1⟩ | ⟨hk, rfl, ht1⟩))
  rotate_left
  · exact bodyPost_gone (.inr ⟨fun h => by have := (HOK.out.1 h).1; omega, rfl, ht1⟩)
  have hk1 := hbk w1 ht1.below
  clear h2 hcl
  by_cases hsn : s = n
  · subst hsn
    have hLs : L + 2 ≤ s := by have := HN.out; omega
    go_upto_region 4 with (first
      | (go_at_call 101; refine hk1.mono ?_; rintro e w2 ⟨rfl, rfl⟩)
      | (go_at_call 164; refine (hok _).mono ?_; rintro e w2 ⟨⟨r2, rfl⟩, rfl⟩))
    have htk := take_any R base (z.drop 2) L w1 hR1
    have hld : (z.drop 2).length = s - 2 := by rw [List.length_drop, HN.out]
    have HLD : Veil ((z.drop 2).length = s - 2) := ⟨hld⟩
    clear hk1 hR1 hld hbk hbad
    go_upto_region 5 with (first
      | (go_at_call 173; refine htk.mono ?_; rintro e w2 (⟨hk2, x2, rfl, hy2, hR2, ht2⟩ | ⟨hk2, _⟩); rotate_left; (exfalso; have := HLD.out; omega); have hcn := clone_any x2 L L ((z.drop 2).take L) w2 (hy2 w2 (Below.refl _ _)) (by omega))
      | (go_at_call 172; refine hcn.mono ?_; rintro e w3 ⟨v3, rfl, ho3, hb3⟩))
    have hR3 := hR2.afar hb3
    have ht3 := (ht1.trans ht2).trans (Took.afar hR2.size hb3)
    have hO3 := ho3.lessG (base' := base) hR2.size
    rw [← HU.out] at hO3
    have hdd : (z.drop 2).drop L = z.drop (2 + L) := by rw [List.drop_drop]
    rw [hdd] at hR3
    obtain ⟨x4, n4, c4, hbx4, hby4⟩ := hR3.has
    have hcl4 := hbx4.cell
    have hn4 := (hby4 w3 (Below.refl _ _)).len_eq
    have hle4 := (hby4 w3 (Below.refl _ _)).le
    have htp4 := (hby4 w3 (Below.refl _ _)).top
    have hnn4 : n4 = s - (2 + L) := by rw [hn4, List.length_drop, HN.out]
    have HN4 : Veil (n4 = (z.drop (2 + L)).length ∧ n4 = s - (2 + L)) := ⟨hn4, hnn4⟩
    have hn4b : n4 ≤ 1000000 := by omega
    have hzr := rzeros_any R base (z.drop (2 + L)) n4 w3 hR3 hn4b
    clear hn4 hnn4 hby4 hdd ho3 hR3 hR2 htk hy2 hb3
    go_upto_region 6 with (go_at_call 169; refine hzr.mono ?_; rintro e w4 (⟨hk4, ⟨r4, rfl⟩, hR4, ht4⟩ | ⟨hk4, rfl, ht4⟩))
    rotate_left
    · exact bodyPost_gone (.inr ⟨fun h => hk4 ⟨by rw [HN4.out.1]; exact Nat.le_refl _, fun j hj => (HOK.out.1 h).2.2 j (by have := HN.out; have := HN4.out.2; omega)⟩, rfl, ht3.trans ht4⟩)
    have hO4 := hO3.took hbx4 ht4
    obtain ⟨xq, nq, cq, rfl, _⟩ := hO4.isSlice
    rw [HN4.out.1, List.drop_of_length_le (Nat.le_refl _)] at hR4
    have HOK4 : Veil (∀ j, j < s - (2 + L) → (z.drop (2 + L))[j]?.getD 0 = 0) := ⟨fun j hj => hk4.2 j (by rw [HN4.out.2]; exact hj)⟩
    clear hzr hk4 hbx4 hcl4 hO3
    go_wp2
    go_ret
    refine .inl ⟨HOK.out.2 ⟨hk, HN.out, fun j hj => HOK4.out j (by have := HN.out; omega)⟩, _, rfl, hO4, hR4, ht3.trans ht4⟩
  · have hsb : ((s : Int) == (n : Int)) = false := by simp; omega
    go_upto_region 4 with (first
      | (go_at_call 101; refine hk1.mono ?_; rintro e w2 ⟨rfl, rfl⟩)
      | (go_at_call 164; refine (hbad _).mono ?_; rintro e w2 ⟨rfl, rfl⟩))
    exact bodyPost_gone (.inr ⟨fun h => hsn (by rw [(HOK.out.1 h).2.1, HN.out]), rfl, ht1⟩)
end Go.Proofs.YtfainlfiphdaeaaGreatDoor
namespace Go.Proofs.YtfainlfiphdaeaaGreatDoor
open Go.RowKit
set_option maxRecDepth 20000
set_option linter.unusedSimpArgs false
theorem Box.other {w : World} {H : Nat} {t : TypeId} {v : Value} (h : Box w H t v) (a : Addr) (u : Value) (hne : H ≠ a.block) : Box (w.setCell a u) H t v := by
  unfold Box at h ⊢
  rw [heap_setCell_other w a H u hne]; exact h
theorem wrong_asserted (wx : World) : (Instr.typeAssert (.iface 196 (.agg #[])) 20 196 true).run Tryz.prog wx = .ok (.tuple #[.agg #[], .bool true]) wx := by kernel_rfl
theorem wrong_stored (wx : World) (g : Nat) : (Instr.storeAt 196 (.pointer (some ⟨g, 0, none⟩)) (.agg #[])).run Tryz.prog wx = .ok () wx := by kernel_rfl
set_option maxHeartbeats 2000000 in
theorem catchB_panicking (A B : Nat) (u v : Value) (w : World) (hA : Box w A 41 u) (hB : Box w B 44 v) (hne : A ≠ B) :
    CallsD Tryz.prog 170 #[.pointer (some ⟨A, 0, none⟩), .pointer (some ⟨B, 0, none⟩)] (.panicking [wrongP]) w fun e u' w' =>
      e = .returned (.tuple #[]) ∧ u' = .panicking [{ v := .iface 196 (.agg #[]), recovered := true }] ∧ w' = ((w.alloc (.cells #[] 196)).setCell ⟨A, 0, none⟩ (.slice none 0 0)).setCell ⟨B, 0, none⟩ (.int .i64 3) := by
  have hta := wrong_asserted
  have hst := wrong_stored
  have cA := (hA.alloc (.cells #[] 196)).cell
  have fA := (hA.alloc (.cells #[] 196)).frozen
  have hB2 : Box ((w.alloc (.cells #[] 196)).setCell ⟨A, 0, none⟩ (.slice none 0 0)) B 44 v := by
    have := hB.alloc (.cells #[] 196)
    unfold Box at this ⊢
    rw [heap_setCell_other _ _ B _ (by exact fun e => hne e.symm)]; exact this
  have cB := hB2.cell
  have fB := hB2.frozen
  clear hA hB hB2
  refine callsD_of_wpS Tryz.func170 rfl fun c₀ cs hu => ?_
  apply wpS_seq
  apply wpS_region
  simp [wpOpsS, go_sem, recoverD, hu, wrongP, Tryz.ntmps170, Exit.thenS]
  refine wpS_of_wp ?_
  change Code.wp _ _ _ { tmps := #[.pointer (some ⟨A, 0, none⟩), .pointer (some ⟨B, 0, none⟩), undef, undef, undef, undef, .iface 196 (.agg #[]), undef, undef, undef, undef, undef, undef], defers := [] } _
  go_wp2
  simp [bodyPostS, results, Tryz.results170]
set_option maxHeartbeats 2000000 in
theorem catchB_idle (A B : Nat) (w : World) :
    CallsD Tryz.prog 170 #[.pointer (some ⟨A, 0, none⟩), .pointer (some ⟨B, 0, none⟩)] .returning w fun e u' w' => e = .returned (.tuple #[]) ∧ u' = .returning ∧ w' = w := by
  refine callsD_of_wpS Tryz.func170 rfl fun c₀ cs hu => ?_
  apply wpS_seq
  apply wpS_region
  simp [wpOpsS, go_sem, recoverD, hu, Tryz.ntmps170, Exit.thenS]
  refine wpS_of_wp ?_
  change Code.wp _ _ _ { tmps := #[.pointer (some ⟨A, 0, none⟩), .pointer (some ⟨B, 0, none⟩), undef, undef, undef, undef, .nilIface, undef, undef, undef, undef, undef, undef], defers := [] } _
  go_wp2
  cases c₀
  simp_all [bodyPostS, results, Tryz.results170]
theorem nilIface_eq (wx : World) : (binOp BinOp.eql 20 .nilIface .nilIface).run Tryz.prog wx = .ok (.bool true) wx := by kernel_rfl
theorem make_func (fn : Fn) (first cap : Array Value) (w : World) : (Instr.makeFunc fn first cap).run Tryz.prog w = .ok (.func fn first cap) w := rfl
set_option maxHeartbeats 4000000 in
theorem readB_any (x : Option Addr) (n c : Nat) (z : List Int) (w : World) (hT : BTab w) (hb : Bytes w x n c z) (hz : ∀ v ∈ z, b8 v) (hl : z.length ≤ 1000000) :
    Calls Tryz.prog 126 #[.slice x n c, .func (.func 127) #[] #[]] w fun e w' =>
      (unpadOk z ∧ ∃ x' n' c', e = .returned (.tuple #[.slice x' n' c', .int .i64 0]) ∧ OwnB w' w.heap.size (.slice x' n' c') (unpadL z) ∧ Below w.heap.size w w') ∨ (¬ unpadOk z ∧ e = .returned (.tuple #[.slice none 0 0, .int .i64 3]) ∧ Below w.heap.size w w') := by
  have hmf := make_func
  have hA0 : Box ((w.alloc (.cells #[.slice none 0 0] 41)).alloc (.cells #[.int .i64 0] 44)) w.heap.size 41 (.slice none 0 0) := Box.alloc (heap_alloc_new _ _) _
  have hB0 : Box ((w.alloc (.cells #[.slice none 0 0] 41)).alloc (.cells #[.int .i64 0] 44)) (w.heap.size + 1) 44 (.int .i64 0) := by
    have : Box ((w.alloc (.cells #[.slice none 0 0] 41)).alloc (.cells #[.int .i64 0] 44)) (w.alloc (.cells #[.slice none 0 0] 41)).heap.size 44 (.int .i64 0) := heap_alloc_new _ _
    rw [World.size_alloc] at this
    exact this
  have hW0 : Below w.heap.size w ((w.alloc (.cells #[.slice none 0 0] 41)).alloc (.cells #[.int .i64 0] 44)) := ((Below.refl _ _).alloc (Nat.le_refl _) _).alloc (by simp) _
  have hs0 : ((w.alloc (.cells #[.slice none 0 0] 41)).alloc (.cells #[.int .i64 0] 44)).heap.size = w.heap.size + 2 := by simp
  have hpd := fun W1 (hW1 : Below w.heap.size w W1) (hR1 : Rd W1 (w.heap.size + 2) w.heap.size z) => padded_any (w.heap.size + 2) w.heap.size z W1 hR1 (fun wx hx => hT.below (hW1.trans hx)) hz hl
  obtain ⟨U, hU⟩ : ∃ q, unpadL z = q := ⟨_, rfl⟩
  rw [hU] at hpd ⊢
  obtain ⟨OK, hOK⟩ : ∃ q, unpadOk z = q := ⟨_, rfl⟩
  rw [hOK] at hpd ⊢
  clear hU hOK hT hz hl
  go_enter_defers Tryz.func126, Tryz.ntmps126
  go_upto_region 2 with fail
  refine forget (p := fun y => Code.wp _ _ _ _ y) (fun W0 => Below w.heap.size w W0 ∧ W0.heap.size = w.heap.size + 2 ∧ Box W0 w.heap.size 41 (.slice none 0 0) ∧ Box W0 (w.heap.size + 1) 44 (.int .i64 0)) ⟨hW0, hs0, hA0, hB0⟩ ?_
  clear hW0 hs0 hA0 hB0 hmf
  rintro W0 ⟨hW0, hs0, hA0, hB0⟩
  have hRx : Box (W0.alloc (.cells #[.slice x n c] 200)) (w.heap.size + 2) 200 (.slice x n c) := by
    have : Box (W0.alloc (.cells #[.slice x n c] 200)) W0.heap.size 200 (.slice x n c) := heap_alloc_new _ _
    rw [hs0] at this
    exact this
  have hR1 : Rd (W0.alloc (.cells #[.slice x n c] 200)) (w.heap.size + 2) w.heap.size z := ⟨by omega, x, n, c, hRx, fun wx hx => hb.below ((hW0.alloc hW0.size _).trans hx)⟩
  have hA1 := hA0.alloc (.cells #[.slice x n c] 200)
  have hB1 := hB0.alloc (.cells #[.slice x n c] 200)
  have hW1 := hW0.alloc hW0.size (.cells #[.slice x n c] 200)
  go_upto_region 3 with fail
  refine forget (p := fun y => Code.wp _ _ _ _ y) (fun W1 => Below w.heap.size w W1 ∧ Rd W1 (w.heap.size + 2) w.heap.size z ∧ Box W1 w.heap.size 41 (.slice none 0 0) ∧ Box W1 (w.heap.size + 1) 44 (.int .i64 0)) ⟨hW1, hR1, hA1, hB1⟩ ?_
  clear hW1 hR1 hA1 hB1 hRx hW0 hs0 hA0 hB0
  rintro W1 ⟨hW1, hR1, hA1, hB1⟩
  have hrd := hpd W1 hW1 hR1
  have keep : ∀ w', Took W1 w' (w.heap.size + 2) w.heap.size → Box w' w.heap.size 41 (.slice none 0 0) ∧ Box w' (w.heap.size + 1) 44 (.int .i64 0) := fun w' ht => by
    have l1 := hA1.lt
    have l2 := hB1.lt
    unfold Box at hA1 hB1 ⊢
    exact ⟨by rw [ht.kept _ l1 (by omega)]; exact hA1, by rw [ht.kept _ l2 (by omega)]; exact hB1⟩
  clear hb hR1 hpd
  by_cases hO : OK
  · have h1 : Calls Tryz.prog 127 #[.pointer (some ⟨w.heap.size + 2, 0, none⟩)] W1 fun e w' => ∃ x' n' c', e = .returned (.slice x' n' c') ∧ OwnB w' w.heap.size (.slice x' n' c') U ∧ Rd w' (w.heap.size + 2) w.heap.size [] ∧ Took W1 w' (w.heap.size + 2) w.heap.size := hrd.mono fun e w' h => by
      rcases h with ⟨_, v, h1, h2, h3, h4⟩ | ⟨h, _⟩
      · obtain ⟨x', n', c', rfl, _⟩ := h2.isSlice
        exact ⟨x', n', c', h1, h2, h3, h4⟩
      · exact absurd hO h
    have HO : Veil OK := ⟨hO⟩
    clear hrd hO hA1 hB1
    go_upto_region 4 with (go_at_call 127; refine h1.mono ?_; rintro e w2 ⟨x2, n2, c2, rfl, ho2, hR2, ht2⟩; have hk2 := keep _ ht2; have cA := hk2.1.cell; have fA := hk2.1.frozen)
    have hW2 := hW1.trans ht2.below
    obtain ⟨xr, nr, cr, hbr, hyr⟩ := hR2.has
    have hyr0 := hyr w2 (Below.refl _ _)
    obtain rfl : nr = 0 := hyr0.len_eq
    have hler := hyr0.le
    have htpr := hyr0.top
    have hA3 : Box (w2.setCell ⟨w.heap.size, 0, none⟩ (.slice x2 n2 c2)) w.heap.size 41 (.slice x2 n2 c2) := hk2.1.set _
    have hB3 : Box (w2.setCell ⟨w.heap.size, 0, none⟩ (.slice x2 n2 c2)) (w.heap.size + 1) 44 (.int .i64 0) := hk2.2.other _ _ (by show w.heap.size + 1 ≠ w.heap.size; omega)
    have hR3 : Box (w2.setCell ⟨w.heap.size, 0, none⟩ (.slice x2 n2 c2)) (w.heap.size + 2) 200 (.slice xr 0 cr) := hbr.other _ _ (by show w.heap.size + 2 ≠ w.heap.size; omega)
    have hO3 := ho2.setBox hk2.1 (by decide) (.slice x2 n2 c2)
    refine forget (p := fun y => Code.wp _ _ _ _ y) (fun W3 => Below w.heap.size w W3 ∧ Box W3 w.heap.size 41 (.slice x2 n2 c2) ∧ Box W3 (w.heap.size + 1) 44 (.int .i64 0) ∧ Box W3 (w.heap.size + 2) 200 (.slice xr 0 cr) ∧ OwnB W3 w.heap.size (.slice x2 n2 c2) U) ⟨hW2.setCell (Nat.le_refl _) _, hA3, hB3, hR3, hO3⟩ ?_
    clear hA3 hB3 hR3 hO3 hW2 hk2 cA fA ht2 hR2 ho2 hbr hyr hyr0 h1 keep hW1
    rintro W3 ⟨hW3, hA3, hB3, hR3, hO3⟩
    have cR := hR3.cell
    have cA := hA3.cell
    have fA := hA3.frozen
    have hnd := need_ok W3
    go_upto_region 5 with (go_at_call 164; refine hnd.mono ?_; rintro e w4 ⟨⟨r4, rfl⟩, rfl⟩)
    have hA4 := hA3.set (.slice x2 n2 c2)
    have hB4 := hB3.other ⟨w.heap.size, 0, none⟩ (.slice x2 n2 c2) (by show w.heap.size + 1 ≠ w.heap.size; omega)
    have cB := hB4.cell
    have fB := hB4.frozen
    go_wp2
    refine leaves_cons (f := 170) (args := #[.pointer (some ⟨w.heap.size, 0, none⟩), .pointer (some ⟨w.heap.size + 1, 0, none⟩)]) (by simp) (by simp [go_sem]) ?_
    refine (catchB_idle w.heap.size (w.heap.size + 1) _).mono ?_
    rintro e u' w'' ⟨rfl, rfl, rfl⟩
    have hA5 := hA4.other ⟨w.heap.size + 1, 0, none⟩ (.int .i64 0) (by show w.heap.size ≠ w.heap.size + 1; omega)
    have hB5 := hB4.set (.int .i64 0)
    have dA := hA5.cell
    have dB := hB5.cell
    have hO5 := (hO3.setBox hA3 (by decide) (.slice x2 n2 c2)).setBox hB4 (by decide) (.int .i64 0)
    have hW5 : Below w.heap.size w ((W3.setCell ⟨w.heap.size, 0, none⟩ (.slice x2 n2 c2)).setCell ⟨w.heap.size + 1, 0, none⟩ (.int .i64 0)) := (hW3.setCell (Nat.le_refl _) _).setCell (by show w.heap.size ≤ w.heap.size + 1; omega) _
    refine ⟨.tuple #[.slice x2 n2 c2, .int .i64 0], ?_, .inl ⟨HO.out, x2, n2, c2, rfl, hO5, hW5⟩⟩
    simp [results, Tryz.results126, go_sem, dA, dB]
  · have h1 : Calls Tryz.prog 127 #[.pointer (some ⟨w.heap.size + 2, 0, none⟩)] W1 fun e w' => e = .panicked [wrongP] ∧ Took W1 w' (w.heap.size + 2) w.heap.size := hrd.mono fun e w' h => by
      rcases h with ⟨h, _⟩ | ⟨_, h1, h2⟩
      · exact absurd h hO
      · exact ⟨h1, h2⟩
    have HO : Veil (¬ OK) := ⟨hO⟩
    clear hrd hO hA1 hB1
    go_upto_region 4 with (go_at_call 127; refine h1.mono ?_; rintro e w2 ⟨rfl, ht2⟩)
    have hk2 := keep _ ht2
    have hW2 := hW1.trans ht2.below
    refine leaves_cons (f := 170) (args := #[.pointer (some ⟨w.heap.size, 0, none⟩), .pointer (some ⟨w.heap.size + 1, 0, none⟩)]) (by simp) (by simp [go_sem]) ?_
    refine (catchB_panicking w.heap.size (w.heap.size + 1) _ _ w2 hk2.1 hk2.2 (by omega)).mono ?_
    rintro e u' w'' ⟨rfl, rfl, rfl⟩
    have hA3 := (hk2.1.alloc (.cells #[] 196)).set (.slice none 0 0)
    have hB3 := (hk2.2.alloc (.cells #[] 196)).other ⟨w.heap.size, 0, none⟩ (.slice none 0 0) (by show w.heap.size + 1 ≠ w.heap.size; omega)
    have dA := (hA3.other ⟨w.heap.size + 1, 0, none⟩ (.int .i64 3) (by show w.heap.size ≠ w.heap.size + 1; omega)).cell
    have dB := (hB3.set (.int .i64 3)).cell
    have hW5 : Below w.heap.size w (((w2.alloc (.cells #[] 196)).setCell ⟨w.heap.size, 0, none⟩ (.slice none 0 0)).setCell ⟨w.heap.size + 1, 0, none⟩ (.int .i64 3)) := ((hW2.alloc hW2.size _).setCell (Nat.le_refl _) _).setCell (by show w.heap.size ≤ w.heap.size + 1; omega) _
    refine ⟨.tuple #[.slice none 0 0, .int .i64 3], ?_, .inr ⟨HO.out, rfl, hW5⟩⟩
    simp [results, Tryz.results126, go_sem, dA, dB]
end Go.Proofs.YtfainlfiphdaeaaGreatDoor
namespace Go.Proofs.YtfainlfiphdaeaaGreatDoor
open Go.RowKit
set_option maxRecDepth 20000
set_option linter.unusedSimpArgs false
theorem sizeEvZ (e : Ev) (h : e.past.length = 8) : (Tryz.prog.info? 33).map (·.size) = some e.cells.length := by rw [ev_len e h]; exact sizeEv17
set_option maxHeartbeats 4000000 in
theorem catchE_any (A B : Nat) (v : Value) (E : Ev) (hE : E.past.length = 8) (w : World) (hA : CellsAt w A 33 E.cells) (hB : Box w B 44 v) (hne : A ≠ B) :
    CallsD Tryz.prog 163 #[.pointer (some ⟨A, 0, none⟩), .pointer (some ⟨B, 0, none⟩)] (.panicking [wrongP]) w fun e u' w' =>
      e = .returned (.tuple #[]) ∧ u' = .panicking [{ v := .iface 196 (.agg #[]), recovered := true }] ∧ CellsAt w' A 33 evZ.cells ∧ Box w' B 44 (.int .i64 3) ∧ ∀ base, base ≤ A → base ≤ B → base ≤ w.heap.size → Below base w w' := by
  have hta := wrong_asserted
  have hst := wrong_stored
  have hA1 := (hA.alloc (.cells #[] 196)).alloc (.cells evZ.cells.toArray 33)
  have hN1 := CellsAt.new (w.alloc (.cells #[] 196)) 33 evZ.cells
  rw [World.size_alloc] at hN1
  have hB1 := (hB.alloc (.cells #[] 196)).alloc (.cells evZ.cells.toArray 33)
  have hbl : ∀ base, base ≤ w.heap.size → Below base w ((w.alloc (.cells #[] 196)).alloc (.cells evZ.cells.toArray 33)) := fun base h => ((Below.refl _ _).alloc h _).alloc (by simp; omega) _
  have hiE := sizeEvZ evZ rfl
  have h1E := ev_one evZ
  have hlE : E.cells.length = evZ.cells.length := by rw [ev_len E hE]; rfl
  clear hA hB
  refine callsD_of_wpS Tryz.func163 rfl fun c₀ cs hu => ?_
  apply wpS_seq
  apply wpS_region
  simp [wpOpsS, go_sem, recoverD, hu, wrongP, Tryz.ntmps163, Exit.thenS]
  refine wpS_of_wp ?_
  change Code.wp _ _ _ { tmps := #[.pointer (some ⟨A, 0, none⟩), .pointer (some ⟨B, 0, none⟩), undef, undef, undef, undef, .iface 196 (.agg #[]), undef, undef, undef, undef, undef, undef], defers := [] } _
  go_upto_region 8 with fail
  refine forget (p := fun y => Code.wp _ _ _ _ y) (fun W => CellsAt W A 33 E.cells ∧ CellsAt W (w.heap.size + 1) 33 evZ.cells ∧ Box W B 44 v ∧ ∀ base, base ≤ w.heap.size → Below base w W) ⟨hA1, hN1, hB1, hbl⟩ ?_
  clear hA1 hN1 hB1 hbl
  rintro W ⟨hA1, hN1, hB1, hbl⟩
  have rE := hN1.whole2
  have hB2 : Box (W.setRow A evZ.cells.toArray) B 44 v := by
    unfold Box at hB1 ⊢
    rw [setRow_other _ _ _ _ (fun e => hne e.symm)]; exact hB1
  have cB := hB2.cell
  have fB := hB2.frozen
  go_wp2_with (first
    | (refine wpList_ldv rfl 33 _ rfl _ _ rfl evZ.cells rE Tryz.underlying33 rfl hiE ?_)
    | (refine wpList_stv rfl 33 _ _ rfl _ rfl rfl hA1 hiE hlE h1E ?_))
  have q1 := (hA1.setRow evZ.cells).setOther2 ⟨B, 0, none⟩ (.int .i64 3) (by exact hne)
  have q2 := hB2.set (.int .i64 3)
  have q3 : ∀ base, base ≤ A → base ≤ B → base ≤ w.heap.size → Below base w ((W.setRow A evZ.cells.toArray).setCell ⟨B, 0, none⟩ (.int .i64 3)) := fun base h1 h2 h3 => (below_setRow (hbl base h3) h1 _).setCell h2 _
  simp [bodyPostS, results, Tryz.results163]
  exact ⟨q1, q2, q3⟩
set_option maxHeartbeats 2000000 in
theorem catchE_idle (A B : Nat) (w : World) :
    CallsD Tryz.prog 163 #[.pointer (some ⟨A, 0, none⟩), .pointer (some ⟨B, 0, none⟩)] .returning w fun e u' w' => e = .returned (.tuple #[]) ∧ u' = .returning ∧ w' = w := by
  refine callsD_of_wpS Tryz.func163 rfl fun c₀ cs hu => ?_
  apply wpS_seq
  apply wpS_region
  simp [wpOpsS, go_sem, recoverD, hu, Tryz.ntmps163, Exit.thenS]
  refine wpS_of_wp ?_
  change Code.wp _ _ _ { tmps := #[.pointer (some ⟨A, 0, none⟩), .pointer (some ⟨B, 0, none⟩), undef, undef, undef, undef, .nilIface, undef, undef, undef, undef, undef, undef], defers := [] } _
  go_wp2
  cases c₀
  simp_all [bodyPostS, results, Tryz.results163]
def evAll (z : List Int) : Prop := z.length = 58 ∧ at1 z 43 ≤ 1 ∧ ∀ j, j < 11 → at1 z (47 + j) = 0
theorem evOf_past (z : List Int) : (evOf z).past.length = 8 := pastZ_length z
theorem results_ev {fn : Func} {p q : Tmp} (h : fn.results = #[.cell p 33, .cell q 44]) (tmps : Array Value) {w : World} {A B : Nat} {e : Ev} {v : Int} (hp : tmps.getD p undef = .pointer (some ⟨A, 0, none⟩)) (hq : tmps.getD q undef = .pointer (some ⟨B, 0, none⟩)) (hA : CellsAt w A 33 e.cells) (hB : Box w B 44 (.int .i64 v)) (he : e.past.length = 8) :
    (results fn tmps).run Tryz.prog w = .ok (.tuple #[.agg e.cells.toArray, .int .i64 v]) w := by
  have hp' : tmps[p]?.getD undef = .pointer (some ⟨A, 0, none⟩) := by simpa using hp
  have hq' : tmps[q]?.getD undef = .pointer (some ⟨B, 0, none⟩) := by simpa using hq
  have hc := hB.cell
  have hl := run_loadVar_row w A 33 33 e.cells.toArray (0, 0) _ hA Tryz.underlying33 rfl (by rw [sizeEvZ e he]; simp)
  have hlB : (loadVar 44 ⟨B, 0, none⟩).run Tryz.prog w = .ok (.int .i64 v) w := by simp [go_sem, hc]
  simp [results, h, hp', hq', asAddr, hl, hlB]
theorem results_evt {fn : Func} {p q : Tmp} (h : fn.results = #[.cell p 33, .tmp q]) (tmps : Array Value) {w : World} {A : Nat} {e : Ev} {v : Value} (hp : tmps.getD p undef = .pointer (some ⟨A, 0, none⟩)) (hq : tmps.getD q undef = v) (hA : CellsAt w A 33 e.cells) (he : e.past.length = 8) :
    (results fn tmps).run Tryz.prog w = .ok (.tuple #[.agg e.cells.toArray, v]) w := by
  have hp' : tmps[p]?.getD undef = .pointer (some ⟨A, 0, none⟩) := by simpa using hp
  have hq' : tmps[q]?.getD undef = v := by simpa using hq
  have hl := run_loadVar_row w A 33 33 e.cells.toArray (0, 0) _ hA Tryz.underlying33 rfl (by rw [sizeEvZ e he]; simp)
  simp [results, h, hp', hq', asAddr, hl]
set_option maxHeartbeats 8000000 in
theorem readE_any (x : Option Addr) (n c : Nat) (z : List Int) (w : World) (hb : Bytes w x n c z) (hz : ∀ v ∈ z, b8 v) :
    Calls Tryz.prog 124 #[.slice x n c, .func (.func 125) #[] #[]] w fun e w' =>
      (evAll z ∧ e = .returned (.tuple #[.agg (evOf z).cells.toArray, .int .i64 0]) ∧ Below w.heap.size w w') ∨ (¬ evAll z ∧ e = .returned (.tuple #[.agg evZ.cells.toArray, .int .i64 3]) ∧ Below w.heap.size w w') := by
  have hmf := make_func
  have hA0 : CellsAt ((w.alloc (.cells evZ.cells.toArray 33)).alloc (.cells #[.int .i64 0] 44)) w.heap.size 33 evZ.cells := (CellsAt.new w 33 evZ.cells).alloc _
  have hB0 : Box ((w.alloc (.cells evZ.cells.toArray 33)).alloc (.cells #[.int .i64 0] 44)) (w.heap.size + 1) 44 (.int .i64 0) := by
    have : Box ((w.alloc (.cells evZ.cells.toArray 33)).alloc (.cells #[.int .i64 0] 44)) (w.alloc (.cells evZ.cells.toArray 33)).heap.size 44 (.int .i64 0) := heap_alloc_new _ _
    rw [World.size_alloc] at this
    exact this
  have hW0 : Below w.heap.size w ((w.alloc (.cells evZ.cells.toArray 33)).alloc (.cells #[.int .i64 0] 44)) := ((Below.refl _ _).alloc (Nat.le_refl _) _).alloc (by simp) _
  have hs0 : ((w.alloc (.cells evZ.cells.toArray 33)).alloc (.cells #[.int .i64 0] 44)).heap.size = w.heap.size + 2 := by simp
  have hpd := fun W1 (hR1 : Rd W1 (w.heap.size + 2) w.heap.size z) => revent_any (w.heap.size + 2) w.heap.size z W1 hR1 hz
  have hEP := evOf_past z
  have HALL : Veil (evAll z ↔ evOk z ∧ (z.drop 58).length = 0) := ⟨by
    unfold evAll evOk; rw [List.length_drop]; constructor
    · rintro ⟨h1, h2, h3⟩; exact ⟨⟨by omega, h2, h3⟩, by omega⟩
    · rintro ⟨⟨h1, h2, h3⟩, h4⟩; exact ⟨by omega, h2, h3⟩⟩
  obtain ⟨U, hU⟩ : ∃ q, evOf z = q := ⟨_, rfl⟩
  rw [hU] at hpd hEP ⊢
  obtain ⟨OK, hOK⟩ : ∃ q, evOk z = q := ⟨_, rfl⟩
  rw [hOK] at hpd HALL
  obtain ⟨ALL, hALL⟩ : ∃ q, evAll z = q := ⟨_, rfl⟩
  rw [hALL] at HALL ⊢
  have hiU := sizeEvZ U hEP
  have h1U := ev_one U
  have hlU : evZ.cells.length = U.cells.length := by rw [ev_len U hEP]; rfl
  have HEP : Veil (U.past.length = 8) := ⟨hEP⟩
  clear hU hOK hALL hz hEP
  go_enter_defers Tryz.func124, Tryz.ntmps124
  go_upto_region 2 with fail
  refine forget (p := fun y => Code.wp _ _ _ _ y) (fun W0 => Below w.heap.size w W0 ∧ W0.heap.size = w.heap.size + 2 ∧ CellsAt W0 w.heap.size 33 evZ.cells ∧ Box W0 (w.heap.size + 1) 44 (.int .i64 0)) ⟨hW0, hs0, hA0, hB0⟩ ?_
  clear hW0 hs0 hA0 hB0 hmf
  rintro W0 ⟨hW0, hs0, hA0, hB0⟩
  have hRx : Box (W0.alloc (.cells #[.slice x n c] 200)) (w.heap.size + 2) 200 (.slice x n c) := by
    have : Box (W0.alloc (.cells #[.slice x n c] 200)) W0.heap.size 200 (.slice x n c) := heap_alloc_new _ _
    rw [hs0] at this
    exact this
  have hR1 : Rd (W0.alloc (.cells #[.slice x n c] 200)) (w.heap.size + 2) w.heap.size z := ⟨by omega, x, n, c, hRx, fun wx hx => hb.below ((hW0.alloc hW0.size _).trans hx)⟩
  have hA1 := hA0.alloc (.cells #[.slice x n c] 200)
  have hB1 := hB0.alloc (.cells #[.slice x n c] 200)
  have hW1 := hW0.alloc hW0.size (.cells #[.slice x n c] 200)
  go_upto_region 3 with fail
  refine forget (p := fun y => Code.wp _ _ _ _ y) (fun W1 => Below w.heap.size w W1 ∧ Rd W1 (w.heap.size + 2) w.heap.size z ∧ CellsAt W1 w.heap.size 33 evZ.cells ∧ Box W1 (w.heap.size + 1) 44 (.int .i64 0)) ⟨hW1, hR1, hA1, hB1⟩ ?_
  clear hW1 hR1 hA1 hB1 hRx hW0 hs0 hA0 hB0
  rintro W1 ⟨hW1, hR1, hA1, hB1⟩
  have hrd := hpd W1 hR1
  have keep : ∀ w', Took W1 w' (w.heap.size + 2) w.heap.size → CellsAt w' w.heap.size 33 evZ.cells ∧ Box w' (w.heap.size + 1) 44 (.int .i64 0) := fun w' ht => by
    have l2 := hB1.lt
    refine ⟨hA1.took ht (by omega), ?_⟩
    unfold Box at hB1 ⊢
    rw [ht.kept _ l2 (by omega)]; exact hB1
  clear hb hR1 hpd
  by_cases hO : OK
  · have h1 : Calls Tryz.prog 125 #[.pointer (some ⟨w.heap.size + 2, 0, none⟩)] W1 fun e w' => e = .returned (.agg U.cells.toArray) ∧ Rd w' (w.heap.size + 2) w.heap.size (z.drop 58) ∧ Took W1 w' (w.heap.size + 2) w.heap.size := hrd.mono fun e w' h => by
      rcases h with ⟨_, h1, h2, h3⟩ | ⟨h, _⟩
      · exact ⟨h1, h2, h3⟩
      · exact absurd hO h
    have HO : Veil OK := ⟨hO⟩
    clear hrd hO hA1 hB1
    go_upto_region 4 with (first
      | (go_at_call 125; refine h1.mono ?_; rintro e w2 ⟨rfl, hR2, ht2⟩; have hk2 := keep _ ht2; have hk21 := hk2.1)
      | (refine wpList_stv rfl 33 _ _ rfl _ rfl rfl hk21 hiU hlU h1U ?_))
    have hW2 := hW1.trans ht2.below
    obtain ⟨xr, nr, cr, hbr, hyr⟩ := hR2.has
    have hyr0 := hyr w2 (Below.refl _ _)
    have hnr := hyr0.len_eq
    have hler := hyr0.le
    have htpr := hyr0.top
    have HNR : Veil (nr = (z.drop 58).length) := ⟨hnr⟩
    have hA3 := hk2.1.setRow U.cells
    have hB3 : Box (w2.setRow w.heap.size U.cells.toArray) (w.heap.size + 1) 44 (.int .i64 0) := by
      have := hk2.2
      unfold Box at this ⊢
      rw [setRow_other _ _ _ _ (by omega)]; exact this
    have hR3 : Box (w2.setRow w.heap.size U.cells.toArray) (w.heap.size + 2) 200 (.slice xr nr cr) := by
      unfold Box at hbr ⊢
      rw [setRow_other _ _ _ _ (by omega)]; exact hbr
    refine forget (p := fun y => Code.wp _ _ _ _ y) (fun W3 => Below w.heap.size w W3 ∧ CellsAt W3 w.heap.size 33 U.cells ∧ Box W3 (w.heap.size + 1) 44 (.int .i64 0) ∧ Box W3 (w.heap.size + 2) 200 (.slice xr nr cr)) ⟨below_setRow hW2 (Nat.le_refl _) _, hA3, hB3, hR3⟩ ?_
    clear hA3 hB3 hR3 hW2 hk2 hk21 ht2 hR2 hbr hyr hyr0 h1 keep hW1 hnr hlU
    rintro W3 ⟨hW3, hA3, hB3, hR3⟩
    have cR := hR3.cell
    by_cases h0 : nr = 0
    · have HALL1 : Veil ALL := ⟨HALL.out.2 ⟨HO.out, by rw [← HNR.out]; exact h0⟩⟩
      subst h0
      have hnd := need_ok W3
      have rU := hA3.whole2
      clear HNR
      go_upto_region 5 with (go_at_call 164; refine hnd.mono ?_; rintro e w4 ⟨⟨r4, rfl⟩, rfl⟩)
      have hB4 : Box (W3.setRow w.heap.size U.cells.toArray) (w.heap.size + 1) 44 (.int .i64 0) := by
        unfold Box at hB3 ⊢
        rw [setRow_other _ _ _ _ (by omega)]; exact hB3
      have hA4 := hA3.setRow U.cells
      have cB := hB4.cell
      have fB := hB4.frozen
      go_wp2_with (first
        | (refine wpList_ldv rfl 33 _ rfl _ _ rfl U.cells rU Tryz.underlying33 rfl hiU ?_)
        | (refine wpList_stv rfl 33 _ _ rfl _ rfl rfl hA3 hiU rfl h1U ?_))
      refine leaves_cons (f := 163) (args := #[.pointer (some ⟨w.heap.size, 0, none⟩), .pointer (some ⟨w.heap.size + 1, 0, none⟩)]) (by simp) (by simp [go_sem]) ?_
      refine (catchE_idle w.heap.size (w.heap.size + 1) _).mono ?_
      rintro e u' w'' ⟨rfl, rfl, rfl⟩
      have hA5 := hA4.setOther2 ⟨w.heap.size + 1, 0, none⟩ (.int .i64 0) (by show w.heap.size ≠ w.heap.size + 1; omega)
      have hB5 := hB4.set (.int .i64 0)
      have hW5 : Below w.heap.size w ((W3.setRow w.heap.size U.cells.toArray).setCell ⟨w.heap.size + 1, 0, none⟩ (.int .i64 0)) := (below_setRow hW3 (Nat.le_refl _) _).setCell (by show w.heap.size ≤ w.heap.size + 1; omega) _
      exact ⟨_, results_ev Tryz.results124 _ rfl rfl hA5 hB5 HEP.out, .inl ⟨HALL1.out, rfl, hW5⟩⟩
    · have HALL1 : Veil (¬ ALL) := ⟨fun h => h0 (by rw [HNR.out]; exact (HALL.out.1 h).2)⟩
      have hnd := need_bad W3
      have hnb : ((nr : Int) == 0) = false := by simp; omega
      clear HNR
      go_upto_region 5 with (go_at_call 164; refine hnd.mono ?_; rintro e w4 ⟨rfl, rfl⟩)
      refine leaves_cons (f := 163) (args := #[.pointer (some ⟨w.heap.size, 0, none⟩), .pointer (some ⟨w.heap.size + 1, 0, none⟩)]) (by simp) (by simp [go_sem]) ?_
      refine (catchE_any w.heap.size (w.heap.size + 1) _ U HEP.out W3 hA3 hB3 (by omega)).mono ?_
      rintro e u' w'' ⟨rfl, rfl, hA5, hB5, hbl⟩
      exact ⟨_, results_ev Tryz.results124 _ rfl rfl hA5 hB5 rfl, .inr ⟨HALL1.out, rfl, hW3.trans (hbl w.heap.size (Nat.le_refl _) (by omega) hW3.size)⟩⟩
  · have h1 : Calls Tryz.prog 125 #[.pointer (some ⟨w.heap.size + 2, 0, none⟩)] W1 fun e w' => e = .panicked [wrongP] ∧ Took W1 w' (w.heap.size + 2) w.heap.size := hrd.mono fun e w' h => by
      rcases h with ⟨h, _⟩ | ⟨_, h1, h2⟩
      · exact absurd h hO
      · exact ⟨h1, h2⟩
    have HALL1 : Veil (¬ ALL) := ⟨fun h => hO (HALL.out.1 h).1⟩
    clear hrd hO hA1 hB1
    go_upto_region 4 with (go_at_call 125; refine h1.mono ?_; rintro e w2 ⟨rfl, ht2⟩)
    have hk2 := keep _ ht2
    have hW2 := hW1.trans ht2.below
    refine leaves_cons (f := 163) (args := #[.pointer (some ⟨w.heap.size, 0, none⟩), .pointer (some ⟨w.heap.size + 1, 0, none⟩)]) (by simp) (by simp [go_sem]) ?_
    refine (catchE_any w.heap.size (w.heap.size + 1) _ evZ rfl w2 hk2.1 hk2.2 (by omega)).mono ?_
    rintro e u' w'' ⟨rfl, rfl, hA5, hB5, hbl⟩
    exact ⟨_, results_ev Tryz.results124 _ rfl rfl hA5 hB5 rfl, .inr ⟨HALL1.out, rfl, hW2.trans (hbl w.heap.size (Nat.le_refl _) (by omega) hW2.size)⟩⟩
end Go.Proofs.YtfainlfiphdaeaaGreatDoor
