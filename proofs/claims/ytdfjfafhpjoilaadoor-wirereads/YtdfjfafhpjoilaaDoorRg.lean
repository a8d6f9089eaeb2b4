/- The readers of wire: heads, as a whole. -/
import Derived.Test.YtdfjfafhpjoilaaDoorRh
import Derived.Test.YtdfjfafhpjoilaaDoorRd5
namespace Go.Proofs.YtdfjfafhpjoilaaDoor
open Go.RowKit
set_option maxRecDepth 20000
set_option linter.unusedSimpArgs false

set_option maxHeartbeats 4000000 in
theorem catchH_any (A B : Nat) (v : Value) (C Z : List Value) (hzv : ∀ wx : World, (zeroValue 36).run Tryd.prog wx = .ok (.agg Z.toArray) wx) (_hz1 : ¬ Z.toArray = #[]) (hCZ : C.length = Z.length) (hiZ : (Tryd.prog.info? 36).map (·.size) = some Z.length) (h1Z : ∀ v ∈ Z, v.oneCell' = true) (w : World) (hA : CellsAt w A 36 C) (hB : Box w B 31 v) (hne : A ≠ B) :
    CallsD Tryd.prog 28 #[.pointer (some ⟨A, 0, none⟩), .pointer (some ⟨B, 0, none⟩)] (.panicking [wrongP]) w fun e u' w' =>
      e = .returned (.tuple #[]) ∧ u' = .panicking [{ v := .iface 67 (.agg #[]), recovered := true }] ∧ CellsAt w' A 36 Z ∧ Box w' B 31 (.int .i64 3) ∧ ∀ base, base ≤ A → base ≤ B → base ≤ w.heap.size → Below base w w' := by
  have hta := wrong_asserted
  have hst := wrong_stored
  have hA1 := (hA.alloc (.cells #[] 67)).alloc (.cells Z.toArray 36)
  have hN1 := CellsAt.new (w.alloc (.cells #[] 67)) 36 Z
  rw [World.size_alloc] at hN1
  have hB1 := (hB.alloc (.cells #[] 67)).alloc (.cells Z.toArray 36)
  have hbl : ∀ base, base ≤ w.heap.size → Below base w ((w.alloc (.cells #[] 67)).alloc (.cells Z.toArray 36)) := fun base h => ((Below.refl _ _).alloc h _).alloc (by simp; omega) _
  clear hA hB
  refine callsD_of_wpS Tryd.func28 rfl fun c₀ cs hu => ?_
  apply wpS_seq
  apply wpS_region
  simp [wpOpsS, go_sem, recoverD, hu, wrongP, Tryd.ntmps28, Exit.thenS]
  refine wpS_of_wp ?_
  change Code.wp _ _ _ { tmps := #[.pointer (some ⟨A, 0, none⟩), .pointer (some ⟨B, 0, none⟩), undef, undef, undef, undef, .iface 67 (.agg #[]), undef, undef, undef, undef, undef, undef], defers := [] } _
  go_upto_region 8 with fail
  refine forget (p := fun y => Code.wp _ _ _ _ y) (fun W => CellsAt W A 36 C ∧ CellsAt W (w.heap.size + 1) 36 Z ∧ Box W B 31 v ∧ ∀ base, base ≤ w.heap.size → Below base w W) ⟨hA1, hN1, hB1, hbl⟩ ?_
  clear hA1 hN1 hB1 hbl
  rintro W ⟨hA1, hN1, hB1, hbl⟩
  have rE := hN1.whole2
  have hB2 : Box (W.setRow A Z.toArray) B 31 v := by
    unfold Box at hB1 ⊢
    rw [setRow_other _ _ _ _ (fun e => hne e.symm)]; exact hB1
  have cB := hB2.cell
  have fB := hB2.frozen
  go_wp2_with (first
    | (refine wpList_ldv rfl 36 _ rfl _ _ rfl Z rE Tryd.underlying36 rfl hiZ ?_)
    | (refine wpList_stv rfl 36 _ _ rfl _ rfl rfl hA1 hiZ hCZ h1Z ?_))
  have q1 := (hA1.setRow Z).setOther2 ⟨B, 0, none⟩ (.int .i64 3) (by exact hne)
  have q2 := hB2.set (.int .i64 3)
  have q3 : ∀ base, base ≤ A → base ≤ B → base ≤ w.heap.size → Below base w ((W.setRow A Z.toArray).setCell ⟨B, 0, none⟩ (.int .i64 3)) := fun base h1 h2 h3 => (below_setRow (hbl base h3) h1 _).setCell h2 _
  simp [bodyPostS, results, Tryd.results28]
  exact ⟨q1, q2, q3⟩
set_option maxHeartbeats 2000000 in
theorem catchH_idle (A B : Nat) (w : World) :
    CallsD Tryd.prog 28 #[.pointer (some ⟨A, 0, none⟩), .pointer (some ⟨B, 0, none⟩)] .returning w fun e u' w' => e = .returned (.tuple #[]) ∧ u' = .returning ∧ w' = w := by
  refine callsD_of_wpS Tryd.func28 rfl fun c₀ cs hu => ?_
  apply wpS_seq
  apply wpS_region
  simp [wpOpsS, go_sem, recoverD, hu, Tryd.ntmps28, Exit.thenS]
  refine wpS_of_wp ?_
  change Code.wp _ _ _ { tmps := #[.pointer (some ⟨A, 0, none⟩), .pointer (some ⟨B, 0, none⟩), undef, undef, undef, undef, .nilIface, undef, undef, undef, undef, undef, undef], defers := [] } _
  go_wp2
  cases c₀
  simp_all [bodyPostS, results, Tryd.results28]
theorem results_hd {fn : Func} {p q : Tmp} (h : fn.results = #[.cell p 36, .cell q 31]) (tmps : Array Value) {w : World} {A B : Nat} {C : List Value} {v : Int} (hp : tmps.getD p undef = .pointer (some ⟨A, 0, none⟩)) (hq : tmps.getD q undef = .pointer (some ⟨B, 0, none⟩)) (hA : CellsAt w A 36 C) (hB : Box w B 31 (.int .i64 v)) (hi : (Tryd.prog.info? 36).map (·.size) = some C.length) :
    (results fn tmps).run Tryd.prog w = .ok (.tuple #[.agg C.toArray, .int .i64 v]) w := by
  have hp' : tmps[p]?.getD undef = .pointer (some ⟨A, 0, none⟩) := by simpa using hp
  have hq' : tmps[q]?.getD undef = .pointer (some ⟨B, 0, none⟩) := by simpa using hq
  have hc := hB.cell
  have hl := run_loadVar_row w A 36 36 C.toArray (0, 0) _ hA Tryd.underlying36 rfl (by rw [hi]; simp)
  have hlB : (loadVar 31 ⟨B, 0, none⟩).run Tryd.prog w = .ok (.int .i64 v) w := by simp [go_sem, hc]
  simp [results, h, hp', hq', asAddr, hl, hlB]
theorem results_hdt {fn : Func} {p q : Tmp} (h : fn.results = #[.cell p 36, .tmp q]) (tmps : Array Value) {w : World} {A : Nat} {C : List Value} {v : Value} (hp : tmps.getD p undef = .pointer (some ⟨A, 0, none⟩)) (hq : tmps.getD q undef = v) (hA : CellsAt w A 36 C) (hi : (Tryd.prog.info? 36).map (·.size) = some C.length) :
    (results fn tmps).run Tryd.prog w = .ok (.tuple #[.agg C.toArray, v]) w := by
  have hp' : tmps[p]?.getD undef = .pointer (some ⟨A, 0, none⟩) := by simpa using hp
  have hq' : tmps[q]?.getD undef = v := by simpa using hq
  have hl := run_loadVar_row w A 36 36 C.toArray (0, 0) _ hA Tryd.underlying36 rfl (by rw [hi]; simp)
  simp [results, h, hp', hq', asAddr, hl]
set_option maxHeartbeats 8000000 in
theorem readH_any (x : Option Addr) (n c : Nat) (z : List Int) (w : World) (hb : Bytes w x n c z) (hz : ∀ v ∈ z, b8 v) :
    Calls Tryd.prog 15 #[.slice x n c, .func (.func 16) #[] #[]] w fun e w' =>
      (z.length = 288 ∧ e = .returned (.tuple #[.agg (hdsC (headsN z 8)).toArray, .int .i64 0]) ∧ Below w.heap.size w w') ∨ (z.length ≠ 288 ∧ e = .returned (.tuple #[.agg (hdsC hdZ).toArray, .int .i64 3]) ∧ Below w.heap.size w w') := by
  have hmf := make_func
  obtain ⟨Z, hzv, hz1, hZ⟩ := zeroHeads_has
  have hiZ : (Tryd.prog.info? 36).map (·.size) = some Z.length := by rw [hZ]; exact sizeHeadsL hdZ (hdOk_rep 8) rfl
  have h1Z : ∀ v ∈ Z, v.oneCell' = true := by rw [hZ]; exact hdsC_one _
  rw [← hZ]
  have hA0 : CellsAt ((w.alloc (.cells Z.toArray 36)).alloc (.cells #[.int .i64 0] 31)) w.heap.size 36 Z := (CellsAt.new w 36 Z).alloc _
  have hB0 : Box ((w.alloc (.cells Z.toArray 36)).alloc (.cells #[.int .i64 0] 31)) (w.heap.size + 1) 31 (.int .i64 0) := by
    have : Box ((w.alloc (.cells Z.toArray 36)).alloc (.cells #[.int .i64 0] 31)) (w.alloc (.cells Z.toArray 36)).heap.size 31 (.int .i64 0) := heap_alloc_new _ _
    rw [World.size_alloc] at this
    exact this
  have hW0 : Below w.heap.size w ((w.alloc (.cells Z.toArray 36)).alloc (.cells #[.int .i64 0] 31)) := ((Below.refl _ _).alloc (Nat.le_refl _) _).alloc (by simp) _
  have hs0 : ((w.alloc (.cells Z.toArray 36)).alloc (.cells #[.int .i64 0] 31)).heap.size = w.heap.size + 2 := by simp
  have hpd := fun W1 (hR1 : Rd W1 (w.heap.size + 2) w.heap.size z) => rheads_any (w.heap.size + 2) w.heap.size z W1 hR1 hz
  have HU : Veil (288 ≤ z.length → (hdsC (headsN z 8)).length = 264) := ⟨fun h => by rw [hdsC_len _ (headsN_ok z 8 (by omega)), headsN_len]⟩
  have HZL : Veil (Z.length = 264) := ⟨by rw [hZ, hdsC_len hdZ (hdOk_rep 8)]; rfl⟩
  have h1U := hdsC_one (headsN z 8)
  have HDL : Veil ((z.drop 288).length = z.length - 288) := ⟨List.length_drop⟩
  obtain ⟨U, hU⟩ : ∃ q, hdsC (headsN z 8) = q := ⟨_, rfl⟩
  rw [hU] at hpd HU h1U ⊢
  obtain ⟨zl, hzl⟩ : ∃ q, z.length = q := ⟨_, rfl⟩
  rw [hzl] at hpd HU HDL ⊢
  clear hU hz hZ hzl
  go_enter_defers Tryd.func15, Tryd.ntmps15
  go_upto_region 2 with fail
  refine forget (p := fun y => Code.wp _ _ _ _ y) (fun W0 => Below w.heap.size w W0 ∧ W0.heap.size = w.heap.size + 2 ∧ CellsAt W0 w.heap.size 36 Z ∧ Box W0 (w.heap.size + 1) 31 (.int .i64 0)) ⟨hW0, hs0, hA0, hB0⟩ ?_
  clear hW0 hs0 hA0 hB0 hmf
  rintro W0 ⟨hW0, hs0, hA0, hB0⟩
  have hRx : Box (W0.alloc (.cells #[.slice x n c] 71)) (w.heap.size + 2) 71 (.slice x n c) := by
    have : Box (W0.alloc (.cells #[.slice x n c] 71)) W0.heap.size 71 (.slice x n c) := heap_alloc_new _ _
    rw [hs0] at this
    exact this
  have hR1 : Rd (W0.alloc (.cells #[.slice x n c] 71)) (w.heap.size + 2) w.heap.size z := ⟨by omega, x, n, c, hRx, fun wx hx => hb.below ((hW0.alloc hW0.size _).trans hx)⟩
  have hA1 := hA0.alloc (.cells #[.slice x n c] 71)
  have hB1 := hB0.alloc (.cells #[.slice x n c] 71)
  have hW1 := hW0.alloc hW0.size (.cells #[.slice x n c] 71)
  go_upto_region 3 with fail
  refine forget (p := fun y => Code.wp _ _ _ _ y) (fun W1 => Below w.heap.size w W1 ∧ Rd W1 (w.heap.size + 2) w.heap.size z ∧ CellsAt W1 w.heap.size 36 Z ∧ Box W1 (w.heap.size + 1) 31 (.int .i64 0)) ⟨hW1, hR1, hA1, hB1⟩ ?_
  clear hW1 hR1 hA1 hB1 hRx hW0 hs0 hA0 hB0
  rintro W1 ⟨hW1, hR1, hA1, hB1⟩
  have hrd := hpd W1 hR1
  have keep : ∀ w', Took W1 w' (w.heap.size + 2) w.heap.size → CellsAt w' w.heap.size 36 Z ∧ Box w' (w.heap.size + 1) 31 (.int .i64 0) := fun w' ht => by
    have l2 := hB1.lt
    refine ⟨hA1.took ht (by omega), ?_⟩
    unfold Box at hB1 ⊢
    rw [ht.kept _ l2 (by omega)]; exact hB1
  clear hb hR1 hpd
  by_cases hO : 288 ≤ zl
  · have h1 : Calls Tryd.prog 16 #[.pointer (some ⟨w.heap.size + 2, 0, none⟩)] W1 fun e w' => e = .returned (.agg U.toArray) ∧ Rd w' (w.heap.size + 2) w.heap.size (z.drop 288) ∧ Took W1 w' (w.heap.size + 2) w.heap.size := hrd.mono fun e w' h => by
      rcases h with ⟨_, h1, h2, h3⟩ | ⟨h, _⟩
      · exact ⟨h1, h2, h3⟩
      · omega
    have hUL := HU.out hO
    have hiU : (Tryd.prog.info? 36).map (·.size) = some U.length := by rw [hUL]; exact sizeHeads
    have hlU : Z.length = U.length := by rw [hUL, HZL.out]
    have HUZ : Veil (U.length = Z.length) := ⟨hlU.symm⟩
    clear hrd hA1 hB1 hUL
    go_upto_region 4 with (first
      | (go_at_call 16; refine h1.mono ?_; rintro e w2 ⟨rfl, hR2, ht2⟩; have hk2 := keep _ ht2; have hk21 := hk2.1)
      | (refine wpList_stv rfl 36 _ _ rfl _ rfl rfl hk21 hiU hlU h1U ?_))
    have hW2 := hW1.trans ht2.below
    obtain ⟨xr, nr, cr, hbr, hyr⟩ := hR2.has
    have hyr0 := hyr w2 (Below.refl _ _)
    have hnr := hyr0.len_eq
    have hler := hyr0.le
    have htpr := hyr0.top
    have HNR : Veil (nr = zl - 288) := ⟨by rw [hnr, HDL.out]⟩
    have hA3 := hk2.1.setRow U
    have hB3 : Box (w2.setRow w.heap.size U.toArray) (w.heap.size + 1) 31 (.int .i64 0) := by
      have := hk2.2
      unfold Box at this ⊢
      rw [setRow_other _ _ _ _ (by omega)]; exact this
    have hR3 : Box (w2.setRow w.heap.size U.toArray) (w.heap.size + 2) 71 (.slice xr nr cr) := by
      unfold Box at hbr ⊢
      rw [setRow_other _ _ _ _ (by omega)]; exact hbr
    refine forget (p := fun y => Code.wp _ _ _ _ y) (fun W3 => Below w.heap.size w W3 ∧ CellsAt W3 w.heap.size 36 U ∧ Box W3 (w.heap.size + 1) 31 (.int .i64 0) ∧ Box W3 (w.heap.size + 2) 71 (.slice xr nr cr)) ⟨below_setRow hW2 (Nat.le_refl _) _, hA3, hB3, hR3⟩ ?_
    clear hA3 hB3 hR3 hW2 hk2 hk21 ht2 hR2 hbr hyr hyr0 h1 keep hW1 hnr hlU
    rintro W3 ⟨hW3, hA3, hB3, hR3⟩
    have cR := hR3.cell
    by_cases h0 : nr = 0
    · have HALL1 : Veil (zl = 288) := ⟨by have := HNR.out; omega⟩
      subst h0
      have hnd := need_ok W3
      have rU := hA3.whole2
      clear HNR
      go_upto_region 5 with (go_at_call 21; refine hnd.mono ?_; rintro e w4 ⟨⟨r4, rfl⟩, rfl⟩)
      have hB4 : Box (W3.setRow w.heap.size U.toArray) (w.heap.size + 1) 31 (.int .i64 0) := by
        unfold Box at hB3 ⊢
        rw [setRow_other _ _ _ _ (by omega)]; exact hB3
      have hA4 := hA3.setRow U
      have cB := hB4.cell
      have fB := hB4.frozen
      go_wp2_with (first
        | (refine wpList_ldv rfl 36 _ rfl _ _ rfl U rU Tryd.underlying36 rfl hiU ?_)
        | (refine wpList_stv rfl 36 _ _ rfl _ rfl rfl hA3 hiU rfl h1U ?_))
      refine leaves_cons (f := 28) (args := #[.pointer (some ⟨w.heap.size, 0, none⟩), .pointer (some ⟨w.heap.size + 1, 0, none⟩)]) (by simp) (by simp [go_sem]) ?_
      refine (catchH_idle w.heap.size (w.heap.size + 1) _).mono ?_
      rintro e u' w'' ⟨rfl, rfl, rfl⟩
      have hA5 := hA4.setOther2 ⟨w.heap.size + 1, 0, none⟩ (.int .i64 0) (by show w.heap.size ≠ w.heap.size + 1; omega)
      have hB5 := hB4.set (.int .i64 0)
      have hW5 : Below w.heap.size w ((W3.setRow w.heap.size U.toArray).setCell ⟨w.heap.size + 1, 0, none⟩ (.int .i64 0)) := (below_setRow hW3 (Nat.le_refl _) _).setCell (by show w.heap.size ≤ w.heap.size + 1; omega) _
      exact ⟨_, results_hd Tryd.results15 _ rfl rfl hA5 hB5 hiU, .inl ⟨HALL1.out, rfl, hW5⟩⟩
    · have HALL1 : Veil (zl ≠ 288) := ⟨by have := HNR.out; omega⟩
      have hnd := need_bad W3
      have hnb : ((nr : Int) == 0) = false := by simp; omega
      clear HNR
      go_upto_region 5 with (go_at_call 21; refine hnd.mono ?_; rintro e w4 ⟨rfl, rfl⟩)
      refine leaves_cons (f := 28) (args := #[.pointer (some ⟨w.heap.size, 0, none⟩), .pointer (some ⟨w.heap.size + 1, 0, none⟩)]) (by simp) (by simp [go_sem]) ?_
      refine (catchH_any w.heap.size (w.heap.size + 1) _ U Z hzv hz1 HUZ.out hiZ h1Z W3 hA3 hB3 (by omega)).mono ?_
      rintro e u' w'' ⟨rfl, rfl, hA5, hB5, hbl⟩
      exact ⟨_, results_hd Tryd.results15 _ rfl rfl hA5 hB5 hiZ, .inr ⟨HALL1.out, rfl, hW3.trans (hbl w.heap.size (Nat.le_refl _) (by omega) hW3.size)⟩⟩
  · have h1 : Calls Tryd.prog 16 #[.pointer (some ⟨w.heap.size + 2, 0, none⟩)] W1 fun e w' => e = .panicked [wrongP] ∧ Took W1 w' (w.heap.size + 2) w.heap.size := hrd.mono fun e w' h => by
      rcases h with ⟨h, _⟩ | ⟨_, h1, h2⟩
      · exact absurd h hO
      · exact ⟨h1, h2⟩
    have HALL1 : Veil (zl ≠ 288) := ⟨fun h => hO (by omega)⟩
    clear hrd hO hA1 hB1
    go_upto_region 4 with (go_at_call 16; refine h1.mono ?_; rintro e w2 ⟨rfl, ht2⟩)
    have hk2 := keep _ ht2
    have hW2 := hW1.trans ht2.below
    refine leaves_cons (f := 28) (args := #[.pointer (some ⟨w.heap.size, 0, none⟩), .pointer (some ⟨w.heap.size + 1, 0, none⟩)]) (by simp) (by simp [go_sem]) ?_
    refine (catchH_any w.heap.size (w.heap.size + 1) _ Z Z hzv hz1 rfl hiZ h1Z w2 hk2.1 hk2.2 (by omega)).mono ?_
    rintro e u' w'' ⟨rfl, rfl, hA5, hB5, hbl⟩
    exact ⟨_, results_hd Tryd.results15 _ rfl rfl hA5 hB5 hiZ, .inr ⟨HALL1.out, rfl, hW2.trans (hbl w.heap.size (Nat.le_refl _) (by omega) hW2.size)⟩⟩
/-- What bytes say as heads; the error. -/
def rhB (z : List Int) : List (Int × List Int) := if z.length = 288 then headsN z 8 else hdZ
def rhE (z : List Int) : Int := if z.length = 288 then 0 else 3
set_option maxHeartbeats 2000000 in
theorem ReadHeads_any (x : Option Addr) (n c : Nat) (z : List Int) (w : World) (hb : Bytes w x n c z) (hz : ∀ v ∈ z, b8 v) :
    Calls Tryd.prog 6 #[.slice x n c] w fun e w' => e = .returned (.tuple #[.agg (hdsC (rhB z)).toArray, .int .i64 (rhE z)]) ∧ Below w.heap.size w w' := by
  obtain ⟨Z, hzv, hz1, hZ⟩ := zeroHeads_has
  have hG0 := CellsAt.new w 36 Z
  have hB0 : Below w.heap.size w (w.alloc (.cells Z.toArray 36)) := (Below.refl _ _).alloc (Nat.le_refl _) _
  have hrd : ∀ wx, Below w.heap.size w wx → Calls Tryd.prog 15 #[.slice x n c, .func (.func 16) #[] #[]] wx fun e w' => e = .returned (.tuple #[.agg (hdsC (rhB z)).toArray, .int .i64 (rhE z)]) ∧ Below wx.heap.size wx w' := fun wx h => (readH_any x n c z wx (hb.below h) hz).mono fun e w' h => by
    unfold rhB rhE
    rcases h with ⟨h1, h2, h3⟩ | ⟨h1, h2, h3⟩
    · rw [if_pos h1, if_pos h1]; exact ⟨h2, h3⟩
    · rw [if_neg h1, if_neg h1]; exact ⟨h2, h3⟩
  have hok : hdOk (rhB z) ∧ (rhB z).length = 8 := by
    unfold rhB
    split
    · exact ⟨headsN_ok z 8 (by omega), headsN_len z 8⟩
    · exact ⟨hdOk_rep 8, rfl⟩
  have hiU := sizeHeadsL (rhB z) hok.1 hok.2
  have hlU : Z.length = (hdsC (rhB z)).length := by rw [hdsC_len _ hok.1, hok.2, hZ, hdsC_len hdZ (hdOk_rep 8)]; rfl
  have h1U := hdsC_one (rhB z)
  obtain ⟨U, hU⟩ : ∃ q, hdsC (rhB z) = q := ⟨_, rfl⟩
  rw [hU] at hrd hiU hlU h1U ⊢
  obtain ⟨E, hE⟩ : ∃ q, rhE z = q := ⟨_, rfl⟩
  rw [hE] at hrd ⊢
  clear hU hE hok hb hz hZ
  go_enter Tryd.func6, Tryd.ntmps6
  go_upto_region 1 with fail
  refine forget (p := fun y => Code.wp _ _ _ _ y) (fun W => Below w.heap.size w W ∧ CellsAt W w.heap.size 36 Z) ⟨hB0, hG0⟩ ?_
  clear hB0 hG0
  rintro W ⟨hB0, hG0⟩
  have hrW := hrd W hB0
  go_wp2_with (first
    | (go_at_call 15; refine hrW.mono ?_; rintro e w1 ⟨rfl, hb1⟩; have hl0 := hG0.lt; have hG1 : CellsAt w1 w.heap.size 36 Z := (by unfold CellsAt at hG0 ⊢; rw [hb1.block _ hl0]; exact hG0))
    | (refine wpList_stv rfl 36 _ _ rfl _ rfl rfl hG1 hiU hlU h1U ?_))
  refine bodyPost_ret (results_hdt Tryd.results6 _ rfl rfl (hG1.setRow U) hiU) rfl ⟨rfl, ?_⟩
  exact below_setRow (hB0.trans (hb1.mono hB0.size)) (Nat.le_refl _) _
end Go.Proofs.YtdfjfafhpjoilaaDoor
