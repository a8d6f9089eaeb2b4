/- Kz2 Kz3 Kfz Kf -/
import Derived.Test.YtflkhkmejnpapaaGreatDoorK31
import Derived.Test.YtflkhkmejnpapaaGreatDoorK26
import Derived.Test.YtflkhkmejnpapaaGreatDoorK28
import Derived.Test.YtflkhkmejnpapaaGreatDoorK29
import Derived.Test.YtflkhkmejnpapaaGreatDoorK27
namespace Go.Proofs.YtflkhkmejnpapaaGreatDoor
open Go.RowKit
set_option maxRecDepth 20000
set_option linter.unusedSimpArgs false
theorem joinK_in (s : List Int) : ∀ k, ∀ v ∈ S.joinK s k, isB v
 | 0, v, h => by cases h
 | k + 1, v, h => by
  rw [S.joinK, List.mem_append] at h
  rcases h with h | h
  · exact joinK_in s k v h
  · simp only [S.bytes4, List.mem_cons, List.not_mem_nil, or_false] at h
    unfold isB
    rcases h with rfl | rfl | rfl | rfl <;> omega
theorem tK_in (k b : List Int) : ∀ i, ∀ v ∈ S.tK k b i, isB v
 | 0, v, h => by cases h
 | i + 1, v, h => joinK_in _ 8 v h
theorem outK_in (k b : List Int) : ∀ i, ∀ v ∈ S.outK k b i, isB v
 | 0, v, h => by cases h
 | i + 1, v, h => by
  rw [S.outK, List.mem_append] at h
  rcases h with h | h
  · exact outK_in k b i v h
  · exact tK_in k b (i + 1) v h
theorem derL_in (k b : List Int) : ∀ v ∈ derL k b, isB v := fun v h => outK_in k b _ v (List.mem_of_mem_take h)
theorem wrapOf_data (seed : List Int) (own t a s : Int) (k : List Int) (hk : k.length = 32) (hkB : ∀ v ∈ k, isB v) :
    (wrapOf seed own t a s k).data.length = 48 ∧ (∀ x ∈ (wrapOf seed own t a s k).data, isB x) ∧
    tagL (pairL seed own t) (wrapNL own t a s) [] ((wrapOf seed own t a s k).data.take (48 - 16)) = (wrapOf seed own t a s k).data.drop (48 - 16) ∧ openedL seed own t (wrapOf seed own t a s k) = k := by
 refine ⟨?_, ?_, ?_, ?_⟩
 · show (sealL _ _ _ _).length = 48
   rw [sealL_length, hk]
 · exact sealL_in _ _ _ _ (fun _ h => by cases h) hkB
 · show tagL _ _ [] ((sealL _ _ _ _).take _) = (sealL _ _ _ _).drop _
   rw [seal_take _ _ _ _ _ (by omega), seal_drop _ _ _ _ _ (by omega)]
 · show xorL _ _ 1 ((sealL _ _ _ _).take _) = _
   rw [seal_take _ _ _ _ _ (by omega)]
   exact xor_twice _ _ 1 k hkB
def lvSeed : List Int := 1 :: List.replicate 31 0
theorem lvSeed_built (w : World) : (Instr.build 23 #[(0, .int .u8 1)]).run Tryz.prog w = .ok (.agg (row .u8 lvSeed)) w := by kernel_rfl
set_option maxHeartbeats 4000000 in
theorem klive_any (w : World) (hKT : S.KTab w) :
    Calls Tryz.prog 6 #[] w fun e w' => e = .returned (.bool true) ∧ Below w.heap.size w w' := by
 obtain ⟨SD, hSDl, hSDb⟩ : ∃ SD : List Int, SD.length = 32 ∧ ∀ wx, (Instr.build 23 #[(0, .int .u8 1)]).run Tryz.prog wx = .ok (.agg (row .u8 SD)) wx := ⟨lvSeed, rfl, lvSeed_built⟩
 have HSB := Veil.mk hSDb
 have hEl : (epochL SD).length = 32 := derL_length _ _
 obtain ⟨hW48, hWB, hWT, hWO⟩ := wrapOf_data SD 0 1 0 0 (epochL SD) hEl (derL_in _ _)
 have hn0 : newM 0 SD = putK (fun _ _ => none) 0 0 (epochL SD) := if_pos rfl
 have hn1 : newM 1 SD = (fun _ _ => none) := if_neg (by omega)
 have hA := new_any 0 SD w (by omega) hSDl hKT
 have HB : Veil (∀ W, Below w.heap.size w W → Calls Tryz.prog 10 #[.int .u8 1, .agg (row .u8 SD)] W fun e w' => ∃ H b v, e = .returned (.pointer (some ⟨H, 0, none⟩)) ∧ RingAt w' W.heap.size H 1 SD b (newM 1 SD) v (newD 1) ∧ Below W.heap.size W w') := ⟨fun W hb => new_any 1 SD W (by omega) hSDl (hKT.below hb)⟩
 clear hSDb
 go_enter Tryz.func6, Tryz.ntmps6
 go_upto_region 2 with (first
  | (refine wpList_bldx rfl 23 _ rfl #[(0, .int .u8 1)] (by first | rfl | kernel_rfl) _ (HSB.out _) ?_)
  | (go_at_call 10; first
      | (refine hA.mono ?_; clear hA; rintro e w1 ⟨HA, bA, vA, rfl, hRA, hb1⟩; have hBn := HB.out w1 hb1)
      | (refine hBn.mono ?_; rintro e w2 ⟨HB2, bB, vB, rfl, hRB, hb2⟩)))
 have hB2 : Below w.heap.size w w2 := hb1.trans (hb2.mono hb1.size)
 have hRA2 := hRA.far hb2
 have hinA : ∀ g, ringP HA bA vA g → g < w1.heap.size := fun g hg => (hRA.inside g hg).1
 have hwr := wrap_ok w.heap.size HA 0 SD bA (newM 0 SD) vA (newD 0) w2 1 0 0 (epochL SD) okZ hRA2 (by decide) (by rw [hn0]; rfl) (hKT.below hB2)
 obtain ⟨E, hEq⟩ : ∃ E, wrapOf SD 0 1 0 0 (epochL SD) = E := ⟨_, rfl⟩
 have hE3 : E.too = 1 ∧ E.ea = 0 ∧ E.es = 0 := by rw [← hEq]; exact ⟨rfl, rfl, rfl⟩
 rw [hEq] at hwr hW48 hWB hWT hWO
 have HUN : Veil (∀ W, Below w2.heap.size w2 W → Calls Tryz.prog 14 #[.pointer (some ⟨HB2, 0, none⟩), .int .u8 0, .agg E.cells.toArray] W fun e w' => e = .returned (.int .i64 0) ∧ (∃ v', RingAt w' w1.heap.size HB2 1 SD bB (putK (newM 1 SD) E.ea E.es (epochL SD)) v' (newD 1 ++ [(E.ea, E.es)])) ∧ RingAt w' w.heap.size HA 0 SD bA (newM 0 SD) vA (newD 0) ∧ Below w.heap.size w w') := ⟨fun W hb => by
  have hBW := hB2.trans (hb.mono hB2.size)
  have h := unw_ok w1.heap.size HB2 1 SD bB (newM 1 SD) vB (newD 1) W 0 E (hRB.far hb) (by rw [hE3.2.1, hE3.2.2]; exact okZ) hW48 hWB (by decide) hE3.1 (by rw [hn1]; rfl) (hKT.below hBW) (by rw [hE3.2.1, hE3.2.2]; exact hWT) (by decide) (Nat.le_trans hb2.size hb.size)
  refine h.mono ?_
  rintro e w' ⟨h1, v', h2, h3, h4⟩
  have hinB : ∀ g, ringP HB2 bB vB g → w1.heap.size ≤ g := fun g hg => (hRB.inside g hg).2
  refine ⟨h1, ⟨v', by rw [hWO] at h2; exact h2⟩, (hRA2.far hb).turn h3 (fun g hg hp => by have := hinA g hg; have := hinB g hp; omega), hBW.trans (h3.below hBW.size fun k hk => by have := hinB k hk; have := hb1.size; omega)⟩⟩
 have hCl := wp_cells_length E hW48
 have hC1 := wp_cells_one E
 have HM : Veil ((putK (newM 1 SD) E.ea E.es (epochL SD) 0 0).isSome = true) := ⟨by rw [hE3.2.1, hE3.2.2]; rfl⟩
 obtain ⟨EC, hEC⟩ : ∃ q, E.cells = q := ⟨_, rfl⟩
 rw [hEC] at hCl hC1 hwr HUN
 clear hW48 hWB hWT hWO hEq hE3 hEC hRA hRB hRA2 hBn HB hn0 hn1 hEl
 go_upto_region 4 with (first
  | (go_at_call 13; refine hwr.mono ?_; rintro e w3 ⟨rfl, hb3⟩; have hA3 := CellsAt.new w3 36 wz.cells)
  | (refine wpList_stv rfl 36 _ _ rfl _ rfl rfl hA3 (by rw [hCl]; exact sizeWrapK) (by rw [hCl]; rfl) hC1 ?_; have hb4 := hb3.trans ((below_setRow ((Below.refl _ _).alloc (Nat.le_refl _) (.cells wz.cells.toArray 36)) (Nat.le_refl _) EC.toArray).mono hb3.size); have hun := HUN.out _ hb4; have rE := (hA3.setRow EC).range 0 51; rw [List.drop_zero, List.take_of_length_le (by omega)] at rE)
  | (refine wpList_ldv rfl 36 _ rfl _ _ rfl EC rE Tryz.underlying36 rfl (by rw [hCl]; exact sizeWrapK) ?_)
  | (go_at_call 14; refine hun.mono ?_; rintro e w5 ⟨rfl, ⟨v5, hRB5⟩, hRA5, hB5⟩))
 have hhas := rHas_any w1.heap.size HB2 1 SD bB (putK (newM 1 SD) E.ea E.es (epochL SD)) v5 _ w5 0 0 okZ hRB5
 rw [HM.out] at hhas
 have HOA : Veil (∀ W, Below w5.heap.size w5 W → Calls Tryz.prog 16 #[.pointer (some ⟨HA, 0, none⟩)] W fun e w' => e = .returned (.int .u8 0) ∧ w' = W) := ⟨fun W hb => rOwn_any w.heap.size HA 0 SD bA (newM 0 SD) vA (newD 0) W (hRA5.far hb)⟩
 have HOB : Veil (∀ W, Below w5.heap.size w5 W → Calls Tryz.prog 16 #[.pointer (some ⟨HB2, 0, none⟩)] W fun e w' => e = .returned (.int .u8 1) ∧ w' = W) := ⟨fun W hb => rOwn_any w1.heap.size HB2 1 SD bB _ v5 _ W (hRB5.far hb)⟩
 clear hRB5 hRA5 hun hA3 hb4 rE HUN hwr
 go_wp2_with (first
  | (go_at_call 15; refine hhas.mono ?_; rintro e w6 ⟨rfl, hb6⟩; have hoa := HOA.out w6 hb6; have hob := HOB.out w6 hb6)
  | (go_at_call 16; first
      | (refine hoa.mono ?_; clear hoa; rintro e w7 ⟨rfl, rfl⟩)
      | (refine hob.mono ?_; rintro e w8 ⟨rfl, rfl⟩)))
 go_ret
 exact ⟨rfl, hB5.trans (hb6.mono hB5.size)⟩
theorem dot_oneK (a s : Int) : ∀ u ∈ dotC a s, u.oneCell' = true := by
 intro u hu
 simp only [dotC, List.mem_cons, List.not_mem_nil, or_false] at hu
 rcases hu with rfl | rfl <;> rfl
section
variable (base H : Nat) (own : Int) (seed : List Int) (b : Nat) (M : Int → Int → Option (List Int)) (v : Value) (L : List (Int × Int)) (w : World)
set_option maxHeartbeats 4000000 in
theorem now_none (hR : RingAt w base H own seed b M v []) :
    Calls Tryz.prog 19 #[.pointer (some ⟨H, 0, none⟩)] w fun e w' => e = .returned (.tuple #[.agg (dotC 0 0).toArray, .bool false]) ∧ Below w.heap.size w w' := by
 have hB : Below w.heap.size w (w.alloc (.cells (dotC 0 0).toArray 33)) := (Below.refl _ _).alloc (Nat.le_refl _) _
 have c34 := (hR.far hB).box.cell 34
 rw [ringC_added _ _ _ _ hR.seed32] at c34
 obtain ⟨x, c, rfl⟩ := hR.added.isSlice
 have hr0 := CellsAt.new w 33 (dotC 0 0)
 clear hR
 go_enter Tryz.func19, Tryz.ntmps19
 go_upto_region 1 with fail
 refine forget (p := fun y => Code.wp _ _ _ _ y) (fun W => Below w.heap.size w W ∧ CellsAt W w.heap.size 33 (dotC 0 0) ∧ W.cell? ⟨H, 34, none⟩ = some (.slice x 0 c)) ⟨hB, hr0, c34⟩ ?_
 clear hB hr0 c34
 rintro W ⟨hB, hr0, c34⟩
 have hbz : ∀ wx, (Instr.build 33 #[]).run Tryz.prog wx = .ok (.agg (dotC 0 0).toArray) wx := fun wx => by kernel_rfl
 have HBZ := Veil.mk hbz
 clear hbz
 go_wp2_with (first
  | (refine wpList_bldx rfl 33 _ rfl #[] (by first | rfl | kernel_rfl) _ (HBZ.out _) ?_)
  | (refine wpList_stv rfl 33 _ _ rfl _ rfl rfl hr0 sizeDotK rfl (dot_oneK 0 0) ?_))
 refine bodyPost_ret (results_ct (Tryz.results19) _ rfl rfl (hr0.setRow (dotC 0 0)) Tryz.underlying33 rfl sizeDotK) rfl ⟨rfl, ?_⟩
 exact below_setRow hB (Nat.le_refl _) _
set_option maxHeartbeats 4000000 in
theorem now_some (a s : Int) (hR : RingAt w base H own seed b M v (L ++ [(a, s)])) :
    Calls Tryz.prog 19 #[.pointer (some ⟨H, 0, none⟩)] w fun e w' => e = .returned (.tuple #[.agg (dotC a s).toArray, .bool true]) ∧ Below w.heap.size w w' := by
 have hs32 := hR.seed32
 have hB : Below w.heap.size w (w.alloc (.cells (dotC 0 0).toArray 33)) := (Below.refl _ _).alloc (Nat.le_refl _) _
 have hr0 := CellsAt.new w 33 (dotC 0 0)
 obtain ⟨x, c, hv⟩ := hR.added.isSlice
 have hR0 := hR.far hB
 have hl16 := hR.lenL
 subst hv
 obtain ⟨g, rfl, hn, hrg⟩ := hR0.added.at_ L.length (by simp)
 have hge : (L ++ [(a, s)])[L.length]'(by simp) = (a, s) := by simp
 rw [hge] at hrg
 have c34 := hR0.box.cell 34
 rw [ringC_added _ _ _ _ hs32] at c34
 simp only [List.length_append, List.length_cons, List.length_nil, Nat.zero_add] at c34 hl16
 obtain ⟨m, hm⟩ : ∃ m, L.length = m := ⟨_, rfl⟩
 rw [hm] at c34 hl16 hrg
 have hwr : IntKind.i64.wrap (((m + 1 : Nat) : Int) - 1) = (m : Int) := by rw [IntKind.wrap_i64]; omega
 have hwr2 : IntKind.i64.wrap ((m : Int) + 1 - 1) = (m : Int) := by rw [IntKind.wrap_i64]; omega
 have hwr3 : IntKind.i64.wrap (m : Int) = (m : Int) := by rw [IntKind.wrap_i64]; omega
 have hne : (((m + 1 : Nat) : Int) == 0) = false := by simp; omega
 have hne2 : ((m : Int) + 1 == 0) = false := by simp; omega
 have hne3 : ¬ ((m : Int) + 1 = 0) := by omega
 clear hm hn hge hR hR0
 go_enter Tryz.func19, Tryz.ntmps19
 go_upto_region 1 with fail
 refine forget (p := fun y => Code.wp _ _ _ _ y) (fun W => Below w.heap.size w W ∧ CellsAt W w.heap.size 33 (dotC 0 0) ∧ W.cell? ⟨H, 34, none⟩ = some (.slice (some ⟨g, 0, none⟩) (m + 1) c) ∧ W.rangeAt g (m * 2) (dotC a s)) ⟨hB, hr0, c34, hrg⟩ ?_
 clear hB hr0 c34 hrg
 rintro W ⟨hB, hr0, c34, hrg⟩
 go_upto_region 3 with fail
 refine wp_region_gate (fun w' => w'.cell? ⟨H, 34, none⟩ = some (.slice (some ⟨g, 0, none⟩) (m + 1) c) ∧ w'.rangeAt g (m * 2) (dotC a s)) 12 (by kernel_rfl) ?_
 have hS : (fun w' : World => w'.cell? ⟨H, 34, none⟩ = some (.slice (some ⟨g, 0, none⟩) (m + 1) c) ∧ w'.rangeAt g (m * 2) (dotC a s)) W.drew := ⟨c34, hrg⟩
 have uD : Tryz.prog.underlying 33 = _ := Tryz.underlying33
 have iD : (Tryz.prog.info? 33).map (·.size) = some (dotC a s).length := sizeDotK
 have hm0 : (0 : Int) ≤ (m : Int) := by omega
 have hm1 : (m : Int) < (m : Int) + 1 := by omega
 have hm2 : (m : Int) < ((m + 1 : Nat) : Int) := by omega
 refine gaA 0 _ hS ?_
 simp only [Act.put, gA, gS, gZ, sI, sZ, sS]
 refine gaA 1 _ hS ?_
 simp only [Act.put, gA, gS, gZ, sI, sZ, sS]
 refine gaA 2 _ hS ?_
 simp only [Act.put, gA, gS, gZ, sI, sZ, sS]
 refine grA 3 _ hS ?_
 simp only [Act.put, gA, gS, gZ, sI, sZ, sS]
 refine gaA 4 _ hS ?_
 simp only [Act.put, gA, gS, gZ, sI, sZ, sS]
 refine gaA 5 _ hS ?_
 simp only [Act.put, gA, gS, gZ, sI, sZ, sS]
 refine gaA 6 _ hS ?_
 simp only [Act.put, gA, gS, gZ, sI, sZ, sS]
 refine grA 7 _ hS ?_
 simp only [Act.put, gA, gS, gZ, sI, sZ, sS]
 refine gaA 8 _ hS ?_
 simp only [Act.put, gA, gS, gZ, sI, sZ, sS]
 refine gaA 9 _ hS ?_
 simp only [Act.put, gA, gS, gZ, sI, sZ, sS]
 refine gaA 10 _ hS ?_
 simp only [Act.put, gA, gS, gZ, sI, sZ, sS]
 refine wpAnyG_load (i := 11) (dst := some 26) (ty := 33) (x := .tmp 25) (b := g) (o := ((m * 2))) (cs := (dotC a s)) (by kernel_rfl) (by kernel_rfl) (by kernel_rfl) (by kernel_rfl) (by kernel_rfl) (fun _ _ _ h => h) (by kernel_rfl) (by kernel_rfl) (by kernel_rfl) hS (by kernel_rfl) (fun _ h => h.2) uD rfl iD ?_
 simp only [Act.put, gA, gS, gZ, sI, sZ, sS]
 refine wpAnyG_one (i := 12) rfl (by kernel_rfl) (by kernel_rfl) (fun K hK => ?_)
 refine wp_stvE 33 _ _ rfl _ rfl (cs := dotC a s) rfl (hr0.congr (w' := W.drew) rfl) sizeDotK rfl (dot_oneK a s) ?_
 refine hK.out _ _ (fun h => absurd (show true = false from h) (by decide)) ?_
 clear hK K
 try simp only [Act.put, gA, gS, gZ, sI, sZ, sS]
 refine wpAnyG_any (i := 13) (v := ?_) rfl (by kernel_rfl) (by kernel_rfl) (by kernel_rfl) (fun _ _ _ h => h) (by kernel_rfl) (fun h => absurd (show true = false from h) (by decide)) (by kernel_rfl) ?_ ?_
 rotate_left
 · intro _; go_simp; try with_reducible rfl
 simp only [Act.put, gA, gS, gZ, sI, sZ, sS]
 refine wpAnyG_done (by kernel_rfl) ?_ _
 go_wp2
 refine bodyPost_ret (results_ct (Tryz.results19) _ rfl rfl ((hr0.congr (w' := W.drew) rfl).setRow (dotC a s)) Tryz.underlying33 rfl sizeDotK) rfl ⟨rfl, ?_⟩
 exact below_setRow hB.drew (Nat.le_refl _) _
set_option maxHeartbeats 4000000 in
theorem dclone_any (hv : OwnD w base v L) (hl : L.length ≤ 1000) :
    Calls Tryz.prog 29 #[v] w fun e w' => ∃ v', e = .returned v' ∧ OwnD w' w.heap.size v' L ∧ Below w.heap.size w w' := by
 rcases hv.2 with ⟨rfl, h0⟩ | ⟨g, cap, cur, rfl, hbg, hg, hc, hm, hs, ht⟩
 · have hL : L = [] := List.length_eq_zero_iff.1 h0
   subst hL
   have hnil : ∀ wx : World, (binOp BinOp.eql 58 (.slice none 0 0) (.slice none 0 0)).run Tryz.prog wx = .ok (.bool true) wx := fun _ => by kernel_rfl
   go_enter Tryz.func29, Tryz.ntmps29
   go_wp2
   go_ret
   exact ⟨_, rfl, OwnD.nil _ _, Below.refl _ _⟩
 · have hE0 : (w.alloc (.cells #[] 33)).ownsRow w.heap.size 33 2 (.slice (some ⟨w.heap.size, 0, none⟩) 0 0) 0 [] := ⟨rfl, .inr ⟨_, _, _, rfl, Nat.le_refl _, heap_alloc_new w _, by omega, by simp [maxLen], rfl, rfl⟩⟩
   have hnil : ∀ wx : World, (binOp BinOp.eql 58 (.slice (some ⟨g, 0, none⟩) L.length cap) (.slice none 0 0)).run Tryz.prog wx = .ok (.bool false) wx := fun _ => by kernel_rfl
   obtain ⟨i0, hi, hz0, hz1, hz2⟩ := info_parts infoDot
   have hsrc : ∀ j u, (dotsC L)[j]? = some u → (w.alloc (.cells #[] 33)).cell? ((⟨g, 0, none⟩ : Addr).add j) = some u := fun j u hu => by
    rw [Addr.add_mid', ((Below.refl w.heap.size w).alloc (Nat.le_refl _) _).cell (p := ⟨g, 0 + j, none⟩) (Array.getElem?_eq_some_iff.1 hg).1, cell_of_row w g _ _ _ _ hg, ← Array.getElem?_toList, Nat.zero_add]
    rw [← ht] at hu
    rw [List.getElem?_take] at hu
    split at hu
    · exact hu
    · cases hu
   have hone : ∀ u ∈ dotsC L, u.oneCell' = true := fun u hu => by
    simp only [dotsC, List.mem_flatten, List.mem_map] at hu
    obtain ⟨l, ⟨d, _, rfl⟩, hu⟩ := hu
    exact dot_oneK _ _ u hu
   have hdl : (dotsC L).length = L.length * 2 := hv.1
   obtain ⟨DC, hDC⟩ : ∃ q, dotsC L = q := ⟨_, rfl⟩
   have HDC := Veil.mk hDC
   obtain ⟨n, hn⟩ : ∃ q, L.length = q := ⟨_, rfl⟩
   have HN := Veil.mk hn
   rw [hDC] at hsrc hone hdl
   rw [hn] at hdl hnil hl ⊢
   clear hv ht hs hc hm hg hbg hDC hn
   go_enter Tryz.func29, Tryz.ntmps29
   go_wp2_with (at_builtin; refine wpList_append_own _ rfl _ _ 58 rfl w.heap.size 33 i0 _ 2 8 Tryz.underlying58 hi hz0 hz1 hz2 rfl (by decide) _ 0 [] rfl hE0 ⟨g, 0, none⟩ n cap DC rfl hdl hsrc hone (by simp [maxLen]; omega) (by omega) (by simp) ?_; intro v1 w1 ho1 hg1 hx1)
   go_ret
   refine ⟨_, rfl, ?_, ?_⟩
   · unfold OwnD
     rw [HN.out, HDC.out]
     rw [List.nil_append, Nat.zero_add] at ho1
     exact ho1
   · exact ((Below.refl _ _).alloc (Nat.le_refl _) _).grown hg1 (by simp) (fun k hk => by cases hk; exact Nat.le_refl _)
set_option maxHeartbeats 4000000 in
theorem epochs_any (hR : RingAt w base H own seed b M v L) :
    Calls Tryz.prog 26 #[.pointer (some ⟨H, 0, none⟩)] w fun e w' => ∃ v', e = .returned v' ∧ OwnD w' w.heap.size v' L ∧ Below w.heap.size w w' := by
 have c34 := hR.box.cell 34
 rw [ringC_added _ _ _ _ hR.seed32] at c34
 have hc := dclone_any base v L w hR.added (by have := hR.lenL; omega)
 obtain ⟨x, c, rfl⟩ := hR.added.isSlice
 clear hR
 go_enter Tryz.func26, Tryz.ntmps26
 go_wp2_with (go_at_call 29; refine hc.mono ?_; rintro e w1 ⟨v1, rfl, ho1, hb1⟩)
 go_ret
 exact ⟨_, rfl, ho1, hb1⟩
end
def z32 : List Int := List.replicate 32 0
theorem zkey_built (w : World) : (Instr.build 23 #[]).run Tryz.prog w = .ok (.agg (row .u8 z32)) w := by kernel_rfl
section
variable (base H : Nat) (own : Int) (seed : List Int) (b : Nat) (M : Int → Int → Option (List Int)) (v : Value) (L : List (Int × Int)) (w : World)
set_option maxHeartbeats 1000000 in
theorem fk_range (a s p : Int) (h8 : 8 ≤ p) :
    Calls Tryz.prog 17 #[.pointer (some ⟨H, 0, none⟩), .agg (dotC a s).toArray, .int .u8 p] w fun e w' => e = .returned (.tuple #[.agg (row .u8 z32), .int .i64 2]) ∧ Below w.heap.size w w' := by
 obtain ⟨Z, hZl, hZ, hZb⟩ : ∃ Z : List Int, Z.length = 32 ∧ z32 = Z ∧ ∀ wx, (Instr.build 23 #[]).run Tryz.prog wx = .ok (.agg (row .u8 Z)) wx := ⟨_, rfl, rfl, zkey_built⟩
 have HZb := Veil.mk hZb
 have hB : Below w.heap.size w ((w.alloc (.cells (dotC a s).toArray 33)).alloc (.cells (row .u8 z32) 23)) := ((Below.refl _ _).alloc (Nat.le_refl _) _).alloc (by simp) _
 have hr0 := Holds.new (w.alloc (.cells (dotC a s).toArray 33)) .u8 23 z32
 rw [World.size_alloc] at hr0
 rw [hZ]
 clear hZb
 go_enter Tryz.func17, Tryz.ntmps17
 go_upto_region 1 with fail
 refine forget (p := fun y => Code.wp _ _ _ _ y) (fun W => Below w.heap.size w W ∧ Holds W (w.heap.size + 1) .u8 23 Z) ⟨hB, by rw [← hZ]; exact hr0⟩ ?_
 clear hB hr0 hZ
 rintro W ⟨hB, hr0⟩
 go_wp2_with (first
  | (refine wpList_bldx rfl 23 _ rfl #[] (by first | rfl | kernel_rfl) _ (HZb.out _) ?_)
  | (refine wpList_st rfl 23 _ _ rfl _ rfl rfl hr0 (by rw [hZl]; exact sizeKeyD) rfl ?_))
 refine bodyPost_ret (results_ct (Tryz.results17) _ rfl rfl (hr0.setRow Z).cellsAt Tryz.underlying23 rfl (by rw [List.length_map, hZl]; exact sizeKeyD)) rfl ⟨rfl, ?_⟩
 exact below_setRow hB (by omega) _
set_option maxHeartbeats 4000000 in
theorem fk_nokey (a s p : Int) (ho : okD a s) (h8 : p < 8) (hR : RingAt w base H own seed b M v L) (hm : M a s = none) :
    Calls Tryz.prog 17 #[.pointer (some ⟨H, 0, none⟩), .agg (dotC a s).toArray, .int .u8 p] w fun e w' => e = .returned (.tuple #[.agg (row .u8 z32), .int .i64 9]) ∧ Below w.heap.size w w' := by
 obtain ⟨Z, hZl, hZ, hZb⟩ : ∃ Z : List Int, Z.length = 32 ∧ z32 = Z ∧ ∀ wx, (Instr.build 23 #[]).run Tryz.prog wx = .ok (.agg (row .u8 Z)) wx := ⟨_, rfl, rfl, zkey_built⟩
 have HZb := Veil.mk hZb
 have hn8 : ¬ 8 ≤ p := by omega
 have hB : Below w.heap.size w ((w.alloc (.cells (dotC a s).toArray 33)).alloc (.cells (row .u8 z32) 23)) := ((Below.refl _ _).alloc (Nat.le_refl _) _).alloc (by simp) _
 have hd0 := (CellsAt.new w 33 (dotC a s)).alloc (.cells (row .u8 z32) 23)
 have hr0 := Holds.new (w.alloc (.cells (dotC a s).toArray 33)) .u8 23 z32
 rw [World.size_alloc] at hr0
 rw [hZ]
 clear hZb
 go_enter Tryz.func17, Tryz.ntmps17
 go_upto_region 1 with fail
 refine forget (p := fun y => Code.wp _ _ _ _ y) (fun W => Below w.heap.size w W ∧ RingAt W base H own seed b M v L ∧ Holds W (w.heap.size + 1) .u8 23 Z ∧ CellsAt W w.heap.size 33 (dotC a s)) ⟨hB, hR.far hB, by rw [← hZ]; exact hr0, hd0⟩ ?_
 have HZ := Veil.mk hZ
 clear hB hr0 hd0 hZ hR
 rintro W ⟨hB, hR, hr0, hd0⟩
 have rD := hd0.range 0 2
 rw [show ((dotC a s).drop 0).take 2 = dotC a s from rfl] at rD
 have hk := rKey_any base H own seed b M v L W a s ho hR
 have hka : keyAt M a s = Z := by unfold keyAt; rw [hm, ← HZ.out]; rfl
 rw [hka, hm] at hk
 have hsz := hr0.lt
 clear hR
 go_upto_region 6 with (first
  | (refine wpList_ldv rfl 33 _ rfl _ _ rfl (dotC a s) rD Tryz.underlying33 rfl sizeDotK ?_)
  | (go_at_call 21; refine hk.mono ?_; rintro e W1 ⟨rfl, hb1⟩; have hA1 := Holds.new W1 .u8 23 (List.replicate 32 0))
  | (refine wpList_st rfl 23 _ _ rfl _ rfl rfl hA1 (by rw [hZl]; exact sizeKeyD) (by rw [hZl]; rfl) ?_))
 have hb2 : Below W.heap.size W ((W1.alloc (.cells (row .u8 (List.replicate 32 0)) 23)).setRow W1.heap.size (row .u8 Z)) := hb1.trans ((below_setRow ((Below.refl _ _).alloc (Nat.le_refl _) _) (Nat.le_refl _) _).mono hb1.size)
 refine forget (p := fun y => Code.wp _ _ _ _ y) (fun W => Below w.heap.size w W ∧ Holds W (w.heap.size + 1) .u8 23 Z) ⟨hB.trans (hb2.mono hB.size), hr0.below hb2 hr0.lt⟩ ?_
 clear hB hr0 hd0 rD hb2 hA1 hb1 hk
 rintro V ⟨hB, hr0⟩
 go_wp2_with (first
  | (refine wpList_bldx rfl 23 _ rfl #[] (by first | rfl | kernel_rfl) _ (HZb.out _) ?_)
  | (refine wpList_st rfl 23 _ _ rfl _ rfl rfl hr0 (by rw [hZl]; exact sizeKeyD) rfl ?_))
 refine bodyPost_ret (results_ct (Tryz.results17) _ rfl rfl (hr0.setRow Z).cellsAt Tryz.underlying23 rfl (by rw [List.length_map, hZl]; exact sizeKeyD)) rfl ⟨rfl, ?_⟩
 exact below_setRow hB (by omega) _
set_option maxHeartbeats 4000000 in
theorem fk_ok (a s p : Int) (k : List Int) (ho : okD a s) (h8 : p < 8) (hR : RingAt w base H own seed b M v L) (hm : M a s = some k) (hKT : S.KTab w) :
    Calls Tryz.prog 17 #[.pointer (some ⟨H, 0, none⟩), .agg (dotC a s).toArray, .int .u8 p] w fun e w' => e = .returned (.tuple #[.agg (row .u8 (fkeyL k p)), .int .i64 0]) ∧ Below w.heap.size w w' := by
 obtain ⟨Z, hZl, hZ⟩ : ∃ Z : List Int, Z.length = 32 ∧ z32 = Z := ⟨_, rfl, rfl⟩
 have hn8 : ¬ 8 ≤ p := by omega
 have hkl := hR.is32 a s k hm
 have HD : Veil (∀ W : World, S.KTab W → Calls Tryz.prog 31 #[.agg (row .u8 k), .string ⟨#[102, 114, 97, 109, 101]⟩, .slice (some ⟨W.heap.size, 0, none⟩) 1 1] (W.alloc (.cells (row .u8 [p]) 5)) fun e w' => e = .returned (.agg (row .u8 (fkeyL k p))) ∧ Below (W.alloc (.cells (row .u8 [p]) 5)).heap.size (W.alloc (.cells (row .u8 [p]) 5)) w') := ⟨fun W hk => derived_any k ⟨#[102, 114, 97, 109, 101]⟩ _ 1 1 [p] _ hkl (by decide) (newB W [p] 1 rfl (by simp)) (by omega) (hk.below ((Below.refl _ _).alloc (Nat.le_refl _) _))⟩
 have hPl : (fkeyL k p).length = 32 := derL_length _ _
 obtain ⟨PL, hPL⟩ : ∃ z, fkeyL k p = z := ⟨_, rfl⟩
 rw [hPL] at HD hPl
 have HPL := Veil.mk hPL
 clear hPL
 have hB : Below w.heap.size w ((w.alloc (.cells (dotC a s).toArray 33)).alloc (.cells (row .u8 z32) 23)) := ((Below.refl _ _).alloc (Nat.le_refl _) _).alloc (by simp) _
 have hd0 := (CellsAt.new w 33 (dotC a s)).alloc (.cells (row .u8 z32) 23)
 have hr0 := Holds.new (w.alloc (.cells (dotC a s).toArray 33)) .u8 23 z32
 rw [World.size_alloc] at hr0
 go_enter Tryz.func17, Tryz.ntmps17
 go_upto_region 1 with fail
 refine forget (p := fun y => Code.wp _ _ _ _ y) (fun W => Below w.heap.size w W ∧ RingAt W base H own seed b M v L ∧ Holds W (w.heap.size + 1) .u8 23 Z ∧ CellsAt W w.heap.size 33 (dotC a s)) ⟨hB, hR.far hB, by rw [← hZ]; exact hr0, hd0⟩ ?_
 clear hB hr0 hd0 hZ hR
 rintro W ⟨hB, hR, hr0, hd0⟩
 have rD := hd0.range 0 2
 rw [show ((dotC a s).drop 0).take 2 = dotC a s from rfl] at rD
 have hk := rKey_any base H own seed b M v L W a s ho hR
 have hka : keyAt M a s = k := by unfold keyAt; rw [hm]; rfl
 rw [hka, hm] at hk
 have hsz := hr0.lt
 clear hR
 go_upto_region 6 with (first
  | (refine wpList_ldv rfl 33 _ rfl _ _ rfl (dotC a s) rD Tryz.underlying33 rfl sizeDotK ?_)
  | (go_at_call 21; refine hk.mono ?_; rintro e W1 ⟨rfl, hb1⟩; have hA1 := Holds.new W1 .u8 23 (List.replicate 32 0))
  | (refine wpList_st rfl 23 _ _ rfl _ rfl rfl hA1 (by rw [hkl]; exact sizeKeyD) (by rw [hkl]; rfl) ?_))
 have hb2 : Below W.heap.size W ((W1.alloc (.cells (row .u8 (List.replicate 32 0)) 23)).setRow W1.heap.size (row .u8 k)) := hb1.trans ((below_setRow ((Below.refl _ _).alloc (Nat.le_refl _) _) (Nat.le_refl _) _).mono hb1.size)
 refine forget (p := fun y => Code.wp _ _ _ _ y) (fun V => Below w.heap.size w V ∧ Holds V (w.heap.size + 1) .u8 23 Z ∧ Holds V W1.heap.size .u8 23 k) ⟨hB.trans (hb2.mono hB.size), hr0.below hb2 hr0.lt, hA1.setRow _⟩ ?_
 obtain ⟨G, hG⟩ : ∃ q, W1.heap.size = q := ⟨_, rfl⟩
 rw [hG]
 clear hB hr0 hd0 rD hb2 hA1 hb1 hk hG
 rintro V ⟨hB, hr0, hx⟩
 have hd := HD.out V (hKT.below hB)
 have hB2 := hB.alloc hB.size (.cells (row .u8 [p]) 5)
 have hr2 := hr0.alloc (.cells (row .u8 [p]) 5)
 go_wp2_with (first
  | (refine wpList_ld rfl 23 _ rfl _ rfl hx Tryz.underlying23 sizeKeyD hkl ?_)
  | (go_at_call 31; refine hd.mono ?_; rintro e w1 ⟨rfl, hb1⟩; have hr3 := hr2.below hb1 hr2.lt)
  | (refine wpList_st rfl 23 _ _ rfl _ rfl rfl hr3 (by rw [hPl]; exact sizeKeyD) (by rw [hZl, hPl]) ?_))
 refine bodyPost_ret (results_ct (Tryz.results17) _ rfl rfl (hr3.setRow PL).cellsAt Tryz.underlying23 rfl (by rw [List.length_map, hPl]; exact sizeKeyD)) rfl ⟨?_, ?_⟩
 · rw [HPL.out]; rfl
 · exact below_setRow (hB2.trans (hb1.mono hB2.size)) (by omega) _
end
end Go.Proofs.YtflkhkmejnpapaaGreatDoor
