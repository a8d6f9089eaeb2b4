/- chain's reference in memory: 'New', 'Proofs', 'Heads'. chain's reference: 'Heads', 'note'. -/
import Derived.Test.YtgcidamdbidgiaaDoorHk
namespace Go.Proofs.YtgcidamdbidgiaaDoor
open Go.RowKit
set_option maxRecDepth 20000
set_option linter.unusedSimpArgs false

def keyC (k : List Int) : List Value := k.map (Value.int .u8)
theorem keyC_one (k : List Int) : ∀ v ∈ keyC k, v.oneCell' = true := fun v hv => by obtain ⟨x, _, rfl⟩ := List.mem_map.1 hv; rfl
theorem infoKeyH : (Tryd.prog.info? 34).map (fun i => (i.zero, i.size, i.bytes)) = some (some (.agg (keyC zk).toArray), 32, 32) := by kernel_rfl
/-- The reference's chain at R: its slices of digests us, its proofs vp. -/
structure RefC (w : World) (base R : Nat) (us : List Value) (vp : Value) (T : Sms) (P : List Pf) : Prop where
  box : CellsAt w R 81 (us ++ [vp])
  us8 : us.length = 8
  sums : ∀ a (h : a < us.length), OwnI w base 34 32 us[a] ((T a).map keyC)
  own : OwnI w base 49 66 vp (P.map proofC)
  ok : OkS T
  okP : ∀ p ∈ P, okP p
  lenP : P.length ≤ 32
  baseR : base ≤ R
def refB (R : Nat) (us : List Value) (vp : Value) (k : Nat) : Prop := k = R ∨ vp.ownBlock = some k ∨ ∃ u ∈ us, u.ownBlock = some k
def refP (R : Nat) (vp : Value) (k : Nat) : Prop := k = R ∨ vp.ownBlock = some k
section
variable {w w' : World} {base R : Nat} {us : List Value} {vp : Value} {T : Sms} {P : List Pf}
theorem RefC.congr (h : RefC w base R us vp T P) (hk : ∀ g, refB R us vp g → w'.heap[g]? = w.heap[g]?) : RefC w' base R us vp T P :=
  ⟨h.box.congr (hk R (.inl rfl)), h.us8, fun a ha => (h.sums a ha).congr fun g hg => hk g (.inr (.inr ⟨us[a], List.getElem_mem ha, hg⟩)), h.own.congr fun g hg => hk g (.inr (.inl hg)), h.ok, h.okP, h.lenP, h.baseR⟩
theorem RefC.inside (h : RefC w base R us vp T P) (g : Nat) (hg : refB R us vp g) : g < w.heap.size ∧ base ≤ g := by
  rcases hg with rfl | hg | ⟨u, hu, hg⟩
  · exact ⟨h.box.lt, h.baseR⟩
  · obtain ⟨h1, h2, _⟩ := h.own.blockLt g hg
    exact ⟨h1, h2⟩
  · obtain ⟨a, ha, rfl⟩ := List.mem_iff_getElem.1 hu
    obtain ⟨h1, h2, _⟩ := (h.sums a ha).blockLt g hg
    exact ⟨h1, h2⟩
theorem RefC.far (h : RefC w base R us vp T P) (hb : Below w.heap.size w w') : RefC w' base R us vp T P := h.congr fun g hg => hb.block g (h.inside g hg).1
theorem RefC.neU (h : RefC w base R us vp T P) (a : Nat) (ha : a < us.length) (g : Nat) (hg : us[a].ownBlock = some g) : g ≠ R ∧ vp.ownBlock ≠ some g := by
  obtain ⟨_, _, cur, hc⟩ := (h.sums a ha).blockLt g hg
  refine ⟨fun e => ?_, fun e => ?_⟩
  · subst e
    have := h.box
    unfold CellsAt at this
    rw [hc] at this
    injection this with this
    injection this with _ e2 _
    exact absurd e2 (by decide)
  · obtain ⟨_, _, cur', hc'⟩ := h.own.blockLt g e
    rw [hc] at hc'
    injection hc' with hc'
    injection hc' with _ e2 _
    exact absurd e2 (by decide)
theorem RefC.neV (h : RefC w base R us vp T P) (g : Nat) (hg : vp.ownBlock = some g) : g ≠ R := by
  obtain ⟨_, _, cur, hc⟩ := h.own.blockLt g hg
  intro e
  subst e
  have := h.box
  unfold CellsAt at this
  rw [hc] at this
  injection this with this
  injection this with _ e2 _
  exact absurd e2 (by decide)
theorem RefC.cellU (h : RefC w base R us vp T P) (a : Nat) (ha : a < 8) : w.cell? ⟨R, a, none⟩ = some (us[a]'(by rw [h.us8]; exact ha)) := by
  have hl := h.us8
  rw [h.box.cell, List.getElem?_append_left (by omega), List.getElem?_eq_getElem (by omega)]
theorem RefC.cellP (h : RefC w base R us vp T P) : w.cell? ⟨R, 8, none⟩ = some vp := by
  have hl := h.us8
  rw [h.box.cell, List.getElem?_append_right (by omega), hl]; rfl
end
/-- What a call leaves of it. -/
structure RefTo (w w' : World) (base R : Nat) (us us' : List Value) (vp vp' : Value) (T : Sms) (P : List Pf) : Prop where
  at_ : RefC w' base R us' vp' T P
  turn : Turn (refP R vp) w w'
  own : vp'.ownBlock = vp.ownBlock ∨ ∃ g, vp'.ownBlock = some g ∧ w.heap.size ≤ g
section
variable (base R : Nat) (us : List Value) (vp : Value) (T : Sms) (P : List Pf) (w : World)
set_option maxHeartbeats 4000000 in
theorem rProofs_any (hR : RefC w base R us vp T P) :
    Calls Tryd.prog 27 #[.pointer (some ⟨R, 0, none⟩)] w fun e w' => ∃ v', e = .returned v' ∧ OwnI w' w.heap.size 49 66 v' (P.map proofC) ∧ Below w.heap.size w w' := by
  have hB : Below w.heap.size w (w.alloc (.cells #[] 49)) := (Below.refl _ _).alloc (Nat.le_refl _) _
  have hE := OwnI.empty w 49 66
  have c8 := (hR.far hB).cellP
  have hone : ∀ c ∈ P.map proofC, ∀ u ∈ c, u.oneCell' = true := fun c hc u hu => by
    obtain ⟨q, _, rfl⟩ := List.mem_map.1 hc
    exact proofC_one q u hu
  have hap := hE.apps (P := Tryd.prog) 46 46 Tryd.underlying46 infoProof (by rfl) (by decide) (P.map proofC) hR.own.each hone base vp (hR.own.far hB) (by simp; have := hR.lenP; omega) (by decide) (by simp)
  rw [List.nil_append] at hap
  have HAP := Veil.mk hap
  obtain ⟨x, c, hv⟩ := hR.own.isSlice
  generalize (P.map proofC).length = m at hv
  subst hv
  clear hap hE hone hR
  go_enter Tryd.func27, Tryd.ntmps27
  go_wp2_with (at_builtin; obtain ⟨v1, w1, hr1, ho1, hg1, _⟩ := HAP.out; refine wpList_appx rfl _ _ 46 46 rfl _ _ _ _ rfl rfl hr1 ?_; clear hr1)
  go_ret
  exact ⟨_, rfl, ho1, hB.grown hg1 (by simp) (fun k hk => by cases hk; exact Nat.le_refl _)⟩
set_option maxHeartbeats 8000000 in
theorem rNew_any :
    Calls Tryd.prog 24 #[] w fun e w' => ∃ us, e = .returned (.pointer (some ⟨w.heap.size, 0, none⟩)) ∧ RefC w' w.heap.size w.heap.size us (.slice none 0 0) noS [] ∧ Below w.heap.size w w' := by
  obtain ⟨C0, hC0⟩ : ∃ q : List Value, q = List.replicate 8 (.slice none 0 0) ++ [.slice none 0 0] := ⟨_, rfl⟩
  have HBD : Veil (∀ wx, (Instr.build 81 #[]).run Tryd.prog wx = .ok (.agg C0.toArray) wx) := ⟨fun wx => by rw [hC0]; exact run_build wx _ _ _ (by kernel_rfl)⟩
  have hD := CellsAt.new w 81 C0
  have hB : Below w.heap.size w (w.alloc (.cells C0.toArray 81)) := (Below.refl _ _).alloc (Nat.le_refl _) _
  have HC0 := Veil.mk hC0
  clear hC0
  go_enter Tryd.func24, Tryd.ntmps24
  go_wp2_with (refine wpList_bldx rfl 81 _ rfl #[] (by first | rfl | kernel_rfl) _ (HBD.out _) ?_)
  go_loopw [2] (fun q wr => ∃ j : Nat, j ≤ 8 ∧ q = .int .i64 j ∧ Below w.heap.size w wr ∧ ∃ us : List Value, us.length = j ∧ CellsAt wr w.heap.size 81 (us ++ List.replicate (8 - j) (.slice none 0 0) ++ [.slice none 0 0]) ∧ ∀ u ∈ us, OwnI wr (w.heap.size + 1) 34 32 u [keyC zk]) (fun q _ => 8 - (intOf q).toNat)
  case atStart => exact ⟨0, Nat.zero_le _, rfl, hB, [], rfl, by show CellsAt _ _ _ (List.replicate 8 (.slice none 0 0) ++ [.slice none 0 0]); rw [← HC0.out]; exact hD, fun u hu => by cases hu⟩
  case round =>
    clear hD hB HBD HC0
    obtain ⟨j, hj, rfl, hB, us, hul, hD, hU⟩ := hrel
    by_cases hj8 : j < 8
    · have hji : (j : Int) < 8 := by omega
      have hj0 : (0 : Int) ≤ (j : Int) := by omega
      have hlt := hD.lt
      obtain ⟨CC, hCC⟩ : ∃ q, us ++ List.replicate (8 - j) (.slice none 0 0) ++ [.slice none 0 0] = q := ⟨_, rfl⟩
      have hget : CC[j]? = some (.slice none 0 0) := by
        rw [← hCC, List.append_assoc, List.getElem?_append_right (by omega), hul, Nat.sub_self, show 8 - j = (8 - (j + 1)) + 1 by omega, List.replicate_succ]; rfl
      have hset : ∀ u, CC.set j u = (us ++ [u]) ++ List.replicate (8 - (j + 1)) (.slice none 0 0) ++ [.slice none 0 0] := fun u => by
        rw [← hCC, List.append_assoc, List.set_append_right _ _ (by omega), hul, Nat.sub_self, show 8 - j = (8 - (j + 1)) + 1 by omega, List.replicate_succ]
        simp
      rw [hCC] at hD
      have HST := Veil.mk hset
      clear hset hCC
      have cj := hD.cell j
      rw [hget] at cj
      have fj := hD.frozen j
      have HU2 := Veil.mk hU
      clear hU
      have hw1 : IntKind.i64.wrap ((j : Int) + 1) = (j : Int) + 1 := by rw [IntKind.wrap_i64]; omega
      go_wp2_with (refine wpList_bs1 rfl 78 34 _ rfl (keyC zk) (by first | rfl | kernel_rfl) Tryd.underlying78 infoKeyH (by decide) (by decide) rfl ?_)
      go_roundw
      case rel =>
        have hsz : (wr.setCell ⟨w.heap.size, j, none⟩ (.slice (some ⟨wr.heap.size, 0, none⟩) 1 1)).heap.size = wr.heap.size := by simp [World.setCell]
        have hBs : Below w.heap.size w (wr.setCell ⟨w.heap.size, j, none⟩ (.slice (some ⟨wr.heap.size, 0, none⟩) 1 1)) := hB.setCell (Nat.le_refl _) _
        refine ⟨j + 1, hj8, by push_cast; rfl, hBs.alloc hBs.size _, us ++ [.slice (some ⟨wr.heap.size, 0, none⟩) 1 1], by simp [hul], ?_, fun u hu => ?_⟩
        · have := (hD.set j (.slice (some ⟨wr.heap.size, 0, none⟩) 1 1)).alloc (.cells (keyC zk).toArray 34)
          rw [HST.out] at this
          exact this
        · rcases List.mem_append.1 hu with h | h
          · have k1 := HU2.out u h
            exact (k1.congr fun g hg => Below.heap_setCell wr ⟨w.heap.size, j, none⟩ _ g (by have := (k1.blockLt g hg).2.1; show g ≠ w.heap.size; omega)).far ((Below.refl _ _).alloc (Nat.le_refl _) _)
          · rw [List.mem_singleton.1 h]
            have k1 := OwnI.one (wr.setCell ⟨w.heap.size, j, none⟩ (.slice (some ⟨wr.heap.size, 0, none⟩) 1 1)) 34 32 (keyC zk) rfl
            rw [hsz] at k1
            exact k1.less hlt
      case measure => simp [intOf]; omega
    · obtain rfl : j = 8 := by omega
      have hji : ¬ ((8 : Nat) : Int) < 8 := by omega
      have HH : Veil (CellsAt wr w.heap.size 81 (us ++ [.slice none 0 0]) ∧ ∀ u ∈ us, OwnI wr (w.heap.size + 1) 34 32 u [keyC zk]) := ⟨by simpa using hD, hU⟩
      clear hD hU
      go_wp2
      go_ret
      exact ⟨rfl, ⟨us, HH.out.1, hul, fun a ha => (HH.out.2 _ (List.getElem_mem ha)).less (by omega), OwnI.nil _ _ _ _, okS_no, by simp, by simp, Nat.le_refl _⟩, hB⟩
end
end Go.Proofs.YtgcidamdbidgiaaDoor

namespace Go.Proofs.YtgcidamdbidgiaaDoor
open Go.RowKit
set_option maxRecDepth 20000
set_option linter.unusedSimpArgs false

theorem atN_get {T : Sms} {a n : Nat} (h : n < (T a).length) : ((T a).map keyC)[n]'(by rw [List.length_map]; exact h) = keyC (atN T a n) := by
  rw [List.getElem_map]; unfold atN; rw [List.getElem?_eq_getElem h]; rfl
section
variable {w : World} {base R : Nat} {us : List Value} {vp : Value} {T : Sms} {P : List Pf}
/-- The slice of an author's digests. -/
theorem RefC.slot (h : RefC w base R us vp T P) (a : Nat) (ha : a < 8) : ∃ g c, w.cell? ⟨R, a, none⟩ = some (.slice (some ⟨g, 0, none⟩) (cnt T a + 1) c) ∧ us[a]'(by rw [h.us8]; exact ha) = .slice (some ⟨g, 0, none⟩) (cnt T a + 1) c ∧ ∀ n, n ≤ cnt T a → w.rangeAt g (n * 32) (keyC (atN T a n)) := by
  have hl := h.us8
  have hs := h.sums a (by omega)
  have hc := h.cellU a ha
  have hcl := h.ok.cnt_lt a
  obtain ⟨x, c, hx⟩ := hs.isSlice
  rw [List.length_map, ← hcl] at hx
  rw [hx] at hs hc
  obtain ⟨g, rfl, _, _⟩ := hs.at_ 0 (by rw [List.length_map]; omega)
  refine ⟨g, c, hc, hx, fun n hn => ?_⟩
  obtain ⟨g', e, _, h3⟩ := hs.at_ n (by rw [List.length_map]; omega)
  cases e
  rw [atN_get (by omega)] at h3
  exact h3
end
def headsTo (T : Sms) (j : Nat) : List (Int × List Int) := (headsOf T).take j ++ List.replicate (8 - j) (0, zk)
theorem headsTo_len (T : Sms) (j : Nat) (hj : j ≤ 8) : (headsTo T j).length = 8 := by unfold headsTo; simp [headsOf_length]; omega
theorem headsTo_ok {T : Sms} (h : OkS T) (j : Nat) : okHs (headsTo T j) := fun x hx => by
  unfold headsTo at hx
  rcases List.mem_append.1 hx with h1 | h1
  · exact h.heads_ok x (List.mem_of_mem_take h1)
  · rw [(List.mem_replicate.1 h1).2]; exact ⟨⟨by decide, by decide⟩, okK_zk⟩
theorem headsTo_set (T : Sms) (j : Nat) (hj : j < 8) : (headsTo T j).set j (headOf T j) = headsTo T (j + 1) := by
  have hl : ((headsOf T).take j).length = j := by rw [List.length_take, headsOf_length]; omega
  unfold headsTo
  rw [List.set_append_right _ _ (by omega), hl, Nat.sub_self, show 8 - j = (8 - (j + 1)) + 1 by omega, List.replicate_succ, List.set_cons_zero, List.take_succ_eq_append_getElem (by rw [headsOf_length]; exact hj), headsOf_get T j hj]
  simp
theorem headsTo_zero (T : Sms) : headsTo T 0 = headsOf noS := by unfold headsTo; rfl
theorem headsTo_all (T : Sms) : headsTo T 8 = headsOf T := by unfold headsTo; rw [List.take_of_length_le (by rw [headsOf_length]; omega)]; simp
section
variable (base R : Nat) (us : List Value) (vp : Value) (T : Sms) (P : List Pf) (w : World)
set_option maxHeartbeats 8000000 in
theorem rHeads_any (hR : RefC w base R us vp T P) :
    Calls Tryd.prog 25 #[.pointer (some ⟨R, 0, none⟩)] w fun e w' => e = .returned (.agg (headsC (headsOf T)).toArray) ∧ Below w.heap.size w w' := by
  obtain ⟨Z, hzv, hz1, hZ⟩ := zeroHeadsH
  have hZl : Z.length = 264 := by rw [hZ]; exact okS_no.headsLen
  have hok := hR.ok
  have hB : Below w.heap.size w ((w.alloc (.cells Z.toArray 41)).alloc (.cells Z.toArray 41)) := ((Below.refl _ _).alloc (Nat.le_refl _) _).alloc (by simp) _
  have hr0 := (CellsAt.new w 41 Z).alloc (.cells Z.toArray 41)
  have hA0 := CellsAt.new (w.alloc (.cells Z.toArray 41)) 41 Z
  rw [World.size_alloc] at hA0
  have HR := Veil.mk (fun W (hb : Below w.heap.size w W) => hR.far hb)
  have HZ := Veil.mk hZ
  clear hR hZ
  go_enter Tryd.func25, Tryd.ntmps25
  go_wp2_with fail
  go_loopw [4, 5] (fun q _ wr => ∃ j : Nat, j ≤ 8 ∧ q = .int .i64 j ∧ Below w.heap.size w wr ∧ CellsAt wr w.heap.size 41 Z ∧ CellsAt wr (w.heap.size + 1) 41 (headsC (headsTo T j))) (fun q _ _ => 8 - (intOf q).toNat)
  case atStart => exact ⟨0, Nat.zero_le _, rfl, hB, hr0, by rw [headsTo_zero, ← HZ.out]; exact hA0⟩
  case round =>
    clear hB hr0 hA0
    obtain ⟨j, hj, rfl, hB, hr, hA⟩ := hrel
    have hcl := hok.cnt_le j
    have hlk := hok.at_ok j (cnt T j)
    have hal : (headsC (headsTo T j)).length = 264 := by rw [headsC_len _ (headsTo_ok hok j), headsTo_len T j hj]
    by_cases hj8 : j < 8
    · have hji : (j : Int) < 8 := by omega
      have hj0 : (0 : Int) ≤ (j : Int) := by omega
      obtain ⟨g, c, hcell, -, hrg⟩ := (HR.out wr hB).slot j hj8
      have rK := hrg (cnt T j) (Nat.le_refl _)
      have HPUT := headsC_put (headsTo T j) (headsTo_ok hok j) j (by rw [headsTo_len T j hj]; exact hj8) (headOf T j) []
      rw [List.append_nil, List.append_nil, headsTo_set T j hj8] at HPUT
      have hhl : (headC (headOf T j)).length = 33 := headC_len _ hlk.1
      have HP := Veil.mk HPUT
      have HHO : Veil (headOf T j = ((cnt T j : Int), atN T j (cnt T j))) := ⟨rfl⟩
      have HBH : Veil (∀ wx, (Instr.build 40 #[(0, .int .u32 (cnt T j : Int)), (1, .agg (keyC (atN T j (cnt T j))).toArray)]).run Tryd.prog wx = .ok (.agg (headC (headOf T j)).toArray) wx) := ⟨headBuilt (cnt T j : Int) (atN T j (cnt T j)) hlk.1⟩
      have h1H := headC_one (headOf T j)
      have iH : (Tryd.prog.info? 40).map (·.size) = some (headC (headOf T j)).length := by rw [hhl]; exact sizeHead1
      have iK : (Tryd.prog.info? 34).map (·.size) = some (keyC (atN T j (cnt T j))).length := by unfold keyC; rw [List.length_map, hlk.1]; exact sizeKeyH
      obtain ⟨C, hC⟩ : ∃ q, cnt T j = q := ⟨_, rfl⟩
      rw [hC] at hcell rK hcl iK HBH hlk
      clear hC HPUT hrg HHO
      generalize atN T j C = AN at rK iK HBH hlk
      generalize headC (headOf T j) = HD at hhl HBH h1H iH HP
      generalize keyC AN = KC at rK iK HBH
      generalize headsC (headsTo T j) = HS at hA hal HP
      have hw1 : IntKind.i64.wrap ((j : Int) + 1) = (j : Int) + 1 := by rw [IntKind.wrap_i64]; omega
      have hw2 : IntKind.i64.wrap ((C : Int) + 1 - 1) = (C : Int) := by rw [IntKind.wrap_i64]; omega
      have hw2b : IntKind.i64.wrap (((C + 1 : Nat) : Int) - 1) = (C : Int) := by rw [IntKind.wrap_i64]; omega
      have hw3 : IntKind.u32.wrap (C : Int) = (C : Int) := by rw [IntKind.wrap_u32]; omega
      have hw4 : IntKind.i64.wrap (C : Int) = (C : Int) := by rw [IntKind.wrap_i64]; omega
      have hc0 : (0 : Int) ≤ (C : Int) := by omega
      have hc1 : (C : Int) < (C : Int) + 1 := by omega
      go_wp2_with (first
        | (refine wpList_ldv rfl 34 _ rfl _ _ (by go_simp) KC rK Tryd.underlying34 rfl iK ?_)
        | (refine wpList_bldx rfl 40 _ rfl #[(0, .int .u32 (C : Int)), (1, .agg KC.toArray)] (by first | rfl | kernel_rfl) _ (HBH.out _) ?_)
        | (refine wpList_stm rfl 40 _ _ rfl (w.heap.size + 1) (j * 33) (by go_simp) rfl hA iH (by rw [hhl, hal]; omega) h1H ?_))
      rw [← List.append_assoc, HP.out]
      go_roundw
      case rel =>
        refine ⟨j + 1, hj8, by push_cast; rfl, below_setRow hB (by omega) _, hr.setRowM _ (by omega), hA.setRow _⟩
      case measure => simp [intOf]; omega
    · obtain rfl : j = 8 := by omega
      have hji : ¬ ((8 : Nat) : Int) < 8 := by omega
      rw [headsTo_all] at hA hal
      have rA := hA.wholeM
      have h1 := headsC_one (headsOf T)
      have HE : Veil (headsC (headsOf T) = headsC (headsOf T)) := ⟨rfl⟩
      obtain ⟨HS, hHS⟩ : ∃ q, headsC (headsOf T) = q := ⟨_, rfl⟩
      rw [hHS] at rA h1 hal HE
      have iA : (Tryd.prog.info? 41).map (·.size) = some HS.length := by rw [hal]; exact sizeHeads
      have HHS := Veil.mk hHS
      clear hA hHS HE
      go_wp2_with (first
        | (refine wpList_ldv rfl 41 _ rfl _ _ rfl HS rA Tryd.underlying41 rfl iA ?_)
        | (refine wpList_stv rfl 41 _ _ rfl _ rfl rfl hr iA (by rw [hZl, hal]) h1 ?_))
      refine bodyPost_ret (results_cells (Tryd.results25) _ rfl (hr.setRow HS) Tryd.underlying41 rfl iA) rfl ⟨by rw [HHS.out], ?_⟩
      exact below_setRow hB (Nat.le_refl _) _
set_option maxHeartbeats 8000000 in
theorem rNote_any (p : Pf) (hp : okP p) (hR : RefC w base R us vp T P) (hbase : base ≤ w.heap.size) :
    Calls Tryd.prog 49 #[.pointer (some ⟨R, 0, none⟩), .agg (proofC p).toArray] w fun e w' => (∃ r, e = .returned r) ∧ ∃ vp', RefTo w w' base R us us vp vp' T (noteP P p) := by
  have hok := hR.ok
  have hpl := proofC_len p hp.2.2.1.1 hp.2.2.2.1
  have hD0 := CellsAt.new w 49 (proofC p)
  have hB0 : Below w.heap.size w (w.alloc (.cells (proofC p).toArray 49)) := (Below.refl _ _).alloc (Nat.le_refl _) _
  have iP : (Tryd.prog.info? 49).map (·.size) = some (proofC p).length := by rw [hpl]; exact sizeProof
  have uP : Tryd.prog.underlying 49 = _ := Tryd.underlying49
  have h1P := proofC_one p
  have HR := Veil.mk (fun W (hb : Below w.heap.size w W) => hR.far hb)
  have HEQ : Veil (∀ j (hj : j < P.length) wx, (binOp .eql 49 (.agg (proofC P[j]).toArray) (.agg (proofC p).toArray)).run Tryd.prog wx = .ok (.bool (decide (P[j] = p))) wx) := ⟨fun j hj wx => eqlProof P[j] p (hR.okP _ (List.getElem_mem hj)) hp wx⟩
  have HQL : Veil (∀ j (hj : j < P.length), (proofC P[j]).length = 66) := ⟨fun j hj => proofC_len _ (hR.okP _ (List.getElem_mem hj)).2.2.1.1 (hR.okP _ (List.getElem_mem hj)).2.2.2.1⟩
  obtain ⟨x, c, hv⟩ := hR.own.isSlice
  rw [List.length_map] at hv
  have HV := Veil.mk hv
  have HAT : Veil (∀ W, Below w.heap.size w W → ∀ j (hj : j < P.length), ∃ g, x = some ⟨g, 0, none⟩ ∧ W.rangeAt g (j * 66) (proofC P[j])) := ⟨fun W hb j hj => by
    have := (hR.far hb).own
    rw [hv] at this
    obtain ⟨g, h1, h2, h3⟩ := this.at_ j (by rw [List.length_map]; exact hj)
    rw [List.getElem_map] at h3
    exact ⟨g, h1, h3⟩⟩
  have HC8 : Veil (∀ W, Below w.heap.size w W → W.cell? ⟨R, 8, none⟩ = some (.slice x P.length c)) := ⟨fun W hb => by rw [(hR.far hb).cellP, hv]⟩
  have hlP := hR.lenP
  obtain ⟨n, hn⟩ : ∃ q, P.length = q := ⟨_, rfl⟩
  rw [hn] at hlP HC8 HV
  have HN := Veil.mk hn
  obtain ⟨PC, hPC⟩ : ∃ q, proofC p = q := ⟨_, rfl⟩
  rw [hPC] at hpl hD0 hB0 iP HEQ h1P ⊢
  have HPC := Veil.mk hPC
  clear hR hv hn hPC
  go_enter Tryd.func49, Tryd.ntmps49
  go_wp2_with fail
  go_loopw [4] (fun q wr => ∃ j : Nat, j ≤ n ∧ q = .int .i64 j ∧ p ∉ P.take j ∧ Below w.heap.size w wr ∧ CellsAt wr w.heap.size 49 PC) (fun q _ => n - (intOf q).toNat)
  case atStart => exact ⟨0, Nat.zero_le _, rfl, by simp, hB0, hD0⟩
  case round =>
    clear hB0 hD0
    obtain ⟨j, hj, rfl, hni, hB, hD⟩ := hrel
    have HNI := Veil.mk hni
    clear hni
    have c8 := HC8.out wr hB
    by_cases hjn : j < n
    · have hji : (j : Int) < (n : Int) := by omega
      have hj0 : (0 : Int) ≤ (j : Int) := by omega
      have hjQ : j < P.length := by rw [HN.out]; exact hjn
      obtain ⟨g, rfl, hr⟩ := HAT.out wr hB j hjQ
      have heq := HEQ.out j hjQ
      have hql := HQL.out j hjQ
      have iQ : (Tryd.prog.info? 49).map (·.size) = some (proofC P[j]).length := by rw [hql]; exact sizeProof
      have HX : Veil (p ∉ P.take j ∧ P[j] ∈ P ∧ P.take (j + 1) = P.take j ++ [P[j]]) := ⟨HNI.out, List.getElem_mem hjQ, List.take_succ_eq_append_getElem hjQ⟩
      obtain ⟨QJ, hQJ⟩ : ∃ q, P[j] = q := ⟨_, rfl⟩
      rw [hQJ] at hr heq hql iQ HX
      clear hQJ hjQ
      go_upto_region 4 with fail
      refine wp_region_gateT (fun w' => w'.cell? ⟨R, 8, none⟩ = some (.slice (some ⟨g, 0, none⟩) n c) ∧ w'.rangeAt w.heap.size 0 PC ∧ w'.rangeAt g (j * 66) (proofC QJ)) (fun _ => True) 99 (by kernel_rfl) ?_
      have hT : (fun w' : World => w'.cell? ⟨R, 8, none⟩ = some (.slice (some ⟨g, 0, none⟩) n c) ∧ w'.rangeAt w.heap.size 0 PC ∧ w'.rangeAt g (j * 66) (proofC QJ)) wr.drew := ⟨c8, hD.wholeM, hr⟩
      have hS := trivial
      generalize proofC QJ = QC at iQ hT heq hr hql ⊢
      by_cases e : QJ = p
      · rw [show decide (QJ = p) = true by simp [e]] at heq
        have HE := Veil.mk e
        clear e
        refine wpAnyT_held (i := 0) (v := ?_) rfl (by kernel_rfl) (by kernel_rfl) (by kernel_rfl) (fun _ _ _ h => h) (by kernel_rfl) hT (fun _ => hS) (by kernel_rfl) ?_ ?_
        rotate_left
        · intro wx hSw; go_split_ands; go_simp; try with_reducible rfl
        simp only [Act.put, List.getElem_toArray, List.getElem_cons_succ, List.getElem_cons_zero, List.setIfInBounds_toArray, List.set_cons_zero, List.set_cons_succ]
        refine wpAnyT_held (i := 1) (v := ?_) rfl (by kernel_rfl) (by kernel_rfl) (by kernel_rfl) (fun _ _ _ h => h) (by kernel_rfl) hT (fun _ => hS) (by kernel_rfl) ?_ ?_
        rotate_left
        · intro wx hSw; go_split_ands; go_simp; try with_reducible rfl
        simp only [Act.put, List.getElem_toArray, List.getElem_cons_succ, List.getElem_cons_zero, List.setIfInBounds_toArray, List.set_cons_zero, List.set_cons_succ]
        refine wpAnyT_held (i := 2) (v := ?_) rfl (by kernel_rfl) (by kernel_rfl) (by kernel_rfl) (fun _ _ _ h => h) (by kernel_rfl) hT (fun _ => hS) (by kernel_rfl) ?_ ?_
        rotate_left
        · intro wx hSw; go_split_ands; go_simp; try with_reducible rfl
        simp only [Act.put, List.getElem_toArray, List.getElem_cons_succ, List.getElem_cons_zero, List.setIfInBounds_toArray, List.set_cons_zero, List.set_cons_succ]
        refine wpAnyT_held (i := 3) (v := ?_) rfl (by kernel_rfl) (by kernel_rfl) (by kernel_rfl) (fun _ _ _ h => h) (by kernel_rfl) hT (fun _ => hS) (by kernel_rfl) ?_ ?_
        rotate_left
        · intro wx hSw; go_split_ands; go_simp; try with_reducible rfl
        simp only [Act.put, List.getElem_toArray, List.getElem_cons_succ, List.getElem_cons_zero, List.setIfInBounds_toArray, List.set_cons_zero, List.set_cons_succ]
        refine wpAnyT_held (i := 4) (v := ?_) rfl (by kernel_rfl) (by kernel_rfl) (by kernel_rfl) (fun _ _ _ h => h) (by kernel_rfl) hT (fun _ => hS) (by kernel_rfl) ?_ ?_
        rotate_left
        · intro wx hSw; go_split_ands; go_simp; try with_reducible rfl
        simp only [Act.put, List.getElem_toArray, List.getElem_cons_succ, List.getElem_cons_zero, List.setIfInBounds_toArray, List.set_cons_zero, List.set_cons_succ]
        refine wpAnyT_held (i := 5) (v := ?_) rfl (by kernel_rfl) (by kernel_rfl) (by kernel_rfl) (fun _ _ _ h => h) (by kernel_rfl) hT (fun _ => hS) (by kernel_rfl) ?_ ?_
        rotate_left
        · intro wx hSw; go_split_ands; go_simp; try with_reducible rfl
        simp only [Act.put, List.getElem_toArray, List.getElem_cons_succ, List.getElem_cons_zero, List.setIfInBounds_toArray, List.set_cons_zero, List.set_cons_succ]
        refine wpAnyT_load (i := 6) (dst := some 20) (ty := 49) (x := .tmp 19) (b := g) (o := ((j * 66))) (cs := QC) (by kernel_rfl) (by kernel_rfl) (by kernel_rfl) (by kernel_rfl) (by kernel_rfl) (fun _ _ _ h => h) (by kernel_rfl) hT (fun _ => hS) (by kernel_rfl) (fun _ h => h.2.2) uP rfl iQ ?_
        simp only [Act.put, List.getElem_toArray, List.getElem_cons_succ, List.getElem_cons_zero, List.setIfInBounds_toArray, List.set_cons_zero, List.set_cons_succ]
        refine wpAnyT_load (i := 7) (dst := some 21) (ty := 49) (x := .tmp 3) (b := w.heap.size) (o := (0)) (cs := PC) (by kernel_rfl) (by kernel_rfl) (by kernel_rfl) (by kernel_rfl) (by kernel_rfl) (fun _ _ _ h => h) (by kernel_rfl) hT (fun _ => hS) (by kernel_rfl) (fun _ h => h.2.1) uP rfl iP ?_
        simp only [Act.put, List.getElem_toArray, List.getElem_cons_succ, List.getElem_cons_zero, List.setIfInBounds_toArray, List.set_cons_zero, List.set_cons_succ]
        refine wpAnyT_held (i := 8) (v := .bool true) rfl (by kernel_rfl) (by kernel_rfl) (by kernel_rfl) (fun _ _ _ h => h) (by kernel_rfl) hT (fun _ => hS) (by kernel_rfl) ?_ ?_
        · intro wx hSw; go_split_ands; go_simp
        simp only [Act.put, List.getElem_toArray, List.getElem_cons_succ, List.getElem_cons_zero, List.setIfInBounds_toArray, List.set_cons_zero, List.set_cons_succ]
        refine wpAnyT_done (by kernel_rfl) ?_ _
        have HRR := Veil.mk (HR.out wr.drew hB.drew)
        clear hT hS heq hr c8
        go_wp2
        refine bodyPost_ret (results_none rfl _ _ _) rfl ?_
        exact ⟨⟨_, rfl⟩, vp, by rw [noteP_in P p (by rw [← HE.out]; exact HX.out.2.1)]; exact HRR.out, Turn.of_below hB.drew, .inl rfl⟩
      · rw [show decide (QJ = p) = false by simp [e]] at heq
        have HE := Veil.mk e
        clear e
        refine wpAnyT_held (i := 0) (v := ?_) rfl (by kernel_rfl) (by kernel_rfl) (by kernel_rfl) (fun _ _ _ h => h) (by kernel_rfl) hT (fun _ => hS) (by kernel_rfl) ?_ ?_
        rotate_left
        · intro wx hSw; go_split_ands; go_simp; try with_reducible rfl
        simp only [Act.put, List.getElem_toArray, List.getElem_cons_succ, List.getElem_cons_zero, List.setIfInBounds_toArray, List.set_cons_zero, List.set_cons_succ]
        refine wpAnyT_held (i := 1) (v := ?_) rfl (by kernel_rfl) (by kernel_rfl) (by kernel_rfl) (fun _ _ _ h => h) (by kernel_rfl) hT (fun _ => hS) (by kernel_rfl) ?_ ?_
        rotate_left
        · intro wx hSw; go_split_ands; go_simp; try with_reducible rfl
        simp only [Act.put, List.getElem_toArray, List.getElem_cons_succ, List.getElem_cons_zero, List.setIfInBounds_toArray, List.set_cons_zero, List.set_cons_succ]
        refine wpAnyT_held (i := 2) (v := ?_) rfl (by kernel_rfl) (by kernel_rfl) (by kernel_rfl) (fun _ _ _ h => h) (by kernel_rfl) hT (fun _ => hS) (by kernel_rfl) ?_ ?_
        rotate_left
        · intro wx hSw; go_split_ands; go_simp; try with_reducible rfl
        simp only [Act.put, List.getElem_toArray, List.getElem_cons_succ, List.getElem_cons_zero, List.setIfInBounds_toArray, List.set_cons_zero, List.set_cons_succ]
        refine wpAnyT_held (i := 3) (v := ?_) rfl (by kernel_rfl) (by kernel_rfl) (by kernel_rfl) (fun _ _ _ h => h) (by kernel_rfl) hT (fun _ => hS) (by kernel_rfl) ?_ ?_
        rotate_left
        · intro wx hSw; go_split_ands; go_simp; try with_reducible rfl
        simp only [Act.put, List.getElem_toArray, List.getElem_cons_succ, List.getElem_cons_zero, List.setIfInBounds_toArray, List.set_cons_zero, List.set_cons_succ]
        refine wpAnyT_held (i := 4) (v := ?_) rfl (by kernel_rfl) (by kernel_rfl) (by kernel_rfl) (fun _ _ _ h => h) (by kernel_rfl) hT (fun _ => hS) (by kernel_rfl) ?_ ?_
        rotate_left
        · intro wx hSw; go_split_ands; go_simp; try with_reducible rfl
        simp only [Act.put, List.getElem_toArray, List.getElem_cons_succ, List.getElem_cons_zero, List.setIfInBounds_toArray, List.set_cons_zero, List.set_cons_succ]
        refine wpAnyT_held (i := 5) (v := ?_) rfl (by kernel_rfl) (by kernel_rfl) (by kernel_rfl) (fun _ _ _ h => h) (by kernel_rfl) hT (fun _ => hS) (by kernel_rfl) ?_ ?_
        rotate_left
        · intro wx hSw; go_split_ands; go_simp; try with_reducible rfl
        simp only [Act.put, List.getElem_toArray, List.getElem_cons_succ, List.getElem_cons_zero, List.setIfInBounds_toArray, List.set_cons_zero, List.set_cons_succ]
        refine wpAnyT_load (i := 6) (dst := some 20) (ty := 49) (x := .tmp 19) (b := g) (o := ((j * 66))) (cs := QC) (by kernel_rfl) (by kernel_rfl) (by kernel_rfl) (by kernel_rfl) (by kernel_rfl) (fun _ _ _ h => h) (by kernel_rfl) hT (fun _ => hS) (by kernel_rfl) (fun _ h => h.2.2) uP rfl iQ ?_
        simp only [Act.put, List.getElem_toArray, List.getElem_cons_succ, List.getElem_cons_zero, List.setIfInBounds_toArray, List.set_cons_zero, List.set_cons_succ]
        refine wpAnyT_load (i := 7) (dst := some 21) (ty := 49) (x := .tmp 3) (b := w.heap.size) (o := (0)) (cs := PC) (by kernel_rfl) (by kernel_rfl) (by kernel_rfl) (by kernel_rfl) (by kernel_rfl) (fun _ _ _ h => h) (by kernel_rfl) hT (fun _ => hS) (by kernel_rfl) (fun _ h => h.2.1) uP rfl iP ?_
        simp only [Act.put, List.getElem_toArray, List.getElem_cons_succ, List.getElem_cons_zero, List.setIfInBounds_toArray, List.set_cons_zero, List.set_cons_succ]
        refine wpAnyT_held (i := 8) (v := .bool false) rfl (by kernel_rfl) (by kernel_rfl) (by kernel_rfl) (fun _ _ _ h => h) (by kernel_rfl) hT (fun _ => hS) (by kernel_rfl) ?_ ?_
        · intro wx hSw; go_split_ands; go_simp
        simp only [Act.put, List.getElem_toArray, List.getElem_cons_succ, List.getElem_cons_zero, List.setIfInBounds_toArray, List.set_cons_zero, List.set_cons_succ]
        refine wpAnyT_done (by kernel_rfl) ?_ _
        clear hT hS heq hr c8
        have hw1 : IntKind.i64.wrap ((j : Int) + 1) = (j : Int) + 1 := by rw [IntKind.wrap_i64]; omega
        go_wp2
        go_roundw
        case rel => exact ⟨j + 1, hjn, by push_cast; rfl, by rw [HX.out.2.2]; intro q; rcases List.mem_append.1 q with q | q; exact HX.out.1 q; exact HE.out (List.mem_singleton.1 q).symm, hB.drew, hD.congr rfl⟩
        case measure => simp [intOf]; omega
    · obtain rfl : j = n := by omega
      have hji : ¬ (j : Int) < (j : Int) := by omega
      have HNI2 : Veil (p ∉ P) := ⟨by have := HNI.out; rw [← HN.out, List.take_length] at this; exact this⟩
      have HRR := Veil.mk (HR.out wr hB)
      by_cases hf : j < 32
      rotate_left
      · have hfi : ¬ (j : Int) < 32 := by omega
        go_wp2
        go_end0
        exact ⟨⟨_, rfl⟩, vp, by unfold noteP; rw [if_pos (.inr (by rw [HN.out]; omega))]; exact HRR.out, Turn.of_below hB, .inl rfl⟩
      · have hfi : (j : Int) < 32 := by omega
        have HNP : Veil (noteP P p = P ++ [p]) := ⟨noteP_new P p HNI2.out (by rw [HN.out]; exact hf)⟩
        go_upto_region 6 with fail
        refine wp_region_gate (fun w' => w'.cell? ⟨R, 8, none⟩ = some (.slice x j c) ∧ w'.rangeAt w.heap.size 0 PC) 10 (by kernel_rfl) ?_
        have hS : (fun w' : World => w'.cell? ⟨R, 8, none⟩ = some (.slice x j c) ∧ w'.rangeAt w.heap.size 0 PC) wr.drew := ⟨c8, hD.wholeM⟩
        refine wpAnyG_any (i := 0) (v := ?_) rfl (by kernel_rfl) (by kernel_rfl) (by kernel_rfl) (fun _ _ _ h => h) (by kernel_rfl) (fun _ => hS) (by kernel_rfl) ?_ ?_
        rotate_left
        · intro _; go_simp; try with_reducible rfl
        simp only [Act.put, List.getElem_toArray, List.getElem_cons_succ, List.getElem_cons_zero, List.setIfInBounds_toArray, List.set_cons_zero, List.set_cons_succ]
        refine wpAnyG_any (i := 1) (v := ?_) rfl (by kernel_rfl) (by kernel_rfl) (by kernel_rfl) (fun _ _ _ h => h) (by kernel_rfl) (fun _ => hS) (by kernel_rfl) ?_ ?_
        rotate_left
        · intro _; go_simp; try with_reducible rfl
        simp only [Act.put, List.getElem_toArray, List.getElem_cons_succ, List.getElem_cons_zero, List.setIfInBounds_toArray, List.set_cons_zero, List.set_cons_succ]
        refine wpAnyG_any (i := 2) (v := ?_) rfl (by kernel_rfl) (by kernel_rfl) (by kernel_rfl) (fun _ _ _ h => h) (by kernel_rfl) (fun _ => hS) (by kernel_rfl) ?_ ?_
        rotate_left
        · intro _; go_simp; try with_reducible rfl
        simp only [Act.put, List.getElem_toArray, List.getElem_cons_succ, List.getElem_cons_zero, List.setIfInBounds_toArray, List.set_cons_zero, List.set_cons_succ]
        refine wpAnyG_any (i := 3) (v := ?_) rfl (by kernel_rfl) (by kernel_rfl) (by kernel_rfl) (fun _ _ _ h => h) (by kernel_rfl) (fun _ => hS) (by kernel_rfl) ?_ ?_
        rotate_left
        · intro _; go_simp; try with_reducible rfl
        simp only [Act.put, List.getElem_toArray, List.getElem_cons_succ, List.getElem_cons_zero, List.setIfInBounds_toArray, List.set_cons_zero, List.set_cons_succ]
        refine wpAnyG_read (i := 4) (v := ?_) rfl (by kernel_rfl) (by kernel_rfl) (by kernel_rfl) (fun _ _ _ h => h) (by kernel_rfl) (by kernel_rfl) (by kernel_rfl) hS (by kernel_rfl) ?_ ?_
        rotate_left
        · intro wx hSw; go_split_ands; go_simp; try with_reducible rfl
        simp only [Act.put, List.getElem_toArray, List.getElem_cons_succ, List.getElem_cons_zero, List.setIfInBounds_toArray, List.set_cons_zero, List.set_cons_succ]
        refine wpAnyG_load (i := 5) (dst := some 34) (ty := 49) (x := .tmp 3) (b := w.heap.size) (o := (0)) (cs := PC) (by kernel_rfl) (by kernel_rfl) (by kernel_rfl) (by kernel_rfl) (by kernel_rfl) (fun _ _ _ h => h) (by kernel_rfl) (by kernel_rfl) (by kernel_rfl) hS (by kernel_rfl) (fun _ h => h.2) uP rfl iP ?_
        simp only [Act.put, List.getElem_toArray, List.getElem_cons_succ, List.getElem_cons_zero, List.setIfInBounds_toArray, List.set_cons_zero, List.set_cons_succ]
        refine wpAnyG_one (i := 6) rfl (by kernel_rfl) (by kernel_rfl) (fun K hK => ?_)
        refine wp_bs1 46 49 _ rfl PC rfl Tryd.underlying46 infoProof (by decide) (by decide) hpl ?_
        have hR := HRR.out
        have hb6 : Below wr.heap.size wr (wr.drew.alloc (.cells PC.toArray 49)) := (Below.refl _ _).drew.alloc (Nat.le_refl _) _
        have hR6 := hR.far hb6
        have hD6 := hD.farM hb6
        have hn6 : CellsAt (wr.drew.alloc (.cells PC.toArray 49)) wr.heap.size 49 PC := CellsAt.new wr.drew _ _
        have hB6 := hB.trans (hb6.mono hB.size)
        have hs6 : (wr.drew.alloc (.cells PC.toArray 49)).heap.size = wr.heap.size + 1 := by simp
        replace hS : (fun w' : World => w'.cell? ⟨R, 8, none⟩ = some (.slice x j c) ∧ w'.rangeAt w.heap.size 0 PC) (wr.drew.alloc (.cells PC.toArray 49)) := ⟨by rw [hR6.cellP, HV.out], hD6.wholeM⟩
        refine hK.out _ _ (fun _ => hS) ?_
        clear hK K
        try simp only [Act.put, List.getElem_toArray, List.getElem_cons_succ, List.getElem_cons_zero, List.setIfInBounds_toArray, List.set_cons_zero, List.set_cons_succ]
        refine wpAnyG_one (i := 7) rfl (by kernel_rfl) (by kernel_rfl) (fun K hK => ?_)
        obtain ⟨v3, W3, hr3, hv3, hg3, hw3⟩ := hR6.own.app (P := Tryd.prog) 46 46 Tryd.underlying46 infoProof (by rfl) (by decide) PC hpl h1P wr.heap.size hn6.wholeM (by rw [List.length_map]; have := hR.lenP; omega) (by decide) (by rw [hs6]; have := hB.size; omega)
        rw [hs6] at hw3
        refine wpx_app _ _ 46 46 rfl _ _ _ _ (by rw [HV.out]; rfl) rfl hr3 ?_
        have hDl : w.heap.size < wr.heap.size := hD.lt
        have HIN : Veil (∀ k, refB R us vp k → k < w.heap.size) := ⟨fun k hk => by
          have := (HR.out w (Below.refl _ _)).inside k hk; exact this.1⟩
        have hk3 : ∀ k, k < wr.heap.size → vp.ownBlock ≠ some k → W3.heap[k]? = wr.heap[k]? := fun k hk hn => (hg3.block k (by rw [hs6]; omega) (fun e => hn e.symm)).trans (Below.heap_alloc wr.drew _ k hk)
        have hNV := hR.neV
        have hbox3 : CellsAt W3 R 81 (us ++ [vp]) := hR.box.congr (hk3 R hR.box.lt (fun e => hNV R e rfl))
        have hU3 : ∀ a (h : a < us.length), OwnI W3 base 34 32 us[a] ((T a).map keyC) := fun a h => (hR.sums a h).congr fun k hk => hk3 k ((hR.sums a h).blockLt k hk).1 (hR.neU a h k hk).2
        have hUR : ∀ a (h : a < us.length) k, us[a].ownBlock = some k → k ≠ R := fun a h k hk => (hR.neU a h k hk).1
        have hT3 : Turn (refP R vp) w W3 := ⟨hg3.os.trans hB6.os, hg3.tape.trans hB6.tape, hg3.output.trans hB6.output, Nat.le_trans hB6.size hg3.size, fun k hk hn => (hg3.block k (Nat.lt_of_lt_of_le hk hB6.size) (fun e => hn (.inr e.symm))).trans (hB6.block k hk)⟩
        have hD3 : CellsAt W3 w.heap.size 49 PC := hD.congr (hk3 _ hDl (fun e => by have := HIN.out _ (.inr (.inl e)); omega))
        replace hS : (fun w' : World => w'.cell? ⟨R, 8, none⟩ = some (.slice x j c) ∧ w'.rangeAt w.heap.size 0 PC) W3 := ⟨by
          have h8 := hR.us8
          rw [hbox3.cell, List.getElem?_append_right (by omega), h8, ← HV.out]; rfl, hD3.wholeM⟩
        have HOKP : Veil ((∀ q ∈ P ++ [p], okP q) ∧ (P ++ [p]).length ≤ 32 ∧ us.length = 8 ∧ base ≤ R) := ⟨fun q hq => by
          rcases List.mem_append.1 hq with h | h
          · exact hR.okP q h
          · rw [List.mem_singleton.1 h]; exact hp, by rw [List.length_append, HN.out]; simp; omega, hR.us8, hR.baseR⟩
        rw [show P.map proofC ++ [PC] = (P ++ [p]).map proofC by rw [List.map_append, ← HPC.out]; rfl] at hv3
        refine hK.out _ _ (fun _ => hS) ?_
        clear hK K
        try simp only [Act.put, List.getElem_toArray, List.getElem_cons_succ, List.getElem_cons_zero, List.setIfInBounds_toArray, List.set_cons_zero, List.set_cons_succ]
        refine wpAnyG_any (i := 8) (v := ?_) rfl (by kernel_rfl) (by kernel_rfl) (by kernel_rfl) (fun _ _ _ h => h) (by kernel_rfl) (fun _ => hS) (by kernel_rfl) ?_ ?_
        rotate_left
        · intro _; go_simp; try with_reducible rfl
        simp only [Act.put, List.getElem_toArray, List.getElem_cons_succ, List.getElem_cons_zero, List.setIfInBounds_toArray, List.set_cons_zero, List.set_cons_succ]
        refine wpAnyG_any (i := 9) (v := ?_) rfl (by kernel_rfl) (by kernel_rfl) (by kernel_rfl) (fun _ _ _ h => h) (by kernel_rfl) (fun _ => hS) (by kernel_rfl) ?_ ?_
        rotate_left
        · intro _; go_simp; try with_reducible rfl
        simp only [Act.put, List.getElem_toArray, List.getElem_cons_succ, List.getElem_cons_zero, List.setIfInBounds_toArray, List.set_cons_zero, List.set_cons_succ]
        refine wpAnyG_one (i := 10) rfl (by kernel_rfl) (by kernel_rfl) (fun K hK => ?_)
        have c3 := hS.1
        have f3 := hbox3.frozen 8
        have HV3 : Veil (OwnI W3 base 49 66 v3 ((P ++ [p]).map proofC)) := ⟨hv3⟩
        have HW3 : Veil (v3.ownBlock = vp.ownBlock ∨ v3.ownBlock = some (wr.heap.size + 1)) := ⟨hw3⟩
        have HALL : Veil (CellsAt W3 R 81 (us ++ [vp]) ∧ (∀ a (h : a < us.length), OwnI W3 base 34 32 us[a] ((T a).map keyC)) ∧ Turn (refP R vp) w W3 ∧ (∀ a (h : a < us.length) k, us[a].ownBlock = some k → k ≠ R) ∧ (∀ k, vp.ownBlock = some k → k ≠ R) ∧ R < w.heap.size) := ⟨hbox3, hU3, hT3, hUR, hNV, HIN.out R (.inl rfl)⟩
        obtain ⟨x3, q3, hx3⟩ := hv3.isSlice
        clear hv3 hw3 hg3 hr3 hR hD hD6 hR6 hn6 hb6 hB6 hs6 hk3 hD3 c8 hU3 hT3 hUR hNV
        generalize ((P ++ [p]).map proofC).length = m3 at hx3
        subst hx3
        go_simp
        refine hK.out _ _ (fun h => absurd (show true = false from h) (by decide)) ?_
        clear hK K
        try simp only [Act.put, List.getElem_toArray, List.getElem_cons_succ, List.getElem_cons_zero, List.setIfInBounds_toArray, List.set_cons_zero, List.set_cons_succ]
        refine wpAnyG_done (by kernel_rfl) ?_ _
        have hBs := hB.size
        clear hS c3 f3 hbox3
        go_wp2
        go_end0
        obtain ⟨hbox3, hU3, hT3, hUR, hNV, hRl⟩ := HALL.out
        refine ⟨⟨_, rfl⟩, .slice x3 m3 q3, ⟨?_, HOKP.out.2.2.1, ?_, ?_, hok, ?_, ?_, HOKP.out.2.2.2⟩, ?_, ?_⟩
        · have := hbox3.set 8 (.slice x3 m3 q3)
          rw [List.set_append_right _ _ (by rw [HOKP.out.2.2.1]; omega), HOKP.out.2.2.1] at this
          exact this
        · exact fun a h => (hU3 a h).congr fun k hk => Below.heap_setCell W3 _ _ k (by show k ≠ R; exact hUR a h k hk)
        · rw [HNP.out]
          refine HV3.out.congr fun k hk => Below.heap_setCell W3 _ _ k ?_
          show k ≠ R
          intro e
          subst e
          rcases HW3.out with h | h
          · rw [h] at hk; exact hNV k hk rfl
          · rw [h] at hk; cases hk; omega
        · rw [HNP.out]; exact HOKP.out.1
        · rw [HNP.out]; exact HOKP.out.2.1
        · exact hT3.trans (Turn.of_setCell W3 (a := ⟨R, 8, none⟩) (.inl rfl) _)
        · rcases HW3.out with h | h
          · exact .inl h
          · exact .inr ⟨_, h, by omega⟩
end
end Go.Proofs.YtgcidamdbidgiaaDoor
