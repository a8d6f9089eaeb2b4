/- 'each', 'fill', 'pass', 'tag', 'Hmac': the tag of parts under a key. A key that fills a block. -/
import Derived.Test.YtlalcnmcnkompaaDoorMMac1Mac2
namespace Go.Proofs.YtlalcnmcnkompaaDoor.S
open Go.RowKit
set_option maxRecDepth 20000

/-- Bytes that are one of the parts: where their slice says, and what they are. -/
structure Part where
  x : Option Addr
  len : Nat
  cap : Nat
  z : List Int

/-- The parts lie in a row of slices in block pb, and stay so wherever nothing below base turns. -/
def PartsAt (w : World) (base pb : Nat) (ps : List Part) : Prop :=
  ∀ w', Below base w w' → ∀ j (hj : j < ps.length), w'.cell? ⟨pb, j, none⟩ = some (.slice ps[j].x ps[j].len ps[j].cap) ∧ Bytes w' ps[j].x ps[j].len ps[j].cap ps[j].z
def allOf (ps : List Part) : List Int := ps.flatMap (·.z)
theorem allOf_snoc (ps : List Part) (k : Nat) (h : k < ps.length) : allOf (ps.take (k + 1)) = allOf (ps.take k) ++ ps[k].z := by
  unfold allOf
  rw [List.take_succ_eq_append_getElem h, List.flatMap_append]
  simp

theorem each_any (H base pb n cap : Nat) (v : Value) (zs : List Int) (ps : List Part) (w : World) (hbox : Box w H 137 v) (hown : OwnB w base v zs) (hH : base ≤ H) (hps : PartsAt w base pb ps) (hn : n = ps.length) (hn2 : n ≤ 1000)
    (hlen : ∀ k, k ≤ ps.length → zs.length + (allOf (ps.take k)).length ≤ 1000000) (hlen2 : ∀ p ∈ ps, p.len ≤ 1000000) :
    Calls Tryd.prog 71 #[.func (.func 72) #[.pointer (some ⟨H, 0, none⟩)] #[], .slice (some ⟨pb, 0, none⟩) n cap] w fun e w' => (∃ r, e = .returned r) ∧ ∃ v', Box w' H 137 v' ∧ OwnB w' base v' (zs ++ allOf ps) ∧ Below base w w' := by
  have HN : Hid (n = ps.length) := hn
  clear hn
  go_enter Tryd.func71, Tryd.ntmps71
  go_wp2_with fail
  go_loopw [8] (fun i wr => ∃ k : Nat, k ≤ n ∧ i = .int .i64 k ∧ Below base w wr ∧ ∃ v, Box wr H 137 v ∧ OwnB wr base v (zs ++ allOf (ps.take k))) (fun i _ => n - (intOf i).toNat)
  case atStart => exact ⟨0, by omega, rfl, Below.refl _ _, v, hbox, by simpa [allOf] using hown⟩
  case round =>
    obtain ⟨k, hk, rfl, hB, v1, hb1, ho1⟩ := hrel
    by_cases hlt : k < n
    · have hkp : k < ps.length := by have := HN.out; omega
      obtain ⟨hc, hy⟩ := hps wr hB k hkp
      have hl1 := hlen k (by omega)
      have hl2 := hlen2 ps[k] (List.getElem_mem hkp)
      have tk := take_any H base v1 (zs ++ allOf (ps.take k)) ps[k].x ps[k].len ps[k].cap ps[k].z wr hb1 ho1 hy (by rw [List.length_append]; omega) hH
      have hsn := allOf_snoc ps k hkp
      rw [List.append_assoc, ← hsn] at tk
      obtain ⟨X, hX⟩ : ∃ X, ps[k].x = X := ⟨_, rfl⟩
      obtain ⟨L, hL⟩ : ∃ X, ps[k].len = X := ⟨_, rfl⟩
      obtain ⟨C, hC⟩ : ∃ X, ps[k].cap = X := ⟨_, rfl⟩
      rw [hX, hL, hC] at hc tk
      clear hX hL hC hsn hl1 hl2 hy hlen hlen2
      go_wp2_with (go_at_call 72; refine tk.mono ?_; rintro e w2 ⟨⟨r, rfl⟩, v2, hb2, ho2, hB2⟩)
      go_roundw
      case rel =>
        first
          | exact ⟨k + 1, by omega, by go_num, hB.trans hB2, v2, hb2, ho2⟩
          | ((repeat apply Exists.intro); exact ⟨⟨k + 1, by omega, by go_num, hB.trans hB2, v2, hb2, ho2⟩, rfl⟩)
      case measure => simp [intOf]; omega
    · obtain rfl : k = n := by omega
      go_wp2
      go_end0
      rw [List.take_of_length_le (by have := HN.out; omega)] at ho1
      exact ⟨⟨_, rfl⟩, v1, hb1, ho1, hB⟩

/-- A key that fills a block: its digest where it is longer; noughts behind. -/
def fillL (k : List Int) : List Int := (if 64 < k.length then sumL k else k) ++ List.replicate (64 - (if 64 < k.length then sumL k else k).length) 0
theorem fillL_length (k : List Int) : (fillL k).length = 64 := by
  unfold fillL
  by_cases h : 64 < k.length
  · rw [if_pos h, List.length_append, sumL_length, List.length_replicate]
  · rw [if_neg h, List.length_append, List.length_replicate]; omega
end Go.Proofs.YtlalcnmcnkompaaDoor.S

namespace Go.Proofs.YtlalcnmcnkompaaDoor.S
open Go.RowKit
set_option maxRecDepth 20000
set_option linter.unusedSimpArgs false

/-- A fact that no tactic looks into till it is opened (a structure: nothing unfolds it). -/
structure VeilM (p : Prop) : Prop where
  out : p

set_option maxHeartbeats 1000000 in
theorem fill_any (x : Option Addr) (len cap : Nat) (z : List Int) (w : World) (hb : Bytes w x len cap z) (hln : len ≤ 1000000) (hk : KTab w) :
    Calls Tryd.prog 52 #[.slice x len cap] w fun e w' => e = .returned (.agg (row .u8 (fillL z))) ∧ Below w.heap.size w w' := by
  have hz := hb.len_eq
  have hfl := fillL_length z
  by_cases h64 : 64 < len
  · have hs : ∀ wx, Below w.heap.size w wx → Calls Tryd.prog 70 #[.slice x len cap] wx fun e w' => e = .returned (.agg (row .u8 (sumL z))) ∧ Below wx.heap.size wx w' := fun wx hx => sum_any x len cap z wx (hb.below hx) hln (hk.below hx)
    have hdl := sumL_length z
    have hff : fillL z = sumL z ++ List.replicate (64 - (sumL z).length) 0 := by unfold fillL; rw [if_pos (by omega)]
    obtain ⟨D, hD⟩ : ∃ D, sumL z = D := ⟨_, rfl⟩
    obtain ⟨FL, hFL⟩ : ∃ D, fillL z = D := ⟨_, rfl⟩
    rw [hD] at hs hdl hff
    rw [hFL] at hff hfl
    have HF : VeilM (FL = D ++ List.replicate (64 - D.length) 0) := ⟨hff⟩
    have HFL : VeilM (fillL z = FL) := ⟨hFL⟩
    clear hff hFL hD hz
    have h64i : (64 : Int) < (len : Int) := by omega
    go_enter Tryd.func52, Tryd.ntmps52
    go_upto_region 1 with fail
    refine forget (p := fun y => Code.wp _ _ _ _ y) (fun W0 => Below w.heap.size w W0 ∧ W0.heap.size = w.heap.size + 1 ∧ Holds W0 w.heap.size .u8 102 (List.replicate 64 0)) ⟨(Below.refl _ _).alloc (Nat.le_refl _) _, by simp, Holds.new w .u8 102 (List.replicate 64 0)⟩ ?_
    rintro W0 ⟨hB0, hs0, hR0⟩
    go_upto_region 4 with (first
      | (go_at_call 70; refine (hs _ hB0).mono ?_; rintro e w1 ⟨rfl, hb1⟩; have hN1 := Holds.new w1 .u8 23 (List.replicate 32 0))
      | (refine wpList_st rfl 23 _ _ rfl _ rfl rfl hN1 (by rw [hdl]; exact sizeKey) (by simp [hdl]) ?_))
    have hsz1 := hb1.size
    refine forget (p := fun y => Code.wp _ _ _ _ y) (fun W1 => Below w.heap.size w W1 ∧ w.heap.size + 1 ≤ W1.heap.size ∧ Holds W1 w.heap.size .u8 102 (List.replicate 64 0) ∧ Bytes W1 (some ⟨w1.heap.size, 0, none⟩) 32 32 D) ⟨below_setRow ((hB0.trans (hb1.mono hB0.size)).alloc (by omega) _) (by omega) _, by simp; omega, ((hR0.below hb1 (by omega)).alloc _).setRowOther _ (by omega), (hN1.setRow D).bytes hdl.symm (by omega)⟩ ?_
    clear hN1 hB0 hs0 hR0 hb1 hs hk hb
    rintro W1 ⟨hB1, hs1, hR1, hY1⟩
    have hK0 := Holds.new W1 .u8 102 (List.replicate 64 0)
    go_upto_region 5 with fail
    refine forget (p := fun y => Code.wp _ _ _ _ y) (fun W3 => Below w.heap.size w W3 ∧ Holds W3 w.heap.size .u8 102 (List.replicate 64 0) ∧ Holds W3 W1.heap.size .u8 102 (List.replicate 64 0) ∧ Bytes W3 (some ⟨w1.heap.size, 0, none⟩) 32 32 D) ⟨hB1.alloc hB1.size _, hR1.alloc _, hK0, hY1.below ((Below.refl _ _).alloc (Nat.le_refl _) _)⟩ ?_
    have hgK := hB1.size
    clear hB1 hR1 hK0 hY1
    rintro W3 ⟨hB1, hR1, hK0, hY1⟩
    have hcp := run_copy_bytes W3 W1.heap.size 64 (some ⟨w1.heap.size, 0, none⟩) 32 32 D hY1 hK0 (by omega)
    rw [← HF.out] at hcp
    go_upto_region 6 with fail
    refine forget (p := fun y => Code.wp _ _ _ _ y) (fun W2 => Below w.heap.size w W2 ∧ Holds W2 w.heap.size .u8 102 (List.replicate 64 0) ∧ Holds W2 W1.heap.size .u8 102 FL) ⟨below_setRow hB1 hgK _, hR1.setRowOther _ (by omega), hK0.setRow _⟩ ?_
    clear hcp hK0 hB1 hR1 hY1
    rintro W2 ⟨hB2, hR2, hK2⟩
    go_wp2_with (first
      | (refine wpList_ld rfl 102 _ rfl _ rfl hK2 Tryd.underlying102 sizeFk hfl ?_)
      | (refine wpList_st rfl 102 _ _ rfl _ rfl rfl hR2 (by rw [hfl]; exact sizeFk) (by simp [hfl]) ?_))
    refine bodyPost_ret (results_holds (Tryd.results52) _ rfl (hR2.setRow _) Tryd.underlying102 sizeFk hfl) rfl ⟨by rw [HFL.out], ?_⟩
    exact below_setRow hB2 (Nat.le_refl _) _
  · have hff : fillL z = z ++ List.replicate (64 - z.length) 0 := by unfold fillL; rw [if_neg (by omega)]
    obtain ⟨FL, hFL⟩ : ∃ D, fillL z = D := ⟨_, rfl⟩
    rw [hFL] at hff hfl
    have HF : VeilM (FL = z ++ List.replicate (64 - z.length) 0) := ⟨hff⟩
    have HFL : VeilM (fillL z = FL) := ⟨hFL⟩
    clear hff hFL hz hk
    have h64i : ¬ ((64 : Int) < (len : Int)) := by omega
    have hl64 : len ≤ 64 := by omega
    go_enter Tryd.func52, Tryd.ntmps52
    go_upto_region 4 with fail
    refine forget (p := fun y => Code.wp _ _ _ _ y) (fun W1 => Below w.heap.size w W1 ∧ w.heap.size + 1 ≤ W1.heap.size ∧ Holds W1 w.heap.size .u8 102 (List.replicate 64 0) ∧ Bytes W1 x len cap z) ⟨(Below.refl _ _).alloc (Nat.le_refl _) _, by simp, Holds.new w .u8 102 (List.replicate 64 0), hb.below ((Below.refl _ _).alloc (Nat.le_refl _) _)⟩ ?_
    clear hb
    rintro W1 ⟨hB1, hs1, hR1, hY1⟩
    have hK0 := Holds.new W1 .u8 102 (List.replicate 64 0)
    go_upto_region 5 with fail
    refine forget (p := fun y => Code.wp _ _ _ _ y) (fun W3 => Below w.heap.size w W3 ∧ Holds W3 w.heap.size .u8 102 (List.replicate 64 0) ∧ Holds W3 W1.heap.size .u8 102 (List.replicate 64 0) ∧ Bytes W3 x len cap z) ⟨hB1.alloc hB1.size _, hR1.alloc _, hK0, hY1.below ((Below.refl _ _).alloc (Nat.le_refl _) _)⟩ ?_
    have hgK := hB1.size
    clear hB1 hR1 hK0 hY1
    rintro W3 ⟨hB1, hR1, hK0, hY1⟩
    have hcp := run_copy_bytes W3 W1.heap.size 64 x len cap z hY1 hK0 hl64
    rw [← HF.out] at hcp
    go_upto_region 6 with fail
    refine forget (p := fun y => Code.wp _ _ _ _ y) (fun W2 => Below w.heap.size w W2 ∧ Holds W2 w.heap.size .u8 102 (List.replicate 64 0) ∧ Holds W2 W1.heap.size .u8 102 FL) ⟨below_setRow hB1 hgK _, hR1.setRowOther _ (by omega), hK0.setRow _⟩ ?_
    clear hcp hK0 hB1 hR1 hY1
    rintro W2 ⟨hB2, hR2, hK2⟩
    go_wp2_with (first
      | (refine wpList_ld rfl 102 _ rfl _ rfl hK2 Tryd.underlying102 sizeFk hfl ?_)
      | (refine wpList_st rfl 102 _ _ rfl _ rfl rfl hR2 (by rw [hfl]; exact sizeFk) (by simp [hfl]) ?_))
    refine bodyPost_ret (results_holds (Tryd.results52) _ rfl (hR2.setRow _) Tryd.underlying102 sizeFk hfl) rfl ⟨by rw [HFL.out], ?_⟩
    exact below_setRow hB2 (Nat.le_refl _) _
end Go.Proofs.YtlalcnmcnkompaaDoor.S
