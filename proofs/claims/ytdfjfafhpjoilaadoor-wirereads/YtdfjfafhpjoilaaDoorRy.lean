/- The readers of wire: a body. -/
import Derived.Test.YtdfjfafhpjoilaaDoorRx
namespace Go.Proofs.YtdfjfafhpjoilaaDoor
open Go.RowKit
set_option maxRecDepth 20000
set_option linter.unusedSimpArgs false

def told2 (z : List Int) (o : Nat) : Nat := (val2 (at1 z o) (at1 z (o + 1))).toNat
def bodyCond (z : List Int) (o : Nat) : Prop := o + 2 ≤ z.length ∧ told2 z o ≤ 4112 ∧ o + 2 + told2 z o ≤ z.length
set_option maxHeartbeats 4000000 in
theorem rbody_at (R base : Nat) (z : List Int) (o : Nat) (w : World) (hR : Rd w R base (z.drop o)) (hz : ∀ v ∈ z, b8 v) :
    Calls Tryd.prog 27 #[.pointer (some ⟨R, 0, none⟩)] w fun e w' =>
      (bodyCond z o ∧ ∃ v, e = .returned v ∧ OwnB w' w.heap.size v ((z.drop (o + 2)).take (told2 z o)) ∧ Rd w' R base (z.drop (o + 2 + told2 z o)) ∧ Took w w' R base) ∨ (¬ bodyCond z o ∧ e = .panicked [wrongP] ∧ Took w w' R base) := by
  have hlt := hR.lt
  have ha := b8_get hz o
  have hb := b8_get hz (o + 1)
  have h2 := rtwo_any R base (z.drop o) w hR (fun v hv => hz v (List.mem_of_mem_drop hv))
  rw [drop_at, drop_at, List.drop_drop] at h2
  have hv : val2 (z[o + 0]?.getD 0) (z[o + 1]?.getD 0) = ((told2 z o : Nat) : Int) := by
    unfold told2 val2 at1
    rw [Nat.add_zero]
    have e1 : 0 ≤ z[o]?.getD 0 := ha.1
    have e2 : 0 ≤ z[o + 1]?.getD 0 := hb.1
    omega
  rw [hv] at h2
  have HC : Veil (bodyCond z o ↔ (o + 2 ≤ z.length ∧ told2 z o ≤ 4112 ∧ o + 2 + told2 z o ≤ z.length)) := ⟨Iff.rfl⟩
  obtain ⟨CO, hCO⟩ : ∃ q, bodyCond z o = q := ⟨_, rfl⟩
  rw [hCO] at HC ⊢
  have ht := fun (n : Nat) wx (h : Rd wx R base (z.drop (o + 2))) => take_any R base (z.drop (o + 2)) n wx h
  obtain ⟨n, hn⟩ : ∃ q, told2 z o = q := ⟨_, rfl⟩
  rw [hn] at h2 HC ⊢
  have HL0 : Veil ((z.drop o).length = z.length - o) := ⟨List.length_drop⟩
  have HL : Veil ((z.drop (o + 2)).length = z.length - (o + 2)) := ⟨List.length_drop⟩
  have HD : Veil ((z.drop (o + 2)).drop n = z.drop (o + 2 + n)) := ⟨by rw [List.drop_drop]⟩
  have hcl := fun (x : Option Addr) wx (h : Bytes wx x n n ((z.drop (o + 2)).take n)) (hl : n ≤ 1000000) => clone_any x n n ((z.drop (o + 2)).take n) wx h hl
  obtain ⟨B, hB⟩ : ∃ q, (z.drop (o + 2)).take n = q := ⟨_, rfl⟩
  have htn := fun wx h => ht n wx h
  rw [hB] at hcl htn ⊢
  clear ht hn hCO hv ha hb hz hB hR
  go_enter Tryd.func27, Tryd.ntmps27
  by_cases k0 : o + 2 ≤ z.length
  rotate_left
  · have k0' : (z.drop o).length < 2 := by rw [HL0.out]; omega
    go_upto_region 2 with (go_at_call 35; refine h2.mono ?_; rintro e wB (⟨hx, _⟩ | ⟨_, rfl, htB⟩); (exfalso; omega))
    exact bodyPost_gone (.inr ⟨fun h => k0 (HC.out.1 h).1, rfl, htB⟩)
  have k0' : 2 ≤ (z.drop o).length := by rw [HL0.out]; omega
  go_upto_region 2 with (go_at_call 35; refine h2.mono ?_; rintro e w1 (⟨_, rfl, hR1, ht1⟩ | ⟨hx, _⟩); rotate_left; (exfalso; omega))
  clear h2 k0'
  by_cases k1 : n ≤ 4112
  rotate_left
  · have hnb : ¬ (n : Int) ≤ 4112 := by omega
    have hnd := need_bad w1
    go_upto_region 3 with (go_at_call 21; refine hnd.mono ?_; rintro e w2 ⟨rfl, rfl⟩)
    exact bodyPost_gone (.inr ⟨fun h => k1 (HC.out.1 h).2.1, rfl, ht1⟩)
  have hnb : (n : Int) ≤ 4112 := by omega
  have hnd := need_ok w1
  go_upto_region 3 with (go_at_call 21; refine hnd.mono ?_; rintro e w2 ⟨⟨r2, rfl⟩, rfl⟩)
  have h3 := htn w1 hR1
  clear hnd htn hnb
  by_cases k2 : o + 2 + n ≤ z.length
  rotate_left
  · have k2' : (z.drop (o + 2)).length < n := by rw [HL.out]; omega
    go_wp2_with (go_at_call 33; refine h3.mono ?_; rintro e wB (⟨hx, _⟩ | ⟨_, rfl, htB⟩); (exfalso; omega))
    exact bodyPost_gone (.inr ⟨fun h => k2 (HC.out.1 h).2.2, rfl, ht1.trans htB⟩)
  have k2' : n ≤ (z.drop (o + 2)).length := by rw [HL.out]; omega
  go_wp2_with (first
    | (go_at_call 33; refine h3.mono ?_; rintro e w2 (⟨_, x, rfl, hy, hR2, ht2⟩ | ⟨hx, _⟩); rotate_left; (exfalso; omega); have hc2 := hcl x w2 (hy _ (Below.refl _ _)) (by omega))
    | (go_at_call 36; refine hc2.mono ?_; rintro e w3 ⟨v3, rfl, ho3, hb3⟩))
  have ht12 := ht1.trans ht2
  have hR3 := hR2.afar hb3
  have ht3 := ht12.trans (Took.afar hR2.size hb3)
  rw [HD.out] at hR3
  go_ret
  exact .inl ⟨HC.out.2 ⟨k0, k1, k2⟩, _, rfl, ho3.lessG ht12.more, hR3, ht3⟩
end Go.Proofs.YtdfjfafhpjoilaaDoor
