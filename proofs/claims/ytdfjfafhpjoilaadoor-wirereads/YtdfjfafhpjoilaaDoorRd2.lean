/- The readers of wire: numbers. -/
import Derived.Test.YtdfjfafhpjoilaaDoorRd1
namespace Go.Proofs.YtdfjfafhpjoilaaDoor
open Go.RowKit
set_option maxRecDepth 20000
set_option linter.unusedSimpArgs false

abbrev b8 (x : Int) : Prop := 0 ≤ x ∧ x ≤ 255
theorem or_i64 (a b : Nat) (ha : a < 65536) (hb : b < 256) : bits .or .i64 ((a * 256 : Nat) : Int) (b : Int) = ((a * 256 + b : Nat) : Int) := by
  have h1 : (BitVec.ofInt 64 ((a * 256 : Nat) : Int)).toNat = a * 256 := by
    rw [BitVec.ofInt_natCast, BitVec.toNat_ofNat]; exact Nat.mod_eq_of_lt (by omega)
  have h2 : (BitVec.ofInt 64 (b : Int)).toNat = b := by
    rw [BitVec.ofInt_natCast, BitVec.toNat_ofNat]; exact Nat.mod_eq_of_lt (by omega)
  have h3 : a * 256 ||| b = a * 256 + b := by
    have := Nat.two_pow_add_eq_or_of_lt (i := 8) (b := b) (by omega) a
    rw [Nat.mul_comm] at this
    exact this.symm
  show IntKind.i64.wrap ((BitVec.ofInt 64 ((a * 256 : Nat) : Int) ||| BitVec.ofInt 64 (b : Int)).toNat : Int) = _
  rw [BitVec.toNat_or, h1, h2, h3, IntKind.wrap_i64]
  omega
theorem or_u32 (a b i m : Nat) (hm : 2 ^ i = m) (ha : a * m < 4294967296) (hi : m ≤ 4294967296) (hb : b < m) : bits .or .u32 ((a * m : Nat) : Int) (b : Int) = ((a * m + b : Nat) : Int) := by
  have h3 : a * m ||| b = a * m + b := by
    have := Nat.two_pow_add_eq_or_of_lt (i := i) (b := b) (by omega) a
    rw [hm, Nat.mul_comm] at this
    exact this.symm
  have hx : a * m ||| b < 2 ^ 32 := Nat.or_lt_two_pow (by omega) (by omega)
  have h1 : (BitVec.ofInt 32 ((a * m : Nat) : Int)).toNat = a * m := by
    rw [BitVec.ofInt_natCast, BitVec.toNat_ofNat]; exact Nat.mod_eq_of_lt (by omega)
  have h2 : (BitVec.ofInt 32 (b : Int)).toNat = b := by
    rw [BitVec.ofInt_natCast, BitVec.toNat_ofNat]; exact Nat.mod_eq_of_lt (by omega)
  show IntKind.u32.wrap ((BitVec.ofInt 32 ((a * m : Nat) : Int) ||| BitVec.ofInt 32 (b : Int)).toNat : Int) = _
  rw [BitVec.toNat_or, h1, h2]
  rw [h3] at hx ⊢
  rw [IntKind.wrap_u32]
  omega
def val2 (a b : Int) : Int := a * 256 + b
def val4 (a b c d : Int) : Int := a * 16777216 + b * 65536 + c * 256 + d
theorem val2_or (a b : Int) (ha : b8 a) (hb : b8 b) : bits .or .i64 (a * 256) b = val2 a b := by
  have := or_i64 a.toNat b.toNat (by omega) (by omega)
  have e1 : ((a.toNat * 256 : Nat) : Int) = a * 256 := by omega
  have e2 : (b.toNat : Int) = b := by omega
  rw [e1, e2] at this
  rw [this]; unfold val2; omega
theorem val4_f1 (p q : Nat) : p * 16777216 + q * 65536 = (p * 256 + q) * 65536 := by rw [Nat.add_mul, Nat.mul_assoc]
theorem val4_f2 (p q r : Nat) : (p * 256 + q) * 65536 + r * 256 = ((p * 256 + q) * 256 + r) * 256 := by rw [Nat.add_mul _ r, Nat.mul_assoc]
theorem val4_or (a b c d : Int) (ha : b8 a) (hb : b8 b) (hc : b8 c) (hd : b8 d) : bits .or .u32 (bits .or .u32 (bits .or .u32 (a * 16777216) (b * 65536)) (c * 256)) d = val4 a b c d := by
  obtain ⟨p, rfl⟩ : ∃ n : Nat, a = n := ⟨a.toNat, by omega⟩
  obtain ⟨q, rfl⟩ : ∃ n : Nat, b = n := ⟨b.toNat, by omega⟩
  obtain ⟨r, rfl⟩ : ∃ n : Nat, c = n := ⟨c.toNat, by omega⟩
  obtain ⟨t, rfl⟩ : ∃ n : Nat, d = n := ⟨d.toNat, by omega⟩
  have hp : p < 256 := by omega
  have hq : q < 256 := by omega
  have hr : r < 256 := by omega
  have ht : t < 256 := by omega
  clear ha hb hc hd
  have e1 : (p : Int) * 16777216 = ((p * 16777216 : Nat) : Int) := by rw [Int.natCast_mul]; rfl
  have e2 : (q : Int) * 65536 = ((q * 65536 : Nat) : Int) := by rw [Int.natCast_mul]; rfl
  have e3 : (r : Int) * 256 = ((r * 256 : Nat) : Int) := by rw [Int.natCast_mul]; rfl
  rw [e1, e2, e3, or_u32 p (q * 65536) 24 16777216 (by decide +kernel) (by omega) (by omega) (by omega), val4_f1, or_u32 (p * 256 + q) (r * 256) 16 65536 (by decide +kernel) (by omega) (by omega) (by omega), val4_f2, or_u32 ((p * 256 + q) * 256 + r) t 8 256 (by decide +kernel) (by omega) (by omega) (by omega)]
  unfold val4
  omega

/-- The first bytes of a reading, as cells. -/
theorem first_cells {w : World} {x : Option Addr} {k : Nat} {z : List Int} (h : Bytes w x k k (z.take k)) (h0 : 0 < k) : ∃ b off, x = some ⟨b, off, none⟩ ∧ ∀ j, j < k → w.cell? ⟨b, off + j, none⟩ = some (.int .u8 (z[j]?.getD 0)) := by
  rcases h.at_ with h1 | ⟨b, off, hx, hc⟩
  · omega
  · refine ⟨b, off, hx, fun j hj => ?_⟩
    have := hc j hj
    rw [List.getElem?_take_of_lt hj] at this
    exact this
theorem b8_get {z : List Int} (hz : ∀ v ∈ z, b8 v) (j : Nat) : b8 (z[j]?.getD 0) := by
  by_cases h : j < z.length
  · rw [List.getElem?_eq_getElem h]; exact hz _ (List.getElem_mem h)
  · rw [List.getElem?_eq_none (by omega)]; exact ⟨by decide, by decide⟩
set_option maxHeartbeats 2000000 in
theorem rtwo_any (R base : Nat) (z : List Int) (w : World) (hR : Rd w R base z) (hz : ∀ v ∈ z, b8 v) :
    Calls Tryd.prog 35 #[.pointer (some ⟨R, 0, none⟩)] w fun e w' =>
      (2 ≤ z.length ∧ e = .returned (.int .i64 (val2 (z[0]?.getD 0) (z[1]?.getD 0))) ∧ Rd w' R base (z.drop 2) ∧ Took w w' R base) ∨ (z.length < 2 ∧ e = .panicked [wrongP] ∧ Took w w' R base) := by
  have ht := take_any R base z 2 w hR
  have ha := b8_get hz 0
  have hb := b8_get hz 1
  have HV : Veil (bits .or .i64 ((z[0]?.getD 0) * 256) (z[1]?.getD 0) = val2 (z[0]?.getD 0) (z[1]?.getD 0)) := ⟨val2_or _ _ ha hb⟩
  have HF : Veil (∀ (w' : World) (x : Option Addr), 2 ≤ z.length → Bytes w' x 2 2 (z.take 2) → ∃ b off, x = some ⟨b, off, none⟩ ∧ ∀ j, j < 2 → w'.cell? ⟨b, off + j, none⟩ = some (.int .u8 (z[j]?.getD 0))) := ⟨fun w' x _ h' => first_cells h' (by omega)⟩
  clear hz
  obtain ⟨A, hA⟩ : ∃ q, z[0]?.getD 0 = q := ⟨_, rfl⟩
  obtain ⟨B, hB⟩ : ∃ q, z[1]?.getD 0 = q := ⟨_, rfl⟩
  have HA : Veil (z[0]?.getD 0 = A ∧ z[1]?.getD 0 = B) := ⟨hA, hB⟩
  rw [hA, hB] at HV ⊢
  rw [hA] at ha
  rw [hB] at hb
  have e1 : IntKind.i64.wrap A = A := by rw [IntKind.wrap_i64]; omega
  have e2 : IntKind.i64.wrap B = B := by rw [IntKind.wrap_i64]; omega
  have e3 : IntKind.i64.wrap (A * 256) = A * 256 := by rw [IntKind.wrap_i64]; omega
  clear hA hB hR
  go_enter Tryd.func35, Tryd.ntmps35
  go_upto_region 2 with (go_at_call 33; refine ht.mono ?_; rintro e w1 (⟨hk, x1, rfl, hy1, hR1, ht1⟩ | ⟨hk, rfl, ht1⟩))
  rotate_left
  · exact bodyPost_gone (.inr ⟨hk, rfl, ht1⟩)
  obtain ⟨b, off, rfl, hc⟩ := HF.out w1 x1 hk (hy1 w1 (Below.refl _ _))
  have c0 : w1.cell? ⟨b, off, none⟩ = some (.int .u8 A) := by have := hc 0 (by omega); rw [HA.out.1] at this; exact this
  have c1 : w1.cell? ⟨b, off + 1, none⟩ = some (.int .u8 B) := by have := hc 1 (by omega); rw [HA.out.2] at this; exact this
  clear hc hy1 ht
  refine wp_region_gate (fun w' => w'.cell? ⟨b, off, none⟩ = some (.int .u8 A) ∧ w'.cell? ⟨b, off + 1, none⟩ = some (.int .u8 B)) 10 (by kernel_rfl) ?_
  have hS : w1.drew.cell? ⟨b, off, none⟩ = some (.int .u8 A) ∧ w1.drew.cell? ⟨b, off + 1, none⟩ = some (.int .u8 B) := ⟨c0, c1⟩
  refine wpAnyG_any (i := 0) (v := ?_) rfl (by kernel_rfl) (by kernel_rfl) (by kernel_rfl) (fun _ _ _ h => h) (by kernel_rfl) (fun _ => hS) (by kernel_rfl) ?_ ?_
  rotate_left
  · intro _; go_simp; try with_reducible rfl
  simp only [Act.put, List.setIfInBounds_toArray, List.set_cons_zero, List.set_cons_succ]
  refine wpAnyG_any (i := 1) (v := ?_) rfl (by kernel_rfl) (by kernel_rfl) (by kernel_rfl) (fun _ _ _ h => h) (by kernel_rfl) (fun _ => hS) (by kernel_rfl) ?_ ?_
  rotate_left
  · intro _; go_simp; try with_reducible rfl
  simp only [Act.put, List.setIfInBounds_toArray, List.set_cons_zero, List.set_cons_succ]
  refine wpAnyG_read (i := 2) (v := ?_) rfl (by kernel_rfl) (by kernel_rfl) (by kernel_rfl) (fun _ _ _ h => h) (by kernel_rfl) (by kernel_rfl) (by kernel_rfl) hS (by kernel_rfl) ?_ ?_
  rotate_left
  · intro wx hSw; go_split_ands; go_simp; try with_reducible rfl
  simp only [Act.put, List.setIfInBounds_toArray, List.set_cons_zero, List.set_cons_succ]
  refine wpAnyG_any (i := 3) (v := ?_) rfl (by kernel_rfl) (by kernel_rfl) (by kernel_rfl) (fun _ _ _ h => h) (by kernel_rfl) (fun _ => hS) (by kernel_rfl) ?_ ?_
  rotate_left
  · intro _; go_simp; try with_reducible rfl
  simp only [Act.put, List.setIfInBounds_toArray, List.set_cons_zero, List.set_cons_succ]
  refine wpAnyG_any (i := 4) (v := ?_) rfl (by kernel_rfl) (by kernel_rfl) (by kernel_rfl) (fun _ _ _ h => h) (by kernel_rfl) (fun _ => hS) (by kernel_rfl) ?_ ?_
  rotate_left
  · intro _; go_simp; try with_reducible rfl
  simp only [Act.put, List.setIfInBounds_toArray, List.set_cons_zero, List.set_cons_succ]
  refine wpAnyG_any (i := 5) (v := ?_) rfl (by kernel_rfl) (by kernel_rfl) (by kernel_rfl) (fun _ _ _ h => h) (by kernel_rfl) (fun _ => hS) (by kernel_rfl) ?_ ?_
  rotate_left
  · intro _; go_simp; try with_reducible rfl
  simp only [Act.put, List.setIfInBounds_toArray, List.set_cons_zero, List.set_cons_succ]
  refine wpAnyG_any (i := 6) (v := ?_) rfl (by kernel_rfl) (by kernel_rfl) (by kernel_rfl) (fun _ _ _ h => h) (by kernel_rfl) (fun _ => hS) (by kernel_rfl) ?_ ?_
  rotate_left
  · intro _; go_simp; try with_reducible rfl
  simp only [Act.put, List.setIfInBounds_toArray, List.set_cons_zero, List.set_cons_succ]
  refine wpAnyG_read (i := 7) (v := ?_) rfl (by kernel_rfl) (by kernel_rfl) (by kernel_rfl) (fun _ _ _ h => h) (by kernel_rfl) (by kernel_rfl) (by kernel_rfl) hS (by kernel_rfl) ?_ ?_
  rotate_left
  · intro wx hSw; go_split_ands; go_simp; try with_reducible rfl
  simp only [Act.put, List.setIfInBounds_toArray, List.set_cons_zero, List.set_cons_succ]
  refine wpAnyG_any (i := 8) (v := ?_) rfl (by kernel_rfl) (by kernel_rfl) (by kernel_rfl) (fun _ _ _ h => h) (by kernel_rfl) (fun _ => hS) (by kernel_rfl) ?_ ?_
  rotate_left
  · intro _; go_simp; try with_reducible rfl
  simp only [Act.put, List.setIfInBounds_toArray, List.set_cons_zero, List.set_cons_succ]
  refine wpAnyG_any (i := 9) (v := ?_) rfl (by kernel_rfl) (by kernel_rfl) (by kernel_rfl) (fun _ _ _ h => h) (by kernel_rfl) (fun _ => hS) (by kernel_rfl) ?_ ?_
  rotate_left
  · intro _; go_simp; try with_reducible rfl
  simp only [Act.put, List.setIfInBounds_toArray, List.set_cons_zero, List.set_cons_succ]
  refine wpAnyG_one (i := 10) rfl (by kernel_rfl) (by kernel_rfl) (fun K hK => ?_)
  go_simp
  refine hK.out _ _ (fun h => absurd (show true = false from h) (by decide)) ?_
  clear hK K
  refine wpAnyG_done (by kernel_rfl) ?_ _
  go_wp2
  go_ret
  refine .inl ⟨hk, ?_, hR1.afar ((Below.refl _ _).drew), ht1.trans (Took.afar hR1.size ((Below.refl _ _).drew))⟩
  rw [← HV.out]
  rfl
end Go.Proofs.YtdfjfafhpjoilaaDoor
