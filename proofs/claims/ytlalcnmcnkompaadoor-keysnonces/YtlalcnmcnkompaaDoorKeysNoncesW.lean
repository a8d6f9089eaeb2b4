/- keys: nonces are what the document says; unlike numbers have unlike ones. -/
import Derived.Test.YtlalcnmcnkompaaDoorMKz1Kz2
namespace Go.Proofs.YtlalcnmcnkompaaDoor
open Go.RowKit
set_option maxRecDepth 20000
set_option linter.unusedSimpArgs false

theorem ret_bC {a b : Bool} (h : a = b) : Ending.returned (.bool a) = .returned (.bool b) := by rw [h]
theorem nonceL_inj (a b : Int) (ha : 0 ≤ a ∧ a ≤ 4294967295) (hb : 0 ≤ b ∧ b ≤ 4294967295) : (nonceL a == nonceL b) = (a == b) := by
  rw [Bool.eq_iff_iff]
  simp only [beq_iff_eq]
  constructor
  · intro h
    simp only [nonceL, bE4, List.cons_append, List.nil_append, List.cons.injEq, and_true, true_and] at h
    omega
  · rintro rfl; rfl
theorem nonce_eq (l m : List Int) (hl : l.length = 12) (hm : m.length = 12) (w : World) : (Op.equalIn 10000 52 (.agg (row .u8 l)) (.agg (row .u8 m))).run Tryd.prog w = .ok (l == m) w :=
  run_equalIn_rows w 9998 .u8 l m Tryd.underlying52 Tryd.underlying5 (by kernel_rfl) (by kernel_rfl) hl hm
set_option maxHeartbeats 2000000 in
theorem rnonce_any (n : Int) (w : World) :
    Calls Tryd.prog 23 #[.int .u32 n] w fun e w' => e = .returned (.agg (row .u8 (nonceL n))) ∧ Below w.heap.size w w' := by
  have e1 : IntKind.u8.wrap (n / 16777216) = n / 16777216 % 256 := by simp [IntKind.wrap, IntKind.bits, IntKind.signed]
  have e2 : IntKind.u8.wrap (n / 65536) = n / 65536 % 256 := by simp [IntKind.wrap, IntKind.bits, IntKind.signed]
  have e3 : IntKind.u8.wrap (n / 256) = n / 256 % 256 := by simp [IntKind.wrap, IntKind.bits, IntKind.signed]
  have e4 : IntKind.u8.wrap n = n % 256 := by simp [IntKind.wrap, IntKind.bits, IntKind.signed]
  go_enter Tryd.func23, Tryd.ntmps23
  go_wp2
  refine bodyPost_ret (results_holds (Tryd.results23) _ rfl (Holds.new w .u8 52 (nonceL n)) Tryd.underlying52 sizeNonceD rfl) rfl ⟨rfl, (Below.refl _ _).alloc (Nat.le_refl _) _⟩
set_option maxHeartbeats 2000000 in
theorem nonces_walk (a b : Int) (w : World) (ha : 0 ≤ a ∧ a ≤ 4294967295) (hb : 0 ≤ b ∧ b ≤ 4294967295) (hKT : S.KTab w) :
    Calls Tryd.prog 5 #[.int .u32 a, .int .u32 b] w fun e w' => e = .returned (.bool true) ∧ Below w.heap.size w w' := by
  have hlv := klive_any w hKT
  have HI : Veil ((nonceL a == nonceL b) = (a == b)) := ⟨nonceL_inj a b ha hb⟩
  have HNA : Veil (∀ W, Calls Tryd.prog 22 #[.int .u32 a] W fun e w' => e = .returned (.agg (row .u8 (nonceL a))) ∧ Below W.heap.size W w') := ⟨fun W => nonce_any a W⟩
  have HNB : Veil (∀ W, Calls Tryd.prog 22 #[.int .u32 b] W fun e w' => e = .returned (.agg (row .u8 (nonceL b))) ∧ Below W.heap.size W w') := ⟨fun W => nonce_any b W⟩
  have HRA : Veil (∀ W, Calls Tryd.prog 23 #[.int .u32 a] W fun e w' => e = .returned (.agg (row .u8 (nonceL a))) ∧ Below W.heap.size W w') := ⟨fun W => rnonce_any a W⟩
  have hla : (nonceL a).length = 12 := rfl
  have hlb : (nonceL b).length = 12 := rfl
  obtain ⟨NA, hNA⟩ : ∃ q, nonceL a = q := ⟨_, rfl⟩
  obtain ⟨NB, hNB⟩ : ∃ q, nonceL b = q := ⟨_, rfl⟩
  rw [hNA] at HNA HRA HI hla
  rw [hNB] at HNB HI hlb
  clear hNA hNB ha hb
  have e1 := fun wx => nonce_eq NA NA hla hla wx
  rw [beq_self_eq_true] at e1
  have e2 := fun wx => nonce_eq NA NB hla hlb wx
  go_enter Tryd.func5, Tryd.ntmps5
  go_wp2_with (first
    | (go_at_call 11; refine hlv.mono ?_; rintro e w1 ⟨rfl, hb1⟩; have n1 := HNA.out w1)
    | (go_at_call 23; refine n2.mono ?_; rintro e w3 ⟨rfl, hb3⟩; have n3 := HNA.out w3)
    | (go_at_call 22; first
        | (refine n1.mono ?_; clear n1; rintro e w2 ⟨rfl, hb2⟩; have n2 := HRA.out w2)
        | (refine n3.mono ?_; clear n3; rintro e w4 ⟨rfl, hb4⟩; have n4 := HNB.out w4)
        | (refine n4.mono ?_; rintro e w5 ⟨rfl, hb5⟩)))
  go_ret
  have hB2 := hb1.trans (hb2.mono hb1.size)
  have hB3 := hB2.trans (hb3.mono hB2.size)
  have hB4 := hB3.trans (hb4.mono hB3.size)
  exact ⟨by rw [HI.out]; exact ret_bC (by simp), hB4.trans (hb5.mono hB4.size)⟩
end Go.Proofs.YtlalcnmcnkompaaDoor
