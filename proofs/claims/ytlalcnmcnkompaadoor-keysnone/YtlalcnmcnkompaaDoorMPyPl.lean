/- The tag of bytes under a key, as the document has it: numbers, modulo P. 'live' of the statements on poly: the document's example, by the kernel's own reckoning. -/
import Derived.Test.YtlalcnmcnkompaaDoorMPxPk0
import Derived.Test.YtlalcnmcnkompaaDoorMPhPw
import Derived.Lib.SlBytesConst
namespace Go.Proofs.YtlalcnmcnkompaaDoor
open Go

/-- Bytes as a number, the lowest first. -/
def leN : List Int → Int
  | [] => 0
  | a :: l => a + 256 * leN l
/-- Blocks are added and multiplied, modulo P. -/
def accF (r : Int) (bs : List Int) : Int := bs.foldl (fun a b => (a + b) * r % 1361129467683753853853498429727072845819) 0
theorem seventeen {l : List Int} (h : l.length = 17) : ∃ a0 a1 a2 a3 a4 a5 a6 a7 a8 a9 b0 b1 b2 b3 b4 b5 t, l = [a0, a1, a2, a3, a4, a5, a6, a7, a8, a9, b0, b1, b2, b3, b4, b5, t] := by
  match l, h with
  | [a0, a1, a2, a3, a4, a5, a6, a7, a8, a9, b0, b1, b2, b3, b4, b5, t], _ => exact ⟨a0, a1, a2, a3, a4, a5, a6, a7, a8, a9, b0, b1, b2, b3, b4, b5, t, rfl⟩
theorem leN17 (a0 a1 a2 a3 a4 a5 a6 a7 a8 a9 b0 b1 b2 b3 b4 b5 t : Int) : leN [a0, a1, a2, a3, a4, a5, a6, a7, a8, a9, b0, b1, b2, b3, b4, b5, t] = N16 a0 a1 a2 a3 a4 a5 a6 a7 a8 a9 b0 b1 b2 b3 b4 b5 + t * 340282366920938463463374607431768211456 := by
  simp only [leN]; unfold N16; omega
theorem leN16 (a0 a1 a2 a3 a4 a5 a6 a7 a8 a9 b0 b1 b2 b3 b4 b5 : Int) : leN [a0, a1, a2, a3, a4, a5, a6, a7, a8, a9, b0, b1, b2, b3, b4, b5] = N16 a0 a1 a2 a3 a4 a5 a6 a7 a8 a9 b0 b1 b2 b3 b4 b5 := by
  simp only [leN]; unfold N16; omega
theorem blkP_in' (z : List Int) (hz : ∀ v ∈ z, isB v) (i : Nat) : ∀ v ∈ blkP z i, isB v := by
  intro v hv
  unfold blkP at hv
  rcases List.mem_or_eq_of_mem_set hv with h | rfl
  · rcases List.mem_append.1 h with h | h
    · exact hz v (List.mem_of_mem_drop (List.mem_of_mem_take h))
    · have := (List.mem_replicate.1 h).2
      subst this
      exact ⟨by omega, by omega⟩
  · exact ⟨by omega, by omega⟩
theorem blkP_top (z : List Int) (i : Nat) : (0 : Int) ≤ (blkP z i)[16]?.getD (0 : Int) ∧ (blkP z i)[16]?.getD (0 : Int) ≤ 1 := by
  unfold blkP
  have hl : ((z.drop (16 * i)).take 16).length ≤ 16 := by rw [List.length_take]; omega
  generalize (z.drop (16 * i)).take 16 = c at hl
  by_cases h : c.length = 16
  · rw [List.getElem?_set, h]
    simp [h]
  · rw [List.getElem?_set_ne (by omega), List.getElem?_append_right (by omega), List.getElem?_replicate]
    split <;> simp
theorem acc_step (X A n r X' q : Int) (hA : X % 1361129467683753853853498429727072845819 = A) (h : (X + n) * r = X' + q * 1361129467683753853853498429727072845819) : X' % 1361129467683753853853498429727072845819 = (A + n) * r % 1361129467683753853853498429727072845819 := by
  have e : X' = (A + n) * r + (X / 1361129467683753853853498429727072845819 * r - q) * 1361129467683753853853498429727072845819 := by
    have hX := Int.emod_add_mul_ediv X 1361129467683753853853498429727072845819
    rw [hA] at hX
    have h2 : X' = (X + n) * r - q * 1361129467683753853853498429727072845819 := by omega
    rw [h2]
    generalize X / 1361129467683753853853498429727072845819 = p at hX ⊢
    rw [← hX]
    grind
  rw [e, Int.add_mul_emod_self_right]

theorem fold_val (z : List Int) (hz : ∀ v ∈ z, isB v) (r0 r1 r2 r3 r4 : Int) (hr : Limb5 r0 r1 r2 r3 r4) : ∀ (is : List Nat) (x0 x1 x2 x3 x4 A : Int), Fold5 x0 x1 x2 x3 x4 → V5 x0 x1 x2 x3 x4 % 1361129467683753853853498429727072845819 = A →
    ∃ a b c d e, foldP z is [x0, x1, x2, x3, x4, r0, r1, r2, r3, r4] = [a, b, c, d, e, r0, r1, r2, r3, r4] ∧ Fold5 a b c d e ∧ V5 a b c d e % 1361129467683753853853498429727072845819 = (is.map fun i => leN (blkP z i)).foldl (fun a b => (a + b) * V5 r0 r1 r2 r3 r4 % 1361129467683753853853498429727072845819) A
  | [], x0, x1, x2, x3, x4, A, hx, hA => ⟨x0, x1, x2, x3, x4, rfl, hx, hA⟩
  | i :: is, x0, x1, x2, x3, x4, A, hx, hA => by
    have hl := blkP_length z i
    have hb := blkP_in' z hz i
    have ht := blkP_top z i
    obtain ⟨z0, z1, z2, z3, z4, z5, z6, z7, y0, y1, y2, y3, y4, y5, y6, y7, t, hB⟩ := seventeen hl
    rw [hB] at hb ht
    obtain ⟨a, b, c, d, e, q, hT, hf, hv⟩ := take_val x0 x1 x2 x3 x4 r0 r1 r2 r3 r4 z0 z1 z2 z3 z4 z5 z6 z7 y0 y1 y2 y3 y4 y5 y6 y7 t hx hr (hb _ (by simp)) (hb _ (by simp)) (hb _ (by simp)) (hb _ (by simp)) (hb _ (by simp)) (hb _ (by simp)) (hb _ (by simp)) (hb _ (by simp)) (hb _ (by simp)) (hb _ (by simp)) (hb _ (by simp)) (hb _ (by simp)) (hb _ (by simp)) (hb _ (by simp)) (hb _ (by simp)) (hb _ (by simp)) ht
    rw [← leN17] at hv
    obtain ⟨a', b', c', d', e', h1, h2, h3⟩ := fold_val z hz r0 r1 r2 r3 r4 hr is a b c d e _ hf (acc_step _ A _ _ _ q hA hv)
    refine ⟨a', b', c', d', e', ?_, h2, ?_⟩
    · unfold foldP at h1 ⊢
      rw [List.foldl_cons, hB, hT]
      exact h1
    · rw [h3, List.map_cons, List.foldl_cons, hB]

theorem poly_val (k z : List Int) (hk : k.length = 32) (hu : ∀ v ∈ k, isB v) (hz : ∀ v ∈ z, isB v) :
    polyL k z = le16 (accF (leN (clampL k)) ((List.range ((z.length + 15) / 16)).map fun i => leN (blkP z i)) + leN (k.drop 16)) := by
  have hcl := clampL_length k hk
  have hci := clampL_in k hk hu
  obtain ⟨a0, a1, a2, a3, a4, a5, a6, a7, a8, a9, b0, b1, b2, b3, b4, b5, hC⟩ := sixteen hcl
  rw [hC] at hci
  obtain ⟨r0, r1, r2, r3, r4, hn, hr, hv⟩ := num_val a0 a1 a2 a3 a4 a5 a6 a7 a8 a9 b0 b1 b2 b3 b4 b5 0 (hci _ (by simp)) (hci _ (by simp)) (hci _ (by simp)) (hci _ (by simp)) (hci _ (by simp)) (hci _ (by simp)) (hci _ (by simp)) (hci _ (by simp)) (hci _ (by simp)) (hci _ (by simp)) (hci _ (by simp)) (hci _ (by simp)) (hci _ (by simp)) (hci _ (by simp)) (hci _ (by simp)) (hci _ (by simp)) (by omega)
  have hA : adder0 k = [0, 0, 0, 0, 0, r0, r1, r2, r3, r4] := by
    unfold adder0
    have hap : [a0, a1, a2, a3, a4, a5, a6, a7, a8, a9, b0, b1, b2, b3, b4, b5] ++ [(0 : Int)] = [a0, a1, a2, a3, a4, a5, a6, a7, a8, a9, b0, b1, b2, b3, b4, b5, 0] := rfl
    rw [hC, hap, hn]; rfl
  obtain ⟨a, b, c, d, e, h1, h2, h3⟩ := fold_val z hz r0 r1 r2 r3 r4 hr (List.range ((z.length + 15) / 16)) 0 0 0 0 0 0 (by unfold Fold5; omega) (by unfold V5; omega)
  have hdl : (k.drop 16).length = 16 := by rw [List.length_drop]; omega
  have hdi : ∀ v ∈ k.drop 16, isB v := fun v hv => hu v (List.mem_of_mem_drop hv)
  obtain ⟨s0, s1, s2, s3, s4, s5, s6, s7, s8, s9, t0, t1, t2, t3, t4, t5, hS⟩ := sixteen hdl
  rw [hS] at hdi
  unfold polyL
  rw [hA, h1, hS, tag_val a b c d e [r0, r1, r2, r3, r4] s0 s1 s2 s3 s4 s5 s6 s7 s8 s9 t0 t1 t2 t3 t4 t5 h2 (hdi _ (by simp)) (hdi _ (by simp)) (hdi _ (by simp)) (hdi _ (by simp)) (hdi _ (by simp)) (hdi _ (by simp)) (hdi _ (by simp)) (hdi _ (by simp)) (hdi _ (by simp)) (hdi _ (by simp)) (hdi _ (by simp)) (hdi _ (by simp)) (hdi _ (by simp)) (hdi _ (by simp)) (hdi _ (by simp)) (hdi _ (by simp)), h3, leN16]
  unfold accF
  rw [hC, leN16, hv, Int.zero_mul, Int.add_zero]
end Go.Proofs.YtlalcnmcnkompaaDoor

namespace Go.Proofs.YtlalcnmcnkompaaDoor
open Go.RowKit
set_option maxRecDepth 100000
set_option linter.unusedSimpArgs false

def liveK : List Int := [133, 214, 190, 120, 87, 85, 109, 51, 127, 68, 82, 254, 66, 213, 6, 168, 1, 3, 128, 138, 251, 13, 178, 253, 74, 191, 246, 175, 65, 73, 245, 27]
def liveM : List Int := [67, 114, 121, 112, 116, 111, 103, 114, 97, 112, 104, 105, 99, 32, 70, 111, 114, 117, 109, 32, 82, 101, 115, 101, 97, 114, 99, 104, 32, 71, 114, 111, 117, 112]
def liveT : List Int := [168, 6, 29, 193, 48, 81, 54, 198, 194, 43, 139, 175, 12, 1, 39, 169]
theorem live_tag : polyL liveK liveM = liveT := by kernel_rfl
theorem cellsU8P : Tryd.prog.cellsOf 5 = 1 := by kernel_rfl
theorem infoSomeU8P : (Tryd.prog.info? 5).isSome = true := by kernel_rfl
theorem eqTag (l m : List Int) (hl : l.length = 16) (hm : m.length = 16) (w : World) : (Op.equalIn 10000 90 (.agg (row .u8 l)) (.agg (row .u8 m))).run Tryd.prog w = .ok (l == m) w :=
  run_equalIn_rows w 9998 .u8 l m Tryd.underlying90 Tryd.underlying5 cellsU8P infoSomeU8P hl hm
theorem eq16 (l m : List Int) (hl : l.length = 16) (hm : m.length = 16) (w : World) : (Op.equalIn 10000 89 (.agg (row .u8 l)) (.agg (row .u8 m))).run Tryd.prog w = .ok (l == m) w :=
  run_equalIn_rows w 9998 .u8 l m Tryd.underlying89 Tryd.underlying5 cellsU8P infoSomeU8P hl hm
theorem guardTag : Tryd.prog.eqGuardType Tryd.prog.depth 90 = false := by kernel_rfl
theorem guard16 : Tryd.prog.eqGuardType Tryd.prog.depth 89 = false := by kernel_rfl
theorem bytes_marked (w : World) (l : List Int) (fr : Nat × Nat) (hl : l.length ≤ 4000000) : Bytes (w.alloc (.cells (row .u8 l) 5 fr)) (some ⟨w.heap.size, 0, none⟩) l.length l.length l :=
  ⟨rfl, Nat.le_refl _, by omega, (fun h => by cases h), .inr ⟨w.heap.size, 0, rfl, fun j hj => by
    rw [Nat.zero_add, cell_of_row _ w.heap.size j _ _ _ (heap_alloc_new w _), row_get .u8 l j hj]⟩⟩

end Go.Proofs.YtlalcnmcnkompaaDoor
