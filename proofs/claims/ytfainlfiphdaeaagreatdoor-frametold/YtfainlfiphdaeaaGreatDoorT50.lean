/- Fto -/
import Derived.Test.YtfainlfiphdaeaaGreatDoorT41
import Derived.Test.YtfainlfiphdaeaaGreatDoorT47
import Derived.Test.YtfainlfiphdaeaaGreatDoorT13
import Derived.Test.YtfainlfiphdaeaaGreatDoorT48
import Derived.Test.YtfainlfiphdaeaaGreatDoorT49
namespace Go.Proofs.YtfainlfiphdaeaaGreatDoor
open Go.RowKit
set_option maxRecDepth 20000
set_option linter.unusedSimpArgs false
theorem evZ_built8 (wx : World) : (Instr.build 33 #[]).run Tryz.prog wx = .ok (.agg evZ.cells.toArray) wx := run_build wx _ _ _ (by kernel_rfl)
theorem openK_fits {k : List Int} {F : Fr} {ws : List Wp} {lb : Nat} {body : List Int} (h : openK k F ws lb body = 0) : fitsB (openV k F lb body) F = true := by
  unfold openK at h
  split at h
  · omega
  · split at h
    · split at h
      · split at h
        · split at h
          · assumption
          · omega
        · omega
      · omega
    · omega
theorem openE_fits {seed : List Int} {m : Option (List Int)} {k : List Int} {F : Fr} {lw : Nat} {ws : List Wp} {lb : Nat} {body : List Int} (hm : m = some k) (h : openE seed m F lw ws lb body = 0) : fitsB (openV k F lb body) F = true := by
  subst hm
  unfold openE at h
  split at h
  · exact openK_fits h
  · rename_i hc; exact absurd h hc
theorem openT_any (base H : Nat) (own : Int) (seed : List Int) (b : Nat) (M : Int → Int → Option (List Int)) (v : Value) (L : List (Int × Int)) (w : World) (F : Fr) (xw : Option Addr) (lw cw : Nat) (ws : List Wp) (xb : Option Addr) (lb cb : Nat) (body : List Int)
    (hR : RingAt w base H own seed b M v L) (hKT : S.KTab w) (hBT : BTab w) (hF : FrIn w F xw lw cw ws xb lb cb body) :
    Calls Tryz.prog 21 #[.pointer (some ⟨H, 0, none⟩), .agg F.cells.toArray] w fun e w' => ∃ (E : Ev) (n : Int), e = .returned (.tuple #[.agg E.cells.toArray, .int .i64 n]) ∧ E.In ∧ (n ≠ 0 → E = evZ) ∧ (n = 0 → rightB E = true ∧ E.da = F.author ∧ E.ds = F.number) ∧ Below w.heap.size w w' := by
  refine (Open_anyF base H own seed b M v L w F xw lw cw ws xb lb cb body hR hKT hBT ⟨hF.prev, hF.mac, hF.wraps, hF.body_, hF.hw, hF.hb⟩ hF.inF hF.inW hF.inB).mono ?_
  rintro e w' ⟨ho | ho, hb⟩
  · exact ⟨evZ, _, ho.2, evZ_in9, fun _ => rfl, fun h => absurd h ho.1, hb⟩
  · obtain ⟨h0, k, hk, he⟩ := ho
    have hf := openE_fits hk h0
    have hi : (openV k F lb body).In := revB_in9 _ (unpB_in9 _ (xorL_in _ _ _ _ (fun v hv => hF.inB v (List.mem_of_mem_take hv))))
    refine ⟨openV k F lb body, 0, he, hi, fun h => absurd rfl h, fun _ => ?_, hb⟩
    unfold fitsB at hf
    simp only [Bool.and_eq_true, beq_iff_eq] at hf
    exact ⟨hf.1, hf.2.1, hf.2.2⟩
end Go.Proofs.YtfainlfiphdaeaaGreatDoor
