/- fugue: slices.Insert at dots, one more. -/
import Derived.Lib.Overlaps
import Derived.Lib.AppendZeros
import Derived.Laws.CopyRow
import Derived.Test.YthjkcfpdkhghpaaFg1
import Derived.Test.YthjkcfpdkhghpaaMGxCv7BgBtOi
namespace Go.Proofs.Ythjkcfpdkhghpaa
open Go.RowKit Go.Shelf
set_option maxRecDepth 20000
set_option linter.unusedSimpArgs false
theorem infoD2 : (Try.prog.info? 32).map (fun i => (i.zero, i.size, i.bytes)) = some (some (.agg #[.int .u8 0, .int .u32 0]), 2, 8) := by kernel_rfl
/-- What stands behind the putting in. -/
structure InsP (base : Nat) (v : Value) (w : World) (L : List (List Value)) (v' : Value) (w' : World) : Prop where
  own : OwnI w' base 32 2 v' L
  grown : w.grownBy w' v.ownBlock
  block : v'.ownBlock = v.ownBlock ∨ ∃ k, v'.ownBlock = some k ∧ w.heap.size ≤ k
set_option maxHeartbeats 8000000 in
theorem insD_end (base : Nat) (x : Option Addr) (n c : Nat) (vs : List (List Value)) (T : List Value) (gv : Nat) (w : World) (hO : OwnI w base 32 2 (.slice x n c) vs) (hn : vs.length = n) (hc : n ≤ c) (hT2 : T.length = 2) (hT1 : ∀ u ∈ T, u.oneCell' = true) (hg : CellsAt w gv 32 T) (hbase : base ≤ w.heap.size) (hlen : n ≤ 100000) :
    Calls Try.prog 38 #[.slice x n c, .int .i64 (n : Nat), .slice (some ⟨gv, 0, none⟩) 1 1] w fun e w' => ∃ v', e = .returned v' ∧ InsP base (.slice x n c) w (vs ++ [T]) v' w' := by
  have uS := Try.underlying83
  obtain ⟨v9, W9, hrun, ho9, hg9, hb9⟩ := hO.app (P := Try.prog) 83 83 uS infoD2 rfl (by decide) T hT2 hT1 gv hg.wholeM (by omega) (by decide) hbase
  have HE : Veil (InsP base (.slice x n c) w (vs ++ [T]) v9 W9) := ⟨⟨ho9, hg9, by rcases hb9 with q | q; exact .inl q; exact .inr ⟨_, q, Nat.le_refl _⟩⟩⟩
  obtain ⟨x9, c9, hv9⟩ := ho9.isSlice
  generalize (vs ++ [T]).length = n9 at hv9
  have hci : (n : Int) ≤ (c : Int) := by omega
  have hn0 : (0 : Int) ≤ (n : Int) := by omega
  have hbe : ((n : Int) == (n : Int)) = true := beq_self_eq_true _
  subst hv9
  clear ho9 hg9 hb9 hO hg
  go_enter Try.func38, Try.ntmps38
  by_cases hcn : c = n
  · subst hcn
    go_wp2_with (refine wpList_appx rfl _ _ _ _ rfl _ _ _ W9 rfl rfl hrun ?_)
    go_ret
    exact ⟨_, rfl, HE.out⟩
  · go_wp2_with (refine wpList_appx rfl _ _ _ _ rfl _ _ _ W9 rfl rfl hrun ?_)
    go_ret
    exact ⟨_, rfl, HE.out⟩
end Go.Proofs.Ythjkcfpdkhghpaa

