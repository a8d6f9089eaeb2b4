/- slices.AppendSeq, slices.Collect at events and dots: whatever the iterator is, it may write. (Written by mkbc.py.) -/
import Derived.Test.YthodlbkgggaibaaGateI
import Derived.Test.YthodlbkgggaibaaOi
import Derived.Test.YthodlbkgggaibaaEvm
namespace Go.Proofs.Ythodlbkgggaibaa
open Go.RowKit Go.Shelf
attribute [local go_sem] Oper.semAt_some
set_option maxRecDepth 20000
set_option linter.unusedSimpArgs false
theorem wpR_region {P : Program} {Q : Exit → Act → World → Prop} {n l id : Nat} {lst : List Oper} {a : Act} {w : World} (hL : ¬ LetsOut Q) (hd : (lst.all fun o => match o.op with | .defer _ => false | _ => true) = true) (h : wpList P lst.toArray Q lst a w) : (Code.region id lst.toArray false).wpIn (Fence.wide.inRound l) n P Q a w :=
  wpIn_region_lit (wpR_list hL _ _ _ (fun o ho c e => by have := (List.all_eq_true.1 hd) o ho; rw [e] at this; cases this) h)
theorem SeqT.later {α : Type} {n : Nat} {P : Program} {gf : Nat} {lb : Array Value} {encs : α → Array Value} {Own Wr : Nat → Prop} {Post Postx : List α → World → Prop} {ok : α → Prop} {N : Nat} {w w' : World} (h : SeqT n P gf lb encs Own Wr Post Postx ok N w) (hb : Below w.heap.size w w') : SeqT n P gf lb encs Own Wr Post Postx ok N w' :=
  fun l T J Jx W hW => h l T J Jx W (hb.trans (hW.mono hb.size))
theorem notOut_then {K : Act → World → Prop} {Q : Exit → Act → World → Prop} (h : ¬ LetsOut Q) : ¬ LetsOut (Exit.then K Q) := fun ⟨a, w, q⟩ => h ⟨a, w, q⟩
theorem notOut_false : ¬ LetsOut (fun _ _ _ => False) := fun ⟨_, _, q⟩ => q
theorem notOut_round (R : Option Code → World → Prop) : ¬ LetsOut (roundOut R) := fun ⟨_, _, q⟩ => q
end Go.Proofs.Ythodlbkgggaibaa

