/- 'SameFrame' of wire, and the reference's, of any two frames. (Written by mksame.py.) -/
import Derived.Test.YtdfjfafhpjoilaaDoorEqw
import Derived.Test.YtdfjfafhpjoilaaDoorEvl
import Derived.Test.YtdfjfafhpjoilaaDoorWo2
namespace Go.Proofs.YtdfjfafhpjoilaaDoor
open Go.RowKit
set_option maxRecDepth 20000
set_option linter.unusedSimpArgs false

/-- Are frames the same? -/
noncomputable def sameB (F : Fr) (ws : List Wp) (body : List Int) (G : Fr) (vs : List Wp) (bp : List Int) : Bool :=
  (F.author == G.author) && (F.number == G.number) && ((F.ea == G.ea) && (F.es == G.es)) && (F.prev == G.prev) && wsB ws vs && ((strOfNums body).toList == (strOfNums bp).toList) && (F.mac == G.mac)
theorem sameB_refl (F : Fr) (ws : List Wp) (body : List Int) : sameB F ws body F ws body = true := by unfold sameB; simp [wsB_true]
theorem wsB_comm (a b : List Wp) : wsB a b = wsB b a := by
  by_cases h : a = b
  · rw [wsB_true h, wsB_true h.symm]
  · rw [wsB_false h, wsB_false (fun e => h e.symm)]
theorem beqInt_comm (a b : Int) : (a == b) = (b == a) := BEq.comm
theorem beqList_comm (a b : List Int) : (a == b) = (b == a) := BEq.comm
theorem beqBytes_comm (a b : List UInt8) : (a == b) = (b == a) := BEq.comm
theorem sameB_comm (F : Fr) (ws : List Wp) (body : List Int) (G : Fr) (vs : List Wp) (bp : List Int) : sameB F ws body G vs bp = sameB G vs bp F ws body := by
  unfold sameB
  rw [beqInt_comm F.author, beqInt_comm F.number, beqInt_comm F.ea, beqInt_comm F.es, beqList_comm F.prev, beqList_comm F.mac, wsB_comm ws, beqBytes_comm (strOfNums body).toList]
end Go.Proofs.YtdfjfafhpjoilaaDoor
