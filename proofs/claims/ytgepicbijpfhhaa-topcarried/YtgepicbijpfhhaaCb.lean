/- The rounds of a block: four columns, four diagonals. (Written by mkcb.py.) -/
import Derived.Test.YtgepicbijpfhhaaCu
import Derived.Test.YtgepicbijpfhhaaGate
namespace Go.Proofs.Ytgepicbijpfhhaa
open Go.RowKit
set_option maxRecDepth 20000

def at' (s : List Int) (i : Nat) : Int := s[i]?.getD 0
/-- A quarter of a round at four places. -/
def qAt (s : List Int) (i j k l : Nat) : List Int :=
  (((s.set i (qr (at' s i) (at' s j) (at' s k) (at' s l)).1).set j (qr (at' s i) (at' s j) (at' s k) (at' s l)).2.1).set k (qr (at' s i) (at' s j) (at' s k) (at' s l)).2.2.1).set l (qr (at' s i) (at' s j) (at' s k) (at' s l)).2.2.2
theorem qAt_length (s : List Int) (i j k l : Nat) : (qAt s i j k l).length = s.length := by simp [qAt]
theorem Holds.at {w : World} {g : Nat} {t : TypeId} {l : List Int} (h : Holds w g .u32 t l) (j : Nat) (hj : j < l.length) : w.cell? ⟨g, j, none⟩ = some (.int .u32 (at' l j)) := h.cell j hj
/-- Four stores, as the walk leaves them. -/
theorem Holds.qAt {w : World} {g : Nat} {t : TypeId} {s : List Int} (h : Holds w g .u32 t s) (i j k l : Nat) :
    Holds ((((w.setCell ⟨g, i, none⟩ (.int .u32 (qr (at' s i) (at' s j) (at' s k) (at' s l)).1)).setCell ⟨g, j, none⟩ (.int .u32 (qr (at' s i) (at' s j) (at' s k) (at' s l)).2.1)).setCell ⟨g, k, none⟩ (.int .u32 (qr (at' s i) (at' s j) (at' s k) (at' s l)).2.2.1)).setCell ⟨g, l, none⟩ (.int .u32 (qr (at' s i) (at' s j) (at' s k) (at' s l)).2.2.2)) g .u32 t (qAt s i j k l) :=
  (((h.set i _).set j _).set k _).set l _
theorem below4 {B : Nat} {a w : World} (h : Below B a w) {g : Nat} (hg : B ≤ g) (i j k l : Nat) (v0 v1 v2 v3 : Value) :
    Below B a ((((w.setCell ⟨g, i, none⟩ v0).setCell ⟨g, j, none⟩ v1).setCell ⟨g, k, none⟩ v2).setCell ⟨g, l, none⟩ v3) :=
  (((h.setCell (p := ⟨g, i, none⟩) hg _).setCell (p := ⟨g, j, none⟩) hg _).setCell (p := ⟨g, k, none⟩) hg _).setCell (p := ⟨g, l, none⟩) hg _
end Go.Proofs.Ytgepicbijpfhhaa
