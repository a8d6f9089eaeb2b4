/- Gate7 -/
import Derived.Test.YthjkcfpdkhghpaaH03
namespace Go.Proofs.Ythjkcfpdkhghpaa
open Go Go.RowKit
section
variable {P : Program} {ops : Array Oper} {Q : Exit → Act → World → Prop} {md : Region.Mode} {T S : World → Prop} {D : Nat}
theorem wpAnyT_more {T' : World → Prop} (hT : ∀ w, T' w → T w) : ∀ (fuel : Nat) (listed : Array Bool) (a : Act) (w : World), wpAnyT P md ops Q T' S D fuel listed a w → wpAnyT P md ops Q T S D fuel listed a w
  | 0, _, _, _, h => h
  | fuel + 1, _, _, _, h => ⟨h.1, fun i hi => wpOp_mono (fun a' w' h' => ⟨⟨hT _ h'.1.1, h'.1.2⟩, wpAnyT_more hT fuel _ a' w' h'.2⟩) (h.2 i hi)⟩
end
end Go.Proofs.Ythjkcfpdkhghpaa
