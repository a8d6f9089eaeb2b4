/- Gate: the read of a long row. -/
import Derived.Test.YtgmbmdmbnpkbbaaGate
import Derived.Deep.MidRow
namespace Go.Proofs.Ytgmbmdmbnpkbbaa
open Go Go.RowKit

section
variable {P : Program} {ops : Array Oper} {Q : Exit → Act → World → Prop} {md : Region.Mode} {S : World → Prop} {D : Nat}
/-- Take first a read of a long row that D waits for. -/
theorem wpAnyG_row {i : Nat} {oi : Oper} {v : Value} {fuel : Nat} {listed : Array Bool} {a : Act} {w : World} (hi : ops[i]? = some oi)
    (hs : Region.noSelect ops = true) (hf : Region.free md ops listed i = true) (hr : (Region.ready md ops listed).contains i = true)
    (hQ : ∀ c a w, Q (.panic c) (a.put oi.dst v) w → Q (.panic c) a w) (hD : (i == D) = false) (hwait : Region.waitsFor md ops D i = true) (hg : listed.getD D true = false) (hS : S w)
    (hy : YieldsIf P ops S oi v a)
    (h : wpAnyG P md ops Q S D fuel (listed.setIfInBounds i true) (a.put oi.dst v) w) : wpAnyG P md ops Q S D (fuel + 1) listed a w :=
  wpAnyG_first (T := S) hi (Region.noSelect_spec hs) hQ (by simpa using hD) (.inr ⟨fun _ h => h, by
    obtain ⟨oD, h1, e, h2, h3, h4⟩ := Region.waitsFor_spec hwait
    exact ⟨oD, h1, e, h2, h3, h4⟩⟩) fuel listed a w (Region.free_spec hi hf) (by simpa using hr) (.inr hg) hy (fun _ => hS) h

/-- The same, with all that is closed handed to the kernel. -/
theorem wpAnyG_load {i : Nat} {dst : Option Tmp} {ty : TypeId} {x : Operand} {b o : Nat} {cs : List Value} {d : TypeDesc} {fuel : Nat} {listed : Array Bool} {a : Act} {w : World}
    (hop : (ops[i]?).map (fun o => (o.dst, o.op)) = some (dst, .load ty x)) (hw : (ops[i]?).map (fun o => Region.wanted o (yielded ops a.tmps)) = some true)
    (hs : Region.noSelect ops = true) (hf : Region.free md ops listed i = true) (hr : (Region.ready md ops listed).contains i = true)
    (hQ : ∀ c a w, Q (.panic c) (a.put dst (.agg cs.toArray)) w → Q (.panic c) a w) (hD : (i == D) = false) (hwait : Region.waitsFor md ops D i = true) (hg : listed.getD D true = false) (hS : S w)
    (hx : a.eval x = .pointer (some ⟨b, o, none⟩)) (hc : ∀ w, S w → w.rangeAt b o cs) (hu : P.underlying ty = some d) (hd : d.isRow = true) (hi : (P.info? ty).map (·.size) = some cs.length)
    (h : wpAnyG P md ops Q S D fuel (listed.setIfInBounds i true) (a.put dst (.agg cs.toArray)) w) : wpAnyG P md ops Q S D (fuel + 1) listed a w := by
  cases ho : ops[i]? with
  | none => rw [ho] at hop; cases hop
  | some oi =>
    rw [ho] at hop hw
    simp only [Option.map_some, Option.some.injEq, Prod.mk.injEq] at hop hw
    obtain ⟨rfl, hop⟩ := hop
    exact wpAnyG_row ho hs hf hr hQ hD hwait hg hS (yieldsIf_load_mid hw ty x hop b o hx cs d hc hu hd hi) h
/-- From here on more is held. -/
theorem wpAnyG_more {S' : World → Prop} (hS : ∀ w, S' w → S w) : ∀ (fuel : Nat) (listed : Array Bool) (a : Act) (w : World), wpAnyG P md ops Q S' D fuel listed a w → wpAnyG P md ops Q S D fuel listed a w
  | 0, _, _, _, h => h
  | fuel + 1, _, _, _, h => ⟨h.1, fun i hi => wpOp_mono (fun a' w' h' => ⟨fun hg => hS w' (h'.1 hg), wpAnyG_more hS fuel _ a' w' h'.2⟩) (h.2 i hi)⟩
end
end Go.Proofs.Ytgmbmdmbnpkbbaa

