/- Gb Gc Gd Dr0 -/
import Derived.Test.YtnmjplngbleopaaF01
import Derived.Deep.OwnRows
import Derived.Maps.AppendAt
import Derived.Laws.AppendOwnNone
import Derived.RangeFuncBox
import Derived.Laws.BytesString
import Derived.Laws.BytesArg
import Derived.Test.YtnmjplngbleopaaF02
import Derived.Test.YtnmjplngbleopaaF03
import Derived.OrdersIn
import Derived.TacticsIn
import Derived.OwnWalkIn
import Derived.RangeFuncCalls
import Derived.ArgAppend
import Derived.Laws.OwnMore
namespace Go.Proofs.Ytnmjplngbleopaa
open Go.RowKit
theorem Addr.add_mid' (b o j : Nat) : (⟨b, o, none⟩ : Addr).add j = ⟨b, o + j, none⟩ := by unfold Addr.add; split <;> simp_all
structure Bytes (w : World) (x : Option Addr) (len cap : Nat) (z : List Int) : Prop where
  len_eq : len = z.length
  le : len ≤ cap
  top : cap ≤ 9223372036854775807
  nil : x = none → cap = 0
  at_ : len = 0 ∨ ∃ b off, x = some ⟨b, off, none⟩ ∧ ∀ j, j < len → w.cell? ⟨b, off + j, none⟩ = some (.int .u8 (z[j]?.getD 0))
theorem Bytes.below {w w' : World} {x : Option Addr} {len cap : Nat} {z : List Int} (h : Bytes w x len cap z) (hb : Below w.heap.size w w') : Bytes w' x len cap z :=
  ⟨h.len_eq, h.le, h.top, h.nil, by
    rcases h.at_ with h0 | ⟨b, off, hx, hc⟩
    · exact .inl h0
    · by_cases hl : len = 0
      · exact .inl hl
      · exact .inr ⟨b, off, hx, fun j hj => (hb.cell (p := ⟨b, off + j, none⟩) (block_lt_of_cell (hc j hj))).trans (hc j hj)⟩⟩
theorem bytes_nil (w : World) : Bytes w none 0 0 [] := ⟨rfl, by omega, by omega, fun _ => rfl, .inl rfl⟩
def lenOf : Value → Nat | .slice _ n _ => n | _ => 0
def OwnB (w : World) (base : Nat) (v : Value) (z : List Int) : Prop := w.ownsRow base 5 1 v z.length (z.map (Value.int .u8))
theorem OwnB.nil (w : World) (base : Nat) : OwnB w base (.slice none 0 0) [] := World.ownsRow_nil w base 5 1
theorem OwnB.alloc {w : World} {base : Nat} {v : Value} {z : List Int} (h : OwnB w base v z) (o : Obj) : OwnB (w.alloc o) base v z := World.ownsRow.alloc h o
theorem OwnB.slice {w : World} {base : Nat} {v : Value} {z : List Int} (h : OwnB w base v z) (hz : 0 < z.length) : ∃ g cap, v = .slice (some ⟨g, 0, none⟩) z.length cap ∧ base ≤ g := by
  rcases h.2 with ⟨_, h0⟩ | ⟨g, cap, cur, rfl, hb, _⟩
  · omega
  · exact ⟨g, cap, rfl, hb⟩
theorem Holds.bytes {w : World} {g : Nat} {t : TypeId} {l : List Int} {n : Nat} (h : Holds w g .u8 t l) (hn : n = l.length) (hl : l.length ≤ 4000000) : Bytes w (some ⟨g, 0, none⟩) n n l := by
  subst hn
  exact ⟨rfl, Nat.le_refl _, by omega, (fun h => by cases h), .inr ⟨g, 0, rfl, fun j hj => by rw [Nat.zero_add]; exact h.cell j hj⟩⟩
theorem OwnB.bytes {w : World} {base : Nat} {x : Option Addr} {n cap : Nat} {z : List Int} (h : OwnB w base (.slice x n cap) z) : n = z.length ∧ Bytes w x n cap z := by
  rcases h.2 with ⟨h1, h0⟩ | ⟨g, cap', cur, h1, _, hg, hc, hm, hs, ht⟩
  · have hz : z = [] := List.length_eq_zero_iff.1 h0
    cases h1
    subst hz
    exact ⟨rfl, bytes_nil w⟩
  · cases h1
    refine ⟨rfl, rfl, hc, by simpa [maxLen] using hm, (fun h => by cases h), .inr ⟨g, 0, rfl, fun j hj => ?_⟩⟩
    rw [Nat.zero_add, cell_of_row w g j _ _ _ hg, ← Array.getElem?_toList]
    have e : (cur.toList.take (z.length * 1))[j]? = (z.map (Value.int .u8))[j]? := by rw [ht]
    rw [Nat.mul_one, List.getElem?_take_of_lt hj, List.getElem?_map, List.getElem?_eq_getElem hj] at e
    rw [e, List.getElem?_eq_getElem hj]; rfl
theorem OwnB.isSlice {w : World} {base : Nat} {v : Value} {z : List Int} (h : OwnB w base v z) : ∃ x n c, v = .slice x n c ∧ n = z.length := by
  rcases h.2 with ⟨rfl, h0⟩ | ⟨g, cap, cur, rfl, _⟩
  · exact ⟨none, 0, 0, rfl, h0.symm⟩
  · exact ⟨_, _, _, rfl, rfl⟩
theorem conv_bytes {w : World} {x : Option Addr} {len cap : Nat} {z : List Int} (h : Bytes w x len cap z) : (convert 35 9 (.slice x len cap)).run Try.prog w = .ok (.string (strOfNums z)) w := by
  rw [run_convert_bytes_string w 35 9 5 x len cap Try.underlying35 Try.underlying5 Try.underlying9]
  have hz := h.len_eq
  have hcase : ∀ a : Addr, x = some a → (∀ j u, (z.map (Value.int .u8))[j]? = some u → w.cell? (a.add j) = some u) → (Conv.bytesToString (.slice x len cap)).run Try.prog w = .ok (.string (strOfNums z)) w := fun a hx hsrc => by
    subst hx
    have hl := run_loadCells_list (P := Try.prog) w a (z.map (Value.int .u8)) hsrc
    rw [List.length_map, ← hz] at hl
    rw [run_bytesToString w a len cap z hl, foldl_push_bytes]
    simp [strOfNums]
  rcases h.at_ with h0 | ⟨b, off, hx, hc⟩
  · have hz0 : z = [] := List.length_eq_zero_iff.1 (by omega)
    cases x with
    | none =>
      subst hz0 h0
      simp only [Conv.bytesToString, Sem.run_pure]; rfl
    | some a => exact hcase a rfl (fun j u hu => by subst hz0; simp at hu)
  · exact hcase _ hx (fun j u hu => by
      have hj : j < len := by have := (List.getElem?_eq_some_iff.1 hu).1; simpa [hz] using this
      rw [Addr.add_mid', hc j hj, ← hu, List.getElem?_map, List.getElem?_eq_getElem (by omega)]; rfl)
set_option maxRecDepth 20000
set_option linter.unusedSimpArgs false
def subA (x : Option Addr) (cap l : Nat) : Option Addr := if cap = l then x else x.map (·.add (l * 1))
theorem Bytes.cut {w : World} {x : Option Addr} {len cap : Nat} {z : List Int} (hb : Bytes w x len cap z) (l h : Nat) (h1 : l ≤ h) (h2 : h ≤ len) : Bytes w (subA x cap l) (h - l) (cap - l) ((z.drop l).take (h - l)) := by
  have hz := hb.len_eq
  have hle := hb.le
  refine ⟨by rw [List.length_take, List.length_drop]; omega, by omega, by have := hb.top; omega, ?_, ?_⟩
  · unfold subA
    split
    · intro _; omega
    · intro hn
      cases x with
      | none => have := hb.nil rfl; omega
      | some a => simp at hn
  · by_cases h0 : h - l = 0
    · exact .inl h0
    · rcases hb.at_ with h00 | ⟨b, off, hx, hc⟩
      · omega
      · refine .inr ⟨b, off + l, ?_, fun j hj => ?_⟩
        · unfold subA
          rw [if_neg (by omega), hx, Option.map_some, Addr.add_mid', Nat.mul_one]
        · rw [Nat.add_assoc, hc (l + j) (by omega), List.getElem?_take_of_lt hj, List.getElem?_drop]
section
variable {P : Program} {ops : Array Oper} {Q : Exit → Act → World → Prop} {md : Region.Mode} {S : World → Prop} {D : Nat}
end
theorem OwnB.keep {w w' : World} {base : Nat} {v : Value} {z : List Int} (h : OwnB w base v z) (hk : ∀ g, base ≤ g → g < w.heap.size → w'.heap[g]? = w.heap[g]?) : OwnB w' base v z := by
  refine ⟨h.1, ?_⟩
  rcases h.2 with h' | ⟨g, cap, cur, h1, h2, h3, h4⟩
  · exact .inl h'
  · refine .inr ⟨g, cap, cur, h1, h2, ?_, h4⟩
    rw [hk g h2 (Array.getElem?_eq_some_iff.1 h3).1]; exact h3
section
variable {P : Program} {md : Region.Mode} {ops : Array Oper} {Q : Exit → Act → World → Prop} {l n : Nat}
theorem wpR_op {o : Oper} {a : Act} {w : World} {K : Act → World → Prop} (hd : ∀ c, o.op ≠ .defer c) (h : o.wp P a w K Q) : o.wpIn (Fence.wide.inRound l) n P a w K Q := by
  refine ⟨fun _ _ => trivial, ?_⟩
  rw [show (Fence.wide.inRound l).round = some l from rfl, Oper.semAt_some l _ _ hd]
  unfold Oper.wp at h
  generalize (execOp a.eval o).run P w = r at h
  cases r with
  | ok x w' =>
    cases x with
    | value v => exact h
    | skip => exact h
    | defer d => exact h
    | enter f args => exact ⟨(fun h => by cases h), CallsIn.inRound l (callsIn_wide.2 h)⟩
    | row r args => exact ⟨(fun h => by cases h), fun c cs _ => let ⟨v, w', r, s⟩ := h c cs; ⟨v, w', r, stepsIn_wide.2 s⟩⟩
    | round l f t c d => exact h.elim
    | _ => exact h
  | halt x w' => cases x <;> exact h
theorem wpR_any (hL : ¬ LetsOut Q) (hd : ∀ (j : Nat) (o : Oper), ops[j]? = some o → ∀ c, o.op ≠ .defer c) : ∀ (fuel : Nat) (listed : Array Bool) (a : Act) (w : World), wpAny P md ops Q fuel listed a w → wpAnyIn (Fence.wide.inRound l) n P md ops Q fuel listed a w
  | 0, _, _, _, h => h
  | fuel + 1, listed, a, w, h => ⟨h.1, fun i hi => by
    have h1 := h.2 i hi
    unfold wpOp at h1
    unfold wpOpIn
    cases ho : ops[i]? with
    | none =>
      simp only [ho] at h1
      exact wpR_any hL hd fuel _ a w h1
    | some o =>
      simp only [ho] at h1
      simp only
      by_cases hw : Region.wanted o (yielded ops a.tmps) = true
      · rw [if_pos hw] at h1 ⊢
        rcases h1 with h1 | h1
        · exact Oper.wpIn_mono (fun a w h => wpR_any hL hd fuel _ a w h) (wpR_op (hd i o ho) h1)
        · exact absurd h1.2 hL
      · rw [if_neg hw] at h1 ⊢
        exact ⟨fun _ _ => trivial, wpR_any hL hd fuel _ _ w h1⟩⟩
theorem noDefer_of (h : (ops.all fun o => match o.op with | .defer _ => false | _ => true) = true) : ∀ (j : Nat) (o : Oper), ops[j]? = some o → ∀ c, o.op ≠ .defer c := fun j o ho c e => by
  have hm : o ∈ ops := Array.mem_of_getElem? ho
  have := (Array.all_eq_true_iff_forall_mem.1 h) o hm
  rw [e] at this
  cases this
theorem wpR_gate {id : Nat} {a : Act} {w : World} (S : World → Prop) (D : Nat) (hm : P.follows .mixedOrders = true) (hL : ¬ LetsOut Q) (hd : (ops.all fun o => match o.op with | .defer _ => false | _ => true) = true)
    (h : wpAnyG P .any ops Q S D ops.size (Array.replicate ops.size false) a w.drew) : (Code.region id ops true).wpIn (Fence.wide.inRound l) n P Q a w :=
  wpIn_region_any hm (wpR_any hL (noDefer_of hd) _ _ _ _ (wpAny_of_gate _ _ _ _ h))
end
end Go.Proofs.Ytnmjplngbleopaa
