/- Bytes of any length that came in: how long they may be (the row's own reach), and appended to bytes of the call's own. -/
import Derived.Test.YtnfilpbjgfmclaaDoorGoW
import Derived.Test.YtnfilpbjgfmclaaDoorGb
import Derived.SizedLaws
namespace Go.Proofs.YtnfilpbjgfmclaaDoor
open Go.ChangeShapes Go.WideShapes Go.ChangeAt Go.RowKit
set_option maxRecDepth 20000

theorem bytes_reach {H : Type} {enc : TypeId × Value → H} {W : World} {x : Option Addr} {len cap : Nat} {d : DataW H} {p : List MemPlace} {ts : List TypeId} {ds : List (DataW H)} {j : Nat}
    (h : (DataW.weightsEach Tryd.prog ts ds).all (· ≤ reachBytes) = true) (ht : ts[j]? = some 31) (hd : ds[j]? = some d)
    (k : DataW.Trod enc Tryd.prog W 0 (fun _ => true) true 31 (.slice x len cap) d p) : len ≤ 140737488355327 := by
  obtain ⟨fuel, hf⟩ := k
  rcases open_ints Tryd.underlying31 Tryd.underlying5 cellsU8 hf with ⟨hcs, _⟩ | ⟨a, l, c, zs, hcs, _, hl, hm, hz, hx, hcell, hwz⟩
  · simp [Value.cells] at hcs
    omega
  · simp [Value.cells] at hcs
    obtain ⟨rfl, rfl, rfl⟩ := hcs
    obtain rfl : d = _ := congrArg Prod.fst hx
    have hb : Tryd.prog.bytesOf 5 = 1 := by kernel_rfl
    have := sized_slice h ht hd Tryd.underlying31
    rw [hb] at this
    simp only [if_true] at hz
    simp only [lits, List.length_map, List.length_take, List.length_drop, reachBytes] at this
    omega
/-- Bytes behind bytes of the call's own, as many as the platform has room for. -/
theorem wpList_appL {w : World} {ops : Array Oper} {rest : List Oper} {o : Oper} {a : Act} {Q : Exit → Act → World → Prop} (hgd : o.guard = none) (s x : Operand)
    (ho : o.op = .call { callee := .builtin .append, args := #[s, x], argTypes := #[31, 31] }) (base : Nat) (v : Value) (zs : List Int) (hs : a.eval s = v) (hown : OwnB w base v zs)
    (y : Option Addr) (len cap : Nat) (z : List Int) (hx : a.eval x = .slice y len cap) (hb : Bytes w y len cap z) (hln : zs.length + len ≤ 140737488355328) (hbase : base ≤ w.heap.size)
    (h : ∀ v' w', OwnB w' base v' (zs ++ z) → w.grownBy w' v.ownBlock → wpList Tryd.prog ops Q rest (a.put o.dst v') w') : wpList Tryd.prog ops Q (o :: rest) a w := by
  obtain ⟨i0, hi, hz0, hz1, hz2⟩ := info_parts infoU8
  have hzl := hb.len_eq
  have hcase : ∀ ad : Addr, y = some ad → (∀ j u, (z.map (Value.int .u8))[j]? = some u → w.cell? (ad.add j) = some u) → wpList Tryd.prog ops Q (o :: rest) a w := fun ad hy hsrc => by
    subst hy
    refine wpList_append_own w hgd s x 31 ho base 5 i0 (.int .u8 0) 1 1 Tryd.underlying31 hi hz0 hz1 hz2 rfl (by decide) v zs.length (zs.map (Value.int .u8)) hs hown ad len cap (z.map (Value.int .u8)) hx (by simp [hzl]) hsrc (by simp [Value.oneCell']) (by simp [maxLen]; omega) (by omega) hbase ?_
    intro v' w' h1 h2 _
    exact h v' w' (OwnB.cast h1 (by simp [hzl]) (by simp)) h2
  rcases hb.at_ with h0 | ⟨b, off, hy, hc⟩
  · have hz0' : z = [] := List.length_eq_zero_iff.1 (by omega)
    cases y with
    | none =>
      have hc0 := hb.nil rfl
      subst h0 hc0 hz0'
      refine wpList_append_own_none hgd s x 31 ho base 5 i0 1 Tryd.underlying31 hi v zs.length (zs.map (Value.int .u8)) hs hown hx ?_
      exact h v w (by rw [List.append_nil]; exact hown) ⟨rfl, rfl, rfl, Nat.le_refl _, fun _ _ _ => rfl⟩
    | some ad => exact hcase ad rfl (fun j u hu => by subst hz0'; simp at hu)
  · exact hcase _ hy (fun j u hu => by
      have hj : j < len := by have := (List.getElem?_eq_some_iff.1 hu).1; simpa [hzl] using this
      rw [Addr.add_mid', hc j hj, ← hu, List.getElem?_map, List.getElem?_eq_getElem (by omega)]; rfl)
end Go.Proofs.YtnfilpbjgfmclaaDoor
