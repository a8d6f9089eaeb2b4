/- An argument that is a key, a nonce and a number, opened. -/
import Derived.Test.YtobfknpgkdiicabGo0
import Derived.Test.YtobfknpgkdiicabCu
import Derived.ChangeSame
namespace Go.Proofs.Ytobfknpgkdiicab
open Go.ChangeShapes Go.WideShapes Go.ChangeAt Go.RowKit

theorem row_of_trod {H : Type} {enc : TypeId × Value → H} {P : Program} {W : World} {n fuel : Nat} {t e : TypeId} {k : IntKind} {cs : List Value} {x : DataW H × List MemPlace} (hu : P.underlying t = some (.array n e)) (he : P.underlying e = some (.int k)) (hce : P.cellsOf e = 1)
    (hsz : cs.length = n) (h : DataW.trod enc P W 0 (fun _ => true) true fuel t cs = some x) :
    ∃ l : List Int, l.length = n ∧ cs = l.map (Value.int k) ∧ ∀ x ∈ l, (Lit.int k x).wf = true := by
  obtain ⟨xs, m, _, _, _, hlen, hel⟩ := DataW.trod_array hu h
  simp only [hce, Nat.mul_one] at hel
  have key : ∀ i (hi : i < cs.length), cs[i] = .int k (intOf cs[i]) ∧ (Lit.int k (intOf cs[i])).wf = true := fun i hi => by
    have h1 := hel i (by omega)
    rw [List.getElem?_eq_getElem (by omega)] at h1
    obtain ⟨a, ea, _, wa⟩ := DataW.trod_int he h1
    have e1 : (cs.drop i).take 1 = [cs[i]] := by
      rw [List.drop_eq_getElem_cons hi, List.take_succ_cons, List.take_zero]
    rw [e1] at ea
    have e2 : cs[i] = .int k a := by simpa using ea
    rw [e2]
    exact ⟨rfl, wa⟩
  refine ⟨cs.map intOf, by simp [hsz], ?_, ?_⟩
  · apply List.ext_getElem (by simp)
    intro i h1 h2
    have := (key i h1).1
    simp only [List.map_map, List.getElem_map, Function.comp]
    exact this
  · intro x hx
    obtain ⟨c, hc, rfl⟩ := List.mem_map.1 hx
    obtain ⟨i, hi, rfl⟩ := List.mem_iff_getElem.1 hc
    exact (key i hi).2

/-- A key, a nonce and a number as cells. -/
def askL (k n : List Int) (c : Int) : List Value := k.map (Value.int .u8) ++ n.map (Value.int .u8) ++ [.int .u32 c]
def askRow (k n : List Int) (c : Int) : Array Value := (askL k n c).toArray
theorem open_ask {H : Type} {enc : TypeId × Value → H} {W : World} {r : Reach} {base : Nat} {v : Value} {d : DataW H} {p : List MemPlace} (hv : Value.okWide Try.prog W r base 28 v) (h : DataW.Trod enc Try.prog W 0 (fun _ => true) true 28 v d p) :
    ∃ (k n : List Int) (c : Int), k.length = 32 ∧ n.length = 12 ∧ U32 c ∧ v = .agg (askRow k n c) := by
  simp only [Value.okWide, Try.underlying28] at hv
  obtain ⟨cs, rfl, hsz, _⟩ := hv
  obtain ⟨fuel, hf⟩ := h
  obtain ⟨xs, m, _, _, hl, hlen, hfd⟩ := DataW.trod_struct Try.underlying28 hf
  have hc45 : Try.prog.cellsOf 28 = 45 := by kernel_rfl
  have hck : Try.prog.cellsOf 23 = 32 := by kernel_rfl
  have hcn : Try.prog.cellsOf 25 = 12 := by kernel_rfl
  have hcu : Try.prog.cellsOf 26 = 1 := by kernel_rfl
  rw [hc45] at hsz
  simp only [Value.cells] at hfd
  have g0 : DataW.trod enc Try.prog W 0 (fun _ => true) true m 23 (List.take (Try.prog.cellsOf 23) (List.drop 0 cs.toList)) = xs[0]? := hfd 0 _ rfl
  have g1 : DataW.trod enc Try.prog W 0 (fun _ => true) true m 25 (List.take (Try.prog.cellsOf 25) (List.drop 32 cs.toList)) = xs[1]? := hfd 1 _ rfl
  have g2 : DataW.trod enc Try.prog W 0 (fun _ => true) true m 26 (List.take (Try.prog.cellsOf 26) (List.drop 44 cs.toList)) = xs[2]? := hfd 2 _ rfl
  simp only [List.size_toArray, List.length_cons, List.length_nil, Nat.reduceAdd] at hlen
  rw [hck, List.getElem?_eq_getElem (by omega)] at g0
  rw [hcn, List.getElem?_eq_getElem (by omega)] at g1
  rw [hcu, List.getElem?_eq_getElem (by omega)] at g2
  have hL : cs.toList.length = 45 := by rw [Array.length_toList]; exact hsz
  obtain ⟨k, hk, ek, _⟩ := row_of_trod Try.underlying23 Try.underlying5 (by kernel_rfl) (by simp [hsz]) g0
  obtain ⟨n, hn, en, _⟩ := row_of_trod Try.underlying25 Try.underlying5 (by kernel_rfl) (by simp [hsz]) g1
  obtain ⟨c, ec, _, wc⟩ := DataW.trod_int Try.underlying26 g2
  refine ⟨k, n, c, hk, hn, bounds32 wc, ?_⟩
  have e : cs.toList = askL k n c := by
    unfold askL
    rw [← ek, ← en, ← ec]
    have h1 : cs.toList = cs.toList.take 32 ++ cs.toList.drop 32 := (List.take_append_drop 32 _).symm
    have h2 : cs.toList.drop 32 = (cs.toList.drop 32).take 12 ++ (cs.toList.drop 32).drop 12 := (List.take_append_drop 12 _).symm
    have h3 : (cs.toList.drop 32).drop 12 = cs.toList.drop 44 := by rw [List.drop_drop]
    have h4 : (cs.toList.drop 44).take 1 = cs.toList.drop 44 := List.take_of_length_le (by rw [List.length_drop, hL]; decide)
    rw [h4, List.drop_zero, ← h3, List.append_assoc, ← h2, ← h1]
  congr 1
  unfold askRow
  rw [← e]
end Go.Proofs.Ytobfknpgkdiicab
