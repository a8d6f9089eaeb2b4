/- Sealed bytes as the document has them: what the tag is of, the tag, sealed, opened. Pure. -/
import Derived.Test.YtgepicbijpfhhaaMPlPzPz2
import Derived.Test.YtgepicbijpfhhaaMCxCy
namespace Go.Proofs.Ytgepicbijpfhhaa
open Go.RowKit
set_option maxRecDepth 20000

def fillN (n : Nat) : Nat := (16 - n % 16) % 16
def zerosL (n : Nat) : List Int := List.replicate n 0
def le8 (n : Nat) : List Int := leB 8 (n : Int)
theorem leB_length : ∀ (j : Nat) (n : Int), (leB j n).length = j
  | 0, _ => rfl
  | j + 1, n => by rw [leB, List.length_cons, leB_length j]
theorem leB_in : ∀ (j : Nat) (n : Int), ∀ v ∈ leB j n, isB v
  | 0, _, v, h => by simp [leB] at h
  | j + 1, n, v, h => by
    rcases List.mem_cons.1 h with rfl | h
    · unfold isB; omega
    · exact leB_in j _ v h
theorem le8_length (n : Nat) : (le8 n).length = 8 := leB_length 8 _
theorem le8_inj {m n : Nat} (hm : m ≤ 100000) (hn : n ≤ 100000) (h : le8 m = le8 n) : m = n := by
  unfold le8 at h
  simp only [leB, List.cons.injEq, and_true] at h
  omega
/-- The bytes that a tag is of. -/
def framedL (o s : List Int) : List Int := o ++ zerosL (fillN o.length) ++ s ++ zerosL (fillN s.length) ++ le8 o.length ++ le8 s.length
theorem zerosL_length (n : Nat) : (zerosL n).length = n := by simp [zerosL]
theorem zerosL_in (n : Nat) : ∀ v ∈ zerosL n, isB v := fun v hv => by
  rw [(List.mem_replicate.1 hv).2]; unfold isB; omega
theorem framedL_length (o s : List Int) : (framedL o s).length = o.length + fillN o.length + s.length + fillN s.length + 16 := by
  unfold framedL
  simp only [List.length_append, zerosL_length, le8_length]
theorem framedL_mod (o s : List Int) : (framedL o s).length % 16 = 0 := by
  rw [framedL_length]; unfold fillN; omega
theorem framedL_in (o s : List Int) (ho : ∀ v ∈ o, isB v) (hs : ∀ v ∈ s, isB v) : ∀ v ∈ framedL o s, isB v := by
  intro v hv
  unfold framedL at hv
  simp only [List.mem_append] at hv
  rcases hv with ((((h | h) | h) | h) | h) | h
  · exact ho v h
  · exact zerosL_in _ v h
  · exact hs v h
  · exact zerosL_in _ v h
  · exact leB_in _ _ v h
  · exact leB_in _ _ v h
theorem framed_inj (o s o' s' : List Int) (h1 : o.length ≤ 100000) (h2 : s.length ≤ 100000) (h3 : o'.length ≤ 100000) (h4 : s'.length ≤ 100000) (h : framedL o s = framedL o' s') : o = o' ∧ s = s' := by
  unfold framedL at h
  obtain ⟨ha, hb⟩ := List.append_inj' h (by rw [le8_length, le8_length])
  obtain ⟨hc, hd⟩ := List.append_inj' ha (by rw [le8_length, le8_length])
  have e1 := le8_inj h1 h3 hd
  have e2 := le8_inj h2 h4 hb
  rw [e1, e2] at hc
  obtain ⟨he, -⟩ := List.append_inj' hc rfl
  obtain ⟨hf, hg⟩ := List.append_inj' he e2
  obtain ⟨hh, -⟩ := List.append_inj' hf rfl
  exact ⟨hh, hg⟩
/-- The key of the tag, the tag, what is sealed. -/
def onceL (k n : List Int) : List Int := (blockL k n 0).take 32
def tagL (k n o h : List Int) : List Int := polyL (onceL k n) (framedL o h)
def sealL (k n o b : List Int) : List Int := xorL k n 1 b ++ tagL k n o (xorL k n 1 b)
theorem onceL_length (k n : List Int) : (onceL k n).length = 32 := by
  unfold onceL; rw [List.length_take, blockL_length]; rfl
end Go.Proofs.Ytgepicbijpfhhaa
