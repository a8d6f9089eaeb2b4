/- doc: Write, Erase, Give, Take. -/
import Derived.Test.YtgmbmdmbnpkbbaaDc11
import Derived.Test.YtgmbmdmbnpkbbaaFg22
namespace Go.Proofs.Ytgmbmdmbnpkbbaa
open Go.RowKit Go.Shelf
set_option maxRecDepth 20000
set_option linter.unusedSimpArgs false
def evK (k : Int) (par : Int × Int) (r : Bool) (c who role : Int) : Ev := ⟨0, 0, [0, 0, 0, 0, 0, 0, 0, 0], k, par.1, par.2, r, c, who, role⟩
def evZ0 : Ev := evK 0 (0, 0) false 0 0 0
def zC : List Value := [.int .u8 0, .int .u32 0, .int .u32 0, .int .u32 0, .int .u32 0, .int .u32 0, .int .u32 0, .int .u32 0, .int .u32 0, .int .u32 0, .int .u8 0, .int .u8 0, .int .u32 0, .bool false, .int .u8 0, .int .u8 0, .int .u8 0]
theorem zC_is : evZ0.cells = zC := rfl
theorem zC_one : ∀ v ∈ zC, v.oneCell' = true := aev_one evZ0
def evKC (k pa ps : Int) (r : Bool) (c who role : Int) : List Value := [.int .u8 0, .int .u32 0, .int .u32 0, .int .u32 0, .int .u32 0, .int .u32 0, .int .u32 0, .int .u32 0, .int .u32 0, .int .u32 0, .int .u8 k, .int .u8 pa, .int .u32 ps, .bool r, .int .u8 c, .int .u8 who, .int .u8 role]
theorem evKC_is (k pa ps : Int) (r : Bool) (c who role : Int) : (evK k (pa, ps) r c who role).cells = evKC k pa ps r c who role := rfl
def tellW (st : Ds) (a i c : Int) : Ev × Int := if forbN st a (decide (1 ≤ c) && decide (c ≤ 127)) 2 ≠ 0 then (evZ0, forbN st a (decide (1 ≤ c) && decide (c ≤ 127)) 2) else if (placeN st.N i).2.2 ≠ 0 then (evZ0, (placeN st.N i).2.2) else (nextE st a.toNat (evK 1 (placeN st.N i).1 (placeN st.N i).2.1 c 0 0), 0)
def tellE (st : Ds) (a i : Int) : Ev × Int := if forbN st a true 2 ≠ 0 then (evZ0, forbN st a true 2) else if atE (atN st.N i) ≠ 0 then (evZ0, atE (atN st.N i)) else (nextE st a.toNat (evK 2 (atD (atN st.N i)) false 0 0 0), 0)
def tellG (st : Ds) (a who role : Int) : Ev × Int := if forbN st a (decide (who < 8) && (decide (1 ≤ role) && decide (role ≤ 3))) 3 ≠ 0 then (evZ0, forbN st a (decide (who < 8) && (decide (1 ≤ role) && decide (role ≤ 3))) 3) else (nextE st a.toNat (evK 3 (0, 0) false 0 who role), 0)
def tellT (st : Ds) (a who : Int) : Ev × Int := if forbN st a (decide (who < 8)) 3 ≠ 0 then (evZ0, forbN st a (decide (who < 8)) 3) else (nextE st a.toNat (evK 4 (0, 0) false 0 who 0), 0)
theorem forbN_zero {st : Ds} {a : Int} {fit : Bool} {least : Int} (h : forbN st a fit least = 0) : a < 8 ∧ fit = true ∧ st.L.length < 512 ∧ least ≤ roleP st.B a st.S := by
  unfold forbN at h
  split at h
  · cases h
  · split at h
    · cases h
    · split at h
      · cases h
      · split at h
        · cases h
        · rename_i h1 h2 h3 h4
          exact ⟨by omega, by simpa using h2, by omega, by omega⟩
end Go.Proofs.Ytgmbmdmbnpkbbaa

