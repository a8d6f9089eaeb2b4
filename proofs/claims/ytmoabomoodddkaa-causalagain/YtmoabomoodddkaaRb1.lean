/- The reference's buffer: what it holds, New, Seen, Waiting, less. -/
import Derived.Test.YtmoabomoodddkaaBp
namespace Go.Proofs.Ytmoabomoodddkaa
open Go.RowKit Go.Shelf
set_option maxRecDepth 20000
set_option linter.unusedSimpArgs false
def refCells (S : List Int) (v : Value) : List Value := S.map (Value.int .u32) ++ [.int .i64 (sumS S), v]
structure RefC (w : World) (R : Nat) (S : List Int) (L : List Ev) (x : Option Addr) (c : Nat) : Prop where
  cells : CellsAt w R 68 (refCells S (.slice x L.length c))
  own : OwnI w 0 37 17 (.slice x L.length c) (L.map Ev.cells)
  len : S.length = 8
theorem ownNe {w : World} {B k t : Nat} {v : Value} {L : List (List Value)} (h : OwnI w B 37 17 v L) {cs : List Value} (hk : CellsAt w k t cs) (ht : t ≠ 37) : ∀ g, v.ownBlock = some g → g ≠ k := fun g hg e => by
  obtain ⟨_, _, cur, hc⟩ := h.blockLt g hg
  rw [e] at hc
  have hk' : w.heap[k]? = some (.cells cs.toArray t) := hk
  rw [hk'] at hc
  injection hc with hc
  injection hc with _ h2 _
  exact ht h2
theorem RefC.congr {w w' : World} {R : Nat} {S : List Int} {L : List Ev} {x : Option Addr} {c : Nat} (h : RefC w R S L x c) (h1 : w'.heap[R]? = w.heap[R]?) (h2 : ∀ g, (Value.slice x L.length c).ownBlock = some g → w'.heap[g]? = w.heap[g]?) : RefC w' R S L x c := ⟨h.cells.congr h1, h.own.congr h2, h.len⟩
theorem RefC.far {w w' : World} {R : Nat} {S : List Int} {L : List Ev} {x : Option Addr} {c : Nat} (h : RefC w R S L x c) (hb : Below w.heap.size w w') : RefC w' R S L x c := ⟨h.cells.farM hb, h.own.far hb, h.len⟩
theorem RefC.seenR {w : World} {R : Nat} {S : List Int} {L : List Ev} {x : Option Addr} {c : Nat} (h : RefC w R S L x c) : w.rangeAt R 0 (S.map (Value.int .u32)) := by
  have := h.cells.range 0 8
  unfold refCells at this
  rw [List.drop_zero, List.take_left' (by rw [List.length_map, h.len])] at this
  exact this
theorem RefC.manyC {w : World} {R : Nat} {S : List Int} {L : List Ev} {x : Option Addr} {c : Nat} (h : RefC w R S L x c) : w.cell? ⟨R, 8, none⟩ = some (.int .i64 (sumS S)) := by
  rw [h.cells.cell, refCells, List.getElem?_append_right (by rw [List.length_map, h.len]; exact Nat.le_refl _), List.length_map, h.len]; rfl
theorem RefC.waitC {w : World} {R : Nat} {S : List Int} {L : List Ev} {x : Option Addr} {c : Nat} (h : RefC w R S L x c) : w.cell? ⟨R, 9, none⟩ = some (.slice x L.length c) := by
  rw [h.cells.cell, refCells, List.getElem?_append_right (by rw [List.length_map, h.len]; omega), List.length_map, h.len]; rfl
set_option maxHeartbeats 4000000 in
theorem rnew_any (w : World) :
    Calls Try.prog 38 #[] w fun r w' => r = .returned (.pointer (some ⟨w.heap.size, 0, none⟩)) ∧ RefC w' w.heap.size [0, 0, 0, 0, 0, 0, 0, 0] [] none 0 ∧ Below w.heap.size w w' := by
  have hc := CellsAt.new w 68 [.int .u32 0, .int .u32 0, .int .u32 0, .int .u32 0, .int .u32 0, .int .u32 0, .int .u32 0, .int .u32 0, .int .i64 0, .slice none 0 0]
  have hb : Below w.heap.size w (w.alloc (.cells #[.int .u32 0, .int .u32 0, .int .u32 0, .int .u32 0, .int .u32 0, .int .u32 0, .int .u32 0, .int .u32 0, .int .i64 0, .slice none 0 0] 68)) := (Below.refl _ _).alloc (Nat.le_refl _) _
  have HEND : Veil (RefC (w.alloc (.cells #[.int .u32 0, .int .u32 0, .int .u32 0, .int .u32 0, .int .u32 0, .int .u32 0, .int .u32 0, .int .u32 0, .int .i64 0, .slice none 0 0] 68)) w.heap.size [0, 0, 0, 0, 0, 0, 0, 0] [] none 0) := ⟨⟨hc, OwnI.nil _ _ _ _, rfl⟩⟩
  clear hc
  go_enter Try.func38, Try.ntmps38
  go_wp2
  go_ret
  exact ⟨rfl, HEND.out, hb⟩
set_option maxHeartbeats 4000000 in
theorem rseen_any (R : Nat) (S : List Int) (L : List Ev) (x : Option Addr) (c : Nat) (w : World) (hC : RefC w R S L x c) :
    Calls Try.prog 40 #[.pointer (some ⟨R, 0, none⟩)] w fun r w' => r = .returned (.agg (S.map (Value.int .u32)).toArray) ∧ Below w.heap.size w w' := by
  have hz0 := CellsAt.new w 24 [.int .u32 0, .int .u32 0, .int .u32 0, .int .u32 0, .int .u32 0, .int .u32 0, .int .u32 0, .int .u32 0]
  have hB0 : Below w.heap.size w (w.alloc (.cells #[.int .u32 0, .int .u32 0, .int .u32 0, .int .u32 0, .int .u32 0, .int .u32 0, .int .u32 0, .int .u32 0] 24)) := (Below.refl _ _).alloc (Nat.le_refl _) _
  have hsr := (hC.far hB0).seenR
  have iV : (Try.prog.info? 24).map (·.size) = some (S.map (Value.int .u32)).length := by rw [List.length_map, hC.len]; exact sizeV8c
  have uV := Try.underlying24
  have HL8 : Veil (8 = (S.map (Value.int .u32)).length) := ⟨by rw [List.length_map, hC.len]⟩
  have h1 : ∀ v ∈ S.map (Value.int .u32), v.oneCell' = true := fun v hv => by obtain ⟨x, _, rfl⟩ := List.mem_map.1 hv; rfl
  have HB2 : Veil (Below w.heap.size w ((w.alloc (.cells #[.int .u32 0, .int .u32 0, .int .u32 0, .int .u32 0, .int .u32 0, .int .u32 0, .int .u32 0, .int .u32 0] 24)).setRow w.heap.size (S.map (Value.int .u32)).toArray)) := ⟨⟨rfl, rfl, rfl, by simp [World.setRow, World.putObj], fun k hk => (setRow_other _ _ _ _ (by omega)).trans (Below.heap_alloc w _ k hk)⟩⟩
  have HZ := Veil.mk (hz0.setRow (S.map (Value.int .u32)))
  generalize S.map (Value.int .u32) = SV at hsr iV HL8 h1 HB2 HZ ⊢
  clear hC
  go_enter Try.func40, Try.ntmps40
  go_wp2_with (first
    | (refine wpList_ldv rfl 24 _ rfl R 0 rfl SV hsr uV rfl iV ?_)
    | (refine wpList_stv rfl 24 _ _ rfl w.heap.size rfl rfl hz0 iV HL8.out h1 ?_))
  refine bodyPost_ret (results_cells (Try.results40) _ rfl HZ.out uV rfl iV) rfl ?_
  exact ⟨rfl, HB2.out⟩
theorem evOne (L : List Ev) : ∀ c ∈ L.map Ev.cells, ∀ u ∈ c, u.oneCell' = true := fun c hc u hu => by
  obtain ⟨e, _, rfl⟩ := List.mem_map.1 hc
  exact ev_one e u hu
set_option maxHeartbeats 8000000 in
theorem rless_any (a s a' s' : Int) (w : World) :
    Calls Try.prog 47 #[.agg (dotC a s).toArray, .agg (dotC a' s').toArray] w fun r w' => r = .returned (.bool (ltD (a, s) (a', s'))) ∧ Below w.heap.size w w' := by
  have HB : Veil (Below w.heap.size w ((w.alloc (.cells #[.int .u8 a, .int .u32 s] 26)).alloc (.cells #[.int .u8 a', .int .u32 s'] 26))) := ⟨((Below.refl _ _).alloc (Nat.le_refl _) _).alloc (by simp) _⟩
  have HL : Veil (ltD (a, s) (a', s') = (decide (a < a') || (decide (a = a') && decide (s < s')))) := ⟨rfl⟩
  generalize ltD (a, s) (a', s') = LL at HL ⊢
  unfold dotC
  go_enter Try.func47, Try.ntmps47
  by_cases h1 : a < a'
  · go_wp2
    go_ret
    exact ⟨by rw [HL.out]; simp [h1], HB.out⟩
  · by_cases h2 : a = a'
    · subst h2
      by_cases h3 : s < s'
      · go_wp2
        go_ret
        exact ⟨by rw [HL.out]; simp [h3], HB.out⟩
      · go_wp2
        go_ret
        exact ⟨by rw [HL.out]; simp [h3], HB.out⟩
    · have h2b : (a == a') = false := by simpa using h2
      go_wp2
      go_ret
      exact ⟨by rw [HL.out]; simp [h1, h2], HB.out⟩
end Go.Proofs.Ytmoabomoodddkaa
