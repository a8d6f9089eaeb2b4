/- The readers of wire: a key. -/
import Derived.Test.YtdfjfafhpjoilaaDoorRe3
import Derived.Laws.Cover3
namespace Go.Proofs.YtdfjfafhpjoilaaDoor
open Go.RowKit
set_option maxRecDepth 20000
set_option linter.unusedSimpArgs false

/-- Numbers as cells of bytes. -/
def byC (l : List Int) : List Value := l.map (Value.int .u8)
theorem byC_length (l : List Int) : (byC l).length = l.length := by simp [byC]
theorem byC_one (l : List Int) : ∀ v ∈ byC l, v.oneCell' = true := by
  intro v hv
  obtain ⟨x, _, rfl⟩ := List.mem_map.1 hv
  rfl
def keyZ : List Int := List.replicate 32 0
theorem bytes_range {w : World} {x : Option Addr} {n c : Nat} {z : List Int} (h : Bytes w x n c z) (h0 : 0 < n) : ∃ b off, x = some ⟨b, off, none⟩ ∧ w.rangeAt b off (byC z) := by
  rcases h.at_ with h1 | ⟨b, off, hx, hc⟩
  · omega
  · refine ⟨b, off, hx, fun j v hv => ?_⟩
    unfold byC at hv
    rw [List.getElem?_map] at hv
    cases hq : z[j]? with
    | none => simp [hq] at hv
    | some y =>
      have hj : j < z.length := (List.getElem?_eq_some_iff.1 hq).1
      rw [hc j (by rw [h.len_eq]; exact hj), hq]
      simpa [hq] using hv
theorem sizeKey32 : (Tryd.prog.info? 27).map (·.size) = some 32 := by kernel_rfl
set_option maxHeartbeats 4000000 in
theorem rkey_at (R base : Nat) (z : List Int) (o : Nat) (w : World) (hR : Rd w R base (z.drop o)) :
    Calls Tryd.prog 25 #[.pointer (some ⟨R, 0, none⟩)] w fun e w' =>
      (o + 32 ≤ z.length ∧ e = .returned (.agg (byC ((z.drop o).take 32)).toArray) ∧ Rd w' R base (z.drop (o + 32)) ∧ Took w w' R base) ∨ (z.length < o + 32 ∧ e = .panicked [wrongP] ∧ Took w w' R base) := by
  have hlt := hR.lt
  have hsz := hR.size
  have htk := fun wx (h : Rd wx R base (z.drop o)) => take_any R base (z.drop o) 32 wx h
  have HL : Veil ((z.drop o).length = z.length - o) := ⟨List.length_drop⟩
  have HD : Veil ((z.drop o).drop 32 = z.drop (o + 32)) := ⟨by rw [List.drop_drop]⟩
  have hG0 := CellsAt.new w 27 (byC keyZ)
  have hR0 := hR.alloc (.cells (byC keyZ).toArray 27)
  have hT0 : Took w (w.alloc (.cells (byC keyZ).toArray 27)) R base := Took.alloc hsz _
  have haa : ∀ (wx : World) (x : Option Addr), (Instr.arrayAt 27 (.slice x 32 32)).run Tryd.prog wx = .ok (.pointer x) wx := fun wx x => run_arrayAt wx 27 5 32 x 32 32 Tryd.underlying27 (Nat.le_refl _)
  have r1 : base ≤ w.heap.size := hsz
  have r2 : R ≠ w.heap.size := by omega
  obtain ⟨K, hK⟩ : ∃ q, (z.drop o).take 32 = q := ⟨_, rfl⟩
  have HKL : Veil (o + 32 ≤ z.length → K.length = 32) := ⟨fun h => by rw [← hK, List.length_take, List.length_drop]; omega⟩
  obtain ⟨zo, hzo⟩ : ∃ q, z.drop o = q := ⟨_, rfl⟩
  rw [hzo] at hR0 htk HL HD hK
  rw [hzo, hK]
  rw [hK] at htk
  have iZ : (byC keyZ).length = 32 := rfl
  clear hR hzo hK
  go_enter Tryd.func25, Tryd.ntmps25
  go_upto_region 1 with fail
  refine forget (p := fun y => Code.wp _ _ _ _ y) (fun W => Rd W R base zo ∧ Took w W R base ∧ CellsAt W w.heap.size 27 (byC keyZ)) ⟨hR0, hT0, hG0⟩ ?_
  clear hR0 hT0 hG0
  rintro W ⟨hR0, hT0, hG0⟩
  have h1W := htk W hR0
  clear htk
  by_cases k0 : o + 32 ≤ z.length
  rotate_left
  · have k1 : zo.length < 32 := by have := HL.out; omega
    go_wp2_with (go_at_call 33; refine h1W.mono ?_; rintro e wB (⟨hx, _⟩ | ⟨_, rfl, htB⟩); (exfalso; omega))
    exact bodyPost_gone (.inr ⟨by omega, rfl, hT0.trans htB⟩)
  have k1 : 32 ≤ zo.length := by have := HL.out; omega
  have hKL := HKL.out k0
  have iK : (Tryd.prog.info? 27).map (·.size) = some (byC K).length := by rw [byC_length, hKL]; exact sizeKey32
  have hlK : (byC keyZ).length = (byC K).length := by rw [byC_length, byC_length, hKL]; rfl
  have h1K := byC_one K
  have HB : Veil (∀ (w' : World) (x : Option Addr), Bytes w' x 32 32 K → ∃ b off, x = some ⟨b, off, none⟩ ∧ w'.rangeAt b off (byC K)) := ⟨fun w' x h => bytes_range h (by omega)⟩
  clear hKL iZ
  go_wp2_with (first
    | (go_at_call 33; refine h1W.mono ?_; rintro e w1 (⟨_, x, rfl, hy, hR1, ht1⟩ | ⟨hx, _⟩); rotate_left; (exfalso; omega); obtain ⟨b, off, rfl, hrg⟩ := HB.out _ _ (hy _ (Below.refl _ _)); have hH := hG0.took ht1 (by omega); clear hy)
    | (refine wpList_ldv rfl 27 _ rfl _ _ rfl (byC K) hrg Tryd.underlying27 rfl iK ?_)
    | (refine wpList_stv rfl 27 _ _ rfl _ rfl rfl hH iK hlK h1K ?_))
  refine bodyPost_ret (results_cell_row Tryd.results25 _ _ _ _ _ (0, 0) _ rfl (hH.setRow (byC K)) Tryd.underlying27 rfl (by rw [iK]; simp)) rfl ?_
  rw [HD.out] at hR1
  exact .inl ⟨k0, rfl, hR1.setRowO _ r1 r2, (hT0.trans ht1).setRowO _ (Nat.le_refl _) r1⟩
end Go.Proofs.YtdfjfafhpjoilaaDoor
