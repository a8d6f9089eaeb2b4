/- The readers of wire: 'need', 'take'. -/
import Derived.Test.YtdfjfafhpjoilaaDoorWr1
import Derived.Test.YtdfjfafhpjoilaaDoorGd
import Derived.Defers
import Derived.Recover
import Derived.WalkLawsBesides
namespace Go.Proofs.YtdfjfafhpjoilaaDoor
open Go.RowKit
set_option maxRecDepth 20000
set_option linter.unusedSimpArgs false

/-- A body that panics, and defers nothing. -/
theorem bodyPost_gone {P : Program} {fn : Func} {R : Ending → World → Prop} {ch : List PanicEntry} {t : Array Value} {w : World} (h : R (.panicked ch) w) : bodyPost P fn R (.panic ch) ⟨t, []⟩ w := ⟨rfl, h⟩
/-- What a reader gives up with. -/
def wrongP : PanicEntry := { v := .iface 67 (.agg #[]), recovered := false }
set_option maxHeartbeats 1000000 in
theorem need_ok (w : World) : Calls Tryd.prog 21 #[.bool true] w fun e w' => (∃ r, e = .returned r) ∧ w = w' := by
  go_enter Tryd.func21, Tryd.ntmps21
  go_wp2
  go_end0
  exact ⟨⟨_, rfl⟩, rfl⟩
set_option maxHeartbeats 1000000 in
theorem need_bad (w : World) : Calls Tryd.prog 21 #[.bool false] w fun e w' => e = .panicked [wrongP] ∧ w = w' := by
  go_enter Tryd.func21, Tryd.ntmps21
  go_wp2
  exact bodyPost_gone ⟨rfl, rfl⟩
theorem Bytes.cut3 {w : World} {x : Option Addr} {len cap : Nat} {z : List Int} (hb : Bytes w x len cap z) (k : Nat) (hk : k ≤ len) : Bytes w (subA x k 0) k k (z.take k) := by
  have hz := hb.len_eq
  have hle := hb.le
  refine ⟨by rw [List.length_take]; omega, Nat.le_refl _, by have := hb.top; omega, ?_, ?_⟩
  · unfold subA
    split
    · intro _; omega
    · intro hn
      cases x with
      | none => have := hb.nil rfl; omega
      | some a => simp at hn
  · by_cases h0 : k = 0
    · exact .inl h0
    · rcases hb.at_ with h00 | ⟨b, off, hx, hc⟩
      · omega
      · refine .inr ⟨b, off, ?_, fun j hj => ?_⟩
        · unfold subA
          rw [if_neg (by omega), hx, Option.map_some, Addr.add_mid', Nat.zero_mul, Nat.add_zero]
        · rw [List.getElem?_take_of_lt hj]; exact hc j (by omega)
theorem run_cut_hm (w : World) (x : Option Addr) (len cap k : Nat) (hk : k ≤ cap) : (Instr.slice 22 (.slice x len cap) none (some (.int .i64 (k : Int))) (some (.int .i64 (k : Int)))).run Tryd.prog w = .ok (.slice (subA x k 0) k k) w := by
  rw [run_slice_hm w 22 x len cap elemB .i64 .i64 (k : Int) (k : Int) (by omega) (by omega) (by omega), sizeU8]
  simp [sliced, subA, Result.andThen]
/-- The reader behind R has still to read the bytes z, which lie below base, where nothing is written. -/
structure Rd (w : World) (R base : Nat) (z : List Int) : Prop where
  ge : base ≤ R
  has : ∃ x n c, Box w R 71 (.slice x n c) ∧ ∀ wx, Below base w wx → Bytes wx x n c z
/-- What stays while a reader reads: all below base, and every block but its own. -/
structure Took (w w' : World) (R base : Nat) : Prop where
  below : Below base w w'
  more : w.heap.size ≤ w'.heap.size
  kept : ∀ g, g < w.heap.size → g ≠ R → w'.heap[g]? = w.heap[g]?
theorem Took.refl (w : World) (R base : Nat) : Took w w R base := ⟨Below.refl _ _, Nat.le_refl _, fun _ _ _ => rfl⟩
theorem Took.trans {w w' w'' : World} {R base : Nat} (h : Took w w' R base) (h' : Took w' w'' R base) : Took w w'' R base := ⟨h.below.trans h'.below, Nat.le_trans h.more h'.more, fun g h1 h2 => by rw [h'.kept g (Nat.lt_of_lt_of_le h1 h.more) h2, h.kept g h1 h2]⟩
theorem Took.alloc {w : World} {R base : Nat} (hb : base ≤ w.heap.size) (o : Obj) : Took w (w.alloc o) R base := ⟨(Below.refl _ _).alloc hb _, by simp, fun g h1 _ => Below.heap_alloc w o g h1⟩
theorem Took.afar {w w' : World} {R base : Nat} (hb : base ≤ w.heap.size) (h : Below w.heap.size w w') : Took w w' R base := ⟨h.mono hb, h.size, fun g h1 _ => h.block g h1⟩
theorem Rd.size {w : World} {R base : Nat} {z : List Int} (h : Rd w R base z) : base ≤ w.heap.size := by
  obtain ⟨x, n, c, hb, _⟩ := h.has
  have := hb.lt
  have := h.ge
  omega
theorem Rd.lt {w : World} {R base : Nat} {z : List Int} (h : Rd w R base z) : R < w.heap.size := by
  obtain ⟨x, n, c, hb, _⟩ := h.has
  exact hb.lt
theorem Rd.afar {w w' : World} {R base : Nat} {z : List Int} (h : Rd w R base z) (hb : Below w.heap.size w w') : Rd w' R base z := by
  have hs := h.size
  obtain ⟨x, n, c, h1, h2⟩ := h.has
  refine ⟨h.ge, x, n, c, ?_, fun wx hx => h2 wx ((hb.mono hs).trans hx)⟩
  unfold Box at h1 ⊢
  rw [hb.block R (Array.getElem?_eq_some_iff.1 h1).1]; exact h1
theorem Rd.alloc {w : World} {R base : Nat} {z : List Int} (h : Rd w R base z) (o : Obj) : Rd (w.alloc o) R base z := h.afar ((Below.refl _ _).alloc (Nat.le_refl _) _)

set_option maxHeartbeats 2000000 in
theorem take_any (R base : Nat) (z : List Int) (k : Nat) (w : World) (hR : Rd w R base z) :
    Calls Tryd.prog 33 #[.pointer (some ⟨R, 0, none⟩), .int .i64 k] w fun e w' =>
      (k ≤ z.length ∧ ∃ x, e = .returned (.slice x k k) ∧ (∀ wx, Below base w' wx → Bytes wx x k k (z.take k)) ∧ Rd w' R base (z.drop k) ∧ Took w w' R base) ∨ (z.length < k ∧ e = .panicked [wrongP] ∧ Took w w' R base) := by
  have hge := hR.ge
  obtain ⟨x, n, c, hbx, hby⟩ := hR.has
  have hb0 := hby w (Below.refl _ _)
  have hn := hb0.len_eq
  have hle := hb0.le
  have htop := hb0.top
  have hc := hbx.cell
  have hf := hbx.frozen
  by_cases h : k ≤ n
  · have hki : (k : Int) ≤ (n : Int) := by omega
    have hc3 := fun wx => run_cut_hm wx x n c k (by omega)
    have hcl := fun wx => run_cut_l wx x n c k h
    have hnd := need_ok w
    have HB : Veil (∀ wx, Below base w wx → Bytes wx x n c z) := ⟨hby⟩
    have HN : Veil (n = z.length) := ⟨hn⟩
    clear hR hb0 hby hn
    go_enter Tryd.func33, Tryd.ntmps33
    go_wp2_with (go_at_call 21; refine hnd.mono ?_; rintro e w1 ⟨⟨r1, rfl⟩, rfl⟩)
    go_ret
    have hBs : Below base w (w.setCell ⟨R, 0, none⟩ (.slice (subA x c k) (n - k) (c - k))) := (Below.refl _ _).setCell hge _
    refine .inl ⟨by rw [← HN.out]; exact h, _, rfl, fun wx hx => (HB.out wx (hBs.trans hx)).cut3 k h, ⟨hge, _, _, _, hbx.set _, fun wx hx => ?_⟩, ⟨hBs, by simp [World.setCell], fun g h1 h2 => heap_setCell_other _ _ g _ h2⟩⟩
    have := (HB.out wx (hBs.trans hx)).cut k n h (Nat.le_refl _)
    rw [List.take_of_length_le (by rw [List.length_drop, HN.out]; exact Nat.le_refl _)] at this
    exact this
  · have hki : ¬ (k : Int) ≤ (n : Int) := by omega
    have hnd := need_bad w
    have HN : Veil (n = z.length) := ⟨hn⟩
    clear hR hb0 hby hn
    go_enter Tryd.func33, Tryd.ntmps33
    go_wp2_with (go_at_call 21; refine hnd.mono ?_; rintro e w1 ⟨rfl, rfl⟩)
    exact bodyPost_gone (.inr ⟨by rw [← HN.out]; omega, rfl, Took.refl _ _ _⟩)
end Go.Proofs.YtdfjfafhpjoilaaDoor
