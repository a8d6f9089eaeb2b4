/- 'Pad' of wire. -/
import Derived.Test.YtgeiiadlchimhaaDoorWr4
import Derived.Test.YtgeiiadlchimhaaDoorWb1
namespace Go.Proofs.YtgeiiadlchimhaaDoor
open Go.RowKit
set_option maxRecDepth 20000
set_option linter.unusedSimpArgs false

theorem bktL_in (n : Int) : ∀ l : List Int, (∀ b ∈ l, 128 ≤ b ∧ b ≤ 4096) → bktL n l = 0 ∨ (n + 2 ≤ bktL n l ∧ 128 ≤ bktL n l ∧ bktL n l ≤ 4096)
  | [], _ => .inl rfl
  | b :: l, h => by
    unfold bktL
    by_cases hb : n ≤ b - 2
    · rw [if_pos hb]
      have := h b (by simp)
      exact .inr ⟨by omega, this.1, this.2⟩
    · rw [if_neg hb]
      exact bktL_in n l (fun x hx => h x (List.mem_cons_of_mem _ hx))
theorem bucketN_in (n : Nat) : ∃ s : Nat, bucketN n = (s : Int) ∧ (s = 0 ∨ (n + 2 ≤ s ∧ 128 ≤ s ∧ s ≤ 4096)) := by
  have h : bucketN n = bktL n bTab := by unfold bucketN; rw [if_neg (by omega)]
  rw [h]
  rcases bktL_in n bTab (by decide) with h0 | h1
  · exact ⟨0, h0, .inl rfl⟩
  · exact ⟨(bktL n bTab).toNat, by omega, .inr ⟨by omega, by omega, by omega⟩⟩
/-- Bytes that are filled up to s. -/
def padL (z : List Int) (s : Nat) : List Int := be2 z.length ++ z ++ List.replicate (s - (z.length + 2)) 0
theorem padL_length (z : List Int) (s : Nat) (h : z.length + 2 ≤ s) : (padL z s).length = s := by
  unfold padL; simp [be2]; omega
set_option maxHeartbeats 4000000 in
theorem Pad_none (x : Option Addr) (len cap : Nat) (z : List Int) (w : World) (hT : BTab w) (hb : Bytes w x len cap z) (h0 : bucketN len = 0) :
    Calls Tryd.prog 4 #[.slice x len cap] w fun e w' => e = .returned (.tuple #[.slice none 0 0, .int .i64 2]) ∧ Below w.heap.size w w' := by
  have hbk := bucket_any len w hT
  rw [h0] at hbk
  have hle := hb.le
  have htop := hb.top
  clear hb h0 hT
  go_enter Tryd.func4, Tryd.ntmps4
  go_wp2_with (go_at_call 10; refine hbk.mono ?_; rintro e w1 ⟨rfl, rfl⟩)
  go_ret2
  exact ⟨rfl, Below.refl _ _⟩
set_option maxHeartbeats 4000000 in
theorem Pad_any (x : Option Addr) (len cap : Nat) (z : List Int) (w : World) (hT : BTab w) (hb : Bytes w x len cap z) (s : Nat) (hs : bucketN len = (s : Int)) (hs1 : len + 2 ≤ s) (hs2 : s ≤ 4096) :
    Calls Tryd.prog 4 #[.slice x len cap] w fun e w' => ∃ v, e = .returned (.tuple #[v, .int .i64 0]) ∧ OwnB w' w.heap.size v (padL z s) ∧ Below w.heap.size w w' := by
  have hbk := bucket_any len w hT
  rw [hs] at hbk
  have hs0 : ¬ (s : Int) = 0 := by omega
  have hle := hb.le
  have htop := hb.top
  have HBL : Veil (z.length = len) := ⟨hb.len_eq.symm⟩
  have hbody := fun wx (h : Below w.heap.size w wx) => hb.below h
  have hbx : Box (w.alloc (.cells #[.slice none 0 0] 47)) w.heap.size 47 (.slice none 0 0) := heap_alloc_new _ _
  have hW1 : Wr (w.alloc (.cells #[.slice none 0 0] 47)) w.heap.size w.heap.size [] := ⟨Nat.le_refl _, _, hbx, OwnB.nil _ _⟩
  have hB1 : Below w.heap.size w (w.alloc (.cells #[.slice none 0 0] 47)) := (Below.refl _ _).alloc (Nat.le_refl _) _
  clear hb hs hT hbx
  go_enter Tryd.func4, Tryd.ntmps4
  go_upto_region 5 with (go_at_call 10; refine hbk.mono ?_; rintro e w1 ⟨rfl, rfl⟩)
  refine forget (p := fun y => Code.wp _ _ _ _ y) (fun W1 => Below w.heap.size w W1 ∧ Wr W1 w.heap.size w.heap.size []) ⟨hB1, hW1⟩ ?_
  clear hB1 hW1 hbk
  rintro W1 ⟨hB1, hW1⟩
  have htw := two_any w.heap.size w.heap.size [] len W1 hW1 (by simp)
  rw [List.nil_append] at htw
  go_upto_region 6 with (go_at_call 11; refine htw.mono ?_; rintro e w2 ⟨⟨r2, rfl⟩, hW2, hg2⟩)
  have hB2 : Below w.heap.size w w2 := hB1.trans hg2.below
  have hpt := put_any w.heap.size w.heap.size (be2 len) x len cap z w2 hW2 (hbody w2 hB2) (by simp [be2]; omega)
  clear htw hB1 hW1 hg2
  go_upto_region 7 with (go_at_call 12; refine hpt.mono ?_; rintro e w3 ⟨⟨r3, rfl⟩, hW3, hg3⟩)
  have hB3 : Below w.heap.size w w3 := hB2.trans hg3.below
  have hl3 : (be2 len ++ z).length = len + 2 := by rw [List.length_append, HBL.out]; simp [be2]; omega
  have hzr := wzeros_any w.heap.size w.heap.size (be2 len ++ z) (s - (len + 2)) w3 hW3 (by omega) (by omega)
  obtain ⟨v3, hb3, ho3⟩ := hW3.has
  have c3 := hb3.cell
  obtain ⟨x3, n3, k3, rfl, hn3⟩ := ho3.isSlice
  rw [hl3] at hn3
  subst hn3
  have hwr : IntKind.i64.wrap ((s : Int) - ((len + 2 : Nat) : Int)) = ((s - (len + 2) : Nat) : Int) := by rw [IntKind.wrap_i64]; omega
  obtain ⟨d, hd⟩ : ∃ q, s - (len + 2) = q := ⟨_, rfl⟩
  have HD : Veil (s - (len + 2) = d) := ⟨hd⟩
  rw [hd] at hzr hwr
  obtain ⟨m, hm⟩ : ∃ q, len + 2 = q := ⟨_, rfl⟩
  rw [hm] at hwr c3
  have hm1 : m ≤ 4096 := by omega
  clear hpt hB2 hW2 hg3 hW3 hb3 ho3 hl3 hd hs1 hm
  go_upto_region 8 with (go_at_call 13; refine hzr.mono ?_; rintro e w4 ⟨⟨r4, rfl⟩, hW4, hg4⟩)
  obtain ⟨v4, hb4, ho4⟩ := hW4.has
  have c4 := hb4.cell
  have hB4 : Below w.heap.size w w4 := hB3.trans hg4.below
  obtain ⟨x4, n4, k4, rfl, hn4⟩ := ho4.isSlice
  clear hn4 hzr hW4 hb4 hg4 hB3 c3 hwr
  go_wp2
  go_ret2
  refine ⟨_, rfl, ?_, hB4⟩
  unfold padL
  rw [HBL.out, HD.out]
  exact ho4
/-- Both ways. -/
theorem Pad_both (x : Option Addr) (len cap : Nat) (z : List Int) (w : World) (hT : BTab w) (hb : Bytes w x len cap z) (s : Nat) (hs : bucketN len = (s : Int)) (h : s = 0 ∨ (len + 2 ≤ s ∧ s ≤ 4096)) :
    Calls Tryd.prog 4 #[.slice x len cap] w fun e w' => ∃ x' n' c', e = .returned (.tuple #[.slice x' n' c', .int .i64 (if s = 0 then 2 else 0)]) ∧ Bytes w' x' n' c' (if s = 0 then [] else padL z s) ∧ Below w.heap.size w w' := by
  rcases h with rfl | ⟨h1, h2⟩
  · simp only [if_true]
    exact (Pad_none x len cap z w hT hb hs).mono fun e w' ⟨h1, h2⟩ => ⟨none, 0, 0, h1, bytes_nil _, h2⟩
  · rw [if_neg (by omega), if_neg (by omega)]
    exact (Pad_any x len cap z w hT hb s hs h1 h2).mono fun e w' ⟨v, h1, h2, h3⟩ => by
      obtain ⟨x, n, c, rfl, _⟩ := h2.isSlice
      exact ⟨x, n, c, h1, h2.bytes.2, h3⟩
end Go.Proofs.YtgeiiadlchimhaaDoor
