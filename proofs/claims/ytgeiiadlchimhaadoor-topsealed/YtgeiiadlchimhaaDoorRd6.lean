/- 'Unpad' of wire; bytes that were filled up are read again. -/
import Derived.Test.YtgeiiadlchimhaaDoorRd5
namespace Go.Proofs.YtgeiiadlchimhaaDoor
open Go.RowKit
set_option maxRecDepth 20000
set_option linter.unusedSimpArgs false

/-- What 'Unpad' says: bytes, and an error. -/
noncomputable def unpB (z : List Int) : List Int := open Classical in if unpadOk z then unpadL z else []
noncomputable def unpE (z : List Int) : Int := open Classical in if unpadOk z then 0 else 3
set_option maxHeartbeats 2000000 in
theorem Unpad_any (x : Option Addr) (n c : Nat) (z : List Int) (w : World) (hT : BTab w) (hb : Bytes w x n c z) (hz : ∀ v ∈ z, b8 v) (hl : z.length ≤ 1000000) :
    Calls Tryd.prog 8 #[.slice x n c] w fun e w' => ∃ x' n' c', e = .returned (.tuple #[.slice x' n' c', .int .i64 (unpE z)]) ∧ Bytes w' x' n' c' (unpB z) ∧ Below w.heap.size w w' := by
  have hrd : Calls Tryd.prog 19 #[.slice x n c, .func (.func 20) #[] #[]] w fun e w' => ∃ x' n' c', e = .returned (.tuple #[.slice x' n' c', .int .i64 (unpE z)]) ∧ Bytes w' x' n' c' (unpB z) ∧ Below w.heap.size w w' := (readB_any x n c z w hT hb hz hl).mono fun e w' h => by
    rcases h with ⟨h0, x', n', c', h1, h2, h3⟩ | ⟨h0, h1, h2⟩
    · unfold unpE unpB
      rw [if_pos h0, if_pos h0]
      exact ⟨x', n', c', h1, h2.bytes.2, h3⟩
    · unfold unpE unpB
      rw [if_neg h0, if_neg h0]
      exact ⟨none, 0, 0, h1, bytes_nil _, h2⟩
  obtain ⟨E, hE⟩ : ∃ q, unpE z = q := ⟨_, rfl⟩
  obtain ⟨U, hU⟩ : ∃ q, unpB z = q := ⟨_, rfl⟩
  rw [hE, hU] at hrd ⊢
  clear hT hb hz hl hE hU
  go_enter Tryd.func8, Tryd.ntmps8
  go_wp2_with (go_at_call 19; refine hrd.mono ?_; rintro e w1 ⟨x1, n1, c1, rfl, hy1, hb1⟩)
  go_ret2
  exact ⟨x1, n1, c1, rfl, hy1, hb1⟩
theorem be2_told (n : Nat) (hn : n ≤ 65535) (r : List Int) : toldN (be2 n ++ r) = n := by
  show (val2 ((n : Int) / 256 % 256) ((n : Int) % 256)).toNat = n
  unfold val2; omega
theorem padL_ok (z : List Int) (s : Nat) (h1 : z.length ≤ 65535) (h2 : z.length + 2 ≤ s) (h3 : bucketN z.length = (s : Int)) : unpadOk (padL z s) ∧ unpadL (padL z s) = z := by
  have hl := padL_length z s h2
  have e : padL z s = be2 z.length ++ (z ++ List.replicate (s - (z.length + 2)) 0) := by unfold padL; rw [List.append_assoc]
  have ht : toldN (padL z s) = z.length := by rw [e]; exact be2_told z.length h1 _
  have hb : (be2 (z.length : Int)).length = 2 := rfl
  refine ⟨⟨by omega, by rw [ht, hl, h3], fun j hj => ?_⟩, ?_⟩
  · have hd : (padL z s).drop (2 + z.length) = List.replicate (s - (z.length + 2)) 0 := by
      rw [e, ← List.drop_drop, List.drop_left' hb, List.drop_left' rfl]
    rw [ht, hd]
    by_cases hj' : j < s - (z.length + 2)
    · rw [List.getElem?_replicate_of_lt hj']; rfl
    · rw [List.getElem?_eq_none (by simp; omega)]; rfl
  · unfold unpadL
    rw [ht, e, List.drop_left' hb, List.take_left' rfl]
theorem padL_in (z : List Int) (s : Nat) (hz : ∀ v ∈ z, b8 v) : ∀ v ∈ padL z s, b8 v := by
  intro v hv
  unfold padL be2 at hv
  simp only [List.mem_append, List.mem_cons, List.not_mem_nil, or_false, List.mem_replicate] at hv
  rcases hv with ((rfl | rfl) | h) | ⟨_, rfl⟩
  · constructor <;> omega
  · constructor <;> omega
  · exact hz v h
  · exact ⟨by decide, by decide⟩
theorem bucketN_none (n : Nat) (h : bucketN n = 0) : 4094 < n := by
  unfold bucketN at h
  rw [if_neg (by omega)] at h
  simp only [bTab, bktL] at h
  repeat' (split at h)
  all_goals omega
end Go.Proofs.YtgeiiadlchimhaaDoor
