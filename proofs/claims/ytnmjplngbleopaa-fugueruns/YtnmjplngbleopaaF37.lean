/- Fr9 Fr10 Fr11 Fr12 Fw1 Fw2 -/
import Derived.Test.YtnmjplngbleopaaF36
import Derived.Test.YtnmjplngbleopaaF33
import Derived.Test.YtnmjplngbleopaaF34
import Derived.Test.YtnmjplngbleopaaF26
import Derived.Test.YtnmjplngbleopaaF08
import Derived.Maps.RangeWalk
import Derived.Shelf.SlMaps.Clone
namespace Go.Proofs.Ytnmjplngbleopaa
open Go.RowKit Go.Shelf
set_option maxRecDepth 20000
set_option linter.unusedSimpArgs false
def NextAt (M : List (Int × Int)) (x : Int × Int) (k m : Nat) : Prop := (m = 0 ∧ ∀ j (hj : j < M.length), j < k → M[j] ≠ x) ∨ ∃ j, ∃ hj : j < M.length, j < k ∧ m = j + 1 ∧ M[j] = x
theorem NextAt.zero (M : List (Int × Int)) (x : Int × Int) : NextAt M x 0 0 := .inl ⟨rfl, fun j hj h => by omega⟩
theorem NextAt.yes {M : List (Int × Int)} {x : Int × Int} {k : Nat} (hk : k < M.length) (h : M[k] = x) : NextAt M x (k + 1) (k + 1) := .inr ⟨k, hk, by omega, rfl, h⟩
theorem NextAt.no {M : List (Int × Int)} {x : Int × Int} {k m : Nat} (hk : k < M.length) (h : M[k] ≠ x) (hm : NextAt M x k m) : NextAt M x (k + 1) m := by
  rcases hm with ⟨h1, h2⟩ | ⟨j, hj, h1, h2, h3⟩
  · refine .inl ⟨h1, fun j hj hjk => ?_⟩
    rcases Nat.lt_or_eq_of_le (Nat.le_of_lt_succ hjk) with q | q
    · exact h2 j hj q
    · subst q; exact h
  · exact .inr ⟨j, hj, by omega, h2, h3⟩
theorem NextAt.le {M : List (Int × Int)} {x : Int × Int} {k m : Nat} (h : NextAt M x k m) : m ≤ k := by rcases h with ⟨h1, _⟩ | ⟨j, hj, h1, h2, _⟩ <;> omega
theorem cellsSide : Try.prog.cellsOf 56 = 3 ∧ Try.prog.cellsOf 32 = 2 ∧ Try.prog.cellsOf 4 = 1 := by refine ⟨?_, ?_, ?_⟩ <;> kernel_rfl
theorem lits_bool_inv {t : TypeId} (hu : Try.prog.underlying t = some .bool) {d : Nat} {c : List Value} {L : List Lit} (h : Try.prog.keyLits d t c = some L) : ∃ b, c = [.bool b] := by
  cases d with
  | zero => cases h
  | succ d =>
    unfold Program.keyLits at h
    rw [hu] at h
    match c, h with
    | [.bool b], _ => exact ⟨b, rfl⟩
theorem lits_dot_inv {d : Nat} {c1 c2 : Value} {L : List Lit} (h : Try.prog.keyLits d 32 [c1, c2] = some L) : ∃ x, okDF x ∧ [c1, c2] = encF x := by
  cases d with
  | zero => cases h
  | succ m =>
    unfold Program.keyLits at h
    simp only [Try.underlying32, cellsDot.1, cellsDot.2.1, cellsDot.2.2] at h
    simp only [List.length_cons, List.length_nil, Nat.reduceAdd, true_and] at h
    split at h
    · simp only [List.mapM_cons, List.mapM_nil, List.drop_zero, List.take_succ_cons, List.take_zero, List.drop_succ_cons, cellsDot.2.1, cellsDot.2.2] at h
      cases h1 : Try.prog.keyLits m 5 [c1] with
      | none => rw [h1] at h; simp at h
      | some L1 =>
        cases h2 : Try.prog.keyLits m 30 [c2] with
        | none => rw [h1, h2] at h; simp at h
        | some L2 =>
          obtain ⟨a, ea, wa⟩ := lits_int_inv Try.underlying5 h1
          obtain ⟨s, es, ws⟩ := lits_int_inv Try.underlying30 h2
          injection ea with ea _
          injection es with es _
          subst ea es
          have w1 : (decide ((0 : Int) ≤ a) && decide (a ≤ 255)) = true := wa
          have w2 : (decide ((0 : Int) ≤ s) && decide (s ≤ 4294967295)) = true := ws
          simp only [Bool.and_eq_true, decide_eq_true_eq] at w1 w2
          exact ⟨(a, s), ⟨w1, w2⟩, rfl⟩
    · simp at h
theorem sideKey_inv {key : Value} {kl : Lit} (h : keyOf Try.prog 56 key = some kl) : ∃ x : { s : (Int × Int) × Bool // okS s }, key = .agg (sideC x.1).toArray := by
  obtain ⟨m, hm⟩ := typesBig
  unfold keyOf at h
  rw [Try.underlying56, hm] at h
  simp only at h
  split at h
  · rename_i hf
    obtain ⟨_, hf⟩ := Bool.and_eq_true_iff.1 hf
    cases key with
    | agg cs =>
      simp only [Value.formed, Try.underlying56, cellsSide.1] at hf
      obtain ⟨l⟩ := cs
      match l, hf with
      | [c1, c2, c3], _ =>
        simp only [Value.cells] at h
        unfold Program.keyLits at h
        simp only [Try.underlying56, cellsSide.1, cellsSide.2.1, cellsSide.2.2] at h
        simp only [List.length_cons, List.length_nil, Nat.reduceAdd, true_and] at h
        split at h
        · simp only [List.mapM_cons, List.mapM_nil, List.drop_zero, List.take_succ_cons, List.take_zero, List.drop_succ_cons, cellsSide.2.1, cellsSide.2.2] at h
          cases h1 : Try.prog.keyLits (m + 1) 32 [c1, c2] with
          | none => rw [h1] at h; simp at h
          | some L1 =>
            cases h2 : Try.prog.keyLits (m + 1) 4 [c3] with
            | none => rw [h1, h2] at h; simp at h
            | some L2 =>
              obtain ⟨x, hx, ex⟩ := lits_dot_inv h1
              obtain ⟨b, eb⟩ := lits_bool_inv Try.underlying4 h2
              refine ⟨⟨(x, b), hx⟩, ?_⟩
              unfold sideC
              simp only
              rw [← ex, ← eb]
              rfl
        · simp at h
    | _ => simp [Value.formed, Try.underlying56] at hf
  · cases h
theorem mapDotU8F : Try.prog.underlying 48 = some (.map 32 5) := by kernel_rfl
set_option maxHeartbeats 4000000 in
theorem cCloneF_any (b n : Nat) (M : Int × Int → Option Value) (w : World) (hM : MapX Try.prog 32 encDF okDF w b n M) :
    Calls Try.prog 17 #[.map (some b)] w fun e w' => e = .returned (.map (some w.heap.size)) ∧ MapX Try.prog 32 encDF okDF w' w.heap.size n M ∧ Below w.heap.size w w' := by
  obtain ⟨D, ⟨es, clock, hb, hrest⟩, hs, hD⟩ := hM
  have hq := fun w => run_eql_map_nil_sl (P := Try.prog) w 48 _ _ (some b) mapDotU8F
  go_enter Try.func17, Try.ntmps17
  go_wp2
  rw [run_callFunc_extern Try.func29 (by kernel_rfl) (by kernel_rfl) (by kernel_rfl) (e := Extern.MapsClone.clone) (by kernel_rfl), run_maps_clone_sl w 48 hb]
  simp only [Result.andThen]
  rw [Oper.upon_value]
  go_wp2
  rw [run_typeAssert_map_sl _ 48 _ _ _ _ mapDotU8F]
  simp only [Result.andThen]
  rw [Oper.upon_value]
  go_wp2
  go_ret
  exact ⟨rfl, ⟨D, ⟨es, clock, heap_alloc_new w _, hrest⟩, hs, hD⟩, (Below.refl _ _).alloc (Nat.le_refl _) _⟩
set_option maxHeartbeats 4000000 in
theorem dCloneF_any (base : Nat) (w : World) (u : Value) (Q : List (Int × Int)) (hu : OwnI w base 32 2 u (Q.map encF)) (hl : Q.length ≤ 1000) :
    Calls Try.prog 16 #[u] w fun e w' => ∃ v', e = .returned v' ∧ OwnI w' w.heap.size 32 2 v' (Q.map encF) ∧ Below w.heap.size w w' := by
  rcases hu.own.2 with ⟨rfl, h0⟩ | ⟨g, cap, cur, rfl, hbg, hrest⟩
  · have hL : Q.map encF = [] := List.length_eq_zero_iff.1 h0
    have hnil : ∀ wx : World, (binOp BinOp.eql 57 (.slice none 0 0) (.slice none 0 0)).run Try.prog wx = .ok (.bool true) wx := fun _ => by kernel_rfl
    rw [hL]
    clear hu hL h0
    go_enter Try.func16, Try.ntmps16
    go_wp2
    go_ret
    exact ⟨_, rfl, OwnI.nil _ _ _ _, Below.refl _ _⟩
  · have hB : Below w.heap.size w (w.alloc (.cells #[] 32)) := (Below.refl _ _).alloc (Nat.le_refl _) _
    have hE := OwnI.empty w 32 2
    have hu1 := hu.far hB
    have hone : ∀ c ∈ Q.map encF, ∀ u ∈ c, u.oneCell' = true := fun c hc u hu => by
      obtain ⟨q, _, rfl⟩ := List.mem_map.1 hc
      exact encF_one q u hu
    have hap := hE.apps (P := Try.prog) 57 57 Try.underlying57 infoD2 (by rfl) (by decide) (Q.map encF) hu.each hone base _ hu1 (by simp; omega) (by decide) (by simp)
    rw [List.nil_append] at hap
    have hnil : ∀ (n : Nat) (wx : World), (binOp BinOp.eql 57 (.slice (some ⟨g, 0, none⟩) n cap) (.slice none 0 0)).run Try.prog wx = .ok (.bool false) wx := fun _ _ => by kernel_rfl
    have HAP := Veil.mk hap
    generalize (Q.map encF).length = n at HAP hnil ⊢
    have hnl := hnil n
    clear hu hE hu1 hone hrest hnil hap
    go_enter Try.func16, Try.ntmps16
    go_wp2_with (at_builtin; obtain ⟨v1, w1, hr1, ho1, hg1, _⟩ := HAP.out; refine wpList_appx rfl _ _ 57 57 rfl _ _ _ _ rfl rfl hr1 ?_)
    go_ret
    refine ⟨_, rfl, ho1, ?_⟩
    exact hB.grown hg1 (by simp) (fun k hk => by cases hk; exact Nat.le_refl _)
structure ForkV (wr : World) (B : Nat) (N : List Nd) (left : Lit → Bool) (M : (Int × Int) × Bool → Option Value) (V : (Int × Int) × Bool → Value) : Prop where
  tab : ∀ s, okS s → ∀ l, keyOf Try.prog 56 (encS s) = some l → M s = if left l = true then none else sideM N V s
  yes : ∀ s, okS s → ∀ l, keyOf Try.prog 56 (encS s) = some l → left l = false → OwnI wr (B + 2) 32 2 (V s) ((kids N s).map encF)
  no : ∀ s, okS s → ∀ l, keyOf Try.prog 56 (encS s) = some l → left l = true ∨ kids N s = [] → V s = .slice none 0 0
  apart : ∀ s t, okS s → okS t → s ≠ t → ∀ k, (V s).ownBlock = some k → (V t).ownBlock ≠ some k
  lt : ∀ s, okS s → ∀ k, (V s).ownBlock = some k → B + 2 ≤ k ∧ k < wr.heap.size
theorem ForkV.start (wr : World) (B : Nat) (N : List Nd) (left : Lit → Bool) (V0 : (Int × Int) × Bool → Value) (h : ∀ s, okS s → ∀ l, keyOf Try.prog 56 (encS s) = some l → left l = (sideM N V0 s).isSome) : ForkV wr B N left (fun _ => none) (fun _ => .slice none 0 0) := by
  have key : ∀ s, okS s → ∀ l, keyOf Try.prog 56 (encS s) = some l → left l = false → kids N s = [] := fun s hs l hl h0 => by
    rw [h s hs l hl] at h0
    unfold sideM at h0
    split at h0
    · assumption
    · cases h0
  refine ⟨fun s hs l hl => ?_, fun s hs l hl h0 => ?_, fun _ _ _ _ _ => rfl, fun s t _ _ _ k hk => (by cases hk), fun s _ k hk => (by cases hk)⟩
  · cases hq : left l with
    | true => rfl
    | false => rw [if_neg (by simp)]; unfold sideM; rw [if_pos (key s hs l hl hq)]
  · rw [key s hs l hl h0]; exact OwnI.nil _ _ _ _
theorem ForkV.step {wr W' : World} {B : Nat} {N : List Nd} {left : Lit → Bool} {M : (Int × Int) × Bool → Option Value} {V : (Int × Int) × Bool → Value} (h : ForkV wr B N left M V) {s0 : (Int × Int) × Bool} (hs0 : okS s0) {l0 : Lit} (hl0 : keyOf Try.prog 56 (encS s0) = some l0) (hk0 : kids N s0 ≠ []) {v : Value} (hv : OwnI W' wr.heap.size 32 2 v ((kids N s0).map encF)) (hB : B + 2 ≤ wr.heap.size) (hkeep : ∀ k, B + 2 ≤ k → k < wr.heap.size → W'.heap[k]? = wr.heap[k]?) (hz : wr.heap.size ≤ W'.heap.size) :
    ForkV W' B N (fun z => left z && !z.sameKey l0) (putG M s0 v) (putV V s0 v) := by
  have same : ∀ s, okS s → ∀ l, keyOf Try.prog 56 (encS s) = some l → s ≠ s0 → (left l && !l.sameKey l0) = left l := fun s hs l hl hne => by
    have : l ≠ l0 := fun e => hne (keyEncS.lit_inj hs hs0 hl (by rw [e]; exact hl0))
    rw [Maps.sameKey_ne this]; simp
  have self : ∀ l, keyOf Try.prog 56 (encS s0) = some l → (left l && !l.sameKey l0) = false := fun l hl => by
    rw [hl0] at hl
    injection hl with hl
    subst hl
    have : l0.sameKey l0 = true := WideAt.sameKey_self (keyEncS.keyed.key hl0)
    rw [this]; simp
  have vother : ∀ s, s ≠ s0 → putV V s0 v s = V s := fun s hne => by unfold putV; rw [if_neg hne]
  have vself : putV V s0 v s0 = v := by unfold putV; rw [if_pos rfl]
  have ownV : ∀ s, okS s → ∀ k, (V s).ownBlock = some k → W'.heap[k]? = wr.heap[k]? := fun s hs k hk => by obtain ⟨h1, h2⟩ := h.lt s hs k hk; exact hkeep k h1 h2
  refine ⟨fun s hs l hl => ?_, fun s hs l hl h0 => ?_, fun s hs l hl h0 => ?_, fun s t hs ht hne k hk => ?_, fun s hs k hk => ?_⟩
  · by_cases e : s = s0
    · subst e
      have := self l hl
      simp only [this, Bool.false_eq_true, if_false]
      unfold putG sideM
      rw [if_pos rfl, if_neg hk0, vself]
    · have := same s hs l hl e
      simp only [this]
      have h1 : sideM N (putV V s0 v) s = sideM N V s := by unfold sideM; rw [vother s e]
      rw [h1, ← h.tab s hs l hl]
      unfold putG; rw [if_neg e]
  · by_cases e : s = s0
    · subst e
      rw [vself]
      exact hv.less hB
    · rw [vother s e]
      have h1 := same s hs l hl e
      rw [h1] at h0
      exact (h.yes s hs l hl h0).congr (ownV s hs)
  · by_cases e : s = s0
    · subst e
      have h1 := self l hl
      rw [h1] at h0
      rcases h0 with q | q
      · cases q
      · exact absurd q hk0
    · rw [vother s e]
      have h1 := same s hs l hl e
      rw [h1] at h0
      exact h.no s hs l hl h0
  · by_cases e : s = s0
    · by_cases e2 : t = s0
      · exact absurd (e.trans e2.symm) hne
      · rw [vother t e2]
        rw [e, vself] at hk
        intro q
        have h1 := (h.lt t ht k q).2
        have h2 := (hv.blockLt k hk).2.1
        omega
    · rw [vother s e] at hk
      by_cases e2 : t = s0
      · rw [e2, vself]
        intro q
        have h1 := (h.lt s hs k hk).2
        have h2 := (hv.blockLt k q).2.1
        omega
      · rw [vother t e2]; exact h.apart s t hs ht hne k hk
  · by_cases e : s = s0
    · rw [e, vself] at hk
      have h2 := hv.blockLt k hk
      exact ⟨by omega, h2.1⟩
    · rw [vother s e] at hk
      obtain ⟨h1, h2⟩ := h.lt s hs k hk
      exact ⟨h1, by omega⟩
end Go.Proofs.Ytnmjplngbleopaa
