/- De0 Alv Rk0 -/
import Derived.Test.YtmbdohnmbkpfaaaGreatU26
import Derived.Test.YtmbdohnmbkpfaaaGreatU21
import Derived.Test.YtmbdohnmbkpfaaaGreatU07
import Derived.Test.YtmbdohnmbkpfaaaGreatU08
namespace Go.Proofs.YtmbdohnmbkpfaaaGreat
def cntL (L : List Ent) : List Ent := L.filter (fun x => x.2)
theorem told_cnt (L : List Ent) (who : Int) (v : List Int) : toldL (cntL L) who v = toldL L who v := by
  unfold toldL cntL
  rw [List.filter_filter]
  congr 1
  refine List.filter_congr fun x _ => ?_
  cases x.2 <;> simp
theorem role_cnt (L : List Ent) (who : Int) (v : List Int) : roleP (cntL L) who v = roleP L who v := by
  unfold roleP
  rw [told_cnt]
theorem cnt_app (L : List Ent) (e : Ev) (b : Bool) : cntL (L ++ [(e, b)]) = if b = true then cntL L ++ [(e, true)] else cntL L := by
  unfold cntL
  rw [List.filter_append]
  cases b <;> simp
theorem cnt_look {L : List Ent} {d : Int × Int} (h : lookB L d = none) : lookB (cntL L) d = none := lookB_none.2 fun x hx => lookB_none.1 h x (List.mem_filter.1 hx).1
theorem cnt_len (L : List Ent) : (cntL L).length ≤ L.length := List.length_filter_le _ _
theorem role_three (L : List Ent) (who : Int) (v : List Int) (h : ∀ x ∈ L, x.1.role ≤ 3) : roleP L who v ≤ 3 := by
  have hall : ∀ e ∈ lastL (toldL L who v), e.role ≤ 3 := fun e he => by
    have h1 := (List.mem_filter.1 he).1
    unfold toldL at h1
    obtain ⟨y, hy, rfl⟩ := List.mem_map.1 h1
    exact h y (List.mem_filter.1 hy).1
  have key : ∀ (l : List Ev) (s : Int × Bool), s.1 ≤ 3 → (∀ e ∈ l, e.role ≤ 3) → (l.foldl leastS s).1 ≤ 3 := fun l => by
    induction l with
    | nil => exact fun s hs _ => hs
    | cons e l ih =>
      intro s hs hl
      refine ih _ ?_ (fun x hx => hl x (by simp [hx]))
      unfold leastS
      split
      · exact hl e (by simp)
      · exact hs
  unfold roleP
  split
  · omega
  · split
    · exact key _ (0, false) (by decide) hall
    · split <;> omega
open Go.RowKit Go.Shelf
set_option maxRecDepth 20000
set_option linter.unusedSimpArgs false
structure RefB (B : Nat) (w : World) (R : Nat) (L : List Ent) (x : Option Addr) (c : Nat) (bx : Option Addr) (bc : Nat) : Prop where
  cells : CellsAt w R 85 [.slice x L.length c, .slice bx L.length bc]
  ev : OwnI w B 44 17 (.slice x L.length c) (L.map (fun e => e.1.cells))
  bo : OwnI w B 4 1 (.slice bx L.length bc) (L.map (fun e => [Value.bool e.2]))
theorem ownNeA {w : World} {B k t u s : Nat} {v : Value} {L : List (List Value)} (h : OwnI w B u s v L) {cs : List Value} (hk : CellsAt w k t cs) (ht : t ≠ u) : ∀ g, v.ownBlock = some g → g ≠ k := fun g hg e => by
  obtain ⟨_, _, cur, hc⟩ := h.blockLt g hg
  rw [e] at hc
  have hk' : w.heap[k]? = some (.cells cs.toArray t) := hk
  rw [hk'] at hc
  injection hc with hc
  injection hc with _ h2 _
  exact ht h2
theorem ownNeB {w : World} {B B' t u s s' : Nat} {v v' : Value} {L L' : List (List Value)} (h : OwnI w B u s v L) (h' : OwnI w B' t s' v' L') (ht : t ≠ u) : ∀ g g', v.ownBlock = some g → v'.ownBlock = some g' → g ≠ g' := fun g g' hg hg' e => by
  obtain ⟨_, _, cur, hc⟩ := h.blockLt g hg
  obtain ⟨_, _, cur', hc'⟩ := h'.blockLt g' hg'
  rw [e, hc'] at hc
  injection hc with hc
  injection hc with _ h2 _
  exact ht h2
theorem RefB.congr {B : Nat} {w w' : World} {R : Nat} {L : List Ent} {x bx : Option Addr} {c bc : Nat} (h : RefB B w R L x c bx bc) (h1 : w'.heap[R]? = w.heap[R]?) (h2 : ∀ g, (Value.slice x L.length c).ownBlock = some g → w'.heap[g]? = w.heap[g]?) (h3 : ∀ g, (Value.slice bx L.length bc).ownBlock = some g → w'.heap[g]? = w.heap[g]?) : RefB B w' R L x c bx bc := ⟨h.cells.congr h1, h.ev.congr h2, h.bo.congr h3⟩
theorem RefB.far {B : Nat} {w w' : World} {R : Nat} {L : List Ent} {x bx : Option Addr} {c bc : Nat} (h : RefB B w R L x c bx bc) (hb : Below w.heap.size w w') : RefB B w' R L x c bx bc := ⟨h.cells.farM hb, h.ev.far hb, h.bo.far hb⟩
def GoodB (L : List Ent) : Prop := ∀ x ∈ L, x.1.Ok ∧ rightB x.1 = true ∧ (x.1.kind = 3 ∨ x.1.kind = 4)
theorem good_role {e : Ev} (hr : rightB e = true) (hk : e.kind = 3 ∨ e.kind = 4) : 0 ≤ e.role ∧ e.role ≤ 3 ∧ (e.kind = 4 ↔ e.role = 0) ∧ e.who < 8 := by
  have h := (Bool.and_eq_true_iff.1 hr).2
  unfold rightKB at h
  rcases hk with k | k
  · rw [if_neg (by omega), if_neg (by omega), if_pos k] at h
    simp only [Bool.and_eq_true, decide_eq_true_eq] at h
    refine ⟨by omega, by omega, ⟨fun q => by omega, fun q => by omega⟩, h.1.1.1⟩
  · rw [if_neg (by omega), if_neg (by omega), if_neg (by omega), if_pos k] at h
    simp only [Bool.and_eq_true, decide_eq_true_eq, beq_iff_eq] at h
    refine ⟨by omega, by omega, ⟨fun q => h.1.2, fun q => k⟩, h.1.1⟩
theorem GoodB.add {L : List Ent} (h : GoodB L) (e : Ev) (he : e.Ok) : GoodB (addB L e) := by
  unfold addB
  split
  · rename_i h0
    intro x hx
    rcases List.mem_append.1 hx with q | q
    · exact h x q
    · rw [List.mem_singleton.1 q]
      unfold refB at h0
      split at h0
      · cases h0
      · rename_i h1
        split at h0
        · cases h0
        · rename_i h2
          exact ⟨he, by simpa using h1, by show e.kind = 3 ∨ e.kind = 4; omega⟩
  · exact h
theorem GoodB.told {L : List Ent} (h : GoodB L) (who : Int) (v : List Int) : ∀ e ∈ toldL L who v, e.Ok ∧ rightB e = true ∧ (e.kind = 3 ∨ e.kind = 4) := by
  intro e he
  unfold toldL at he
  obtain ⟨y, hy, rfl⟩ := List.mem_map.1 he
  exact h y (List.mem_filter.1 hy).1
def lastQ (told : List Ev) (e : Ev) : Bool := !(told.any fun x => hasB x.past e.da e.ds)
theorem lastL_eq (told : List Ev) : lastL told = told.filter (lastQ told) := rfl
def someX (X : List Ev) : Bool := (leastL X).2
def leastX (X : List Ev) : Int := if (leastL X).2 = true then (leastL X).1 else 3
theorem someX_app (X : List Ev) (e : Ev) : someX (X ++ [e]) = true := by
  unfold someX
  rw [leastL_app]
  unfold leastS
  split
  · rfl
  · rename_i h
    cases hq : (leastL X).2 with
    | true => rfl
    | false => exact absurd (.inl hq) h
theorem leastX_app (X : List Ev) (e : Ev) (h3 : e.role ≤ 3) : leastX (X ++ [e]) = if e.role < leastX X then e.role else leastX X := by
  have hs : (leastL (X ++ [e])).2 = true := someX_app X e
  unfold leastX
  rw [if_pos hs, leastL_app]
  unfold leastS
  by_cases hq : (leastL X).2 = true
  · simp only [hq, if_true, Bool.true_eq_false, false_or]
    split <;> rfl
  · have hq' : (leastL X).2 = false := by simpa using hq
    rw [if_pos (.inl hq'), if_neg hq]
    simp only
    by_cases h : e.role < 3
    · rw [if_pos h]
    · rw [if_neg h]; omega
theorem fold_zero : ∀ (X : List Ev) (s : Int × Bool), (s.2 = true → 0 ≤ s.1) → (∀ e ∈ X, 0 ≤ e.role) → (s = (0, true) ∨ ∃ e ∈ X, e.role = 0) → X.foldl leastS s = (0, true)
  | [], s, _, _, h => by
    rcases h with h | ⟨e, he, _⟩
    · exact h
    · cases he
  | e :: X, s, h0, hX, h => by
    rw [List.foldl_cons]
    have he := hX e (by simp)
    refine fold_zero X _ ?_ (fun x hx => hX x (by simp [hx])) ?_
    · unfold leastS
      split
      · exact fun _ => he
      · exact h0
    · rcases h with h | ⟨y, hy, hy0⟩
      · left
        rw [h]
        unfold leastS
        by_cases q : e.role < 0
        · omega
        · rw [if_neg (by simp; omega)]
      · rcases List.mem_cons.1 hy with rfl | hy
        · left
          unfold leastS
          by_cases q : s.2 = false ∨ y.role < s.1
          · rw [if_pos q, hy0]
          · rw [if_neg q]
            have h1 : s.2 = true := by simpa using fun z => q (.inl z)
            have h2 := h0 h1
            have h3 : ¬ y.role < s.1 := fun z => q (.inr z)
            obtain ⟨a, b⟩ := s
            simp only at h1 h2 h3
            rw [h1, show a = 0 by omega]
        · exact .inr ⟨y, hy, hy0⟩
theorem least_zero (X : List Ev) (hX : ∀ e ∈ X, 0 ≤ e.role) (h : ∃ e ∈ X, e.role = 0) : leastL X = (0, true) := fold_zero X _ (fun h => by cases h) hX (.inr h)
theorem roleP_last (L : List Ent) (who : Int) (v : List Int) (h8 : ¬ 8 ≤ who) : roleP L who v = if someX (lastL (toldL L who v)) = false ∧ who ≠ 0 then 0 else leastX (lastL (toldL L who v)) := by
  unfold roleP someX leastX
  rw [if_neg h8]
  cases hq : (leastL (lastL (toldL L who v))).2 with
  | true => simp
  | false =>
    by_cases h : who = 0
    · simp [h]
    · simp [h]
theorem roleP_zero (L : List Ent) (hG : GoodB L) (who : Int) (v : List Int) (h8 : ¬ 8 ≤ who) (e : Ev) (he : e ∈ toldL L who v) (hl : lastQ (toldL L who v) e = true) (hk : e.kind = 4) : roleP L who v = 0 := by
  have hr := hG.told who v
  have hm : e ∈ lastL (toldL L who v) := by rw [lastL_eq]; exact List.mem_filter.2 ⟨he, hl⟩
  have hz : leastL (lastL (toldL L who v)) = (0, true) := least_zero _ (fun x hx => by
    rw [lastL_eq] at hx
    have := hr x (List.mem_filter.1 hx).1
    exact (good_role this.2.1 this.2.2).1) ⟨e, hm, ((good_role (hr e he).2.1 (hr e he).2.2).2.2.1).1 hk⟩
  unfold roleP
  rw [if_neg h8, hz]; rfl
theorem rbnew_any (B : Nat) (w : World) : Calls Tryz.prog 22 #[] w fun r w' => r = .returned (.pointer (some ⟨w.heap.size, 0, none⟩)) ∧ RefB B w' w.heap.size [] none 0 none 0 ∧ Below w.heap.size w w' := by
  have hc := CellsAt.new w 85 [.slice none 0 0, .slice none 0 0]
  have HEND : Veil (RefB B (w.alloc (.cells #[.slice none 0 0, .slice none 0 0] 85)) w.heap.size [] none 0 none 0 ∧ Below w.heap.size w (w.alloc (.cells #[.slice none 0 0, .slice none 0 0] 85))) := ⟨⟨hc, OwnI.nil _ _ _ _, OwnI.nil _ _ _ _⟩, (Below.refl _ _).alloc (Nat.le_refl _) _⟩
  clear hc
  go_enter Tryz.func22, Tryz.ntmps22
  go_wp2
  go_ret
  exact ⟨rfl, HEND.out⟩
end Go.Proofs.YtmbdohnmbkpfaaaGreat
