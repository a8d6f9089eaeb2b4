/- Hp -/
import Derived.Test.YtlhajphjppjlgaaGreatDoorV38
namespace Go.Proofs.YtlhajphjppjlgaaGreatDoor
open Go.RowKit
set_option maxRecDepth 20000
set_option linter.unusedSimpArgs false
def zk : List Int := List.replicate 32 0
theorem okK_zk : okK zk := ⟨rfl, fun v hv => by rw [(List.mem_replicate.1 hv).2]; omega⟩
abbrev Sms := Nat → List (List Int)
structure OkS (T : Sms) : Prop where
  one : ∀ a, (T a)[0]? = some zk
  le : ∀ a, (T a).length ≤ 257
  key : ∀ a k, k ∈ T a → okK k
def cnt (T : Sms) (a : Nat) : Nat := (T a).length - 1
def atN (T : Sms) (a n : Nat) : List Int := ((T a)[n]?).getD zk
def noS : Sms := fun _ => [zk]
theorem okS_no : OkS noS := ⟨fun _ => rfl, fun _ => by simp [noS], fun a k hk => by
  have : k = zk := by simpa [noS] using hk
  rw [this]; exact okK_zk⟩
theorem OkS.pos {T : Sms} (h : OkS T) (a : Nat) : 1 ≤ (T a).length := by
  have := (List.getElem?_eq_some_iff.1 (h.one a)).1; omega
theorem OkS.cnt_lt {T : Sms} (h : OkS T) (a : Nat) : cnt T a + 1 = (T a).length := by have := h.pos a; unfold cnt; omega
theorem OkS.cnt_le {T : Sms} (h : OkS T) (a : Nat) : cnt T a ≤ 256 := by have := h.le a; unfold cnt; omega
theorem OkS.at_ok {T : Sms} (h : OkS T) (a n : Nat) : okK (atN T a n) := by
  unfold atN
  cases hq : (T a)[n]? with
  | none => exact okK_zk
  | some k => exact h.key a k (List.mem_of_getElem? hq)
theorem OkS.at0 {T : Sms} (h : OkS T) (a : Nat) : atN T a 0 = zk := by unfold atN; rw [h.one a]; rfl
def headOf (T : Sms) (a : Nat) : Int × List Int := ((cnt T a : Int), atN T a (cnt T a))
theorem OkS.head_ok {T : Sms} (h : OkS T) (a : Nat) : okH (headOf T a) := ⟨⟨by unfold headOf; simp, by have := h.cnt_le a; unfold headOf; simp only; omega⟩, h.at_ok a _⟩
def headsOf (T : Sms) : List (Int × List Int) := (List.range 8).map (headOf T)
def headsC (l : List (Int × List Int)) : List Value := (l.map headC).flatten
theorem headsOf_length (T : Sms) : (headsOf T).length = 8 := by simp [headsOf]
theorem headsOf_get (T : Sms) (a : Nat) (h : a < 8) : (headsOf T)[a]'(by rw [headsOf_length]; exact h) = headOf T a := by simp [headsOf]
theorem headsC_app (a b : List (Int × List Int)) : headsC (a ++ b) = headsC a ++ headsC b := by simp [headsC]
theorem headsC_cons (h : Int × List Int) (b : List (Int × List Int)) : headsC (h :: b) = headC h ++ headsC b := by simp [headsC]
def okHs (l : List (Int × List Int)) : Prop := ∀ h ∈ l, okH h
theorem OkS.heads_ok {T : Sms} (h : OkS T) : okHs (headsOf T) := fun x hx => by
  obtain ⟨a, _, rfl⟩ := List.mem_map.1 hx
  exact h.head_ok a
theorem headsC_len (l : List (Int × List Int)) (hl : okHs l) : (headsC l).length = 33 * l.length := by
  induction l with
  | nil => rfl
  | cons h l ih =>
    rw [headsC_cons, List.length_append, headC_len h (hl h (by simp)).2.1, ih (fun x hx => hl x (by simp [hx])), List.length_cons]; omega
theorem headsC_one (l : List (Int × List Int)) : ∀ v ∈ headsC l, v.oneCell' = true := by
  intro v hv
  unfold headsC at hv
  obtain ⟨c, hc, hvc⟩ := List.mem_flatten.1 hv
  obtain ⟨h, _, rfl⟩ := List.mem_map.1 hc
  unfold headC at hvc
  rcases List.mem_cons.1 hvc with rfl | h1
  · rfl
  · obtain ⟨x, _, rfl⟩ := List.mem_map.1 h1; rfl
theorem headC_one (h : Int × List Int) : ∀ v ∈ headC h, v.oneCell' = true := fun v hv => headsC_one [h] v (by simpa [headsC] using hv)
theorem heads_split (l : List (Int × List Int)) (j : Nat) (hj : j < l.length) : l = l.take j ++ l[j] :: l.drop (j + 1) := by
  rw [List.getElem_cons_drop, List.take_append_drop]
theorem headsC_part (l : List (Int × List Int)) (hl : okHs l) (j : Nat) (hj : j < l.length) (rest : List Value) : ((headsC l ++ rest).drop (j * 33)).take 33 = headC l[j] := by
  have hok : okHs (l.take j) := fun x hx => hl x (List.mem_of_mem_take hx)
  have hlen := headsC_len (l.take j) hok
  rw [List.length_take, Nat.min_eq_left (by omega)] at hlen
  conv => lhs; rw [heads_split l j hj]
  rw [headsC_app, headsC_cons, List.append_assoc, List.append_assoc, List.drop_append_of_le_length (by omega), List.drop_of_length_le (by omega), List.nil_append]
  exact List.take_left' (headC_len _ (hl _ (List.getElem_mem hj)).2.1)
theorem headsC_put (l : List (Int × List Int)) (hl : okHs l) (j : Nat) (hj : j < l.length) (h : Int × List Int) (rest : List Value) :
    (headsC l ++ rest).take (j * 33) ++ headC h ++ (headsC l ++ rest).drop (j * 33 + 33) = headsC (l.set j h) ++ rest := by
  have hok : okHs (l.take j) := fun x hx => hl x (List.mem_of_mem_take hx)
  have hlen := headsC_len (l.take j) hok
  rw [List.length_take, Nat.min_eq_left (by omega)] at hlen
  have hj33 := headC_len _ (hl _ (List.getElem_mem hj)).2.1
  have e1 : headsC l = headsC (l.take j) ++ (headC l[j] ++ headsC (l.drop (j + 1))) := by
    conv => lhs; rw [heads_split l j hj]
    rw [headsC_app, headsC_cons]
  have e2 : l.set j h = l.take j ++ h :: l.drop (j + 1) := by
    rw [List.set_eq_take_append_cons_drop, if_pos hj]
  have e3 : headsC l ++ rest = headsC (l.take j) ++ (headC l[j] ++ (headsC (l.drop (j + 1)) ++ rest)) := by rw [e1]; simp
  have t3 : (headsC l ++ rest).take (j * 33) = headsC (l.take j) := by rw [e3]; exact List.take_left' (by omega)
  have d3 : (headsC l ++ rest).drop (j * 33 + 33) = headsC (l.drop (j + 1)) ++ rest := by
    rw [e3, show j * 33 + 33 = (headsC (l.take j)).length + 33 by omega, List.drop_length_add_append]
    exact List.drop_left' hj33
  rw [t3, d3, e2, headsC_app, headsC_cons]
  simp
def addS (T : Sms) (a : Nat) (k : List Int) : Sms := fun b => if b = a then T b ++ [k] else T b
theorem OkS.add {T : Sms} (h : OkS T) (a : Nat) (k : List Int) (hk : okK k) (hc : cnt T a < 256) : OkS (addS T a k) := by
  refine ⟨fun b => ?_, fun b => ?_, fun b x hx => ?_⟩
  · unfold addS
    split
    · rw [List.getElem?_append_left (by have := h.pos b; omega)]; exact h.one b
    · exact h.one b
  · unfold addS
    split
    · rename_i e; subst e
      have := h.cnt_lt b
      rw [List.length_append]; simp; omega
    · exact h.le b
  · unfold addS at hx
    split at hx
    · rcases List.mem_append.1 hx with h1 | h1
      · exact h.key b x h1
      · rw [List.mem_singleton.1 h1]; exact hk
    · exact h.key b x hx
theorem cnt_add {T : Sms} (h : OkS T) (a : Nat) (k : List Int) : cnt (addS T a k) a = cnt T a + 1 := by
  have := h.pos a
  unfold cnt addS
  rw [if_pos rfl, List.length_append]; simp; omega
theorem cnt_add_ne (T : Sms) (a b : Nat) (k : List Int) (h : b ≠ a) : cnt (addS T a k) b = cnt T b := by unfold cnt addS; rw [if_neg h]
theorem atN_add_ne (T : Sms) (a b n : Nat) (k : List Int) (h : b ≠ a) : atN (addS T a k) b n = atN T b n := by unfold atN addS; rw [if_neg h]
theorem atN_add_lt {T : Sms} (h : OkS T) (a n : Nat) (k : List Int) (hn : n ≤ cnt T a) : atN (addS T a k) a n = atN T a n := by
  have := h.cnt_lt a
  unfold atN addS
  rw [if_pos rfl, List.getElem?_append_left (by omega)]
theorem atN_add_new {T : Sms} (h : OkS T) (a : Nat) (k : List Int) : atN (addS T a k) a (cnt T a + 1) = k := by
  have := h.cnt_lt a
  unfold atN addS
  rw [if_pos rfl, List.getElem?_append_right (by omega), show cnt T a + 1 - (T a).length = 0 by omega]; rfl
theorem headOf_add {T : Sms} (h : OkS T) (a : Nat) (k : List Int) : headOf (addS T a k) a = (((cnt T a + 1 : Nat) : Int), k) := by
  unfold headOf
  rw [cnt_add h, atN_add_new h]
theorem headOf_add_ne (T : Sms) (a b : Nat) (k : List Int) (h : b ≠ a) : headOf (addS T a k) b = headOf T b := by
  unfold headOf
  rw [cnt_add_ne T a b k h, atN_add_ne T a b _ k h]
theorem headsOf_add {T : Sms} (h : OkS T) (a : Nat) (k : List Int) : headsOf (addS T a k) = (headsOf T).set a (((cnt T a + 1 : Nat) : Int), k) := by
  apply List.ext_getElem
  · simp [headsOf]
  · intro j h1 h2
    rw [headsOf_length] at h1
    rw [headsOf_get _ j h1, List.getElem_set]
    split
    · rename_i e; subst e; exact headOf_add h a k
    · rename_i e
      rw [headsOf_get _ j h1]; exact headOf_add_ne T a j k (fun q => e q.symm)
def linkM (T : Sms) (l : Int × Int × List Int) : Option Value :=
  if (0 ≤ l.1 ∧ l.1 < 8) ∧ (1 ≤ l.2.1 ∧ l.2.1.toNat ≤ cnt T l.1.toNat) ∧ atN T l.1.toNat l.2.1.toNat = l.2.2 then some (encK (atN T l.1.toNat (l.2.1.toNat - 1))) else none
theorem linkM_no : linkM noS = fun _ => none := by
  funext l
  unfold linkM
  rw [if_neg]
  rintro ⟨_, ⟨h1, h2⟩, _⟩
  have : cnt noS l.1.toNat = 0 := rfl
  omega
theorem linkM_at {T : Sms} (a n : Nat) (ha : a < 8) (h1 : 1 ≤ n) (h2 : n ≤ cnt T a) : linkM T ((a : Int), (n : Int), atN T a n) = some (encK (atN T a (n - 1))) := by
  unfold linkM
  rw [if_pos ⟨⟨by show (0 : Int) ≤ a; omega, by show (a : Int) < 8; omega⟩, ⟨by show (1 : Int) ≤ n; omega, by rw [Int.toNat_natCast, Int.toNat_natCast]; exact h2⟩, by rw [Int.toNat_natCast, Int.toNat_natCast]⟩, Int.toNat_natCast, Int.toNat_natCast]
theorem linkM_has {T : Sms} (a n : Nat) (s : List Int) (ha : a < 8) (h1 : 1 ≤ n) (h2 : n ≤ cnt T a) : (linkM T ((a : Int), (n : Int), s)).isSome = decide (atN T a n = s) := by
  unfold linkM
  simp only [Int.toNat_natCast]
  by_cases e : atN T a n = s
  · rw [if_pos ⟨⟨by omega, by omega⟩, ⟨by omega, h2⟩, e⟩]; simp [e]
  · rw [if_neg (fun h => e h.2.2)]; simp [e]
theorem linkM_add {T : Sms} (h : OkS T) (a : Nat) (ha : a < 8) (k : List Int) : linkM (addS T a k) = putG (linkM T) ((a : Int), ((cnt T a + 1 : Nat) : Int), k) (encK (atN T a (cnt T a))) := by
  funext l
  obtain ⟨b, n, s⟩ := l
  unfold putG
  by_cases e : ((b, n, s) : Int × Int × List Int) = ((a : Int), ((cnt T a + 1 : Nat) : Int), k)
  · rw [if_pos e]
    injection e with e1 e2
    injection e2 with e2 e3
    subst e1 e2 e3
    have := linkM_at (T := addS T a s) a (cnt T a + 1) ha (by omega) (by rw [cnt_add h]; exact Nat.le_refl _)
    rw [atN_add_new h, Nat.add_sub_cancel, atN_add_lt h a _ s (Nat.le_refl _)] at this
    exact this
  · rw [if_neg e]
    unfold linkM
    simp only
    by_cases hb : b.toNat = a ∧ 0 ≤ b
    · obtain ⟨hb, hb0⟩ := hb
      rw [hb, cnt_add h]
      by_cases hn : n.toNat ≤ cnt T a
      · rw [atN_add_lt h a _ k hn, atN_add_lt h a _ k (by omega)]
        by_cases q : (0 ≤ b ∧ b < 8) ∧ (1 ≤ n ∧ n.toNat ≤ cnt T a) ∧ atN T a n.toNat = s
        · rw [if_pos ⟨q.1, ⟨q.2.1.1, by omega⟩, q.2.2⟩, if_pos q]
        · rw [if_neg (fun q' => q ⟨q'.1, ⟨q'.2.1.1, hn⟩, q'.2.2⟩), if_neg q]
      · rw [if_neg (c := (0 ≤ b ∧ b < 8) ∧ (1 ≤ n ∧ n.toNat ≤ cnt T a) ∧ atN T a n.toNat = s) (fun q => hn q.2.1.2), if_neg]
        rintro ⟨_, ⟨q1, q2⟩, q3⟩
        have hne : n.toNat = cnt T a + 1 := by omega
        rw [hne, atN_add_new h] at q3
        exact e (by rw [q3, show n = ((cnt T a + 1 : Nat) : Int) by omega, show b = (a : Int) by omega])
    · by_cases h0 : 0 ≤ b
      · have hba : b.toNat ≠ a := fun q => hb ⟨q, h0⟩
        rw [cnt_add_ne T a _ k hba, atN_add_ne T a _ _ k hba, atN_add_ne T a _ _ k hba]
      · rw [if_neg (fun q => h0 q.1.1), if_neg (fun q => h0 q.1.1)]
def tot (T : Sms) : Nat := cnt T 0 + cnt T 1 + cnt T 2 + cnt T 3 + cnt T 4 + cnt T 5 + cnt T 6 + cnt T 7
theorem tot_add {T : Sms} (h : OkS T) (a : Nat) (ha : a < 8) (k : List Int) : tot (addS T a k) = tot T + 1 := by
  have e := cnt_add h a k
  have n := fun b (hb : b ≠ a) => cnt_add_ne T a b k hb
  unfold tot
  rcases (by omega : a = 0 ∨ a = 1 ∨ a = 2 ∨ a = 3 ∨ a = 4 ∨ a = 5 ∨ a = 6 ∨ a = 7) with r | r | r | r | r | r | r | r <;> subst r
  · rw [e, n 1 (by omega), n 2 (by omega), n 3 (by omega), n 4 (by omega), n 5 (by omega), n 6 (by omega), n 7 (by omega)]; omega
  · rw [e, n 0 (by omega), n 2 (by omega), n 3 (by omega), n 4 (by omega), n 5 (by omega), n 6 (by omega), n 7 (by omega)]; omega
  · rw [e, n 1 (by omega), n 0 (by omega), n 3 (by omega), n 4 (by omega), n 5 (by omega), n 6 (by omega), n 7 (by omega)]; omega
  · rw [e, n 1 (by omega), n 2 (by omega), n 0 (by omega), n 4 (by omega), n 5 (by omega), n 6 (by omega), n 7 (by omega)]; omega
  · rw [e, n 1 (by omega), n 2 (by omega), n 3 (by omega), n 0 (by omega), n 5 (by omega), n 6 (by omega), n 7 (by omega)]; omega
  · rw [e, n 1 (by omega), n 2 (by omega), n 3 (by omega), n 4 (by omega), n 0 (by omega), n 6 (by omega), n 7 (by omega)]; omega
  · rw [e, n 1 (by omega), n 2 (by omega), n 3 (by omega), n 4 (by omega), n 5 (by omega), n 0 (by omega), n 7 (by omega)]; omega
  · rw [e, n 1 (by omega), n 2 (by omega), n 3 (by omega), n 4 (by omega), n 5 (by omega), n 6 (by omega), n 0 (by omega)]; omega
theorem OkS.tot_le {T : Sms} (h : OkS T) : tot T ≤ 2048 := by
  have := fun a => h.cnt_le a
  unfold tot
  have := this 0; have := h.cnt_le 1; have := h.cnt_le 2; have := h.cnt_le 3; have := h.cnt_le 4; have := h.cnt_le 5; have := h.cnt_le 6; have := h.cnt_le 7
  omega
abbrev Pf := Int × Int × List Int × List Int
def lookN (T : Sms) (a n : Nat) (prev sum : List Int) : Int :=
  if 8 ≤ a ∨ n = 0 ∨ 256 < n then 2
  else if n ≤ cnt T a then (if atN T a n = sum then 5 else 11)
  else if cnt T a + 1 < n then 6
  else if prev = atN T a (cnt T a) then 0
  else if cnt T a = 0 then 3 else 11
def proofN (T : Sms) (a n : Nat) (prev sum : List Int) : Pf := if n ≤ cnt T a then ((a : Int), (n : Int), atN T a n, sum) else ((a : Int), (cnt T a : Int), atN T a (cnt T a), prev)
def noteP (P : List Pf) (p : Pf) : List Pf := if p ∈ P ∨ 32 ≤ P.length then P else P ++ [p]
def noteAll (P : List Pf) (l : List Pf) : List Pf := l.foldl noteP P
theorem noteAll_full (P l : List Pf) (h : 32 ≤ P.length) : noteAll P l = P := by
  induction l with
  | nil => rfl
  | cons p l ih =>
    have : noteP P p = P := by unfold noteP; rw [if_pos (.inr h)]
    unfold noteAll at ih ⊢
    rw [List.foldl_cons, this, ih]
def addSt (T : Sms) (P : List Pf) (a n : Nat) (prev sum : List Int) : Sms × List Pf :=
  if lookN T a n prev sum = 0 then (addS T a sum, P) else if lookN T a n prev sum = 11 then (T, noteP P (proofN T a n prev sum)) else (T, P)
def foundAt (T : Sms) (a : Nat) (h : Int × List Int) : List Pf := if 1 ≤ h.1 ∧ h.1.toNat ≤ cnt T a ∧ atN T a h.1.toNat ≠ h.2 then [((a : Int), h.1, atN T a h.1.toNat, h.2)] else []
def foundN (T : Sms) (l : List (Int × List Int)) (n : Nat) : List Pf := ((List.range n).map fun a => foundAt T a (l[a]?.getD (0, zk))).flatten
theorem foundN_succ (T : Sms) (l : List (Int × List Int)) (n : Nat) : foundN T l (n + 1) = foundN T l n ++ foundAt T n (l[n]?.getD (0, zk)) := by
  unfold foundN
  rw [List.range_succ, List.map_append, List.flatten_append]; simp
theorem foundAt_len (T : Sms) (a : Nat) (h : Int × List Int) : (foundAt T a h).length ≤ 1 := by unfold foundAt; split <;> simp
theorem foundN_len (T : Sms) (l : List (Int × List Int)) (n : Nat) : (foundN T l n).length ≤ n := by
  induction n with
  | zero => simp [foundN]
  | succ n ih => rw [foundN_succ, List.length_append]; have := foundAt_len T n (l[n]?.getD (0, zk)); omega
theorem lookN_le (T : Sms) (a n : Nat) (prev sum : List Int) (h0 : lookN T a n prev sum = 0) : a < 8 ∧ n = cnt T a + 1 ∧ cnt T a < 256 ∧ prev = atN T a (cnt T a) := by
  unfold lookN at h0
  split at h0
  · omega
  · rename_i q1
    split at h0
    · split at h0 <;> omega
    · rename_i q2
      split at h0
      · omega
      · rename_i q3
        split at h0
        · rename_i q4
          have h1 : ¬ 8 ≤ a := fun x => q1 (.inl x)
          have h2 : ¬ 256 < n := fun x => q1 (.inr (.inr x))
          exact ⟨by omega, by omega, by omega, q4⟩
        · split at h0 <;> omega
end Go.Proofs.YtlhajphjppjlgaaGreatDoor
