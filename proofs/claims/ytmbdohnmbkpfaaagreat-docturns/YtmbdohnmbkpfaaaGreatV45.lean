/- De15 De16 De17 -/
import Derived.Test.YtmbdohnmbkpfaaaGreatV44
namespace Go.Proofs.YtmbdohnmbkpfaaaGreat
open Go.RowKit Go.Shelf
set_option maxRecDepth 20000
set_option linter.unusedSimpArgs false
inductive Reach : Ds → List Ent → List Bool → Prop
 | new : Reach newS [] []
 | ap {st : Ds} {K : List Ent} {G : List Bool} {e : Ev} (h : Reach st K G) (he : e.Ok) (hr : refD st e = 0) : Reach (apS st e) (actR K e) (G ++ [actB st e])
theorem Reach.good {st : Ds} {K : List Ent} {G : List Bool} (h : Reach st K G) : GoodD st ∧ GoodR st K G := by
 induction h with
 | new => exact ⟨GoodD.new, GoodR.new⟩
 | ap _ he hr ih => exact ⟨ih.1.ap he hr, ih.2.ap ih.1 he hr⟩
theorem IdsOk.act {st : Ds} (h : IdsOk st.N) {e : Ev} (he : e.Ok) : IdsOk (actN st e) := by
 unfold actN
 split
 · split
   · unfold insN
     split
     · intro n hn
       rcases List.mem_append.1 hn with q | q
       · exact h n q
       · rw [List.mem_singleton.1 q]; exact he.dot
     · exact h
   · exact h
 · split
   · split
     · intro n hn
       unfold delN at hn
       obtain ⟨m, hm, rfl⟩ := List.mem_map.1 hn
       rw [gone_id]; exact h m hm
     · exact h
   · exact h
theorem Reach.ids {st : Ds} {K : List Ent} {G : List Bool} (h : Reach st K G) : IdsOk st.N := by
 induction h with
 | new => exact fun n hn => by cases hn
 | ap _ he _ ih => exact IdsOk.act ih he
theorem Reach.does {st : Ds} {K : List Ent} {G : List Bool} (h : Reach st K G) {e : Ev} (he : e.Ok) : ∃ K G, Reach (doS st e) K G := by
 unfold doS
 split
 · exact ⟨_, _, h.ap he ‹_›⟩
 · exact ⟨_, _, h⟩
theorem Reach.step {st : Ds} {K : List Ent} {G : List Bool} (h : Reach st K G) {X : Ed} (hX : X.Ok) : ∃ K G, Reach (stepX st X) K G := by
 unfold stepX
 split
 · split
   · exact h.does (tellD_ok h.good.1 h.ids hX)
   · exact ⟨_, _, h⟩
 · exact ⟨_, _, h⟩
theorem reach_play (L : List Ed) (hL : ∀ X ∈ L, X.Ok) : ∃ K G, Reach (playX L) K G := by
 have key : ∀ (L : List Ed) (st : Ds), (∃ K G, Reach st K G) → (∀ X ∈ L, X.Ok) → ∃ K G, Reach (L.foldl stepX st) K G := fun L => by
  induction L with
  | nil => exact fun st h _ => h
  | cons X L ih => exact fun st ⟨K, G, h⟩ hL => ih _ (h.step (hL X (by simp))) (fun Y hY => hL Y (by simp [hY]))
 exact key L newS ⟨_, _, .new⟩ hL
def kL (L : List Ev) : List Ent := L.foldl actR []
theorem kL_snoc (L : List Ev) (e : Ev) : kL (L ++ [e]) = actR (kL L) e := by unfold kL; rw [List.foldl_append]; rfl
def roleAt (L : List Ev) (i : Nat) (e : Ev) : Int := roleP (kL (L.take i)) e.da e.past
def ForceOk (st : Ds) : Prop := ∀ i (hi : i < st.L.length), (st.L[i].dot ∈ st.F → 2 ≤ roleAt st.L i st.L[i] ∧ ((st.L[i].kind = 3 ∨ st.L[i].kind = 4) → roleAt st.L i st.L[i] = 3)) ∧ ((st.L[i].kind = 3 ∨ st.L[i].kind = 4) → roleAt st.L i st.L[i] = 3 → st.L[i].dot ∈ st.F)
theorem Reach.force {st : Ds} {K : List Ent} {G : List Bool} (h : Reach st K G) : K = kL st.L ∧ ForceOk st := by
 induction h with
 | new => exact ⟨rfl, fun i hi => by cases hi⟩
 | @ap st K G e h he hr ih =>
  obtain ⟨hK, hF⟩ := ih
  obtain ⟨hg, hR⟩ := h.good
  refine ⟨by show actR K e = kL (st.L ++ [e]); rw [kL_snoc, hK], fun i hi => ?_⟩
  have hi2 : i < st.L.length + 1 := by
   have : (apS st e).L.length = st.L.length + 1 := by show (st.L ++ [e]).length = _; simp
   omega
  have hmem : ∀ x, x ∈ (apS st e).F ↔ x ∈ st.F ∨ (actB st e = true ∧ x = e.dot) := fun x => actF_mem
  by_cases hlt : i < st.L.length
  · have e1 : (apS st e).L[i] = st.L[i] := by show (st.L ++ [e])[i] = _; exact List.getElem_append_left hlt
    have e2 : roleAt (apS st e).L i st.L[i] = roleAt st.L i st.L[i] := by
     unfold roleAt
     show roleP (kL ((st.L ++ [e]).take i)) _ _ = _
     rw [List.take_append_of_le_length (by omega)]
    rw [e1, e2, hmem]
    have hne := hR.fresh hr _ (List.getElem_mem hlt)
    have := hF i hlt
    exact ⟨fun q => this.1 (q.elim id fun q => absurd q.2 hne), fun a b => .inl (this.2 a b)⟩
  · obtain rfl : i = st.L.length := by omega
    have e0 : ∀ (M : List Ev), M = st.L ++ [e] → ∀ hi : st.L.length < M.length, M[st.L.length] = e := fun M h hi => by subst h; simp
    have e1 : (apS st e).L[st.L.length] = e := e0 _ rfl hi
    have e2 : roleAt (apS st e).L st.L.length e = roleP K e.da e.past := by
     unfold roleAt
     show roleP (kL ((st.L ++ [e]).take st.L.length)) _ _ = _
     rw [List.take_left, ← hK]
    rw [e1, e2, hmem]
    have hnf := hR.notF hr
    have hB : (e.dot ∈ st.F ∨ (actB st e = true ∧ e.dot = e.dot)) ↔ actB st e = true := ⟨fun q => q.elim (fun r => absurd r hnf) (·.1), fun q => .inr ⟨q, rfl⟩⟩
    rw [hB]
    by_cases hk : e.kind = 1 ∨ e.kind = 2
    · refine ⟨fun q => ⟨?_, fun r => by omega⟩, fun r => by omega⟩
      have hm : mayB st e 2 = true := by
       unfold actB at q
       rcases hk with k | k
       · rw [if_pos k] at q; exact (Bool.and_eq_true_iff.1 q).1
       · rw [if_neg (by omega), if_pos k] at q; exact (Bool.and_eq_true_iff.1 q).1
      rw [hR.may] at hm
      simpa using hm
    · obtain ⟨-, a2, -⟩ := hR.addK hr hk
      rw [a2]
      exact ⟨fun q => by have : roleP K e.da e.past = 3 := by simpa using q
                         exact ⟨by omega, fun _ => this⟩, fun _ q => by simpa using q⟩
theorem Reach.right {st : Ds} {K : List Ent} {G : List Bool} (h : Reach st K G) : ∀ e ∈ st.L, rightB e = true := by
 induction h with
 | new => exact fun e he => by cases he
 | ap _ _ hr ih =>
  intro x hx
  rcases List.mem_append.1 hx with q | q
  · exact ih x q
  · rw [List.mem_singleton.1 q]; exact (refD_zero hr).1
theorem within_le {a b : List Int} (h : withinB a b = true) (j : Nat) (hj : j < 8) : a[j]?.getD 0 ≤ b[j]?.getD 0 := by
 rcases Int.lt_or_le (b[j]?.getD 0) (a[j]?.getD 0) with q | q
 · unfold withinB at h
   rw [withinTo_false a b j hj q] at h; cases h
 · exact q
theorem within_refl (S : List Int) : withinB S S = true := by
 have : ∀ n, withinTo S S n = true := fun n => by
  induction n with
  | zero => rfl
  | succ n ih => unfold withinTo; rw [ih]; simp
 exact this 8
theorem has_within {a b : List Int} (h : withinB a b = true) {x s : Int} (hx : 0 ≤ x) (q : hasB a x s = true) : hasB b x s = true := by
 unfold hasB at *
 simp only [Bool.and_eq_true, decide_eq_true_eq] at q ⊢
 have := within_le h x.toNat (by omega)
 exact ⟨q.1, q.2.1, by omega⟩
theorem past_low (S : List Int) (h : ∀ j, j < 8 → S[j]?.getD 0 ≤ 1048576) : pastTo S 8 = true := by
 have : ∀ n, n ≤ 8 → pastTo S n = true := fun n => by
  induction n with
  | zero => exact fun _ => rfl
  | succ n ih => intro hn; unfold pastTo; rw [ih (by omega)]; simp; exact h n (by omega)
 exact this 8 (by omega)
theorem next_dot {st : Ds} (hG : GoodD st) {a : Nat} (ha : a < 8) (e : Ev) : rightDotB (nextE st a e) = true := by
 have h1 := hG.seen ha
 have h2 := hG.llen
 have h3 : pastTo st.S 8 = true := past_low _ fun j hj => by have := hG.seen hj; omega
 unfold rightDotB nextE
 simp only [Int.toNat_natCast, h3, Bool.and_true, Bool.and_eq_true, decide_eq_true_eq, Bool.not_eq_true', beq_eq_false_iff_ne, beq_iff_eq]
 exact ⟨by omega, by omega, by omega, by omega⟩
theorem next_hasnt {st : Ds} {a : Nat} (e : Ev) : hasB st.S (nextE st a e).da (nextE st a e).ds = false := by
 unfold hasB nextE
 simp only [Int.toNat_natCast]
 have : decide (st.S[a]?.getD 0 + 1 ≤ st.S[a]?.getD 0) = false := by simp; omega
 rw [this, Bool.and_false, Bool.and_false]
theorem told_ready {st : Ds} {a : Nat} {e : Ev} (hr : rightB (nextE st a e) = true) (hl : st.L.length < 512) : refD st (nextE st a e) = 0 := by
 have h3 : readyB st.S (nextE st a e) = true := by
  unfold readyB
  rw [hr]
  have e1 : (nextE st a e).past = st.S := rfl
  rw [e1, within_refl]
  unfold nextE
  simp
 unfold refD
 rw [hr, next_hasnt, h3, if_neg (by decide), if_neg (by decide), if_neg (by decide), if_neg (by omega)]
theorem right_give {st : Ds} (hG : GoodD st) {a : Nat} (ha : a < 8) {who role : Int} (hw : who < 8) (h1 : 1 ≤ role) (h3 : role ≤ 3) : rightB (nextE st a (evK 3 (0, 0) false 0 who role)) = true := by
 unfold rightB
 rw [next_dot hG ha, Bool.true_and]
 unfold rightKB nextE evK
 simp only
 rw [if_neg (by decide), if_neg (by decide), if_pos trivial]
 simp only [Bool.and_eq_true, decide_eq_true_eq]
 exact ⟨⟨⟨hw, h1⟩, h3⟩, rfl⟩
theorem right_take {st : Ds} (hG : GoodD st) {a : Nat} (ha : a < 8) {who : Int} (hw : who < 8) : rightB (nextE st a (evK 4 (0, 0) false 0 who 0)) = true := by
 unfold rightB
 rw [next_dot hG ha, Bool.true_and]
 unfold rightKB nextE evK
 simp only
 rw [if_neg (by decide), if_neg (by decide), if_neg (by decide), if_pos trivial]
 simp only [Bool.and_eq_true, decide_eq_true_eq]
 exact ⟨⟨hw, rfl⟩, rfl⟩
theorem Reach.within {st : Ds} {K : List Ent} {G : List Bool} (h : Reach st K G) : ∀ x ∈ st.L, ∀ a s, 0 ≤ a → hasB x.past a s = true → hasB st.S a s = true := by
 induction h with
 | new => exact fun x hx => by cases hx
 | @ap st K G e h he hr ih =>
  obtain ⟨hg, -⟩ := h.good
  obtain ⟨h1, -, h3, -⟩ := refD_zero hr
  have h8 := rightB_author h1
  intro x hx a s ha q
  rcases List.mem_append.1 hx with r | r
  · exact has_step hg.slen he.dot.1.1 h8 (ih x r a s ha q)
  · rw [List.mem_singleton.1 r] at q
    have hw : withinB e.past st.S = true := by
     unfold readyB at h3
     simp only [Bool.and_eq_true] at h3
     exact h3.2.2
    exact has_step hg.slen he.dot.1.1 h8 (has_within hw ha q)
theorem told_snoc (B : List Ent) (e : Ev) (who : Int) (v : List Int) : toldL (B ++ [(e, true)]) who v = toldL B who v ++ (if tellB who v e = true then [e] else []) := by
 unfold toldL
 rw [List.filter_append, List.map_append]
 congr 1
 by_cases h : tellB who v e = true
 · rw [if_pos h]; simp [h]
 · rw [if_neg h]; simp [h]
theorem bookIn {st : Ds} {K : List Ent} {G : List Bool} (h : GoodR st K G) {y : Ent} (hy : y ∈ st.B) : y.1 ∈ st.L := by
 rw [← h.cnt] at hy
 exact h.kin y (List.mem_filter.1 hy).1
theorem role_last {st : Ds} {K : List Ent} {G : List Bool} (h : Reach st K G) {e : Ev} (hp : e.past = st.S) (hn : hasB st.S e.da e.ds = false) (h0 : 0 ≤ e.da) {v : List Int} (hv : hasB v e.da e.ds = true) (h8 : e.who < 8) : roleP (st.B ++ [(e, true)]) e.who v = e.role := by
 obtain ⟨hg, hR⟩ := h.good
 have htl : tellB e.who v e = true := by unfold tellB; rw [hv]; simp
 have hT : ∀ y ∈ toldL st.B e.who v, y ∈ st.L := fun y hy => by
  unfold toldL at hy
  obtain ⟨z, hz, rfl⟩ := List.mem_map.1 hy
  exact bookIn hR (List.mem_filter.1 hz).1
 have hl : lastL (toldL st.B e.who v ++ [e]) = [e] := by
  unfold lastL
  rw [List.filter_append]
  have h1 : (toldL st.B e.who v).filter (fun y => !((toldL st.B e.who v ++ [e]).any fun x => hasB x.past y.da y.ds)) = [] := by
   rw [List.filter_eq_nil_iff]
   intro y hy
   have : hasB e.past y.da y.ds = true := by rw [hp]; exact hR.seen y (hT y hy)
   simp [this]
  have h2 : [e].filter (fun y => !((toldL st.B e.who v ++ [e]).any fun x => hasB x.past y.da y.ds)) = [e] := by
   rw [List.filter_eq_self]
   intro y hy
   rw [List.mem_singleton.1 hy]
   have : ((toldL st.B e.who v ++ [e]).any fun x => hasB x.past e.da e.ds) = false := by
    rw [List.any_eq_false]
    intro x hx q
    rcases List.mem_append.1 hx with r | r
    · have := h.within x (hT x r) _ _ h0 q
      rw [hn] at this; cases this
    · rw [List.mem_singleton.1 r, hp, hn] at q; cases q
   rw [this]; rfl
  rw [h1, h2]; rfl
 unfold roleP
 rw [if_neg (by omega), told_snoc, if_pos htl, hl]
 rfl
theorem role_other {st : Ds} {K : List Ent} {G : List Bool} (h : GoodR st K G) {e : Ev} {who : Int} (hw : e.who ≠ who) {v : List Int} (hv : ∀ y ∈ st.L, hasB v y.da y.ds = true) : roleP (st.B ++ [(e, true)]) who v = roleP st.B who st.S := by
 have h1 : toldL (st.B ++ [(e, true)]) who v = toldL st.B who st.S := by
  rw [told_snoc]
  have : tellB who v e = false := by unfold tellB; rw [beq_eq_false_iff_ne.2 hw]; rfl
  rw [this]
  simp only [Bool.false_eq_true, if_false, List.append_nil]
  unfold toldL
  congr 1
  refine List.filter_congr fun y hy => ?_
  have hL := bookIn h hy
  unfold tellB
  rw [hv _ hL, h.seen _ hL]
 unfold roleP
 rw [h1]
theorem next_has {st : Ds} (hG : GoodD st) {a : Nat} (ha : a < 8) (e : Ev) : hasB (stepS st.S (nextE st a e).da) (nextE st a e).da (nextE st a e).ds = true := by
 have h1 := hG.seen ha
 unfold hasB
 simp only [Bool.and_eq_true, decide_eq_true_eq, Bool.not_eq_true', beq_eq_false_iff_ne]
 have e1 : (nextE st a e).da = (a : Int) := rfl
 have e2 : (nextE st a e).ds = st.S[a]?.getD 0 + 1 := rfl
 rw [e1, e2, stepS_get hG.slen (by omega) (by omega), if_pos rfl, Int.toNat_natCast]
 exact ⟨by omega, by omega, by omega⟩
theorem act_acl {st : Ds} {K : List Ent} {G : List Bool} (hR : GoodR st K G) {e : Ev} (hr : refD st e = 0) (hk : ¬ (e.kind = 1 ∨ e.kind = 2)) (h3 : 3 ≤ roleP st.B e.da e.past) : (apS st e).B = st.B ++ [(e, true)] := by
 obtain ⟨-, a2, a3⟩ := hR.addK hr hk
 have h4 := hR.good.three e.da e.past
 rw [hR.role] at a2 h4
 have hb : actB st e = true := by rw [a2]; simp; omega
 show actK st e = _
 rw [a3, hb, cnt_app, if_pos rfl, hR.cnt]
structure RolesB (st : Ds) (au who role : Int) (e1 : Ev) : Prop where
 ok : e1.Ok
 ref : refD st e1 = 0
 reach : ∃ K G, Reach (apS st e1) K G
 role : roleP (apS st e1).B who (apS st e1).S = role
 adm : 3 ≤ roleP (apS st e1).B au (apS st e1).S
 au8 : au < 8
 who8 : who < 8
theorem roles_b {st : Ds} {K : List Ent} {G : List Bool} (h : Reach st K G) {au who role : Int} (hau : 0 ≤ au) (hw0 : 0 ≤ who) (hne : au ≠ who) (hf : forbN st au (decide (who < 8) && (decide (1 ≤ role) && decide (role ≤ 3))) 3 = 0) : RolesB st au who role (nextE st au.toNat (evK 3 (0, 0) false 0 who role)) := by
 obtain ⟨hg, hR⟩ := h.good
 obtain ⟨f1, f2, f3, f4⟩ := forbN_zero hf
 simp only [Bool.and_eq_true, decide_eq_true_eq] at f2
 have ha : au.toNat < 8 := by omega
 have hr := told_ready (right_give hg ha f2.1 f2.2.1 f2.2.2) f3
 have hok : (nextE st au.toNat (evK 3 (0, 0) false 0 who role)).Ok := nextE_okD hg ha okDF_zero (by decide) (by decide) ⟨hw0, by omega⟩ ⟨by omega, by omega⟩
 have hB := act_acl hR hr (by show ¬ ((3 : Int) = 1 ∨ (3 : Int) = 2); decide) (by show 3 ≤ roleP st.B ((au.toNat : Nat) : Int) st.S; rw [Int.toNat_of_nonneg hau]; exact f4)
 have hS : (apS st (nextE st au.toNat (evK 3 (0, 0) false 0 who role))).S = stepS st.S (nextE st au.toNat (evK 3 (0, 0) false 0 who role)).da := rfl
 refine ⟨hok, hr, ⟨_, _, h.ap hok hr⟩, ?_, ?_, f1, f2.1⟩
 · rw [hB, hS]
   exact role_last h (e := nextE st au.toNat (evK 3 (0, 0) false 0 who role)) rfl (next_hasnt _) (by show (0 : Int) ≤ (au.toNat : Int); omega) (next_has hg ha _) f2.1
 · rw [hB, hS, role_other hR (e := nextE st au.toNat (evK 3 (0, 0) false 0 who role)) (fun q => hne q.symm) (fun y hy => has_step hg.slen (by show (0 : Int) ≤ (au.toNat : Int); omega) (by show (au.toNat : Int) < 8; omega) (hR.seen y hy))]
   exact f4
structure RolesC (st : Ds) (who : Int) (e2 : Ev) : Prop where
 ok : e2.Ok
 ref : refD st e2 = 0
 reach : ∃ K G, Reach (apS st e2) K G
 role : roleP (apS st e2).B who (apS st e2).S = 0
theorem roles_c {st : Ds} {K : List Ent} {G : List Bool} (h : Reach st K G) {au who : Int} (hau : 0 ≤ au) (ha8 : au < 8) (hw0 : 0 ≤ who) (hw8 : who < 8) (h3 : 3 ≤ roleP st.B au st.S) : forbN st au (decide (who < 8)) 3 = 10 ∨ (forbN st au (decide (who < 8)) 3 = 0 ∧ RolesC st who (nextE st au.toNat (evK 4 (0, 0) false 0 who 0))) := by
 obtain ⟨hg, hR⟩ := h.good
 have ha : au.toNat < 8 := by omega
 by_cases hl : 512 ≤ st.L.length
 · left
   unfold forbN
   rw [if_neg (by omega), if_neg (by simpa using hw8), if_pos hl]
 · right
   refine ⟨by unfold forbN; rw [if_neg (by omega), if_neg (by simpa using hw8), if_neg hl, if_neg (by omega)], ?_⟩
   have hr := told_ready (right_take hg ha hw8) (by omega)
   have hok : (nextE st au.toNat (evK 4 (0, 0) false 0 who 0)).Ok := nextE_okD hg ha okDF_zero (by decide) (by decide) ⟨hw0, by omega⟩ (by decide)
   have hB := act_acl hR hr (by show ¬ ((4 : Int) = 1 ∨ (4 : Int) = 2); decide) (by show 3 ≤ roleP st.B ((au.toNat : Nat) : Int) st.S; rw [Int.toNat_of_nonneg hau]; exact h3)
   refine ⟨hok, hr, ⟨_, _, h.ap hok hr⟩, ?_⟩
   rw [hB]
   exact role_last h (e := nextE st au.toNat (evK 4 (0, 0) false 0 who 0)) rfl (next_hasnt _) (by show (0 : Int) ≤ (au.toNat : Int); omega) (next_has hg ha _) hw8
theorem roles_d {st : Ds} {who least : Int} (hw8 : who < 8) (hl : 1 ≤ least) (h0 : roleP st.B who st.S = 0) : forbN st who true least = 10 ∨ forbN st who true least = 8 := by
 unfold forbN
 rw [if_neg (by omega), if_neg (by decide)]
 by_cases h : 512 ≤ st.L.length
 · rw [if_pos h]; exact .inl rfl
 · rw [if_neg h, h0, if_pos (by omega)]; exact .inr rfl
theorem members_at {st : Ds} {who : Int} (h0 : 0 ≤ who) (h8 : who < 8) : (membersL st.B st.S)[who.toNat]?.getD 0 = roleP st.B who st.S := by
 unfold membersL
 rw [List.getElem?_map, List.getElem?_range (by omega)]
 simp [Int.toNat_of_nonneg h0]
end Go.Proofs.YtmbdohnmbkpfaaaGreat
