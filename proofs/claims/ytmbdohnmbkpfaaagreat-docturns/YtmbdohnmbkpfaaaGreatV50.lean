/- De19 -/
import Derived.Test.YtmbdohnmbkpfaaaGreatV45
import Derived.Test.YtmbdohnmbkpfaaaGreatV34
namespace Go.Proofs.YtmbdohnmbkpfaaaGreat
open Go.RowKit Go.Shelf
set_option maxRecDepth 20000
set_option linter.unusedSimpArgs false
theorem insN_id {N : List Nd} {n m : Nd} (h : m ∈ insN N n) : m ∈ N ∨ m = n := by
 unfold insN at h
 split at h
 · rcases List.mem_append.1 h with q | q
   · exact .inl q
   · exact .inr (List.mem_singleton.1 q)
 · exact .inl h
theorem delN_id {N : List Nd} {x : Int × Int} {m : Nd} (h : m ∈ delN N x) : ∃ n ∈ N, m.id = n.id := by
 unfold delN at h
 obtain ⟨n, hn, rfl⟩ := List.mem_map.1 h
 exact ⟨n, hn, gone_id x n⟩
theorem Reach.nodeIn {st : Ds} {K : List Ent} {G : List Bool} (h : Reach st K G) : ∀ n ∈ st.N, ∃ e ∈ st.L, e.dot = n.id := by
 induction h with
 | new => exact fun n hn => by cases hn
 | @ap st K G e _ _ _ ih =>
  have old : ∀ m : Nd, (∃ n ∈ st.N, m.id = n.id) → ∃ x ∈ st.L ++ [e], x.dot = m.id := fun m ⟨n, hn, q⟩ => by
   obtain ⟨x, hx, hd⟩ := ih n hn
   exact ⟨x, List.mem_append_left _ hx, hd.trans q.symm⟩
  intro m hm
  change m ∈ Go.Proofs.YtmbdohnmbkpfaaaGreat.actN st e at hm
  show ∃ x ∈ st.L ++ [e], x.dot = m.id
  unfold Go.Proofs.YtmbdohnmbkpfaaaGreat.actN at hm
  split at hm
  · split at hm
    · rcases insN_id hm with q | rfl
      · exact old m ⟨m, q, rfl⟩
      · exact ⟨e, by simp, rfl⟩
    · exact old m ⟨m, hm, rfl⟩
  · split at hm
    · split at hm
      · exact old m (delN_id hm)
      · exact old m ⟨m, hm, rfl⟩
    · exact old m ⟨m, hm, rfl⟩
theorem Reach.nodeSeen {st : Ds} {K : List Ent} {G : List Bool} (h : Reach st K G) {x : Int × Int} (hx : (chrN st.N x).isSome = true) : hasB st.S x.1 x.2 = true := by
 obtain ⟨n, hn, rfl⟩ := chrN_some.1 hx
 obtain ⟨e, he, hd⟩ := h.nodeIn n hn
 have := h.good.2.seen e he
 rw [← hd]; exact this
theorem role_seen {st : Ds} {K : List Ent} {G : List Bool} (h : GoodR st K G) {who : Int} {v : List Int} (hv : ∀ y ∈ st.L, hasB v y.da y.ds = true) : roleP st.B who v = roleP st.B who st.S := by
 have h1 : toldL st.B who v = toldL st.B who st.S := by
  unfold toldL
  congr 1
  refine List.filter_congr fun y hy => ?_
  have hL := bookIn h hy
  unfold tellB
  rw [hv _ hL, h.seen _ hL]
 unfold roleP
 rw [h1]
theorem place_in {N : List Nd} {i : Int} (h : (placeN N i).2.2 = 0) : 0 ≤ i ∧ i.toNat ≤ (wrN N).length ∧ ((i.toNat : Nat) : Int) = i := by
 by_cases hi : i < 0 ∨ ((textN N).length : Int) < i
 · rw [leftN_far hi] at h; cases h
 · have := text_len N
   omega
structure WritesB (st : Ds) (au i c : Int) (e1 : Ev) : Prop where
 ok : e1.Ok
 ref : refD st e1 = 0
 reach : ∃ K G, Reach (apS st e1) K G
 force : e1.dot ∈ (apS st e1).F
 text : textN (apS st e1).N = (textN st.N).take i.toNat ++ [c] ++ (textN st.N).drop i.toNat
 at0 : 0 ≤ i
 atl : i.toNat ≤ (textN st.N).length
 role : 2 ≤ roleP (apS st e1).B au (apS st e1).S
 au8 : au < 8
theorem writes_b {st : Ds} {K : List Ent} {G : List Bool} (h : Reach st K G) {au i c : Int} (hau : 0 ≤ au) (hf : forbN st au (decide (1 ≤ c) && decide (c ≤ 127)) 2 = 0) (hp : (placeN st.N i).2.2 = 0) : WritesB st au i c (nextE st au.toNat (evK 1 (placeN st.N i).1 (placeN st.N i).2.1 c 0 0)) := by
 obtain ⟨hg, hR⟩ := h.good
 obtain ⟨f1, f2, f3, f4⟩ := forbN_zero hf
 simp only [Bool.and_eq_true, decide_eq_true_eq] at f2
 obtain ⟨i0, il, ii⟩ := place_in hp
 have ha : au.toNat < 8 := by omega
 have haa : ((au.toNat : Nat) : Int) = au := Int.toNat_of_nonneg hau
 obtain ⟨p1, p2, p3⟩ := place_ok hg.tree il
 rw [ii] at p1 p2 p3
 have hids := h.ids.place hg.tree i
 obtain ⟨pl, hpl⟩ : ∃ q, placeN st.N i = q := ⟨_, rfl⟩
 rw [hpl] at p1 p2 p3 hids ⊢
 obtain ⟨⟨pa, ps⟩, pr, pe⟩ := pl
 simp only at p1 p2 p3 hids ⊢
 obtain ⟨e1, he1⟩ : ∃ q, nextE st au.toNat (evK 1 (pa, ps) pr c 0 0) = q := ⟨_, rfl⟩
 have hnd := next_dot hg ha (evK 1 (pa, ps) pr c 0 0)
 have hok : (nextE st au.toNat (evK 1 (pa, ps) pr c 0 0)).Ok := nextE_okD hg ha hids (by decide) (by omega) (by decide) (by decide)
 have hseen := hg.seen ha
 have hri : rightB (nextE st au.toNat (evK 1 (pa, ps) pr c 0 0)) = true := by
  unfold rightB
  rw [hnd, Bool.true_and]
  unfold rightKB nextE evK
  simp only
  rw [if_pos trivial]
  have hpar : rightParB (nextE st au.toNat (evK 1 (pa, ps) pr c 0 0)) = true := by
   unfold rightParB nextE evK
   simp only
   rcases p3 with q | q
   · have e3 := p2 q
     obtain ⟨rfl, rfl⟩ := Prod.mk.inj q
     rw [e3]; rfl
   · have := h.nodeSeen q
     simp only at this
     rw [this, Bool.or_true]
  unfold nextE evK at hpar
  simp only at hpar
  rw [hpar]
  simp only [Bool.and_eq_true, decide_eq_true_eq]
  exact ⟨⟨f2, trivial⟩, rfl⟩
 have hr := told_ready hri f3
 have hda : (nextE st au.toNat (evK 1 (pa, ps) pr c 0 0)).da = au := haa
 have hds : (nextE st au.toNat (evK 1 (pa, ps) pr c 0 0)).ds = st.S[au.toNat]?.getD 0 + 1 := rfl
 have hpast : (nextE st au.toNat (evK 1 (pa, ps) pr c 0 0)).past = st.S := rfl
 have hkind : (nextE st au.toNat (evK 1 (pa, ps) pr c 0 0)).kind = 1 := rfl
 have hndn : (nextE st au.toNat (evK 1 (pa, ps) pr c 0 0)).nd = ⟨(nextE st au.toNat (evK 1 (pa, ps) pr c 0 0)).dot, ((pa, ps), pr), c⟩ := rfl
 rw [he1] at hok hri hr hda hds hpast hkind hndn ⊢
 have hm : mayB st e1 2 = true := by unfold mayB; rw [hda, hpast]; simpa using f4
 have hrefI : refI st.N e1.nd = 0 := by
  rw [hndn]
  unfold refI
  simp only
  rw [if_neg, if_neg, if_neg, if_neg]
  · have := hg.nlen; omega
  · intro ⟨q1, q2⟩
    rcases p3 with q | q
    · exact q1 q
    · rw [q] at q2; cases q2
  · intro q
    obtain ⟨n, hn, hid⟩ := chrN_some.1 q
    obtain ⟨x, hx, hxd⟩ := h.nodeIn n hn
    exact hR.fresh hr x hx (hxd.trans hid)
  · intro q
    rcases q with q | q | q | q
    · have : e1.ds = 0 := congrArg Prod.snd q
      omega
    · omega
    · omega
    · have := p2 q.1
      rw [q.2] at this; cases this
 have hact : actB st e1 = true := by
  unfold actB
  rw [if_pos hkind, hm, hrefI]; rfl
 have hN : (apS st e1).N = st.N ++ [e1.nd] := by
  show Go.Proofs.YtmbdohnmbkpfaaaGreat.actN st e1 = _
  unfold Go.Proofs.YtmbdohnmbkpfaaaGreat.actN
  rw [if_pos hkind, if_pos hm]
  unfold insN
  rw [if_pos hrefI]
 have hB : (apS st e1).B = st.B := by
  show actK st e1 = _
  unfold actK
  rw [if_pos (.inl hkind)]
 have hF : e1.dot ∈ (apS st e1).F := by
  show e1.dot ∈ actF st e1
  exact actF_mem.2 (.inr ⟨hact, rfl⟩)
 refine ⟨hok, hr, ⟨_, _, h.ap hok hr⟩, hF, ?_, i0, by rw [text_len]; exact il, ?_, f1⟩
 · rw [hN]
   have := place_text hg.tree il (n := e1.nd) (by rw [ii, hpl, hndn]) hrefI
   rw [hndn] at this ⊢
   exact this
 · rw [hB]
   show 2 ≤ roleP st.B au (stepS st.S e1.da)
   rw [role_seen hR (fun y hy => has_step hg.slen (by omega) (by omega) (hR.seen y hy))]
   exact f4
structure WritesC (st : Ds) (k : Nat) (e2 : Ev) : Prop where
 ok : e2.Ok
 ref : refD st e2 = 0
 text : textN (apS st e2).N = (textN st.N).take k ++ (textN st.N).drop (k + 1)
theorem writes_c {st : Ds} {K : List Ent} {G : List Bool} (h : Reach st K G) {au i : Int} (hau : 0 ≤ au) (ha8 : au < 8) (hi : 0 ≤ i) (hil : i.toNat < (textN st.N).length) (h2 : 2 ≤ roleP st.B au st.S) : ∃ e2 F2, tellE st au i = (e2, F2) ∧ e2.past.length = 8 ∧ (F2 = 10 ∨ (F2 = 0 ∧ WritesC st i.toNat e2)) := by
 obtain ⟨hg, hR⟩ := h.good
 have ha : au.toNat < 8 := by omega
 have haa : ((au.toNat : Nat) : Int) = au := Int.toNat_of_nonneg hau
 unfold tellE
 by_cases hl : 512 ≤ st.L.length
 · have hf : forbN st au true 2 = 10 := by unfold forbN; rw [if_neg (by omega), if_neg (by decide), if_pos hl]
   rw [hf, if_pos (by decide)]
   exact ⟨_, _, rfl, rfl, .inl rfl⟩
 · have hf : forbN st au true 2 = 0 := by unfold forbN; rw [if_neg (by omega), if_neg (by decide), if_neg hl, if_neg (by omega)]
   have hk : i.toNat < (wrN st.N).length := by rw [← text_len]; exact hil
   have hat : atN st.N i = some (wrN st.N)[i.toNat] := by unfold atN; rw [if_neg (by omega), List.getElem?_eq_getElem hk]
   have hids := h.ids.at_ hg.tree i
   have hmem : (wrN st.N)[i.toNat] ∈ wrN st.N := List.getElem_mem hk
   have htx := textN_del hg.tree hk
   rw [hf, if_neg (by decide)]
   rw [hat] at hids ⊢
   simp only [atE, atD, Option.isSome_some, if_true, Option.getD_some] at hids ⊢
   rw [if_neg (by decide)]
   obtain ⟨x, hx⟩ : ∃ q, (wrN st.N)[i.toNat] = q := ⟨_, rfl⟩
   rw [hx] at hids hmem htx ⊢
   have hsome : (chrN st.N x).isSome = true := by
    unfold wrN at hmem
    obtain ⟨n, hn, e⟩ := mem_walk hg.tree.rooted rootS x (List.mem_filter.1 hmem).1
    exact chrN_some.2 ⟨n, hn, e⟩
   have hsn := h.nodeSeen hsome
   obtain ⟨pa, ps⟩ := x
   simp only at hsn
   have hnd := next_dot hg ha (evK 2 (pa, ps) false 0 0 0)
   have hok : (nextE st au.toNat (evK 2 (pa, ps) false 0 0 0)).Ok := nextE_okD hg ha hids (by decide) (by decide) (by decide) (by decide)
   have hri : rightB (nextE st au.toNat (evK 2 (pa, ps) false 0 0 0)) = true := by
    unfold rightB
    rw [hnd, Bool.true_and]
    unfold rightKB nextE evK
    simp only
    rw [if_neg (by decide), if_pos trivial, hsn]
    rfl
   have hr := told_ready hri (by omega)
   have hda : (nextE st au.toNat (evK 2 (pa, ps) false 0 0 0)).da = au := haa
   have hpast : (nextE st au.toNat (evK 2 (pa, ps) false 0 0 0)).past = st.S := rfl
   have hkind : (nextE st au.toNat (evK 2 (pa, ps) false 0 0 0)).kind = 2 := rfl
   have hpar : (nextE st au.toNat (evK 2 (pa, ps) false 0 0 0)).par = (pa, ps) := rfl
   refine ⟨_, _, rfl, hg.slen, .inr ⟨rfl, hok, hr, ?_⟩⟩
   have hm : mayB st (nextE st au.toNat (evK 2 (pa, ps) false 0 0 0)) 2 = true := by unfold mayB; rw [hda, hpast]; simpa using h2
   have hN : (apS st (nextE st au.toNat (evK 2 (pa, ps) false 0 0 0))).N = delN st.N (pa, ps) := by
    show Go.Proofs.YtmbdohnmbkpfaaaGreat.actN st (nextE st au.toNat (evK 2 (pa, ps) false 0 0 0)) = _
    unfold Go.Proofs.YtmbdohnmbkpfaaaGreat.actN
    rw [if_neg (by rw [hkind]; decide), if_pos hkind, if_pos hm, hpar]
   rw [hN]
   exact htx
theorem text_back {T : List Int} {k : Nat} (hk : k ≤ T.length) {c : Int} : (T.take k ++ [c] ++ T.drop k).take k ++ (T.take k ++ [c] ++ T.drop k).drop (k + 1) = T := by
 have h1 : (T.take k).length = k := by rw [List.length_take]; omega
 rw [List.append_assoc, List.take_left' h1, List.drop_append, h1, List.drop_of_length_le (by omega), List.nil_append, Nat.add_sub_cancel_left]
 show List.take k T ++ List.drop k T = T
 exact List.take_append_drop k T
theorem writes_w {st : Ds} {K : List Ent} {G : List Bool} (h : Reach st K G) {au i c : Int} (hau : 0 ≤ au) : ∃ e F, tellW st au i c = (e, F) ∧ e.past.length = 8 ∧ ((F ≠ 0 ∧ e = evZ0) ∨ (F = 0 ∧ WritesB st au i c e)) := by
 unfold tellW
 by_cases hf : forbN st au (decide (1 ≤ c) && decide (c ≤ 127)) 2 = 0
 · rw [hf, if_neg (by decide)]
   by_cases hp : (placeN st.N i).2.2 = 0
   · rw [hp, if_neg (by decide)]
     have hB := writes_b h hau hf hp
     exact ⟨_, _, rfl, hB.ok.past, .inr ⟨rfl, hB⟩⟩
   · rw [if_pos hp]
     exact ⟨_, _, rfl, rfl, .inl ⟨hp, rfl⟩⟩
 · rw [if_pos hf]
   exact ⟨_, _, rfl, rfl, .inl ⟨hf, rfl⟩⟩
end Go.Proofs.YtmbdohnmbkpfaaaGreat
