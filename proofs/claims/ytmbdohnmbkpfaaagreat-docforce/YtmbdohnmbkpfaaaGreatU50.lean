/- De13 De15 Dlv -/
import Derived.Test.YtmbdohnmbkpfaaaGreatU49
import Derived.Test.YtmbdohnmbkpfaaaGreatU09
import Derived.Test.YtmbdohnmbkpfaaaGreatU41
import Derived.Test.YtmbdohnmbkpfaaaGreatU48
namespace Go.Proofs.YtmbdohnmbkpfaaaGreat
open Go.RowKit Go.Shelf
set_option maxRecDepth 20000
set_option linter.unusedSimpArgs false
def playX (L : List Ed) : Ds := L.foldl stepX newS
theorem playX_snoc (L : List Ed) (d : Ed) : playX (L ++ [d]) = stepX (playX L) d := by unfold playX; rw [List.foldl_append]; rfl
structure PlayX (w : World) (L : List Ed) (v0 : Value) (w' : World) : Prop where
  out : ∃ D Q, v0 = .tuple #[.pointer (some ⟨D, 0, none⟩), .pointer (some ⟨Q, 0, none⟩), .bool true] ∧ BothD w.heap.size w' (playX (L.take 50)) (playX (L.take 50)) D Q [] ∧ Below w.heap.size w w'
set_option maxHeartbeats 8000000 in
theorem play10_any (x : Option Addr) (len cap : Nat) (L : List Ed) (w : World) (hL : EdsAt w x len cap L) :
    Calls Tryz.prog 11 #[.slice x len cap] w fun e w' => ∃ v0, e = .returned v0 ∧ PlayX w L v0 w' := by
  have hnew := dNew_any w
  have HRN : Veil (∀ W, Calls Tryz.prog 34 #[] W fun r w' => ∃ p, r = .returned (.pointer (some ⟨p.D, 0, none⟩)) ∧ RDocAt w' W.heap.size newS p ∧ GoodR newS p.K p.G ∧ Below W.heap.size W w' ∧ ∀ k, rdocP p k → W.heap.size ≤ k) := ⟨fun W => rnew10_any W⟩
  have HL := Veil.mk hL
  have hle := hL.le
  have htop := hL.top
  have HLE := Veil.mk hL.len_eq
  clear hL
  go_enter Tryz.func11, Tryz.ntmps11
  go_upto_region 2 with (first
    | (go_at_call 15; refine hnew.mono ?_; rintro z W1 ⟨p, rfl, hT, hb1, hl1⟩; have hrn := HRN.out W1; clear hnew)
    | (go_at_call 34; refine hrn.mono ?_; rintro z W2 ⟨q, rfl, hQ, hR, hb2, hl2⟩))
  have hz1 := hb1.size
  have hBT : BothD w.heap.size W2 (playX (L.take 0)) (playX (L.take 0)) p.D q.D [] := by
    refine ⟨p, q, rfl, rfl, ⟨hT.far hb2, ⟨hQ.box, ⟨hQ.tree.box, hQ.tree.own.less hz1, hQ.tree.len⟩, ⟨hQ.book.cells, hQ.book.ev.less hz1, hQ.book.bo.less hz1⟩, hQ.evs.less hz1, hQ.flags.less hz1, hQ.apart1, hQ.apart2⟩, GoodD.new, GoodD.new, hR, hl1, fun k hk => Nat.le_trans hz1 (hl2 k hk), fun k hk hq => ?_, fun x hx => by cases hx⟩⟩
    have := hT.blockLt k hk
    have := hl2 k hq
    omega
  have hB2 : Below w.heap.size w W2 := hb1.trans (hb2.mono hb1.size)
  refine forget (p := fun y => Code.wp _ _ _ _ y) (fun W => BothD w.heap.size W (playX (L.take 0)) (playX (L.take 0)) p.D q.D [] ∧ Below w.heap.size w W) ⟨hBT, hB2⟩ ?_
  generalize p.D = D
  generalize q.D = Q
  clear hBT hB2 hb1 hb2 hT hQ hR hrn hz1 HRN hl1 hl2 W1 W2 p q
  rintro W0 h0
  go_wp2_with fail
  go_loopw [7] (fun p wr => ∃ (i : Nat), p = .int .i64 (i : Nat) ∧ i ≤ len ∧ i ≤ 50 ∧ BothD w.heap.size wr (playX (L.take i)) (playX (L.take i)) D Q [] ∧ Below w.heap.size w wr) (fun p _ => 50 - (intOf p).toNat)
  case atStart => exact ⟨0, rfl, Nat.zero_le _, Nat.zero_le _, h0.1, h0.2⟩
  case round =>
    obtain ⟨i, rfl, hi, hi60, hBT, hB⟩ := hrel
    clear h0
    have HB := Veil.mk hB
    have HBT := Veil.mk hBT
    clear hB hBT
    by_cases hlt : i < len
    · have hli : decide ((i : Int) < (len : Int)) = true := by simp; omega
      by_cases h60 : i < 50
      · have hl6 : decide ((i : Int) < 50) = true := by simp; omega
        have hil : i < L.length := by have := HLE.out; omega
        have hi0 : (0 : Int) ≤ (i : Int) := by omega
        have hlti : (i : Int) < (len : Int) := by omega
        obtain ⟨g, off, hxg, hcl⟩ : ∃ g off, x = some ⟨g, off, none⟩ ∧ wr.rangeAt g (off + i * 23) L[i].cells := by
          rcases (HL.out.below HB.out).at_ with h | ⟨g, off, hx, hc⟩
          · omega
          · exact ⟨g, off, hx, fun q u hu => hc i hil q u hu⟩
        have hok := HL.out.ok _ (List.getElem_mem hil)
        have hdo := do10_any w.heap.size (playX (L.take i)) D Q L[i] wr HBT.out hok HB.out.size
        have HNX : Veil (stepX (playX (L.take i)) L[i] = playX (L.take (i + 1))) := ⟨by rw [List.take_succ_eq_append_getElem hil, playX_snoc]⟩
        have iC : (Tryz.prog.info? 56).map (·.size) = some L[i].cells.length := by rw [(ed_parts L[i] hok.e.past).2.2.2.2.2.2.2.2]; kernel_rfl
        have uC := Tryz.underlying56
        generalize stepX (playX (L.take i)) L[i] = DO at hdo HNX
        generalize L[i].cells = DC at hcl hdo iC
        have hww : IntKind.i64.wrap ((i : Int) + 1) = (i : Int) + 1 := by rw [IntKind.wrap_i64]; omega
        clear hil hok
        subst hxg
        go_wp2_with (first
          | (refine wpList_ldv rfl 56 (.tmp 24) rfl g (off + i * 23) rfl DC hcl uC rfl iC ?_)
          | (go_at_call 33; refine hdo.mono ?_; rintro z W3 ⟨rfl, hq3⟩; have HQ3 := Veil.mk hq3; clear hq3 hdo))
        go_roundw
        case rel => exact ⟨i + 1, by push_cast; rfl, hlt, h60, by rw [← HNX.out]; exact HQ3.out.1, HB.out.trans HQ3.out.2⟩
        case measure => simp [intOf]; omega
      · have hl6 : decide ((i : Int) < 50) = false := by simp; omega
        have HE : Veil (L.take i = L.take 50) := ⟨by rw [show i = 50 by omega]⟩
        have HPR : Veil (PlayX w L (.tuple #[.pointer (some ⟨D, 0, none⟩), .pointer (some ⟨Q, 0, none⟩), .bool true]) wr) := ⟨⟨D, Q, rfl, by rw [← HE.out]; exact HBT.out, HB.out⟩⟩
        go_wp2
        refine bodyPost_ret (results_tmp3 rfl _ _ _) rfl ?_
        exact ⟨_, rfl, HPR.out⟩
    · have hli : decide ((i : Int) < (len : Int)) = false := by simp; omega
      have HE : Veil (L.take i = L.take 50) := ⟨by have := HLE.out; rw [List.take_of_length_le (by omega), List.take_of_length_le (by omega)]⟩
      have HPR : Veil (PlayX w L (.tuple #[.pointer (some ⟨D, 0, none⟩), .pointer (some ⟨Q, 0, none⟩), .bool true]) wr) := ⟨⟨D, Q, rfl, by rw [← HE.out]; exact HBT.out, HB.out⟩⟩
      go_wp2
      refine bodyPost_ret (results_tmp3 rfl _ _ _) rfl ?_
      exact ⟨_, rfl, HPR.out⟩
inductive Reach : Ds → List Ent → List Bool → Prop
  | new : Reach newS [] []
  | ap {st : Ds} {K : List Ent} {G : List Bool} {e : Ev} (h : Reach st K G) (he : e.Ok) (hr : refD st e = 0) : Reach (apS st e) (actR K e) (G ++ [actB st e])
theorem Reach.good {st : Ds} {K : List Ent} {G : List Bool} (h : Reach st K G) : GoodD st ∧ GoodR st K G := by
  induction h with
  | new => exact ⟨GoodD.new, GoodR.new⟩
  | ap _ he hr ih => exact ⟨ih.1.ap he hr, ih.2.ap ih.1 he hr⟩
theorem IdsOk.act {st : Ds} (h : IdsOk st.N) {e : Ev} (he : e.Ok) : IdsOk (actN st e) := by
  unfold actN
  split
  · split
    · unfold insN
      split
      · intro n hn
        rcases List.mem_append.1 hn with q | q
        · exact h n q
        · rw [List.mem_singleton.1 q]; exact he.dot
      · exact h
    · exact h
  · split
    · split
      · intro n hn
        unfold delN at hn
        obtain ⟨m, hm, rfl⟩ := List.mem_map.1 hn
        rw [gone_id]; exact h m hm
      · exact h
    · exact h
theorem Reach.ids {st : Ds} {K : List Ent} {G : List Bool} (h : Reach st K G) : IdsOk st.N := by
  induction h with
  | new => exact fun n hn => by cases hn
  | ap _ he _ ih => exact IdsOk.act ih he
theorem Reach.does {st : Ds} {K : List Ent} {G : List Bool} (h : Reach st K G) {e : Ev} (he : e.Ok) : ∃ K G, Reach (doS st e) K G := by
  unfold doS
  split
  · exact ⟨_, _, h.ap he ‹_›⟩
  · exact ⟨_, _, h⟩
theorem Reach.step {st : Ds} {K : List Ent} {G : List Bool} (h : Reach st K G) {X : Ed} (hX : X.Ok) : ∃ K G, Reach (stepX st X) K G := by
  unfold stepX
  split
  · split
    · exact h.does (tellD_ok h.good.1 h.ids hX)
    · exact ⟨_, _, h⟩
  · exact ⟨_, _, h⟩
theorem reach_play (L : List Ed) (hL : ∀ X ∈ L, X.Ok) : ∃ K G, Reach (playX L) K G := by
  have key : ∀ (L : List Ed) (st : Ds), (∃ K G, Reach st K G) → (∀ X ∈ L, X.Ok) → ∃ K G, Reach (L.foldl stepX st) K G := fun L => by
    induction L with
    | nil => exact fun st h _ => h
    | cons X L ih => exact fun st ⟨K, G, h⟩ hL => ih _ (h.step (hL X (by simp))) (fun Y hY => hL Y (by simp [hY]))
  exact key L newS ⟨_, _, .new⟩ hL
def kL (L : List Ev) : List Ent := L.foldl actR []
theorem kL_snoc (L : List Ev) (e : Ev) : kL (L ++ [e]) = actR (kL L) e := by unfold kL; rw [List.foldl_append]; rfl
theorem kL_good (L : List Ev) (hL : ∀ e ∈ L, e.Ok) : GoodB (kL L) ∧ (kL L).length ≤ L.length := by
  have key : ∀ (L : List Ev) (K : List Ent) (n : Nat), GoodB K → K.length ≤ n → (∀ e ∈ L, e.Ok) → GoodB (L.foldl actR K) ∧ (L.foldl actR K).length ≤ n + L.length := fun L => by
    induction L with
    | nil => exact fun K n h hl _ => ⟨h, hl⟩
    | cons e L ih =>
      intro K n h hl hL
      have h1 : GoodB (actR K e) := by
        unfold actR
        split
        · exact h
        · exact h.add e (hL e (by simp))
      have h2 : (actR K e).length ≤ n + 1 := by
        unfold actR
        split
        · omega
        · unfold addB; split
          · simp; omega
          · omega
      have := ih (actR K e) (n + 1) h1 h2 (fun x hx => hL x (by simp [hx]))
      refine ⟨this.1, ?_⟩
      rw [List.length_cons]
      have := this.2
      rw [List.foldl_cons]; omega
  have := key L [] 0 (fun x hx => by cases hx) (Nat.le_refl _) hL
  exact ⟨this.1, by have := this.2; unfold kL; omega⟩
def roleAt (L : List Ev) (i : Nat) (e : Ev) : Int := roleP (kL (L.take i)) e.da e.past
def ForceOk (st : Ds) : Prop := ∀ i (hi : i < st.L.length), (st.L[i].dot ∈ st.F → 2 ≤ roleAt st.L i st.L[i] ∧ ((st.L[i].kind = 3 ∨ st.L[i].kind = 4) → roleAt st.L i st.L[i] = 3)) ∧ ((st.L[i].kind = 3 ∨ st.L[i].kind = 4) → roleAt st.L i st.L[i] = 3 → st.L[i].dot ∈ st.F)
theorem Reach.force {st : Ds} {K : List Ent} {G : List Bool} (h : Reach st K G) : K = kL st.L ∧ ForceOk st := by
  induction h with
  | new => exact ⟨rfl, fun i hi => by cases hi⟩
  | @ap st K G e h he hr ih =>
    obtain ⟨hK, hF⟩ := ih
    obtain ⟨hg, hR⟩ := h.good
    refine ⟨by show actR K e = kL (st.L ++ [e]); rw [kL_snoc, hK], fun i hi => ?_⟩
    have hi2 : i < st.L.length + 1 := by
      have : (apS st e).L.length = st.L.length + 1 := by show (st.L ++ [e]).length = _; simp
      omega
    have hmem : ∀ x, x ∈ (apS st e).F ↔ x ∈ st.F ∨ (actB st e = true ∧ x = e.dot) := fun x => actF_mem
    by_cases hlt : i < st.L.length
    · have e1 : (apS st e).L[i] = st.L[i] := by show (st.L ++ [e])[i] = _; exact List.getElem_append_left hlt
      have e2 : roleAt (apS st e).L i st.L[i] = roleAt st.L i st.L[i] := by
        unfold roleAt
        show roleP (kL ((st.L ++ [e]).take i)) _ _ = _
        rw [List.take_append_of_le_length (by omega)]
      rw [e1, e2, hmem]
      have hne := hR.fresh hr _ (List.getElem_mem hlt)
      have := hF i hlt
      exact ⟨fun q => this.1 (q.elim id fun q => absurd q.2 hne), fun a b => .inl (this.2 a b)⟩
    · obtain rfl : i = st.L.length := by omega
      have e0 : ∀ (M : List Ev), M = st.L ++ [e] → ∀ hi : st.L.length < M.length, M[st.L.length] = e := fun M h hi => by subst h; simp
      have e1 : (apS st e).L[st.L.length] = e := e0 _ rfl hi
      have e2 : roleAt (apS st e).L st.L.length e = roleP K e.da e.past := by
        unfold roleAt
        show roleP (kL ((st.L ++ [e]).take st.L.length)) _ _ = _
        rw [List.take_left, ← hK]
      rw [e1, e2, hmem]
      have hnf := hR.notF hr
      have hB : (e.dot ∈ st.F ∨ (actB st e = true ∧ e.dot = e.dot)) ↔ actB st e = true := ⟨fun q => q.elim (fun r => absurd r hnf) (·.1), fun q => .inr ⟨q, rfl⟩⟩
      rw [hB]
      by_cases hk : e.kind = 1 ∨ e.kind = 2
      · refine ⟨fun q => ⟨?_, fun r => by omega⟩, fun r => by omega⟩
        have hm : mayB st e 2 = true := by
          unfold actB at q
          rcases hk with k | k
          · rw [if_pos k] at q; exact (Bool.and_eq_true_iff.1 q).1
          · rw [if_neg (by omega), if_pos k] at q; exact (Bool.and_eq_true_iff.1 q).1
        rw [hR.may] at hm
        simpa using hm
      · obtain ⟨-, a2, -⟩ := hR.addK hr hk
        rw [a2]
        exact ⟨fun q => by have : roleP K e.da e.past = 3 := by simpa using q
                           exact ⟨by omega, fun _ => this⟩, fun _ q => by simpa using q⟩
theorem Reach.right {st : Ds} {K : List Ent} {G : List Bool} (h : Reach st K G) : ∀ e ∈ st.L, rightB e = true := by
  induction h with
  | new => exact fun e he => by cases he
  | ap _ _ hr ih =>
    intro x hx
    rcases List.mem_append.1 hx with q | q
    · exact ih x q
    · rw [List.mem_singleton.1 q]; exact (refD_zero hr).1
def e1L : Ev := ⟨0, 1, [0, 0, 0, 0, 0, 0, 0, 0], 1, 0, 0, true, 97, 0, 0⟩
def s1L : Ds := ⟨[⟨(0, 1), ((0, 0), true), 97⟩], [], [1, 0, 0, 0, 0, 0, 0, 0], [e1L], [(0, 1)]⟩
theorem tell1L : tellW newS 0 0 97 = (e1L, 0) := rfl
theorem ref1L : refD newS e1L = 0 := by decide
theorem do1L : doS newS e1L = s1L := rfl
theorem text1L : textN s1L.N = [97] := by decide
theorem mem1L : membersL s1L.B s1L.S = [3, 0, 0, 0, 0, 0, 0, 0] := by decide
theorem e1L_ok : e1L.Ok := ⟨⟨by decide, by decide⟩, rfl, (fun x hx => by
  have h0 : x = 0 := (by simpa [e1L] using hx)
  subst h0; decide), ⟨by decide, by decide⟩, by decide, by decide, by decide, by decide⟩
set_option maxHeartbeats 8000000 in
theorem live10_any (w : World) : Calls Tryz.prog 12 #[] w fun e w' => e = .returned (.bool true) ∧ Below w.heap.size w w' := by
  have hG1 : GoodD s1L := by rw [← do1L]; exact GoodD.new.does e1L_ok
  have HWR : Veil (∀ W p, DocAt W w.heap.size newS p → Calls Tryz.prog 25 #[.pointer (some ⟨p.D, 0, none⟩), .int .u8 0, .int .i64 0, .int .u8 97] W fun r w' => r = .returned (.tuple #[.agg (evKC 1 0 0 true 97 0 0 |>.set 1 (.int .u32 1)).toArray, .int .i64 0]) ∧ Below W.heap.size W w') := ⟨fun W p h => by
    have := dWrite_any w.heap.size newS p 0 0 97 W h GoodD.new (by decide) (by decide)
    rw [tell1L] at this
    exact this⟩
  have HAP : Veil (∀ W p, DocAt W w.heap.size newS p → w.heap.size ≤ W.heap.size → Calls Tryz.prog 18 #[.pointer (some ⟨p.D, 0, none⟩), .agg (evKC 1 0 0 true 97 0 0 |>.set 1 (.int .u32 1)).toArray] W fun r w' => r = .returned (.int .i64 0) ∧ ∃ p', DocAt w' w.heap.size s1L p' ∧ DocTo p p' W w') := ⟨fun W p h hb => by
    have := dApply_any w.heap.size newS p e1L W h GoodD.new e1L_ok hb
    rw [ref1L, do1L] at this
    exact this⟩
  have HTX : Veil (∀ W p, DocAt W w.heap.size s1L p → Calls Tryz.prog 20 #[.pointer (some ⟨p.D, 0, none⟩)] W fun e w' => ∃ x c, e = .returned (.slice x 1 c) ∧ (convert 30 9 (.slice x 1 c)).run Tryz.prog w' = .ok (.string (strOfNums [97])) w' ∧ Below W.heap.size W w') := ⟨fun W p h => (dText_any w.heap.size s1L p W h hG1).mono fun e w' ⟨v, h1, h2, h3⟩ => by
    rw [text1L] at h2
    obtain ⟨x, c, rfl⟩ : ∃ x c, v = .slice x 1 c := by
      rcases h2.2 with ⟨rfl, h0⟩ | ⟨g, cap, cur, rfl, _⟩
      · simp at h0
      · exact ⟨_, _, rfl⟩
    exact ⟨x, c, h1, conv_bytes h2.bytes.2, h3⟩⟩
  have HME : Veil (∀ W p, DocAt W w.heap.size s1L p → Calls Tryz.prog 21 #[.pointer (some ⟨p.D, 0, none⟩)] W fun r w' => r = .returned (.agg #[.int .u8 3, .int .u8 0, .int .u8 0, .int .u8 0, .int .u8 0, .int .u8 0, .int .u8 0, .int .u8 0]) ∧ Below W.heap.size W w') := ⟨fun W p h => by
    have := dMembers_any w.heap.size s1L p W h hG1
    rw [mem1L] at this
    exact this⟩
  have HFO : Veil (∀ W p, DocAt W w.heap.size s1L p → Calls Tryz.prog 19 #[.pointer (some ⟨p.D, 0, none⟩), .agg #[.int .u8 0, .int .u32 1]] W fun r w' => r = .returned (.bool true) ∧ Below W.heap.size W w') := ⟨fun W p h => by
    have := dForce_any w.heap.size s1L p (0, 1) ⟨⟨by decide, by decide⟩, ⟨by decide, by decide⟩⟩ W h hG1
    rw [show decide ((0, 1) ∈ s1L.F) = true by decide] at this
    exact this⟩
  have HS : Veil (((strOfNums [97]).toList == [97]) = true) := ⟨by rw [show (strOfNums [97]).toList = [97] by rw [ByteArray.toList_eq]; show (strOfNums [97]).data.toList = _; rw [strOfNums_data]; rfl]; rfl⟩
  have hnew := dNew_any w
  have uE := Tryz.underlying44
  have uD := Tryz.underlying40
  obtain ⟨EC, hEC⟩ : ∃ q, (evKC 1 0 0 true 97 0 0 |>.set 1 (.int .u32 1)) = q := ⟨_, rfl⟩
  rw [hEC] at HWR HAP
  have iE : (Tryz.prog.info? 44).map (·.size) = some EC.length := by rw [← hEC]; show _ = some 17; kernel_rfl
  have h1E : ∀ v ∈ EC, v.oneCell' = true := by rw [← hEC]; exact aev_one e1L
  have hE17 : EC.length = 17 := by rw [← hEC]; rfl
  have HE2 : Veil (EC.take 2 = [.int .u8 0, .int .u32 1]) := ⟨by rw [← hEC]; rfl⟩
  have i01 : (Tryz.prog.info? 40).map (·.size) = some [Value.int .u8 0, Value.int .u32 1].length := sizeDot
  have HZ : Veil (∀ W : World, CellsAt (W.alloc (.cells zC.toArray 44)) W.heap.size 44 zC) := ⟨fun W => CellsAt.new W 44 zC⟩
  unfold zC at HZ
  clear hG1 hEC
  go_enter Tryz.func12, Tryz.ntmps12
  go_upto_region 3 with (first
    | (go_at_call 15; refine hnew.mono ?_; rintro z W1 ⟨p1, rfl, hD1, hB1, hab⟩; have hwr := HWR.out W1 p1 hD1; clear hnew)
    | (go_at_call 25; refine hwr.mono ?_; rintro z W2 ⟨rfl, hb2⟩; have hz2 := HZ.out W2; clear hwr)
    | (refine wpList_stv (cs := EC) rfl 44 _ _ rfl W2.heap.size rfl rfl hz2 iE (by rw [hE17]; rfl) h1E ?_))
  have hb3 : Below W2.heap.size W2 ((W2.alloc (.cells zC.toArray 44)).setRow W2.heap.size EC.toArray) := below_setRow ((Below.refl _ _).alloc (Nat.le_refl _) _) (Nat.le_refl _) _
  have hb13 := hb2.trans (hb3.mono hb2.size)
  have hx3 := hz2.setRow EC
  refine forget (p := fun y => Code.wp _ _ _ _ y) (fun W => Below W1.heap.size W1 W ∧ CellsAt W W2.heap.size 44 EC) ⟨hb13, hx3⟩ ?_
  have HNE : Veil (¬ docP p1 W2.heap.size) := ⟨fun q => by have := hD1.blockLt _ q; have := hb2.size; omega⟩
  generalize W2.heap.size = be at HNE
  clear hb13 hb3 hb2 hz2 hx3 W2
  rintro W3 ⟨hb3, hx3⟩
  have hD3 := hD1.far hb3
  have hB3 := hB1.trans (hb3.mono hB1.size)
  have hap := HAP.out W3 p1 hD3 hB3.size
  have hr3 := hx3.wholeM
  have HAB := Veil.mk hab
  clear hD1 hB1 hb3 hab W1
  go_upto_region 4 with (first
    | (refine wpList_ldv rfl 44 _ rfl be 0 rfl EC hr3 uE rfl iE ?_)
    | (go_at_call 18; refine hap.mono ?_; rintro z W4 ⟨rfl, p4, hD4, ht4⟩; clear hap))
  have hx4 := hx3.congr (ht4.turn.block _ hx3.lt HNE.out)
  have hB4 : Below w.heap.size w W4 := hB3.trans (ht4.turn.below hB3.size fun k q => HAB.out k q)
  have HPD : Veil (p4.D = p1.D) := ⟨ht4.at_⟩
  have htx := HTX.out W4 p4 hD4
  rw [HPD.out] at htx
  have HD4 := Veil.mk hD4
  have HB4 := Veil.mk hB4
  have HX4 := Veil.mk hx4
  have HS2 := HS.out
  have hix : ∀ W : World, (Instr.index 49 (.agg #[.int .u8 3, .int .u8 0, .int .u8 0, .int .u8 0, .int .u8 0, .int .u8 0, .int .u8 0, .int .u8 0]) (.int .i64 0)).run Tryz.prog W = .ok (.int .u8 3) W := fun W => by kernel_rfl
  have HRD : Veil (∀ W, Below W4.heap.size W4 W → W.rangeAt be 0 [.int .u8 0, .int .u32 1]) := ⟨fun W hb => by
    have := (HX4.out.farM hb).range 0 2
    rw [List.drop_zero, HE2.out] at this
    exact this⟩
  clear hx3 hr3 hD3 hB3 hD4 ht4 hx4 hB4 W3
  go_wp2_with (first
    | (go_at_call 20; refine htx.mono ?_; rintro z W5 ⟨tx, tc, rfl, hcv, hb5⟩; have hme := HME.out W5 p4 (HD4.out.far hb5); rw [HPD.out] at hme; clear htx)
    | (go_at_call 21; refine hme.mono ?_; rintro z W6 ⟨rfl, hb6⟩; have hb46 := hb5.trans (hb6.mono hb5.size); have hfo := HFO.out W6 p4 (HD4.out.far hb46); rw [HPD.out] at hfo; have hrd := HRD.out W6 hb46; clear hme)
    | (refine wpList_ldgv (by kernel_rfl) 40 _ rfl be 0 rfl [.int .u8 0, .int .u32 1] hrd uD rfl i01 ?_)
    | (go_at_call 19; refine hfo.mono ?_; rintro z W7 ⟨rfl, hb7⟩; have HQ := Veil.mk (HB4.out.trans ((hb46.trans (hb7.mono hb46.size)).mono HB4.out.size)); clear hfo))
  go_ret
  exact ⟨rfl, HQ.out⟩
end Go.Proofs.YtmbdohnmbkpfaaaGreat
