/- Bf2 Cmp -/
import Derived.Sort.MapsRangeIn
import Derived.Shelf.AbstractIn
import Derived.RegionIn
import Derived.Test.YthjkcfpdkhghpaaH08
import Derived.Test.YthjkcfpdkhghpaaH12
import Derived.Test.YthjkcfpdkhghpaaH10
namespace Go.Proofs.Ythjkcfpdkhghpaa
open Go.RowKit Go.Shelf
attribute [local go_sem] Oper.semAt_some
set_option maxRecDepth 20000
set_option linter.unusedSimpArgs false
theorem keys_any (b : Nat) (w : World) :
    Calls Try.prog 53 #[.map (some b)] w fun e w' => e = .returned (.func (.func 59) #[] #[.pointer (some ⟨w.heap.size, 0, none⟩)]) ∧ w' = w.alloc (.cells #[.map (some b)] 52) := by
  go_enter Try.func53, Try.ntmps53
  go_wp2
  go_ret
  exact ⟨rfl, rfl⟩
theorem ranges_congr {H : Type} {P : Program} {k : TypeId} {R : Value → Option (DataW H × List MemPlace)} {w w' : World} {b r n : Nat} {D : DataW H} {left : Lit → Bool} {cnt : Nat}
    (h : w.ranges P k R b r n D left cnt) (hb' : w'.heap[b]? = w.heap[b]?) (hr' : w'.heap[r]? = w.heap[r]?) : w'.ranges P k R b r n D left cnt := by
  obtain ⟨es, clock, since, seen, c0, hb, F, hs, hD, hr, rest⟩ := h
  exact ⟨es, clock, since, seen, c0, hb'.trans hb, F, hs, hD, hr'.trans hr, rest⟩
structure MovesA (T : Nat → Prop) (w : World) (m : Nat) (T' : Nat → Prop) (w' : World) : Prop where
  turn : Turn T w w'
  own : ∀ k, T' k → (T k ∨ m ≤ k) ∧ k < w'.heap.size
structure CollD (L : List Ev) (left : Lit → Bool) (ps : List (Int × Int)) : Prop where
  nodup : ps.Nodup
  iff : ∀ a s, okD a s → ((a, s) ∈ ps ↔ ((lookE L (a, s)).isSome = true ∧ left (dotLit a s) = false))
  ok : ∀ d ∈ ps, okD d.1 d.2
theorem dotLit_same {a s a' s' : Int} (h : okD a s) (h' : okD a' s') : (dotLit a s).sameKey (dotLit a' s') = true ↔ (a, s) = (a', s') := by
  constructor
  · intro q
    have e : dotLit a s = dotLit a' s' := by
      unfold dotLit at q ⊢
      simpa [Lit.sameKey] using q
    obtain ⟨rfl, rfl⟩ := dotLit_inj h h' e
    rfl
  · intro q
    injection q with q1 q2
    subst q1 q2
    unfold dotLit
    simp [Lit.sameKey]
theorem CollD.step {L : List Ev} {left : Lit → Bool} {ps : List (Int × Int)} (h : CollD L left ps) {a s : Int} (ho : okD a s) (hl : left (dotLit a s) = true) (hs : (lookE L (a, s)).isSome = true) : CollD L (fun z => left z && !z.sameKey (dotLit a s)) (ps ++ [(a, s)]) := by
  refine ⟨?_, fun a' s' ho' => ?_, fun d hd => ?_⟩
  · refine List.nodup_append.2 ⟨h.nodup, by simp, fun x hx y hy e => ?_⟩
    rw [List.mem_singleton.1 hy] at e
    rw [e] at hx
    have := ((h.iff a s ho).1 hx).2
    rw [hl] at this; cases this
  · have hk := dotLit_same ho' ho
    rw [List.mem_append, List.mem_singleton, h.iff a' s' ho']
    by_cases q : (a', s') = (a, s)
    · injection q with q1 q2
      subst q1 q2
      have e : (dotLit a' s').sameKey (dotLit a' s') = true := hk.2 rfl
      simp [hs, e]
    · have e : (dotLit a' s').sameKey (dotLit a s) = false := by
        cases e : (dotLit a' s').sameKey (dotLit a s) with
        | false => rfl
        | true => exact absurd (hk.1 e) q
      simp only [e, Bool.not_false, Bool.and_true]
      constructor
      · rintro (r | r)
        · exact r
        · exact absurd r q
      · exact .inl
  · rcases List.mem_append.1 hd with q | q
    · exact h.ok d q
    · rw [List.mem_singleton.1 q]; exact ho
theorem nodup_dots {L : List Ev} (hs : sortedE L) : (L.map Ev.dot).Nodup := by
  unfold List.Nodup
  rw [List.pairwise_map]
  exact hs.imp fun h => ltD_ne h
theorem CollD.perm {L : List Ev} {left : Lit → Bool} {ps : List (Int × Int)} (h : CollD L left ps) (hs : sortedE L) (hok : ∀ e ∈ L, e.Ok) (hl : ∀ k, left k = false) : ps.Perm (L.map Ev.dot) := by
  refine (List.perm_ext_iff_of_nodup h.nodup (nodup_dots hs)).2 fun d => ?_
  constructor
  · intro hd
    have := ((h.iff d.1 d.2 (h.ok d hd)).1 hd).1
    obtain ⟨e, he⟩ := Option.isSome_iff_exists.1 this
    obtain ⟨h1, h2⟩ := lookE_mem he
    exact List.mem_map.2 ⟨e, h1, h2⟩
  · intro hd
    obtain ⟨e, he, rfl⟩ := List.mem_map.1 hd
    exact (h.iff e.da e.ds (hok e he).dot).2 ⟨by rw [show (e.da, e.ds) = e.dot from rfl, lookE_some hs he]; rfl, hl _⟩
set_option maxHeartbeats 2000000 in
theorem keys1_seq (n Bm b : Nat) (L : List Ev) (w : World) (hm : w.cell? ⟨Bm, 0, none⟩ = some (.map (some b))) (hW : WaitAt w b L) :
    SeqT n Try.prog 59 #[.pointer (some ⟨Bm, 0, none⟩)] (fun x : Int × Int => #[.agg (dotC x.1 x.2).toArray]) (fun k => k = b ∨ k = Bm) (fun _ => False) (fun xs _ => xs.Perm (L.map Ev.dot)) (fun _ _ => True) (fun x => okD x.1 x.2) L.length w := by
  intro l T J Jx W hWW hT hJ hJx hY h0
  have hm2 : W.cell? ⟨Bm, 0, none⟩ = some (.map (some b)) := (hWW.cell (p := ⟨Bm, 0, none⟩) (block_lt_of_cell hm)).trans hm
  have hW2 := hW.congr (hWW.block b hW.lt)
  obtain ⟨D, hown, hat, hsz, hso, hok⟩ := hW2
  refine callsIn_of_wp Try.func59 rfl trivial ?_ rfl
  simp only [Try.ntmps59, List.size_toArray, List.length_cons, List.length_nil, Nat.reduceAdd, Nat.reduceSub, Array.replicate_succ, Array.replicate_zero, List.push_toArray, List.append_toArray, List.nil_append, List.cons_append]
  gi_wp2_with (first
    | (gi_at_range; refine wpListIn_range_own _ rfl _ 52 rfl 32 38 dotKeyed Try.underlying52 _ b _ _ rfl hown ?_; intro w0 hrg0 hg0 hs0)
    | gi_in)
  have hTb : ¬ T b ∧ ¬ T Bm := ⟨fun q => (hT b q).1 (.inl rfl), fun q => (hT Bm q).1 (.inr rfl)⟩
  have hlb : b < W.heap.size := hown.lt
  have hlm : Bm < W.heap.size := block_lt_of_cell hm2
  have hb0 : Below W.heap.size W w0 := ⟨hg0.os, hg0.tape, hg0.output, hg0.size, fun k hk => hg0.block k hk (by simp)⟩
  gi_loopw [3] (fun _ wr => ∃ (left : Lit → Bool) (cnt : Nat) (ps : List (Int × Int)) (T' : Nat → Prop), wr.ranges Try.prog 32 rawElem b W.heap.size L.length D left cnt ∧ ps.length + cnt ≤ L.length ∧ CollD L left ps ∧ J T' ps wr ∧ MovesA T W (W.heap.size + 1) T' wr)
    (fun _ wr => wr.rangeLeft b W.heap.size)
  case atStart =>
    exact ⟨_, _, [], T, hrg0, by simp [hsz], ⟨by simp, fun a s ho => by rw [wait_has hat a s ho]; cases (lookE L (a, s)).isSome <;> simp, by simp⟩, hJ _ _ _ _ h0 (StaysT.of_below hb0 (fun k hk => hk.elim (fun q => (hT k q).2) (fun q => q.1))), ⟨Turn.of_below hb0, fun k hk => ⟨.inl hk, by have := (hT k hk).2; omega⟩⟩⟩
  case round =>
    obtain ⟨left, cnt, ps, T1, hrg, hcs, hC, hJs, hmv⟩ := hrel
    have hT1 : ¬ T1 b ∧ ¬ T1 Bm ∧ ¬ T1 W.heap.size := ⟨fun q => by rcases (hmv.own _ q).1 with e | e; exact hTb.1 e; omega, fun q => by rcases (hmv.own _ q).1 with e | e; exact hTb.2 e; omega, fun q => by rcases (hmv.own _ q).1 with e | e; have := (hT _ e).2; omega; omega⟩
    gi_wp2_with (first
      | (gi_at_next; refine wpListIn_next_ranges _ rfl _ rfl 32 dotKeyed rawElem (fun x : { d : Int × Int // okD d.1 d.2 } => .agg (dotC x.1.1 x.1.2).toArray) (fun v : Value => v) (fun key kl hk => dotKey_inv hk) (fun v y hv => ⟨v, rfl⟩) b W.heap.size L.length _ _ _ rfl hrg ?_ ?_)
      | gi_in)
    · intro hc0 hl0
      gi_wp2
      go_end0
      refine ⟨⟨_, rfl⟩, .inl ⟨ps, T1, ?_, hJs, ?_⟩⟩
      · exact hC.perm hso hok hl0
      · exact ⟨hmv.turn.mono fun k _ q => .inl q, fun k hk => ⟨by rcases (hmv.own k hk).1 with q | q; exact .inl (.inl q); exact .inr (by omega), (hmv.own k hk).2⟩⟩
    · intro a s hod v kl yd yp w2 cnt2 hkey hlk hv hat2 hrg2 hlt hg2 hs2 hen
      obtain rfl : dotLit a s = kl := by have := dotKey a s hod; rw [this] at hkey; injection hkey
      have hsome : (lookE L (a, s)).isSome = true := by
        cases hq : lookE L (a, s) with
        | some e => rfl
        | none =>
          exfalso
          have h1 := hat2 (.held (.bool true))
          have h2 := hat2 (.held (.bool false))
          rw [hat a s hod, hq] at h1 h2
          rw [← h2] at h1
          cases h1
      have hC2 := hC.step hod hlk hsome
      have hbox := CellsAt.new w2 32 (dotC a s)
      have HS : Veil (w2.heap.size = wr.heap.size) := ⟨hs2⟩
      clear hs2
      have hlw := hrg.lt
      have hz3 : Veil ((w2.alloc (.cells #[.int .u8 a, .int .u32 s] 32)).heap.size = wr.heap.size + 1) := ⟨by rw [World.size_alloc, HS.out]⟩
      have hkeep : Veil (∀ k, k < wr.heap.size → k ≠ W.heap.size → (w2.alloc (.cells #[.int .u8 a, .int .u32 s] 32)).heap[k]? = wr.heap[k]?) := ⟨fun k hk hn => (Below.heap_alloc _ _ _ (by rw [HS.out]; exact hk)).trans (hg2.block k hk (fun e => hn (Option.some.inj e)))⟩
      have hst : StaysT (fun k => T1 k ∨ (k < W.heap.size ∧ ¬ False)) wr (w2.alloc (.cells #[.int .u8 a, .int .u32 s] 32)) := ⟨hg2.os, hg2.tape, hg2.output, by rw [hz3.out]; omega, fun k hk => hk.elim (fun hk => hkeep.out k (hmv.own k hk).2 (fun e => hT1.2.2 (e ▸ hk))) (fun hk => hkeep.out k (by have := hmv.turn.size; omega) (by omega))⟩
      obtain ⟨fn, tmps, assign, body, hy, hR⟩ := hY T1 ps (a, s) _ (hJ _ _ _ _ hJs hst) hod (by omega) (fun k hk => by rw [hz3.out]; have := (hmv.own k hk).2; omega)
      have hrg3 : Veil (∀ W3 T2, MovesT T1 (w2.alloc (.cells #[.int .u8 a, .int .u32 s] 32)) T2 W3 → W3.ranges Try.prog 32 rawElem b W.heap.size L.length D (fun z => left z && !z.sameKey (dotLit a s)) cnt2 ∧ MovesA T W (W.heap.size + 1) T2 W3) := ⟨fun W3 T2 hm3 => by
        have hbl : b < w2.heap.size := hrg2.owns.lt
        refine ⟨ranges_congr hrg2 ((hm3.turn.block b (by rw [World.size_alloc]; omega) hT1.1).trans (Below.heap_alloc _ _ _ hbl)) ((hm3.turn.block _ (by rw [World.size_alloc]; have := hrg2.lt; omega) hT1.2.2).trans (Below.heap_alloc _ _ _ hrg2.lt)), ⟨?_, ?_, ?_, ?_, fun k hk hn => ?_⟩, fun k hk => ?_⟩
        · exact (hm3.turn.os.trans hst.os).trans hmv.turn.os
        · exact (hm3.turn.tape.trans hst.tape).trans hmv.turn.tape
        · exact (hm3.turn.output.trans hst.output).trans hmv.turn.output
        · exact Nat.le_trans (Nat.le_trans hmv.turn.size hst.size) hm3.turn.size
        · refine ((hm3.turn.block k (by rw [hz3.out]; have := hmv.turn.size; omega) (fun q => ?_)).trans (hkeep.out k (by have := hmv.turn.size; omega) (by omega))).trans (hmv.turn.block k hk hn)
          rcases (hmv.own k q).1 with r | r
          · exact hn r
          · omega
        · rcases (hm3.own k hk).1 with q | q
          · rcases (hmv.own k q).1 with r | r
            · exact ⟨.inl r, (hm3.own k hk).2⟩
            · exact ⟨.inr r, (hm3.own k hk).2⟩
          · rw [hz3.out] at q
            exact ⟨.inr (by have := hmv.turn.size; omega), (hm3.own k hk).2⟩⟩
      dsimp only [dotC] at hy
      simp only [dotC] at hen ⊢
      clear hst hbox hg2 hrg2 hat2
      gi_wp2
      refine ⟨(fun h => by cases h), hR.mono ?_⟩
      rintro e W3 (⟨rfl, T2, hJ3, hm3⟩ | ⟨rfl, T2, hJx3, hm3⟩)
      · obtain ⟨hr3, hmv3⟩ := hrg3.out W3 T2 hm3
        gi_wp2
        go_roundw
        case rel => exact ⟨_, cnt2, ps ++ [(a, s)], T2, hr3, by simp; omega, hC2, hJ3, hmv3⟩
        case measure => rw [hr3.left_eq, hrg.left_eq]; exact hlt
      · obtain ⟨hr3, hmv3⟩ := hrg3.out W3 T2 hm3
        gi_wp2
        refine bodyPost_ret (results_none rfl _ _ _) rfl ?_
        exact ⟨⟨_, rfl⟩, .inr ⟨ps ++ [(a, s)], T2, trivial, hJx3, ⟨hmv3.turn.mono fun k _ q => .inl q, fun k hk => ⟨by rcases (hmv3.own k hk).1 with q | q; exact .inl (.inl q); exact .inr (by omega), (hmv3.own k hk).2⟩⟩⟩⟩
open Go.RowKit
def cmpI (a b : Int) : Int := if a < b then -1 else if b < a then 1 else 0
def cmpD (x y : Int × Int) : Int := if x.1 = y.1 then cmpI x.2 y.2 else cmpI x.1 y.1
theorem nanB_any (a : Int) (w : World) : Calls Try.prog 54 #[.int .u8 a] w fun e w' => e = .returned (.bool false) ∧ w' = w := by
  go_enter Try.func54, Try.ntmps54
  go_wp2
  go_ret
  exact ⟨rfl, rfl⟩
theorem nanU_any (a : Int) (w : World) : Calls Try.prog 55 #[.int .u32 a] w fun e w' => e = .returned (.bool false) ∧ w' = w := by
  go_enter Try.func55, Try.ntmps55
  go_wp2
  go_ret
  exact ⟨rfl, rfl⟩
theorem cmpB_any (a b : Int) (w : World) : Calls Try.prog 47 #[.int .u8 a, .int .u8 b] w fun e w' => e = .returned (.int .i64 (cmpI a b)) ∧ w' = w := by
  have hn := fun x => nanB_any x w
  have HC : Veil (cmpI a b = if a < b then -1 else if b < a then 1 else 0) := ⟨rfl⟩
  generalize cmpI a b = R at HC ⊢
  go_enter Try.func47, Try.ntmps47
  by_cases h1 : a < b
  · have HR : Veil (R = -1) := ⟨by rw [HC.out, if_pos h1]⟩
    go_wp2_with (go_at_call 54; refine (hn _).mono ?_; rintro e w' ⟨rfl, rfl⟩)
    go_ret
    exact ⟨by rw [HR.out]; rfl, rfl⟩
  · by_cases h2 : b < a
    · have HR : Veil (R = 1) := ⟨by rw [HC.out, if_neg h1, if_pos h2]⟩
      go_wp2_with (go_at_call 54; refine (hn _).mono ?_; rintro e w' ⟨rfl, rfl⟩)
      go_ret
      exact ⟨by rw [HR.out]; rfl, rfl⟩
    · have HR : Veil (R = 0) := ⟨by rw [HC.out, if_neg h1, if_neg h2]⟩
      go_wp2_with (go_at_call 54; refine (hn _).mono ?_; rintro e w' ⟨rfl, rfl⟩)
      go_ret
      exact ⟨by rw [HR.out]; rfl, rfl⟩
theorem cmpU_any (a b : Int) (w : World) : Calls Try.prog 48 #[.int .u32 a, .int .u32 b] w fun e w' => e = .returned (.int .i64 (cmpI a b)) ∧ w' = w := by
  have hn := fun x => nanU_any x w
  have HC : Veil (cmpI a b = if a < b then -1 else if b < a then 1 else 0) := ⟨rfl⟩
  generalize cmpI a b = R at HC ⊢
  go_enter Try.func48, Try.ntmps48
  by_cases h1 : a < b
  · have HR : Veil (R = -1) := ⟨by rw [HC.out, if_pos h1]⟩
    go_wp2_with (go_at_call 55; refine (hn _).mono ?_; rintro e w' ⟨rfl, rfl⟩)
    go_ret
    exact ⟨by rw [HR.out]; rfl, rfl⟩
  · by_cases h2 : b < a
    · have HR : Veil (R = 1) := ⟨by rw [HC.out, if_neg h1, if_pos h2]⟩
      go_wp2_with (go_at_call 55; refine (hn _).mono ?_; rintro e w' ⟨rfl, rfl⟩)
      go_ret
      exact ⟨by rw [HR.out]; rfl, rfl⟩
    · have HR : Veil (R = 0) := ⟨by rw [HC.out, if_neg h1, if_neg h2]⟩
      go_wp2_with (go_at_call 55; refine (hn _).mono ?_; rintro e w' ⟨rfl, rfl⟩)
      go_ret
      exact ⟨by rw [HR.out]; rfl, rfl⟩
end Go.Proofs.Ythjkcfpdkhghpaa
