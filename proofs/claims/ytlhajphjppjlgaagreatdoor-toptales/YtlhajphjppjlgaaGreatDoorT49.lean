/- Hto -/
import Derived.Test.YtlhajphjppjlgaaGreatDoorT39
import Derived.Test.YtlhajphjppjlgaaGreatDoorT48
import Derived.Test.YtlhajphjppjlgaaGreatDoorT47
import Derived.Test.YtlhajphjppjlgaaGreatDoorT30
import Derived.Test.YtlhajphjppjlgaaGreatDoorT35
namespace Go.Proofs.YtlhajphjppjlgaaGreatDoor
open Go.RowKit
set_option maxRecDepth 20000
set_option linter.unusedSimpArgs false
theorem meetT {a : Act} {F : (Nat → Value) → Act} {P : Prop} (h : a = F (fun i => a.tmps.getD i undef)) (hp : P) : ∃ u, a = F u ∧ P := ⟨_, h, hp⟩
theorem ChainAt.lessB {w : World} {base base' H b : Nat} {v : Value} {T : Sms} {P : List Pf} (h : ChainAt w base H b v T P) (hb : base' ≤ base) : ChainAt w base' H b v T P :=
  ⟨h.box, h.map, h.own.less hb, h.ok, h.okP, h.lenP, by have := h.baseH; omega, by have := h.baseB; omega⟩
structure TwoC (V : World) (B H1 b1 H2 b2 : Nat) (v1 v2 : Value) (T1 T2 : Sms) (P1 P2 : List Pf) : Prop where
  c : ChainAt V B H1 b1 v1 T1 P1
  d : ChainAt V B H2 b2 v2 T2 P2
  sep : ∀ g, chainP H1 b1 v1 g → ¬ chainP H2 b2 v2 g
theorem TwoC.swap {V : World} {B H1 b1 H2 b2 : Nat} {v1 v2 : Value} {T1 T2 : Sms} {P1 P2 : List Pf} (h : TwoC V B H1 b1 H2 b2 v1 v2 T1 T2 P1 P2) : TwoC V B H2 b2 H1 b1 v2 v1 T2 T1 P2 P1 := ⟨h.d, h.c, fun g h2 h1 => h.sep g h1 h2⟩
theorem TwoC.far {V V' : World} {B H1 b1 H2 b2 : Nat} {v1 v2 : Value} {T1 T2 : Sms} {P1 P2 : List Pf} (h : TwoC V B H1 b1 H2 b2 v1 v2 T1 T2 P1 P2) (hb : Below V.heap.size V V') : TwoC V' B H1 b1 H2 b2 v1 v2 T1 T2 P1 P2 := ⟨h.c.far hb, h.d.far hb, h.sep⟩
theorem TwoC.step {V V' : World} {B H1 b1 H2 b2 : Nat} {v1 v1' v2 : Value} {T1 T2 T1' : Sms} {P1 P2 P1' : List Pf} (h : TwoC V B H1 b1 H2 b2 v1 v2 T1 T2 P1 P2) (ht : ChainTo V V' B H1 b1 v1 v1' T1' P1') : TwoC V' B H1 b1 H2 b2 v1' v2 T1' T2 P1' P2 :=
  ⟨ht.at_, h.d.turn ht.turn (fun g h2 h1 => h.sep g h1 h2), fun g h1 h2 => by
    rcases h1 with q | q | q
    · exact h.sep g (.inl q) h2
    · exact h.sep g (.inr (.inl q)) h2
    · rcases ht.own with e | ⟨g', e, hge⟩
      · rw [e] at q; exact h.sep g (.inr (.inr q)) h2
      · rw [e] at q; cases q
        have := (h.d.inside _ h2).1
        omega⟩
def foundT (s t : List Int) : List Pf := if s = t then [] else [(0, 1, s, t)]
theorem cnt_noS (a : Nat) : cnt noS a = 0 := rfl
theorem foundT_is (s t : List Int) : foundN (addS noS 0 s) (headsOf (addS noS 0 t)) 8 = foundT s t := by
  have hn : ∀ a, a < 8 → (headsOf (addS noS 0 t))[a]?.getD (0, zk) = headOf (addS noS 0 t) a := fun a ha => by
    rw [List.getElem?_eq_getElem (by rw [headsOf_length]; exact ha), headsOf_get _ a ha]; rfl
  have h0 : headOf (addS noS 0 t) 0 = (((0 + 1 : Nat) : Int), t) := headOf_add okS_no 0 t
  have hz : ∀ a, a ≠ 0 → headOf (addS noS 0 t) a = headOf noS a := fun a ha => headOf_add_ne noS 0 a t ha
  have hf : ∀ a, a < 8 → a ≠ 0 → foundAt (addS noS 0 s) a ((headsOf (addS noS 0 t))[a]?.getD (0, zk)) = [] := fun a ha h => by
    rw [hn a ha, hz a h]
    unfold foundAt
    rw [if_neg]
    intro q
    have : (headOf noS a).1 = 0 := rfl
    rw [this] at q
    omega
  have h1 : foundAt (addS noS 0 s) 0 ((headsOf (addS noS 0 t))[0]?.getD (0, zk)) = foundT s t := by
    rw [hn 0 (by omega), h0]
    have hc : cnt (addS noS 0 s) 0 = 1 := cnt_add okS_no 0 s
    have ha : atN (addS noS 0 s) 0 1 = s := atN_add_new okS_no 0 s
    show (if 1 ≤ (1 : Int) ∧ (1 : Nat) ≤ cnt (addS noS 0 s) 0 ∧ atN (addS noS 0 s) 0 1 ≠ t then [(((0 : Nat) : Int), (1 : Int), atN (addS noS 0 s) 0 1, t)] else []) = foundT s t
    rw [hc, ha]
    unfold foundT
    by_cases e : s = t
    · rw [if_neg (by rintro ⟨_, _, q⟩; exact q e), if_pos e]
    · rw [if_pos ⟨by omega, by omega, e⟩, if_neg e]; rfl
  have step : ∀ n, foundN (addS noS 0 s) (headsOf (addS noS 0 t)) (n + 1) = foundN (addS noS 0 s) (headsOf (addS noS 0 t)) n ++ foundAt (addS noS 0 s) n ((headsOf (addS noS 0 t))[n]?.getD (0, zk)) := fun n => foundN_succ _ _ n
  rw [step 7, step 6, step 5, step 4, step 3, step 2, step 1, step 0, h1, hf 1 (by omega) (by omega), hf 2 (by omega) (by omega), hf 3 (by omega) (by omega), hf 4 (by omega) (by omega), hf 5 (by omega) (by omega), hf 6 (by omega) (by omega), hf 7 (by omega) (by omega)]
  simp [foundN]
theorem noteT (s t : List Int) : noteAll [] (foundT s t) = foundT s t := by
  unfold foundT
  split
  · rfl
  · rfl
theorem lookT (s : List Int) : lookN noS 0 1 zk s = 0 := by
  unfold lookN
  rw [if_neg (by omega), if_neg (by rw [cnt_noS]; omega), if_neg (by rw [cnt_noS]; omega), if_pos (by rw [cnt_noS]; exact (okS_no.at0 0).symm)]
theorem tSum_ok (seed k : List Int) (own n : Int) (prev : List Int) (E : Ev) : okK (tSum seed k own n prev E) := ⟨tSum_length seed k own n prev E, fun v hv => sumL_inH _ v hv⟩
theorem addT_any {V : World} {B H1 b1 H2 b2 : Nat} {v1 v2 : Value} {T2 : Sms} {P2 : List Pf} {seed k : List Int} {E : Ev} {F : Fr} (h : TwoC V B H1 b1 H2 b2 v1 v2 noS T2 [] P2) (hT : TFr V seed k 0 1 zk E F) (hKT : S.KTab V) (hB : B ≤ V.heap.size) :
    Calls Tryz.prog 8 #[.pointer (some ⟨H1, 0, none⟩), .agg F.cells.toArray] V fun e w' => e = .returned (.int .i64 0) ∧ (∃ v1', TwoC w' B H1 b1 H2 b2 v1' v2 (addS noS 0 (tSum seed k 0 1 zk E)) T2 [] P2) ∧ Below B V w' := by
  obtain ⟨xw, cw, xb, cb, hF⟩ := hT.frin
  refine (chAdd_any B H1 b1 v1 noS [] V F xw 0 cw [] xb 144 cb _ 0 1 h.c hF hKT hT.author hT.number hB).mono ?_
  rintro e w' ⟨he, v', hto⟩
  rw [hT.fsum, hT.prv] at he hto
  rw [lookT] at he
  have ha : addSt noS [] 0 1 zk (tSum seed k 0 1 zk E) = (addS noS 0 (tSum seed k 0 1 zk E), []) := by unfold addSt; rw [if_pos (lookT _)]
  rw [ha] at hto
  exact ⟨he, ⟨v', h.step hto⟩, hto.below h.c hB⟩
theorem cmpT_any {V : World} {B H1 b1 H2 b2 : Nat} {v1 v2 : Value} {P2 : List Pf} {s t : List Int} (h : TwoC V B H1 b1 H2 b2 v1 v2 (addS noS 0 s) (addS noS 0 t) [] P2) (hB : B ≤ V.heap.size) :
    Calls Tryz.prog 10 #[.pointer (some ⟨H1, 0, none⟩), .agg (headsC (headsOf (addS noS 0 t))).toArray] V fun e w' => ∃ x c, e = .returned (.slice x (foundT s t).length c) ∧ OwnI w' V.heap.size 47 66 (.slice x (foundT s t).length c) ((foundT s t).map proofC) ∧ (∃ v1', TwoC w' B H1 b1 H2 b2 v1' v2 (addS noS 0 s) (addS noS 0 t) (foundT s t) P2) ∧ Turn (chainP H1 b1 v1) V w' := by
  have hh := h.d.ok.heads_ok
  refine (compare_any B H1 b1 v1 _ _ V (headsOf (addS noS 0 t)) (headsOf_length _) hh h.c hB).mono ?_
  rintro e w' ⟨f, v', rfl, ho, hto, -⟩
  rw [foundT_is] at ho hto
  rw [noteT] at hto
  obtain ⟨x, c, rfl⟩ := ho.isSlice
  rw [List.length_map] at ho ⊢
  exact ⟨x, c, rfl, ho, ⟨v', h.step hto⟩, hto.turn⟩
theorem headT_ix (s : List Int) (hs : okK s) (wx : World) : (Instr.index 41 (.agg (headsC (headsOf (addS noS 0 s))).toArray) (.int .i64 0)).run Tryz.prog wx = .ok (.agg (headC (1, s)).toArray) wx := by
  have hok := okS_no.add 0 s hs (by rw [cnt_noS]; omega)
  have h := run_index_mid (P := Tryz.prog) wx 41 40 8 33 _ (headsC (headsOf (addS noS 0 s))) 0 Tryz.underlying41 Tryz.underlying40 rfl sizeHead1 (by omega)
  have hp := headsC_part (headsOf (addS noS 0 s)) hok.heads_ok 0 (by rw [headsOf_length]; omega) []
  rw [List.append_nil, headsOf_get _ 0 (by omega), headOf_add okS_no 0 s] at hp
  simp only [Nat.zero_mul] at h hp
  rw [hp] at h
  exact h
theorem headT_fd (s : List Int) (wx : World) : (Instr.field 40 (.agg (headC (1, s)).toArray) 0).run Tryz.prog wx = .ok (.int .u32 1) wx := by kernel_rfl
end Go.Proofs.YtlhajphjppjlgaaGreatDoor
