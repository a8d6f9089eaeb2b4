/- Fm4 Oi -/
import Derived.Test.YtlhajphjppjlgaaGreatDoorV33
import Derived.Test.YtlhajphjppjlgaaGreatDoorT05
import Derived.Test.YtlhajphjppjlgaaGreatDoorT01
import Derived.Maps.AppendAt
import Derived.Laws.AppendOwnNone
import Derived.Test.YtlhajphjppjlgaaGreatDoorV32
import Derived.Great.BuildSlice
namespace Go.Proofs.YtlhajphjppjlgaaGreatDoor
open Go.RowKit
set_option maxRecDepth 20000
set_option linter.unusedSimpArgs false
def frZ1 : Fr := ⟨0, 0, 0, 0, List.replicate 32 0, .slice none 0 0, .slice none 0 0, List.replicate 32 0⟩
theorem stop_asserted (n : Int) (wx : World) : (Instr.typeAssert (.iface 157 (.agg #[.int .i64 n])) 20 157 true).run Tryz.prog wx = .ok (.tuple #[.agg #[.int .i64 n], .bool true]) wx := by kernel_rfl
set_option maxHeartbeats 4000000 in
theorem catchF_any (B : Nat) (v : Value) (n : Int) (w : World) (hB : Box w B 37 v) :
    CallsD Tryz.prog 81 #[.pointer (some ⟨B, 0, none⟩)] (.panicking [stopP n]) w fun e u' w' =>
      e = .returned (.tuple #[]) ∧ u' = .panicking [{ v := .iface 157 (.agg #[.int .i64 n]), recovered := true }] ∧ Box w' B 37 (.int .i64 n) ∧ (∀ k, k < w.heap.size → k ≠ B → w'.heap[k]? = w.heap[k]?) ∧ ∀ base, base ≤ B → base ≤ w.heap.size → Below base w w' := by
  have hta := stop_asserted n
  have hN1 := CellsAt.new w 157 [.int .i64 0]
  have hB1 := hB.alloc (.cells #[.int .i64 0] 157)
  have hB2 : Box ((w.alloc (.cells #[.int .i64 0] 157)).setRow w.heap.size #[.int .i64 n]) B 37 v := by
    have := hB.lt
    unfold Box at hB1 ⊢
    rw [setRow_other _ _ _ _ (by omega)]; exact hB1
  have hl := hB.lt
  have cN : ((w.alloc (.cells #[.int .i64 0] 157)).setRow w.heap.size #[.int .i64 n]).cell? ⟨w.heap.size, 0, none⟩ = some (.int .i64 n) := (hN1.setRow [.int .i64 n]).cell 0
  have cB := hB2.cell
  have fB := hB2.frozen
  have iS : (Tryz.prog.info? 157).map (·.size) = some ([.int .i64 n] : List Value).length := by kernel_rfl
  have h1S : ∀ v ∈ ([.int .i64 n] : List Value), v.oneCell' = true := by intro v hv; rw [List.mem_singleton.1 hv]; rfl
  have q2 := hB2.set (.int .i64 n)
  have q4 : ∀ k, k < w.heap.size → k ≠ B → (((w.alloc (.cells #[.int .i64 0] 157)).setRow w.heap.size #[.int .i64 n]).setCell ⟨B, 0, none⟩ (.int .i64 n)).heap[k]? = w.heap[k]? := fun k hk hne => by
    rw [heap_setCell_other _ ⟨B, 0, none⟩ k _ hne, setRow_other _ _ _ _ (by omega)]
    exact Below.heap_alloc w _ k hk
  have q3 : ∀ base, base ≤ B → base ≤ w.heap.size → Below base w (((w.alloc (.cells #[.int .i64 0] 157)).setRow w.heap.size #[.int .i64 n]).setCell ⟨B, 0, none⟩ (.int .i64 n)) := fun base h1 h2 => (below_setRow ((Below.refl _ _).alloc h2 _) h2 _).setCell h1 _
  clear hB hB1 hB2 hl
  refine callsD_of_wpS Tryz.func81 rfl fun c₀ cs hu => ?_
  apply wpS_seq
  apply wpS_region
  simp [wpOpsS, go_sem, recoverD, hu, stopP, Tryz.ntmps81, Exit.thenS]
  refine wpS_of_wp ?_
  change Code.wp _ _ _ { tmps := #[.pointer (some ⟨B, 0, none⟩), undef, undef, undef, .iface 157 (.agg #[.int .i64 n]), undef, undef, undef, undef, undef, undef, undef], defers := [] } _
  go_wp2_with (refine wpList_stv rfl 157 _ _ rfl _ rfl rfl hN1 iS rfl h1S ?_)
  simp [bodyPostS, results, Tryz.results81]
  exact ⟨q2, q4, q3⟩
set_option maxHeartbeats 2000000 in
theorem catchF_idle (B : Nat) (w : World) :
    CallsD Tryz.prog 81 #[.pointer (some ⟨B, 0, none⟩)] .returning w fun e u' w' => e = .returned (.tuple #[]) ∧ u' = .returning ∧ w' = w := by
  have hni := nilIface_eq
  refine callsD_of_wpS Tryz.func81 rfl fun c₀ cs hu => ?_
  apply wpS_seq
  apply wpS_region
  simp [wpOpsS, go_sem, recoverD, hu, Tryz.ntmps81, Exit.thenS]
  refine wpS_of_wp ?_
  change Code.wp _ _ _ { tmps := #[.pointer (some ⟨B, 0, none⟩), undef, undef, undef, .nilIface, undef, undef, undef, undef, undef, undef, undef], defers := [] } _
  go_wp2
  cases c₀
  simp_all [bodyPostS, results, Tryz.results81]
theorem resultsF {fn : Func} {p q : Tmp} (h : fn.results = #[.cell p 32, .cell q 37]) (tmps : Array Value) {w : World} {A B : Nat} {cs : List Value} {v : Int} (hp : tmps.getD p undef = .pointer (some ⟨A, 0, none⟩)) (hq : tmps.getD q undef = .pointer (some ⟨B, 0, none⟩)) (hA : CellsAt w A 32 cs) (hB : Box w B 37 (.int .i64 v)) (hi : (Tryz.prog.info? 32).map (·.size) = some cs.length) :
    (results fn tmps).run Tryz.prog w = .ok (.tuple #[.agg cs.toArray, .int .i64 v]) w := by
  have hp' : tmps[p]?.getD undef = .pointer (some ⟨A, 0, none⟩) := by simpa using hp
  have hq' : tmps[q]?.getD undef = .pointer (some ⟨B, 0, none⟩) := by simpa using hq
  have hc := hB.cell
  have hl := run_loadVar_row w A 32 32 cs.toArray (0, 0) _ hA Tryz.underlying32 rfl (by rw [hi]; simp)
  have hlB : (loadVar 37 ⟨B, 0, none⟩).run Tryz.prog w = .ok (.int .i64 v) w := by simp [go_sem, hc]
  simp [results, h, hp', hq', asAddr, hl, hlB]
set_option maxHeartbeats 4000000 in
theorem triedS_ok (c0 c1 c2 c3 c4 c5 : Value) (R : List Value → World → Prop) (w : World)
    (hs : ∀ W, Below w.heap.size w W → W.heap.size = w.heap.size + 2 → Calls Tryz.prog 52 #[c0, c1, c2, c3, c4, c5] W fun e w' => ∃ cs, e = .returned (.agg cs.toArray) ∧ R cs w' ∧ Below W.heap.size W w')
    (hR : ∀ cs w', R cs w' → cs.length = frZ1.cells.length ∧ ∀ v ∈ cs, v.oneCell' = true) :
    Calls Tryz.prog 43 #[.func (.func 52) #[] #[c0, c1, c2, c3, c4, c5]] w fun e w' => ∃ cs w1, e = .returned (.tuple #[.agg cs.toArray, .int .i64 0]) ∧ R cs w1 ∧ w.heap.size + 2 ≤ w1.heap.size ∧ w1.heap.size = w'.heap.size ∧ (∀ k, k ≠ w.heap.size → k ≠ w.heap.size + 1 → w'.heap[k]? = w1.heap[k]?) ∧ Below w.heap.size w w' := by
  have hmf := make_func
  obtain ⟨Z, hzv, hz1, hZ⟩ : ∃ Z : List Value, (∀ wx, (zeroValue 32).run Tryz.prog wx = .ok (.agg Z.toArray) wx) ∧ ¬ Z.toArray = #[] ∧ Z = frZ1.cells := ⟨frZ1.cells, fun wx => by kernel_rfl, by decide, rfl⟩
  rw [← hZ] at hR
  have hZl : (Tryz.prog.info? 32).map (·.size) = some Z.length := by rw [hZ]; kernel_rfl
  clear hZ
  have hA0 := (CellsAt.new w 32 Z).alloc (.cells #[.int .i64 0] 37)
  have hB0 : Box ((w.alloc (.cells Z.toArray 32)).alloc (.cells #[.int .i64 0] 37)) (w.heap.size + 1) 37 (.int .i64 0) := by
    have : Box ((w.alloc (.cells Z.toArray 32)).alloc (.cells #[.int .i64 0] 37)) (w.alloc (.cells Z.toArray 32)).heap.size 37 (.int .i64 0) := heap_alloc_new _ _
    rw [World.size_alloc] at this
    exact this
  have hW0 : Below w.heap.size w ((w.alloc (.cells Z.toArray 32)).alloc (.cells #[.int .i64 0] 37)) := ((Below.refl _ _).alloc (Nat.le_refl _) _).alloc (by simp) _
  have hs0 : ((w.alloc (.cells Z.toArray 32)).alloc (.cells #[.int .i64 0] 37)).heap.size = w.heap.size + 2 := by simp
  have HS := Veil.mk hs
  have HR := Veil.mk hR
  clear hs hR
  go_enter_defers Tryz.func43, Tryz.ntmps43
  go_upto_region 2 with fail
  refine forget (p := fun y => Code.wp _ _ _ _ y) (fun W0 => Below w.heap.size w W0 ∧ W0.heap.size = w.heap.size + 2 ∧ CellsAt W0 w.heap.size 32 Z ∧ Box W0 (w.heap.size + 1) 37 (.int .i64 0)) ⟨hW0, hs0, hA0, hB0⟩ ?_
  clear hW0 hs0 hA0 hB0 hmf hzv hz1
  rintro W0 ⟨hW0, hs0, hA0, hB0⟩
  have h1 := HS.out W0 hW0 hs0
  have HKP : Veil (∀ w1, Below W0.heap.size W0 w1 → CellsAt w1 w.heap.size 32 Z ∧ Box w1 (w.heap.size + 1) 37 (.int .i64 0) ∧ Below w.heap.size w w1 ∧ w.heap.size + 2 ≤ w1.heap.size) := ⟨fun w1 h => ⟨hA0.farM h, by unfold Box at hB0 ⊢; rw [h.block _ (by omega)]; exact hB0, hW0.trans (h.mono hW0.size), by have := h.size; omega⟩⟩
  have HSB : Veil (∀ (w1 : World) (cs : List Value), Box w1 (w.heap.size + 1) 37 (.int .i64 0) → Box (w1.setRow w.heap.size cs.toArray) (w.heap.size + 1) 37 (.int .i64 0)) := ⟨fun w1 cs h => by unfold Box at h ⊢; rw [setRow_other _ _ _ _ (by omega)]; exact h⟩
  have HIN : Veil (∀ cs : List Value, cs.length = Z.length → (Tryz.prog.info? 32).map (·.size) = some cs.length) := ⟨fun cs h => by rw [h]; exact hZl⟩
  clear hs0 hA0 hB0 hW0 HS hZl
  go_wp2_with (first
    | (go_at_call 52; refine h1.mono ?_; rintro e w1 ⟨cs, rfl, hr1, hb1⟩; obtain ⟨hA1, hB1, hW1, hs1⟩ := HKP.out w1 hb1; obtain ⟨hcl, hc1⟩ := HR.out cs w1 hr1; have hiC := HIN.out cs hcl; have hB2 := HSB.out w1 cs hB1; have cB := hB2.cell; have fB := hB2.frozen; have HR1 := Veil.mk hr1; clear h1 HKP HSB HIN hr1 hB1 hb1)
    | (refine wpList_stv rfl 32 _ _ rfl _ rfl rfl hA1 hiC hcl.symm hc1 ?_))
  refine leaves_cons (f := 81) (args := #[.pointer (some ⟨w.heap.size + 1, 0, none⟩)]) (by simp) (by simp [go_sem]) ?_
  refine (catchF_idle (w.heap.size + 1) _).mono ?_
  rintro e u' w'' ⟨rfl, rfl, rfl⟩
  have hA5 := (hA1.setRow cs).setOther2 ⟨w.heap.size + 1, 0, none⟩ (.int .i64 0) (by show w.heap.size ≠ w.heap.size + 1; omega)
  have hB5 := hB2.set (.int .i64 0)
  have hW5 : Below w.heap.size w ((w1.setRow w.heap.size cs.toArray).setCell ⟨w.heap.size + 1, 0, none⟩ (.int .i64 0)) := (below_setRow hW1 (Nat.le_refl _) _).setCell (by show w.heap.size ≤ w.heap.size + 1; omega) _
  exact ⟨_, resultsF Tryz.results43 _ rfl rfl hA5 hB5 hiC, cs, w1, rfl, HR1.out, hs1, by simp [World.setCell, World.setRow], fun k h1 h2 => by rw [heap_setCell_other _ ⟨w.heap.size + 1, 0, none⟩ k _ h2, setRow_other _ _ _ _ h1], hW5⟩
set_option maxHeartbeats 4000000 in
theorem triedS_bad (c0 c1 c2 c3 c4 c5 : Value) (n : Int) (w : World)
    (hs : ∀ W, Below w.heap.size w W → W.heap.size = w.heap.size + 2 → Calls Tryz.prog 52 #[c0, c1, c2, c3, c4, c5] W fun e w' => e = .panicked [stopP n] ∧ Below W.heap.size W w') :
    Calls Tryz.prog 43 #[.func (.func 52) #[] #[c0, c1, c2, c3, c4, c5]] w fun e w' => e = .returned (.tuple #[.agg frZ1.cells.toArray, .int .i64 n]) ∧ Below w.heap.size w w' := by
  have hmf := make_func
  obtain ⟨Z, hzv, hz1, hZ⟩ : ∃ Z : List Value, (∀ wx, (zeroValue 32).run Tryz.prog wx = .ok (.agg Z.toArray) wx) ∧ ¬ Z.toArray = #[] ∧ Z = frZ1.cells := ⟨frZ1.cells, fun wx => by kernel_rfl, by decide, rfl⟩
  rw [← hZ]
  have hZl : (Tryz.prog.info? 32).map (·.size) = some Z.length := by rw [hZ]; kernel_rfl
  clear hZ
  have hA0 := (CellsAt.new w 32 Z).alloc (.cells #[.int .i64 0] 37)
  have hB0 : Box ((w.alloc (.cells Z.toArray 32)).alloc (.cells #[.int .i64 0] 37)) (w.heap.size + 1) 37 (.int .i64 0) := by
    have : Box ((w.alloc (.cells Z.toArray 32)).alloc (.cells #[.int .i64 0] 37)) (w.alloc (.cells Z.toArray 32)).heap.size 37 (.int .i64 0) := heap_alloc_new _ _
    rw [World.size_alloc] at this
    exact this
  have hW0 : Below w.heap.size w ((w.alloc (.cells Z.toArray 32)).alloc (.cells #[.int .i64 0] 37)) := ((Below.refl _ _).alloc (Nat.le_refl _) _).alloc (by simp) _
  have hs0 : ((w.alloc (.cells Z.toArray 32)).alloc (.cells #[.int .i64 0] 37)).heap.size = w.heap.size + 2 := by simp
  have HS := Veil.mk hs
  clear hs
  go_enter_defers Tryz.func43, Tryz.ntmps43
  go_upto_region 2 with fail
  refine forget (p := fun y => Code.wp _ _ _ _ y) (fun W0 => Below w.heap.size w W0 ∧ W0.heap.size = w.heap.size + 2 ∧ CellsAt W0 w.heap.size 32 Z ∧ Box W0 (w.heap.size + 1) 37 (.int .i64 0)) ⟨hW0, hs0, hA0, hB0⟩ ?_
  clear hW0 hs0 hA0 hB0 hmf hzv hz1
  rintro W0 ⟨hW0, hs0, hA0, hB0⟩
  have h1 := HS.out W0 hW0 hs0
  have HKP : Veil (∀ w1, Below W0.heap.size W0 w1 → CellsAt w1 w.heap.size 32 Z ∧ Box w1 (w.heap.size + 1) 37 (.int .i64 0) ∧ Below w.heap.size w w1 ∧ w.heap.size + 2 ≤ w1.heap.size) := ⟨fun w1 h => ⟨hA0.farM h, by unfold Box at hB0 ⊢; rw [h.block _ (by omega)]; exact hB0, hW0.trans (h.mono hW0.size), by have := h.size; omega⟩⟩
  clear hs0 hA0 hB0 hW0 HS
  go_wp2_with (go_at_call 52; refine h1.mono ?_; rintro e w1 ⟨rfl, hb1⟩)
  obtain ⟨hA1, hB1, hW1, hs1⟩ := HKP.out w1 hb1
  refine leaves_cons (f := 81) (args := #[.pointer (some ⟨w.heap.size + 1, 0, none⟩)]) (by simp) (by simp [go_sem]) ?_
  refine (catchF_any (w.heap.size + 1) _ n w1 hB1).mono ?_
  rintro e u' w'' ⟨rfl, rfl, hB5, hk5, hbl⟩
  have hA5 : CellsAt w'' w.heap.size 32 Z := hA1.congr (hk5 _ (by omega) (by omega))
  exact ⟨_, resultsF Tryz.results43 _ rfl rfl hA5 hB5 hZl, rfl, hW1.trans (hbl w.heap.size (by omega) (by omega))⟩
structure OwnI (w : World) (base : Nat) (t : TypeId) (k : Nat) (v : Value) (L : List (List Value)) : Prop where
  own : w.ownsRow base t k v L.length L.flatten
  each : ∀ c ∈ L, c.length = k
theorem flat_len {k : Nat} : ∀ L : List (List Value), (∀ c ∈ L, c.length = k) → L.flatten.length = L.length * k
  | [], _ => by simp
  | c :: L, h => by
    rw [List.flatten_cons, List.length_append, flat_len L (fun x hx => h x (by simp [hx])), h c (by simp), List.length_cons, Nat.add_mul]; omega
theorem flat_get {k : Nat} (L : List (List Value)) (hL : ∀ c ∈ L, c.length = k) (j : Nat) (hj : j < L.length) : (L.flatten.drop (j * k)).take k = L[j] := by
  induction L generalizing j with
  | nil => simp at hj
  | cons e L ih =>
    have he : e.length = k := hL e (by simp)
    rw [List.flatten_cons]
    cases j with
    | zero => rw [Nat.zero_mul, List.drop_zero]; exact List.take_left' he
    | succ j =>
      have := ih (fun x hx => hL x (by simp [hx])) j (by simpa using hj)
      rw [show (j + 1) * k = e.length + j * k by rw [he, Nat.add_mul]; omega, List.drop_length_add_append, this]
      rfl
theorem OwnI.nil (w : World) (base : Nat) (t : TypeId) (k : Nat) : OwnI w base t k (.slice none 0 0) [] := ⟨World.ownsRow_nil w base t k, by simp⟩
theorem OwnI.isSlice {w : World} {base : Nat} {t : TypeId} {k : Nat} {v : Value} {L : List (List Value)} (h : OwnI w base t k v L) : ∃ x c, v = .slice x L.length c := by
  rcases h.own.2 with ⟨rfl, h0⟩ | ⟨g, cap, cur, rfl, _⟩
  · exact ⟨none, 0, by rw [h0]⟩
  · exact ⟨_, _, rfl⟩
theorem OwnI.congr {w w' : World} {base : Nat} {t : TypeId} {k : Nat} {v : Value} {L : List (List Value)} (h : OwnI w base t k v L) (hk : ∀ g, v.ownBlock = some g → w'.heap[g]? = w.heap[g]?) : OwnI w' base t k v L := by
  refine ⟨⟨h.own.1, ?_⟩, h.each⟩
  rcases h.own.2 with h' | ⟨g, cap, cur, h1, h2, h3, h4⟩
  · exact .inl h'
  · exact .inr ⟨g, cap, cur, h1, h2, (hk g (by rw [h1]; rfl)).trans h3, h4⟩
theorem OwnI.blockLt {w : World} {base : Nat} {t : TypeId} {k : Nat} {v : Value} {L : List (List Value)} (h : OwnI w base t k v L) (g : Nat) (hg : v.ownBlock = some g) : g < w.heap.size ∧ base ≤ g ∧ ∃ cur, w.heap[g]? = some (.cells cur t (0, 0)) := by
  rcases h.own.2 with ⟨rfl, _⟩ | ⟨g', cap, cur, rfl, h2, h3, _⟩
  · cases hg
  · obtain rfl : g' = g := by simpa [Value.ownBlock] using hg
    exact ⟨(Array.getElem?_eq_some_iff.1 h3).1, h2, cur, h3⟩
theorem OwnI.far {w w' : World} {base : Nat} {t : TypeId} {k : Nat} {v : Value} {L : List (List Value)} (h : OwnI w base t k v L) (hb : Below w.heap.size w w') : OwnI w' base t k v L := h.congr fun g hg => hb.block g (h.blockLt g hg).1
theorem OwnI.less {w : World} {base base' : Nat} {t : TypeId} {k : Nat} {v : Value} {L : List (List Value)} (h : OwnI w base t k v L) (hb : base' ≤ base) : OwnI w base' t k v L := by
  refine ⟨⟨h.own.1, ?_⟩, h.each⟩
  rcases h.own.2 with h' | ⟨g, cap, cur, h1, h2, h3⟩
  · exact .inl h'
  · exact .inr ⟨g, cap, cur, h1, by omega, h3⟩
theorem OwnI.at_ {w : World} {base : Nat} {t : TypeId} {k : Nat} {x : Option Addr} {n c : Nat} {L : List (List Value)} (h : OwnI w base t k (.slice x n c) L) (j : Nat) (hj : j < L.length) : ∃ g, x = some ⟨g, 0, none⟩ ∧ n = L.length ∧ w.rangeAt g (j * k) L[j] := by
  rcases h.own.2 with ⟨h1, h0⟩ | ⟨g, cap', cur, h1, _, hg, hc, hm, hs, ht⟩
  · omega
  · cases h1
    refine ⟨g, rfl, rfl, fun i v hv => ?_⟩
    have hi : i < k := by have := (List.getElem?_eq_some_iff.1 hv).1; rw [h.each _ (List.getElem_mem hj)] at this; exact this
    rw [cell_of_row w g _ _ _ _ hg, ← Array.getElem?_toList]
    have e := flat_get L h.each j hj
    rw [← ht] at e
    have hlt : j * k + i < L.length * k := by
      have := Nat.mul_le_mul_right k (show j + 1 ≤ L.length from hj)
      rw [Nat.add_mul] at this; omega
    rw [← e, List.getElem?_take_of_lt hi, List.getElem?_drop, List.getElem?_take_of_lt hlt] at hv
    exact hv
theorem OwnI.src {w : World} {base : Nat} {t : TypeId} {k : Nat} {g n c : Nat} {L : List (List Value)} (h : OwnI w base t k (.slice (some ⟨g, 0, none⟩) n c) L) : n = L.length ∧ ∀ j u, L.flatten[j]? = some u → w.cell? ((⟨g, 0, none⟩ : Addr).add j) = some u := by
  rcases h.own.2 with ⟨h1, h0⟩ | ⟨g', cap', cur, h1, _, hg, hc, hm, hs, ht⟩
  · cases h1
  · cases h1
    refine ⟨rfl, fun j u hu => ?_⟩
    rw [show (⟨g, 0, none⟩ : Addr).add j = ⟨g, 0 + j, none⟩ by unfold Addr.add; split <;> simp_all, cell_of_row w g _ _ _ _ hg, ← Array.getElem?_toList, Nat.zero_add]
    rw [← ht, List.getElem?_take] at hu
    split at hu
    · exact hu
    · cases hu
section
variable {P : Program}
theorem OwnI.app {w : World} {base : Nat} {t : TypeId} {k : Nat} {v : Value} {L : List (List Value)} (h : OwnI w base t k v L) (st ty : TypeId) {z : Value} {by_ : Nat} (hst : P.underlying st = some (.slice t)) (hi : (P.info? t).map (fun i => (i.zero, i.size, i.bytes)) = some (some z, k, by_)) (hz : z.cells.size = k) (hk : 0 < k)
    (c : List Value) (hc : c.length = k) (h1 : ∀ u ∈ c, u.oneCell' = true) (g : Nat) (hg : w.rangeAt g 0 c) (hln : L.length ≤ 1000000) (hby : by_ ≤ 1000) (hbase : base ≤ w.heap.size) :
    ∃ v' w', (Builtin.append_ #[st, st] ty #[v, .slice (some ⟨g, 0, none⟩) 1 1]).run P w = .ok v' w' ∧ OwnI w' base t k v' (L ++ [c]) ∧ w.grownBy w' v.ownBlock ∧ (v'.ownBlock = v.ownBlock ∨ v'.ownBlock = some w.heap.size) := by
  obtain ⟨i0, hi, hz0, hz1, hz2⟩ := info_parts hi
  obtain ⟨v', w', hr, h2, h3, _, h5⟩ := run_append_own_at (P := P) w base st ty t i0 _ k by_ hst hi hz0 hz1 hz2 hz hk v L.length L.flatten h.own ⟨g, 0, none⟩ 1 1 c (by omega) (fun j u hu => by rw [show (⟨g, 0, none⟩ : Addr).add j = ⟨g, 0 + j, none⟩ by unfold Addr.add; split <;> simp_all]; exact hg j u hu) h1 (by simp [maxLen]; omega)
    (by have := Nat.mul_le_mul (show L.length + 1 ≤ 1000001 by omega) hby; omega) hbase
  refine ⟨v', w', hr, ⟨?_, fun x hx => ?_⟩, h3, h5⟩
  · rw [List.length_append, show (L ++ [c]).flatten = L.flatten ++ c by simp]
    exact h2
  · rcases List.mem_append.1 hx with h' | h'
    · exact h.each x h'
    · rw [List.mem_singleton.1 h']; exact hc
theorem OwnI.apps {w : World} {base : Nat} {t : TypeId} {k : Nat} {v : Value} {L : List (List Value)} (h : OwnI w base t k v L) (st ty : TypeId) {z : Value} {by_ : Nat} (hst : P.underlying st = some (.slice t)) (hi : (P.info? t).map (fun i => (i.zero, i.size, i.bytes)) = some (some z, k, by_)) (hz : z.cells.size = k) (hk : 0 < k)
    (C : List (List Value)) (hC : ∀ c ∈ C, c.length = k) (h1 : ∀ c ∈ C, ∀ u ∈ c, u.oneCell' = true) (base' : Nat) (u : Value) (hu : OwnI w base' t k u C) (hln : L.length + C.length ≤ 1000000) (hby : by_ ≤ 1000) (hbase : base ≤ w.heap.size) :
    ∃ v' w', (Builtin.append_ #[st, st] ty #[v, u]).run P w = .ok v' w' ∧ OwnI w' base t k v' (L ++ C) ∧ w.grownBy w' v.ownBlock ∧ (v'.ownBlock = v.ownBlock ∨ v'.ownBlock = some w.heap.size) := by
  obtain ⟨i0, hi, hz0, hz1, hz2⟩ := info_parts hi
  rcases hu.own.2 with ⟨hu0, h0⟩ | ⟨g, cap, cur, hu0, hrest⟩
  · have hC0 : C = [] := List.length_eq_zero_iff.1 h0
    subst hC0 hu0
    refine ⟨v, w, run_append_owned_none (P := P) (w := w) base st ty t i0 k hst hi v L.length L.flatten h.own, by rw [List.append_nil]; exact h, ⟨rfl, rfl, rfl, Nat.le_refl _, fun _ _ _ => rfl⟩, .inl rfl⟩
  · subst hu0
    obtain ⟨_, hsrc⟩ := hu.src
    obtain ⟨v', w', hr, h2, h3, _, h5⟩ := run_append_own_at (P := P) w base st ty t i0 _ k by_ hst hi hz0 hz1 hz2 hz hk v L.length L.flatten h.own ⟨g, 0, none⟩ C.length cap C.flatten (flat_len C hC) hsrc (fun x hx => by
        obtain ⟨c, hc, hxc⟩ := List.mem_flatten.1 hx
        exact h1 c hc x hxc) (by simp [maxLen]; omega)
      (by have := Nat.mul_le_mul (show L.length + C.length ≤ 1000000 by omega) hby; omega) hbase
    refine ⟨v', w', hr, ⟨?_, fun x hx => ?_⟩, h3, h5⟩
    · rw [List.length_append, List.flatten_append]
      exact h2
    · rcases List.mem_append.1 hx with h' | h'
      · exact h.each x h'
      · exact hC x h'
theorem wpList_appx {ops : Array Oper} {rest : List Oper} {o : Oper} {a : Act} {w : World} {Q : Exit → Act → World → Prop} (hgd : o.guard = none) (d s : Operand) (dT sT : TypeId) (ho : o.op = .call { callee := .builtin .append, args := #[d, s], argTypes := #[dT, sT] }) (dv sv v : Value) (w' : World) (hd : a.eval d = dv) (hs : a.eval s = sv) (hrun : (Builtin.append_ #[dT, sT] o.type #[dv, sv]).run P w = .ok v w')
    (h : wpList P ops Q rest (a.put o.dst v) w') : wpList P ops Q (o :: rest) a w :=
  wpList_plain hgd fun _ hK => wpx_app d s dT sT ho dv sv v w' hd hs hrun (hK _ _ h)
theorem fill_one {k : Nat} (f : Nat → Value) (cs : List Value) (hc : cs.length = k) : Instr.fill (fun i => some (i * k, k)) ((Array.range (1 * k)).map f) [(0, .agg cs.toArray)] = some cs.toArray := by
  have e : (Array.range (1 * k)).map f = (([] : List Value) ++ (List.range (1 * k)).map f).toArray := by simp [← List.toArray_range]
  rw [e]
  have := fill_tile (fun i => some (i * k, k)) [(0, .agg cs.toArray, cs)] [] ((List.range (1 * k)).map f) ⟨by simp [hc], rfl, trivial⟩ (by simp [tileL, hc])
  simpa [tileL] using this
theorem wp_bs1 {o : Oper} {a : Act} {w : World} {K : Act → World → Prop} {Q : Exit → Act → World → Prop} (t e : TypeId) (x : Operand) (ho : o.op = .buildSlice t 1 #[(0, x)]) (cs : List Value) (hx : a.eval x = .agg cs.toArray) {z : Value} {k by_ : Nat}
    (hu : P.underlying t = some (.slice e)) (hi : (P.info? e).map (fun i => (i.zero, i.size, i.bytes)) = some (some z, k, by_)) (hk : 0 < k) (hk2 : k ≤ 1000) (hc : cs.length = k)
    (h : K (a.put o.dst (.slice (some ⟨w.heap.size, 0, none⟩) 1 1)) (w.alloc (.cells cs.toArray e))) : o.wp P a w K Q := by
  obtain ⟨i0, hi, hz0, hz1, hz2⟩ := info_parts hi
  refine wp_buildSlice t e 1 _ ho cs.toArray i0 z hu hi hz0 (by rw [hz1]; omega) (by rw [hz1]; omega) ?_ h
  rw [hz1]
  simp only [List.map_toArray, List.map_cons, List.map_nil, hx]
  exact fill_one _ cs hc
theorem wpList_bs1 {ops : Array Oper} {rest : List Oper} {o : Oper} {a : Act} {w : World} {Q : Exit → Act → World → Prop} (hgd : o.guard = none) (t e : TypeId) (x : Operand) (ho : o.op = .buildSlice t 1 #[(0, x)]) (cs : List Value) (hx : a.eval x = .agg cs.toArray) {z : Value} {k by_ : Nat}
    (hu : P.underlying t = some (.slice e)) (hi : (P.info? e).map (fun i => (i.zero, i.size, i.bytes)) = some (some z, k, by_)) (hk : 0 < k) (hk2 : k ≤ 1000) (hc : cs.length = k)
    (h : wpList P ops Q rest (a.put o.dst (.slice (some ⟨w.heap.size, 0, none⟩) 1 1)) (w.alloc (.cells cs.toArray e))) : wpList P ops Q (o :: rest) a w :=
  wpList_plain hgd fun _ hK => wp_bs1 t e x ho cs hx hu hi hk hk2 hc (hK _ _ h)
theorem OwnI.one (w : World) (t : TypeId) (k : Nat) (c : List Value) (hc : c.length = k) : OwnI (w.alloc (.cells c.toArray t)) w.heap.size t k (.slice (some ⟨w.heap.size, 0, none⟩) 1 1) [c] := ⟨⟨by simp [hc], .inr ⟨_, _, _, rfl, Nat.le_refl _, heap_alloc_new w _, by simp, by simp [maxLen], by simp [hc], by simp [← hc]⟩⟩, by simpa using hc⟩
theorem OwnI.empty (w : World) (t : TypeId) (k : Nat) : OwnI (w.alloc (.cells #[] t)) w.heap.size t k (.slice (some ⟨w.heap.size, 0, none⟩) 0 0) [] := ⟨⟨by simp, .inr ⟨_, _, _, rfl, Nat.le_refl _, heap_alloc_new w _, by simp, by simp [maxLen], by simp, by simp⟩⟩, by simp⟩
end
end Go.Proofs.YtlhajphjppjlgaaGreatDoor
