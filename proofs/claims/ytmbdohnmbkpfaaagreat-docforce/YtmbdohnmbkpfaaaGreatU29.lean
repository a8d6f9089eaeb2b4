/- AclNoneW AclFirstW Rk2 Rk3 -/
import Derived.Test.YtmbdohnmbkpfaaaGreatU27
import Derived.Test.YtmbdohnmbkpfaaaGreatU06
import Derived.Test.YtmbdohnmbkpfaaaGreatU28
import Derived.Test.YtmbdohnmbkpfaaaGreatU07
namespace Go.Proofs.YtmbdohnmbkpfaaaGreat
open Go.RowKit Go.Shelf
set_option maxRecDepth 20000
set_option linter.unusedSimpArgs false
theorem rright_okA (e : Ev) (w : World) (he : e.Ok) : Calls Tryz.prog 42 #[.agg e.cells.toArray] w fun x w' => x = .returned (.bool (rightB e)) ∧ Below w.heap.size w w' :=
  rright_any e w he.past he.dot.1.1 he.dot.2.1 (by have := he.dot.2.2; omega) he.par.1.1 he.par.2.1
def cntB (L : List Ent) (d : Int × Int) : Bool := match lookB L d with | some x => x.2 | none => false
theorem cntB_at {L : List Ent} {d : Int × Int} (k : Nat) (hk : k < L.length) (hb : lookB (L.take k) d = none) (hd : L[k].1.dot = d) : cntB L d = L[k].2 := by
  unfold cntB
  have h : lookB L d = some L[k] := by
    unfold lookB at *
    have e : L = L.take k ++ L[k] :: L.drop (k + 1) := by rw [List.getElem_cons_drop, List.take_append_drop]
    rw [congrArg (List.find? (fun x : Ent => x.1.dot == d)) e, List.find?_append, hb]
    rw [Option.none_or, List.find?_cons_of_pos (by simpa using hd)]
  rw [h]
theorem lookB_take {L : List Ent} {d : Int × Int} (k : Nat) (hk : k < L.length) (hb : lookB (L.take k) d = none) (hd : L[k].1.dot ≠ d) : lookB (L.take (k + 1)) d = none := by
  unfold lookB at *
  rw [List.take_add_one, List.getElem?_eq_getElem hk, List.find?_append, hb, Option.none_or]
  show List.find? _ [L[k]] = none
  rw [List.find?_cons_of_neg (by simpa using hd)]; rfl
theorem dotC_eq {a s a' s' : Int} : ((a, s) : Int × Int) = (a', s') ↔ (a == a' && s == s') = true := by simp
set_option maxHeartbeats 8000000 in
theorem rcounts_any {B : Nat} (R : Nat) (L : List Ent) (x bx : Option Addr) (c bc : Nat) (da ds : Int) (w : World) (hC : RefB B w R L x c bx bc) (hL : L.length ≤ 1000) (hG : GoodB L) :
    Calls Tryz.prog 60 #[.pointer (some ⟨R, 0, none⟩), .agg (dotC da ds).toArray] w fun r w' => r = .returned (.bool (cntB L (da, ds))) ∧ Below w.heap.size w w' := by
  have hB0 : Below w.heap.size w (w.alloc (.cells (dotC da ds).toArray 40)) := (Below.refl _ _).alloc (Nat.le_refl _) _
  have hx0 := CellsAt.new w 40 (dotC da ds)
  have iD : ∀ a s, (Tryz.prog.info? 40).map (·.size) = some (dotC a s).length := fun a s => sizeDot
  have uD := Tryz.underlying40
  have HC := Veil.mk hC
  have HG := Veil.mk hG
  clear hC hG
  go_enter Tryz.func60, Tryz.ntmps60
  go_upto_region 1 with fail
  refine forget (p := fun y => Code.wp _ _ _ _ y) (fun W => Below w.heap.size w W ∧ CellsAt W w.heap.size 40 (dotC da ds)) ⟨hB0, hx0⟩ ?_
  clear hB0 hx0
  rintro W1 ⟨hB1, hy1⟩
  go_wp2_with fail
  go_loopw [5] (fun q wr => ∃ k : Nat, k ≤ L.length ∧ q = .int .i64 (k : Nat) ∧ lookB (L.take k) (da, ds) = none ∧ Below w.heap.size w wr ∧ CellsAt wr w.heap.size 40 (dotC da ds)) (fun q _ => L.length - (intOf q).toNat)
  case atStart => exact ⟨0, Nat.zero_le _, rfl, rfl, hB1, hy1⟩
  case round =>
    obtain ⟨k, hk, rfl, hlk, hB, hy⟩ := hrel
    clear hB1 hy1
    have HLK := Veil.mk hlk
    clear hlk
    have hCr := HC.out.far hB
    have c0 : wr.cell? ⟨R, 0, none⟩ = some (.slice x L.length c) := hCr.cells.cell 0
    by_cases hlt : k < L.length
    · have hii : (k : Int) < (L.length : Int) := by omega
      have hk0 : (0 : Int) ≤ (k : Int) := by omega
      obtain ⟨g, rfl, -, hxr⟩ := hCr.ev.at_ k (by rw [List.length_map]; exact hlt)
      obtain ⟨bg, rfl, -, hbr⟩ := hCr.bo.at_ k (by rw [List.length_map]; exact hlt)
      rw [List.getElem_map] at hxr hbr
      have hek := (HG.out L[k] (List.getElem_mem hlt)).1
      have hdp := (ev_parts L[k].1 hek.past).1
      have hxd : wr.rangeAt g (k * 17) (dotC L[k].1.da L[k].1.ds) := fun j u hu => hxr j u (by
        rw [← hdp, List.drop_zero, List.getElem?_take] at hu
        split at hu
        · exact hu
        · cases hu)
      have cb : wr.cell? ⟨bg, k, none⟩ = some (.bool L[k].2) := by
        have h1 := hbr 0 (.bool L[k].2) rfl
        simpa using h1
      have c1 : wr.cell? ⟨R, 1, none⟩ = some (.slice (some ⟨bg, 0, none⟩) L.length bc) := hCr.cells.cell 1
      have iDj := iD L[k].1.da L[k].1.ds
      have iD0 := iD da ds
      have hwh := hy.wholeM
      have HEQ : Veil (∀ wx, (Op.equalIn 10000 40 (.agg (dotC L[k].1.da L[k].1.ds).toArray) (.agg (dotC da ds).toArray)).run Tryz.prog wx = .ok (L[k].1.da == da && L[k].1.ds == ds) wx) := ⟨fun wx => dot_eqIn 9998 _ _ _ _ wx⟩
      have hDD : Veil (L[k].1.dot = (da, ds) ↔ (L[k].1.da == da && L[k].1.ds == ds) = true) := ⟨dotC_eq⟩
      have HE : Veil (L[k].1.dot = (da, ds) → cntB L (da, ds) = L[k].2) := ⟨fun h => cntB_at k hlt HLK.out h⟩
      have HN : Veil (L[k].1.dot ≠ (da, ds) → lookB (L.take (k + 1)) (da, ds) = none) := ⟨fun h => lookB_take k hlt HLK.out h⟩
      have hw2 : IntKind.i64.wrap ((k : Int) + 1) = (k : Int) + 1 := by rw [IntKind.wrap_i64]; omega
      generalize (L[k].1.da == da && L[k].1.ds == ds) = EQ at HEQ hDD
      generalize dotC L[k].1.da L[k].1.ds = DJ at hxd iDj HEQ
      generalize hD0 : dotC da ds = D0 at hwh iD0 HEQ hy ⊢
      generalize hCK : L[k].2 = CK at cb HE
      clear hD0 hCK hxr hbr hek hdp iD hCr
      have heq := HEQ.out
      go_upto_region 4 with fail
      refine wp_region_gateT (fun w' => w'.cell? ⟨R, 0, none⟩ = some (.slice (some ⟨g, 0, none⟩) L.length c) ∧ w'.rangeAt g (k * 17) DJ ∧ w'.rangeAt w.heap.size 0 D0) (fun _ => True) 99 (by kernel_rfl) ?_
      have hT : (fun w' : World => w'.cell? ⟨R, 0, none⟩ = some (.slice (some ⟨g, 0, none⟩) L.length c) ∧ w'.rangeAt g (k * 17) DJ ∧ w'.rangeAt w.heap.size 0 D0) wr.drew := ⟨c0, hxd, hwh⟩
      have hS : (fun _ : World => True) wr.drew := trivial
      refine gh 0 ?_ hT hS ?_ ?_
      rotate_left
      · intro wx hSw; go_split_ands; go_simp; try with_reducible rfl
      simp only [Act.put, gA, gS, gZ, sI, sZ, sS]
      refine gh 1 ?_ hT hS ?_ ?_
      rotate_left
      · intro wx hSw; go_split_ands; go_simp; try with_reducible rfl
      simp only [Act.put, gA, gS, gZ, sI, sZ, sS]
      refine gh 2 ?_ hT hS ?_ ?_
      rotate_left
      · intro wx hSw; go_split_ands; go_simp; try with_reducible rfl
      simp only [Act.put, gA, gS, gZ, sI, sZ, sS]
      refine gh 3 ?_ hT hS ?_ ?_
      rotate_left
      · intro wx hSw; go_split_ands; go_simp; try with_reducible rfl
      simp only [Act.put, gA, gS, gZ, sI, sZ, sS]
      refine gh 4 ?_ hT hS ?_ ?_
      rotate_left
      · intro wx hSw; go_split_ands; go_simp; try with_reducible rfl
      simp only [Act.put, gA, gS, gZ, sI, sZ, sS]
      refine gh 5 ?_ hT hS ?_ ?_
      rotate_left
      · intro wx hSw; go_split_ands; go_simp; try with_reducible rfl
      simp only [Act.put, gA, gS, gZ, sI, sZ, sS]
      refine gh 6 ?_ hT hS ?_ ?_
      rotate_left
      · intro wx hSw; go_split_ands; go_simp; try with_reducible rfl
      simp only [Act.put, gA, gS, gZ, sI, sZ, sS]
      refine gl 7 26 40 25 g (k * 17) DJ (by kernel_rfl) (by kernel_rfl) (by kernel_rfl) (fun _ _ _ h => h) hT hS (by kernel_rfl) (fun _ h => h.2.1) uD rfl iDj ?_
      simp only [Act.put, gA, gS, gZ, sI, sZ, sS]
      refine gl 8 27 40 3 w.heap.size 0 D0 (by kernel_rfl) (by kernel_rfl) (by kernel_rfl) (fun _ _ _ h => h) hT hS (by kernel_rfl) (fun _ h => h.2.2) uD rfl iD0 ?_
      simp only [Act.put, gA, gS, gZ, sI, sZ, sS]
      refine gh 9 (.bool EQ) hT hS ?_ ?_
      · intro wx hSw; go_split_ands; go_simp
      simp only [Act.put, gA, gS, gZ, sI, sZ, sS]
      refine wpAnyT_done (by kernel_rfl) ?_ _
      clear hT hS
      cases EQ with
      | true =>
        have HR := Veil.mk (HE.out (hDD.out.2 rfl))
        go_wp2
        go_ret
        exact ⟨by rw [HR.out]; rfl, hB.drew⟩
      | false =>
        have HNX := Veil.mk (HN.out (fun h => by have := hDD.out.1 h; cases this))
        go_wp2
        go_roundw
        case rel => exact ⟨k + 1, by omega, by push_cast; rfl, HNX.out, hB.drew, hy.congr rfl⟩
        case measure => simp [intOf]; omega
    · obtain rfl : k = L.length := by omega
      have hii : ¬ ((L.length : Nat) : Int) < (L.length : Int) := by omega
      have HR : Veil (cntB L (da, ds) = false) := ⟨by have := HLK.out; rw [List.take_length] at this; unfold cntB; rw [this]⟩
      clear hCr
      go_wp2
      go_ret
      exact ⟨by rw [HR.out]; rfl, hB⟩
def OwnR (R : Nat) (v u : Value) (k : Nat) : Prop := k = R ∨ v.ownBlock = some k ∨ u.ownBlock = some k
theorem infoBA : (Tryz.prog.info? 4).map (fun i => (i.zero, i.size, i.bytes)) = some (some (.bool false), 1, 1) := by kernel_rfl
theorem refApp1 {B : Nat} {A : World} {R n : Nat} {vs bs : List (List Value)} {v u : Value} (hc : CellsAt A R 85 [v, u]) (hv : OwnI A B 44 17 v vs) (hu : OwnI A B 4 1 u bs) (hBA : B ≤ A.heap.size) (hn : vs.length = n) (hL : n ≤ 1000) (E : List Value) (he1 : E.length = 17) (he2 : ∀ q ∈ E, q.oneCell' = true) :
    ∃ x7 c7 W7, (Builtin.append_ #[31, 31] 31 #[v, .slice (some ⟨A.heap.size, 0, none⟩) 1 1]).run Tryz.prog (A.alloc (.cells E.toArray 44)) = .ok (.slice x7 (n + 1) c7) W7 ∧ W7.cell? ⟨R, 0, none⟩ = some v ∧ W7.frozen? ⟨R, 0, none⟩ = false ∧
      CellsAt (W7.setCell ⟨R, 0, none⟩ (.slice x7 (n + 1) c7)) R 85 [.slice x7 (n + 1) c7, u] ∧ OwnI (W7.setCell ⟨R, 0, none⟩ (.slice x7 (n + 1) c7)) B 44 17 (.slice x7 (n + 1) c7) (vs ++ [E]) ∧ OwnI (W7.setCell ⟨R, 0, none⟩ (.slice x7 (n + 1) c7)) B 4 1 u bs ∧ Turn (OwnR R v u) A (W7.setCell ⟨R, 0, none⟩ (.slice x7 (n + 1) c7)) ∧ (∀ k, (Value.slice x7 (n + 1) c7).ownBlock = some k → v.ownBlock = some k ∨ A.heap.size ≤ k) ∧ (∀ k, k < A.heap.size → k ≠ R → v.ownBlock ≠ some k → W7.heap[k]? = A.heap[k]?) := by
  have hal : Below A.heap.size A (A.alloc (.cells E.toArray 44)) := (Below.refl _ _).alloc (Nat.le_refl _) _
  obtain ⟨v7, W7, hrun, ho7, hg7, hb8⟩ := (hv.far hal).app (P := Tryz.prog) 31 31 Tryz.underlying31 infoE17A rfl (by decide) E he1 he2 A.heap.size (CellsAt.new A 44 E).wholeM (by omega) (by decide) (by rw [World.size_alloc]; omega)
  obtain ⟨x7, c7, rfl⟩ := ho7.isSlice
  have hln : (vs ++ [E]).length = n + 1 := by rw [List.length_append, hn]; rfl
  rw [hln] at hrun ho7 hb8
  have hvR : ∀ g, v.ownBlock = some g → g ≠ R := ownNeA hv hc (by decide)
  have huR : ∀ g, u.ownBlock = some g → g ≠ R := ownNeA hu hc (by decide)
  have huv : ∀ g g', v.ownBlock = some g → u.ownBlock = some g' → g ≠ g' := ownNeB hv hu (by decide)
  have hblk : ∀ k, k < A.heap.size → v.ownBlock ≠ some k → W7.heap[k]? = A.heap[k]? := fun k hk hne => (hg7.block k (by rw [World.size_alloc]; omega) (fun q => hne q.symm)).trans (Below.heap_alloc _ _ _ hk)
  have hc7 : CellsAt W7 R 85 [v, u] := hc.congr (hblk R hc.lt (fun q => hvR R q rfl))
  have h7R : ∀ g, (Value.slice x7 (n + 1) c7).ownBlock = some g → g ≠ R := fun g hg => by
    rcases hb8 with q | q
    · rw [q] at hg; exact hvR g hg
    · rw [q] at hg
      have := Option.some.inj hg
      have := hc.lt
      rw [World.size_alloc] at *
      omega
  refine ⟨x7, c7, W7, hrun, hc7.cell 0, hc7.frozen 0, hc7.set 0 _, ho7.congr (fun g hg => Below.heap_setCell _ _ _ _ (h7R g hg)), (hu.congr (fun g hg => hblk g (hu.blockLt g hg).1 (fun q => huv g g q hg rfl))).congr (fun g hg => Below.heap_setCell _ _ _ _ (huR g hg)), ?_, ?_, fun k hk _ hne => hblk k hk hne⟩
  · refine ((Turn.of_below hal).trans (Turn.of_grown hg7 (fun k e => .inr (.inl e)))).trans (Turn.of_setCell _ ?_ _)
    exact .inl rfl
  · intro k hk
    rcases hb8 with q | q
    · rw [q] at hk; exact .inl hk
    · rw [q] at hk
      have := Option.some.inj hk
      rw [World.size_alloc] at this
      exact .inr (by omega)
theorem refApp2 {B : Nat} {A : World} {R n : Nat} {vs bs : List (List Value)} {v u : Value} (hc : CellsAt A R 85 [v, u]) (hv : OwnI A B 44 17 v vs) (hu : OwnI A B 4 1 u bs) (hBA : B ≤ A.heap.size) (hn : bs.length = n) (hL : n ≤ 1000) (b : Bool) :
    ∃ x7 c7 W7, (Builtin.append_ #[83, 83] 83 #[u, .slice (some ⟨A.heap.size, 0, none⟩) 1 1]).run Tryz.prog (A.alloc (.cells #[.bool b] 4)) = .ok (.slice x7 (n + 1) c7) W7 ∧ W7.cell? ⟨R, 1, none⟩ = some u ∧ W7.frozen? ⟨R, 1, none⟩ = false ∧
      CellsAt (W7.setCell ⟨R, 1, none⟩ (.slice x7 (n + 1) c7)) R 85 [v, .slice x7 (n + 1) c7] ∧ OwnI (W7.setCell ⟨R, 1, none⟩ (.slice x7 (n + 1) c7)) B 4 1 (.slice x7 (n + 1) c7) (bs ++ [[.bool b]]) ∧ OwnI (W7.setCell ⟨R, 1, none⟩ (.slice x7 (n + 1) c7)) B 44 17 v vs ∧ Turn (OwnR R v u) A (W7.setCell ⟨R, 1, none⟩ (.slice x7 (n + 1) c7))  ∧ (∀ k, (Value.slice x7 (n + 1) c7).ownBlock = some k → u.ownBlock = some k ∨ A.heap.size ≤ k) := by
  have hal : Below A.heap.size A (A.alloc (.cells #[.bool b] 4)) := (Below.refl _ _).alloc (Nat.le_refl _) _
  obtain ⟨v7, W7, hrun, ho7, hg7, hb8⟩ := (hu.far hal).app (P := Tryz.prog) 83 83 Tryz.underlying83 infoBA rfl (by decide) [.bool b] rfl (by simp [Value.oneCell']) A.heap.size (CellsAt.new A 4 [.bool b]).wholeM (by omega) (by decide) (by rw [World.size_alloc]; omega)
  obtain ⟨x7, c7, rfl⟩ := ho7.isSlice
  have hln : (bs ++ [[Value.bool b]]).length = n + 1 := by rw [List.length_append, hn]; rfl
  rw [hln] at hrun ho7 hb8
  have hvR : ∀ g, v.ownBlock = some g → g ≠ R := ownNeA hv hc (by decide)
  have huR : ∀ g, u.ownBlock = some g → g ≠ R := ownNeA hu hc (by decide)
  have huv : ∀ g g', v.ownBlock = some g → u.ownBlock = some g' → g ≠ g' := ownNeB hv hu (by decide)
  have hblk : ∀ k, k < A.heap.size → u.ownBlock ≠ some k → W7.heap[k]? = A.heap[k]? := fun k hk hne => (hg7.block k (by rw [World.size_alloc]; omega) (fun q => hne q.symm)).trans (Below.heap_alloc _ _ _ hk)
  have hc7 : CellsAt W7 R 85 [v, u] := hc.congr (hblk R hc.lt (fun q => huR R q rfl))
  have h7R : ∀ g, (Value.slice x7 (n + 1) c7).ownBlock = some g → g ≠ R := fun g hg => by
    rcases hb8 with q | q
    · rw [q] at hg; exact huR g hg
    · rw [q] at hg
      have := Option.some.inj hg
      have := hc.lt
      rw [World.size_alloc] at *
      omega
  refine ⟨x7, c7, W7, hrun, hc7.cell 1, hc7.frozen 1, hc7.set 1 _, ho7.congr (fun g hg => Below.heap_setCell _ _ _ _ (h7R g hg)), (hv.congr (fun g hg => hblk g (hv.blockLt g hg).1 (fun q => huv g g hg q rfl))).congr (fun g hg => Below.heap_setCell _ _ _ _ (hvR g hg)), ?_, fun k hk => ?_⟩
  · refine ((Turn.of_below hal).trans (Turn.of_grown hg7 (fun k e => .inr (.inr e)))).trans (Turn.of_setCell _ ?_ _)
    exact .inl rfl
  · rcases hb8 with q | q
    · rw [q] at hk; exact .inl hk
    · rw [q] at hk
      have := Option.some.inj hk
      rw [World.size_alloc] at this
      exact .inr (by omega)
end Go.Proofs.YtmbdohnmbkpfaaaGreat
