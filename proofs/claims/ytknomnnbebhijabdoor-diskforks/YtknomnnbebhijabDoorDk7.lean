/- disk: 'Trim'. -/
import Derived.Test.YtknomnnbebhijabDoorDk6
namespace Go.Proofs.YtknomnnbebhijabDoor
open Go.RowKit Go.Shelf
attribute [local go_sem] Oper.semAt_some
set_option maxRecDepth 20000
set_option linter.unusedSimpArgs false

theorem TurnD.put {p : Nat → Prop} {w w' : World} (h : TurnD p w w') (l : Nat) (o : Obj) (hl : w.heap.size ≤ l) : TurnD p w (w'.putObj l o) :=
  have hg := grownBy_putObj' w' l o
  ⟨hg.os.trans h.os, hg.tape.trans h.tape, hg.output.trans h.output, Nat.le_trans h.size hg.size, fun k hk hn => (World.putObj_heap_other (by omega)).trans (h.block k hk hn)⟩
/-- How many bytes some records are. -/
def sumP (z : List Int) (pre : List (Fin (wholeN z).length)) : Nat := (pre.map fun i => (wholeN z)[i.1]).sum
theorem sumP_all (z : List Int) : sumP z (List.finRange (wholeN z).length) = trimN z := by
  unfold sumP trimN sumK
  rw [List.take_of_length_le (Nat.le_refl _)]
  congr 1
  apply List.ext_getElem <;> simp
theorem sumP_snoc (z : List Int) (pre : List (Fin (wholeN z).length)) (i : Fin (wholeN z).length) : sumP z (pre ++ [i]) = sumP z pre + (wholeN z)[i.1] := by simp [sumP]
theorem sumP_le (z : List Int) (pre : List (Fin (wholeN z).length)) : sumP z pre ≤ pre.length * z.length := by
  induction pre with
  | nil => simp [sumP]
  | cons i l ih =>
    have h1 := sumK_succ (wholeN z) i.1 i.2
    have h2 := (wholeN_at _ z rfl (i.1 + 1)).2.2 i.2
    have e : sumP z (i :: l) = (wholeN z)[i.1] + sumP z l := by simp [sumP]
    have h3 : (wholeN z)[i.1] ≤ z.length := by omega
    rw [e, List.length_cons, Nat.add_mul, Nat.one_mul]
    omega
section
variable (base D : Nat) (v : Value) (z : List Int) (s : Nat) (w : World)
set_option maxHeartbeats 2000000 in
theorem trim_in (hD : DiskAt w base D v z s) (hKT : S.KTab w) :
    CallsIn Fence.wide 3 Tryd.prog 15 #[.pointer (some ⟨D, 0, none⟩)] w fun e w' => e = .returned (.int .i64 0) ∧ ∃ v', DiskTo w w' base D v v' (z.take (trimN z)) (trimN z) := by
  obtain ⟨x, c, rfl, hb, hx⟩ := hD.buf.bytes
  have hx : TopA x := hx
  have hz := hD.isb
  have hzl := hD.len
  have c0 : (w.alloc (.cells #[.int .i64 0] 3)).cell? ⟨D, 0, none⟩ = some (.slice x z.length c) := (((Below.refl w.heap.size w).alloc (Nat.le_refl _) _).cell (p := ⟨D, 0, none⟩) hD.box.lt).trans (hD.box.cell 0)
  have HZ : Veil (z.length ≤ 65536) := ⟨hzl⟩
  refine callsIn_of_wp_marks Tryd.func15 rfl trivial ?_ rfl
  simp only [Tryd.ntmps15, List.size_toArray, List.length_cons, List.length_nil, Nat.reduceAdd, Nat.reduceSub, Array.replicate_succ, Array.replicate_zero, List.push_toArray, List.append_toArray, List.nil_append, List.cons_append]
  gi_wp2_with (refine ⟨trivial, ?_⟩; gi_at_call 31; refine (callsIn_wide.2 (whole_any _ _ _ _)).mono ?_; rintro e w3 ⟨rfl, rfl⟩)
  have hw1 : Below w.heap.size w ((w.alloc (.cells #[.int .i64 0] 3)).alloc (.cells #[.slice x z.length c] 31)) := ((Below.refl _ _).alloc (Nat.le_refl _) _).alloc (by simp) _
  have hBn : ((w.alloc (.cells #[.int .i64 0] 3)).alloc (.cells #[.slice x z.length c] 31)).cell? ⟨w.heap.size + 1, 0, none⟩ = some (.slice x z.length c) := by
    have := (CellsD.new (w.alloc (.cells #[.int .i64 0] 3)) 31 [.slice x z.length c]).cell 0
    rw [World.size_alloc] at this
    exact this
  have hBl : Boxed ((w.alloc (.cells #[.int .i64 0] 3)).alloc (.cells #[.slice x z.length c] 31)) w.heap.size 3 (.int .i64 0) := (Boxed.new w 3 (.int .i64 0)).alloc _
  have hsz : ((w.alloc (.cells #[.int .i64 0] 3)).alloc (.cells #[.slice x z.length c] 31)).heap.size = w.heap.size + 2 := by simp
  obtain ⟨W1, hW1⟩ : ∃ q, (w.alloc (.cells #[.int .i64 0] 3)).alloc (.cells #[.slice x z.length c] 31) = q := ⟨_, rfl⟩
  rw [hW1] at hw1 hBn hBl hsz ⊢
  clear hW1 c0
  refine wpIn_rangeFunc_ownF rfl (by omega) (gf := 35) (lb := #[.pointer (some ⟨w.heap.size + 1, 0, none⟩)]) rfl trivial (enters_of Tryd.func35 (by kernel_rfl) rfl)
    (encs := fun i : Fin (wholeN z).length => #[recV x z i.1]) (Kp := KeepR (w.heap.size + 1) w.heap.size) (S := fun ys => ys = List.finRange (wholeN z).length) (Sp := fun pre => pre <+: List.finRange (wholeN z).length) (N := (wholeN z).length) (w0 := W1)
    (fun l J Jx W hW hAJ _ hY h0 => whole1_in (3 - 1) l (w.heap.size + 1) x c z w hx hb hz hzl hKT J Jx W hAJ hY (hw1.trans (hW.mono (by omega))) ((hW.cell (p := ⟨w.heap.size + 1, 0, none⟩) (by show w.heap.size + 1 < W1.heap.size; omega)).trans hBn) h0)
    KeepR.trans (fun W l o o' hl ho _ _ => KeepR.putObj W l o' (by omega) (by omega) (Array.getElem?_eq_some_iff.1 ho).1) (Below.refl _ _) (fun _ => rfl)
    (fun pre W => Boxed W w.heap.size 3 (.int .i64 (sumP z pre : Nat)) ∧ Below w.heap.size w W ∧ w.heap.size + 2 ≤ W.heap.size)
    (fun _ _ _ => False)
    (fun pre A B row hI hg hr => ?own)
    (fun _ _ _ _ _ hs _ _ => hs)
    ⟨hBl, hw1, by omega⟩
    (fun i => { tmps := #[.pointer (some ⟨D, 0, none⟩), undef, .int .i64 0, .pointer (some ⟨w.heap.size, 0, none⟩), recV x z i.1, .pointer (some ⟨D, 0, none⟩), .bool false, .pointer (some ⟨D, 0, none⟩), .pointer (some ⟨D, 0, none⟩), .pointer (some ⟨D, 0, none⟩), .slice x z.length c, .func (.func 35) #[] #[.pointer (some ⟨w.heap.size + 1, 0, none⟩)], recV x z i.1, undef, undef, undef, undef, undef, undef, undef], defers := [] }) ?assign ?body ?done ?stop
  case own =>
    obtain ⟨h1, h3, h4⟩ := hI
    have hne : ∀ g cur t fr, A.heap[g]? = some (.cells cur t fr) → some g ≠ row := fun g cur t fr hc e => by
      obtain ⟨_, o, ho, hk⟩ := hr g e.symm
      rw [hc] at ho
      cases ho
      cases hk
    refine ⟨h1.kept hg (hne _ _ _ _ h1), h3.grown hg (by omega) (fun k hk => ?_), Nat.le_trans h4 hg.size⟩
    have := (hr k hk).1
    omega
  case assign =>
    intro l i W K hK
    gi_wp2
    exact hK
  case body =>
    rintro l pre i W ⟨hu, hB, hs2⟩ hpre
    have hfew := wholeN_few z
    have hzl2 := HZ.out
    have hcl := hu.cell
    have hfz := hu.frozen
    have e1 : recV x z i.1 = .slice (cutA x (sumK (wholeN z) i.1) (sumK (wholeN z) i.1 + (wholeN z)[i.1])) (wholeN z)[i.1] (wholeN z)[i.1] := by
      unfold recV
      rw [List.getElem?_eq_getElem i.2, Option.getD_some]
    have h1 := sumK_succ (wholeN z) i.1 i.2
    have h2 := (wholeN_at _ z rfl (i.1 + 1)).2.2 i.2
    have h3 := sumP_le z pre
    have h4 : pre.length * z.length ≤ 65536 * 65536 := Nat.mul_le_mul (by omega) (by omega)
    have h5 := sumP_snoc z pre i
    obtain ⟨m, hm⟩ : ∃ m, (wholeN z)[i.1] = m := ⟨_, rfl⟩
    obtain ⟨q, hq⟩ : ∃ q, sumP z pre = q := ⟨_, rfl⟩
    rw [hm] at e1 h1 h5
    rw [hq] at h3 h5 hcl hu
    have H5 := Veil.mk h5
    rw [e1]
    generalize cutA x (sumK (wholeN z) i.1) (sumK (wholeN z) i.1 + m) = y
    have hwr : IntKind.i64.wrap ((q : Int) + (m : Int)) = ((q + m : Nat) : Int) := by rw [IntKind.wrap_i64]; omega
    clear e1 h5 hm hq
    gi_wp2
    refine ⟨KeepsOthers.setCell _ _ _, ⟨Below.heap_setCell _ _ _ _ (by show w.heap.size + 1 ≠ w.heap.size; omega), (Below.refl _ W).setCell (p := ⟨w.heap.size, 0, none⟩) (Nat.le_refl _) _⟩, ?_, hB.setCell (p := ⟨w.heap.size, 0, none⟩) (Nat.le_refl _) _, by simpa [World.setCell] using hs2⟩
    rw [H5.out, Int.natCast_add]
    exact hu.set _
  case done =>
    rintro E ys W hE rfl ⟨hu, hB, hs2⟩ hK
    rw [sumP_all] at hu
    have hcu := hu.cell
    have hEl : E < W.heap.size := (Array.getElem?_eq_some_iff.1 hK).1
    have hcut := cut_any base D (.slice x z.length c) z s W (hD.far hB) (trimN z) (trimN_le z)
    have hin := hD.inside
    clear hb hx hz hzl
    gi_wp2_with (refine ⟨trivial, ?_⟩; gi_at_call 30; refine (callsIn_wide.2 hcut).mono ?_; rintro e w5 ⟨⟨r, rfl⟩, v5, hd5⟩)
    have hE5 : w5.heap[E]? = some (.deferred (some [])) := (hd5.turn.block E hEl (fun hp => by have := (hin E hp).1; omega)).trans hK
    refine ⟨by simp, .inl ⟨_, _, rfl, run_takeDeferred hE5, ?_⟩⟩
    refine ⟨_, results_tmp (Tryd.results15) _ _ _, rfl, v5, ⟨hd5.disk.congr fun g hg => World.putObj_heap_other ?_, ?_, ?_⟩⟩
    · intro e
      subst e
      rcases hg with e | hg
      · have := (hin D (.inl rfl)).1; omega
      · rcases hd5.block with h | ⟨g', h, hg'⟩
        · rw [hg] at h
          have := (hin g (.inr h.symm)).1
          omega
        · rw [hg] at h
          cases h
          omega
    · exact ((TurnD.of_below (p := diskP D (.slice x z.length c)) (hB.mono (Nat.le_refl _))).trans hd5.turn).put E _ (by omega)
    · rcases hd5.block with h | ⟨g', h, hg'⟩
      · exact .inl h
      · exact .inr ⟨g', h, Nat.le_trans hB.size hg'⟩
  case stop =>
    rintro E c' pre W _ _ h _
    exact h.elim
/-- What stands behind the whole records goes. -/
theorem dTrim_any (hD : DiskAt w base D v z s) (hKT : S.KTab w) :
    Calls Tryd.prog 15 #[.pointer (some ⟨D, 0, none⟩)] w fun e w' => e = .returned (.int .i64 0) ∧ ∃ v', DiskTo w w' base D v v' (z.take (trimN z)) (trimN z) := callsIn_wide.1 (trim_in base D v z s w hD hKT)
end
end Go.Proofs.YtknomnnbebhijabDoor
