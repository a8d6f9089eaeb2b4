/- Gate5 Gd Rd1 Rd2 Rd3 Wr2 Wr3 -/
import Derived.Test.YtlhajphjppjlgaaGreatDoorT01
import Derived.Test.YtlhajphjppjlgaaGreatDoorT02
import Derived.Defers
import Derived.Recover
import Derived.WalkLawsBesides
import Derived.Deep.MidRow
namespace Go.Proofs.YtlhajphjppjlgaaGreatDoor
open Go Go.RowKit
section
variable {P : Program} {ops : Array Oper} {Q : Exit → Act → World → Prop} {md : Region.Mode} {S : World → Prop} {D : Nat}
theorem wpAnyG_two {i j : Nat} {oi oj : Oper} {fuel : Nat} {listed : Array Bool} {a : Act} {w : World} (hi : ops[i]? = some oi) (hj : ops[j]? = some oj) (hr : Region.ready md ops listed = [i, j])
    (hwi : Region.wanted oi (yielded ops a.tmps) = true) (hwj : Region.wanted oj (yielded ops a.tmps) = true)
    (h1 : ∀ K' : Act → World → Prop, Shut (∀ a w, ((listed.setIfInBounds i true).getD D true = false → S w) → wpAnyG P md ops Q S D fuel (listed.setIfInBounds i true) a w → K' a w) → Oper.wp P oi a w K' Q)
    (h2 : ∀ K' : Act → World → Prop, Shut (∀ a w, ((listed.setIfInBounds j true).getD D true = false → S w) → wpAnyG P md ops Q S D fuel (listed.setIfInBounds j true) a w → K' a w) → Oper.wp P oj a w K' Q) : wpAnyG P md ops Q S D (fuel + 1) listed a w :=
  ⟨fun h0 => (by rw [hr] at h0; cases h0), fun q hq => by
    rw [hr] at hq
    rcases List.mem_cons.1 hq with rfl | hq
    · refine wpOp_step hi (fun K' hK => ?_)
      rw [if_pos hwi]
      exact h1 K' (fun a w h1 h2 => hK a w ⟨h1, h2⟩)
    · obtain rfl : q = j := by simpa using hq
      refine wpOp_step hj (fun K' hK => ?_)
      rw [if_pos hwj]
      exact h2 K' (fun a w h1 h2 => hK a w ⟨h1, h2⟩)⟩
end
theorem meet {α : Prop} (R : Nat → Value → World → Prop) (C : Nat → Value → World → Prop) (use : Veil (∀ g v w, R g v w → C g v w) → α) (prove : ∀ g v w, R g v w → C g v w) : α := use ⟨prove⟩
end Go.Proofs.YtlhajphjppjlgaaGreatDoor
namespace Go.Proofs.YtlhajphjppjlgaaGreatDoor
open Go.RowKit
set_option maxRecDepth 20000
set_option linter.unusedSimpArgs false
section
variable {P : Program} {ops : Array Oper} {Q : Exit → Act → World → Prop} {md : Region.Mode} {S : World → Prop} {D : Nat}
end
theorem wp_appA {w : World} {o : Oper} {a : Act} {K : Act → World → Prop} {Q : Exit → Act → World → Prop} (s x : Operand)
    (ho : o.op = .call { callee := .builtin .append, args := #[s, x], argTypes := #[30, 30] }) (base : Nat) (v : Value) (zs : List Int) (hs : a.eval s = v) (hown : OwnB w base v zs)
    (y : Option Addr) (len cap : Nat) (z : List Int) (hx : a.eval x = .slice y len cap) (hb : Bytes w y len cap z) (hln : zs.length + len ≤ 4000000) (hbase : base ≤ w.heap.size)
    (h : ∀ v' w', OwnB w' base v' (zs ++ z) → w.grownBy w' v.ownBlock → K (a.put o.dst v') w') : o.wp Tryz.prog a w K Q := by
  obtain ⟨i0, hi, hz0, hz1, hz2⟩ := info_parts infoU8
  have hzl := hb.len_eq
  have hcase : ∀ ad : Addr, y = some ad → (∀ j u, (z.map (Value.int .u8))[j]? = some u → w.cell? (ad.add j) = some u) → o.wp Tryz.prog a w K Q := fun ad hy hsrc => by
    subst hy
    refine wp_append_own w s x 30 ho base 5 i0 (.int .u8 0) 1 1 Tryz.underlying30 hi hz0 hz1 hz2 rfl (by decide) v zs.length (zs.map (Value.int .u8)) hs hown ad len cap (z.map (Value.int .u8)) hx (by simp [hzl]) hsrc (by simp [Value.oneCell']) (by simp [maxLen]; omega) (by omega) hbase ?_
    intro v' w' h1 h2 _
    exact h v' w' (OwnB.cast h1 (by simp [hzl]) (by simp)) h2
  rcases hb.at_ with h0 | ⟨b, off, hy, hc⟩
  · have hz0' : z = [] := List.length_eq_zero_iff.1 (by omega)
    cases y with
    | none =>
      have hc0 := hb.nil rfl
      subst h0 hc0 hz0'
      have hrun := run_append_owned_none (P := Tryz.prog) (w := w) base 30 o.type 5 i0 1 Tryz.underlying30 hi v zs.length (zs.map (Value.int .u8)) hown
      unfold Oper.wp
      simp [execOp, ho, resolve, invoke, builtin, hs, hx, hrun, Result.andThen]
      exact h v w (by rw [List.append_nil]; exact hown) ⟨rfl, rfl, rfl, Nat.le_refl _, fun _ _ _ => rfl⟩
    | some ad => exact hcase ad rfl (fun j u hu => by subst hz0'; simp at hu)
  · exact hcase _ hy (fun j u hu => by
      have hj : j < len := by have := (List.getElem?_eq_some_iff.1 hu).1; simpa [hzl] using this
      rw [Addr.add_mid', hc j hj, ← hu, List.getElem?_map, List.getElem?_eq_getElem (by omega)]; rfl)
theorem OwnB.keep {w w' : World} {base : Nat} {v : Value} {z : List Int} (h : OwnB w base v z) (hk : ∀ g, base ≤ g → g < w.heap.size → w'.heap[g]? = w.heap[g]?) : OwnB w' base v z := by
  refine ⟨h.1, ?_⟩
  rcases h.2 with h' | ⟨g, cap, cur, h1, h2, h3, h4⟩
  · exact .inl h'
  · refine .inr ⟨g, cap, cur, h1, h2, ?_, h4⟩
    rw [hk g h2 (Array.getElem?_eq_some_iff.1 h3).1]; exact h3
end Go.Proofs.YtlhajphjppjlgaaGreatDoor
namespace Go.Proofs.YtlhajphjppjlgaaGreatDoor
open Go.RowKit
set_option maxRecDepth 20000
set_option linter.unusedSimpArgs false
theorem bodyPost_gone {P : Program} {fn : Func} {R : Ending → World → Prop} {ch : List PanicEntry} {t : Array Value} {w : World} (h : R (.panicked ch) w) : bodyPost P fn R (.panic ch) ⟨t, []⟩ w := ⟨rfl, h⟩
def wrongP : PanicEntry := { v := .iface 145 (.agg #[]), recovered := false }
set_option maxHeartbeats 1000000 in
theorem need_ok (w : World) : Calls Tryz.prog 74 #[.bool true] w fun e w' => (∃ r, e = .returned r) ∧ w = w' := by
  go_enter Tryz.func74, Tryz.ntmps74
  go_wp2
  go_end0
  exact ⟨⟨_, rfl⟩, rfl⟩
set_option maxHeartbeats 1000000 in
theorem need_bad (w : World) : Calls Tryz.prog 74 #[.bool false] w fun e w' => e = .panicked [wrongP] ∧ w = w' := by
  go_enter Tryz.func74, Tryz.ntmps74
  go_wp2
  exact bodyPost_gone ⟨rfl, rfl⟩
theorem Bytes.cut3 {w : World} {x : Option Addr} {len cap : Nat} {z : List Int} (hb : Bytes w x len cap z) (k : Nat) (hk : k ≤ len) : Bytes w (subA x k 0) k k (z.take k) := by
  have hz := hb.len_eq
  have hle := hb.le
  refine ⟨by rw [List.length_take]; omega, Nat.le_refl _, by have := hb.top; omega, ?_, ?_⟩
  · unfold subA
    split
    · intro _; omega
    · intro hn
      cases x with
      | none => have := hb.nil rfl; omega
      | some a => simp at hn
  · by_cases h0 : k = 0
    · exact .inl h0
    · rcases hb.at_ with h00 | ⟨b, off, hx, hc⟩
      · omega
      · refine .inr ⟨b, off, ?_, fun j hj => ?_⟩
        · unfold subA
          rw [if_neg (by omega), hx, Option.map_some, Addr.add_mid', Nat.zero_mul, Nat.add_zero]
        · rw [List.getElem?_take_of_lt hj]; exact hc j (by omega)
theorem run_cut_hm (w : World) (x : Option Addr) (len cap k : Nat) (hk : k ≤ cap) : (Instr.slice 30 (.slice x len cap) none (some (.int .i64 (k : Int))) (some (.int .i64 (k : Int)))).run Tryz.prog w = .ok (.slice (subA x k 0) k k) w := by
  rw [run_slice_hm w 30 x len cap elemB .i64 .i64 (k : Int) (k : Int) (by omega) (by omega) (by omega), sizeU8]
  simp [sliced, subA, Result.andThen]
structure Rd (w : World) (R base : Nat) (z : List Int) : Prop where
  ge : base ≤ R
  has : ∃ x n c, Box w R 149 (.slice x n c) ∧ ∀ wx, Below base w wx → Bytes wx x n c z
structure Took (w w' : World) (R base : Nat) : Prop where
  below : Below base w w'
  more : w.heap.size ≤ w'.heap.size
  kept : ∀ g, g < w.heap.size → g ≠ R → w'.heap[g]? = w.heap[g]?
theorem Took.refl (w : World) (R base : Nat) : Took w w R base := ⟨Below.refl _ _, Nat.le_refl _, fun _ _ _ => rfl⟩
theorem Took.trans {w w' w'' : World} {R base : Nat} (h : Took w w' R base) (h' : Took w' w'' R base) : Took w w'' R base := ⟨h.below.trans h'.below, Nat.le_trans h.more h'.more, fun g h1 h2 => by rw [h'.kept g (Nat.lt_of_lt_of_le h1 h.more) h2, h.kept g h1 h2]⟩
theorem Took.alloc {w : World} {R base : Nat} (hb : base ≤ w.heap.size) (o : Obj) : Took w (w.alloc o) R base := ⟨(Below.refl _ _).alloc hb _, by simp, fun g h1 _ => Below.heap_alloc w o g h1⟩
theorem Took.afar {w w' : World} {R base : Nat} (hb : base ≤ w.heap.size) (h : Below w.heap.size w w') : Took w w' R base := ⟨h.mono hb, h.size, fun g h1 _ => h.block g h1⟩
theorem Rd.size {w : World} {R base : Nat} {z : List Int} (h : Rd w R base z) : base ≤ w.heap.size := by
  obtain ⟨x, n, c, hb, _⟩ := h.has
  have := hb.lt
  have := h.ge
  omega
theorem Rd.lt {w : World} {R base : Nat} {z : List Int} (h : Rd w R base z) : R < w.heap.size := by
  obtain ⟨x, n, c, hb, _⟩ := h.has
  exact hb.lt
theorem Rd.afar {w w' : World} {R base : Nat} {z : List Int} (h : Rd w R base z) (hb : Below w.heap.size w w') : Rd w' R base z := by
  have hs := h.size
  obtain ⟨x, n, c, h1, h2⟩ := h.has
  refine ⟨h.ge, x, n, c, ?_, fun wx hx => h2 wx ((hb.mono hs).trans hx)⟩
  unfold Box at h1 ⊢
  rw [hb.block R (Array.getElem?_eq_some_iff.1 h1).1]; exact h1
theorem Rd.alloc {w : World} {R base : Nat} {z : List Int} (h : Rd w R base z) (o : Obj) : Rd (w.alloc o) R base z := h.afar ((Below.refl _ _).alloc (Nat.le_refl _) _)
set_option maxHeartbeats 2000000 in
theorem take_any (R base : Nat) (z : List Int) (k : Nat) (w : World) (hR : Rd w R base z) :
    Calls Tryz.prog 101 #[.pointer (some ⟨R, 0, none⟩), .int .i64 k] w fun e w' =>
      (k ≤ z.length ∧ ∃ x, e = .returned (.slice x k k) ∧ (∀ wx, Below base w' wx → Bytes wx x k k (z.take k)) ∧ Rd w' R base (z.drop k) ∧ Took w w' R base) ∨ (z.length < k ∧ e = .panicked [wrongP] ∧ Took w w' R base) := by
  have hge := hR.ge
  obtain ⟨x, n, c, hbx, hby⟩ := hR.has
  have hb0 := hby w (Below.refl _ _)
  have hn := hb0.len_eq
  have hle := hb0.le
  have htop := hb0.top
  have hc := hbx.cell
  have hf := hbx.frozen
  by_cases h : k ≤ n
  · have hki : (k : Int) ≤ (n : Int) := by omega
    have hc3 := fun wx => run_cut_hm wx x n c k (by omega)
    have hcl := fun wx => run_cut_l wx x n c k h
    have hnd := need_ok w
    have HB : Veil (∀ wx, Below base w wx → Bytes wx x n c z) := ⟨hby⟩
    have HN : Veil (n = z.length) := ⟨hn⟩
    clear hR hb0 hby hn
    go_enter Tryz.func101, Tryz.ntmps101
    go_wp2_with (go_at_call 74; refine hnd.mono ?_; rintro e w1 ⟨⟨r1, rfl⟩, rfl⟩)
    go_ret
    have hBs : Below base w (w.setCell ⟨R, 0, none⟩ (.slice (subA x c k) (n - k) (c - k))) := (Below.refl _ _).setCell hge _
    refine .inl ⟨by rw [← HN.out]; exact h, _, rfl, fun wx hx => (HB.out wx (hBs.trans hx)).cut3 k h, ⟨hge, _, _, _, hbx.set _, fun wx hx => ?_⟩, ⟨hBs, by simp [World.setCell], fun g h1 h2 => heap_setCell_other _ _ g _ h2⟩⟩
    have := (HB.out wx (hBs.trans hx)).cut k n h (Nat.le_refl _)
    rw [List.take_of_length_le (by rw [List.length_drop, HN.out]; exact Nat.le_refl _)] at this
    exact this
  · have hki : ¬ (k : Int) ≤ (n : Int) := by omega
    have hnd := need_bad w
    have HN : Veil (n = z.length) := ⟨hn⟩
    clear hR hb0 hby hn
    go_enter Tryz.func101, Tryz.ntmps101
    go_wp2_with (go_at_call 74; refine hnd.mono ?_; rintro e w1 ⟨rfl, rfl⟩)
    exact bodyPost_gone (.inr ⟨by rw [← HN.out]; omega, rfl, Took.refl _ _ _⟩)
end Go.Proofs.YtlhajphjppjlgaaGreatDoor
namespace Go.Proofs.YtlhajphjppjlgaaGreatDoor
open Go.RowKit
set_option maxRecDepth 20000
set_option linter.unusedSimpArgs false
abbrev b8 (x : Int) : Prop := 0 ≤ x ∧ x ≤ 255
end Go.Proofs.YtlhajphjppjlgaaGreatDoor
namespace Go.Proofs.YtlhajphjppjlgaaGreatDoor
open Go.RowKit
set_option maxRecDepth 20000
set_option linter.unusedSimpArgs false
end Go.Proofs.YtlhajphjppjlgaaGreatDoor
namespace Go.Proofs.YtlhajphjppjlgaaGreatDoor
open Go.RowKit
set_option maxRecDepth 20000
set_option linter.unusedSimpArgs false
theorem CellsAt.went {w w' : World} {g H base : Nat} {t : TypeId} {cs : List Value} (h : CellsAt w g t cs) (hg : Went w w' H base) (hne : g ≠ H) (ht : t ≠ 5) : CellsAt w' g t cs := hg.kept g _ t _ hne ht h
def truthB (b : Bool) : Int := if b then 1 else 0
set_option maxHeartbeats 1000000 in
theorem truth_any (H base : Nat) (L : List Int) (b : Bool) (w : World) (hW : Wr w H base L) (hln : L.length ≤ 3000000) :
    Calls Tryz.prog 114 #[.pointer (some ⟨H, 0, none⟩), .bool b] w fun e w' => (∃ r, e = .returned r) ∧ Wr w' H base (L ++ [truthB b]) ∧ Went w w' H base := by
  have hsz := hW.size
  cases b with
  | true =>
    have hp := put_any H base L (some ⟨w.heap.size, 0, none⟩) 1 1 [1] (w.alloc (.cells (row .u8 [1]) 5)) (hW.alloc _) (new_bytes w [1] (by simp)) (by omega)
    have hgo := Went.alloc (H := H) hsz (.cells (row .u8 [1]) 5)
    clear hW
    go_enter Tryz.func114, Tryz.ntmps114
    go_wp2_with (go_at_call 36; refine hp.mono ?_; rintro e w1 ⟨⟨r, rfl⟩, hW1, hg1⟩)
    go_end0
    exact ⟨⟨_, rfl⟩, hW1, hgo.trans hg1⟩
  | false =>
    have hp := put_any H base L (some ⟨w.heap.size, 0, none⟩) 1 1 [0] (w.alloc (.cells (row .u8 [0]) 5)) (hW.alloc _) (new_bytes w [0] (by simp)) (by omega)
    have hgo := Went.alloc (H := H) hsz (.cells (row .u8 [0]) 5)
    clear hW
    go_enter Tryz.func114, Tryz.ntmps114
    go_wp2_with (go_at_call 36; refine hp.mono ?_; rintro e w1 ⟨⟨r, rfl⟩, hW1, hg1⟩)
    go_end0
    exact ⟨⟨_, rfl⟩, hW1, hgo.trans hg1⟩
set_option maxHeartbeats 1000000 in
theorem wzeros_any (H base : Nat) (L : List Int) (n : Nat) (w : World) (hW : Wr w H base L) (hn : n ≤ 100000) (hln : L.length ≤ 3000000) :
    Calls Tryz.prog 89 #[.pointer (some ⟨H, 0, none⟩), .int .i64 n] w fun e w' => (∃ r, e = .returned r) ∧ Wr w' H base (L ++ List.replicate n 0) ∧ Went w w' H base := by
  have hsz := hW.size
  have hmk : ∀ wx : World, (Instr.makeSlice 30 (.int .i64 (n : Int)) (.int .i64 (n : Int))).run Tryz.prog wx = .ok (.slice (some ⟨wx.heap.size, 0, none⟩) n n) (wx.alloc (.cells (row .u8 (List.replicate n 0)) 5)) := fun wx => by
    have := run_make_row' (P := Tryz.prog) 30 5 (.int .u8 0) 1 Tryz.underlying30 infoU8 rfl .i64 .i64 n (by omega) (by omega) wx
    rw [made_row] at this
    exact this
  have hp := put_any H base L (some ⟨w.heap.size, 0, none⟩) n n (List.replicate n 0) (w.alloc (.cells (row .u8 (List.replicate n 0)) 5)) (hW.alloc _) (by
    have := new_bytes w (List.replicate n 0) (by simp; omega)
    rw [List.length_replicate] at this
    exact this) (by omega)
  have hgo := Went.alloc (H := H) hsz (.cells (row .u8 (List.replicate n 0)) 5)
  clear hW
  go_enter Tryz.func89, Tryz.ntmps89
  go_wp2_with (go_at_call 36; refine hp.mono ?_; rintro e w1 ⟨⟨r, rfl⟩, hW1, hg1⟩)
  go_end0
  exact ⟨⟨_, rfl⟩, hW1, hgo.trans hg1⟩
def dotL (a s : Int) : List Int := a :: be4 s
set_option maxHeartbeats 1000000 in
theorem dot_any (H base : Nat) (L : List Int) (a s : Int) (w : World) (hW : Wr w H base L) (hln : L.length ≤ 2000000) :
    Calls Tryz.prog 70 #[.pointer (some ⟨H, 0, none⟩), .agg (dotC a s).toArray] w fun e w' => (∃ r, e = .returned r) ∧ Wr w' H base (L ++ dotL a s) ∧ Went w w' H base := by
  have hsz := hW.size
  have hlt : H < w.heap.size := by obtain ⟨v, h1, _⟩ := hW.has; exact h1.lt
  have hD0 := CellsAt.new w 28 (dotC a s)
  have hgo := Went.alloc (H := H) hsz (.cells (dotC a s).toArray 28)
  have hW0 := hW.alloc (.cells (dotC a s).toArray 28)
  clear hW
  go_enter Tryz.func70, Tryz.ntmps70
  go_upto_region 1 with fail
  refine forget (p := fun y => Code.wp _ _ _ _ y) (fun W0 => Went w W0 H base ∧ Wr W0 H base L ∧ CellsAt W0 w.heap.size 28 (dotC a s)) ⟨hgo, hW0, hD0⟩ ?_
  clear hgo hW0 hD0
  rintro W0 ⟨hg0, hW0, hD0⟩
  have hs0 := hW0.size
  have c0 : W0.cell? ⟨w.heap.size, 0, none⟩ = some (.int .u8 a) := hD0.cell 0
  have hp := put_any H base L (some ⟨W0.heap.size, 0, none⟩) 1 1 [a] (W0.alloc (.cells (row .u8 [a]) 5)) (hW0.alloc _) (new_bytes W0 [a] (by simp)) (by omega)
  have hgo := Went.alloc (H := H) hs0 (.cells (row .u8 [a]) 5)
  go_upto_region 2 with (go_at_call 36; refine hp.mono ?_; rintro e w1 ⟨⟨r, rfl⟩, hW1, hg1⟩)
  have hD1 := (hD0.went hgo (by omega) (by decide)).went hg1 (by omega) (by decide)
  have c1 : w1.cell? ⟨w.heap.size, 1, none⟩ = some (.int .u32 s) := hD1.cell 1
  have hf := four_any H base (L ++ [a]) s w1 hW1 (by rw [List.length_append]; simp; omega)
  have hg01 := hg0.trans (hgo.trans hg1)
  clear hp hD0 hD1 hW0 hW1 hgo hg1 hg0 c0
  go_wp2_with (go_at_call 69; refine hf.mono ?_; rintro e w2 ⟨⟨r2, rfl⟩, hW2, hg2⟩)
  go_end0
  refine ⟨⟨_, rfl⟩, ?_, hg01.trans hg2⟩
  rw [List.append_assoc] at hW2
  exact hW2
end Go.Proofs.YtlhajphjppjlgaaGreatDoor
namespace Go.Proofs.YtlhajphjppjlgaaGreatDoor
open Go.RowKit
set_option maxRecDepth 20000
set_option linter.unusedSimpArgs false
def pastL (l : List Int) : List Int := (l.map be4).flatten
def eventL (e : Ev) : List Int := dotL e.da e.ds ++ pastL e.past ++ [e.kind] ++ dotL e.pa e.ps ++ [truthB e.right] ++ [e.char, e.who, e.role] ++ List.replicate 11 0
theorem be4_length (n : Int) : (be4 n).length = 4 := rfl
theorem dotL_length (a s : Int) : (dotL a s).length = 5 := rfl
theorem pastL_length : ∀ l : List Int, (pastL l).length = 4 * l.length
  | [] => rfl
  | a :: l => by
    have := pastL_length l
    unfold pastL at this ⊢
    rw [List.map_cons, List.flatten_cons, List.length_append, be4_length, this, List.length_cons]; omega
theorem pastL_take (l : List Int) (j : Nat) (hj : j < l.length) : pastL (l.take (j + 1)) = pastL (l.take j) ++ be4 (l[j]?.getD 0) := by
  rw [take_next l j hj]
  simp [pastL]
theorem eventL_length (e : Ev) (hp : e.past.length = 8) : (eventL e).length = 58 := by
  unfold eventL
  simp only [List.length_append, dotL_length, pastL_length, hp, List.length_cons, List.length_nil, List.length_replicate]
set_option maxHeartbeats 4000000 in
theorem event_any (H base : Nat) (L : List Int) (E : Ev) (w : World) (hW : Wr w H base L) (hp : E.past.length = 8) (hln : L.length ≤ 1000000) :
    Calls Tryz.prog 90 #[.pointer (some ⟨H, 0, none⟩), .agg E.cells.toArray] w fun e w' => (∃ r, e = .returned r) ∧ Wr w' H base (L ++ eventL E) ∧ Went w w' H base := by
  have hsz := hW.size
  have hlt : H < w.heap.size := by obtain ⟨v, h1, _⟩ := hW.has; exact h1.lt
  have hD0 := CellsAt.new w 76 E.cells
  have hgo := Went.alloc (H := H) hsz (.cells E.cells.toArray 76)
  have hW0 := hW.alloc (.cells E.cells.toArray 76)
  obtain ⟨p1, p2, p3, p4, p5, p6, p7, p8⟩ := ev_parts E hp
  have HP : Veil ((E.cells.drop 0).take 2 = dotC E.da E.ds ∧ (E.cells.drop 2).take 8 = E.past.map (Value.int .u32) ∧ E.cells[10]? = some (.int .u8 E.kind) ∧ (E.cells.drop 11).take 2 = dotC E.pa E.ps ∧ E.cells[13]? = some (.bool E.right) ∧ E.cells[14]? = some (.int .u8 E.char) ∧ E.cells[15]? = some (.int .u8 E.who) ∧ E.cells[16]? = some (.int .u8 E.role)) := ⟨p1, p2, p3, p4, p5, p6, p7, p8⟩
  have HL : Veil (∀ n, (pastL (E.past.take n)).length ≤ 32) := ⟨fun n => by rw [pastL_length, List.length_take]; omega⟩
  have HT : Veil (∀ j, j < 8 → pastL (E.past.take (j + 1)) = pastL (E.past.take j) ++ be4 (E.past[j]?.getD 0)) := ⟨fun j hj => pastL_take _ j (by omega)⟩
  have HX : Veil (∀ j wx, j < 8 → (Instr.index 74 (.agg (List.map (Value.int .u32) E.past).toArray) (.int .i64 (j : Nat))).run Tryz.prog wx = .ok (.int .u32 (E.past[j]?.getD 0)) wx) := ⟨fun j wx hj => run_index_row wx 74 26 8 .u32 E.past j Tryz.underlying74 Tryz.underlying26 sizeU32v hp hj⟩
  have HA : Veil (E.past.take 8 = E.past) := ⟨List.take_of_length_le (by omega)⟩
  have HPL : Veil (E.past.length = 8) := ⟨hp⟩
  clear hW p1 p2 p3 p4 p5 p6 p7 p8 hp
  go_enter Tryz.func90, Tryz.ntmps90
  go_upto_region 1 with fail
  refine forget (p := fun y => Code.wp _ _ _ _ y) (fun W0 => Went w W0 H base ∧ Wr W0 H base L ∧ CellsAt W0 w.heap.size 76 E.cells) ⟨hgo, hW0, hD0⟩ ?_
  clear hgo hW0 hD0
  rintro W0 ⟨hg0, hW0, hD0⟩
  have hdt := dot_any H base L E.da E.ds W0 hW0 (by omega)
  have rD : W0.rangeAt w.heap.size 0 (dotC E.da E.ds) := by
    have := hD0.range 0 2
    rw [HP.out.1] at this
    exact this
  go_upto_region 2 with (first
    | (refine wpList_ldv rfl 28 _ rfl _ _ rfl (dotC E.da E.ds) rD Tryz.underlying28 rfl sizeDot ?_)
    | (go_at_call 70; refine hdt.mono ?_; rintro e w1 ⟨⟨r, rfl⟩, hW1, hg1⟩))
  have hD1 := hD0.went hg1 (by omega) (by decide)
  have hg01 := hg0.trans hg1
  clear hdt rD hW0 hD0 hg0 hg1
  have rV : w1.rangeAt w.heap.size 2 (E.past.map (Value.int .u32)) := by
    have := hD1.range 2 8
    rw [HP.out.2.1] at this
    exact this
  have hLd : (L ++ dotL E.da E.ds).length ≤ 1000005 := by rw [List.length_append, dotL_length]; omega
  obtain ⟨L1, hL1⟩ : ∃ q, L ++ dotL E.da E.ds = q := ⟨_, rfl⟩
  have HL1 : Veil (L ++ dotL E.da E.ds = L1) := ⟨hL1⟩
  rw [hL1] at hW1 hLd
  clear hL1
  go_wp2_with (refine wpList_ldv rfl 74 _ rfl _ _ rfl (E.past.map (Value.int .u32)) rV Tryz.underlying74 rfl (by rw [List.length_map, HPL.out]; exact sizeVec) ?_)
  go_loopw [12] (fun q wr => ∃ j : Nat, j ≤ 8 ∧ q = .int .i64 j ∧ Wr wr H base (L1 ++ pastL (E.past.take j)) ∧ CellsAt wr w.heap.size 76 E.cells ∧ Went w wr H base) (fun q _ => 8 - (intOf q).toNat)
  case atStart => exact ⟨0, by omega, rfl, by simpa [pastL] using hW1, hD1, hg01⟩
  case round =>
    clear hW1 hD1 hg01 rV
    obtain ⟨j, hj, rfl, hW1, hD1, hg01⟩ := hrel
    have hll := HL.out j
    by_cases hlt : j < 8
    · have hx := fun wx => HX.out j wx hlt
      have hts := HT.out j hlt
      obtain ⟨u, hu⟩ : ∃ q, E.past[j]?.getD 0 = q := ⟨_, rfl⟩
      rw [hu] at hx hts
      have hfo := four_any H base (L1 ++ pastL (E.past.take j)) u wr hW1 (by rw [List.length_append]; omega)
      have HTS : Veil (L1 ++ pastL (E.past.take j) ++ be4 u = L1 ++ pastL (E.past.take (j + 1))) := ⟨by rw [hts, List.append_assoc]⟩
      have hj8 : (j : Int) < 8 := by omega
      clear hts hu hW1
      go_wp2_with (go_at_call 69; refine hfo.mono ?_; rintro e w2 ⟨⟨r2, rfl⟩, hW2, hg2⟩)
      have hD2 := hD1.went hg2 (by omega) (by decide)
      rw [HTS.out] at hW2
      go_roundw
      case rel => exact ⟨j + 1, by omega, by go_num, hW2, hD2, hg01.trans hg2⟩
      case measure => simp [intOf]; omega
    · obtain rfl : j = 8 := by omega
      rw [HA.out] at hW1 hll
      rw [show ((8 : Nat) : Int) = 8 from rfl]
      obtain ⟨L2, hL2⟩ : ∃ q, L1 ++ pastL E.past = q := ⟨_, rfl⟩
      have HL2 : Veil (L1 ++ pastL E.past = L2) := ⟨hL2⟩
      have hl2 : L2.length ≤ 1000050 := by rw [← hL2, List.length_append]; omega
      rw [hL2] at hW1
      have hs1 := hW1.size
      have c10 : wr.cell? ⟨w.heap.size, 10, none⟩ = some (.int .u8 E.kind) := by rw [hD1.cell]; exact HP.out.2.2.1
      have hp1 := put_any H base L2 (some ⟨wr.heap.size, 0, none⟩) 1 1 [E.kind] (wr.alloc (.cells (row .u8 [E.kind]) 5)) (hW1.alloc _) (new_bytes wr [E.kind] (by simp)) (by omega)
      have hgo := Went.alloc (H := H) hs1 (.cells (row .u8 [E.kind]) 5)
      clear hL2 hll HX HT
      go_upto_region 8 with (go_at_call 36; refine hp1.mono ?_; rintro e w2 ⟨⟨r2, rfl⟩, hW2, hg2⟩)
      have hD2 := (hD1.went hgo (by omega) (by decide)).went hg2 (by omega) (by decide)
      have hg02 := hg01.trans (hgo.trans hg2)
      have hl3 : (L2 ++ [E.kind]).length ≤ 1000060 := by rw [List.length_append]; simp; omega
      obtain ⟨L3, hL3⟩ : ∃ q, L2 ++ [E.kind] = q := ⟨_, rfl⟩
      have HL3 : Veil (L2 ++ [E.kind] = L3) := ⟨hL3⟩
      rw [hL3] at hW2 hl3
      have hdt := dot_any H base L3 E.pa E.ps w2 hW2 (by omega)
      have rD : w2.rangeAt w.heap.size 11 (dotC E.pa E.ps) := by
        have := hD2.range 11 2
        rw [HP.out.2.2.2.1] at this
        exact this
      clear c10 hp1 hgo hg2 hD1 hg01 hW1 hL3
      go_upto_region 9 with (first
        | (refine wpList_ldv rfl 28 _ rfl _ _ rfl (dotC E.pa E.ps) rD Tryz.underlying28 rfl sizeDot ?_)
        | (go_at_call 70; refine hdt.mono ?_; rintro e w3 ⟨⟨r3, rfl⟩, hW3, hg3⟩))
      have hD3 := hD2.went hg3 (by omega) (by decide)
      have hg03 := hg02.trans hg3
      have hl4 : (L3 ++ dotL E.pa E.ps).length ≤ 1000070 := by rw [List.length_append, dotL_length]; omega
      obtain ⟨L4, hL4⟩ : ∃ q, L3 ++ dotL E.pa E.ps = q := ⟨_, rfl⟩
      have HL4 : Veil (L3 ++ dotL E.pa E.ps = L4) := ⟨hL4⟩
      rw [hL4] at hW3 hl4
      have c13 : w3.cell? ⟨w.heap.size, 13, none⟩ = some (.bool E.right) := by rw [hD3.cell]; exact HP.out.2.2.2.2.1
      have htr := truth_any H base L4 E.right w3 hW3 (by omega)
      clear hdt rD hg3 hD2 hg02 hW2 hL4
      go_upto_region 10 with (go_at_call 114; refine htr.mono ?_; rintro e w4 ⟨⟨r4, rfl⟩, hW4, hg4⟩)
      have hD4 := hD3.went hg4 (by omega) (by decide)
      have hg04 := hg03.trans hg4
      have hl5 : (L4 ++ [truthB E.right]).length ≤ 1000080 := by rw [List.length_append]; simp; omega
      obtain ⟨L5, hL5⟩ : ∃ q, L4 ++ [truthB E.right] = q := ⟨_, rfl⟩
      have HL5 : Veil (L4 ++ [truthB E.right] = L5) := ⟨hL5⟩
      rw [hL5] at hW4 hl5
      have c14 : w4.cell? ⟨w.heap.size, 14, none⟩ = some (.int .u8 E.char) := by rw [hD4.cell]; exact HP.out.2.2.2.2.2.1
      have c15 : w4.cell? ⟨w.heap.size, 15, none⟩ = some (.int .u8 E.who) := by rw [hD4.cell]; exact HP.out.2.2.2.2.2.2.1
      have c16 : w4.cell? ⟨w.heap.size, 16, none⟩ = some (.int .u8 E.role) := by rw [hD4.cell]; exact HP.out.2.2.2.2.2.2.2
      have hs4 := hW4.size
      have hp4 := put_any H base L5 (some ⟨w4.heap.size, 0, none⟩) 3 3 [E.char, E.who, E.role] (w4.alloc (.cells (row .u8 [E.char, E.who, E.role]) 5)) (hW4.alloc _) (new_bytes w4 [E.char, E.who, E.role] (by simp)) (by omega)
      have hgo := Went.alloc (H := H) hs4 (.cells (row .u8 [E.char, E.who, E.role]) 5)
      clear htr c13 hD3 hg03 hW3 hg4 hL5
      go_upto_region 11 with (go_at_call 36; refine hp4.mono ?_; rintro e w5 ⟨⟨r5, rfl⟩, hW5, hg5⟩)
      have hg05 := hg04.trans (hgo.trans hg5)
      have hz := wzeros_any H base (L5 ++ [E.char, E.who, E.role]) 11 w5 hW5 (by omega) (by rw [List.length_append]; simp; omega)
      clear hp4 c14 c15 c16 hD4 hg04 hgo hg5 hW5
      go_wp2_with (go_at_call 89; refine hz.mono ?_; rintro e w6 ⟨⟨r6, rfl⟩, hW6, hg6⟩)
      go_end0
      refine ⟨⟨_, rfl⟩, ?_, hg05.trans hg6⟩
      rw [← HL5.out, ← HL4.out, ← HL3.out, ← HL2.out, ← HL1.out] at hW6
      unfold eventL
      simp only [List.append_assoc] at hW6 ⊢
      exact hW6
set_option maxHeartbeats 1000000 in
theorem Event_any (E : Ev) (w : World) (hp : E.past.length = 8) :
    Calls Tryz.prog 58 #[.agg E.cells.toArray] w fun e w' => ∃ v, e = .returned v ∧ OwnB w' w.heap.size v (eventL E) ∧ Below w.heap.size w w' := by
  have hsz : E.cells.length = 17 := by unfold Ev.cells; simp [dotC, hp]
  have hD0 := (CellsAt.new w 76 E.cells).alloc (.cells #[.slice none 0 0] 94)
  have hbx : Box ((w.alloc (.cells E.cells.toArray 76)).alloc (.cells #[.slice none 0 0] 94)) (w.heap.size + 1) 94 (.slice none 0 0) := by
    have : Box ((w.alloc (.cells E.cells.toArray 76)).alloc (.cells #[.slice none 0 0] 94)) (w.alloc (.cells E.cells.toArray 76)).heap.size 94 (.slice none 0 0) := heap_alloc_new _ _
    rw [World.size_alloc] at this
    exact this
  have hW0 : Wr ((w.alloc (.cells E.cells.toArray 76)).alloc (.cells #[.slice none 0 0] 94)) (w.heap.size + 1) w.heap.size [] := ⟨by omega, _, hbx, OwnB.nil _ _⟩
  have hB0 : Below w.heap.size w ((w.alloc (.cells E.cells.toArray 76)).alloc (.cells #[.slice none 0 0] 94)) := ((Below.refl _ _).alloc (Nat.le_refl _) _).alloc (by simp) _
  have hiE : (Tryz.prog.info? 76).map (·.size) = some E.cells.length := by rw [hsz]; kernel_rfl
  have hev := fun wx (h : Wr wx (w.heap.size + 1) w.heap.size []) => event_any (w.heap.size + 1) w.heap.size [] E wx h hp (by simp)
  clear hbx hsz hp
  go_enter Tryz.func58, Tryz.ntmps58
  go_upto_region 2 with fail
  refine forget (p := fun y => Code.wp _ _ _ _ y) (fun W0 => Below w.heap.size w W0 ∧ Wr W0 (w.heap.size + 1) w.heap.size [] ∧ CellsAt W0 w.heap.size 76 E.cells) ⟨hB0, hW0, hD0⟩ ?_
  clear hB0 hW0 hD0
  rintro W0 ⟨hB0, hW0, hD0⟩
  have rE : W0.rangeAt w.heap.size 0 E.cells := fun j v hv => by rw [Nat.zero_add, hD0.cell]; exact hv
  have hev0 := hev W0 hW0
  clear hev hW0 hD0
  go_upto_region 3 with (first
    | (refine wpList_ldv rfl 76 _ rfl _ _ rfl E.cells rE Tryz.underlying76 rfl hiE ?_)
    | (go_at_call 90; refine hev0.mono ?_; rintro e w1 ⟨⟨r, rfl⟩, hW1, hg1⟩))
  obtain ⟨v, hb1, ho1⟩ := hW1.has
  have c0 := hb1.cell
  rw [List.nil_append] at ho1
  have hB1 : Below w.heap.size w w1 := hB0.trans hg1.below
  obtain ⟨x1, n1, c1, rfl, hn1⟩ := ho1.isSlice
  clear hn1 hev0 rE hW1 hb1 hg1
  go_wp2
  go_ret
  exact ⟨_, rfl, ho1, hB1⟩
end Go.Proofs.YtlhajphjppjlgaaGreatDoor
