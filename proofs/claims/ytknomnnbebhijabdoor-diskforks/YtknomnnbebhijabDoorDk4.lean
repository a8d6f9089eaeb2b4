/- disk: a disk in memory; 'Bytes', 'Synced', 'Records'. -/
import Derived.Test.YtknomnnbebhijabDoorDk3
import Derived.Great.BuildSlice
import Derived.RangeFuncBox
namespace Go.Proofs.YtknomnnbebhijabDoor
open Go.RowKit Go.Shelf
attribute [local go_sem] Oper.semAt_some
set_option maxRecDepth 20000
set_option linter.unusedSimpArgs false

/-- The disk at D: its bytes z, in v, and how many of them last. -/
structure DiskAt (w : World) (base D : Nat) (v : Value) (z : List Int) (s : Nat) : Prop where
  box : CellsD w D 47 [v, .int .i64 s]
  buf : BufAt w base v z
  isb : isB z
  len : z.length ≤ 65536
  syn : s ≤ z.length
  baseD : base ≤ D
/-- The blocks of a disk. -/
def diskP (D : Nat) (v : Value) (k : Nat) : Prop := k = D ∨ v.ownBlock = some k
theorem DiskAt.congr {w w' : World} {base D : Nat} {v : Value} {z : List Int} {s : Nat} (h : DiskAt w base D v z s) (hk : ∀ g, diskP D v g → w'.heap[g]? = w.heap[g]?) : DiskAt w' base D v z s :=
  ⟨h.box.congr (hk D (.inl rfl)), h.buf.congr fun g hg => hk g (.inr hg), h.isb, h.len, h.syn, h.baseD⟩
theorem DiskAt.inside {w : World} {base D : Nat} {v : Value} {z : List Int} {s : Nat} (h : DiskAt w base D v z s) (g : Nat) (hg : diskP D v g) : g < w.heap.size ∧ base ≤ g := by
  rcases hg with rfl | hg
  · exact ⟨h.box.lt, h.baseD⟩
  · exact ⟨(h.buf.own g hg).2.1, (h.buf.own g hg).1⟩
theorem DiskAt.far {w w' : World} {base D : Nat} {v : Value} {z : List Int} {s : Nat} (h : DiskAt w base D v z s) (hb : Below w.heap.size w w') : DiskAt w' base D v z s := h.congr fun g hg => hb.block g (h.inside g hg).1
theorem DiskAt.ne {w : World} {base D : Nat} {v : Value} {z : List Int} {s : Nat} (h : DiskAt w base D v z s) : v.ownBlock ≠ some D := fun e => by
  obtain ⟨_, _, cur, hc⟩ := h.buf.own D e
  exact absurd (h.box.typ hc) (by decide)
theorem DiskAt.less {w : World} {base base' D : Nat} {v : Value} {z : List Int} {s : Nat} (h : DiskAt w base D v z s) (hb : base' ≤ base) : DiskAt w base' D v z s :=
  ⟨h.box, h.buf.less hb, h.isb, h.len, h.syn, Nat.le_trans hb h.baseD⟩
/-- Rows of bytes, each in a block of its own. -/
def RowsAt (w : World) (base : Nat) (v : Value) (rs : List (List Int)) : Prop :=
  ∃ vals, w.ownsRow base 31 1 v rs.length vals ∧ ∀ j (hj : j < rs.length), ∃ u, vals[j]? = some u ∧ OwnB w base u rs[j]
theorem RowsAt.nil (w : World) (base : Nat) : RowsAt w base (.slice none 0 0) [] := ⟨[], World.ownsRow_nil w base 31 1, fun j hj => by simp at hj⟩
theorem OwnB.keepC {w w' : World} {base : Nat} {v : Value} {z : List Int} (h : OwnB w base v z) (hk : ∀ g cur, base ≤ g → w.heap[g]? = some (.cells cur 5 (0, 0)) → w'.heap[g]? = w.heap[g]?) : OwnB w' base v z := by
  refine ⟨h.1, ?_⟩
  rcases h.2 with h' | ⟨g, cap, cur, h1, h2, h3, h4⟩
  · exact .inl h'
  · exact .inr ⟨g, cap, cur, h1, h2, (hk g cur h2 h3).trans h3, h4⟩
theorem RowsAt.keep {w w' : World} {base : Nat} {v : Value} {rs : List (List Int)} (h : RowsAt w base v rs) (hk : ∀ g cur t, base ≤ g → (t = 5 ∨ t = 31) → w.heap[g]? = some (.cells cur t (0, 0)) → w'.heap[g]? = w.heap[g]?) : RowsAt w' base v rs := by
  obtain ⟨vals, h1, h2⟩ := h
  refine ⟨vals, ⟨h1.1, ?_⟩, fun j hj => ?_⟩
  · rcases h1.2 with h' | ⟨g, cap, cur, e1, e2, e3, e4⟩
    · exact .inl h'
    · exact .inr ⟨g, cap, cur, e1, e2, (hk g cur _ e2 (.inr rfl) e3).trans e3, e4⟩
  · obtain ⟨u, hu, ho⟩ := h2 j hj
    exact ⟨u, hu, ho.keepC fun g cur hg hc => hk g cur _ hg (.inl rfl) hc⟩
theorem RowsAt.isSlice {w : World} {base : Nat} {v : Value} {rs : List (List Int)} (h : RowsAt w base v rs) : ∃ x c, v = .slice x rs.length c := by
  obtain ⟨vals, h1, h2⟩ := h
  rcases h1.2 with ⟨h', h0⟩ | ⟨g, cap, cur, e1, _⟩
  · exact ⟨none, 0, by rw [h', h0]⟩
  · exact ⟨_, _, e1⟩
theorem RowsAt.far {w w' : World} {base : Nat} {v : Value} {rs : List (List Int)} (h : RowsAt w base v rs) (hb : Below w.heap.size w w') : RowsAt w' base v rs :=
  h.keep fun g _ _ _ _ hc => hb.block g (Array.getElem?_eq_some_iff.1 hc).1
set_option maxHeartbeats 2000000 in
theorem sclone_any (x : Option Addr) (n c : Nat) (z : List Int) (w : World) (hb : Bytes w x n c z) (hn : n ≤ 1000000) :
    Calls Tryd.prog 20 #[.slice x n c] w fun e w' => ∃ v, e = .returned v ∧ OwnB w' w.heap.size v z ∧ Below w.heap.size w w' := by
  cases x with
  | none =>
    have hc := hb.nil rfl
    have hle := hb.le
    have hz := hb.len_eq
    obtain rfl : c = 0 := hc
    obtain rfl : n = 0 := by omega
    have hz' : z = [] := List.length_eq_zero_iff.1 hz.symm
    subst hz'
    have hnil : ∀ wx : World, (binOp BinOp.eql 31 (.slice none 0 0) (.slice none 0 0)).run Tryd.prog wx = .ok (.bool true) wx := fun _ => by kernel_rfl
    clear hb hz hle hn
    go_enter Tryd.func20, Tryd.ntmps20
    go_wp2
    go_ret
    exact ⟨_, rfl, OwnB.nil _ _, Below.refl _ _⟩
  | some a =>
    have hE0 : OwnB (w.alloc (.cells #[] 5)) w.heap.size (.slice (some ⟨w.heap.size, 0, none⟩) 0 0) [] := OwnB.ofHolds (Holds.new w .u8 5 []) (Nat.le_refl _) (by simp)
    have hy : Bytes (w.alloc (.cells #[] 5)) (some a) n c z := hb.below ((Below.refl _ _).alloc (Nat.le_refl _) _)
    have hnil : ∀ wx : World, (binOp BinOp.eql 31 (.slice (some a) n c) (.slice none 0 0)).run Tryd.prog wx = .ok (.bool false) wx := fun _ => by kernel_rfl
    clear hb
    go_enter Tryd.func20, Tryd.ntmps20
    go_wp2_with (at_builtin; refine wpList_app rfl _ _ rfl w.heap.size _ [] rfl hE0 (some a) n c z rfl hy (by simp; omega) (by simp) ?_; intro v1 w1 ho1 hg1)
    go_ret
    rw [List.nil_append] at ho1
    exact ⟨_, rfl, ho1, below_grown ((Below.refl _ _).alloc (Nat.le_refl _) _) hE0 hg1 (by simp)⟩
section
variable (base D : Nat) (v : Value) (z : List Int) (s : Nat) (w : World)
theorem dBytes_any (hD : DiskAt w base D v z s) :
    Calls Tryd.prog 10 #[.pointer (some ⟨D, 0, none⟩)] w fun e w' => ∃ v', e = .returned v' ∧ OwnB w' w.heap.size v' z ∧ Below w.heap.size w w' := by
  obtain ⟨x, c, rfl, hb, _⟩ := hD.buf.bytes
  have c0 : w.cell? ⟨D, 0, none⟩ = some (.slice x z.length c) := hD.box.cell 0
  have hc := sclone_any x z.length c z w hb (by have := hD.len; omega)
  clear hb hD
  go_enter Tryd.func10, Tryd.ntmps10
  go_wp2_with (go_at_call 20; refine hc.mono ?_; rintro e w1 ⟨v1, rfl, ho1, hb1⟩)
  go_ret
  exact ⟨_, rfl, ho1, hb1⟩
theorem dSynced_any (hD : DiskAt w base D v z s) :
    Calls Tryd.prog 17 #[.pointer (some ⟨D, 0, none⟩)] w fun e w' => e = .returned (.int .i64 s) ∧ w' = w := by
  have c1 : w.cell? ⟨D, 1, none⟩ = some (.int .i64 s) := hD.box.cell 1
  clear hD
  go_enter Tryd.func17, Tryd.ntmps17
  go_wp2
  go_ret
  exact ⟨rfl, rfl⟩
end
end Go.Proofs.YtknomnnbebhijabDoor
