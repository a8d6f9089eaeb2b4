/- disk: the reference's 'Fork'; a fork of both; bytes that the caller sets to zero. -/
import Derived.Test.YtknomnnbebhijabDoorDx7
namespace Go.Proofs.YtknomnnbebhijabDoor
open Go.RowKit Go.Shelf
set_option maxRecDepth 20000
set_option linter.unusedSimpArgs false

theorem RefAt.less {w : World} {base base' R : Nat} {v : Value} {z : List Int} {s : Nat} (h : RefAt w base R v z s) (hb : base' ≤ base) : RefAt w base' R v z s :=
  ⟨h.box, h.buf.less hb, h.isb, h.len, h.syn, Nat.le_trans hb h.baseR⟩
set_option maxHeartbeats 4000000 in
theorem rFork_any (base R : Nat) (v : Value) (z : List Int) (s : Nat) (w : World) (hD : RefAt w base R v z s) :
    Calls Tryd.prog 8 #[.pointer (some ⟨R, 0, none⟩)] w fun e w' => ∃ F v', e = .returned (.pointer (some ⟨F, 0, none⟩)) ∧ RefAt w' w.heap.size F v' z s ∧ Below w.heap.size w w' := by
  obtain ⟨x, c, rfl, hb, hx⟩ := hD.buf.bytes
  have hlt := hD.box.lt
  have HD : Veil (isB z ∧ z.length ≤ 65536 ∧ s ≤ z.length) := ⟨hD.isb, hD.len, hD.syn⟩
  have hzl6 := hD.len
  obtain ⟨W0, hW0⟩ : ∃ q, w.drew = q := ⟨_, rfl⟩
  have hB0 : Below w.heap.size w W0 := by rw [← hW0]; exact (Below.refl _ _).drew
  have hs0 : W0.heap.size = w.heap.size := by rw [← hW0]; rfl
  have hB1 : Below w.heap.size w (W0.alloc (.cells #[] 5)) := hB0.alloc hB0.size _
  have c0 : W0.cell? ⟨R, 0, none⟩ = some (.slice x z.length c) := (hB0.cell (p := ⟨R, 0, none⟩) hlt).trans (hD.box.cell 0)
  have c1 : W0.cell? ⟨R, 1, none⟩ = some (.int .i64 s) := (hB0.cell (p := ⟨R, 1, none⟩) hlt).trans (hD.box.cell 1)
  have d0 : (W0.alloc (.cells #[] 5)).cell? ⟨R, 0, none⟩ = some (.slice x z.length c) := (hB1.cell (p := ⟨R, 0, none⟩) hlt).trans (hD.box.cell 0)
  have d1 : (W0.alloc (.cells #[] 5)).cell? ⟨R, 1, none⟩ = some (.int .i64 s) := (hB1.cell (p := ⟨R, 1, none⟩) hlt).trans (hD.box.cell 1)
  have hE0 : OwnB (W0.alloc (.cells #[] 5)) w.heap.size (.slice (some ⟨W0.heap.size, 0, none⟩) 0 0) [] := OwnB.ofHolds (Holds.new W0 .u8 5 []) (Nat.le_of_eq hs0.symm) (by simp)
  have hy := hb.below hB1
  obtain ⟨zl, hzl⟩ : ∃ q, z.length = q := ⟨_, rfl⟩
  rw [hzl] at c0 d0 hy hzl6
  clear hb hx hD hzl hs0
  go_enter Tryd.func8, Tryd.ntmps8
  go_upto_region 3 with fail
  refine wp_region_gate (fun w' => w'.cell? ⟨R, 0, none⟩ = some (.slice x zl c) ∧ w'.cell? ⟨R, 1, none⟩ = some (.int .i64 s)) 12 (by kernel_rfl) ?_
  rw [hW0]
  clear hW0
  have hS : (fun w' : World => w'.cell? ⟨R, 0, none⟩ = some (.slice x zl c) ∧ w'.cell? ⟨R, 1, none⟩ = some (.int .i64 s)) W0 := ⟨c0, c1⟩
  refine wpAnyG_any (i := 1) (v := ?_) rfl (by kernel_rfl) (by kernel_rfl) (by kernel_rfl) (fun _ _ _ h => h) (by kernel_rfl) (fun _ => hS) (by kernel_rfl) ?_ ?_
  rotate_left
  · intro _; go_simp; try with_reducible rfl
  simp only [Act.put, List.getElem_toArray, List.getElem_cons_succ, List.getElem_cons_zero, List.setIfInBounds_toArray, List.set_cons_zero, List.set_cons_succ]
  refine wpAnyG_any (i := 2) (v := ?_) rfl (by kernel_rfl) (by kernel_rfl) (by kernel_rfl) (fun _ _ _ h => h) (by kernel_rfl) (fun _ => hS) (by kernel_rfl) ?_ ?_
  rotate_left
  · intro _; go_simp; try with_reducible rfl
  simp only [Act.put, List.getElem_toArray, List.getElem_cons_succ, List.getElem_cons_zero, List.setIfInBounds_toArray, List.set_cons_zero, List.set_cons_succ]
  refine wpAnyG_any (i := 3) (v := ?_) rfl (by kernel_rfl) (by kernel_rfl) (by kernel_rfl) (fun _ _ _ h => h) (by kernel_rfl) (fun _ => hS) (by kernel_rfl) ?_ ?_
  rotate_left
  · intro _; go_simp; try with_reducible rfl
  simp only [Act.put, List.getElem_toArray, List.getElem_cons_succ, List.getElem_cons_zero, List.setIfInBounds_toArray, List.set_cons_zero, List.set_cons_succ]
  refine wpAnyG_any (i := 6) (v := ?_) rfl (by kernel_rfl) (by kernel_rfl) (by kernel_rfl) (fun _ _ _ h => h) (by kernel_rfl) (fun _ => hS) (by kernel_rfl) ?_ ?_
  rotate_left
  · intro _; go_simp; try with_reducible rfl
  simp only [Act.put, List.getElem_toArray, List.getElem_cons_succ, List.getElem_cons_zero, List.setIfInBounds_toArray, List.set_cons_zero, List.set_cons_succ]
  refine wpAnyG_any (i := 7) (v := ?_) rfl (by kernel_rfl) (by kernel_rfl) (by kernel_rfl) (fun _ _ _ h => h) (by kernel_rfl) (fun _ => hS) (by kernel_rfl) ?_ ?_
  rotate_left
  · intro _; go_simp; try with_reducible rfl
  simp only [Act.put, List.getElem_toArray, List.getElem_cons_succ, List.getElem_cons_zero, List.setIfInBounds_toArray, List.set_cons_zero, List.set_cons_succ]
  refine wpAnyG_any (i := 8) (v := ?_) rfl (by kernel_rfl) (by kernel_rfl) (by kernel_rfl) (fun _ _ _ h => h) (by kernel_rfl) (fun _ => hS) (by kernel_rfl) ?_ ?_
  rotate_left
  · intro _; go_simp; try with_reducible rfl
  simp only [Act.put, List.getElem_toArray, List.getElem_cons_succ, List.getElem_cons_zero, List.setIfInBounds_toArray, List.set_cons_zero, List.set_cons_succ]
  refine wpAnyG_read (i := 4) (v := ?_) rfl (by kernel_rfl) (by kernel_rfl) (by kernel_rfl) (fun _ _ _ h => h) (by kernel_rfl) (by kernel_rfl) (by kernel_rfl) hS (by kernel_rfl) ?_ ?_
  rotate_left
  · intro wx hSw; go_split_ands; go_simp; try with_reducible rfl
  simp only [Act.put, List.getElem_toArray, List.getElem_cons_succ, List.getElem_cons_zero, List.setIfInBounds_toArray, List.set_cons_zero, List.set_cons_succ]
  refine wpAnyG_read (i := 9) (v := ?_) rfl (by kernel_rfl) (by kernel_rfl) (by kernel_rfl) (fun _ _ _ h => h) (by kernel_rfl) (by kernel_rfl) (by kernel_rfl) hS (by kernel_rfl) ?_ ?_
  rotate_left
  · intro wx hSw; go_split_ands; go_simp; try with_reducible rfl
  simp only [Act.put, List.getElem_toArray, List.getElem_cons_succ, List.getElem_cons_zero, List.setIfInBounds_toArray, List.set_cons_zero, List.set_cons_succ]
  refine wpAnyG_one (i := 0) rfl (by kernel_rfl) (by kernel_rfl) (fun K hK => ?_)
  go_simp
  replace hS : (fun w' : World => w'.cell? ⟨R, 0, none⟩ = some (.slice x zl c) ∧ w'.cell? ⟨R, 1, none⟩ = some (.int .i64 s)) (W0.alloc (.cells #[] 5)) := ⟨d0, d1⟩
  refine hK.out _ _ (fun _ => hS) ?_
  clear hK K
  try simp only [Act.put, List.getElem_toArray, List.getElem_cons_succ, List.getElem_cons_zero, List.setIfInBounds_toArray, List.set_cons_zero, List.set_cons_succ]
  refine wpAnyG_one (i := 5) rfl (by kernel_rfl) (by kernel_rfl) (fun K hK => ?_)
  refine wp_appA _ _ rfl w.heap.size _ [] rfl hE0 x zl c z rfl hy (by simp; omega) hB1.size ?_
  intro v2 W2 ho2 hg2
  rw [List.nil_append] at ho2
  have hb2 : Below w.heap.size w W2 := below_grown hB1 hE0 hg2 hB1.size
  replace hS : (fun w' : World => w'.cell? ⟨R, 0, none⟩ = some (.slice x zl c) ∧ w'.cell? ⟨R, 1, none⟩ = some (.int .i64 s)) W2 := ⟨(hb2.cell (p := ⟨R, 0, none⟩) hlt).trans ((hB0.cell (p := ⟨R, 0, none⟩) hlt).symm.trans c0), (hb2.cell (p := ⟨R, 1, none⟩) hlt).trans ((hB0.cell (p := ⟨R, 1, none⟩) hlt).symm.trans c1)⟩
  have HO := Veil.mk ho2
  obtain ⟨x2, n2, c2, rfl, hn2⟩ := ho2.isSlice
  clear ho2 hn2 hg2
  refine hK.out _ _ (fun _ => hS) ?_
  clear hK K
  try simp only [Act.put, List.getElem_toArray, List.getElem_cons_succ, List.getElem_cons_zero, List.setIfInBounds_toArray, List.set_cons_zero, List.set_cons_succ]
  refine wpAnyG_any (i := 10) (v := ?_) rfl (by kernel_rfl) (by kernel_rfl) (by kernel_rfl) (fun _ _ _ h => h) (by kernel_rfl) (fun _ => hS) (by kernel_rfl) ?_ ?_
  rotate_left
  · intro _; go_simp; try with_reducible rfl
  simp only [Act.put, List.getElem_toArray, List.getElem_cons_succ, List.getElem_cons_zero, List.setIfInBounds_toArray, List.set_cons_zero, List.set_cons_succ]
  refine wpAnyG_one (i := 11) rfl (by kernel_rfl) (by kernel_rfl) (fun K hK => ?_)
  go_simp
  have hb3 : Below W2.heap.size W2 (W2.alloc (.cells #[.slice x2 n2 c2, .int .i64 s] 49)) := (Below.refl _ _).alloc (Nat.le_refl _) _
  have hW2 : w.heap.size ≤ W2.heap.size := hb2.size
  replace hS : (fun w' : World => w'.cell? ⟨R, 0, none⟩ = some (.slice x zl c) ∧ w'.cell? ⟨R, 1, none⟩ = some (.int .i64 s)) (W2.alloc (.cells #[.slice x2 n2 c2, .int .i64 s] 49)) := ⟨(hb3.cell (p := ⟨R, 0, none⟩) (by show R < _; omega)).trans hS.1, (hb3.cell (p := ⟨R, 1, none⟩) (by show R < _; omega)).trans hS.2⟩
  refine hK.out _ _ (fun _ => hS) ?_
  clear hK K
  try simp only [Act.put, List.getElem_toArray, List.getElem_cons_succ, List.getElem_cons_zero, List.setIfInBounds_toArray, List.set_cons_zero, List.set_cons_succ]
  refine wpAnyG_one (i := 12) rfl (by kernel_rfl) (by kernel_rfl) (fun K hK => ?_)
  go_simp
  refine hK.out _ _ (fun h => absurd (show true = false from h) (by decide)) ?_
  clear hK K
  try simp only [Act.put, List.getElem_toArray, List.getElem_cons_succ, List.getElem_cons_zero, List.setIfInBounds_toArray, List.set_cons_zero, List.set_cons_succ]
  refine wpAnyG_done (by kernel_rfl) ?_ _
  clear hE0 hy
  go_wp2
  go_ret
  exact ⟨_, rfl, ⟨.slice x2 n2 c2, ⟨CellsD.new W2 49 [.slice x2 n2 c2, .int .i64 s], (LookAt.ofOwn HO.out).congr fun g hg => hb3.block g ((LookAt.ofOwn HO.out).own g hg).2.1, HD.out.1, HD.out.2.1, HD.out.2.2, hW2⟩⟩, hb2.trans (hb3.mono hW2)⟩
/-- Both, forked: they lie behind all that was. -/
theorem Both.forked {w w1 w2 : World} {F G : Nat} {v u : Value} {z : List Int} {s : Nat} (hF : DiskAt w1 w.heap.size F v z s) (hb1 : Below w.heap.size w w1) (hG : RefAt w2 w1.heap.size G u z s) (hb2 : Below w1.heap.size w1 w2) : Both w2 w.heap.size F v G u z s :=
  ⟨hF.far hb2, hG.less hb1.size, fun g hg hu => by
    have h1 := (hF.inside g (.inr hg)).1
    have h2 := (hG.inside g (.inr hu)).2
    omega⟩
/-- Bytes in a block that may be written. -/
def RoomB (w : World) (x : Option Addr) (n base : Nat) : Prop := n = 0 ∨ ∃ g cs, x = some ⟨g, 0, none⟩ ∧ base ≤ g ∧ CellsD w g 5 cs ∧ ∀ j, j < n → ∃ v, cs[j]? = some (.int .u8 v)
theorem OwnB.room {w : World} {base : Nat} {x : Option Addr} {n c : Nat} {z : List Int} (h : OwnB w base (.slice x n c) z) : RoomB w x n base := by
  rcases LookAt.ofOwn h with ⟨h1, _⟩ | ⟨g, c', cur, h1, h2, h3, h4, h5, h6, h8⟩
  · cases h1; exact .inl rfl
  · cases h1
    refine .inr ⟨g, cur.toList, rfl, h2, by simpa [CellsD] using h3, fun j hj => ?_⟩
    have e : (cur.toList.take z.length)[j]? = (z.map (Value.int .u8))[j]? := by rw [h8]
    rw [List.getElem?_take_of_lt hj, List.getElem?_map, List.getElem?_eq_getElem hj] at e
    exact ⟨_, e⟩
theorem RoomB.set {w : World} {g n base : Nat} (h : RoomB w (some ⟨g, 0, none⟩) n base) (k : Nat) (v : Int) : RoomB (w.setCell ⟨g, k, none⟩ (.int .u8 v)) (some ⟨g, 0, none⟩) n base := by
  rcases h with h | ⟨g', cs, hx, hb, hc, ha⟩
  · exact .inl h
  · cases hx
    refine .inr ⟨g, _, rfl, hb, hc.set k _, fun j hj => ?_⟩
    obtain ⟨v', hv⟩ := ha j hj
    have hjl := (List.getElem?_eq_some_iff.1 hv).1
    by_cases e : k = j
    · exact ⟨v, by rw [e, List.getElem?_set_self hjl]⟩
    · exact ⟨v', by rw [List.getElem?_set_ne e]; exact hv⟩
end Go.Proofs.YtknomnnbebhijabDoor
