/- disk: the reference's disk in memory; its 'Record', 'New', 'Bytes', 'Synced', 'Sync'. -/
import Derived.Test.YtknomnnbebhijabDoorDk9
import Derived.Test.YtknomnnbebhijabDoorRefSum
namespace Go.Proofs.YtknomnnbebhijabDoor
open Go.RowKit Go.Shelf
set_option maxRecDepth 20000
set_option linter.unusedSimpArgs false

/-- The slice v shows the bytes z: nil, or the first ones of a block of its own. -/
def LookAt (w : World) (base : Nat) (v : Value) (z : List Int) : Prop :=
  (v = .slice none 0 0 ∧ z = []) ∨
  ∃ g c cur, v = .slice (some ⟨g, 0, none⟩) z.length c ∧ base ≤ g ∧ w.heap[g]? = some (.cells cur 5 (0, 0)) ∧ z.length ≤ c ∧ c ≤ maxLen ∧ c ≤ cur.size ∧ cur.toList.take z.length = z.map (Value.int .u8)
theorem LookAt.ofBuf {w : World} {base : Nat} {v : Value} {z : List Int} (h : BufAt w base v z) : LookAt w base v z := by
  rcases h with h | ⟨g, c, cur, h1, h2, h3, h4, h5, h6, _, h8⟩
  · exact .inl h
  · exact .inr ⟨g, c, cur, h1, h2, h3, h4, h5, h6, h8⟩
theorem LookAt.ofOwn {w : World} {base : Nat} {v : Value} {z : List Int} (h : OwnB w base v z) : LookAt w base v z := .ofBuf (.ofOwn h)
theorem LookAt.bytes {w : World} {base : Nat} {v : Value} {z : List Int} (h : LookAt w base v z) : ∃ x c, v = .slice x z.length c ∧ Bytes w x z.length c z ∧ TopA x := by
  rcases h with ⟨rfl, rfl⟩ | ⟨g, c, cur, rfl, h2, h3, h4, h5, h6, h8⟩
  · exact ⟨_, _, rfl, bytes_nil w, .inl rfl⟩
  · refine ⟨_, _, rfl, ⟨rfl, h4, by simpa [maxLen] using h5, (fun h => by cases h), .inr ⟨g, 0, rfl, fun j hj => ?_⟩⟩, .inr ⟨g, rfl⟩⟩
    rw [Nat.zero_add, cell_of_row w g j _ _ _ h3, ← Array.getElem?_toList]
    have e : (cur.toList.take z.length)[j]? = (z.map (Value.int .u8))[j]? := by rw [h8]
    rw [List.getElem?_take_of_lt hj, List.getElem?_map, List.getElem?_eq_getElem hj] at e
    rw [e, List.getElem?_eq_getElem hj]; rfl
theorem LookAt.congr {w w' : World} {base : Nat} {v : Value} {z : List Int} (h : LookAt w base v z) (hk : ∀ g, v.ownBlock = some g → w'.heap[g]? = w.heap[g]?) : LookAt w' base v z := by
  rcases h with h | ⟨g, c, cur, h1, h2, h3, h4⟩
  · exact .inl h
  · exact .inr ⟨g, c, cur, h1, h2, (hk g (by rw [h1]; rfl)).trans h3, h4⟩
theorem LookAt.own {w : World} {base : Nat} {v : Value} {z : List Int} (h : LookAt w base v z) (g : Nat) (hg : v.ownBlock = some g) : base ≤ g ∧ g < w.heap.size ∧ ∃ cur, w.heap[g]? = some (.cells cur 5 (0, 0)) := by
  rcases h with ⟨rfl, _⟩ | ⟨g', c, cur, rfl, h2, h3, h4⟩
  · cases hg
  · simp [Value.ownBlock] at hg
    subst hg
    exact ⟨h2, (Array.getElem?_eq_some_iff.1 h3).1, cur, h3⟩
theorem LookAt.less {w : World} {base base' : Nat} {v : Value} {z : List Int} (h : LookAt w base v z) (hb : base' ≤ base) : LookAt w base' v z := by
  rcases h with h | ⟨g, c, cur, h1, h2, h3⟩
  · exact .inl h
  · exact .inr ⟨g, c, cur, h1, by omega, h3⟩
theorem LookAt.cut {w : World} {base : Nat} {x : Option Addr} {n c : Nat} {z : List Int} (h : LookAt w base (.slice x n c) z) (m : Nat) (hm : m ≤ z.length) : LookAt w base (.slice x m c) (z.take m) := by
  have hl : (z.take m).length = m := by rw [List.length_take]; omega
  rcases h with ⟨h1, rfl⟩ | ⟨g, c', cur, h1, h2, h3, h4, h5, h6, h8⟩
  · cases h1
    obtain rfl : m = 0 := by simpa using hm
    exact .inl ⟨rfl, rfl⟩
  · cases h1
    refine .inr ⟨g, c, cur, by rw [hl], h2, h3, by omega, by omega, by omega, ?_⟩
    rw [hl]
    have := congrArg (List.take m) h8
    rw [List.take_take, Nat.min_eq_left hm, ← List.map_take] at this
    exact this
/-- The reference's disk at R. -/
structure RefAt (w : World) (base R : Nat) (v : Value) (z : List Int) (s : Nat) : Prop where
  box : CellsD w R 49 [v, .int .i64 s]
  buf : LookAt w base v z
  isb : isB z
  len : z.length ≤ 65536
  syn : s ≤ z.length
  baseR : base ≤ R
theorem RefAt.congr {w w' : World} {base R : Nat} {v : Value} {z : List Int} {s : Nat} (h : RefAt w base R v z s) (hk : ∀ g, diskP R v g → w'.heap[g]? = w.heap[g]?) : RefAt w' base R v z s :=
  ⟨h.box.congr (hk R (.inl rfl)), h.buf.congr fun g hg => hk g (.inr hg), h.isb, h.len, h.syn, h.baseR⟩
theorem RefAt.inside {w : World} {base R : Nat} {v : Value} {z : List Int} {s : Nat} (h : RefAt w base R v z s) (g : Nat) (hg : diskP R v g) : g < w.heap.size ∧ base ≤ g := by
  rcases hg with rfl | hg
  · exact ⟨h.box.lt, h.baseR⟩
  · exact ⟨(h.buf.own g hg).2.1, (h.buf.own g hg).1⟩
theorem RefAt.far {w w' : World} {base R : Nat} {v : Value} {z : List Int} {s : Nat} (h : RefAt w base R v z s) (hb : Below w.heap.size w w') : RefAt w' base R v z s := h.congr fun g hg => hb.block g (h.inside g hg).1
theorem RefAt.ne {w : World} {base R : Nat} {v : Value} {z : List Int} {s : Nat} (h : RefAt w base R v z s) : v.ownBlock ≠ some R := fun e => by
  obtain ⟨_, _, cur, hc⟩ := h.buf.own R e
  exact absurd (h.box.typ hc) (by decide)
/-- What has become of it. -/
structure RefTo (w w' : World) (base R : Nat) (v v' : Value) (z' : List Int) (s' : Nat) : Prop where
  disk : RefAt w' base R v' z' s'
  turn : TurnD (fun k => k = R) w w'
  block : v'.ownBlock = v.ownBlock ∨ ∃ g, v'.ownBlock = some g ∧ w.heap.size ≤ g
theorem Bytes.blockLt {w : World} {x : Option Addr} {len cap : Nat} {z : List Int} (h : Bytes w x len cap z) (a : Addr) (hl : len ≠ 0) (ha : x = some a) : a.block < w.heap.size := by
  rcases h.at_ with h0 | ⟨b', off', hx', hc'⟩
  · exact absurd h0 hl
  · rw [hx'] at ha
    cases ha
    exact block_lt_of_cell (hc' 0 (by omega))
theorem rSumD_any (x : Option Addr) (len cap : Nat) (z : List Int) (w : World) (hbz : Bytes w x len cap z) (hln : len ≤ 1000000) :
    Calls Tryd.prog 37 #[.slice x len cap] w fun e w' => e = .returned (.agg (row .u8 (S.sumL z))) ∧ Below w.heap.size w w' := S.refSum_any x len cap z w hbz.toS hln
set_option maxHeartbeats 4000000 in
theorem rRecord_any (x : Option Addr) (len cap : Nat) (z : List Int) (w : World) (hb : Bytes w x len cap z) (hln : len ≤ 70000) :
    Calls Tryd.prog 32 #[.slice x len cap] w fun e w' => ∃ v, e = .returned v ∧ OwnB w' w.heap.size v (recL z) ∧ Below w.heap.size w w' := by
  have hD0 := rSumD_any x len cap z w hb (by omega)
  have hxw := hb.blockLt
  have hDl := S.sumL_length z
  have HH : Veil (recL z = [((len : Int) / 256 % 256), ((len : Int) % 256)] ++ (S.sumL z).take 8 ++ z) := ⟨by
    have := hb.len_eq
    unfold recL headL
    rw [← this]
    simp⟩
  obtain ⟨D, hDD⟩ : ∃ D, S.sumL z = D := ⟨_, rfl⟩
  rw [hDD] at hD0 hDl HH
  clear hDD
  go_enter Tryd.func32, Tryd.ntmps32
  go_upto_region 2 with (first
    | (go_at_call 37; refine hD0.mono ?_; rintro e w1 ⟨rfl, hb1⟩; have hN := Holds.new w1 .u8 60 (List.replicate 32 0))
    | (refine wpList_st rfl 60 _ _ rfl _ rfl rfl hN (by rw [hDl]; exact sizeKeyD) (by simp [hDl]) ?_))
  refine forget (p := fun y => Code.wp _ _ _ _ y) (fun W => Below w.heap.size w W ∧ Holds W w1.heap.size .u8 60 D) ⟨below_setRow (hb1.alloc hb1.size _) hb1.size _, hN.setRow _⟩ ?_
  have hG0 := hb1.size
  obtain ⟨G, hG⟩ : ∃ q, w1.heap.size = q := ⟨_, rfl⟩
  rw [hG] at hG0 ⊢
  clear hG hN hb1 hD0
  clear w1
  rintro W ⟨hB, hd⟩
  go_upto_region 3 with fail
  have ho := OwnB.ofHolds (base := w.heap.size) (Holds.new W .u8 5 [(len : Int) / 256 % 256, (len : Int) % 256]) hB.size (by simp)
  have hB1 := hB.alloc hB.size (.cells (row .u8 [(len : Int) / 256 % 256, (len : Int) % 256]) 5)
  have hd1 := hd.alloc (.cells (row .u8 [(len : Int) / 256 % 256, (len : Int) % 256]) 5)
  have hT := ((hd1.bytes (n := 32) hDl.symm (by omega)).few 8)
  rw [Nat.min_eq_right (by omega : 8 ≤ 32)] at hT
  have hz1 := hb.below hB1
  have hTl : (D.take 8).length = 8 := by rw [List.length_take]; omega
  obtain ⟨T, hTT⟩ : ∃ q, D.take 8 = q := ⟨_, rfl⟩
  rw [hTT] at hT HH hTl
  have hWs := hB.size
  clear hTT hd hd1 hB hb
  go_upto_region 4 with (at_builtin; refine wpList_app rfl _ _ rfl w.heap.size (.slice (some ⟨W.heap.size, 0, none⟩) 2 2) [(len : Int) / 256 % 256, (len : Int) % 256] rfl ho (some ⟨G, 0, none⟩) 8 32 T rfl hT (by simp) hB1.size ?_; intro v2 w2 ho2 hg2)
  have hB2 : Below w.heap.size w w2 := below_grown hB1 ho hg2 hB1.size
  have hz2 : Bytes w2 x len cap z := hz1.grownD hg2 (fun a hl0 ha e => by
    have e' : W.heap.size = a.block := by simpa [Value.ownBlock] using e
    have := hxw a hl0 ha
    omega)
  clear hz1 ho hg2 hT
  go_wp2_with (at_builtin; refine wpList_app rfl _ _ rfl w.heap.size _ _ rfl ho2 x len cap z rfl hz2 (by simp [hTl]; omega) hB2.size ?_; intro v3 w3 ho3 hg3)
  go_ret
  exact ⟨_, rfl, by rw [HH.out]; exact ho3, below_grown hB2 ho2 hg3 hB2.size⟩
theorem rNew_any (w : World) :
    Calls Tryd.prog 19 #[] w fun e w' => e = .returned (.pointer (some ⟨w.heap.size, 0, none⟩)) ∧ RefAt w' w.heap.size w.heap.size (.slice none 0 0) [] 0 ∧ w'.heap.size = w.heap.size + 1 ∧ Below w.heap.size w w' := by
  go_enter Tryd.func19, Tryd.ntmps19
  go_wp2
  go_ret
  exact ⟨rfl, ⟨CellsD.new w 49 [.slice none 0 0, .int .i64 0], .inl ⟨rfl, rfl⟩, (fun v hv => by cases hv), by simp, Nat.le_refl _, Nat.le_refl _⟩, by simp, (Below.refl _ _).alloc (Nat.le_refl _) _⟩
section
variable (base R : Nat) (v : Value) (z : List Int) (s : Nat) (w : World)
theorem rSynced_any (hD : RefAt w base R v z s) :
    Calls Tryd.prog 26 #[.pointer (some ⟨R, 0, none⟩)] w fun e w' => e = .returned (.int .i64 s) ∧ w' = w := by
  have c1 : w.cell? ⟨R, 1, none⟩ = some (.int .i64 s) := hD.box.cell 1
  clear hD
  go_enter Tryd.func26, Tryd.ntmps26
  go_wp2
  go_ret
  exact ⟨rfl, rfl⟩
theorem rBytes_any (hD : RefAt w base R v z s) :
    Calls Tryd.prog 25 #[.pointer (some ⟨R, 0, none⟩)] w fun e w' => ∃ v', e = .returned v' ∧ OwnB w' w.heap.size v' z ∧ Below w.heap.size w w' := by
  obtain ⟨x, c, rfl, hb, _⟩ := hD.buf.bytes
  have hB1 : Below w.heap.size w (w.alloc (.cells #[] 5)) := (Below.refl _ _).alloc (Nat.le_refl _) _
  have c0 : (w.alloc (.cells #[] 5)).cell? ⟨R, 0, none⟩ = some (.slice x z.length c) := (hB1.cell (p := ⟨R, 0, none⟩) hD.box.lt).trans (hD.box.cell 0)
  have hE0 : OwnB (w.alloc (.cells #[] 5)) w.heap.size (.slice (some ⟨w.heap.size, 0, none⟩) 0 0) [] := OwnB.ofHolds (Holds.new w .u8 5 []) (Nat.le_refl _) (by simp)
  have hy := hb.below hB1
  have hln := hD.len
  obtain ⟨zl, hzl⟩ : ∃ q, z.length = q := ⟨_, rfl⟩
  rw [hzl] at c0 hy hln
  clear hb hD hzl
  go_enter Tryd.func25, Tryd.ntmps25
  go_wp2_with (at_builtin; refine wpList_app rfl _ _ rfl w.heap.size _ [] rfl hE0 x zl c z rfl hy (by simp; omega) (by simp) ?_; intro v1 w1 ho1 hg1)
  go_ret
  rw [List.nil_append] at ho1
  exact ⟨_, rfl, ho1, below_grown hB1 hE0 hg1 (by simp)⟩
theorem rSync_any (hD : RefAt w base R v z s) :
    Calls Tryd.prog 22 #[.pointer (some ⟨R, 0, none⟩)] w fun e w' => e = .returned (.int .i64 0) ∧ RefTo w w' base R v v z z.length := by
  obtain ⟨x, c, rfl, hb, hx⟩ := hD.buf.bytes
  have c0 : w.cell? ⟨R, 0, none⟩ = some (.slice x z.length c) := hD.box.cell 0
  have c1 : w.cell? ⟨R, 1, none⟩ = some (.int .i64 s) := hD.box.cell 1
  have f1 := hD.box.frozen 1
  have hDD := Veil.mk hD
  clear hb hx hD
  go_enter Tryd.func22, Tryd.ntmps22
  go_wp2
  go_ret
  have hD := hDD.out
  have hne := hD.ne
  exact ⟨rfl, ⟨hD.box.set 1 (.int .i64 z.length), hD.buf.congr fun g hg => Below.heap_setCell _ _ _ g (fun e => hne (by rw [← show g = R from e]; exact hg)), hD.isb, hD.len, Nat.le_refl _, hD.baseR⟩, TurnD.of_setCell (p := fun k => k = R) w (a := ⟨R, 1, none⟩) rfl _, .inl rfl⟩
end
end Go.Proofs.YtknomnnbebhijabDoor
