/- disk: 'Write', 'Fork'. -/
import Derived.Test.YtknomnnbebhijabDoorDk7
namespace Go.Proofs.YtknomnnbebhijabDoor
open Go.RowKit Go.Shelf
set_option maxRecDepth 20000
set_option linter.unusedSimpArgs false

theorem TurnD.trans' {p : Nat → Prop} {a b c : World} {r : Option Nat} (h : TurnD p a b) (hg : b.grownBy c r) (hp : ∀ k, r = some k → k < a.heap.size → p k) : TurnD p a c :=
  ⟨hg.os.trans h.os, hg.tape.trans h.tape, hg.output.trans h.output, Nat.le_trans h.size hg.size, fun k hk hn => (hg.block k (Nat.lt_of_lt_of_le hk h.size) (fun e => hn (hp k e.symm hk))).trans (h.block k hk hn)⟩
theorem sumL_in (z : List Int) : isB (S.sumL z) := by
  unfold S.sumL S.joinL
  have : ∀ (s : List Int) (k : Nat), isB (S.joinK s k) := fun s k => by
    induction k with
    | zero => intro v hv; cases hv
    | succ k ih =>
      intro v hv
      rcases List.mem_append.1 hv with h | h
      · exact ih v h
      · simp only [S.bytes4, List.mem_cons, List.not_mem_nil, or_false] at h
        rcases h with rfl | rfl | rfl | rfl <;> omega
  exact this _ 8
theorem headL_in (b : List Int) : isB (headL b) := by
  intro v hv
  rcases List.mem_append.1 hv with h | h
  · simp only [List.mem_cons, List.not_mem_nil, or_false] at h
    rcases h with rfl | rfl <;> omega
  · exact sumL_in b v (List.mem_of_mem_take h)
theorem recL_in (b : List Int) (hb : isB b) : isB (recL b) := fun v hv => by
  rcases List.mem_append.1 hv with h | h
  · exact headL_in b v h
  · exact hb v h
theorem isB_append {a b : List Int} (ha : isB a) (hb : isB b) : isB (a ++ b) := fun v hv => by
  rcases List.mem_append.1 hv with h | h
  · exact ha v h
  · exact hb v h
theorem Bytes.grownD {w w' : World} {x : Option Addr} {len cap : Nat} {z : List Int} {r : Option Nat} (h : Bytes w x len cap z) (hg : w.grownBy w' r) (hne : ∀ a, len ≠ 0 → x = some a → r ≠ some a.block) : Bytes w' x len cap z :=
  ⟨h.len_eq, h.le, h.top, h.nil, by
    rcases h.at_ with h0 | ⟨b, off, hx, hc⟩
    · exact .inl h0
    · by_cases hl : len = 0
      · exact .inl hl
      · exact .inr ⟨b, off, hx, fun j hj => (World.cell?_of_block (a := ⟨b, off + j, none⟩) (hg.block b (block_lt_of_cell (hc j hj)) (fun e => hne _ hl hx e.symm))).trans (hc j hj)⟩⟩
section
variable (base D : Nat) (v : Value) (z : List Int) (s : Nat) (w : World)
theorem dWrite_long (x : Option Addr) (len cap : Nat) (hl : 8192 < len) :
    Calls Tryd.prog 12 #[.pointer (some ⟨D, 0, none⟩), .slice x len cap] w fun e w' => e = .returned (.int .i64 2) ∧ w' = w := by
  have hl' : (8192 : Int) < (len : Int) := by omega
  go_enter Tryd.func12, Tryd.ntmps12
  go_wp2
  go_ret
  exact ⟨rfl, rfl⟩
theorem dWrite_full (hD : DiskAt w base D v z s) (x : Option Addr) (len cap : Nat) (hl : len ≤ 8192) (hf : 65536 < z.length + 10 + len) :
    Calls Tryd.prog 12 #[.pointer (some ⟨D, 0, none⟩), .slice x len cap] w fun e w' => e = .returned (.int .i64 10) ∧ w' = w := by
  obtain ⟨y, c, rfl, hb, hy⟩ := hD.buf.bytes
  have c0 : w.cell? ⟨D, 0, none⟩ = some (.slice y z.length c) := hD.box.cell 0
  have hln := hD.len
  have hl' : ¬ (8192 : Int) < (len : Int) := by omega
  obtain ⟨zl, hzl⟩ : ∃ q, z.length = q := ⟨_, rfl⟩
  rw [hzl] at c0 hf hln
  have hf' : (65536 : Int) < (zl : Int) + 10 + (len : Int) := by omega
  clear hb hy hD hzl
  go_enter Tryd.func12, Tryd.ntmps12
  go_wp2
  go_ret
  exact ⟨rfl, rfl⟩
set_option maxHeartbeats 4000000 in
theorem dWrite_any (hD : DiskAt w base D v z s) (x : Option Addr) (len cap : Nat) (b : List Int) (hbs : Bytes w x len cap b) (hbb : isB b) (hl : len ≤ 8192) (hf : z.length + 10 + len ≤ 65536) (hne : ∀ a, len ≠ 0 → x = some a → v.ownBlock ≠ some a.block) (hbase : base ≤ w.heap.size) (hKT : S.KTab w) :
    Calls Tryd.prog 12 #[.pointer (some ⟨D, 0, none⟩), .slice x len cap] w fun e w' => e = .returned (.int .i64 0) ∧ ∃ v', DiskTo w w' base D v v' (z ++ recL b) s := by
  obtain ⟨y, c, rfl, hb, hy⟩ := hD.buf.bytes
  have c0 : w.cell? ⟨D, 0, none⟩ = some (.slice y z.length c) := hD.box.cell 0
  have hln := hD.len
  have hl' : ¬ (8192 : Int) < (len : Int) := by omega
  have hHO := headOf_any x len cap b w hbs (by omega) hKT
  have hHl := headL_length b
  have hbl := hbs.len_eq
  have HBL := Veil.mk hbl
  have HREC : Veil (recL b = headL b ++ b) := ⟨rfl⟩
  obtain ⟨HL, hHL⟩ : ∃ q, headL b = q := ⟨_, rfl⟩
  rw [hHL] at hHO hHl HREC
  obtain ⟨zl, hzl⟩ : ∃ q, z.length = q := ⟨_, rfl⟩
  have HZL := Veil.mk hzl
  rw [hzl] at c0 hf hln hne ⊢
  have hf' : ¬ (65536 : Int) < (zl : Int) + 10 + (len : Int) := by omega
  have hDD := Veil.mk hD
  rw [hzl] at hDD
  clear hb hy hD hzl hbl hHL
  go_enter Tryd.func12, Tryd.ntmps12
  go_upto_region 8 with (first
    | (go_at_call 29; refine hHO.mono ?_; rintro e w1 ⟨rfl, hb1⟩; have hN := Holds.new w1 .u8 51 (List.replicate 10 0))
    | (refine wpList_st rfl 51 _ _ rfl _ rfl rfl hN (by rw [hHl]; exact size10) (by rw [hHl]; rfl) ?_))
  have hG : w.heap.size ≤ w1.heap.size := hb1.size
  refine forget (p := fun y => Code.wp _ _ _ _ y) (fun X => Below w.heap.size w X ∧ Holds X w1.heap.size .u8 51 HL) ⟨below_setRow (hb1.alloc hb1.size _) hb1.size _, hN.setRow _⟩ ?_
  obtain ⟨G, hGG⟩ : ∃ q, w1.heap.size = q := ⟨_, rfl⟩
  rw [hGG] at hG ⊢
  clear hGG hN hb1 hHO c0
  clear w1
  rintro X ⟨hX, hH⟩
  have hDX : DiskAt X.drew base D (.slice y zl c) z s := (hDD.out.far hX).far (Below.refl _ _).drew
  have hin := hDD.out.inside
  have hbX : Bytes X.drew x len cap b := (hbs.below hX).below (Below.refl _ _).drew
  have hHb := hH.drew.bytes (n := 10) hHl.symm (by omega)
  have hbX0 : base ≤ X.drew.heap.size := Nat.le_trans hbase hX.size
  have c0 : X.drew.cell? ⟨D, 0, none⟩ = some (.slice y zl c) := hDX.box.cell 0
  have hwX : w.heap.size ≤ X.drew.heap.size := hX.size
  refine wp_region_gate (fun w' => w'.cell? ⟨D, 0, none⟩ = some (.slice y zl c)) 6 (by kernel_rfl) ?_
  have hS : (fun w' : World => w'.cell? ⟨D, 0, none⟩ = some (.slice y zl c)) X.drew := c0
  refine wpAnyG_any (i := 0) (v := ?_) rfl (by kernel_rfl) (by kernel_rfl) (by kernel_rfl) (fun _ _ _ h => h) (by kernel_rfl) (fun _ => hS) (by kernel_rfl) ?_ ?_
  rotate_left
  · intro _; go_simp; try with_reducible rfl
  simp only [Act.put, List.getElem_toArray, List.getElem_cons_succ, List.getElem_cons_zero, List.setIfInBounds_toArray, List.set_cons_zero, List.set_cons_succ]
  refine wpAnyG_any (i := 1) (v := ?_) rfl (by kernel_rfl) (by kernel_rfl) (by kernel_rfl) (fun _ _ _ h => h) (by kernel_rfl) (fun _ => hS) (by kernel_rfl) ?_ ?_
  rotate_left
  · intro _; go_simp; try with_reducible rfl
  simp only [Act.put, List.getElem_toArray, List.getElem_cons_succ, List.getElem_cons_zero, List.setIfInBounds_toArray, List.set_cons_zero, List.set_cons_succ]
  refine wpAnyG_any (i := 2) (v := ?_) rfl (by kernel_rfl) (by kernel_rfl) (by kernel_rfl) (fun _ _ _ h => h) (by kernel_rfl) (fun _ => hS) (by kernel_rfl) ?_ ?_
  rotate_left
  · intro _; go_simp; try with_reducible rfl
  simp only [Act.put, List.getElem_toArray, List.getElem_cons_succ, List.getElem_cons_zero, List.setIfInBounds_toArray, List.set_cons_zero, List.set_cons_succ]
  refine wpAnyG_any (i := 3) (v := ?_) rfl (by kernel_rfl) (by kernel_rfl) (by kernel_rfl) (fun _ _ _ h => h) (by kernel_rfl) (fun _ => hS) (by kernel_rfl) ?_ ?_
  rotate_left
  · intro _; go_simp; try with_reducible rfl
  simp only [Act.put, List.getElem_toArray, List.getElem_cons_succ, List.getElem_cons_zero, List.setIfInBounds_toArray, List.set_cons_zero, List.set_cons_succ]
  refine wpAnyG_read (i := 4) (v := ?_) rfl (by kernel_rfl) (by kernel_rfl) (by kernel_rfl) (fun _ _ _ h => h) (by kernel_rfl) (by kernel_rfl) (by kernel_rfl) hS (by kernel_rfl) ?_ ?_
  rotate_left
  · intro wx hSw; go_split_ands; go_simp; try with_reducible rfl
  simp only [Act.put, List.getElem_toArray, List.getElem_cons_succ, List.getElem_cons_zero, List.setIfInBounds_toArray, List.set_cons_zero, List.set_cons_succ]
  refine wpAnyG_any (i := 5) (v := ?_) rfl (by kernel_rfl) (by kernel_rfl) (by kernel_rfl) (fun _ _ _ h => h) (by kernel_rfl) (fun _ => hS) (by kernel_rfl) ?_ ?_
  rotate_left
  · intro _; go_simp; try with_reducible rfl
  simp only [Act.put, List.getElem_toArray, List.getElem_cons_succ, List.getElem_cons_zero, List.setIfInBounds_toArray, List.set_cons_zero, List.set_cons_succ]
  refine wpAnyG_any (i := 7) (v := ?_) rfl (by kernel_rfl) (by kernel_rfl) (by kernel_rfl) (fun _ _ _ h => h) (by kernel_rfl) (fun _ => hS) (by kernel_rfl) ?_ ?_
  rotate_left
  · intro _; go_simp; try with_reducible rfl
  simp only [Act.put, List.getElem_toArray, List.getElem_cons_succ, List.getElem_cons_zero, List.setIfInBounds_toArray, List.set_cons_zero, List.set_cons_succ]
  refine wpAnyG_one (i := 6) rfl (by kernel_rfl) (by kernel_rfl) (fun K hK => ?_)
  obtain ⟨v6, W6, hrun6, hB6, hg6, hk6⟩ := run_app_buf X.drew base (.slice y zl c) z 31 hDX.buf (some ⟨G, 0, none⟩) 10 10 HL hHb (by have := HZL.out; omega) hbX0
  refine wpx_app _ _ _ _ rfl _ _ _ _ rfl rfl hrun6 ?_
  have hD6 : CellsD W6 D 47 [.slice y zl c, .int .i64 s] := hDX.box.congr (hg6.block D hDX.box.lt (fun e => hDX.ne e.symm))
  have hb6 : Bytes W6 x len cap b := hbX.grownD hg6 hne
  have hT6 : TurnD (diskP D (.slice y zl c)) w W6 := ((TurnD.of_below hX).trans (TurnD.of_below (w' := X.drew) (Below.refl _ _).drew)).trans (TurnD.of_grown hg6 fun k hk => .inr hk)
  have hbs6 : base ≤ W6.heap.size := Nat.le_trans hbX0 hg6.size
  have hk6w : v6.ownBlock = (Value.slice y zl c).ownBlock ∨ ∃ g, v6.ownBlock = some g ∧ w.heap.size ≤ g := by
    rcases hk6 with h | ⟨g, h, hg⟩
    · exact .inl h
    · exact .inr ⟨g, h, Nat.le_trans hwX hg⟩
  clear hrun6 hg6 hk6 hS c0 hDX hbX hHb hH hX
  refine hK.out _ _ (fun h => absurd (show true = false from h) (by decide)) ?_
  clear hK K
  try simp only [Act.put, List.getElem_toArray, List.getElem_cons_succ, List.getElem_cons_zero, List.setIfInBounds_toArray, List.set_cons_zero, List.set_cons_succ]
  refine wpAnyG_one (i := 8) rfl (by kernel_rfl) (by kernel_rfl) (fun K hK => ?_)
  have hlen6 : (z ++ HL).length + len ≤ 4000000 := by rw [List.length_append, HZL.out, hHl]; omega
  obtain ⟨v8, W8, hrun8, hB8, hg8, hk8⟩ := run_app_buf W6 base v6 (z ++ HL) 31 hB6 x len cap b hb6 hlen6 hbs6
  refine wpx_app _ _ _ _ rfl _ _ _ _ rfl rfl hrun8 ?_
  have hne6 : v6.ownBlock ≠ some D := fun e => by
    obtain ⟨_, _, cur, hc⟩ := hB6.own D e
    exact absurd (hD6.typ hc) (by decide)
  have hD8 : CellsD W8 D 47 [.slice y zl c, .int .i64 s] := hD6.congr (hg8.block D hD6.lt (fun e => hne6 e.symm))
  have hT8 : TurnD (diskP D (.slice y zl c)) w W8 := by
    refine hT6.trans' hg8 fun k hk hw => ?_
    rcases hk6w with h | ⟨g, h, hg⟩
    · exact .inr (h.symm.trans hk)
    · rw [h] at hk
      cases hk
      omega
  have hk8w : v8.ownBlock = (Value.slice y zl c).ownBlock ∨ ∃ g, v8.ownBlock = some g ∧ w.heap.size ≤ g := by
    rcases hk8 with h | ⟨g, h, hg⟩
    · rw [h]; exact hk6w
    · exact .inr ⟨g, h, Nat.le_trans hT6.size hg⟩
  have hne8 : v8.ownBlock ≠ some D := fun e => by
    obtain ⟨_, _, cur, hc⟩ := hB8.own D e
    exact absurd (hD8.typ hc) (by decide)
  have HB8 : Veil (BufAt W8 base v8 (z ++ recL b)) := ⟨by rw [HREC.out, ← List.append_assoc]; exact hB8⟩
  obtain ⟨x8, c8, hv8, _, _⟩ := hB8.bytes
  obtain ⟨n8, hn8⟩ : ∃ q, (z ++ HL ++ b).length = q := ⟨_, rfl⟩
  rw [hn8] at hv8
  subst hv8
  have c8' : W8.cell? ⟨D, 0, none⟩ = some (.slice y zl c) := hD8.cell 0
  have f8 := hD8.frozen 0
  clear hrun8 hg8 hk8 hB8 hB6 hb6 hn8 hT6 hD6
  refine hK.out _ _ (fun h => absurd (show true = false from h) (by decide)) ?_
  clear hK K
  try simp only [Act.put, List.getElem_toArray, List.getElem_cons_succ, List.getElem_cons_zero, List.setIfInBounds_toArray, List.set_cons_zero, List.set_cons_succ]
  refine wpAnyG_any (i := 9) (v := ?_) rfl (by kernel_rfl) (by kernel_rfl) (by kernel_rfl) (fun _ _ _ h => h) (by kernel_rfl) (fun h => absurd (show true = false from h) (by decide)) (by kernel_rfl) ?_ ?_
  rotate_left
  · intro _; go_simp; try with_reducible rfl
  simp only [Act.put, List.getElem_toArray, List.getElem_cons_succ, List.getElem_cons_zero, List.setIfInBounds_toArray, List.set_cons_zero, List.set_cons_succ]
  refine wpAnyG_any (i := 10) (v := ?_) rfl (by kernel_rfl) (by kernel_rfl) (by kernel_rfl) (fun _ _ _ h => h) (by kernel_rfl) (fun h => absurd (show true = false from h) (by decide)) (by kernel_rfl) ?_ ?_
  rotate_left
  · intro _; go_simp; try with_reducible rfl
  simp only [Act.put, List.getElem_toArray, List.getElem_cons_succ, List.getElem_cons_zero, List.setIfInBounds_toArray, List.set_cons_zero, List.set_cons_succ]
  refine wpAnyG_one (i := 11) rfl (by kernel_rfl) (by kernel_rfl) (fun K hK => ?_)
  go_simp
  refine hK.out _ _ (fun h => absurd (show true = false from h) (by decide)) ?_
  clear hK K
  try simp only [Act.put, List.getElem_toArray, List.getElem_cons_succ, List.getElem_cons_zero, List.setIfInBounds_toArray, List.set_cons_zero, List.set_cons_succ]
  refine wpAnyG_done (by kernel_rfl) ?_ _
  go_wp2
  go_ret
  have hD := hDD.out
  refine ⟨rfl, .slice x8 n8 c8, ⟨hD8.set 0 _, HB8.out.congr fun g hg => Below.heap_setCell _ _ _ g (fun e => hne8 (by rw [← show g = D from e]; exact hg)), isB_append hD.isb (recL_in b hbb), ?_, ?_, hD.baseD⟩, hT8.trans (TurnD.of_setCell _ (a := ⟨D, 0, none⟩) (.inl rfl) _), hk8w⟩
  · rw [List.length_append, recL_length, HZL.out, ← HBL.out]; omega
  · rw [List.length_append]; have := hD.syn; omega
end
end Go.Proofs.YtknomnnbebhijabDoor
