/- disk: a deed on both ('do'). -/
import Derived.Test.YtknomnnbebhijabDoorDx4
import Derived.Test.YtknomnnbebhijabDoorDa
namespace Go.Proofs.YtknomnnbebhijabDoor
open Go.RowKit Go.Shelf
set_option maxRecDepth 20000
set_option linter.unusedSimpArgs false

theorem Bytes.turn {w w' : World} {x : Option Addr} {len cap : Nat} {z : List Int} {p : Nat → Prop} (h : Bytes w x len cap z) (ht : TurnD p w w') (hne : ∀ a, len ≠ 0 → x = some a → ¬ p a.block) : Bytes w' x len cap z :=
  ⟨h.len_eq, h.le, h.top, h.nil, by
    rcases h.at_ with h0 | ⟨b, off, hx, hc⟩
    · exact .inl h0
    · by_cases hl : len = 0
      · exact .inl hl
      · exact .inr ⟨b, off, hx, fun j hj => (World.cell?_of_block (a := ⟨b, off + j, none⟩) (ht.block b (block_lt_of_cell (hc j hj)) (hne _ hl hx))).trans (hc j hj)⟩⟩
theorem DiskTo.below {w w' : World} {base D : Nat} {v v' : Value} {z z' : List Int} {s s' : Nat} (h : DiskTo w w' base D v v' z' s') (hD : DiskAt w base D v z s) (hB : base ≤ w.heap.size) : Below base w w' := h.turn.below hB fun k hk => (hD.inside k hk).2
theorem RefTo.below {w w' : World} {base R : Nat} {v v' : Value} {z z' : List Int} {s s' : Nat} (h : RefTo w w' base R v v' z' s') (hD : RefAt w base R v z s) (hB : base ≤ w.heap.size) : Below base w w' := h.turn.below hB fun k hk => by rw [hk]; exact hD.baseR
section
variable (base D R : Nat) (v u : Value) (z : List Int) (s : Nat) (w : World)
/-- Both write. -/
theorem both_write (hW : Both w base D v R u z s) (hbase : base ≤ w.heap.size) (hKT : S.KTab w) (x : Option Addr) (len cap : Nat) (b : List Int) (hb : Bytes w x len cap b) (hbb : isB b) (hxb : ∀ a, len ≠ 0 → x = some a → a.block < base) :
    ∃ q : Int, Calls Tryd.prog 12 #[.pointer (some ⟨D, 0, none⟩), .slice x len cap] w fun e w1 => e = .returned (.int .i64 q) ∧
      Calls Tryd.prog 21 #[.pointer (some ⟨R, 0, none⟩), .slice x len cap] w1 fun e w2 => e = .returned (.int .i64 q) ∧ (∃ v' u' z', Both w2 base D v' R u' z' s) ∧ Below base w w2 := by
  by_cases hl : 8192 < len
  · refine ⟨2, (dWrite_long D w x len cap hl).mono ?_⟩
    rintro e w1 ⟨rfl, rfl⟩
    refine ⟨rfl, (rWrite_long R w1 x len cap hl).mono ?_⟩
    rintro e w2 ⟨rfl, rfl⟩
    exact ⟨rfl, ⟨v, u, z, hW⟩, Below.refl _ _⟩
  · by_cases hf : 65536 < z.length + 10 + len
    · refine ⟨10, (dWrite_full base D v z s w hW.d x len cap (by omega) hf).mono ?_⟩
      rintro e w1 ⟨rfl, rfl⟩
      refine ⟨rfl, (rWrite_full base R u z s w1 hW.r x len cap (by omega) hf).mono ?_⟩
      rintro e w2 ⟨rfl, rfl⟩
      exact ⟨rfl, ⟨v, u, z, hW⟩, Below.refl _ _⟩
    · refine ⟨0, (dWrite_any base D v z s w hW.d x len cap b hb hbb (by omega) (by omega) (fun a hl0 ha e => ?_) hbase hKT).mono ?_⟩
      · have h1 := hxb a hl0 ha
        have h2 := (hW.d.inside a.block (.inr e)).2
        omega
      · rintro e w1 ⟨rfl, v', hd⟩
        have hb1 : Bytes w1 x len cap b := hb.turn hd.turn fun a hl0 ha hp => by
          have h1 := hxb a hl0 ha
          have h2 := (hW.d.inside a.block hp).2
          omega
        have hB1 := hd.below hW.d hbase
        refine ⟨rfl, (rWrite_any base R u z s w1 (hW.mid hd) x len cap b hb1 hbb (by omega) (by omega) (Nat.le_trans hbase hB1.size)).mono ?_⟩
        rintro e w2 ⟨rfl, u', hr⟩
        exact ⟨rfl, ⟨v', u', _, hW.step hd hr⟩, hB1.trans (hr.below (hW.mid hd) (Nat.le_trans hbase hB1.size))⟩
theorem both_power (hW : Both w base D v R u z s) (hbase : base ≤ w.heap.size) (k : Int) (hk : k ≤ 9223372036854775807) :
    ∃ q : Int, Calls Tryd.prog 14 #[.pointer (some ⟨D, 0, none⟩), .int .i64 k] w fun e w1 => (e = .returned (.int .i64 q) ∧ Below base w w1 ∧ TurnD (diskP D v) w w1) ∧
      Calls Tryd.prog 23 #[.pointer (some ⟨R, 0, none⟩), .int .i64 k] w1 fun e w2 => e = .returned (.int .i64 q) ∧ (∃ v' u' z' s', Both w2 base D v' R u' z' s') ∧ Below base w w2 ∧ TurnD (fun k => k = R) w1 w2 := by
  by_cases hl : k < 0
  · refine ⟨2, (dPower_no D w k hl).mono ?_⟩
    rintro e w1 ⟨rfl, rfl⟩
    refine ⟨⟨rfl, Below.refl _ _, TurnD.refl _ _⟩, (rPower_no R w1 k hl).mono ?_⟩
    rintro e w2 ⟨rfl, rfl⟩
    exact ⟨rfl, ⟨v, u, z, s, hW⟩, Below.refl _ _, TurnD.refl _ _⟩
  · obtain ⟨n, rfl⟩ := Int.eq_ofNat_of_zero_le (show 0 ≤ k by omega)
    refine ⟨0, (dPower_any base D v z s w hW.d n (by omega)).mono ?_⟩
    rintro e w1 ⟨rfl, v', hd⟩
    have hB1 := hd.below hW.d hbase
    refine ⟨⟨rfl, hB1, hd.turn⟩, (rPower_any base R u z s w1 (hW.mid hd) n (by omega)).mono ?_⟩
    rintro e w2 ⟨rfl, u', hr⟩
    exact ⟨rfl, ⟨v', u', _, _, hW.step hd hr⟩, hB1.trans (hr.below (hW.mid hd) (Nat.le_trans hbase hB1.size)), hr.turn⟩
theorem both_sync (hW : Both w base D v R u z s) (hbase : base ≤ w.heap.size) :
    Calls Tryd.prog 13 #[.pointer (some ⟨D, 0, none⟩)] w fun e w1 => e = .returned (.int .i64 0) ∧
      Calls Tryd.prog 22 #[.pointer (some ⟨R, 0, none⟩)] w1 fun e w2 => e = .returned (.int .i64 0) ∧ Both w2 base D v R u z z.length ∧ Below base w w2 := by
  refine (dSync_any base D v z s w hW.d).mono ?_
  rintro e w1 ⟨rfl, hd⟩
  have hB1 := hd.below hW.d hbase
  refine ⟨rfl, (rSync_any base R u z s w1 (hW.mid hd)).mono ?_⟩
  rintro e w2 ⟨rfl, hr⟩
  exact ⟨rfl, hW.step hd hr, hB1.trans (hr.below (hW.mid hd) (Nat.le_trans hbase hB1.size))⟩
theorem both_trim (hW : Both w base D v R u z s) (hbase : base ≤ w.heap.size) (hKT : S.KTab w) :
    Calls Tryd.prog 15 #[.pointer (some ⟨D, 0, none⟩)] w fun e w1 => e = .returned (.int .i64 0) ∧
      Calls Tryd.prog 24 #[.pointer (some ⟨R, 0, none⟩)] w1 fun e w2 => e = .returned (.int .i64 0) ∧ (∃ v' u' z' s', Both w2 base D v' R u' z' s') ∧ Below base w w2 := by
  refine (dTrim_any base D v z s w hW.d hKT).mono ?_
  rintro e w1 ⟨rfl, v', hd⟩
  have hB1 := hd.below hW.d hbase
  refine ⟨rfl, (rTrim_any base R u z s w1 (hW.mid hd)).mono ?_⟩
  rintro e w2 ⟨rfl, u', hr⟩
  exact ⟨rfl, ⟨v', u', _, _, hW.step hd hr⟩, hB1.trans (hr.below (hW.mid hd) (Nat.le_trans hbase hB1.size))⟩
set_option maxHeartbeats 8000000 in
theorem do_any (hW : Both w base D v R u z s) (hbase : base ≤ w.heap.size) (hKT : S.KTab w) (d : Dd) (hd : d.Ok w) (hxb : ∀ a, d.len ≠ 0 → d.x = some a → a.block < base) :
    Calls Tryd.prog 9 #[.pointer (some ⟨D, 0, none⟩), .pointer (some ⟨R, 0, none⟩), .agg d.cells.toArray] w fun e w' => e = .returned (.bool true) ∧ (∃ v' u' z' s', Both w' base D v' R u' z' s') ∧ Below base w w' := by
  have hA := CellsD.new w 33 d.cells
  have hB0 : Below w.heap.size w (w.alloc (.cells d.cells.toArray 33)) := (Below.refl _ _).alloc (Nat.le_refl _) _
  have hW1 := hW.far hB0
  have hK1 := hKT.below hB0
  have hd1 := hd.below hB0
  have hbs1 : base ≤ (w.alloc (.cells d.cells.toArray 33)).heap.size := Nat.le_trans hbase hB0.size
  have hBb := hB0.mono hbase
  obtain ⟨kind, keep, x, len, cap, b⟩ := d
  simp only [Dd.cells] at hA hB0 hW1 hK1 hd1 hbs1 hBb ⊢
  simp only at hxb
  have c0 : (w.alloc (.cells #[.int .i64 kind, .int .i64 keep, .slice x len cap] 33)).cell? ⟨w.heap.size, 0, none⟩ = some (.int .i64 kind) := hA.cell 0
  have c1 : (w.alloc (.cells #[.int .i64 kind, .int .i64 keep, .slice x len cap] 33)).cell? ⟨w.heap.size, 1, none⟩ = some (.int .i64 keep) := hA.cell 1
  have c2 : (w.alloc (.cells #[.int .i64 kind, .int .i64 keep, .slice x len cap] 33)).cell? ⟨w.heap.size, 2, none⟩ = some (.slice x len cap) := hA.cell 2
  obtain ⟨W1, hWW⟩ : ∃ q, w.alloc (.cells #[.int .i64 kind, .int .i64 keep, .slice x len cap] 33) = q := ⟨_, rfl⟩
  have hby := hd1.bytes
  have hib := hd1.isb
  have hk1 := hd1.keep1
  simp only at hby hib hk1
  have hle := hby.le
  have hs3 : ∀ wx, 300 ≤ len → (Instr.slice 31 (.slice x len cap) none (some (.int .i64 300)) none).run Tryd.prog wx = .ok (.slice (subA x cap 0) 300 cap) wx := fun wx h3 => run_cut_h wx x len cap 300 (by omega)
  have hcutB := fun h3 : 300 ≤ len => hby.cut 0 300 (by omega) h3
  rw [hWW] at hW1 hK1 hbs1 hBb c0 c1 c2 hby hcutB
  have hWx : w.heap.size < W1.heap.size := by rw [← hWW]; simp
  have hin := hW.d.inside
  have hinr := hW.r.inside
  clear hd1 hd hA hB0
  by_cases h3 : 300 < len ∧ len ≤ 8192
  · obtain ⟨h3a, h3b⟩ := h3
    have h3i : (300 : Int) < (len : Int) := by omega
    have h3j : (len : Int) ≤ 8192 := by omega
    have hs3' := fun wx => hs3 wx (by omega)
    have hby' := hcutB (by omega)
    have hib' : isB ((b.drop 0).take (300 - 0)) := fun v hv => hib v (List.mem_of_mem_drop (List.mem_of_mem_take hv))
    have hxb' : ∀ a, 300 - 0 ≠ 0 → subA x cap 0 = some a → a.block < base := fun a _ ha => by
      unfold subA at ha
      rw [if_neg (by omega)] at ha
      cases x with
      | none => cases ha
      | some a0 =>
        have h1 := hxb a0 (by omega) rfl
        simp only [Option.map_some, Option.some.injEq] at ha
        rw [← ha]
        unfold Addr.add
        split <;> exact h1
    obtain ⟨xb, hxx⟩ : ∃ q, subA x cap 0 = q := ⟨_, rfl⟩
    rw [hxx] at hs3' hby' hxb'
    clear hxx hs3 hcutB
    go_enter Tryd.func9, Tryd.ntmps9
    go_upto_region 4 with fail
    by_cases k0 : kind = 0
    · subst k0
      obtain ⟨q, hq⟩ := both_write base D R v u z s W1 hW1 hbs1 hK1 xb 300 cap ((b.drop 0).take 300) hby' hib' (fun a _ ha => hxb' a (by decide) ha)
      clear c1 c2 hWW
      go_wp2_with (first
        | (go_at_call 12; refine hq.mono ?_; rintro e w2 ⟨rfl, hq2⟩)
        | (go_at_call 21; refine hq2.mono ?_; rintro e w3 ⟨rfl, ⟨v3, u3, z3, hB3⟩, hb3⟩))
      go_ret
      exact ⟨rfl, ⟨v3, u3, z3, s, hB3⟩, hBb.trans hb3⟩
    · have k0' : (kind == 0) = false := by simpa using k0
      by_cases k1 : kind = 1
      · subst k1
        have hq := both_sync base D R v u z s W1 hW1 hbs1
        clear c1 c2 hWW
        go_wp2_with (first
          | (go_at_call 13; refine hq.mono ?_; rintro e w2 ⟨rfl, hq2⟩)
          | (go_at_call 22; refine hq2.mono ?_; rintro e w3 ⟨rfl, hB3, hb3⟩))
        go_ret
        exact ⟨rfl, ⟨v, u, z, _, hB3⟩, hBb.trans hb3⟩
      · have k1' : (kind == 1) = false := by simpa using k1
        by_cases k2 : kind = 2
        · subst k2
          obtain ⟨q, hq⟩ := both_power base D R v u z s W1.drew (hW1.far (Below.refl _ _).drew) hbs1 keep hk1
          have hcd : W1.drew.cell? ⟨w.heap.size, 1, none⟩ = some (.int .i64 keep) := c1
          clear c2 hWW
          go_upto_region 10 with fail
          refine wp_region_gate (fun w' => w'.cell? ⟨w.heap.size, 1, none⟩ = some (.int .i64 keep)) 9 (by kernel_rfl) ?_
          have hS : (fun w' : World => w'.cell? ⟨w.heap.size, 1, none⟩ = some (.int .i64 keep)) W1.drew := hcd
          refine wpAnyG_any (i := 0) (v := ?_) rfl (by kernel_rfl) (by kernel_rfl) (by kernel_rfl) (fun _ _ _ h => h) (by kernel_rfl) (fun _ => hS) (by kernel_rfl) ?_ ?_
          rotate_left
          · intro _; go_simp; try with_reducible rfl
          simp only [Act.put, List.getElem_toArray, List.getElem_cons_succ, List.getElem_cons_zero, List.setIfInBounds_toArray, List.set_cons_zero, List.set_cons_succ]
          refine wpAnyG_any (i := 1) (v := ?_) rfl (by kernel_rfl) (by kernel_rfl) (by kernel_rfl) (fun _ _ _ h => h) (by kernel_rfl) (fun _ => hS) (by kernel_rfl) ?_ ?_
          rotate_left
          · intro _; go_simp; try with_reducible rfl
          simp only [Act.put, List.getElem_toArray, List.getElem_cons_succ, List.getElem_cons_zero, List.setIfInBounds_toArray, List.set_cons_zero, List.set_cons_succ]
          refine wpAnyG_any (i := 4) (v := ?_) rfl (by kernel_rfl) (by kernel_rfl) (by kernel_rfl) (fun _ _ _ h => h) (by kernel_rfl) (fun _ => hS) (by kernel_rfl) ?_ ?_
          rotate_left
          · intro _; go_simp; try with_reducible rfl
          simp only [Act.put, List.getElem_toArray, List.getElem_cons_succ, List.getElem_cons_zero, List.setIfInBounds_toArray, List.set_cons_zero, List.set_cons_succ]
          refine wpAnyG_any (i := 5) (v := ?_) rfl (by kernel_rfl) (by kernel_rfl) (by kernel_rfl) (fun _ _ _ h => h) (by kernel_rfl) (fun _ => hS) (by kernel_rfl) ?_ ?_
          rotate_left
          · intro _; go_simp; try with_reducible rfl
          simp only [Act.put, List.getElem_toArray, List.getElem_cons_succ, List.getElem_cons_zero, List.setIfInBounds_toArray, List.set_cons_zero, List.set_cons_succ]
          refine wpAnyG_read (i := 2) (v := ?_) rfl (by kernel_rfl) (by kernel_rfl) (by kernel_rfl) (fun _ _ _ h => h) (by kernel_rfl) (by kernel_rfl) (by kernel_rfl) hS (by kernel_rfl) ?_ ?_
          rotate_left
          · intro wx hSw; go_split_ands; go_simp; try with_reducible rfl
          simp only [Act.put, List.getElem_toArray, List.getElem_cons_succ, List.getElem_cons_zero, List.setIfInBounds_toArray, List.set_cons_zero, List.set_cons_succ]
          refine wpAnyG_read (i := 6) (v := ?_) rfl (by kernel_rfl) (by kernel_rfl) (by kernel_rfl) (fun _ _ _ h => h) (by kernel_rfl) (by kernel_rfl) (by kernel_rfl) hS (by kernel_rfl) ?_ ?_
          rotate_left
          · intro wx hSw; go_split_ands; go_simp; try with_reducible rfl
          simp only [Act.put, List.getElem_toArray, List.getElem_cons_succ, List.getElem_cons_zero, List.setIfInBounds_toArray, List.set_cons_zero, List.set_cons_succ]
          refine wpAnyG_one (i := 3) rfl (by kernel_rfl) (by kernel_rfl) (fun K hK => ?_)
          refine wpx_call _ _ (by kernel_rfl) (hq.mono ?_)
          rintro e w2 ⟨⟨rfl, hb2, ht2⟩, hq2⟩
          refine ⟨_, rfl, ?_⟩
          have hc2 : w2.cell? ⟨w.heap.size, 1, none⟩ = some (.int .i64 keep) := (World.cell?_of_block (a := ⟨w.heap.size, 1, none⟩) (ht2.block _ hWx (fun hp => absurd (hin w.heap.size hp).1 (Nat.lt_irrefl _)))).trans hcd
          have hw2 : w.heap.size < w2.heap.size := Nat.lt_of_lt_of_le hWx ht2.size
          replace hS : (fun w' : World => w'.cell? ⟨w.heap.size, 1, none⟩ = some (.int .i64 keep)) w2 := hc2
          refine hK.out _ _ (fun _ => hS) ?_
          clear hK K
          try simp only [Act.put, List.getElem_toArray, List.getElem_cons_succ, List.getElem_cons_zero, List.setIfInBounds_toArray, List.set_cons_zero, List.set_cons_succ]
          refine wpAnyG_one (i := 7) rfl (by kernel_rfl) (by kernel_rfl) (fun K hK => ?_)
          refine wpx_call _ _ (by kernel_rfl) (hq2.mono ?_)
          rintro e w3 ⟨rfl, ⟨v3, u3, z3, s3, hB3⟩, hb3, ht3⟩
          refine ⟨_, rfl, ?_⟩
          have hc3 : w3.cell? ⟨w.heap.size, 1, none⟩ = some (.int .i64 keep) := (World.cell?_of_block (a := ⟨w.heap.size, 1, none⟩) (ht3.block _ hw2 (fun hp => absurd (hinr w.heap.size (.inl hp)).1 (Nat.lt_irrefl _)))).trans hc2
          replace hS : (fun w' : World => w'.cell? ⟨w.heap.size, 1, none⟩ = some (.int .i64 keep)) w3 := hc3
          refine hK.out _ _ (fun _ => hS) ?_
          clear hK K
          try simp only [Act.put, List.getElem_toArray, List.getElem_cons_succ, List.getElem_cons_zero, List.setIfInBounds_toArray, List.set_cons_zero, List.set_cons_succ]
          refine wpAnyG_any (i := 8) (v := .bool true) rfl (by kernel_rfl) (by kernel_rfl) (by kernel_rfl) (fun _ _ _ h => h) (by kernel_rfl) (fun _ => hS) (by kernel_rfl) ?_ ?_
          · intro _; go_simp
          simp only [Act.put, List.getElem_toArray, List.getElem_cons_succ, List.getElem_cons_zero, List.setIfInBounds_toArray, List.set_cons_zero, List.set_cons_succ]
          refine wpAnyG_one (i := 9) rfl (by kernel_rfl) (by kernel_rfl) (fun K hK => ?_)
          go_simp
          refine hK.out _ _ (fun h => absurd (show true = false from h) (by decide)) ?_
          clear hK K
          try simp only [Act.put, List.getElem_toArray, List.getElem_cons_succ, List.getElem_cons_zero, List.setIfInBounds_toArray, List.set_cons_zero, List.set_cons_succ]
          refine wpAnyG_done (by kernel_rfl) ?_ _
          clear hq hS hc2 hc3 hcd c1 c0
          go_wp2
          go_ret
          exact ⟨rfl, ⟨v3, u3, z3, s3, hB3⟩, hBb.trans (((Below.refl _ _).drew).trans hb3)⟩
        · have k2' : (kind == 2) = false := by simpa using k2
          by_cases k3 : kind = 3
          · subst k3
            have hq := both_trim base D R v u z s W1 hW1 hbs1 hK1
            clear c1 c2 hWW
            go_wp2_with (first
              | (go_at_call 15; refine hq.mono ?_; rintro e w2 ⟨rfl, hq2⟩)
              | (go_at_call 24; refine hq2.mono ?_; rintro e w3 ⟨rfl, ⟨v3, u3, z3, s3, hB3⟩, hb3⟩))
            go_ret
            exact ⟨rfl, ⟨v3, u3, z3, s3, hB3⟩, hBb.trans hb3⟩
          · have k3' : (kind == 3) = false := by simpa using k3
            clear c1 c2 hWW
            go_wp2
            go_ret
            exact ⟨rfl, ⟨v, u, z, s, hW1⟩, hBb⟩
  · have h3i : (300 : Int) < (len : Int) → ¬ (len : Int) ≤ 8192 := fun h1 h2 => h3 ⟨by omega, by omega⟩
    clear hs3 hcutB
    by_cases h3a : 300 < len
    · have h3b : (300 : Int) < (len : Int) := by omega
      have h3c : ¬ (len : Int) ≤ 8192 := h3i h3b
      clear h3i h3
      go_enter Tryd.func9, Tryd.ntmps9
      go_upto_region 4 with fail
      by_cases k0 : kind = 0
      · subst k0
        obtain ⟨q, hq⟩ := both_write base D R v u z s W1 hW1 hbs1 hK1 x len cap b hby hib hxb
        clear c1 c2 hWW
        go_wp2_with (first
          | (go_at_call 12; refine hq.mono ?_; rintro e w2 ⟨rfl, hq2⟩)
          | (go_at_call 21; refine hq2.mono ?_; rintro e w3 ⟨rfl, ⟨v3, u3, z3, hB3⟩, hb3⟩))
        go_ret
        exact ⟨rfl, ⟨v3, u3, z3, s, hB3⟩, hBb.trans hb3⟩
      · have k0' : (kind == 0) = false := by simpa using k0
        by_cases k1 : kind = 1
        · subst k1
          have hq := both_sync base D R v u z s W1 hW1 hbs1
          clear c1 c2 hWW
          go_wp2_with (first
            | (go_at_call 13; refine hq.mono ?_; rintro e w2 ⟨rfl, hq2⟩)
            | (go_at_call 22; refine hq2.mono ?_; rintro e w3 ⟨rfl, hB3, hb3⟩))
          go_ret
          exact ⟨rfl, ⟨v, u, z, _, hB3⟩, hBb.trans hb3⟩
        · have k1' : (kind == 1) = false := by simpa using k1
          by_cases k2 : kind = 2
          · subst k2
            obtain ⟨q, hq⟩ := both_power base D R v u z s W1.drew (hW1.far (Below.refl _ _).drew) hbs1 keep hk1
            have hcd : W1.drew.cell? ⟨w.heap.size, 1, none⟩ = some (.int .i64 keep) := c1
            clear c2 hWW
            go_upto_region 10 with fail
            refine wp_region_gate (fun w' => w'.cell? ⟨w.heap.size, 1, none⟩ = some (.int .i64 keep)) 9 (by kernel_rfl) ?_
            have hS : (fun w' : World => w'.cell? ⟨w.heap.size, 1, none⟩ = some (.int .i64 keep)) W1.drew := hcd
            refine wpAnyG_any (i := 0) (v := ?_) rfl (by kernel_rfl) (by kernel_rfl) (by kernel_rfl) (fun _ _ _ h => h) (by kernel_rfl) (fun _ => hS) (by kernel_rfl) ?_ ?_
            rotate_left
            · intro _; go_simp; try with_reducible rfl
            simp only [Act.put, List.getElem_toArray, List.getElem_cons_succ, List.getElem_cons_zero, List.setIfInBounds_toArray, List.set_cons_zero, List.set_cons_succ]
            refine wpAnyG_any (i := 1) (v := ?_) rfl (by kernel_rfl) (by kernel_rfl) (by kernel_rfl) (fun _ _ _ h => h) (by kernel_rfl) (fun _ => hS) (by kernel_rfl) ?_ ?_
            rotate_left
            · intro _; go_simp; try with_reducible rfl
            simp only [Act.put, List.getElem_toArray, List.getElem_cons_succ, List.getElem_cons_zero, List.setIfInBounds_toArray, List.set_cons_zero, List.set_cons_succ]
            refine wpAnyG_any (i := 4) (v := ?_) rfl (by kernel_rfl) (by kernel_rfl) (by kernel_rfl) (fun _ _ _ h => h) (by kernel_rfl) (fun _ => hS) (by kernel_rfl) ?_ ?_
            rotate_left
            · intro _; go_simp; try with_reducible rfl
            simp only [Act.put, List.getElem_toArray, List.getElem_cons_succ, List.getElem_cons_zero, List.setIfInBounds_toArray, List.set_cons_zero, List.set_cons_succ]
            refine wpAnyG_any (i := 5) (v := ?_) rfl (by kernel_rfl) (by kernel_rfl) (by kernel_rfl) (fun _ _ _ h => h) (by kernel_rfl) (fun _ => hS) (by kernel_rfl) ?_ ?_
            rotate_left
            · intro _; go_simp; try with_reducible rfl
            simp only [Act.put, List.getElem_toArray, List.getElem_cons_succ, List.getElem_cons_zero, List.setIfInBounds_toArray, List.set_cons_zero, List.set_cons_succ]
            refine wpAnyG_read (i := 2) (v := ?_) rfl (by kernel_rfl) (by kernel_rfl) (by kernel_rfl) (fun _ _ _ h => h) (by kernel_rfl) (by kernel_rfl) (by kernel_rfl) hS (by kernel_rfl) ?_ ?_
            rotate_left
            · intro wx hSw; go_split_ands; go_simp; try with_reducible rfl
            simp only [Act.put, List.getElem_toArray, List.getElem_cons_succ, List.getElem_cons_zero, List.setIfInBounds_toArray, List.set_cons_zero, List.set_cons_succ]
            refine wpAnyG_read (i := 6) (v := ?_) rfl (by kernel_rfl) (by kernel_rfl) (by kernel_rfl) (fun _ _ _ h => h) (by kernel_rfl) (by kernel_rfl) (by kernel_rfl) hS (by kernel_rfl) ?_ ?_
            rotate_left
            · intro wx hSw; go_split_ands; go_simp; try with_reducible rfl
            simp only [Act.put, List.getElem_toArray, List.getElem_cons_succ, List.getElem_cons_zero, List.setIfInBounds_toArray, List.set_cons_zero, List.set_cons_succ]
            refine wpAnyG_one (i := 3) rfl (by kernel_rfl) (by kernel_rfl) (fun K hK => ?_)
            refine wpx_call _ _ (by kernel_rfl) (hq.mono ?_)
            rintro e w2 ⟨⟨rfl, hb2, ht2⟩, hq2⟩
            refine ⟨_, rfl, ?_⟩
            have hc2 : w2.cell? ⟨w.heap.size, 1, none⟩ = some (.int .i64 keep) := (World.cell?_of_block (a := ⟨w.heap.size, 1, none⟩) (ht2.block _ hWx (fun hp => absurd (hin w.heap.size hp).1 (Nat.lt_irrefl _)))).trans hcd
            have hw2 : w.heap.size < w2.heap.size := Nat.lt_of_lt_of_le hWx ht2.size
            replace hS : (fun w' : World => w'.cell? ⟨w.heap.size, 1, none⟩ = some (.int .i64 keep)) w2 := hc2
            refine hK.out _ _ (fun _ => hS) ?_
            clear hK K
            try simp only [Act.put, List.getElem_toArray, List.getElem_cons_succ, List.getElem_cons_zero, List.setIfInBounds_toArray, List.set_cons_zero, List.set_cons_succ]
            refine wpAnyG_one (i := 7) rfl (by kernel_rfl) (by kernel_rfl) (fun K hK => ?_)
            refine wpx_call _ _ (by kernel_rfl) (hq2.mono ?_)
            rintro e w3 ⟨rfl, ⟨v3, u3, z3, s3, hB3⟩, hb3, ht3⟩
            refine ⟨_, rfl, ?_⟩
            have hc3 : w3.cell? ⟨w.heap.size, 1, none⟩ = some (.int .i64 keep) := (World.cell?_of_block (a := ⟨w.heap.size, 1, none⟩) (ht3.block _ hw2 (fun hp => absurd (hinr w.heap.size (.inl hp)).1 (Nat.lt_irrefl _)))).trans hc2
            replace hS : (fun w' : World => w'.cell? ⟨w.heap.size, 1, none⟩ = some (.int .i64 keep)) w3 := hc3
            refine hK.out _ _ (fun _ => hS) ?_
            clear hK K
            try simp only [Act.put, List.getElem_toArray, List.getElem_cons_succ, List.getElem_cons_zero, List.setIfInBounds_toArray, List.set_cons_zero, List.set_cons_succ]
            refine wpAnyG_any (i := 8) (v := .bool true) rfl (by kernel_rfl) (by kernel_rfl) (by kernel_rfl) (fun _ _ _ h => h) (by kernel_rfl) (fun _ => hS) (by kernel_rfl) ?_ ?_
            · intro _; go_simp
            simp only [Act.put, List.getElem_toArray, List.getElem_cons_succ, List.getElem_cons_zero, List.setIfInBounds_toArray, List.set_cons_zero, List.set_cons_succ]
            refine wpAnyG_one (i := 9) rfl (by kernel_rfl) (by kernel_rfl) (fun K hK => ?_)
            go_simp
            refine hK.out _ _ (fun h => absurd (show true = false from h) (by decide)) ?_
            clear hK K
            try simp only [Act.put, List.getElem_toArray, List.getElem_cons_succ, List.getElem_cons_zero, List.setIfInBounds_toArray, List.set_cons_zero, List.set_cons_succ]
            refine wpAnyG_done (by kernel_rfl) ?_ _
            clear hq hS hc2 hc3 hcd c1 c0
            go_wp2
            go_ret
            exact ⟨rfl, ⟨v3, u3, z3, s3, hB3⟩, hBb.trans (((Below.refl _ _).drew).trans hb3)⟩
          · have k2' : (kind == 2) = false := by simpa using k2
            by_cases k3 : kind = 3
            · subst k3
              have hq := both_trim base D R v u z s W1 hW1 hbs1 hK1
              clear c1 c2 hWW
              go_wp2_with (first
                | (go_at_call 15; refine hq.mono ?_; rintro e w2 ⟨rfl, hq2⟩)
                | (go_at_call 24; refine hq2.mono ?_; rintro e w3 ⟨rfl, ⟨v3, u3, z3, s3, hB3⟩, hb3⟩))
              go_ret
              exact ⟨rfl, ⟨v3, u3, z3, s3, hB3⟩, hBb.trans hb3⟩
            · have k3' : (kind == 3) = false := by simpa using k3
              clear c1 c2 hWW
              go_wp2
              go_ret
              exact ⟨rfl, ⟨v, u, z, s, hW1⟩, hBb⟩
    · have h3b : ¬ (300 : Int) < (len : Int) := by omega
      clear h3i h3
      go_enter Tryd.func9, Tryd.ntmps9
      go_upto_region 4 with fail
      by_cases k0 : kind = 0
      · subst k0
        obtain ⟨q, hq⟩ := both_write base D R v u z s W1 hW1 hbs1 hK1 x len cap b hby hib hxb
        clear c1 c2 hWW
        go_wp2_with (first
          | (go_at_call 12; refine hq.mono ?_; rintro e w2 ⟨rfl, hq2⟩)
          | (go_at_call 21; refine hq2.mono ?_; rintro e w3 ⟨rfl, ⟨v3, u3, z3, hB3⟩, hb3⟩))
        go_ret
        exact ⟨rfl, ⟨v3, u3, z3, s, hB3⟩, hBb.trans hb3⟩
      · have k0' : (kind == 0) = false := by simpa using k0
        by_cases k1 : kind = 1
        · subst k1
          have hq := both_sync base D R v u z s W1 hW1 hbs1
          clear c1 c2 hWW
          go_wp2_with (first
            | (go_at_call 13; refine hq.mono ?_; rintro e w2 ⟨rfl, hq2⟩)
            | (go_at_call 22; refine hq2.mono ?_; rintro e w3 ⟨rfl, hB3, hb3⟩))
          go_ret
          exact ⟨rfl, ⟨v, u, z, _, hB3⟩, hBb.trans hb3⟩
        · have k1' : (kind == 1) = false := by simpa using k1
          by_cases k2 : kind = 2
          · subst k2
            obtain ⟨q, hq⟩ := both_power base D R v u z s W1.drew (hW1.far (Below.refl _ _).drew) hbs1 keep hk1
            have hcd : W1.drew.cell? ⟨w.heap.size, 1, none⟩ = some (.int .i64 keep) := c1
            clear c2 hWW
            go_upto_region 10 with fail
            refine wp_region_gate (fun w' => w'.cell? ⟨w.heap.size, 1, none⟩ = some (.int .i64 keep)) 9 (by kernel_rfl) ?_
            have hS : (fun w' : World => w'.cell? ⟨w.heap.size, 1, none⟩ = some (.int .i64 keep)) W1.drew := hcd
            refine wpAnyG_any (i := 0) (v := ?_) rfl (by kernel_rfl) (by kernel_rfl) (by kernel_rfl) (fun _ _ _ h => h) (by kernel_rfl) (fun _ => hS) (by kernel_rfl) ?_ ?_
            rotate_left
            · intro _; go_simp; try with_reducible rfl
            simp only [Act.put, List.getElem_toArray, List.getElem_cons_succ, List.getElem_cons_zero, List.setIfInBounds_toArray, List.set_cons_zero, List.set_cons_succ]
            refine wpAnyG_any (i := 1) (v := ?_) rfl (by kernel_rfl) (by kernel_rfl) (by kernel_rfl) (fun _ _ _ h => h) (by kernel_rfl) (fun _ => hS) (by kernel_rfl) ?_ ?_
            rotate_left
            · intro _; go_simp; try with_reducible rfl
            simp only [Act.put, List.getElem_toArray, List.getElem_cons_succ, List.getElem_cons_zero, List.setIfInBounds_toArray, List.set_cons_zero, List.set_cons_succ]
            refine wpAnyG_any (i := 4) (v := ?_) rfl (by kernel_rfl) (by kernel_rfl) (by kernel_rfl) (fun _ _ _ h => h) (by kernel_rfl) (fun _ => hS) (by kernel_rfl) ?_ ?_
            rotate_left
            · intro _; go_simp; try with_reducible rfl
            simp only [Act.put, List.getElem_toArray, List.getElem_cons_succ, List.getElem_cons_zero, List.setIfInBounds_toArray, List.set_cons_zero, List.set_cons_succ]
            refine wpAnyG_any (i := 5) (v := ?_) rfl (by kernel_rfl) (by kernel_rfl) (by kernel_rfl) (fun _ _ _ h => h) (by kernel_rfl) (fun _ => hS) (by kernel_rfl) ?_ ?_
            rotate_left
            · intro _; go_simp; try with_reducible rfl
            simp only [Act.put, List.getElem_toArray, List.getElem_cons_succ, List.getElem_cons_zero, List.setIfInBounds_toArray, List.set_cons_zero, List.set_cons_succ]
            refine wpAnyG_read (i := 2) (v := ?_) rfl (by kernel_rfl) (by kernel_rfl) (by kernel_rfl) (fun _ _ _ h => h) (by kernel_rfl) (by kernel_rfl) (by kernel_rfl) hS (by kernel_rfl) ?_ ?_
            rotate_left
            · intro wx hSw; go_split_ands; go_simp; try with_reducible rfl
            simp only [Act.put, List.getElem_toArray, List.getElem_cons_succ, List.getElem_cons_zero, List.setIfInBounds_toArray, List.set_cons_zero, List.set_cons_succ]
            refine wpAnyG_read (i := 6) (v := ?_) rfl (by kernel_rfl) (by kernel_rfl) (by kernel_rfl) (fun _ _ _ h => h) (by kernel_rfl) (by kernel_rfl) (by kernel_rfl) hS (by kernel_rfl) ?_ ?_
            rotate_left
            · intro wx hSw; go_split_ands; go_simp; try with_reducible rfl
            simp only [Act.put, List.getElem_toArray, List.getElem_cons_succ, List.getElem_cons_zero, List.setIfInBounds_toArray, List.set_cons_zero, List.set_cons_succ]
            refine wpAnyG_one (i := 3) rfl (by kernel_rfl) (by kernel_rfl) (fun K hK => ?_)
            refine wpx_call _ _ (by kernel_rfl) (hq.mono ?_)
            rintro e w2 ⟨⟨rfl, hb2, ht2⟩, hq2⟩
            refine ⟨_, rfl, ?_⟩
            have hc2 : w2.cell? ⟨w.heap.size, 1, none⟩ = some (.int .i64 keep) := (World.cell?_of_block (a := ⟨w.heap.size, 1, none⟩) (ht2.block _ hWx (fun hp => absurd (hin w.heap.size hp).1 (Nat.lt_irrefl _)))).trans hcd
            have hw2 : w.heap.size < w2.heap.size := Nat.lt_of_lt_of_le hWx ht2.size
            replace hS : (fun w' : World => w'.cell? ⟨w.heap.size, 1, none⟩ = some (.int .i64 keep)) w2 := hc2
            refine hK.out _ _ (fun _ => hS) ?_
            clear hK K
            try simp only [Act.put, List.getElem_toArray, List.getElem_cons_succ, List.getElem_cons_zero, List.setIfInBounds_toArray, List.set_cons_zero, List.set_cons_succ]
            refine wpAnyG_one (i := 7) rfl (by kernel_rfl) (by kernel_rfl) (fun K hK => ?_)
            refine wpx_call _ _ (by kernel_rfl) (hq2.mono ?_)
            rintro e w3 ⟨rfl, ⟨v3, u3, z3, s3, hB3⟩, hb3, ht3⟩
            refine ⟨_, rfl, ?_⟩
            have hc3 : w3.cell? ⟨w.heap.size, 1, none⟩ = some (.int .i64 keep) := (World.cell?_of_block (a := ⟨w.heap.size, 1, none⟩) (ht3.block _ hw2 (fun hp => absurd (hinr w.heap.size (.inl hp)).1 (Nat.lt_irrefl _)))).trans hc2
            replace hS : (fun w' : World => w'.cell? ⟨w.heap.size, 1, none⟩ = some (.int .i64 keep)) w3 := hc3
            refine hK.out _ _ (fun _ => hS) ?_
            clear hK K
            try simp only [Act.put, List.getElem_toArray, List.getElem_cons_succ, List.getElem_cons_zero, List.setIfInBounds_toArray, List.set_cons_zero, List.set_cons_succ]
            refine wpAnyG_any (i := 8) (v := .bool true) rfl (by kernel_rfl) (by kernel_rfl) (by kernel_rfl) (fun _ _ _ h => h) (by kernel_rfl) (fun _ => hS) (by kernel_rfl) ?_ ?_
            · intro _; go_simp
            simp only [Act.put, List.getElem_toArray, List.getElem_cons_succ, List.getElem_cons_zero, List.setIfInBounds_toArray, List.set_cons_zero, List.set_cons_succ]
            refine wpAnyG_one (i := 9) rfl (by kernel_rfl) (by kernel_rfl) (fun K hK => ?_)
            go_simp
            refine hK.out _ _ (fun h => absurd (show true = false from h) (by decide)) ?_
            clear hK K
            try simp only [Act.put, List.getElem_toArray, List.getElem_cons_succ, List.getElem_cons_zero, List.setIfInBounds_toArray, List.set_cons_zero, List.set_cons_succ]
            refine wpAnyG_done (by kernel_rfl) ?_ _
            clear hq hS hc2 hc3 hcd c1 c0
            go_wp2
            go_ret
            exact ⟨rfl, ⟨v3, u3, z3, s3, hB3⟩, hBb.trans (((Below.refl _ _).drew).trans hb3)⟩
          · have k2' : (kind == 2) = false := by simpa using k2
            by_cases k3 : kind = 3
            · subst k3
              have hq := both_trim base D R v u z s W1 hW1 hbs1 hK1
              clear c1 c2 hWW
              go_wp2_with (first
                | (go_at_call 15; refine hq.mono ?_; rintro e w2 ⟨rfl, hq2⟩)
                | (go_at_call 24; refine hq2.mono ?_; rintro e w3 ⟨rfl, ⟨v3, u3, z3, s3, hB3⟩, hb3⟩))
              go_ret
              exact ⟨rfl, ⟨v3, u3, z3, s3, hB3⟩, hBb.trans hb3⟩
            · have k3' : (kind == 3) = false := by simpa using k3
              clear c1 c2 hWW
              go_wp2
              go_ret
              exact ⟨rfl, ⟨v, u, z, s, hW1⟩, hBb⟩
end
end Go.Proofs.YtknomnnbebhijabDoor
