/- acl: a member's role. -/
import Derived.Test.YthodlbkgggaibaaAb5
namespace Go.Proofs.Ythodlbkgggaibaa
open Go.RowKit Go.Shelf
set_option maxRecDepth 20000
set_option linter.unusedSimpArgs false
theorem afirst_any (who : Int) (w : World) :
    Calls Try.prog 36 #[.int .u8 who] w fun e w' => e = .returned (.int .u8 (if who = 0 then 3 else 0)) ∧ w' = w := by
  go_enter Try.func36, Try.ntmps36
  by_cases h : who = 0
  · subst h
    go_wp2
    go_ret
    exact ⟨rfl, rfl⟩
  · have hb : (who == 0) = false := by simpa using h
    have HR : Veil ((if who = 0 then (3 : Int) else 0) = 0) := ⟨if_neg h⟩
    go_wp2
    go_ret
    exact ⟨rfl, rfl⟩
theorem role_nil (who : Int) (v : List Int) (w : World) :
    Calls Try.prog 17 #[.pointer none, .int .u8 who, .agg (v.map (Value.int .u32)).toArray] w fun e w' => e = .returned (.int .u8 0) ∧ Below w.heap.size w w' := by
  generalize v.map (Value.int .u32) = V
  have hB : Veil (Below w.heap.size w ((w.alloc (.cells #[.int .u8 who] 5)).alloc (.cells V.toArray 25))) := ⟨((Below.refl _ _).alloc (Nat.le_refl _) _).alloc (by simp) _⟩
  go_enter Try.func17, Try.ntmps17
  go_wp2
  go_ret
  exact ⟨rfl, hB.out⟩
set_option maxHeartbeats 4000000 in
theorem role_any (H b : Nat) (L : List Ent) (who : Int) (v : List Int) (w : World) (hB : BookC w H b L) (hv : v.length = 8) :
    Calls Try.prog 17 #[.pointer (some ⟨H, 0, none⟩), .int .u8 who, .agg (v.map (Value.int .u32)).toArray] w fun e w' => e = .returned (.int .u8 (roleP L who v)) ∧ Below w.heap.size w w' := by
  obtain ⟨W1, hW1⟩ : ∃ W, W = (w.alloc (.cells #[.int .u8 who] 5)).alloc (.cells (v.map (Value.int .u32)).toArray 25) := ⟨_, rfl⟩
  have hb1 : Below w.heap.size w W1 := by rw [hW1]; exact ((Below.refl _ _).alloc (Nat.le_refl _) _).alloc (by simp) _
  have cw1 : W1.cell? ⟨w.heap.size, 0, none⟩ = some (.int .u8 who) := by rw [hW1]; exact ((CellsAt.new w 5 [.int .u8 who]).alloc _).cell 0
  have cv1 : CellsAt W1 (w.heap.size + 1) 25 (v.map (Value.int .u32)) := by
    rw [hW1]
    have := CellsAt.new (w.alloc (.cells #[.int .u8 who] 5)) 25 (v.map (Value.int .u32))
    rw [World.size_alloc] at this; exact this
  have hBk1 := hB.far hb1
  have hco := counting_any H w.heap.size (w.heap.size + 1) W1
  have hsz1 : W1.heap.size = w.heap.size + 2 := by rw [hW1]; simp
  have HRP : Veil (roleP L who v = if 8 ≤ who then 0 else if (leastL (lastL (toldL L who v))).2 = true then (leastL (lastL (toldL L who v))).1 else if who = 0 then 3 else 0) := ⟨rfl⟩
  have HX : Veil (∀ W2, Below W1.heap.size W1 W2 → W2.heap.size = W1.heap.size + 2 → W2.cell? ⟨W1.heap.size, 0, none⟩ = some (.pointer (some ⟨H, 0, none⟩)) → W2.cell? ⟨W1.heap.size + 1, 0, none⟩ = some (.func (.func 32) #[] #[.pointer (some ⟨w.heap.size, 0, none⟩), .pointer (some ⟨w.heap.size + 1, 0, none⟩)]) →
      ∀ W3, W3 = W2.alloc (.cells #[.func (.func 41) #[] #[.pointer (some ⟨W1.heap.size, 0, none⟩), .pointer (some ⟨W1.heap.size + 1, 0, none⟩)]] 61) →
      (Calls Try.prog 34 #[.func (.func 42) #[] #[.pointer (some ⟨W2.heap.size, 0, none⟩)]] W3 fun e w' => e = .returned (.tuple #[.int .u8 (leastL (lastL (toldL L who v))).1, .bool (leastL (lastL (toldL L who v))).2]) ∧ Below W3.heap.size W3 w') ∧ Below w.heap.size w W3 ∧ W3.cell? ⟨w.heap.size, 0, none⟩ = some (.int .u8 who)) := ⟨fun W2 hb2 hs2 h1 h2 W3 hW3 => by
    have hb3 : Below W2.heap.size W2 W3 := by rw [hW3]; exact (Below.refl _ _).alloc (Nat.le_refl _) _
    have hC : CtF W2 W1.heap.size (W1.heap.size + 1) H b w.heap.size (w.heap.size + 1) L who v := ⟨h1, h2, hBk1.far hb2, (hb2.cell (p := ⟨w.heap.size, 0, none⟩) (block_lt_of_cell cw1)).trans cw1, (cv1.farM hb2).wholeM, hv⟩
    have hC3 : CtF W3 W1.heap.size (W1.heap.size + 1) H b w.heap.size (w.heap.size + 1) L who v := hC.keep (fun k hk => hb3.block k hk)
    have hlt : H < W3.heap.size ∧ b < W3.heap.size := ⟨hC3.book.cells.lt, hC3.book.map.lt⟩
    have hz3 : W3.heap.size = w.heap.size + 5 := by rw [hW3, World.size_alloc]; omega
    have hOwn : ∀ k, (k = b ∨ k = H ∨ k = W1.heap.size ∨ k = W1.heap.size + 1 ∨ k = w.heap.size ∨ k = w.heap.size + 1) → k < W3.heap.size := fun k hk => by
      rcases hk with rfl | rfl | rfl | rfl | rfl | rfl
      · exact hlt.2
      · exact hlt.1
      all_goals omega
    have hbe : W3.cell? ⟨W2.heap.size, 0, none⟩ = some (.func (.func 41) #[] #[.pointer (some ⟨W1.heap.size, 0, none⟩), .pointer (some ⟨W1.heap.size + 1, 0, none⟩)]) := by rw [hW3]; exact (CellsAt.new W2 61 [.func (.func 41) #[] #[.pointer (some ⟨W1.heap.size, 0, none⟩), .pointer (some ⟨W1.heap.size + 1, 0, none⟩)]]).cell 0
    have h21 := hb2.size
    refine ⟨least_any 42 _ (enters_of Try.func42 (by kernel_rfl) rfl) _ _ L.length W3 (fun m => last1_seq m W2.heap.size 41 _ (enters_of Try.func41 (by kernel_rfl) rfl) _ (toldL L who v) (fun x hx => ?_) L.length W3 (fun m => counting1_seq m W1.heap.size (W1.heap.size + 1) H b w.heap.size (w.heap.size + 1) L who v W3 hC3) hbe hOwn) (fun k hk => ?_), ?_, hC3.cw⟩
    · unfold toldL at hx
      obtain ⟨y, hy, rfl⟩ := List.mem_map.1 hx
      exact hB.map.ok y (List.mem_filter.1 hy).1
    · rcases hk with q | q
      · exact hOwn k q
      · omega
    · exact (hb1.trans (hb2.mono hb1.size)).trans (hb3.mono (by omega))⟩
  obtain ⟨LS, hLS⟩ : ∃ q, leastL (lastL (toldL L who v)) = q := ⟨_, rfl⟩
  obtain ⟨LR, LT⟩ := LS
  rw [hLS] at HX HRP
  have HW1 := Veil.mk hW1
  have HB1 := Veil.mk hb1
  clear hLS hB hv hBk1 cv1 hsz1 hW1 hb1
  generalize roleP L who v = RP at HRP ⊢
  generalize v.map (Value.int .u32) = V at HW1
  have cw0 : ((w.alloc (.cells #[.int .u8 who] 5)).alloc (.cells V.toArray 25)).cell? ⟨w.heap.size, 0, none⟩ = some (.int .u8 who) := by rw [← HW1.out]; exact cw1
  go_enter Try.func17, Try.ntmps17
  by_cases h8 : (8 : Int) ≤ who
  · have HE : Veil (RP = 0) := ⟨by rw [HRP.out, if_pos h8]⟩
    clear hco HX HRP
    go_wp2
    go_ret
    exact ⟨by rw [HE.out]; rfl, by rw [← HW1.out]; exact HB1.out⟩
  · replace HRP : Veil (RP = if LT = true then LR else if who = 0 then 3 else 0) := ⟨by rw [HRP.out, if_neg h8]⟩
    have hla := fun W2 => last_any 41 #[.pointer (some ⟨W1.heap.size, 0, none⟩), .pointer (some ⟨W1.heap.size + 1, 0, none⟩)] W2
    have haf := fun W4 => afirst_any who W4
    generalize (if who = 0 then (3 : Int) else 0) = F0 at haf HRP
    cases LT with
    | true =>
      replace HRP : Veil (RP = LR) := ⟨by rw [HRP.out]; rfl⟩
      go_wp2_with (first
        | (go_at_call 34; refine hle.mono ?_; rintro z W4 ⟨rfl, hb4⟩)
        | (go_at_call 35; refine (hla W2).mono ?_; rintro z W3 ⟨rfl, hW3⟩; obtain ⟨hle, hB3, cw3⟩ := HXX.out W3 hW3; clear hW3)
        | (go_at_call 31; rw [← HW1.out]; refine hco.mono ?_; rintro z W2 ⟨rfl, hb2, hs2, c1, c2⟩; have HXX := Veil.mk (HX.out W2 hb2 hs2 c1 c2); clear hs2 c1 c2 hb2))
      go_ret
      exact ⟨by rw [HRP.out]; rfl, hB3.trans (hb4.mono hB3.size)⟩
    | false =>
      replace HRP : Veil (RP = F0) := ⟨by rw [HRP.out]; rfl⟩
      go_wp2_with (first
        | (go_at_call 36; refine (haf W4).mono ?_; rintro z W5 ⟨rfl, rfl⟩)
        | (go_at_call 34; refine hle.mono ?_; rintro z W4 ⟨rfl, hb4⟩; have cw4 : W4.cell? ⟨w.heap.size, 0, none⟩ = some (.int .u8 who) := (hb4.cell (p := ⟨w.heap.size, 0, none⟩) (block_lt_of_cell cw3)).trans cw3)
        | (go_at_call 35; refine (hla W2).mono ?_; rintro z W3 ⟨rfl, hW3⟩; obtain ⟨hle, hB3, cw3⟩ := HXX.out W3 hW3; clear hW3)
        | (go_at_call 31; rw [← HW1.out]; refine hco.mono ?_; rintro z W2 ⟨rfl, hb2, hs2, c1, c2⟩; have HXX := Veil.mk (HX.out W2 hb2 hs2 c1 c2); clear hs2 c1 c2 hb2))
      go_ret
      exact ⟨by rw [HRP.out]; rfl, hB3.trans (hb4.mono hB3.size)⟩
end Go.Proofs.Ythodlbkgggaibaa

