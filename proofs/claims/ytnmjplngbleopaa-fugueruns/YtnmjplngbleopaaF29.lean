/- StrC Fg24 -/
import Derived.Test.YtnmjplngbleopaaF27
import Derived.Test.YtnmjplngbleopaaF28
namespace Go.Proofs.Ytnmjplngbleopaa
open Go.RowKit
open Go.RowKit Go.Shelf
set_option maxRecDepth 20000
set_option linter.unusedSimpArgs false
theorem flat_one (z : List Int) : (z.map fun c => [Value.int .u8 c]).flatten = z.map (Value.int .u8) := by
  induction z with
  | nil => rfl
  | cons a z ih => simp only [List.map_cons, List.flatten_cons, ih]; rfl
theorem OwnI.toB {w : World} {base : Nat} {v : Value} {z : List Int} (h : OwnI w base 5 1 v (z.map fun c => [.int .u8 c])) : OwnB w base v z := by
  have := h.own
  rw [List.length_map, flat_one] at this
  exact this
theorem text_map (N : List Nd) : (wrN N).map (chrC N) = (textN N).map fun c => [Value.int .u8 c] := by unfold textN; rw [List.map_map]; rfl
theorem textB_any (base R bc bn : Nat) (N : List Nd) (V : (Int × Int) × Bool → Value) (hN : TreeOk N) (hlen : N.length ≤ 1000) (w : World) (hTr : TreeAt w base R bc bn N V) :
    Calls Try.prog 7 #[.pointer (some ⟨R, 0, none⟩)] w fun e w' => ∃ v, e = .returned v ∧ OwnB w' w.heap.size v (textN N) ∧ Below w.heap.size w w' :=
  (textT_any base R bc bn N V hN hlen w hTr).mono fun e w' ⟨v, h1, h2, h3⟩ => ⟨v, h1, by rw [text_map] at h2; exact h2.toB, h3⟩
theorem TreeOk.nil : TreeOk [] := ⟨Rooted.nil, fun _ h => by simp at h⟩
theorem refI_ok {N : List Nd} {n : Nd} (h : refI N n = 0) : n.id ≠ (0, 0) ∧ 1 ≤ n.chr ∧ n.chr ≤ 127 ∧ (n.side.1 = (0, 0) → n.side.2 = true) ∧ (chrN N n.id).isSome = false ∧ (n.side.1 = (0, 0) ∨ (chrN N n.side.1).isSome = true) ∧ N.length < 512 := by
  unfold refI at h
  split at h
  · cases h
  · next h1 =>
    split at h
    · cases h
    · next h2 =>
      split at h
      · cases h
      · next h3 =>
        split at h
        · cases h
        · next h4 =>
          simp only [not_or, not_and] at h1
          refine ⟨h1.1, by omega, by omega, fun q => by simpa using h1.2.2.2 q, by simpa using h2, ?_, by omega⟩
          by_cases q : n.side.1 = (0, 0)
          · exact .inl q
          · refine .inr ?_
            cases q2 : (chrN N n.side.1).isSome with
            | false => exact absurd ⟨q, q2⟩ h3
            | true => rfl
theorem TreeOk.ins {N : List Nd} (h : TreeOk N) (n : Nd) : TreeOk (insN N n) := by
  unfold insN
  split
  · next hr =>
    obtain ⟨h1, -, -, h4, h5, h6, -⟩ := refI_ok hr
    refine ⟨h.rooted.snoc n h1 (chrN_fresh h5) (h6.imp id fun q => ?_), fun m hm hq => ?_⟩
    · obtain ⟨m, hm, e⟩ := chrN_some.1 q
      exact ⟨m, hm, e⟩
    · rcases List.mem_append.1 hm with q | q
      · exact h.right m q hq
      · rw [List.mem_singleton.1 q] at hq ⊢; exact h4 hq
  · exact h
theorem insN_len {N : List Nd} {n : Nd} : (insN N n).length ≤ N.length + 1 := by
  unfold insN
  split
  · simp
  · omega
abbrev n1L : Nd := ⟨(1, 1), ((0, 0), true), 97⟩
abbrev n2L : Nd := ⟨(1, 2), ((1, 1), true), 98⟩
abbrev n3L : Nd := ⟨(2, 1), ((1, 2), false), 99⟩
set_option maxHeartbeats 8000000 in
theorem live8_any (w : World) : Calls Try.prog 5 #[] w fun e w' => e = .returned (.bool true) ∧ Below w.heap.size w w' := by
  have hok1 := TreeOk.nil.ins n1L
  have hok2 := hok1.ins n2L
  have hok3 := hok2.ins n3L
  have r1 : refI [] n1L = 0 := by decide
  have e1 : insN [] n1L = [n1L] := by decide
  have r2 : refI [n1L] n2L = 0 := by decide
  have e2 : insN [n1L] n2L = [n1L, n2L] := by decide
  have r3 : refI [n1L, n2L] n3L = 0 := by decide
  have e3 : insN [n1L, n2L] n3L = [n1L, n2L, n3L] := by decide
  have et : textN [n1L, n2L, n3L] = [97, 99, 98] := by decide
  rw [e1] at hok2 hok3
  rw [e2] at hok3
  rw [e3] at hok3
  have hd : ∀ a b : Int, 0 ≤ a → a ≤ 255 → 0 ≤ b → b ≤ 4294967295 → okDF (a, b) := fun a b h1 h2 h3 h4 => ⟨⟨h1, h2⟩, ⟨h3, h4⟩⟩
  have HI1 : Veil (∀ R bc bn V W, w.heap.size ≤ W.heap.size → TreeAt W w.heap.size R bc bn [] V → Calls Try.prog 10 #[.pointer (some ⟨R, 0, none⟩), .agg #[.int .u8 1, .int .u32 1], .agg #[.int .u8 0, .int .u32 0], .bool true, .int .u8 97] W fun e w' => e = .returned (.int .i64 0) ∧ ∃ V', TreeAt w' w.heap.size R bc bn [n1L] V' ∧ TreeTo R bc bn V V' W w') := ⟨fun R bc bn V W hb hT => by
    have := insT_any w.heap.size R bc bn [] V n1L (hd 1 1 (by omega) (by omega) (by omega) (by omega)) (hd 0 0 (by omega) (by omega) (by omega) (by omega)) (by simp) W hb hT
    rw [r1, e1] at this; exact this⟩
  have HI2 : Veil (∀ R bc bn V W, w.heap.size ≤ W.heap.size → TreeAt W w.heap.size R bc bn [n1L] V → Calls Try.prog 10 #[.pointer (some ⟨R, 0, none⟩), .agg #[.int .u8 1, .int .u32 2], .agg #[.int .u8 1, .int .u32 1], .bool true, .int .u8 98] W fun e w' => e = .returned (.int .i64 0) ∧ ∃ V', TreeAt w' w.heap.size R bc bn [n1L, n2L] V' ∧ TreeTo R bc bn V V' W w') := ⟨fun R bc bn V W hb hT => by
    have := insT_any w.heap.size R bc bn [n1L] V n2L (hd 1 2 (by omega) (by omega) (by omega) (by omega)) (hd 1 1 (by omega) (by omega) (by omega) (by omega)) (by simp) W hb hT
    rw [r2, e2] at this; exact this⟩
  have HI3 : Veil (∀ R bc bn V W, w.heap.size ≤ W.heap.size → TreeAt W w.heap.size R bc bn [n1L, n2L] V → Calls Try.prog 10 #[.pointer (some ⟨R, 0, none⟩), .agg #[.int .u8 2, .int .u32 1], .agg #[.int .u8 1, .int .u32 2], .bool false, .int .u8 99] W fun e w' => e = .returned (.int .i64 0) ∧ ∃ V', TreeAt w' w.heap.size R bc bn [n1L, n2L, n3L] V' ∧ TreeTo R bc bn V V' W w') := ⟨fun R bc bn V W hb hT => by
    have := insT_any w.heap.size R bc bn [n1L, n2L] V n3L (hd 2 1 (by omega) (by omega) (by omega) (by omega)) (hd 1 2 (by omega) (by omega) (by omega) (by omega)) (by simp) W hb hT
    rw [r3, e3] at this; exact this⟩
  have HTX : Veil (∀ R bc bn V W, TreeAt W w.heap.size R bc bn [n1L, n2L, n3L] V → Calls Try.prog 7 #[.pointer (some ⟨R, 0, none⟩)] W fun e w' => ∃ x c, e = .returned (.slice x 3 c) ∧ (convert 35 9 (.slice x 3 c)).run Try.prog w' = .ok (.string (strOfNums [97, 99, 98])) w' ∧ Below W.heap.size W w') := ⟨fun R bc bn V W hT => (textB_any w.heap.size R bc bn _ V hok3 (by simp) W hT).mono fun e w' ⟨v, h1, h2, h3⟩ => by
    rw [et] at h2
    obtain ⟨x, c, rfl⟩ : ∃ x c, v = .slice x 3 c := by
      rcases h2.2 with ⟨rfl, h0⟩ | ⟨g, cap, cur, rfl, _⟩
      · simp at h0
      · exact ⟨_, _, rfl⟩
    exact ⟨x, c, h1, conv_bytes h2.bytes.2, h3⟩⟩
  have hnew := newT_any w
  clear hok1 hok2 hok3 r1 e1 r2 e2 r3 e3 et hd
  -- the two dots
  have HD : Veil (∀ W1 : World, ∃ W2, W2 = (W1.alloc (.cells #[.int .u8 1, .int .u32 1] 32)).alloc (.cells #[.int .u8 1, .int .u32 2] 32) ∧ CellsAt W2 W1.heap.size 32 [.int .u8 1, .int .u32 1] ∧ CellsAt W2 (W1.heap.size + 1) 32 [.int .u8 1, .int .u32 2] ∧ Below W1.heap.size W1 W2) := ⟨fun W1 => ⟨_, rfl, (CellsAt.new W1 32 [.int .u8 1, .int .u32 1]).alloc _, by
    have := CellsAt.new (W1.alloc (.cells #[.int .u8 1, .int .u32 1] 32)) 32 [.int .u8 1, .int .u32 2]
    rw [World.size_alloc] at this; exact this, ((Below.refl _ _).alloc (Nat.le_refl _) _).alloc (by simp) _⟩⟩
  -- they stay
  have HK : Veil (∀ (R bc bn : Nat) (V V' : (Int × Int) × Bool → Value) (A B : World) (d : Nat) (cs : List Value), TreeTo R bc bn V V' A B → CellsAt A d 32 cs → ¬ treeP R bc bn V d → CellsAt B d 32 cs ∧ ¬ treeP R bc bn V' d) := ⟨fun R bc bn V V' A B d cs ht hc hn => ⟨hc.congr (ht.turn.block d hc.lt hn), fun q => by
    rcases ht.own d q with r | r
    · exact hn r
    · have := hc.lt; omega⟩⟩
  have uD := Try.underlying32
  have i11 : (Try.prog.info? 32).map (·.size) = some [Value.int .u8 1, Value.int .u32 1].length := sizeDot
  have i12 : (Try.prog.info? 32).map (·.size) = some [Value.int .u8 1, Value.int .u32 2].length := sizeDot
  have HS : Veil (((strOfNums [97, 99, 98]).toList == [97, 99, 98]) = true) := ⟨by rw [show (strOfNums [97, 99, 98]).toList = [97, 99, 98] by rw [ByteArray.toList_eq]; show (strOfNums [97, 99, 98]).data.toList = _; rw [strOfNums_data]; rfl]; rfl⟩
  go_enter Try.func5, Try.ntmps5
  go_upto_region 3 with (go_at_call 12; refine hnew.mono ?_; rintro z W1 ⟨R, bc, bn, rfl, hT, hb, hR, hbc, hbn⟩)
  obtain ⟨W2, hW2, hd1, hd2, hb2⟩ := HD.out W1
  rw [← hW2]
  have hz1 := hb.size
  have hlt := hT.blockLt
  have hT2 := hT.far hb2
  have hn1 : ¬ treeP R bc bn (fun _ => .slice none 0 0) W1.heap.size := fun q => by have := hlt _ q; omega
  have hn2 : ¬ treeP R bc bn (fun _ => .slice none 0 0) (W1.heap.size + 1) := fun q => by have := hlt _ q; omega
  have hB2 : Below w.heap.size w W2 := hb.trans (hb2.mono hb.size)
  have hr1 := hd1.wholeM
  obtain ⟨V0, hV0⟩ : ∃ q : (Int × Int) × Bool → Value, (fun _ => Value.slice none 0 0) = q := ⟨_, rfl⟩
  rw [hV0] at hT2 hn1 hn2
  have HBV : Veil (∀ k, treeP R bc bn V0 k → w.heap.size ≤ k) := ⟨fun k hk => by
    rcases hk with q | q | q | ⟨s, _, q⟩
    · omega
    · omega
    · omega
    · rw [← hV0] at q; cases q⟩
  have hi1 := HI1.out R bc bn V0 W2 hB2.size hT2
  clear hW2 hT hlt hV0 hz1 hb hb2 hnew HI1 hR hbc hbn HD hT2
  obtain ⟨d2, hd2e⟩ : ∃ q, W1.heap.size + 1 = q := ⟨_, rfl⟩
  rw [hd2e] at hd2 hn2 ⊢
  obtain ⟨d1, hd1e⟩ : ∃ q, W1.heap.size = q := ⟨_, rfl⟩
  rw [hd1e] at hd1 hn1 hr1 ⊢
  clear hd1e hd2e W1
  have HBT : Veil (∀ (V V' : (Int × Int) × Bool → Value) (A B : World), TreeTo R bc bn V V' A B → Below w.heap.size w A → (∀ k, treeP R bc bn V k → w.heap.size ≤ k) → Below w.heap.size w B ∧ (∀ k, treeP R bc bn V' k → w.heap.size ≤ k)) := ⟨fun V V' A B ht hb hk => ⟨⟨ht.turn.os.trans hb.os, ht.turn.tape.trans hb.tape, ht.turn.output.trans hb.output, Nat.le_trans hb.size ht.turn.size, fun k hkk => (ht.turn.block k (by have := hb.size; omega) (fun q => by have := hk k q; omega)).trans (hb.block k hkk)⟩, fun k q => by
    rcases ht.own k q with r | r
    · exact hk k r
    · have := hb.size; omega⟩⟩
  have HST1 := Veil.mk (And.intro hd1 (And.intro hn1 (And.intro hd2 (And.intro hn2 hB2))))
  clear hd1 hn1 hd2 hn2 hB2
  go_wp2_with (first
    | (refine wpList_ldv rfl 32 (.tmp 2) rfl d1 0 rfl [.int .u8 1, .int .u32 1] hr2 uD rfl i11 ?_)
    | (refine wpList_ldv rfl 32 (.tmp 2) rfl d1 0 rfl [.int .u8 1, .int .u32 1] hr1 uD rfl i11 ?_)
    | (refine wpList_ldv rfl 32 (.tmp 3) rfl d2 0 rfl [.int .u8 1, .int .u32 2] hr4 uD rfl i12 ?_)
    | (refine wpList_ldv rfl 32 (.tmp 3) rfl d2 0 rfl [.int .u8 1, .int .u32 2] hr3 uD rfl i12 ?_)
    | (go_at_call 10; refine hi3.mono ?_; rintro z W5 ⟨rfl, V5, hT5, ht5⟩; have htx := HTX.out R bc bn V5 W5 hT5; have HB5 := Veil.mk (HBT.out _ _ _ _ ht5 HST2.out.2.2.1 HST2.out.2.2.2.1).1; clear hi3 hT5 ht5)
    | (go_at_call 10; refine hi2.mono ?_; rintro z W4 ⟨rfl, V4, hT4, ht4⟩; obtain ⟨k1, k2⟩ := HK.out R bc bn _ _ _ _ d2 _ ht4 HST1a.out.2.2.1 HST1a.out.2.2.2.1; obtain ⟨k3, k4⟩ := HBT.out _ _ _ _ ht4 HST1a.out.2.2.2.2.1 HST1a.out.2.2.2.2.2; have hr4 := k1.wholeM; have HST2 := Veil.mk (And.intro k1 (And.intro k2 (And.intro k3 (And.intro k4 trivial)))); have hi3 := HI3.out R bc bn V4 W4 k3.size hT4; clear hi2 hT4 ht4 k1 k2 k3 k4 hr3 hr2)
    | (go_at_call 10; refine hi1.mono ?_; rintro z W3 ⟨rfl, V3, hT3, ht3⟩; obtain ⟨k1, k2⟩ := HK.out R bc bn _ _ _ _ d1 _ ht3 HST1.out.1 HST1.out.2.1; obtain ⟨k3, k4⟩ := HK.out R bc bn _ _ _ _ d2 _ ht3 HST1.out.2.2.1 HST1.out.2.2.2.1; obtain ⟨k5, k6⟩ := HBT.out _ _ _ _ ht3 HST1.out.2.2.2.2 HBV.out; have hr2 := k1.wholeM; have hr3 := k3.wholeM; have hi2 := HI2.out R bc bn V3 W3 k5.size hT3; have HST1a := Veil.mk (And.intro k1 (And.intro k2 (And.intro k3 (And.intro k4 (And.intro k5 k6))))); clear hi1 hT3 ht3 k1 k2 k3 k4 k5 k6 hr1)
    | (go_at_call 7; refine htx.mono ?_; rintro z W6 ⟨sx, sc, rfl, hcv, hb6⟩))
  go_ret
  exact ⟨by rw [← HS.out]; rfl, HB5.out.trans (hb6.mono HB5.out.size)⟩
end Go.Proofs.Ytnmjplngbleopaa
