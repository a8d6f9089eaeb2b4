/- Fg22 -/
import Derived.Test.YtnmjplngbleopaaF25
namespace Go.Proofs.Ytnmjplngbleopaa
open Go.RowKit Go.Shelf
set_option maxRecDepth 20000
set_option linter.unusedSimpArgs false
theorem results_ct {P : Program} {fn : Func} {p q : Tmp} {ty t : TypeId} {d : TypeDesc} (h : fn.results = #[.cell p ty, .tmp q]) (tmps : Array Value) {w : World} {A : Nat} {cs : List Value} {v : Value} (hp : tmps.getD p undef = .pointer (some ⟨A, 0, none⟩)) (hq : tmps.getD q undef = v) (hA : CellsAt w A t cs)
    (hu : P.underlying ty = some d) (hd : (match d with | .struct _ | .array _ _ => true | _ => false) = true) (hi : (P.info? ty).map (·.size) = some cs.length) :
    (results fn tmps).run P w = .ok (.tuple #[.agg cs.toArray, v]) w := by
  have hp' : tmps[p]?.getD undef = .pointer (some ⟨A, 0, none⟩) := by simpa using hp
  have hq' : tmps[q]?.getD undef = v := by simpa using hq
  have hl := run_loadVar_row w A t ty cs.toArray (0, 0) _ hA hu hd (by rw [hi]; simp)
  simp [results, h, hp', hq', asAddr, hl]
theorem results_ctt {P : Program} {fn : Func} {p q r : Tmp} {ty t : TypeId} {d : TypeDesc} (h : fn.results = #[.cell p ty, .tmp q, .tmp r]) (tmps : Array Value) {w : World} {A : Nat} {cs : List Value} {v u : Value} (hp : tmps.getD p undef = .pointer (some ⟨A, 0, none⟩)) (hq : tmps.getD q undef = v) (hr : tmps.getD r undef = u) (hA : CellsAt w A t cs)
    (hu : P.underlying ty = some d) (hd : (match d with | .struct _ | .array _ _ => true | _ => false) = true) (hi : (P.info? ty).map (·.size) = some cs.length) :
    (results fn tmps).run P w = .ok (.tuple #[.agg cs.toArray, v, u]) w := by
  have hp' : tmps[p]?.getD undef = .pointer (some ⟨A, 0, none⟩) := by simpa using hp
  have hq' : tmps[q]?.getD undef = v := by simpa using hq
  have hr' : tmps[r]?.getD undef = u := by simpa using hr
  have hl := run_loadVar_row w A t ty cs.toArray (0, 0) _ hA hu hd (by rw [hi]; simp)
  simp [results, h, hp', hq', hr', asAddr, hl]
def leftN (N : List Nd) (i : Int) : (Int × Int) × Int := if i < 0 then ((0, 0), 2) else if i = 0 then ((0, 0), 0) else (atD (atN N (i - 1)), atE (atN N (i - 1)))
set_option maxHeartbeats 4000000 in
theorem leftOf_any (base R bc bn : Nat) (N : List Nd) (V : (Int × Int) × Bool → Value) (hN : TreeOk N) (hlen : N.length ≤ 1000) (i : Int) (hi : i ≤ 9223372036854775807) (w : World) (hT : TreeAt w base R bc bn N V) :
    Calls Try.prog 18 #[.pointer (some ⟨R, 0, none⟩), .int .i64 i] w fun e w' => e = .returned (.tuple #[.agg (encF (leftN N i).1).toArray, .int .i64 (leftN N i).2]) ∧ Below w.heap.size w w' := by
  have hB : Below w.heap.size w (w.alloc (.cells #[.int .u8 0, .int .u32 0] 32)) := (Below.refl _ _).alloc (Nat.le_refl _) _
  have hc := CellsAt.new w 32 [.int .u8 0, .int .u32 0]
  have HA : Veil (∀ W, Below w.heap.size w W → Calls Try.prog 30 #[.pointer (some ⟨R, 0, none⟩), .int .i64 (i - 1)] W fun e w' => e = .returned (.tuple #[.agg (encF (atD (atN N (i - 1)))).toArray, .int .i64 (atE (atN N (i - 1)))]) ∧ Below W.heap.size W w') := ⟨fun W hb => atT2_any base R bc bn N V hN hlen (i - 1) W (hT.far hb)⟩
  have iZ : (Try.prog.info? 32).map (·.size) = some [Value.int .u8 0, Value.int .u32 0].length := sizeDot
  have uD := Try.underlying32
  by_cases h1 : i < 0
  · have HL : Veil (leftN N i = ((0, 0), 2)) := ⟨by unfold leftN; rw [if_pos h1]⟩
    clear HA hT hN hlen hi
    go_enter Try.func18, Try.ntmps18
    go_wp2
    refine bodyPost_ret (results_ct (Try.results18) _ rfl rfl hc uD rfl iZ) rfl ⟨by rw [HL.out]; rfl, hB⟩
  by_cases h2 : i = 0
  · have HL : Veil (leftN N i = ((0, 0), 0)) := ⟨by unfold leftN; rw [if_neg h1, if_pos h2]⟩
    subst h2
    clear HA hT hN hlen hi h1
    go_enter Try.func18, Try.ntmps18
    go_wp2
    refine bodyPost_ret (results_ct (Try.results18) _ rfl rfl hc uD rfl iZ) rfl ⟨by rw [HL.out]; rfl, hB⟩
  have HL : Veil (leftN N i = (atD (atN N (i - 1)), atE (atN N (i - 1)))) := ⟨by unfold leftN; rw [if_neg h1, if_neg h2]⟩
  have hw : IntKind.i64.wrap (i - 1) = i - 1 := by rw [IntKind.wrap_i64]; omega
  have h2b : (i == 0) = false := by simpa using h2
  have ha := HA.out _ hB
  generalize atD (atN N (i - 1)) = x at ha HL
  generalize atE (atN N (i - 1)) = ee at ha HL
  obtain ⟨xa, xb⟩ := x
  simp only [encF, dotC] at ha
  have iX : (Try.prog.info? 32).map (·.size) = some [Value.int .u8 xa, Value.int .u32 xb].length := sizeDot
  have hx1 : ∀ v ∈ [Value.int .u8 xa, Value.int .u32 xb], v.oneCell' = true := encF_one (xa, xb)
  have HF : Veil (∀ W1, Below (w.alloc (.cells #[.int .u8 0, .int .u32 0] 32)).heap.size (w.alloc (.cells #[.int .u8 0, .int .u32 0] 32)) W1 → CellsAt W1 w.heap.size 32 [.int .u8 0, .int .u32 0] ∧ CellsAt (W1.setRow w.heap.size #[.int .u8 xa, .int .u32 xb]) w.heap.size 32 [.int .u8 xa, .int .u32 xb] ∧ Below w.heap.size w (W1.setRow w.heap.size #[.int .u8 xa, .int .u32 xb])) := ⟨fun W1 hb => by
    have h1 := hc.farM hb
    refine ⟨h1, h1.setRow [.int .u8 xa, .int .u32 xb], below_setRow (hB.trans (hb.mono hB.size)) (Nat.le_refl _) _⟩⟩
  clear HA hT hN hlen hi h2 hc hB
  go_enter Try.func18, Try.ntmps18
  go_wp2_with (first
    | (go_at_call 30; refine ha.mono ?_; rintro z W1 ⟨rfl, hb1⟩; obtain ⟨hc1, hq1⟩ := HF.out W1 hb1; have HQ := Veil.mk hq1; clear hq1)
    | (refine wpList_stv rfl 32 (.tmp 4) _ rfl w.heap.size rfl (cs := [.int .u8 xa, .int .u32 xb]) rfl hc1 iX rfl hx1 ?_))
  refine bodyPost_ret (results_ct (Try.results18) _ rfl rfl HQ.out.1 uD rfl iX) rfl ⟨by rw [HL.out]; rfl, HQ.out.2⟩
def placeN (N : List Nd) (i : Int) : (Int × Int) × Bool × Int :=
  if (leftN N i).2 ≠ 0 then ((0, 0), false, (leftN N i).2) else match (walkA N ((leftN N i).1, true)).head? with | some x => (x, false, 0) | none => ((leftN N i).1, true, 0)
theorem leftN_ok {w : World} {base R bc bn : Nat} {N : List Nd} {V : (Int × Int) × Bool → Value} (hN : TreeOk N) (hT : TreeAt w base R bc bn N V) (i : Int) : okDF (leftN N i).1 := by
  have h0 : okDF (0, 0) := okRoot
  unfold leftN
  split
  · exact h0
  · split
    · exact h0
    · unfold atN
      split
      · exact h0
      · cases hq : (wrN N)[(i - 1).toNat]? with
        | none => exact h0
        | some x =>
          have hx := List.mem_of_getElem? hq
          obtain ⟨n, hn, e⟩ := mem_walk hN.rooted rootS x (List.mem_filter.1 hx).1
          show okDF x
          rw [← e]; exact (hT.okId n hn).1
set_option maxHeartbeats 8000000 in
theorem placeT_any (base R bc bn : Nat) (N : List Nd) (V : (Int × Int) × Bool → Value) (hN : TreeOk N) (hlen : N.length ≤ 1000) (i : Int) (hi : i ≤ 9223372036854775807) (w : World) (hT : TreeAt w base R bc bn N V) :
    Calls Try.prog 9 #[.pointer (some ⟨R, 0, none⟩), .int .i64 i] w fun e w' => e = .returned (.tuple #[.agg (encF (placeN N i).1).toArray, .bool (placeN N i).2.1, .int .i64 (placeN N i).2.2]) ∧ Below w.heap.size w w' := by
  have hB : Below w.heap.size w (w.alloc (.cells #[.int .u8 0, .int .u32 0] 32)) := (Below.refl _ _).alloc (Nat.le_refl _) _
  have hc := CellsAt.new w 32 [.int .u8 0, .int .u32 0]
  have hlf := leftOf_any base R bc bn N V hN hlen i hi _ (hT.far hB)
  have HFI : Veil (∀ W, Below w.heap.size w W → Calls Try.prog 19 #[.pointer (some ⟨R, 0, none⟩), .agg (sideC ((leftN N i).1, true)).toArray] W fun e w' => e = .returned (.tuple #[.agg (encF (atD (walkA N ((leftN N i).1, true)).head?)).toArray, .bool (walkA N ((leftN N i).1, true)).head?.isSome]) ∧ Below W.heap.size W w') := ⟨fun W hb => firstT_any base R bc bn N V hN hlen ((leftN N i).1, true) (leftN_ok hN hT i) W (hT.far hb)⟩
  have HPL : Veil (placeN N i = if (leftN N i).2 ≠ 0 then ((0, 0), false, (leftN N i).2) else match (walkA N ((leftN N i).1, true)).head? with | some x => (x, false, 0) | none => ((leftN N i).1, true, 0)) := ⟨rfl⟩
  generalize placeN N i = PL at HPL ⊢
  generalize leftN N i = LN at hlf HFI HPL
  obtain ⟨⟨xa, xb⟩, ee⟩ := LN
  simp only [encF, dotC] at hlf
  have iZ : (Try.prog.info? 32).map (·.size) = some [Value.int .u8 0, Value.int .u32 0].length := sizeDot
  have iX : (Try.prog.info? 32).map (·.size) = some [Value.int .u8 xa, Value.int .u32 xb].length := sizeDot
  have hx1 : ∀ v ∈ [Value.int .u8 xa, Value.int .u32 xb], v.oneCell' = true := encF_one (xa, xb)
  have hz1 : ∀ v ∈ [Value.int .u8 0, Value.int .u32 0], v.oneCell' = true := encF_one (0, 0)
  have uD := Try.underlying32
  have HF : Veil (∀ W1, Below (w.alloc (.cells #[.int .u8 0, .int .u32 0] 32)).heap.size (w.alloc (.cells #[.int .u8 0, .int .u32 0] 32)) W1 → Below w.heap.size w W1 ∧ CellsAt W1 w.heap.size 32 [.int .u8 0, .int .u32 0]) := ⟨fun W1 hb => ⟨hB.trans (hb.mono hB.size), hc.farM hb⟩⟩
  -- a dot that is laid in a block of its own
  have HN : Veil (∀ (W1 : World) (ya yb : Int), Below w.heap.size w W1 → CellsAt W1 w.heap.size 32 [.int .u8 0, .int .u32 0] → ∃ V2, V2 = (W1.alloc (.cells #[.int .u8 0, .int .u32 0] 32)).setRow W1.heap.size #[.int .u8 ya, .int .u32 yb] ∧ CellsAt V2 W1.heap.size 32 [.int .u8 ya, .int .u32 yb] ∧ CellsAt V2 w.heap.size 32 [.int .u8 0, .int .u32 0] ∧ Below w.heap.size w V2 ∧ Below W1.heap.size W1 V2) := ⟨fun W1 ya yb hb hc => by
    refine ⟨_, rfl, (CellsAt.new W1 32 [.int .u8 0, .int .u32 0]).setRow [.int .u8 ya, .int .u32 yb], (hc.alloc _).setRowM _ (by have := hc.lt; omega), ?_, ?_⟩
    · exact below_setRow (hb.alloc hb.size _) hb.size _
    · exact below_setRow ((Below.refl _ _).alloc (Nat.le_refl _) _) (Nat.le_refl _) _⟩
  have HE : Veil (∀ (V2 : World) (ya yb : Int), CellsAt V2 w.heap.size 32 [.int .u8 0, .int .u32 0] → Below w.heap.size w V2 → CellsAt (V2.setRow w.heap.size #[.int .u8 ya, .int .u32 yb]) w.heap.size 32 [.int .u8 ya, .int .u32 yb] ∧ Below w.heap.size w (V2.setRow w.heap.size #[.int .u8 ya, .int .u32 yb])) := ⟨fun V2 ya yb hc hb => ⟨hc.setRow [.int .u8 ya, .int .u32 yb], below_setRow hb (Nat.le_refl _) _⟩⟩
  clear hc hB hT hN hlen hi
  by_cases he : ee = 0
  · subst he
    replace HPL : Veil (PL = match (walkA N ((xa, xb), true)).head? with | some x => (x, false, 0) | none => ((xa, xb), true, 0)) := ⟨by rw [HPL.out]; rfl⟩
    simp only [sideC, encF, dotC, List.cons_append, List.nil_append] at HFI
    generalize (walkA N ((xa, xb), true)).head? = HD at HFI HPL
    obtain ⟨y, hy⟩ : ∃ y, atD HD = y := ⟨_, rfl⟩
    rw [hy] at HFI
    have HPT : Veil (∀ z, HD = some z → PL = ((y.1, y.2), false, 0)) := ⟨fun z hz => by rw [HPL.out, hz, ← hy, hz]; rfl⟩
    have HPF : Veil (HD = none → PL = ((xa, xb), true, 0)) := ⟨fun hz => by rw [HPL.out, hz]⟩
    obtain ⟨ya, yb⟩ := y
    have iY : (Try.prog.info? 32).map (·.size) = some [Value.int .u8 ya, Value.int .u32 yb].length := sizeDot
    have hy1 : ∀ v ∈ [Value.int .u8 ya, Value.int .u32 yb], v.oneCell' = true := encF_one (ya, yb)
    clear hy HPL
    cases HD with
    | none =>
      replace HPF : Veil (PL = ((xa, xb), true, 0)) := ⟨HPF.out rfl⟩
      clear HPT
      go_enter Try.func9, Try.ntmps9
      go_wp2_with (first
        | (go_at_call 18; refine hlf.mono ?_; rintro z W1 ⟨rfl, hb1⟩; obtain ⟨hB1, hc1⟩ := HF.out W1 hb1; obtain ⟨V2, hv2, hx2, hc2, hB2, -⟩ := HN.out W1 xa xb hB1 hc1; have HV2 := Veil.mk hv2; have hr2 := hx2.wholeM; have hfi := HFI.out V2 hB2; clear hv2)
        | (refine wpList_stv rfl 32 (.tmp 7) _ rfl W1.heap.size rfl (cs := [.int .u8 xa, .int .u32 xb]) rfl (CellsAt.new W1 32 [.int .u8 0, .int .u32 0]) iX rfl hx1 ?_; rw [← HV2.out])
        | (refine wpList_ldv rfl 32 (.tmp 7) rfl W1.heap.size 0 rfl [.int .u8 xa, .int .u32 xb] hr4 uD rfl iX ?_)
        | (refine wpList_ldv rfl 32 (.tmp 7) rfl W1.heap.size 0 rfl [.int .u8 xa, .int .u32 xb] hr2 uD rfl iX ?_)
        | (go_at_call 19; refine hfi.mono ?_; rintro z W3 ⟨rfl, hb3⟩; obtain ⟨V4, hv4, hx4, hc4, hB4, hb4⟩ := HN.out W3 ya yb (hB2.trans (hb3.mono hB2.size)) (hc2.farM hb3); have HV4 := Veil.mk hv4; have hr4 := (hx2.farM hb3).farM hb4 |>.wholeM; clear hv4 hr2 hfi)
        | (refine wpList_stv rfl 32 (.tmp 9) _ rfl W3.heap.size rfl (cs := [.int .u8 ya, .int .u32 yb]) rfl (CellsAt.new W3 32 [.int .u8 0, .int .u32 0]) iY rfl hy1 ?_; rw [← HV4.out])
        | (refine wpList_stv rfl 32 (.tmp 4) _ rfl w.heap.size rfl (cs := [.int .u8 xa, .int .u32 xb]) rfl hc4 iX rfl hx1 ?_))
      obtain ⟨e1, e2⟩ := HE.out V4 xa xb hc4 hB4
      refine bodyPost_ret (results_ctt (Try.results9) _ rfl rfl rfl e1 uD rfl iX) rfl ⟨by rw [HPF.out]; rfl, e2⟩
    | some hd =>
      replace HPT : Veil (PL = ((ya, yb), false, 0)) := ⟨HPT.out hd rfl⟩
      clear HPF
      go_enter Try.func9, Try.ntmps9
      go_wp2_with (first
        | (go_at_call 18; refine hlf.mono ?_; rintro z W1 ⟨rfl, hb1⟩; obtain ⟨hB1, hc1⟩ := HF.out W1 hb1; obtain ⟨V2, hv2, hx2, hc2, hB2, -⟩ := HN.out W1 xa xb hB1 hc1; have HV2 := Veil.mk hv2; have hr2 := hx2.wholeM; have hfi := HFI.out V2 hB2; clear hv2)
        | (refine wpList_stv rfl 32 (.tmp 7) _ rfl W1.heap.size rfl (cs := [.int .u8 xa, .int .u32 xb]) rfl (CellsAt.new W1 32 [.int .u8 0, .int .u32 0]) iX rfl hx1 ?_; rw [← HV2.out])
        | (refine wpList_ldv rfl 32 (.tmp 9) rfl W3.heap.size 0 rfl [.int .u8 ya, .int .u32 yb] hr4 uD rfl iY ?_)
        | (refine wpList_ldv rfl 32 (.tmp 7) rfl W1.heap.size 0 rfl [.int .u8 xa, .int .u32 xb] hr2 uD rfl iX ?_)
        | (go_at_call 19; refine hfi.mono ?_; rintro z W3 ⟨rfl, hb3⟩; obtain ⟨V4, hv4, hx4, hc4, hB4, hb4⟩ := HN.out W3 ya yb (hB2.trans (hb3.mono hB2.size)) (hc2.farM hb3); have HV4 := Veil.mk hv4; have hr4 := hx4.wholeM; clear hv4 hr2 hfi)
        | (refine wpList_stv rfl 32 (.tmp 9) _ rfl W3.heap.size rfl (cs := [.int .u8 ya, .int .u32 yb]) rfl (CellsAt.new W3 32 [.int .u8 0, .int .u32 0]) iY rfl hy1 ?_; rw [← HV4.out])
        | (refine wpList_stv rfl 32 (.tmp 4) _ rfl w.heap.size rfl (cs := [.int .u8 ya, .int .u32 yb]) rfl hc4 iY rfl hy1 ?_))
      obtain ⟨e1, e2⟩ := HE.out V4 ya yb hc4 hB4
      refine bodyPost_ret (results_ctt (Try.results9) _ rfl rfl rfl e1 uD rfl iY) rfl ⟨by rw [HPT.out]; rfl, e2⟩
  · have heb : (ee != 0) = true := by simpa using he
    replace HPL : Veil (PL = ((0, 0), false, ee)) := ⟨by rw [HPL.out, if_pos he]⟩
    clear HFI he
    go_enter Try.func9, Try.ntmps9
    go_wp2_with (first
      | (go_at_call 18; refine hlf.mono ?_; rintro z W1 ⟨rfl, hb1⟩; obtain ⟨hB1, hc1⟩ := HF.out W1 hb1; obtain ⟨V2, hv2, hx2, hc2, hB2, -⟩ := HN.out W1 xa xb hB1 hc1; have HV2 := Veil.mk hv2; clear hv2)
      | (refine wpList_stv rfl 32 (.tmp 7) _ rfl W1.heap.size rfl (cs := [.int .u8 xa, .int .u32 xb]) rfl (CellsAt.new W1 32 [.int .u8 0, .int .u32 0]) iX rfl hx1 ?_; rw [← HV2.out])
      | (refine wpList_stv rfl 32 (.tmp 4) _ rfl w.heap.size rfl (cs := [.int .u8 0, .int .u32 0]) rfl hc2 iZ rfl hz1 ?_))
    obtain ⟨e1, e2⟩ := HE.out V2 0 0 hc2 hB2
    refine bodyPost_ret (results_ctt (Try.results9) _ rfl rfl rfl e1 uD rfl iZ) rfl ⟨by rw [HPL.out]; rfl, e2⟩
end Go.Proofs.Ytnmjplngbleopaa
