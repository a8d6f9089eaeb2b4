/- FuguePlaces, walked. -/
import Derived.Test.YtdkkenlehdblpaaFp1
namespace Go.Proofs.Ytdkkenlehdblpaa
open Go.RowKit Go.Shelf
set_option maxRecDepth 20000
set_option linter.unusedSimpArgs false
theorem refI_place {N : List Nd} (hN : TreeOk N) {k : Nat} (hk : k ≤ (wrN N).length) {n : Nd} (hs : n.side = ((placeN N (k : Nat)).1, (placeN N (k : Nat)).2.1)) : refI N n = 0 ∨ refI N n = 3 ∨ refI N n = 5 ∨ refI N n = 10 := by
  obtain ⟨-, -, h3⟩ := place_ok hN hk
  unfold refI
  split
  · exact .inr (.inl rfl)
  · split
    · exact .inr (.inr (.inl rfl))
    · rw [if_neg]
      · split
        · exact .inr (.inr (.inr rfl))
        · exact .inl rfl
      · rintro ⟨h4, h5⟩
        rw [hs] at h4 h5
        rcases h3 with q | q
        · exact h4 q
        · rw [q] at h5; cases h5
theorem Bytes.turned {p : Nat → Prop} {w w' : World} {x : Option Addr} {len cap : Nat} {z : List Int} (h : Bytes w x len cap z) (ht : Turn p w w') (hp : ∀ a, x = some a → ¬ p a.block) : Bytes w' x len cap z :=
  ⟨h.len_eq, h.le, h.top, h.nil, by
    rcases h.at_ with h0 | ⟨b, off, hx, hc⟩
    · exact .inl h0
    · exact .inr ⟨b, off, hx, fun j hj => by
        have h1 := hc j hj
        exact (World.cell?_of_block (a := ⟨b, off + j, none⟩) (ht.block b (block_lt_of_cell h1) (hp _ hx))).trans h1⟩⟩
theorem OwnB.fresh {w : World} {base : Nat} {x : Option Addr} {n c : Nat} {z : List Int} (h : OwnB w base (.slice x n c) z) : ∀ a, x = some a → base ≤ a.block := fun a ha => by
  rcases h.2 with ⟨h1, _⟩ | ⟨g, cap, cur, h1, hb, _⟩
  · injection h1 with h1; rw [ha] at h1; cases h1
  · injection h1 with h1; rw [ha] at h1; cases h1; exact hb
set_option maxHeartbeats 8000000 in
theorem fpl_walk (x : Option Addr) (len cap : Nat) (L : List Dd8) (iv : Int) (D : Dd8) (w : World) (hL : DeedsAt w x len cap L) (hi0 : 0 ≤ iv) (hi1 : iv ≤ 255) (hD : D.Ok) :
    Calls Try.prog 4 #[.slice x len cap, .int .u8 iv, .agg D.cells.toArray] w fun e w' => e = .returned (.bool true) ∧ Below w.heap.size w w' := by
  obtain ⟨W, hW⟩ : ∃ q, w.alloc (.cells D.cells.toArray 34) = q := ⟨_, rfl⟩
  have hbW : Below w.heap.size w W := by rw [← hW]; exact (Below.refl _ _).alloc (Nat.le_refl _) _
  have hxW : CellsAt W w.heap.size 34 D.cells := by rw [← hW]; exact CellsAt.new w 34 D.cells
  have hpl := play8_any x len cap L W (hL.below hbW)
  obtain ⟨N, hNN⟩ : ∃ q, playN (L.take 60) = q := ⟨_, rfl⟩
  have hok : TreeOk N := by rw [← hNN]; exact playN_ok _
  have hln : N.length ≤ 60 := by rw [← hNN]; have := playN_len (L.take 60); have := List.length_take_le 60 L; omega
  have HPL : Veil (∀ v0 W2, PlayR W L v0 W2 → ∃ R bc bn V Q, v0 = .tuple #[.pointer (some ⟨R, 0, none⟩), .pointer (some ⟨Q, 0, none⟩), .bool true] ∧ TreeAt W2 W.heap.size R bc bn N V ∧ (∀ k, treeP R bc bn V k → W.heap.size ≤ k) ∧ Below W.heap.size W W2) := ⟨fun v0 W2 ⟨R, bc, bn, V, Q, v, h1, h2, h3⟩ => ⟨R, bc, bn, V, Q, h1, by rw [hNN] at h2; exact h2.tree, fun k hk => h2.above k (.inl hk), h3⟩⟩
  have HLV : Veil (∀ W, Calls Try.prog 12 #[] W fun e w' => e = .returned (.bool true) ∧ Below W.heap.size W w') := ⟨fun W => live8_any W⟩
  -- the place
  obtain ⟨z, hz⟩ : ∃ q, textN N = q := ⟨_, rfl⟩
  obtain ⟨tn, htn⟩ : ∃ q, z.length = q := ⟨_, rfl⟩
  have hwl : (wrN N).length = tn := by rw [← htn, ← hz]; unfold textN; rw [List.length_map]
  have ht60 : tn ≤ 60 := by
    rw [← hwl]
    have h1 : (wrN N).length ≤ (walkA N rootS).length := List.length_filter_le _ _
    rw [hok.len] at h1; omega
  obtain ⟨k, hk⟩ : ∃ k : Nat, iv.tmod ((tn : Int) + 1) = (k : Nat) ∧ k ≤ tn := by
    refine ⟨(iv % ((tn : Int) + 1)).toNat, ?_, ?_⟩
    · rw [Int.tmod_eq_emod_of_nonneg hi0, Int.toNat_of_nonneg (Int.emod_nonneg _ (by omega))]
    · have := Int.emod_lt_of_pos iv (show (0 : Int) < (tn : Int) + 1 by omega)
      have := Int.emod_nonneg iv (show ((tn : Int) + 1) ≠ 0 by omega)
      omega
  obtain ⟨hk1, hk2⟩ := hk
  obtain ⟨p1, -, -⟩ := place_ok hok (k := k) (by omega)
  obtain ⟨⟨⟨pa, pb⟩, pr, pe⟩, hP⟩ : ∃ q, placeN N (k : Nat) = q := ⟨_, rfl⟩
  obtain rfl : pe = 0 := by rw [hP] at p1; exact p1
  have hside : (⟨D.id, ((pa, pb), pr), D.chr⟩ : Nd).side = ((placeN N (k : Nat)).1, (placeN N (k : Nat)).2.1) := by rw [hP]
  have HRI := Veil.mk (refI_place hok (n := ⟨D.id, ((pa, pb), pr), D.chr⟩) (by omega) hside)
  have HTX : Veil (refI N ⟨D.id, ((pa, pb), pr), D.chr⟩ = 0 → textN (N ++ [⟨D.id, ((pa, pb), pr), D.chr⟩]) = z.take k ++ [D.chr] ++ z.drop k ∧ insN N ⟨D.id, ((pa, pb), pr), D.chr⟩ = N ++ [⟨D.id, ((pa, pb), pr), D.chr⟩]) := ⟨fun hr => ⟨by rw [← hz]; exact place_text hok (by omega) hside hr, by unfold insN; rw [if_pos hr]⟩⟩
  have HPA : Veil (∀ R bc bn V W2, TreeAt W2 W.heap.size R bc bn N V → okDF (pa, pb)) := ⟨fun R bc bn V W2 hT => by
    obtain ⟨-, -, h3⟩ := place_ok hok (k := k) (by omega)
    rw [hP] at h3
    rcases h3 with q | q
    · rw [show (pa, pb) = (0, 0) from q]; exact okRoot
    · obtain ⟨m, hm, e⟩ := chrN_some.1 q
      have := (hT.okId m hm).1
      rw [show (pa, pb) = m.id from e.symm]; exact this⟩
  have HCO : Veil (∀ R bc bn V W2, TreeAt W2 W.heap.size R bc bn N V → W.heap.size ≤ W2.heap.size → (Calls Try.prog 14 #[.pointer (some ⟨R, 0, none⟩)] W2 fun e w' => ∃ tx tc, e = .returned (.slice tx tn tc) ∧ Bytes w' tx tn tc z ∧ (∀ a, tx = some a → W2.heap.size ≤ a.block) ∧ Below W2.heap.size W2 w') ∧ (Calls Try.prog 15 #[.pointer (some ⟨R, 0, none⟩), .int .i64 (k : Nat)] W2 fun e w' => e = .returned (.tuple #[.agg #[.int .u8 pa, .int .u32 pb], .bool pr, .int .i64 0]) ∧ Below W2.heap.size W2 w') ∧ (Calls Try.prog 16 #[.pointer (some ⟨R, 0, none⟩), .agg (encF D.id).toArray, .agg #[.int .u8 pa, .int .u32 pb], .bool pr, .int .u8 D.chr] W2 fun e w' => e = .returned (.int .i64 (refI N ⟨D.id, ((pa, pb), pr), D.chr⟩)) ∧ ∃ V', TreeAt w' W.heap.size R bc bn (insN N ⟨D.id, ((pa, pb), pr), D.chr⟩) V' ∧ TreeTo R bc bn V V' W2 w')) := ⟨fun R bc bn V W2 hT hlw => by
    refine ⟨(textB_any _ R bc bn N V hok (by omega) W2 hT).mono ?_, ?_, insT_any _ R bc bn N V ⟨D.id, ((pa, pb), pr), D.chr⟩ hD.id (HPA.out R bc bn V W2 hT) (by omega) W2 hlw hT⟩
    · rintro e w' ⟨v, h1, h2, h3⟩
      rw [hz] at h2
      obtain ⟨y, n, c, rfl, hn⟩ := h2.isSlice
      obtain rfl : n = tn := by rw [hn]; exact htn
      exact ⟨y, c, h1, h2.bytes.2, h2.fresh, h3⟩
    · have := placeT_any _ R bc bn N V hok (by omega) (k : Nat) (by omega) W2 hT
      rw [hP] at this
      exact this⟩
  have HTI : Veil (∀ R bc bn V W2, TreeAt W2 W.heap.size R bc bn (insN N ⟨D.id, ((pa, pb), pr), D.chr⟩) V → refI N ⟨D.id, ((pa, pb), pr), D.chr⟩ = 0 → Calls Try.prog 14 #[.pointer (some ⟨R, 0, none⟩)] W2 fun e w' => ∃ g sc, e = .returned (.slice (some ⟨g, 0, none⟩) (tn + 1) sc) ∧ Bytes w' (some ⟨g, 0, none⟩) (tn + 1) sc (z.take k ++ [D.chr] ++ z.drop k) ∧ Below W2.heap.size W2 w') := ⟨fun R bc bn V W2 hT hr => by
    obtain ⟨e1, e2⟩ := HTX.out hr
    refine (textB_any _ R bc bn _ V (hok.ins _) (by have := insN_len (N := N) (n := ⟨D.id, ((pa, pb), pr), D.chr⟩); omega) W2 hT).mono ?_
    rintro e w' ⟨v, h1, h2, h3⟩
    rw [e2, e1] at h2
    have hyl : (z.take k ++ [D.chr] ++ z.drop k).length = tn + 1 := by simp only [List.length_append, List.length_take, List.length_drop, List.length_singleton]; omega
    obtain ⟨g, c, hv, -⟩ := h2.slice (by omega)
    rw [hyl] at hv
    subst hv
    exact ⟨g, c, h1, h2.bytes.2, h3⟩⟩
  have HID : Veil (∀ W2, CellsAt W2 w.heap.size 34 D.cells → W2.rangeAt w.heap.size 1 (encF D.id) ∧ W2.cell? ⟨w.heap.size, 6, none⟩ = some (.int .u8 D.chr)) := ⟨fun W2 h => ⟨h.range 1 2, h.cell 6⟩⟩
  have HTA : Veil (∀ q, (z.take k ++ [q] ++ z.drop k).take k = z.take k ∧ (z.take k ++ [q] ++ z.drop k).drop (k + 1) = z.drop k ∧ (z.take k ++ [q] ++ z.drop k)[k]? = some q) := ⟨fun q => by
    have hl : (z.take k).length = k := by rw [List.length_take]; omega
    refine ⟨by rw [List.append_assoc, List.take_left' hl], List.drop_left' (by simp; omega), ?_⟩
    rw [List.append_assoc, List.getElem?_append_right (by omega), hl]; simp⟩
  have iI : (Try.prog.info? 32).map (·.size) = some (encF D.id).length := sizeDot
  generalize refI N ⟨D.id, ((pa, pb), pr), D.chr⟩ = RN at HRI HTX HCO HTI
  generalize insN N ⟨D.id, ((pa, pb), pr), D.chr⟩ = NI at HTX HCO HTI
  obtain ⟨DC, hDC⟩ : ∃ q, D.cells = q := ⟨_, rfl⟩
  rw [hDC] at hxW HID hW ⊢
  generalize encF D.id = DI at HCO HID iI
  generalize D.chr = ch at HCO HTI HID
  have HW := Veil.mk hW
  clear hDC hW hD hL hNN hside p1 hP hz htn hwl HTX hln hok
  have HKT : Veil (k ≤ tn ∧ tn ≤ 60) := ⟨hk2, ht60⟩
  have uD := Try.underlying32
  have iP : (Try.prog.info? 32).map (·.size) = some [Value.int .u8 pa, Value.int .u32 pb].length := sizeDot
  have hwt : IntKind.i64.wrap ((tn : Int) + 1) = (tn : Int) + 1 := by rw [IntKind.wrap_i64]; omega
  have hwi : IntKind.i64.wrap iv = iv := by rw [IntKind.wrap_i64]; omega
  have hnz : ¬ ((tn : Int) + 1 = 0) := by omega
  clear hi0 hi1 hk2 ht60
  go_enter Try.func4, Try.ntmps4
  go_upto_region 1 with fail
  rw [HW.out]
  go_upto_region 5 with (first
    | (go_at_call 11; refine hpl.mono ?_; rintro y W1 ⟨v0, rfl, hpr⟩; obtain ⟨R, bc, bn, V, Q, rfl, hT1, hab1, hB1⟩ := HPL.out v0 W1 hpr; have hlv := HLV.out W1; clear hpl hpr)
    | (go_at_call 12; refine hlv.mono ?_; rintro y W2 ⟨rfl, hb2⟩; have hT2 := hT1.far hb2; have hB2 := hB1.trans (hb2.mono hB1.size); have htx := (HCO.out R bc bn V W2 hT2 hB2.size).1; clear hlv)
    | (go_at_call 14; refine htx.mono ?_; rintro y W3 ⟨tx, tc, rfl, hz3, hfr3, hb3⟩; clear htx))
  have hT3 := hT2.far hb3
  have hB3 := hB2.trans (hb3.mono hB2.size)
  have hpc := (HCO.out R bc bn V W3 hT3 hB3.size).2.1
  have HST3 := Veil.mk (And.intro hT3 (And.intro hB3 hz3))
  have HAB := Veil.mk hab1
  have HFR : Veil (∀ a, tx = some a → ¬ treeP R bc bn V a.block) := ⟨fun a ha q => by have := hfr3 a ha; have := hT2.blockLt _ q; omega⟩
  clear hfr3
  clear hT3 hB3 hz3 hT2 hB2 hb2 hb3 hT1 hB1 hab1 HPL HLV W1 W2
  go_upto_region 7 with (go_at_call 15; refine hpc.mono ?_; rintro y W4 ⟨rfl, hb4⟩; clear hpc)
  have hb5 : Below W4.heap.size W4 (W4.alloc (.cells #[.int .u8 pa, .int .u32 pb] 32)) := (Below.refl _ _).alloc (Nat.le_refl _) _
  have hb34 := hb4.trans (hb5.mono hb4.size)
  refine forget (p := fun y => Code.wp _ _ _ _ y) (fun W => Below W3.heap.size W3 W ∧ CellsAt W W4.heap.size 32 [.int .u8 pa, .int .u32 pb]) ⟨hb34, CellsAt.new W4 32 [.int .u8 pa, .int .u32 pb]⟩ ?_
  have HLP : Veil (W3.heap.size ≤ W4.heap.size) := ⟨hb4.size⟩
  generalize W4.heap.size = b12 at HLP
  clear hb34 hb5 hb4 W4
  rintro W5 ⟨hb5, hd5⟩
  obtain ⟨hT3, hB3, hz3⟩ := HST3.out
  have hT5 := hT3.far hb5
  have hB5 := hB3.trans (hb5.mono hB3.size)
  have hz5 := hz3.below hb5
  have hin := (HCO.out R bc bn V W5 hT5 hB5.size).2.2
  have hx5 := hxW.congr (hB5.block _ hxW.lt)
  obtain ⟨rI, c6⟩ := HID.out W5 hx5
  have rP := hd5.wholeM
  have HW5 := Veil.mk (And.intro hT5 (And.intro hB5 (And.intro hz5 hx5)))
  have HBW := Veil.mk hbW
  have HXL : Veil (w.heap.size < W.heap.size) := ⟨hxW.lt⟩
  clear hT3 hB3 hz3 HST3 hb5 hd5 hT5 hB5 hz5 hx5 hbW hxW HLP W3
  go_upto_region 10 with (first
    | (refine wpList_ldv rfl 32 (.tmp 47) rfl w.heap.size 1 rfl DI rI uD rfl iI ?_)
    | (refine wpList_ldv rfl 32 (.tmp 12) rfl b12 0 rfl [.int .u8 pa, .int .u32 pb] rP uD rfl iP ?_)
    | (go_at_call 16; refine hin.mono ?_; rintro y W6 ⟨rfl, V6, hT6, ht6⟩; clear hin))
  obtain ⟨hT5, hB5, hz5, hx5⟩ := HW5.out
  have hbel : Below W.heap.size W5 W6 := below_turn ht6.turn (fun k hk => HAB.out k hk) hB5.size
  have hB6 : Below W.heap.size W W6 := hB5.trans hbel
  have hBw6 : Below w.heap.size w W6 := HBW.out.trans (hB6.mono HBW.out.size)
  have HB6 := Veil.mk hBw6
  have H6 := Veil.mk (And.intro hT6 (And.intro hB6 (And.intro hx5 (And.intro hbel hz5))))
  have HT6 := Veil.mk ht6
  clear hT6 hB6 hx5 hbel hz5 hT5 hB5 hBw6 ht6 HW5 rI rP c6
  rcases HRI.out with rfl | rfl | rfl | rfl
  rotate_left
  · go_wp2
    go_ret
    exact ⟨rfl, HB6.out⟩
  · go_wp2
    go_ret
    exact ⟨rfl, HB6.out⟩
  · go_wp2
    go_ret
    exact ⟨rfl, HB6.out⟩
  obtain ⟨hT6, hB6, hx5, hbel, hz5⟩ := H6.out
  have hti := HTI.out R bc bn V6 W6 hT6 (by first | rfl | trivial)
  have hz6 := hz5.turned HT6.out.turn HFR.out
  have hx6 := hx5.congr (hbel.block _ HXL.out)
  have H6b := Veil.mk (And.intro hz6 hx6)
  clear hT6 hB6 hx5 hbel hz5 hz6 hx6 H6 HT6 HTI HCO
  go_upto_region 13 with (go_at_call 14; refine hti.mono ?_; rintro y W7 ⟨g, sc, rfl, hy7, hb7⟩; clear hti)
  have hz7 := H6b.out.1.below hb7
  have hx7 := H6b.out.2.farM hb7
  obtain ⟨hkt, ht6⟩ := HKT.out
  have hc6 := (HID.out W7 hx7).2
  obtain ⟨ta, tb, tk⟩ := HTA.out ch
  have hgk : W7.cell? ⟨g, k, none⟩ = some (.int .u8 ch) := by
    rcases hy7.at_ with h | ⟨b, off, hx, hc⟩
    · omega
    · injection hx with hx
      injection hx with e1 e2 _
      have := hc k (by omega)
      rw [tk, ← e1, ← e2, Nat.zero_add] at this
      exact this
  have cut1 : ∀ wx, (Instr.slice 35 (.slice (some ⟨g, 0, none⟩) (tn + 1) sc) none (some (.int .i64 (k : Int))) none).run Try.prog wx = .ok (.slice (subA (some ⟨g, 0, none⟩) sc 0) k sc) wx := fun wx => run_cut_h wx _ (tn + 1) sc k (by have := hy7.le; omega)
  have cut2 : ∀ wx, (Instr.slice 35 (.slice tx tn tc) none (some (.int .i64 (k : Int))) none).run Try.prog wx = .ok (.slice (subA tx tc 0) k tc) wx := fun wx => run_cut_h wx _ tn tc k (by have := hz7.le; omega)
  have cut3 : ∀ wx, (Instr.slice 35 (.slice (some ⟨g, 0, none⟩) (tn + 1) sc) (some (.int .i64 ((k : Int) + 1))) none none).run Try.prog wx = .ok (.slice (subA (some ⟨g, 0, none⟩) sc (k + 1)) (tn - k) (sc - (k + 1))) wx := fun wx => by
    have := run_cut_l wx (some ⟨g, 0, none⟩) (tn + 1) sc (k + 1) (by omega)
    rw [show tn + 1 - (k + 1) = tn - k by omega] at this
    push_cast at this
    exact this
  have cut4 : ∀ wx, (Instr.slice 35 (.slice tx tn tc) (some (.int .i64 (k : Int))) none none).run Try.prog wx = .ok (.slice (subA tx tc k) (tn - k) (tc - k)) wx := fun wx => run_cut_l wx _ tn tc k hkt
  have b1 := hy7.cut 0 k (by omega) (by omega)
  have b2 := hz7.cut 0 k (by omega) (by omega)
  have b3 := hy7.cut (k + 1) (tn + 1) (by omega) (by omega)
  have b4 := hz7.cut k tn (by omega) (by omega)
  rw [List.drop_zero, Nat.sub_zero, Nat.sub_zero, ta] at b1
  rw [List.drop_zero, Nat.sub_zero, Nat.sub_zero] at b2
  rw [tb, show tn + 1 - (k + 1) = tn - k by omega] at b3
  have v1 : (convert 35 9 (.slice (subA (some ⟨g, 0, none⟩) sc 0) k sc)).run Try.prog W7.drew = .ok (.string (strOfNums (z.take k))) W7.drew := conv_bytes (b1.below (Below.refl _ _).drew)
  have v2 : (convert 35 9 (.slice (subA tx tc 0) k tc)).run Try.prog W7.drew = .ok (.string (strOfNums (z.take k))) W7.drew := conv_bytes (b2.below (Below.refl _ _).drew)
  have v3 : (convert 35 9 (.slice (subA (some ⟨g, 0, none⟩) sc (k + 1)) (tn - k) (sc - (k + 1)))).run Try.prog W7.drew = .ok (.string (strOfNums ((z.drop k).take (tn - k)))) W7.drew := conv_bytes (b3.below (Below.refl _ _).drew)
  have v4 : (convert 35 9 (.slice (subA tx tc k) (tn - k) (tc - k))).run Try.prog W7.drew = .ok (.string (strOfNums ((z.drop k).take (tn - k)))) W7.drew := conv_bytes (b4.below (Below.refl _ _).drew)
  have HB7 := Veil.mk (HB6.out.trans (hb7.mono HB6.out.size)).drew
  generalize strOfNums (z.take k) = S1 at v1 v2
  generalize strOfNums ((z.drop k).take (tn - k)) = S2 at v3 v4
  generalize subA (some ⟨g, 0, none⟩) sc 0 = a1 at cut1 v1
  generalize subA tx tc 0 = a2 at cut2 v2
  generalize subA (some ⟨g, 0, none⟩) sc (k + 1) = a3 at cut3 v3
  generalize subA tx tc k = a4 at cut4 v4
  generalize sc - (k + 1) = d3 at cut3 v3
  generalize tc - k = d4 at cut4 v4
  generalize tn - k = m3 at cut3 cut4 v3 v4
  have hk0 : (0 : Int) ≤ (k : Int) := by omega
  have hkl : (k : Int) < ((tn + 1 : Nat) : Int) := by omega
  have hwk : IntKind.i64.wrap ((k : Int) + 1) = (k : Int) + 1 := by rw [IntKind.wrap_i64]; omega
  have hcast : ((tn + 1 : Nat) : Int) = (tn : Int) + 1 := by push_cast; rfl
  rw [hcast] at hkl
  obtain ⟨sn, hsn⟩ : ∃ q, tn + 1 = q := ⟨_, rfl⟩
  rw [hsn] at cut1 cut3 hcast ⊢
  have HSN : Veil ((sn : Int) = (tn : Int) + 1) := ⟨hcast⟩
  have hks : (k : Int) < (sn : Int) := by omega
  have hbe : ((sn : Int) == (tn : Int) + 1) = true := by simp; omega
  clear b1 b2 b3 b4 hy7 hz7 hx7 ta tb tk hb7 H6b hcast hsn hkl hkt ht6
  refine wp_region_gateT (fun w' : World => w'.cell? ⟨g, k, none⟩ = some (.int .u8 ch) ∧ w'.cell? ⟨w.heap.size, 6, none⟩ = some (.int .u8 ch) ∧ (convert 35 9 (.slice a1 k sc)).run Try.prog w' = .ok (.string S1) w' ∧ (convert 35 9 (.slice a2 k tc)).run Try.prog w' = .ok (.string S1) w' ∧ (convert 35 9 (.slice a3 m3 d3)).run Try.prog w' = .ok (.string S2) w' ∧ (convert 35 9 (.slice a4 m3 d4)).run Try.prog w' = .ok (.string S2) w') (fun _ => True) 99 (by kernel_rfl) ?_
  have hT : (fun w' : World => w'.cell? ⟨g, k, none⟩ = some (.int .u8 ch) ∧ w'.cell? ⟨w.heap.size, 6, none⟩ = some (.int .u8 ch) ∧ (convert 35 9 (.slice a1 k sc)).run Try.prog w' = .ok (.string S1) w' ∧ (convert 35 9 (.slice a2 k tc)).run Try.prog w' = .ok (.string S1) w' ∧ (convert 35 9 (.slice a3 m3 d3)).run Try.prog w' = .ok (.string S2) w' ∧ (convert 35 9 (.slice a4 m3 d4)).run Try.prog w' = .ok (.string S2) w') W7.drew := ⟨hgk, hc6, v1, v2, v3, v4⟩
  have hS : (fun _ : World => True) W7.drew := trivial
  clear v1 v2 v3 v4 hgk hc6
  refine wpAnyT_held (i := 0) (v := ?_) rfl (by kernel_rfl) (by kernel_rfl) (by kernel_rfl) (fun _ _ _ h => h) (by kernel_rfl) hT (fun _ => hS) (by kernel_rfl) ?_ ?_
  rotate_left
  · intro wx hSw; go_split_ands; go_simp; try with_reducible rfl
  simp only [Act.put, List.getElem_toArray, List.getElem_cons_succ, List.getElem_cons_zero, List.setIfInBounds_toArray, List.set_cons_zero, List.set_cons_succ]
  refine wpAnyT_held (i := 1) (v := ?_) rfl (by kernel_rfl) (by kernel_rfl) (by kernel_rfl) (fun _ _ _ h => h) (by kernel_rfl) hT (fun _ => hS) (by kernel_rfl) ?_ ?_
  rotate_left
  · intro wx hSw; go_split_ands; go_simp; try with_reducible rfl
  simp only [Act.put, List.getElem_toArray, List.getElem_cons_succ, List.getElem_cons_zero, List.setIfInBounds_toArray, List.set_cons_zero, List.set_cons_succ]
  refine wpAnyT_held (i := 2) (v := ?_) rfl (by kernel_rfl) (by kernel_rfl) (by kernel_rfl) (fun _ _ _ h => h) (by kernel_rfl) hT (fun _ => hS) (by kernel_rfl) ?_ ?_
  rotate_left
  · intro wx hSw; go_split_ands; go_simp; try with_reducible rfl
  simp only [Act.put, List.getElem_toArray, List.getElem_cons_succ, List.getElem_cons_zero, List.setIfInBounds_toArray, List.set_cons_zero, List.set_cons_succ]
  refine wpAnyT_held (i := 3) (v := ?_) rfl (by kernel_rfl) (by kernel_rfl) (by kernel_rfl) (fun _ _ _ h => h) (by kernel_rfl) hT (fun _ => hS) (by kernel_rfl) ?_ ?_
  rotate_left
  · intro wx hSw; go_split_ands; go_simp; try with_reducible rfl
  simp only [Act.put, List.getElem_toArray, List.getElem_cons_succ, List.getElem_cons_zero, List.setIfInBounds_toArray, List.set_cons_zero, List.set_cons_succ]
  refine wpAnyT_held (i := 4) (v := ?_) rfl (by kernel_rfl) (by kernel_rfl) (by kernel_rfl) (fun _ _ _ h => h) (by kernel_rfl) hT (fun _ => hS) (by kernel_rfl) ?_ ?_
  rotate_left
  · intro wx hSw; go_split_ands; go_simp; try with_reducible rfl
  simp only [Act.put, List.getElem_toArray, List.getElem_cons_succ, List.getElem_cons_zero, List.setIfInBounds_toArray, List.set_cons_zero, List.set_cons_succ]
  refine wpAnyT_held (i := 5) (v := .bool true) rfl (by kernel_rfl) (by kernel_rfl) (by kernel_rfl) (fun _ _ _ h => h) (by kernel_rfl) hT (fun _ => hS) (by kernel_rfl) ?_ ?_
  · intro wx hSw; go_split_ands; go_simp
  simp only [Act.put, List.getElem_toArray, List.getElem_cons_succ, List.getElem_cons_zero, List.setIfInBounds_toArray, List.set_cons_zero, List.set_cons_succ]
  refine wpAnyT_held (i := 6) (v := ?_) rfl (by kernel_rfl) (by kernel_rfl) (by kernel_rfl) (fun _ _ _ h => h) (by kernel_rfl) hT (fun _ => hS) (by kernel_rfl) ?_ ?_
  rotate_left
  · intro wx hSw; go_split_ands; go_simp; try with_reducible rfl
  simp only [Act.put, List.getElem_toArray, List.getElem_cons_succ, List.getElem_cons_zero, List.setIfInBounds_toArray, List.set_cons_zero, List.set_cons_succ]
  refine wpAnyT_held (i := 7) (v := ?_) rfl (by kernel_rfl) (by kernel_rfl) (by kernel_rfl) (fun _ _ _ h => h) (by kernel_rfl) hT (fun _ => hS) (by kernel_rfl) ?_ ?_
  rotate_left
  · intro wx hSw; go_split_ands; go_simp; try with_reducible rfl
  simp only [Act.put, List.getElem_toArray, List.getElem_cons_succ, List.getElem_cons_zero, List.setIfInBounds_toArray, List.set_cons_zero, List.set_cons_succ]
  refine wpAnyT_held (i := 8) (v := ?_) rfl (by kernel_rfl) (by kernel_rfl) (by kernel_rfl) (fun _ _ _ h => h) (by kernel_rfl) hT (fun _ => hS) (by kernel_rfl) ?_ ?_
  rotate_left
  · intro wx hSw; go_split_ands; go_simp; try with_reducible rfl
  simp only [Act.put, List.getElem_toArray, List.getElem_cons_succ, List.getElem_cons_zero, List.setIfInBounds_toArray, List.set_cons_zero, List.set_cons_succ]
  refine wpAnyT_held (i := 9) (v := ?_) rfl (by kernel_rfl) (by kernel_rfl) (by kernel_rfl) (fun _ _ _ h => h) (by kernel_rfl) hT (fun _ => hS) (by kernel_rfl) ?_ ?_
  rotate_left
  · intro wx hSw; go_split_ands; go_simp; try with_reducible rfl
  simp only [Act.put, List.getElem_toArray, List.getElem_cons_succ, List.getElem_cons_zero, List.setIfInBounds_toArray, List.set_cons_zero, List.set_cons_succ]
  refine wpAnyT_held (i := 10) (v := ?_) rfl (by kernel_rfl) (by kernel_rfl) (by kernel_rfl) (fun _ _ _ h => h) (by kernel_rfl) hT (fun _ => hS) (by kernel_rfl) ?_ ?_
  rotate_left
  · intro wx hSw; go_split_ands; go_simp; try with_reducible rfl
  simp only [Act.put, List.getElem_toArray, List.getElem_cons_succ, List.getElem_cons_zero, List.setIfInBounds_toArray, List.set_cons_zero, List.set_cons_succ]
  refine wpAnyT_held (i := 11) (v := ?_) rfl (by kernel_rfl) (by kernel_rfl) (by kernel_rfl) (fun _ _ _ h => h) (by kernel_rfl) hT (fun _ => hS) (by kernel_rfl) ?_ ?_
  rotate_left
  · intro wx hSw; go_split_ands; go_simp; try with_reducible rfl
  simp only [Act.put, List.getElem_toArray, List.getElem_cons_succ, List.getElem_cons_zero, List.setIfInBounds_toArray, List.set_cons_zero, List.set_cons_succ]
  refine wpAnyT_held (i := 12) (v := ?_) rfl (by kernel_rfl) (by kernel_rfl) (by kernel_rfl) (fun _ _ _ h => h) (by kernel_rfl) hT (fun _ => hS) (by kernel_rfl) ?_ ?_
  rotate_left
  · intro wx hSw; go_split_ands; go_simp; try with_reducible rfl
  simp only [Act.put, List.getElem_toArray, List.getElem_cons_succ, List.getElem_cons_zero, List.setIfInBounds_toArray, List.set_cons_zero, List.set_cons_succ]
  refine wpAnyT_held (i := 13) (v := .bool true) rfl (by kernel_rfl) (by kernel_rfl) (by kernel_rfl) (fun _ _ _ h => h) (by kernel_rfl) hT (fun _ => hS) (by kernel_rfl) ?_ ?_
  · intro wx hSw; go_split_ands; go_simp
  simp only [Act.put, List.getElem_toArray, List.getElem_cons_succ, List.getElem_cons_zero, List.setIfInBounds_toArray, List.set_cons_zero, List.set_cons_succ]
  refine wpAnyT_held (i := 14) (v := ?_) rfl (by kernel_rfl) (by kernel_rfl) (by kernel_rfl) (fun _ _ _ h => h) (by kernel_rfl) hT (fun _ => hS) (by kernel_rfl) ?_ ?_
  rotate_left
  · intro wx hSw; go_split_ands; go_simp; try with_reducible rfl
  simp only [Act.put, List.getElem_toArray, List.getElem_cons_succ, List.getElem_cons_zero, List.setIfInBounds_toArray, List.set_cons_zero, List.set_cons_succ]
  refine wpAnyT_held (i := 15) (v := ?_) rfl (by kernel_rfl) (by kernel_rfl) (by kernel_rfl) (fun _ _ _ h => h) (by kernel_rfl) hT (fun _ => hS) (by kernel_rfl) ?_ ?_
  rotate_left
  · intro wx hSw; go_split_ands; go_simp; try with_reducible rfl
  simp only [Act.put, List.getElem_toArray, List.getElem_cons_succ, List.getElem_cons_zero, List.setIfInBounds_toArray, List.set_cons_zero, List.set_cons_succ]
  refine wpAnyT_held (i := 16) (v := ?_) rfl (by kernel_rfl) (by kernel_rfl) (by kernel_rfl) (fun _ _ _ h => h) (by kernel_rfl) hT (fun _ => hS) (by kernel_rfl) ?_ ?_
  rotate_left
  · intro wx hSw; go_split_ands; go_simp; try with_reducible rfl
  simp only [Act.put, List.getElem_toArray, List.getElem_cons_succ, List.getElem_cons_zero, List.setIfInBounds_toArray, List.set_cons_zero, List.set_cons_succ]
  refine wpAnyT_held (i := 17) (v := ?_) rfl (by kernel_rfl) (by kernel_rfl) (by kernel_rfl) (fun _ _ _ h => h) (by kernel_rfl) hT (fun _ => hS) (by kernel_rfl) ?_ ?_
  rotate_left
  · intro wx hSw; go_split_ands; go_simp; try with_reducible rfl
  simp only [Act.put, List.getElem_toArray, List.getElem_cons_succ, List.getElem_cons_zero, List.setIfInBounds_toArray, List.set_cons_zero, List.set_cons_succ]
  refine wpAnyT_held (i := 18) (v := ?_) rfl (by kernel_rfl) (by kernel_rfl) (by kernel_rfl) (fun _ _ _ h => h) (by kernel_rfl) hT (fun _ => hS) (by kernel_rfl) ?_ ?_
  rotate_left
  · intro wx hSw; go_split_ands; go_simp; try with_reducible rfl
  simp only [Act.put, List.getElem_toArray, List.getElem_cons_succ, List.getElem_cons_zero, List.setIfInBounds_toArray, List.set_cons_zero, List.set_cons_succ]
  refine wpAnyT_held (i := 19) (v := ?_) rfl (by kernel_rfl) (by kernel_rfl) (by kernel_rfl) (fun _ _ _ h => h) (by kernel_rfl) hT (fun _ => hS) (by kernel_rfl) ?_ ?_
  rotate_left
  · intro wx hSw; go_split_ands; go_simp; try with_reducible rfl
  simp only [Act.put, List.getElem_toArray, List.getElem_cons_succ, List.getElem_cons_zero, List.setIfInBounds_toArray, List.set_cons_zero, List.set_cons_succ]
  refine wpAnyT_held (i := 20) (v := ?_) rfl (by kernel_rfl) (by kernel_rfl) (by kernel_rfl) (fun _ _ _ h => h) (by kernel_rfl) hT (fun _ => hS) (by kernel_rfl) ?_ ?_
  rotate_left
  · intro wx hSw; go_split_ands; go_simp; try with_reducible rfl
  simp only [Act.put, List.getElem_toArray, List.getElem_cons_succ, List.getElem_cons_zero, List.setIfInBounds_toArray, List.set_cons_zero, List.set_cons_succ]
  refine wpAnyT_held (i := 21) (v := ?_) rfl (by kernel_rfl) (by kernel_rfl) (by kernel_rfl) (fun _ _ _ h => h) (by kernel_rfl) hT (fun _ => hS) (by kernel_rfl) ?_ ?_
  rotate_left
  · intro wx hSw; go_split_ands; go_simp; try with_reducible rfl
  simp only [Act.put, List.getElem_toArray, List.getElem_cons_succ, List.getElem_cons_zero, List.setIfInBounds_toArray, List.set_cons_zero, List.set_cons_succ]
  refine wpAnyT_held (i := 22) (v := ?_) rfl (by kernel_rfl) (by kernel_rfl) (by kernel_rfl) (fun _ _ _ h => h) (by kernel_rfl) hT (fun _ => hS) (by kernel_rfl) ?_ ?_
  rotate_left
  · intro wx hSw; go_split_ands; go_simp; try with_reducible rfl
  simp only [Act.put, List.getElem_toArray, List.getElem_cons_succ, List.getElem_cons_zero, List.setIfInBounds_toArray, List.set_cons_zero, List.set_cons_succ]
  refine wpAnyT_held (i := 23) (v := ?_) rfl (by kernel_rfl) (by kernel_rfl) (by kernel_rfl) (fun _ _ _ h => h) (by kernel_rfl) hT (fun _ => hS) (by kernel_rfl) ?_ ?_
  rotate_left
  · intro wx hSw; go_split_ands; go_simp; try with_reducible rfl
  simp only [Act.put, List.getElem_toArray, List.getElem_cons_succ, List.getElem_cons_zero, List.setIfInBounds_toArray, List.set_cons_zero, List.set_cons_succ]
  refine wpAnyT_held (i := 24) (v := .bool true) rfl (by kernel_rfl) (by kernel_rfl) (by kernel_rfl) (fun _ _ _ h => h) (by kernel_rfl) hT (fun _ => hS) (by kernel_rfl) ?_ ?_
  · intro wx hSw; go_split_ands; go_simp
  simp only [Act.put, List.getElem_toArray, List.getElem_cons_succ, List.getElem_cons_zero, List.setIfInBounds_toArray, List.set_cons_zero, List.set_cons_succ]
  refine wpAnyT_held (i := 25) (v := ?_) rfl (by kernel_rfl) (by kernel_rfl) (by kernel_rfl) (fun _ _ _ h => h) (by kernel_rfl) hT (fun _ => hS) (by kernel_rfl) ?_ ?_
  rotate_left
  · intro wx hSw; go_split_ands; go_simp; try with_reducible rfl
  simp only [Act.put, List.getElem_toArray, List.getElem_cons_succ, List.getElem_cons_zero, List.setIfInBounds_toArray, List.set_cons_zero, List.set_cons_succ]
  refine wpAnyT_held (i := 26) (v := ?_) rfl (by kernel_rfl) (by kernel_rfl) (by kernel_rfl) (fun _ _ _ h => h) (by kernel_rfl) hT (fun _ => hS) (by kernel_rfl) ?_ ?_
  rotate_left
  · intro wx hSw; go_split_ands; go_simp; try with_reducible rfl
  simp only [Act.put, List.getElem_toArray, List.getElem_cons_succ, List.getElem_cons_zero, List.setIfInBounds_toArray, List.set_cons_zero, List.set_cons_succ]
  refine wpAnyT_held (i := 27) (v := ?_) rfl (by kernel_rfl) (by kernel_rfl) (by kernel_rfl) (fun _ _ _ h => h) (by kernel_rfl) hT (fun _ => hS) (by kernel_rfl) ?_ ?_
  rotate_left
  · intro wx hSw; go_split_ands; go_simp; try with_reducible rfl
  simp only [Act.put, List.getElem_toArray, List.getElem_cons_succ, List.getElem_cons_zero, List.setIfInBounds_toArray, List.set_cons_zero, List.set_cons_succ]
  refine wpAnyT_held (i := 28) (v := ?_) rfl (by kernel_rfl) (by kernel_rfl) (by kernel_rfl) (fun _ _ _ h => h) (by kernel_rfl) hT (fun _ => hS) (by kernel_rfl) ?_ ?_
  rotate_left
  · intro wx hSw; go_split_ands; go_simp; try with_reducible rfl
  simp only [Act.put, List.getElem_toArray, List.getElem_cons_succ, List.getElem_cons_zero, List.setIfInBounds_toArray, List.set_cons_zero, List.set_cons_succ]
  refine wpAnyT_held (i := 29) (v := ?_) rfl (by kernel_rfl) (by kernel_rfl) (by kernel_rfl) (fun _ _ _ h => h) (by kernel_rfl) hT (fun _ => hS) (by kernel_rfl) ?_ ?_
  rotate_left
  · intro wx hSw; go_split_ands; go_simp; try with_reducible rfl
  simp only [Act.put, List.getElem_toArray, List.getElem_cons_succ, List.getElem_cons_zero, List.setIfInBounds_toArray, List.set_cons_zero, List.set_cons_succ]
  refine wpAnyT_held (i := 30) (v := ?_) rfl (by kernel_rfl) (by kernel_rfl) (by kernel_rfl) (fun _ _ _ h => h) (by kernel_rfl) hT (fun _ => hS) (by kernel_rfl) ?_ ?_
  rotate_left
  · intro wx hSw; go_split_ands; go_simp; try with_reducible rfl
  simp only [Act.put, List.getElem_toArray, List.getElem_cons_succ, List.getElem_cons_zero, List.setIfInBounds_toArray, List.set_cons_zero, List.set_cons_succ]
  refine wpAnyT_held (i := 31) (v := ?_) rfl (by kernel_rfl) (by kernel_rfl) (by kernel_rfl) (fun _ _ _ h => h) (by kernel_rfl) hT (fun _ => hS) (by kernel_rfl) ?_ ?_
  rotate_left
  · intro wx hSw; go_split_ands; go_simp; try with_reducible rfl
  simp only [Act.put, List.getElem_toArray, List.getElem_cons_succ, List.getElem_cons_zero, List.setIfInBounds_toArray, List.set_cons_zero, List.set_cons_succ]
  refine wpAnyT_held (i := 32) (v := ?_) rfl (by kernel_rfl) (by kernel_rfl) (by kernel_rfl) (fun _ _ _ h => h) (by kernel_rfl) hT (fun _ => hS) (by kernel_rfl) ?_ ?_
  rotate_left
  · intro wx hSw; go_split_ands; go_simp; try with_reducible rfl
  simp only [Act.put, List.getElem_toArray, List.getElem_cons_succ, List.getElem_cons_zero, List.setIfInBounds_toArray, List.set_cons_zero, List.set_cons_succ]
  refine wpAnyT_held (i := 33) (v := ?_) rfl (by kernel_rfl) (by kernel_rfl) (by kernel_rfl) (fun _ _ _ h => h) (by kernel_rfl) hT (fun _ => hS) (by kernel_rfl) ?_ ?_
  rotate_left
  · intro wx hSw; go_split_ands; go_simp; try with_reducible rfl
  simp only [Act.put, List.getElem_toArray, List.getElem_cons_succ, List.getElem_cons_zero, List.setIfInBounds_toArray, List.set_cons_zero, List.set_cons_succ]
  refine wpAnyT_held (i := 34) (v := ?_) rfl (by kernel_rfl) (by kernel_rfl) (by kernel_rfl) (fun _ _ _ h => h) (by kernel_rfl) hT (fun _ => hS) (by kernel_rfl) ?_ ?_
  rotate_left
  · intro wx hSw; go_split_ands; go_simp; try with_reducible rfl
  simp only [Act.put, List.getElem_toArray, List.getElem_cons_succ, List.getElem_cons_zero, List.setIfInBounds_toArray, List.set_cons_zero, List.set_cons_succ]
  refine wpAnyT_held (i := 35) (v := ?_) rfl (by kernel_rfl) (by kernel_rfl) (by kernel_rfl) (fun _ _ _ h => h) (by kernel_rfl) hT (fun _ => hS) (by kernel_rfl) ?_ ?_
  rotate_left
  · intro wx hSw; go_split_ands; go_simp; try with_reducible rfl
  simp only [Act.put, List.getElem_toArray, List.getElem_cons_succ, List.getElem_cons_zero, List.setIfInBounds_toArray, List.set_cons_zero, List.set_cons_succ]
  refine wpAnyT_held (i := 36) (v := .bool true) rfl (by kernel_rfl) (by kernel_rfl) (by kernel_rfl) (fun _ _ _ h => h) (by kernel_rfl) hT (fun _ => hS) (by kernel_rfl) ?_ ?_
  · intro wx hSw; go_split_ands; go_simp
  simp only [Act.put, List.getElem_toArray, List.getElem_cons_succ, List.getElem_cons_zero, List.setIfInBounds_toArray, List.set_cons_zero, List.set_cons_succ]
  refine wpAnyT_held (i := 37) (v := ?_) rfl (by kernel_rfl) (by kernel_rfl) (by kernel_rfl) (fun _ _ _ h => h) (by kernel_rfl) hT (fun _ => hS) (by kernel_rfl) ?_ ?_
  rotate_left
  · intro wx hSw; go_split_ands; go_simp; try with_reducible rfl
  simp only [Act.put, List.getElem_toArray, List.getElem_cons_succ, List.getElem_cons_zero, List.setIfInBounds_toArray, List.set_cons_zero, List.set_cons_succ]
  refine wpAnyT_held (i := 38) (v := ?_) rfl (by kernel_rfl) (by kernel_rfl) (by kernel_rfl) (fun _ _ _ h => h) (by kernel_rfl) hT (fun _ => hS) (by kernel_rfl) ?_ ?_
  rotate_left
  · intro wx hSw; go_split_ands; go_simp; try with_reducible rfl
  simp only [Act.put, List.getElem_toArray, List.getElem_cons_succ, List.getElem_cons_zero, List.setIfInBounds_toArray, List.set_cons_zero, List.set_cons_succ]
  refine wpAnyT_done (by kernel_rfl) ?_ _
  clear hT hS cut1 cut2 cut3 cut4
  go_wp2
  go_ret
  exact ⟨rfl, HB7.out⟩
end Go.Proofs.Ytdkkenlehdblpaa

