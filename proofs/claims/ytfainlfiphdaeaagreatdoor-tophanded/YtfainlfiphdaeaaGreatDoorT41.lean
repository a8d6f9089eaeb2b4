/- Rd6 Fm9 Fm10 -/
import Derived.Test.YtfainlfiphdaeaaGreatDoorT08
import Derived.Test.YtfainlfiphdaeaaGreatDoorT40
namespace Go.Proofs.YtfainlfiphdaeaaGreatDoor
open Go.RowKit
set_option maxRecDepth 20000
set_option linter.unusedSimpArgs false
noncomputable def unpB (z : List Int) : List Int := open Classical in if unpadOk z then unpadL z else []
noncomputable def unpE (z : List Int) : Int := open Classical in if unpadOk z then 0 else 3
set_option maxHeartbeats 2000000 in
theorem Unpad_any (x : Option Addr) (n c : Nat) (z : List Int) (w : World) (hT : BTab w) (hb : Bytes w x n c z) (hz : ∀ v ∈ z, b8 v) (hl : z.length ≤ 1000000) :
    Calls Tryz.prog 71 #[.slice x n c] w fun e w' => ∃ x' n' c', e = .returned (.tuple #[.slice x' n' c', .int .i64 (unpE z)]) ∧ Bytes w' x' n' c' (unpB z) ∧ Below w.heap.size w w' := by
  have hrd : Calls Tryz.prog 126 #[.slice x n c, .func (.func 127) #[] #[]] w fun e w' => ∃ x' n' c', e = .returned (.tuple #[.slice x' n' c', .int .i64 (unpE z)]) ∧ Bytes w' x' n' c' (unpB z) ∧ Below w.heap.size w w' := (readB_any x n c z w hT hb hz hl).mono fun e w' h => by
    rcases h with ⟨h0, x', n', c', h1, h2, h3⟩ | ⟨h0, h1, h2⟩
    · unfold unpE unpB
      rw [if_pos h0, if_pos h0]
      exact ⟨x', n', c', h1, h2.bytes.2, h3⟩
    · unfold unpE unpB
      rw [if_neg h0, if_neg h0]
      exact ⟨none, 0, 0, h1, bytes_nil _, h2⟩
  obtain ⟨E, hE⟩ : ∃ q, unpE z = q := ⟨_, rfl⟩
  obtain ⟨U, hU⟩ : ∃ q, unpB z = q := ⟨_, rfl⟩
  rw [hE, hU] at hrd ⊢
  clear hT hb hz hl hE hU
  go_enter Tryz.func71, Tryz.ntmps71
  go_wp2_with (go_at_call 126; refine hrd.mono ?_; rintro e w1 ⟨x1, n1, c1, rfl, hy1, hb1⟩)
  go_ret2
  exact ⟨x1, n1, c1, rfl, hy1, hb1⟩
theorem be2_told (n : Nat) (hn : n ≤ 65535) (r : List Int) : toldN (be2 n ++ r) = n := by
  show (val2 ((n : Int) / 256 % 256) ((n : Int) % 256)).toNat = n
  unfold val2; omega
theorem padL_ok (z : List Int) (s : Nat) (h1 : z.length ≤ 65535) (h2 : z.length + 2 ≤ s) (h3 : bucketN z.length = (s : Int)) : unpadOk (padL z s) ∧ unpadL (padL z s) = z := by
  have hl := padL_length z s h2
  have e : padL z s = be2 z.length ++ (z ++ List.replicate (s - (z.length + 2)) 0) := by unfold padL; rw [List.append_assoc]
  have ht : toldN (padL z s) = z.length := by rw [e]; exact be2_told z.length h1 _
  have hb : (be2 (z.length : Int)).length = 2 := rfl
  refine ⟨⟨by omega, by rw [ht, hl, h3], fun j hj => ?_⟩, ?_⟩
  · have hd : (padL z s).drop (2 + z.length) = List.replicate (s - (z.length + 2)) 0 := by
      rw [e, ← List.drop_drop, List.drop_left' hb, List.drop_left' rfl]
    rw [ht, hd]
    by_cases hj' : j < s - (z.length + 2)
    · rw [List.getElem?_replicate_of_lt hj']; rfl
    · rw [List.getElem?_eq_none (by simp; omega)]; rfl
  · unfold unpadL
    rw [ht, e, List.drop_left' hb, List.take_left' rfl]
end Go.Proofs.YtfainlfiphdaeaaGreatDoor
namespace Go.Proofs.YtfainlfiphdaeaaGreatDoor
open Go.RowKit
set_option maxRecDepth 20000
set_option linter.unusedSimpArgs false
theorem be4_in9 (n : Int) : ∀ v ∈ be4 n, b8 v := fun v hv => by
  unfold be4 at hv
  simp only [List.mem_cons, List.not_mem_nil, or_false] at hv
  rcases hv with rfl | rfl | rfl | rfl <;> constructor <;> omega
theorem openL_in9 (F : Fr) (ws : List Wp) (hF : F.In) (hi : ∀ e ∈ ws, e.In) (hw : ws.length ≤ 64) : ∀ v ∈ openL F ws, isB v := by
  intro v hv
  unfold openL dotL at hv
  simp only [List.mem_append, List.mem_cons, List.not_mem_nil, or_false] at hv
  rcases hv with ((((((rfl | rfl | rfl) | h1) | (rfl | h1)) | h1) | rfl) | h1)
  · exact ⟨by decide, by decide⟩
  · exact ⟨by decide, by decide⟩
  · exact hF.author
  · exact be4_in9 _ v h1
  · exact hF.ea
  · exact be4_in9 _ v h1
  · exact hF.prev v h1
  · exact ⟨by omega, by omega⟩
  · unfold wrapsL at h1
    obtain ⟨c, hc, hvc⟩ := List.mem_flatten.1 h1
    obtain ⟨e, he, rfl⟩ := List.mem_map.1 hc
    have h := hi e he
    unfold wrapL dotL at hvc
    simp only [List.mem_append, List.mem_cons, List.not_mem_nil, or_false] at hvc
    rcases hvc with (rfl | (rfl | h1)) | h1
    · exact h.too
    · exact h.ea
    · exact be4_in9 _ v h1
    · exact h.data v h1
theorem at1_in9 (z : List Int) (hz : ∀ v ∈ z, b8 v) (o : Nat) : in8 (at1 z o) := by
  unfold at1
  cases h : z[o]? with
  | none => exact ⟨by decide, by decide⟩
  | some x => exact hz x (List.mem_of_getElem? h)
theorem at4_in9 (z : List Int) (hz : ∀ v ∈ z, b8 v) (o : Nat) : in32 (at4 z o) := by
  have h0 := at1_in9 z hz o
  have h1 := at1_in9 z hz (o + 1)
  have h2 := at1_in9 z hz (o + 2)
  have h3 := at1_in9 z hz (o + 3)
  unfold at4 val4
  exact ⟨by have := h0.1; have := h1.1; have := h2.1; have := h3.1; omega, by have := h0.2; have := h1.2; have := h2.2; have := h3.2; omega⟩
theorem evOf_in9 (z : List Int) (hz : ∀ v ∈ z, b8 v) : (evOf z).In :=
  ⟨at1_in9 z hz _, at4_in9 z hz _, pastZ_length z, fun x hx => by
    obtain ⟨j, _, rfl⟩ := List.mem_map.1 hx
    exact at4_in9 z hz _, at1_in9 z hz _, at1_in9 z hz _, at4_in9 z hz _, at1_in9 z hz _, at1_in9 z hz _, at1_in9 z hz _⟩
theorem evZ_in9 : evZ.In := ⟨⟨by decide, by decide⟩, ⟨by decide, by decide⟩, rfl, fun x hx => by
  have : x ∈ ([0, 0, 0, 0, 0, 0, 0, 0] : List Int) := hx
  simp only [List.mem_cons, List.not_mem_nil, or_false, or_self] at this
  rw [this]; exact ⟨by decide, by decide⟩, ⟨by decide, by decide⟩, ⟨by decide, by decide⟩, ⟨by decide, by decide⟩, ⟨by decide, by decide⟩, ⟨by decide, by decide⟩, ⟨by decide, by decide⟩⟩
theorem revB_in9 (z : List Int) (hz : ∀ v ∈ z, b8 v) : (revB z).In := by
  unfold revB
  split
  · exact evOf_in9 z hz
  · exact evZ_in9
theorem unpB_in9 (z : List Int) (hz : ∀ v ∈ z, b8 v) : ∀ v ∈ unpB z, b8 v := by
  intro v hv
  unfold unpB at hv
  split at hv
  · unfold unpadL at hv
    exact hz v (List.mem_of_mem_drop (List.mem_of_mem_take hv))
  · cases hv
noncomputable def openP (k : List Int) (F : Fr) (lb : Nat) (body : List Int) : List Int := xorL (fkeyL k F.author) (nonceL F.number) 1 (body.take (lb - 16))
noncomputable def openV (k : List Int) (F : Fr) (lb : Nat) (body : List Int) : Ev := revB (unpB (openP k F lb body))
noncomputable def openK (k : List Int) (F : Fr) (ws : List Wp) (lb : Nat) (body : List Int) : Int :=
  if lb < 16 then 3 else if tagL (fkeyL k F.author) (nonceL F.number) (openL F ws) (body.take (lb - 16)) = body.drop (lb - 16) then (if unpE (openP k F lb body) = 0 then (if revE (unpB (openP k F lb body)) = 0 then (if fitsB (openV k F lb body) F = true then 0 else 3) else 3) else 3) else 4
noncomputable def openE (seed : List Int) (m : Option (List Int)) (F : Fr) (lw : Nat) (ws : List Wp) (lb : Nat) (body : List Int) : Int :=
  if checkE seed F lw ws lb body = 0 then (match m with | none => 9 | some k => openK k F ws lb body) else checkE seed F lw ws lb body
theorem check_ok {seed : List Int} {F : Fr} {lw : Nat} {ws : List Wp} {lb : Nat} {body : List Int} (h : checkE seed F lw ws lb body = 0) : F.author < 8 ∧ mayB F.number = true ∧ lw ≤ 64 ∧ lb ≤ 4112 ∧ ftagL seed F ws body = F.mac := by
  unfold checkE at h
  split at h
  · rename_i h1
    split at h
    · rename_i h2
      split at h
      · rename_i h3
        exact ⟨h1.1, h1.2, h2.1, h2.2, h3⟩
      · omega
    · omega
  · omega
end Go.Proofs.YtfainlfiphdaeaaGreatDoor
namespace Go.Proofs.YtfainlfiphdaeaaGreatDoor
open Go.RowKit
set_option maxRecDepth 20000
set_option linter.unusedSimpArgs false
section
variable (base H : Nat) (own : Int) (seed : List Int) (b : Nat) (M : Int → Int → Option (List Int)) (v : Value) (L : List (Int × Int)) (w : World)
variable (b0 b1 : Nat) (F : Fr) (xw : Option Addr) (lw cw : Nat) (ws : List Wp) (xb : Option Addr) (lb cb : Nat) (body : List Int)
set_option maxHeartbeats 16000000 in
theorem openSteps_any (c0 : w.cell? ⟨b0, 0, none⟩ = some (.pointer (some ⟨H, 0, none⟩))) (r1 : w.rangeAt b1 0 F.cells) (hR : RingAt w base H own seed b M v L) (hKT : S.KTab w) (hBT : BTab w) (hF : FrOk w F xw lw cw ws xb lb cb body) (hIn : F.In) (hWi : ∀ e ∈ ws, e.In) (hBi : ∀ x ∈ body, isB x) :
    Calls Tryz.prog 66 #[.pointer (some ⟨b0, 0, none⟩), .pointer (some ⟨b1, 0, none⟩)] w fun e w' => ((openE seed (M F.ea F.es) F lw ws lb body ≠ 0 ∧ e = .panicked [stopP (openE seed (M F.ea F.es) F lw ws lb body)]) ∨ (openE seed (M F.ea F.es) F lw ws lb body = 0 ∧ ∃ k, M F.ea F.es = some k ∧ e = .returned (.agg (openV k F lb body).cells.toArray))) ∧ Below w.heap.size w w' := by
  obtain ⟨f70, f0, f1, f2, _, _, f37, _⟩ := fr_parts F hF.prev hF.mac
  rw [hF.body_] at f37
  have iF : (Tryz.prog.info? 43).map (·.size) = some F.cells.length := by rw [f70]; exact sizeFrame
  have hb0 : Below w.heap.size w (w.alloc (.cells evZ.cells.toArray 33)) := (Below.refl _ _).alloc (Nat.le_refl _) _
  have hRS0 := CellsAt.new w 33 evZ.cells
  have HS : Veil (∀ W, Below w.heap.size w W → W.cell? ⟨b0, 0, none⟩ = some (.pointer (some ⟨H, 0, none⟩)) ∧ W.rangeAt b1 0 F.cells ∧ W.cell? ⟨b1, 0, none⟩ = some (.int .u8 F.author) ∧ W.cell? ⟨b1, 1, none⟩ = some (.int .u32 F.number) ∧ W.rangeAt b1 2 (dotC F.ea F.es) ∧ W.cell? ⟨b1, 37, none⟩ = some (.slice xb lb cb)) := ⟨fun W hb => by
    have r := rangeAt_below r1 hb
    refine ⟨cell_below c0 hb, r, ?_, ?_, fun j u hu => ?_, ?_⟩
    · have := r 0 _ f0; simpa using this
    · have := r 1 _ f1; simpa using this
    · rw [← f2] at hu
      have hj : j < 2 := by
        have := (List.getElem?_eq_some_iff.1 hu).1
        rw [List.length_take] at this; omega
      rw [List.getElem?_take_of_lt hj, List.getElem?_drop] at hu
      have := r (2 + j) u hu
      rw [Nat.zero_add] at this
      exact this
    · have := r 37 _ f37; simpa using this⟩
  have HR := Veil.mk (fun W (hb : Below w.heap.size w W) => hR.far hb)
  have HKT : Veil (∀ W, Below w.heap.size w W → S.KTab W ∧ BTab W) := ⟨fun W hb => ⟨hKT.below hb, hBT.below hb⟩⟩
  have HF := Veil.mk (fun W (hb : Below w.heap.size w W) => hF.below hb)
  have HPRE := Veil.mk (And.intro hIn (And.intro hWi hBi))
  have HOE : Veil (openE seed (M F.ea F.es) F lw ws lb body = if checkE seed F lw ws lb body = 0 then (match M F.ea F.es with | none => 9 | some k => openK k F ws lb body) else checkE seed F lw ws lb body) := ⟨rfl⟩
  generalize openE seed (M F.ea F.es) F lw ws lb body = OE at HOE ⊢
  have HCK : Veil (∀ W, Below w.heap.size w W → Calls Tryz.prog 23 #[.pointer (some ⟨H, 0, none⟩), .agg F.cells.toArray] W fun e w' => e = .returned (.int .i64 (checkE seed F lw ws lb body)) ∧ Below W.heap.size W w') := ⟨fun W hb => Check_any base H own seed b M v L W F xw lw cw ws xb lb cb body (HR.out W hb) (HKT.out W hb).1 (HF.out W hb) HPRE.out.1.mac⟩
  have HPR := Veil.mk (And.intro hF.prev hF.mac)
  have HLB : Veil (lb = body.length) := ⟨hF.hb.len_eq⟩
  have HFW := Veil.mk hF.wraps
  clear c0 r1 hR hKT hBT hF hIn hWi hBi f70 f0 f1 f2 f37
  have uF := Tryz.underlying43
  have uD := Tryz.underlying26
  have uK := Tryz.underlying23
  have uE := Tryz.underlying33
  have iD : (Tryz.prog.info? 26).map (·.size) = some (dotC F.ea F.es).length := sizeDot
  go_enter Tryz.func66, Tryz.ntmps66
  go_upto_region 1 with fail
  refine forget (p := fun y => Code.wp _ _ _ _ y) (fun W => Below w.heap.size w W ∧ CellsAt W w.heap.size 33 evZ.cells) ⟨hb0, hRS0⟩ ?_
  clear hb0 hRS0
  rintro W ⟨hb, hRS⟩
  obtain ⟨c0, rF, -, -, -, -⟩ := HS.out W hb
  have hck := HCK.out W hb
  by_cases hc : checkE seed F lw ws lb body = 0
  rotate_left
  · have HE : Veil (OE = checkE seed F lw ws lb body ∧ checkE seed F lw ws lb body ≠ 0) := ⟨by rw [HOE.out, if_neg hc], hc⟩
    have HPB := Veil.mk (fun W => fpass_bad (checkE seed F lw ws lb body) hc W)
    generalize checkE seed F lw ws lb body = CE at hck HE HPB
    clear hc HOE
    go_wp2_with (first
      | (refine wpList_ldv rfl 43 _ rfl _ _ rfl F.cells rF uF rfl iF ?_)
      | (go_at_call 23; refine hck.mono ?_; rintro e w1 ⟨rfl, hb1⟩; have hpb := HPB.out w1; clear hck)
      | (go_at_call 67; refine hpb.mono ?_; rintro e w2 ⟨rfl, rfl⟩))
    refine bodyPost_gone ?_
    exact ⟨Or.inl ⟨by rw [HE.out.1]; exact HE.out.2, by rw [HE.out.1]⟩, hb.trans (hb1.mono hb.size)⟩
  obtain ⟨h8, hmy, hl, hlb, -⟩ := check_ok hc
  have HOE1 : Veil (OE = (match M F.ea F.es with | none => 9 | some k => openK k F ws lb body)) := ⟨by rw [HOE.out, if_pos hc]⟩
  rw [hc] at hck
  have HPK := Veil.mk fpass_ok
  clear hc HOE hmy HCK
  go_upto_region 2 with (first
    | (refine wpList_ldv rfl 43 _ rfl _ _ rfl F.cells rF uF rfl iF ?_)
    | (go_at_call 23; refine hck.mono ?_; rintro e w1 ⟨rfl, hb1⟩; have hpk := HPK.out w1; clear hck)
    | (go_at_call 67; refine hpk.mono ?_; rintro e w2 ⟨⟨q1, rfl⟩, rfl⟩; clear hpk))
  refine forget (p := fun y => Code.wp _ _ _ _ y) (fun V => Below w.heap.size w V ∧ CellsAt V w.heap.size 33 evZ.cells) ⟨hb.trans (hb1.mono hb.size), hRS.farM hb1⟩ ?_
  clear hb1 hb hRS c0 rF
  clear w1 W
  rintro W ⟨hb, hRS⟩
  obtain ⟨c0, -, cA, -, rD, -⟩ := HS.out W hb
  have hok : okD F.ea F.es := ⟨⟨HPRE.out.1.ea.1, HPRE.out.1.ea.2⟩, HPRE.out.1.es.1, HPRE.out.1.es.2⟩
  cases hm : M F.ea F.es with
  | none =>
    have HE : Veil (OE = 9) := ⟨by rw [HOE1.out, hm]⟩
    have hfk := fk_nokey _ _ _ _ _ _ _ _ W F.ea F.es F.author hok h8 (HR.out W hb) hm
    have HGB := Veil.mk (fun W => gotK_bad z32 9 (by decide) W)
    clear h8 hm HOE1
    go_wp2_with (first
      | (refine wpList_ldv rfl 26 _ rfl _ _ rfl (dotC F.ea F.es) rD uD rfl iD ?_)
      | (go_at_call 49; refine hfk.mono ?_; rintro e w1 ⟨rfl, hb1⟩; have hgb := HGB.out w1; clear hfk)
      | (go_at_call 48; refine hgb.mono ?_; rintro e w2 ⟨rfl, hb2⟩))
    refine bodyPost_gone ?_
    have hb1' := hb.trans (hb1.mono hb.size)
    exact ⟨Or.inl ⟨by rw [HE.out]; decide, by rw [HE.out]⟩, hb1'.trans (hb2.mono hb1'.size)⟩
  | some k =>
    have HOE2 : Veil (OE = openK k F ws lb body) := ⟨by rw [HOE1.out, hm]⟩
    have HKM := Veil.mk hm
    have hfk := fk_ok _ _ _ _ _ _ _ _ W F.ea F.es F.author k hok h8 (HR.out W hb) hm (HKT.out W hb).1
    obtain ⟨FK, hFK⟩ : ∃ q, fkeyL k F.author = q := ⟨_, rfl⟩
    have hFl : FK.length = 32 := by rw [← hFK]; exact derL_length _ _
    have HFK := Veil.mk hFK
    rw [hFK] at hfk
    have HGK := Veil.mk (fun W => gotK_ok FK hFl W)
    obtain ⟨ZK, hZKl, hZK⟩ : ∃ Z : List Int, Z.length = 32 ∧ Z = List.replicate 32 0 := ⟨_, rfl, rfl⟩
    have hzv : ∀ wx, (zeroValue 23).run Tryz.prog wx = .ok (.agg (row .u8 ZK)) wx := fun wx => by rw [hZK]; kernel_rfl
    have hz1 : ¬ (row .u8 ZK) = #[] := by intro h; have := congrArg Array.size h; rw [row_size] at this; simp at this; rw [this] at hZKl; simp at hZKl
    clear hZK hFK h8 hm HOE1
    go_upto_region 3 with (first
      | (refine wpList_ldv rfl 26 _ rfl _ _ rfl (dotC F.ea F.es) rD uD rfl iD ?_)
      | (go_at_call 49; refine hfk.mono ?_; rintro e w1 ⟨rfl, hb1⟩; have hgk := HGK.out w1; clear hfk)
      | (go_at_call 48; refine hgk.mono ?_; rintro e w2 ⟨rfl, hb2⟩; have hk2 := Holds.new w2 .u8 23 ZK; clear hgk)
      | (refine wpList_st rfl 23 _ _ rfl _ rfl rfl hk2 (by rw [hFl]; exact sizeKeyD) (by rw [hZKl, hFl]) ?_))
    have hb3 : Below w2.heap.size w2 ((w2.alloc (.cells (row .u8 ZK) 23)).setRow w2.heap.size (row .u8 FK)) := below_setRow ((Below.refl _ _).alloc (Nat.le_refl _) _) (Nat.le_refl _) _
    have hb12 := hb1.trans (hb2.mono hb1.size)
    have hb13 := hb12.trans (hb3.mono hb12.size)
    refine forget (p := fun y => Code.wp _ _ _ _ y) (fun V => Below w.heap.size w V ∧ CellsAt V w.heap.size 33 evZ.cells ∧ Holds V w2.heap.size .u8 23 FK) ⟨hb.trans (hb13.mono hb.size), hRS.farM hb13, hk2.setRow _⟩ ?_
    clear hb13 hb12 hb3 hk2 hb1 hb2 hb hRS c0 cA rD hzv hz1 HGK
    obtain ⟨KB, hKB⟩ : ∃ q, w2.heap.size = q := ⟨_, rfl⟩
    rw [hKB]
    clear hKB
    clear w2 w1 W
    rintro W ⟨hb, hRS, hQ⟩
    have hOi : ∀ v ∈ openL F ws, isB v := openL_in9 F ws HPRE.out.1 HPRE.out.2.1 (by have := (HF.out W hb).hw.len_eq; omega)
    have HOI := Veil.mk hOi
    have HOP : Veil (∀ V, Below w.heap.size w V → Calls Tryz.prog 55 #[.agg F.cells.toArray] V fun e w' => ∃ x4 n4 c4, e = .returned (.slice x4 n4 c4) ∧ n4 ≤ 4000 ∧ Bytes w' x4 n4 c4 (openL F ws) ∧ Below V.heap.size V w') := ⟨fun V h => by
      refine (Open_any F xw lw cw ws V HPR.out.1 HPR.out.2 HFW.out (HF.out V h).hw hl).mono ?_
      rintro e w' ⟨v', he, ho, hb'⟩
      obtain ⟨x4, n4, c4, rfl, hn4⟩ := ho.isSlice
      refine ⟨x4, n4, c4, he, ?_, ho.bytes.2, hb'⟩
      rw [hn4, openL_length F ws HPR.out.1 (HF.out V h).hw.ok]
      have := (HF.out V h).hw.len_eq
      omega⟩
    have iFK : (Tryz.prog.info? 23).map (·.size) = some (FK.map (Value.int .u8)).length := by rw [List.length_map, hFl]; exact sizeKeyD
    have HTT : ∀ V, Below w.heap.size w V → Holds V KB .u8 23 FK → (fun w' : World => w'.rangeAt KB 0 (FK.map (Value.int .u8)) ∧ w'.cell? ⟨b1, 1, none⟩ = some (.int .u32 F.number) ∧ w'.rangeAt b1 0 F.cells ∧ w'.cell? ⟨b1, 37, none⟩ = some (.slice xb lb cb)) V := fun V h1 h2 => by
      obtain ⟨_, q2, _, q4, _, q6⟩ := HS.out V h1
      exact ⟨h2.cellsAt.wholeM, q4, q2, q6⟩
    clear hOi hok
    -- the body is opened, or not
    have HAO : Veil ((lb < 16 ∨ (16 ≤ lb ∧ ¬ tagL FK (nonceL F.number) (openL F ws) (body.take (lb - 16)) = body.drop (lb - 16))) ∨ (16 ≤ lb ∧ tagL FK (nonceL F.number) (openL F ws) (body.take (lb - 16)) = body.drop (lb - 16))) := ⟨by
      by_cases q : lb < 16
      · exact .inl (.inl q)
      · by_cases q2 : tagL FK (nonceL F.number) (openL F ws) (body.take (lb - 16)) = body.drop (lb - 16)
        · exact .inr ⟨by omega, q2⟩
        · exact .inl (.inr ⟨by omega, q2⟩)⟩
    rcases HAO.out with hbad | ⟨h16, htag⟩
    · have HAE : Veil (∃ n : Int, n ≠ 0 ∧ OE = n ∧ ∀ V x4 n4 c4, Below w.heap.size w V → Bytes V x4 n4 c4 (openL F ws) → n4 ≤ 4000 → Calls Tryz.prog 68 #[.agg (row .u8 FK), .agg (row .u8 (nonceL F.number)), .slice x4 n4 c4, .slice xb lb cb] V fun e w' => e = .returned (.tuple #[.slice none 0 0, .int .i64 n]) ∧ Below V.heap.size V w') := ⟨by
        rcases hbad with q | ⟨q1, q2⟩
        · exact ⟨3, by decide, by rw [HOE2.out]; unfold openK; rw [if_pos q], fun V x4 n4 c4 hV hy hn => open_short FK (nonceL F.number) x4 n4 c4 xb lb cb V q⟩
        · refine ⟨4, by decide, ?_, fun V x4 n4 c4 hV hy hn => open_bad FK (nonceL F.number) x4 n4 c4 (openL F ws) xb lb cb body V hFl rfl hy (HF.out V hV).hb (by omega) (by omega) q1 HOI.out HPRE.out.2.2 q2⟩
          rw [HOE2.out]
          unfold openK
          rw [if_neg (by omega), HFK.out, if_neg q2]⟩
      obtain ⟨n, hn0, hOE, hAE⟩ := HAE.out
      have HN := Veil.mk (And.intro hn0 hOE)
      have HGB := Veil.mk (fun V => gotB_bad (.slice none 0 0) n hn0 V)
      clear hbad HAO HAE hn0 hOE
      refine wp_region_gateT (fun w' => w'.rangeAt KB 0 (FK.map (Value.int .u8)) ∧ w'.cell? ⟨b1, 1, none⟩ = some (.int .u32 F.number) ∧ w'.rangeAt b1 0 F.cells ∧ w'.cell? ⟨b1, 37, none⟩ = some (.slice xb lb cb)) (fun _ => True) 99 (by kernel_rfl) ?_
      refine forget (p := fun y => wpAnyT _ _ _ _ _ _ _ _ _ _ y) (fun V => Below w.heap.size w V ∧ Holds V KB .u8 23 FK) ⟨hb.drew, hQ.below (Below.refl W.heap.size W).drew hQ.lt⟩ ?_
      clear hb hRS hQ
      clear W
      rintro V ⟨hB, hQ⟩
      have hT := HTT V hB hQ
      have hS := trivial
      refine wpAnyT_load (i := 0) (dst := some 19) (ty := 23) (x := .tmp 3) (b := KB) (o := (0)) (cs := (FK.map (Value.int .u8))) (by kernel_rfl) (by kernel_rfl) (by kernel_rfl) (by kernel_rfl) (by kernel_rfl) (fun _ _ _ h => h) (by kernel_rfl) hT (fun _ => hS) (by kernel_rfl) (fun _ h => h.1) uK rfl iFK ?_
      simp only [Act.put, gA, gS, gZ, sI, sZ, sS]
      refine wpAnyT_held (i := 1) (v := ?_) rfl (by kernel_rfl) (by kernel_rfl) (by kernel_rfl) (fun _ _ _ h => h) (by kernel_rfl) hT (fun _ => hS) (by kernel_rfl) ?_ ?_
      rotate_left
      · intro wx hSw; go_split_ands; go_simp; try with_reducible rfl
      simp only [Act.put, gA, gS, gZ, sI, sZ, sS]
      refine wpAnyT_held (i := 2) (v := ?_) rfl (by kernel_rfl) (by kernel_rfl) (by kernel_rfl) (fun _ _ _ h => h) (by kernel_rfl) hT (fun _ => hS) (by kernel_rfl) ?_ ?_
      rotate_left
      · intro wx hSw; go_split_ands; go_simp; try with_reducible rfl
      simp only [Act.put, gA, gS, gZ, sI, sZ, sS]
      refine wpAnyT_held (i := 6) (v := ?_) rfl (by kernel_rfl) (by kernel_rfl) (by kernel_rfl) (fun _ _ _ h => h) (by kernel_rfl) hT (fun _ => hS) (by kernel_rfl) ?_ ?_
      rotate_left
      · intro wx hSw; go_split_ands; go_simp; try with_reducible rfl
      simp only [Act.put, gA, gS, gZ, sI, sZ, sS]
      refine wpAnyT_held (i := 7) (v := ?_) rfl (by kernel_rfl) (by kernel_rfl) (by kernel_rfl) (fun _ _ _ h => h) (by kernel_rfl) hT (fun _ => hS) (by kernel_rfl) ?_ ?_
      rotate_left
      · intro wx hSw; go_split_ands; go_simp; try with_reducible rfl
      simp only [Act.put, gA, gS, gZ, sI, sZ, sS]
      refine wpAnyT_load (i := 4) (dst := some 23) (ty := 43) (x := .tmp 1) (b := b1) (o := (0)) (cs := F.cells) (by kernel_rfl) (by kernel_rfl) (by kernel_rfl) (by kernel_rfl) (by kernel_rfl) (fun _ _ _ h => h) (by kernel_rfl) hT (fun _ => hS) (by kernel_rfl) (fun _ h => h.2.2.1) uF rfl iF ?_
      simp only [Act.put, gA, gS, gZ, sI, sZ, sS]
      refine wpAnyT_one (i := 3) rfl (by kernel_rfl) (by kernel_rfl) (fun K hK => ?_)
      refine wpx_call _ _ (by kernel_rfl) ((nonce_any F.number V).mono ?_)
      rintro e w2 ⟨rfl, hb2⟩
      refine ⟨_, rfl, ?_⟩
      have hB2 := hB.trans (hb2.mono hB.size)
      have hQ2 := hQ.below hb2 hQ.lt
      replace hT := HTT w2 hB2 hQ2
      refine hK.out _ _ hT (fun _ => hS) ?_
      clear hK K
      try simp only [Act.put, gA, gS, gZ, sI, sZ, sS]
      refine wpAnyT_one (i := 5) rfl (by kernel_rfl) (by kernel_rfl) (fun K hK => ?_)
      refine wpx_call _ _ (by kernel_rfl) ((HOP.out w2 hB2).mono ?_)
      rintro e w3 ⟨x4, n4, c4, rfl, hn4, hy4, hb3⟩
      refine ⟨_, rfl, ?_⟩
      have hB3 := hB2.trans (hb3.mono hB2.size)
      have hQ3 := hQ2.below hb3 hQ2.lt
      replace hT := HTT w3 hB3 hQ3
      refine hK.out _ _ hT (fun _ => hS) ?_
      clear hK K
      try simp only [Act.put, gA, gS, gZ, sI, sZ, sS]
      refine wpAnyT_one (i := 8) rfl (by kernel_rfl) (by kernel_rfl) (fun K hK => ?_)
      refine wpx_call _ _ (by kernel_rfl) ((hAE w3 x4 n4 c4 hB3 hy4 hn4).mono ?_)
      rintro e w4 ⟨rfl, hb4⟩
      refine ⟨_, rfl, ?_⟩
      have hB4 := hB3.trans (hb4.mono hB3.size)
      have hQ4 := hQ3.below hb4 hQ3.lt
      replace hT := HTT w4 hB4 hQ4
      refine hK.out _ _ hT (fun _ => hS) ?_
      clear hK K
      try simp only [Act.put, gA, gS, gZ, sI, sZ, sS]
      refine wpAnyT_held (i := 9) (v := ?_) rfl (by kernel_rfl) (by kernel_rfl) (by kernel_rfl) (fun _ _ _ h => h) (by kernel_rfl) hT (fun _ => hS) (by kernel_rfl) ?_ ?_
      rotate_left
      · intro wx hSw; go_split_ands; go_simp; try with_reducible rfl
      simp only [Act.put, gA, gS, gZ, sI, sZ, sS]
      refine wpAnyT_held (i := 10) (v := ?_) rfl (by kernel_rfl) (by kernel_rfl) (by kernel_rfl) (fun _ _ _ h => h) (by kernel_rfl) hT (fun _ => hS) (by kernel_rfl) ?_ ?_
      rotate_left
      · intro wx hSw; go_split_ands; go_simp; try with_reducible rfl
      simp only [Act.put, gA, gS, gZ, sI, sZ, sS]
      refine wpAnyT_one (i := 11) rfl (by kernel_rfl) (by kernel_rfl) (fun K hK => ?_)
      have hgb := HGB.out w4
      refine wpx_gone _ _ (by kernel_rfl) (hgb.mono ?_)
      rintro e w5 ⟨rfl, rfl⟩
      refine ⟨_, rfl, ?_⟩
      simp only [Exit.then]
      refine bodyPost_gone ?_
      exact ⟨Or.inl ⟨by rw [HN.out.2]; exact HN.out.1, by rw [HN.out.2]⟩, hB4⟩
    obtain ⟨PT, hPT⟩ : ∃ q, openP k F lb body = q := ⟨_, rfl⟩
    have hPe : xorL FK (nonceL F.number) 1 (body.take (lb - 16)) = PT := by rw [← hPT, ← HFK.out]; rfl
    have hPl : PT.length = lb - 16 := by rw [← hPe, xorL_length, List.length_take]; have := HLB.out; omega
    have HPI : Veil (∀ v ∈ PT, b8 v) := ⟨by
      rw [← hPe]
      exact xorL_in _ _ _ _ (fun v hv => HPRE.out.2.2 v (List.mem_of_mem_take hv))⟩
    have HAE : Veil (∀ V x4 n4 c4, Below w.heap.size w V → Bytes V x4 n4 c4 (openL F ws) → n4 ≤ 4000 → Calls Tryz.prog 68 #[.agg (row .u8 FK), .agg (row .u8 (nonceL F.number)), .slice x4 n4 c4, .slice xb lb cb] V fun e w' => ∃ g, e = .returned (.tuple #[.slice (some ⟨g, 0, none⟩) (lb - 16) (lb - 16), .int .i64 0]) ∧ Bytes w' (some ⟨g, 0, none⟩) (lb - 16) (lb - 16) PT ∧ Below V.heap.size V w') := ⟨fun V x4 n4 c4 hV hy hn => by
      refine (open_ok FK (nonceL F.number) x4 n4 c4 (openL F ws) xb lb cb body V hFl rfl hy (HF.out V hV).hb (by omega) (by omega) h16 HOI.out HPRE.out.2.2 htag).mono ?_
      rintro e w' ⟨g, he, hg, hh, hb'⟩
      rw [hPe] at hh
      exact ⟨g, he, hh.bytes hPl.symm (by rw [hPl]; omega), hb'⟩⟩
    have HOE3 : Veil (OE = if unpE PT = 0 then (if revE (unpB PT) = 0 then (if fitsB (revB (unpB PT)) F = true then 0 else 3) else 3) else 3) := ⟨by
      rw [HOE2.out]
      unfold openK openV
      rw [if_neg (by omega), HFK.out, if_pos htag, hPT]⟩
    have HVE : Veil (openV k F lb body = revB (unpB PT)) := ⟨by unfold openV; rw [hPT]⟩
    have HPL : Veil (PT.length ≤ 1000000) := ⟨by rw [hPl]; omega⟩
    clear hPe hPT htag HAO HOE2 hPl
    obtain ⟨LP, hLP⟩ : ∃ q, lb - 16 = q := ⟨_, rfl⟩
    rw [hLP] at HAE
    clear hLP h16
    refine wp_region_gateT (fun w' => w'.rangeAt KB 0 (FK.map (Value.int .u8)) ∧ w'.cell? ⟨b1, 1, none⟩ = some (.int .u32 F.number) ∧ w'.rangeAt b1 0 F.cells ∧ w'.cell? ⟨b1, 37, none⟩ = some (.slice xb lb cb)) (fun _ => True) 99 (by kernel_rfl) ?_
    refine forget (p := fun y => wpAnyT _ _ _ _ _ _ _ _ _ _ y) (fun V => Below w.heap.size w V ∧ CellsAt V w.heap.size 33 evZ.cells ∧ Holds V KB .u8 23 FK) ⟨hb.drew, hRS.congr rfl, hQ.below (Below.refl W.heap.size W).drew hQ.lt⟩ ?_
    clear hb hRS hQ
    clear W
    rintro V ⟨hB, hRS, hQ⟩
    have hT := HTT V hB hQ
    have hS := trivial
    refine wpAnyT_load (i := 0) (dst := some 19) (ty := 23) (x := .tmp 3) (b := KB) (o := (0)) (cs := (FK.map (Value.int .u8))) (by kernel_rfl) (by kernel_rfl) (by kernel_rfl) (by kernel_rfl) (by kernel_rfl) (fun _ _ _ h => h) (by kernel_rfl) hT (fun _ => hS) (by kernel_rfl) (fun _ h => h.1) uK rfl iFK ?_
    simp only [Act.put, gA, gS, gZ, sI, sZ, sS]
    refine wpAnyT_held (i := 1) (v := ?_) rfl (by kernel_rfl) (by kernel_rfl) (by kernel_rfl) (fun _ _ _ h => h) (by kernel_rfl) hT (fun _ => hS) (by kernel_rfl) ?_ ?_
    rotate_left
    · intro wx hSw; go_split_ands; go_simp; try with_reducible rfl
    simp only [Act.put, gA, gS, gZ, sI, sZ, sS]
    refine wpAnyT_held (i := 2) (v := ?_) rfl (by kernel_rfl) (by kernel_rfl) (by kernel_rfl) (fun _ _ _ h => h) (by kernel_rfl) hT (fun _ => hS) (by kernel_rfl) ?_ ?_
    rotate_left
    · intro wx hSw; go_split_ands; go_simp; try with_reducible rfl
    simp only [Act.put, gA, gS, gZ, sI, sZ, sS]
    refine wpAnyT_held (i := 6) (v := ?_) rfl (by kernel_rfl) (by kernel_rfl) (by kernel_rfl) (fun _ _ _ h => h) (by kernel_rfl) hT (fun _ => hS) (by kernel_rfl) ?_ ?_
    rotate_left
    · intro wx hSw; go_split_ands; go_simp; try with_reducible rfl
    simp only [Act.put, gA, gS, gZ, sI, sZ, sS]
    refine wpAnyT_held (i := 7) (v := ?_) rfl (by kernel_rfl) (by kernel_rfl) (by kernel_rfl) (fun _ _ _ h => h) (by kernel_rfl) hT (fun _ => hS) (by kernel_rfl) ?_ ?_
    rotate_left
    · intro wx hSw; go_split_ands; go_simp; try with_reducible rfl
    simp only [Act.put, gA, gS, gZ, sI, sZ, sS]
    refine wpAnyT_load (i := 4) (dst := some 23) (ty := 43) (x := .tmp 1) (b := b1) (o := (0)) (cs := F.cells) (by kernel_rfl) (by kernel_rfl) (by kernel_rfl) (by kernel_rfl) (by kernel_rfl) (fun _ _ _ h => h) (by kernel_rfl) hT (fun _ => hS) (by kernel_rfl) (fun _ h => h.2.2.1) uF rfl iF ?_
    simp only [Act.put, gA, gS, gZ, sI, sZ, sS]
    refine wpAnyT_one (i := 3) rfl (by kernel_rfl) (by kernel_rfl) (fun K hK => ?_)
    refine wpx_call _ _ (by kernel_rfl) ((nonce_any F.number V).mono ?_)
    rintro e w2 ⟨rfl, hb2⟩
    refine ⟨_, rfl, ?_⟩
    have hB2 := hB.trans (hb2.mono hB.size)
    have hQ2 := hQ.below hb2 hQ.lt
    replace hT := HTT w2 hB2 hQ2
    refine hK.out _ _ hT (fun _ => hS) ?_
    clear hK K
    try simp only [Act.put, gA, gS, gZ, sI, sZ, sS]
    refine wpAnyT_one (i := 5) rfl (by kernel_rfl) (by kernel_rfl) (fun K hK => ?_)
    refine wpx_call _ _ (by kernel_rfl) ((HOP.out w2 hB2).mono ?_)
    rintro e w3 ⟨x4, n4, c4, rfl, hn4, hy4, hb3⟩
    refine ⟨_, rfl, ?_⟩
    have hB3 := hB2.trans (hb3.mono hB2.size)
    have hQ3 := hQ2.below hb3 hQ2.lt
    replace hT := HTT w3 hB3 hQ3
    refine hK.out _ _ hT (fun _ => hS) ?_
    clear hK K
    try simp only [Act.put, gA, gS, gZ, sI, sZ, sS]
    refine wpAnyT_one (i := 8) rfl (by kernel_rfl) (by kernel_rfl) (fun K hK => ?_)
    refine wpx_call _ _ (by kernel_rfl) ((HAE.out w3 x4 n4 c4 hB3 hy4 hn4).mono ?_)
    rintro e w4 ⟨g, rfl, hyg, hb4⟩
    refine ⟨_, rfl, ?_⟩
    have hB4 := hB3.trans (hb4.mono hB3.size)
    have hQ4 := hQ3.below hb4 hQ3.lt
    replace hT := HTT w4 hB4 hQ4
    refine hK.out _ _ hT (fun _ => hS) ?_
    clear hK K
    try simp only [Act.put, gA, gS, gZ, sI, sZ, sS]
    refine wpAnyT_held (i := 9) (v := ?_) rfl (by kernel_rfl) (by kernel_rfl) (by kernel_rfl) (fun _ _ _ h => h) (by kernel_rfl) hT (fun _ => hS) (by kernel_rfl) ?_ ?_
    rotate_left
    · intro wx hSw; go_split_ands; go_simp; try with_reducible rfl
    simp only [Act.put, gA, gS, gZ, sI, sZ, sS]
    refine wpAnyT_held (i := 10) (v := ?_) rfl (by kernel_rfl) (by kernel_rfl) (by kernel_rfl) (fun _ _ _ h => h) (by kernel_rfl) hT (fun _ => hS) (by kernel_rfl) ?_ ?_
    rotate_left
    · intro wx hSw; go_split_ands; go_simp; try with_reducible rfl
    simp only [Act.put, gA, gS, gZ, sI, sZ, sS]
    refine wpAnyT_one (i := 11) rfl (by kernel_rfl) (by kernel_rfl) (fun K hK => ?_)
    have hgb := gotB_ok (.slice (some ⟨g, 0, none⟩) LP LP) w4
    refine wpx_call _ _ (by kernel_rfl) (hgb.mono ?_)
    rintro e w5 ⟨rfl, rfl⟩
    refine ⟨_, rfl, ?_⟩
    refine hK.out _ _ hT (fun _ => hS) ?_
    clear hK K
    try simp only [Act.put, gA, gS, gZ, sI, sZ, sS]
    refine wpAnyT_held (i := 12) (v := ?_) rfl (by kernel_rfl) (by kernel_rfl) (by kernel_rfl) (fun _ _ _ h => h) (by kernel_rfl) hT (fun _ => hS) (by kernel_rfl) ?_ ?_
    rotate_left
    · intro wx hSw; go_split_ands; go_simp; try with_reducible rfl
    simp only [Act.put, gA, gS, gZ, sI, sZ, sS]
    refine wpAnyT_done (by kernel_rfl) ?_ _
    have hRS4 := ((hRS.farM hb2).farM hb3).farM hb4
    refine forget (p := fun y => Exit.then _ _ _ _ y) (fun V => Below w.heap.size w V ∧ CellsAt V w.heap.size 33 evZ.cells ∧ Bytes V (some ⟨g, 0, none⟩) LP LP PT) ⟨hB4, hRS4, hyg⟩ ?_
    clear hT hS hgb hRS4 hB4 hQ4 hb4 hyg hB3 hQ3 hb3 hy4 hB2 hQ2 hb2 hB hRS hQ HTT HAE HOP
    clear w4 w3 w2 V
    rintro W ⟨hb, hRS, hY⟩
    have hup := Unpad_any (some ⟨g, 0, none⟩) LP LP PT W (HKT.out W hb).2 hY HPI.out HPL.out
    have HUI : Veil (∀ v ∈ unpB PT, b8 v) := ⟨unpB_in9 PT HPI.out⟩
    by_cases hu : unpE PT = 0
    rotate_left
    · have hu3 : unpE PT = 3 := by unfold unpE at hu ⊢; split <;> simp_all
      have HE : Veil (OE = 3) := ⟨by rw [HOE3.out, if_neg hu]⟩
      rw [hu3] at hup
      have HGB := Veil.mk (fun (v : Value) V => gotB_bad v 3 (by decide) V)
      clear hu hu3
      go_wp2_with (first
        | (go_at_call 71; refine hup.mono ?_; rintro e w1 ⟨x1, n1, c1, rfl, -, hb1⟩; have hgb := HGB.out (.slice x1 n1 c1) w1; clear hup)
        | (go_at_call 50; refine hgb.mono ?_; rintro e w2 ⟨rfl, rfl⟩))
      refine bodyPost_gone ?_
      exact ⟨Or.inl ⟨by rw [HE.out]; decide, by rw [HE.out]⟩, hb.trans (hb1.mono hb.size)⟩
    rw [hu] at hup
    have HOE4 : Veil (OE = if revE (unpB PT) = 0 then (if fitsB (revB (unpB PT)) F = true then 0 else 3) else 3) := ⟨by rw [HOE3.out, if_pos hu]⟩
    obtain ⟨UB, hUB⟩ : ∃ q, unpB PT = q := ⟨_, rfl⟩
    rw [hUB] at hup HOE4 HVE HUI
    clear hu hUB HOE3
    have HRE : Veil (∀ V x n c, Bytes V x n c UB → Calls Tryz.prog 70 #[.slice x n c] V fun e w' => e = .returned (.tuple #[.agg (revB UB).cells.toArray, .int .i64 (revE UB)]) ∧ Below V.heap.size V w') := ⟨fun V x n c hy => ReadEvent_any x n c UB V hy HUI.out⟩
    have HGB := Veil.mk gotB_ok
    by_cases hr : revE UB = 0
    rotate_left
    · have hr3 : revE UB = 3 := by unfold revE at hr ⊢; split <;> simp_all
      have HE : Veil (OE = 3) := ⟨by rw [HOE4.out, if_neg hr]⟩
      rw [hr3] at HRE
      have HGE := Veil.mk (fun V => gotE_bad (revB UB) 3 (by decide) V)
      clear hr hr3
      generalize (revB UB).cells = RC at HRE HGE
      go_wp2_with (first
        | (go_at_call 71; refine hup.mono ?_; rintro e w1 ⟨x1, n1, c1, rfl, hy1, hb1⟩; have hgb := HGB.out (.slice x1 n1 c1) w1; have hre := HRE.out w1 x1 n1 c1 hy1; clear hup)
        | (go_at_call 50; refine hgb.mono ?_; rintro e w2 ⟨rfl, rfl⟩; clear hgb)
        | (go_at_call 70; refine hre.mono ?_; rintro e w3 ⟨rfl, hb3⟩; have hge := HGE.out w3; clear hre)
        | (go_at_call 69; refine hge.mono ?_; rintro e w4 ⟨rfl, hb4⟩))
      refine bodyPost_gone ?_
      have q1 := hb.trans (hb1.mono hb.size)
      have q2 := q1.trans (hb3.mono q1.size)
      exact ⟨Or.inl ⟨by rw [HE.out]; decide, by rw [HE.out]⟩, q2.trans (hb4.mono q2.size)⟩
    rw [hr] at HRE
    have HOE5 : Veil (OE = if fitsB (revB UB) F = true then 0 else 3) := ⟨by rw [HOE4.out, if_pos hr]⟩
    have HEI := Veil.mk (revB_in9 UB HUI.out)
    have HGE := Veil.mk (fun V => gotE_ok (revB UB) HEI.out.plen V)
    have iE := sizeEvZ (revB UB) HEI.out.plen
    have h1E := ev_one (revB UB)
    have hlE : evZ.cells.length = (revB UB).cells.length := by rw [ev_len _ HEI.out.plen]; rfl
    have HFT : Veil (∀ V, Calls Tryz.prog 47 #[.agg (revB UB).cells.toArray, .agg F.cells.toArray] V fun e w' => e = .returned (.bool (fitsB (revB UB) F)) ∧ Below V.heap.size V w') := ⟨fun V => fits_any (revB UB) F HEI.out HPR.out.1 HPR.out.2 V⟩
    generalize fitsB (revB UB) F = FB at HFT HOE5
    obtain ⟨EV, hEV⟩ : ∃ q, revB UB = q := ⟨_, rfl⟩
    rw [hEV] at HRE HEI HGE iE h1E hlE HFT HVE
    clear hEV hr HOE4
    go_upto_region 5 with (first
      | (go_at_call 71; refine hup.mono ?_; rintro e w1 ⟨x1, n1, c1, rfl, hy1, hb1⟩; have hgb := HGB.out (.slice x1 n1 c1) w1; have hre := HRE.out w1 x1 n1 c1 hy1; clear hup)
      | (go_at_call 50; refine hgb.mono ?_; rintro e w2 ⟨rfl, rfl⟩; clear hgb)
      | (go_at_call 70; refine hre.mono ?_; rintro e w3 ⟨rfl, hb3⟩; have hge := HGE.out w3; clear hre)
      | (go_at_call 69; refine hge.mono ?_; rintro e w4 ⟨rfl, hb4⟩; have hA4 := CellsAt.new w4 33 evZ.cells; clear hge)
      | (refine wpList_stv rfl 33 _ _ rfl _ rfl rfl hA4 iE hlE h1E ?_))
    have hb5 : Below w4.heap.size w4 ((w4.alloc (.cells evZ.cells.toArray 33)).setRow w4.heap.size EV.cells.toArray) := below_setRow ((Below.refl _ _).alloc (Nat.le_refl _) _) (Nat.le_refl _) _
    have q1 := hb1.trans (hb3.mono hb1.size)
    have q2 := q1.trans (hb4.mono q1.size)
    have q3 := q2.trans (hb5.mono q2.size)
    refine forget (p := fun y => Code.wp _ _ _ _ y) (fun V => Below w.heap.size w V ∧ CellsAt V w.heap.size 33 evZ.cells ∧ CellsAt V w4.heap.size 33 EV.cells) ⟨hb.trans (q3.mono hb.size), hRS.farM q3, hA4.setRow _⟩ ?_
    have hlt : w.heap.size < w4.heap.size := (hRS.farM q2).lt
    clear q3 q2 q1 hb5 hA4 hb4 hb3 hb1 hy1 hb hRS hY HRE HGE HGB
    obtain ⟨EB, hEB⟩ : ∃ q, w4.heap.size = q := ⟨_, rfl⟩
    rw [hEB] at hlt ⊢
    clear hEB
    clear w4 w3 w1 W
    rintro W ⟨hb, hRS, hEv⟩
    obtain ⟨-, rF, -, -, -, -⟩ := HS.out W hb
    have rE := hEv.wholeM
    have hft := HFT.out W
    cases FB with
    | false =>
      have HE : Veil (OE = 3) := ⟨by rw [HOE5.out]; rfl⟩
      have HNB := Veil.mk fneed_bad
      go_wp2_with (first
        | (refine wpList_ldv rfl 33 _ rfl EB 0 rfl EV.cells rE uE rfl iE ?_)
        | (refine wpList_ldv rfl 43 _ rfl b1 0 rfl F.cells rF uF rfl iF ?_)
        | (go_at_call 47; refine hft.mono ?_; rintro e w1 ⟨rfl, hb1⟩; have hn := HNB.out 3 w1; clear hft)
        | (go_at_call 43; refine hn.mono ?_; rintro e w2 ⟨rfl, rfl⟩))
      refine bodyPost_gone ?_
      exact ⟨Or.inl ⟨by rw [HE.out]; decide, by rw [HE.out]⟩, hb.trans (hb1.mono hb.size)⟩
    | true =>
      have HE : Veil (OE = 0) := ⟨by rw [HOE5.out]; rfl⟩
      have HND := Veil.mk fneed_ok
      have HFAR : Veil (∀ w1, Below W.heap.size W w1 → Below w.heap.size w w1 ∧ CellsAt w1 w.heap.size 33 evZ.cells ∧ w1.rangeAt EB 0 EV.cells) := ⟨fun w1 h => ⟨hb.trans (h.mono hb.size), hRS.farM h, (hEv.farM h).wholeM⟩⟩
      clear hRS hEv hb
      go_wp2_with (first
        | (refine wpList_ldv rfl 33 _ rfl EB 0 rfl EV.cells rE1 uE rfl iE ?_)
        | (refine wpList_ldv rfl 33 _ rfl EB 0 rfl EV.cells rE uE rfl iE ?_)
        | (refine wpList_ldv rfl 43 _ rfl b1 0 rfl F.cells rF uF rfl iF ?_)
        | (go_at_call 47; refine hft.mono ?_; rintro e w1 ⟨rfl, hb1⟩; have hn := HND.out 3 w1; obtain ⟨hB1, hRS1, rE1⟩ := HFAR.out w1 hb1; clear hft rE)
        | (go_at_call 43; refine hn.mono ?_; rintro e w2 ⟨⟨q2, rfl⟩, rfl⟩; clear hn)
        | (refine wpList_stv rfl 33 _ _ rfl _ rfl rfl hRS1 iE hlE h1E ?_))
      refine bodyPost_ret (results_cells (Tryz.results66) _ rfl (hRS1.setRow EV.cells) Tryz.underlying33 rfl iE) rfl ⟨Or.inr ⟨HE.out, k, HKM.out, by rw [HVE.out]⟩, below_setRow hB1 (Nat.le_refl _) _⟩
def openOut (e : Ending) : Prop :=
  (openE seed (M F.ea F.es) F lw ws lb body ≠ 0 ∧ e = .returned (.tuple #[.agg evZ.cells.toArray, .int .i64 (openE seed (M F.ea F.es) F lw ws lb body)])) ∨ (openE seed (M F.ea F.es) F lw ws lb body = 0 ∧ ∃ k, M F.ea F.es = some k ∧ e = .returned (.tuple #[.agg (openV k F lb body).cells.toArray, .int .i64 0]))
set_option maxHeartbeats 8000000 in
theorem Open_anyF (hR : RingAt w base H own seed b M v L) (hKT : S.KTab w) (hBT : BTab w) (hF : FrOk w F xw lw cw ws xb lb cb body) (hIn : F.In) (hWi : ∀ e ∈ ws, e.In) (hBi : ∀ x ∈ body, isB x) :
    Calls Tryz.prog 21 #[.pointer (some ⟨H, 0, none⟩), .agg F.cells.toArray] w fun e w' => openOut seed M F lw ws lb body e ∧ Below w.heap.size w w' := by
  have a0 := ((CellsAt.new w 37 [.pointer (some ⟨H, 0, none⟩)]).alloc (.cells F.cells.toArray 43)).alloc (.cells evZ.cells.toArray 33)
  have a1 := (CellsAt.new (w.alloc (.cells #[.pointer (some ⟨H, 0, none⟩)] 37)) 43 F.cells).alloc (.cells evZ.cells.toArray 33)
  have a2 := CellsAt.new ((w.alloc (.cells #[.pointer (some ⟨H, 0, none⟩)] 37)).alloc (.cells F.cells.toArray 43)) 33 evZ.cells
  simp only [World.size_alloc] at a1 a2
  have hB : Below w.heap.size w (((w.alloc (.cells #[.pointer (some ⟨H, 0, none⟩)] 37)).alloc (.cells F.cells.toArray 43)).alloc (.cells evZ.cells.toArray 33)) := (((Below.refl _ _).alloc (Nat.le_refl _) _).alloc (by simp) _).alloc (by simp; omega) _
  have HST := fun V (hb : Below w.heap.size w V) (c0 : V.cell? ⟨w.heap.size, 0, none⟩ = some (.pointer (some ⟨H, 0, none⟩))) (r1 : V.rangeAt (w.heap.size + 1) 0 F.cells) => openSteps_any base H own seed b M v L V w.heap.size (w.heap.size + 1) F xw lw cw ws xb lb cb body c0 r1 (hR.far hb) (hKT.below hb) (hBT.below hb) (hF.below hb) hIn hWi hBi
  have HPI : Veil (∀ k, (openV k F lb body).past.length = 8) := ⟨fun k => revB_past _⟩
  have HTR : Veil (∀ W, Below w.heap.size w W → CellsAt W w.heap.size 37 [.pointer (some ⟨H, 0, none⟩)] → CellsAt W (w.heap.size + 1) 43 F.cells → Calls Tryz.prog 65 #[.func (.func 66) #[] #[.pointer (some ⟨w.heap.size, 0, none⟩), .pointer (some ⟨w.heap.size + 1, 0, none⟩)]] W fun e w' => ∃ (E : Ev) (n : Int), e = .returned (.tuple #[.agg E.cells.toArray, .int .i64 n]) ∧ E.past.length = 8 ∧ openOut seed M F lw ws lb body (.returned (.tuple #[.agg E.cells.toArray, .int .i64 n])) ∧ Below W.heap.size W w') := ⟨fun W hbW h0 h1 => by
    by_cases q : openE seed (M F.ea F.es) F lw ws lb body = 0
    · refine (triedO_ok _ _ (fun cs _ => ∃ k, M F.ea F.es = some k ∧ cs = (openV k F lb body).cells) W (fun V hb _ => (HST V (hbW.trans (hb.mono hbW.size)) (cell_below (h0.cell 0) hb) (rangeAt_below h1.wholeM hb)).mono ?_) ?_).mono ?_
      · rintro e w' ⟨h | h, hb'⟩
        · exact absurd q h.1
        · obtain ⟨_, k, hk, he⟩ := h
          exact ⟨_, he, ⟨k, hk, rfl⟩, hb'⟩
      · rintro cs w' ⟨k, hk, rfl⟩
        exact ⟨by rw [ev_len _ (HPI.out k)]; rfl, ev_one _⟩
      · rintro e w' ⟨cs, w1, he, ⟨k, hk, rfl⟩, _, _, _, hb'⟩
        exact ⟨openV k F lb body, 0, he, HPI.out k, Or.inr ⟨q, k, hk, rfl⟩, hb'⟩
    · refine (triedO_bad _ _ (openE seed (M F.ea F.es) F lw ws lb body) W (fun V hb _ => (HST V (hbW.trans (hb.mono hbW.size)) (cell_below (h0.cell 0) hb) (rangeAt_below h1.wholeM hb)).mono ?_)).mono ?_
      · rintro e w' ⟨h | h, hb'⟩
        · exact ⟨h.2, hb'⟩
        · exact absurd h.1 q
      · rintro e w' ⟨he, hb'⟩
        exact ⟨evZ, _, he, rfl, Or.inl ⟨q, rfl⟩, hb'⟩⟩
  have hmf := make_func
  have HIE : Veil (∀ E : Ev, E.past.length = 8 → (Tryz.prog.info? 33).map (·.size) = some E.cells.length ∧ evZ.cells.length = E.cells.length) := ⟨fun E hE => ⟨sizeEvZ E hE, by rw [ev_len E hE]; rfl⟩⟩
  clear hR hKT hBT hF hIn hWi hBi HST
  generalize F.cells = FC at a0 a1 a2 hB HTR ⊢
  go_enter Tryz.func21, Tryz.ntmps21
  go_upto_region 1 with fail
  refine forget (p := fun y => Code.wp _ _ _ _ y) (fun W => Below w.heap.size w W ∧ CellsAt W w.heap.size 37 [.pointer (some ⟨H, 0, none⟩)] ∧ CellsAt W (w.heap.size + 1) 43 FC ∧ CellsAt W (w.heap.size + 1 + 1) 33 evZ.cells) ⟨hB, a0, a1, a2⟩ ?_
  clear hB a0 a1 a2
  rintro W ⟨hB, a0, a1, a2⟩
  have htr := HTR.out W hB a0 a1
  clear HTR
  go_wp2_with (first
    | (go_at_call 65; refine htr.mono ?_; rintro e w1 ⟨E1, n1, rfl, hp1, ho1, hb1⟩; have hO1 := a2.farM hb1; obtain ⟨iE, hlE⟩ := HIE.out E1 hp1; have h1E := ev_one E1; have HO1 := Veil.mk ho1; clear htr ho1)
    | (refine wpList_stv rfl 33 _ _ rfl _ rfl rfl hO1 iE hlE h1E ?_))
  refine bodyPost_ret (results_ct (Tryz.results21) _ rfl rfl (hO1.setRow E1.cells) Tryz.underlying33 rfl iE) rfl ⟨HO1.out, ?_⟩
  exact below_setRow (hB.trans (hb1.mono hB.size)) (by omega) _
end
end Go.Proofs.YtfainlfiphdaeaaGreatDoor
