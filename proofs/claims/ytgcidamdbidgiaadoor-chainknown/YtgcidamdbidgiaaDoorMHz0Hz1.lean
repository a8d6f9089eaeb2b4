/- chain: the program's and the reference's, side by side; the statements' 'same'. chain: the statements' 'do'. -/
import Derived.Test.YtgcidamdbidgiaaDoorHq5
import Derived.Test.YtgcidamdbidgiaaDoorHx
import Derived.Test.YtgcidamdbidgiaaDoorHg
namespace Go.Proofs.YtgcidamdbidgiaaDoor
open Go.RowKit
set_option maxRecDepth 20000
set_option linter.unusedSimpArgs false

/-- Both, with the same frames and proofs. -/
structure BothC (W : World) (s H b : Nat) (v : Value) (R : Nat) (us : List Value) (vp : Value) (T : Sms) (P : List Pf) : Prop where
  c : ChainAt W s H b v T P
  r : RefC W s R us vp T P
  sep : ∀ k, chainP H b v k → ¬ refB R us vp k
  good : Good T P
/-- The program's is a call ahead. -/
structure HalfC (W : World) (s H b : Nat) (v : Value) (R : Nat) (us : List Value) (vp : Value) (T T' : Sms) (P P' : List Pf) : Prop where
  c : ChainAt W s H b v T' P'
  r : RefC W s R us vp T P
  sep : ∀ k, chainP H b v k → ¬ refB R us vp k
section
variable {W W' : World} {s H b R : Nat} {v v' : Value} {us us' : List Value} {vp vp' : Value} {T T' : Sms} {P P' : List Pf}
theorem BothC.far (h : BothC W s H b v R us vp T P) (hb : Below W.heap.size W W') : BothC W' s H b v R us vp T P := ⟨h.c.far hb, h.r.far hb, h.sep, h.good⟩
theorem HalfC.far (h : HalfC W s H b v R us vp T T' P P') (hb : Below W.heap.size W W') : HalfC W' s H b v R us vp T T' P P' := ⟨h.c.far hb, h.r.far hb, h.sep⟩
theorem BothC.stepC (h : BothC W s H b v R us vp T P) (hto : ChainTo W W' s H b v v' T' P') : HalfC W' s H b v' R us vp T T' P P' :=
  ⟨hto.at_, h.r.congr fun g hg => hto.turn.block g (h.r.inside g hg).1 (fun hp => h.sep g hp hg), fun k hk hr => hto.out k (h.r.inside k hr).1 (fun hc => h.sep k hc hr) hk⟩
theorem HalfC.stepR (h : HalfC W s H b v R us vp T T' P P') (hto : RefTo W W' s R us us' vp vp' T' P') (hb : ∀ k, refB R us' vp' k → refB R us vp k ∨ W.heap.size ≤ k) (hg : Good T' P') : BothC W' s H b v R us' vp' T' P' :=
  ⟨h.c.turn hto.turn fun g hg hp => h.sep g hg (by rcases hp with e | e; exact .inl e; exact .inr (.inl e)), hto.at_, fun k hk hr => by
    rcases hb k hr with q | q
    · exact h.sep k hk q
    · have := (h.c.inside k hk).1; omega, hg⟩
end
section
variable (s H b R : Nat) (v : Value) (us : List Value) (vp : Value) (T : Sms) (P : List Pf) (w : World)
set_option maxHeartbeats 8000000 in
theorem sameC_any (hB : BothC w s H b v R us vp T P) :
    Calls Tryd.prog 13 #[.pointer (some ⟨H, 0, none⟩), .pointer (some ⟨R, 0, none⟩)] w fun e w' => e = .returned (.bool true) ∧ Below w.heap.size w w' := by
  have h1 := chHeads_any _ _ _ _ _ _ w hB.c
  have HB := Veil.mk (fun W (hb : Below w.heap.size w W) => hB.far hb)
  have HEQ : Veil (∀ wx, (binOp .eql 41 (.agg (headsC (headsOf T)).toArray) (.agg (headsC (headsOf T)).toArray)).run Tryd.prog wx = .ok (.bool true) wx) := ⟨fun wx => by
    have := eqlHeads (headsOf T) (headsOf T) hB.c.ok.heads8 hB.c.ok.heads8 wx
    simpa using this⟩
  have HOK := Veil.mk (And.intro hB.c.okP hB.c.lenP)
  clear hB
  have heq := HEQ.out
  have H2 : Veil (∀ w1, Below w.heap.size w w1 → Calls Tryd.prog 25 #[.pointer (some ⟨R, 0, none⟩)] w1 fun e w' => e = .returned (.agg (headsC (headsOf T)).toArray) ∧ Below w1.heap.size w1 w') := ⟨fun w1 hb => rHeads_any s R us vp T P w1 (HB.out w1 hb).r⟩
  generalize headsC (headsOf T) = HC at h1 heq H2
  clear HEQ
  go_enter Tryd.func13, Tryd.ntmps13
  go_wp2_with (first
    | (go_at_call 14; refine h1.mono ?_; rintro e w1 ⟨rfl, hb1⟩; have h2 := H2.out w1 hb1; clear h1)
    | (go_at_call 25; refine h2.mono ?_; rintro e w2 ⟨rfl, hb2⟩; have hB2 := hb1.trans (hb2.mono hb1.size); have h3 := chProofs_any _ _ _ _ _ _ w2 (HB.out w2 hB2).c; clear h2)
    | (go_at_call 18; refine h3.mono ?_; rintro e w3 ⟨f3, rfl, ho3, hb3⟩; have hB3 := hB2.trans (hb3.mono hB2.size); have h4 := rProofs_any s R us vp T P w3 (HB.out w3 hB3).r; clear h3)
    | (go_at_call 27; refine h4.mono ?_; rintro e w4 ⟨f4, rfl, ho4, hb4⟩; have hB4 := hB3.trans (hb4.mono hB3.size); have h5 := rSame_any w4 _ _ f3 f4 P P (ho3.far hb4) ho4 HOK.out.1 rfl (by have := HOK.out.2; omega); clear h4)
    | (go_at_call 26; refine h5.mono ?_; rintro e w5 ⟨rfl, hb5⟩; have hB5 := hB4.trans (hb5.mono hB4.size); clear h5))
  go_ret
  exact ⟨rfl, hB5⟩
end
end Go.Proofs.YtgcidamdbidgiaaDoor

namespace Go.Proofs.YtgcidamdbidgiaaDoor
open Go.RowKit
set_option maxRecDepth 20000
set_option linter.unusedSimpArgs false

theorem fr_setW3 (F : Fr) (v : Value) (hp : F.prev.length = 32) : F.cells.set 36 v = ({ F with wraps := v } : Fr).cells := by
  have e0 : ∀ G : Fr, G.cells = ([.int .u8 G.author, .int .u32 G.number] ++ dotC G.ea G.es ++ G.prev.map (Value.int .u8)) ++ ([G.wraps, G.body] ++ G.mac.map (Value.int .u8)) := fun G => by unfold Fr.cells; simp only [List.append_assoc]
  have hl : (([.int .u8 F.author, .int .u32 F.number] : List Value) ++ dotC F.ea F.es ++ F.prev.map (Value.int .u8)).length = 36 := by simp [dotC, hp]
  rw [e0 F, e0 _, List.set_append_right _ _ (by omega), hl]; rfl
theorem fr_setB3 (F : Fr) (v : Value) (hp : F.prev.length = 32) : F.cells.set 37 v = ({ F with body := v } : Fr).cells := by
  have e0 : ∀ G : Fr, G.cells = ([.int .u8 G.author, .int .u32 G.number] ++ dotC G.ea G.es ++ G.prev.map (Value.int .u8)) ++ ([G.wraps, G.body] ++ G.mac.map (Value.int .u8)) := fun G => by unfold Fr.cells; simp only [List.append_assoc]
  have hl : (([.int .u8 F.author, .int .u32 F.number] : List Value) ++ dotC F.ea F.es ++ F.prev.map (Value.int .u8)).length = 36 := by simp [dotC, hp]
  rw [e0 F, e0 _, List.set_append_right _ _ (by omega), hl]; rfl
theorem sizeWp3 (w : World) : (sizeOf (Tryd.prog.elem 35)).run Tryd.prog w = .ok 51 w := by kernel_rfl
theorem elemW3 : Tryd.prog.underlying 35 = some (.slice (Tryd.prog.elem 35)) := by kernel_rfl
theorem sizeU3 (w : World) : (sizeOf (Tryd.prog.elem 36)).run Tryd.prog w = .ok 1 w := by kernel_rfl
theorem elemU3 : Tryd.prog.underlying 36 = some (.slice (Tryd.prog.elem 36)) := by kernel_rfl
theorem run_cutW3 (w : World) (b o len cap : Nat) (hh : 3 ≤ cap) : (Instr.slice 35 (.slice (some ⟨b, o, none⟩) len cap) none (some (.int .i64 3)) none).run Tryd.prog w = .ok (.slice (some ⟨b, o, none⟩) 3 cap) w := by
  rw [run_slice_h w 35 (some ⟨b, o, none⟩) len cap elemW3 .i64 3 (by omega) (by omega), sizeWp3]
  simp [sliced, Result.andThen, Addr.add_mid']
theorem run_cutB3 (w : World) (b o len cap : Nat) (hh : 300 ≤ cap) : (Instr.slice 36 (.slice (some ⟨b, o, none⟩) len cap) none (some (.int .i64 300)) none).run Tryd.prog w = .ok (.slice (some ⟨b, o, none⟩) 300 cap) w := by
  rw [run_slice_h w 36 (some ⟨b, o, none⟩) len cap elemU3 .i64 300 (by omega) (by omega), sizeU3]
  simp [sliced, Result.andThen, Addr.add_mid']
theorem FrIn.cutB {W : World} {F : Fr} {xw : Option Addr} {lw cw : Nat} {ws : List Wp} {xb : Option Addr} {lb cb : Nat} {body : List Int} (h : FrIn W F xw lw cw ws xb lb cb body) (n : Nat) (hn : n ≤ lb) : FrIn W { F with body := .slice xb n cb } xw lw cw ws xb n cb (body.take n) := by
  have hl := h.hb.len_eq
  refine ⟨h.prev, h.mac, h.wraps, rfl, h.hw, ⟨by rw [List.length_take]; omega, by have := h.hb.le; omega, h.hb.top, h.hb.nil, ?_⟩, ⟨h.inF.author, h.inF.number, h.inF.ea, h.inF.es, h.inF.prev, h.inF.mac⟩, h.inW, fun x hx => h.inB x (List.mem_of_mem_take hx)⟩
  rcases h.hb.at_ with h0 | ⟨b, off, hx, hc⟩
  · exact .inl (by omega)
  · refine .inr ⟨b, off, hx, fun j hj => ?_⟩
    rw [List.getElem?_take_of_lt hj]
    exact hc j (by omega)
theorem FrIn.cutW {W : World} {F : Fr} {xw : Option Addr} {lw cw : Nat} {ws : List Wp} {xb : Option Addr} {lb cb : Nat} {body : List Int} (h : FrIn W F xw lw cw ws xb lb cb body) (n : Nat) (hn : n ≤ lw) : FrIn W { F with wraps := .slice xw n cw } xw n cw (ws.take n) xb lb cb body := by
  have hl := h.hw.len_eq
  refine ⟨h.prev, h.mac, rfl, h.body_, ⟨by rw [List.length_take]; omega, by have := h.hw.le; omega, h.hw.top, h.hw.nil, fun e he => h.hw.ok e (List.mem_of_mem_take he), ?_⟩, h.hb, ⟨h.inF.author, h.inF.number, h.inF.ea, h.inF.es, h.inF.prev, h.inF.mac⟩, fun x hx => h.inW x (List.mem_of_mem_take hx), h.inB⟩
  rcases h.hw.at_ with h0 | ⟨b, off, hx, hc⟩
  · exact .inl (by omega)
  · exact .inr ⟨b, off, hx, fun j hj => by rw [List.getElem_take]; exact hc j (by rw [List.length_take] at hj; omega)⟩
section
variable (s H b R : Nat) (v : Value) (us : List Value) (vp : Value) (T : Sms) (P : List Pf) (w : World)
set_option maxHeartbeats 16000000 in
theorem doCmp_any (hB : BothC w s H b v R us vp T P) (hs : s ≤ w.heap.size) (F : Fr) (fits : Bool) (hd : List (Int × List Int)) (hF : F.cells.length = 70) (hh : okHs8 hd) :
    Calls Tryd.prog 23 #[.pointer (some ⟨H, 0, none⟩), .pointer (some ⟨R, 0, none⟩), .agg (deedC F fits true hd).toArray] w fun e w' => e = .returned (.bool true) ∧ (∃ v' us' vp' T' P', BothC w' s H b v' R us' vp' T' P') ∧ Below s w w' := by
  obtain ⟨hdl, -, -, d71, d72⟩ := deedC_parts F fits true hd hF hh
  have hb0 : Below w.heap.size w (w.alloc (.cells (deedC F fits true hd).toArray 53)) := (Below.refl _ _).alloc (Nat.le_refl _) _
  have hD0 := CellsAt.new w 53 (deedC F fits true hd)
  have hhl : (headsC hd).length = 264 := by rw [headsC_len hd hh.1, hh.2]
  have iH : (Tryd.prog.info? 41).map (·.size) = some (headsC hd).length := by rw [hhl]; exact sizeHeads
  have uH : Tryd.prog.underlying 41 = _ := Tryd.underlying41
  have HRG : Veil (∀ W, CellsAt W w.heap.size 53 (deedC F fits true hd) → W.rangeAt w.heap.size 72 (headsC hd)) := ⟨fun W h => by have := h.range 72 264; rw [d72] at this; exact this⟩
  have c71 := hD0.cell 71
  rw [d71] at c71
  have HB := Veil.mk (fun W (hb : Below w.heap.size w W) => hB.far hb)
  have HIN : Veil (∀ k, chainP H b v k ∨ refB R us vp k → k < w.heap.size) := ⟨fun k hk => by
    rcases hk with h | h
    · exact (hB.c.inside k h).1
    · exact (hB.r.inside k h).1⟩
  have HINS : Veil (∀ k, chainP H b v k ∨ refB R us vp k → s ≤ k) := ⟨fun k hk => by
    rcases hk with h | h
    · exact (hB.c.inside k h).2
    · exact (hB.r.inside k h).2⟩
  have HFK := Veil.mk (foundN_ok hB.c.ok hd hh.1 8 (by omega) (by rw [hh.2]; omega))
  have hok := hB.c.ok
  obtain ⟨DC, hDC⟩ : ∃ q, deedC F fits true hd = q := ⟨_, rfl⟩
  rw [hDC] at hb0 hD0 c71 HRG ⊢
  clear hDC hdl d71 d72 hB
  go_enter Tryd.func23, Tryd.ntmps23
  go_upto_region 2 with fail
  refine forget (p := fun y => Code.wp _ _ _ _ y) (fun W => Below w.heap.size w W ∧ CellsAt W w.heap.size 53 DC) ⟨hb0, hD0⟩ ?_
  clear hb0 hD0 c71
  rintro W ⟨hb, hD⟩
  have hBW := HB.out W.drew hb.drew
  have hD1 := hD.congr (w' := W.drew) rfl
  have hcp := compare_any _ _ _ _ _ _ W.drew hd hh.2 hh.1 hBW.c (by have := hb.drew.size; omega)
  refine wp_region_gateT (fun w' => w'.rangeAt w.heap.size 72 (headsC hd)) (fun _ => True) 99 (by kernel_rfl) ?_
  have hT : (fun w' : World => w'.rangeAt w.heap.size 72 (headsC hd)) W.drew := HRG.out _ hD1
  have hS := trivial
  refine wpAnyT_held (i := 0) (v := ?_) rfl (by kernel_rfl) (by kernel_rfl) (by kernel_rfl) (fun _ _ _ h => h) (by kernel_rfl) hT (fun _ => hS) (by kernel_rfl) ?_ ?_
  rotate_left
  · intro wx hSw; go_split_ands; go_simp; try with_reducible rfl
  simp only [Act.put, List.getElem_toArray, List.getElem_cons_succ, List.getElem_cons_zero, List.setIfInBounds_toArray, List.set_cons_zero, List.set_cons_succ]
  refine wpAnyT_held (i := 1) (v := ?_) rfl (by kernel_rfl) (by kernel_rfl) (by kernel_rfl) (fun _ _ _ h => h) (by kernel_rfl) hT (fun _ => hS) (by kernel_rfl) ?_ ?_
  rotate_left
  · intro wx hSw; go_split_ands; go_simp; try with_reducible rfl
  simp only [Act.put, List.getElem_toArray, List.getElem_cons_succ, List.getElem_cons_zero, List.setIfInBounds_toArray, List.set_cons_zero, List.set_cons_succ]
  refine wpAnyT_held (i := 4) (v := ?_) rfl (by kernel_rfl) (by kernel_rfl) (by kernel_rfl) (fun _ _ _ h => h) (by kernel_rfl) hT (fun _ => hS) (by kernel_rfl) ?_ ?_
  rotate_left
  · intro wx hSw; go_split_ands; go_simp; try with_reducible rfl
  simp only [Act.put, List.getElem_toArray, List.getElem_cons_succ, List.getElem_cons_zero, List.setIfInBounds_toArray, List.set_cons_zero, List.set_cons_succ]
  refine wpAnyT_held (i := 5) (v := ?_) rfl (by kernel_rfl) (by kernel_rfl) (by kernel_rfl) (fun _ _ _ h => h) (by kernel_rfl) hT (fun _ => hS) (by kernel_rfl) ?_ ?_
  rotate_left
  · intro wx hSw; go_split_ands; go_simp; try with_reducible rfl
  simp only [Act.put, List.getElem_toArray, List.getElem_cons_succ, List.getElem_cons_zero, List.setIfInBounds_toArray, List.set_cons_zero, List.set_cons_succ]
  refine wpAnyT_load (i := 2) (dst := some 12) (ty := 41) (x := .tmp 11) (b := w.heap.size) (o := (72)) (cs := (headsC hd)) (by kernel_rfl) (by kernel_rfl) (by kernel_rfl) (by kernel_rfl) (by kernel_rfl) (fun _ _ _ h => h) (by kernel_rfl) hT (fun _ => hS) (by kernel_rfl) (fun _ h => h) uH rfl iH ?_
  simp only [Act.put, List.getElem_toArray, List.getElem_cons_succ, List.getElem_cons_zero, List.setIfInBounds_toArray, List.set_cons_zero, List.set_cons_succ]
  refine wpAnyT_load (i := 6) (dst := some 16) (ty := 41) (x := .tmp 15) (b := w.heap.size) (o := (72)) (cs := (headsC hd)) (by kernel_rfl) (by kernel_rfl) (by kernel_rfl) (by kernel_rfl) (by kernel_rfl) (fun _ _ _ h => h) (by kernel_rfl) hT (fun _ => hS) (by kernel_rfl) (fun _ h => h) uH rfl iH ?_
  simp only [Act.put, List.getElem_toArray, List.getElem_cons_succ, List.getElem_cons_zero, List.setIfInBounds_toArray, List.set_cons_zero, List.set_cons_succ]
  refine wpAnyT_one (i := 3) rfl (by kernel_rfl) (by kernel_rfl) (fun K hK => ?_)
  refine wpx_call _ _ (by kernel_rfl) (hcp.mono ?_)
  rintro e w2 ⟨f2, v2, rfl, ho2, hto2, -⟩
  refine ⟨_, rfl, ?_⟩
  have hsz : w.heap.size ≤ W.drew.heap.size := hb.drew.size
  have hDl := hD1.lt
  have hD2 : CellsAt w2 w.heap.size 53 DC := hD1.congr (hto2.turn.block _ hD1.lt (fun hp => by have := HIN.out _ (.inl hp); omega))
  have hH2 := hBW.stepC hto2
  have hb2s := hto2.below hBW.c (by omega)
  have hrc := rCompare_any s R us vp T P w2 hd hh.2 hh.1 hH2.r (by have := hto2.turn.size; omega)
  replace hT : (fun w' : World => w'.rangeAt w.heap.size 72 (headsC hd)) w2 := HRG.out _ hD2
  refine hK.out _ _ hT (fun _ => hS) ?_
  clear hK K
  try simp only [Act.put, List.getElem_toArray, List.getElem_cons_succ, List.getElem_cons_zero, List.setIfInBounds_toArray, List.set_cons_zero, List.set_cons_succ]
  refine wpAnyT_one (i := 7) rfl (by kernel_rfl) (by kernel_rfl) (fun K hK => ?_)
  refine wpx_call _ _ (by kernel_rfl) (hrc.mono ?_)
  rintro e w3 ⟨f3, vp3, rfl, ho3, hto3⟩
  refine ⟨_, rfl, ?_⟩
  have hlt2 := hto2.turn.size
  have hB3 := hH2.stepR hto3 (refTo_blocks hto3) (hBW.good.noteAll _ (good_found hd 8 (by omega)))
  have hf3 : OwnI w3 W.drew.heap.size 49 66 f2 ((foundN T hd 8).map proofC) := ho2.congr fun k hk => hto3.turn.block k (ho2.blockLt k hk).1 (fun hp => by
    have h1 := (ho2.blockLt k hk).2.1
    have h2 : k < w.heap.size := HIN.out k (.inr (by rcases hp with e | e; exact .inl e; exact .inr (.inl e)))
    omega)
  have hD3 : CellsAt w3 w.heap.size 53 DC := hD2.congr (hto3.turn.block _ hD2.lt (fun hp => by
    have h2 : w.heap.size < w.heap.size := HIN.out _ (.inr (by rcases hp with e | e; exact .inl e; exact .inr (.inl e)))
    omega))
  have hb3s : Below s w2 w3 := hto3.turn.below (by omega) (fun k hk => HINS.out k (.inr (by rcases hk with e | e; exact .inl e; exact .inr (.inl e))))
  have hsa := rSame_any w3 _ _ f2 f3 _ _ hf3 ho3 HFK.out rfl (by have := foundN_len T hd 8; omega)
  replace hT : (fun w' : World => w'.rangeAt w.heap.size 72 (headsC hd)) w3 := HRG.out _ hD3
  refine hK.out _ _ hT (fun _ => hS) ?_
  clear hK K
  try simp only [Act.put, List.getElem_toArray, List.getElem_cons_succ, List.getElem_cons_zero, List.setIfInBounds_toArray, List.set_cons_zero, List.set_cons_succ]
  refine wpAnyT_one (i := 8) rfl (by kernel_rfl) (by kernel_rfl) (fun K hK => ?_)
  refine wpx_call _ _ (by kernel_rfl) (hsa.mono ?_)
  rintro e w4 ⟨rfl, hb4⟩
  refine ⟨_, rfl, ?_⟩
  replace hT : (fun w' : World => w'.rangeAt w.heap.size 72 (headsC hd)) w4 := HRG.out _ (hD3.farM hb4)
  refine hK.out _ _ hT (fun _ => hS) ?_
  clear hK K
  try simp only [Act.put, List.getElem_toArray, List.getElem_cons_succ, List.getElem_cons_zero, List.setIfInBounds_toArray, List.set_cons_zero, List.set_cons_succ]
  refine wpAnyT_held (i := 9) (v := ?_) rfl (by kernel_rfl) (by kernel_rfl) (by kernel_rfl) (fun _ _ _ h => h) (by kernel_rfl) hT (fun _ => hS) (by kernel_rfl) ?_ ?_
  rotate_left
  · intro wx hSw; go_split_ands; go_simp; try with_reducible rfl
  simp only [Act.put, List.getElem_toArray, List.getElem_cons_succ, List.getElem_cons_zero, List.setIfInBounds_toArray, List.set_cons_zero, List.set_cons_succ]
  refine wpAnyT_done (by kernel_rfl) ?_ _
  have HE : Veil ((∃ v' us' vp' T' P', BothC w4 s H b v' R us' vp' T' P') ∧ Below s w w4) := ⟨⟨_, _, _, _, _, hB3.far hb4⟩, ((hb.drew.mono hs).trans hb2s).trans (hb3s.trans (hb4.mono (by have := hto3.turn.size; omega)))⟩
  clear hT hS hsa hrc hcp hB3 hf3 hD3 hb3s hb2s hH2 hD2 ho2 ho3 hto2 hto3 hb4 hBW hD1 hD hb
  go_wp2
  go_ret
  exact ⟨rfl, HE.out⟩
end
end Go.Proofs.YtgcidamdbidgiaaDoor
