/- Bf5 -/
import Derived.Test.YthjkcfpdkhghpaaH15
import Derived.Test.YthjkcfpdkhghpaaH03
namespace Go.Proofs.Ythjkcfpdkhghpaa
open Go.RowKit Go.Shelf
attribute [local go_sem] Oper.semAt_some
set_option maxRecDepth 20000
set_option linter.unusedSimpArgs false
def sumS (S : List Int) : Int := S.foldl (· + ·) 0
def fullB (S : List Int) : Bool := decide (512 ≤ sumS S)
theorem sumS_take_succ (S : List Int) (j : Nat) (hj : j < S.length) : sumS (S.take (j + 1)) = sumS (S.take j) + S[j] := by
  unfold sumS
  rw [List.take_succ_eq_append_getElem hj, List.foldl_append]; rfl
theorem sumS_take_rng (S : List Int) (h : ∀ x ∈ S, 0 ≤ x ∧ x ≤ 4294967295) : ∀ j, j ≤ S.length → 0 ≤ sumS (S.take j) ∧ sumS (S.take j) ≤ 4294967295 * j
  | 0, _ => by simp [sumS]
  | j + 1, hj => by
    rw [sumS_take_succ S j hj]
    have := sumS_take_rng S h j (by omega)
    have := h _ (List.getElem_mem hj)
    push_cast; omega
set_option maxHeartbeats 2000000 in
theorem full_any (H b : Nat) (S : List Int) (L : List Ev) (w : World) (hC : BufC w H b S L) :
    Calls Try.prog 28 #[.pointer (some ⟨H, 0, none⟩)] w fun e w' => e = .returned (.bool (fullB S)) ∧ Below w.heap.size w w' := by
  have hsr := hC.seenR
  have hl8 : S.length = 8 := hC.len
  have HR := Veil.mk (sumS_take_rng S hC.rng)
  have HS := Veil.mk (sumS_take_succ S)
  have HF : Veil (fullB S = decide (512 ≤ sumS (S.take 8))) := ⟨by unfold fullB; rw [List.take_of_length_le (by omega)]⟩
  have HL := Veil.mk hl8
  have uV := Try.underlying34
  have iV : (Try.prog.info? 34).map (·.size) = some (S.map (Value.int .u32)).length := by rw [List.length_map, hl8]; exact sizeV8c
  have HG : Veil (∀ (j : Nat), j < 8 → ∀ wx, (Instr.index 34 (.agg (S.map (Value.int .u32)).toArray) (.int .i64 j)).run Try.prog wx = .ok (.int .u32 (S[j]?.getD 0)) wx) := ⟨fun j hj wx => run_index_row wx 34 30 8 .u32 S j Try.underlying34 Try.underlying30 (by kernel_rfl) hl8 hj⟩
  have HX : Veil (∀ x ∈ S, 0 ≤ x ∧ x ≤ 4294967295) := ⟨hC.rng⟩
  generalize fullB S = FB at HF ⊢
  generalize hSV : (S.map (Value.int .u32)) = SV at hsr iV HG
  clear hSV hC hl8
  go_enter Try.func28, Try.ntmps28
  go_wp2_with (refine wpList_ldv rfl 34 _ rfl H 0 rfl SV hsr uV rfl iV ?_)
  go_loopw [3, 5, 10] (fun p _ q wr => ∃ j : Nat, j ≤ 8 ∧ q = .int .i64 j ∧ p = .int .i64 (sumS (S.take j)) ∧ Below w.heap.size w wr) (fun _ _ q _ => 8 - (intOf q).toNat)
  case atStart => exact ⟨0, by omega, rfl, rfl, Below.refl _ _⟩
  case round =>
    obtain ⟨j, hj, rfl, rfl, hb⟩ := hrel
    by_cases hjn : j < 8
    · have hji : (j : Int) < 8 := by omega
      have hix := HG.out j hjn
      obtain ⟨x, hx⟩ : ∃ x, S[j]?.getD 0 = x := ⟨_, rfl⟩
      have hxm : 0 ≤ x ∧ x ≤ 4294967295 := by
        rw [← hx, List.getElem?_eq_getElem (by rw [HL.out]; exact hjn)]
        exact HX.out _ (List.getElem_mem _)
      rw [hx] at hix
      obtain ⟨A, hA⟩ : ∃ A, sumS (S.take j) = A := ⟨_, rfl⟩
      have hA2 := HR.out j (by rw [HL.out]; omega)
      rw [hA] at hA2 ⊢
      have HN : Veil (sumS (S.take (j + 1)) = A + x) := ⟨by rw [HS.out j (by rw [HL.out]; exact hjn), hA, ← hx, List.getElem?_eq_getElem (by rw [HL.out]; exact hjn)]; rfl⟩
      have hcv : IntKind.i64.wrap x = x := by rw [IntKind.wrap_i64]; omega
      have hw1 : IntKind.i64.wrap (A + x) = A + x := by rw [IntKind.wrap_i64]; omega
      have hw2 : IntKind.i64.wrap ((j : Int) + 1) = (j : Int) + 1 := by rw [IntKind.wrap_i64]; omega
      clear hA hx hA2 hxm
      go_wp2
      go_roundw
      case rel => exact ⟨j + 1, hjn, by push_cast; rfl, by rw [HN.out], hb⟩
      case measure => simp [intOf]; omega
    · obtain rfl : j = 8 := by omega
      obtain ⟨A, hA⟩ : ∃ A, sumS (S.take 8) = A := ⟨_, rfl⟩
      rw [hA] at HF ⊢
      clear hA HG HR HS
      by_cases h5 : 512 ≤ A
      · replace HF : Veil (FB = true) := ⟨by rw [HF.out]; simpa using h5⟩
        go_wp2
        go_ret
        exact ⟨by rw [HF.out]; simp [h5], hb⟩
      · replace HF : Veil (FB = false) := ⟨by rw [HF.out]; simpa using h5⟩
        go_wp2
        go_ret
        exact ⟨by rw [HF.out]; simp [h5], hb⟩
theorem ready_ok (S : List Int) (e : Ev) (w : World) (hl : S.length = 8) (hr : ∀ x ∈ S, 0 ≤ x ∧ x ≤ 4294967295) (he : e.Ok) :
    Calls Try.prog 29 #[.agg (S.map (Value.int .u32)).toArray, .agg e.cells.toArray] w fun x w' => x = .returned (.bool (readyB S e)) ∧ Below w.heap.size w w' :=
  cready_any S e w hl (fun x hx => by have := hr x hx; omega) he.past he.dot.1.1 he.dot.2.1 (by have := he.dot.2.2; omega) he.par.1.1 he.par.2.1
theorem ev_len (e : Ev) (h : e.past.length = 8) : e.cells.length = 17 := (ev_cell15 e h).2.2.2.2
theorem ev_one (e : Ev) : ∀ u ∈ e.cells, u.oneCell' = true := by
  intro u hu
  unfold Ev.cells dotC at hu
  simp only [List.mem_append, List.mem_cons, List.not_mem_nil, or_false, List.mem_map] at hu
  rcases hu with ((rfl | rfl) | ⟨x, _, rfl⟩) | ((rfl | (rfl | rfl)) | (rfl | rfl | rfl | rfl)) <;> rfl
def evZ17 : List Value := [.int .u8 0, .int .u32 0, .int .u32 0, .int .u32 0, .int .u32 0, .int .u32 0, .int .u32 0, .int .u32 0, .int .u32 0, .int .u32 0, .int .u8 0, .int .u8 0, .int .u32 0, .bool false, .int .u8 0, .int .u8 0, .int .u8 0]
def firstR (S : List Int) (L : List Ev) : Option Ev := L.find? (readyB S)
def frVal (o : Option Ev) : List Value := match o with | some e => e.cells | none => evZ17
theorem results_cc {P : Program} {fn : Func} {p q : Tmp} {t1 t2 u2 : TypeId} {d : TypeDesc} (h : fn.results = #[.cell p t1, .cell q t2]) (tmps : Array Value) {w : World} {A B : Nat} {cs : List Value} {bv : Bool} (hp : tmps.getD p undef = .pointer (some ⟨A, 0, none⟩)) (hq : tmps.getD q undef = .pointer (some ⟨B, 0, none⟩)) (hA : CellsAt w A t1 cs) (hB : CellsAt w B u2 [.bool bv])
    (hu : P.underlying t1 = some d) (hd : (match d with | .struct _ | .array _ _ => true | _ => false) = true) (hi : (P.info? t1).map (·.size) = some cs.length) (ha : ∀ w, (isAgg t2).run P w = .ok false w) :
    (results fn tmps).run P w = .ok (.tuple #[.agg cs.toArray, .bool bv]) w := by
  have hp' : tmps[p]?.getD undef = .pointer (some ⟨A, 0, none⟩) := by simpa using hp
  have hq' : tmps[q]?.getD undef = .pointer (some ⟨B, 0, none⟩) := by simpa using hq
  have hc : w.cell? ⟨B, 0, none⟩ = some (.bool bv) := hB.cell 0
  have hl := run_loadVar_row w A t1 t1 cs.toArray (0, 0) _ hA hu hd (by rw [hi]; simp)
  have hlB : (loadVar t2 ⟨B, 0, none⟩).run P w = .ok (.bool bv) w := by simp [go_sem, hc, ha]
  simp [results, h, hp', hq', asAddr, hl, hlB]
theorem wpListI_stv {P : Program} {ops : Array Oper} {rest : List Oper} {o : Oper} {a : Act} {w : World} {n : Nat} {Q : Exit → Act → World → Prop} (hgd : o.guard = none) (ty : TypeId) (x y : Operand) (ho : o.op = .store ty x y)
    (g : Nat) (hx : a.eval x = .pointer (some ⟨g, 0, none⟩)) {t : TypeId} {old cs : List Value} (hy : a.eval y = .agg cs.toArray) (hg : CellsAt w g t old)
    (hi : (P.info? ty).map (·.size) = some cs.length) (hl : old.length = cs.length) (h1 : ∀ v ∈ cs, v.oneCell' = true)
    (h : wpListIn Fence.wide n P ops Q rest (a.put o.dst undef) (w.setRow g cs.toArray)) : wpListIn Fence.wide n P ops Q (o :: rest) a w :=
  wpListIn_plain hgd fun _ hK => wpI_op (wp_stvE ty x y ho g hx hy hg hi hl h1 (hK _ _ h))
theorem wpListI_ldv {P : Program} {ops : Array Oper} {rest : List Oper} {o : Oper} {a : Act} {w : World} {n : Nat} {Q : Exit → Act → World → Prop} {d : TypeDesc} (hgd : o.guard = none) (ty : TypeId) (x : Operand) (ho : o.op = .load ty x)
    (g off : Nat) (hx : a.eval x = .pointer (some ⟨g, off, none⟩)) (cs : List Value) (hg : w.rangeAt g off cs)
    (hu : P.underlying ty = some d) (hd : d.isRow = true) (hi : (P.info? ty).map (·.size) = some cs.length)
    (h : wpListIn Fence.wide n P ops Q rest (a.put o.dst (.agg cs.toArray)) w) : wpListIn Fence.wide n P ops Q (o :: rest) a w :=
  wpListIn_plain hgd fun _ hK => wpI_op (wp_load_mid ty x ho g off hx cs _ hg hu hd hi (hK _ _ h))
theorem CellsAt.setOtherB {w : World} {g : Nat} {t : TypeId} {cs : List Value} (h : CellsAt w g t cs) (a : Addr) (v : Value) (hne : g ≠ a.block) : CellsAt (w.setCell a v) g t cs := h.congr (Below.heap_setCell w a v g hne)
set_option maxHeartbeats 4000000 in
theorem firstReady_any (H b : Nat) (S : List Int) (L : List Ev) (w : World) (hC : BufC w H b S L) (hL : L.length ≤ 1000) :
    Calls Try.prog 32 #[.pointer (some ⟨H, 0, none⟩)] w fun e w' => e = .returned (.tuple #[.agg (frVal (firstR S L)).toArray, .bool (firstR S L).isSome]) ∧ Below w.heap.size w w' := by
  obtain ⟨FR, hFR⟩ : ∃ q, firstR S L = q := ⟨_, rfl⟩
  rw [hFR]
  have HFR := Veil.mk hFR
  clear hFR
  refine (callsIn_wide (n := 9)).1 ?_
  have hio := fun W => inOrder_any (some ⟨H, 0, none⟩) W
  refine callsIn_of_wp_marks Try.func32 rfl trivial ?_ rfl
  simp only [Try.ntmps32, List.size_toArray, List.length_cons, List.length_nil, Nat.reduceAdd, Nat.reduceSub, Array.replicate_succ, Array.replicate_zero, List.push_toArray, List.append_toArray, List.nil_append, List.cons_append]
  gi_wp2_with (refine ⟨trivial, ?_⟩; gi_at_call 44; refine (callsIn_wide.2 (hio _)).mono ?_; rintro e w1 ⟨rfl, rfl⟩)
  have hbw : Below w.heap.size w ((((w.alloc (.cells #[.pointer (some ⟨H, 0, none⟩)] 23)).alloc (.cells #[.int .u8 0, .int .u32 0, .int .u32 0, .int .u32 0, .int .u32 0, .int .u32 0, .int .u32 0, .int .u32 0, .int .u32 0, .int .u32 0, .int .u8 0, .int .u8 0, .int .u32 0, .bool false, .int .u8 0, .int .u8 0, .int .u8 0] 38)).alloc (.cells #[.bool false] 4)).alloc (.cells #[.pointer (some ⟨H, 0, none⟩)] 23)) := ((((Below.refl _ _).alloc (Nat.le_refl _) _).alloc (by simp) _).alloc (by simp; omega) _).alloc (by simp; omega) _
  have k0 : CellsAt ((((w.alloc (.cells #[.pointer (some ⟨H, 0, none⟩)] 23)).alloc (.cells #[.int .u8 0, .int .u32 0, .int .u32 0, .int .u32 0, .int .u32 0, .int .u32 0, .int .u32 0, .int .u32 0, .int .u32 0, .int .u32 0, .int .u8 0, .int .u8 0, .int .u32 0, .bool false, .int .u8 0, .int .u8 0, .int .u8 0] 38)).alloc (.cells #[.bool false] 4)).alloc (.cells #[.pointer (some ⟨H, 0, none⟩)] 23)) w.heap.size 23 [.pointer (some ⟨H, 0, none⟩)] := (((CellsAt.new w 23 [.pointer (some ⟨H, 0, none⟩)]).alloc _).alloc _).alloc _
  have k1 : CellsAt ((((w.alloc (.cells #[.pointer (some ⟨H, 0, none⟩)] 23)).alloc (.cells #[.int .u8 0, .int .u32 0, .int .u32 0, .int .u32 0, .int .u32 0, .int .u32 0, .int .u32 0, .int .u32 0, .int .u32 0, .int .u32 0, .int .u8 0, .int .u8 0, .int .u32 0, .bool false, .int .u8 0, .int .u8 0, .int .u8 0] 38)).alloc (.cells #[.bool false] 4)).alloc (.cells #[.pointer (some ⟨H, 0, none⟩)] 23)) (w.heap.size + 1) 38 evZ17 := by
    have := ((CellsAt.new (w.alloc (.cells #[.pointer (some ⟨H, 0, none⟩)] 23)) 38 evZ17).alloc (.cells #[.bool false] 4)).alloc (.cells #[.pointer (some ⟨H, 0, none⟩)] 23)
    rw [World.size_alloc] at this; exact this
  have k2 : CellsAt ((((w.alloc (.cells #[.pointer (some ⟨H, 0, none⟩)] 23)).alloc (.cells #[.int .u8 0, .int .u32 0, .int .u32 0, .int .u32 0, .int .u32 0, .int .u32 0, .int .u32 0, .int .u32 0, .int .u32 0, .int .u32 0, .int .u8 0, .int .u8 0, .int .u32 0, .bool false, .int .u8 0, .int .u8 0, .int .u8 0] 38)).alloc (.cells #[.bool false] 4)).alloc (.cells #[.pointer (some ⟨H, 0, none⟩)] 23)) (w.heap.size + 2) 4 [.bool false] := by
    have := (CellsAt.new ((w.alloc (.cells #[.pointer (some ⟨H, 0, none⟩)] 23)).alloc (.cells #[.int .u8 0, .int .u32 0, .int .u32 0, .int .u32 0, .int .u32 0, .int .u32 0, .int .u32 0, .int .u32 0, .int .u32 0, .int .u32 0, .int .u8 0, .int .u8 0, .int .u32 0, .bool false, .int .u8 0, .int .u8 0, .int .u8 0] 38)) 4 [.bool false]).alloc (.cells #[.pointer (some ⟨H, 0, none⟩)] 23)
    rw [World.size_alloc, World.size_alloc] at this; exact this
  have k3 : CellsAt ((((w.alloc (.cells #[.pointer (some ⟨H, 0, none⟩)] 23)).alloc (.cells #[.int .u8 0, .int .u32 0, .int .u32 0, .int .u32 0, .int .u32 0, .int .u32 0, .int .u32 0, .int .u32 0, .int .u32 0, .int .u32 0, .int .u8 0, .int .u8 0, .int .u32 0, .bool false, .int .u8 0, .int .u8 0, .int .u8 0] 38)).alloc (.cells #[.bool false] 4)).alloc (.cells #[.pointer (some ⟨H, 0, none⟩)] 23)) (w.heap.size + 3) 23 [.pointer (some ⟨H, 0, none⟩)] := by
    have := CellsAt.new (((w.alloc (.cells #[.pointer (some ⟨H, 0, none⟩)] 23)).alloc (.cells #[.int .u8 0, .int .u32 0, .int .u32 0, .int .u32 0, .int .u32 0, .int .u32 0, .int .u32 0, .int .u32 0, .int .u32 0, .int .u32 0, .int .u8 0, .int .u8 0, .int .u32 0, .bool false, .int .u8 0, .int .u8 0, .int .u8 0] 38)).alloc (.cells #[.bool false] 4)) 23 [.pointer (some ⟨H, 0, none⟩)]
    rw [World.size_alloc, World.size_alloc, World.size_alloc] at this; exact this
  have hz0 : ((((w.alloc (.cells #[.pointer (some ⟨H, 0, none⟩)] 23)).alloc (.cells #[.int .u8 0, .int .u32 0, .int .u32 0, .int .u32 0, .int .u32 0, .int .u32 0, .int .u32 0, .int .u32 0, .int .u32 0, .int .u32 0, .int .u8 0, .int .u8 0, .int .u32 0, .bool false, .int .u8 0, .int .u8 0, .int .u8 0] 38)).alloc (.cells #[.bool false] 4)).alloc (.cells #[.pointer (some ⟨H, 0, none⟩)] 23)).heap.size = w.heap.size + 4 := by simp
  generalize (((w.alloc (.cells #[.pointer (some ⟨H, 0, none⟩)] 23)).alloc (.cells #[.int .u8 0, .int .u32 0, .int .u32 0, .int .u32 0, .int .u32 0, .int .u32 0, .int .u32 0, .int .u32 0, .int .u32 0, .int .u32 0, .int .u8 0, .int .u8 0, .int .u32 0, .bool false, .int .u8 0, .int .u8 0, .int .u8 0] 38)).alloc (.cells #[.bool false] 4)).alloc (.cells #[.pointer (some ⟨H, 0, none⟩)] 23) = W0 at hbw k0 k1 k2 k3 hz0 ⊢
  have hC0 := hC.far hbw
  have hlH := hC.cells.lt
  have hlb := hC.wait.lt
  have hseq := inOrder1_seq (9 - 1) (w.heap.size + 3) H b S L W0 (k3.cell 0) hC0 hL
  obtain ⟨I, HI⟩ : ∃ I : (Nat → Prop) → List Ev → World → Prop, Veil (∀ T pre W, I T pre W ↔ (∀ k, T k ↔ (k = w.heap.size + 1 ∨ k = w.heap.size + 2)) ∧ CellsAt W (w.heap.size + 1) 38 evZ17 ∧ CellsAt W (w.heap.size + 2) 4 [.bool false] ∧ CellsAt W w.heap.size 23 [.pointer (some ⟨H, 0, none⟩)] ∧ CellsAt W H 54 (S.map (Value.int .u32) ++ [.map (some b)]) ∧ (∀ e ∈ pre, readyB S e = false) ∧ W0.heap.size ≤ W.heap.size) := ⟨_, ⟨fun _ _ _ => Iff.rfl⟩⟩
  obtain ⟨Ix, HIx⟩ : ∃ Ix : Code → (Nat → Prop) → List Ev → World → Prop, Veil (∀ c T xs W, Ix c T xs W ↔ (c = .ret ∧ (∀ k, T k ↔ (k = w.heap.size + 1 ∨ k = w.heap.size + 2)) ∧ ∃ pre e, xs = pre ++ [e] ∧ e.past.length = 8 ∧ CellsAt W (w.heap.size + 1) 38 e.cells ∧ CellsAt W (w.heap.size + 2) 4 [.bool true] ∧ (∀ e ∈ pre, readyB S e = false) ∧ readyB S e = true)) := ⟨_, ⟨fun _ _ _ _ => Iff.rfl⟩⟩
  refine wpIn_rangeT (by omega) rfl (enters_of Try.func51 (by kernel_rfl) rfl) hseq (fun _ => rfl) (fun xs A B h _ => ⟨h.all⟩) (fun xs A B h _ => ⟨h.pre⟩) (fun k => k = w.heap.size + 1 ∨ k = w.heap.size + 2) (fun k hk => ⟨fun q => by omega, by omega⟩) (fun k hk => by omega)
    I Ix ?stays ?staysx ?zero ?round ?done ?stop
  case stays =>
    intro T s A B hi hs
    obtain ⟨hT, h1, h2, h3, h4, h5, h6⟩ := (HI.out _ _ _).1 hi
    have hsz := hs.size
    refine (HI.out _ _ _).2 ⟨hT, h1.congr (hs.block _ (.inl ((hT _).2 (.inl rfl)))), h2.congr (hs.block _ (.inl ((hT _).2 (.inr rfl)))), h3.congr (hs.block _ (.inr ⟨by omega, id⟩)), h4.congr (hs.block H (.inr ⟨by omega, id⟩)), h5, by omega⟩
  case staysx =>
    intro c T s A B hi hs
    obtain ⟨hc, hT, pre, e, h0, h1, h2, h3, h4⟩ := (HIx.out _ _ _ _).1 hi
    exact (HIx.out _ _ _ _).2 ⟨hc, hT, pre, e, h0, h1, h2.congr (hs.block _ (.inl ((hT _).2 (.inl rfl)))), h3.congr (hs.block _ (.inl ((hT _).2 (.inr rfl)))), h4⟩
  case zero => exact (HI.out _ _ _).2 ⟨fun k => Iff.rfl, k1, k2, k0, hC0.cells, by simp, Nat.le_refl _⟩
  case round =>
    intro l r T pre x W hi hok hlen hTl hT0 hlr
    obtain ⟨hT, h1, h2, h3, h4, h5, h6⟩ := (HI.out _ _ _).1 hi
    have he1 := ev_len x hok.past
    have he2 := ev_one x
    have hrd := fun W' => ready_ok S x W' hC.len hC.rng hok
    have hlw : l < W.heap.size := (Array.getElem?_eq_some_iff.1 hlr).1
    have HPL : Veil (x.past.length = 8) := ⟨hok.past⟩
    obtain ⟨E, hE⟩ : ∃ E, x.cells = E := ⟨_, rfl⟩
    rw [hE] at he1 he2 hrd
    rw [hE]
    have HEQ := Veil.mk hE
    have hc1 := CellsAt.new W 38 [.int .u8 0, .int .u32 0, .int .u32 0, .int .u32 0, .int .u32 0, .int .u32 0, .int .u32 0, .int .u32 0, .int .u32 0, .int .u32 0, .int .u8 0, .int .u8 0, .int .u32 0, .bool false, .int .u8 0, .int .u8 0, .int .u8 0]
    have iE : (Try.prog.info? 38).map (·.size) = some E.length := by rw [he1]; kernel_rfl
    have hBx : CellsAt ((W.alloc (.cells #[.int .u8 0, .int .u32 0, .int .u32 0, .int .u32 0, .int .u32 0, .int .u32 0, .int .u32 0, .int .u32 0, .int .u32 0, .int .u32 0, .int .u8 0, .int .u8 0, .int .u32 0, .bool false, .int .u8 0, .int .u8 0, .int .u8 0] 38)).setRow W.heap.size E.toArray) W.heap.size 38 E := hc1.setRow E
    have hTu : Below W.heap.size W ((W.alloc (.cells #[.int .u8 0, .int .u32 0, .int .u32 0, .int .u32 0, .int .u32 0, .int .u32 0, .int .u32 0, .int .u32 0, .int .u32 0, .int .u32 0, .int .u8 0, .int .u8 0, .int .u32 0, .bool false, .int .u8 0, .int .u8 0, .int .u8 0] 38)).setRow W.heap.size E.toArray) := by
      refine ⟨rfl, rfl, rfl, by simp [World.setRow, World.putObj], fun k hk' => ?_⟩
      rw [setRow_other _ _ _ _ (by omega)]; exact Below.heap_alloc W _ k hk'
    refine wpR_region (notOut_then notOut_false) (by kernel_rfl) ?_
    go_wp2_with (refine wpList_stv rfl 38 _ _ rfl W.heap.size rfl rfl hc1 iE (by rw [he1]; rfl) he2 ?_)
    refine ⟨Turn.of_below hTu, ?_⟩
    generalize (W.alloc (.cells #[.int .u8 0, .int .u32 0, .int .u32 0, .int .u32 0, .int .u32 0, .int .u32 0, .int .u32 0, .int .u32 0, .int .u32 0, .int .u32 0, .int .u8 0, .int .u8 0, .int .u32 0, .bool false, .int .u8 0, .int .u8 0, .int .u8 0] 38)).setRow W.heap.size E.toArray = W1 at hBx hTu ⊢
    have hle := hTu.size
    have hne : ∀ (g : Nat) (t : TypeId) (cs : List Value), CellsAt W g t cs → CellsAt (W1.putObj l (.loop { r with state := .busy })) g t cs := fun g t cs h => (h.congr (hTu.block g h.lt)).congr (World.putObj_heap_other (fun e => by have q : W.heap[l]? = _ := e ▸ h; rw [hlr] at q; cases q))
    have b1 := hne _ _ _ h1
    have b2 := hne _ _ _ h2
    have b3 := hne _ _ _ h3
    have b4 := hne _ _ _ h4
    have b5 : CellsAt (W1.putObj l (.loop { r with state := .busy })) W.heap.size 38 E := hBx.congr (World.putObj_heap_other (by omega))
    have hz2 : W.heap.size ≤ (W1.putObj l (.loop { r with state := .busy })).heap.size := Nat.le_of_lt b5.lt
    generalize W1.putObj l (.loop { r with state := .busy }) = W2 at b1 b2 b3 b4 b5 hz2 ⊢
    clear hne h1 h2 h3 h4 hBx hTu hc1 hle hlw
    have HT := Veil.mk hT
    have HQ : Veil (∀ V, Below W2.heap.size W2 V → readyB S x = false → I T (pre ++ [x]) V ∧ MovesT T W2 T V) := ⟨fun V hb hf => ⟨(HI.out _ _ _).2 ⟨hT, b1.farM hb, b2.farM hb, b3.farM hb, b4.farM hb, fun e he => by rcases List.mem_append.1 he with q | q; exact h5 e q; rw [List.mem_singleton.1 q]; exact hf, by have := hb.size; omega⟩, MovesT.of_below hb (fun k hk => by rcases (hT k).1 hk with rfl | rfl; exact b1.lt; exact b2.lt)⟩⟩
    have HQx : Veil (∀ V, Below W2.heap.size W2 V → readyB S x = true → Ix .ret T (pre ++ [x]) ((V.setRow (w.heap.size + 1) E.toArray).setCell ⟨w.heap.size + 2, 0, none⟩ (.bool true)) ∧ MovesT T W2 T ((V.setRow (w.heap.size + 1) E.toArray).setCell ⟨w.heap.size + 2, 0, none⟩ (.bool true))) := ⟨fun V hb hf => by
      have c1 := ((b1.farM hb).setRow E).setOtherB ⟨w.heap.size + 2, 0, none⟩ (.bool true) (by simp)
      have c2 := ((b2.farM hb).setRowM E.toArray (show w.heap.size + 2 ≠ w.heap.size + 1 by omega)).set 0 (.bool true)
      refine ⟨(HIx.out _ _ _ _).2 ⟨rfl, hT, pre, x, rfl, HPL.out, by rw [HEQ.out]; exact c1, c2, h5, hf⟩, ?_, fun k hk => ?_⟩
      · have t1 : Turn T V (V.setRow (w.heap.size + 1) E.toArray) := ⟨rfl, rfl, rfl, by simp [World.setRow, World.putObj], fun k _ hk => setRow_other _ _ _ _ (fun e => hk ((hT k).2 (.inl e)))⟩
        exact ((Turn.of_below hb).trans t1).trans (Turn.of_setCell _ ((hT _).2 (.inr rfl)) _)
      · refine ⟨.inl hk, ?_⟩
        rcases (hT k).1 hk with rfl | rfl
        · exact c1.lt
        · exact c2.lt⟩
    have hsr : W2.rangeAt H 0 (S.map (Value.int .u32)) := by
      have := b4.range 0 8
      rw [List.drop_zero, List.take_left' (by simp [hC.len])] at this
      exact this
    have hT2 : W2.cell? ⟨w.heap.size, 0, none⟩ = some (.pointer (some ⟨H, 0, none⟩)) ∧ W2.rangeAt H 0 (S.map (Value.int .u32)) ∧ W2.rangeAt W.heap.size 0 E := ⟨b3.cell 0, hsr, b5.wholeM⟩
    have HTB : Veil (∀ V, Below W2.heap.size W2 V → V.cell? ⟨w.heap.size, 0, none⟩ = some (.pointer (some ⟨H, 0, none⟩)) ∧ V.rangeAt H 0 (S.map (Value.int .u32)) ∧ V.rangeAt W.heap.size 0 E ∧ CellsAt V (w.heap.size + 1) 38 evZ17 ∧ CellsAt (V.setRow (w.heap.size + 1) E.toArray) (w.heap.size + 2) 4 [.bool false]) := ⟨fun V hb => ⟨(b3.farM hb).cell 0, by
      have := (b4.farM hb).range 0 8
      rw [List.drop_zero, List.take_left' (by simp [hC.len])] at this
      exact this, (b5.farM hb).wholeM, b1.farM hb, (b2.farM hb).setRowM _ (by omega)⟩⟩
    have uE := Try.underlying38
    have uV := Try.underlying34
    have iV : (Try.prog.info? 34).map (·.size) = some (S.map (Value.int .u32)).length := by rw [List.length_map, hC.len]; exact sizeV8c
    clear b1 b2 b3 b4 b5 hT hi hT0 hTl h5 hseq hz2 hsr hE hlr
    generalize readyB S x = RB at hrd HQ HQx
    generalize S.map (Value.int .u32) = SV at hrd hT2 HTB iV
    simp only [Act.put]
    refine wpIn_block (wpIn_seq ?_)
    refine wpR_gateT (fun w' => w'.cell? ⟨w.heap.size, 0, none⟩ = some (.pointer (some ⟨H, 0, none⟩)) ∧ w'.rangeAt H 0 SV ∧ w'.rangeAt W.heap.size 0 E) (fun _ => True) 99 (by kernel_rfl) (fun ⟨_, _, q⟩ => q) (by kernel_rfl) ?_
    have hT : (fun w' : World => w'.cell? ⟨w.heap.size, 0, none⟩ = some (.pointer (some ⟨H, 0, none⟩)) ∧ w'.rangeAt H 0 SV ∧ w'.rangeAt W.heap.size 0 E) W2.drew := hT2
    have hS : (fun _ : World => True) W2.drew := trivial
    have hcall := hrd W2.drew
    refine wpAnyT_held (i := 0) (v := ?_) rfl (by kernel_rfl) (by kernel_rfl) (by kernel_rfl) (fun _ _ _ h => h) (by kernel_rfl) hT (fun _ => hS) (by kernel_rfl) ?_ ?_
    rotate_left
    · intro wx hSw; go_split_ands; go_simp; try with_reducible rfl
    simp only [Act.put, List.getElem_toArray, List.getElem_cons_succ, List.getElem_cons_zero, List.setIfInBounds_toArray, List.set_cons_zero, List.set_cons_succ]
    refine wpAnyT_held (i := 1) (v := ?_) rfl (by kernel_rfl) (by kernel_rfl) (by kernel_rfl) (fun _ _ _ h => h) (by kernel_rfl) hT (fun _ => hS) (by kernel_rfl) ?_ ?_
    rotate_left
    · intro wx hSw; go_split_ands; go_simp; try with_reducible rfl
    simp only [Act.put, List.getElem_toArray, List.getElem_cons_succ, List.getElem_cons_zero, List.setIfInBounds_toArray, List.set_cons_zero, List.set_cons_succ]
    refine wpAnyT_held (i := 2) (v := ?_) rfl (by kernel_rfl) (by kernel_rfl) (by kernel_rfl) (fun _ _ _ h => h) (by kernel_rfl) hT (fun _ => hS) (by kernel_rfl) ?_ ?_
    rotate_left
    · intro wx hSw; go_split_ands; go_simp; try with_reducible rfl
    simp only [Act.put, List.getElem_toArray, List.getElem_cons_succ, List.getElem_cons_zero, List.setIfInBounds_toArray, List.set_cons_zero, List.set_cons_succ]
    refine wpAnyT_load (i := 3) (dst := some 11) (ty := 34) (x := .tmp 10) (b := H) (o := (0)) (cs := SV) (by kernel_rfl) (by kernel_rfl) (by kernel_rfl) (by kernel_rfl) (by kernel_rfl) (fun _ _ _ h => h) (by kernel_rfl) hT (fun _ => hS) (by kernel_rfl) (fun _ h => h.2.1) uV rfl iV ?_
    simp only [Act.put, List.getElem_toArray, List.getElem_cons_succ, List.getElem_cons_zero, List.setIfInBounds_toArray, List.set_cons_zero, List.set_cons_succ]
    refine wpAnyT_load (i := 4) (dst := some 12) (ty := 38) (x := .tmp 4) (b := W.heap.size) (o := (0)) (cs := E) (by kernel_rfl) (by kernel_rfl) (by kernel_rfl) (by kernel_rfl) (by kernel_rfl) (fun _ _ _ h => h) (by kernel_rfl) hT (fun _ => hS) (by kernel_rfl) (fun _ h => h.2.2) uE rfl iE ?_
    simp only [Act.put, List.getElem_toArray, List.getElem_cons_succ, List.getElem_cons_zero, List.setIfInBounds_toArray, List.set_cons_zero, List.set_cons_succ]
    refine wpAnyT_one (i := 5) rfl (by kernel_rfl) (by kernel_rfl) (fun K hK => ?_)
    refine wpx_call _ _ (by kernel_rfl) (hcall.mono ?_)
    rintro e V ⟨rfl, hb⟩
    refine ⟨_, rfl, ?_⟩
    have hbV : Below W2.heap.size W2 V := (Below.refl _ _).drew.trans hb
    obtain ⟨q1, q2, q3, q4, q5⟩ := HTB.out V hbV
    replace hT : (fun w' : World => w'.cell? ⟨w.heap.size, 0, none⟩ = some (.pointer (some ⟨H, 0, none⟩)) ∧ w'.rangeAt H 0 SV ∧ w'.rangeAt W.heap.size 0 E) V := ⟨q1, q2, q3⟩
    clear hcall hb q1 q2
    refine hK.out _ _ hT (fun _ => hS) ?_
    clear hK K
    try simp only [Act.put, List.getElem_toArray, List.getElem_cons_succ, List.getElem_cons_zero, List.setIfInBounds_toArray, List.set_cons_zero, List.set_cons_succ]
    refine wpAnyT_done (by kernel_rfl) ?_ _
    clear hT hS hT2
    cases RB
    · obtain ⟨r1, r2⟩ := HQ.out V hbV rfl
      clear HQ HQx HTB hrd
      refine wpIn_cond_false rfl ?_
      gi_wp2
      exact ⟨T, r1, r2⟩
    · obtain ⟨r1, r2⟩ := HQx.out V hbV rfl
      have c5 : (V.setRow (w.heap.size + 1) E.toArray).cell? ⟨w.heap.size + 2, 0, none⟩ = some (.bool false) := q5.cell 0
      have f5 := q5.frozen 0
      clear HQ HQx HTB hrd
      refine wpIn_cond_true rfl (wpIn_seq (wpR_region (fun ⟨_, _, q⟩ => q) (by kernel_rfl) ?_))
      go_wp2_with (first
        | (refine wpList_ldv rfl 38 _ rfl W.heap.size 0 rfl E q3 uE rfl iE ?_)
        | (refine wpList_stv rfl 38 _ _ rfl (w.heap.size + 1) rfl rfl q4 iE (by rw [he1]; rfl) he2 ?_))
      gi_wp2
      exact ⟨T, r1, r2⟩
  case done =>
    intro D xs T W hD hP hi hdef ht hTD
    obtain ⟨hT, h1, h2, h3, h4, h5, h6⟩ := (HI.out _ _ _).1 hi
    have hnone : Veil (FR = none) := by
      refine ⟨?_⟩
      rw [← HFR.out]
      unfold firstR
      rw [List.find?_eq_none]
      intro e he
      rw [← hP.all] at he
      rw [h5 e he]; decide
    have iZ : (Try.prog.info? 38).map (·.size) = some evZ17.length := by kernel_rfl
    have hZ1 : ∀ v ∈ evZ17, v.oneCell' = true := by decide
    have c1 := h1.setRow evZ17
    have c2 := (h2.setRowM evZ17.toArray (show w.heap.size + 2 ≠ w.heap.size + 1 by omega))
    have HEND : Veil (Below w.heap.size w (((W.setRow (w.heap.size + 1) evZ17.toArray).setCell ⟨w.heap.size + 2, 0, none⟩ (.bool false)).putObj D (.deferred none)) ∧ CellsAt (((W.setRow (w.heap.size + 1) evZ17.toArray).setCell ⟨w.heap.size + 2, 0, none⟩ (.bool false)).putObj D (.deferred none)) (w.heap.size + 1) 38 evZ17 ∧ CellsAt (((W.setRow (w.heap.size + 1) evZ17.toArray).setCell ⟨w.heap.size + 2, 0, none⟩ (.bool false)).putObj D (.deferred none)) (w.heap.size + 2) 4 [.bool false] ∧ ((W.setRow (w.heap.size + 1) evZ17.toArray).setCell ⟨w.heap.size + 2, 0, none⟩ (.bool false)).heap[D]? = some (.deferred (some []))) := by
      have hDn : D ≠ w.heap.size + 1 ∧ D ≠ w.heap.size + 2 := ⟨fun q => by omega, fun q => by omega⟩
      have t1 : Turn (fun k => k = w.heap.size + 1 ∨ k = w.heap.size + 2) W (W.setRow (w.heap.size + 1) evZ17.toArray) := ⟨rfl, rfl, rfl, by simp [World.setRow, World.putObj], fun k _ hk => setRow_other _ _ _ _ (fun e => hk (.inl e))⟩
      have t2 := t1.trans (Turn.of_setCell (p := fun k => k = w.heap.size + 1 ∨ k = w.heap.size + 2) (W.setRow (w.heap.size + 1) evZ17.toArray) (a := ⟨w.heap.size + 2, 0, none⟩) (.inr rfl) (.bool false))
      have hdl : D < W.heap.size := (Array.getElem?_eq_some_iff.1 hdef).1
      refine ⟨⟨t2.os.trans (ht.os.trans hbw.os), t2.tape.trans (ht.tape.trans hbw.tape), t2.output.trans (ht.output.trans hbw.output), ?_, fun k hk => ?_⟩, (c1.setOtherB ⟨w.heap.size + 2, 0, none⟩ _ (by simp)).congr (World.putObj_heap_other (by omega)), (c2.set 0 (.bool false)).congr (World.putObj_heap_other (by omega)), (t2.block D hdl (by omega)).trans hdef⟩
      · have := t2.size; have := ht.size; simp [World.putObj] at *; omega
      · rw [World.putObj_heap_other (by omega), t2.block k (by have := ht.size; omega) (by omega), ht.block k (by omega) (fun q => by rcases q with (q | q) | q; omega; omega; exact q)]; exact hbw.block k hk
    have g2 : (W.setRow (w.heap.size + 1) evZ17.toArray).cell? ⟨w.heap.size + 2, 0, none⟩ = some (.bool false) := c2.cell 0
    have f2 := c2.frozen 0
    clear h2 h3 h4 h5 h6 c1 c2 hi hP hT ht hTD hseq hdef
    gi_wp2_with (refine wpListI_stv rfl 38 _ _ rfl (w.heap.size + 1) rfl (cs := evZ17) rfl h1 iZ rfl hZ1 ?_)
    refine ⟨by simp, .inl ⟨_, _, rfl, run_takeDeferred HEND.out.2.2.2, ?_⟩⟩
    exact ⟨_, results_cc (p := 2) (q := 3) rfl _ rfl rfl HEND.out.2.1 HEND.out.2.2.1 Try.underlying38 rfl iZ Try.isAgg4, by rw [hnone.out]; rfl, HEND.out.1⟩
  case stop =>
    intro D c xs T W hD hP hix hdef ht hTD
    obtain ⟨rfl, hT, pre, e, rfl, hpl, h1, h2, h3, h4⟩ := (HIx.out _ _ _ _).1 hix
    have hsome : Veil (FR = some e) := by
      refine ⟨?_⟩
      rw [← HFR.out]
      unfold firstR
      obtain ⟨t, ht⟩ := hP.pre
      rw [← ht, List.append_assoc, List.find?_append, List.find?_eq_none.2 (fun x hx => by rw [h3 x hx]; decide), Option.none_or]
      simp [h4]
    have iE : (Try.prog.info? 38).map (·.size) = some e.cells.length := by rw [ev_len e hpl]; kernel_rfl
    have HEND : Veil (Below w.heap.size w (W.putObj D (.deferred none)) ∧ CellsAt (W.putObj D (.deferred none)) (w.heap.size + 1) 38 e.cells ∧ CellsAt (W.putObj D (.deferred none)) (w.heap.size + 2) 4 [.bool true]) := by
      refine ⟨⟨ht.os.trans hbw.os, ht.tape.trans hbw.tape, ht.output.trans hbw.output, ?_, fun k hk => ?_⟩, h1.congr (World.putObj_heap_other (by omega)), h2.congr (World.putObj_heap_other (by omega))⟩
      · have := ht.size; simp [World.putObj]; omega
      · rw [World.putObj_heap_other (by omega), ht.block k (by omega) (fun q => by rcases q with (q | q) | q; omega; omega; exact q)]; exact hbw.block k hk
    clear h1 h2 h3 h4 hix hP hT ht hTD hseq
    gi_wp2
    refine ⟨by simp, .inl ⟨_, _, rfl, run_takeDeferred hdef, ?_⟩⟩
    exact ⟨_, results_cc (p := 2) (q := 3) rfl _ rfl rfl HEND.out.2.1 HEND.out.2.2 Try.underlying38 rfl iE Try.isAgg4, by rw [hsome.out]; rfl, HEND.out.1⟩
end Go.Proofs.Ythjkcfpdkhghpaa
