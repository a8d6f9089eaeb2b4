/- Ph -/
import Derived.Test.YtlhajphjppjlgaaGreatDoorT13
namespace Go.Proofs.YtlhajphjppjlgaaGreatDoor
open Go.RowKit Go.Shelf
set_option maxRecDepth 100000
set_option linter.unusedSimpArgs false
attribute [local go_sem] Oper.semAt_some
theorem sizeKeyP : (Tryz.prog.info? 23).map (·.size) = some 32 := by kernel_rfl
theorem size10 : (Tryz.prog.info? 216).map (·.size) = some 10 := by kernel_rfl
def adder0 (k : List Int) : List Int := List.replicate 5 0 ++ numL (clampL k ++ [0])
theorem adder0_length (k : List Int) : (adder0 k).length = 10 := by unfold adder0; rw [List.length_append, numL_length, List.length_replicate]
def foldP (z : List Int) (is : List Nat) (L : List Int) : List Int := is.foldl (fun L i => takeL L (blkP z i)) L
theorem foldL_length (L : List Int) : (foldL L).length = L.length := by
  unfold foldL
  extract_lets C C2 C3
  rw [List.length_set, List.length_set, List.length_set, List.length_set, carryK_length]
theorem timesL_length (L m : List Int) (h : 5 ≤ L.length) : (timesL L m).length = L.length := by
  have h1 := foldL_length (outerK L m 5 ++ L.drop 5)
  rw [List.length_append, outerK_length, List.length_drop] at h1
  have h2 : (timesL L m).length = 5 + (L.length - 5) := h1
  omega
theorem takeL_length (L z : List Int) (h : 5 ≤ L.length) : (takeL L z).length = L.length := by
  have h1 := addK_length L (numL z) 5
  have h2 : (takeL L z).length = (addK L (numL z) 5).length := timesL_length (addK L (numL z) 5) ((L.drop 5).take 5) (by rw [h1]; exact h)
  rw [h2, h1]
theorem foldP_length (z : List Int) (is : List Nat) (L : List Int) (h : L.length = 10) : (foldP z is L).length = 10 := by
  induction is generalizing L with
  | nil => exact h
  | cons i is ih =>
    have h2 : (takeL L (blkP z i)).length = 10 := (takeL_length L (blkP z i) (by omega)).trans h
    unfold foldP at ih ⊢
    rw [List.foldl_cons]
    exact ih _ h2
theorem foldP_snoc (z : List Int) (is : List Nat) (i : Nat) (L : List Int) : foldP z (is ++ [i]) L = takeL (foldP z is L) (blkP z i) := by simp [foldP]
def polyL (k z : List Int) : List Int := tagOfL (foldP z (List.range ((z.length + 15) / 16)) (adder0 k)) (k.drop 16)
theorem polyL_length (k z : List Int) : (polyL k z).length = 16 := tagOfL_length _ _
theorem holds_keptP {W W' : World} {row : Option Nat} {g : Nat} {k : IntKind} {t : TypeId} {l : List Int} (h : Holds W g k t l) (hg : W.grownBy W' row) (hrow : ∀ r, row = some r → ∃ o : Obj, W.heap[r]? = some o ∧ o.isCells = false) : Holds W' g k t l := by
  have hl := h.lt
  unfold Holds at h ⊢
  rw [hg.block g hl (fun e => by
    obtain ⟨o, ho, hc⟩ := hrow g e.symm
    rw [h] at ho
    cases ho
    cases hc)]
  exact h
theorem keepsOthers_grown {W W' : World} {g : Nat} {cs : Array Value} {t : TypeId} {fr : Nat × Nat} (h : W.grownBy W' (some g)) (hg : W.heap[g]? = some (.cells cs t fr)) : KeepsOthers W W' :=
  ⟨h.size, fun k o hk ho => by
    rw [← hk]
    refine h.block k (Array.getElem?_eq_some_iff.1 hk).1 (fun e => ?_)
    cases e
    rw [hg] at hk
    cases hk
    cases ho⟩
section
variable {P : Program} {F : Fence} {n : Nat}
theorem wpListIn_ldm {ops : Array Oper} {rest : List Oper} {o : Oper} {a : Act} {w : World} {Q : Exit → Act → World → Prop} (hgd : o.guard = none) (ty : TypeId) (x : Operand) (ho : o.op = .load ty x)
    (b off : Nat) (hx : a.eval x = .pointer (some ⟨b, off, none⟩)) (cs : List Value) (d : TypeDesc) (hc : w.rangeAt b off cs) (hu : P.underlying ty = some d) (hd : d.isRow = true) (hi : (P.info? ty).map (·.size) = some cs.length)
    (h : wpListIn F n P ops Q rest (a.put o.dst (.agg cs.toArray)) w) : wpListIn F n P ops Q (o :: rest) a w := by
  refine wpListIn_plain hgd fun K hK' => ?_
  unfold Oper.wpIn
  refine ⟨?_, ?_⟩
  · simp [Oper.about, ho]
  · rw [Oper.semAt_plain F _ _ (by rw [ho]; intro c hc'; cases hc')]
    simp only [execOp, ho, hx, Instr.loadAt, Instr.sureAddr, Sem.run_bind, Sem.run_pure, Result.andThen_ok, run_loadVar_mid (P := P) w b off ty cs d hc hu hd hi]
    exact hK' _ _ h
end
set_option maxHeartbeats 4000000 in
theorem psum_in (k : List Int) (x : Option Addr) (len cap : Nat) (z : List Int) (w : World) (hk : k.length = 32) (hbz : Bytes w x len cap z) (hln : len ≤ 1000000) :
    CallsIn Fence.wide 3 Tryz.prog 116 #[.agg (row .u8 k), .slice x len cap] w fun e w' => e = .returned (.agg (row .u8 (polyL k z))) ∧ Below w.heap.size w w' := by
  have HZ : Veil (len = z.length) := ⟨hbz.len_eq⟩
  have hcl := clampL_length k hk
  have hcb : (clampL k ++ [0]).length = 17 := by rw [List.length_append, hcl]; rfl
  have hcm := fun wx => clamp_any k wx hk
  have hba := fun wx => bare_any (clampL k) wx hcl
  have hnu := fun wx => numberOf_any (clampL k ++ [0]) wx hcb
  have hnl := numL_length (clampL k ++ [0])
  have HA : Veil (adder0 k = List.replicate 5 0 ++ numL (clampL k ++ [0])) := ⟨rfl⟩
  have hA10 := adder0_length k
  obtain ⟨C0, hC0⟩ : ∃ q, clampL k = q := ⟨_, rfl⟩
  rw [hC0] at hcm hba hnu hnl HA hcl
  obtain ⟨M, hM⟩ : ∃ q, numL (C0 ++ [0]) = q := ⟨_, rfl⟩
  rw [hM] at hnu hnl HA
  have h0 : Holds (w.alloc (.cells (row .u8 k) 23)) w.heap.size .u8 23 k := Holds.new w .u8 _ k
  obtain ⟨m0, m1, m2, m3, m4, hM5⟩ := five hnl
  rw [hM5] at hnu HA
  have hnu' : ∀ wx, Calls Tryz.prog 129 #[.agg (row .u8 (C0 ++ [0]))] wx fun e w' => e = .returned (.agg #[.int .u64 m0, .int .u64 m1, .int .u64 m2, .int .u64 m3, .int .u64 m4]) ∧ Below wx.heap.size wx w' := hnu
  have hA0 : adder0 k = [0, 0, 0, 0, 0, m0, m1, m2, m3, m4] := HA.out
  have HP : Veil (polyL k z = tagOfL (foldP z (List.range ((len + 15) / 16)) (adder0 k)) (k.drop 16)) := ⟨by unfold polyL; rw [HZ.out]⟩
  have hpl := polyL_length k z
  have hsl : (k.drop 16).length = 16 := by rw [List.length_drop]; omega
  have hat : ∀ (b off cap : Nat) (wx : World), (Instr.arrayAt 167 (.slice (some ⟨b, off, none⟩) 16 cap)).run Tryz.prog wx = .ok (.pointer (some ⟨b, off, none⟩)) wx := fun b off cap wx => run_arrayAt wx 167 _ 16 _ 16 cap Tryz.underlying167 (by omega)
  clear hC0 hM hcb hM5 hnl hnu HA
  refine callsIn_of_wp_marks Tryz.func116 rfl trivial ?_ rfl
  simp only [Tryz.ntmps116, List.size_toArray, List.length_cons, List.length_nil, Nat.reduceAdd, Nat.reduceSub, Array.replicate_succ, Array.replicate_zero, List.push_toArray, List.append_toArray, List.nil_append, List.cons_append]
  have hHA0 : Veil (adder0 k = [0, 0, 0, 0, 0, m0, m1, m2, m3, m4]) := ⟨hA0⟩
  clear hA0
  gi_wp2_with (first
    | (refine wpListIn_ld rfl 23 _ rfl _ rfl (h0.alloc _) Tryz.underlying23 sizeKeyP hk ?_)
    | (refine ⟨trivial, ?_⟩; gi_at_call 131; refine (callsIn_wide.2 (hcm _)).mono ?_; rintro e w1 ⟨rfl, hb1⟩)
    | (refine ⟨trivial, ?_⟩; gi_at_call 130; refine (callsIn_wide.2 (hba _)).mono ?_; rintro e w2 ⟨rfl, hb2⟩)
    | (refine ⟨trivial, ?_⟩; gi_at_call 129; refine (callsIn_wide.2 (hnu' _)).mono ?_; rintro e w3 ⟨rfl, hb3⟩; have hN3 := Holds.new w3 .u64 216 (List.replicate 10 0))
    | (refine wpListIn_stP rfl 216 _ _ rfl _ rfl (k := .u64) (l := [0, 0, 0, 0, 0, m0, m1, m2, m3, m4]) rfl hN3 size10 rfl ?_)
    | (refine ⟨trivial, ?_⟩; gi_at_call 132; refine (callsIn_wide.2 (blocksP_any _ _ _ _)).mono ?_; rintro e w4 ⟨rfl, rfl⟩))
  have hW0 : Below w.heap.size w ((w.alloc (.cells (row .u8 k) 23)).alloc (.cells (row .u8 (List.replicate 16 0)) 168)) := ((Below.refl _ _).alloc (Nat.le_refl _) _).alloc (by simp) _
  have hR0 : Holds ((w.alloc (.cells (row .u8 k) 23)).alloc (.cells (row .u8 (List.replicate 16 0)) 168)) (w.heap.size + 1) .u8 168 (List.replicate 16 0) := by
    have := Holds.new (w.alloc (.cells (row .u8 k) 23)) .u8 168 (List.replicate 16 0)
    rw [World.size_alloc] at this
    exact this
  have hK0 := h0.alloc (.cells (row .u8 (List.replicate 16 0)) 168)
  have hb13 : Below ((w.alloc (.cells (row .u8 k) 23)).alloc (.cells (row .u8 (List.replicate 16 0)) 168)).heap.size ((w.alloc (.cells (row .u8 k) 23)).alloc (.cells (row .u8 (List.replicate 16 0)) 168)) w3 := hb1.trans ((hb2.trans (hb3.mono hb2.size)).mono hb1.size)
  have hR3 := hR0.below hb13 hR0.lt
  have hK3 := hK0.below hb13 hK0.lt
  have hB3 : Below w.heap.size w w3 := hW0.trans (hb13.mono hW0.size)
  have hs3 : w.heap.size + 1 < w3.heap.size := hR3.lt
  refine forget (p := fun y => Code.wpIn _ _ _ _ _ _ y) (fun V => Below w.heap.size w V ∧ Holds V w3.heap.size .u64 216 (adder0 k) ∧ Holds V (w.heap.size + 1) .u8 168 (List.replicate 16 0) ∧ Holds V w.heap.size .u8 23 k ∧ V.cell? ⟨w3.heap.size + 1, 0, none⟩ = some (.slice x len cap) ∧ V.heap.size = w3.heap.size + 1 + 1)
    ⟨(below_setRow (hB3.alloc hB3.size _) hB3.size _).alloc (by simp; omega) _, by rw [hHA0.out]; exact (hN3.setRow _).alloc _, ((hR3.alloc _).setRowOther _ (by omega)).alloc _, ((hK3.alloc _).setRowOther _ (by omega)).alloc _, ?_, by simp⟩ ?_
  · have hh := World.alloc_heap_new ((w3.alloc (.cells (row .u64 (List.replicate 10 0)) 216)).setRow w3.heap.size (row .u64 [0, 0, 0, 0, 0, m0, m1, m2, m3, m4])) (.cells #[.slice x len cap] 30)
    have hsz : ((w3.alloc (.cells (row .u64 (List.replicate 10 0)) 216)).setRow w3.heap.size (row .u64 [0, 0, 0, 0, 0, m0, m1, m2, m3, m4])).heap.size = w3.heap.size + 1 := by simp
    rw [hsz] at hh
    exact (cell_of_row _ (w3.heap.size + 1) 0 _ 30 (0, 0) hh).trans rfl
  clear hW0 hR0 hK0 hb13 hR3 hK3 hB3 hb1 hb2 hb3 hN3 h0 hcm hba hnu'
  rintro V ⟨hBV, hAV, hRV, hKV, hcV, hsV⟩
  obtain ⟨ab, hab⟩ : ∃ q, w3.heap.size = q := ⟨_, rfl⟩
  rw [hab] at hAV hcV hsV hs3 ⊢
  clear hab
  have hT : ∀ b off, x = some ⟨b, off, none⟩ → 0 < len → b < w.heap.size := fun b off hx hl => by
    rcases hbz.at_ with h | ⟨b', off', hx', hc⟩
    · omega
    · rw [hx] at hx'
      cases hx'
      exact block_lt_of_cell (hc 0 hl)
  refine wpIn_rangeFresh (by omega) (gf := 141) (lb := #[.pointer (some ⟨ab + 1, 0, none⟩)]) rfl (enters_of Tryz.func141 (by kernel_rfl) rfl)
    (blkP_stops (3 - 1) (by omega) (ab + 1) w.heap.size x len cap z ((len + 15) / 16) rfl hln V (by omega) hcV (hbz.below hBV) hT hBV.size) (fun _ => rfl)
    (fun pre W => (Holds W ab .u64 216 (foldP z (pre.map (·.1)) (adder0 k)) ∧ Holds W (w.heap.size + 1) .u8 168 (List.replicate 16 0) ∧ Holds W w.heap.size .u8 23 k ∧ ab + 1 + 1 ≤ W.heap.size) ∧ Below w.heap.size w W)
    (OwnFrom.and (Own.from (fun s A B row hs hg hr => ⟨holds_keptP hs.1 hg hr, holds_keptP hs.2.1 hg hr, holds_keptP hs.2.2.1 hg hr, Nat.le_trans hs.2.2.2 hg.size⟩) _) (ownFrom_below (Nat.le_refl _) hBV.size))
    ⟨⟨hAV, hRV, hKV, by omega⟩, hBV⟩ ?round ?done
  case round =>
    rintro l r pre i W hl ⟨⟨hA, hR, hK, hW⟩, hB⟩ _ hlr
    have hbl := blkP_length z i.1
    have hfl := foldP_length z (pre.map (·.1)) (adder0 k) hA10
    have hsn : foldP z (pre.map (·.1) ++ [i.1]) (adder0 k) = takeL (foldP z (pre.map (·.1)) (adder0 k)) (blkP z i.1) := foldP_snoc _ _ _ _
    obtain ⟨BL, hBL⟩ : ∃ q, blkP z i.1 = q := ⟨_, rfl⟩
    rw [hBL] at hbl hsn ⊢
    obtain ⟨A, hAe⟩ : ∃ q, foldP z (pre.map (·.1)) (adder0 k) = q := ⟨_, rfl⟩
    rw [hAe] at hA hfl hsn
    have HSN : Veil (foldP z (pre.map (·.1) ++ [i.1]) (adder0 k) = takeL A BL) := ⟨hsn⟩
    clear hsn hBL hAe
    have hlW : l < W.heap.size := (Array.getElem?_eq_some_iff.1 hlr).1
    have hN := Holds.new W .u8 212 (List.replicate 17 0)
    have htk := fun (wx : World) (hx : Holds wx ab .u64 216 A) => ptake_any ab A BL wx hx hfl hbl
    dsimp only
    gi_wp2_with (refine wpListIn_stP rfl 212 _ _ rfl _ rfl (k := .u8) (l := BL) rfl hN (by rw [hbl]; exact size17) (by simp [hbl]) ?_)
    refine ⟨⟨by simp, fun q o hq ho => ?_⟩, ?_⟩
    · have hlt := (Array.getElem?_eq_some_iff.1 hq).1
      rw [setRow_other _ _ _ _ (by omega), Below.heap_alloc W _ q hlt]; exact hq
    have hl2 : ((W.alloc (.cells (row .u8 (List.replicate 17 0)) 212)).setRow W.heap.size (row .u8 BL)).heap[l]? = some (.loop r) := by
      rw [setRow_other _ _ _ _ (by omega), Below.heap_alloc W _ l hlW]; exact hlr
    have hA2 : Holds ((W.alloc (.cells (row .u8 (List.replicate 17 0)) 212)).setRow W.heap.size (row .u8 BL)) ab .u64 216 A := (hA.alloc _).setRowOther _ (by omega)
    have hR2 : Holds ((W.alloc (.cells (row .u8 (List.replicate 17 0)) 212)).setRow W.heap.size (row .u8 BL)) (w.heap.size + 1) .u8 168 (List.replicate 16 0) := (hR.alloc _).setRowOther _ (by omega)
    have hK2 : Holds ((W.alloc (.cells (row .u8 (List.replicate 17 0)) 212)).setRow W.heap.size (row .u8 BL)) w.heap.size .u8 23 k := (hK.alloc _).setRowOther _ (by omega)
    have hN2 := hN.setRow BL
    have hB2 : Below w.heap.size w ((W.alloc (.cells (row .u8 (List.replicate 17 0)) 212)).setRow W.heap.size (row .u8 BL)) := below_setRow (hB.alloc hB.size _) hB.size _
    have hgY := grownBy_putObj' ((W.alloc (.cells (row .u8 (List.replicate 17 0)) 212)).setRow W.heap.size (row .u8 BL)) l (.loop { r with state := .busy })
    have hcY : ∀ q, (some l : Option Nat) = some q → ∃ o : Obj, ((W.alloc (.cells (row .u8 (List.replicate 17 0)) 212)).setRow W.heap.size (row .u8 BL)).heap[q]? = some o ∧ o.isCells = false := fun q e => by cases e; exact ⟨_, hl2, rfl⟩
    have hAY := holds_keptP hA2 hgY hcY
    have hRY := holds_keptP hR2 hgY hcY
    have hKY := holds_keptP hK2 hgY hcY
    have hNY := holds_keptP hN2 hgY hcY
    have hBY : Below w.heap.size w (((W.alloc (.cells (row .u8 (List.replicate 17 0)) 212)).setRow W.heap.size (row .u8 BL)).putObj l (.loop { r with state := .busy })) := hB2.grown hgY (by have := hB.size; simp; omega) (fun q e => by cases e; have := hBV.size; omega)
    have hYW : ∀ q, q < W.heap.size → q ≠ l → (((W.alloc (.cells (row .u8 (List.replicate 17 0)) 212)).setRow W.heap.size (row .u8 BL)).putObj l (.loop { r with state := .busy })).heap[q]? = W.heap[q]? := fun q hq hne => by
      rw [World.putObj_heap_other (by omega), setRow_other _ _ _ _ (by omega), Below.heap_alloc W _ q hq]
    have hYs : (((W.alloc (.cells (row .u8 (List.replicate 17 0)) 212)).setRow W.heap.size (row .u8 BL)).putObj l (.loop { r with state := .busy })).heap.size = W.heap.size + 1 := by simp
    obtain ⟨Y, hY⟩ : ∃ Y, ((W.alloc (.cells (row .u8 (List.replicate 17 0)) 212)).setRow W.heap.size (row .u8 BL)).putObj l (.loop { r with state := .busy }) = Y := ⟨_, rfl⟩
    rw [hY] at hAY hRY hKY hNY hBY hYW hYs
    change Code.wpIn _ _ _ _ _ _ _
    rw [show ((W.alloc (.cells #[.int .u8 0, .int .u8 0, .int .u8 0, .int .u8 0, .int .u8 0, .int .u8 0, .int .u8 0, .int .u8 0, .int .u8 0, .int .u8 0, .int .u8 0, .int .u8 0, .int .u8 0, .int .u8 0, .int .u8 0, .int .u8 0, .int .u8 0] 212)).setRow W.heap.size (row .u8 BL)).putObj l (.loop { r with state := .busy }) = Y from hY]
    simp only [Act.put]
    clear hY hgY hcY hA2 hR2 hK2 hN2 hB2 hl2 hN
    gi_wp2_with (first
      | (refine wpListIn_ld rfl 212 _ rfl _ rfl hNY Tryz.underlying212 size17 hbl ?_)
      | (refine ⟨trivial, ?_⟩; gi_at_call 133; refine (CallsIn.inRound l (callsIn_wide.2 (htk _ hAY))).mono ?_; rintro e w4 ⟨⟨r4, rfl⟩, h4, g4⟩))
    have keep : ∀ {g' : Nat} {kk : IntKind} {t : TypeId} {L : List Int}, Holds Y g' kk t L → g' ≠ ab → Holds w4 g' kk t L := fun {g' kk t L} hh hne => by
      have hlt := hh.lt
      unfold Holds at hh ⊢
      rw [g4.block g' hlt (by simp [hne])]; exact hh
    have hs4 := g4.size
    have hbs := hBV.size
    refine ⟨keepsOthers_grown g4 hAY, fun o => ⟨?_, fun q hq => ?_, ?_⟩, ⟨by rw [HSN.out]; exact h4, keep hRY (by omega), keep hKY (by omega), by omega⟩, hBY.grown g4 (by omega) (fun q e => by cases e; omega)⟩
    · rw [World.putObj_heap_other (by omega), g4.block (ab + 1) (by omega) (by simp), hYW (ab + 1) (by omega) (by omega)]
    · rw [World.putObj_heap_other (by omega), g4.block q (by omega) (by simp; omega), hYW q (by omega) (by omega)]
    · simp; omega
  case done =>
    rintro D ys W hD rfl ⟨⟨hA, hR, hK, hW⟩, hB⟩ hKD
    have hmap : (List.finRange ((len + 15) / 16)).map (·.1) = List.range ((len + 15) / 16) := by apply List.ext_getElem <;> simp
    rw [hmap] at hA
    have hfl := foldP_length z (List.range ((len + 15) / 16)) (adder0 k) hA10
    have htg := fun (wx : World) (hx : Holds wx ab .u64 216 (foldP z (List.range ((len + 15) / 16)) (adder0 k))) => tag_any ab _ (k.drop 16) wx hx (by omega) hsl
    rw [← HP.out] at htg
    obtain ⟨A, hAe⟩ : ∃ q, foldP z (List.range ((len + 15) / 16)) (adder0 k) = q := ⟨_, rfl⟩
    rw [hAe] at hA htg
    obtain ⟨PL, hPL⟩ : ∃ q, polyL k z = q := ⟨_, rfl⟩
    rw [hPL] at htg hpl
    have HPL : Veil (polyL k z = PL) := ⟨hPL⟩
    have hrg : W.rangeAt w.heap.size 16 ((k.drop 16).map (Value.int .u8)) := by
      have := hK.rangeM 16 16
      rw [List.take_of_length_le (by omega)] at this
      exact this
    obtain ⟨SS, hSS⟩ : ∃ q, k.drop 16 = q := ⟨_, rfl⟩
    rw [hSS] at hrg hsl htg
    have iS : (Tryz.prog.info? 167).map (·.size) = some (SS.map (Value.int .u8)).length := by rw [List.length_map, hsl]; exact size16b
    have htg' : ∀ (wx : World), Holds wx ab .u64 216 A → Calls Tryz.prog 134 #[.pointer (some ⟨ab, 0, none⟩), .agg (SS.map (Value.int .u8)).toArray] wx fun e w' => e = .returned (.agg (row .u8 PL)) ∧ wx.grownBy w' (some ab) := htg
    have hDl : D < W.heap.size := (Array.getElem?_eq_some_iff.1 hKD).1
    clear hmap hAe hPL htg hfl hSS
    gi_wp2_with (first
      | (refine wpListIn_ldm rfl 167 _ rfl w.heap.size 16 rfl (SS.map (Value.int .u8)) _ hrg Tryz.underlying167 rfl iS ?_)
      | (refine ⟨trivial, ?_⟩; gi_at_call 134; refine (callsIn_wide.2 (htg' _ hA)).mono ?_; rintro e w5 ⟨rfl, g5⟩; have hR5 : Holds w5 (w.heap.size + 1) .u8 168 (List.replicate 16 0) := (by have hlt := hR.lt; unfold Holds at hR ⊢; rw [g5.block _ hlt (by simp; omega)]; exact hR))
      | (refine wpListIn_stP rfl 168 _ _ rfl _ rfl rfl hR5 (by rw [hpl]; exact sizeTag) (by simp [hpl]) ?_))
    have hbs := hBV.size
    have hK5 : (w5.setRow (w.heap.size + 1) (row .u8 PL)).heap[D]? = some (.deferred (some [])) := by
      rw [setRow_other _ _ _ _ (by omega), g5.block D hDl (by simp; omega)]; exact hKD
    have hB5 : Below w.heap.size w (w5.setRow (w.heap.size + 1) (row .u8 PL)) := below_setRow (hB.grown g5 (by omega) (fun q e => by cases e; omega)) (by omega) _
    refine ⟨by simp, .inl ⟨_, _, rfl, run_takeDeferred hK5, ?_⟩⟩
    have hF := holds_keptP (hR5.setRow PL) (grownBy_putObj' _ D (.deferred none)) (fun q e => by cases e; exact ⟨_, hK5, rfl⟩)
    exact ⟨_, results_holds (Tryz.results116) _ rfl hF Tryz.underlying168 sizeTag hpl, by rw [HPL.out], hB5.trans (belowK_b (w := w) (Nat.le_refl _) _ D _ _ (by omega) hK5 rfl rfl)⟩
theorem psum_any (k : List Int) (x : Option Addr) (len cap : Nat) (z : List Int) (w : World) (hk : k.length = 32) (hbz : Bytes w x len cap z) (hln : len ≤ 1000000) :
    Calls Tryz.prog 116 #[.agg (row .u8 k), .slice x len cap] w fun e w' => e = .returned (.agg (row .u8 (polyL k z))) ∧ Below w.heap.size w w' := callsIn_wide.1 (psum_in k x len cap z w hk hbz hln)
end Go.Proofs.YtlhajphjppjlgaaGreatDoor
