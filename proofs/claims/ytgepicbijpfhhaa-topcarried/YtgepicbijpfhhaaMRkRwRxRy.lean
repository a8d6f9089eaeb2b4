/- The readers of wire: a key. The readers of wire: a wrap. The readers of wire: wraps. The readers of wire: a body. -/
import Derived.Test.YtgepicbijpfhhaaMRe1Re2Re3
import Derived.Laws.Cover3
import Derived.Test.YtgepicbijpfhhaaWr5
import Derived.Laws.CopyRow
import Derived.Laws.MakeOwn
namespace Go.Proofs.Ytgepicbijpfhhaa
open Go.RowKit
set_option maxRecDepth 20000
set_option linter.unusedSimpArgs false

/-- Numbers as cells of bytes. -/
def byC (l : List Int) : List Value := l.map (Value.int .u8)
theorem byC_length (l : List Int) : (byC l).length = l.length := by simp [byC]
theorem byC_one (l : List Int) : ∀ v ∈ byC l, v.oneCell' = true := by
  intro v hv
  obtain ⟨x, _, rfl⟩ := List.mem_map.1 hv
  rfl
def keyZ : List Int := List.replicate 32 0
theorem bytes_range {w : World} {x : Option Addr} {n c : Nat} {z : List Int} (h : Bytes w x n c z) (h0 : 0 < n) : ∃ b off, x = some ⟨b, off, none⟩ ∧ w.rangeAt b off (byC z) := by
  rcases h.at_ with h1 | ⟨b, off, hx, hc⟩
  · omega
  · refine ⟨b, off, hx, fun j v hv => ?_⟩
    unfold byC at hv
    rw [List.getElem?_map] at hv
    cases hq : z[j]? with
    | none => simp [hq] at hv
    | some y =>
      have hj : j < z.length := (List.getElem?_eq_some_iff.1 hq).1
      rw [hc j (by rw [h.len_eq]; exact hj), hq]
      simpa [hq] using hv
theorem sizeKey32 : (Try.prog.info? 26).map (·.size) = some 32 := by kernel_rfl
set_option maxHeartbeats 4000000 in
theorem rkey_at (R base : Nat) (z : List Int) (o : Nat) (w : World) (hR : Rd w R base (z.drop o)) :
    Calls Try.prog 33 #[.pointer (some ⟨R, 0, none⟩)] w fun e w' =>
      (o + 32 ≤ z.length ∧ e = .returned (.agg (byC ((z.drop o).take 32)).toArray) ∧ Rd w' R base (z.drop (o + 32)) ∧ Took w w' R base) ∨ (z.length < o + 32 ∧ e = .panicked [wrongP] ∧ Took w w' R base) := by
  have hlt := hR.lt
  have hsz := hR.size
  have htk := fun wx (h : Rd wx R base (z.drop o)) => take_any R base (z.drop o) 32 wx h
  have HL : Veil ((z.drop o).length = z.length - o) := ⟨List.length_drop⟩
  have HD : Veil ((z.drop o).drop 32 = z.drop (o + 32)) := ⟨by rw [List.drop_drop]⟩
  have hG0 := CellsAt.new w 26 (byC keyZ)
  have hR0 := hR.alloc (.cells (byC keyZ).toArray 26)
  have hT0 : Took w (w.alloc (.cells (byC keyZ).toArray 26)) R base := Took.alloc hsz _
  have haa : ∀ (wx : World) (x : Option Addr), (Instr.arrayAt 26 (.slice x 32 32)).run Try.prog wx = .ok (.pointer x) wx := fun wx x => run_arrayAt wx 26 5 32 x 32 32 Try.underlying26 (Nat.le_refl _)
  have r1 : base ≤ w.heap.size := hsz
  have r2 : R ≠ w.heap.size := by omega
  obtain ⟨K, hK⟩ : ∃ q, (z.drop o).take 32 = q := ⟨_, rfl⟩
  have HKL : Veil (o + 32 ≤ z.length → K.length = 32) := ⟨fun h => by rw [← hK, List.length_take, List.length_drop]; omega⟩
  obtain ⟨zo, hzo⟩ : ∃ q, z.drop o = q := ⟨_, rfl⟩
  rw [hzo] at hR0 htk HL HD hK
  rw [hzo, hK]
  rw [hK] at htk
  have iZ : (byC keyZ).length = 32 := rfl
  clear hR hzo hK
  go_enter Try.func33, Try.ntmps33
  go_upto_region 1 with fail
  refine forget (p := fun y => Code.wp _ _ _ _ y) (fun W => Rd W R base zo ∧ Took w W R base ∧ CellsAt W w.heap.size 26 (byC keyZ)) ⟨hR0, hT0, hG0⟩ ?_
  clear hR0 hT0 hG0
  rintro W ⟨hR0, hT0, hG0⟩
  have h1W := htk W hR0
  clear htk
  by_cases k0 : o + 32 ≤ z.length
  rotate_left
  · have k1 : zo.length < 32 := by have := HL.out; omega
    go_wp2_with (go_at_call 48; refine h1W.mono ?_; rintro e wB (⟨hx, _⟩ | ⟨_, rfl, htB⟩); (exfalso; omega))
    exact bodyPost_gone (.inr ⟨by omega, rfl, hT0.trans htB⟩)
  have k1 : 32 ≤ zo.length := by have := HL.out; omega
  have hKL := HKL.out k0
  have iK : (Try.prog.info? 26).map (·.size) = some (byC K).length := by rw [byC_length, hKL]; exact sizeKey32
  have hlK : (byC keyZ).length = (byC K).length := by rw [byC_length, byC_length, hKL]; rfl
  have h1K := byC_one K
  have HB : Veil (∀ (w' : World) (x : Option Addr), Bytes w' x 32 32 K → ∃ b off, x = some ⟨b, off, none⟩ ∧ w'.rangeAt b off (byC K)) := ⟨fun w' x h => bytes_range h (by omega)⟩
  clear hKL iZ
  go_wp2_with (first
    | (go_at_call 48; refine h1W.mono ?_; rintro e w1 (⟨_, x, rfl, hy, hR1, ht1⟩ | ⟨hx, _⟩); rotate_left; (exfalso; omega); obtain ⟨b, off, rfl, hrg⟩ := HB.out _ _ (hy _ (Below.refl _ _)); have hH := hG0.took ht1 (by omega); clear hy)
    | (refine wpList_ldv rfl 26 _ rfl _ _ rfl (byC K) hrg Try.underlying26 rfl iK ?_)
    | (refine wpList_stv rfl 26 _ _ rfl _ rfl rfl hH iK hlK h1K ?_))
  refine bodyPost_ret (results_cell_row Try.results33 _ _ _ _ _ (0, 0) _ rfl (hH.setRow (byC K)) Try.underlying26 rfl (by rw [iK]; simp)) rfl ?_
  rw [HD.out] at hR1
  exact .inl ⟨k0, rfl, hR1.setRowO _ r1 r2, (hT0.trans ht1).setRowO _ (Nat.le_refl _) r1⟩
end Go.Proofs.Ytgepicbijpfhhaa

namespace Go.Proofs.Ytgepicbijpfhhaa
open Go.RowKit
set_option maxRecDepth 20000
set_option linter.unusedSimpArgs false

theorem wp_copyE {P : Program} {w : World} {o : Oper} {a : Act} {K : Act → World → Prop} {Q : Exit → Act → World → Prop} (d s : Operand) (dT sT : TypeId)
    (ho : o.op = .call { callee := .builtin .copy, args := #[d, s], argTypes := #[dT, sT] }) (elem : TypeId) (hu : P.underlying dT = some (.slice elem)) (hsz : (P.info? elem).map (·.size) = some 1)
    (g off dLen dCap : Nat) (ad : Addr) (sLen sCap : Nat) (hd : a.eval d = .slice (some ⟨g, off, none⟩) dLen dCap) (hs : a.eval s = .slice (some ad) sLen sCap)
    (cur : List Value) (t : TypeId) (hg : CellsAt w g t cur) (cs : List Value) (hn : cs.length = Nat.min sLen dLen)
    (hsrc : ∀ j v, cs[j]? = some v → w.cell? (ad.add j) = some v) (hfit : off + cs.length ≤ cur.length) (h1 : ∀ v ∈ cs, v.oneCell' = true)
    (h : K (a.put o.dst (goInt cs.length)) (w.setRow g (cur.take off ++ cs ++ cur.drop (off + cs.length)).toArray)) : o.wp P a w K Q := by
  have hrun := run_copy_row (P := P) w dT sT o.type elem g off dLen dCap ad sLen sCap cur.toArray t cs hu hsz hg hn hsrc (by simpa using hfit) h1
  rw [List.append_assoc] at h
  unfold Oper.wp
  simp [execOp, ho, resolve, invoke, builtin, hd, hs, hrun, Result.andThen]
  exact h
/-- What bytes say as a wrap. -/
def wpOf (z : List Int) (o : Nat) : Wp := ⟨at1 z o, at1 z (o + 1), at4 z (o + 2), (z.drop (o + 6)).take 48⟩
theorem wp_set0 (a b c : Int) (l : List Int) (v : Int) : ((⟨a, b, c, l⟩ : Wp).cells).set 0 (.int .u8 v) = (⟨v, b, c, l⟩ : Wp).cells := rfl
theorem wp_setDot (a b c : Int) (l : List Int) (b' c' : Int) : ((⟨a, b, c, l⟩ : Wp).cells).take 1 ++ dotC b' c' ++ ((⟨a, b, c, l⟩ : Wp).cells).drop (1 + (dotC b' c').length) = (⟨a, b', c', l⟩ : Wp).cells := rfl
theorem wp_setData (a b c : Int) (l m : List Int) (h : l.length = m.length) : ((⟨a, b, c, l⟩ : Wp).cells).take 3 ++ byC m ++ ((⟨a, b, c, l⟩ : Wp).cells).drop (3 + (byC m).length) = (⟨a, b, c, m⟩ : Wp).cells := by
  have e : ((⟨a, b, c, l⟩ : Wp).cells).drop (3 + (byC m).length) = [] := by
    apply List.drop_of_length_le
    simp [Wp.cells, dotC, byC_length, h]; omega
  rw [e, List.append_nil]; rfl
def dataZ : List Int := List.replicate 48 0
def wpZ : Wp := ⟨0, 0, 0, dataZ⟩
theorem zeroWp_eq : zeroWp = wpZ.cells := rfl
theorem wp_len (e : Wp) (h : e.data.length = 48) : e.cells.length = 51 := (wp_parts e h).1

set_option maxHeartbeats 8000000 in
theorem rwrap_at (R base : Nat) (z : List Int) (o : Nat) (w : World) (hR : Rd w R base (z.drop o)) (hz : ∀ v ∈ z, b8 v) :
    Calls Try.prog 49 #[.pointer (some ⟨R, 0, none⟩)] w fun e w' =>
      (o + 54 ≤ z.length ∧ e = .returned (.agg (wpOf z o).cells.toArray) ∧ Rd w' R base (z.drop (o + 54)) ∧ Took w w' R base) ∨ (z.length < o + 54 ∧ e = .panicked [wrongP] ∧ Took w w' R base) := by
  have hlt := hR.lt
  have hsz := hR.size
  have h1 := fun wx (h : Rd wx R base (z.drop o)) => rone_at R base z o wx h
  have h2 := fun wx (h : Rd wx R base (z.drop (o + 1))) => rdot_at R base z (o + 1) wx h hz
  have h3 := fun wx (h : Rd wx R base (z.drop (o + 6))) => take_any R base (z.drop (o + 6)) 48 wx h
  have e12 : o + 1 + 1 = o + 2 := rfl
  rw [e12] at h2
  have HWP : Veil (wpOf z o = ⟨at1 z o, at1 z (o + 1), at4 z (o + 2), (z.drop (o + 6)).take 48⟩) := ⟨rfl⟩
  have HL : Veil ((z.drop (o + 6)).length = z.length - (o + 6)) := ⟨List.length_drop⟩
  have HD : Veil ((z.drop (o + 6)).drop 48 = z.drop (o + 54)) := ⟨by rw [List.drop_drop]⟩
  obtain ⟨WP, hWP⟩ : ∃ q, wpOf z o = q := ⟨_, rfl⟩
  rw [hWP] at HWP ⊢
  obtain ⟨A, hA⟩ : ∃ q, at1 z o = q := ⟨_, rfl⟩
  obtain ⟨B, hB⟩ : ∃ q, at1 z (o + 1) = q := ⟨_, rfl⟩
  obtain ⟨C, hC⟩ : ∃ q, at4 z (o + 2) = q := ⟨_, rfl⟩
  obtain ⟨D, hD⟩ : ∃ q, (z.drop (o + 6)).take 48 = q := ⟨_, rfl⟩
  have HDL : Veil (o + 54 ≤ z.length → D.length = 48) := ⟨fun h => by rw [← hD, List.length_take, List.length_drop]; omega⟩
  rw [hA] at h1
  rw [hB, hC] at h2
  rw [hD] at h3
  rw [hA, hB, hC, hD] at HWP
  have hG0 := (CellsAt.new w 62 wpZ.cells).alloc (.cells wpZ.cells.toArray 62)
  have hG1 : CellsAt ((w.alloc (.cells wpZ.cells.toArray 62)).alloc (.cells wpZ.cells.toArray 62)) (w.heap.size + 1) 62 wpZ.cells := by
    have := CellsAt.new (w.alloc (.cells wpZ.cells.toArray 62)) 62 wpZ.cells
    rw [World.size_alloc] at this
    exact this
  have hR0 := (hR.alloc (.cells wpZ.cells.toArray 62)).alloc (.cells wpZ.cells.toArray 62)
  have hT0 : Took w ((w.alloc (.cells wpZ.cells.toArray 62)).alloc (.cells wpZ.cells.toArray 62)) R base := (Took.alloc hsz _).trans (Took.alloc (by simp; omega) _)
  have r1 : base ≤ w.heap.size + 1 := by omega
  have r2 : R ≠ w.heap.size + 1 := by omega
  have r3 : R ≠ w.heap.size := by omega
  clear hR hz hWP hA hB hC hD e12
  go_enter Try.func49, Try.ntmps49
  go_upto_region 2 with fail
  refine forget (p := fun y => Code.wp _ _ _ _ y) (fun W => Rd W R base (z.drop o) ∧ Took w W R base ∧ CellsAt W w.heap.size 62 wpZ.cells ∧ CellsAt W (w.heap.size + 1) 62 wpZ.cells) ⟨hR0, hT0, hG0, hG1⟩ ?_
  clear hR0 hT0 hG0 hG1
  rintro W ⟨hR0, hT0, hG0, hG1⟩
  have h1W := h1 W hR0
  clear h1
  by_cases k0 : o + 1 ≤ z.length
  rotate_left
  · go_upto_region 3 with (go_at_call 30; refine h1W.mono ?_; rintro e wB (⟨hx, _⟩ | ⟨_, rfl, htB⟩); (exfalso; omega))
    exact bodyPost_gone (.inr ⟨by omega, rfl, hT0.trans htB⟩)
  go_upto_region 3 with (go_at_call 30; refine h1W.mono ?_; rintro e w1 (⟨_, rfl, hR1, ht1⟩ | ⟨hx, _⟩); rotate_left; (exfalso; omega); have hH1 := hG1.took ht1 (by omega); have cj := hH1.cell 0; have fj := hH1.frozen2 0)
  have hH0 := hG0.took ht1 (by omega)
  have hH2 := hH1.set2 0 (.int .u8 A)
  refine forget (p := fun y => Code.wp _ _ _ _ y) (fun W => Rd W R base (z.drop (o + 1)) ∧ Took w W R base ∧ CellsAt W w.heap.size 62 wpZ.cells ∧ CellsAt W (w.heap.size + 1) 62 (⟨A, 0, 0, dataZ⟩ : Wp).cells) ⟨hR1.setCellO _ _ r1 r2, (hT0.trans ht1).setCellO _ _ (by show w.heap.size ≤ w.heap.size + 1; omega) r1, hH0.setOther2 _ _ (by show w.heap.size ≠ w.heap.size + 1; omega), hH2⟩ ?_
  clear h1W hR0 hT0 hG0 hG1 hH1 hH0 hH2 hR1 ht1 cj fj W
  rintro W ⟨hR0, hT0, hG0, hG1⟩
  have h1W := h2 W hR0
  clear h2
  by_cases k1 : o + 1 + 5 ≤ z.length
  rotate_left
  · go_upto_region 4 with (go_at_call 32; refine h1W.mono ?_; rintro e wB (⟨hx, _⟩ | ⟨_, rfl, htB⟩); (exfalso; omega))
    exact bodyPost_gone (.inr ⟨by omega, rfl, hT0.trans htB⟩)
  go_upto_region 4 with (first
    | (go_at_call 32; refine h1W.mono ?_; rintro e w1 (⟨_, rfl, hR1, ht1⟩ | ⟨hx, _⟩); rotate_left; (exfalso; omega); have hH1 := hG1.took ht1 (by omega))
    | (refine wpList_stm rfl 24 _ _ rfl _ 1 rfl rfl hH1 sizeDot (by show 1 + 2 ≤ 51; omega) (dot_one B C) ?_))
  have hH0 := hG0.took ht1 (by omega)
  have hH2 := hH1.setRow ((⟨A, 0, 0, dataZ⟩ : Wp).cells.take 1 ++ dotC B C ++ (⟨A, 0, 0, dataZ⟩ : Wp).cells.drop (1 + (dotC B C).length))
  have e6 : o + 1 + 5 = o + 6 := by omega
  rw [e6] at hR1
  refine forget (p := fun y => Code.wp _ _ _ _ y) (fun W => Rd W R base (z.drop (o + 6)) ∧ Took w W R base ∧ CellsAt W w.heap.size 62 wpZ.cells ∧ CellsAt W (w.heap.size + 1) 62 (⟨A, B, C, dataZ⟩ : Wp).cells) ⟨hR1.setRowO _ r1 r2, (hT0.trans ht1).setRowO _ (by omega) r1, hH0.setRowOther2 _ (by omega), hH2⟩ ?_
  clear h1W hR0 hT0 hG0 hG1 hH1 hH0 hH2 hR1 ht1 W e6
  rintro W ⟨hR0, hT0, hG0, hG1⟩
  refine wp_region_gate (fun _ => True) 6 (by kernel_rfl) ?_
  obtain ⟨D0, hD0⟩ : ∃ q, W.drew = q := ⟨_, rfl⟩
  have hb0 : Below W.heap.size W D0 := by rw [← hD0]; exact (Below.refl _ _).drew
  rw [hD0]
  have hT1 := hT0.trans (Took.afar hR0.size hb0)
  have hR1 := hR0.afar hb0
  have hH0 := hG0.took (Took.afar (R := R) hR0.size hb0) (by omega)
  have hH1 := hG1.took (Took.afar (R := R) hR0.size hb0) (by omega)
  clear hD0 hb0 hR0 hT0 hG0 hG1
  have hS : True := trivial
  have h3W := h3 D0 hR1
  clear h3
  refine wpAnyG_any (i := 0) (v := ?_) rfl (by kernel_rfl) (by kernel_rfl) (by kernel_rfl) (fun _ _ _ h => h) (by kernel_rfl) (fun _ => hS) (by kernel_rfl) ?_ ?_
  rotate_left
  · intro _; go_simp; try with_reducible rfl
  simp only [Act.put, List.setIfInBounds_toArray, List.set_cons_zero, List.set_cons_succ]
  refine wpAnyG_any (i := 1) (v := ?_) rfl (by kernel_rfl) (by kernel_rfl) (by kernel_rfl) (fun _ _ _ h => h) (by kernel_rfl) (fun _ => hS) (by kernel_rfl) ?_ ?_
  rotate_left
  · intro _; go_simp; try with_reducible rfl
  simp only [Act.put, List.setIfInBounds_toArray, List.set_cons_zero, List.set_cons_succ]
  refine wpAnyG_any (i := 2) (v := ?_) rfl (by kernel_rfl) (by kernel_rfl) (by kernel_rfl) (fun _ _ _ h => h) (by kernel_rfl) (fun _ => hS) (by kernel_rfl) ?_ ?_
  rotate_left
  · intro _; go_simp; try with_reducible rfl
  simp only [Act.put, List.setIfInBounds_toArray, List.set_cons_zero, List.set_cons_succ]
  refine wpAnyG_any (i := 3) (v := ?_) rfl (by kernel_rfl) (by kernel_rfl) (by kernel_rfl) (fun _ _ _ h => h) (by kernel_rfl) (fun _ => hS) (by kernel_rfl) ?_ ?_
  rotate_left
  · intro _; go_simp; try with_reducible rfl
  simp only [Act.put, List.setIfInBounds_toArray, List.set_cons_zero, List.set_cons_succ]
  refine wpAnyG_any (i := 4) (v := ?_) rfl (by kernel_rfl) (by kernel_rfl) (by kernel_rfl) (fun _ _ _ h => h) (by kernel_rfl) (fun _ => hS) (by kernel_rfl) ?_ ?_
  rotate_left
  · intro _; go_simp; try with_reducible rfl
  simp only [Act.put, List.setIfInBounds_toArray, List.set_cons_zero, List.set_cons_succ]
  refine wpAnyG_one (i := 5) rfl (by kernel_rfl) (by kernel_rfl) (fun K hK => ?_)
  by_cases k2 : o + 54 ≤ z.length
  rotate_left
  · have k3 : (z.drop (o + 6)).length < 48 := by rw [HL.out]; omega
    go_wp2_with (go_at_call 48; refine h3W.mono ?_; rintro e wB (⟨hx, _⟩ | ⟨_, rfl, htB⟩); (exfalso; omega))
    exact bodyPost_gone (.inr ⟨by omega, rfl, hT1.trans htB⟩)
  have k3 : 48 ≤ (z.drop (o + 6)).length := by rw [HL.out]; omega
  have hDL := HDL.out k2
  go_wp2_with (go_at_call 48; refine h3W.mono ?_; rintro e w1 (⟨_, x, rfl, hy, hR2, ht2⟩ | ⟨hx, _⟩); rotate_left; (exfalso; omega))
  obtain ⟨b, off, rfl, hrg⟩ := bytes_range (hy _ (Below.refl _ _)) (by omega)
  have hJ1 := hH1.took ht2 (by omega)
  have hJ0 := hH0.took ht2 (by omega)
  clear hy h3W hH1 hH0
  refine hK.out _ _ (fun _ => hS) ?_
  clear hK K
  refine wpAnyG_one (i := 6) rfl (by kernel_rfl) (by kernel_rfl) (fun K hK => ?_)
  refine wp_copyE _ _ _ _ rfl 5 Try.underlying28 (by kernel_rfl) (w.heap.size + 1) 3 48 48 ⟨b, off, none⟩ 48 48 rfl rfl (⟨A, B, C, dataZ⟩ : Wp).cells 62 hJ1 (byC D) (by rw [byC_length, hDL]; rfl) (fun j v hv => by rw [Addr.add_mid]; exact hrg j v hv) (by have := wp_len (⟨A, B, C, dataZ⟩ : Wp) rfl; rw [byC_length, hDL]; omega) (byC_one D) ?_
  refine hK.out _ _ (fun h => absurd (show true = false from h) (by decide)) ?_
  clear hK K
  refine wpAnyG_done (by kernel_rfl) ?_ _
  simp only [Act.put, List.getElem_toArray, List.getElem_cons_succ, List.getElem_cons_zero, List.setIfInBounds_toArray, List.set_cons_zero, List.set_cons_succ]
  go_upto_region 5 with fail
  have hJ2 := hJ1.setRow ((⟨A, B, C, dataZ⟩ : Wp).cells.take 3 ++ byC D ++ (⟨A, B, C, dataZ⟩ : Wp).cells.drop (3 + (byC D).length))
  have HSD := wp_setData A B C dataZ D (by rw [hDL]; rfl)
  rw [HD.out] at hR2
  have HWC : Veil (WP.data.length = 48) := ⟨by rw [HWP.out]; exact hDL⟩
  refine forget (p := fun y => Code.wp _ _ _ _ y) (fun W => Rd W R base (z.drop (o + 54)) ∧ Took w W R base ∧ CellsAt W w.heap.size 62 wpZ.cells ∧ CellsAt W (w.heap.size + 1) 62 WP.cells) ⟨hR2.setRowO _ r1 r2, (hT1.trans ht2).setRowO _ (by omega) r1, hJ0.setRowOther2 _ (by omega), by rw [HWP.out, ← HSD]; exact hJ2⟩ ?_
  clear hJ0 hJ1 hJ2 hR2 ht2 hT1 hR1 HSD hrg hDL W
  rintro W ⟨hR0, hT0, hG0, hG1⟩
  have rE := hG1.whole2
  have iW : (Try.prog.info? 62).map (·.size) = some WP.cells.length := by rw [wp_len WP HWC.out]; exact sizeWrap
  have hlW : wpZ.cells.length = WP.cells.length := by rw [wp_len WP HWC.out]; rfl
  obtain ⟨_, _, _, _, h1Wp⟩ := wp_parts WP HWC.out
  go_wp2_with (first
    | (refine wpList_ldv rfl 62 _ rfl _ _ rfl WP.cells rE Try.underlying62 rfl iW ?_)
    | (refine wpList_stv rfl 62 _ _ rfl _ rfl rfl hG0 iW hlW h1Wp ?_))
  refine bodyPost_ret (results_cell_row (Try.results49) _ _ _ _ _ (0, 0) _ rfl (hG0.setRow WP.cells) Try.underlying62 rfl (by rw [iW]; simp)) rfl ?_
  exact .inl ⟨k2, rfl, hR0.setRowO _ hsz r3, hT0.setRowO _ (Nat.le_refl _) hsz⟩
end Go.Proofs.Ytgepicbijpfhhaa

namespace Go.Proofs.Ytgepicbijpfhhaa
open Go.RowKit
set_option maxRecDepth 20000
set_option linter.unusedSimpArgs false

/-- Wraps as cells. -/
def wpsC (l : List Wp) : List Value := (l.map Wp.cells).flatten
def wpsOk (l : List Wp) : Prop := ∀ e ∈ l, e.data.length = 48
theorem wpsC_app (a b : List Wp) : wpsC (a ++ b) = wpsC a ++ wpsC b := by simp [wpsC]
theorem wpsC_cons (e : Wp) (b : List Wp) : wpsC (e :: b) = e.cells ++ wpsC b := by simp [wpsC]
theorem wpsC_len (l : List Wp) (h : wpsOk l) : (wpsC l).length = l.length * 51 := by
  induction l with
  | nil => rfl
  | cons e l ih =>
    have h1 := ih (fun x hx => h x (by simp [hx]))
    unfold wpsC at h1 ⊢
    rw [List.map_cons, List.flatten_cons, List.length_append, h1, wp_len e (h e (by simp)), List.length_cons]; omega
theorem wpsC_at (l : List Wp) (h : wpsOk l) (j : Nat) (hj : j < l.length) : ((wpsC l).drop (j * 51)).take 51 = (l[j]).cells := by
  have e : l = l.take j ++ l[j] :: l.drop (j + 1) := by rw [List.getElem_cons_drop, List.take_append_drop]
  have hl : (wpsC (l.take j)).length = j * 51 := by rw [wpsC_len _ (fun x hx => h x (List.mem_of_mem_take hx)), List.length_take, Nat.min_eq_left (by omega)]
  have e2 : wpsC l = wpsC (l.take j) ++ ((l[j]).cells ++ wpsC (l.drop (j + 1))) := by
    conv => lhs; rw [e]
    rw [wpsC_app, wpsC_cons]
  rw [e2, List.drop_left' hl]
  exact List.take_left' (wp_len _ (h _ (List.getElem_mem hj)))
theorem wpsC_one (l : List Wp) : ∀ v ∈ wpsC l, v.oneCell' = true := by
  intro v hv
  unfold wpsC at hv
  obtain ⟨c, hc, hvc⟩ := List.mem_flatten.1 hv
  obtain ⟨e, _, rfl⟩ := List.mem_map.1 hc
  unfold Wp.cells dotC at hvc
  simp only [List.mem_append, List.mem_cons, List.not_mem_nil, or_false, List.mem_map] at hvc
  rcases hvc with (rfl | (rfl | rfl)) | ⟨_, _, rfl⟩ <;> rfl
theorem wraps_of_cells {w : World} {G : Nat} {t : TypeId} {ws : List Wp} {n : Nat} (h : CellsAt w G t (wpsC ws)) (hok : wpsOk ws) (hn : n = ws.length) (hm : n ≤ 1000000) : WrapsAt w (some ⟨G, 0, none⟩) n n ws := by
  refine ⟨hn, Nat.le_refl _, by omega, (fun h => by cases h), hok, .inr ⟨G, 0, rfl, fun j hj => ?_⟩⟩
  have := h.range (0 + j * 51) 51
  rw [Nat.zero_add, wpsC_at ws hok j hj] at this
  rw [Nat.zero_add]; exact this
/-- What bytes say as so many wraps. -/
def wpsN (z : List Int) (o n : Nat) : List Wp := (List.range n).map fun i => wpOf z (o + 54 * i)
theorem wpsN_succ (z : List Int) (o n : Nat) : wpsN z o (n + 1) = wpsN z o n ++ [wpOf z (o + 54 * n)] := by unfold wpsN; rw [List.range_succ, List.map_append]; rfl
theorem wpsN_len (z : List Int) (o n : Nat) : (wpsN z o n).length = n := by simp [wpsN]
theorem wpsN_ok (z : List Int) (o n : Nat) (h : o + 54 * n ≤ z.length) : wpsOk (wpsN z o n) := fun e he => by
  obtain ⟨i, hi, rfl⟩ := List.mem_map.1 he
  have := List.mem_range.1 hi
  unfold wpOf
  simp only [List.length_take, List.length_drop]
  omega
theorem wrapZero_info : (Try.prog.info? 62).map (fun i => (i.zero, i.size, i.bytes)) = some (some (.agg zeroWp.toArray), 51, 60) := by kernel_rfl
theorem run_makeWraps (n : Nat) (hn : n ≤ 64) : ∃ M : List Value, M.length = n * 51 ∧ ∀ wx : World, (Instr.makeSlice 27 (.int .i64 (n : Int)) (.int .i64 (n : Int))).run Try.prog wx = .ok (.slice (some ⟨wx.heap.size, 0, none⟩) n n) (wx.alloc (.cells M.toArray 62)) := by
  have h := wrapZero_info
  cases hq : Try.prog.info? 62 with
  | none => simp [hq] at h
  | some i =>
    simp only [hq, Option.map_some, Option.some.injEq, Prod.mk.injEq] at h
    obtain ⟨h1, h2, h3⟩ := h
    refine ⟨(madeCells zeroWp.toArray (n * 51)).toList, by rw [Array.length_toList, size_madeCells], fun wx => ?_⟩
    have := run_make (P := Try.prog) wx 27 62 i _ Try.underlying27 hq h1 .i64 .i64 (n : Int) (n : Int) (by omega) (by omega) (by rw [h3]; omega) (by omega)
    rw [this, h2]
    simp [Value.cells]
def wpsCond (z : List Int) (o : Nat) : Prop := o + 1 ≤ z.length ∧ at1 z o ≤ 64 ∧ o + 1 + 54 * (at1 z o).toNat ≤ z.length

set_option maxHeartbeats 8000000 in
theorem rwraps_at (R base : Nat) (z : List Int) (o : Nat) (w : World) (hR : Rd w R base (z.drop o)) (hz : ∀ v ∈ z, b8 v) :
    Calls Try.prog 34 #[.pointer (some ⟨R, 0, none⟩)] w fun e w' =>
      (wpsCond z o ∧ ∃ G, e = .returned (.slice (some ⟨G, 0, none⟩) (at1 z o).toNat (at1 z o).toNat) ∧ w.heap.size ≤ G ∧ CellsAt w' G 62 (wpsC (wpsN z (o + 1) (at1 z o).toNat)) ∧ Rd w' R base (z.drop (o + 1 + 54 * (at1 z o).toNat)) ∧ Took w w' R base) ∨ (¬ wpsCond z o ∧ e = .panicked [wrongP] ∧ Took w w' R base) := by
  have hlt := hR.lt
  have hsz := hR.size
  have h8 := b8_get hz o
  have h1 := rone_at R base z o w hR
  have hwp := fun (j : Nat) wx (h : Rd wx R base (z.drop (o + 1 + 54 * j))) => rwrap_at R base z (o + 1 + 54 * j) wx h hz
  have HC : Veil (wpsCond z o ↔ (o + 1 ≤ z.length ∧ at1 z o ≤ 64 ∧ o + 1 + 54 * (at1 z o).toNat ≤ z.length)) := ⟨Iff.rfl⟩
  obtain ⟨CO, hCO⟩ : ∃ q, wpsCond z o = q := ⟨_, rfl⟩
  rw [hCO] at HC ⊢
  obtain ⟨n, hn⟩ : ∃ n : Nat, at1 z o = (n : Int) := ⟨(at1 z o).toNat, by unfold at1; omega⟩
  rw [hn] at h1 HC ⊢
  rw [Int.toNat_natCast] at HC ⊢
  have hn255 : n ≤ 255 := by
    have : at1 z o ≤ 255 := h8.2
    omega
  have HS : Veil (∀ j, wpsN z (o + 1) (j + 1) = wpsN z (o + 1) j ++ [wpOf z (o + 1 + 54 * j)]) := ⟨wpsN_succ z (o + 1)⟩
  have HLN : Veil (∀ j, (wpsN z (o + 1) j).length = j) := ⟨wpsN_len z (o + 1)⟩
  have HOK : Veil (∀ j, o + 1 + 54 * j ≤ z.length → wpsOk (wpsN z (o + 1) j)) := ⟨wpsN_ok z (o + 1)⟩
  have hwr : IntKind.i64.wrap (n : Int) = (n : Int) := by rw [IntKind.wrap_i64]; omega
  clear hz h8 hn hCO
  go_enter Try.func34, Try.ntmps34
  by_cases k0 : o + 1 ≤ z.length
  rotate_left
  · go_upto_region 2 with (go_at_call 30; refine h1.mono ?_; rintro e wB (⟨hx, _⟩ | ⟨_, rfl, htB⟩); (exfalso; omega))
    exact bodyPost_gone (.inr ⟨fun h => k0 (HC.out.1 h).1, rfl, htB⟩)
  go_upto_region 2 with (go_at_call 30; refine h1.mono ?_; rintro e w1 (⟨_, rfl, hR1, ht1⟩ | ⟨hx, _⟩); rotate_left; (exfalso; omega))
  by_cases k1 : n ≤ 64
  rotate_left
  · have hnb : ¬ (n : Int) ≤ 64 := by omega
    have hnd := need_bad w1
    go_upto_region 3 with (go_at_call 29; refine hnd.mono ?_; rintro e w2 ⟨rfl, rfl⟩)
    exact bodyPost_gone (.inr ⟨fun h => by have := (HC.out.1 h).2.1; omega, rfl, ht1⟩)
  have hnb : (n : Int) ≤ 64 := by omega
  have hnd := need_ok w1
  go_upto_region 3 with (go_at_call 29; refine hnd.mono ?_; rintro e w2 ⟨⟨r2, rfl⟩, rfl⟩)
  obtain ⟨M, hM, hmk⟩ := run_makeWraps n k1
  have HM : Veil (M.length = n * 51) := ⟨hM⟩
  have hG0 := CellsAt.new w1 62 M
  have hR2 := hR1.alloc (.cells M.toArray 62)
  have ht2 := ht1.trans (Took.alloc hR1.size (.cells M.toArray 62))
  have hge : w.heap.size ≤ w1.heap.size := ht1.more
  clear hM h1 hnd
  go_upto_region 4 with fail
  refine forget (p := fun y => Code.wp _ _ _ _ y) (fun W => Rd W R base (z.drop (o + 1 + 54 * 0)) ∧ Took w W R base ∧ CellsAt W w1.heap.size 62 M) ⟨hR2, ht2, hG0⟩ ?_
  obtain ⟨G, hG⟩ : ∃ q, w1.heap.size = q := ⟨_, rfl⟩
  have hbG : base ≤ G := by rw [← hG]; exact hR1.size
  rw [hG] at hge ⊢
  clear hG0 hR2 ht2 hR1 ht1 hmk hG
  have hRG : R ≠ G := by omega
  rintro W ⟨hR0, hT0, hG0⟩
  go_wp2_with fail
  go_loopw [5, 16] (fun _ q wr => ∃ j : Nat, j ≤ n ∧ q = .int .i64 j ∧ o + 1 + 54 * j ≤ z.length ∧ Rd wr R base (z.drop (o + 1 + 54 * j)) ∧ Took w wr R base ∧ CellsAt wr G 62 (wpsC (wpsN z (o + 1) j) ++ M.drop (j * 51))) (fun _ q _ => n - (intOf q).toNat)
  case atStart => exact ⟨0, by omega, rfl, by omega, hR0, hT0, by simpa [wpsN, wpsC] using hG0⟩
  case round =>
    clear hR0 hT0 hG0 W
    obtain ⟨j, hj, rfl, hzl, hR0, hT0, hG0⟩ := hrel
    by_cases hltn : j < n
    · have h1W := hwp j wr hR0
      have hok := HOK.out j hzl
      have hlj := wpsC_len _ hok
      rw [HLN.out j] at hlj
      have HE : Veil (o + 1 + 54 * j + 54 ≤ z.length → (wpsC (wpsN z (o + 1) j) ++ M.drop (j * 51)).take (j * 51) ++ (wpOf z (o + 1 + 54 * j)).cells ++ (wpsC (wpsN z (o + 1) j) ++ M.drop (j * 51)).drop (j * 51 + (wpOf z (o + 1 + 54 * j)).cells.length) = wpsC (wpsN z (o + 1) (j + 1)) ++ M.drop ((j + 1) * 51)) := ⟨fun hq => by
        have hl1 : (wpOf z (o + 1 + 54 * j)).cells.length = 51 := wp_len _ (by unfold wpOf; simp only [List.length_take, List.length_drop]; omega)
        rw [HS.out j, wpsC_app, List.take_left' hlj, hl1, ← List.drop_drop, List.drop_left' hlj, List.drop_drop, show j * 51 + 51 = (j + 1) * 51 by omega]
        simp [wpsC]⟩
      have HLC : Veil ((wpsC (wpsN z (o + 1) j) ++ M.drop (j * 51)).length = n * 51) := ⟨by rw [List.length_append, hlj, List.length_drop, HM.out]; omega⟩
      have HWL : Veil (o + 1 + 54 * j + 54 ≤ z.length → (wpOf z (o + 1 + 54 * j)).data.length = 48) := ⟨fun hq => by unfold wpOf; simp only [List.length_take, List.length_drop]; omega⟩
      obtain ⟨C0, hC0⟩ : ∃ q, wpsC (wpsN z (o + 1) j) ++ M.drop (j * 51) = q := ⟨_, rfl⟩
      obtain ⟨C1, hC1⟩ : ∃ q, wpsC (wpsN z (o + 1) (j + 1)) ++ M.drop ((j + 1) * 51) = q := ⟨_, rfl⟩
      obtain ⟨E, hE⟩ : ∃ q, wpOf z (o + 1 + 54 * j) = q := ⟨_, rfl⟩
      have HC1 : Veil (wpsC (wpsN z (o + 1) (j + 1)) ++ M.drop ((j + 1) * 51) = C1) := ⟨hC1⟩
      rw [hC0] at hG0 HE HLC
      rw [hE] at h1W HE HWL
      rw [hC1] at HE
      have hj0 : (0 : Int) ≤ (j : Int) := by omega
      have hjn : (j : Int) < (n : Int) := by omega
      clear hok hlj hC0 hC1 hE
      by_cases k2 : o + 1 + 54 * j + 54 ≤ z.length
      rotate_left
      · go_wp2_with (go_at_call 49; refine h1W.mono ?_; rintro e wB (⟨hx, _⟩ | ⟨_, rfl, htB⟩); (exfalso; omega))
        exact bodyPost_gone (.inr ⟨fun h => by have := (HC.out.1 h).2.2; omega, rfl, hT0.trans htB⟩)
      have hEd := HWL.out k2
      have iW : (Try.prog.info? 62).map (·.size) = some E.cells.length := by rw [wp_len E hEd]; exact sizeWrap
      have hfit : j * 51 + E.cells.length ≤ C0.length := by rw [wp_len E hEd, HLC.out]; omega
      obtain ⟨_, _, _, _, h1E⟩ := wp_parts E hEd
      have HE1 := Veil.mk (HE.out k2)
      have HEl := Veil.mk (wp_len E hEd)
      clear hEd HE
      go_wp2_with (first
        | (go_at_call 49; refine h1W.mono ?_; rintro e w1 (⟨_, rfl, hR1, ht1⟩ | ⟨hx, _⟩); rotate_left; (exfalso; omega); have hH1 := hG0.took ht1 (by omega))
        | (refine wpList_stm rfl 62 _ _ rfl _ (j * 51) rfl rfl hH1 iW hfit h1E ?_))
      have hH2 := hH1.setRow (C0.take (j * 51) ++ E.cells ++ C0.drop (j * 51 + E.cells.length))
      have e54 : o + 1 + 54 * j + 54 = o + 1 + 54 * (j + 1) := by omega
      rw [e54] at hR1
      clear e54
      go_roundw
      case rel => exact ⟨j + 1, by omega, by go_num, by omega, hR1.setRowO _ hbG hRG, (hT0.trans ht1).setRowO _ hge hbG, by rw [HC1.out, ← HE1.out]; rw [HEl.out] at hH2 ⊢; simpa only [List.append_assoc] using hH2⟩
      case measure => simp [intOf]; omega
    · obtain rfl : j = n := by omega
      rw [List.drop_of_length_le (by rw [HM.out]; omega), List.append_nil] at hG0
      have hnn : ¬ (j : Int) < (j : Int) := by omega
      clear hwp
      go_wp2
      go_ret
      exact .inl ⟨HC.out.2 ⟨k0, hnb, hzl⟩, G, rfl, hge, hG0, hR0, hT0⟩
end Go.Proofs.Ytgepicbijpfhhaa

namespace Go.Proofs.Ytgepicbijpfhhaa
open Go.RowKit
set_option maxRecDepth 20000
set_option linter.unusedSimpArgs false

def told2 (z : List Int) (o : Nat) : Nat := (val2 (at1 z o) (at1 z (o + 1))).toNat
def bodyCond (z : List Int) (o : Nat) : Prop := o + 2 ≤ z.length ∧ told2 z o ≤ 4112 ∧ o + 2 + told2 z o ≤ z.length
set_option maxHeartbeats 4000000 in
theorem rbody_at (R base : Nat) (z : List Int) (o : Nat) (w : World) (hR : Rd w R base (z.drop o)) (hz : ∀ v ∈ z, b8 v) :
    Calls Try.prog 35 #[.pointer (some ⟨R, 0, none⟩)] w fun e w' =>
      (bodyCond z o ∧ ∃ v, e = .returned v ∧ OwnB w' w.heap.size v ((z.drop (o + 2)).take (told2 z o)) ∧ Rd w' R base (z.drop (o + 2 + told2 z o)) ∧ Took w w' R base) ∨ (¬ bodyCond z o ∧ e = .panicked [wrongP] ∧ Took w w' R base) := by
  have hlt := hR.lt
  have ha := b8_get hz o
  have hb := b8_get hz (o + 1)
  have h2 := rtwo_any R base (z.drop o) w hR (fun v hv => hz v (List.mem_of_mem_drop hv))
  rw [drop_at, drop_at, List.drop_drop] at h2
  have hv : val2 (z[o + 0]?.getD 0) (z[o + 1]?.getD 0) = ((told2 z o : Nat) : Int) := by
    unfold told2 val2 at1
    rw [Nat.add_zero]
    have e1 : 0 ≤ z[o]?.getD 0 := ha.1
    have e2 : 0 ≤ z[o + 1]?.getD 0 := hb.1
    omega
  rw [hv] at h2
  have HC : Veil (bodyCond z o ↔ (o + 2 ≤ z.length ∧ told2 z o ≤ 4112 ∧ o + 2 + told2 z o ≤ z.length)) := ⟨Iff.rfl⟩
  obtain ⟨CO, hCO⟩ : ∃ q, bodyCond z o = q := ⟨_, rfl⟩
  rw [hCO] at HC ⊢
  have ht := fun (n : Nat) wx (h : Rd wx R base (z.drop (o + 2))) => take_any R base (z.drop (o + 2)) n wx h
  obtain ⟨n, hn⟩ : ∃ q, told2 z o = q := ⟨_, rfl⟩
  rw [hn] at h2 HC ⊢
  have HL0 : Veil ((z.drop o).length = z.length - o) := ⟨List.length_drop⟩
  have HL : Veil ((z.drop (o + 2)).length = z.length - (o + 2)) := ⟨List.length_drop⟩
  have HD : Veil ((z.drop (o + 2)).drop n = z.drop (o + 2 + n)) := ⟨by rw [List.drop_drop]⟩
  have hcl := fun (x : Option Addr) wx (h : Bytes wx x n n ((z.drop (o + 2)).take n)) (hl : n ≤ 1000000) => clone_any x n n ((z.drop (o + 2)).take n) wx h hl
  obtain ⟨B, hB⟩ : ∃ q, (z.drop (o + 2)).take n = q := ⟨_, rfl⟩
  have htn := fun wx h => ht n wx h
  rw [hB] at hcl htn ⊢
  clear ht hn hCO hv ha hb hz hB hR
  go_enter Try.func35, Try.ntmps35
  by_cases k0 : o + 2 ≤ z.length
  rotate_left
  · have k0' : (z.drop o).length < 2 := by rw [HL0.out]; omega
    go_upto_region 2 with (go_at_call 50; refine h2.mono ?_; rintro e wB (⟨hx, _⟩ | ⟨_, rfl, htB⟩); (exfalso; omega))
    exact bodyPost_gone (.inr ⟨fun h => k0 (HC.out.1 h).1, rfl, htB⟩)
  have k0' : 2 ≤ (z.drop o).length := by rw [HL0.out]; omega
  go_upto_region 2 with (go_at_call 50; refine h2.mono ?_; rintro e w1 (⟨_, rfl, hR1, ht1⟩ | ⟨hx, _⟩); rotate_left; (exfalso; omega))
  clear h2 k0'
  by_cases k1 : n ≤ 4112
  rotate_left
  · have hnb : ¬ (n : Int) ≤ 4112 := by omega
    have hnd := need_bad w1
    go_upto_region 3 with (go_at_call 29; refine hnd.mono ?_; rintro e w2 ⟨rfl, rfl⟩)
    exact bodyPost_gone (.inr ⟨fun h => k1 (HC.out.1 h).2.1, rfl, ht1⟩)
  have hnb : (n : Int) ≤ 4112 := by omega
  have hnd := need_ok w1
  go_upto_region 3 with (go_at_call 29; refine hnd.mono ?_; rintro e w2 ⟨⟨r2, rfl⟩, rfl⟩)
  have h3 := htn w1 hR1
  clear hnd htn hnb
  by_cases k2 : o + 2 + n ≤ z.length
  rotate_left
  · have k2' : (z.drop (o + 2)).length < n := by rw [HL.out]; omega
    go_wp2_with (go_at_call 48; refine h3.mono ?_; rintro e wB (⟨hx, _⟩ | ⟨_, rfl, htB⟩); (exfalso; omega))
    exact bodyPost_gone (.inr ⟨fun h => k2 (HC.out.1 h).2.2, rfl, ht1.trans htB⟩)
  have k2' : n ≤ (z.drop (o + 2)).length := by rw [HL.out]; omega
  go_wp2_with (first
    | (go_at_call 48; refine h3.mono ?_; rintro e w2 (⟨_, x, rfl, hy, hR2, ht2⟩ | ⟨hx, _⟩); rotate_left; (exfalso; omega); have hc2 := hcl x w2 (hy _ (Below.refl _ _)) (by omega))
    | (go_at_call 51; refine hc2.mono ?_; rintro e w3 ⟨v3, rfl, ho3, hb3⟩))
  have ht12 := ht1.trans ht2
  have hR3 := hR2.afar hb3
  have ht3 := ht12.trans (Took.afar hR2.size hb3)
  rw [HD.out] at hR3
  go_ret
  exact .inl ⟨HC.out.2 ⟨k0, k1, k2⟩, _, rfl, ho3.lessG ht12.more, hR3, ht3⟩
end Go.Proofs.Ytgepicbijpfhhaa
