/- The statement TopCarried, walked. (Written by mkcar.py.) -/
import Derived.Test.YtgepicbijpfhhaaAn6
import Derived.Test.YtgepicbijpfhhaaWireBoth
import Derived.Test.YtgepicbijpfhhaaRgf
import Derived.Test.YtgepicbijpfhhaaMFfFin
import Derived.Test.YtgepicbijpfhhaaMSf0Sf1
import Derived.Test.YtgepicbijpfhhaaEvl
import Derived.Test.YtgepicbijpfhhaaFewT
namespace Go.Proofs.Ytgepicbijpfhhaa
open Go.RowKit
set_option maxRecDepth 20000
set_option linter.unusedSimpArgs false

theorem CellsAt.setRowO4 {w : World} {g g' : Nat} {t : TypeId} {cs : List Value} (h : CellsAt w g t cs) (cs' : Array Value) (hne : g ≠ g') : CellsAt (w.setRow g' cs') g t cs := by
  unfold CellsAt at h ⊢; rw [setRow_other w g' g cs' hne]; exact h
def nonZ : List Int := List.replicate 12 0
theorem sizeKeyC (k : List Int) (hk : k.length = 32) : (Try.prog.info? 26).map (·.size) = some (k.map (Value.int .u8)).length := by rw [List.length_map, hk]; kernel_rfl
theorem sizeNonceC : (Try.prog.info? 33).map (·.size) = some (nonZ.map (Value.int .u8)).length := by kernel_rfl
theorem openL_with (F : Fr) (wv bv : Value) (ws : List Wp) : openL { F with wraps := wv, body := bv } ws = openL F ws := rfl
theorem run_cutW10 (w : World) (b o len cap : Nat) (hh : 10 ≤ cap) : (Instr.slice 27 (.slice (some ⟨b, o, none⟩) len cap) none (some (.int .i64 10)) none).run Try.prog w = .ok (.slice (some ⟨b, o, none⟩) 10 cap) w := by
  rw [run_slice_h w 27 (some ⟨b, o, none⟩) len cap elemW .i64 10 (by omega) (by omega), sizeWp]
  simp [sliced, Result.andThen, Addr.add_mid']

set_option maxHeartbeats 8000000 in
/-- What follows once there are not too many wraps. -/
theorem carried_parts (F : Fr) (k z : List Int) (xw : Option Addr) (lw cw : Nat) (ws : List Wp) (hp : F.prev.length = 32) (hm : F.mac.length = 32) (hk : k.length = 32) (hF : F.In) (hi : ∀ e ∈ ws, e.In) (hok : ∀ e ∈ ws, e.data.length = 48) (hlw : lw = ws.length) (hl10 : lw ≤ 10) (hz : ∀ v ∈ z, b8 v) (hzl : z.length ≤ 1000) (hfw : F.wraps = .slice xw lw cw) :
    ∃ (OB SL : List Int), OB.length = 45 + 54 * lw ∧ SL.length = z.length + 16 ∧
      (∀ wx, WrapsAt wx xw lw cw ws → Calls Try.prog 6 #[.agg F.cells.toArray] wx fun e w' => ∃ x n c, e = .returned (.slice x n c) ∧ Bytes w' x n c OB ∧ Below wx.heap.size wx w') ∧
      (∀ wx x n c y m d, Bytes wx x n c OB → Bytes wx y m d z → Calls Try.prog 5 #[.agg (List.map (Value.int .u8) k).toArray, .agg (List.map (Value.int .u8) nonZ).toArray, .slice x n c, .slice y m d] wx fun e w' => ∃ v, e = .returned v ∧ OwnB w' wx.heap.size v SL ∧ Below wx.heap.size wx w') ∧
      (∀ wx xb mb cb, WrapsAt wx xw lw cw ws → Bytes wx xb mb cb SL → Calls Try.prog 7 #[.agg ({ F with body := .slice xb mb cb } : Fr).cells.toArray] wx fun e w' => ∃ x n c, e = .returned (.tuple #[.slice x n c, .int .i64 0]) ∧ Veil (n = 45 + 54 * lw + 2 + SL.length + 32) ∧ Below wx.heap.size wx w' ∧
        ∀ wy, Below w'.heap.size w' wy → Calls Try.prog 8 #[.slice x n c] wy fun e w2 => ∃ (X : Fr) (yb : Option Addr) (nb db : Nat), e = .returned (.tuple #[.agg X.cells.toArray, .int .i64 0]) ∧ X.cells.length = 70 ∧ (∀ v ∈ X.cells, v.oneCell' = true) ∧ X.cells[37]? = some (.slice yb nb db) ∧ Below wy.heap.size wy w2 ∧
          (∀ wv, Below w2.heap.size w2 wv → Bytes wv yb nb db SL) ∧
          (∀ wv, Below w2.heap.size w2 wv → Calls Try.prog 6 #[.agg X.cells.toArray] wv fun e w' => ∃ x n c, e = .returned (.slice x n c) ∧ Bytes w' x n c OB ∧ Below wv.heap.size wv w') ∧
          (∀ wv, Below w2.heap.size w2 wv → WrapsAt wv xw lw cw ws → Bytes wv xb mb cb SL → Calls Try.prog 10 #[.agg ({ F with body := .slice xb mb cb } : Fr).cells.toArray, .agg X.cells.toArray] wv fun e w' => e = .returned (.bool true) ∧ Below wv.heap.size wv w')) ∧
      (∀ wx x n c y m d, Bytes wx x n c OB → Bytes wx y m d SL → Calls Try.prog 9 #[.agg (List.map (Value.int .u8) k).toArray, .agg (List.map (Value.int .u8) nonZ).toArray, .slice x n c, .slice y m d] wx fun e w' => ∃ g, e = .returned (.tuple #[.slice (some ⟨g, 0, none⟩) z.length z.length, .int .i64 0]) ∧ wx.heap.size ≤ g ∧ Holds w' g .u8 5 z ∧ Below wx.heap.size wx w') := by
  have hOl : (openL F ws).length = 45 + 54 * lw := by rw [openL_length F ws hp hok, hlw]
  have hOin : ∀ v ∈ openL F ws, b8 v := fun v hv => by
    have := frameL_in F ws [] hF hi (by simp) (by omega) v (by unfold frameL; simp only [List.mem_append]; exact .inl (.inl (.inl hv)))
    exact this
  have hSl := sealL_length k nonZ (openL F ws) z
  have hSin : ∀ v ∈ sealL k nonZ (openL F ws) z, b8 v := sealL_in k nonZ (openL F ws) z hOin hz
  refine ⟨openL F ws, sealL k nonZ (openL F ws) z, hOl, hSl, fun wx hw => ?_, fun wx x n c y m d hx hy => ?_, fun wx xb mb cb hw hb => ?_, fun wx x n c y m d hx hy => ?_⟩
  · have := Open_both F xw lw cw ws wx hp hm hfw hw
    unfold opB at this
    rw [if_neg (by omega)] at this
    exact this
  · exact seal_any k nonZ x n c (openL F ws) y m d z wx hk rfl hx hy (by rw [hx.len_eq, hOl]; omega) (by rw [hy.len_eq]; omega)
  · have hmb := hb.len_eq
    have := Frame_both { F with body := .slice xb mb cb } xw lw cw ws xb mb cb (sealL k nonZ (openL F ws) z) wx hp hm hfw hw rfl hb
    unfold frE frB at this
    rw [if_neg (by omega), if_neg (by omega)] at this
    have inF2 := fr_with_in hF F.wraps (.slice xb mb cb)
    obtain ⟨hall, hN, hW, hBo, hFr⟩ := frame_back { F with body := .slice xb mb cb } ws (sealL k nonZ (openL F ws) z) hp hm inF2 hi hok (by omega) (by omega)
    have hin := frameL_in { F with body := .slice xb mb cb } ws (sealL k nonZ (openL F ws) z) inF2 hi hSin (by omega)
    have hfl : (frameL { F with body := .slice xb mb cb } ws (sealL k nonZ (openL F ws) z)).length = 45 + 54 * ws.length + 2 + (sealL k nonZ (openL F ws) z).length + 32 := by
      unfold frameL
      rw [List.length_append, List.length_append, List.length_append, openL_length { F with body := .slice xb mb cb } ws hp hok]
      have e2 : (be2 ((sealL k nonZ (openL F ws) z).length : Int)).length = 2 := rfl
      have e3 : ({ F with body := .slice xb mb cb } : Fr).mac.length = 32 := hm
      omega
    refine this.mono fun e w' h => ?_
    obtain ⟨x, n, c, h1, h2, h3⟩ := h
    refine ⟨x, n, c, h1, ⟨by rw [h2.len_eq, hfl, hlw]⟩, h3, fun wy hy => ?_⟩
    refine (ReadFrame_any x n c _ wy (h2.below hy) hin).mono fun e w2 h => ?_
    rcases h with ⟨_, G, y2, m2, d2, g1, g2, g3, g4⟩ | ⟨h0, _⟩
    rotate_left
    · exact absurd hall h0
    rw [hFr, hN] at g1
    rw [hW] at g2
    rw [hBo] at g3
    refine ⟨_, y2, m2, d2, g1, fr_len _ hp hm, fr_one _ (some ⟨G, 0, none⟩) y2 _ _ m2 d2 rfl rfl, (fr_parts { F with wraps := .slice (some ⟨G, 0, none⟩) ws.length ws.length, body := .slice y2 m2 d2 } hp hm).2.2.2.2.2.2.1, g4, fun wv hv => g3.bytes.2.below hv, fun wv hv => ?_, fun wv hv hw2 hb2 => ?_⟩
    · have hwr := (wraps_of_cells g2 hok rfl (by omega)).below hv
      have := Open_both { F with wraps := .slice (some ⟨G, 0, none⟩) ws.length ws.length, body := .slice y2 m2 d2 } (some ⟨G, 0, none⟩) ws.length ws.length ws wv hp hm rfl hwr
      unfold opB at this
      rw [if_neg (by omega)] at this
      exact this
    · have hwr := (wraps_of_cells g2 hok rfl (by omega)).below hv
      have hby := g3.bytes.2.below hv
      have := SameFrame_any { F with body := .slice xb mb cb } xw lw cw ws xb mb cb (sealL k nonZ (openL F ws) z) { F with wraps := .slice (some ⟨G, 0, none⟩) ws.length ws.length, body := .slice y2 m2 d2 } (some ⟨G, 0, none⟩) ws.length ws.length ws y2 m2 d2 (sealL k nonZ (openL F ws) z) wv hp hm hfw hw2 rfl hb2 hp hm rfl hwr rfl hby
      rw [show sameB { F with body := .slice xb mb cb } ws (sealL k nonZ (openL F ws) z) { F with wraps := .slice (some ⟨G, 0, none⟩) ws.length ws.length, body := .slice y2 m2 d2 } ws (sealL k nonZ (openL F ws) z) = true from sameB_refl F ws (sealL k nonZ (openL F ws) z)] at this
      exact this
  · exact back_any k nonZ x n c (openL F ws) y m d z wx hk rfl hx hy (by rw [hx.len_eq, hOl]; omega) (by omega) hOin hz

set_option maxHeartbeats 8000000 in
theorem carried_walk (F : Fr) (xw : Option Addr) (lw cw : Nat) (ws : List Wp) (xb : Option Addr) (lb cb : Nat) (body : List Int) (k : List Int) (x : Option Addr) (n c : Nat) (z : List Int) (w : World) (hF : FrIn w F xw lw cw ws xb lb cb body) (hk : k.length = 32) (hb : Bytes w x n c z) (hz : ∀ v ∈ z, b8 v) :
    Calls Try.prog 3 #[.agg F.cells.toArray, .agg (row .u8 k), .slice x n c] w fun e w' => e = .returned (.bool true) ∧ Below w.heap.size w w' := by
  obtain ⟨hp, hm, hfw, hfb, hws, hbo, inF, inW, inB⟩ := hF
  obtain ⟨_, _, _, _, _, q36, q37, _⟩ := fr_parts F hp hm
  rw [hfw] at q36
  have hws1 := hws.few 10
  have hfe := fun wx (hb2 : Below w.heap.size w wx) => fewT_any x n c 1000 z wx (hb.below hb2) (by omega) (by omega)
  have hz1 : Bytes w x (min n 1000) c (z.take 1000) := hb.few 1000
  have hz1i : ∀ v ∈ z.take 1000, b8 v := fun v hv => hz v (List.mem_of_mem_take hv)
  obtain ⟨OB, SL, hOl, hSl, hop, hsl, hfm, hao⟩ := carried_parts { F with wraps := .slice xw (min lw 10) cw } k (z.take 1000) xw (min lw 10) cw (ws.take 10) hp hm hk ⟨inF.author, inF.number, inF.ea, inF.es, inF.prev, inF.mac⟩ (fun e he => inW e (List.mem_of_mem_take he)) hws1.ok hws1.len_eq (by omega) hz1i (by rw [List.length_take]; omega) rfl
  have hzl := hz1.len_eq
  have hF1l : ({ F with wraps := .slice xw (min lw 10) cw } : Fr).cells.length = 70 := fr_len _ hp hm
  have HF2 : Veil (∀ xs ns cs, ({ F with wraps := .slice xw (min lw 10) cw } : Fr).cells.set 37 (.slice xs ns cs) = ({ F with wraps := .slice xw (min lw 10) cw, body := .slice xs ns cs } : Fr).cells) := ⟨fun xs ns cs => fr_setB _ _ hp⟩
  have HF2l : Veil (∀ xs ns cs, ({ F with wraps := .slice xw (min lw 10) cw, body := .slice xs ns cs } : Fr).cells.length = 70) := ⟨fun xs ns cs => fr_len _ hp hm⟩
  have HF236 : Veil (∀ xs ns cs, ({ F with wraps := .slice xw (min lw 10) cw, body := .slice xs ns cs } : Fr).cells[36]? = some (.slice xw (min lw 10) cw) ∧ ({ F with wraps := .slice xw (min lw 10) cw, body := .slice xs ns cs } : Fr).cells[37]? = some (.slice xs ns cs)) := ⟨fun xs ns cs => by
    have := fr_parts ({ F with wraps := .slice xw (min lw 10) cw, body := .slice xs ns cs } : Fr) hp hm
    exact ⟨this.2.2.2.2.2.1, this.2.2.2.2.2.2.1⟩⟩
  have HF137 : Veil (({ F with wraps := .slice xw (min lw 10) cw } : Fr).cells[37]? = some (.slice xb lb cb)) := ⟨by rw [(fr_parts ({ F with wraps := .slice xw (min lw 10) cw } : Fr) hp hm).2.2.2.2.2.2.1]; show some F.body = _; rw [hfb]⟩
  have HSET : Veil (F.cells.set 36 (.slice xw (min lw 10) cw) = ({ F with wraps := .slice xw (min lw 10) cw } : Fr).cells) := ⟨fr_setW F _ hp⟩
  have HSAME : Veil (lw ≤ 10 → F.cells = ({ F with wraps := .slice xw (min lw 10) cw } : Fr).cells) := ⟨fun h => by
    rw [Nat.min_eq_left h, ← hfw]⟩
  have HWS : Veil (∀ wx, Below w.heap.size w wx → WrapsAt wx xw (min lw 10) cw (ws.take 10)) := ⟨fun wx h => hws1.below h⟩
  have HZB : Veil (∀ wx, Below w.heap.size w wx → Bytes wx x (min n 1000) c (z.take 1000)) := ⟨fun wx h => hz1.below h⟩
  obtain ⟨Z, hzv, hz1', hZ⟩ := zeroFrL
  have HZL : Veil (Z.length = 70) := ⟨by rw [hZ, fr_len frZ rfl rfl]⟩
  obtain ⟨zs, hzs⟩ : ∃ q, z.take 1000 = q := ⟨_, rfl⟩
  rw [hzs] at hsl hao HZB hzl hSl
  obtain ⟨S, hS0⟩ : ∃ q, strOfNums zs = q := ⟨_, rfl⟩
  have HC : Veil (∀ wx (y : Option Addr) (m d : Nat), Bytes wx y m d zs → (convert 28 9 (.slice y m d)).run Try.prog wx = .ok (.string S) wx) := ⟨fun wx y m d h => by rw [← hS0]; exact conv_bytes h⟩
  have hcz := hb.le
  have hct := hb.top
  have hlwc := hws.le
  have hlwt := hws.top
  have hxw0 : 10 < lw → ∃ b o, xw = some ⟨b, o, none⟩ := fun h => by
    rcases hws.at_ with h0 | ⟨b, o, h1, _⟩
    · omega
    · exact ⟨b, o, h1⟩
  obtain ⟨nm, hnm⟩ : ∃ q, min n 1000 = q := ⟨_, rfl⟩
  rw [hnm] at hfe HZB hzl
  have hnm1 : nm ≤ 1000 := by omega
  have hSl2 : SL.length = nm + 16 := by rw [hSl, hzl]
  have HZN : Veil (nm = zs.length) := ⟨hzl⟩
  clear hzl
  obtain ⟨F1, hF1⟩ : ∃ q, ({ F with wraps := .slice xw (min lw 10) cw } : Fr).cells = q := ⟨_, rfl⟩
  rw [hF1] at hop hF1l HF2 HF137 HSET HSAME
  obtain ⟨FF, hFF⟩ : ∃ q : Option Addr → Nat → Nat → List Value, (fun xs ns cs => ({ F with wraps := .slice xw (min lw 10) cw, body := .slice xs ns cs } : Fr).cells) = q := ⟨_, rfl⟩
  have hFFe : ∀ xs ns cs, ({ F with wraps := .slice xw (min lw 10) cw, body := .slice xs ns cs } : Fr).cells = FF xs ns cs := fun xs ns cs => by rw [← hFF]
  simp only [hFFe] at hfm HF2 HF2l HF236
  obtain ⟨l1, hl1⟩ : ∃ q, min lw 10 = q := ⟨_, rfl⟩
  have hl10 : l1 ≤ 10 := by omega
  have HLW : Veil (l1 = min lw 10) := ⟨hl1.symm⟩
  have hl1c : l1 ≤ cw := by omega
  rw [hl1] at hop hfm hOl HF236 HSET HWS
  have uF := Try.underlying30
  have uK := Try.underlying26
  have uN := Try.underlying33
  have iK := sizeKeyC k hk
  have iN := sizeNonceC
  have iF1 : (Try.prog.info? 30).map (·.size) = some F1.length := by rw [hF1l]; exact sizeFrame
  have hA0 : CellsAt ((w.alloc (.cells F.cells.toArray 30)).alloc (.cells (row .u8 k) 26)) w.heap.size 30 F.cells := (CellsAt.new w 30 F.cells).alloc _
  have hK0 : CellsAt ((w.alloc (.cells F.cells.toArray 30)).alloc (.cells (row .u8 k) 26)) (w.heap.size + 1) 26 (k.map (Value.int .u8)) := by
    have := CellsAt.new (w.alloc (.cells F.cells.toArray 30)) 26 (k.map (Value.int .u8))
    rw [World.size_alloc] at this
    exact this
  have hB0 : Below w.heap.size w ((w.alloc (.cells F.cells.toArray 30)).alloc (.cells (row .u8 k) 26)) := ((Below.refl _ _).alloc (Nat.le_refl _) _).alloc (by simp) _
  have H36 : Veil (F.cells[36]? = some (.slice xw lw cw)) := ⟨q36⟩
  clear hp hm hfw hfb hws hbo inF inW inB q36 q37 hws1 hz1 hz1i hb hz hzs hS0 hnm hF1 hFF hFFe hl1 hk hZ hSl
  go_enter Try.func3, Try.ntmps3
  go_upto_region 1 with fail
  refine forget (p := fun y => Code.wp _ _ _ _ y) (fun W => Below w.heap.size w W ∧ CellsAt W w.heap.size 30 F.cells ∧ CellsAt W (w.heap.size + 1) 26 (k.map (Value.int .u8))) ⟨hB0, hA0, hK0⟩ ?_
  clear hB0 hA0 hK0
  rintro W ⟨hB0, hA0, hK0⟩
  obtain ⟨KB, hKB⟩ : ∃ q, w.heap.size + 1 = q := ⟨_, rfl⟩
  have hneK : KB ≠ w.heap.size := by omega
  rw [hKB] at hK0 ⊢
  clear hKB
  have c36 := hA0.cell 36
  rw [H36.out] at c36
  by_cases hbig : 10 < lw
  · obtain ⟨b0, o0, rfl⟩ := hxw0 hbig
    have hgt : (10 : Int) < (lw : Int) := by omega
    have hcut := fun wx => run_cutW10 wx b0 o0 lw cw (by omega)
    have f36 := hA0.frozen 36
    have HL : Veil (l1 = 10) := ⟨by have := HLW.out; omega⟩
    go_upto_region 3 with fail
    have hA1 := hA0.set 36 (.slice (some ⟨b0, o0, none⟩) 10 cw)
    have hS1 := HSET.out
    rw [HL.out] at hS1
    rw [hS1] at hA1
    refine forget (p := fun y => Code.wp _ _ _ _ y) (fun W => Below w.heap.size w W ∧ CellsAt W w.heap.size 30 F1 ∧ CellsAt W KB 26 (k.map (Value.int .u8))) ⟨hB0.setCell (Nat.le_refl _) _, hA1, hK0.setOther _ _ hneK⟩ ?_
    clear hB0 hA0 hK0 hA1 hcut f36 c36 hgt hbig hS1 HL W
    rintro W ⟨hB0, hA0, hK0⟩
    go_upto_region 4 with (go_at_call 4; refine (hfe _ hB0).mono ?_; rintro e w1 ⟨rfl, rfl⟩)
    have hN0 := CellsAt.new W 33 (nonZ.map (Value.int .u8))
    go_upto_region 5 with fail
    refine forget (p := fun y => Code.wp _ _ _ _ y) (fun U => Below w.heap.size w U ∧ CellsAt U w.heap.size 30 F1 ∧ CellsAt U KB 26 (k.map (Value.int .u8)) ∧ CellsAt U W.heap.size 33 (nonZ.map (Value.int .u8))) ⟨hB0.alloc hB0.size _, hA0.alloc _, hK0.alloc _, hN0⟩ ?_
    have hltA := hA0.lt
    have hltK := hK0.lt
    obtain ⟨NB, hNB⟩ : ∃ q, W.heap.size = q := ⟨_, rfl⟩
    have hneN : NB ≠ w.heap.size := by omega
    rw [hNB]
    clear hB0 hA0 hK0 hN0 hNB hltA hltK hfe W
    rintro W ⟨hB0, hA0, hK0, hN0⟩
    refine wp_region_gate (fun w' => w'.rangeAt KB 0 (k.map (Value.int .u8)) ∧ w'.rangeAt NB 0 (nonZ.map (Value.int .u8)) ∧ w'.rangeAt w.heap.size 0 F1) 7 (by kernel_rfl) ?_
    obtain ⟨D0, hD0⟩ : ∃ q, W.drew = q := ⟨_, rfl⟩
    have hb0 : Below W.heap.size W D0 := by rw [← hD0]; exact (Below.refl _ _).drew
    rw [hD0]
    have hB1 := hB0.trans (hb0.mono hB0.size)
    have hA1 := hA0.afar hb0
    have hK1 := hK0.afar hb0
    have hN1 := hN0.afar hb0
    clear hD0 hb0 hB0 hA0 hK0 hN0
    have hS : D0.rangeAt KB 0 (k.map (Value.int .u8)) ∧ D0.rangeAt NB 0 (nonZ.map (Value.int .u8)) ∧ D0.rangeAt w.heap.size 0 F1 := ⟨hK1.whole, hN1.whole, hA1.whole⟩
    refine wpAnyG_load (i := 0) (dst := some 24) (ty := 26) (x := .tmp 4) (b := KB) (o := (0)) (cs := (k.map (Value.int .u8))) (by kernel_rfl) (by kernel_rfl) (by kernel_rfl) (by kernel_rfl) (by kernel_rfl) (fun _ _ _ h => h) (by kernel_rfl) (by kernel_rfl) (by kernel_rfl) hS (by kernel_rfl) (fun _ h => h.1) uK rfl iK ?_
    simp only [Act.put, List.setIfInBounds_toArray, List.set_cons_zero, List.set_cons_succ]
    refine wpAnyG_load (i := 1) (dst := some 25) (ty := 33) (x := .tmp 7) (b := NB) (o := (0)) (cs := (nonZ.map (Value.int .u8))) (by kernel_rfl) (by kernel_rfl) (by kernel_rfl) (by kernel_rfl) (by kernel_rfl) (fun _ _ _ h => h) (by kernel_rfl) (by kernel_rfl) (by kernel_rfl) hS (by kernel_rfl) (fun _ h => h.2.1) uN rfl iN ?_
    simp only [Act.put, List.setIfInBounds_toArray, List.set_cons_zero, List.set_cons_succ]
    refine wpAnyG_load (i := 2) (dst := some 26) (ty := 30) (x := .tmp 3) (b := w.heap.size) (o := (0)) (cs := (F1)) (by kernel_rfl) (by kernel_rfl) (by kernel_rfl) (by kernel_rfl) (by kernel_rfl) (fun _ _ _ h => h) (by kernel_rfl) (by kernel_rfl) (by kernel_rfl) hS (by kernel_rfl) (fun _ h => h.2.2) uF rfl iF1 ?_
    simp only [Act.put, List.setIfInBounds_toArray, List.set_cons_zero, List.set_cons_succ]
    refine wpAnyG_any (i := 4) (v := ?_) rfl (by kernel_rfl) (by kernel_rfl) (by kernel_rfl) (fun _ _ _ h => h) (by kernel_rfl) (fun _ => hS) (by kernel_rfl) ?_ ?_
    rotate_left
    · intro _; go_simp; try with_reducible rfl
    simp only [Act.put, List.setIfInBounds_toArray, List.set_cons_zero, List.set_cons_succ]
    have hop1 := hop D0 (HWS.out _ hB1)
    refine wpAnyG_one (i := 3) rfl (by kernel_rfl) (by kernel_rfl) (fun K hK => ?_)
    go_wp2_with (go_at_call 6; refine hop1.mono ?_; rintro e w2 ⟨x2, n2, c2, rfl, hy2, hb2⟩)
    have hB2 := hB1.trans (hb2.mono hB1.size)
    have hA2 := hA1.afar hb2
    have hK2 := hK1.afar hb2
    have hN2 := hN1.afar hb2
    replace hS := And.intro hK2.whole (And.intro hN2.whole hA2.whole)
    clear hB1 hA1 hK1 hN1 hop1 hop
    have hs2 := hsl w2 x2 n2 c2 x nm c hy2 (HZB.out _ hB2)
    refine hK.out _ _ (fun _ => hS) ?_
    clear hK K
    refine wpAnyG_one (i := 5) rfl (by kernel_rfl) (by kernel_rfl) (fun K hK => ?_)
    go_wp2_with (go_at_call 5; refine hs2.mono ?_; rintro e w3 ⟨v3, rfl, ho3, hb3⟩)
    obtain ⟨xs, ns, cs, rfl, hns⟩ := ho3.isSlice
    rw [hSl2] at hns
    have HNS : Veil (ns = nm + 16) := ⟨hns⟩
    have hB3 := hB2.trans (hb3.mono hB2.size)
    have hA3 := hA2.afar hb3
    have hK3 := hK2.afar hb3
    have hN3 := hN2.afar hb3
    have hy3 := ho3.bytes.2
    replace hS := And.intro hK3.whole (And.intro hN3.whole hA3.whole)
    have hgeO := hb3.size
    clear hB2 hA2 hK2 hN2 hs2 hsl hy2 hns
    have c37 := hA3.cell 37
    rw [HF137.out] at c37
    have f37 := hA3.frozen 37
    refine hK.out _ _ (fun _ => hS) ?_
    clear hK K
    refine wpAnyG_any (i := 6) (v := ?_) rfl (by kernel_rfl) (by kernel_rfl) (by kernel_rfl) (fun _ _ _ h => h) (by kernel_rfl) (fun _ => hS) (by kernel_rfl) ?_ ?_
    rotate_left
    · intro _; go_simp; try with_reducible rfl
    simp only [Act.put, List.setIfInBounds_toArray, List.set_cons_zero, List.set_cons_succ]
    refine wpAnyG_one (i := 7) rfl (by kernel_rfl) (by kernel_rfl) (fun K hK => ?_)
    go_simp
    refine hK.out _ _ (fun h => absurd (show true = false from h) (by decide)) ?_
    clear hK K
    refine wpAnyG_done (by kernel_rfl) ?_ _
    have hA4 := hA3.set 37 (.slice xs ns cs)
    rw [HF2.out] at hA4
    have hy4 : ∀ wx, Below (w3.setCell ⟨w.heap.size, 37, none⟩ (.slice xs ns cs)).heap.size (w3.setCell ⟨w.heap.size, 37, none⟩ (.slice xs ns cs)) wx → Bytes wx xs ns cs SL := fun wx h => (OwnB.keepF ho3 hA3 (by decide) (fun g hg => heap_setCell_other w3 ⟨w.heap.size, 37, none⟩ g _ hg)).bytes.2.below h
    try simp only [Act.put, List.getElem_toArray, List.getElem_cons_succ, List.getElem_cons_zero, List.setIfInBounds_toArray, List.set_cons_zero, List.set_cons_succ]
    go_upto_region 6 with fail
    refine forget (p := fun y => Code.wp _ _ _ _ y) (fun U => Below w.heap.size w U ∧ CellsAt U w.heap.size 30 (FF xs ns cs) ∧ CellsAt U KB 26 (k.map (Value.int .u8)) ∧ CellsAt U NB 33 (nonZ.map (Value.int .u8)) ∧ ∀ wx, Below U.heap.size U wx → Bytes wx xs ns cs SL) ⟨hB3.setCell (Nat.le_refl _) _, hA4, hK3.setOther _ _ hneK, hN3.setOther _ _ hneN, hy4⟩ ?_
    clear hB3 hA3 hK3 hN3 hA4 hy3 hy4 ho3 hb3 c37 f37 hS hgeO iF1 W
    rintro W ⟨hB0, hA0, hK0, hN0, hyS⟩
    have rF := hA0.whole
    have HFL := HF2l.out xs ns cs
    have iF2 : (Try.prog.info? 30).map (·.size) = some (FF xs ns cs).length := by rw [HFL]; exact sizeFrame
    have hf0 := hfm W xs ns cs (HWS.out _ hB0) (hyS _ (Below.refl _ _))
    obtain ⟨F2, hF2⟩ : ∃ q, FF xs ns cs = q := ⟨_, rfl⟩
    have H23 := HF236.out xs ns cs
    rw [hF2] at H23 hf0 iF2 rF hA0
    have HF23 := Veil.mk H23
    clear H23 HFL hfm
    go_upto_region 7 with (first
      | (refine wpList_ldv rfl 30 _ rfl _ _ rfl F2 rF uF rfl iF2 ?_)
      | (go_at_call 7; refine hf0.mono ?_; rintro e w5 ⟨x5, n5, c5, rfl, hn5, hb5, hrd5⟩))
    have HN5 : Veil (n5 = 45 + 54 * l1 + 2 + (nm + 16) + 32) := ⟨by rw [hn5.out, hSl2]⟩
    have hB5 := hB0.trans (hb5.mono hB0.size)
    have hA5 := hA0.afar hb5
    have hK5 := hK0.afar hb5
    have hN5 := hN0.afar hb5
    have hyS5 : ∀ wx, Below w5.heap.size w5 wx → Bytes wx xs ns cs SL := fun wx h => hyS wx (hb5.trans (h.mono hb5.size))
    have hr5 := hrd5 w5 (Below.refl _ _)
    clear hn5 hf0 rF hB0 hA0 hK0 hN0 hyS hb5 hrd5 W
    go_upto_region 8 with (first
      | (go_at_call 8; refine hr5.mono ?_; rintro e w6 ⟨X, yb, nb, db, rfl, hX70, hX1, hX37, hb6, hXy, hXo, hXs⟩; have iX : (Try.prog.info? 30).map (·.size) = some X.cells.length := (by rw [hX70]; exact sizeFrame); have hlX : Z.length = X.cells.length := (by rw [hX70, HZL.out]); have hM6 := CellsAt.new w6 30 Z; have HX37 := Veil.mk hX37; clear hX70 hX37)
      | (refine wpList_stv rfl 30 _ _ rfl _ rfl rfl hM6 iX hlX hX1 ?_))
    have hB6 := hB5.trans (hb6.mono hB5.size)
    have hA6 := hA5.afar hb6
    have hK6 := hK5.afar hb6
    have hN6 := hN5.afar hb6
    have lA := hA6.lt
    have lK := hK6.lt
    have lN := hN6.lt
    have hs6 : Below w6.heap.size w6 ((w6.alloc (.cells Z.toArray 30)).setRow w6.heap.size X.cells.toArray) := below_setRow ((Below.refl _ _).alloc (Nat.le_refl _) _) (Nat.le_refl _) _
    have hA7 := (hA6.alloc (.cells Z.toArray 30)).setRowO4 (g' := w6.heap.size) X.cells.toArray (by omega)
    have hK7 := (hK6.alloc (.cells Z.toArray 30)).setRowO4 (g' := w6.heap.size) X.cells.toArray (by omega)
    have hN7 := (hN6.alloc (.cells Z.toArray 30)).setRowO4 (g' := w6.heap.size) X.cells.toArray (by omega)
    have hX7 := hM6.setRow X.cells
    have hB7 : Below w.heap.size w ((w6.alloc (.cells Z.toArray 30)).setRow w6.heap.size X.cells.toArray) := hB6.trans (hs6.mono hB6.size)
    have kXy : ∀ wx, Below ((w6.alloc (.cells Z.toArray 30)).setRow w6.heap.size X.cells.toArray).heap.size ((w6.alloc (.cells Z.toArray 30)).setRow w6.heap.size X.cells.toArray) wx → Below w6.heap.size w6 wx ∧ Below w5.heap.size w5 wx := fun wx h => by
      have h1 := hs6.trans (h.mono hs6.size)
      exact ⟨h1, hb6.trans (h1.mono hb6.size)⟩
    obtain ⟨XB, hXB⟩ : ∃ q, w6.heap.size = q := ⟨_, rfl⟩
    have hXBe : w6.heap.size = XB := hXB
    obtain ⟨U7, hU7⟩ : ∃ q, (w6.alloc (.cells Z.toArray 30)).setRow w6.heap.size X.cells.toArray = q := ⟨_, rfl⟩
    rw [hU7] at hA7 hK7 hN7 hX7 hB7 kXy
    rw [hXBe] at hX7
    rw [hU7, hXBe]
    clear hr5 hB5 hA5 hK5 hN5 hB6 hA6 hK6 hN6 hM6 hs6 hU7 hXB hXBe hlX hX1 lA lK lN
    have HKX := Veil.mk kXy
    have HXY := Veil.mk hXy
    have HXO := Veil.mk hXo
    have HXS := Veil.mk hXs
    have HYS := Veil.mk hyS5
    clear kXy hXy hXo hXs hyS5 hb6
    have q37 := hX7.cell 37
    rw [HX37.out] at q37
    refine wp_region_gate (fun w' => w'.rangeAt KB 0 (k.map (Value.int .u8)) ∧ w'.rangeAt NB 0 (nonZ.map (Value.int .u8)) ∧ w'.rangeAt XB 0 X.cells ∧ w'.cell? ⟨XB, 37, none⟩ = some (.slice yb nb db)) 11 (by kernel_rfl) ?_
    obtain ⟨D0, hD0⟩ : ∃ q, U7.drew = q := ⟨_, rfl⟩
    have hb0 : Below U7.heap.size U7 D0 := by rw [← hD0]; exact (Below.refl _ _).drew
    rw [hD0]
    have keep : ∀ w', Below U7.heap.size U7 w' → w'.rangeAt KB 0 (k.map (Value.int .u8)) ∧ w'.rangeAt NB 0 (nonZ.map (Value.int .u8)) ∧ w'.rangeAt XB 0 X.cells ∧ w'.cell? ⟨XB, 37, none⟩ = some (.slice yb nb db) := fun w' hb => ⟨(hK7.afar hb).whole, (hN7.afar hb).whole, (hX7.afar hb).whole, by rw [(hX7.afar hb).cell]; exact HX37.out⟩
    have hS := keep _ hb0
    clear hD0
    refine wpAnyG_load (i := 0) (dst := some 42) (ty := 26) (x := .tmp 4) (b := KB) (o := (0)) (cs := (k.map (Value.int .u8))) (by kernel_rfl) (by kernel_rfl) (by kernel_rfl) (by kernel_rfl) (by kernel_rfl) (fun _ _ _ h => h) (by kernel_rfl) (by kernel_rfl) (by kernel_rfl) hS (by kernel_rfl) (fun _ h => h.1) uK rfl iK ?_
    simp only [Act.put, List.setIfInBounds_toArray, List.set_cons_zero, List.set_cons_succ]
    refine wpAnyG_load (i := 1) (dst := some 43) (ty := 33) (x := .tmp 7) (b := NB) (o := (0)) (cs := (nonZ.map (Value.int .u8))) (by kernel_rfl) (by kernel_rfl) (by kernel_rfl) (by kernel_rfl) (by kernel_rfl) (fun _ _ _ h => h) (by kernel_rfl) (by kernel_rfl) (by kernel_rfl) hS (by kernel_rfl) (fun _ h => h.2.1) uN rfl iN ?_
    simp only [Act.put, List.setIfInBounds_toArray, List.set_cons_zero, List.set_cons_succ]
    refine wpAnyG_load (i := 2) (dst := some 44) (ty := 30) (x := .tmp 10) (b := XB) (o := (0)) (cs := (X.cells)) (by kernel_rfl) (by kernel_rfl) (by kernel_rfl) (by kernel_rfl) (by kernel_rfl) (fun _ _ _ h => h) (by kernel_rfl) (by kernel_rfl) (by kernel_rfl) hS (by kernel_rfl) (fun _ h => h.2.2.1) uF rfl iX ?_
    simp only [Act.put, List.setIfInBounds_toArray, List.set_cons_zero, List.set_cons_succ]
    refine wpAnyG_any (i := 4) (v := ?_) rfl (by kernel_rfl) (by kernel_rfl) (by kernel_rfl) (fun _ _ _ h => h) (by kernel_rfl) (fun _ => hS) (by kernel_rfl) ?_ ?_
    rotate_left
    · intro _; go_simp; try with_reducible rfl
    simp only [Act.put, List.setIfInBounds_toArray, List.set_cons_zero, List.set_cons_succ]
    refine wpAnyG_read (i := 5) (v := ?_) rfl (by kernel_rfl) (by kernel_rfl) (by kernel_rfl) (fun _ _ _ h => h) (by kernel_rfl) (by kernel_rfl) (by kernel_rfl) hS (by kernel_rfl) ?_ ?_
    rotate_left
    · intro wx hSw; go_split_ands; go_simp; try with_reducible rfl
    simp only [Act.put, List.setIfInBounds_toArray, List.set_cons_zero, List.set_cons_succ]
    have hop1 := HXO.out D0 (HKX.out _ hb0).1
    refine wpAnyG_one (i := 3) rfl (by kernel_rfl) (by kernel_rfl) (fun K hK => ?_)
    go_wp2_with (go_at_call 6; refine hop1.mono ?_; rintro e w8 ⟨x8, n8, c8, rfl, hy8, hb8⟩)
    have hb08 := hb0.trans (hb8.mono hb0.size)
    replace hS := keep _ hb08
    have ha8 := hao w8 x8 n8 c8 yb nb db hy8 (HXY.out _ (HKX.out _ hb08).1)
    clear hop1
    refine hK.out _ _ (fun _ => hS) ?_
    clear hK K
    refine wpAnyG_one (i := 6) rfl (by kernel_rfl) (by kernel_rfl) (fun K hK => ?_)
    go_wp2_with (go_at_call 9; refine ha8.mono ?_; rintro e w9 ⟨g9, rfl, hg9, hH9, hb9⟩)
    have hb09 := hb08.trans (hb9.mono hb08.size)
    replace hS := keep _ hb09
    clear ha8 hao hy8
    refine hK.out _ _ (fun _ => hS) ?_
    clear hK K
    refine wpAnyG_any (i := 7) (v := ?_) rfl (by kernel_rfl) (by kernel_rfl) (by kernel_rfl) (fun _ _ _ h => h) (by kernel_rfl) (fun _ => hS) (by kernel_rfl) ?_ ?_
    rotate_left
    · intro _; go_simp; try with_reducible rfl
    simp only [Act.put, List.setIfInBounds_toArray, List.set_cons_zero, List.set_cons_succ]
    refine wpAnyG_any (i := 8) (v := ?_) rfl (by kernel_rfl) (by kernel_rfl) (by kernel_rfl) (fun _ _ _ h => h) (by kernel_rfl) (fun _ => hS) (by kernel_rfl) ?_ ?_
    rotate_left
    · intro _; go_simp; try with_reducible rfl
    simp only [Act.put, List.setIfInBounds_toArray, List.set_cons_zero, List.set_cons_succ]
    refine wpAnyG_any (i := 9) (v := ?_) rfl (by kernel_rfl) (by kernel_rfl) (by kernel_rfl) (fun _ _ _ h => h) (by kernel_rfl) (fun _ => hS) (by kernel_rfl) ?_ ?_
    rotate_left
    · intro _; go_simp; try with_reducible rfl
    simp only [Act.put, List.setIfInBounds_toArray, List.set_cons_zero, List.set_cons_succ]
    refine wpAnyG_one (i := 10) rfl (by kernel_rfl) (by kernel_rfl) (fun K hK => ?_)
    go_simp
    refine hK.out _ _ (fun _ => hS) ?_
    clear hK K
    refine wpAnyG_one (i := 11) rfl (by kernel_rfl) (by kernel_rfl) (fun K hK => ?_)
    go_simp
    refine hK.out _ _ (fun h => absurd (show true = false from h) (by decide)) ?_
    clear hK K
    refine wpAnyG_done (by kernel_rfl) ?_ _
    have hB9 := hB7.trans (hb09.mono hB7.size)
    have hA9 := hA7.afar hb09
    have hX9 := hX7.afar hb09
    have hc9 := HC.out w9 (some ⟨g9, 0, none⟩) zs.length zs.length (hH9.bytes rfl (by rw [← HZN.out]; omega))
    have hs9 := HXS.out w9 (HKX.out _ hb09).1 (HWS.out _ hB9) (HYS.out _ (HKX.out _ hb09).2)
    try rw [hF2] at hs9
    have rF := hA9.whole
    have rX := hX9.whole
    have c36 := hA9.cell 36
    rw [HF23.out.1] at c36
    have c37 := hA9.cell 37
    rw [HF23.out.2] at c37
    have HZ9 : Veil (∀ wx, Below w9.heap.size w9 wx → (convert 28 9 (.slice (some ⟨g9, 0, none⟩) zs.length zs.length)).run Try.prog wx = .ok (.string S) wx ∧ (convert 28 9 (.slice x nm c)).run Try.prog wx = .ok (.string S) wx ∧ wx.cell? ⟨w.heap.size, 36, none⟩ = some (.slice (some ⟨b0, o0, none⟩) l1 cw) ∧ wx.cell? ⟨w.heap.size, 37, none⟩ = some (.slice xs ns cs)) := ⟨fun wx h => ⟨HC.out wx _ _ _ ((hH9.bytes rfl (by rw [← HZN.out]; omega)).below h), HC.out wx x nm c (HZB.out wx (hB9.trans (h.mono hB9.size))), by rw [(hA9.afar h).cell]; exact HF23.out.1, by rw [(hA9.afar h).cell]; exact HF23.out.2⟩⟩
    obtain ⟨p1, hp1⟩ : ∃ q : Nat, 54 * l1 = q := ⟨_, rfl⟩
    obtain ⟨p2, hp2⟩ : ∃ q : Nat, 45 + 54 * l1 = q := ⟨_, rfl⟩
    obtain ⟨p3, hp3⟩ : ∃ q : Nat, 45 + 54 * l1 + 2 = q := ⟨_, rfl⟩
    obtain ⟨p4, hp4⟩ : ∃ q : Nat, 45 + 54 * l1 + 2 + ns = q := ⟨_, rfl⟩
    have hns := HNS.out
    have hn5 := HN5.out
    have e1 : IntKind.i64.wrap (54 * (l1 : Int)) = (p1 : Int) := by rw [IntKind.wrap_i64]; omega
    have e2 : IntKind.i64.wrap (45 + (p1 : Int)) = (p2 : Int) := by rw [IntKind.wrap_i64]; omega
    have e3 : IntKind.i64.wrap ((p2 : Int) + 2) = (p3 : Int) := by rw [IntKind.wrap_i64]; omega
    have e4 : IntKind.i64.wrap ((p3 : Int) + (ns : Int)) = (p4 : Int) := by rw [IntKind.wrap_i64]; omega
    have e5 : IntKind.i64.wrap ((p4 : Int) + 32) = (n5 : Int) := by rw [IntKind.wrap_i64]; omega
    clear hp1 hp2 hp3 hp4 hns hn5 hS keep c36 c37 hc9
    try simp only [Act.put, List.getElem_toArray, List.getElem_cons_succ, List.getElem_cons_zero, List.setIfInBounds_toArray, List.set_cons_zero, List.set_cons_succ]
    go_upto_region 9 with fail
    go_wp2_with (first
      | (refine wpList_ldgv (by kernel_rfl) 30 _ rfl _ _ rfl F2 rF uF rfl iF2 ?_)
      | (refine wpList_ldgv (by kernel_rfl) 30 _ rfl _ _ rfl X.cells rX uF rfl iX ?_)
      | (go_at_call 10; refine hs9.mono ?_; rintro e w10 ⟨rfl, hb10⟩; obtain ⟨t1, t2, t3, t4⟩ := HZ9.out _ hb10))
    go_ret
    exact ⟨rfl, hB9.trans (hb10.mono hB9.size)⟩
  · have hgt : ¬ (10 : Int) < (lw : Int) := by omega
    have hle : (lw : Int) ≤ 10 := by omega
    go_upto_region 3 with fail
    rw [HSAME.out (by omega)] at hA0
    clear hgt hle hbig c36
    go_upto_region 4 with (go_at_call 4; refine (hfe _ hB0).mono ?_; rintro e w1 ⟨rfl, rfl⟩)
    have hN0 := CellsAt.new W 33 (nonZ.map (Value.int .u8))
    go_upto_region 5 with fail
    refine forget (p := fun y => Code.wp _ _ _ _ y) (fun U => Below w.heap.size w U ∧ CellsAt U w.heap.size 30 F1 ∧ CellsAt U KB 26 (k.map (Value.int .u8)) ∧ CellsAt U W.heap.size 33 (nonZ.map (Value.int .u8))) ⟨hB0.alloc hB0.size _, hA0.alloc _, hK0.alloc _, hN0⟩ ?_
    have hltA := hA0.lt
    have hltK := hK0.lt
    obtain ⟨NB, hNB⟩ : ∃ q, W.heap.size = q := ⟨_, rfl⟩
    have hneN : NB ≠ w.heap.size := by omega
    rw [hNB]
    clear hB0 hA0 hK0 hN0 hNB hltA hltK hfe W
    rintro W ⟨hB0, hA0, hK0, hN0⟩
    refine wp_region_gate (fun w' => w'.rangeAt KB 0 (k.map (Value.int .u8)) ∧ w'.rangeAt NB 0 (nonZ.map (Value.int .u8)) ∧ w'.rangeAt w.heap.size 0 F1) 7 (by kernel_rfl) ?_
    obtain ⟨D0, hD0⟩ : ∃ q, W.drew = q := ⟨_, rfl⟩
    have hb0 : Below W.heap.size W D0 := by rw [← hD0]; exact (Below.refl _ _).drew
    rw [hD0]
    have hB1 := hB0.trans (hb0.mono hB0.size)
    have hA1 := hA0.afar hb0
    have hK1 := hK0.afar hb0
    have hN1 := hN0.afar hb0
    clear hD0 hb0 hB0 hA0 hK0 hN0
    have hS : D0.rangeAt KB 0 (k.map (Value.int .u8)) ∧ D0.rangeAt NB 0 (nonZ.map (Value.int .u8)) ∧ D0.rangeAt w.heap.size 0 F1 := ⟨hK1.whole, hN1.whole, hA1.whole⟩
    refine wpAnyG_load (i := 0) (dst := some 24) (ty := 26) (x := .tmp 4) (b := KB) (o := (0)) (cs := (k.map (Value.int .u8))) (by kernel_rfl) (by kernel_rfl) (by kernel_rfl) (by kernel_rfl) (by kernel_rfl) (fun _ _ _ h => h) (by kernel_rfl) (by kernel_rfl) (by kernel_rfl) hS (by kernel_rfl) (fun _ h => h.1) uK rfl iK ?_
    simp only [Act.put, List.setIfInBounds_toArray, List.set_cons_zero, List.set_cons_succ]
    refine wpAnyG_load (i := 1) (dst := some 25) (ty := 33) (x := .tmp 7) (b := NB) (o := (0)) (cs := (nonZ.map (Value.int .u8))) (by kernel_rfl) (by kernel_rfl) (by kernel_rfl) (by kernel_rfl) (by kernel_rfl) (fun _ _ _ h => h) (by kernel_rfl) (by kernel_rfl) (by kernel_rfl) hS (by kernel_rfl) (fun _ h => h.2.1) uN rfl iN ?_
    simp only [Act.put, List.setIfInBounds_toArray, List.set_cons_zero, List.set_cons_succ]
    refine wpAnyG_load (i := 2) (dst := some 26) (ty := 30) (x := .tmp 3) (b := w.heap.size) (o := (0)) (cs := (F1)) (by kernel_rfl) (by kernel_rfl) (by kernel_rfl) (by kernel_rfl) (by kernel_rfl) (fun _ _ _ h => h) (by kernel_rfl) (by kernel_rfl) (by kernel_rfl) hS (by kernel_rfl) (fun _ h => h.2.2) uF rfl iF1 ?_
    simp only [Act.put, List.setIfInBounds_toArray, List.set_cons_zero, List.set_cons_succ]
    refine wpAnyG_any (i := 4) (v := ?_) rfl (by kernel_rfl) (by kernel_rfl) (by kernel_rfl) (fun _ _ _ h => h) (by kernel_rfl) (fun _ => hS) (by kernel_rfl) ?_ ?_
    rotate_left
    · intro _; go_simp; try with_reducible rfl
    simp only [Act.put, List.setIfInBounds_toArray, List.set_cons_zero, List.set_cons_succ]
    have hop1 := hop D0 (HWS.out _ hB1)
    refine wpAnyG_one (i := 3) rfl (by kernel_rfl) (by kernel_rfl) (fun K hK => ?_)
    go_wp2_with (go_at_call 6; refine hop1.mono ?_; rintro e w2 ⟨x2, n2, c2, rfl, hy2, hb2⟩)
    have hB2 := hB1.trans (hb2.mono hB1.size)
    have hA2 := hA1.afar hb2
    have hK2 := hK1.afar hb2
    have hN2 := hN1.afar hb2
    replace hS := And.intro hK2.whole (And.intro hN2.whole hA2.whole)
    clear hB1 hA1 hK1 hN1 hop1 hop
    have hs2 := hsl w2 x2 n2 c2 x nm c hy2 (HZB.out _ hB2)
    refine hK.out _ _ (fun _ => hS) ?_
    clear hK K
    refine wpAnyG_one (i := 5) rfl (by kernel_rfl) (by kernel_rfl) (fun K hK => ?_)
    go_wp2_with (go_at_call 5; refine hs2.mono ?_; rintro e w3 ⟨v3, rfl, ho3, hb3⟩)
    obtain ⟨xs, ns, cs, rfl, hns⟩ := ho3.isSlice
    rw [hSl2] at hns
    have HNS : Veil (ns = nm + 16) := ⟨hns⟩
    have hB3 := hB2.trans (hb3.mono hB2.size)
    have hA3 := hA2.afar hb3
    have hK3 := hK2.afar hb3
    have hN3 := hN2.afar hb3
    have hy3 := ho3.bytes.2
    replace hS := And.intro hK3.whole (And.intro hN3.whole hA3.whole)
    have hgeO := hb3.size
    clear hB2 hA2 hK2 hN2 hs2 hsl hy2 hns
    have c37 := hA3.cell 37
    rw [HF137.out] at c37
    have f37 := hA3.frozen 37
    refine hK.out _ _ (fun _ => hS) ?_
    clear hK K
    refine wpAnyG_any (i := 6) (v := ?_) rfl (by kernel_rfl) (by kernel_rfl) (by kernel_rfl) (fun _ _ _ h => h) (by kernel_rfl) (fun _ => hS) (by kernel_rfl) ?_ ?_
    rotate_left
    · intro _; go_simp; try with_reducible rfl
    simp only [Act.put, List.setIfInBounds_toArray, List.set_cons_zero, List.set_cons_succ]
    refine wpAnyG_one (i := 7) rfl (by kernel_rfl) (by kernel_rfl) (fun K hK => ?_)
    go_simp
    refine hK.out _ _ (fun h => absurd (show true = false from h) (by decide)) ?_
    clear hK K
    refine wpAnyG_done (by kernel_rfl) ?_ _
    have hA4 := hA3.set 37 (.slice xs ns cs)
    rw [HF2.out] at hA4
    have hy4 : ∀ wx, Below (w3.setCell ⟨w.heap.size, 37, none⟩ (.slice xs ns cs)).heap.size (w3.setCell ⟨w.heap.size, 37, none⟩ (.slice xs ns cs)) wx → Bytes wx xs ns cs SL := fun wx h => (OwnB.keepF ho3 hA3 (by decide) (fun g hg => heap_setCell_other w3 ⟨w.heap.size, 37, none⟩ g _ hg)).bytes.2.below h
    try simp only [Act.put, List.getElem_toArray, List.getElem_cons_succ, List.getElem_cons_zero, List.setIfInBounds_toArray, List.set_cons_zero, List.set_cons_succ]
    go_upto_region 6 with fail
    refine forget (p := fun y => Code.wp _ _ _ _ y) (fun U => Below w.heap.size w U ∧ CellsAt U w.heap.size 30 (FF xs ns cs) ∧ CellsAt U KB 26 (k.map (Value.int .u8)) ∧ CellsAt U NB 33 (nonZ.map (Value.int .u8)) ∧ ∀ wx, Below U.heap.size U wx → Bytes wx xs ns cs SL) ⟨hB3.setCell (Nat.le_refl _) _, hA4, hK3.setOther _ _ hneK, hN3.setOther _ _ hneN, hy4⟩ ?_
    clear hB3 hA3 hK3 hN3 hA4 hy3 hy4 ho3 hb3 c37 f37 hS hgeO iF1 W
    rintro W ⟨hB0, hA0, hK0, hN0, hyS⟩
    have rF := hA0.whole
    have HFL := HF2l.out xs ns cs
    have iF2 : (Try.prog.info? 30).map (·.size) = some (FF xs ns cs).length := by rw [HFL]; exact sizeFrame
    have hf0 := hfm W xs ns cs (HWS.out _ hB0) (hyS _ (Below.refl _ _))
    obtain ⟨F2, hF2⟩ : ∃ q, FF xs ns cs = q := ⟨_, rfl⟩
    have H23 := HF236.out xs ns cs
    rw [hF2] at H23 hf0 iF2 rF hA0
    have HF23 := Veil.mk H23
    clear H23 HFL hfm
    go_upto_region 7 with (first
      | (refine wpList_ldv rfl 30 _ rfl _ _ rfl F2 rF uF rfl iF2 ?_)
      | (go_at_call 7; refine hf0.mono ?_; rintro e w5 ⟨x5, n5, c5, rfl, hn5, hb5, hrd5⟩))
    have HN5 : Veil (n5 = 45 + 54 * l1 + 2 + (nm + 16) + 32) := ⟨by rw [hn5.out, hSl2]⟩
    have hB5 := hB0.trans (hb5.mono hB0.size)
    have hA5 := hA0.afar hb5
    have hK5 := hK0.afar hb5
    have hN5 := hN0.afar hb5
    have hyS5 : ∀ wx, Below w5.heap.size w5 wx → Bytes wx xs ns cs SL := fun wx h => hyS wx (hb5.trans (h.mono hb5.size))
    have hr5 := hrd5 w5 (Below.refl _ _)
    clear hn5 hf0 rF hB0 hA0 hK0 hN0 hyS hb5 hrd5 W
    go_upto_region 8 with (first
      | (go_at_call 8; refine hr5.mono ?_; rintro e w6 ⟨X, yb, nb, db, rfl, hX70, hX1, hX37, hb6, hXy, hXo, hXs⟩; have iX : (Try.prog.info? 30).map (·.size) = some X.cells.length := (by rw [hX70]; exact sizeFrame); have hlX : Z.length = X.cells.length := (by rw [hX70, HZL.out]); have hM6 := CellsAt.new w6 30 Z; have HX37 := Veil.mk hX37; clear hX70 hX37)
      | (refine wpList_stv rfl 30 _ _ rfl _ rfl rfl hM6 iX hlX hX1 ?_))
    have hB6 := hB5.trans (hb6.mono hB5.size)
    have hA6 := hA5.afar hb6
    have hK6 := hK5.afar hb6
    have hN6 := hN5.afar hb6
    have lA := hA6.lt
    have lK := hK6.lt
    have lN := hN6.lt
    have hs6 : Below w6.heap.size w6 ((w6.alloc (.cells Z.toArray 30)).setRow w6.heap.size X.cells.toArray) := below_setRow ((Below.refl _ _).alloc (Nat.le_refl _) _) (Nat.le_refl _) _
    have hA7 := (hA6.alloc (.cells Z.toArray 30)).setRowO4 (g' := w6.heap.size) X.cells.toArray (by omega)
    have hK7 := (hK6.alloc (.cells Z.toArray 30)).setRowO4 (g' := w6.heap.size) X.cells.toArray (by omega)
    have hN7 := (hN6.alloc (.cells Z.toArray 30)).setRowO4 (g' := w6.heap.size) X.cells.toArray (by omega)
    have hX7 := hM6.setRow X.cells
    have hB7 : Below w.heap.size w ((w6.alloc (.cells Z.toArray 30)).setRow w6.heap.size X.cells.toArray) := hB6.trans (hs6.mono hB6.size)
    have kXy : ∀ wx, Below ((w6.alloc (.cells Z.toArray 30)).setRow w6.heap.size X.cells.toArray).heap.size ((w6.alloc (.cells Z.toArray 30)).setRow w6.heap.size X.cells.toArray) wx → Below w6.heap.size w6 wx ∧ Below w5.heap.size w5 wx := fun wx h => by
      have h1 := hs6.trans (h.mono hs6.size)
      exact ⟨h1, hb6.trans (h1.mono hb6.size)⟩
    obtain ⟨XB, hXB⟩ : ∃ q, w6.heap.size = q := ⟨_, rfl⟩
    have hXBe : w6.heap.size = XB := hXB
    obtain ⟨U7, hU7⟩ : ∃ q, (w6.alloc (.cells Z.toArray 30)).setRow w6.heap.size X.cells.toArray = q := ⟨_, rfl⟩
    rw [hU7] at hA7 hK7 hN7 hX7 hB7 kXy
    rw [hXBe] at hX7
    rw [hU7, hXBe]
    clear hr5 hB5 hA5 hK5 hN5 hB6 hA6 hK6 hN6 hM6 hs6 hU7 hXB hXBe hlX hX1 lA lK lN
    have HKX := Veil.mk kXy
    have HXY := Veil.mk hXy
    have HXO := Veil.mk hXo
    have HXS := Veil.mk hXs
    have HYS := Veil.mk hyS5
    clear kXy hXy hXo hXs hyS5 hb6
    have q37 := hX7.cell 37
    rw [HX37.out] at q37
    refine wp_region_gate (fun w' => w'.rangeAt KB 0 (k.map (Value.int .u8)) ∧ w'.rangeAt NB 0 (nonZ.map (Value.int .u8)) ∧ w'.rangeAt XB 0 X.cells ∧ w'.cell? ⟨XB, 37, none⟩ = some (.slice yb nb db)) 11 (by kernel_rfl) ?_
    obtain ⟨D0, hD0⟩ : ∃ q, U7.drew = q := ⟨_, rfl⟩
    have hb0 : Below U7.heap.size U7 D0 := by rw [← hD0]; exact (Below.refl _ _).drew
    rw [hD0]
    have keep : ∀ w', Below U7.heap.size U7 w' → w'.rangeAt KB 0 (k.map (Value.int .u8)) ∧ w'.rangeAt NB 0 (nonZ.map (Value.int .u8)) ∧ w'.rangeAt XB 0 X.cells ∧ w'.cell? ⟨XB, 37, none⟩ = some (.slice yb nb db) := fun w' hb => ⟨(hK7.afar hb).whole, (hN7.afar hb).whole, (hX7.afar hb).whole, by rw [(hX7.afar hb).cell]; exact HX37.out⟩
    have hS := keep _ hb0
    clear hD0
    refine wpAnyG_load (i := 0) (dst := some 42) (ty := 26) (x := .tmp 4) (b := KB) (o := (0)) (cs := (k.map (Value.int .u8))) (by kernel_rfl) (by kernel_rfl) (by kernel_rfl) (by kernel_rfl) (by kernel_rfl) (fun _ _ _ h => h) (by kernel_rfl) (by kernel_rfl) (by kernel_rfl) hS (by kernel_rfl) (fun _ h => h.1) uK rfl iK ?_
    simp only [Act.put, List.setIfInBounds_toArray, List.set_cons_zero, List.set_cons_succ]
    refine wpAnyG_load (i := 1) (dst := some 43) (ty := 33) (x := .tmp 7) (b := NB) (o := (0)) (cs := (nonZ.map (Value.int .u8))) (by kernel_rfl) (by kernel_rfl) (by kernel_rfl) (by kernel_rfl) (by kernel_rfl) (fun _ _ _ h => h) (by kernel_rfl) (by kernel_rfl) (by kernel_rfl) hS (by kernel_rfl) (fun _ h => h.2.1) uN rfl iN ?_
    simp only [Act.put, List.setIfInBounds_toArray, List.set_cons_zero, List.set_cons_succ]
    refine wpAnyG_load (i := 2) (dst := some 44) (ty := 30) (x := .tmp 10) (b := XB) (o := (0)) (cs := (X.cells)) (by kernel_rfl) (by kernel_rfl) (by kernel_rfl) (by kernel_rfl) (by kernel_rfl) (fun _ _ _ h => h) (by kernel_rfl) (by kernel_rfl) (by kernel_rfl) hS (by kernel_rfl) (fun _ h => h.2.2.1) uF rfl iX ?_
    simp only [Act.put, List.setIfInBounds_toArray, List.set_cons_zero, List.set_cons_succ]
    refine wpAnyG_any (i := 4) (v := ?_) rfl (by kernel_rfl) (by kernel_rfl) (by kernel_rfl) (fun _ _ _ h => h) (by kernel_rfl) (fun _ => hS) (by kernel_rfl) ?_ ?_
    rotate_left
    · intro _; go_simp; try with_reducible rfl
    simp only [Act.put, List.setIfInBounds_toArray, List.set_cons_zero, List.set_cons_succ]
    refine wpAnyG_read (i := 5) (v := ?_) rfl (by kernel_rfl) (by kernel_rfl) (by kernel_rfl) (fun _ _ _ h => h) (by kernel_rfl) (by kernel_rfl) (by kernel_rfl) hS (by kernel_rfl) ?_ ?_
    rotate_left
    · intro wx hSw; go_split_ands; go_simp; try with_reducible rfl
    simp only [Act.put, List.setIfInBounds_toArray, List.set_cons_zero, List.set_cons_succ]
    have hop1 := HXO.out D0 (HKX.out _ hb0).1
    refine wpAnyG_one (i := 3) rfl (by kernel_rfl) (by kernel_rfl) (fun K hK => ?_)
    go_wp2_with (go_at_call 6; refine hop1.mono ?_; rintro e w8 ⟨x8, n8, c8, rfl, hy8, hb8⟩)
    have hb08 := hb0.trans (hb8.mono hb0.size)
    replace hS := keep _ hb08
    have ha8 := hao w8 x8 n8 c8 yb nb db hy8 (HXY.out _ (HKX.out _ hb08).1)
    clear hop1
    refine hK.out _ _ (fun _ => hS) ?_
    clear hK K
    refine wpAnyG_one (i := 6) rfl (by kernel_rfl) (by kernel_rfl) (fun K hK => ?_)
    go_wp2_with (go_at_call 9; refine ha8.mono ?_; rintro e w9 ⟨g9, rfl, hg9, hH9, hb9⟩)
    have hb09 := hb08.trans (hb9.mono hb08.size)
    replace hS := keep _ hb09
    clear ha8 hao hy8
    refine hK.out _ _ (fun _ => hS) ?_
    clear hK K
    refine wpAnyG_any (i := 7) (v := ?_) rfl (by kernel_rfl) (by kernel_rfl) (by kernel_rfl) (fun _ _ _ h => h) (by kernel_rfl) (fun _ => hS) (by kernel_rfl) ?_ ?_
    rotate_left
    · intro _; go_simp; try with_reducible rfl
    simp only [Act.put, List.setIfInBounds_toArray, List.set_cons_zero, List.set_cons_succ]
    refine wpAnyG_any (i := 8) (v := ?_) rfl (by kernel_rfl) (by kernel_rfl) (by kernel_rfl) (fun _ _ _ h => h) (by kernel_rfl) (fun _ => hS) (by kernel_rfl) ?_ ?_
    rotate_left
    · intro _; go_simp; try with_reducible rfl
    simp only [Act.put, List.setIfInBounds_toArray, List.set_cons_zero, List.set_cons_succ]
    refine wpAnyG_any (i := 9) (v := ?_) rfl (by kernel_rfl) (by kernel_rfl) (by kernel_rfl) (fun _ _ _ h => h) (by kernel_rfl) (fun _ => hS) (by kernel_rfl) ?_ ?_
    rotate_left
    · intro _; go_simp; try with_reducible rfl
    simp only [Act.put, List.setIfInBounds_toArray, List.set_cons_zero, List.set_cons_succ]
    refine wpAnyG_one (i := 10) rfl (by kernel_rfl) (by kernel_rfl) (fun K hK => ?_)
    go_simp
    refine hK.out _ _ (fun _ => hS) ?_
    clear hK K
    refine wpAnyG_one (i := 11) rfl (by kernel_rfl) (by kernel_rfl) (fun K hK => ?_)
    go_simp
    refine hK.out _ _ (fun h => absurd (show true = false from h) (by decide)) ?_
    clear hK K
    refine wpAnyG_done (by kernel_rfl) ?_ _
    have hB9 := hB7.trans (hb09.mono hB7.size)
    have hA9 := hA7.afar hb09
    have hX9 := hX7.afar hb09
    have hc9 := HC.out w9 (some ⟨g9, 0, none⟩) zs.length zs.length (hH9.bytes rfl (by rw [← HZN.out]; omega))
    have hs9 := HXS.out w9 (HKX.out _ hb09).1 (HWS.out _ hB9) (HYS.out _ (HKX.out _ hb09).2)
    try rw [hF2] at hs9
    have rF := hA9.whole
    have rX := hX9.whole
    have c36 := hA9.cell 36
    rw [HF23.out.1] at c36
    have c37 := hA9.cell 37
    rw [HF23.out.2] at c37
    have HZ9 : Veil (∀ wx, Below w9.heap.size w9 wx → (convert 28 9 (.slice (some ⟨g9, 0, none⟩) zs.length zs.length)).run Try.prog wx = .ok (.string S) wx ∧ (convert 28 9 (.slice x nm c)).run Try.prog wx = .ok (.string S) wx ∧ wx.cell? ⟨w.heap.size, 36, none⟩ = some (.slice xw l1 cw) ∧ wx.cell? ⟨w.heap.size, 37, none⟩ = some (.slice xs ns cs)) := ⟨fun wx h => ⟨HC.out wx _ _ _ ((hH9.bytes rfl (by rw [← HZN.out]; omega)).below h), HC.out wx x nm c (HZB.out wx (hB9.trans (h.mono hB9.size))), by rw [(hA9.afar h).cell]; exact HF23.out.1, by rw [(hA9.afar h).cell]; exact HF23.out.2⟩⟩
    obtain ⟨p1, hp1⟩ : ∃ q : Nat, 54 * l1 = q := ⟨_, rfl⟩
    obtain ⟨p2, hp2⟩ : ∃ q : Nat, 45 + 54 * l1 = q := ⟨_, rfl⟩
    obtain ⟨p3, hp3⟩ : ∃ q : Nat, 45 + 54 * l1 + 2 = q := ⟨_, rfl⟩
    obtain ⟨p4, hp4⟩ : ∃ q : Nat, 45 + 54 * l1 + 2 + ns = q := ⟨_, rfl⟩
    have hns := HNS.out
    have hn5 := HN5.out
    have e1 : IntKind.i64.wrap (54 * (l1 : Int)) = (p1 : Int) := by rw [IntKind.wrap_i64]; omega
    have e2 : IntKind.i64.wrap (45 + (p1 : Int)) = (p2 : Int) := by rw [IntKind.wrap_i64]; omega
    have e3 : IntKind.i64.wrap ((p2 : Int) + 2) = (p3 : Int) := by rw [IntKind.wrap_i64]; omega
    have e4 : IntKind.i64.wrap ((p3 : Int) + (ns : Int)) = (p4 : Int) := by rw [IntKind.wrap_i64]; omega
    have e5 : IntKind.i64.wrap ((p4 : Int) + 32) = (n5 : Int) := by rw [IntKind.wrap_i64]; omega
    clear hp1 hp2 hp3 hp4 hns hn5 hS keep c36 c37 hc9
    try simp only [Act.put, List.getElem_toArray, List.getElem_cons_succ, List.getElem_cons_zero, List.setIfInBounds_toArray, List.set_cons_zero, List.set_cons_succ]
    go_upto_region 9 with fail
    go_wp2_with (first
      | (refine wpList_ldgv (by kernel_rfl) 30 _ rfl _ _ rfl F2 rF uF rfl iF2 ?_)
      | (refine wpList_ldgv (by kernel_rfl) 30 _ rfl _ _ rfl X.cells rX uF rfl iX ?_)
      | (go_at_call 10; refine hs9.mono ?_; rintro e w10 ⟨rfl, hb10⟩; obtain ⟨t1, t2, t3, t4⟩ := HZ9.out _ hb10))
    go_ret
    exact ⟨rfl, hB9.trans (hb10.mono hB9.size)⟩
end Go.Proofs.Ytgepicbijpfhhaa
