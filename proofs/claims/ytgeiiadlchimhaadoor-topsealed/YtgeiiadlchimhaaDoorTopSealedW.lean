/- The statement TopSealed, walked. -/
import Derived.Test.YtgeiiadlchimhaaDoorAn6
import Derived.Test.YtgeiiadlchimhaaDoorRd6
import Derived.Test.YtgeiiadlchimhaaDoorEvs
namespace Go.Proofs.YtgeiiadlchimhaaDoor
open Go.RowKit
set_option maxRecDepth 20000
set_option linter.unusedSimpArgs false

def opnL : List Int := [111, 112, 101, 110]
theorem opn_in : ∀ v ∈ opnL, isB v := fun v hv => by
  unfold opnL at hv
  simp only [List.mem_cons, List.not_mem_nil, or_false] at hv
  unfold isB
  omega
theorem padL_inB (z : List Int) (s : Nat) (hz : ∀ v ∈ z, b8 v) : ∀ v ∈ padL z s, b8 v := by
  intro v hv
  unfold padL at hv
  rcases List.mem_append.1 hv with h | h
  · rcases List.mem_append.1 h with h | h
    · unfold be2 at h
      simp only [List.mem_cons, List.not_mem_nil, or_false] at h
      unfold b8
      rcases h with rfl | rfl <;> omega
    · exact hz v h
  · have := (List.mem_replicate.1 h).2
    subst this
    exact ⟨by omega, by omega⟩
theorem sizeKeyB (k : List Int) (hk : k.length = 32) : (Tryd.prog.info? 23).map (·.size) = some (k.map (Value.int .u8)).length := by rw [List.length_map, hk]; kernel_rfl
theorem sizeNonceB (k : List Int) (hk : k.length = 12) : (Tryd.prog.info? 25).map (·.size) = some (k.map (Value.int .u8)).length := by rw [List.length_map, hk]; kernel_rfl

set_option maxHeartbeats 4000000 in
theorem sealed_walk (k n : List Int) (E : Ev) (w : World) (hT : BTab w) (hk : k.length = 32) (hn : n.length = 12) (hE : E.In) :
    Calls Tryd.prog 3 #[.agg (row .u8 k), .agg (row .u8 n), .agg E.cells.toArray] w fun e w' => e = .returned (.bool true) ∧ Below w.heap.size w w' := by
  obtain ⟨hall, hof⟩ := event_back E hE
  have hin := event_in E hE
  have hel := eventL_length E hE.plen
  have hev := fun wx => Event_any E wx hE.plen
  have hrb : revB (eventL E) = E := by unfold revB; rw [if_pos hall, hof]
  have hre : revE (eventL E) = 0 := by unfold revE; rw [if_pos hall]
  have hrd := fun (y : Option Addr) (m d : Nat) wx (h : Bytes wx y m d (eventL E)) => ReadEvent_any y m d (eventL E) wx h hin
  rw [hrb, hre] at hrd
  have heq := fun wx => event_same5 E hE.plen wx
  have hbk : bucketN 58 = ((128 : Nat) : Int) := by decide
  have hpad : ∀ (y : Option Addr) (d : Nat) wx, Below w.heap.size w wx → Bytes wx y 58 d (eventL E) → Calls Tryd.prog 4 #[.slice y 58 d] wx fun e w' => ∃ x' n' c', e = .returned (.tuple #[.slice x' n' c', .int .i64 0]) ∧ Bytes w' x' n' c' (padL (eventL E) 128) ∧ Below wx.heap.size wx w' := fun y d wx hb h => Pad_both y 58 d (eventL E) wx (hT.below hb) h 128 hbk (.inr ⟨by omega, by omega⟩)
  obtain ⟨hok, hun⟩ := padL_ok (eventL E) 128 (by omega) (by omega) (by rw [hel]; exact hbk)
  have hub : unpB (padL (eventL E) 128) = eventL E := by unfold unpB; rw [if_pos hok, hun]
  have hue : unpE (padL (eventL E) 128) = 0 := by unfold unpE; rw [if_pos hok]
  have hpl := padL_length (eventL E) 128 (by omega)
  have hpi := padL_inB (eventL E) 128 hin
  have hunp := fun (y : Option Addr) (m d : Nat) wx (hb : Below w.heap.size w wx) (h : Bytes wx y m d (padL (eventL E) 128)) => Unpad_any y m d (padL (eventL E) 128) wx (hT.below hb) h hpi (by omega)
  rw [hub, hue] at hunp
  have hsl := fun (x y : Option Addr) (lb cb : Nat) wx (hx : Bytes wx x 4 4 opnL) (hy : Bytes wx y lb cb (padL (eventL E) 128)) => seal_any k n x 4 4 opnL y lb cb (padL (eventL E) 128) wx hk hn hx hy (by omega) (by rw [hy.len_eq, hpl]; omega)
  have hop := fun (x y : Option Addr) (ly cy : Nat) wx (hx : Bytes wx x 4 4 opnL) (hy : Bytes wx y ly cy (sealL k n opnL (padL (eventL E) 128))) => back_any k n x 4 4 opnL y ly cy (padL (eventL E) 128) wx hk hn hx hy (by omega) (by omega) opn_in hpi
  have hSl := sealL_length k n opnL (padL (eventL E) 128)
  rw [hpl] at hSl
  obtain ⟨SL, hSL⟩ : ∃ q, sealL k n opnL (padL (eventL E) 128) = q := ⟨_, rfl⟩
  rw [hSL] at hsl hop hSl
  obtain ⟨PL, hPL⟩ : ∃ q, padL (eventL E) 128 = q := ⟨_, rfl⟩
  rw [hPL] at hpad hunp hpl hsl hop
  obtain ⟨EL, hEL⟩ : ∃ q, eventL E = q := ⟨_, rfl⟩
  rw [hEL] at hev hrd hpad hunp hel
  have hiE := sizeEvZ E hE.plen
  have h1E := ev_one E
  have hlE : evZ.cells.length = E.cells.length := by rw [ev_len E hE.plen]; rfl
  have uE := Tryd.underlying34
  have uK := Tryd.underlying23
  have uN := Tryd.underlying25
  have iK := sizeKeyB k hk
  have iN := sizeNonceB n hn
  have kc := fun (w : World) (C : Array Value) (n c : Nat) => Lib.run_convert_bytes_const (P := Tryd.prog) w 35 5 C n c Tryd.underlying35 Tryd.underlying5
  replace hsl : ∀ (x y : Option Addr) (lb cb : Nat) wx, Bytes wx x 4 4 opnL → Bytes wx y lb cb PL → Calls Tryd.prog 6 #[.agg (List.map (Value.int .u8) k).toArray, .agg (List.map (Value.int .u8) n).toArray, .slice x 4 4, .slice y lb cb] wx fun e w' => ∃ v, e = .returned v ∧ OwnB w' wx.heap.size v SL ∧ Below wx.heap.size wx w' := fun x y lb cb wx hx hy => hsl x y lb cb wx hx hy
  replace hop : ∀ (x y : Option Addr) (ly cy : Nat) wx, Bytes wx x 4 4 opnL → Bytes wx y ly cy SL → Calls Tryd.prog 7 #[.agg (List.map (Value.int .u8) k).toArray, .agg (List.map (Value.int .u8) n).toArray, .slice x 4 4, .slice y ly cy] wx fun e w' => ∃ g, e = .returned (.tuple #[.slice (some ⟨g, 0, none⟩) 128 128, .int .i64 0]) ∧ wx.heap.size ≤ g ∧ Holds w' g .u8 5 PL ∧ Below wx.heap.size wx w' := fun x y ly cy wx hx hy => by
    have := hop x y ly cy wx hx hy
    rw [hpl] at this
    exact this
  have HSL : Veil (SL.length = 144) := ⟨hSl⟩
  have HEL : Veil (EL.length = 58) := ⟨hel⟩
  have HPL : Veil (PL.length = 128) := ⟨hpl⟩
  have hB0 : Below w.heap.size w (((w.alloc (.cells (row .u8 k) 23)).alloc (.cells (row .u8 n) 25)).alloc (.cells E.cells.toArray 34)) := (((Below.refl _ _).alloc (Nat.le_refl _) _).alloc (by simp) _).alloc (by simp; omega) _
  have hK0 : CellsAt (((w.alloc (.cells (row .u8 k) 23)).alloc (.cells (row .u8 n) 25)).alloc (.cells E.cells.toArray 34)) w.heap.size 23 (k.map (Value.int .u8)) := ((CellsAt.new w 23 (k.map (Value.int .u8))).alloc _).alloc _
  have hN0 : CellsAt (((w.alloc (.cells (row .u8 k) 23)).alloc (.cells (row .u8 n) 25)).alloc (.cells E.cells.toArray 34)) (w.heap.size + 1) 25 (n.map (Value.int .u8)) := by
    have := (CellsAt.new (w.alloc (.cells (row .u8 k) 23)) 25 (n.map (Value.int .u8))).alloc (.cells E.cells.toArray 34)
    rw [World.size_alloc] at this
    exact this
  have hE0 : CellsAt (((w.alloc (.cells (row .u8 k) 23)).alloc (.cells (row .u8 n) 25)).alloc (.cells E.cells.toArray 34)) (w.heap.size + 2) 34 E.cells := by
    have := CellsAt.new ((w.alloc (.cells (row .u8 k) 23)).alloc (.cells (row .u8 n) 25)) 34 E.cells
    rw [World.size_alloc, World.size_alloc] at this
    exact this
  clear hT hE hall hof hin hrb hre hbk hok hun hub hue hpi hSL hPL hEL hSl hel hpl hk hn
  go_enter Tryd.func3, Tryd.ntmps3
  go_upto_region 1 with fail
  refine forget (p := fun y => Code.wp _ _ _ _ y) (fun W => Below w.heap.size w W ∧ CellsAt W w.heap.size 23 (k.map (Value.int .u8)) ∧ CellsAt W (w.heap.size + 1) 25 (n.map (Value.int .u8)) ∧ CellsAt W (w.heap.size + 2) 34 E.cells) ⟨hB0, hK0, hN0, hE0⟩ ?_
  clear hB0 hK0 hN0 hE0
  rintro W0 ⟨hB0, hK0, hN0, hE0⟩
  have rE := hE0.whole2
  go_upto_region 2 with (first
    | (refine wpList_ldv rfl 34 _ rfl _ _ rfl E.cells rE uE rfl hiE ?_)
    | (go_at_call 5; refine (hev _).mono ?_; rintro e w1 ⟨v1, rfl, ho1, hb1⟩; obtain ⟨x1, n1, c1, rfl, hn1⟩ := ho1.isSlice; rw [HEL.out] at hn1; subst hn1; have hB1 := hB0.trans (hb1.mono hB0.size); have hp1 := hpad x1 c1 w1 hB1 ho1.bytes.2)
    | (go_at_call 4; refine hp1.mono ?_; rintro e w2 ⟨x2, n2, c2, rfl, hy2, hb2⟩))
  have hB2 := hB1.trans (hb2.mono hB1.size)
  have hK2 := (hK0.far5 hb1).far5 hb2
  have hN2 := (hN0.far5 hb1).far5 hb2
  have hE2 := (hE0.far5 hb1).far5 hb2
  have hn2 := hy2.len_eq
  rw [HPL.out] at hn2
  subst hn2
  clear rE hB0 hK0 hN0 hE0 ho1 hb1 hb2 hp1 hB1
  have b2 : Below w2.heap.size w2 (w2.alloc (.cells (row .u8 opnL) 5 (4, 5))) := (Below.refl _ _).alloc (Nat.le_refl _) _
  have hO3 := bytes_marked w2 opnL (4, 5) (by decide)
  have hs3 := hsl _ x2 128 c2 _ hO3 (hy2.below b2)
  have rK := (hK2.far5 b2).whole2
  have rN := (hN2.far5 b2).whole2
  have rK2 := hK2.whole2
  have rN2 := hN2.whole2
  go_upto_region 3 with (first
    | (refine wpList_ldv rfl 23 _ rfl _ _ rfl (k.map (Value.int .u8)) rK2 uK rfl iK ?_)
    | (refine wpList_ldv rfl 25 _ rfl _ _ rfl (n.map (Value.int .u8)) rN2 uN rfl iN ?_)
    | (go_at_call 6; refine hs3.mono ?_; rintro e w3 ⟨v3, rfl, ho3, hb3⟩))
  obtain ⟨x3, n3, c3, rfl, hn3⟩ := ho3.isSlice
  rw [HSL.out] at hn3
  subst hn3
  have hb23 := b2.trans (hb3.mono b2.size)
  have hB3 := hB2.trans (hb23.mono hB2.size)
  have hK3 := hK2.far5 hb23
  have hN3 := hN2.far5 hb23
  have hE3 := hE2.far5 hb23
  have hy3 := ho3.bytes.2
  clear b2 hO3 hs3 rK rN rK2 rN2 hb3 ho3 hb23 hB2 hK2 hN2 hE2 hy2 hsl
  have b3 : Below w3.heap.size w3 (w3.alloc (.cells (row .u8 opnL) 5 (4, 5))) := (Below.refl _ _).alloc (Nat.le_refl _) _
  have hO4 := bytes_marked w3 opnL (4, 5) (by decide)
  have hs4 := hop _ x3 144 c3 _ hO4 (hy3.below b3)
  have rK2 := hK3.whole2
  have rN2 := hN3.whole2
  go_upto_region 4 with (first
    | (refine wpList_ldv rfl 23 _ rfl _ _ rfl (k.map (Value.int .u8)) rK2 uK rfl iK ?_)
    | (refine wpList_ldv rfl 25 _ rfl _ _ rfl (n.map (Value.int .u8)) rN2 uN rfl iN ?_)
    | (go_at_call 7; refine hs4.mono ?_; rintro e w4 ⟨g4, rfl, hg4, hH4, hb4⟩))
  have hb34 := b3.trans (hb4.mono b3.size)
  have hB4 := hB3.trans (hb34.mono hB3.size)
  have hE4 := hE3.far5 hb34
  have hy4 := hH4.bytes HPL.out.symm (by rw [HPL.out]; omega)
  have hu4 := hunp _ 128 128 w4 hB4 hy4
  clear b3 hO4 hs4 rK2 rN2 hb4 hB3 hK3 hN3 hE3 hH4 hop hg4 hb34
  go_upto_region 5 with (go_at_call 8; refine hu4.mono ?_; rintro e w5 ⟨x5, n5, c5, rfl, hy5, hb5⟩)
  have hB5 := hB4.trans (hb5.mono hB4.size)
  have hE5 := hE4.far5 hb5
  have hr5 := hrd x5 n5 c5 w5 hy5
  clear hu4 hb5 hB4 hE4 hy5 hy4
  go_upto_region 6 with (first
    | (go_at_call 9; refine hr5.mono ?_; rintro e w6 ⟨rfl, hb6⟩; have hN6 := CellsAt.new w6 34 evZ.cells)
    | (refine wpList_stv rfl 34 _ _ rfl _ rfl rfl hN6 hiE hlE h1E ?_))
  have hB6 := hB5.trans (hb6.mono hB5.size)
  have hE6 := hE5.far5 hb6
  have hlt6 := hE6.lt
  have hE7 := (hE6.alloc (.cells evZ.cells.toArray 34)).setRowOther2 (g' := w6.heap.size) E.cells.toArray (by omega)
  refine forget (p := fun y => Code.wp _ _ _ _ y) (fun W => Below w.heap.size w W ∧ CellsAt W (w.heap.size + 2) 34 E.cells ∧ CellsAt W w6.heap.size 34 E.cells) ⟨below_setRow (hB6.alloc hB6.size _) hB6.size _, hE7, hN6.setRow _⟩ ?_
  obtain ⟨G6, hG6⟩ : ∃ q, w6.heap.size = q := ⟨_, rfl⟩
  rw [hG6]
  clear hG6 hB6 hE6 hE7 hN6 hb6 hr5 hB5 hE5 hlt6 hrd
  rintro W7 ⟨hB7, hE7, hX7⟩
  have r1 := hE7.whole2
  have r2 := hX7.whole2
  go_wp2_with (first
    | (refine wpList_ldgv (by kernel_rfl) 34 _ rfl _ _ rfl E.cells r2 uE rfl hiE ?_)
    | (refine wpList_ldgv (by kernel_rfl) 34 _ rfl _ _ rfl E.cells r1 uE rfl hiE ?_))
  go_ret
  exact ⟨rfl, hB7⟩
end Go.Proofs.YtgeiiadlchimhaaDoor
