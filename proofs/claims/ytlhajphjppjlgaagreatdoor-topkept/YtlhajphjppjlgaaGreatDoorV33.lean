/- Fm2 Fm3 -/
import Derived.Test.YtlhajphjppjlgaaGreatDoorV0
import Derived.Test.YtlhajphjppjlgaaGreatDoorV32
import Derived.Test.YtlhajphjppjlgaaGreatDoorT05
namespace Go.Proofs.YtlhajphjppjlgaaGreatDoor
open Go.RowKit
set_option maxRecDepth 20000
set_option linter.unusedSimpArgs false
set_option maxHeartbeats 2000000 in
theorem gotK_bad (k : List Int) (n : Int) (hn0 : n ≠ 0) (w : World) : Calls Tryz.prog 55 #[.agg (row .u8 k), .int .i64 n] w fun e w' => e = .panicked [stopP n] ∧ Below w.heap.size w w' := by
  obtain ⟨Z, hZl, hZ⟩ : ∃ Z : List Int, Z.length = 32 ∧ Z = List.replicate 32 0 := ⟨_, rfl, rfl⟩
  have hzv : ∀ wx, (zeroValue 23).run Tryz.prog wx = .ok (.agg (row .u8 Z)) wx := fun wx => by rw [hZ]; kernel_rfl
  have hB0 : Below w.heap.size w ((w.alloc (.cells (row .u8 k) 23)).alloc (.cells (row .u8 Z) 23)) := ((Below.refl _ _).alloc (Nat.le_refl _) _).alloc (by simp) _
  have HP := Veil.mk (fpass_bad n hn0)
  have hz1 : ¬ (row .u8 Z) = #[] := by intro h; have := congrArg Array.size h; rw [row_size] at this; simp at this; rw [this] at hZl; simp at hZl
  clear hZ hn0
  go_enter Tryz.func55, Tryz.ntmps55
  go_upto_region 1 with fail
  refine forget (p := fun y => Code.wp _ _ _ _ y) (fun W => Below w.heap.size w W) hB0 ?_
  clear hB0 hzv hz1
  rintro W hB
  have hn := HP.out W
  go_wp2_with (go_at_call 82; refine hn.mono ?_; rintro e w1 ⟨rfl, rfl⟩)
  exact bodyPost_gone ⟨rfl, hB⟩
def mayB (n : Int) : Bool := decide (1 ≤ n) && decide (n ≤ 256)
set_option maxHeartbeats 1000000 in
theorem mayNum_any (n : Int) (w : World) : Calls Tryz.prog 46 #[.int .u32 n] w fun e w' => e = .returned (.bool (mayB n)) ∧ w = w' := by
  by_cases h1 : n ≥ 1
  · by_cases h2 : n ≤ 256
    · have HR : Veil (mayB n = true) := ⟨by unfold mayB; have : 1 ≤ n := h1; simp [this, h2]⟩
      go_enter Tryz.func46, Tryz.ntmps46
      go_wp2
      go_ret
      exact ⟨ret_bC HR.out.symm, rfl⟩
    · have HR : Veil (mayB n = false) := ⟨by unfold mayB; simp [h2]⟩
      go_enter Tryz.func46, Tryz.ntmps46
      go_wp2
      go_ret
      exact ⟨ret_bC HR.out.symm, rfl⟩
  · have HR : Veil (mayB n = false) := ⟨by unfold mayB; have : ¬ 1 ≤ n := h1; simp [this]⟩
    go_enter Tryz.func46, Tryz.ntmps46
    go_wp2
    go_ret
    exact ⟨ret_bC HR.out.symm, rfl⟩
def fitsB (E : Ev) (F : Fr) : Bool := rightB E && ((E.da == F.author) && (E.ds == F.number))
theorem dot_built (a n : Int) (wx : World) : (Instr.build 28 #[(0, .int .u8 a), (1, .int .u32 n)]).run Tryz.prog wx = .ok (.agg (dotC a n).toArray) wx := run_build wx _ _ _ (by kernel_rfl)
set_option maxHeartbeats 4000000 in
theorem fits_any (E : Ev) (F : Fr) (hE : E.In) (hp : F.prev.length = 32) (hm : F.mac.length = 32) (w : World) :
    Calls Tryz.prog 54 #[.agg E.cells.toArray, .agg F.cells.toArray] w fun e w' => e = .returned (.bool (fitsB E F)) ∧ Below w.heap.size w w' := by
  have hA0 := (CellsAt.new w 76 E.cells).alloc (.cells F.cells.toArray 32)
  have hF0 := CellsAt.new (w.alloc (.cells E.cells.toArray 76)) 32 F.cells
  rw [World.size_alloc] at hF0
  have hB0 : Below w.heap.size w ((w.alloc (.cells E.cells.toArray 76)).alloc (.cells F.cells.toArray 32)) := ((Below.refl _ _).alloc (Nat.le_refl _) _).alloc (by simp) _
  have HR : Veil (∀ W, Calls Tryz.prog 86 #[.agg E.cells.toArray] W fun x w' => x = .returned (.bool (rightB E)) ∧ Below W.heap.size W w') := ⟨fun W => cright_any E W hE.plen hE.da.1 hE.ds.1 (by have := hE.ds.2; omega) hE.pa.1 hE.ps.1⟩
  have hiE := sizeEvZ E hE.plen
  have HF : Veil (∀ W, CellsAt W w.heap.size 76 E.cells → CellsAt W (w.heap.size + 1) 32 F.cells → W.rangeAt w.heap.size 0 (dotC E.da E.ds) ∧ W.cell? ⟨w.heap.size + 1, 0, none⟩ = some (.int .u8 F.author) ∧ W.cell? ⟨w.heap.size + 1, 1, none⟩ = some (.int .u32 F.number)) := ⟨fun W h1 h2 => by
    obtain ⟨_, q0, q1, _⟩ := fr_parts F hp hm
    refine ⟨?_, (h2.cell 0).trans q0, (h2.cell 1).trans q1⟩
    have := h1.range 0 2
    rw [ev_dot E hE.plen] at this
    exact this⟩
  have HEQ : Veil (∀ wx, (binOp .eql 28 (.agg (dotC E.da E.ds).toArray) (.agg (dotC F.author F.number).toArray)).run Tryz.prog wx = .ok (.bool ((E.da == F.author) && (E.ds == F.number))) wx) := ⟨fun wx => dot_eql E.da E.ds F.author F.number wx⟩
  have HBD := Veil.mk (dot_built F.author F.number)
  have HH : Veil (fitsB E F = (rightB E && ((E.da == F.author) && (E.ds == F.number)))) := ⟨rfl⟩
  have iD : (Tryz.prog.info? 28).map (·.size) = some (dotC E.da E.ds).length := sizeDot
  clear hE hp hm
  generalize fitsB E F = FB at HH ⊢
  generalize ((E.da == F.author) && (E.ds == F.number)) = eb at HEQ HH
  generalize rightB E = rb at HR HH
  generalize dotC E.da E.ds = DE at HF HEQ iD
  generalize dotC F.author F.number = DF at HEQ HBD
  generalize E.cells = EC at hA0 hF0 hB0 HR HF hiE ⊢
  generalize F.cells = FC at hA0 hF0 hB0 HF ⊢
  generalize F.author = FA at HF HBD
  generalize F.number = FN at HF HBD
  have uD := Tryz.underlying28
  have uE := Tryz.underlying76
  go_enter Tryz.func54, Tryz.ntmps54
  go_upto_region 1 with fail
  refine forget (p := fun y => Code.wp _ _ _ _ y) (fun W => Below w.heap.size w W ∧ CellsAt W w.heap.size 76 EC ∧ CellsAt W (w.heap.size + 1) 32 FC) ⟨hB0, hA0, hF0⟩ ?_
  clear hB0 hA0 hF0
  rintro W ⟨hB, hA, hF⟩
  have hr := HR.out W
  have rE := hA.wholeM
  have heq := HEQ.out
  cases rb
  · clear heq
    go_wp2_with (first
      | (refine wpList_ldv rfl 76 _ rfl _ _ rfl EC rE uE rfl hiE ?_)
      | (go_at_call 86; refine hr.mono ?_; rintro e w1 ⟨rfl, hb1⟩))
    go_ret
    exact ⟨by rw [HH.out]; rfl, hB.trans (hb1.mono hB.size)⟩
  · go_wp2_with (first
      | (refine wpList_ldv rfl 76 _ rfl _ _ rfl EC rE uE rfl hiE ?_)
      | (go_at_call 86; refine hr.mono ?_; rintro e w1 ⟨rfl, hb1⟩; obtain ⟨rD, c0, c1⟩ := HF.out w1 (hA.farM hb1) (hF.farM hb1); clear rE)
      | (refine wpList_ldgv (by kernel_rfl) 28 _ rfl w.heap.size 0 rfl DE rD uD rfl iD ?_)
      | (refine wpList_bldgT (by kernel_rfl) 28 _ rfl #[(0, .int .u8 FA), (1, .int .u32 FN)] (by first | rfl | kernel_rfl) _ (HBD.out _) ?_))
    go_ret
    exact ⟨by rw [HH.out]; cases eb <;> rfl, hB.trans (hb1.mono hB.size)⟩
def ftagL (seed : List Int) (F : Fr) (ws : List Wp) (body : List Int) : List Int := S.tagL (macL seed F.author) (openL F ws ++ body)
theorem ftagL_length (seed : List Int) (F : Fr) (ws : List Wp) (body : List Int) : (ftagL seed F ws body).length = 32 := S.tagL_length _ _
theorem ownB_block {W : World} {base : Nat} {v : Value} {z : List Int} (h : OwnB W base v z) (k : Nat) (hk : v.ownBlock = some k) : base ≤ k := by
  rcases h.2 with ⟨rfl, _⟩ | ⟨g, cap, cur, rfl, h2, _⟩
  · cases hk
  · obtain rfl : g = k := by simpa [Value.ownBlock] using hk
    exact h2
structure FrOk (W : World) (F : Fr) (xw : Option Addr) (lw cw : Nat) (ws : List Wp) (xb : Option Addr) (lb cb : Nat) (body : List Int) : Prop where
  prev : F.prev.length = 32
  mac : F.mac.length = 32
  wraps : F.wraps = .slice xw lw cw
  body_ : F.body = .slice xb lb cb
  hw : WrapsAt W xw lw cw ws
  hb : Bytes W xb lb cb body
theorem FrOk.below {W W' : World} {F : Fr} {xw : Option Addr} {lw cw : Nat} {ws : List Wp} {xb : Option Addr} {lb cb : Nat} {body : List Int} (h : FrOk W F xw lw cw ws xb lb cb body) (hb : Below W.heap.size W W') : FrOk W' F xw lw cw ws xb lb cb body := ⟨h.prev, h.mac, h.wraps, h.body_, h.hw.below hb, h.hb.below hb⟩
section
variable (base H : Nat) (own : Int) (seed : List Int) (b : Nat) (M : Int → Int → Option (List Int)) (v : Value) (L : List (Int × Int)) (w : World)
set_option maxHeartbeats 8000000 in
theorem ftag_any (hR : RingAt w base H own seed b M v L) (hKT : S.KTab w) (F : Fr) (xw : Option Addr) (lw cw : Nat) (ws : List Wp) (xb : Option Addr) (lb cb : Nat) (body : List Int) (hF : FrOk w F xw lw cw ws xb lb cb body) (hl : lw ≤ 64) (hlb : lb ≤ 5000) :
    Calls Tryz.prog 48 #[.pointer (some ⟨H, 0, none⟩), .agg F.cells.toArray] w fun e w' => e = .returned (.agg (row .u8 (ftagL seed F ws body))) ∧ Below w.heap.size w w' := by
  obtain ⟨f70, f0, _, _, _, _, f37, _⟩ := fr_parts F hF.prev hF.mac
  rw [hF.body_] at f37
  have iF : (Tryz.prog.info? 32).map (·.size) = some F.cells.length := by rw [f70]; exact sizeFrame
  obtain ⟨Z, hZl, hZ⟩ : ∃ Z : List Int, Z.length = 32 ∧ Z = List.replicate 32 0 := ⟨_, rfl, rfl⟩
  have hzv : ∀ wx, (zeroValue 23).run Tryz.prog wx = .ok (.agg (row .u8 Z)) wx := fun wx => by rw [hZ]; kernel_rfl
  have hz1 : ¬ (row .u8 Z) = #[] := by intro h; have := congrArg Array.size h; rw [row_size] at this; simp at this; rw [this] at hZl; simp at hZl
  clear hZ
  have hA0 := (CellsAt.new w 32 F.cells).alloc (.cells (row .u8 Z) 23)
  have hZ0 := Holds.new (w.alloc (.cells F.cells.toArray 32)) .u8 23 Z
  rw [World.size_alloc] at hZ0
  have hB0 : Below w.heap.size w ((w.alloc (.cells F.cells.toArray 32)).alloc (.cells (row .u8 Z) 23)) := ((Below.refl _ _).alloc (Nat.le_refl _) _).alloc (by simp) _
  have HMK : Veil (∀ W, Below w.heap.size w W → Calls Tryz.prog 83 #[.pointer (some ⟨H, 0, none⟩), .int .u8 F.author] W fun e w' => e = .returned (.agg (row .u8 (macL seed F.author))) ∧ Below W.heap.size W w') := ⟨fun W hb => rMac_any base H own seed b M v L W F.author (hR.far hb) (hKT.below hb)⟩
  have HOP : Veil (∀ W, Below w.heap.size w W → Calls Tryz.prog 61 #[.agg F.cells.toArray] W fun e w' => ∃ v, e = .returned v ∧ OwnB w' W.heap.size v (openL F ws) ∧ Below W.heap.size W w') := ⟨fun W hb => Open_any F xw lw cw ws W hF.prev hF.mac hF.wraps (hF.hw.below hb) hl⟩
  have HBY : Veil (∀ W, Below w.heap.size w W → Bytes W xb lb cb body) := ⟨fun W hb => hF.hb.below hb⟩
  have hol : (openL F ws).length ≤ 4000 := by
    rw [openL_length F ws hF.prev hF.hw.ok]; have := hF.hw.len_eq; omega
  have HBL : Veil (body.length ≤ 5000) := ⟨by have := hF.hb.len_eq; omega⟩
  have hML : (macL seed F.author).length = 32 := derL_length _ _
  have HHM : Veil (∀ W g x n c, Below w.heap.size w W → Holds W g .u8 23 (macL seed F.author) → Bytes W x n c (openL F ws ++ body) → n ≤ 100000 → Calls Tryz.prog 84 #[.slice (some ⟨g, 0, none⟩) 32 32, .slice x n c] W fun e w' => e = .returned (.agg (row .u8 (ftagL seed F ws body))) ∧ Below W.heap.size W w') := ⟨fun W g x n c hb hk hby hn => S.hmac_any (some ⟨g, 0, none⟩) 32 32 (macL seed F.author) x n c _ W (hk.bytes (by rw [hML]) (by rw [hML]; omega)).toS (by omega) hby.toS (by omega) (hKT.below hb)⟩
  have hTl := ftagL_length seed F ws body
  have HTL : Veil (∀ q, ftagL seed F ws body = q → q = ftagL seed F ws body) := ⟨fun q h => h.symm⟩
  obtain ⟨TG, hTG⟩ : ∃ q, ftagL seed F ws body = q := ⟨_, rfl⟩
  rw [hTG] at HHM hTl ⊢
  obtain ⟨OL, hOL⟩ : ∃ q, openL F ws = q := ⟨_, rfl⟩
  rw [hOL] at HOP HHM hol
  obtain ⟨MK, hMK⟩ : ∃ q, macL seed F.author = q := ⟨_, rfl⟩
  rw [hMK] at HMK HHM hML
  have HF0 : Veil (∀ W, CellsAt W w.heap.size 32 F.cells → W.cell? ⟨w.heap.size, 0, none⟩ = some (.int .u8 F.author) ∧ W.rangeAt w.heap.size 0 F.cells ∧ W.cell? ⟨w.heap.size, 37, none⟩ = some (.slice xb lb cb)) := ⟨fun W h => ⟨(h.cell 0).trans f0, h.wholeM, (h.cell 37).trans f37⟩⟩
  generalize F.author = FA at HMK HF0
  generalize F.cells = FC at hA0 hZ0 hB0 HOP HF0 iF ⊢
  clear hTG hOL hMK hF hR hKT f70 f0 f37 HTL
  have uF := Tryz.underlying32
  go_enter Tryz.func48, Tryz.ntmps48
  go_upto_region 1 with fail
  refine forget (p := fun y => Code.wp _ _ _ _ y) (fun W => Below w.heap.size w W ∧ CellsAt W w.heap.size 32 FC ∧ Holds W (w.heap.size + 1) .u8 23 Z) ⟨hB0, hA0, hZ0⟩ ?_
  clear hB0 hA0 hZ0
  rintro W ⟨hB, hA, hZ⟩
  obtain ⟨c0, -, -⟩ := HF0.out W hA
  have hmk := HMK.out W hB
  go_upto_region 2 with (first
    | (go_at_call 83; refine hmk.mono ?_; rintro e w1 ⟨rfl, hb1⟩; have hk1 := Holds.new w1 .u8 23 Z; clear hmk)
    | (refine wpList_st rfl 23 _ _ rfl _ rfl rfl hk1 (by rw [hML]; exact sizeKeyD) (by rw [hZl, hML]) ?_))
  have hb2 : Below w1.heap.size w1 ((w1.alloc (.cells (row .u8 Z) 23)).setRow w1.heap.size (row .u8 MK)) := below_setRow ((Below.refl _ _).alloc (Nat.le_refl _) _) (Nat.le_refl _) _
  have hB1 := hB.trans (hb1.mono hB.size)
  refine forget (p := fun y => Code.wp _ _ _ _ y) (fun V => Below w.heap.size w V ∧ CellsAt V w.heap.size 32 FC ∧ Holds V (w.heap.size + 1) .u8 23 Z ∧ Holds V w1.heap.size .u8 23 MK) ⟨hB1.trans (hb2.mono hB1.size), (hA.farM hb1).farM hb2, (hZ.below hb1 hZ.lt).below hb2 (hZ.below hb1 hZ.lt).lt, hk1.setRow _⟩ ?_
  have hwZ := (hZ.below hb1 hZ.lt).lt
  clear hb2 hB1 hk1 hb1 c0 hB hA hZ HMK hzv hz1
  obtain ⟨g, hg⟩ : ∃ q, w1.heap.size = q := ⟨_, rfl⟩
  rw [hg] at hwZ ⊢
  clear hg
  clear w1 W
  rintro W ⟨hB, hA, hZ, hK⟩
  have hBd := hB.drew
  have hAd := hA.congr (w' := W.drew) rfl
  have hb0 : Below W.heap.size W W.drew := (Below.refl _ _).drew
  have hZd := hZ.below hb0 hZ.lt
  have hKd := hK.below hb0 hK.lt
  refine wp_region_gateT (fun w' => w'.rangeAt w.heap.size 0 FC ∧ w'.cell? ⟨w.heap.size, 37, none⟩ = some (.slice xb lb cb)) (fun _ => True) 99 (by kernel_rfl) ?_
  have hT : (fun w' : World => w'.rangeAt w.heap.size 0 FC ∧ w'.cell? ⟨w.heap.size, 37, none⟩ = some (.slice xb lb cb)) W.drew := (HF0.out _ hAd).2
  have hS := trivial
  refine gh 0 ?_ rfl (by kernel_rfl) (fun _ _ _ h => h) hT hS ?_ ?_
  rotate_left
  · intro wx hSw; go_split_ands; go_simp; try with_reducible rfl
  simp only [Act.put, gA, gS, gZ, sI, sZ, sS]
  refine gh 3 ?_ rfl (by kernel_rfl) (fun _ _ _ h => h) hT hS ?_ ?_
  rotate_left
  · intro wx hSw; go_split_ands; go_simp; try with_reducible rfl
  simp only [Act.put, gA, gS, gZ, sI, sZ, sS]
  refine gh 4 ?_ rfl (by kernel_rfl) (fun _ _ _ h => h) hT hS ?_ ?_
  rotate_left
  · intro wx hSw; go_split_ands; go_simp; try with_reducible rfl
  simp only [Act.put, gA, gS, gZ, sI, sZ, sS]
  refine wpAnyT_load (i := 1) (dst := some 11) (ty := 32) (x := .tmp 3) (b := w.heap.size) (o := (0)) (cs := FC) (by kernel_rfl) (by kernel_rfl) (by kernel_rfl) (by kernel_rfl) (by kernel_rfl) (fun _ _ _ h => h) (by kernel_rfl) hT (fun _ => hS) (by kernel_rfl) (fun _ h => h.1) uF rfl iF ?_
  simp only [Act.put, gA, gS, gZ, sI, sZ, sS]
  refine wpAnyT_one (i := 2) rfl (by kernel_rfl) (by kernel_rfl) (fun K hK => ?_)
  refine wpx_call _ _ (by kernel_rfl) ((HOP.out W.drew hBd).mono ?_)
  rintro e w2 ⟨v2, rfl, ho2, hb2⟩
  refine ⟨_, rfl, ?_⟩
  have hB2 := hBd.trans (hb2.mono hBd.size)
  have hA2 := hAd.farM hb2
  have hZ2 := hZd.below hb2 hZd.lt
  have hK2 := hKd.below hb2 hKd.lt
  replace hT : (fun w' : World => w'.rangeAt w.heap.size 0 FC ∧ w'.cell? ⟨w.heap.size, 37, none⟩ = some (.slice xb lb cb)) w2 := (HF0.out _ hA2).2
  refine hK.out _ _ hT (fun _ => hS) ?_
  clear hK K
  try simp only [Act.put, gA, gS, gZ, sI, sZ, sS]
  refine wpAnyT_one (i := 5) rfl (by kernel_rfl) (by kernel_rfl) (fun K hK => ?_)
  refine wp_appA _ _ rfl W.drew.heap.size v2 OL rfl ho2 xb lb cb body rfl (HBY.out w2 hB2) (by omega) hb2.size ?_
  intro v3 w3 ho3 hg3
  have hb3 : Below W.drew.heap.size W.drew w3 := hb2.grown hg3 hb2.size (fun k hk => (ownB_block ho2 k hk))
  have hB3 := hBd.trans (hb3.mono hBd.size)
  have hA3 := hAd.farM hb3
  have hZ3 := hZd.below hb3 hZd.lt
  have hK3 := hKd.below hb3 hKd.lt
  obtain ⟨x3, n3, c3, rfl, hn3⟩ := ho3.isSlice
  replace hT : (fun w' : World => w'.rangeAt w.heap.size 0 FC ∧ w'.cell? ⟨w.heap.size, 37, none⟩ = some (.slice xb lb cb)) w3 := (HF0.out _ hA3).2
  have hhm := HHM.out w3 g x3 n3 c3 hB3 hK3 ho3.bytes.2 (by rw [hn3, List.length_append]; have := HBL.out; omega)
  refine hK.out _ _ hT (fun _ => hS) ?_
  clear hK K
  try simp only [Act.put, gA, gS, gZ, sI, sZ, sS]
  refine wpAnyT_one (i := 6) rfl (by kernel_rfl) (by kernel_rfl) (fun K hK => ?_)
  refine wpx_call _ _ (by kernel_rfl) (hhm.mono ?_)
  rintro e w4 ⟨rfl, hb4⟩
  refine ⟨_, rfl, ?_⟩
  have hB4 := hB3.trans (hb4.mono hB3.size)
  have hA4 := hA3.farM hb4
  have hZ4 := hZ3.below hb4 hZ3.lt
  replace hT : (fun w' : World => w'.rangeAt w.heap.size 0 FC ∧ w'.cell? ⟨w.heap.size, 37, none⟩ = some (.slice xb lb cb)) w4 := (HF0.out _ hA4).2
  refine hK.out _ _ hT (fun _ => hS) ?_
  clear hK K
  try simp only [Act.put, gA, gS, gZ, sI, sZ, sS]
  refine wpAnyT_one (i := 7) rfl (by kernel_rfl) (by kernel_rfl) (fun K hK => ?_)
  refine wp_stG 23 _ _ rfl (w.heap.size + 1) rfl rfl hZ4 (by rw [hTl]; exact sizeKeyD) (by rw [hZl, hTl]) ?_
  have hA5 : CellsAt (w4.setRow (w.heap.size + 1) (row .u8 TG)) w.heap.size 32 FC := hA4.setRowM _ (by omega)
  replace hT : (fun w' : World => w'.rangeAt w.heap.size 0 FC ∧ w'.cell? ⟨w.heap.size, 37, none⟩ = some (.slice xb lb cb)) (w4.setRow (w.heap.size + 1) (row .u8 TG)) := (HF0.out _ hA5).2
  refine hK.out _ _ hT (fun _ => hS) ?_
  clear hK K
  try simp only [Act.put, gA, gS, gZ, sI, sZ, sS]
  refine wpAnyT_done (by kernel_rfl) ?_ _
  have HE : Veil (Holds (w4.setRow (w.heap.size + 1) (row .u8 TG)) (w.heap.size + 1) .u8 23 TG ∧ Below w.heap.size w (w4.setRow (w.heap.size + 1) (row .u8 TG))) := ⟨hZ4.setRow _, below_setRow hB4 (by omega) _⟩
  clear hT hS hA5 hA4 hZ4 hB4 hb4 hhm ho3 hA3 hZ3 hK3 hB3 hb3 hg3 ho2 hb2 hB2 hA2 hZ2 hK2 hBd hAd hb0 hZd hKd hB hA hZ hK
  go_wp2
  refine bodyPost_ret (results_holds (Tryz.results48) _ rfl HE.out.1 Tryz.underlying23 sizeKeyD hTl) rfl ⟨rfl, HE.out.2⟩
end
end Go.Proofs.YtlhajphjppjlgaaGreatDoor
