/- FugueNone, walked: what a tree that is no tree answers. -/
import Derived.Test.YtdkkenlehdblpaaFg24
import Derived.Test.YtdkkenlehdblpaaGoU
namespace Go.Proofs.Ytdkkenlehdblpaa
open Go.RowKit Go.Shelf
set_option maxRecDepth 20000
set_option linter.unusedSimpArgs false
theorem fins_nil (a s pa ps : Int) (b : Bool) (c : Int) (w : World) : Calls Try.prog 16 #[.pointer none, .agg #[.int .u8 a, .int .u32 s], .agg #[.int .u8 pa, .int .u32 ps], .bool b, .int .u8 c] w fun e w' => e = .returned (.int .i64 1) ∧ Below w.heap.size w w' := by
  have hB : Below w.heap.size w ((w.alloc (.cells #[.int .u8 a, .int .u32 s] 32)).alloc (.cells #[.int .u8 pa, .int .u32 ps] 32)) := ((Below.refl _ _).alloc (Nat.le_refl _) _).alloc (by simp) _
  go_enter Try.func16, Try.ntmps16
  go_wp2
  go_ret
  exact ⟨rfl, hB⟩
theorem fdel_nil (a s : Int) (w : World) : Calls Try.prog 25 #[.pointer none, .agg #[.int .u8 a, .int .u32 s]] w fun e w' => e = .returned (.int .i64 1) ∧ Below w.heap.size w w' := by
  have hB : Below w.heap.size w (w.alloc (.cells #[.int .u8 a, .int .u32 s] 32)) := (Below.refl _ _).alloc (Nat.le_refl _) _
  go_enter Try.func25, Try.ntmps25
  go_wp2
  go_ret
  exact ⟨rfl, hB⟩
theorem fhas_nil (a s : Int) (w : World) : Calls Try.prog 18 #[.pointer none, .agg #[.int .u8 a, .int .u32 s]] w fun e w' => e = .returned (.bool false) ∧ Below w.heap.size w w' := by
  have hB : Below w.heap.size w (w.alloc (.cells #[.int .u8 a, .int .u32 s] 32)) := (Below.refl _ _).alloc (Nat.le_refl _) _
  go_enter Try.func18, Try.ntmps18
  go_wp2
  go_ret
  exact ⟨rfl, hB⟩
theorem flen_nil (w : World) : Calls Try.prog 19 #[.pointer none] w fun e w' => e = .returned (.int .i64 0) ∧ Below w.heap.size w w' := by
  go_enter Try.func19, Try.ntmps19
  go_wp2
  go_ret
  exact ⟨rfl, Below.refl _ _⟩
theorem ffork_nil (w : World) : Calls Try.prog 22 #[.pointer none] w fun e w' => e = .returned (.pointer none) ∧ Below w.heap.size w w' := by
  go_enter Try.func22, Try.ntmps22
  go_wp2
  go_ret
  exact ⟨rfl, Below.refl _ _⟩
theorem forder_nil (w : World) : Calls Try.prog 21 #[.pointer none] w fun e w' => e = .returned (.slice none 0 0) ∧ Below w.heap.size w w' := by
  go_enter Try.func21, Try.ntmps21
  go_wp2
  go_ret
  exact ⟨rfl, Below.refl _ _⟩
theorem ftext_nil (w : World) : Calls Try.prog 14 #[.pointer none] w fun e w' => e = .returned (.slice none 0 0) ∧ Below w.heap.size w w' := by
  have hB : Below w.heap.size w (w.alloc (.cells #[.pointer none] 23)) := (Below.refl _ _).alloc (Nat.le_refl _) _
  refine (callsIn_wide (n := 9)).1 ?_
  refine callsIn_of_wp_marks Try.func14 rfl trivial ?_ rfl
  simp only [Try.ntmps14, List.size_toArray, List.length_cons, List.length_nil, Nat.reduceAdd, Nat.reduceSub, Array.replicate_succ, Array.replicate_zero, List.push_toArray, List.append_toArray, List.nil_append, List.cons_append]
  gi_wp2
  exact ⟨_, results_tmp (t := 2) rfl _ _ _, rfl, hB⟩
theorem fat_nil (i : Int) (w : World) : Calls Try.prog 24 #[.pointer none, .int .i64 i] w fun e w' => e = .returned (.tuple #[.agg #[.int .u8 0, .int .u32 0], .int .i64 1]) ∧ Below w.heap.size w w' := by
  refine (callsIn_wide (n := 9)).1 ?_
  refine callsIn_of_wp_marks Try.func24 rfl trivial ?_ rfl
  simp only [Try.ntmps24, List.size_toArray, List.length_cons, List.length_nil, Nat.reduceAdd, Nat.reduceSub, Array.replicate_succ, Array.replicate_zero, List.push_toArray, List.append_toArray, List.nil_append, List.cons_append]
  gi_wp2
  have hc4 := (CellsAt.new (w.alloc (.cells #[.int .i64 i] 3)) 32 [.int .u8 0, .int .u32 0]).alloc (.cells #[.int .i64 1] 37)
  have hc5 := CellsAt.new ((w.alloc (.cells #[.int .i64 i] 3)).alloc (.cells #[.int .u8 0, .int .u32 0] 32)) 37 [.int .i64 1]
  rw [World.size_alloc] at hc4
  rw [World.size_alloc, World.size_alloc] at hc5
  exact ⟨_, results_c2 (p := 4) (q := 5) rfl _ rfl rfl hc4 hc5 Try.underlying32 rfl sizeDot Try.isAgg37, rfl, (((Below.refl _ _).alloc (Nat.le_refl _) _).alloc (by simp) _).alloc (by simp; omega) _⟩
theorem fplace_nil (i : Int) (w : World) : Calls Try.prog 15 #[.pointer none, .int .i64 i] w fun e w' => e = .returned (.tuple #[.agg #[.int .u8 0, .int .u32 0], .bool false, .int .i64 1]) ∧ Below w.heap.size w w' := by
  have hB : Below w.heap.size w (w.alloc (.cells #[.int .u8 0, .int .u32 0] 32)) := (Below.refl _ _).alloc (Nat.le_refl _) _
  go_enter Try.func15, Try.ntmps15
  go_wp2
  refine bodyPost_ret (results_ctt (Try.results15) _ rfl rfl rfl (CellsAt.new w 32 [.int .u8 0, .int .u32 0]) Try.underlying32 rfl sizeDot) rfl ⟨rfl, hB⟩
set_option maxHeartbeats 8000000 in
theorem fno_walk (D : Dd8) (i : Int) (w : World) : Calls Try.prog 9 #[.agg D.cells.toArray, .int .i64 i] w fun e w' => e = .returned (.bool true) ∧ Below w.heap.size w w' := by
  obtain ⟨k, ⟨a, s⟩, ⟨pa, ps⟩, b, c⟩ := D
  simp only [Dd8.cells, encF, dotC, List.cons_append, List.nil_append]
  have hB : Below w.heap.size w (w.alloc (.cells #[.int .i64 k, .int .u8 a, .int .u32 s, .int .u8 pa, .int .u32 ps, .bool b, .int .u8 c] 34)) := (Below.refl _ _).alloc (Nat.le_refl _) _
  have hx0 := CellsAt.new w 34 [.int .i64 k, .int .u8 a, .int .u32 s, .int .u8 pa, .int .u32 ps, .bool b, .int .u8 c]
  go_enter Try.func9, Try.ntmps9
  go_upto_region 2 with fail
  refine forget (p := fun y => Code.wp _ _ _ _ y) (fun W => Below w.heap.size w W ∧ CellsAt W w.heap.size 34 [.int .i64 k, .int .u8 a, .int .u32 s, .int .u8 pa, .int .u32 ps, .bool b, .int .u8 c]) ⟨hB, hx0⟩ ?_
  clear hB hx0
  rintro W0 ⟨hB0, hx0⟩
  have ha := fat_nil i W0
  go_upto_region 3 with (go_at_call 24; refine ha.mono ?_; rintro e W1 ⟨rfl, hb1⟩; clear ha)
  have hB1 := hB0.trans (hb1.mono hB0.size)
  have hx1 := hx0.farM hb1
  refine forget (p := fun y => Code.wp _ _ _ _ y) (fun W => Below w.heap.size w W ∧ CellsAt W w.heap.size 34 [.int .i64 k, .int .u8 a, .int .u32 s, .int .u8 pa, .int .u32 ps, .bool b, .int .u8 c] ∧ CellsAt W W1.heap.size 32 [.int .u8 0, .int .u32 0]) ⟨hB1.alloc hB1.size _, hx1.alloc _, CellsAt.new W1 32 [.int .u8 0, .int .u32 0]⟩ ?_
  generalize W1.heap.size = d6
  clear hB0 hx0 hb1 hB1 hx1 W0 W1
  rintro W2 ⟨hB2, hx2, hd2⟩
  have hp := fplace_nil i W2
  go_upto_region 4 with (go_at_call 15; refine hp.mono ?_; rintro e W3 ⟨rfl, hb3⟩; clear hp)
  have hB3 := hB2.trans (hb3.mono hB2.size)
  have hx3 := hx2.farM hb3
  have hd3 := hd2.farM hb3
  refine forget (p := fun y => Code.wp _ _ _ _ y) (fun W => Below w.heap.size w W ∧ CellsAt W w.heap.size 34 [.int .i64 k, .int .u8 a, .int .u32 s, .int .u8 pa, .int .u32 ps, .bool b, .int .u8 c] ∧ CellsAt W d6 32 [.int .u8 0, .int .u32 0] ∧ CellsAt W W3.heap.size 32 [.int .u8 0, .int .u32 0]) ⟨hB3.alloc hB3.size _, hx3.alloc _, hd3.alloc _, CellsAt.new W3 32 [.int .u8 0, .int .u32 0]⟩ ?_
  generalize W3.heap.size = d8
  clear hB2 hx2 hd2 hb3 hB3 hx3 hd3 W2 W3
  rintro W4 ⟨hB4, hx4, hd6, hd8⟩
  have HF : Veil (∀ W, Below W4.heap.size W4 W → Below w.heap.size w W ∧ (W.cell? ⟨w.heap.size, 1, none⟩ = some (.int .u8 a) ∧ W.cell? ⟨w.heap.size, 2, none⟩ = some (.int .u32 s)) ∧ (W.cell? ⟨w.heap.size, 3, none⟩ = some (.int .u8 pa) ∧ W.cell? ⟨w.heap.size, 4, none⟩ = some (.int .u32 ps) ∧ W.cell? ⟨w.heap.size, 5, none⟩ = some (.bool b) ∧ W.cell? ⟨w.heap.size, 6, none⟩ = some (.int .u8 c)) ∧ (W.cell? ⟨d6, 0, none⟩ = some (.int .u8 0) ∧ W.cell? ⟨d6, 1, none⟩ = some (.int .u32 0)) ∧ (W.cell? ⟨d8, 0, none⟩ = some (.int .u8 0) ∧ W.cell? ⟨d8, 1, none⟩ = some (.int .u32 0))) := ⟨fun W hb => ⟨hB4.trans (hb.mono hB4.size), ⟨(hx4.farM hb).cell 1, (hx4.farM hb).cell 2⟩, ⟨(hx4.farM hb).cell 3, (hx4.farM hb).cell 4, (hx4.farM hb).cell 5, (hx4.farM hb).cell 6⟩, ⟨(hd6.farM hb).cell 0, (hd6.farM hb).cell 1⟩, ⟨(hd8.farM hb).cell 0, (hd8.farM hb).cell 1⟩⟩⟩
  clear hB4 hx4 hd6 hd8
  have hlv := live8_any W4
  go_wp2_with (first
    | (go_at_call 12; refine hlv.mono ?_; rintro e W5 ⟨rfl, hb5⟩; obtain ⟨-, ⟨r1, r2⟩, ⟨r3, r4, r5, r6⟩, -, -⟩ := HF.out W5 hb5; have hin := fins_nil a s pa ps b c W5; clear hlv)
    | (go_at_call 16; refine hin.mono ?_; rintro e W6 ⟨rfl, hb6⟩; replace hb6 := hb5.trans (hb6.mono hb5.size); obtain ⟨-, ⟨s1, s2⟩, -, -, -⟩ := HF.out W6 hb6; have hde := fdel_nil a s W6; clear hin r1 r2 r3 r4 r5 r6)
    | (go_at_call 25; refine hde.mono ?_; rintro e W7 ⟨rfl, hb7⟩; replace hb7 := hb6.trans (hb7.mono hb6.size); have htx := ftext_nil W7; clear hde s1 s2)
    | (go_at_call 14; refine htx.mono ?_; rintro e W8 ⟨rfl, hb8⟩; replace hb8 := hb7.trans (hb8.mono hb7.size); have hor := forder_nil W8; clear htx)
    | (go_at_call 21; refine hor.mono ?_; rintro e W9 ⟨rfl, hb9⟩; replace hb9 := hb8.trans (hb9.mono hb8.size); obtain ⟨-, ⟨t1, t2⟩, -, -, -⟩ := HF.out W9 hb9; have hha := fhas_nil a s W9; clear hor)
    | (go_at_call 18; refine hha.mono ?_; rintro e W10 ⟨rfl, hb10⟩; replace hb10 := hb9.trans (hb10.mono hb9.size); obtain ⟨-, -, -, ⟨z1, z2⟩, ⟨y1, y2⟩⟩ := HF.out W10 hb10; have hle := flen_nil W10; clear hha t1 t2)
    | (go_at_call 19; refine hle.mono ?_; rintro e W11 ⟨rfl, hb11⟩; replace hb11 := hb10.trans (hb11.mono hb10.size); have hfo := ffork_nil W11; clear hle z1 z2 y1 y2)
    | (go_at_call 22; refine hfo.mono ?_; rintro e W12 ⟨rfl, hb12⟩; replace hb12 := hb11.trans (hb12.mono hb11.size); clear hfo))
  go_ret
  exact ⟨rfl, (HF.out _ hb12).1⟩
end Go.Proofs.Ytdkkenlehdblpaa

