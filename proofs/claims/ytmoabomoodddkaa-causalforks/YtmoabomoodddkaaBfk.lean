/- The program's Fork of a buffer. -/
import Derived.Shelf.SlMaps.Clone
import Derived.Test.YtmoabomoodddkaaRb5
import Derived.Test.YtmoabomoodddkaaBt
namespace Go.Proofs.Ytmoabomoodddkaa
open Go.RowKit Go.Shelf
set_option maxRecDepth 20000
set_option linter.unusedSimpArgs false
theorem mapDotEv : Try.prog.underlying 58 = some (.map 26 37) := by kernel_rfl
set_option maxHeartbeats 4000000 in
theorem wClone_any (b : Nat) (L : List Ev) (w : World) (hW : WaitAt w b L) :
    Calls Try.prog 46 #[.map (some b)] w fun e w' => e = .returned (.map (some w.heap.size)) ∧ WaitAt w' w.heap.size L ∧ Below w.heap.size w w' := by
  obtain ⟨D, ⟨es, clock, hb, hrest⟩, hD⟩ := hW
  have hq := fun w => run_eql_map_nil_sl (P := Try.prog) w 58 _ _ (some b) mapDotEv
  go_enter Try.func46, Try.ntmps46
  go_wp2
  rw [run_callFunc_extern Try.func57 (by kernel_rfl) (by kernel_rfl) (by kernel_rfl) (e := Extern.MapsClone.clone) (by kernel_rfl), run_maps_clone_sl w 58 hb]
  simp only [Result.andThen]
  rw [Oper.upon_value]
  go_wp2
  rw [run_typeAssert_map_sl _ 58 _ _ _ _ mapDotEv]
  simp only [Result.andThen]
  rw [Oper.upon_value]
  go_wp2
  go_ret
  exact ⟨rfl, ⟨D, ⟨es, clock, heap_alloc_new w _, hrest⟩, hD⟩, (Below.refl _ _).alloc (Nat.le_refl _) _⟩
theorem bufBuilt (hs : List Value) (hl : hs.length = 8) (b : Nat) (w : World) : (Instr.build 60 #[(0, .agg hs.toArray), (1, .map (some b))]).run Try.prog w = .ok (.agg (hs ++ [Value.map (some b)]).toArray) w := by
  have := built_tile (P := Try.prog) (t := 60) (n := 9) (places := [(0, 8), (8, 1)]) (by kernel_rfl) Try.underlying60 (by kernel_rfl) [(0, .agg hs.toArray, hs), (1, .map (some b), [.map (some b)])] ⟨by rw [hl]; rfl, rfl, by rw [hl]; rfl, rfl, trivial⟩ (by simp [tileL, hl]) w
  simpa [tileL] using this
set_option maxHeartbeats 4000000 in
theorem bfork_any (H b : Nat) (S : List Int) (L : List Ev) (w : World) (hC : BufC w H b S L) :
    Calls Try.prog 32 #[.pointer (some ⟨H, 0, none⟩)] w fun e w' => ∃ H' b', e = .returned (.pointer (some ⟨H', 0, none⟩)) ∧ BufC w' H' b' S L ∧ Below w.heap.size w w' ∧ w.heap.size ≤ H' ∧ w.heap.size ≤ b' := by
  have HS : Veil (∀ W, Below w.heap.size w W → (fun w' : World => w'.cell? ⟨H, 8, none⟩ = some (.map (some b)) ∧ w'.rangeAt H 0 (S.map (Value.int .u32))) W) := ⟨fun W hb => ⟨(hC.far hb).mapCell, (hC.far hb).seenR⟩⟩
  have HM : Veil (∀ W, Below w.heap.size w W → Calls Try.prog 46 #[.map (some b)] W fun e w' => e = .returned (.map (some W.heap.size)) ∧ WaitAt w' W.heap.size L ∧ Below W.heap.size W w') := ⟨fun W hb => wClone_any b L W (hC.far hb).wait⟩
  have iV : (Try.prog.info? 24).map (·.size) = some (S.map (Value.int .u32)).length := by rw [List.length_map, hC.len]; exact sizeV8c
  have uV := Try.underlying24
  have hl8 : (S.map (Value.int .u32)).length = 8 := by rw [List.length_map, hC.len]
  have HCR : Veil (S.length = 8 ∧ ∀ x ∈ S, 0 ≤ x ∧ x ≤ 4294967295) := ⟨hC.len, hC.rng⟩
  obtain ⟨SV, hSV⟩ : ∃ SV, S.map (Value.int .u32) = SV := ⟨_, rfl⟩
  rw [hSV] at iV HS hl8
  have HSV := Veil.mk hSV
  clear hSV hC
  go_enter Try.func32, Try.ntmps32
  go_upto_region 3 with fail
  refine wp_region_gate (fun w' => w'.cell? ⟨H, 8, none⟩ = some (.map (some b)) ∧ w'.rangeAt H 0 SV) 11 (by kernel_rfl) ?_
  have hB0 : Below w.heap.size w w.drew := (Below.refl _ _).drew
  have hS := HS.out w.drew hB0
  refine wpAnyG_any (i := 0) (v := ?_) rfl (by kernel_rfl) (by kernel_rfl) (by kernel_rfl) (fun _ _ _ h => h) (by kernel_rfl) (fun _ => hS) (by kernel_rfl) ?_ ?_
  rotate_left
  · intro _; go_simp; try with_reducible rfl
  simp only [Act.put, List.getElem_toArray, List.getElem_cons_succ, List.getElem_cons_zero, List.setIfInBounds_toArray, List.set_cons_zero, List.set_cons_succ]
  refine wpAnyG_any (i := 1) (v := ?_) rfl (by kernel_rfl) (by kernel_rfl) (by kernel_rfl) (fun _ _ _ h => h) (by kernel_rfl) (fun _ => hS) (by kernel_rfl) ?_ ?_
  rotate_left
  · intro _; go_simp; try with_reducible rfl
  simp only [Act.put, List.getElem_toArray, List.getElem_cons_succ, List.getElem_cons_zero, List.setIfInBounds_toArray, List.set_cons_zero, List.set_cons_succ]
  refine wpAnyG_any (i := 2) (v := ?_) rfl (by kernel_rfl) (by kernel_rfl) (by kernel_rfl) (fun _ _ _ h => h) (by kernel_rfl) (fun _ => hS) (by kernel_rfl) ?_ ?_
  rotate_left
  · intro _; go_simp; try with_reducible rfl
  simp only [Act.put, List.getElem_toArray, List.getElem_cons_succ, List.getElem_cons_zero, List.setIfInBounds_toArray, List.set_cons_zero, List.set_cons_succ]
  refine wpAnyG_any (i := 4) (v := ?_) rfl (by kernel_rfl) (by kernel_rfl) (by kernel_rfl) (fun _ _ _ h => h) (by kernel_rfl) (fun _ => hS) (by kernel_rfl) ?_ ?_
  rotate_left
  · intro _; go_simp; try with_reducible rfl
  simp only [Act.put, List.getElem_toArray, List.getElem_cons_succ, List.getElem_cons_zero, List.setIfInBounds_toArray, List.set_cons_zero, List.set_cons_succ]
  refine wpAnyG_any (i := 5) (v := ?_) rfl (by kernel_rfl) (by kernel_rfl) (by kernel_rfl) (fun _ _ _ h => h) (by kernel_rfl) (fun _ => hS) (by kernel_rfl) ?_ ?_
  rotate_left
  · intro _; go_simp; try with_reducible rfl
  simp only [Act.put, List.getElem_toArray, List.getElem_cons_succ, List.getElem_cons_zero, List.setIfInBounds_toArray, List.set_cons_zero, List.set_cons_succ]
  refine wpAnyG_any (i := 6) (v := ?_) rfl (by kernel_rfl) (by kernel_rfl) (by kernel_rfl) (fun _ _ _ h => h) (by kernel_rfl) (fun _ => hS) (by kernel_rfl) ?_ ?_
  rotate_left
  · intro _; go_simp; try with_reducible rfl
  simp only [Act.put, List.getElem_toArray, List.getElem_cons_succ, List.getElem_cons_zero, List.setIfInBounds_toArray, List.set_cons_zero, List.set_cons_succ]
  refine wpAnyG_read (i := 7) (v := ?_) rfl (by kernel_rfl) (by kernel_rfl) (by kernel_rfl) (fun _ _ _ h => h) (by kernel_rfl) (by kernel_rfl) (by kernel_rfl) hS (by kernel_rfl) ?_ ?_
  rotate_left
  · intro wx hSw; go_split_ands; go_simp; try with_reducible rfl
  simp only [Act.put, List.getElem_toArray, List.getElem_cons_succ, List.getElem_cons_zero, List.setIfInBounds_toArray, List.set_cons_zero, List.set_cons_succ]
  refine wpAnyG_load (i := 3) (dst := some 8) (ty := 24) (x := .tmp 7) (b := H) (o := (0)) (cs := SV) (by kernel_rfl) (by kernel_rfl) (by kernel_rfl) (by kernel_rfl) (by kernel_rfl) (fun _ _ _ h => h) (by kernel_rfl) (by kernel_rfl) (by kernel_rfl) hS (by kernel_rfl) (fun _ h => h.2) uV rfl iV ?_
  simp only [Act.put, List.getElem_toArray, List.getElem_cons_succ, List.getElem_cons_zero, List.setIfInBounds_toArray, List.set_cons_zero, List.set_cons_succ]
  have hm := HM.out w.drew hB0
  refine wpAnyG_one (i := 8) rfl (by kernel_rfl) (by kernel_rfl) (fun K hK => ?_)
  refine wpx_call _ _ (by kernel_rfl) (hm.mono ?_)
  rintro e w1 ⟨rfl, hM1, hb1⟩
  refine ⟨_, rfl, ?_⟩
  have hB1 := hB0.trans hb1
  replace hS := HS.out w1 hB1
  refine hK.out _ _ (fun _ => hS) ?_
  clear hK K
  try simp only [Act.put, List.getElem_toArray, List.getElem_cons_succ, List.getElem_cons_zero, List.setIfInBounds_toArray, List.set_cons_zero, List.set_cons_succ]
  refine wpAnyG_read (i := 9) (v := .agg (SV ++ [Value.map (some w.heap.size)]).toArray) rfl (by kernel_rfl) (by kernel_rfl) (by kernel_rfl) (fun _ _ _ h => h) (by kernel_rfl) (by kernel_rfl) (by kernel_rfl) hS (by kernel_rfl) (fun wx h => execBuildT 60 _ rfl #[(0, .agg SV.toArray), (1, .map (some w.heap.size))] (by kernel_rfl) (bufBuilt SV hl8 w.heap.size wx)) ?_
  simp only [Act.put, List.getElem_toArray, List.getElem_cons_succ, List.getElem_cons_zero, List.setIfInBounds_toArray, List.set_cons_zero, List.set_cons_succ]
  refine wpAnyG_one (i := 10) rfl (by kernel_rfl) (by kernel_rfl) (fun K hK => ?_)
  go_simp
  have hb3 : Below w1.heap.size w1 (w1.alloc (.cells (SV ++ [Value.map (some w.heap.size)]).toArray 60)) := (Below.refl _ _).alloc (Nat.le_refl _) _
  have hD3 := CellsAt.new w1 60 (SV ++ [Value.map (some w.heap.size)])
  have hB3 := hB1.trans (hb3.mono hB1.size)
  have hM3 := hM1.congr (hb3.block _ hM1.lt)
  replace hS := HS.out _ hB3
  refine hK.out _ _ (fun _ => hS) ?_
  clear hK K
  try simp only [Act.put, List.getElem_toArray, List.getElem_cons_succ, List.getElem_cons_zero, List.setIfInBounds_toArray, List.set_cons_zero, List.set_cons_succ]
  refine wpAnyG_one (i := 11) rfl (by kernel_rfl) (by kernel_rfl) (fun K hK => ?_)
  go_simp
  refine hK.out _ _ (fun h => absurd (show true = false from h) (by decide)) ?_
  clear hK K
  try simp only [Act.put, List.getElem_toArray, List.getElem_cons_succ, List.getElem_cons_zero, List.setIfInBounds_toArray, List.set_cons_zero, List.set_cons_succ]
  refine wpAnyG_done (by kernel_rfl) ?_ _
  have HE : Veil (CellsAt (w1.alloc (.cells (SV ++ [Value.map (some w.heap.size)]).toArray 60)) w1.heap.size 60 (SV ++ [Value.map (some w.heap.size)]) ∧ WaitAt (w1.alloc (.cells (SV ++ [Value.map (some w.heap.size)]).toArray 60)) w.heap.size L ∧ Below w.heap.size w (w1.alloc (.cells (SV ++ [Value.map (some w.heap.size)]).toArray 60))) := ⟨hD3, hM3, hB3⟩
  have hw1 := hB1.size
  clear hS HS hD3 hM3 hB3 hb3 hM1 hB1 hb1 hm HM hB0
  go_wp2
  go_ret
  obtain ⟨hD3, hM3, hB3⟩ := HE.out
  exact ⟨_, w.heap.size, rfl, ⟨by rw [HSV.out]; exact hD3, hM3, HCR.out.1, HCR.out.2⟩, hB3, hw1, Nat.le_refl _⟩
end Go.Proofs.Ytmoabomoodddkaa
