/- Kfk -/
import Derived.Shelf.SlMaps.Clone
import Derived.Test.YtflkhkmejnpapaaGreatDoorK32
import Derived.Test.YtflkhkmejnpapaaGreatDoorK26
import Derived.Test.YtflkhkmejnpapaaGreatDoorK20
namespace Go.Proofs.YtflkhkmejnpapaaGreatDoor
open Go.RowKit Go.Shelf
set_option maxRecDepth 20000
set_option linter.unusedSimpArgs false
set_option maxHeartbeats 4000000 in
theorem kClone_any (b n : Nat) (M : Int → Int → Option Value) (w : World) (hM : MapAt w b n M) :
    Calls Tryz.prog 28 #[.map (some b)] w fun e w' => e = .returned (.map (some w.heap.size)) ∧ MapAt w' w.heap.size n M ∧ Below w.heap.size w w' := by
 obtain ⟨D, ⟨es, clock, hb, hrest⟩, hD⟩ := hM
 have hq := fun w => run_eql_map_nil_sl (P := Tryz.prog) w 60 _ _ (some b) mapDotKey
 go_enter Tryz.func28, Tryz.ntmps28
 go_wp2
 rw [run_callFunc_extern Tryz.func43 (by kernel_rfl) (by kernel_rfl) (by kernel_rfl) (e := Extern.MapsClone.clone) (by kernel_rfl), run_maps_clone_sl w 60 hb]
 simp only [Result.andThen]
 rw [Oper.upon_value]
 go_wp2
 rw [run_typeAssert_map_sl _ 60 _ _ _ _ mapDotKey]
 simp only [Result.andThen]
 rw [Oper.upon_value]
 go_wp2
 go_ret
 exact ⟨rfl, ⟨D, ⟨es, clock, heap_alloc_new w _, hrest⟩, hD⟩, (Below.refl _ _).alloc (Nat.le_refl _) _⟩
theorem ringBuilt4 (own : Int) (seed : List Int) (hs : seed.length = 32) (b : Nat) (v : Value) (hv : ∃ x n c, v = .slice x n c) (w : World) : (Instr.build 62 #[(0, .int .u8 own), (1, .agg (seed.map (Value.int .u8)).toArray), (2, .map (some b)), (3, v)]).run Tryz.prog w = .ok (.agg (ringC own seed b v).toArray) w := by
 obtain ⟨x, n, c, rfl⟩ := hv
 have := built_tile (P := Tryz.prog) (t := 62) (n := 35) (places := [(0, 1), (1, 32), (33, 1), (34, 1)]) (by kernel_rfl) Tryz.underlying62 (by kernel_rfl) [(0, .int .u8 own, [.int .u8 own]), (1, .agg (seed.map (Value.int .u8)).toArray, seed.map (Value.int .u8)), (2, .map (some b), [.map (some b)]), (3, .slice x n c, [.slice x n c])] ⟨rfl, rfl, by rw [List.length_map, hs]; rfl, rfl, by rw [List.length_map, hs]; rfl, rfl, by rw [List.length_map, hs]; rfl, rfl, trivial⟩ (by simp [tileL, hs]) w
 simpa [tileL, ringC] using this
theorem OwnD.lessF {w : World} {base base' : Nat} {v : Value} {L : List (Int × Int)} (h : OwnD w base v L) (hb : base' ≤ base) : OwnD w base' v L :=
 ⟨h.1, by rcases h.2 with q | ⟨g, cap, cur, h1, h2, q⟩; exact .inl q; exact .inr ⟨g, cap, cur, h1, Nat.le_trans hb h2, q⟩⟩
section
variable (base H : Nat) (own : Int) (seed : List Int) (b : Nat) (M : Int → Int → Option (List Int)) (v : Value) (L : List (Int × Int)) (w : World)
set_option maxHeartbeats 4000000 in
theorem rFork_any (hR : RingAt w base H own seed b M v L) :
    Calls Tryz.prog 8 #[.pointer (some ⟨H, 0, none⟩)] w fun e w' => ∃ H' b' v', e = .returned (.pointer (some ⟨H', 0, none⟩)) ∧ RingAt w' w.heap.size H' own seed b' M v' L ∧ Below w.heap.size w w' := by
 have hs32 := hR.seed32
 have HS : ∀ W, Below w.heap.size w W → (fun w' : World => w'.cell? ⟨H, 0, none⟩ = some (.int .u8 own) ∧ w'.rangeAt H 1 (seed.map (Value.int .u8)) ∧ w'.cell? ⟨H, 33, none⟩ = some (.map (some b)) ∧ w'.cell? ⟨H, 34, none⟩ = some v) W := fun W hb => by
  have h := (hR.far hb).box
  exact ⟨by have := h.cell 0; rw [ringC_own] at this; exact this, by have := h.range 1 32; rw [ringC_seed _ _ _ _ hs32] at this; exact this, by have := h.cell 33; rw [ringC_map _ _ _ _ hs32] at this; exact this, by have := h.cell 34; rw [ringC_added _ _ _ _ hs32] at this; exact this⟩
 have HM : Veil (∀ W, Below w.heap.size w W → Calls Tryz.prog 28 #[.map (some b)] W fun e w' => e = .returned (.map (some W.heap.size)) ∧ MapAt w' W.heap.size L.length (rowM M) ∧ Below W.heap.size W w') := ⟨fun W hb => kClone_any b L.length (rowM M) W (hR.far hb).map⟩
 have HP : Veil (∀ W, Below w.heap.size w W → Calls Tryz.prog 29 #[v] W fun e w' => ∃ v', e = .returned v' ∧ OwnD w' W.heap.size v' L ∧ Below W.heap.size W w') := ⟨fun W hb => dclone_any base v L W (hR.far hb).added (by have := hR.lenL; omega)⟩
 have HO : Veil ((∀ a s k, M a s = some k → k.length = 32) ∧ L.length ≤ 16) := ⟨hR.is32, hR.lenL⟩
 obtain ⟨x, c, rfl⟩ := hR.added.isSlice
 have uK := Tryz.underlying23
 have iS : (Tryz.prog.info? 23).map (·.size) = some (seed.map (Value.int .u8)).length := by rw [List.length_map, hs32]; exact sizeKeyK
 obtain ⟨n, hn⟩ : ∃ q, L.length = q := ⟨_, rfl⟩
 rw [hn] at HS HM HO HP
 have HN := Veil.mk hn
 clear hR hn
 go_enter Tryz.func8, Tryz.ntmps8
 go_upto_region 3 with fail
 refine wp_region_gateT (fun w' => w'.cell? ⟨H, 0, none⟩ = some (.int .u8 own) ∧ w'.rangeAt H 1 (seed.map (Value.int .u8)) ∧ w'.cell? ⟨H, 33, none⟩ = some (.map (some b)) ∧ w'.cell? ⟨H, 34, none⟩ = some (.slice x n c)) (fun _ => True) 99 (by kernel_rfl) ?_
 obtain ⟨V0, hV0⟩ : ∃ q, w.drew = q := ⟨_, rfl⟩
 have hB0 : Below w.heap.size w V0 := by rw [← hV0]; exact (Below.refl _ _).drew
 rw [hV0]
 clear hV0
 have hT := HS V0 hB0
 have hS : (fun _ : World => True) V0 := trivial
 refine ghA 0 _ hT hS ?_
 simp only [Act.put, gA, gS, gZ, sI, sZ, sS]
 refine ghA 1 _ hT hS ?_
 simp only [Act.put, gA, gS, gZ, sI, sZ, sS]
 refine ghA 2 _ hT hS ?_
 simp only [Act.put, gA, gS, gZ, sI, sZ, sS]
 refine ghA 3 _ hT hS ?_
 simp only [Act.put, gA, gS, gZ, sI, sZ, sS]
 refine ghA 4 _ hT hS ?_
 simp only [Act.put, gA, gS, gZ, sI, sZ, sS]
 refine ghA 5 _ hT hS ?_
 simp only [Act.put, gA, gS, gZ, sI, sZ, sS]
 refine ghA 6 _ hT hS ?_
 simp only [Act.put, gA, gS, gZ, sI, sZ, sS]
 refine ghA 8 _ hT hS ?_
 simp only [Act.put, gA, gS, gZ, sI, sZ, sS]
 refine ghA 9 _ hT hS ?_
 simp only [Act.put, gA, gS, gZ, sI, sZ, sS]
 refine ghA 10 _ hT hS ?_
 simp only [Act.put, gA, gS, gZ, sI, sZ, sS]
 refine ghA 11 _ hT hS ?_
 simp only [Act.put, gA, gS, gZ, sI, sZ, sS]
 refine ghA 13 _ hT hS ?_
 simp only [Act.put, gA, gS, gZ, sI, sZ, sS]
 refine ghA 14 _ hT hS ?_
 simp only [Act.put, gA, gS, gZ, sI, sZ, sS]
 refine ghA 15 _ hT hS ?_
 simp only [Act.put, gA, gS, gZ, sI, sZ, sS]
 refine ghA 16 _ hT hS ?_
 simp only [Act.put, gA, gS, gZ, sI, sZ, sS]
 refine gl 7 12 23 11 H 1 ((seed.map (Value.int .u8))) (by kernel_rfl) (by kernel_rfl) (by kernel_rfl) (fun _ _ _ h => h) hT hS (by kernel_rfl) (fun _ h => h.2.1) uK rfl iS ?_
 simp only [Act.put, gA, gS, gZ, sI, sZ, sS]
 refine wpAnyT_one (i := 12) rfl (by kernel_rfl) (by kernel_rfl) (fun K hK => ?_)
 refine wpx_call _ _ (by kernel_rfl) ((HM.out V0 hB0).mono ?_)
 rintro e w1 ⟨rfl, hM1, hb1⟩
 refine ⟨_, rfl, ?_⟩
 have hB1 := hB0.trans (hb1.mono hB0.size)
 replace hT := HS w1 hB1
 obtain ⟨bm, hbm⟩ : ∃ q, V0.heap.size = q := ⟨_, rfl⟩
 have hsz0 := hB0.size
 rw [hbm] at hM1 hsz0 ⊢
 clear hbm hb1
 refine hK.out _ _ hT (fun _ => hS) ?_
 clear hK K
 try simp only [Act.put, gA, gS, gZ, sI, sZ, sS]
 refine wpAnyT_one (i := 17) rfl (by kernel_rfl) (by kernel_rfl) (fun K hK => ?_)
 refine wpx_call _ _ (by kernel_rfl) ((HP.out w1 hB1).mono ?_)
 rintro e w2 ⟨v2, rfl, ho2, hb2⟩
 refine ⟨_, rfl, ?_⟩
 have hB2 := hB1.trans (hb2.mono hB1.size)
 have hM2 := hM1.congr (hb2.block _ hM1.lt)
 replace hT := HS w2 hB2
 have hvs : ∃ x n c, v2 = .slice x n c := by obtain ⟨x, c, h⟩ := ho2.isSlice; exact ⟨x, _, c, h⟩
 refine hK.out _ _ hT (fun _ => hS) ?_
 clear hK K
 try simp only [Act.put, gA, gS, gZ, sI, sZ, sS]
 refine wpAnyT_held (i := 18) (v := (.agg (ringC own seed bm v2).toArray)) rfl (by kernel_rfl) (by kernel_rfl) (by kernel_rfl) (fun _ _ _ h => h) (by kernel_rfl) hT (fun _ => hS) (by kernel_rfl) (fun wx h => execBuildT 62 _ rfl #[(0, .int .u8 own), (1, .agg (seed.map (Value.int .u8)).toArray), (2, .map (some bm)), (3, v2)] (by kernel_rfl) (ringBuilt4 own seed hs32 bm v2 hvs wx)) ?_
 simp only [Act.put, gA, gS, gZ, sI, sZ, sS]
 refine wpAnyT_one (i := 19) rfl (by kernel_rfl) (by kernel_rfl) (fun K hK => ?_)
 go_simp
 have hb3 : Below w2.heap.size w2 (w2.alloc (.cells (ringC own seed bm v2).toArray 62)) := (Below.refl _ _).alloc (Nat.le_refl _) _
 have hD3 := CellsAt.new w2 62 (ringC own seed bm v2)
 have hB3 := hB2.trans (hb3.mono hB2.size)
 have hM3 := hM2.congr (hb3.block _ hM2.lt)
 have ho3 : OwnD (w2.alloc (.cells (ringC own seed bm v2).toArray 62)) w1.heap.size v2 L := ho2.congr fun g hg => hb3.block g (ho2.blockLt g hg).1
 replace hT := HS _ hB3
 refine hK.out _ _ hT (fun _ => hS) ?_
 clear hK K
 try simp only [Act.put, gA, gS, gZ, sI, sZ, sS]
 refine ghA 20 _ hT hS ?_
 simp only [Act.put, gA, gS, gZ, sI, sZ, sS]
 refine wpAnyT_done (by kernel_rfl) ?_ _
 have hw1 := hB1.size
 have hw2 := hB2.size
 obtain ⟨W9, hW9⟩ : ∃ q, (w2.alloc (.cells (ringC own seed bm v2).toArray 62)) = q := ⟨_, rfl⟩
 rw [hW9] at hD3 hB3 hM3 ho3 ⊢
 have HE := Veil.mk (And.intro hD3 (And.intro hM3 (And.intro ho3 hB3)))
 obtain ⟨z9, hz9⟩ : ∃ q, w2.heap.size = q := ⟨_, rfl⟩
 rw [hz9] at HE hw2 ⊢
 clear hT hS HS hD3 hM3 ho3 hB3 hb3 hM1 hM2 ho2 hB2 hB1 hb2 HM HP hB0 hW9 hz9
 go_wp2
 go_ret
 obtain ⟨hD3, hM3, ho3, hB3⟩ := HE.out
 exact ⟨_, bm, v2, rfl, ⟨hD3, by rw [HN.out]; exact hM3, ho3.lessF hw1, hs32, HO.out.1, by rw [HN.out]; exact HO.out.2, hw2, hsz0⟩, hB3⟩
end
end Go.Proofs.YtflkhkmejnpapaaGreatDoor
