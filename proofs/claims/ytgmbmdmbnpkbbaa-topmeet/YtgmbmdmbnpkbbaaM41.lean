/- Dc10 -/
import Derived.Test.YtgmbmdmbnpkbbaaM40
namespace Go.Proofs.Ytgmbmdmbnpkbbaa
open Go.RowKit Go.Shelf
set_option maxRecDepth 20000
set_option linter.unusedSimpArgs false
theorem TreeAt.lessD {w : World} {base base' R bc bn : Nat} {N : List Nd} {V : (Int × Int) × Bool → Value} (h : TreeAt w base R bc bn N V) (hb : base' ≤ base) : TreeAt w base' R bc bn N V := ⟨h.box, h.chars, h.nodes, ⟨fun s hs => (h.sides.own s hs).less hb, h.sides.apart, h.sides.far⟩, h.empty, h.nodup, h.okId, h.okChr, h.ne⟩
theorem forM_nil : forM [] = fun _ => none := by funext x; unfold forM; simp
def inZ (R H fm : Nat) : List Value := [.pointer (some ⟨R, 0, none⟩), .pointer (some ⟨H, 0, none⟩), .int .u32 0, .int .u32 0, .int .u32 0, .int .u32 0, .int .u32 0, .int .u32 0, .int .u32 0, .int .u32 0, .slice none 0 0, .map (some fm)]
set_option maxHeartbeats 4000000 in
theorem dempty_any (w : World) :
    Calls Try.prog 23 #[] w fun r w' => ∃ R bc bn H bk fm, r = .returned (.agg (inZ R H fm).toArray) ∧ TreeAt w' w.heap.size R bc bn [] (fun _ => .slice none 0 0) ∧ BookC w' H bk [] ∧ MapG Try.prog 26 encDF okDF w' fm 0 (fun _ => none) ∧ Below w.heap.size w w' ∧ (w.heap.size ≤ R ∧ w.heap.size ≤ bc ∧ w.heap.size ≤ bn) ∧ (R < H ∧ bc < H ∧ bn < H ∧ R < bk ∧ bc < bk ∧ bn < bk) ∧ H ≠ bk ∧ H < fm ∧ bk < fm := by
  obtain ⟨Z, hZ⟩ : ∃ Z : List Value, Z = [.pointer none, .pointer none, .int .u32 0, .int .u32 0, .int .u32 0, .int .u32 0, .int .u32 0, .int .u32 0, .int .u32 0, .int .u32 0, .slice none 0 0, .map none] := ⟨_, rfl⟩
  have hc0 := CellsAt.new w 61 Z
  have hB0 : Below w.heap.size w (w.alloc (.cells Z.toArray 61)) := (Below.refl _ _).alloc (Nat.le_refl _) _
  have hZ12 : Z.length = 12 := by rw [hZ]; rfl
  have iI : ∀ R H fm, (Try.prog.info? 61).map (·.size) = some (inZ R H fm).length := fun R H fm => by show _ = some 12; kernel_rfl
  have h1I : ∀ R H fm, ∀ v ∈ inZ R H fm, v.oneCell' = true := fun R H fm v hv => by
    simp [inZ] at hv
    rcases hv with rfl | rfl | rfl | rfl | rfl <;> rfl
  have hmk := @run_makeMap Try.prog
  have uI := Try.underlying61
  rw [hZ] at hc0 hB0
  go_enter Try.func23, Try.ntmps23
  go_upto_region 1 with fail
  refine forget (p := fun y => Code.wp _ _ _ _ y) (fun W => Below w.heap.size w W ∧ CellsAt W w.heap.size 61 Z ∧ w.heap.size < W.heap.size) ⟨hB0, by rw [hZ]; exact hc0, hc0.lt⟩ ?_
  clear hB0 hc0 hZ
  rintro W ⟨hB, hc, hlt⟩
  have hnt := newT_any W
  go_wp2_with (first
    | (go_at_call 41; refine hnt.mono ?_; rintro y W1 ⟨R, bc, bn, rfl, hT1, hb1, hr1, hr2, hr3⟩; have hnb := bnew_any W1; clear hnt)
    | (go_at_call 21; refine hnb.mono ?_; rintro y W2 ⟨H, bk, rfl, hK2, hb2, hs1, hs2⟩; have hcZ : CellsAt (W2.alloc (.map #[] 0)) w.heap.size 61 Z := ((hc.farM hb1).farM hb2).alloc _; clear hnb)
    | (refine wpList_stv (cs := inZ R H W2.heap.size) rfl 61 _ _ rfl w.heap.size rfl rfl hcZ (iI _ _ _) hZ12 (h1I _ _ _) ?_))
  have hb3 : Below W2.heap.size W2 (W2.alloc (.map #[] 0)) := (Below.refl _ _).alloc (Nat.le_refl _) _
  have hBR := hT1.box.lt
  have hBc := hT1.chars.lt
  have hBn := hT1.nodes.lt
  have hBH := hK2.cells.lt
  have hBb := hK2.map.lt
  have hne : H ≠ bk := fun e => hK2.map.cellsNe hK2.cells e.symm
  have hk : ∀ k, k < W2.heap.size → k ≠ w.heap.size → ((W2.alloc (.map #[] 0)).setRow w.heap.size (inZ R H W2.heap.size).toArray).heap[k]? = W2.heap[k]? := fun k h1 h2 => by
    rw [setRow_other _ _ _ _ h2]; exact hb3.block k h1
  refine bodyPost_ret (results_cells (Try.results23) _ rfl (hcZ.setRow _) uI rfl (iI _ _ _)) rfl ⟨R, bc, bn, H, bk, W2.heap.size, rfl, ?_, ?_, ?_, ?_, ?_, ?_, hne, hBH, hBb⟩
  · have hT2 := hT1.far hb2
    refine TreeAt.lessD (hT2.congr fun k q => hk k (hT2.blockLt k q) ?_) hB.size
    rcases q with rfl | rfl | rfl | ⟨s, -, hs⟩
    · omega
    · omega
    · omega
    · cases hs
  · exact hK2.congr (hk _ hBH (by have := hb1.size; omega)) (hk _ hBb (by have := hb1.size; omega))
  · exact (MapG.made W2).congr (setRow_other _ _ _ _ (by have := hb1.size; have := hb2.size; omega))
  · exact below_setRow (((hB.trans (hb1.mono hB.size)).trans (hb2.mono (Nat.le_trans hB.size hb1.size))).trans (hb3.mono (Nat.le_trans hB.size (Nat.le_trans hb1.size hb2.size)))) (by omega) _
  · omega
  · omega
set_option maxHeartbeats 4000000 in
theorem dNew_any (w : World) :
    Calls Try.prog 6 #[] w fun r w' => ∃ p, r = .returned (.pointer (some ⟨p.D, 0, none⟩)) ∧ DocAt w' w.heap.size newS p ∧ Below w.heap.size w w' ∧ ∀ k, docP p k → w.heap.size ≤ k := by
  have he := dempty_any w
  go_enter Try.func6, Try.ntmps6
  go_wp2_with (go_at_call 23; refine he.mono ?_; rintro y W1 ⟨R, bc, bn, H, bk, fm, rfl, hT, hK, hM, hB, hl1, hl2, hne, hl3, hl4⟩; clear he; unfold inZ)
  go_ret
  have hb2 : Below W1.heap.size W1 (W1.alloc (.cells (inZ R H fm).toArray 64)) := (Below.refl _ _).alloc (Nat.le_refl _) _
  have hfl := hM.lt
  have l1 := hT.box.lt
  have l2 := hT.chars.lt
  have l3 := hT.nodes.lt
  have hlH := hK.cells.lt
  have hlk := hK.map.lt
  have hno : ∀ k, treeP R bc bn (fun _ => Value.slice none 0 0) k → k = R ∨ k = bc ∨ k = bn := fun k q => by
    rcases q with q | q | q | ⟨s, -, hs⟩
    · exact .inl q
    · exact .inr (.inl q)
    · exact .inr (.inr q)
    · cases hs
  refine ⟨⟨W1.heap.size, R, bc, bn, fun _ => .slice none 0 0, H, bk, .slice none 0 0, fm⟩, rfl, ⟨CellsAt.new W1 64 (inZ R H fm), hT.far hb2, hK.far hb2, OwnI.nil _ _ _ _, ?_, ⟨fun k q => ?_, ?_, ?_⟩⟩, hB.trans (hb2.mono hB.size), fun k q => ?_⟩
  · rw [show newS.F = [] from rfl, forM_nil]; exact hM.congr (hb2.block _ hfl)
  · show k ≠ W1.heap.size ∧ k ≠ H ∧ k ≠ bk ∧ k ≠ fm ∧ (Value.slice none 0 0).ownBlock ≠ some k
    have := hno k q
    exact ⟨by omega, by omega, by omega, by omega, (fun e => by cases e)⟩
  · show W1.heap.size ≠ H ∧ W1.heap.size ≠ bk ∧ W1.heap.size ≠ fm ∧ (Value.slice none 0 0).ownBlock ≠ some W1.heap.size
    exact ⟨by omega, by omega, by omega, (fun e => by cases e)⟩
  · show H ≠ bk ∧ H ≠ fm ∧ (Value.slice none 0 0).ownBlock ≠ some H ∧ bk ≠ fm ∧ (Value.slice none 0 0).ownBlock ≠ some bk ∧ (Value.slice none 0 0).ownBlock ≠ some fm
    exact ⟨hne, by omega, (fun e => by cases e), by omega, (fun e => by cases e), (fun e => by cases e)⟩
  · have hs := hB.size
    rcases q with q | q | q | q | q | q
    · have : k = W1.heap.size := q; omega
    · have := hno k q; omega
    · have : k = H := q; omega
    · have : k = bk := q; omega
    · cases q
    · have : k = fm := q; omega
end Go.Proofs.Ytgmbmdmbnpkbbaa
