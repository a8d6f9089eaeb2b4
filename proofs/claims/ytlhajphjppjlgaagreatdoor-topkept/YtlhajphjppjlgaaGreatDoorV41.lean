/- Hm -/
import Derived.Test.YtlhajphjppjlgaaGreatDoorV0
import Derived.Test.YtlhajphjppjlgaaGreatDoorV40
import Derived.Test.YtlhajphjppjlgaaGreatDoorV39
import Derived.Test.YtlhajphjppjlgaaGreatDoorV34
import Derived.Test.YtlhajphjppjlgaaGreatDoorV32
import Derived.Test.YtlhajphjppjlgaaGreatDoorT24
import Derived.Test.YtlhajphjppjlgaaGreatDoorT02
namespace Go.Proofs.YtlhajphjppjlgaaGreatDoor
open Go.RowKit
set_option maxRecDepth 20000
set_option linter.unusedSimpArgs false
theorem mapLinkKey : Tryz.prog.underlying 78 = some (.map 83 23) := by kernel_rfl
theorem sizeLink : (Tryz.prog.info? 83).map (·.size) = some 34 := by kernel_rfl
theorem sizeHead1 : (Tryz.prog.info? 40).map (·.size) = some 33 := by kernel_rfl
theorem sizeHeads : (Tryz.prog.info? 41).map (·.size) = some 264 := by kernel_rfl
theorem sizeProof : (Tryz.prog.info? 47).map (·.size) = some 66 := by kernel_rfl
theorem infoProof : (Tryz.prog.info? 47).map (fun i => (i.zero, i.size, i.bytes)) = some (some (.agg (proofC (0, 0, zk, zk)).toArray), 66, 72) := by kernel_rfl
theorem headBuilt (n : Int) (s : List Int) (hs : s.length = 32) (w : World) : (Instr.build 40 #[(0, .int .u32 n), (1, .agg (row .u8 s))]).run Tryz.prog w = .ok (.agg (headC (n, s)).toArray) w := by
  have := built_tile (P := Tryz.prog) (t := 40) (n := 33) (places := [(0, 1), (1, 32)]) (by kernel_rfl) Tryz.underlying40 (by kernel_rfl) [(0, .int .u32 n, [.int .u32 n]), (1, .agg (row .u8 s), s.map (Value.int .u8))] ⟨rfl, rfl, by rw [List.length_map, hs]; rfl, rfl, trivial⟩ (by simp [tileL, hs]) w
  simpa [tileL, headC] using this
theorem linkBuilt (l : Int × Int × List Int) (hs : l.2.2.length = 32) (w : World) : (Instr.build 83 #[(0, .int .u8 l.1), (1, .agg (headC l.2).toArray)]).run Tryz.prog w = .ok (.agg (linkC l).toArray) w := by
  have := built_tile (P := Tryz.prog) (t := 83) (n := 34) (places := [(0, 1), (1, 33)]) (by kernel_rfl) Tryz.underlying83 (by kernel_rfl) [(0, .int .u8 l.1, [.int .u8 l.1]), (1, .agg (headC l.2).toArray, headC l.2)] ⟨rfl, rfl, by rw [headC_len l.2 hs]; rfl, rfl, trivial⟩ (by simp [tileL, headC_len l.2 hs]) w
  simpa [tileL, linkC] using this
theorem proofBuilt (a n : Int) (s t : List Int) (hs : s.length = 32) (ht : t.length = 32) (w : World) : (Instr.build 47 #[(0, .int .u8 a), (1, .int .u32 n), (2, .agg (row .u8 s)), (3, .agg (row .u8 t))]).run Tryz.prog w = .ok (.agg (proofC (a, n, s, t)).toArray) w := by
  have := built_tile (P := Tryz.prog) (t := 47) (n := 66) (places := [(0, 1), (1, 1), (2, 32), (34, 32)]) (by kernel_rfl) Tryz.underlying47 (by kernel_rfl) [(0, .int .u8 a, [.int .u8 a]), (1, .int .u32 n, [.int .u32 n]), (2, .agg (row .u8 s), s.map (Value.int .u8)), (3, .agg (row .u8 t), t.map (Value.int .u8))] ⟨rfl, rfl, rfl, rfl, by rw [List.length_map, hs]; rfl, rfl, by rw [List.length_map, List.length_map, hs, ht]; rfl, rfl, trivial⟩ (by simp [tileL, hs, ht]) w
  simpa [tileL, proofC] using this
theorem linkC_one (l : Int × Int × List Int) : ∀ v ∈ linkC l, v.oneCell' = true := fun v hv => by
  unfold linkC at hv
  rcases List.mem_cons.1 hv with rfl | h
  · rfl
  · exact headC_one l.2 v h
theorem proofC_one (p : Pf) : ∀ v ∈ proofC p, v.oneCell' = true := fun v hv => by
  unfold proofC at hv
  simp only [List.mem_cons, List.mem_append, List.mem_map] at hv
  rcases hv with rfl | rfl | ⟨x, _, rfl⟩ | ⟨x, _, rfl⟩ <;> rfl
def chainC (T : Sms) (b : Nat) (v : Value) : List Value := headsC (headsOf T) ++ [.map (some b), v]
theorem OkS.headsLen {T : Sms} (h : OkS T) : (headsC (headsOf T)).length = 264 := by rw [headsC_len _ h.heads_ok, headsOf_length]
theorem chainC_map {T : Sms} (h : OkS T) (b : Nat) (v : Value) : (chainC T b v)[264]? = some (.map (some b)) := by
  unfold chainC; rw [List.getElem?_append_right (by rw [h.headsLen]; exact Nat.le_refl _), h.headsLen]; rfl
theorem chainC_proofs {T : Sms} (h : OkS T) (b : Nat) (v : Value) : (chainC T b v)[265]? = some v := by
  unfold chainC; rw [List.getElem?_append_right (by rw [h.headsLen]; omega), h.headsLen]; rfl
theorem chainC_heads {T : Sms} (h : OkS T) (b : Nat) (v : Value) : ((chainC T b v).drop 0).take 264 = headsC (headsOf T) := by
  unfold chainC; rw [List.drop_zero]; exact List.take_left' h.headsLen
theorem chainC_head {T : Sms} (h : OkS T) (b : Nat) (v : Value) (a : Nat) (ha : a < 8) : ((chainC T b v).drop (a * 33)).take 33 = headC (headOf T a) := by
  unfold chainC
  rw [headsC_part (headsOf T) h.heads_ok a (by rw [headsOf_length]; exact ha), headsOf_get T a ha]
theorem chainC_setP {T : Sms} (h : OkS T) (b : Nat) (v v' : Value) : (chainC T b v).set 265 v' = chainC T b v' := by
  unfold chainC
  rw [List.set_append_right _ _ (by rw [h.headsLen]; omega), h.headsLen]; rfl
theorem chainC_put {T : Sms} (h : OkS T) (b : Nat) (v : Value) (a : Nat) (ha : a < 8) (k : List Int) :
    (chainC T b v).take (a * 33) ++ headC (((cnt T a + 1 : Nat) : Int), k) ++ (chainC T b v).drop (a * 33 + 33) = chainC (addS T a k) b v := by
  unfold chainC
  rw [headsC_put (headsOf T) h.heads_ok a (by rw [headsOf_length]; exact ha), headsOf_add h a k]
theorem chainC_len {T : Sms} (h : OkS T) (b : Nat) (v : Value) : (chainC T b v).length = 266 := by unfold chainC; rw [List.length_append, h.headsLen]; rfl
structure ChainAt (w : World) (base H b : Nat) (v : Value) (T : Sms) (P : List Pf) : Prop where
  box : CellsAt w H 80 (chainC T b v)
  map : MapG Tryz.prog 83 encL okL w b (tot T) (linkM T)
  own : OwnI w base 47 66 v (P.map proofC)
  ok : OkS T
  okP : ∀ p ∈ P, okP p
  lenP : P.length ≤ 32
  baseH : base ≤ H
  baseB : base ≤ b
def chainP (H b : Nat) (v : Value) (k : Nat) : Prop := k = H ∨ k = b ∨ v.ownBlock = some k
section
variable {w w' : World} {base H b : Nat} {v : Value} {T : Sms} {P : List Pf}
theorem ChainAt.neHB (h : ChainAt w base H b v T P) : b ≠ H := h.map.cellsNe h.box
theorem ChainAt.neV (h : ChainAt w base H b v T P) (g : Nat) (hg : v.ownBlock = some g) : g ≠ H ∧ g ≠ b := by
  obtain ⟨_, _, cur, hc⟩ := h.own.blockLt g hg
  refine ⟨fun e => ?_, fun e => ?_⟩
  · subst e
    have := h.box
    unfold CellsAt at this
    rw [hc] at this
    injection this with this
    injection this with _ e2 _
    exact absurd e2 (by decide)
  · subst e
    obtain ⟨D, ⟨es, cl, hb, _⟩, _⟩ := h.map
    rw [hb] at hc
    cases hc
theorem ChainAt.congr (h : ChainAt w base H b v T P) (hk : ∀ g, chainP H b v g → w'.heap[g]? = w.heap[g]?) : ChainAt w' base H b v T P :=
  ⟨h.box.congr (hk H (.inl rfl)), h.map.congr (hk b (.inr (.inl rfl))), h.own.congr fun g hg => hk g (.inr (.inr hg)), h.ok, h.okP, h.lenP, h.baseH, h.baseB⟩
theorem ChainAt.inside (h : ChainAt w base H b v T P) (g : Nat) (hg : chainP H b v g) : g < w.heap.size ∧ base ≤ g := by
  rcases hg with rfl | rfl | hg
  · exact ⟨h.box.lt, h.baseH⟩
  · exact ⟨h.map.lt, h.baseB⟩
  · obtain ⟨h1, h2, _⟩ := h.own.blockLt g hg
    exact ⟨h1, h2⟩
theorem ChainAt.far (h : ChainAt w base H b v T P) (hb : Below w.heap.size w w') : ChainAt w' base H b v T P := h.congr fun g hg => hb.block g (h.inside g hg).1
theorem ChainAt.turn {p : Nat → Prop} (h : ChainAt w base H b v T P) (ht : Turn p w w') (hp : ∀ g, chainP H b v g → ¬ p g) : ChainAt w' base H b v T P := h.congr fun g hg => ht.block g (h.inside g hg).1 (hp g hg)
end
def aheadL (T : Sms) (l : Int × Int × List Int) : List Int := if (linkM T l).isSome then atN T l.1.toNat (l.2.1.toNat - 1) else zk
theorem linkM_getD (T : Sms) (l : Int × Int × List Int) : (linkM T l).getD (.agg (row .u8 (List.replicate 32 0))) = .agg (row .u8 (aheadL T l)) := by
  unfold aheadL
  cases h : linkM T l with
  | none => rfl
  | some v =>
    unfold linkM at h
    split at h
    · injection h with h; rw [← h]; rfl
    · cases h
theorem OkS.ahead_ok {T : Sms} (h : OkS T) (l : Int × Int × List Int) : okK (aheadL T l) := by
  unfold aheadL; split
  · exact h.at_ok _ _
  · exact okK_zk
theorem exec_lookH {P : Program} {ρ : Operand → Value} {o : Oper} {w : World} {t : TypeId} {m x : Operand} {b : Bool} (ho : o.op = .lookup t m x b) {mv xv v : Value} (hm : ρ m = mv) (hx : ρ x = xv) (hrun : (Instr.lookup t mv xv b).run P w = .ok v w) : (execOp ρ o).run P w = .ok (.value v) w := by
  unfold execOp
  simp only [ho, hm, hx, Sem.run_bind, hrun, Result.andThen_ok, Sem.run_pure]
section
variable (base H b : Nat) (v : Value) (T : Sms) (P : List Pf) (w : World)
set_option maxHeartbeats 4000000 in
theorem chHas_any (l : Int × Int × List Int) (hl : okL l) (hC : ChainAt w base H b v T P) :
    Calls Tryz.prog 30 #[.pointer (some ⟨H, 0, none⟩), .agg (linkC l).toArray] w fun e w' => e = .returned (.bool (linkM T l).isSome) ∧ Below w.heap.size w w' := by
  have hKl := (hC.ok.ahead_ok l).1
  have hll := linkC_len l hl.2.2.1
  have hd0 := CellsAt.new w 83 (linkC l)
  have hB : Below w.heap.size w (w.alloc (.cells (linkC l).toArray 83)) := (Below.refl _ _).alloc (Nat.le_refl _) _
  have HLOOK : Veil (∀ wx, MapG Tryz.prog 83 encL okL wx b (tot T) (linkM T) → (Instr.lookup 78 (.map (some b)) (.agg (linkC l).toArray) true).run Tryz.prog wx = .ok (.tuple #[.agg (row .u8 (aheadL T l)), .bool (linkM T l).isSome]) wx) := ⟨fun wx h => by
    have := h.look keyEncL mapLinkKey (zeroKeyH wx) l hl
    rw [linkM_getD] at this
    exact this⟩
  obtain ⟨KA, hKA⟩ : ∃ q, aheadL T l = q := ⟨_, rfl⟩
  obtain ⟨IS, hIS⟩ : ∃ q, (linkM T l).isSome = q := ⟨_, rfl⟩
  rw [hKA, hIS] at HLOOK
  rw [hKA] at hKl
  rw [hIS]
  clear hKA hIS hl
  have uL : Tryz.prog.underlying 83 = _ := Tryz.underlying83
  have iL : (Tryz.prog.info? 83).map (·.size) = some (linkC l).length := by rw [hll]; exact sizeLink
  go_enter Tryz.func30, Tryz.ntmps30
  go_upto_region 1 with fail
  refine forget (p := fun y => Code.wp _ _ _ _ y) (fun W => Below w.heap.size w W ∧ ChainAt W base H b v T P ∧ CellsAt W w.heap.size 83 (linkC l)) ⟨hB, hC.far hB, hd0⟩ ?_
  clear hB hd0 hC
  rintro W ⟨hB, hC, hd0⟩
  refine wp_region_gate (fun w' => w'.cell? ⟨H, 264, none⟩ = some (.map (some b)) ∧ w'.rangeAt w.heap.size 0 (linkC l) ∧ MapG Tryz.prog 83 encL okL w' b (tot T) (linkM T)) 10 (by kernel_rfl) ?_
  have HS : ∀ W' : World, ChainAt W' base H b v T P → CellsAt W' w.heap.size 83 (linkC l) → (fun w' : World => w'.cell? ⟨H, 264, none⟩ = some (.map (some b)) ∧ w'.rangeAt w.heap.size 0 (linkC l) ∧ MapG Tryz.prog 83 encL okL w' b (tot T) (linkM T)) W' := fun W' h1 h2 => ⟨by have := h1.box.cell 264; rw [chainC_map h1.ok] at this; exact this, by have := h2.range 0 34; rw [List.drop_zero, List.take_of_length_le (by omega)] at this; exact this, h1.map⟩
  have hS := HS W.drew (hC.congr fun _ _ => rfl) (hd0.congr rfl)
  refine ga 0 ?_ rfl (by kernel_rfl) (fun _ _ _ h => h) hS ?_ ?_
  rotate_left
  · intro _; go_simp; try with_reducible rfl
  simp only [Act.put, gA, gS, gZ, sI, sZ, sS]
  refine ga 1 ?_ rfl (by kernel_rfl) (fun _ _ _ h => h) hS ?_ ?_
  rotate_left
  · intro _; go_simp; try with_reducible rfl
  simp only [Act.put, gA, gS, gZ, sI, sZ, sS]
  refine ga 2 ?_ rfl (by kernel_rfl) (fun _ _ _ h => h) hS ?_ ?_
  rotate_left
  · intro _; go_simp; try with_reducible rfl
  simp only [Act.put, gA, gS, gZ, sI, sZ, sS]
  refine gr 3 ?_ rfl (by kernel_rfl) (fun _ _ _ h => h) hS ?_ ?_
  rotate_left
  · intro wx hSw; go_split_ands; go_simp; try with_reducible rfl
  simp only [Act.put, gA, gS, gZ, sI, sZ, sS]
  refine wpAnyG_load (i := 4) (dst := some 12) (ty := 83) (x := .tmp 3) (b := w.heap.size) (o := (0)) (cs := (linkC l)) (by kernel_rfl) (by kernel_rfl) (by kernel_rfl) (by kernel_rfl) (by kernel_rfl) (fun _ _ _ h => h) (by kernel_rfl) (by kernel_rfl) (by kernel_rfl) hS (by kernel_rfl) (fun _ h => h.2.1) uL rfl iL ?_
  simp only [Act.put, gA, gS, gZ, sI, sZ, sS]
  refine gr 5 (.tuple #[.agg (row .u8 KA), .bool IS]) rfl (by kernel_rfl) (fun _ _ _ h => h) hS (fun wx h => exec_lookH rfl rfl rfl (HLOOK.out wx h.2.2)) ?_
  simp only [Act.put, gA, gS, gZ, sI, sZ, sS]
  refine ga 6 ?_ rfl (by kernel_rfl) (fun _ _ _ h => h) hS ?_ ?_
  rotate_left
  · intro _; go_simp; try with_reducible rfl
  simp only [Act.put, gA, gS, gZ, sI, sZ, sS]
  refine ga 7 ?_ rfl (by kernel_rfl) (fun _ _ _ h => h) hS ?_ ?_
  rotate_left
  · intro _; go_simp; try with_reducible rfl
  simp only [Act.put, gA, gS, gZ, sI, sZ, sS]
  refine ga 8 ?_ rfl (by kernel_rfl) (fun _ _ _ h => h) hS ?_ ?_
  rotate_left
  · intro _; go_simp; try with_reducible rfl
  simp only [Act.put, gA, gS, gZ, sI, sZ, sS]
  refine wpAnyG_one (i := 9) rfl (by kernel_rfl) (by kernel_rfl) (fun K hK => ?_)
  go_simp
  have hb1 : Below W.heap.size W (W.alloc (.cells (row .u8 (List.replicate 32 0)) 23)).drew := ((Below.refl _ _).alloc (Nat.le_refl _) _).drew
  have hA1 := (Holds.new W .u8 23 (List.replicate 32 0)).drew
  have hC1 := hC.far hb1
  have hd1 := hd0.congr (hb1.block _ hd0.lt)
  have hB1 := hB.trans (hb1.mono hB.size)
  replace hS := HS _ hC1 hd1
  refine hK.out _ _ (fun _ => hS) ?_
  clear hK K
  try simp only [Act.put, gA, gS, gZ, sI, sZ, sS]
  refine wpAnyG_one (i := 10) rfl (by kernel_rfl) (by kernel_rfl) (fun K hK => ?_)
  refine wp_stG 23 _ _ rfl _ rfl (k := .u8) (l := KA) rfl hA1 (by rw [hKl]; exact sizeKeyH) (by rw [hKl]; rfl) ?_
  refine hK.out _ _ (fun h => absurd (show true = false from h) (by decide)) ?_
  clear hK K
  try simp only [Act.put, gA, gS, gZ, sI, sZ, sS]
  refine wpAnyG_any (i := 11) (v := ?_) rfl (by kernel_rfl) (by kernel_rfl) (by kernel_rfl) (fun _ _ _ h => h) (by kernel_rfl) (fun h => absurd (show true = false from h) (by decide)) (by kernel_rfl) ?_ ?_
  rotate_left
  · intro _; go_simp; try with_reducible rfl
  simp only [Act.put, gA, gS, gZ, sI, sZ, sS]
  refine wpAnyG_done (by kernel_rfl) ?_ _
  have hB2 := below_setRow (g := W.heap.size) hB1 hB.size (row .u8 KA)
  refine forget (p := fun y => Exit.then _ _ _ _ y) (fun V => Below w.heap.size w V) hB2 ?_
  clear hb1 hA1 hC1 hd1 hB1 hS HS hB2 hC hd0 hB uL iL HLOOK
  obtain ⟨G, hG⟩ : ∃ q, W.heap.size = q := ⟨_, rfl⟩
  rw [hG]
  clear hG
  clear W
  rintro V hB
  go_wp2
  go_ret
  exact ⟨rfl, hB⟩
end
end Go.Proofs.YtlhajphjppjlgaaGreatDoor
