/- Fw4 De20 -/
import Derived.Test.YtmbdohnmbkpfaaaGreatV48
import Derived.Test.YtmbdohnmbkpfaaaGreatV38
import Derived.Test.YtmbdohnmbkpfaaaGreatV43
namespace Go.Proofs.YtmbdohnmbkpfaaaGreat
open Go.RowKit Go.Shelf
set_option maxRecDepth 20000
set_option linter.unusedSimpArgs false
set_option maxHeartbeats 4000000 in
theorem rforkT_any (base R : Nat) (v : Value) (N : List Nd) (w : World) (hT : RefT w base R v N) :
    Calls Tryz.prog 61 #[.pointer (some ⟨R, 0, none⟩)] w fun e w' => ∃ R' v', e = .returned (.pointer (some ⟨R', 0, none⟩)) ∧ RefT w' w.heap.size R' v' N ∧ Below w.heap.size w w' ∧ ∀ k, refP R' v' k → w.heap.size ≤ k := by
 have hB : Below w.heap.size w (w.alloc (.cells #[] 124)) := (Below.refl _ _).alloc (Nat.le_refl _) _
 have cR : (w.alloc (.cells #[] 124)).cell? ⟨R, 0, none⟩ = some v := (hT.box.alloc (.cells #[] 124)).cell 0
 have hE := OwnI.empty w 124 6
 have hone : ∀ c ∈ N.map ndC, ∀ u ∈ c, u.oneCell' = true := fun c hc u hu => by
  obtain ⟨q, _, rfl⟩ := List.mem_map.1 hc
  exact ndC_one q u hu
 have hln := hT.len
 obtain ⟨v1, w1, hr1, ho1, hg1, hb1⟩ := hE.apps (P := Tryz.prog) 120 120 Tryz.underlying120 infoN6 (by rfl) (by decide) (N.map ndC) hT.own.each hone base _ (hT.own.far hB) (by simp; omega) (by decide) (by simp)
 rw [List.nil_append] at ho1
 have hB1 : Below w.heap.size w w1 := hB.grown hg1 (by simp) (fun k hk => by cases hk; exact Nat.le_refl _)
 have HE : Veil (RefT (w1.alloc (.cells #[v1] 122)) w.heap.size w1.heap.size v1 N ∧ Below w.heap.size w (w1.alloc (.cells #[v1] 122)) ∧ ∀ k, refP w1.heap.size v1 k → w.heap.size ≤ k) := ⟨⟨CellsAt.new w1 122 [v1], ho1.far ((Below.refl _ _).alloc (Nat.le_refl _) _), hln⟩, hB1.alloc hB1.size _, fun k hk => by
  rcases hk with q | q
  · have := hB1.size; omega
  · exact (ho1.blockLt k q).2.1⟩
 obtain ⟨sx, sc, hsl⟩ := hT.own.isSlice
 obtain ⟨x1, c1, hv1⟩ := ho1.isSlice
 generalize (N.map ndC).length = n at hsl hv1
 subst hsl hv1
 clear hT hB hE hone ho1 hg1 hb1 hB1
 go_enter Tryz.func61, Tryz.ntmps61
 go_wp2_with (at_builtin; refine wpList_appx rfl _ _ 120 120 rfl _ _ _ _ rfl rfl hr1 ?_)
 go_ret
 exact ⟨_, _, rfl, HE.out⟩
structure FkS (s : Nat) (w W : World) (v u : Value) (VL UL : List (List Value)) : Prop where
 ev : OwnI W s 44 17 v VL
 bo : OwnI W s 4 1 u UL
 below : Below s w W
 size : s ≤ W.heap.size
section
variable {s : Nat} {w W : World} {v u : Value} {VL UL : List (List Value)}
theorem FkS.start (w : World) : FkS w.heap.size w w.drew (.slice none 0 0) (.slice none 0 0) [] [] := ⟨OwnI.nil _ _ _ _, OwnI.nil _ _ _ _, (Below.refl _ _).drew, Nat.le_refl _⟩
theorem FkS.mkE (h : FkS s w W (.slice none 0 0) u [] UL) : FkS s w (W.alloc (.cells #[] 44)) (.slice (some ⟨W.heap.size, 0, none⟩) 0 0) u [] UL :=
 ⟨(OwnI.empty W 44 17).less h.size, h.bo.far ((Below.refl _ _).alloc (Nat.le_refl _) _), h.below.alloc h.size _, by rw [World.size_alloc]; have := h.size; omega⟩
theorem FkS.mkB (h : FkS s w W v (.slice none 0 0) VL []) : FkS s w (W.alloc (.cells #[] 4)) v (.slice (some ⟨W.heap.size, 0, none⟩) 0 0) VL [] :=
 ⟨h.ev.far ((Below.refl _ _).alloc (Nat.le_refl _) _), (OwnI.empty W 4 1).less h.size, h.below.alloc h.size _, by rw [World.size_alloc]; have := h.size; omega⟩
theorem FkS.apE (h : FkS s w W v u [] UL) {base : Nat} {src : Value} {C : List (List Value)} (hc : OwnI W base 44 17 src C) (h1 : ∀ c ∈ C, ∀ q ∈ c, q.oneCell' = true) (hl : C.length ≤ 1000) :
    ∃ x c W1, (Builtin.append_ #[31, 31] 31 #[v, src]).run Tryz.prog W = .ok (.slice x C.length c) W1 ∧ FkS s w W1 (.slice x C.length c) u C UL := by
 obtain ⟨v1, w1, hr1, ho1, hg1, -⟩ := h.ev.apps (P := Tryz.prog) 31 31 Tryz.underlying31 infoE17A (by rfl) (by decide) C hc.each h1 base _ hc (by simp; omega) (by decide) h.size
 rw [List.nil_append] at ho1
 obtain ⟨x, c, rfl⟩ := ho1.isSlice
 exact ⟨x, c, w1, hr1, ho1, h.bo.congr fun g hg => hg1.block g (h.bo.blockLt g hg).1 (fun q => ownNeB h.ev h.bo (by decide) g g q.symm hg rfl), h.below.grown hg1 h.size (fun k hk => (h.ev.blockLt k hk).2.1), Nat.le_trans h.size hg1.size⟩
theorem FkS.apB (h : FkS s w W v u VL []) {base : Nat} {src : Value} {C : List (List Value)} (hc : OwnI W base 4 1 src C) (h1 : ∀ c ∈ C, ∀ q ∈ c, q.oneCell' = true) (hl : C.length ≤ 1000) :
    ∃ x c W1, (Builtin.append_ #[83, 83] 83 #[u, src]).run Tryz.prog W = .ok (.slice x C.length c) W1 ∧ FkS s w W1 v (.slice x C.length c) VL C := by
 obtain ⟨v1, w1, hr1, ho1, hg1, -⟩ := h.bo.apps (P := Tryz.prog) 83 83 Tryz.underlying83 infoBA (by rfl) (by decide) C hc.each h1 base _ hc (by simp; omega) (by decide) h.size
 rw [List.nil_append] at ho1
 obtain ⟨x, c, rfl⟩ := ho1.isSlice
 exact ⟨x, c, w1, hr1, h.ev.congr fun g hg => hg1.block g (h.ev.blockLt g hg).1 (fun q => ownNeB h.ev h.bo (by decide) g g hg q.symm rfl), ho1, h.below.grown hg1 h.size (fun k hk => (h.bo.blockLt k hk).2.1), Nat.le_trans h.size hg1.size⟩
end
theorem ent_one (K : List Ent) : ∀ c ∈ K.map (fun e => e.1.cells), ∀ q ∈ c, q.oneCell' = true := fun c hc q hq => by
 obtain ⟨e, _, rfl⟩ := List.mem_map.1 hc
 exact aev_one e.1 q hq
theorem flag_one {α : Type} (K : List α) (f : α → Bool) : ∀ c ∈ K.map (fun e => [Value.bool (f e)]), ∀ q ∈ c, q.oneCell' = true := fun c hc q hq => by
 obtain ⟨e, _, rfl⟩ := List.mem_map.1 hc
 rw [List.mem_singleton.1 hq]; rfl
set_option maxHeartbeats 8000000 in
theorem rbfork_any (base : Nat) (w : World) (R : Nat) (K : List Ent) (x : Option Addr) (c : Nat) (bx : Option Addr) (bc : Nat) (hR : RefB base w R K x c bx bc) (hK : K.length ≤ 1000) :
    Calls Tryz.prog 62 #[.pointer (some ⟨R, 0, none⟩)] w fun r w' => ∃ R' x' c' bx' bc', r = .returned (.pointer (some ⟨R', 0, none⟩)) ∧ RefB w.heap.size w' R' K x' c' bx' bc' ∧ Below w.heap.size w w' ∧ ∀ k, OwnR R' (.slice x' K.length c') (.slice bx' K.length bc') k → w.heap.size ≤ k := by
 have HSE : Veil ((∀ W, Below w.heap.size w W → OwnI W base 44 17 (.slice x K.length c) (K.map (fun e => e.1.cells))) ∧ (∀ c ∈ K.map (fun e => e.1.cells), ∀ q ∈ c, q.oneCell' = true) ∧ (K.map (fun e => e.1.cells)).length ≤ 1000) := ⟨fun W hb => hR.ev.far hb, ent_one K, by rw [List.length_map]; exact hK⟩
 have HSB : Veil ((∀ W, Below w.heap.size w W → OwnI W base 4 1 (.slice bx K.length bc) (K.map (fun e => [Value.bool e.2]))) ∧ (∀ c ∈ K.map (fun e => [Value.bool e.2]), ∀ q ∈ c, q.oneCell' = true) ∧ (K.map (fun e => [Value.bool e.2])).length ≤ 1000) := ⟨fun W hb => hR.bo.far hb, flag_one K _, by rw [List.length_map]; exact hK⟩
 have HTT : Veil (∀ W, Below w.heap.size w W → W.cell? ⟨R, 0, none⟩ = some (.slice x K.length c) ∧ W.cell? ⟨R, 1, none⟩ = some (.slice bx K.length bc)) := ⟨fun W hb => ⟨(hR.cells.farM hb).cell 0, (hR.cells.farM hb).cell 1⟩⟩
 have HBD : Veil (∀ x n c y m d wx, (Instr.build 85 #[(0, .slice x n c), (1, .slice y m d)]).run Tryz.prog wx = .ok (.agg #[.slice x n c, .slice y m d]) wx) := ⟨fun x n c y m d wx => run_build wx _ _ _ (by kernel_rfl)⟩
 have HEND : Veil (∀ W x' c' bx' bc', FkS w.heap.size w W (.slice x' K.length c') (.slice bx' K.length bc') (K.map (fun e => e.1.cells)) (K.map (fun e => [Value.bool e.2])) → RefB w.heap.size (W.alloc (.cells #[.slice x' K.length c', .slice bx' K.length bc'] 85)) W.heap.size K x' c' bx' bc' ∧ Below w.heap.size w (W.alloc (.cells #[.slice x' K.length c', .slice bx' K.length bc'] 85)) ∧ ∀ k, OwnR W.heap.size (.slice x' K.length c') (.slice bx' K.length bc') k → w.heap.size ≤ k) := ⟨fun W x' c' bx' bc' f => ⟨⟨CellsAt.new W 85 [.slice x' K.length c', .slice bx' K.length bc'], f.ev.far ((Below.refl _ _).alloc (Nat.le_refl _) _), f.bo.far ((Below.refl _ _).alloc (Nat.le_refl _) _)⟩, f.below.alloc f.size _, fun k q => by
  rcases q with q | q | q
  · have := f.size; omega
  · exact (f.ev.blockLt k q).2.1
  · exact (f.bo.blockLt k q).2.1⟩⟩
 have HLE : Veil ((K.map (fun e => e.1.cells)).length = K.length) := ⟨List.length_map ..⟩
 have HLB : Veil ((K.map (fun e => [Value.bool e.2])).length = K.length) := ⟨List.length_map ..⟩
 generalize K.map (fun e => e.1.cells) = VL at HSE HEND HLE
 generalize K.map (fun e => [Value.bool e.2]) = UL at HSB HEND HLB
 obtain ⟨n, hn⟩ : ∃ q, K.length = q := ⟨_, rfl⟩
 rw [hn] at HSE HSB HTT HEND HLE HLB
 have HN := Veil.mk hn
 clear hR hK hn
 go_enter Tryz.func62, Tryz.ntmps62
 go_upto_region 3 with fail
 have f := FkS.start w
 refine wp_region_gateT (fun W : World => W.cell? ⟨R, 0, none⟩ = some (.slice x n c) ∧ W.cell? ⟨R, 1, none⟩ = some (.slice bx n bc)) (fun _ => True) 99 (by kernel_rfl) ?_
 have hT : (fun W : World => W.cell? ⟨R, 0, none⟩ = some (.slice x n c) ∧ W.cell? ⟨R, 1, none⟩ = some (.slice bx n bc)) w.drew := HTT.out _ f.below
 have hS : (fun _ : World => True) w.drew := trivial
 generalize w.drew = U at f hT hS ⊢
 refine ghA 1 _ hT hS ?_
 simp only [Act.put, gA, gS, gZ, sI, sZ, sS]
 refine ghA 2 _ hT hS ?_
 simp only [Act.put, gA, gS, gZ, sI, sZ, sS]
 refine ghA 3 _ hT hS ?_
 simp only [Act.put, gA, gS, gZ, sI, sZ, sS]
 refine ghA 4 _ hT hS ?_
 simp only [Act.put, gA, gS, gZ, sI, sZ, sS]
 refine ghA 7 _ hT hS ?_
 simp only [Act.put, gA, gS, gZ, sI, sZ, sS]
 refine ghA 8 _ hT hS ?_
 simp only [Act.put, gA, gS, gZ, sI, sZ, sS]
 refine ghA 9 _ hT hS ?_
 simp only [Act.put, gA, gS, gZ, sI, sZ, sS]
 refine ghA 10 _ hT hS ?_
 simp only [Act.put, gA, gS, gZ, sI, sZ, sS]
 refine wpAnyT_two (i := 0) (j := 6) rfl rfl (by kernel_rfl) (by kernel_rfl) (by kernel_rfl) (fun K hK => ?_) (fun K hK => ?_)
 focus
  go_simp
  replace f := f.mkE
  generalize U.alloc (.cells #[] 44) = U2 at f ⊢
  generalize U.heap.size = g0 at f ⊢
  clear hT hS U
  rename World => U
  have hT : (fun W : World => W.cell? ⟨R, 0, none⟩ = some (.slice x n c) ∧ W.cell? ⟨R, 1, none⟩ = some (.slice bx n bc)) U := HTT.out _ f.below
  have hS : (fun _ : World => True) U := trivial
  refine hK.out _ _ hT (fun _ => hS) ?_
  clear hK K
  try simp only [Act.put, gA, gS, gZ, sI, sZ, sS]
  refine wpAnyT_two (i := 5) (j := 6) rfl rfl (by kernel_rfl) (by kernel_rfl) (by kernel_rfl) (fun K hK => ?_) (fun K hK => ?_)
  focus
   obtain ⟨x1, c1, U2, hrun, f2⟩ := f.apE (HSE.out.1 _ f.below) HSE.out.2.1 HSE.out.2.2
   rw [HLE.out] at hrun f2
   refine wpx_app _ _ _ _ rfl _ _ _ _ rfl rfl hrun ?_
   clear f hrun hT hS U
   rename World => U
   rename FkS _ _ _ _ _ _ _ => f
   have hT : (fun W : World => W.cell? ⟨R, 0, none⟩ = some (.slice x n c) ∧ W.cell? ⟨R, 1, none⟩ = some (.slice bx n bc)) U := HTT.out _ f.below
   have hS : (fun _ : World => True) U := trivial
   refine hK.out _ _ hT (fun _ => hS) ?_
   clear hK K
   try simp only [Act.put, gA, gS, gZ, sI, sZ, sS]
   refine wpAnyT_one (i := 6) rfl (by kernel_rfl) (by kernel_rfl) (fun K hK => ?_)
   go_simp
   replace f := f.mkB
   generalize U.alloc (.cells #[] 4) = U2 at f ⊢
   generalize U.heap.size = g6 at f ⊢
   clear hT hS U
   rename World => U
   have hT : (fun W : World => W.cell? ⟨R, 0, none⟩ = some (.slice x n c) ∧ W.cell? ⟨R, 1, none⟩ = some (.slice bx n bc)) U := HTT.out _ f.below
   have hS : (fun _ : World => True) U := trivial
   refine hK.out _ _ hT (fun _ => hS) ?_
   clear hK K
   try simp only [Act.put, gA, gS, gZ, sI, sZ, sS]
   refine wpAnyT_one (i := 11) rfl (by kernel_rfl) (by kernel_rfl) (fun K hK => ?_)
   obtain ⟨y1, d1, U2, hrun, f2⟩ := f.apB (HSB.out.1 _ f.below) HSB.out.2.1 HSB.out.2.2
   rw [HLB.out] at hrun f2
   refine wpx_app _ _ _ _ rfl _ _ _ _ rfl rfl hrun ?_
   clear f hrun hT hS U
   rename World => U
   rename FkS _ _ _ _ _ _ _ => f
   have hT : (fun W : World => W.cell? ⟨R, 0, none⟩ = some (.slice x n c) ∧ W.cell? ⟨R, 1, none⟩ = some (.slice bx n bc)) U := HTT.out _ f.below
   have hS : (fun _ : World => True) U := trivial
   refine hK.out _ _ hT (fun _ => hS) ?_
   clear hK K
   try simp only [Act.put, gA, gS, gZ, sI, sZ, sS]
  rotate_left
  focus
   go_simp
   replace f := f.mkB
   generalize U.alloc (.cells #[] 4) = U2 at f ⊢
   generalize U.heap.size = g6 at f ⊢
   clear hT hS U
   rename World => U
   have hT : (fun W : World => W.cell? ⟨R, 0, none⟩ = some (.slice x n c) ∧ W.cell? ⟨R, 1, none⟩ = some (.slice bx n bc)) U := HTT.out _ f.below
   have hS : (fun _ : World => True) U := trivial
   refine hK.out _ _ hT (fun _ => hS) ?_
   clear hK K
   try simp only [Act.put, gA, gS, gZ, sI, sZ, sS]
   refine wpAnyT_one (i := 5) rfl (by kernel_rfl) (by kernel_rfl) (fun K hK => ?_)
   obtain ⟨x1, c1, U2, hrun, f2⟩ := f.apE (HSE.out.1 _ f.below) HSE.out.2.1 HSE.out.2.2
   rw [HLE.out] at hrun f2
   refine wpx_app _ _ _ _ rfl _ _ _ _ rfl rfl hrun ?_
   clear f hrun hT hS U
   rename World => U
   rename FkS _ _ _ _ _ _ _ => f
   have hT : (fun W : World => W.cell? ⟨R, 0, none⟩ = some (.slice x n c) ∧ W.cell? ⟨R, 1, none⟩ = some (.slice bx n bc)) U := HTT.out _ f.below
   have hS : (fun _ : World => True) U := trivial
   refine hK.out _ _ hT (fun _ => hS) ?_
   clear hK K
   try simp only [Act.put, gA, gS, gZ, sI, sZ, sS]
   refine wpAnyT_one (i := 11) rfl (by kernel_rfl) (by kernel_rfl) (fun K hK => ?_)
   obtain ⟨y1, d1, U2, hrun, f2⟩ := f.apB (HSB.out.1 _ f.below) HSB.out.2.1 HSB.out.2.2
   rw [HLB.out] at hrun f2
   refine wpx_app _ _ _ _ rfl _ _ _ _ rfl rfl hrun ?_
   clear f hrun hT hS U
   rename World => U
   rename FkS _ _ _ _ _ _ _ => f
   have hT : (fun W : World => W.cell? ⟨R, 0, none⟩ = some (.slice x n c) ∧ W.cell? ⟨R, 1, none⟩ = some (.slice bx n bc)) U := HTT.out _ f.below
   have hS : (fun _ : World => True) U := trivial
   refine hK.out _ _ hT (fun _ => hS) ?_
   clear hK K
   try simp only [Act.put, gA, gS, gZ, sI, sZ, sS]
 rotate_left 2
 focus
  go_simp
  replace f := f.mkB
  generalize U.alloc (.cells #[] 4) = U2 at f ⊢
  generalize U.heap.size = g6 at f ⊢
  clear hT hS U
  rename World => U
  have hT : (fun W : World => W.cell? ⟨R, 0, none⟩ = some (.slice x n c) ∧ W.cell? ⟨R, 1, none⟩ = some (.slice bx n bc)) U := HTT.out _ f.below
  have hS : (fun _ : World => True) U := trivial
  refine hK.out _ _ hT (fun _ => hS) ?_
  clear hK K
  try simp only [Act.put, gA, gS, gZ, sI, sZ, sS]
  refine wpAnyT_one (i := 0) rfl (by kernel_rfl) (by kernel_rfl) (fun K hK => ?_)
  go_simp
  replace f := f.mkE
  generalize U.alloc (.cells #[] 44) = U2 at f ⊢
  generalize U.heap.size = g0 at f ⊢
  clear hT hS U
  rename World => U
  have hT : (fun W : World => W.cell? ⟨R, 0, none⟩ = some (.slice x n c) ∧ W.cell? ⟨R, 1, none⟩ = some (.slice bx n bc)) U := HTT.out _ f.below
  have hS : (fun _ : World => True) U := trivial
  refine hK.out _ _ hT (fun _ => hS) ?_
  clear hK K
  try simp only [Act.put, gA, gS, gZ, sI, sZ, sS]
  refine wpAnyT_one (i := 5) rfl (by kernel_rfl) (by kernel_rfl) (fun K hK => ?_)
  obtain ⟨x1, c1, U2, hrun, f2⟩ := f.apE (HSE.out.1 _ f.below) HSE.out.2.1 HSE.out.2.2
  rw [HLE.out] at hrun f2
  refine wpx_app _ _ _ _ rfl _ _ _ _ rfl rfl hrun ?_
  clear f hrun hT hS U
  rename World => U
  rename FkS _ _ _ _ _ _ _ => f
  have hT : (fun W : World => W.cell? ⟨R, 0, none⟩ = some (.slice x n c) ∧ W.cell? ⟨R, 1, none⟩ = some (.slice bx n bc)) U := HTT.out _ f.below
  have hS : (fun _ : World => True) U := trivial
  refine hK.out _ _ hT (fun _ => hS) ?_
  clear hK K
  try simp only [Act.put, gA, gS, gZ, sI, sZ, sS]
  refine wpAnyT_one (i := 11) rfl (by kernel_rfl) (by kernel_rfl) (fun K hK => ?_)
  obtain ⟨y1, d1, U2, hrun, f2⟩ := f.apB (HSB.out.1 _ f.below) HSB.out.2.1 HSB.out.2.2
  rw [HLB.out] at hrun f2
  refine wpx_app _ _ _ _ rfl _ _ _ _ rfl rfl hrun ?_
  clear f hrun hT hS U
  rename World => U
  rename FkS _ _ _ _ _ _ _ => f
  have hT : (fun W : World => W.cell? ⟨R, 0, none⟩ = some (.slice x n c) ∧ W.cell? ⟨R, 1, none⟩ = some (.slice bx n bc)) U := HTT.out _ f.below
  have hS : (fun _ : World => True) U := trivial
  refine hK.out _ _ hT (fun _ => hS) ?_
  clear hK K
  try simp only [Act.put, gA, gS, gZ, sI, sZ, sS]
 all_goals
  refine wpAnyT_one (i := 12) rfl (by kernel_rfl) (by kernel_rfl) (fun K hK => ?_)
  refine wpx_bld 85 _ rfl #[(0, .slice x1 n c1), (1, .slice y1 n d1)] (by kernel_rfl) _ (HBD.out x1 n c1 y1 n d1 U) ?_
  refine hK.out _ _ hT (fun _ => hS) ?_
  clear hK K
  try simp only [Act.put, gA, gS, gZ, sI, sZ, sS]
  refine wpAnyT_one (i := 13) rfl (by kernel_rfl) (by kernel_rfl) (fun K hK => ?_)
  go_simp
  have HF := Veil.mk (HEND.out U x1 c1 y1 d1 f)
  generalize U.alloc (.cells #[.slice x1 n c1, .slice y1 n d1] 85) = U2 at HF ⊢
  generalize U.heap.size = r at HF ⊢
  clear hT hS f HEND
  have hT : (fun W : World => W.cell? ⟨R, 0, none⟩ = some (.slice x n c) ∧ W.cell? ⟨R, 1, none⟩ = some (.slice bx n bc)) U2 := HTT.out _ HF.out.2.1
  have hS : (fun _ : World => True) U2 := trivial
  refine hK.out _ _ hT (fun _ => hS) ?_
  clear hK K
  try simp only [Act.put, gA, gS, gZ, sI, sZ, sS]
  refine ghA 14 _ hT hS ?_
  simp only [Act.put, gA, gS, gZ, sI, sZ, sS]
  refine wpAnyT_done (by kernel_rfl) ?_ _
  clear hT hS
  go_wp2
  go_ret
  rw [HN.out]
  exact ⟨r, x1, c1, y1, d1, rfl, HF.out⟩
theorem rdocC_build (st : Ds) (h : st.S.length = 8) (q : Rp) (lx : Option Addr) (n lc : Nat) (fx : Option Addr) (m fc : Nat) (hl : q.lv = .slice lx n lc) (hf : q.fv = .slice fx m fc) (wx : World) : (Instr.build 98 #[(0, .slice lx n lc), (1, .slice fx m fc), (2, .agg (st.S.map (Value.int .u32)).toArray), (3, .pointer (some ⟨q.T, 0, none⟩)), (4, .pointer (some ⟨q.H, 0, none⟩))]).run Tryz.prog wx = .ok (.agg (rdocC st q).toArray) wx := by
 unfold rdocC
 rw [hl, hf]
 obtain ⟨N, B, S, L, F⟩ := st
 match S, h with
 | [_, _, _, _, _, _, _, _], _ => exact run_build wx _ _ _ (by kernel_rfl)
set_option maxHeartbeats 16000000 in
theorem rfork10_any (base : Nat) (st : Ds) (p : Rp) (w : World) (hD : RDocAt w base st p) (hG : GoodD st) (hR : GoodR st p.K p.G) :
    Calls Tryz.prog 32 #[.pointer (some ⟨p.D, 0, none⟩)] w fun r w' => ∃ q, r = .returned (.pointer (some ⟨q.D, 0, none⟩)) ∧ RDocAt w' w.heap.size st q ∧ q.K = p.K ∧ q.G = p.G ∧ Below w.heap.size w w' ∧ ∀ k, rdocP q k → w.heap.size ≤ k := by
 have hnl := hG.nlen
 have hll := hG.llen
 have hkl := hR.klen
 have hgl : p.G.length ≤ 512 := by rw [hR.flags]; unfold flagsD; rw [List.length_map]; exact hll
 obtain ⟨lx, lc, hlv⟩ := hD.evs.isSlice
 obtain ⟨fx, fc, hfv⟩ := hD.flags.isSlice
 rw [List.length_map] at hlv hfv
 have HSE : Veil ((∀ W, Below w.heap.size w W → OwnI W base 44 17 (.slice lx st.L.length lc) (st.L.map Ev.cells)) ∧ (∀ c ∈ st.L.map Ev.cells, ∀ q ∈ c, q.oneCell' = true) ∧ (st.L.map Ev.cells).length ≤ 1000) := ⟨fun W hb => by rw [← hlv]; exact hD.evs.far hb, fun c hc q hq => by
  obtain ⟨e, _, rfl⟩ := List.mem_map.1 hc
  exact aev_one e q hq, by rw [List.length_map]; omega⟩
 have HSB : Veil ((∀ W, Below w.heap.size w W → OwnI W base 4 1 (.slice fx p.G.length fc) (p.G.map fun b => [Value.bool b])) ∧ (∀ c ∈ p.G.map (fun b => [Value.bool b]), ∀ q ∈ c, q.oneCell' = true) ∧ (p.G.map fun b => [Value.bool b]).length ≤ 1000) := ⟨fun W hb => by rw [← hfv]; exact hD.flags.far hb, flag_one p.G id, by rw [List.length_map]; omega⟩
 have HTT : Veil (∀ W, Below w.heap.size w W → W.cell? ⟨p.D, 0, none⟩ = some (.slice lx st.L.length lc) ∧ W.cell? ⟨p.D, 1, none⟩ = some (.slice fx p.G.length fc) ∧ W.rangeAt p.D 2 (st.S.map (Value.int .u32)) ∧ W.cell? ⟨p.D, 10, none⟩ = some (.pointer (some ⟨p.T, 0, none⟩)) ∧ W.cell? ⟨p.D, 11, none⟩ = some (.pointer (some ⟨p.H, 0, none⟩))) := ⟨fun W hb => by
  have h := hD.far hb
  exact ⟨by rw [← hlv]; exact h.cL hG.slen, by rw [← hfv]; exact h.cF hG.slen, h.cS hG.slen, h.cT hG.slen, h.cH hG.slen⟩⟩
 have HCT : Veil (∀ W, Below w.heap.size w W → Calls Tryz.prog 61 #[.pointer (some ⟨p.T, 0, none⟩)] W fun e w' => ∃ R' v', e = .returned (.pointer (some ⟨R', 0, none⟩)) ∧ RefT w' W.heap.size R' v' st.N ∧ Below W.heap.size W w' ∧ ∀ k, refP R' v' k → W.heap.size ≤ k) := ⟨fun W hb => rforkT_any base p.T p.tv st.N W (hD.tree.far hb)⟩
 have HCB : Veil (∀ W, Below w.heap.size w W → Calls Tryz.prog 62 #[.pointer (some ⟨p.H, 0, none⟩)] W fun r w' => ∃ R' x' c' bx' bc', r = .returned (.pointer (some ⟨R', 0, none⟩)) ∧ RefB W.heap.size w' R' p.K x' c' bx' bc' ∧ Below W.heap.size W w' ∧ ∀ k, OwnR R' (.slice x' p.K.length c') (.slice bx' p.K.length bc') k → W.heap.size ≤ k) := ⟨fun W hb => rbfork_any base W p.H p.K p.x p.c p.bx p.bc (hD.book.far hb) (by omega)⟩
 have HBD : Veil (∀ q : Rp, ∀ lx lc fx fc, q.lv = .slice lx st.L.length lc → q.fv = .slice fx p.G.length fc → ∀ wx, (Instr.build 98 #[(0, .slice lx st.L.length lc), (1, .slice fx p.G.length fc), (2, .agg (st.S.map (Value.int .u32)).toArray), (3, .pointer (some ⟨q.T, 0, none⟩)), (4, .pointer (some ⟨q.H, 0, none⟩))]).run Tryz.prog wx = .ok (.agg (rdocC st q).toArray) wx) := ⟨fun q lx lc fx fc h1 h2 wx => rdocC_build st hG.slen q lx _ lc fx _ fc h1 h2 wx⟩
 have HEND : Veil (∀ W4 W5 W6 lx' lc' fx' fc' R' v' H' x' c' bx' bc', FkS w.heap.size w W4 (.slice lx' st.L.length lc') (.slice fx' p.G.length fc') (st.L.map Ev.cells) (p.G.map fun b => [Value.bool b]) → RefT W5 W4.heap.size R' v' st.N → Below W4.heap.size W4 W5 → (∀ k, refP R' v' k → W4.heap.size ≤ k) → RefB W5.heap.size W6 H' p.K x' c' bx' bc' → Below W5.heap.size W5 W6 → (∀ k, OwnR H' (.slice x' p.K.length c') (.slice bx' p.K.length bc') k → W5.heap.size ≤ k) →
     ∃ q : Rp, q.D = W6.heap.size ∧ q.lv = .slice lx' st.L.length lc' ∧ q.fv = .slice fx' p.G.length fc' ∧ q.T = R' ∧ q.H = H' ∧ RDocAt (W6.alloc (.cells (rdocC st q).toArray 98)) w.heap.size st q ∧ q.K = p.K ∧ q.G = p.G ∧ Below w.heap.size w (W6.alloc (.cells (rdocC st q).toArray 98)) ∧ ∀ k, rdocP q k → w.heap.size ≤ k) := ⟨fun W4 W5 W6 lx' lc' fx' fc' R' v' H' x' c' bx' bc' f hT hb5 ht hB hb6 hb => by
  have hba : ∀ cs, Below W6.heap.size W6 (W6.alloc cs) := fun cs => (Below.refl _ _).alloc (Nat.le_refl _) _
  have hs4 := f.size
  have hs5 := hb5.size
  have hs6 := hb6.size
  have hbw : Below w.heap.size w W6 := f.below.trans ((hb5.trans (hb6.mono hs5)).mono hs4)
  refine ⟨⟨W6.heap.size, R', v', H', p.K, x', c', bx', bc', .slice lx' st.L.length lc', .slice fx' p.G.length fc', p.G⟩, rfl, rfl, rfl, rfl, rfl, ⟨CellsAt.new W6 98 _, ?_, ?_, ?_, ?_, fun g q r => ?_, fun g q r => ?_⟩, rfl, rfl, hbw.alloc hbw.size _, fun k q => ?_⟩
  · have h1 := (hT.far hb6).far (hba (.cells (rdocC st ⟨W6.heap.size, R', v', H', p.K, x', c', bx', bc', .slice lx' st.L.length lc', .slice fx' p.G.length fc', p.G⟩).toArray 98))
    exact ⟨h1.box, h1.own.less hs4, h1.len⟩
  · have h1 := hB.far (hba (.cells (rdocC st ⟨W6.heap.size, R', v', H', p.K, x', c', bx', bc', .slice lx' st.L.length lc', .slice fx' p.G.length fc', p.G⟩).toArray 98))
    exact ⟨h1.cells, h1.ev.less (by omega), h1.bo.less (by omega)⟩
  · exact ((f.ev.far hb5).far hb6).far (hba _)
  · exact ((f.bo.far hb5).far hb6).far (hba _)
  · have h1 := hb g (.inr (.inl q))
    have h2 := (f.ev.blockLt g r).1
    omega
  · have h1 := hb g (.inr (.inr q))
    have h2 := (f.bo.blockLt g r).1
    omega
  · rcases q with q | q | q | q | q
    · have : k = W6.heap.size := q
      omega
    · have := ht k q; omega
    · have := hb k q; omega
    · exact (f.ev.blockLt k q).2.1
    · exact (f.bo.blockLt k q).2.1⟩
 have iV : (Tryz.prog.info? 37).map (·.size) = some (st.S.map (Value.int .u32)).length := by rw [List.length_map, hG.slen]; kernel_rfl
 have uV := Tryz.underlying37
 have HLE : Veil ((st.L.map Ev.cells).length = st.L.length) := ⟨List.length_map ..⟩
 have HLB : Veil ((p.G.map fun b => [Value.bool b]).length = p.G.length) := ⟨List.length_map ..⟩
 generalize st.L.map Ev.cells = VL at HSE HEND HLE
 generalize p.G.map (fun b => [Value.bool b]) = UL at HSB HEND HLB
 generalize st.S.map (Value.int .u32) = SV at HTT HBD iV
 generalize st.L.length = n at HSE HTT HBD HEND HLE
 generalize p.G.length = m at HSB HTT HBD HEND HLB
 generalize p.D = D at HTT ⊢
 generalize p.T = T at HTT HCT
 generalize p.H = H at HTT HCB
 clear hD hG hR hlv hfv hnl hll hkl hgl
 go_enter Tryz.func32, Tryz.ntmps32
 go_upto_region 3 with fail
 have f := FkS.start w
 refine wp_region_gateT (fun W : World => W.cell? ⟨D, 0, none⟩ = some (.slice lx n lc) ∧ W.cell? ⟨D, 1, none⟩ = some (.slice fx m fc) ∧ W.rangeAt D 2 SV ∧ W.cell? ⟨D, 10, none⟩ = some (.pointer (some ⟨T, 0, none⟩)) ∧ W.cell? ⟨D, 11, none⟩ = some (.pointer (some ⟨H, 0, none⟩))) (fun _ => True) 99 (by kernel_rfl) ?_
 have hT : (fun W : World => W.cell? ⟨D, 0, none⟩ = some (.slice lx n lc) ∧ W.cell? ⟨D, 1, none⟩ = some (.slice fx m fc) ∧ W.rangeAt D 2 SV ∧ W.cell? ⟨D, 10, none⟩ = some (.pointer (some ⟨T, 0, none⟩)) ∧ W.cell? ⟨D, 11, none⟩ = some (.pointer (some ⟨H, 0, none⟩))) w.drew := HTT.out _ f.below
 have hS : (fun _ : World => True) w.drew := trivial
 generalize w.drew = U at f hT hS ⊢
 refine ghA 1 _ hT hS ?_
 simp only [Act.put, gA, gS, gZ, sI, sZ, sS]
 refine ghA 2 _ hT hS ?_
 simp only [Act.put, gA, gS, gZ, sI, sZ, sS]
 refine ghA 3 _ hT hS ?_
 simp only [Act.put, gA, gS, gZ, sI, sZ, sS]
 refine ghA 4 _ hT hS ?_
 simp only [Act.put, gA, gS, gZ, sI, sZ, sS]
 refine ghA 7 _ hT hS ?_
 simp only [Act.put, gA, gS, gZ, sI, sZ, sS]
 refine ghA 8 _ hT hS ?_
 simp only [Act.put, gA, gS, gZ, sI, sZ, sS]
 refine ghA 9 _ hT hS ?_
 simp only [Act.put, gA, gS, gZ, sI, sZ, sS]
 refine ghA 10 _ hT hS ?_
 simp only [Act.put, gA, gS, gZ, sI, sZ, sS]
 refine ghA 12 _ hT hS ?_
 simp only [Act.put, gA, gS, gZ, sI, sZ, sS]
 refine ghA 13 _ hT hS ?_
 simp only [Act.put, gA, gS, gZ, sI, sZ, sS]
 refine ghA 14 _ hT hS ?_
 simp only [Act.put, gA, gS, gZ, sI, sZ, sS]
 refine gl 15 20 37 19 D 2 SV (by kernel_rfl) (by kernel_rfl) (by kernel_rfl) (fun _ _ _ h => h) hT hS (by kernel_rfl) (fun _ h => h.2.2.1) uV rfl iV ?_
 simp only [Act.put, gA, gS, gZ, sI, sZ, sS]
 refine ghA 16 _ hT hS ?_
 simp only [Act.put, gA, gS, gZ, sI, sZ, sS]
 refine ghA 17 _ hT hS ?_
 simp only [Act.put, gA, gS, gZ, sI, sZ, sS]
 refine ghA 18 _ hT hS ?_
 simp only [Act.put, gA, gS, gZ, sI, sZ, sS]
 refine ghA 19 _ hT hS ?_
 simp only [Act.put, gA, gS, gZ, sI, sZ, sS]
 refine ghA 21 _ hT hS ?_
 simp only [Act.put, gA, gS, gZ, sI, sZ, sS]
 refine ghA 22 _ hT hS ?_
 simp only [Act.put, gA, gS, gZ, sI, sZ, sS]
 refine ghA 23 _ hT hS ?_
 simp only [Act.put, gA, gS, gZ, sI, sZ, sS]
 refine ghA 24 _ hT hS ?_
 simp only [Act.put, gA, gS, gZ, sI, sZ, sS]
 refine wpAnyT_two (i := 0) (j := 6) rfl rfl (by kernel_rfl) (by kernel_rfl) (by kernel_rfl) (fun K hK => ?_) (fun K hK => ?_)
 focus
  go_simp
  replace f := f.mkE
  generalize U.alloc (.cells #[] 44) = U2 at f ⊢
  generalize U.heap.size = g0 at f ⊢
  clear hT hS U
  rename World => U
  have hT : (fun W : World => W.cell? ⟨D, 0, none⟩ = some (.slice lx n lc) ∧ W.cell? ⟨D, 1, none⟩ = some (.slice fx m fc) ∧ W.rangeAt D 2 SV ∧ W.cell? ⟨D, 10, none⟩ = some (.pointer (some ⟨T, 0, none⟩)) ∧ W.cell? ⟨D, 11, none⟩ = some (.pointer (some ⟨H, 0, none⟩))) U := HTT.out _ f.below
  have hS : (fun _ : World => True) U := trivial
  refine hK.out _ _ hT (fun _ => hS) ?_
  clear hK K
  try simp only [Act.put, gA, gS, gZ, sI, sZ, sS]
  refine wpAnyT_two (i := 5) (j := 6) rfl rfl (by kernel_rfl) (by kernel_rfl) (by kernel_rfl) (fun K hK => ?_) (fun K hK => ?_)
  focus
   obtain ⟨x1, c1, U2, hrun, f2⟩ := f.apE (HSE.out.1 _ f.below) HSE.out.2.1 HSE.out.2.2
   rw [HLE.out] at hrun f2
   refine wpx_app _ _ _ _ rfl _ _ _ _ rfl rfl hrun ?_
   clear f hrun hT hS U
   rename World => U
   rename FkS _ _ _ _ _ _ _ => f
   have hT : (fun W : World => W.cell? ⟨D, 0, none⟩ = some (.slice lx n lc) ∧ W.cell? ⟨D, 1, none⟩ = some (.slice fx m fc) ∧ W.rangeAt D 2 SV ∧ W.cell? ⟨D, 10, none⟩ = some (.pointer (some ⟨T, 0, none⟩)) ∧ W.cell? ⟨D, 11, none⟩ = some (.pointer (some ⟨H, 0, none⟩))) U := HTT.out _ f.below
   have hS : (fun _ : World => True) U := trivial
   refine hK.out _ _ hT (fun _ => hS) ?_
   clear hK K
   try simp only [Act.put, gA, gS, gZ, sI, sZ, sS]
   refine wpAnyT_one (i := 6) rfl (by kernel_rfl) (by kernel_rfl) (fun K hK => ?_)
   go_simp
   replace f := f.mkB
   generalize U.alloc (.cells #[] 4) = U2 at f ⊢
   generalize U.heap.size = g6 at f ⊢
   clear hT hS U
   rename World => U
   have hT : (fun W : World => W.cell? ⟨D, 0, none⟩ = some (.slice lx n lc) ∧ W.cell? ⟨D, 1, none⟩ = some (.slice fx m fc) ∧ W.rangeAt D 2 SV ∧ W.cell? ⟨D, 10, none⟩ = some (.pointer (some ⟨T, 0, none⟩)) ∧ W.cell? ⟨D, 11, none⟩ = some (.pointer (some ⟨H, 0, none⟩))) U := HTT.out _ f.below
   have hS : (fun _ : World => True) U := trivial
   refine hK.out _ _ hT (fun _ => hS) ?_
   clear hK K
   try simp only [Act.put, gA, gS, gZ, sI, sZ, sS]
   refine wpAnyT_one (i := 11) rfl (by kernel_rfl) (by kernel_rfl) (fun K hK => ?_)
   obtain ⟨y1, d1, U2, hrun, f2⟩ := f.apB (HSB.out.1 _ f.below) HSB.out.2.1 HSB.out.2.2
   rw [HLB.out] at hrun f2
   refine wpx_app _ _ _ _ rfl _ _ _ _ rfl rfl hrun ?_
   clear f hrun hT hS U
   rename World => U
   rename FkS _ _ _ _ _ _ _ => f
   have hT : (fun W : World => W.cell? ⟨D, 0, none⟩ = some (.slice lx n lc) ∧ W.cell? ⟨D, 1, none⟩ = some (.slice fx m fc) ∧ W.rangeAt D 2 SV ∧ W.cell? ⟨D, 10, none⟩ = some (.pointer (some ⟨T, 0, none⟩)) ∧ W.cell? ⟨D, 11, none⟩ = some (.pointer (some ⟨H, 0, none⟩))) U := HTT.out _ f.below
   have hS : (fun _ : World => True) U := trivial
   refine hK.out _ _ hT (fun _ => hS) ?_
   clear hK K
   try simp only [Act.put, gA, gS, gZ, sI, sZ, sS]
  rotate_left
  focus
   go_simp
   replace f := f.mkB
   generalize U.alloc (.cells #[] 4) = U2 at f ⊢
   generalize U.heap.size = g6 at f ⊢
   clear hT hS U
   rename World => U
   have hT : (fun W : World => W.cell? ⟨D, 0, none⟩ = some (.slice lx n lc) ∧ W.cell? ⟨D, 1, none⟩ = some (.slice fx m fc) ∧ W.rangeAt D 2 SV ∧ W.cell? ⟨D, 10, none⟩ = some (.pointer (some ⟨T, 0, none⟩)) ∧ W.cell? ⟨D, 11, none⟩ = some (.pointer (some ⟨H, 0, none⟩))) U := HTT.out _ f.below
   have hS : (fun _ : World => True) U := trivial
   refine hK.out _ _ hT (fun _ => hS) ?_
   clear hK K
   try simp only [Act.put, gA, gS, gZ, sI, sZ, sS]
   refine wpAnyT_one (i := 5) rfl (by kernel_rfl) (by kernel_rfl) (fun K hK => ?_)
   obtain ⟨x1, c1, U2, hrun, f2⟩ := f.apE (HSE.out.1 _ f.below) HSE.out.2.1 HSE.out.2.2
   rw [HLE.out] at hrun f2
   refine wpx_app _ _ _ _ rfl _ _ _ _ rfl rfl hrun ?_
   clear f hrun hT hS U
   rename World => U
   rename FkS _ _ _ _ _ _ _ => f
   have hT : (fun W : World => W.cell? ⟨D, 0, none⟩ = some (.slice lx n lc) ∧ W.cell? ⟨D, 1, none⟩ = some (.slice fx m fc) ∧ W.rangeAt D 2 SV ∧ W.cell? ⟨D, 10, none⟩ = some (.pointer (some ⟨T, 0, none⟩)) ∧ W.cell? ⟨D, 11, none⟩ = some (.pointer (some ⟨H, 0, none⟩))) U := HTT.out _ f.below
   have hS : (fun _ : World => True) U := trivial
   refine hK.out _ _ hT (fun _ => hS) ?_
   clear hK K
   try simp only [Act.put, gA, gS, gZ, sI, sZ, sS]
   refine wpAnyT_one (i := 11) rfl (by kernel_rfl) (by kernel_rfl) (fun K hK => ?_)
   obtain ⟨y1, d1, U2, hrun, f2⟩ := f.apB (HSB.out.1 _ f.below) HSB.out.2.1 HSB.out.2.2
   rw [HLB.out] at hrun f2
   refine wpx_app _ _ _ _ rfl _ _ _ _ rfl rfl hrun ?_
   clear f hrun hT hS U
   rename World => U
   rename FkS _ _ _ _ _ _ _ => f
   have hT : (fun W : World => W.cell? ⟨D, 0, none⟩ = some (.slice lx n lc) ∧ W.cell? ⟨D, 1, none⟩ = some (.slice fx m fc) ∧ W.rangeAt D 2 SV ∧ W.cell? ⟨D, 10, none⟩ = some (.pointer (some ⟨T, 0, none⟩)) ∧ W.cell? ⟨D, 11, none⟩ = some (.pointer (some ⟨H, 0, none⟩))) U := HTT.out _ f.below
   have hS : (fun _ : World => True) U := trivial
   refine hK.out _ _ hT (fun _ => hS) ?_
   clear hK K
   try simp only [Act.put, gA, gS, gZ, sI, sZ, sS]
 rotate_left 2
 focus
  go_simp
  replace f := f.mkB
  generalize U.alloc (.cells #[] 4) = U2 at f ⊢
  generalize U.heap.size = g6 at f ⊢
  clear hT hS U
  rename World => U
  have hT : (fun W : World => W.cell? ⟨D, 0, none⟩ = some (.slice lx n lc) ∧ W.cell? ⟨D, 1, none⟩ = some (.slice fx m fc) ∧ W.rangeAt D 2 SV ∧ W.cell? ⟨D, 10, none⟩ = some (.pointer (some ⟨T, 0, none⟩)) ∧ W.cell? ⟨D, 11, none⟩ = some (.pointer (some ⟨H, 0, none⟩))) U := HTT.out _ f.below
  have hS : (fun _ : World => True) U := trivial
  refine hK.out _ _ hT (fun _ => hS) ?_
  clear hK K
  try simp only [Act.put, gA, gS, gZ, sI, sZ, sS]
  refine wpAnyT_one (i := 0) rfl (by kernel_rfl) (by kernel_rfl) (fun K hK => ?_)
  go_simp
  replace f := f.mkE
  generalize U.alloc (.cells #[] 44) = U2 at f ⊢
  generalize U.heap.size = g0 at f ⊢
  clear hT hS U
  rename World => U
  have hT : (fun W : World => W.cell? ⟨D, 0, none⟩ = some (.slice lx n lc) ∧ W.cell? ⟨D, 1, none⟩ = some (.slice fx m fc) ∧ W.rangeAt D 2 SV ∧ W.cell? ⟨D, 10, none⟩ = some (.pointer (some ⟨T, 0, none⟩)) ∧ W.cell? ⟨D, 11, none⟩ = some (.pointer (some ⟨H, 0, none⟩))) U := HTT.out _ f.below
  have hS : (fun _ : World => True) U := trivial
  refine hK.out _ _ hT (fun _ => hS) ?_
  clear hK K
  try simp only [Act.put, gA, gS, gZ, sI, sZ, sS]
  refine wpAnyT_one (i := 5) rfl (by kernel_rfl) (by kernel_rfl) (fun K hK => ?_)
  obtain ⟨x1, c1, U2, hrun, f2⟩ := f.apE (HSE.out.1 _ f.below) HSE.out.2.1 HSE.out.2.2
  rw [HLE.out] at hrun f2
  refine wpx_app _ _ _ _ rfl _ _ _ _ rfl rfl hrun ?_
  clear f hrun hT hS U
  rename World => U
  rename FkS _ _ _ _ _ _ _ => f
  have hT : (fun W : World => W.cell? ⟨D, 0, none⟩ = some (.slice lx n lc) ∧ W.cell? ⟨D, 1, none⟩ = some (.slice fx m fc) ∧ W.rangeAt D 2 SV ∧ W.cell? ⟨D, 10, none⟩ = some (.pointer (some ⟨T, 0, none⟩)) ∧ W.cell? ⟨D, 11, none⟩ = some (.pointer (some ⟨H, 0, none⟩))) U := HTT.out _ f.below
  have hS : (fun _ : World => True) U := trivial
  refine hK.out _ _ hT (fun _ => hS) ?_
  clear hK K
  try simp only [Act.put, gA, gS, gZ, sI, sZ, sS]
  refine wpAnyT_one (i := 11) rfl (by kernel_rfl) (by kernel_rfl) (fun K hK => ?_)
  obtain ⟨y1, d1, U2, hrun, f2⟩ := f.apB (HSB.out.1 _ f.below) HSB.out.2.1 HSB.out.2.2
  rw [HLB.out] at hrun f2
  refine wpx_app _ _ _ _ rfl _ _ _ _ rfl rfl hrun ?_
  clear f hrun hT hS U
  rename World => U
  rename FkS _ _ _ _ _ _ _ => f
  have hT : (fun W : World => W.cell? ⟨D, 0, none⟩ = some (.slice lx n lc) ∧ W.cell? ⟨D, 1, none⟩ = some (.slice fx m fc) ∧ W.rangeAt D 2 SV ∧ W.cell? ⟨D, 10, none⟩ = some (.pointer (some ⟨T, 0, none⟩)) ∧ W.cell? ⟨D, 11, none⟩ = some (.pointer (some ⟨H, 0, none⟩))) U := HTT.out _ f.below
  have hS : (fun _ : World => True) U := trivial
  refine hK.out _ _ hT (fun _ => hS) ?_
  clear hK K
  try simp only [Act.put, gA, gS, gZ, sI, sZ, sS]
 all_goals
  have hct := HCT.out U f.below
  refine wpAnyT_one (i := 20) rfl (by kernel_rfl) (by kernel_rfl) (fun K hK => ?_)
  refine wpx_call _ _ (by kernel_rfl) (hct.mono ?_)
  rintro y U5 ⟨R', v', rfl, hT5, hb5, ht5⟩
  refine ⟨_, rfl, ?_⟩
  have hw5 : Below w.heap.size w U5 := f.below.trans (hb5.mono f.size)
  replace hT := HTT.out _ hw5
  replace hS : (fun _ : World => True) U5 := trivial
  have hcb := HCB.out U5 hw5
  clear hct
  refine hK.out _ _ hT (fun _ => hS) ?_
  clear hK K
  try simp only [Act.put, gA, gS, gZ, sI, sZ, sS]
  refine wpAnyT_one (i := 25) rfl (by kernel_rfl) (by kernel_rfl) (fun K hK => ?_)
  refine wpx_call _ _ (by kernel_rfl) (hcb.mono ?_)
  rintro y U6 ⟨H', x', c', bx', bc', rfl, hB6, hb6, ht6⟩
  refine ⟨_, rfl, ?_⟩
  have hw6 : Below w.heap.size w U6 := hw5.trans (hb6.mono hw5.size)
  replace hT := HTT.out _ hw6
  replace hS : (fun _ : World => True) U6 := trivial
  obtain ⟨q, e1, e2, e3, e4, e5, hQ⟩ := HEND.out U U5 U6 x1 c1 y1 d1 R' v' H' x' c' bx' bc' f hT5 hb5 ht5 hB6 hb6 ht6
  have hbd := HBD.out q x1 c1 y1 d1 e2 e3 U6
  rw [e4, e5] at hbd
  have HQ := Veil.mk hQ
  have E1 := Veil.mk e1
  clear hcb HEND f hT5 hb5 ht5 hB6 hb6 ht6 e1 e2 e3 e4 e5 hQ
  refine hK.out _ _ hT (fun _ => hS) ?_
  clear hK K
  try simp only [Act.put, gA, gS, gZ, sI, sZ, sS]
  refine wpAnyT_one (i := 26) rfl (by kernel_rfl) (by kernel_rfl) (fun K hK => ?_)
  refine wpx_bld 98 _ rfl #[(0, .slice x1 n c1), (1, .slice y1 m d1), (2, .agg SV.toArray), (3, .pointer (some ⟨R', 0, none⟩)), (4, .pointer (some ⟨H', 0, none⟩))] (by kernel_rfl) _ hbd ?_
  refine hK.out _ _ hT (fun _ => hS) ?_
  clear hK K
  try simp only [Act.put, gA, gS, gZ, sI, sZ, sS]
  have hq1 := HQ.out.2.2.2.1
  generalize (rdocC st q).toArray = AQ at HQ hq1 hbd ⊢
  refine wpAnyT_one (i := 27) rfl (by kernel_rfl) (by kernel_rfl) (fun K hK => ?_)
  go_simp
  generalize U6.alloc (.cells AQ 98) = U7 at HQ hq1 ⊢
  have hU : q.D = U6.heap.size := E1.out
  generalize U6.heap.size = r at hU ⊢
  clear hT hS hbd
  have hT : (fun W : World => W.cell? ⟨D, 0, none⟩ = some (.slice lx n lc) ∧ W.cell? ⟨D, 1, none⟩ = some (.slice fx m fc) ∧ W.rangeAt D 2 SV ∧ W.cell? ⟨D, 10, none⟩ = some (.pointer (some ⟨T, 0, none⟩)) ∧ W.cell? ⟨D, 11, none⟩ = some (.pointer (some ⟨H, 0, none⟩))) U7 := HTT.out _ hq1
  have hS : (fun _ : World => True) U7 := trivial
  refine hK.out _ _ hT (fun _ => hS) ?_
  clear hK K
  try simp only [Act.put, gA, gS, gZ, sI, sZ, sS]
  refine ghA 28 _ hT hS ?_
  simp only [Act.put, gA, gS, gZ, sI, sZ, sS]
  refine wpAnyT_done (by kernel_rfl) ?_ _
  clear hT hS
  go_wp2
  go_ret
  exact ⟨q, by rw [hU]; rfl, HQ.out⟩
end Go.Proofs.YtmbdohnmbkpfaaaGreat
