/- fugue: what FugueOrder's two loops keep: a tree, the good deeds, a second tree. -/
import Derived.Test.YtdkkenlehdblpaaFp3
import Derived.Test.YtdkkenlehdblpaaFugueDeletesW
namespace Go.Proofs.Ytdkkenlehdblpaa
open Go.RowKit Go.Shelf
set_option maxRecDepth 20000
set_option linter.unusedSimpArgs false
theorem infoD7 : (Try.prog.info? 34).map (fun i => (i.zero, i.size, i.bytes)) = some (some (.agg #[.int .i64 0, .int .u8 0, .int .u32 0, .int .u8 0, .int .u32 0, .bool false, .int .u8 0]), 7, 32) := by kernel_rfl
theorem cells_one (d : Dd8) : ∀ u ∈ d.cells, u.oneCell' = true := by
  intro u hu
  simp only [Dd8.cells, encF, dotC, List.mem_append, List.mem_cons, List.not_mem_nil, or_false] at hu
  rcases hu with (((rfl | rfl | rfl) | rfl | rfl) | rfl) | rfl <;> rfl
theorem sizeDs (w : World) : (sizeOf (Try.prog.elem 22)).run Try.prog w = .ok 7 w := by kernel_rfl
theorem elemDs : Try.prog.underlying 22 = some (.slice (Try.prog.elem 22)) := by kernel_rfl
/-- 'l[:h]' of deeds. -/
theorem run_deeds_h (w : World) (x : Option Addr) (len cap h : Nat) (hh : h ≤ cap) : (Instr.slice 22 (.slice x len cap) none (some (.int .i64 (h : Int))) none).run Try.prog w = .ok (.slice (subA x cap 0) h cap) w := by
  rw [run_slice_h w 22 x len cap elemDs .i64 (h : Int) (by omega) (by omega), sizeDs]
  simp only [sliced, Result.andThen, Int.toNat_natCast, Nat.sub_zero, subA]
theorem DeedsAt.cut {w : World} {x : Option Addr} {len cap : Nat} {ds : List Dd8} (h : DeedsAt w x len cap ds) (k : Nat) (hk : k < len) : DeedsAt w x k cap (ds.take k) := by
  refine ⟨by rw [List.length_take]; have := h.len_eq; omega, by have := h.le; omega, h.top, ?_, fun d hd => h.ok d (List.mem_of_mem_take hd)⟩
  rcases h.at_ with h0 | ⟨b, off, hx, hc⟩
  · omega
  · refine .inr ⟨b, off, hx, fun j hj i v hv => ?_⟩
    rw [List.length_take] at hj
    rw [List.getElem_take] at hv
    exact hc j (by omega) i v hv
/-- A tree and the deeds that made it. -/
structure GoodT (w : World) (base R bc bn : Nat) (V : (Int × Int) × Bool → Value) (v : Value) (G : List Dd8) : Prop where
  tree : TreeAt w base R bc bn (G.map Dd8.nd) V
  good : OwnI w base 34 7 v (G.map Dd8.cells)
  ok : TreeOk (G.map Dd8.nd)
  built : Built (G.map Dd8.nd)
  all : ∀ d ∈ G, d.Ok
  apart : ∀ k, treeP R bc bn V k → v.ownBlock ≠ some k
  above : ∀ k, treeP R bc bn V k → base ≤ k
  low : base ≤ w.heap.size
theorem GoodT.far {w w' : World} {base R bc bn : Nat} {V : (Int × Int) × Bool → Value} {v : Value} {G : List Dd8} (h : GoodT w base R bc bn V v G) (hb : Below w.heap.size w w') : GoodT w' base R bc bn V v G := ⟨h.tree.far hb, h.good.far hb, h.ok, h.built, h.all, h.apart, h.above, Nat.le_trans h.low hb.size⟩
/-- What does not come leaves all as it was. -/
theorem GoodT.no {w w' : World} {base R bc bn : Nat} {V V' : (Int × Int) × Bool → Value} {v : Value} {G : List Dd8} (h : GoodT w base R bc bn V v G) {d : Dd8} (hr : refI (G.map Dd8.nd) d.nd ≠ 0) (hT : TreeAt w' base R bc bn (insN (G.map Dd8.nd) d.nd) V') (ht : TreeTo R bc bn V V' w w') : GoodT w' base R bc bn V' v G ∧ Below base w w' := by
  unfold insN at hT
  rw [if_neg hr] at hT
  refine ⟨⟨hT, h.good.turned ht.turn (fun g hg q => h.apart g q hg), h.ok, h.built, h.all, fun k hk hq => ?_, fun k hk => ?_, Nat.le_trans h.low ht.turn.size⟩, below_turn ht.turn h.above h.low⟩
  · rcases ht.own k hk with r | r
    · exact h.apart k r hq
    · have := (h.good.blockLt k hq).1; omega
  · rcases ht.own k hk with r | r
    · exact h.above k r
    · have := h.low; omega
/-- What comes: the tree has it, and it is written behind the others. -/
theorem GoodT.yes {w W : World} {base R bc bn : Nat} {V V' : (Int × Int) × Bool → Value} {v : Value} {G : List Dd8} (h : GoodT w base R bc bn V v G) {d : Dd8} (hd : d.Ok) (hl : G.length ≤ 1000) (hr : refI (G.map Dd8.nd) d.nd = 0) (hT : TreeAt W base R bc bn (insN (G.map Dd8.nd) d.nd) V') (ht : TreeTo R bc bn V V' w W) :
    ∃ x c W1, (Builtin.append_ #[22, 22] 22 #[v, .slice (some ⟨W.heap.size, 0, none⟩) 1 1]).run Try.prog (W.alloc (.cells d.cells.toArray 34)) = .ok (.slice x (G.length + 1) c) W1 ∧ GoodT W1 base R bc bn V' (.slice x (G.length + 1) c) (G ++ [d]) ∧ Below base w W1 := by
  have hbA : Below W.heap.size W (W.alloc (.cells d.cells.toArray 34)) := (Below.refl _ _).alloc (Nat.le_refl _) _
  have hgW : OwnI W base 34 7 v (G.map Dd8.cells) := h.good.turned ht.turn (fun g hg q => h.apart g q hg)
  have hzt := ht.turn.size
  have hlow := h.low
  obtain ⟨v', W1, hrun, ho, hg, hbl⟩ := (hgW.far hbA).app (P := Try.prog) 22 22 Try.underlying22 infoD7 rfl (by decide) d.cells rfl (cells_one d) W.heap.size (CellsAt.new W 34 d.cells).wholeM (by rw [List.length_map]; omega) (by decide) (by simp; omega)
  have hza := hbA.size
  have hzg := hg.size
  obtain ⟨x, c, hxc⟩ := ho.isSlice
  rw [List.length_append, List.length_map, List.length_singleton] at hxc
  subst hxc
  unfold insN at hT
  rw [if_pos hr] at hT
  have hap : ∀ k, treeP R bc bn V' k → v.ownBlock ≠ some k := fun k hk hq => by
    rcases ht.own k hk with r | r
    · exact h.apart k r hq
    · have := (h.good.blockLt k hq).1; omega
  have e : (G ++ [d]).map Dd8.nd = G.map Dd8.nd ++ [d.nd] := by simp
  refine ⟨x, c, W1, hrun, ⟨?_, ?_, ?_, ?_, ?_, ?_, ?_, by omega⟩, ?_⟩
  · rw [e]
    exact (hT.far hbA).congr fun k hk => hg.block k ((hT.far hbA).blockLt k hk) (fun q => hap k hk q.symm)
  · rw [List.map_append]; exact ho
  · have := h.ok.ins d.nd
    unfold insN at this
    rw [if_pos hr] at this
    rw [e]; exact this
  · rw [e]; exact h.built.snoc hr
  · intro y hy
    rcases List.mem_append.1 hy with q | q
    · exact h.all y q
    · rw [List.mem_singleton.1 q]; exact hd
  · intro k hk
    rcases hbl with q | q
    · rw [q]; exact hap k hk
    · rw [q]
      have := hT.blockLt k hk
      intro r
      have := Option.some.inj r
      omega
  · intro k hk
    rcases ht.own k hk with r | r
    · exact h.above k r
    · omega
  · refine (below_turn ht.turn h.above h.low).trans ((hbA.mono (by omega)).trans ?_)
    exact below_turn (p := fun k => v.ownBlock = some k) (Turn.of_grown hg fun k hk => hk) (fun k hk => (h.good.blockLt k hk).2.1) (by omega)
theorem TreeAt.less {w : World} {base base' R bc bn : Nat} {N : List Nd} {V : (Int × Int) × Bool → Value} (h : TreeAt w base R bc bn N V) (hb : base' ≤ base) : TreeAt w base' R bc bn N V := ⟨h.box, h.chars, h.nodes, ⟨fun s hs => (h.sides.own s hs).less hb, h.sides.apart, h.sides.far⟩, h.empty, h.nodup, h.okId, h.okChr, h.ne⟩
/-- Both trees, and the good deeds. -/
structure SecT (w : World) (base R bc bn : Nat) (V : (Int × Int) × Bool → Value) (v : Value) (G : List Dd8) (R' bc' bn' : Nat) (V' : (Int × Int) × Bool → Value) (M : List Nd) : Prop where
  one : GoodT w base R bc bn V v G
  tree : TreeAt w base R' bc' bn' M V'
  again : Again (G.map Dd8.nd) M
  apart : ∀ k, treeP R' bc' bn' V' k → ¬ treeP R bc bn V k ∧ v.ownBlock ≠ some k
  above : ∀ k, treeP R' bc' bn' V' k → base ≤ k
theorem SecT.far {w w' : World} {base R bc bn R' bc' bn' : Nat} {V V' : (Int × Int) × Bool → Value} {v : Value} {G : List Dd8} {M : List Nd} (h : SecT w base R bc bn V v G R' bc' bn' V' M) (hb : Below w.heap.size w w') : SecT w' base R bc bn V v G R' bc' bn' V' M := ⟨h.one.far hb, h.tree.far hb, h.again, h.apart, h.above⟩
/-- One more of the good comes to the second tree, as it was not there. -/
theorem SecT.ins {w w' : World} {base R bc bn R' bc' bn' : Nat} {V V' V2 : (Int × Int) × Bool → Value} {v : Value} {G : List Dd8} {M : List Nd} (h : SecT w base R bc bn V v G R' bc' bn' V' M) {d : Dd8} (hd : d ∈ G) (hn : ¬ (chrN M d.nd.id).isSome = true) (hT : TreeAt w' base R' bc' bn' (insN M d.nd) V2) (ht : TreeTo R' bc' bn' V' V2 w w') : SecT w' base R bc bn V v G R' bc' bn' V2 (againN M d.nd) ∧ Below base w w' := by
  have hag := (h.again.step (List.mem_map_of_mem (f := Dd8.nd) hd)).1
  have ea : againN M d.nd = insN M d.nd := by unfold againN; rw [if_neg hn]
  refine ⟨⟨⟨h.one.tree.congr fun k hk => ht.turn.block k (h.one.tree.blockLt k hk) (fun q => (h.apart k q).1 hk), h.one.good.turned ht.turn (fun g hg q => (h.apart g q).2 hg), h.one.ok, h.one.built, h.one.all, h.one.apart, h.one.above, Nat.le_trans h.one.low ht.turn.size⟩, by rw [ea]; exact hT, hag, fun k hk => ?_, fun k hk => ?_⟩, below_turn ht.turn h.above h.one.low⟩
  · rcases ht.own k hk with r | r
    · exact h.apart k r
    · exact ⟨fun q => by have := h.one.tree.blockLt k q; omega, fun q => by have := (h.one.good.blockLt k q).1; omega⟩
  · rcases ht.own k hk with r | r
    · exact h.above k r
    · have := h.one.low; omega
/-- The second tree is new. -/
theorem SecT.new {w w' : World} {base R bc bn R' bc' bn' : Nat} {V : (Int × Int) × Bool → Value} {v : Value} {G : List Dd8} (h : GoodT w base R bc bn V v G) (hT : TreeAt w' w.heap.size R' bc' bn' [] (fun _ => .slice none 0 0)) (hb : Below w.heap.size w w') (h1 : w.heap.size ≤ R') (h2 : w.heap.size ≤ bc') (h3 : w.heap.size ≤ bn') : SecT w' base R bc bn V v G R' bc' bn' (fun _ => .slice none 0 0) [] := by
  have hge : ∀ k, treeP R' bc' bn' (fun _ => .slice none 0 0) k → w.heap.size ≤ k := fun k hk => by
    rcases hk with q | q | q | ⟨s, _, q⟩
    · omega
    · omega
    · omega
    · cases q
  refine ⟨h.far hb, hT.less h.low, ⟨TreeOk.nil, fun m hm => by simp at hm⟩, fun k hk => ⟨fun q => ?_, fun q => ?_⟩, fun k hk => ?_⟩
  · have := hge k hk; have := h.tree.blockLt k q; omega
  · have := hge k hk; have := (h.good.blockLt k q).1; omega
  · have := hge k hk; have := h.low; omega
/-- A round of the second loop, from the last down to the first. -/
def downN (G : List Nd) : Nat → List Nd → List Nd
  | 0, M => M
  | k + 1, M => if h : k < G.length then downN G k (againN M G[k]) else downN G k M
theorem downN_again {G : List Nd} : ∀ (k : Nat) (M : List Nd), Again G M → Again G (downN G k M) ∧ ∀ m ∈ M, m ∈ downN G k M
  | 0, M, h => ⟨h, fun m hm => hm⟩
  | k + 1, M, h => by
    unfold downN
    split
    · next hk =>
      obtain ⟨a, b⟩ := h.step (List.getElem_mem hk)
      obtain ⟨c, d⟩ := downN_again k _ a
      exact ⟨c, fun m hm => d m (b m hm)⟩
    · exact downN_again k M h
theorem downN_succ {G : List Nd} {k : Nat} (hk : k < G.length) (M : List Nd) : downN G (k + 1) M = downN G k (againN M G[k]) := by
  rw [downN, dif_pos hk]
/-- With the first r there, a round brings the next. -/
theorem downN_gets {G : List Nd} (hG : TreeOk G) (hB : Built G) (hl : G.length ≤ 40) (r : Nat) (hr : r < G.length) : ∀ (k : Nat) (M : List Nd), Again G M → (∀ j (hj : j < G.length), j < r → G[j] ∈ M) → r < k → G[r] ∈ downN G k M
  | 0, _, _, _, h0 => by omega
  | k + 1, M, h, hf, hk => by
    unfold downN
    split
    · next hkl =>
      obtain ⟨a, b⟩ := h.step (List.getElem_mem hkl)
      by_cases e : r = k
      · subst e
        exact (downN_again r _ a).2 _ (h.gets hG hB hl hr hf)
      · exact downN_gets hG hB hl r hr k _ a (fun j hj q => b _ (hf j hj q)) (by omega)
    · exact downN_gets hG hB hl r hr k M h hf (by omega)
/-- Behind n rounds the first n are there. -/
def AllIn (G M : List Nd) (n : Nat) : Prop := Again G M ∧ ∀ j (hj : j < G.length), j < n → G[j] ∈ M
theorem AllIn.nil (G : List Nd) : AllIn G [] 0 := ⟨⟨TreeOk.nil, fun m hm => by simp at hm⟩, fun j _ h => by omega⟩
theorem AllIn.round {G M : List Nd} {n : Nat} (hG : TreeOk G) (hB : Built G) (hl : G.length ≤ 40) (h : AllIn G M n) (hn : n < G.length) : AllIn G (downN G G.length M) (n + 1) := by
  obtain ⟨a, b⟩ := downN_again G.length M h.1
  refine ⟨a, fun j hj q => ?_⟩
  by_cases e : j < n
  · exact b _ (h.2 j hj e)
  · have : j = n := by omega
    subst this
    exact downN_gets hG hB hl j hn G.length M h.1 h.2 hn
theorem AllIn.done {G M : List Nd} (hG : TreeOk G) (h : AllIn G M G.length) : walkA M rootS = walkA G rootS ∧ textN M = textN G ∧ M.length = G.length :=
  same_nodes h.1.ok hG fun n => ⟨h.1.sub n, fun hn => by
    obtain ⟨j, hj, rfl⟩ := List.getElem_of_mem hn
    exact h.2 j hj hj⟩
end Go.Proofs.Ytdkkenlehdblpaa

