/- fugue, pure, for TopTyped: what has been typed. Bytes behind bytes of the call's own, as a run. TopTyped: the tree and the plain row beside it. -/
import Derived.Test.YthjkcfpdkhghpaaTt2
import Derived.Test.YthjkcfpdkhghpaaFp2
namespace Go.Proofs.Ythjkcfpdkhghpaa
/-- Behind i steps the nodes are N, and the text is z. -/
structure Typed (N : List Nd) (z : List Int) (i : Nat) : Prop where
  ok : TreeOk N
  text : textN N = z
  len : N.length ≤ i
  ids : ∀ n ∈ N, n.id.1 = 1 ∧ n.id.2 ≤ (i : Int)
theorem Typed.nil : Typed [] [] 0 := ⟨TreeOk.nil, rfl, Nat.le_refl _, fun _ h => by simp at h⟩
theorem Typed.wr {N : List Nd} {z : List Int} {i : Nat} (h : Typed N z i) : (wrN N).length = z.length := by rw [← h.text]; unfold textN; rw [List.length_map]
theorem Typed.few {N : List Nd} {z : List Int} {i : Nat} (h : Typed N z i) : z.length ≤ i := by
  rw [← h.wr]
  unfold wrN
  have h1 := List.length_filter_le (writB N) (walkA N rootS)
  rw [h.ok.len] at h1
  have := h.len
  omega
theorem Typed.del {N : List Nd} {z : List Int} {i k : Nat} (h : Typed N z i) (hk : k < (wrN N).length) : Typed (delN N (wrN N)[k]) (z.take k ++ z.drop (k + 1)) (i + 1) where
  ok := h.ok.del _
  text := by rw [textN_del h.ok hk, h.text]
  len := by have := h.len; unfold delN; rw [List.length_map]; omega
  ids := fun n hn => by
    unfold delN at hn
    obtain ⟨m, hm, rfl⟩ := List.mem_map.1 hn
    have h1 := h.ids m hm
    have h2 : (gone (wrN N)[k] m).id = m.id := by unfold gone; split <;> rfl
    rw [h2]
    exact ⟨h1.1, by push_cast; omega⟩
theorem refI_zero {N : List Nd} {n : Nd} (h1 : n.id ≠ (0, 0)) (h2 : 1 ≤ n.chr) (h3 : n.chr ≤ 127) (h4 : n.side.1 = (0, 0) → n.side.2 = true) (h5 : ∀ m ∈ N, m.id ≠ n.id) (h6 : n.side.1 = (0, 0) ∨ (chrN N n.side.1).isSome = true) (h7 : N.length < 512) : refI N n = 0 := by
  have h5b : (chrN N n.id).isSome = false := by
    cases hq : (chrN N n.id).isSome with
    | false => rfl
    | true => obtain ⟨m, hm, e⟩ := chrN_some.1 hq; exact absurd e (h5 m hm)
  unfold refI
  rw [if_neg, if_neg (by rw [h5b]; simp), if_neg, if_neg (by omega)]
  · rintro ⟨a, b⟩
    rcases h6 with q | q
    · exact a q
    · rw [q] at b; cases b
  · rintro (q | q | q | ⟨q, r⟩)
    · exact h1 q
    · omega
    · omega
    · rw [h4 q] at r; cases r
theorem Typed.ins {N : List Nd} {z : List Int} {i k : Nat} (h : Typed N z i) (hi : i < 60) (hk : k ≤ z.length) {c : Int} (hc1 : 1 ≤ c) (hc2 : c ≤ 127) : (placeN N (k : Nat)).2.2 = 0 ∧ refI N ⟨(1, (i : Int) + 1), ((placeN N (k : Nat)).1, (placeN N (k : Nat)).2.1), c⟩ = 0 ∧ Typed (insN N ⟨(1, (i : Int) + 1), ((placeN N (k : Nat)).1, (placeN N (k : Nat)).2.1), c⟩) (z.take k ++ [c] ++ z.drop k) (i + 1) := by
  have hkw : k ≤ (wrN N).length := by rw [h.wr]; exact hk
  obtain ⟨p1, p2, p3⟩ := place_ok h.ok hkw
  have hln := h.len
  have hr : refI N ⟨(1, (i : Int) + 1), ((placeN N (k : Nat)).1, (placeN N (k : Nat)).2.1), c⟩ = 0 := refI_zero (by simp) hc1 hc2 p2 (fun m hm e => by
    have h1 := (h.ids m hm).2
    have h2 : m.id.2 = (i : Int) + 1 := congrArg Prod.snd e
    omega) p3 (by omega)
  have hin : insN N ⟨(1, (i : Int) + 1), ((placeN N (k : Nat)).1, (placeN N (k : Nat)).2.1), c⟩ = N ++ [⟨(1, (i : Int) + 1), ((placeN N (k : Nat)).1, (placeN N (k : Nat)).2.1), c⟩] := by unfold insN; rw [if_pos hr]
  refine ⟨p1, hr, ⟨h.ok.ins _, ?_, ?_, fun n hn => ?_⟩⟩
  · rw [hin, place_text h.ok hkw rfl hr, h.text]
  · rw [hin, List.length_append, List.length_singleton]; omega
  · rw [hin] at hn
    rcases List.mem_append.1 hn with q | q
    · have := h.ids n q
      exact ⟨this.1, by push_cast; omega⟩
    · rw [List.mem_singleton.1 q]
      exact ⟨rfl, by push_cast; exact Int.le_refl _⟩
theorem Typed.last {N : List Nd} {z : List Int} {i : Nat} (h : Typed N z i) (hi : i ≤ 60) : refI N ⟨(2, 1), rootS, 122⟩ = 0 ∧ textN (insN N ⟨(2, 1), rootS, 122⟩) = z ++ [122] := by
  have hln := h.len
  have hr : refI N ⟨(2, 1), rootS, 122⟩ = 0 := refI_zero (by simp) (by decide) (by decide) (fun _ => rfl) (fun m hm e => by
    have h1 := (h.ids m hm).1
    have h2 : m.id.1 = 2 := congrArg Prod.fst e
    omega) (.inl rfl) (by omega)
  refine ⟨hr, ?_⟩
  have hin : insN N ⟨(2, 1), rootS, 122⟩ = N ++ [⟨(2, 1), rootS, 122⟩] := by unfold insN; rw [if_pos hr]
  rw [hin, text_end h.ok rfl hr (fun m hm => .inl (by have := (h.ids m hm).1; show m.id.1 < 2; omega)), h.text]
end Go.Proofs.Ythjkcfpdkhghpaa

namespace Go.Proofs.Ythjkcfpdkhghpaa
open Go.RowKit Go.Shelf
set_option maxRecDepth 20000
theorem OwnB.appB {w : World} {base : Nat} {v : Value} {zs : List Int} (hown : OwnB w base v zs) {y : Option Addr} {len cap : Nat} {z : List Int} (hb : Bytes w y len cap z) (hln : zs.length + len ≤ 1000000) (hbase : base ≤ w.heap.size) :
    ∃ v' w', (Builtin.append_ #[42, 42] 42 #[v, .slice y len cap]).run Try.prog w = .ok v' w' ∧ OwnB w' base v' (zs ++ z) ∧ w.grownBy w' v.ownBlock ∧ (v'.ownBlock = v.ownBlock ∨ v'.ownBlock = some w.heap.size) := by
  obtain ⟨i0, hi, hz0, hz1, hz2⟩ := info_parts infoU8f
  have hzl := hb.len_eq
  have hcase : ∀ ad : Addr, y = some ad → (∀ j u, (z.map (Value.int .u8))[j]? = some u → w.cell? (ad.add j) = some u) → ∃ v' w', (Builtin.append_ #[42, 42] 42 #[v, .slice y len cap]).run Try.prog w = .ok v' w' ∧ OwnB w' base v' (zs ++ z) ∧ w.grownBy w' v.ownBlock ∧ (v'.ownBlock = v.ownBlock ∨ v'.ownBlock = some w.heap.size) := fun ad hy hsrc => by
    subst hy
    obtain ⟨v', w', hr, h2, h3, _, h5⟩ := run_append_own_at (P := Try.prog) w base 42 42 5 i0 _ 1 1 Try.underlying42 hi hz0 hz1 hz2 rfl (by decide) v zs.length (zs.map (Value.int .u8)) hown ad len cap (z.map (Value.int .u8)) (by simp [hzl]) hsrc (by simp [Value.oneCell']) (by simp [maxLen]; omega) (by omega) hbase
    exact ⟨v', w', hr, OwnB.cast h2 (by simp [hzl]) (by simp), h3, h5⟩
  rcases hb.at_ with h0 | ⟨b, off, hy, hc⟩
  · have hz0' : z = [] := List.length_eq_zero_iff.1 (by omega)
    cases y with
    | none =>
      have hc0 := hb.nil rfl
      subst h0 hc0 hz0'
      exact ⟨v, w, run_append_owned_none (P := Try.prog) (w := w) base 42 42 5 i0 1 Try.underlying42 hi v zs.length (zs.map (Value.int .u8)) hown, by rw [List.append_nil]; exact hown, ⟨rfl, rfl, rfl, Nat.le_refl _, fun _ _ _ => rfl⟩, .inl rfl⟩
    | some ad => exact hcase ad rfl (fun j u hu => by subst hz0'; simp at hu)
  · exact hcase _ hy (fun j u hu => by
      have hj : j < len := by have := (List.getElem?_eq_some_iff.1 hu).1; simpa [hzl] using this
      rw [Addr.add_mid', hc j hj, ← hu, List.getElem?_map, List.getElem?_eq_getElem (by omega)]; rfl)
end Go.Proofs.Ythjkcfpdkhghpaa

namespace Go.Proofs.Ythjkcfpdkhghpaa
open Go.RowKit Go.Shelf
set_option maxRecDepth 20000
theorem atT_in {N : List Nd} {i : Nat} (hi : i < (wrN N).length) : atN N (i : Nat) = some (wrN N)[i] := by
  unfold atN
  rw [if_neg (by omega), Int.toNat_natCast, List.getElem?_eq_getElem hi]
theorem wrT_node {N : List Nd} (hN : TreeOk N) {x : Int × Int} (hx : x ∈ wrN N) : (chrN N x).isSome = true := by
  obtain ⟨n, hn, e⟩ := mem_walk hN.rooted rootS x (List.mem_filter.1 hx).1
  exact chrN_some.2 ⟨n, hn, e⟩
theorem wrT_okDF {w : World} {base R bc bn : Nat} {N : List Nd} {V : (Int × Int) × Bool → Value} (hN : TreeOk N) (hT : TreeAt w base R bc bn N V) {x : Int × Int} (hx : x ∈ wrN N) : okDF x := by
  obtain ⟨n, hn, e⟩ := mem_walk hN.rooted rootS x (List.mem_filter.1 hx).1
  rw [← e]; exact (hT.okId n hn).1
theorem OwnB.turnedB {p : Nat → Prop} {w w' : World} {base : Nat} {v : Value} {z : List Int} (h : OwnB w base v z) (ht : Turn p w w') (hp : ∀ g, v.ownBlock = some g → ¬ p g) : OwnB w' base v z := by
  refine ⟨h.1, ?_⟩
  rcases h.2 with h' | ⟨g, cap, cur, h1, h2, h3, h4⟩
  · exact .inl h'
  · refine .inr ⟨g, cap, cur, h1, h2, ?_, h4⟩
    rw [ht.block g (Array.getElem?_eq_some_iff.1 h3).1 (hp g (by rw [h1]; rfl))]; exact h3
theorem OwnB.blk {w : World} {base : Nat} {v : Value} {z : List Int} (h : OwnB w base v z) {g : Nat} (hg : v.ownBlock = some g) : base ≤ g := by
  rcases h.2 with ⟨h1, _⟩ | ⟨g2, cap, cur, h1, h2, _⟩
  · rw [h1] at hg; cases hg
  · rw [h1] at hg
    have : some g2 = some g := hg
    injection this with this
    omega
/-- The tree, and a row of the call's own that is no part of it. -/
structure HalfI (w0 wr : World) (R bc bn : Nat) (N : List Nd) (V : (Int × Int) × Bool → Value) (v : Value) (z : List Int) : Prop where
  tree : TreeAt wr w0.heap.size R bc bn N V
  above : ∀ k, treeP R bc bn V k → w0.heap.size ≤ k
  own : OwnB wr w0.heap.size v z
  apart : ∀ g, v.ownBlock = some g → ¬ treeP R bc bn V g
  below : Below w0.heap.size w0 wr
section
variable {w0 wr w' : World} {R bc bn : Nat} {N N' : List Nd} {V V' : (Int × Int) × Bool → Value} {v v' : Value} {z z' : List Int}
theorem HalfI.far (h : HalfI w0 wr R bc bn N V v z) (hb : Below wr.heap.size wr w') : HalfI w0 w' R bc bn N V v z := ⟨h.tree.far hb, h.above, h.own.afarW hb, h.apart, h.below.trans (hb.mono h.below.size)⟩
theorem HalfI.to (h : HalfI w0 wr R bc bn N V v z) (hT : TreeAt w' w0.heap.size R bc bn N' V') (ht : TreeTo R bc bn V V' wr w') : HalfI w0 w' R bc bn N' V' v z where
  tree := hT
  above := fun k hk => by
    rcases ht.own k hk with q | q
    · exact h.above k q
    · have := h.below.size; omega
  own := h.own.turnedB ht.turn h.apart
  apart := fun g hg hk => by
    rcases ht.own g hk with q | q
    · exact h.apart g hg q
    · rcases h.own.2 with ⟨h1, _⟩ | ⟨g2, cap, cur, h1, h2, h3, _⟩
      · rw [h1] at hg; cases hg
      · rw [h1] at hg
        have : some g2 = some g := hg
        injection this with this
        have := (Array.getElem?_eq_some_iff.1 h3).1
        omega
  below := h.below.trans (below_turn ht.turn h.above h.below.size)
theorem HalfI.want (h : HalfI w0 wr R bc bn N V v z) (hb : Below wr.heap.size wr w') (ho : OwnB w' wr.heap.size v' z') : HalfI w0 w' R bc bn N V v' z' where
  tree := h.tree.far hb
  above := h.above
  own := ho.lessG h.below.size
  apart := fun g hg hk => by
    have := ho.blk hg
    have := h.tree.blockLt g hk
    omega
  below := h.below.trans (hb.mono h.below.size)
end
end Go.Proofs.Ythjkcfpdkhghpaa
