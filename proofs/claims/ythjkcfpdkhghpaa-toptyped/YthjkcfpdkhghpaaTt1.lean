/- fugue, pure: a node under the root behind all others. -/
import Derived.Test.YthjkcfpdkhghpaaFp1
namespace Go.Proofs.Ythjkcfpdkhghpaa
theorem insD_last {t : Int × Int} : ∀ {l : List (Int × Int)}, (∀ x ∈ l, aheadD x t) → insD l t = l ++ [t]
  | [], _ => rfl
  | a :: l, h => by
    rw [insD_cons, if_pos ((cmpD_neg _ _).2 (h a (by simp))), insD_last (l := l) (fun x hx => h x (by simp [hx]))]
    rfl
theorem walk_end {N : List Nd} (hN : TreeOk N) {n : Nd} (hN' : Rooted (N ++ [n])) (hs : n.side = rootS) (ha : ∀ m ∈ N, aheadD m.id n.id) : walkA (N ++ [n]) rootS = walkA N rootS ++ [n.id] := by
  have other : ∀ s, s ≠ rootS → walkA (N ++ [n]) s = walkA N s := fun s => by
    refine walk_ind hN.rooted (C := fun s => s ≠ rootS → walkA (N ++ [n]) s = walkA N s) (fun s ih hne => ?_) s
    rw [walkA_blocks hN', walkA_blocks hN.rooted, kids_other (by rw [hs]; exact hne)]
    refine flatMap_same fun x hx => ?_
    have hx0 : ∀ b, ((x, b) : (Int × Int) × Bool) ≠ rootS := fun b e => by
      obtain ⟨m, hm, _, e2⟩ := mem_kids.1 hx
      have : x = (0, 0) := congrArg Prod.fst e
      exact hN.rooted.id m hm (e2.trans this)
    unfold blockN
    rw [ih x hx false (hx0 false), ih x hx true (hx0 true)]
  have hk : kids (N ++ [n]) rootS = kids N rootS ++ [n.id] := by
    rw [kids_snoc, if_pos hs]
    exact insD_last fun x hx => by
      obtain ⟨m, hm, _, e⟩ := mem_kids.1 hx
      rw [← e]; exact ha m hm
  have hid : ∀ b, ((n.id, b) : (Int × Int) × Bool) ≠ rootS := fun b e => hN'.id n (by simp) (congrArg Prod.fst e)
  rw [walkA_blocks hN', hk, List.flatMap_append, walkA_blocks hN.rooted]
  congr 1
  · refine flatMap_same fun x hx => ?_
    have hx0 : ∀ b, ((x, b) : (Int × Int) × Bool) ≠ rootS := fun b e => by
      obtain ⟨m, hm, _, e2⟩ := mem_kids.1 hx
      have : x = (0, 0) := congrArg Prod.fst e
      exact hN.rooted.id m hm (e2.trans this)
    unfold blockN
    rw [other _ (hx0 false), other _ (hx0 true)]
  · rw [List.flatMap_cons, List.flatMap_nil, List.append_nil]
    unfold blockN
    rw [other _ (hid false), other _ (hid true), walk_empty hN.rooted (hN.rooted.low hN' false), walk_empty hN.rooted (hN.rooted.low hN' true)]
    rfl
theorem text_end {N : List Nd} (hN : TreeOk N) {n : Nd} (hs : n.side = rootS) (hr : refI N n = 0) (ha : ∀ m ∈ N, aheadD m.id n.id) : textN (N ++ [n]) = textN N ++ [n.chr] := by
  obtain ⟨h0, hc1, -, -, hfr, -, -⟩ := refI_ok hr
  have hfr2 := chrN_fresh hfr
  have hN' : TreeOk (N ++ [n]) := by
    have := hN.ins n
    unfold insN at this
    rw [if_pos hr] at this
    exact this
  have hw := walk_end hN hN'.rooted hs ha
  have hold : ∀ x ∈ walkA N rootS, x ≠ n.id := fun x hx e => by
    obtain ⟨m, hm, e2⟩ := mem_walk hN.rooted rootS x hx
    exact hfr2 m hm (e2.trans e)
  have hch : ∀ x ∈ walkA N rootS, chr0 (N ++ [n]) x = chr0 N x := fun x hx => by rw [chr0_snoc hfr2, if_neg (hold x hx)]
  have hcn : chr0 (N ++ [n]) n.id = n.chr := by rw [chr0_snoc hfr2, if_pos rfl]
  unfold textN wrN
  rw [hw, List.filter_append, List.map_append]
  congr 1
  · have h1 : (walkA N rootS).filter (writB (N ++ [n])) = (walkA N rootS).filter (writB N) := List.filter_congr fun x hx => by unfold writB; rw [hch x hx]
    rw [h1]
    exact List.map_congr_left fun x hx => hch x (List.mem_filter.1 hx).1
  · have h2 : writB (N ++ [n]) n.id = true := by unfold writB; rw [hcn]; simp; omega
    rw [List.filter_cons_of_pos h2, List.filter_nil, List.map_cons, List.map_nil, hcn]
end Go.Proofs.Ythjkcfpdkhghpaa

