/- GoU Fr4 Fr5 Fp1 Fp2 Fp3 Fr6 -/
import Derived.Test.YtmbdohnmbkpfaaaGreatV08
import Derived.Test.YtmbdohnmbkpfaaaGreatV11
import Derived.Test.YtmbdohnmbkpfaaaGreatV31
namespace Go.Proofs.YtmbdohnmbkpfaaaGreat
open Go.ChangeShapes Go.WideShapes Go.ChangeAt Go.RowKit
set_option maxRecDepth 20000
set_option linter.unusedSimpArgs false
structure Dd8 where
 kind : Int
 id : Int × Int
 par : Int × Int
 right : Bool
 chr : Int
def Dd8.cells (d : Dd8) : List Value := [.int .i64 d.kind] ++ encF d.id ++ encF d.par ++ [.bool d.right] ++ [.int .u8 d.chr]
structure Dd8.Ok (d : Dd8) : Prop where
 id : okDF d.id
 par : okDF d.par
 chr : 0 ≤ d.chr ∧ d.chr ≤ 255
structure DeedsAt (w : World) (x : Option Addr) (len cap : Nat) (ds : List Dd8) : Prop where
 len_eq : len = ds.length
 le : len ≤ cap
 top : cap ≤ 9223372036854775807
 at_ : len = 0 ∨ ∃ b off, x = some ⟨b, off, none⟩ ∧ ∀ j (hj : j < ds.length) (i : Nat) v, ds[j].cells[i]? = some v → w.cell? ⟨b, off + j * 7 + i, none⟩ = some v
 ok : ∀ d ∈ ds, d.Ok
theorem DeedsAt.below {w w' : World} {x : Option Addr} {len cap : Nat} {ds : List Dd8} (h : DeedsAt w x len cap ds) (hb : Below w.heap.size w w') : DeedsAt w' x len cap ds :=
 ⟨h.len_eq, h.le, h.top, by
  rcases h.at_ with h0 | ⟨b, off, hx, hc⟩
  · exact .inl h0
  · refine .inr ⟨b, off, hx, fun j hj i v hv => ?_⟩
    have := hc j hj i v hv
    exact (hb.cell (p := ⟨b, off + j * 7 + i, none⟩) (block_lt_of_cell this)).trans this, h.ok⟩
open Go.RowKit Go.Shelf
structure BothT (w : World) (base R bc bn : Nat) (V : (Int × Int) × Bool → Value) (Q : Nat) (v : Value) (N : List Nd) : Prop where
 tree : TreeAt w base R bc bn N V
 ref : RefT w base Q v N
 ok : TreeOk N
 apart : ∀ k, treeP R bc bn V k → ¬ refP Q v k
 above : ∀ k, treeP R bc bn V k ∨ refP Q v k → base ≤ k
 low : base ≤ w.heap.size
theorem BothT.far {w w' : World} {base R bc bn Q : Nat} {V : (Int × Int) × Bool → Value} {v : Value} {N : List Nd} (h : BothT w base R bc bn V Q v N) (hb : Below w.heap.size w w') : BothT w' base R bc bn V Q v N := ⟨h.tree.far hb, h.ref.far hb, h.ok, h.apart, h.above, Nat.le_trans h.low hb.size⟩
theorem below_turn {p : Nat → Prop} {w w' : World} {base : Nat} (h : Turn p w w') (hp : ∀ k, p k → base ≤ k) (hl : base ≤ w.heap.size) : Below base w w' := ⟨h.os, h.tape, h.output, h.size, fun k hk => h.block k (by omega) (fun q => by have := hp k q; omega)⟩
def Dd8.nd (d : Dd8) : Nd := ⟨d.id, (d.par, d.right), d.chr⟩
def doN (N : List Nd) (d : Dd8) : List Nd := if d.kind = 0 then insN N d.nd else if d.kind = 1 then delN N d.id else N
def playN (L : List Dd8) : List Nd := L.foldl doN []
structure PlayR (w : World) (L : List Dd8) (v0 : Value) (w' : World) : Prop where
 out : ∃ R bc bn V Q v, v0 = .tuple #[.pointer (some ⟨R, 0, none⟩), .pointer (some ⟨Q, 0, none⟩), .bool true] ∧ BothT w' w.heap.size R bc bn V Q v (playN (L.take 60)) ∧ Below w.heap.size w w'
theorem wrN_nodup {N : List Nd} (hN : TreeOk N) : (wrN N).Nodup := (nodup_root hN.rooted).filter _
theorem split_at {α : Type} [DecidableEq α] {l : List α} {p : α → Bool} (hl : l.Nodup) {k : Nat} (hk : k < (l.filter p).length) {A B : List α} (h : l = A ++ [(l.filter p)[k]] ++ B) : (A.filter p).length = k := by
 have hx : p (l.filter p)[k] = true := (List.mem_filter.1 (List.getElem_mem hk)).2
 generalize hy : (l.filter p)[k] = y at h hx
 have hf : l.filter p = A.filter p ++ [y] ++ B.filter p := by
  rw [h, List.filter_append, List.filter_append, List.filter_cons_of_pos hx, List.filter_nil]
 have hnd : (l.filter p).Nodup := hl.filter _
 have h1 : (A.filter p).length < (l.filter p).length := by rw [hf, List.length_append, List.length_append, List.length_singleton]; omega
 have h2 : (l.filter p)[(A.filter p).length] = y := by
  have : (l.filter p)[(A.filter p).length]? = some y := by
   rw [hf, List.append_assoc, List.getElem?_append_right (Nat.le_refl _)]; simp
  rw [List.getElem?_eq_getElem h1] at this
  exact Option.some.inj this
 exact (List.getElem_inj hnd).1 (h2.trans hy.symm)
theorem place_walk {N : List Nd} (hN : TreeOk N) {k : Nat} (hk : k ≤ (wrN N).length) {n : Nd} (hs : n.side = ((placeN N (k : Nat)).1, (placeN N (k : Nat)).2.1)) (hr : refI N n = 0) :
    ∃ P S, walkA N rootS = P ++ S ∧ walkA (N ++ [n]) rootS = P ++ [n.id] ++ S ∧ (P.filter (writB N)).length = k := by
 have hN' : TreeOk (N ++ [n]) := by have := hN.ins n; unfold insN at this; rwa [if_pos hr] at this
 have hroot := nodup_root hN.rooted
 -- the node on the left
 obtain ⟨left, hl0, hl1⟩ : ∃ left, leftN N (k : Nat) = (left, 0) ∧ ((k = 0 ∧ left = (0, 0)) ∨ (∃ hk' : k - 1 < (wrN N).length, 0 < k ∧ left = (wrN N)[k - 1])) := by
  unfold leftN
  rw [if_neg (by omega)]
  by_cases h0 : k = 0
  · exact ⟨(0, 0), by rw [if_pos (by omega)], .inl ⟨h0, rfl⟩⟩
  · refine ⟨(wrN N)[k - 1]'(by omega), ?_, .inr ⟨by omega, by omega, rfl⟩⟩
    rw [if_neg (by omega)]
    unfold atN
    rw [if_neg (by omega), show ((k : Int) - 1).toNat = k - 1 by omega, List.getElem?_eq_getElem (by omega)]
    rfl
 -- where it stands in the walk
 obtain ⟨A, B, hAB, hA⟩ : ∃ A B, walkA N rootS = A ++ walkA N (left, true) ++ B ∧ (A.filter (writB N)).length = k ∧ (left = (0, 0) → A = [] ∧ B = []) ∧ (left ≠ (0, 0) → ∃ A', A = A' ++ [left]) := by
  rcases hl1 with ⟨h0, hl⟩ | ⟨hk', h0, hl⟩
  · subst hl
    exact ⟨[], [], by simp [rootS], by simp [h0], fun _ => ⟨rfl, rfl⟩, fun h => absurd rfl h⟩
  · have hm : left ∈ walkA N rootS := by rw [hl]; exact (List.mem_filter.1 (List.getElem_mem hk')).1
    obtain ⟨A, B, e⟩ := split_walk hN.rooted rootS left hm
    have hne : left ≠ (0, 0) := fun q => not_mem_root hN.rooted rootS (q ▸ hm)
    refine ⟨A ++ walkA N (left, false) ++ [left], B, by rw [e]; unfold blockN; simp only [List.append_assoc], ?_, fun h => absurd h hne, fun _ => ⟨_, rfl⟩⟩
    have h2 : ((A ++ walkA N (left, false)).filter (writB N)).length = k - 1 := by
     refine split_at (p := writB N) hroot (k := k - 1) hk' (B := walkA N (left, true) ++ B) ?_
     have e4 : walkA N rootS = A ++ walkA N (left, false) ++ [left] ++ (walkA N (left, true) ++ B) := by
      rw [e]
      unfold blockN
      simp only [List.append_assoc]
     rw [show ((walkA N rootS).filter (writB N))[k - 1]'hk' = left from hl.symm]
     exact e4
    rw [List.filter_append, List.length_append, h2]
    have hp : writB N left = true := by rw [hl]; exact (List.mem_filter.1 (List.getElem_mem hk')).2
    rw [List.filter_cons_of_pos hp]
    simp; omega
 have hpl : placeN N (k : Nat) = match (walkA N (left, true)).head? with | some x => (x, false, 0) | none => (left, true, 0) := by
  unfold placeN; rw [hl0]; rfl
 rw [hpl] at hs
 cases hh : walkA N (left, true) with
 | nil =>
  rw [hh] at hs hAB
  have hk0 : kids N n.side = [] := by rw [hs]; exact walk_nil hN.rooted hh
  rw [List.append_nil] at hAB
  by_cases hz : left = (0, 0)
  · obtain ⟨rfl, rfl⟩ := hA.2.1 hz
    refine ⟨[], [], by rw [hAB], ?_, hA.1⟩
    have : n.side = rootS := by rw [hs, hz]; rfl
    rw [← this]
    rw [walk_leaf hN.rooted hN'.rooted hk0]
    simp
  · refine ⟨A, B, hAB, ?_, hA.1⟩
    obtain ⟨A', rfl⟩ := hA.2.2 hz
    have hne : rootS ≠ n.side := fun q => hz (by rw [hs] at q; exact (congrArg Prod.fst q).symm)
    rw [walk_beside hN.rooted hN'.rooted hk0 rootS hne, hAB, show n.side.1 = left by rw [hs]; rfl, show n.side.2 = true by rw [hs]; rfl]
    rw [hAB] at hroot
    rw [beside_at hroot]
    simp
 | cons x rest =>
  rw [hh] at hs hAB
  have hnd2 : (x :: rest).Nodup := by
   rw [hAB, List.append_assoc, List.nodup_append] at hroot
   exact (List.nodup_append.1 hroot.2.1).1
  have hx1 : x ∈ walkA N (left, true) := by rw [hh]; exact List.mem_cons_self
  obtain ⟨C, D, e⟩ := split_walk hN.rooted (left, true) x hx1
  have hk0 : kids N n.side = [] := by
   rw [hs]
   refine walk_nil hN.rooted ?_
   rw [hh] at e
   unfold blockN at e
   cases hC : C ++ walkA N (x, false) with
   | nil => exact (List.append_eq_nil_iff.1 hC).2
   | cons y t =>
    exfalso
    have e2 : x :: rest = y :: (t ++ ([x] ++ walkA N (x, true) ++ D)) := by
     rw [e]
     have : C ++ (walkA N (x, false) ++ [x] ++ walkA N (x, true)) ++ D = (C ++ walkA N (x, false)) ++ ([x] ++ walkA N (x, true) ++ D) := by simp only [List.append_assoc]
     rw [this, hC]; rfl
    have h3 := (List.cons.inj e2).2
    rw [h3] at hnd2
    exact (List.nodup_cons.1 hnd2).1 (by simp)
  refine ⟨A, x :: rest ++ B, by rw [hAB, List.append_assoc], ?_, hA.1⟩
  have hne : rootS ≠ n.side := fun q => by rw [hs] at q; have := congrArg Prod.snd q; simp [rootS] at this
  have e3 : walkA N rootS = A ++ [x] ++ (rest ++ B) := by rw [hAB]; simp
  rw [walk_beside hN.rooted hN'.rooted hk0 rootS hne, e3, show n.side.1 = x by rw [hs]; rfl, show n.side.2 = false by rw [hs]; rfl]
  rw [e3] at hroot
  rw [beside_at hroot]
  simp
theorem chr0_snoc {N : List Nd} {n : Nd} (hn : ∀ m ∈ N, m.id ≠ n.id) (x : Int × Int) : chr0 (N ++ [n]) x = if x = n.id then n.chr else chr0 N x := by
 unfold chr0
 rw [chrN_snoc N n hn]
 split <;> rfl
theorem place_text {N : List Nd} (hN : TreeOk N) {k : Nat} (hk : k ≤ (wrN N).length) {n : Nd} (hs : n.side = ((placeN N (k : Nat)).1, (placeN N (k : Nat)).2.1)) (hr : refI N n = 0) :
    textN (N ++ [n]) = (textN N).take k ++ [n.chr] ++ (textN N).drop k := by
 obtain ⟨P, S, h1, h2, h3⟩ := place_walk hN hk hs hr
 obtain ⟨-, hc1, -, -, hfr, -, -⟩ := refI_ok hr
 have hfr2 := chrN_fresh hfr
 have hold : ∀ x ∈ walkA N rootS, x ≠ n.id := fun x hx e => by
  obtain ⟨m, hm, q⟩ := mem_walk hN.rooted rootS x hx
  exact hfr2 m hm (q.trans e)
 have hch : ∀ x ∈ walkA N rootS, chr0 (N ++ [n]) x = chr0 N x := fun x hx => by rw [chr0_snoc hfr2, if_neg (hold x hx)]
 have hwr : ∀ l : List (Int × Int), (∀ x ∈ l, x ∈ walkA N rootS) → (l.filter (writB (N ++ [n]))).map (chr0 (N ++ [n])) = (l.filter (writB N)).map (chr0 N) := fun l hl => by
  have e1 : l.filter (writB (N ++ [n])) = l.filter (writB N) := List.filter_congr fun x hx => by unfold writB; rw [hch x (hl x hx)]
  rw [e1]
  exact List.map_congr_left fun x hx => hch x (hl x (List.mem_filter.1 hx).1)
 have hid : chr0 (N ++ [n]) n.id = n.chr := by rw [chr0_snoc hfr2, if_pos rfl]
 have hw : writB (N ++ [n]) n.id = true := by unfold writB; rw [hid]; simp; omega
 have hP := hwr P (fun x hx => by rw [h1]; exact List.mem_append_left _ hx)
 have hS := hwr S (fun x hx => by rw [h1]; exact List.mem_append_right _ hx)
 have ht : textN N = (P.filter (writB N)).map (chr0 N) ++ (S.filter (writB N)).map (chr0 N) := by unfold textN wrN; rw [h1, List.filter_append, List.map_append]
 have hlen : ((P.filter (writB N)).map (chr0 N)).length = k := by rw [List.length_map]; exact h3
 rw [ht, List.take_left' hlen, List.drop_left' hlen]
 unfold textN wrN
 rw [h2, List.filter_append, List.filter_append, List.map_append, List.map_append, hP, hS, List.filter_cons_of_pos hw, List.filter_nil, List.map_cons, List.map_nil, hid]
theorem place_ok {N : List Nd} (hN : TreeOk N) {k : Nat} (hk : k ≤ (wrN N).length) : (placeN N (k : Nat)).2.2 = 0 ∧ ((placeN N (k : Nat)).1 = (0, 0) → (placeN N (k : Nat)).2.1 = true) ∧ ((placeN N (k : Nat)).1 = (0, 0) ∨ (chrN N (placeN N (k : Nat)).1).isSome = true) := by
 obtain ⟨left, hl0, hl1⟩ : ∃ left, leftN N (k : Nat) = (left, 0) ∧ (left = (0, 0) ∨ left ∈ wrN N) := by
  unfold leftN
  rw [if_neg (by omega)]
  by_cases h0 : k = 0
  · exact ⟨(0, 0), by rw [if_pos (by omega)], .inl rfl⟩
  · refine ⟨(wrN N)[k - 1]'(by omega), ?_, .inr (List.getElem_mem _)⟩
    rw [if_neg (by omega)]
    unfold atN
    rw [if_neg (by omega), show ((k : Int) - 1).toNat = k - 1 by omega, List.getElem?_eq_getElem (by omega)]
    rfl
 have hpl : placeN N (k : Nat) = match (walkA N (left, true)).head? with | some x => (x, false, 0) | none => (left, true, 0) := by
  unfold placeN; rw [hl0]; rfl
 rw [hpl]
 cases hh : (walkA N (left, true)).head? with
 | none =>
  refine ⟨rfl, fun _ => rfl, hl1.imp id fun q => ?_⟩
  obtain ⟨n, hn, e⟩ := mem_walk hN.rooted rootS left (List.mem_filter.1 q).1
  exact chrN_some.2 ⟨n, hn, e⟩
 | some x =>
  have hx : x ∈ walkA N (left, true) := List.mem_of_mem_head? hh
  obtain ⟨n, hn, e⟩ := mem_walk hN.rooted _ x hx
  exact ⟨rfl, fun q => absurd (e.trans q) (hN.rooted.id n hn), .inr (chrN_some.2 ⟨n, hn, e⟩)⟩
theorem chr0_del (N : List Nd) (x y : Int × Int) : chr0 (delN N x) y = if y = x then 0 else chr0 N y := by
 unfold chr0
 rw [chrN_del]
 split
 · cases chrN N x <;> rfl
 · rfl
theorem filter_ne_at {l : List (Int × Int)} (hl : l.Nodup) {k : Nat} (hk : k < l.length) : l.filter (fun y => decide (y ≠ l[k])) = l.take k ++ l.drop (k + 1) := by
 have e : l = l.take k ++ l[k] :: l.drop (k + 1) := by rw [← List.drop_eq_getElem_cons hk, List.take_append_drop]
 generalize l[k] = x at *
 generalize l.take k = A at *
 generalize l.drop (k + 1) = B at *
 subst e
 have hA : ∀ y ∈ A, y ≠ x := fun y hy q => by
  rw [List.nodup_append] at hl
  exact hl.2.2 y hy x (by simp) q
 have hB : ∀ y ∈ B, y ≠ x := fun y hy q => by
  rw [List.nodup_append] at hl
  exact (List.nodup_cons.1 hl.2.1).1 (q ▸ hy)
 rw [List.filter_append, List.filter_cons_of_neg (by simp), List.filter_eq_self.2 (fun y hy => by simpa using hA y hy), List.filter_eq_self.2 (fun y hy => by simpa using hB y hy)]
theorem wrN_del {N : List Nd} (hN : TreeOk N) {k : Nat} (hk : k < (wrN N).length) : wrN (delN N (wrN N)[k]) = (wrN N).take k ++ (wrN N).drop (k + 1) := by
 rw [← filter_ne_at (wrN_nodup hN) hk]
 generalize (wrN N)[k] = x
 unfold wrN
 rw [walk_delN hN.rooted, List.filter_filter]
 refine List.filter_congr fun y _ => ?_
 unfold writB
 rw [chr0_del]
 by_cases h : y = x <;> simp [h]
theorem textN_del {N : List Nd} (hN : TreeOk N) {k : Nat} (hk : k < (wrN N).length) : textN (delN N (wrN N)[k]) = (textN N).take k ++ (textN N).drop (k + 1) := by
 have h1 := wrN_del hN hk
 have hnd := wrN_nodup hN
 have hne : ∀ y ∈ (wrN N).take k ++ (wrN N).drop (k + 1), y ≠ (wrN N)[k] := fun y hy => by
  rw [← filter_ne_at hnd hk] at hy
  simpa using (List.mem_filter.1 hy).2
 unfold textN
 rw [h1, ← List.map_take, ← List.map_drop, ← List.map_append]
 exact List.map_congr_left fun y hy => by rw [chr0_del, if_neg (hne y hy)]
theorem len_le_of_subset {α : Type} [DecidableEq α] : ∀ (l m : List α), l.Nodup → (∀ x ∈ l, x ∈ m) → l.length ≤ m.length
 | [], _, _, _ => by simp
 | a :: l, m, hl, hs => by
  obtain ⟨h1, h2⟩ := List.nodup_cons.1 hl
  have hm : a ∈ m := hs a (by simp)
  have := len_le_of_subset l (m.erase a) h2 (fun x hx => (List.mem_erase_of_ne (fun e => h1 (by rw [← e]; exact hx))).2 (hs x (by simp [hx])))
  rw [List.length_erase_of_mem hm] at this
  have := List.length_pos_of_mem hm
  simp only [List.length_cons]; omega
theorem id_unique {N : List Nd} (hN : (N.map (·.id)).Nodup) {m n : Nd} (hm : m ∈ N) (hn : n ∈ N) (h : m.id = n.id) : m = n := by
 obtain ⟨i, hi, rfl⟩ := List.getElem_of_mem hm
 obtain ⟨j, hj, rfl⟩ := List.getElem_of_mem hn
 have h3 := (List.getElem_inj (h₀ := by simpa using hi) (h₁ := by simpa using hj) hN (i := i) (j := j)).1 (by simp only [List.getElem_map]; exact h)
 subst h3; rfl
def Built (G : List Nd) : Prop := ∀ r (hr : r < G.length), refI (G.take r) G[r] = 0
theorem Built.nil : Built [] := fun r hr => by simp at hr
theorem Built.snoc {G : List Nd} (h : Built G) {n : Nd} (hn : refI G n = 0) : Built (G ++ [n]) := fun r hr => by
 by_cases q : r < G.length
 · rw [List.getElem_append_left q, List.take_append_of_le_length (by omega)]; exact h r q
 · have : r = G.length := by simp at hr; omega
   subst this
   rw [List.getElem_concat_length rfl, List.take_append_of_le_length (Nat.le_refl _), List.take_length]; exact hn
def againN (M : List Nd) (n : Nd) : List Nd := if (chrN M n.id).isSome = true then M else insN M n
structure Again (G M : List Nd) : Prop where
 ok : TreeOk M
 sub : ∀ m ∈ M, m ∈ G
theorem Again.step {G M : List Nd} (h : Again G M) {n : Nd} (hn : n ∈ G) : Again G (againN M n) ∧ ∀ m ∈ M, m ∈ againN M n := by
 unfold againN
 split
 · exact ⟨h, fun m hm => hm⟩
 · refine ⟨⟨h.ok.ins n, fun m hm => ?_⟩, fun m hm => ?_⟩
   · unfold insN at hm
     split at hm
     · rcases List.mem_append.1 hm with q | q
       · exact h.sub m q
       · rw [List.mem_singleton.1 q]; exact hn
     · exact h.sub m hm
   · unfold insN
     split
     · exact List.mem_append_left _ hm
     · exact hm
theorem Again.len {G M : List Nd} (h : Again G M) (hG : G.length ≤ 40) : M.length ≤ 40 := by
 have := len_le_of_subset (M.map (·.id)) (G.map (·.id)) h.ok.rooted.nodup (fun x hx => by
  obtain ⟨m, hm, rfl⟩ := List.mem_map.1 hx
  exact List.mem_map_of_mem (h.sub m hm))
 simp at this; omega
def ndOf (N : List Nd) (x : Int × Int) : Nd := (N.find? (fun n => decide (n.id = x))).getD ⟨(0, 0), ((0, 0), false), 0⟩
theorem ndOf_mem {N : List Nd} (hN : (N.map (·.id)).Nodup) {n : Nd} (hn : n ∈ N) : ndOf N n.id = n := by
 unfold ndOf
 cases h : N.find? (fun m => decide (m.id = n.id)) with
 | none => exact absurd (List.find?_eq_none.1 h n hn) (by simp)
 | some m =>
  have h1 := List.mem_of_find?_eq_some h
  have h2 : m.id = n.id := by have := List.find?_some h; simpa using this
  exact id_unique hN h1 hn h2
theorem ndOf_id {N : List Nd} {x : Int × Int} (h : ∃ n ∈ N, n.id = x) : (ndOf N x).id = x := by
 unfold ndOf
 cases hf : N.find? (fun m => decide (m.id = x)) with
 | none => obtain ⟨n, hn, e⟩ := h; exact absurd (List.find?_eq_none.1 hf n hn) (by simp [e])
 | some m => have := List.find?_some hf; simpa using this
theorem ndOf_chr {N : List Nd} {x : Int × Int} : (ndOf N x).chr = chr0 N x := by
 unfold ndOf chr0 chrN
 cases N.find? (fun m => decide (m.id = x)) <;> rfl
def cF (N : List Nd) (x : Int × Int) : List Value := ndC (ndOf N x)
theorem cF_len (N : List Nd) (x : Int × Int) : (cF N x).length = 6 := rfl
theorem cF_one (N : List Nd) (x : Int × Int) : ∀ u ∈ cF N x, u.oneCell' = true := ndC_one _
def aheadB (x y : Int × Int) : Bool := decide (x.1 < y.1) || (decide (x.1 = y.1) && decide (x.2 < y.2))
theorem aheadB_iff (x y : Int × Int) : aheadB x y = true ↔ aheadD x y := by unfold aheadB aheadD; simp
def stepI (t : Int × Int) (p : Bool × List (Int × Int)) (y : Int × Int) : Bool × List (Int × Int) := if (!p.1 && aheadB t y) = true then (true, p.2 ++ [t] ++ [y]) else (p.1, p.2 ++ [y])
def partI (t : Int × Int) (K : List (Int × Int)) : Bool × List (Int × Int) := K.foldl (stepI t) (false, [])
theorem partI_snoc (t : Int × Int) (K : List (Int × Int)) (y : Int × Int) : partI t (K ++ [y]) = stepI t (partI t K) y := by unfold partI; rw [List.foldl_append]; rfl
theorem stepI_true (t : Int × Int) : ∀ (K A : List (Int × Int)), K.foldl (stepI t) (true, A) = (true, A ++ K)
 | [], A => by simp
 | y :: K, A => by
  rw [List.foldl_cons, show stepI t (true, A) y = (true, A ++ [y]) from rfl, stepI_true t K]
  simp
theorem partI_from (t : Int × Int) : ∀ (K A : List (Int × Int)), t ∉ K → (if (K.foldl (stepI t) (false, A)).1 = true then (K.foldl (stepI t) (false, A)).2 else (K.foldl (stepI t) (false, A)).2 ++ [t]) = A ++ insD K t
 | [], A, _ => by simp [insD_nil]
 | y :: K, A, h => by
  rw [List.foldl_cons, insD_cons]
  by_cases ha : aheadB t y = true
  · have hn : ¬ cmpD y t < 0 := fun q => aheadD.irrefl t (((aheadB_iff _ _).1 ha).trans ((cmpD_neg _ _).1 q))
    rw [show stepI t (false, A) y = (true, A ++ [t] ++ [y]) by unfold stepI; simp [ha], stepI_true, if_pos rfl, if_neg hn]
    simp
  · have hp : cmpD y t < 0 := (cmpD_neg _ _).2 ((aheadD_or (x := t) (y := y) (fun e => h (by simp [e]))).resolve_left fun q => ha ((aheadB_iff _ _).2 q))
    rw [show stepI t (false, A) y = (false, A ++ [y]) by unfold stepI; simp [ha], partI_from t K (A ++ [y]) (fun q => h (List.mem_cons_of_mem _ q)), if_pos hp]
    simp
theorem partI_end (t : Int × Int) (K : List (Int × Int)) (h : t ∉ K) : (if (partI t K).1 = true then (partI t K).2 else (partI t K).2 ++ [t]) = insD K t := by
 have := partI_from t K [] h
 rw [List.nil_append] at this
 exact this
theorem partI_len (t : Int × Int) (K : List (Int × Int)) : (partI t K).2.length ≤ 2 * K.length := by
 induction K using snoc_ind with
 | h0 => simp [partI]
 | h1 K y ih =>
  rw [partI_snoc, List.length_append, List.length_singleton]
  unfold stepI
  split
  · simp; omega
  · simp; omega
theorem OwnI.push {w : World} {base : Nat} {t : TypeId} {k : Nat} {v : Value} {L : List (List Value)} (h : OwnI w base t k v L) (st : TypeId) {z : Value} {by_ : Nat} (hst : Tryz.prog.underlying st = some (.slice t)) (hi : (Tryz.prog.info? t).map (fun i => (i.zero, i.size, i.bytes)) = some (some z, k, by_)) (hz : z.cells.size = k) (hk : 0 < k)
    (c : List Value) (hc : c.length = k) (h1 : ∀ u ∈ c, u.oneCell' = true) (hln : L.length ≤ 1000000) (hby : by_ ≤ 1000) (hbase : base ≤ w.heap.size) :
    ∃ x cp W, (Builtin.append_ #[st, st] st #[v, .slice (some ⟨w.heap.size, 0, none⟩) 1 1]).run Tryz.prog (w.alloc (.cells c.toArray t)) = .ok (.slice x (L.length + 1) cp) W ∧ OwnI W base t k (.slice x (L.length + 1) cp) (L ++ [c]) ∧ Turn (fun j => v.ownBlock = some j) w W ∧ ∀ g, (Value.slice x (L.length + 1) cp).ownBlock = some g → v.ownBlock = some g ∨ w.heap.size ≤ g := by
 have hal : Below w.heap.size w (w.alloc (.cells c.toArray t)) := (Below.refl _ _).alloc (Nat.le_refl _) _
 obtain ⟨v', W, hrun, ho, hg, hb⟩ := (h.far hal).app (P := Tryz.prog) st st hst hi hz hk c hc h1 w.heap.size (CellsAt.new w t c).wholeM hln hby (by rw [World.size_alloc]; omega)
 obtain ⟨x, cp, rfl⟩ := ho.isSlice
 rw [List.length_append, List.length_singleton] at hrun ho hb
 refine ⟨x, cp, W, hrun, ho, (Turn.of_below hal).trans (Turn.of_grown hg fun j hj => hj), fun g hgg => ?_⟩
 rcases hb with q | q
 · exact .inl (by rw [← q]; exact hgg)
 · rw [q] at hgg
   have := Option.some.inj hgg
   rw [World.size_alloc] at this
   exact .inr (by omega)
end Go.Proofs.YtmbdohnmbkpfaaaGreat
