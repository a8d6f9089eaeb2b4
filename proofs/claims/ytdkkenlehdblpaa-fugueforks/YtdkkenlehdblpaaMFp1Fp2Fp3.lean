/- fugue, pure: a node that is put at a place has its character there. fugue, pure: what is deleted is gone from the text; dots compared. fugue, pure: the order does not hang on the order in which nodes come. -/
import Derived.Test.YtdkkenlehdblpaaFr5
namespace Go.Proofs.Ytdkkenlehdblpaa
theorem wrN_nodup {N : List Nd} (hN : TreeOk N) : (wrN N).Nodup := (nodup_root hN.rooted).filter _
theorem split_at {α : Type} [DecidableEq α] {l : List α} {p : α → Bool} (hl : l.Nodup) {k : Nat} (hk : k < (l.filter p).length) {A B : List α} (h : l = A ++ [(l.filter p)[k]] ++ B) : (A.filter p).length = k := by
  have hx : p (l.filter p)[k] = true := (List.mem_filter.1 (List.getElem_mem hk)).2
  generalize hy : (l.filter p)[k] = y at h hx
  have hf : l.filter p = A.filter p ++ [y] ++ B.filter p := by
    rw [h, List.filter_append, List.filter_append, List.filter_cons_of_pos hx, List.filter_nil]
  have hnd : (l.filter p).Nodup := hl.filter _
  have h1 : (A.filter p).length < (l.filter p).length := by rw [hf, List.length_append, List.length_append, List.length_singleton]; omega
  have h2 : (l.filter p)[(A.filter p).length] = y := by
    have : (l.filter p)[(A.filter p).length]? = some y := by
      rw [hf, List.append_assoc, List.getElem?_append_right (Nat.le_refl _)]; simp
    rw [List.getElem?_eq_getElem h1] at this
    exact Option.some.inj this
  exact (List.getElem_inj hnd).1 (h2.trans hy.symm)
/-- The walk with a node at the place k: behind the nodes that write the first k characters. -/
theorem place_walk {N : List Nd} (hN : TreeOk N) {k : Nat} (hk : k ≤ (wrN N).length) {n : Nd} (hs : n.side = ((placeN N (k : Nat)).1, (placeN N (k : Nat)).2.1)) (hr : refI N n = 0) :
    ∃ P S, walkA N rootS = P ++ S ∧ walkA (N ++ [n]) rootS = P ++ [n.id] ++ S ∧ (P.filter (writB N)).length = k := by
  have hN' : TreeOk (N ++ [n]) := by have := hN.ins n; unfold insN at this; rwa [if_pos hr] at this
  have hroot := nodup_root hN.rooted
  -- the node on the left
  obtain ⟨left, hl0, hl1⟩ : ∃ left, leftN N (k : Nat) = (left, 0) ∧ ((k = 0 ∧ left = (0, 0)) ∨ (∃ hk' : k - 1 < (wrN N).length, 0 < k ∧ left = (wrN N)[k - 1])) := by
    unfold leftN
    rw [if_neg (by omega)]
    by_cases h0 : k = 0
    · exact ⟨(0, 0), by rw [if_pos (by omega)], .inl ⟨h0, rfl⟩⟩
    · refine ⟨(wrN N)[k - 1]'(by omega), ?_, .inr ⟨by omega, by omega, rfl⟩⟩
      rw [if_neg (by omega)]
      unfold atN
      rw [if_neg (by omega), show ((k : Int) - 1).toNat = k - 1 by omega, List.getElem?_eq_getElem (by omega)]
      rfl
  -- where it stands in the walk
  obtain ⟨A, B, hAB, hA⟩ : ∃ A B, walkA N rootS = A ++ walkA N (left, true) ++ B ∧ (A.filter (writB N)).length = k ∧ (left = (0, 0) → A = [] ∧ B = []) ∧ (left ≠ (0, 0) → ∃ A', A = A' ++ [left]) := by
    rcases hl1 with ⟨h0, hl⟩ | ⟨hk', h0, hl⟩
    · subst hl
      exact ⟨[], [], by simp [rootS], by simp [h0], fun _ => ⟨rfl, rfl⟩, fun h => absurd rfl h⟩
    · have hm : left ∈ walkA N rootS := by rw [hl]; exact (List.mem_filter.1 (List.getElem_mem hk')).1
      obtain ⟨A, B, e⟩ := split_walk hN.rooted rootS left hm
      have hne : left ≠ (0, 0) := fun q => not_mem_root hN.rooted rootS (q ▸ hm)
      refine ⟨A ++ walkA N (left, false) ++ [left], B, by rw [e]; unfold blockN; simp only [List.append_assoc], ?_, fun h => absurd h hne, fun _ => ⟨_, rfl⟩⟩
      have h2 : ((A ++ walkA N (left, false)).filter (writB N)).length = k - 1 := by
        refine split_at (p := writB N) hroot (k := k - 1) hk' (B := walkA N (left, true) ++ B) ?_
        have e4 : walkA N rootS = A ++ walkA N (left, false) ++ [left] ++ (walkA N (left, true) ++ B) := by
          rw [e]
          unfold blockN
          simp only [List.append_assoc]
        rw [show ((walkA N rootS).filter (writB N))[k - 1]'hk' = left from hl.symm]
        exact e4
      rw [List.filter_append, List.length_append, h2]
      have hp : writB N left = true := by rw [hl]; exact (List.mem_filter.1 (List.getElem_mem hk')).2
      rw [List.filter_cons_of_pos hp]
      simp; omega
  have hpl : placeN N (k : Nat) = match (walkA N (left, true)).head? with | some x => (x, false, 0) | none => (left, true, 0) := by
    unfold placeN; rw [hl0]; rfl
  rw [hpl] at hs
  cases hh : walkA N (left, true) with
  | nil =>
    rw [hh] at hs hAB
    have hk0 : kids N n.side = [] := by rw [hs]; exact walk_nil hN.rooted hh
    rw [List.append_nil] at hAB
    by_cases hz : left = (0, 0)
    · obtain ⟨rfl, rfl⟩ := hA.2.1 hz
      refine ⟨[], [], by rw [hAB], ?_, hA.1⟩
      have : n.side = rootS := by rw [hs, hz]; rfl
      rw [← this]
      rw [walk_leaf hN.rooted hN'.rooted hk0]
      simp
    · refine ⟨A, B, hAB, ?_, hA.1⟩
      obtain ⟨A', rfl⟩ := hA.2.2 hz
      have hne : rootS ≠ n.side := fun q => hz (by rw [hs] at q; exact (congrArg Prod.fst q).symm)
      rw [walk_beside hN.rooted hN'.rooted hk0 rootS hne, hAB, show n.side.1 = left by rw [hs]; rfl, show n.side.2 = true by rw [hs]; rfl]
      rw [hAB] at hroot
      rw [beside_at hroot]
      simp
  | cons x rest =>
    rw [hh] at hs hAB
    have hnd2 : (x :: rest).Nodup := by
      rw [hAB, List.append_assoc, List.nodup_append] at hroot
      exact (List.nodup_append.1 hroot.2.1).1
    have hx1 : x ∈ walkA N (left, true) := by rw [hh]; exact List.mem_cons_self
    obtain ⟨C, D, e⟩ := split_walk hN.rooted (left, true) x hx1
    have hk0 : kids N n.side = [] := by
      rw [hs]
      refine walk_nil hN.rooted ?_
      rw [hh] at e
      unfold blockN at e
      cases hC : C ++ walkA N (x, false) with
      | nil => exact (List.append_eq_nil_iff.1 hC).2
      | cons y t =>
        exfalso
        have e2 : x :: rest = y :: (t ++ ([x] ++ walkA N (x, true) ++ D)) := by
          rw [e]
          have : C ++ (walkA N (x, false) ++ [x] ++ walkA N (x, true)) ++ D = (C ++ walkA N (x, false)) ++ ([x] ++ walkA N (x, true) ++ D) := by simp only [List.append_assoc]
          rw [this, hC]; rfl
        have h3 := (List.cons.inj e2).2
        rw [h3] at hnd2
        exact (List.nodup_cons.1 hnd2).1 (by simp)
    refine ⟨A, x :: rest ++ B, by rw [hAB, List.append_assoc], ?_, hA.1⟩
    have hne : rootS ≠ n.side := fun q => by rw [hs] at q; have := congrArg Prod.snd q; simp [rootS] at this
    have e3 : walkA N rootS = A ++ [x] ++ (rest ++ B) := by rw [hAB]; simp
    rw [walk_beside hN.rooted hN'.rooted hk0 rootS hne, e3, show n.side.1 = x by rw [hs]; rfl, show n.side.2 = false by rw [hs]; rfl]
    rw [e3] at hroot
    rw [beside_at hroot]
    simp
theorem chr0_snoc {N : List Nd} {n : Nd} (hn : ∀ m ∈ N, m.id ≠ n.id) (x : Int × Int) : chr0 (N ++ [n]) x = if x = n.id then n.chr else chr0 N x := by
  unfold chr0
  rw [chrN_snoc N n hn]
  split <;> rfl
theorem place_text {N : List Nd} (hN : TreeOk N) {k : Nat} (hk : k ≤ (wrN N).length) {n : Nd} (hs : n.side = ((placeN N (k : Nat)).1, (placeN N (k : Nat)).2.1)) (hr : refI N n = 0) :
    textN (N ++ [n]) = (textN N).take k ++ [n.chr] ++ (textN N).drop k := by
  obtain ⟨P, S, h1, h2, h3⟩ := place_walk hN hk hs hr
  obtain ⟨-, hc1, -, -, hfr, -, -⟩ := refI_ok hr
  have hfr2 := chrN_fresh hfr
  have hold : ∀ x ∈ walkA N rootS, x ≠ n.id := fun x hx e => by
    obtain ⟨m, hm, q⟩ := mem_walk hN.rooted rootS x hx
    exact hfr2 m hm (q.trans e)
  have hch : ∀ x ∈ walkA N rootS, chr0 (N ++ [n]) x = chr0 N x := fun x hx => by rw [chr0_snoc hfr2, if_neg (hold x hx)]
  have hwr : ∀ l : List (Int × Int), (∀ x ∈ l, x ∈ walkA N rootS) → (l.filter (writB (N ++ [n]))).map (chr0 (N ++ [n])) = (l.filter (writB N)).map (chr0 N) := fun l hl => by
    have e1 : l.filter (writB (N ++ [n])) = l.filter (writB N) := List.filter_congr fun x hx => by unfold writB; rw [hch x (hl x hx)]
    rw [e1]
    exact List.map_congr_left fun x hx => hch x (hl x (List.mem_filter.1 hx).1)
  have hid : chr0 (N ++ [n]) n.id = n.chr := by rw [chr0_snoc hfr2, if_pos rfl]
  have hw : writB (N ++ [n]) n.id = true := by unfold writB; rw [hid]; simp; omega
  have hP := hwr P (fun x hx => by rw [h1]; exact List.mem_append_left _ hx)
  have hS := hwr S (fun x hx => by rw [h1]; exact List.mem_append_right _ hx)
  have ht : textN N = (P.filter (writB N)).map (chr0 N) ++ (S.filter (writB N)).map (chr0 N) := by unfold textN wrN; rw [h1, List.filter_append, List.map_append]
  have hlen : ((P.filter (writB N)).map (chr0 N)).length = k := by rw [List.length_map]; exact h3
  rw [ht, List.take_left' hlen, List.drop_left' hlen]
  unfold textN wrN
  rw [h2, List.filter_append, List.filter_append, List.map_append, List.map_append, hP, hS, List.filter_cons_of_pos hw, List.filter_nil, List.map_cons, List.map_nil, hid]
theorem place_ok {N : List Nd} (hN : TreeOk N) {k : Nat} (hk : k ≤ (wrN N).length) : (placeN N (k : Nat)).2.2 = 0 ∧ ((placeN N (k : Nat)).1 = (0, 0) → (placeN N (k : Nat)).2.1 = true) ∧ ((placeN N (k : Nat)).1 = (0, 0) ∨ (chrN N (placeN N (k : Nat)).1).isSome = true) := by
  obtain ⟨left, hl0, hl1⟩ : ∃ left, leftN N (k : Nat) = (left, 0) ∧ (left = (0, 0) ∨ left ∈ wrN N) := by
    unfold leftN
    rw [if_neg (by omega)]
    by_cases h0 : k = 0
    · exact ⟨(0, 0), by rw [if_pos (by omega)], .inl rfl⟩
    · refine ⟨(wrN N)[k - 1]'(by omega), ?_, .inr (List.getElem_mem _)⟩
      rw [if_neg (by omega)]
      unfold atN
      rw [if_neg (by omega), show ((k : Int) - 1).toNat = k - 1 by omega, List.getElem?_eq_getElem (by omega)]
      rfl
  have hpl : placeN N (k : Nat) = match (walkA N (left, true)).head? with | some x => (x, false, 0) | none => (left, true, 0) := by
    unfold placeN; rw [hl0]; rfl
  rw [hpl]
  cases hh : (walkA N (left, true)).head? with
  | none =>
    refine ⟨rfl, fun _ => rfl, hl1.imp id fun q => ?_⟩
    obtain ⟨n, hn, e⟩ := mem_walk hN.rooted rootS left (List.mem_filter.1 q).1
    exact chrN_some.2 ⟨n, hn, e⟩
  | some x =>
    have hx : x ∈ walkA N (left, true) := List.mem_of_mem_head? hh
    obtain ⟨n, hn, e⟩ := mem_walk hN.rooted _ x hx
    exact ⟨rfl, fun q => absurd (e.trans q) (hN.rooted.id n hn), .inr (chrN_some.2 ⟨n, hn, e⟩)⟩
end Go.Proofs.Ytdkkenlehdblpaa

namespace Go.Proofs.Ytdkkenlehdblpaa
open Go.RowKit Go.Shelf
set_option maxRecDepth 20000
set_option linter.unusedSimpArgs false
theorem chr0_del (N : List Nd) (x y : Int × Int) : chr0 (delN N x) y = if y = x then 0 else chr0 N y := by
  unfold chr0
  rw [chrN_del]
  split
  · cases chrN N x <;> rfl
  · rfl
theorem filter_ne_at {l : List (Int × Int)} (hl : l.Nodup) {k : Nat} (hk : k < l.length) : l.filter (fun y => decide (y ≠ l[k])) = l.take k ++ l.drop (k + 1) := by
  have e : l = l.take k ++ l[k] :: l.drop (k + 1) := by rw [← List.drop_eq_getElem_cons hk, List.take_append_drop]
  generalize l[k] = x at *
  generalize l.take k = A at *
  generalize l.drop (k + 1) = B at *
  subst e
  have hA : ∀ y ∈ A, y ≠ x := fun y hy q => by
    rw [List.nodup_append] at hl
    exact hl.2.2 y hy x (by simp) q
  have hB : ∀ y ∈ B, y ≠ x := fun y hy q => by
    rw [List.nodup_append] at hl
    exact (List.nodup_cons.1 hl.2.1).1 (q ▸ hy)
  rw [List.filter_append, List.filter_cons_of_neg (by simp), List.filter_eq_self.2 (fun y hy => by simpa using hA y hy), List.filter_eq_self.2 (fun y hy => by simpa using hB y hy)]
theorem wrN_del {N : List Nd} (hN : TreeOk N) {k : Nat} (hk : k < (wrN N).length) : wrN (delN N (wrN N)[k]) = (wrN N).take k ++ (wrN N).drop (k + 1) := by
  rw [← filter_ne_at (wrN_nodup hN) hk]
  generalize (wrN N)[k] = x
  unfold wrN
  rw [walk_delN hN.rooted, List.filter_filter]
  refine List.filter_congr fun y _ => ?_
  unfold writB
  rw [chr0_del]
  by_cases h : y = x <;> simp [h]
theorem textN_del {N : List Nd} (hN : TreeOk N) {k : Nat} (hk : k < (wrN N).length) : textN (delN N (wrN N)[k]) = (textN N).take k ++ (textN N).drop (k + 1) := by
  have h1 := wrN_del hN hk
  have hnd := wrN_nodup hN
  have hne : ∀ y ∈ (wrN N).take k ++ (wrN N).drop (k + 1), y ≠ (wrN N)[k] := fun y hy => by
    rw [← filter_ne_at hnd hk] at hy
    simpa using (List.mem_filter.1 hy).2
  unfold textN
  rw [h1, ← List.map_take, ← List.map_drop, ← List.map_append]
  exact List.map_congr_left fun y hy => by rw [chr0_del, if_neg (hne y hy)]
set_option maxHeartbeats 4000000 in
theorem sameDots_any (b1 b2 : Nat) (x1 x2 : Option Addr) (c1 c2 : Nat) (L : List (Int × Int)) (hL : L.length ≤ 1000) (w : World) (h1 : OwnI w b1 32 2 (.slice x1 L.length c1) (L.map encF)) (h2 : OwnI w b2 32 2 (.slice x2 L.length c2) (L.map encF)) :
    Calls Try.prog 20 #[.slice x1 L.length c1, .slice x2 L.length c2] w fun e w' => e = .returned (.bool true) ∧ Below w.heap.size w w' := by
  have H1 := Veil.mk h1
  have H2 := Veil.mk h2
  obtain ⟨n, hn⟩ : ∃ q, L.length = q := ⟨_, rfl⟩
  have HN := Veil.mk hn
  rw [hn] at H1 H2 hL ⊢
  have uD := Try.underlying32
  clear h1 h2 hn
  go_enter Try.func20, Try.ntmps20
  have hnn : ((n : Int) != (n : Int)) = false := by simp
  go_wp2_with fail
  go_loopw [5] (fun p wr => ∃ i : Nat, p = .int .i64 (i : Nat) ∧ i ≤ n ∧ Below w.heap.size w wr) (fun p _ => n - (intOf p).toNat)
  case atStart => exact ⟨0, rfl, Nat.zero_le _, Below.refl _ _⟩
  case round =>
    obtain ⟨i, rfl, hi, hB⟩ := hrel
    by_cases hlt : i < n
    · have hli : (i : Int) < (n : Int) := by omega
      have hi0 : (0 : Int) ≤ (i : Int) := by omega
      have hil : i < L.length := by rw [HN.out]; exact hlt
      obtain ⟨g1, rfl, -, hr1⟩ := (H1.out.far hB).at_ i (by rw [List.length_map]; exact hil)
      obtain ⟨g2, rfl, -, hr2⟩ := (H2.out.far hB).at_ i (by rw [List.length_map]; exact hil)
      rw [List.getElem_map] at hr1 hr2
      have iD : (Try.prog.info? 32).map (·.size) = some (encF L[i]).length := sizeDot
      have hne : ∀ wx, (binOp BinOp.neq 32 (.agg (encF L[i]).toArray) (.agg (encF L[i]).toArray)).run Try.prog wx = .ok (.bool false) wx := fun wx => by rw [dot_neq]; simp
      generalize encF L[i] = DH at hr1 hr2 iD hne
      have hww : IntKind.i64.wrap ((i : Int) + 1) = (i : Int) + 1 := by rw [IntKind.wrap_i64]; omega
      have HB := Veil.mk hB.drew
      clear hil hB
      go_upto_region 6 with fail
      refine wp_region_gateT (fun w' => w'.rangeAt g1 (i * 2) DH ∧ w'.rangeAt g2 (i * 2) DH) (fun _ => True) 99 (by kernel_rfl) ?_
      have hT : (fun w' : World => w'.rangeAt g1 (i * 2) DH ∧ w'.rangeAt g2 (i * 2) DH) wr.drew := ⟨hr1, hr2⟩
      have hS : (fun _ : World => True) wr.drew := trivial
      refine wpAnyT_held (i := 0) (v := ?_) rfl (by kernel_rfl) (by kernel_rfl) (by kernel_rfl) (fun _ _ _ h => h) (by kernel_rfl) hT (fun _ => hS) (by kernel_rfl) ?_ ?_
      rotate_left
      · intro wx hSw; go_split_ands; go_simp; try with_reducible rfl
      simp only [Act.put, List.getElem_toArray, List.getElem_cons_succ, List.getElem_cons_zero, List.setIfInBounds_toArray, List.set_cons_zero, List.set_cons_succ]
      refine wpAnyT_held (i := 1) (v := ?_) rfl (by kernel_rfl) (by kernel_rfl) (by kernel_rfl) (fun _ _ _ h => h) (by kernel_rfl) hT (fun _ => hS) (by kernel_rfl) ?_ ?_
      rotate_left
      · intro wx hSw; go_split_ands; go_simp; try with_reducible rfl
      simp only [Act.put, List.getElem_toArray, List.getElem_cons_succ, List.getElem_cons_zero, List.setIfInBounds_toArray, List.set_cons_zero, List.set_cons_succ]
      refine wpAnyT_held (i := 2) (v := ?_) rfl (by kernel_rfl) (by kernel_rfl) (by kernel_rfl) (fun _ _ _ h => h) (by kernel_rfl) hT (fun _ => hS) (by kernel_rfl) ?_ ?_
      rotate_left
      · intro wx hSw; go_split_ands; go_simp; try with_reducible rfl
      simp only [Act.put, List.getElem_toArray, List.getElem_cons_succ, List.getElem_cons_zero, List.setIfInBounds_toArray, List.set_cons_zero, List.set_cons_succ]
      refine wpAnyT_load (i := 3) (dst := some 20) (ty := 32) (x := .tmp 19) (b := g1) (o := ((i * 2))) (cs := DH) (by kernel_rfl) (by kernel_rfl) (by kernel_rfl) (by kernel_rfl) (by kernel_rfl) (fun _ _ _ h => h) (by kernel_rfl) hT (fun _ => hS) (by kernel_rfl) (fun _ h => h.1) uD rfl iD ?_
      simp only [Act.put, List.getElem_toArray, List.getElem_cons_succ, List.getElem_cons_zero, List.setIfInBounds_toArray, List.set_cons_zero, List.set_cons_succ]
      refine wpAnyT_held (i := 4) (v := ?_) rfl (by kernel_rfl) (by kernel_rfl) (by kernel_rfl) (fun _ _ _ h => h) (by kernel_rfl) hT (fun _ => hS) (by kernel_rfl) ?_ ?_
      rotate_left
      · intro wx hSw; go_split_ands; go_simp; try with_reducible rfl
      simp only [Act.put, List.getElem_toArray, List.getElem_cons_succ, List.getElem_cons_zero, List.setIfInBounds_toArray, List.set_cons_zero, List.set_cons_succ]
      refine wpAnyT_held (i := 5) (v := ?_) rfl (by kernel_rfl) (by kernel_rfl) (by kernel_rfl) (fun _ _ _ h => h) (by kernel_rfl) hT (fun _ => hS) (by kernel_rfl) ?_ ?_
      rotate_left
      · intro wx hSw; go_split_ands; go_simp; try with_reducible rfl
      simp only [Act.put, List.getElem_toArray, List.getElem_cons_succ, List.getElem_cons_zero, List.setIfInBounds_toArray, List.set_cons_zero, List.set_cons_succ]
      refine wpAnyT_held (i := 6) (v := ?_) rfl (by kernel_rfl) (by kernel_rfl) (by kernel_rfl) (fun _ _ _ h => h) (by kernel_rfl) hT (fun _ => hS) (by kernel_rfl) ?_ ?_
      rotate_left
      · intro wx hSw; go_split_ands; go_simp; try with_reducible rfl
      simp only [Act.put, List.getElem_toArray, List.getElem_cons_succ, List.getElem_cons_zero, List.setIfInBounds_toArray, List.set_cons_zero, List.set_cons_succ]
      refine wpAnyT_load (i := 7) (dst := some 24) (ty := 32) (x := .tmp 23) (b := g2) (o := ((i * 2))) (cs := DH) (by kernel_rfl) (by kernel_rfl) (by kernel_rfl) (by kernel_rfl) (by kernel_rfl) (fun _ _ _ h => h) (by kernel_rfl) hT (fun _ => hS) (by kernel_rfl) (fun _ h => h.2) uD rfl iD ?_
      simp only [Act.put, List.getElem_toArray, List.getElem_cons_succ, List.getElem_cons_zero, List.setIfInBounds_toArray, List.set_cons_zero, List.set_cons_succ]
      refine wpAnyT_held (i := 8) (v := .bool false) rfl (by kernel_rfl) (by kernel_rfl) (by kernel_rfl) (fun _ _ _ h => h) (by kernel_rfl) hT (fun _ => hS) (by kernel_rfl) (fun wx h => exec_eqF rfl rfl rfl (by go_simp) (hne wx)) ?_
      simp only [Act.put, List.getElem_toArray, List.getElem_cons_succ, List.getElem_cons_zero, List.setIfInBounds_toArray, List.set_cons_zero, List.set_cons_succ]
      refine wpAnyT_done (by kernel_rfl) ?_ _
      clear hT hS hne hr1 hr2 iD
      go_wp2
      go_roundw
      case rel => exact ⟨i + 1, by push_cast; rfl, hlt, HB.out⟩
      case measure => simp [intOf]; omega
    · obtain rfl : i = n := by omega
      have hli : ¬ (i : Int) < (i : Int) := by omega
      go_wp2
      go_ret
      exact ⟨rfl, hB⟩
end Go.Proofs.Ytdkkenlehdblpaa

namespace Go.Proofs.Ytdkkenlehdblpaa
theorem len_le_of_subset {α : Type} [DecidableEq α] : ∀ (l m : List α), l.Nodup → (∀ x ∈ l, x ∈ m) → l.length ≤ m.length
  | [], _, _, _ => by simp
  | a :: l, m, hl, hs => by
    obtain ⟨h1, h2⟩ := List.nodup_cons.1 hl
    have hm : a ∈ m := hs a (by simp)
    have := len_le_of_subset l (m.erase a) h2 (fun x hx => (List.mem_erase_of_ne (fun e => h1 (by rw [← e]; exact hx))).2 (hs x (by simp [hx])))
    rw [List.length_erase_of_mem hm] at this
    have := List.length_pos_of_mem hm
    simp only [List.length_cons]; omega
theorem sorted_unique : ∀ (l m : List (Int × Int)), inOrderD l → inOrderD m → (∀ x, x ∈ l ↔ x ∈ m) → l = m
  | [], [], _, _, _ => rfl
  | [], b :: m, _, _, h => by have := (h b).2 (by simp); simp at this
  | a :: l, [], _, _, h => by have := (h a).1 (by simp); simp at this
  | a :: l, b :: m, hl, hm, h => by
    obtain ⟨l1, l2⟩ := List.pairwise_cons.1 hl
    obtain ⟨m1, m2⟩ := List.pairwise_cons.1 hm
    have hab : a = b := by
      rcases List.mem_cons.1 ((h a).1 (by simp)) with q | q
      · exact q
      · rcases List.mem_cons.1 ((h b).2 (by simp)) with r | r
        · exact r.symm
        · exact absurd ((m1 a q).trans (l1 b r)) (aheadD.irrefl _)
    subst hab
    congr 1
    refine sorted_unique l m l2 m2 fun x => ⟨fun hx => ?_, fun hx => ?_⟩
    · rcases List.mem_cons.1 ((h x).1 (by simp [hx])) with q | q
      · rw [q] at hx; exact absurd (l1 a hx) (aheadD.irrefl _)
      · exact q
    · rcases List.mem_cons.1 ((h x).2 (by simp [hx])) with q | q
      · rw [q] at hx; exact absurd (m1 a hx) (aheadD.irrefl _)
      · exact q
theorem id_unique {N : List Nd} (hN : (N.map (·.id)).Nodup) {m n : Nd} (hm : m ∈ N) (hn : n ∈ N) (h : m.id = n.id) : m = n := by
  obtain ⟨i, hi, rfl⟩ := List.getElem_of_mem hm
  obtain ⟨j, hj, rfl⟩ := List.getElem_of_mem hn
  have h3 := (List.getElem_inj (h₀ := by simpa using hi) (h₁ := by simpa using hj) hN (i := i) (j := j)).1 (by simp only [List.getElem_map]; exact h)
  subst h3; rfl
theorem chrN_mem {N : List Nd} (hN : (N.map (·.id)).Nodup) {n : Nd} (hn : n ∈ N) : chrN N n.id = some n.chr := by
  unfold chrN
  cases h : N.find? (fun m => decide (m.id = n.id)) with
  | none => have := List.find?_eq_none.1 h n hn; simp at this
  | some m =>
    have h1 := List.mem_of_find?_eq_some h
    have h2 := List.find?_some h
    have := id_unique hN h1 hn (by simpa using h2)
    rw [this]; rfl
/-- The same nodes, in whatever order they came: the same order and the same text. -/
theorem same_nodes {M G : List Nd} (hM : TreeOk M) (hG : TreeOk G) (h : ∀ n, n ∈ M ↔ n ∈ G) : walkA M rootS = walkA G rootS ∧ textN M = textN G ∧ M.length = G.length := by
  have hk : ∀ s, kids M s = kids G s := fun s => sorted_unique _ _ (kids_order hM.rooted.nodup s) (kids_order hG.rooted.nodup s) fun x => by
    rw [mem_kids, mem_kids]
    exact ⟨fun ⟨n, hn, q⟩ => ⟨n, (h n).1 hn, q⟩, fun ⟨n, hn, q⟩ => ⟨n, (h n).2 hn, q⟩⟩
  have hw := walk_same hM.rooted hG.rooted hk rootS
  have hc : ∀ x ∈ walkA G rootS, chr0 M x = chr0 G x := fun x hx => by
    obtain ⟨n, hn, rfl⟩ := mem_walk hG.rooted rootS x hx
    unfold chr0
    rw [chrN_mem hG.rooted.nodup hn, chrN_mem hM.rooted.nodup ((h n).2 hn)]
  refine ⟨hw, ?_, by rw [← hM.len, ← hG.len, hw]⟩
  unfold textN wrN
  rw [hw]
  have e1 : (walkA G rootS).filter (writB M) = (walkA G rootS).filter (writB G) := List.filter_congr fun x hx => by unfold writB; rw [hc x hx]
  rw [e1]
  exact List.map_congr_left fun x hx => hc x (List.mem_filter.1 hx).1
/-- Each came as it may. -/
def Built (G : List Nd) : Prop := ∀ r (hr : r < G.length), refI (G.take r) G[r] = 0
theorem Built.nil : Built [] := fun r hr => by simp at hr
theorem Built.snoc {G : List Nd} (h : Built G) {n : Nd} (hn : refI G n = 0) : Built (G ++ [n]) := fun r hr => by
  by_cases q : r < G.length
  · rw [List.getElem_append_left q, List.take_append_of_le_length (by omega)]; exact h r q
  · have : r = G.length := by simp at hr; omega
    subst this
    rw [List.getElem_concat_length rfl, List.take_append_of_le_length (Nat.le_refl _), List.take_length]; exact hn
/-- One more of G, if it is not there. -/
def againN (M : List Nd) (n : Nd) : List Nd := if (chrN M n.id).isSome = true then M else insN M n
/-- What holds while nodes of G come again. -/
structure Again (G M : List Nd) : Prop where
  ok : TreeOk M
  sub : ∀ m ∈ M, m ∈ G
theorem Again.step {G M : List Nd} (h : Again G M) {n : Nd} (hn : n ∈ G) : Again G (againN M n) ∧ ∀ m ∈ M, m ∈ againN M n := by
  unfold againN
  split
  · exact ⟨h, fun m hm => hm⟩
  · refine ⟨⟨h.ok.ins n, fun m hm => ?_⟩, fun m hm => ?_⟩
    · unfold insN at hm
      split at hm
      · rcases List.mem_append.1 hm with q | q
        · exact h.sub m q
        · rw [List.mem_singleton.1 q]; exact hn
      · exact h.sub m hm
    · unfold insN
      split
      · exact List.mem_append_left _ hm
      · exact hm
theorem Again.len {G M : List Nd} (h : Again G M) (hG : G.length ≤ 40) : M.length ≤ 40 := by
  have := len_le_of_subset (M.map (·.id)) (G.map (·.id)) h.ok.rooted.nodup (fun x hx => by
    obtain ⟨m, hm, rfl⟩ := List.mem_map.1 hx
    exact List.mem_map_of_mem (h.sub m hm))
  simp at this; omega
/-- With the first r of G there, the one behind them comes. -/
theorem Again.gets {G M : List Nd} (hG : TreeOk G) (hB : Built G) (hl : G.length ≤ 40) (h : Again G M) {r : Nat} (hr : r < G.length) (hf : ∀ j (hj : j < G.length), j < r → G[j] ∈ M) : G[r] ∈ againN M G[r] := by
  unfold againN
  split
  · next hs =>
    obtain ⟨m, hm, e⟩ := chrN_some.1 hs
    have := id_unique hG.rooted.nodup (h.sub m hm) (List.getElem_mem hr) e
    rw [← this]; exact hm
  · next hs =>
    have hML := h.len hl
    have hz : refI M G[r] = 0 := by
      obtain ⟨h1, h2, h3, h4, -, h6, -⟩ := refI_ok (hB r hr)
      unfold refI
      rw [if_neg, if_neg hs, if_neg, if_neg (by omega)]
      · rintro ⟨q1, q2⟩
        rcases h6 with q | q
        · exact q1 q
        · obtain ⟨m, hm, e⟩ := chrN_some.1 q
          obtain ⟨j, hj, rfl⟩ := List.getElem_of_mem hm
          rw [List.length_take] at hj
          have hin := hf j (by omega) (by omega)
          rw [List.getElem_take] at e
          have := chrN_some.2 ⟨G[j], hin, e⟩
          rw [this] at q2; cases q2
      · rintro (q | q | q | ⟨q1, q2⟩)
        · exact h1 q
        · omega
        · omega
        · rw [h4 q1] at q2; cases q2
    unfold insN
    rw [if_pos hz]
    simp
end Go.Proofs.Ytdkkenlehdblpaa
