/- Dc12 Ht1 Hv1 Fr1 Fr2 Fr3 Fr4 Fr5 Fp1 -/
import Derived.Test.YtgmbmdmbnpkbbaaM42
import Derived.Test.YtgmbmdmbnpkbbaaM32
import Derived.Test.YtgmbmdmbnpkbbaaM19
import Derived.Test.YtgmbmdmbnpkbbaaM02
import Derived.Test.YtgmbmdmbnpkbbaaM34
import Derived.Test.YtgmbmdmbnpkbbaaM13
namespace Go.Proofs.Ytgmbmdmbnpkbbaa
open Go.RowKit Go.Shelf
set_option maxRecDepth 20000
set_option linter.unusedSimpArgs false
def evK (k : Int) (par : Int × Int) (r : Bool) (c who role : Int) : Ev := ⟨0, 0, [0, 0, 0, 0, 0, 0, 0, 0], k, par.1, par.2, r, c, who, role⟩
def evZ0 : Ev := evK 0 (0, 0) false 0 0 0
def zC : List Value := [.int .u8 0, .int .u32 0, .int .u32 0, .int .u32 0, .int .u32 0, .int .u32 0, .int .u32 0, .int .u32 0, .int .u32 0, .int .u32 0, .int .u8 0, .int .u8 0, .int .u32 0, .bool false, .int .u8 0, .int .u8 0, .int .u8 0]
theorem zC_one : ∀ v ∈ zC, v.oneCell' = true := aev_one evZ0
def evKC (k pa ps : Int) (r : Bool) (c who role : Int) : List Value := [.int .u8 0, .int .u32 0, .int .u32 0, .int .u32 0, .int .u32 0, .int .u32 0, .int .u32 0, .int .u32 0, .int .u32 0, .int .u32 0, .int .u8 k, .int .u8 pa, .int .u32 ps, .bool r, .int .u8 c, .int .u8 who, .int .u8 role]
def tellW (st : Ds) (a i c : Int) : Ev × Int := if forbN st a (decide (1 ≤ c) && decide (c ≤ 127)) 2 ≠ 0 then (evZ0, forbN st a (decide (1 ≤ c) && decide (c ≤ 127)) 2) else if (placeN st.N i).2.2 ≠ 0 then (evZ0, (placeN st.N i).2.2) else (nextE st a.toNat (evK 1 (placeN st.N i).1 (placeN st.N i).2.1 c 0 0), 0)
def tellG (st : Ds) (a who role : Int) : Ev × Int := if forbN st a (decide (who < 8) && (decide (1 ≤ role) && decide (role ≤ 3))) 3 ≠ 0 then (evZ0, forbN st a (decide (who < 8) && (decide (1 ≤ role) && decide (role ≤ 3))) 3) else (nextE st a.toNat (evK 3 (0, 0) false 0 who role), 0)
def tellT (st : Ds) (a who : Int) : Ev × Int := if forbN st a (decide (who < 8)) 3 ≠ 0 then (evZ0, forbN st a (decide (who < 8)) 3) else (nextE st a.toNat (evK 4 (0, 0) false 0 who 0), 0)
theorem forbN_zero {st : Ds} {a : Int} {fit : Bool} {least : Int} (h : forbN st a fit least = 0) : a < 8 ∧ fit = true ∧ st.L.length < 512 ∧ least ≤ roleP st.B a st.S := by
  unfold forbN at h
  split at h
  · cases h
  · split at h
    · cases h
    · split at h
      · cases h
      · split at h
        · cases h
        · rename_i h1 h2 h3 h4
          exact ⟨by omega, by simpa using h2, by omega, by omega⟩
def fitG (who role : Int) : Bool := decide (who < 8) && (decide (1 ≤ role) && decide (role ≤ 3))
def hE1 (a : Int) : Ev := nextE newS 0 (evK 3 (0, 0) false 0 a 3)
def hS1 (a : Int) : Ds := apS newS (hE1 a)
def hE2 (a b : Int) : Ev := nextE (hS1 a) a.toNat (evK 3 (0, 0) false 0 b 2)
def hS2 (a b : Int) : Ds := apS (hS1 a) (hE2 a b)
def hE3 (a b : Int) : Ev := nextE (hS2 a b) 0 (evK 4 (0, 0) false 0 a 0)
def hS3 (a b : Int) : Ds := apS (hS2 a b) (hE3 a b)
structure Heirs (a b : Int) : Prop where
  f1 : forbN newS 0 (fitG a 3) 3 = 0
  r1 : refD newS (hE1 a) = 0
  f2 : forbN (hS1 a) a (fitG b 2) 3 = 0
  r2 : refD (hS1 a) (hE2 a b) = 0
  f3 : forbN (hS2 a b) 0 (decide (a < 8)) 3 = 0
  r3 : refD (hS2 a b) (hE3 a b) = 0
  ma : (membersL (hS3 a b).B (hS3 a b).S)[a.toNat]?.getD 9 = 0
  mb : (membersL (hS3 a b).B (hS3 a b).S)[b.toNat]?.getD 9 = 2
  f4 : forbN (hS3 a b) a (fitG b 3) 3 = 8
theorem tellG_ok {st : Ds} {a who role : Int} (h : forbN st a (fitG who role) 3 = 0) : tellG st a who role = (nextE st a.toNat (evK 3 (0, 0) false 0 who role), 0) := if_neg (by unfold fitG at h; rw [h]; simp)
theorem nextE_ok {st : Ds} (hG : GoodD st) {a : Nat} (ha : a < 8) {k who role : Int} (hk : 0 ≤ k ∧ k ≤ 255) (hw : 0 ≤ who ∧ who ≤ 255) (hr : 0 ≤ role ∧ role ≤ 255) : (nextE st a (evK k (0, 0) false 0 who role)).Ok where
  dot := by
    have := hG.seen ha
    have := hG.llen
    unfold nextE okD
    simp only
    omega
  past := hG.slen
  pastB := fun x hx => by have := hG.sval x hx; have := hG.llen; omega
  par := by unfold nextE evK okD; simp
  kind := hk
  char := by unfold nextE evK; simp
  who := hw
  role := hr
def vE1 : Ev := nextE newS 0 (evK 3 (0, 0) false 0 1 2)
def vS1 : Ds := apS newS vE1
def vEA : Ev := nextE vS1 0 (evK 4 (0, 0) false 0 1 0)
def vET (c : Int) : Ev := nextE vS1 1 (evK 1 (0, 0) true c 0 0)
def vF1 : Ds := apS vS1 vEA
def vF2 (c : Int) : Ds := apS vF1 (vET c)
def vG1 (c : Int) : Ds := apS vS1 (vET c)
def vG2 (c : Int) : Ds := apS (vG1 c) vEA
def vEL (c : Int) : Ev := ⟨1, 2, [2, 1, 0, 0, 0, 0, 0, 0], 1, 0, 0, true, c, 0, 0⟩
def vF3 (c : Int) : Ds := apS (vF2 c) (vEL c)
def vG3 (c : Int) : Ds := apS (vG2 c) (vEL c)
def revB (c : Int) : Bool :=
  decide (forbN newS 0 (fitG 1 2) 3 = 0) && decide (refD newS vE1 = 0) && decide (forbN vS1 0 (decide ((1 : Int) < 8)) 3 = 0) && decide (forbN vS1 1 (decide (1 ≤ c) && decide (c ≤ 127)) 2 = 0) && decide ((placeN vS1.N 0).2.2 = 0) && decide ((placeN vS1.N 0).1 = (0, 0)) && decide ((placeN vS1.N 0).2.1 = true)
  && decide (refD vS1 vEA = 0) && decide (refD vF1 (vET c) = 0) && decide (refD vS1 (vET c) = 0) && decide (refD (vG1 c) vEA = 0) && decide ((vF2 c).S = [2, 1, 0, 0, 0, 0, 0, 0]) && decide (refD (vF2 c) (vEL c) = 0) && decide (refD (vG2 c) (vEL c) = 0)
  && decide ((1, 1) ∈ (vF3 c).F) && decide ((1, 1) ∈ (vG3 c).F) && decide ((1, 2) ∉ (vF3 c).F) && decide ((1, 2) ∉ (vG3 c).F) && decide (textN (vF3 c).N = [c]) && decide (textN (vG3 c).N = [c]) && decide (membersL (vF3 c).B (vF3 c).S = membersL (vG3 c).B (vG3 c).S) && decide ((membersL (vF3 c).B (vF3 c).S)[1]?.getD 9 = 0)
theorem rev_all : ((List.range 127).all fun x => revB ((x : Int) + 1)) = true := by kernel_rfl
structure Rev (c : Int) : Prop where
  f1 : forbN newS 0 (fitG 1 2) 3 = 0
  r1 : refD newS vE1 = 0
  f2 : forbN vS1 0 (decide ((1 : Int) < 8)) 3 = 0
  f3 : forbN vS1 1 (decide (1 ≤ c) && decide (c ≤ 127)) 2 = 0
  pl : (placeN vS1.N 0).2.2 = 0
  pp : (placeN vS1.N 0).1 = (0, 0)
  pr : (placeN vS1.N 0).2.1 = true
  ra : refD vS1 vEA = 0
  rt : refD vF1 (vET c) = 0
  rt2 : refD vS1 (vET c) = 0
  ra2 : refD (vG1 c) vEA = 0
  sv : (vF2 c).S = [2, 1, 0, 0, 0, 0, 0, 0]
  rl : refD (vF2 c) (vEL c) = 0
  rl2 : refD (vG2 c) (vEL c) = 0
  t1 : (1, 1) ∈ (vF3 c).F
  t2 : (1, 1) ∈ (vG3 c).F
  t3 : (1, 2) ∉ (vF3 c).F
  t4 : (1, 2) ∉ (vG3 c).F
  x1 : textN (vF3 c).N = [c]
  x2 : textN (vG3 c).N = [c]
  m1 : membersL (vF3 c).B (vF3 c).S = membersL (vG3 c).B (vG3 c).S
  m2 : (membersL (vF3 c).B (vF3 c).S)[1]?.getD 9 = 0
theorem rev_at {c : Nat} (h1 : 1 ≤ c) (h2 : c ≤ 127) : Rev (c : Int) := by
  have h := rev_all
  rw [List.all_eq_true] at h
  have h3 := h (c - 1) (List.mem_range.2 (by omega))
  have e1 : (((c - 1 : Nat) : Int) + 1) = (c : Int) := by omega
  rw [e1] at h3
  unfold revB at h3
  simp only [Bool.and_eq_true, decide_eq_true_eq] at h3
  obtain ⟨⟨⟨⟨⟨⟨⟨⟨⟨⟨⟨⟨⟨⟨⟨⟨⟨⟨⟨⟨⟨a1, a2⟩, a3⟩, a4⟩, a5⟩, a6⟩, a7⟩, a8⟩, a9⟩, a10⟩, a11⟩, a12⟩, a13⟩, a14⟩, a15⟩, a16⟩, a17⟩, a18⟩, a19⟩, a20⟩, a21⟩, a22⟩ := h3
  refine ⟨a1, a2, a3, ?_, a5, a6, a7, a8, a9, a10, a11, a12, a13, a14, a15, a16, a17, a18, a19, a20, a21, a22⟩
  simpa using a4
def refP (R : Nat) (v : Value) (k : Nat) : Prop := k = R ∨ v.ownBlock = some k
structure RefTo (R : Nat) (v v' : Value) (w w' : World) : Prop where
  turn : Turn (refP R v) w w'
  own : ∀ k, refP R v' k → refP R v k ∨ w.heap.size ≤ k
theorem RefTo.of_below {R : Nat} {v : Value} {w w' : World} (h : Below w.heap.size w w') : RefTo R v v w w' := ⟨Turn.of_below h, fun _ hk => .inl hk⟩
def Dd8.nd (d : Dd8) : Nd := ⟨d.id, (d.par, d.right), d.chr⟩
theorem wrN_nodup {N : List Nd} (hN : TreeOk N) : (wrN N).Nodup := (nodup_root hN.rooted).filter _
theorem split_at {α : Type} [DecidableEq α] {l : List α} {p : α → Bool} (hl : l.Nodup) {k : Nat} (hk : k < (l.filter p).length) {A B : List α} (h : l = A ++ [(l.filter p)[k]] ++ B) : (A.filter p).length = k := by
  have hx : p (l.filter p)[k] = true := (List.mem_filter.1 (List.getElem_mem hk)).2
  generalize hy : (l.filter p)[k] = y at h hx
  have hf : l.filter p = A.filter p ++ [y] ++ B.filter p := by
    rw [h, List.filter_append, List.filter_append, List.filter_cons_of_pos hx, List.filter_nil]
  have hnd : (l.filter p).Nodup := hl.filter _
  have h1 : (A.filter p).length < (l.filter p).length := by rw [hf, List.length_append, List.length_append, List.length_singleton]; omega
  have h2 : (l.filter p)[(A.filter p).length] = y := by
    have : (l.filter p)[(A.filter p).length]? = some y := by
      rw [hf, List.append_assoc, List.getElem?_append_right (Nat.le_refl _)]; simp
    rw [List.getElem?_eq_getElem h1] at this
    exact Option.some.inj this
  exact (List.getElem_inj hnd).1 (h2.trans hy.symm)
theorem place_walk {N : List Nd} (hN : TreeOk N) {k : Nat} (hk : k ≤ (wrN N).length) {n : Nd} (hs : n.side = ((placeN N (k : Nat)).1, (placeN N (k : Nat)).2.1)) (hr : refI N n = 0) :
    ∃ P S, walkA N rootS = P ++ S ∧ walkA (N ++ [n]) rootS = P ++ [n.id] ++ S ∧ (P.filter (writB N)).length = k := by
  have hN' : TreeOk (N ++ [n]) := by have := hN.ins n; unfold insN at this; rwa [if_pos hr] at this
  have hroot := nodup_root hN.rooted
  -- the node on the left
  obtain ⟨left, hl0, hl1⟩ : ∃ left, leftN N (k : Nat) = (left, 0) ∧ ((k = 0 ∧ left = (0, 0)) ∨ (∃ hk' : k - 1 < (wrN N).length, 0 < k ∧ left = (wrN N)[k - 1])) := by
    unfold leftN
    rw [if_neg (by omega)]
    by_cases h0 : k = 0
    · exact ⟨(0, 0), by rw [if_pos (by omega)], .inl ⟨h0, rfl⟩⟩
    · refine ⟨(wrN N)[k - 1]'(by omega), ?_, .inr ⟨by omega, by omega, rfl⟩⟩
      rw [if_neg (by omega)]
      unfold atN
      rw [if_neg (by omega), show ((k : Int) - 1).toNat = k - 1 by omega, List.getElem?_eq_getElem (by omega)]
      rfl
  -- where it stands in the walk
  obtain ⟨A, B, hAB, hA⟩ : ∃ A B, walkA N rootS = A ++ walkA N (left, true) ++ B ∧ (A.filter (writB N)).length = k ∧ (left = (0, 0) → A = [] ∧ B = []) ∧ (left ≠ (0, 0) → ∃ A', A = A' ++ [left]) := by
    rcases hl1 with ⟨h0, hl⟩ | ⟨hk', h0, hl⟩
    · subst hl
      exact ⟨[], [], by simp [rootS], by simp [h0], fun _ => ⟨rfl, rfl⟩, fun h => absurd rfl h⟩
    · have hm : left ∈ walkA N rootS := by rw [hl]; exact (List.mem_filter.1 (List.getElem_mem hk')).1
      obtain ⟨A, B, e⟩ := split_walk hN.rooted rootS left hm
      have hne : left ≠ (0, 0) := fun q => not_mem_root hN.rooted rootS (q ▸ hm)
      refine ⟨A ++ walkA N (left, false) ++ [left], B, by rw [e]; unfold blockN; simp only [List.append_assoc], ?_, fun h => absurd h hne, fun _ => ⟨_, rfl⟩⟩
      have h2 : ((A ++ walkA N (left, false)).filter (writB N)).length = k - 1 := by
        refine split_at (p := writB N) hroot (k := k - 1) hk' (B := walkA N (left, true) ++ B) ?_
        have e4 : walkA N rootS = A ++ walkA N (left, false) ++ [left] ++ (walkA N (left, true) ++ B) := by
          rw [e]
          unfold blockN
          simp only [List.append_assoc]
        rw [show ((walkA N rootS).filter (writB N))[k - 1]'hk' = left from hl.symm]
        exact e4
      rw [List.filter_append, List.length_append, h2]
      have hp : writB N left = true := by rw [hl]; exact (List.mem_filter.1 (List.getElem_mem hk')).2
      rw [List.filter_cons_of_pos hp]
      simp; omega
  have hpl : placeN N (k : Nat) = match (walkA N (left, true)).head? with | some x => (x, false, 0) | none => (left, true, 0) := by
    unfold placeN; rw [hl0]; rfl
  rw [hpl] at hs
  cases hh : walkA N (left, true) with
  | nil =>
    rw [hh] at hs hAB
    have hk0 : kids N n.side = [] := by rw [hs]; exact walk_nil hN.rooted hh
    rw [List.append_nil] at hAB
    by_cases hz : left = (0, 0)
    · obtain ⟨rfl, rfl⟩ := hA.2.1 hz
      refine ⟨[], [], by rw [hAB], ?_, hA.1⟩
      have : n.side = rootS := by rw [hs, hz]; rfl
      rw [← this]
      rw [walk_leaf hN.rooted hN'.rooted hk0]
      simp
    · refine ⟨A, B, hAB, ?_, hA.1⟩
      obtain ⟨A', rfl⟩ := hA.2.2 hz
      have hne : rootS ≠ n.side := fun q => hz (by rw [hs] at q; exact (congrArg Prod.fst q).symm)
      rw [walk_beside hN.rooted hN'.rooted hk0 rootS hne, hAB, show n.side.1 = left by rw [hs]; rfl, show n.side.2 = true by rw [hs]; rfl]
      rw [hAB] at hroot
      rw [beside_at hroot]
      simp
  | cons x rest =>
    rw [hh] at hs hAB
    have hnd2 : (x :: rest).Nodup := by
      rw [hAB, List.append_assoc, List.nodup_append] at hroot
      exact (List.nodup_append.1 hroot.2.1).1
    have hx1 : x ∈ walkA N (left, true) := by rw [hh]; exact List.mem_cons_self
    obtain ⟨C, D, e⟩ := split_walk hN.rooted (left, true) x hx1
    have hk0 : kids N n.side = [] := by
      rw [hs]
      refine walk_nil hN.rooted ?_
      rw [hh] at e
      unfold blockN at e
      cases hC : C ++ walkA N (x, false) with
      | nil => exact (List.append_eq_nil_iff.1 hC).2
      | cons y t =>
        exfalso
        have e2 : x :: rest = y :: (t ++ ([x] ++ walkA N (x, true) ++ D)) := by
          rw [e]
          have : C ++ (walkA N (x, false) ++ [x] ++ walkA N (x, true)) ++ D = (C ++ walkA N (x, false)) ++ ([x] ++ walkA N (x, true) ++ D) := by simp only [List.append_assoc]
          rw [this, hC]; rfl
        have h3 := (List.cons.inj e2).2
        rw [h3] at hnd2
        exact (List.nodup_cons.1 hnd2).1 (by simp)
    refine ⟨A, x :: rest ++ B, by rw [hAB, List.append_assoc], ?_, hA.1⟩
    have hne : rootS ≠ n.side := fun q => by rw [hs] at q; have := congrArg Prod.snd q; simp [rootS] at this
    have e3 : walkA N rootS = A ++ [x] ++ (rest ++ B) := by rw [hAB]; simp
    rw [walk_beside hN.rooted hN'.rooted hk0 rootS hne, e3, show n.side.1 = x by rw [hs]; rfl, show n.side.2 = false by rw [hs]; rfl]
    rw [e3] at hroot
    rw [beside_at hroot]
    simp
theorem chr0_snoc {N : List Nd} {n : Nd} (hn : ∀ m ∈ N, m.id ≠ n.id) (x : Int × Int) : chr0 (N ++ [n]) x = if x = n.id then n.chr else chr0 N x := by
  unfold chr0
  rw [chrN_snoc N n hn]
  split <;> rfl
theorem place_text {N : List Nd} (hN : TreeOk N) {k : Nat} (hk : k ≤ (wrN N).length) {n : Nd} (hs : n.side = ((placeN N (k : Nat)).1, (placeN N (k : Nat)).2.1)) (hr : refI N n = 0) :
    textN (N ++ [n]) = (textN N).take k ++ [n.chr] ++ (textN N).drop k := by
  obtain ⟨P, S, h1, h2, h3⟩ := place_walk hN hk hs hr
  obtain ⟨-, hc1, -, -, hfr, -, -⟩ := refI_ok hr
  have hfr2 := chrN_fresh hfr
  have hold : ∀ x ∈ walkA N rootS, x ≠ n.id := fun x hx e => by
    obtain ⟨m, hm, q⟩ := mem_walk hN.rooted rootS x hx
    exact hfr2 m hm (q.trans e)
  have hch : ∀ x ∈ walkA N rootS, chr0 (N ++ [n]) x = chr0 N x := fun x hx => by rw [chr0_snoc hfr2, if_neg (hold x hx)]
  have hwr : ∀ l : List (Int × Int), (∀ x ∈ l, x ∈ walkA N rootS) → (l.filter (writB (N ++ [n]))).map (chr0 (N ++ [n])) = (l.filter (writB N)).map (chr0 N) := fun l hl => by
    have e1 : l.filter (writB (N ++ [n])) = l.filter (writB N) := List.filter_congr fun x hx => by unfold writB; rw [hch x (hl x hx)]
    rw [e1]
    exact List.map_congr_left fun x hx => hch x (hl x (List.mem_filter.1 hx).1)
  have hid : chr0 (N ++ [n]) n.id = n.chr := by rw [chr0_snoc hfr2, if_pos rfl]
  have hw : writB (N ++ [n]) n.id = true := by unfold writB; rw [hid]; simp; omega
  have hP := hwr P (fun x hx => by rw [h1]; exact List.mem_append_left _ hx)
  have hS := hwr S (fun x hx => by rw [h1]; exact List.mem_append_right _ hx)
  have ht : textN N = (P.filter (writB N)).map (chr0 N) ++ (S.filter (writB N)).map (chr0 N) := by unfold textN wrN; rw [h1, List.filter_append, List.map_append]
  have hlen : ((P.filter (writB N)).map (chr0 N)).length = k := by rw [List.length_map]; exact h3
  rw [ht, List.take_left' hlen, List.drop_left' hlen]
  unfold textN wrN
  rw [h2, List.filter_append, List.filter_append, List.map_append, List.map_append, hP, hS, List.filter_cons_of_pos hw, List.filter_nil, List.map_cons, List.map_nil, hid]
theorem place_ok {N : List Nd} (hN : TreeOk N) {k : Nat} (hk : k ≤ (wrN N).length) : (placeN N (k : Nat)).2.2 = 0 ∧ ((placeN N (k : Nat)).1 = (0, 0) → (placeN N (k : Nat)).2.1 = true) ∧ ((placeN N (k : Nat)).1 = (0, 0) ∨ (chrN N (placeN N (k : Nat)).1).isSome = true) := by
  obtain ⟨left, hl0, hl1⟩ : ∃ left, leftN N (k : Nat) = (left, 0) ∧ (left = (0, 0) ∨ left ∈ wrN N) := by
    unfold leftN
    rw [if_neg (by omega)]
    by_cases h0 : k = 0
    · exact ⟨(0, 0), by rw [if_pos (by omega)], .inl rfl⟩
    · refine ⟨(wrN N)[k - 1]'(by omega), ?_, .inr (List.getElem_mem _)⟩
      rw [if_neg (by omega)]
      unfold atN
      rw [if_neg (by omega), show ((k : Int) - 1).toNat = k - 1 by omega, List.getElem?_eq_getElem (by omega)]
      rfl
  have hpl : placeN N (k : Nat) = match (walkA N (left, true)).head? with | some x => (x, false, 0) | none => (left, true, 0) := by
    unfold placeN; rw [hl0]; rfl
  rw [hpl]
  cases hh : (walkA N (left, true)).head? with
  | none =>
    refine ⟨rfl, fun _ => rfl, hl1.imp id fun q => ?_⟩
    obtain ⟨n, hn, e⟩ := mem_walk hN.rooted rootS left (List.mem_filter.1 q).1
    exact chrN_some.2 ⟨n, hn, e⟩
  | some x =>
    have hx : x ∈ walkA N (left, true) := List.mem_of_mem_head? hh
    obtain ⟨n, hn, e⟩ := mem_walk hN.rooted _ x hx
    exact ⟨rfl, fun q => absurd (e.trans q) (hN.rooted.id n hn), .inr (chrN_some.2 ⟨n, hn, e⟩)⟩
end Go.Proofs.Ytgmbmdmbnpkbbaa
