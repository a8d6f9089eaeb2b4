/- Fg14 -/
import Derived.Test.YtnmjplngbleopaaF15
namespace Go.Proofs.Ytnmjplngbleopaa
open Go.RowKit Go.Shelf
set_option maxRecDepth 20000
set_option linter.unusedSimpArgs false
structure SidesIn (w : World) (base R bc bn : Nat) (N : List Nd) (V : (Int × Int) × Bool → Value) : Prop where
  box : CellsAt w R 51 [.map (some bc), .map (some bn)]
  nodes : MapG Try.prog 56 encS okS w bn N.length (sideM N V)
  sides : SidesAt w base R bc bn N V
  empty : ∀ s, okS s → kids N s = [] → V s = .slice none 0 0
theorem TreeAt.sidesIn {w : World} {base R bc bn : Nat} {N : List Nd} {V : (Int × Int) × Bool → Value} (h : TreeAt w base R bc bn N V) : SidesIn w base R bc bn N V := ⟨h.box, h.nodes, h.sides, h.empty⟩
theorem SidesIn.congr {w w' : World} {base R bc bn : Nat} {N : List Nd} {V : (Int × Int) × Bool → Value} (h : SidesIn w base R bc bn N V) (hR : w'.heap[R]? = w.heap[R]?) (hn : w'.heap[bn]? = w.heap[bn]?) (hs : ∀ s k, okS s → (V s).ownBlock = some k → w'.heap[k]? = w.heap[k]?) : SidesIn w' base R bc bn N V :=
  ⟨h.box.congr hR, h.nodes.congr hn, ⟨fun s ok => (h.sides.own s ok).congr fun g hg => hs s g ok hg, h.sides.apart, h.sides.far⟩, h.empty⟩
theorem SidesIn.far {w w' : World} {base R bc bn : Nat} {N : List Nd} {V : (Int × Int) × Bool → Value} (h : SidesIn w base R bc bn N V) (hb : Below w.heap.size w w') : SidesIn w' base R bc bn N V := h.congr (hb.block R h.box.lt) (hb.block bn h.nodes.lt) fun s k ok hk => hb.block k ((h.sides.own s ok).blockLt k hk).1
theorem sideM_getD {w : World} {base R bc bn : Nat} {N : List Nd} {V : (Int × Int) × Bool → Value} (h : SidesIn w base R bc bn N V) (s : (Int × Int) × Bool) (hs : okS s) : (sideM N V s).getD (.slice none 0 0) = V s := by
  unfold sideM
  split
  · next e => rw [h.empty s hs e]; rfl
  · rfl
def putV (V : (Int × Int) × Bool → Value) (s : (Int × Int) × Bool) (v : Value) : (Int × Int) × Bool → Value := fun t => if t = s then v else V t
theorem sideM_put (N : List Nd) (V : (Int × Int) × Bool → Value) (n : Nd) (v : Value) : putG (sideM N V) n.side v = sideM (N ++ [n]) (putV V n.side v) := by
  funext y
  unfold putG sideM putV
  by_cases e : y = n.side
  · subst e
    have : kids (N ++ [n]) n.side ≠ [] := by
      rw [kids_snoc, if_pos rfl]
      intro q
      have := length_insD (kids N n.side) n.id
      rw [q] at this
      simp at this
    simp [this]
  · rw [kids_other e]; simp [e]
theorem encF_one (x : Int × Int) : ∀ u ∈ encF x, u.oneCell' = true := by
  intro u hu
  simp only [encF, dotC, List.mem_cons, List.not_mem_nil, or_false] at hu
  rcases hu with rfl | rfl <;> rfl
theorem SidesIn.step {w W1 W2 W3 : World} {base R bc bn : Nat} {N : List Nd} {V : (Int × Int) × Bool → Value} (h : SidesIn w base R bc bn N V) (n : Nd) (hs : okS n.side) (hbc : bc < w.heap.size) (hb : Below w.heap.size w W1) (v' : Value) (hI : InsP base (V n.side) W1 ((insD (kids N n.side) n.id).map encF) v' W2)
    (hM : MapG Try.prog 56 encS okS W3 bn (N.length + 1) (putG (sideM N V) n.side v')) (hg : W2.grownBy W3 (some bn)) :
    SidesIn W3 base R bc bn (N ++ [n]) (putV V n.side v') ∧ Turn (fun k => k = bn ∨ (V n.side).ownBlock = some k) w W3 ∧ ∀ k, v'.ownBlock = some k → (V n.side).ownBlock = some k ∨ w.heap.size ≤ k := by
  have hRn : R ≠ bn := fun e => h.nodes.cellsNe h.box e.symm
  have hfs := h.sides.far n.side hs
  have hsz := hb.size
  have hsz2 := hI.grown.size
  have keep2 : ∀ k, k < w.heap.size → (V n.side).ownBlock ≠ some k → W2.heap[k]? = w.heap[k]? := fun k hk hne => (hI.grown.block k (by omega) (fun e => hne e.symm)).trans (hb.block k hk)
  have keep3 : ∀ k, k < w.heap.size → (V n.side).ownBlock ≠ some k → k ≠ bn → W3.heap[k]? = w.heap[k]? := fun k hk hne hnb => (hg.block k (by omega) (fun e => hnb (Option.some.inj e))).trans (keep2 k hk hne)
  have hbn := h.nodes.lt
  have hvb : ∀ k, v'.ownBlock = some k → (V n.side).ownBlock = some k ∨ w.heap.size ≤ k := fun k hk => by
    rcases hI.block with q | ⟨j, q, hj⟩
    · exact .inl (q ▸ hk)
    · rw [q] at hk; exact .inr (by cases hk; omega)
  refine ⟨⟨h.box.congr (keep3 R h.box.lt hfs.1 hRn), ?_, ⟨fun t ht => ?_, fun t u ht hu htu k hk => ?_, fun t ht => ?_⟩, fun t ht hk => ?_⟩, ?_, hvb⟩
  · rw [← sideM_put]; simpa using hM
  · unfold putV
    by_cases e : t = n.side
    · subst e
      rw [if_pos rfl, kids_snoc, if_pos rfl]
      refine hI.own.congr fun g hgk => hg.block g (hI.own.blockLt g hgk).1 (fun e => ?_)
      have e := Option.some.inj e
      rcases hvb g hgk with q | q
      · exact hfs.2.2 (e ▸ q)
      · omega
    · rw [if_neg e, kids_other e]
      refine (h.sides.own t ht).congr fun g hgk => keep3 g ((h.sides.own t ht).blockLt g hgk).1 (h.sides.apart t n.side ht hs e g hgk) (fun q => (h.sides.far t ht).2.2 (q ▸ hgk))
  · unfold putV at hk ⊢
    by_cases e1 : t = n.side
    · rw [if_pos e1] at hk
      by_cases e2 : u = n.side
      · exact absurd (e1.trans e2.symm) htu
      · rw [if_neg e2]
        intro q
        rcases hvb k hk with r | r
        · exact h.sides.apart u n.side hu hs e2 k q r
        · have := ((h.sides.own u hu).blockLt k q).1; omega
    · rw [if_neg e1] at hk
      by_cases e2 : u = n.side
      · rw [if_pos e2]
        intro q
        rcases hvb k q with r | r
        · exact h.sides.apart t n.side ht hs e1 k hk r
        · have := ((h.sides.own t ht).blockLt k hk).1; omega
      · rw [if_neg e2]; exact h.sides.apart t u ht hu htu k hk
  · unfold putV
    by_cases e : t = n.side
    · rw [if_pos e]
      have hbcl : ∀ k, v'.ownBlock = some k → k = R ∨ k = bc ∨ k = bn → k < w.heap.size → False := fun k hk hkk hlt => by
        rcases hvb k hk with r | r
        · rcases hkk with rfl | rfl | rfl
          · exact hfs.1 r
          · exact hfs.2.1 r
          · exact hfs.2.2 r
        · omega
      refine ⟨fun q => hbcl R q (.inl rfl) h.box.lt, fun q => ?_, fun q => hbcl bn q (.inr (.inr rfl)) hbn⟩
      rcases hI.block with r | ⟨j, r, hj⟩
      · exact hfs.2.1 (r ▸ q)
      · rw [r] at q; cases q; omega
    · rw [if_neg e]; exact h.sides.far t ht
  · unfold putV
    by_cases e : t = n.side
    · subst e
      rw [kids_snoc, if_pos rfl] at hk
      have := length_insD (kids N n.side) n.id
      rw [hk] at this
      simp at this
    · rw [if_neg e]; rw [kids_other e] at hk; exact h.empty t ht hk
  · exact (Turn.of_below hb).trans ((Turn.of_grown hI.grown fun k hk => .inr hk).trans (Turn.of_grown hg fun k hk => .inl (Option.some.inj hk).symm))
set_option maxHeartbeats 4000000 in
theorem standT_any (base R bc bn : Nat) (N : List Nd) (V : (Int × Int) × Bool → Value) (n : Nd) (hs : okS n.side) (hnd : (N.map (·.id)).Nodup) (hlen : N.length ≤ 100000) (w : World) (hb0 : base ≤ w.heap.size) (hbc : bc < w.heap.size) (hT : SidesIn w base R bc bn N V) :
    Calls Try.prog 22 #[.pointer (some ⟨R, 0, none⟩), .agg (encF n.id).toArray, .agg (sideC n.side).toArray] w fun e w' => ∃ v' r, e = .returned r ∧ SidesIn w' base R bc bn (N ++ [n]) (putV V n.side v') ∧ Turn (fun k => k = bn ∨ (V n.side).ownBlock = some k) w w' ∧ ∀ k, v'.ownBlock = some k → (V n.side).ownBlock = some k ∨ w.heap.size ≤ k := by
  have hd0 := (CellsAt.new w 32 (encF n.id)).alloc (.cells (sideC n.side).toArray 56)
  have hk0 := CellsAt.new (w.alloc (.cells (encF n.id).toArray 32)) 56 (sideC n.side)
  rw [World.size_alloc] at hk0
  have hB : Below w.heap.size w ((w.alloc (.cells (encF n.id).toArray 32)).alloc (.cells (sideC n.side).toArray 56)) := ((Below.refl _ _).alloc (Nat.le_refl _) _).alloc (by simp) _
  have HLOOK : Veil (∀ wx, MapG Try.prog 56 encS okS wx bn N.length (sideM N V) → (Instr.lookup 49 (.map (some bn)) (.agg (sideC n.side).toArray) false).run Try.prog wx = .ok (V n.side) wx) := ⟨fun wx h => by
    have := h.get keyEncS Try.underlying49 (z := .slice none 0 0) (by kernel_rfl) n.side hs
    rw [sideM_getD hT n.side hs] at this
    exact this⟩
  have HEND : Veil (∀ W1 W2 W3 v', Below w.heap.size w W1 → InsP base (V n.side) W1 ((insD (kids N n.side) n.id).map encF) v' W2 → MapG Try.prog 56 encS okS W3 bn (N.length + 1) (putG (sideM N V) n.side v') → W2.grownBy W3 (some bn) → SidesIn W3 base R bc bn (N ++ [n]) (putV V n.side v') ∧ Turn (fun k => k = bn ∨ (V n.side).ownBlock = some k) w W3 ∧ ∀ k, v'.ownBlock = some k → (V n.side).ownBlock = some k ∨ w.heap.size ≤ k) := ⟨fun W1 W2 W3 v' h1 h2 h3 h4 => hT.step n hs hbc h1 v' h2 h3 h4⟩
  have hkl := kids_few N n.side
  have hOw := hT.sides.own n.side hs
  have HFAR := Veil.mk (hT.sides.far n.side hs)
  obtain ⟨sx, sc, hsl⟩ := hOw.isSlice
  rw [List.length_map] at hsl
  obtain ⟨sn, hsn⟩ : ∃ q, (kids N n.side).length = q := ⟨_, rfl⟩
  rw [hsn] at hsl hkl
  rw [hsl] at HLOOK hOw HFAR
  have HSL := Veil.mk hsl
  have HBS : Veil (∀ W, Below w.heap.size w W → Calls Try.prog 31 #[.slice sx sn sc, .agg (encF n.id).toArray, .func (.func 32) #[] #[]] W fun e w' => ∃ v, e = .returned v ∧ BsR (kids N n.side) n.id v ∧ Below W.heap.size W w') := ⟨fun W hb => bsD_any base sx sn sc (kids N n.side) n.id W (hOw.far hb) ((kids_order hnd n.side).mono n.id) (by omega)⟩
  have HIN : Veil (∀ W gv, Below w.heap.size w W → CellsAt W gv 32 (encF n.id) → w.heap.size ≤ gv → Calls Try.prog 33 #[.slice sx sn sc, .int .i64 (posD (kids N n.side) n.id : Nat), .slice (some ⟨gv, 0, none⟩) 1 1] W fun e w' => ∃ v', e = .returned v' ∧ InsP base (V n.side) W ((insD (kids N n.side) n.id).map encF) v' w') := ⟨fun W gv hb hc hgv => by
    have := insD_any base sx sn sc (posD (kids N n.side) n.id) ((kids N n.side).map encF) (encF n.id) gv W (hOw.far hb) (by have := posD_le (kids N n.side) n.id; omega) (fun e he u hu => by obtain ⟨y, _, rfl⟩ := List.mem_map.1 he; exact encF_one y u hu) rfl (encF_one n.id) hc (fun e => by have := (hOw.blockLt gv e).1; omega) (by have := hb.size; omega) (by omega)
    rw [map_insD] at this
    rw [HSL.out]
    exact this⟩
  have HPL : Veil (posD (kids N n.side) n.id ≤ sn) := ⟨by rw [← hsn]; exact posD_le _ _⟩
  have HLN := Veil.mk hlen
  have HSD := Veil.mk hs
  have HTT := Veil.mk hT
  have hcR : ∀ W, Below w.heap.size w W → W.cell? ⟨R, 1, none⟩ = some (.map (some bn)) := fun W hb => (hT.box.congr (hb.block R hT.box.lt)).cell 1
  have HCR := Veil.mk hcR
  clear hcR hT hsl hsn hkl hOw hlen hs hnd
  have uD := Try.underlying32
  have iD : (Try.prog.info? 32).map (·.size) = some (encF n.id).length := sizeDot
  have uS := Try.underlying56
  have iS : (Try.prog.info? 56).map (·.size) = some (sideC n.side).length := by rw [sideC_len]; kernel_rfl
  have uL := Try.underlying57
  have hD2 : (encF n.id).length = 2 := rfl
  obtain ⟨ES, hES⟩ : ∃ q, sideC n.side = q := ⟨_, rfl⟩
  have HES : Veil (encS n.side = .agg ES.toArray) := ⟨by unfold encS; rw [hES]⟩
  rw [hES] at hd0 hk0 hB HLOOK iS ⊢
  obtain ⟨DX, hDX⟩ : ∃ q, encF n.id = q := ⟨_, rfl⟩
  rw [hDX] at hd0 hk0 hB HBS HIN iD hD2 ⊢
  clear hES hDX
  go_enter Try.func22, Try.ntmps22
  go_upto_region 1 with fail
  refine forget (p := fun y => Code.wp _ _ _ _ y) (fun W => Below w.heap.size w W ∧ CellsAt W w.heap.size 32 DX ∧ CellsAt W (w.heap.size + 1) 56 ES) ⟨hB, hd0, hk0⟩ ?_
  clear hB hd0 hk0
  rintro W ⟨hB, hd, hk⟩
  refine wp_region_gateT (fun w' => w'.cell? ⟨R, 1, none⟩ = some (.map (some bn)) ∧ w'.rangeAt (w.heap.size + 1) 0 ES ∧ MapG Try.prog 56 encS okS w' bn N.length (sideM N V)) (fun _ => True) 99 (by kernel_rfl) ?_
  have hT : (fun w' : World => w'.cell? ⟨R, 1, none⟩ = some (.map (some bn)) ∧ w'.rangeAt (w.heap.size + 1) 0 ES ∧ MapG Try.prog 56 encS okS w' bn N.length (sideM N V)) W.drew := ⟨HCR.out _ hB.drew, (hk.congr (w' := W.drew) rfl).wholeM, (HTT.out.far hB.drew).nodes⟩
  have hS : (fun _ : World => True) W.drew := trivial
  refine wpAnyT_held (i := 0) (v := ?_) rfl (by kernel_rfl) (by kernel_rfl) (by kernel_rfl) (fun _ _ _ h => h) (by kernel_rfl) hT (fun _ => hS) (by kernel_rfl) ?_ ?_
  rotate_left
  · intro wx hSw; go_split_ands; go_simp; try with_reducible rfl
  simp only [Act.put, List.getElem_toArray, List.getElem_cons_succ, List.getElem_cons_zero, List.setIfInBounds_toArray, List.set_cons_zero, List.set_cons_succ]
  refine wpAnyT_held (i := 1) (v := ?_) rfl (by kernel_rfl) (by kernel_rfl) (by kernel_rfl) (fun _ _ _ h => h) (by kernel_rfl) hT (fun _ => hS) (by kernel_rfl) ?_ ?_
  rotate_left
  · intro wx hSw; go_split_ands; go_simp; try with_reducible rfl
  simp only [Act.put, List.getElem_toArray, List.getElem_cons_succ, List.getElem_cons_zero, List.setIfInBounds_toArray, List.set_cons_zero, List.set_cons_succ]
  refine wpAnyT_held (i := 2) (v := ?_) rfl (by kernel_rfl) (by kernel_rfl) (by kernel_rfl) (fun _ _ _ h => h) (by kernel_rfl) hT (fun _ => hS) (by kernel_rfl) ?_ ?_
  rotate_left
  · intro wx hSw; go_split_ands; go_simp; try with_reducible rfl
  simp only [Act.put, List.getElem_toArray, List.getElem_cons_succ, List.getElem_cons_zero, List.setIfInBounds_toArray, List.set_cons_zero, List.set_cons_succ]
  refine wpAnyT_held (i := 3) (v := ?_) rfl (by kernel_rfl) (by kernel_rfl) (by kernel_rfl) (fun _ _ _ h => h) (by kernel_rfl) hT (fun _ => hS) (by kernel_rfl) ?_ ?_
  rotate_left
  · intro wx hSw; go_split_ands; go_simp; try with_reducible rfl
  simp only [Act.put, List.getElem_toArray, List.getElem_cons_succ, List.getElem_cons_zero, List.setIfInBounds_toArray, List.set_cons_zero, List.set_cons_succ]
  refine wpAnyT_load (i := 4) (dst := some 13) (ty := 56) (x := .tmp 5) (b := (w.heap.size + 1)) (o := (0)) (cs := ES) (by kernel_rfl) (by kernel_rfl) (by kernel_rfl) (by kernel_rfl) (by kernel_rfl) (fun _ _ _ h => h) (by kernel_rfl) hT (fun _ => hS) (by kernel_rfl) (fun _ h => h.2.1) uS rfl iS ?_
  simp only [Act.put, List.getElem_toArray, List.getElem_cons_succ, List.getElem_cons_zero, List.setIfInBounds_toArray, List.set_cons_zero, List.set_cons_succ]
  refine wpAnyT_held (i := 5) (v := .slice sx sn sc) rfl (by kernel_rfl) (by kernel_rfl) (by kernel_rfl) (fun _ _ _ h => h) (by kernel_rfl) hT (fun _ => hS) (by kernel_rfl) (fun wx h => exec_lookF rfl rfl rfl (HLOOK.out wx h.2.2)) ?_
  simp only [Act.put, List.getElem_toArray, List.getElem_cons_succ, List.getElem_cons_zero, List.setIfInBounds_toArray, List.set_cons_zero, List.set_cons_succ]
  refine wpAnyT_held (i := 6) (v := ?_) rfl (by kernel_rfl) (by kernel_rfl) (by kernel_rfl) (fun _ _ _ h => h) (by kernel_rfl) hT (fun _ => hS) (by kernel_rfl) ?_ ?_
  rotate_left
  · intro wx hSw; go_split_ands; go_simp; try with_reducible rfl
  simp only [Act.put, List.getElem_toArray, List.getElem_cons_succ, List.getElem_cons_zero, List.setIfInBounds_toArray, List.set_cons_zero, List.set_cons_succ]
  refine wpAnyT_done (by kernel_rfl) ?_ _
  clear hT hS
  refine forget (p := fun y => Exit.then _ _ _ _ y) (fun W => Below w.heap.size w W ∧ CellsAt W w.heap.size 32 DX ∧ CellsAt W (w.heap.size + 1) 56 ES) ⟨hB.drew, hd.congr rfl, hk.congr rfl⟩ ?_
  clear hB hd hk W
  rintro W ⟨hB, hd, hk⟩
  have hr := hd.wholeM
  have hbs := HBS.out W hB
  have HBB : Veil (∀ V1, Below W.heap.size W V1 → Below w.heap.size w V1 ∧ CellsAt V1 w.heap.size 32 DX ∧ CellsAt V1 (w.heap.size + 1) 56 ES) := ⟨fun V1 hb => ⟨hB.trans (hb.mono hB.size), hd.farM hb, hk.farM hb⟩⟩
  clear hB hd hk
  go_wp2_with (first
    | (refine wpList_ldv rfl 32 _ rfl w.heap.size 0 rfl DX hr uD rfl iD ?_)
    | (go_at_call 31; refine hbs.mono ?_; rintro z W1 ⟨v, rfl, ⟨fnd, rfl⟩, hb1⟩))
  obtain ⟨hB, hd, hk⟩ := HBB.out W1 hb1
  clear hb1 hbs hr HBB
  obtain ⟨ps, hps⟩ : ∃ q, posD (kids N n.side) n.id = q := ⟨_, rfl⟩
  rw [hps] at HIN ⊢
  clear hps
  refine wp_region_gate (fun w' => w'.cell? ⟨R, 1, none⟩ = some (.map (some bn)) ∧ w'.rangeAt (w.heap.size + 1) 0 ES ∧ w'.rangeAt w.heap.size 0 DX) 10 (by kernel_rfl) ?_
  have HS : ∀ W', W'.cell? ⟨R, 1, none⟩ = some (.map (some bn)) → CellsAt W' w.heap.size 32 DX → CellsAt W' (w.heap.size + 1) 56 ES → (fun w' : World => w'.cell? ⟨R, 1, none⟩ = some (.map (some bn)) ∧ w'.rangeAt (w.heap.size + 1) 0 ES ∧ w'.rangeAt w.heap.size 0 DX) W' := fun W' h0 h1 h2 => ⟨h0, h2.wholeM, h1.wholeM⟩
  have hS := HS W1.drew (HCR.out _ hB.drew) (hd.congr rfl) (hk.congr rfl)
  refine wpAnyG_any (i := 0) (v := ?_) rfl (by kernel_rfl) (by kernel_rfl) (by kernel_rfl) (fun _ _ _ h => h) (by kernel_rfl) (fun _ => hS) (by kernel_rfl) ?_ ?_
  rotate_left
  · intro _; go_simp; try with_reducible rfl
  simp only [Act.put, List.getElem_toArray, List.getElem_cons_succ, List.getElem_cons_zero, List.setIfInBounds_toArray, List.set_cons_zero, List.set_cons_succ]
  refine wpAnyG_any (i := 1) (v := ?_) rfl (by kernel_rfl) (by kernel_rfl) (by kernel_rfl) (fun _ _ _ h => h) (by kernel_rfl) (fun _ => hS) (by kernel_rfl) ?_ ?_
  rotate_left
  · intro _; go_simp; try with_reducible rfl
  simp only [Act.put, List.getElem_toArray, List.getElem_cons_succ, List.getElem_cons_zero, List.setIfInBounds_toArray, List.set_cons_zero, List.set_cons_succ]
  refine wpAnyG_any (i := 2) (v := ?_) rfl (by kernel_rfl) (by kernel_rfl) (by kernel_rfl) (fun _ _ _ h => h) (by kernel_rfl) (fun _ => hS) (by kernel_rfl) ?_ ?_
  rotate_left
  · intro _; go_simp; try with_reducible rfl
  simp only [Act.put, List.getElem_toArray, List.getElem_cons_succ, List.getElem_cons_zero, List.setIfInBounds_toArray, List.set_cons_zero, List.set_cons_succ]
  refine wpAnyG_read (i := 3) (v := ?_) rfl (by kernel_rfl) (by kernel_rfl) (by kernel_rfl) (fun _ _ _ h => h) (by kernel_rfl) (by kernel_rfl) (by kernel_rfl) hS (by kernel_rfl) ?_ ?_
  rotate_left
  · intro wx hSw; go_split_ands; go_simp; try with_reducible rfl
  simp only [Act.put, List.getElem_toArray, List.getElem_cons_succ, List.getElem_cons_zero, List.setIfInBounds_toArray, List.set_cons_zero, List.set_cons_succ]
  refine wpAnyG_load (i := 4) (dst := some 25) (ty := 56) (x := .tmp 5) (b := (w.heap.size + 1)) (o := (0)) (cs := ES) (by kernel_rfl) (by kernel_rfl) (by kernel_rfl) (by kernel_rfl) (by kernel_rfl) (fun _ _ _ h => h) (by kernel_rfl) (by kernel_rfl) (by kernel_rfl) hS (by kernel_rfl) (fun _ h => h.2.1) uS rfl iS ?_
  simp only [Act.put, List.getElem_toArray, List.getElem_cons_succ, List.getElem_cons_zero, List.setIfInBounds_toArray, List.set_cons_zero, List.set_cons_succ]
  refine wpAnyG_any (i := 5) (v := ?_) rfl (by kernel_rfl) (by kernel_rfl) (by kernel_rfl) (fun _ _ _ h => h) (by kernel_rfl) (fun _ => hS) (by kernel_rfl) ?_ ?_
  rotate_left
  · intro _; go_simp; try with_reducible rfl
  simp only [Act.put, List.getElem_toArray, List.getElem_cons_succ, List.getElem_cons_zero, List.setIfInBounds_toArray, List.set_cons_zero, List.set_cons_succ]
  refine wpAnyG_any (i := 6) (v := ?_) rfl (by kernel_rfl) (by kernel_rfl) (by kernel_rfl) (fun _ _ _ h => h) (by kernel_rfl) (fun _ => hS) (by kernel_rfl) ?_ ?_
  rotate_left
  · intro _; go_simp; try with_reducible rfl
  simp only [Act.put, List.getElem_toArray, List.getElem_cons_succ, List.getElem_cons_zero, List.setIfInBounds_toArray, List.set_cons_zero, List.set_cons_succ]
  refine wpAnyG_load (i := 7) (dst := some 28) (ty := 32) (x := .tmp 4) (b := w.heap.size) (o := (0)) (cs := DX) (by kernel_rfl) (by kernel_rfl) (by kernel_rfl) (by kernel_rfl) (by kernel_rfl) (fun _ _ _ h => h) (by kernel_rfl) (by kernel_rfl) (by kernel_rfl) hS (by kernel_rfl) (fun _ h => h.2.2) uD rfl iD ?_
  simp only [Act.put, List.getElem_toArray, List.getElem_cons_succ, List.getElem_cons_zero, List.setIfInBounds_toArray, List.set_cons_zero, List.set_cons_succ]
  refine wpAnyG_one (i := 8) rfl (by kernel_rfl) (by kernel_rfl) (fun K hK => ?_)
  refine wp_bs1 57 32 _ rfl DX rfl uL infoD2 (by decide) (by decide) hD2 ?_
  have hc8 := CellsAt.new W1.drew 32 DX
  have hb8 : Below W1.heap.size W1 (W1.drew.alloc (.cells DX.toArray 32)) := ((Below.refl _ _).drew).alloc (Nat.le_refl _) _
  have hB8 := hB.trans (hb8.mono hB.size)
  have hin := HIN.out _ W1.drew.heap.size hB8 hc8 hB.drew.size
  replace hS := HS _ (HCR.out _ hB8) (hd.farM hb8) (hk.farM hb8)
  have hd8 := hd.farM hb8
  have hk8 := hk.farM hb8
  clear hc8
  generalize W1.drew.alloc (.cells DX.toArray 32) = W2 at hb8 hB8 hin hS hd8 hk8 ⊢
  obtain ⟨gq, hgq⟩ : ∃ q, W1.drew.heap.size = q := ⟨_, rfl⟩
  rw [hgq] at hin ⊢
  clear hgq hd hk hB hb8
  refine hK.out _ _ (fun _ => hS) ?_
  clear hK K
  try simp only [Act.put, List.getElem_toArray, List.getElem_cons_succ, List.getElem_cons_zero, List.setIfInBounds_toArray, List.set_cons_zero, List.set_cons_succ]
  refine wpAnyG_one (i := 9) rfl (by kernel_rfl) (by kernel_rfl) (fun K hK => ?_)
  refine wpx_call _ _ (by kernel_rfl) (hin.mono ?_)
  rintro z W3 ⟨v', rfl, hI⟩
  refine ⟨_, rfl, ?_⟩
  have HI := Veil.mk hI
  have hfar := HFAR.out
  rw [← HSL.out] at hfar
  have hRl := HTT.out.box.lt
  have hnl := HTT.out.nodes.lt
  have hz8 := hB8.size
  have hvl : ∀ k, (V n.side).ownBlock = some k → k < w.heap.size := fun k hk => ((HTT.out.sides.own n.side HSD.out).blockLt k hk).1
  have hbR : W3.heap[R]? = w.heap[R]? := (hI.grown.block R (by omega) (fun e => hfar.1 e.symm)).trans (hB8.block R hRl)
  have hbn3 : W3.heap[bn]? = w.heap[bn]? := (hI.grown.block bn (by omega) (fun e => hfar.2.2 e.symm)).trans (hB8.block bn hnl)
  have hd9 := hd8.congr (hI.grown.block w.heap.size hd8.lt (fun e => by have := hvl _ e.symm; omega))
  have hk9 := hk8.congr (hI.grown.block (w.heap.size + 1) hk8.lt (fun e => by have := hvl _ e.symm; omega))
  replace hS := HS W3 ((HTT.out.box.congr hbR).cell 1) hd9 hk9
  obtain ⟨W4, hrun, hM4, hg4⟩ := (HTT.out.nodes.congr hbn3).store keyEncS Try.underlying49 (by have := HLN.out; simp [maxLen]; omega) n.side HSD.out v'
  rw [HES.out] at hrun
  have HFIN := Veil.mk (HEND.out W2 W3 W4 v' hB8 HI.out hM4 hg4)
  clear hI hbR hbn3 hd9 hk9 hM4 hg4 hin hd8 hk8 hvl hz8 hfar
  refine hK.out _ _ (fun _ => hS) ?_
  clear hK K
  try simp only [Act.put, List.getElem_toArray, List.getElem_cons_succ, List.getElem_cons_zero, List.setIfInBounds_toArray, List.set_cons_zero, List.set_cons_succ]
  refine wpAnyG_one (i := 10) rfl (by kernel_rfl) (by kernel_rfl) (fun K hK => ?_)
  refine wpx_upd _ _ _ _ rfl _ _ _ W4 rfl rfl rfl hrun ?_
  refine hK.out _ _ (fun h => absurd (show true = false from h) (by decide)) ?_
  clear hK K
  try simp only [Act.put, List.getElem_toArray, List.getElem_cons_succ, List.getElem_cons_zero, List.setIfInBounds_toArray, List.set_cons_zero, List.set_cons_succ]
  refine wpAnyG_done (by kernel_rfl) ?_ _
  clear hS HS hrun
  go_wp2
  go_end0
  exact ⟨v', _, rfl, HFIN.out⟩
end Go.Proofs.Ytnmjplngbleopaa
