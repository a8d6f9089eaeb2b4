/- Frg Fq Flv -/
import Derived.Test.YtfainlfiphdaeaaGreatDoorT46
import Derived.Test.YtfainlfiphdaeaaGreatDoorT33
import Derived.Test.YtfainlfiphdaeaaGreatDoorT41
namespace Go.Proofs.YtfainlfiphdaeaaGreatDoor
open Go.RowKit
set_option maxRecDepth 20000
set_option linter.unusedSimpArgs false
def ringM (own : Int) (seed : List Int) (ea es : Int) : Int → Int → Option (List Int) := if es % 2 = 0 ∧ newM own seed ea es = none then putK (newM own seed) ea es seed else newM own seed
def ringE (own : Int) (seed : List Int) (ea es : Int) : List Ep := if es % 2 = 0 then addE (rnewL own seed) ea es seed else rnewL own seed
structure Rings (w w' : World) (H O : Nat) (own : Int) (seed : List Int) (ea es : Int) (b : Nat) (v : Value) (L : List (Int × Int)) (vo : Value) : Prop where
  ring : RingAt w' w.heap.size H own seed b (ringM own seed ea es) v L
  rring : RRing w' w.heap.size O own seed vo (ringE own seed ea es)
  below : Below w.heap.size w w'
theorem RingAt.lessB {w : World} {base base' H : Nat} {own : Int} {seed : List Int} {b : Nat} {M : Int → Int → Option (List Int)} {v : Value} {L : List (Int × Int)} (h : RingAt w base H own seed b M v L) (hb : base' ≤ base) : RingAt w base' H own seed b M v L :=
  ⟨h.box, h.map, ⟨h.added.1, by
    rcases h.added.2 with q | ⟨g, cap, cur, h1, h2, h3⟩
    · exact .inl q
    · exact .inr ⟨g, cap, cur, h1, by omega, h3⟩⟩, h.seed32, h.is32, h.lenL, by have := h.baseH; omega, by have := h.baseB; omega⟩
theorem RRing.lessB {w : World} {base base' O : Nat} {own : Int} {seed : List Int} {v : Value} {L : List Ep} (h : RRing w base O own seed v L) (hb : base' ≤ base) : RRing w base' O own seed v L := ⟨h.box, h.own.less hb, h.seed32, h.k32, h.lenL, by have := h.baseO; omega⟩
set_option maxHeartbeats 8000000 in
theorem rings_any (m : Nat) (hm : m ≤ 255) (seed : List Int) (hs : seed.length = 32) (ea es : Int) (ho : okD ea es) (w : World) (hKT : S.KTab w) :
    Calls Tryz.prog 16 #[.int .u8 (m : Int), .agg (row .u8 seed), .agg (dotC ea es).toArray] w fun e w' => ∃ H O b v L vo, e = .returned (.tuple #[.pointer (some ⟨H, 0, none⟩), .pointer (some ⟨O, 0, none⟩)]) ∧ Rings w w' H O ((m % 8 : Nat) : Int) seed ea es b v L vo := by
  have hS := CellsAt.new w 23 (seed.map (Value.int .u8))
  have hS0 := hS.alloc (.cells (dotC ea es).toArray 26)
  have hD0 := CellsAt.new (w.alloc (.cells (row .u8 seed) 23)) 26 (dotC ea es)
  rw [World.size_alloc] at hD0
  have hb0 : Below w.heap.size w ((w.alloc (.cells (row .u8 seed) 23)).alloc (.cells (dotC ea es).toArray 26)) := ((Below.refl _ _).alloc (Nat.le_refl _) _).alloc (by simp) _
  obtain ⟨o, hoe⟩ : ∃ q : Nat, m % 8 = q := ⟨_, rfl⟩
  have ho8 : (o : Int) < 8 := by omega
  have hrem : (m : Int).tmod 8 = (o : Int) := by rw [Int.tmod_eq_emod_of_nonneg (by omega), ← hoe]; rfl
  have hm0 : (0 : Int) ≤ (m : Int) := by omega
  have hm5 : (m : Int) ≤ 255 := by omega
  rw [hoe]
  clear hoe
  have HKT : Veil (∀ W, Below w.heap.size w W → S.KTab W) := ⟨fun W hb => hKT.below hb⟩
  have HN : Veil (∀ W, Below w.heap.size w W → Calls Tryz.prog 27 #[.int .u8 (o : Int), .agg (row .u8 seed)] W fun e w' => ∃ H b v, e = .returned (.pointer (some ⟨H, 0, none⟩)) ∧ RingAt w' W.heap.size H (o : Int) seed b (newM (o : Int) seed) v (newD (o : Int)) ∧ Below W.heap.size W w') := ⟨fun W hb => new_any (o : Int) seed W ho8 hs (HKT.out W hb)⟩
  have HRN : Veil (∀ W, Calls Tryz.prog 39 #[.int .u8 (o : Int), .agg (row .u8 seed)] W fun e w' => ∃ O v, e = .returned (.pointer (some ⟨O, 0, none⟩)) ∧ RRing w' W.heap.size O (o : Int) seed v (rnewL (o : Int) seed) ∧ Below W.heap.size W w') := ⟨fun W => by
    refine (rnew_any (o : Int) seed W ho8 hs).mono ?_
    rintro e w' ⟨O, v, he, hx, hE, hO, hb⟩
    refine ⟨O, v, he, RRing.ofNew hx hE hs (fun e he => ?_) ?_ hO, hb⟩
    · unfold rnewL at he
      split at he
      · rw [List.mem_singleton.1 he]; exact derL_length _ _
      · cases he
    · unfold rnewL; split <;> simp⟩
  have iS : (Tryz.prog.info? 23).map (·.size) = some (seed.map (Value.int .u8)).length := by rw [List.length_map, hs]; exact sizeKeyD
  have iD : (Tryz.prog.info? 26).map (·.size) = some (dotC ea es).length := sizeDot
  have uK := Tryz.underlying23
  have uD := Tryz.underlying26
  clear hKT hS
  go_enter Tryz.func16, Tryz.ntmps16
  go_upto_region 1 with fail
  refine wp_region_gateT (fun w' => w'.rangeAt w.heap.size 0 (seed.map (Value.int .u8))) (fun _ => True) 99 (by kernel_rfl) ?_
  refine forget (p := fun y => wpAnyT _ _ _ _ _ _ _ _ _ _ y) (fun V => Below w.heap.size w V ∧ CellsAt V w.heap.size 23 (seed.map (Value.int .u8)) ∧ CellsAt V (w.heap.size + 1) 26 (dotC ea es)) ⟨hb0.drew, hS0.congr rfl, hD0.congr rfl⟩ ?_
  clear hb0 hS0 hD0
  rintro V ⟨hb, hSd, hDd⟩
  have hT : (fun w' : World => w'.rangeAt w.heap.size 0 (seed.map (Value.int .u8))) V := hSd.wholeM
  have hS := trivial
  refine wpAnyT_held (i := 0) (v := ?_) rfl (by kernel_rfl) (by kernel_rfl) (by kernel_rfl) (fun _ _ _ h => h) (by kernel_rfl) hT (fun _ => hS) (by kernel_rfl) ?_ ?_
  rotate_left
  · intro wx hSw; go_split_ands; go_simp; try with_reducible rfl
  simp only [Act.put, gA, gS, gZ, sI, sZ, sS]
  refine wpAnyT_held (i := 1) (v := ?_) rfl (by kernel_rfl) (by kernel_rfl) (by kernel_rfl) (fun _ _ _ h => h) (by kernel_rfl) hT (fun _ => hS) (by kernel_rfl) ?_ ?_
  rotate_left
  · intro wx hSw; go_split_ands; go_simp; try with_reducible rfl
  simp only [Act.put, gA, gS, gZ, sI, sZ, sS]
  refine wpAnyT_held (i := 4) (v := ?_) rfl (by kernel_rfl) (by kernel_rfl) (by kernel_rfl) (fun _ _ _ h => h) (by kernel_rfl) hT (fun _ => hS) (by kernel_rfl) ?_ ?_
  rotate_left
  · intro wx hSw; go_split_ands; go_simp; try with_reducible rfl
  simp only [Act.put, gA, gS, gZ, sI, sZ, sS]
  refine wpAnyT_held (i := 5) (v := ?_) rfl (by kernel_rfl) (by kernel_rfl) (by kernel_rfl) (fun _ _ _ h => h) (by kernel_rfl) hT (fun _ => hS) (by kernel_rfl) ?_ ?_
  rotate_left
  · intro wx hSw; go_split_ands; go_simp; try with_reducible rfl
  simp only [Act.put, gA, gS, gZ, sI, sZ, sS]
  refine wpAnyT_load (i := 2) (dst := some 12) (ty := 23) (x := .tmp 4) (b := w.heap.size) (o := (0)) (cs := (seed.map (Value.int .u8))) (by kernel_rfl) (by kernel_rfl) (by kernel_rfl) (by kernel_rfl) (by kernel_rfl) (fun _ _ _ h => h) (by kernel_rfl) hT (fun _ => hS) (by kernel_rfl) (fun _ h => h) uK rfl iS ?_
  simp only [Act.put, gA, gS, gZ, sI, sZ, sS]
  refine wpAnyT_load (i := 6) (dst := some 16) (ty := 23) (x := .tmp 4) (b := w.heap.size) (o := (0)) (cs := (seed.map (Value.int .u8))) (by kernel_rfl) (by kernel_rfl) (by kernel_rfl) (by kernel_rfl) (by kernel_rfl) (fun _ _ _ h => h) (by kernel_rfl) hT (fun _ => hS) (by kernel_rfl) (fun _ h => h) uK rfl iS ?_
  simp only [Act.put, gA, gS, gZ, sI, sZ, sS]
  refine wpAnyT_one (i := 3) rfl (by kernel_rfl) (by kernel_rfl) (fun K hK => ?_)
  refine wpx_call _ _ (by kernel_rfl) ((HN.out V hb).mono ?_)
  rintro e w1 ⟨H, b, v, rfl, hR1, hb1⟩
  refine ⟨_, rfl, ?_⟩
  have hS1 := hSd.farM hb1
  have hB1 := hb.trans (hb1.mono hb.size)
  replace hT : (fun w' : World => w'.rangeAt w.heap.size 0 (seed.map (Value.int .u8))) w1 := hS1.wholeM
  refine hK.out _ _ hT (fun _ => hS) ?_
  clear hK K
  try simp only [Act.put, gA, gS, gZ, sI, sZ, sS]
  refine wpAnyT_one (i := 7) rfl (by kernel_rfl) (by kernel_rfl) (fun K hK => ?_)
  refine wpx_call _ _ (by kernel_rfl) ((HRN.out w1).mono ?_)
  rintro e w2 ⟨O, vo, rfl, hO2, hb2⟩
  refine ⟨_, rfl, ?_⟩
  have hS2 := hS1.farM hb2
  have hD2 := (hDd.farM hb1).farM hb2
  have hB2 := hB1.trans (hb2.mono hB1.size)
  replace hT : (fun w' : World => w'.rangeAt w.heap.size 0 (seed.map (Value.int .u8))) w2 := hS2.wholeM
  refine hK.out _ _ hT (fun _ => hS) ?_
  clear hK K
  try simp only [Act.put, gA, gS, gZ, sI, sZ, sS]
  refine wpAnyT_held (i := 8) (v := ?_) rfl (by kernel_rfl) (by kernel_rfl) (by kernel_rfl) (fun _ _ _ h => h) (by kernel_rfl) hT (fun _ => hS) (by kernel_rfl) ?_ ?_
  rotate_left
  · intro wx hSw; go_split_ands; go_simp; try with_reducible rfl
  simp only [Act.put, gA, gS, gZ, sI, sZ, sS]
  refine wpAnyT_held (i := 9) (v := ?_) rfl (by kernel_rfl) (by kernel_rfl) (by kernel_rfl) (fun _ _ _ h => h) (by kernel_rfl) hT (fun _ => hS) (by kernel_rfl) ?_ ?_
  rotate_left
  · intro wx hSw; go_split_ands; go_simp; try with_reducible rfl
  simp only [Act.put, gA, gS, gZ, sI, sZ, sS]
  refine wpAnyT_done (by kernel_rfl) ?_ _
  have HSEP : Veil (∀ g, ringP H b v g → ¬ rrB O vo g) := ⟨fun g h1 h2 => by
    have q1 := (hR1.inside g h1).1
    have q2 := (hO2.inside g h2).2
    omega⟩
  refine forget (p := fun y => Exit.then _ _ _ _ y) (fun W => Below w.heap.size w W ∧ CellsAt W w.heap.size 23 (seed.map (Value.int .u8)) ∧ CellsAt W (w.heap.size + 1) 26 (dotC ea es) ∧ RingAt W V.heap.size H (o : Int) seed b (newM (o : Int) seed) v (newD (o : Int)) ∧ RRing W w1.heap.size O (o : Int) seed vo (rnewL (o : Int) seed)) ⟨hB2, hS2, hD2, hR1.far hb2, hO2⟩ ?_
  have hV2 : w.heap.size + 2 ≤ V.heap.size := hDd.lt
  have h1V := hb1.size
  clear hT hS hB2 hS2 hD2 hb2 hO2 hS1 hB1 hb1 hR1 hb hSd hDd HRN HN
  obtain ⟨s1, hs1⟩ : ∃ q, V.heap.size = q := ⟨_, rfl⟩
  obtain ⟨s2, hs2⟩ : ∃ q, w1.heap.size = q := ⟨_, rfl⟩
  rw [hs1, hs2] at h1V
  rw [hs1] at hV2
  rw [hs1, hs2]
  clear hs1 hs2
  clear w2 w1 V
  rintro W ⟨hb, hSd, hDd, hR, hO⟩
  have c1 : W.cell? ⟨w.heap.size + 1, 1, none⟩ = some (.int .u32 es) := hDd.cell 1
  have hes0 := ho.2.1
  have HR := Veil.mk hR
  have HO := Veil.mk hO
  clear hR hO
  obtain ⟨rr, hrr⟩ : ∃ q, es.tmod 2 = q := ⟨_, rfl⟩
  by_cases h2 : es % 2 = 0
  rotate_left
  · have hrm : (rr == 0) = false := by rw [← hrr, Int.tmod_eq_emod_of_nonneg hes0]; simpa using h2
    have HM : Veil (ringM (o : Int) seed ea es = newM (o : Int) seed ∧ ringE (o : Int) seed ea es = rnewL (o : Int) seed) := ⟨by unfold ringM; rw [if_neg (fun q => h2 q.1)], by unfold ringE; rw [if_neg h2]⟩
    clear h2
    go_wp2
    go_ret2
    exact ⟨_, _, b, v, _, vo, rfl, ⟨by rw [HM.out.1]; exact HR.out.lessB (by omega), by rw [HM.out.2]; exact HO.out.lessB (by omega), hb⟩⟩
  have hrm : (rr == 0) = true := by rw [← hrr, Int.tmod_eq_emod_of_nonneg hes0]; simpa using h2
  have rS := hSd.wholeM
  have rD := hDd.wholeM
  have HSP : Veil (∀ g, g < s1 → ¬ ringP H b v g ∧ ¬ rrB O vo g) := ⟨fun g hg => ⟨fun q => by have := (HR.out.inside g q).2; omega, fun q => by have := (HO.out.inside g q).2; omega⟩⟩
  have hAdd : Calls Tryz.prog 30 #[.pointer (some ⟨H, 0, none⟩), .agg (dotC ea es).toArray, .agg (seed.map (Value.int .u8)).toArray] W fun e w' => ∃ n v' L', e = .returned (.int .i64 n) ∧ RingAt w' s1 H (o : Int) seed b (ringM (o : Int) seed ea es) v' L' ∧ Turn (ringP H b v) W w' ∧ (∀ g, ringP H b v' g → ringP H b v g ∨ W.heap.size ≤ g) := by
    by_cases hk : ((newM (o : Int) seed) ea es).isSome = true
    · refine (add_known s1 H (o : Int) seed b (newM (o : Int) seed) v (newD (o : Int)) W ea es seed ho HR.out hk).mono ?_
      rintro e w' ⟨he, hb'⟩
      refine ⟨5, v, newD (o : Int), he, ?_, Turn.of_below hb', fun g hg => .inl hg⟩
      have : ringM (o : Int) seed ea es = newM (o : Int) seed := by
        unfold ringM
        rw [if_neg]
        rintro ⟨_, q⟩
        rw [q] at hk
        cases hk
      rw [this]
      exact HR.out.far hb'
    · have hkf : ((newM (o : Int) seed) ea es).isSome = false := by simpa using hk
      refine (add_ok s1 H (o : Int) seed b (newM (o : Int) seed) v (newD (o : Int)) W ea es seed ho hs HR.out hkf (by unfold newD; split <;> simp) (by have := hb.size; have := (HR.out.inside H (.inl rfl)); omega)).mono ?_
      rintro e w' ⟨he, v', hR', hT', hv'⟩
      refine ⟨0, v', newD (o : Int) ++ [(ea, es)], he, ?_, hT', fun g hg => ?_⟩
      · have : ringM (o : Int) seed ea es = putK (newM (o : Int) seed) ea es seed := by
          unfold ringM
          rw [if_pos ⟨h2, by simpa using hkf⟩]
        rw [this]
        exact hR'
      · rcases hg with q | q | q
        · exact .inl (.inl q)
        · exact .inl (.inr (.inl q))
        · rcases hv' with e | ⟨g', e, hge⟩
          · rw [e] at q; exact .inl (.inr (.inr q))
          · rw [e] at q; cases q; exact .inr hge
  have HME : Veil (ringE (o : Int) seed ea es = addE (rnewL (o : Int) seed) ea es seed) := ⟨by unfold ringE; rw [if_pos h2]⟩
  have HNX : Veil (∀ w3 v3 L3, RingAt w3 s1 H (o : Int) seed b (ringM (o : Int) seed ea es) v3 L3 → Turn (ringP H b v) W w3 → (∀ g, ringP H b v3 g → ringP H b v g ∨ W.heap.size ≤ g) → w3.rangeAt w.heap.size 0 (seed.map (Value.int .u8)) ∧ w3.rangeAt (w.heap.size + 1) 0 (dotC ea es) ∧ Calls Tryz.prog 40 #[.pointer (some ⟨O, 0, none⟩), .agg (dotC ea es).toArray, .agg (seed.map (Value.int .u8)).toArray] w3 fun e w' => ∃ n vo', e = .returned (.int .i64 n) ∧ Rings w w' H O (o : Int) seed ea es b v3 L3 vo') := ⟨fun w3 v3 L3 hR3 hT3 hv3 => by
    have hO3 : RRing w3 s2 O (o : Int) seed vo (rnewL (o : Int) seed) := HO.out.congr fun g hg => hT3.block g (HO.out.inside g hg).1 (fun q => HSEP.out g q hg)
    refine ⟨(hSd.congr (hT3.block _ hSd.lt (HSP.out _ (by omega)).1)).wholeM, (hDd.congr (hT3.block _ hDd.lt (HSP.out _ (by omega)).1)).wholeM, ?_⟩
    refine (rrAdd_any s2 O (o : Int) seed vo (rnewL (o : Int) seed) w3 ea es seed hs hO3 (by have := (hO3.inside O (.inl rfl)); omega)).mono ?_
    rintro e w4 ⟨n, vo', he, hto⟩
    have hW3 : Below w.heap.size w w3 := hb.trans (hT3.below hb.size (fun k hk => by have := (HR.out.inside k hk).2; omega))
    refine ⟨n, vo', he, ⟨?_, ?_, ?_⟩⟩
    · refine (hR3.turn hto.turn fun g hg hq => ?_).lessB (by omega)
      rcases hv3 g hg with q | q
      · exact HSEP.out g q hq
      · have := (HO.out.inside g hq).1
        omega
    · rw [HME.out]
      exact hto.at_.lessB (by omega)
    · exact hW3.trans (hto.turn.below hW3.size (fun k hk => by have := (hO3.inside k hk).2; omega))⟩
  clear h2
  go_upto_region 4 with (first
    | (refine wpList_ldv rfl 26 _ rfl _ _ rfl (dotC ea es) rD uD rfl iD ?_)
    | (refine wpList_ldv rfl 23 _ rfl _ _ rfl (seed.map (Value.int .u8)) rS uK rfl iS ?_)
    | (go_at_call 30; refine hAdd.mono ?_; rintro e w3 ⟨n3, v3, L3, rfl, hR3, hT3, hv3⟩; clear hAdd))
  obtain ⟨rS3, rD3, hra⟩ := HNX.out w3 v3 L3 hR3 hT3 hv3
  clear HNX hR3 hT3 hv3 rS rD hSd hDd hb c1
  go_wp2_with (first
    | (refine wpList_ldv rfl 26 _ rfl _ _ rfl (dotC ea es) rD3 uD rfl iD ?_)
    | (refine wpList_ldv rfl 23 _ rfl _ _ rfl (seed.map (Value.int .u8)) rS3 uK rfl iS ?_)
    | (go_at_call 40; refine hra.mono ?_; rintro e w4 ⟨n4, vo4, rfl, hrg⟩; clear hra))
  go_ret2
  exact ⟨_, _, b, v3, L3, vo4, rfl, hrg⟩
end Go.Proofs.YtfainlfiphdaeaaGreatDoor
namespace Go.Proofs.YtfainlfiphdaeaaGreatDoor
open Go.RowKit
set_option maxRecDepth 20000
set_option linter.unusedSimpArgs false
theorem padL_in9 (z : List Int) (s : Nat) (hz : ∀ v ∈ z, b8 v) : ∀ v ∈ padL z s, b8 v := by
  intro v hv
  unfold padL at hv
  rcases List.mem_append.1 hv with h | h
  · rcases List.mem_append.1 h with h | h
    · unfold be2 at h
      simp only [List.mem_cons, List.not_mem_nil, or_false] at h
      unfold b8
      rcases h with rfl | rfl <;> omega
    · exact hz v h
  · have := (List.mem_replicate.1 h).2
    subst this
    exact ⟨by omega, by omega⟩
theorem seal_zero {n : Int} {lw : Nat} {E : Ev} {own : Int} {m : Option (List Int)} (h : sealE n lw E own m = 0) : mayB n = true ∧ lw ≤ 64 ∧ rightB E = true ∧ E.da = own ∧ E.ds = n ∧ own < 8 ∧ m ≠ none := by
  unfold sealE at h
  split at h
  · rename_i h1
    split at h
    · rename_i h2
      split at h
      · rename_i h3
        simp only [Bool.and_eq_true, beq_iff_eq] at h2
        refine ⟨h1.1, h1.2, h2.1, h2.2.1, h2.2.2, h3, fun q => ?_⟩
        rw [q] at h
        exact absurd h (by decide)
      · omega
    · omega
  · omega
theorem seal_of {n : Int} {lw : Nat} {E : Ev} {own : Int} {k : List Int} (h1 : mayB n = true) (h2 : lw ≤ 64) (h3 : rightB E = true) (h4 : E.da = own) (h5 : E.ds = n) (h6 : own < 8) : sealE n lw E own (some k) = 0 := by
  unfold sealE
  rw [if_pos ⟨h1, h2⟩, if_pos (by rw [h3, h4, h5]; simp), if_pos h6]
theorem sealed_opens {seed : List Int} {n : Int} {lw : Nat} {E : Ev} {own : Int} {k : List Int} {F : Fr} {ws : List Wp} (hE : E.In) (h : sealE n lw E own (some k) = 0) (ha : F.author = own) (hn : F.number = n) (hm : F.mac = ftagL seed F ws (sbodyL k F ws E)) :
    checkE seed F lw ws 144 (sbodyL k F ws E) = 0 ∧ openK k F ws 144 (sbodyL k F ws E) = 0 ∧ openV k F 144 (sbodyL k F ws E) = E := by
  obtain ⟨h1, h2, h3, h4, h5, h6, -⟩ := seal_zero h
  have hel := eventL_length E hE.plen
  have hpl : (padL (eventL E) 128).length = 128 := padL_length _ _ (by rw [hel]; omega)
  have hPi : ∀ v ∈ padL (eventL E) 128, b8 v := padL_in9 _ _ (event_in E hE)
  have hP : openP k F 144 (sbodyL k F ws E) = padL (eventL E) 128 := by
    unfold openP sbodyL
    rw [show 144 - 16 = 128 from rfl, seal_take _ _ _ _ 128 hpl.symm]
    exact xor_twice _ _ _ _ hPi
  have hu := padL_ok (eventL E) 128 (by rw [hel]; omega) (by rw [hel]; omega) (by rw [hel]; decide)
  have hU : unpE (padL (eventL E) 128) = 0 ∧ unpB (padL (eventL E) 128) = eventL E := by
    unfold unpE unpB
    rw [if_pos hu.1, if_pos hu.1]
    exact ⟨rfl, hu.2⟩
  have he := event_back E hE
  have hR : revE (eventL E) = 0 ∧ revB (eventL E) = E := by
    unfold revE revB
    rw [if_pos he.1, if_pos he.1]
    exact ⟨rfl, he.2⟩
  have hV : openV k F 144 (sbodyL k F ws E) = E := by
    unfold openV
    rw [hP, hU.2, hR.2]
  refine ⟨?_, ?_, hV⟩
  · unfold checkE
    rw [ha, hn, if_pos ⟨h6, h1⟩, if_pos ⟨h2, by decide⟩, if_pos hm.symm]
  · unfold openK
    rw [if_neg (by decide), if_pos, hP, hU.1, if_pos rfl, hU.2, hR.1, if_pos rfl, hV, if_pos]
    · unfold fitsB
      rw [h3, ha, hn, h4, h5]; simp
    · unfold sbodyL
      rw [show 144 - 16 = 128 from rfl, seal_take _ _ _ _ 128 hpl.symm, seal_drop _ _ _ _ 128 hpl.symm]
theorem sbodyL_in {k : List Int} {F : Fr} {ws : List Wp} {E : Ev} (hF : F.In) (hi : ∀ e ∈ ws, e.In) (hw : ws.length ≤ 64) (hE : E.In) : ∀ v ∈ sbodyL k F ws E, isB v :=
  sealL_in _ _ _ _ (openL_in9 F ws hF hi hw) (padL_in9 _ _ (event_in E hE))
end Go.Proofs.YtfainlfiphdaeaaGreatDoor
namespace Go.Proofs.YtfainlfiphdaeaaGreatDoor
open Go.RowKit
set_option maxRecDepth 20000
set_option linter.unusedSimpArgs false
def evL : Ev := ⟨0, 1, [0, 0, 0, 0, 0, 0, 0, 0], 3, 0, 0, false, 0, 1, 1⟩
def seed1 : List Int := 1 :: List.replicate 31 0
theorem evL_in : evL.In := ⟨⟨by decide, by decide⟩, ⟨by decide, by decide⟩, rfl, fun x hx => by
  have : x ∈ ([0, 0, 0, 0, 0, 0, 0, 0] : List Int) := hx
  simp only [List.mem_cons, List.not_mem_nil, or_false, or_self] at this
  rw [this]; exact ⟨by decide, by decide⟩, ⟨by decide, by decide⟩, ⟨by decide, by decide⟩, ⟨by decide, by decide⟩, ⟨by decide, by decide⟩, ⟨by decide, by decide⟩, ⟨by decide, by decide⟩⟩
theorem wraps_nilL (W : World) : WrapsAt W none 0 0 [] := ⟨rfl, by omega, by omega, fun _ => rfl, by simp, .inl rfl⟩
set_option maxHeartbeats 16000000 in
theorem flive_any (w : World) (hKT : S.KTab w) (hBT : BTab w) :
    Calls Tryz.prog 19 #[] w fun e w' => e = .returned (.bool true) ∧ Below w.heap.size w w' := by
  obtain ⟨Z, hzv, hz1, hZ⟩ : ∃ Z : List Value, (∀ wx, (zeroValue 43).run Tryz.prog wx = .ok (.agg Z.toArray) wx) ∧ ¬ Z.toArray = #[] ∧ Z = frZ1.cells := ⟨frZ1.cells, fun wx => by kernel_rfl, by decide, rfl⟩
  have hZl : Z.length = 70 := by rw [hZ]; rfl
  clear hZ
  have hnew := new_any 0 seed1 w (by decide) rfl hKT
  have HB1 : Veil (∀ wx, (Instr.build 23 #[(0, .int .u8 1)]).run Tryz.prog wx = .ok (.agg (row .u8 seed1)) wx) := ⟨fun wx => run_build wx _ _ _ (by kernel_rfl)⟩
  have HB2 : Veil (∀ wx, (Instr.build 23 #[]).run Tryz.prog wx = .ok (.agg (row .u8 (List.replicate 32 0))) wx) := ⟨fun wx => run_build wx _ _ _ (by kernel_rfl)⟩
  have HB3 : Veil (∀ wx, (Instr.build 26 #[]).run Tryz.prog wx = .ok (.agg (dotC 0 0).toArray) wx) := ⟨fun wx => run_build wx _ _ _ (by kernel_rfl)⟩
  have HB4 : Veil (∀ wx, (Instr.build 26 #[(1, .int .u32 1)]).run Tryz.prog wx = .ok (.agg (dotC 0 1).toArray) wx) := ⟨fun wx => run_build wx _ _ _ (by kernel_rfl)⟩
  have HB5 : Veil (∀ wx, (Instr.build 33 #[(0, .agg (dotC 0 1).toArray), (2, .int .u8 3), (6, .int .u8 1), (7, .int .u8 1)]).run Tryz.prog wx = .ok (.agg evL.cells.toArray) wx) := ⟨fun wx => run_build wx _ _ _ (by kernel_rfl)⟩
  obtain ⟨k0, hk0⟩ : ∃ k, newM 0 seed1 0 0 = some k := ⟨epochL seed1, by unfold newM; rw [if_pos rfl]; unfold putK; simp⟩
  have h0 : sealE 1 0 evL 0 (newM 0 seed1 0 0) = 0 := by
    rw [hk0]
    exact seal_of (by decide) (by decide) (by decide) rfl rfl (by decide)
  have HKT : Veil (∀ W, Below w.heap.size w W → S.KTab W ∧ BTab W) := ⟨fun W hb => ⟨hKT.below hb, hBT.below hb⟩⟩
  have HSL : Veil (∀ W H b v, Below w.heap.size w W → RingAt W w.heap.size H 0 seed1 b (newM 0 seed1) v (newD 0) → Calls Tryz.prog 17 #[.pointer (some ⟨H, 0, none⟩), .int .u32 1, .agg (row .u8 (List.replicate 32 0)), .agg (dotC 0 0).toArray, .slice none 0 0, .agg evL.cells.toArray] W fun e w' => ∃ (F : Fr) (xb : Option Addr) (cb : Nat), e = .returned (.tuple #[.agg F.cells.toArray, .int .i64 0]) ∧ F.cells.length = 70 ∧ (∀ v ∈ F.cells, v.oneCell' = true) ∧ F.cells[37]? = some (.slice xb 144 cb) ∧ (∀ V, Below w'.heap.size w' V → RingAt V w.heap.size H 0 seed1 b (newM 0 seed1) v (newD 0) → Calls Tryz.prog 21 #[.pointer (some ⟨H, 0, none⟩), .agg F.cells.toArray] V fun e w'' => e = .returned (.tuple #[.agg evL.cells.toArray, .int .i64 0]) ∧ Below V.heap.size V w'') ∧ Below W.heap.size W w') := ⟨fun W H b v hbW hR => by
    refine (Seal_any w.heap.size H 0 seed1 b (newM 0 seed1) v (newD 0) W 1 none 0 0 [] 0 0 (List.replicate 32 0) evL hR (HKT.out W hbW).1 (HKT.out W hbW).2 (wraps_nilL W) rfl evL_in ⟨⟨by omega, by omega⟩, by omega, by omega⟩ ⟨by omega, by omega⟩).mono ?_
    rintro e w' ⟨hs | hs, hb'⟩
    · exact absurd h0 hs.1
    · obtain ⟨_, F, k, hk, he, hf, fa, fn, fea, fes, fp, fm⟩ := hs
      obtain ⟨xw, cw, xb, cb, hq⟩ := hf.at_
      have hq0 := hq w' (fun _ _ _ => rfl)
      obtain ⟨f70, _, _, _, _, _, f37, _⟩ := fr_parts F hq0.prev hq0.mac
      rw [hq0.body_] at f37
      have hIn : F.In := ⟨by rw [fa]; exact ⟨by decide, by decide⟩, by rw [fn]; exact ⟨by decide, by decide⟩, by rw [fea]; exact ⟨by decide, by decide⟩, by rw [fes]; exact ⟨by decide, by decide⟩, fun x hx => by
        rw [fp] at hx
        rw [(List.mem_replicate.1 hx).2]; exact ⟨by decide, by decide⟩, fun x hx => by
        rw [fm] at hx
        exact ftagL_in _ _ _ _ x hx⟩
      have hkk : newM 0 seed1 F.ea F.es = some k := by rw [fea, fes]; exact hk
      rw [hk] at h0
      obtain ⟨o1, o2, o3⟩ := sealed_opens (ws := []) evL_in h0 fa fn fm
      refine ⟨F, xb, cb, he, f70, fun v hv => ?_, f37, fun V hbV hRV => ?_, hb'⟩
      · simp only [Fr.cells, dotC, List.mem_append, List.mem_cons, List.not_mem_nil, or_false, List.mem_map, hq0.wraps, hq0.body_] at hv
        rcases hv with ((((rfl | rfl) | rfl | rfl) | ⟨x, _, rfl⟩) | rfl | rfl) | ⟨x, _, rfl⟩ <;> rfl
      · have hwV : Below w.heap.size w V := (hbW.trans (hb'.mono hbW.size)).trans (hbV.mono (hbW.trans (hb'.mono hbW.size)).size)
        refine (Open_anyF w.heap.size H 0 seed1 b (newM 0 seed1) v (newD 0) V F xw 0 cw [] xb 144 cb (sbodyL k F [] evL) hRV (HKT.out V hwV).1 (HKT.out V hwV).2 (hq0.below hbV) hIn (by simp) (sbodyL_in hIn (by simp) (by decide) evL_in)).mono ?_
        rintro e2 w2 ⟨ho | ho, hb2⟩
        · exfalso
          refine ho.1 ?_
          unfold openE
          rw [if_pos o1, hkk]
          exact o2
        · obtain ⟨_, k2, hk2, he2⟩ := ho
          rw [hkk] at hk2
          obtain rfl := Option.some.inj hk2
          rw [o3] at he2
          exact ⟨he2, hb2⟩⟩
  have iF70 : (Tryz.prog.info? 43).map (·.size) = some 70 := sizeFrame
  have iE := sizeEvZ evL rfl
  have h1E := ev_one evL
  have uF := Tryz.underlying43
  have HEC : Veil (∀ W g, CellsAt W g 33 evL.cells → W.cell? ⟨g, 15, none⟩ = some (.int .u8 1)) := ⟨fun W g h => (h.cell 15).trans rfl⟩
  have hlE : evZ.cells.length = evL.cells.length := rfl
  generalize evL.cells = EL at HB5 HSL iE h1E HEC hlE
  generalize row .u8 seed1 = SD at hnew HB1
  generalize row .u8 (List.replicate 32 0) = PZ at HB2 HSL
  clear hKT hBT hk0 h0 HKT
  go_enter Tryz.func19, Tryz.ntmps19
  go_upto_region 2 with (first
    | (refine wpList_bldx rfl 23 #[(0, .const (.int .u8 1))] rfl #[(0, .int .u8 1)] (by first | rfl | kernel_rfl) _ (HB1.out _) ?_)
    | (go_at_call 27; refine hnew.mono ?_; rintro e w1 ⟨H, b, v, rfl, hR1, hb1⟩; clear hnew))
  have hsl := HSL.out w1 H b v hb1 hR1
  have HFAR : Veil (∀ V, Below w1.heap.size w1 V → Below w.heap.size w V ∧ RingAt V w.heap.size H 0 seed1 b (newM 0 seed1) v (newD 0)) := ⟨fun V h => ⟨hb1.trans (h.mono hb1.size), hR1.far h⟩⟩
  clear HSL hR1 hb1
  go_upto_region 3 with (first
    | (refine wpList_bldx rfl 23 #[] rfl #[] (by first | rfl | kernel_rfl) _ (HB2.out _) ?_)
    | (refine wpList_bldx rfl 26 #[] rfl #[] (by first | rfl | kernel_rfl) _ (HB3.out _) ?_)
    | (refine wpList_bldx rfl 26 #[(1, .const (.int .u32 1))] rfl #[(1, .int .u32 1)] (by first | rfl | kernel_rfl) _ (HB4.out _) ?_)
    | (refine wpList_bldx rfl 33 _ rfl #[(0, .agg (dotC 0 1).toArray), (2, .int .u8 3), (6, .int .u8 1), (7, .int .u8 1)] (by first | rfl | kernel_rfl) _ (HB5.out _) ?_)
    | (go_at_call 17; refine hsl.mono ?_; rintro e w2 ⟨F, xb, cb, rfl, hFl, h1F, h37, hop, hb2⟩; have hG2 := CellsAt.new w2 43 Z; have HOP := Veil.mk hop; have H37 := Veil.mk h37; clear hsl hop h37)
    | (refine wpList_stv rfl 43 _ _ rfl _ rfl rfl hG2 (by rw [hFl]; exact iF70) (by rw [hZl, hFl]) h1F ?_))
  have hb3 : Below w2.heap.size w2 ((w2.alloc (.cells Z.toArray 43)).setRow w2.heap.size F.cells.toArray) := below_setRow ((Below.refl _ _).alloc (Nat.le_refl _) _) (Nat.le_refl _) _
  have hb13 := hb2.trans (hb3.mono hb2.size)
  refine forget (p := fun y => Code.wp _ _ _ _ y) (fun W => Below w2.heap.size w2 W ∧ Below w1.heap.size w1 W ∧ CellsAt W w2.heap.size 43 F.cells) ⟨hb3, hb13, hG2.setRow _⟩ ?_
  have hs2 := hb2.size
  clear hb3 hb13 hG2 hb2 hzv hz1
  obtain ⟨G, hGe⟩ : ∃ q, w2.heap.size = q := ⟨_, rfl⟩
  rw [hGe]
  have HGE := Veil.mk hGe
  clear hGe
  rintro W ⟨hbG, hbW, hG⟩
  obtain ⟨hwW, hRW⟩ := HFAR.out W hbW
  have hop := HOP.out W (by rw [HGE.out]; exact hbG) hRW
  have rG := hG.wholeM
  have iF : (Tryz.prog.info? 43).map (·.size) = some F.cells.length := by rw [hFl]; exact iF70
  clear HOP hRW
  go_upto_region 4 with (first
    | (refine wpList_ldv rfl 43 _ rfl _ _ rfl F.cells rG uF rfl iF ?_)
    | (go_at_call 21; refine hop.mono ?_; rintro e w4 ⟨rfl, hb4⟩; have hA4 := CellsAt.new w4 33 evZ.cells; clear hop)
    | (refine wpList_stv rfl 33 _ _ rfl _ rfl rfl hA4 iE hlE h1E ?_))
  have hb5 : Below w4.heap.size w4 ((w4.alloc (.cells evZ.cells.toArray 33)).setRow w4.heap.size EL.toArray) := below_setRow ((Below.refl _ _).alloc (Nat.le_refl _) _) (Nat.le_refl _) _
  have hb45 := hb4.trans (hb5.mono hb4.size)
  refine forget (p := fun y => Code.wp _ _ _ _ y) (fun V => Below w.heap.size w V ∧ CellsAt V G 43 F.cells ∧ CellsAt V w4.heap.size 33 EL) ⟨hwW.trans (hb45.mono hwW.size), hG.farM hb45, hA4.setRow _⟩ ?_
  clear hb45 hb5 hA4 hb4 hwW hbW hbG hG rG
  rintro V ⟨hb, hG, hE⟩
  have c15 := HEC.out V _ hE
  have c37 : V.cell? ⟨G, 37, none⟩ = some (.slice xb 144 cb) := by rw [hG.cell, H37.out]
  go_wp2
  go_ret
  exact ⟨rfl, hb⟩
end Go.Proofs.YtfainlfiphdaeaaGreatDoor
