/- Kr4 Kr5 -/
import Derived.Test.YtfainlfiphdaeaaGreatDoorT45
import Derived.Test.YtfainlfiphdaeaaGreatDoorT38
import Derived.Test.YtfainlfiphdaeaaGreatDoorT02
import Derived.Test.YtfainlfiphdaeaaGreatDoorT33
import Derived.Test.YtfainlfiphdaeaaGreatDoorT32
namespace Go.Proofs.YtfainlfiphdaeaaGreatDoor
open Go.RowKit
set_option maxRecDepth 20000
set_option linter.unusedSimpArgs false
def epsC (L : List ((Int × Int) × List Int)) : List Value := (L.map fun e => epC e.1.1 e.1.2 e.2).flatten
def OwnE (w : World) (base : Nat) (v : Value) (L : List ((Int × Int) × List Int)) : Prop := w.ownsRow base 138 34 v L.length (epsC L)
def rnewL (own : Int) (seed : List Int) : List ((Int × Int) × List Int) := if own = 0 then [((0, 0), epochL seed)] else []
theorem epC_length (a s : Int) (k : List Int) (hk : k.length = 32) : (epC a s k).length = 34 := by simp [epC, dotC, hk]
set_option maxHeartbeats 4000000 in
theorem rnew_any (own : Int) (seed : List Int) (w : World) (h8 : own < 8) (hs : seed.length = 32) :
    Calls Tryz.prog 39 #[.int .u8 own, .agg (row .u8 seed)] w fun e w' => ∃ H v, e = .returned (.pointer (some ⟨H, 0, none⟩)) ∧ CellsAt w' H 135 (rringC own seed v) ∧ OwnE w' w.heap.size v (rnewL own seed) ∧ w.heap.size ≤ H ∧ Below w.heap.size w w' := by
  have HBU : Veil (∀ wx, (Instr.build 135 #[(0, .int .u8 own), (1, .agg (row .u8 seed))]).run Tryz.prog wx = .ok (.agg (rringC own seed (.slice none 0 0)).toArray) wx) := ⟨fun wx => rring_built own seed hs wx⟩
  have hk0 := Holds.new w .u8 23 seed
  have hB : Below w.heap.size w (w.alloc (.cells (row .u8 seed) 23)) := (Below.refl _ _).alloc (Nat.le_refl _) _
  have hn7 : ¬ 7 < own := by omega
  go_enter Tryz.func39, Tryz.ntmps39
  go_upto_region 3 with fail
  refine forget (p := fun y => Code.wp _ _ _ _ y) (fun W => Below w.heap.size w W ∧ Holds W w.heap.size .u8 23 seed) ⟨hB, hk0⟩ ?_
  clear hB hk0
  rintro W ⟨hB, hk0⟩
  go_upto_region 4 with (first
    | (refine wpList_ld rfl 23 _ rfl _ rfl hk0 Tryz.underlying23 sizeKeyD hs ?_)
    | (refine wpList_bldx rfl 135 _ rfl #[(0, .int .u8 own), (1, .agg (row .u8 seed))] (by first | rfl | kernel_rfl) _ (HBU.out _) ?_))
  have hx1 := CellsAt.new W 135 (rringC own seed (.slice none 0 0))
  have hB1 := hB.alloc hB.size (.cells (rringC own seed (.slice none 0 0)).toArray 135)
  have hk1 := hk0.alloc (.cells (rringC own seed (.slice none 0 0)).toArray 135)
  refine forget (p := fun y => Code.wp _ _ _ _ y) (fun V => Below w.heap.size w V ∧ Holds V w.heap.size .u8 23 seed ∧ CellsAt V W.heap.size 135 (rringC own seed (.slice none 0 0))) ⟨hB1, hk1, hx1⟩ ?_
  have hWl : w.heap.size < W.heap.size := hk0.lt
  clear hx1 hB1 hk1 hB hk0 HBU
  obtain ⟨G, hG⟩ : ∃ q, W.heap.size = q := ⟨_, rfl⟩
  rw [hG] at hWl ⊢
  clear hG
  clear W
  rintro W ⟨hB, hk0, hx⟩
  by_cases h0 : own = 0
  · subst h0
    have hd := rderive_any seed ⟨#[101, 112, 111, 99, 104]⟩ none 0 0 [] W hs (by decide) (bytes_nil W) (by omega)
    have hdl : (epochL seed).length = 32 := derL_length _ _
    rw [show derL seed (wordL ⟨#[101, 112, 111, 99, 104]⟩ ++ []) = epochL seed from rfl] at hd
    have HEB : Veil (∀ wx, (Instr.build 138 #[(0, .agg (dotC 0 0).toArray), (1, .agg (row .u8 (epochL seed)))]).run Tryz.prog wx = .ok (.agg (epC 0 0 (epochL seed)).toArray) wx) := ⟨fun wx => epoch_built 0 0 _ hdl wx⟩
    have hEl := epC_length 0 0 _ hdl
    have HN : Veil (rnewL 0 seed = [((0, 0), epochL seed)] ∧ epsC [((0, 0), epochL seed)] = epC 0 0 (epochL seed)) := ⟨if_pos rfl, by simp [epsC]⟩
    obtain ⟨iw, hiw, hwz, hws, hwb⟩ := info_parts epoch_info
    obtain ⟨EL, hEL⟩ : ∃ q, epochL seed = q := ⟨_, rfl⟩
    rw [hEL] at hd hdl HN HEB hEl
    obtain ⟨EC, hEC⟩ : ∃ q, epC 0 0 EL = q := ⟨_, rfl⟩
    rw [hEC] at HEB hEl HN
    clear hEL hEC
    have HFILL : ∀ (vs : List Value), vs.length = 34 → Instr.fill (fun i => some (i * 34, 34)) ((Array.range (1 * 34)).map ((Value.agg (dotC 0 0 ++ (List.replicate 32 (0 : Int)).map (Value.int .u8)).toArray).cells[· % (Value.agg (dotC 0 0 ++ (List.replicate 32 (0 : Int)).map (Value.int .u8)).toArray).cells.size]!)) [(0, .agg vs.toArray)] = some vs.toArray := fun vs hv => by
      have hz : ((Array.range (1 * 34)).map ((Value.agg (dotC 0 0 ++ (List.replicate 32 (0 : Int)).map (Value.int .u8)).toArray).cells[· % (Value.agg (dotC 0 0 ++ (List.replicate 32 (0 : Int)).map (Value.int .u8)).toArray).cells.size]!)) = (dotC 0 0 ++ (List.replicate 32 (0 : Int)).map (Value.int .u8)).toArray := by kernel_rfl
      rw [hz, fill_cons _ _ vs 0 0 34 _ _ rfl rfl hv (Nat.le_of_ble_eq_true rfl), Instr.fill]
      simp [dotC]
    have HF : Veil (Instr.fill (fun i => some (i * 34, 34)) ((Array.range (1 * 34)).map ((Value.agg (dotC 0 0 ++ (List.replicate 32 (0 : Int)).map (Value.int .u8)).toArray).cells[· % (Value.agg (dotC 0 0 ++ (List.replicate 32 (0 : Int)).map (Value.int .u8)).toArray).cells.size]!)) [(0, .agg EC.toArray)] = some EC.toArray) := ⟨HFILL EC hEl⟩
    have HC33 : Veil (∀ W1, Below W.heap.size W W1 → CellsAt (W1.alloc (.cells EC.toArray 138)) G 135 (rringC 0 seed (.slice none 0 0))) := ⟨fun W1 hb => (hx.congr (hb.block _ hx.lt)).alloc _⟩
    clear HFILL
    go_wp2_with (first
      | (refine wpList_ld rfl 23 _ rfl _ rfl hk0 Tryz.underlying23 sizeKeyD hs ?_)
      | (go_at_call 98; refine hd.mono ?_; rintro e w1 ⟨rfl, hb1⟩; have hx1 := HC33.out w1 hb1; have c33 := hx1.cell 33; rw [rringC_list _ _ _ hs] at c33; have f33 := hx1.frozen 33)
      | (refine wpList_bldx rfl 138 _ rfl #[(0, .agg (dotC 0 0).toArray), (1, .agg (row .u8 EL))] (by first | rfl | kernel_rfl) _ (HEB.out _) ?_)
      | (refine wpList_buildSlice rfl 133 138 1 _ rfl EC.toArray iw _ Tryz.underlying133 hiw hwz (by rw [hws]; decide) (by rw [hws]; decide) (by rw [hws]; refine Eq.trans (congrArg (Instr.fill _ _) (show _ = [(0, Value.agg EC.toArray)] by first | rfl | kernel_rfl)) HF.out) ?_))
    go_ret
    have hB1 := hB.trans (hb1.mono hB.size)
    have hgl : G < w1.heap.size := Nat.lt_of_lt_of_le hx.lt hb1.size
    have hset := hx1.set 33 (.slice (some ⟨w1.heap.size, 0, none⟩) 1 1)
    rw [rringC_set _ _ _ _ hs] at hset
    refine ⟨G, .slice (some ⟨w1.heap.size, 0, none⟩) 1 1, rfl, hset, ?_, by omega, (hB1.alloc hB1.size _).setCell (by show w.heap.size ≤ G; omega) _⟩
    rw [HN.out.1]
    refine ⟨by rw [HN.out.2, hEl]; rfl, .inr ⟨w1.heap.size, 1, EC.toArray, rfl, hB1.size, ?_, Nat.le_refl 1, by simp [maxLen], by simp [hEl], ?_⟩⟩
    · rw [Below.heap_setCell _ _ _ _ (by show w1.heap.size ≠ G; omega)]; exact heap_alloc_new w1 _
    · rw [HN.out.2]; show List.take (1 * 34) EC = EC; exact List.take_of_length_le (by omega)
  · have HN : Veil (rnewL own seed = []) := ⟨if_neg h0⟩
    have h0' : (own == 0) = false := by simpa using h0
    go_wp2
    go_ret
    refine ⟨G, rfl, .slice none 0 0, hx, ?_, by omega, hB⟩
    rw [HN.out]; exact World.ownsRow_nil _ _ _ _
end Go.Proofs.YtfainlfiphdaeaaGreatDoor
namespace Go.Proofs.YtfainlfiphdaeaaGreatDoor
open Go.RowKit
set_option maxRecDepth 20000
set_option linter.unusedSimpArgs false
abbrev Ep := (Int × Int) × List Int
def epD (e : Ep) : List Value := epC e.1.1 e.1.2 e.2
structure RRing (w : World) (base O : Nat) (own : Int) (seed : List Int) (v : Value) (L : List Ep) : Prop where
  box : CellsAt w O 135 (rringC own seed v)
  own : OwnI w base 138 34 v (L.map epD)
  seed32 : seed.length = 32
  k32 : ∀ e ∈ L, e.2.length = 32
  lenL : L.length ≤ 16
  baseO : base ≤ O
def rrB (O : Nat) (v : Value) (k : Nat) : Prop := k = O ∨ v.ownBlock = some k
section
variable {w w' : World} {base O : Nat} {own : Int} {seed : List Int} {v : Value} {L : List Ep}
theorem RRing.congr (h : RRing w base O own seed v L) (hk : ∀ g, rrB O v g → w'.heap[g]? = w.heap[g]?) : RRing w' base O own seed v L := ⟨h.box.congr (hk _ (.inl rfl)), h.own.congr fun g hg => hk g (.inr hg), h.seed32, h.k32, h.lenL, h.baseO⟩
theorem RRing.inside (h : RRing w base O own seed v L) (g : Nat) (hg : rrB O v g) : g < w.heap.size ∧ base ≤ g := by
  rcases hg with rfl | hg
  · exact ⟨h.box.lt, h.baseO⟩
  · exact ⟨(h.own.blockLt g hg).1, (h.own.blockLt g hg).2.1⟩
theorem RRing.far (h : RRing w base O own seed v L) (hb : Below w.heap.size w w') : RRing w' base O own seed v L := h.congr fun g hg => hb.block g (h.inside g hg).1
theorem RRing.cell33 (h : RRing w base O own seed v L) : w.cell? ⟨O, 33, none⟩ = some v := by
  have hl : ([Value.int .u8 own] ++ seed.map (Value.int .u8)).length = 33 := by simp [h.seed32]
  rw [h.box.cell]
  unfold rringC
  rw [List.getElem?_append_right (by omega), hl]; rfl
theorem RRing.ofNew (hb : CellsAt w O 135 (rringC own seed v)) (ho : OwnE w base v L) (hs : seed.length = 32) (hk : ∀ e ∈ L, e.2.length = 32) (hl : L.length ≤ 16) (hO : base ≤ O) : RRing w base O own seed v L :=
  ⟨hb, ⟨by rw [List.length_map]; exact ho, fun c hc => by
    obtain ⟨e, he, rfl⟩ := List.mem_map.1 hc
    exact epC_length _ _ _ (hk e he)⟩, hs, hk, hl, hO⟩
end
def keyE : List Ep → Int → Int → Option (List Int)
  | [], _, _ => none
  | e :: L, a, s => if e.1.1 = a ∧ e.1.2 = s then some e.2 else keyE L a s
theorem keyE_at (a s : Int) : ∀ (L : List Ep) (j : Nat) (hj : j < L.length), (∀ i (hi : i < j), ¬ (L[i].1.1 = a ∧ L[i].1.2 = s)) → (L[j].1.1 = a ∧ L[j].1.2 = s) → keyE L a s = some L[j].2
  | e :: L, 0, _, _, h => by
    unfold keyE; rw [if_pos (show e.1.1 = a ∧ e.1.2 = s from h)]; rfl
  | e :: L, j + 1, hj, hn, h => by
    unfold keyE
    rw [if_neg (show ¬ (e.1.1 = a ∧ e.1.2 = s) from hn 0 (by omega))]
    exact keyE_at a s L j (by simpa using hj) (fun i hi => hn (i + 1) (by omega)) h
theorem keyE_none (a s : Int) : ∀ (L : List Ep), (∀ i (hi : i < L.length), ¬ (L[i].1.1 = a ∧ L[i].1.2 = s)) → keyE L a s = none
  | [], _ => rfl
  | e :: L, hn => by
    unfold keyE
    rw [if_neg (show ¬ (e.1.1 = a ∧ e.1.2 = s) from hn 0 (by simp))]
    exact keyE_none a s L (fun i hi => hn (i + 1) (by simpa using hi))
section
variable (base O : Nat) (own : Int) (seed : List Int) (v : Value) (L : List Ep) (w : World)
set_option maxHeartbeats 8000000 in
theorem rrKey_any (a s : Int) (hR : RRing w base O own seed v L) :
    Calls Tryz.prog 90 #[.pointer (some ⟨O, 0, none⟩), .agg (dotC a s).toArray] w fun e w' => ∃ k : List Int, k.length = 32 ∧ (keyE L a s).getD k = k ∧ e = .returned (.tuple #[.agg (row .u8 k), .bool (keyE L a s).isSome]) ∧ Below w.heap.size w w' := by
  obtain ⟨Z, hZl, hZ⟩ : ∃ Z : List Int, Z.length = 32 ∧ Z = List.replicate 32 0 := ⟨_, rfl, rfl⟩
  have hzv : ∀ wx, (zeroValue 23).run Tryz.prog wx = .ok (.agg (row .u8 Z)) wx := fun wx => by rw [hZ]; kernel_rfl
  have hz1 : ¬ (row .u8 Z) = #[] := by intro h; have := congrArg Array.size h; rw [row_size] at this; simp at this; rw [this] at hZl; simp at hZl
  have HBZ : Veil (∀ wx, (Instr.build 23 #[]).run Tryz.prog wx = .ok (.agg (row .u8 Z)) wx) := ⟨fun wx => by rw [hZ]; exact run_build wx _ _ _ (by kernel_rfl)⟩
  have hD := (CellsAt.new w 26 (dotC a s)).alloc (.cells (row .u8 Z) 23)
  have hK := Holds.new (w.alloc (.cells (dotC a s).toArray 26)) .u8 23 Z
  rw [World.size_alloc] at hK
  have hb0 : Below w.heap.size w ((w.alloc (.cells (dotC a s).toArray 26)).alloc (.cells (row .u8 Z) 23)) := ((Below.refl _ _).alloc (Nat.le_refl _) _).alloc (by simp) _
  have HR := Veil.mk (fun W (hb : Below w.heap.size w W) => hR.far hb)
  have HK32 := Veil.mk hR.k32
  have hl16 := hR.lenL
  obtain ⟨x, c, hv⟩ := hR.own.isSlice
  rw [List.length_map] at hv
  obtain ⟨n, hn⟩ : ∃ q, L.length = q := ⟨_, rfl⟩
  rw [hn] at hv hl16
  subst hv
  have HN := Veil.mk hn
  clear hZ hR hn
  have uD := Tryz.underlying26
  have uK := Tryz.underlying23
  have iD : (Tryz.prog.info? 26).map (·.size) = some (dotC a s).length := sizeDot
  go_enter Tryz.func90, Tryz.ntmps90
  go_upto_region 1 with fail
  refine forget (p := fun y => Code.wp _ _ _ _ y) (fun W => Below w.heap.size w W ∧ CellsAt W w.heap.size 26 (dotC a s) ∧ Holds W (w.heap.size + 1) .u8 23 Z) ⟨hb0, hD, hK⟩ ?_
  clear hb0 hD hK hzv hz1
  rintro W ⟨hb, hD, hK⟩
  go_wp2
  go_loopw [6] (fun q wr => ∃ j : Nat, j ≤ n ∧ q = .int .i64 j ∧ Below w.heap.size w wr ∧ CellsAt wr w.heap.size 26 (dotC a s) ∧ Holds wr (w.heap.size + 1) .u8 23 Z ∧ ∀ i (hi : i < L.length), i < j → ¬ (L[i].1.1 = a ∧ L[i].1.2 = s)) (fun q _ => n - (intOf q).toNat)
  case atStart => exact ⟨0, Nat.zero_le _, rfl, hb, hD, hK, fun i _ h => absurd h (Nat.not_lt_zero _)⟩
  case round =>
    clear hb hD hK
    obtain ⟨j, hj, rfl, hb, hD, hK, hno⟩ := hrel
    have HNO := Veil.mk hno
    clear hno
    have hRR := HR.out wr hb
    have c33 := hRR.cell33
    by_cases hjn : j < n
    · have hji : (j : Int) < (n : Int) := by omega
      have hj0 : (0 : Int) ≤ (j : Int) := by omega
      have hjL : j < L.length := by rw [HN.out]; exact hjn
      obtain ⟨g, hxg, _, hr⟩ := hRR.own.at_ j (by rw [List.length_map]; exact hjL)
      subst hxg
      rw [List.getElem_map] at hr
      have hkl := HK32.out L[j] (List.getElem_mem hjL)
      have HRG : Veil (wr.rangeAt g (j * 34) (dotC L[j].1.1 L[j].1.2) ∧ wr.rangeAt g (j * 34 + 2) (L[j].2.map (Value.int .u8))) := ⟨fun i u hu => by
        have hi := (List.getElem?_eq_some_iff.1 hu).1
        exact hr i u (by unfold epD epC; rw [List.getElem?_append_left hi]; exact hu), fun i u hu => by
        have := hr (i + 2) u (by unfold epD epC; rw [List.getElem?_append_right (by simp [dotC])]; exact hu)
        rw [show j * 34 + (i + 2) = j * 34 + 2 + i by omega] at this
        exact this⟩
      obtain ⟨r1, r2⟩ := HRG.out
      have HEQ : Veil (∀ wx, (binOp .eql 26 (.agg (dotC L[j].1.1 L[j].1.2).toArray) (.agg (dotC a s).toArray)).run Tryz.prog wx = .ok (.bool ((L[j].1.1 == a) && (L[j].1.2 == s))) wx) := ⟨fun wx => dot_eql _ _ _ _ wx⟩
      have iDj : (Tryz.prog.info? 26).map (·.size) = some (dotC L[j].1.1 L[j].1.2).length := sizeDot
      have HKE : Veil ((L[j].1.1 = a ∧ L[j].1.2 = s) → keyE L a s = some L[j].2) := ⟨fun h => keyE_at a s L j hjL (fun i hi => HNO.out i (by omega) hi) h⟩
      have HNX : Veil (¬ (L[j].1.1 = a ∧ L[j].1.2 = s) → ∀ i (hi : i < L.length), i < j + 1 → ¬ (L[i].1.1 = a ∧ L[i].1.2 = s)) := ⟨fun h i hi hlt => by
        by_cases e : i = j
        · subst e; exact h
        · exact HNO.out i hi (by omega)⟩
      have rD := hD.wholeM
      have hkl2 : L[j].2.length = 32 := hkl
      have iKj : (Tryz.prog.info? 23).map (·.size) = some (L[j].2.map (Value.int .u8)).length := by rw [List.length_map, hkl2]; exact sizeKeyD
      have HEB : Veil (((L[j].1.1 == a) && (L[j].1.2 == s)) = true ↔ (L[j].1.1 = a ∧ L[j].1.2 = s)) := ⟨by simp⟩
      clear hr hRR
      generalize dotC L[j].1.1 L[j].1.2 = DJ at r1 HEQ iDj
      obtain ⟨KJ, hKJ⟩ : ∃ q, L[j].2 = q := ⟨_, rfl⟩
      rw [hKJ] at r2 HKE hkl2 iKj
      generalize hbb : ((L[j].1.1 == a) && (L[j].1.2 == s)) = BB at HEQ HEB
      clear hbb hKJ hkl
      have hw1 : IntKind.i64.wrap ((j : Int) + 1) = (j : Int) + 1 := by rw [IntKind.wrap_i64]; omega
      have heq := HEQ.out
      generalize hDV : dotC a s = DV at rD heq iD hD
      have HDV := Veil.mk hDV
      clear hDV
      cases BB with
      | true =>
        have HKS : Veil (keyE L a s = some KJ) := ⟨HKE.out (HEB.out.1 rfl)⟩
        go_upto_region 4 with fail
        refine wp_region_gateT (fun w' => w'.cell? ⟨O, 33, none⟩ = some (.slice (some ⟨g, 0, none⟩) n c) ∧ w'.rangeAt g (j * 34) DJ ∧ w'.rangeAt w.heap.size 0 DV) (fun _ => True) 99 (by kernel_rfl) ?_
        have hT : (fun w' : World => w'.cell? ⟨O, 33, none⟩ = some (.slice (some ⟨g, 0, none⟩) n c) ∧ w'.rangeAt g (j * 34) DJ ∧ w'.rangeAt w.heap.size 0 DV) wr.drew := ⟨c33, r1, rD⟩
        have hS := trivial
        refine wpAnyT_held (i := 0) (v := ?_) rfl (by kernel_rfl) (by kernel_rfl) (by kernel_rfl) (fun _ _ _ h => h) (by kernel_rfl) hT (fun _ => hS) (by kernel_rfl) ?_ ?_
        rotate_left
        · intro wx hSw; go_split_ands; go_simp; try with_reducible rfl
        simp only [Act.put, gA, gS, gZ, sI, sZ, sS]
        refine wpAnyT_held (i := 1) (v := ?_) rfl (by kernel_rfl) (by kernel_rfl) (by kernel_rfl) (fun _ _ _ h => h) (by kernel_rfl) hT (fun _ => hS) (by kernel_rfl) ?_ ?_
        rotate_left
        · intro wx hSw; go_split_ands; go_simp; try with_reducible rfl
        simp only [Act.put, gA, gS, gZ, sI, sZ, sS]
        refine wpAnyT_held (i := 2) (v := ?_) rfl (by kernel_rfl) (by kernel_rfl) (by kernel_rfl) (fun _ _ _ h => h) (by kernel_rfl) hT (fun _ => hS) (by kernel_rfl) ?_ ?_
        rotate_left
        · intro wx hSw; go_split_ands; go_simp; try with_reducible rfl
        simp only [Act.put, gA, gS, gZ, sI, sZ, sS]
        refine wpAnyT_held (i := 3) (v := ?_) rfl (by kernel_rfl) (by kernel_rfl) (by kernel_rfl) (fun _ _ _ h => h) (by kernel_rfl) hT (fun _ => hS) (by kernel_rfl) ?_ ?_
        rotate_left
        · intro wx hSw; go_split_ands; go_simp; try with_reducible rfl
        simp only [Act.put, gA, gS, gZ, sI, sZ, sS]
        refine wpAnyT_held (i := 4) (v := ?_) rfl (by kernel_rfl) (by kernel_rfl) (by kernel_rfl) (fun _ _ _ h => h) (by kernel_rfl) hT (fun _ => hS) (by kernel_rfl) ?_ ?_
        rotate_left
        · intro wx hSw; go_split_ands; go_simp; try with_reducible rfl
        simp only [Act.put, gA, gS, gZ, sI, sZ, sS]
        refine wpAnyT_held (i := 5) (v := ?_) rfl (by kernel_rfl) (by kernel_rfl) (by kernel_rfl) (fun _ _ _ h => h) (by kernel_rfl) hT (fun _ => hS) (by kernel_rfl) ?_ ?_
        rotate_left
        · intro wx hSw; go_split_ands; go_simp; try with_reducible rfl
        simp only [Act.put, gA, gS, gZ, sI, sZ, sS]
        refine wpAnyT_held (i := 6) (v := ?_) rfl (by kernel_rfl) (by kernel_rfl) (by kernel_rfl) (fun _ _ _ h => h) (by kernel_rfl) hT (fun _ => hS) (by kernel_rfl) ?_ ?_
        rotate_left
        · intro wx hSw; go_split_ands; go_simp; try with_reducible rfl
        simp only [Act.put, gA, gS, gZ, sI, sZ, sS]
        refine wpAnyT_load (i := 7) (dst := some 27) (ty := 26) (x := .tmp 26) (b := g) (o := ((j * 34))) (cs := DJ) (by kernel_rfl) (by kernel_rfl) (by kernel_rfl) (by kernel_rfl) (by kernel_rfl) (fun _ _ _ h => h) (by kernel_rfl) hT (fun _ => hS) (by kernel_rfl) (fun _ h => h.2.1) uD rfl iDj ?_
        simp only [Act.put, gA, gS, gZ, sI, sZ, sS]
        refine wpAnyT_load (i := 8) (dst := some 28) (ty := 26) (x := .tmp 3) (b := w.heap.size) (o := (0)) (cs := DV) (by kernel_rfl) (by kernel_rfl) (by kernel_rfl) (by kernel_rfl) (by kernel_rfl) (fun _ _ _ h => h) (by kernel_rfl) hT (fun _ => hS) (by kernel_rfl) (fun _ h => h.2.2) uD rfl iD ?_
        simp only [Act.put, gA, gS, gZ, sI, sZ, sS]
        refine wpAnyT_held (i := 9) (v := .bool true) rfl (by kernel_rfl) (by kernel_rfl) (by kernel_rfl) (fun _ _ _ h => h) (by kernel_rfl) hT (fun _ => hS) (by kernel_rfl) ?_ ?_
        · intro wx hSw; go_split_ands; go_simp
        simp only [Act.put, gA, gS, gZ, sI, sZ, sS]
        refine wpAnyT_done (by kernel_rfl) ?_ _
        clear hT hS heq r1 rD
        have hKd := hK.below (Below.refl wr.heap.size wr).drew hK.lt
        have HBD := Veil.mk hb.drew
        have r2d : wr.drew.rangeAt g (j * 34 + 2) (KJ.map (Value.int .u8)) := r2
        have c33d : wr.drew.cell? ⟨O, 33, none⟩ = some (.slice (some ⟨g, 0, none⟩) n c) := c33
        clear r2 c33 hK hb hD
        go_wp2_with (first
          | (refine wpList_ldv rfl 23 _ rfl _ _ rfl (KJ.map (Value.int .u8)) r2d uK rfl iKj ?_)
          | (refine wpList_st rfl 23 _ _ rfl _ rfl rfl hKd (by rw [hkl2]; exact sizeKeyD) (by rw [hZl, hkl2]) ?_))
        refine bodyPost_ret (results_ct (Tryz.results90) _ rfl rfl (hKd.setRow KJ).cellsAt Tryz.underlying23 rfl iKj) rfl ⟨KJ, hkl2, by rw [HKS.out]; rfl, by rw [HKS.out]; rfl, below_setRow HBD.out (by omega) _⟩
      | false =>
        have HNX2 := Veil.mk (HNX.out (fun h => absurd (HEB.out.2 h) (by decide)))
        clear HNX HKE HEB
        go_upto_region 4 with fail
        refine wp_region_gateT (fun w' => w'.cell? ⟨O, 33, none⟩ = some (.slice (some ⟨g, 0, none⟩) n c) ∧ w'.rangeAt g (j * 34) DJ ∧ w'.rangeAt w.heap.size 0 DV) (fun _ => True) 99 (by kernel_rfl) ?_
        have hT : (fun w' : World => w'.cell? ⟨O, 33, none⟩ = some (.slice (some ⟨g, 0, none⟩) n c) ∧ w'.rangeAt g (j * 34) DJ ∧ w'.rangeAt w.heap.size 0 DV) wr.drew := ⟨c33, r1, rD⟩
        have hS := trivial
        refine wpAnyT_held (i := 0) (v := ?_) rfl (by kernel_rfl) (by kernel_rfl) (by kernel_rfl) (fun _ _ _ h => h) (by kernel_rfl) hT (fun _ => hS) (by kernel_rfl) ?_ ?_
        rotate_left
        · intro wx hSw; go_split_ands; go_simp; try with_reducible rfl
        simp only [Act.put, gA, gS, gZ, sI, sZ, sS]
        refine wpAnyT_held (i := 1) (v := ?_) rfl (by kernel_rfl) (by kernel_rfl) (by kernel_rfl) (fun _ _ _ h => h) (by kernel_rfl) hT (fun _ => hS) (by kernel_rfl) ?_ ?_
        rotate_left
        · intro wx hSw; go_split_ands; go_simp; try with_reducible rfl
        simp only [Act.put, gA, gS, gZ, sI, sZ, sS]
        refine wpAnyT_held (i := 2) (v := ?_) rfl (by kernel_rfl) (by kernel_rfl) (by kernel_rfl) (fun _ _ _ h => h) (by kernel_rfl) hT (fun _ => hS) (by kernel_rfl) ?_ ?_
        rotate_left
        · intro wx hSw; go_split_ands; go_simp; try with_reducible rfl
        simp only [Act.put, gA, gS, gZ, sI, sZ, sS]
        refine wpAnyT_held (i := 3) (v := ?_) rfl (by kernel_rfl) (by kernel_rfl) (by kernel_rfl) (fun _ _ _ h => h) (by kernel_rfl) hT (fun _ => hS) (by kernel_rfl) ?_ ?_
        rotate_left
        · intro wx hSw; go_split_ands; go_simp; try with_reducible rfl
        simp only [Act.put, gA, gS, gZ, sI, sZ, sS]
        refine wpAnyT_held (i := 4) (v := ?_) rfl (by kernel_rfl) (by kernel_rfl) (by kernel_rfl) (fun _ _ _ h => h) (by kernel_rfl) hT (fun _ => hS) (by kernel_rfl) ?_ ?_
        rotate_left
        · intro wx hSw; go_split_ands; go_simp; try with_reducible rfl
        simp only [Act.put, gA, gS, gZ, sI, sZ, sS]
        refine wpAnyT_held (i := 5) (v := ?_) rfl (by kernel_rfl) (by kernel_rfl) (by kernel_rfl) (fun _ _ _ h => h) (by kernel_rfl) hT (fun _ => hS) (by kernel_rfl) ?_ ?_
        rotate_left
        · intro wx hSw; go_split_ands; go_simp; try with_reducible rfl
        simp only [Act.put, gA, gS, gZ, sI, sZ, sS]
        refine wpAnyT_held (i := 6) (v := ?_) rfl (by kernel_rfl) (by kernel_rfl) (by kernel_rfl) (fun _ _ _ h => h) (by kernel_rfl) hT (fun _ => hS) (by kernel_rfl) ?_ ?_
        rotate_left
        · intro wx hSw; go_split_ands; go_simp; try with_reducible rfl
        simp only [Act.put, gA, gS, gZ, sI, sZ, sS]
        refine wpAnyT_load (i := 7) (dst := some 27) (ty := 26) (x := .tmp 26) (b := g) (o := ((j * 34))) (cs := DJ) (by kernel_rfl) (by kernel_rfl) (by kernel_rfl) (by kernel_rfl) (by kernel_rfl) (fun _ _ _ h => h) (by kernel_rfl) hT (fun _ => hS) (by kernel_rfl) (fun _ h => h.2.1) uD rfl iDj ?_
        simp only [Act.put, gA, gS, gZ, sI, sZ, sS]
        refine wpAnyT_load (i := 8) (dst := some 28) (ty := 26) (x := .tmp 3) (b := w.heap.size) (o := (0)) (cs := DV) (by kernel_rfl) (by kernel_rfl) (by kernel_rfl) (by kernel_rfl) (by kernel_rfl) (fun _ _ _ h => h) (by kernel_rfl) hT (fun _ => hS) (by kernel_rfl) (fun _ h => h.2.2) uD rfl iD ?_
        simp only [Act.put, gA, gS, gZ, sI, sZ, sS]
        refine wpAnyT_held (i := 9) (v := .bool false) rfl (by kernel_rfl) (by kernel_rfl) (by kernel_rfl) (fun _ _ _ h => h) (by kernel_rfl) hT (fun _ => hS) (by kernel_rfl) ?_ ?_
        · intro wx hSw; go_split_ands; go_simp
        simp only [Act.put, gA, gS, gZ, sI, sZ, sS]
        refine wpAnyT_done (by kernel_rfl) ?_ _
        clear hT hS heq r1 rD r2 c33
        go_wp2
        go_roundw
        case rel => exact ⟨j + 1, hjn, by push_cast; rfl, hb.drew, hD.congr rfl, hK.below (Below.refl wr.heap.size wr).drew hK.lt, HNX2.out⟩
        case measure => simp [intOf]; omega
    · have hji : ¬ (j : Int) < (n : Int) := by omega
      have HKN : Veil (keyE L a s = none) := ⟨keyE_none a s L (fun i hi => HNO.out i hi (by have := HN.out; omega))⟩
      clear hRR
      go_wp2_with (first
        | (refine wpList_bldx rfl 23 #[] rfl #[] (by first | rfl | kernel_rfl) _ (HBZ.out _) ?_)
        | (refine wpList_st rfl 23 _ _ rfl _ rfl rfl hK (by rw [hZl]; exact sizeKeyD) rfl ?_))
      refine bodyPost_ret (results_ct (Tryz.results90) _ rfl rfl (hK.setRow Z).cellsAt Tryz.underlying23 rfl (by rw [List.length_map, hZl]; exact sizeKeyD)) rfl ⟨Z, hZl, by rw [HKN.out]; rfl, by rw [HKN.out]; rfl, below_setRow hb (by omega) _⟩
set_option maxHeartbeats 4000000 in
theorem rrHas_any (a s : Int) (hR : RRing w base O own seed v L) :
    Calls Tryz.prog 92 #[.pointer (some ⟨O, 0, none⟩), .agg (dotC a s).toArray] w fun e w' => e = .returned (.bool (keyE L a s).isSome) ∧ Below w.heap.size w w' := by
  obtain ⟨Z, hZl, hZ⟩ : ∃ Z : List Int, Z.length = 32 ∧ Z = List.replicate 32 0 := ⟨_, rfl, rfl⟩
  have hzv : ∀ wx, (zeroValue 23).run Tryz.prog wx = .ok (.agg (row .u8 Z)) wx := fun wx => by rw [hZ]; kernel_rfl
  have hz1 : ¬ (row .u8 Z) = #[] := by intro h; have := congrArg Array.size h; rw [row_size] at this; simp at this; rw [this] at hZl; simp at hZl
  have hD := CellsAt.new w 26 (dotC a s)
  have hb0 : Below w.heap.size w (w.alloc (.cells (dotC a s).toArray 26)) := (Below.refl _ _).alloc (Nat.le_refl _) _
  have hkk := rrKey_any base O own seed v L _ a s (hR.far hb0)
  have rD := hD.wholeM
  have iD : (Tryz.prog.info? 26).map (·.size) = some (dotC a s).length := sizeDot
  generalize (keyE L a s).isSome = KS at hkk ⊢
  clear hZ hR
  go_enter Tryz.func92, Tryz.ntmps92
  go_wp2_with (first
    | (refine wpList_ldv rfl 26 _ rfl _ _ rfl (dotC a s) rD Tryz.underlying26 rfl iD ?_)
    | (go_at_call 90; refine hkk.mono ?_; rintro e w1 ⟨k1, hk1, -, rfl, hb1⟩; have hN1 := Holds.new w1 .u8 23 Z; clear hkk)
    | (refine wpList_st rfl 23 _ _ rfl _ rfl rfl hN1 (by rw [hk1]; exact sizeKeyD) (by rw [hZl, hk1]) ?_))
  go_ret
  have q := hb0.trans (hb1.mono hb0.size)
  exact ⟨rfl, below_setRow (q.alloc q.size _) q.size _⟩
structure RRTo (w w' : World) (base O : Nat) (own : Int) (seed : List Int) (v v' : Value) (L' : List Ep) : Prop where
  at_ : RRing w' base O own seed v' L'
  turn : Turn (rrB O v) w w'
  own : v'.ownBlock = v.ownBlock ∨ ∃ g, v'.ownBlock = some g ∧ w.heap.size ≤ g
def addE (L : List Ep) (a s : Int) (k : List Int) : List Ep := if (keyE L a s).isSome = true ∨ 16 ≤ L.length then L else L ++ [((a, s), k)]
set_option maxHeartbeats 8000000 in
theorem rrAdd_any (a s : Int) (k : List Int) (hk : k.length = 32) (hR : RRing w base O own seed v L) (hbase : base ≤ w.heap.size) :
    Calls Tryz.prog 40 #[.pointer (some ⟨O, 0, none⟩), .agg (dotC a s).toArray, .agg (row .u8 k)] w fun e w' => ∃ n v', e = .returned (.int .i64 n) ∧ RRTo w w' base O own seed v v' (addE L a s k) := by
  have hD := (CellsAt.new w 26 (dotC a s)).alloc (.cells (row .u8 k) 23)
  have hK := CellsAt.new (w.alloc (.cells (dotC a s).toArray 26)) 23 (k.map (Value.int .u8))
  rw [World.size_alloc] at hK
  have hb0 : Below w.heap.size w ((w.alloc (.cells (dotC a s).toArray 26)).alloc (.cells (row .u8 k) 23)) := ((Below.refl _ _).alloc (Nat.le_refl _) _).alloc (by simp) _
  have HR := Veil.mk (fun W (hb : Below w.heap.size w W) => hR.far hb)
  have HHS : Veil (∀ W, Below w.heap.size w W → Calls Tryz.prog 92 #[.pointer (some ⟨O, 0, none⟩), .agg (dotC a s).toArray] W fun e w' => e = .returned (.bool (keyE L a s).isSome) ∧ Below W.heap.size W w') := ⟨fun W hb => rrHas_any base O own seed v L W a s (hR.far hb)⟩
  have HAE : Veil (addE L a s k = if (keyE L a s).isSome = true ∨ 16 ≤ L.length then L else L ++ [((a, s), k)]) := ⟨rfl⟩
  have iD : (Tryz.prog.info? 26).map (·.size) = some (dotC a s).length := sizeDot
  have iK : (Tryz.prog.info? 23).map (·.size) = some (k.map (Value.int .u8)).length := by rw [List.length_map, hk]; exact sizeKeyD
  have HEB : Veil (∀ wx, (Instr.build 138 #[(0, .agg (dotC a s).toArray), (1, .agg (k.map (Value.int .u8)).toArray)]).run Tryz.prog wx = .ok (.agg (epC a s k).toArray) wx) := ⟨fun wx => epoch_built a s k hk wx⟩
  have hEl := epC_length a s k hk
  have h1E : ∀ u ∈ epC a s k, u.oneCell' = true := fun u hu => by
    unfold epC dotC at hu
    simp only [List.mem_append, List.mem_cons, List.not_mem_nil, or_false, List.mem_map] at hu
    rcases hu with (rfl | rfl) | ⟨x, _, rfl⟩ <;> rfl
  have HINS : Veil (∀ g, rrB O v g → g < w.heap.size) := ⟨fun g hg => (hR.inside g hg).1⟩
  have HK := Veil.mk (And.intro hR.seed32 (And.intro hR.k32 (And.intro hR.lenL hk)))
  have HBO : Veil (base ≤ O) := ⟨hR.baseO⟩
  obtain ⟨x, c, hv⟩ := hR.own.isSlice
  rw [List.length_map] at hv
  have uD := Tryz.underlying26
  have uK := Tryz.underlying23
  have hAl : (row .u8 k) = (k.map (Value.int .u8)).toArray := rfl
  rw [hAl] at hD hb0 ⊢
  clear hAl
  generalize hKV : k.map (Value.int .u8) = KV at hD hK hb0 iK HEB ⊢
  clear hKV hR
  obtain ⟨n, hn⟩ : ∃ q, L.length = q := ⟨_, rfl⟩
  have HN := Veil.mk hn
  rw [hn] at hv HAE
  subst hv
  clear hn
  go_enter Tryz.func40, Tryz.ntmps40
  go_upto_region 3 with fail
  refine forget (p := fun y => Code.wp _ _ _ _ y) (fun W => Below w.heap.size w W ∧ CellsAt W w.heap.size 26 (dotC a s) ∧ CellsAt W (w.heap.size + 1) 23 KV) ⟨hb0, hD, hK⟩ ?_
  clear hb0 hD hK
  rintro W ⟨hb, hD, hK⟩
  have rD := hD.wholeM
  have hhs := HHS.out W hb
  clear HHS
  cases hks : (keyE L a s).isSome with
  | true =>
    have HE : Veil (addE L a s k = L) := ⟨by rw [HAE.out, if_pos (.inl hks)]⟩
    rw [hks] at hhs
    clear hks
    go_wp2_with (first
      | (refine wpList_ldv rfl 26 _ rfl _ _ rfl (dotC a s) rD uD rfl iD ?_)
      | (go_at_call 92; refine hhs.mono ?_; rintro e w1 ⟨rfl, hb1⟩))
    go_ret
    have q := hb.trans (hb1.mono hb.size)
    exact ⟨_, _, rfl, ⟨by rw [HE.out]; exact HR.out _ q, Turn.of_below q, .inl rfl⟩⟩
  | false =>
    rw [hks] at hhs
    by_cases h16 : 16 ≤ n
    · have HE : Veil (addE L a s k = L) := ⟨by rw [HAE.out, if_pos (.inr h16)]⟩
      have h16i : (n : Int) ≥ 16 := by omega
      have HC : Veil (∀ w1, Below W.heap.size W w1 → Below w.heap.size w w1 ∧ w1.cell? ⟨O, 33, none⟩ = some (.slice x n c)) := ⟨fun w1 h => ⟨hb.trans (h.mono hb.size), (HR.out w1 (hb.trans (h.mono hb.size))).cell33⟩⟩
      clear hks h16
      go_wp2_with (first
        | (refine wpList_ldv rfl 26 _ rfl _ _ rfl (dotC a s) rD uD rfl iD ?_)
        | (go_at_call 92; refine hhs.mono ?_; rintro e w1 ⟨rfl, hb1⟩; obtain ⟨hB1, c33⟩ := HC.out w1 hb1))
      go_ret
      exact ⟨_, _, rfl, ⟨by rw [HE.out]; exact HR.out _ hB1, Turn.of_below hB1, .inl rfl⟩⟩
    · have HE : Veil (addE L a s k = L ++ [((a, s), k)]) := ⟨by rw [HAE.out, if_neg (fun q => by rcases q with q | q; rw [hks] at q; cases q; exact h16 q)]⟩
      have h16i : ¬ (n : Int) ≥ 16 := by omega
      have HC : Veil (∀ w1, Below W.heap.size W w1 → Below w.heap.size w w1 ∧ w1.cell? ⟨O, 33, none⟩ = some (.slice x n c)) := ⟨fun w1 h => ⟨hb.trans (h.mono hb.size), (HR.out w1 (hb.trans (h.mono hb.size))).cell33⟩⟩
      clear hks
      go_upto_region 7 with (first
        | (refine wpList_ldv rfl 26 _ rfl _ _ rfl (dotC a s) rD uD rfl iD ?_)
        | (go_at_call 92; refine hhs.mono ?_; rintro e w1 ⟨rfl, hb1⟩; obtain ⟨hB1, c33⟩ := HC.out w1 hb1))
      have hD1 := hD.farM hb1
      have hK1 := hK.farM hb1
      refine wp_region_gate (fun w' => w'.cell? ⟨O, 33, none⟩ = some (.slice x n c) ∧ w'.rangeAt w.heap.size 0 (dotC a s) ∧ w'.rangeAt (w.heap.size + 1) 0 KV) 12 (by kernel_rfl) ?_
      refine forget (p := fun y => wpAnyG _ _ _ _ _ _ _ _ _ y) (fun V => Below w.heap.size w V ∧ CellsAt V w.heap.size 26 (dotC a s) ∧ CellsAt V (w.heap.size + 1) 23 KV) ⟨hB1.drew, hD1.congr rfl, hK1.congr rfl⟩ ?_
      clear hD1 hK1 hB1 c33 hb1 HC hhs rD hb hD hK
      clear w1 W
      rintro V ⟨hb, hD, hY⟩
      have HSS : ∀ V, Below w.heap.size w V → CellsAt V w.heap.size 26 (dotC a s) → CellsAt V (w.heap.size + 1) 23 KV → (fun w' : World => w'.cell? ⟨O, 33, none⟩ = some (.slice x n c) ∧ w'.rangeAt w.heap.size 0 (dotC a s) ∧ w'.rangeAt (w.heap.size + 1) 0 KV) V := fun V h1 h2 h3 => ⟨(HR.out V h1).cell33, h2.wholeM, h3.wholeM⟩
      have hS := HSS V hb hD hY
      have hsz := hD.lt
      have HVS : Veil (w.heap.size ≤ V.heap.size) := ⟨hb.size⟩
      refine wpAnyG_any (i := 0) (v := ?_) rfl (by kernel_rfl) (by kernel_rfl) (by kernel_rfl) (fun _ _ _ h => h) (by kernel_rfl) (fun _ => hS) (by kernel_rfl) ?_ ?_
      rotate_left
      · intro _; go_simp; try with_reducible rfl
      simp only [Act.put, gA, gS, gZ, sI, sZ, sS]
      refine wpAnyG_any (i := 1) (v := ?_) rfl (by kernel_rfl) (by kernel_rfl) (by kernel_rfl) (fun _ _ _ h => h) (by kernel_rfl) (fun _ => hS) (by kernel_rfl) ?_ ?_
      rotate_left
      · intro _; go_simp; try with_reducible rfl
      simp only [Act.put, gA, gS, gZ, sI, sZ, sS]
      refine wpAnyG_any (i := 2) (v := ?_) rfl (by kernel_rfl) (by kernel_rfl) (by kernel_rfl) (fun _ _ _ h => h) (by kernel_rfl) (fun _ => hS) (by kernel_rfl) ?_ ?_
      rotate_left
      · intro _; go_simp; try with_reducible rfl
      simp only [Act.put, gA, gS, gZ, sI, sZ, sS]
      refine wpAnyG_any (i := 3) (v := ?_) rfl (by kernel_rfl) (by kernel_rfl) (by kernel_rfl) (fun _ _ _ h => h) (by kernel_rfl) (fun _ => hS) (by kernel_rfl) ?_ ?_
      rotate_left
      · intro _; go_simp; try with_reducible rfl
      simp only [Act.put, gA, gS, gZ, sI, sZ, sS]
      refine wpAnyG_read (i := 4) (v := ?_) rfl (by kernel_rfl) (by kernel_rfl) (by kernel_rfl) (fun _ _ _ h => h) (by kernel_rfl) (by kernel_rfl) (by kernel_rfl) hS (by kernel_rfl) ?_ ?_
      rotate_left
      · intro wx hSw; go_split_ands; go_simp; try with_reducible rfl
      simp only [Act.put, gA, gS, gZ, sI, sZ, sS]
      refine wpAnyG_load (i := 5) (dst := some 26) (ty := 26) (x := .tmp 4) (b := w.heap.size) (o := (0)) (cs := (dotC a s)) (by kernel_rfl) (by kernel_rfl) (by kernel_rfl) (by kernel_rfl) (by kernel_rfl) (fun _ _ _ h => h) (by kernel_rfl) (by kernel_rfl) (by kernel_rfl) hS (by kernel_rfl) (fun _ h => h.2.1) uD rfl iD ?_
      simp only [Act.put, gA, gS, gZ, sI, sZ, sS]
      refine wpAnyG_load (i := 6) (dst := some 27) (ty := 23) (x := .tmp 5) (b := (w.heap.size + 1)) (o := (0)) (cs := KV) (by kernel_rfl) (by kernel_rfl) (by kernel_rfl) (by kernel_rfl) (by kernel_rfl) (fun _ _ _ h => h) (by kernel_rfl) (by kernel_rfl) (by kernel_rfl) hS (by kernel_rfl) (fun _ h => h.2.2) uK rfl iK ?_
      simp only [Act.put, gA, gS, gZ, sI, sZ, sS]
      refine wpAnyG_read (i := 7) (v := .agg (epC a s k).toArray) rfl (by kernel_rfl) (by kernel_rfl) (by kernel_rfl) (fun _ _ _ h => h) (by kernel_rfl) (by kernel_rfl) (by kernel_rfl) hS (by kernel_rfl) (fun wx h => execBuildT 138 _ rfl #[(0, .agg (dotC a s).toArray), (1, .agg KV.toArray)] (by kernel_rfl) (HEB.out wx)) ?_
      simp only [Act.put, gA, gS, gZ, sI, sZ, sS]
      refine wpAnyG_one (i := 8) rfl (by kernel_rfl) (by kernel_rfl) (fun K hK => ?_)
      refine wp_bs1 133 138 _ rfl (epC a s k) rfl Tryz.underlying133 epoch_info (by decide) (by decide) hEl ?_
      have hb2 : Below V.heap.size V (V.alloc (.cells (epC a s k).toArray 138)) := (Below.refl _ _).alloc (Nat.le_refl _) _
      have hB2 := hb.trans (hb2.mono hb.size)
      have hr2 := (CellsAt.new V 138 (epC a s k)).wholeM
      replace hS := HSS _ hB2 (hD.farM hb2) (hY.farM hb2)
      refine hK.out _ _ (fun _ => hS) ?_
      clear hK K
      try simp only [Act.put, gA, gS, gZ, sI, sZ, sS]
      obtain ⟨v3, W3, hr3, hv3, hg3, hw3⟩ := (HR.out _ hB2).own.app (P := Tryz.prog) 133 133 Tryz.underlying133 epoch_info (by rfl) (by decide) (epC a s k) hEl h1E V.heap.size hr2 (by rw [List.length_map, HN.out]; omega) (by decide) (by have := hB2.size; omega)
      refine wpAnyG_one (i := 9) rfl (by kernel_rfl) (by kernel_rfl) (fun K hK => ?_)
      refine wpx_app _ _ 133 133 rfl _ _ _ _ rfl rfl hr3 ?_
      have hT3 : Turn (rrB O (.slice x n c)) w W3 := (Turn.of_below hB2).trans (Turn.of_grown hg3 (fun k hk => .inr hk))
      have hb3 : Below w.heap.size w W3 → True := fun _ => trivial
      have hbox : CellsAt W3 O 135 (rringC own seed (.slice x n c)) := (HR.out _ hB2).box.congr (hg3.block O (HR.out _ hB2).box.lt (fun q => by
        obtain ⟨_, _, cur, hc⟩ := (HR.out _ hB2).own.blockLt O q.symm
        have := (HR.out _ hB2).box
        unfold CellsAt at this
        rw [hc] at this
        injection this with this
        injection this with _ e2 _
        exact absurd e2 (by decide)))
      have hD3 : CellsAt W3 w.heap.size 26 (dotC a s) := (hD.farM hb2).congr (hg3.block _ (hD.farM hb2).lt (fun q => by have := HINS.out _ (.inr q.symm); omega))
      have hY3 : CellsAt W3 (w.heap.size + 1) 23 KV := (hY.farM hb2).congr (hg3.block _ (hY.farM hb2).lt (fun q => by have := HINS.out _ (.inr q.symm); omega))
      have c33 : W3.cell? ⟨O, 33, none⟩ = some (.slice x n c) := by
        have hl : ([Value.int .u8 own] ++ seed.map (Value.int .u8)).length = 33 := by simp [HK.out.1]
        rw [hbox.cell]
        unfold rringC
        rw [List.getElem?_append_right (by omega), hl]; rfl
      have g33 := hbox.frozen 33
      have HNE : Veil (∀ g, v3.ownBlock = some g → g ≠ O) := ⟨fun g hg e => by
        obtain ⟨_, _, cur, hc⟩ := hv3.blockLt g hg
        have := hbox
        unfold CellsAt at this
        rw [e] at hc
        rw [hc] at this
        injection this with this
        injection this with _ e2 _
        exact absurd e2 (by decide)⟩
      have HALL := Veil.mk (And.intro hv3 (And.intro hT3 (And.intro hbox hw3)))
      obtain ⟨x3, c3, hx3⟩ := hv3.isSlice
      replace hS : (fun w' : World => w'.cell? ⟨O, 33, none⟩ = some (.slice x n c) ∧ w'.rangeAt w.heap.size 0 (dotC a s) ∧ w'.rangeAt (w.heap.size + 1) 0 KV) W3 := ⟨c33, hD3.wholeM, hY3.wholeM⟩
      generalize (L.map epD ++ [epC a s k]).length = m3 at hx3
      subst hx3
      clear hb3 hv3 hT3 hw3 hg3 hD3 hY3 hr3 hr2 hb2 hB2 hb hD hY HSS HEB HR
      refine hK.out _ _ (fun _ => hS) ?_
      clear hK K
      try simp only [Act.put, gA, gS, gZ, sI, sZ, sS]
      refine wpAnyG_any (i := 10) (v := ?_) rfl (by kernel_rfl) (by kernel_rfl) (by kernel_rfl) (fun _ _ _ h => h) (by kernel_rfl) (fun _ => hS) (by kernel_rfl) ?_ ?_
      rotate_left
      · intro _; go_simp; try with_reducible rfl
      simp only [Act.put, gA, gS, gZ, sI, sZ, sS]
      refine wpAnyG_any (i := 11) (v := ?_) rfl (by kernel_rfl) (by kernel_rfl) (by kernel_rfl) (fun _ _ _ h => h) (by kernel_rfl) (fun _ => hS) (by kernel_rfl) ?_ ?_
      rotate_left
      · intro _; go_simp; try with_reducible rfl
      simp only [Act.put, gA, gS, gZ, sI, sZ, sS]
      refine wpAnyG_one (i := 12) rfl (by kernel_rfl) (by kernel_rfl) (fun K hK => ?_)
      go_simp
      refine hK.out _ _ (fun h => absurd (show true = false from h) (by decide)) ?_
      clear hK K
      try simp only [Act.put, gA, gS, gZ, sI, sZ, sS]
      refine wpAnyG_done (by kernel_rfl) ?_ _
      clear hS c33 g33
      go_wp2
      go_ret
      obtain ⟨hv3, hT3, hbox, hw3⟩ := HALL.out
      have hset : (rringC own seed (.slice x n c)).set 33 (.slice x3 m3 c3) = rringC own seed (.slice x3 m3 c3) := by
        have hl : ([Value.int .u8 own] ++ seed.map (Value.int .u8)).length = 33 := by simp [HK.out.1]
        unfold rringC
        rw [List.set_append_right _ _ (by omega), hl]; rfl
      have hbox2 := hbox.set 33 (.slice x3 m3 c3)
      rw [hset] at hbox2
      refine ⟨_, .slice x3 m3 c3, rfl, ⟨?_, hT3.trans (Turn.of_setCell W3 (a := ⟨O, 33, none⟩) (.inl rfl) _), ?_⟩⟩
      · rw [HE.out]
        refine ⟨hbox2, ?_, HK.out.1, ?_, ?_, ?_⟩
        · have hq := hv3.congr (w' := W3.setCell ⟨O, 33, none⟩ (.slice x3 m3 c3)) (fun g hg => Below.heap_setCell _ _ _ g (HNE.out g hg))
          rw [List.map_append]
          exact hq
        · intro e he
          rcases List.mem_append.1 he with h | h
          · exact HK.out.2.1 e h
          · rw [List.mem_singleton.1 h]; exact HK.out.2.2.2
        · rw [List.length_append, HN.out]; simp; omega
        · have hO := HINS.out O (.inl rfl); have := HBO.out; omega
      · rcases hw3 with h | h
        · exact .inl h
        · exact .inr ⟨_, h, by have := HVS.out; rw [World.size_alloc]; omega⟩
end
end Go.Proofs.YtfainlfiphdaeaaGreatDoor
