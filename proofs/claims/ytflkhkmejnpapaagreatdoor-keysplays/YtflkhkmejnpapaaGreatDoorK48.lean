/- Kd2 Kb8 -/
import Derived.Test.YtflkhkmejnpapaaGreatDoorK44
import Derived.Test.YtflkhkmejnpapaaGreatDoorK46
import Derived.Test.YtflkhkmejnpapaaGreatDoorK22
import Derived.Test.YtflkhkmejnpapaaGreatDoorK26
namespace Go.Proofs.YtflkhkmejnpapaaGreatDoor
open Go.ChangeShapes Go.WideShapes Go.ChangeAt Go.RowKit
set_option maxRecDepth 20000
set_option linter.unusedSimpArgs false
theorem exists_listK {α : Type} (n : Nat) (P : Nat → α → Prop) (h : ∀ i, i < n → ∃ a, P i a) : ∃ l : List α, l.length = n ∧ ∀ i (_ : i < n), ∃ hl : i < l.length, P i (l[i]'hl) := by
 induction n with
 | zero => exact ⟨[], rfl, fun i hi => by omega⟩
 | succ n ih =>
  obtain ⟨l, hl, hp⟩ := ih fun i hi => h i (by omega)
  obtain ⟨a, ha⟩ := h n (by omega)
  refine ⟨l ++ [a], by simp [hl], fun i hi => ?_⟩
  by_cases e : i < n
  · obtain ⟨h1, h2⟩ := hp i e
    exact ⟨by simp; omega, by rw [List.getElem_append_left h1]; exact h2⟩
  · obtain rfl : i = n := by omega
    refine ⟨by simp [hl], ?_⟩
    rw [List.getElem_append_right (by omega)]
    simpa [hl] using ha
theorem addK_mid (b o j : Nat) : (⟨b, o, none⟩ : Addr).add j = ⟨b, o + j, none⟩ := by unfold Addr.add; split <;> simp_all
structure DeedsK (w : World) (x : Option Addr) (len cap : Nat) (ds : List Deed) : Prop where
 len_eq : len = ds.length
 le : len ≤ cap
 top : cap ≤ 9223372036854775807
 at_ : len = 0 ∨ ∃ b off, x = some ⟨b, off, none⟩ ∧ ∀ j (hj : j < ds.length) (i : Nat) v, ds[j].cells[i]? = some v → w.cell? ⟨b, off + j * 87 + i, none⟩ = some v
 ok : ∀ d ∈ ds, d.Ok
theorem DeedsK.below {w w' : World} {x : Option Addr} {len cap : Nat} {ds : List Deed} (h : DeedsK w x len cap ds) (hb : Below w.heap.size w w') : DeedsK w' x len cap ds :=
 ⟨h.len_eq, h.le, h.top, by
  rcases h.at_ with h0 | ⟨b, off, hx, hc⟩
  · exact .inl h0
  · refine .inr ⟨b, off, hx, fun j hj i v hv => ?_⟩
    have := hc j hj i v hv
    exact (hb.cell (p := ⟨b, off + j * 87 + i, none⟩) (block_lt_of_cell this)).trans this, h.ok⟩
theorem DeedsK.deed {w : World} {x : Option Addr} {len cap : Nat} {ds : List Deed} (h : DeedsK w x len cap ds) {i : Nat} (hi : i < ds.length) : ∃ b off, x = some ⟨b, off, none⟩ ∧ w.rangeAt b (off + i * 87) ds[i].cells := by
 have hl := h.len_eq
 rcases h.at_ with h0 | ⟨b, off, hx, hc⟩
 · omega
 · exact ⟨b, off, hx, fun j v hv => hc i hi j v hv⟩
theorem deeds_of_trodK {H : Type} {enc : TypeId × Value → H} {W : World} {fuel : Nat} {cs : List Value} {x : DataW H × List MemPlace} (h : DataW.trod enc Tryz.prog W 0 (fun _ => true) true fuel 24 cs = some x) : ∃ y len cap ds, cs = [.slice y len cap] ∧ DeedsK W y len cap ds := by
 have hc : Tryz.prog.cellsOf 38 = 87 := by kernel_rfl
 rcases DataW.trod_slice Tryz.underlying24 h with ⟨hcs, _⟩ | ⟨a, len, cap, elems, rest, m, _, hcs, _, _, hl, hm, hlen, hel, _⟩
 · exact ⟨none, 0, 0, [], hcs, ⟨rfl, by omega, by omega, .inl rfl, (fun e he => by cases he)⟩⟩
 · have each : ∀ i, i < len → ∃ e : Deed, (∀ (j : Nat) v, e.cells[j]? = some v → W.cell? ((a.add (i * 87)).add j) = some v) ∧ e.Ok := fun i hi => by
    have h1 := hel i hi
    rw [hc, List.getElem?_eq_getElem (by omega), Option.bind_eq_some_iff] at h1
    obtain ⟨ci, hci, hti⟩ := h1
    obtain ⟨e, rfl, hin⟩ := deed_of_trod hti
    have hs := World.cells?_some hci
    refine ⟨e, fun j v hv => ?_, hin⟩
    have hj : j < 87 := by
     have := (List.getElem?_eq_some_iff.1 hv).1
     have := hs.2.1
     omega
    rw [hs.2.2 j hj]; exact hv
   obtain ⟨ds, hdl, hds⟩ := exists_listK len _ each
   refine ⟨some a, len, cap, ds, hcs, ⟨hdl.symm, hl, by simpa [maxLen] using hm, ?_, fun e he => ?_⟩⟩
   · by_cases h0 : len = 0
     · exact .inl h0
     · obtain ⟨b, off, spot⟩ := a
       obtain ⟨hl0, h00, _⟩ := hds 0 (by omega)
       have h00 := h00 0 (.int .i64 (ds[0]).kind) rfl
       have hspot : spot = none := by
        have := World.cell?_spot h00
        simpa [Addr.add] using this
       subst hspot
       refine .inr ⟨b, off, rfl, fun j hj i v hv => ?_⟩
       obtain ⟨_, hj2, _⟩ := hds j (by omega)
       have := hj2 i v hv
       rw [addK_mid, addK_mid] at this
       exact this
   · obtain ⟨i, hi, rfl⟩ := List.mem_iff_getElem.1 he
     obtain ⟨_, _, h2⟩ := hds i (by omega)
     exact h2
theorem open_deedsK {H : Type} {enc : TypeId × Value → H} {W : World} {x : Option Addr} {len cap : Nat} {d : DataW H} {p : List MemPlace} (h : DataW.Trod enc Tryz.prog W 0 (fun _ => true) true 24 (.slice x len cap) d p) : ∃ ds, DeedsK W x len cap ds := by
 obtain ⟨fuel, hf⟩ := h
 obtain ⟨y, l, c, ds, hcs, hd⟩ := deeds_of_trodK hf
 simp [Value.cells] at hcs
 obtain ⟨rfl, rfl, rfl⟩ := hcs
 exact ⟨ds, hd⟩
open Go.RowKit
section
variable (base H O : Nat) (own : Int) (seed : List Int) (b : Nat) (M : Int → Int → Option (List Int)) (v : Value) (D : List (Int × Int)) (u : Value) (L : List Ep) (w : World)
theorem do11_any (d : Deed) (hd : d.Ok) (hs32 : seed.length = 32) (h : BothR w base H O own seed b M v D u L) (hKT : S.KTab w) (hbase : base ≤ w.heap.size) :
    Calls Tryz.prog 12 #[.pointer (some ⟨H, 0, none⟩), .pointer (some ⟨O, 0, none⟩), .agg (row .u8 seed), .agg d.cells.toArray] w fun e w' => e = .returned (.bool true) ∧ (∃ M' v' D' u' L', BothR w' base H O own seed b M' v' D' u' L') ∧ Below base w w' := by
 by_cases h0 : d.kind = 0
 · exact do0_any base H O own seed b M v D u L w d hd h0 h hbase
 by_cases h1 : d.kind = 1
 · exact do1_any base H O own seed b M v D u L w d hd h1 h hKT hbase
 by_cases h2 : d.kind = 2
 · exact do2_any base H O own seed b M v D u L w d hd h2 hs32 h hKT hbase
 · exact (doN_any H O seed w d h0 h1 h2).mono fun e w' ⟨he, hb⟩ => ⟨he, ⟨M, v, D, u, L, h.far hb⟩, hb.mono hbase⟩
end
theorem OwnD.lessK {w : World} {base base' : Nat} {v : Value} {L : List (Int × Int)} (h : OwnD w base v L) (hb : base' ≤ base) : OwnD w base' v L :=
 ⟨h.1, by rcases h.2 with q | ⟨g, cap, cur, h1, h2, q⟩; exact .inl q; exact .inr ⟨g, cap, cur, h1, Nat.le_trans hb h2, q⟩⟩
theorem RingAt.down {w : World} {base base' H : Nat} {own : Int} {seed : List Int} {b : Nat} {M : Int → Int → Option (List Int)} {v : Value} {L : List (Int × Int)} (h : RingAt w base H own seed b M v L) (hb : base' ≤ base) : RingAt w base' H own seed b M v L :=
 ⟨h.box, h.map, h.added.lessK hb, h.seed32, h.is32, h.lenL, Nat.le_trans hb h.baseH, Nat.le_trans hb h.baseB⟩
theorem RRing.down {w : World} {base base' O : Nat} {own : Int} {seed : List Int} {v : Value} {L : List Ep} (h : RRing w base O own seed v L) (hb : base' ≤ base) : RRing w base' O own seed v L :=
 ⟨h.box, h.own.less hb, h.seed32, h.k32, h.lenL, Nat.le_trans hb h.baseO⟩
structure PlayK (w : World) (base H O : Nat) (own : Int) (seed : List Int) : Prop where
 both : ∃ b M v D u L, BothR w base H O own seed b M v D u L
theorem PlayK.far {w w' : World} {base H O : Nat} {own : Int} {seed : List Int} (h : PlayK w base H O own seed) (hb : Below w.heap.size w w') : PlayK w' base H O own seed := by
 obtain ⟨b, M, v, D, u, L, q⟩ := h.both
 exact ⟨b, M, v, D, u, L, q.far hb⟩
theorem sizeDeedK : (Tryz.prog.info? 38).map (·.size) = some 87 := by kernel_rfl
set_option maxHeartbeats 8000000 in
theorem play11_any (own : Int) (seed : List Int) (x : Option Addr) (len cap : Nat) (ds : List Deed) (w : World) (ho : 0 ≤ own ∧ own ≤ 255) (hs32 : seed.length = 32) (hL : DeedsK w x len cap ds) (hKT : S.KTab w) :
    Calls Tryz.prog 5 #[.int .u8 own, .agg (row .u8 seed), .slice x len cap] w fun e w' => ∃ H O, e = .returned (.tuple #[.pointer (some ⟨H, 0, none⟩), .pointer (some ⟨O, 0, none⟩), .bool true]) ∧ PlayK w' (w.heap.size + 1) H O (own % 8) seed ∧ Below w.heap.size w w' := by
 have hB : Below w.heap.size w (w.alloc (.cells (row .u8 seed) 23)) := (Below.refl _ _).alloc (Nat.le_refl _) _
 have hs0 := Holds.new w .u8 23 seed
 obtain ⟨o8, ho8⟩ : ∃ q, own % 8 = q := ⟨_, rfl⟩
 have hob : 0 ≤ o8 ∧ o8 < 8 := by omega
 have hrem : IntKind.u8.wrap (own.tmod 8) = o8 := by rw [Int.tmod_eq_emod_of_nonneg ho.1, ho8]; simp [IntKind.wrap, IntKind.bits, IntKind.signed]; omega
 have hrem2 : own.tmod 8 = o8 := by rw [Int.tmod_eq_emod_of_nonneg ho.1, ho8]
 rw [ho8]
 have HN : Veil (∀ W, Below w.heap.size w W → Calls Tryz.prog 10 #[.int .u8 o8, .agg (row .u8 seed)] W fun e w' => ∃ H b v, e = .returned (.pointer (some ⟨H, 0, none⟩)) ∧ RingAt w' W.heap.size H o8 seed b (newM o8 seed) v (newD o8) ∧ Below W.heap.size W w') := ⟨fun W hb => new_any o8 seed W hob.2 hs32 (hKT.below hb)⟩
 have HR : Veil (∀ W, Calls Tryz.prog 11 #[.int .u8 o8, .agg (row .u8 seed)] W fun e w' => ∃ O u, e = .returned (.pointer (some ⟨O, 0, none⟩)) ∧ RRing w' W.heap.size O o8 seed u (rnewL o8 seed) ∧ Below W.heap.size W w') := ⟨fun W => (rnew_any o8 seed W hob.2 hs32).mono fun e w' ⟨H, v, h1, h2, h3, h4, h5⟩ => ⟨H, v, h1, RRing.ofNew h2 h3 hs32 (fun e he => by unfold rnewL at he; split at he; rw [List.mem_singleton.1 he]; exact derL_length _ _; cases he) (by unfold rnewL; split <;> simp) h4, h5⟩⟩
 have HL := Veil.mk hL
 have HKT := Veil.mk hKT
 have hle := hL.le
 have htop := hL.top
 have HLE := Veil.mk hL.len_eq
 have uK := Tryz.underlying23
 have iS : (Tryz.prog.info? 23).map (·.size) = some (seed.map (Value.int .u8)).length := by rw [List.length_map, hs32]; exact sizeKeyD
 have HS32 := Veil.mk hs32
 clear ho8 hL hKT ho
 go_enter Tryz.func5, Tryz.ntmps5
 go_upto_region 1 with fail
 refine forget (p := fun y => Code.wp _ _ _ _ y) (fun W => Below w.heap.size w W ∧ Holds W w.heap.size .u8 23 seed) ⟨hB, hs0⟩ ?_
 clear hB hs0
 rintro W ⟨hB, hs0⟩
 have HT : ∀ V, Below W.heap.size W V → (fun w' : World => w'.rangeAt w.heap.size 0 (seed.map (Value.int .u8))) V := fun V hb => (hs0.cellsAt.farM hb).wholeM
 refine wp_region_gateT (fun w' => w'.rangeAt w.heap.size 0 (seed.map (Value.int .u8))) (fun _ => True) 99 (by kernel_rfl) ?_
 obtain ⟨V0, hV0⟩ : ∃ q, W.drew = q := ⟨_, rfl⟩
 have hB0 : Below W.heap.size W V0 := by rw [← hV0]; exact (Below.refl _ _).drew
 rw [hV0]
 clear hV0
 have hT := HT V0 hB0
 have hS : (fun _ : World => True) V0 := trivial
 refine ghA 0 _ hT hS ?_
 simp only [Act.put, gA, gS, gZ, sI, sZ, sS]
 refine ghA 1 _ hT hS ?_
 simp only [Act.put, gA, gS, gZ, sI, sZ, sS]
 refine ghA 4 _ hT hS ?_
 simp only [Act.put, gA, gS, gZ, sI, sZ, sS]
 refine ghA 5 _ hT hS ?_
 simp only [Act.put, gA, gS, gZ, sI, sZ, sS]
 refine gl 2 14 23 4 w.heap.size 0 ((seed.map (Value.int .u8))) (by kernel_rfl) (by kernel_rfl) (by kernel_rfl) (fun _ _ _ h => h) hT hS (by kernel_rfl) (fun _ h => h) uK rfl iS ?_
 simp only [Act.put, gA, gS, gZ, sI, sZ, sS]
 refine gl 6 18 23 4 w.heap.size 0 ((seed.map (Value.int .u8))) (by kernel_rfl) (by kernel_rfl) (by kernel_rfl) (fun _ _ _ h => h) hT hS (by kernel_rfl) (fun _ h => h) uK rfl iS ?_
 simp only [Act.put, gA, gS, gZ, sI, sZ, sS]
 refine wpAnyT_one (i := 3) rfl (by kernel_rfl) (by kernel_rfl) (fun K hK => ?_)
 refine wpx_call _ _ (by kernel_rfl) ((HN.out V0 (hB.trans (hB0.mono hB.size))).mono ?_)
 rintro e V1 ⟨H, b, v, rfl, hr1, hb1⟩
 refine ⟨_, rfl, ?_⟩
 have hB1 := hB0.trans (hb1.mono hB0.size)
 replace hT := HT V1 hB1
 refine hK.out _ _ hT (fun _ => hS) ?_
 clear hK K
 try simp only [Act.put, gA, gS, gZ, sI, sZ, sS]
 refine wpAnyT_one (i := 7) rfl (by kernel_rfl) (by kernel_rfl) (fun K hK => ?_)
 refine wpx_call _ _ (by kernel_rfl) ((HR.out V1).mono ?_)
 rintro e V2 ⟨O, u, rfl, hr2, hb2⟩
 refine ⟨_, rfl, ?_⟩
 have hB2 := hB1.trans (hb2.mono hB1.size)
 have hw2 := hB.trans (hB2.mono hB.size)
 have hBR : BothR V2 (w.heap.size + 1) H O o8 seed b (newM o8 seed) v (newD o8) u (rnewL o8 seed) := by
  have hs1 := hs0.lt
  have hs2 := hB0.size
  have hs3 := hb1.size
  have hr1' := hr1.far hb2
  refine ⟨hr1'.down (by omega), hr2.down (by omega), LinkR.new o8 seed, fun g hg hq => ?_⟩
  have h1 := (hr1.inside g hg).1
  have h2 := (hr2.inside g hq).2
  omega
 replace hT := HT V2 hB2
 have HB2 := Veil.mk hB2
 have HSR := Veil.mk (hs0.cellsAt.farM hB2)
 clear hr1 hr2 hb1 hb2 hB1 hB0 hB2
 refine hK.out _ _ hT (fun _ => hS) ?_
 clear hK K
 try simp only [Act.put, gA, gS, gZ, sI, sZ, sS]
 refine ghA 8 _ hT hS ?_
 simp only [Act.put, gA, gS, gZ, sI, sZ, sS]
 refine ghA 9 _ hT hS ?_
 simp only [Act.put, gA, gS, gZ, sI, sZ, sS]
 refine wpAnyT_done (by kernel_rfl) ?_ _
 clear hT hS HT
 have hrel0 : PlayK V2 (w.heap.size + 1) H O o8 seed ∧ Below w.heap.size w V2 ∧ CellsAt V2 w.heap.size 23 (seed.map (Value.int .u8)) := ⟨⟨b, _, v, _, u, _, hBR⟩, hw2, HSR.out⟩
 clear HN HR hBR hw2 hs0 HB2 HSR hB
 go_wp2_with fail
 go_loopw [11] (fun q wr => ∃ i : Nat, q = .int .i64 (i : Nat) ∧ i ≤ len ∧ PlayK wr (w.heap.size + 1) H O o8 seed ∧ Below w.heap.size w wr ∧ CellsAt wr w.heap.size 23 (seed.map (Value.int .u8))) (fun q _ => 24 - (intOf q).toNat)
 case atStart => exact ⟨0, rfl, Nat.zero_le _, hrel0⟩
 case round =>
  clear hrel0
  obtain ⟨i, rfl, hi, hPl, hbr, hSr⟩ := hrel
  by_cases hin : i < len ∧ i < 24
  · obtain ⟨h1, h2⟩ := hin
    have hiL : i < ds.length := by have := HLE.out; omega
    have d1 : decide ((i : Int) < (len : Int)) = true := by simp; omega
    have d2 : decide ((i : Int) < 24) = true := by simp; omega
    have l1 : (i : Int) < (len : Int) := by omega
    have l2 : (i : Int) < 24 := by omega
    have hi0 : (0 : Int) ≤ (i : Int) := by omega
    have hww : IntKind.i64.wrap ((i : Int) + 1) = (i : Int) + 1 := by rw [IntKind.wrap_i64]; omega
    have HBR : Veil (Below w.heap.size w wr) := ⟨hbr⟩
    obtain ⟨g, off, rfl, hdr⟩ := (HL.out.below hbr).deed hiL
    have hdok := HL.out.ok _ (List.getElem_mem hiL)
    obtain ⟨d, hd⟩ : ∃ q, ds[i] = q := ⟨_, rfl⟩
    rw [hd] at hdr hdok
    have hgl : g < w.heap.size := by
     rcases HL.out.at_ with h0 | ⟨b', off', hx, hc⟩
     · omega
     · cases hx
       have := hc i hiL 0 (.int .i64 (ds[i]).kind) rfl
       exact block_lt_of_cell this
    have HD := Veil.mk (And.intro hdok hdr)
    have iD : (Tryz.prog.info? 38).map (·.size) = some d.cells.length := by
     have h48 := wp_cells_length d.w hdok.w48
     have : d.cells.length = 87 := by
      simp [Deed.cells, dotC, h48, hdok.k32]
     rw [this]; exact sizeDeedK
    have uD := Tryz.underlying38
    clear hd hbr hiL
    go_upto_region 5 with fail
    obtain ⟨b, M, v, D, u, L, hBR⟩ := hPl.both
    have hdo := do11_any (w.heap.size + 1) H O o8 seed b M v D u L wr.drew d HD.out.1 HS32.out (hBR.far (Below.refl _ _).drew) ((HKT.out.below HBR.out).below (Below.refl _ _).drew) (by have := hSr.lt; show w.heap.size + 1 ≤ wr.heap.size; omega)
    refine wp_region_gateT (fun w' => w'.rangeAt w.heap.size 0 (seed.map (Value.int .u8)) ∧ w'.rangeAt g (off + i * 87) d.cells) (fun _ => True) 99 (by kernel_rfl) ?_
    have hT : (fun w' : World => w'.rangeAt w.heap.size 0 (seed.map (Value.int .u8)) ∧ w'.rangeAt g (off + i * 87) d.cells) wr.drew := ⟨hSr.wholeM, HD.out.2⟩
    have hS : (fun _ : World => True) wr.drew := trivial
    refine ghA 0 _ hT hS ?_
    simp only [Act.put, gA, gS, gZ, sI, sZ, sS]
    refine ghA 1 _ hT hS ?_
    simp only [Act.put, gA, gS, gZ, sI, sZ, sS]
    refine ghA 3 _ hT hS ?_
    simp only [Act.put, gA, gS, gZ, sI, sZ, sS]
    refine ghA 4 _ hT hS ?_
    simp only [Act.put, gA, gS, gZ, sI, sZ, sS]
    refine gl 2 32 23 4 w.heap.size 0 ((seed.map (Value.int .u8))) (by kernel_rfl) (by kernel_rfl) (by kernel_rfl) (fun _ _ _ h => h) hT hS (by kernel_rfl) (fun _ h => h.1) uK rfl iS ?_
    simp only [Act.put, gA, gS, gZ, sI, sZ, sS]
    refine ghA 5 _ hT hS ?_
    simp only [Act.put, gA, gS, gZ, sI, sZ, sS]
    refine gl 6 36 38 35 g (off + i * 87) d.cells (by kernel_rfl) (by kernel_rfl) (by kernel_rfl) (fun _ _ _ h => h) hT hS (by kernel_rfl) (fun _ h => h.2) uD rfl iD ?_
    simp only [Act.put, gA, gS, gZ, sI, sZ, sS]
    refine wpAnyT_one (i := 7) rfl (by kernel_rfl) (by kernel_rfl) (fun K hK => ?_)
    refine wpx_call _ _ (by kernel_rfl) (hdo.mono ?_)
    rintro e V1 ⟨rfl, ⟨M', v', D', u', L', hq⟩, hbq⟩
    refine ⟨_, rfl, ?_⟩
    have hS1 : CellsAt V1 w.heap.size 23 (seed.map (Value.int .u8)) := hSr.congr (hbq.block _ (Nat.lt_succ_self _))
    have hD1 : V1.rangeAt g (off + i * 87) d.cells := fun j x hx => (hbq.cell (p := ⟨g, off + i * 87 + j, none⟩) (by show g < w.heap.size + 1; omega)).trans (HD.out.2 j x hx)
    have hPl1 : PlayK V1 (w.heap.size + 1) H O o8 seed := ⟨b, M', v', D', u', L', hq⟩
    have hb1 : Below w.heap.size w V1 := HBR.out.trans ((Below.drew (Below.refl _ _)).trans (hbq.mono (by show w.heap.size ≤ w.heap.size + 1; omega)))
    replace hT : (fun w' : World => w'.rangeAt w.heap.size 0 (seed.map (Value.int .u8)) ∧ w'.rangeAt g (off + i * 87) d.cells) V1 := ⟨hS1.wholeM, hD1⟩
    clear hdo hq hbq hBR hPl hSr hD1
    refine hK.out _ _ hT (fun _ => hS) ?_
    clear hK K
    try simp only [Act.put, gA, gS, gZ, sI, sZ, sS]
    refine ghA 8 (.bool false) hT hS ?_
    simp only [Act.put, gA, gS, gZ, sI, sZ, sS]
    refine wpAnyT_done (by kernel_rfl) ?_ _
    clear hT hS
    go_wp2
    go_roundw
    case rel => exact ⟨i + 1, by push_cast; rfl, h1, hPl1, hb1, hS1⟩
    case measure => simp [intOf]; omega
  · have hcase : i = len ∨ (i < len ∧ 24 ≤ i) := by omega
    rcases hcase with hA | ⟨hA, hA60⟩
    · have l1 : ¬ (i : Int) < (len : Int) := by omega
      have d1 : decide ((i : Int) < (len : Int)) = false := decide_eq_false l1
      go_wp2
      go_ret3
      exact ⟨H, O, rfl, hPl, hbr⟩
    · have l1 : (i : Int) < (len : Int) := by omega
      have d1 : decide ((i : Int) < (len : Int)) = true := decide_eq_true l1
      have l2 : ¬ (i : Int) < 24 := by omega
      have d2 : decide ((i : Int) < 24) = false := decide_eq_false l2
      go_wp2
      go_ret3
      exact ⟨H, O, rfl, hPl, hbr⟩
end Go.Proofs.YtflkhkmejnpapaaGreatDoor
