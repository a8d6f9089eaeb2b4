/- KeysPlaysW -/
import Derived.Test.YtflkhkmejnpapaaGreatDoorK47
import Derived.Test.YtflkhkmejnpapaaGreatDoorK48
import Derived.Test.YtflkhkmejnpapaaGreatDoorK32
namespace Go.Proofs.YtflkhkmejnpapaaGreatDoor
open Go.RowKit
set_option maxRecDepth 20000
set_option linter.unusedSimpArgs false
theorem same11_play {w : World} {base H O : Nat} {own : Int} {seed : List Int} (h : PlayK w base H O own seed) (hKT : S.KTab w) (a s p : Int) (ho : okD a s) :
    Calls Tryz.prog 7 #[.pointer (some ⟨H, 0, none⟩), .pointer (some ⟨O, 0, none⟩), .agg (dotC a s).toArray, .int .u8 p] w fun e w' => e = .returned (.bool true) ∧ Below w.heap.size w w' := by
 obtain ⟨b, M, v, D, u, L, q⟩ := h.both
 exact same11_any base H O own seed b M v D u L w a s p ho q hKT
theorem dotz_built (w : World) : (Instr.build 33 #[]).run Tryz.prog w = .ok (.agg (dotC 0 0).toArray) w := by kernel_rfl
set_option maxHeartbeats 8000000 in
theorem kplays_walk (own : Int) (seed : List Int) (x : Option Addr) (len cap : Nat) (ds : List Deed) (w : World) (ho : 0 ≤ own ∧ own ≤ 255) (hs32 : seed.length = 32) (hL : DeedsK w x len cap ds) (hKT : S.KTab w) :
    Calls Tryz.prog 3 #[.int .u8 own, .agg (row .u8 seed), .slice x len cap] w fun e w' => e = .returned (.bool true) ∧ Below w.heap.size w w' := by
 have hB : Below w.heap.size w (w.alloc (.cells (row .u8 seed) 23)) := (Below.refl _ _).alloc (Nat.le_refl _) _
 have hs0 := Holds.new w .u8 23 seed
 have HPL : Veil (∀ W, Below w.heap.size w W → Calls Tryz.prog 5 #[.int .u8 own, .agg (row .u8 seed), .slice x len cap] W fun e w' => ∃ H O, e = .returned (.tuple #[.pointer (some ⟨H, 0, none⟩), .pointer (some ⟨O, 0, none⟩), .bool true]) ∧ PlayK w' (W.heap.size + 1) H O (own % 8) seed ∧ Below W.heap.size W w') := ⟨fun W hb => play11_any own seed x len cap ds W ho hs32 (hL.below hb) (hKT.below hb)⟩
 have HLV : Veil (∀ W, Below w.heap.size w W → Calls Tryz.prog 6 #[] W fun e w' => e = .returned (.bool true) ∧ Below W.heap.size W w') := ⟨fun W hb => klive_any W (hKT.below hb)⟩
 have HL := Veil.mk hL
 have HKT := Veil.mk hKT
 have hle := hL.le
 have htop := hL.top
 have HLE := Veil.mk hL.len_eq
 have uK := Tryz.underlying23
 have iS : (Tryz.prog.info? 23).map (·.size) = some (seed.map (Value.int .u8)).length := by rw [List.length_map, hs32]; exact sizeKeyD
 have HDZ := Veil.mk dotz_built
 obtain ⟨o1, ho1⟩ : ∃ q, IntKind.u8.wrap (own + 1) = q := ⟨_, rfl⟩
 clear hL hKT
 go_enter Tryz.func3, Tryz.ntmps3
 go_upto_region 1 with fail
 refine forget (p := fun y => Code.wp _ _ _ _ y) (fun W => Below w.heap.size w W ∧ Holds W w.heap.size .u8 23 seed) ⟨hB, hs0⟩ ?_
 clear hB hs0
 rintro W ⟨hB, hs0⟩
 have hpl := HPL.out W hB
 go_upto_region 2 with (first
  | (refine wpList_ld rfl 23 _ rfl _ rfl hs0 Tryz.underlying23 sizeKeyD hs32 ?_)
  | (go_at_call 5; refine hpl.mono ?_; rintro e W1 ⟨H, O, rfl, hP1, hb1⟩; clear hpl))
 have hB1 := hB.trans (hb1.mono hB.size)
 have hlv := HLV.out W1 hB1
 obtain ⟨bs, hbs⟩ : ∃ q, W.heap.size + 1 = q := ⟨_, rfl⟩
 rw [hbs] at hP1
 clear hs0 hb1 hB hbs W
 go_wp2_with (go_at_call 6; refine hlv.mono ?_; rintro e W2 ⟨rfl, hb2⟩; clear hlv)
 have hB2 := hB1.trans (hb2.mono hB1.size)
 have hP2 := hP1.far hb2
 clear hP1 hB1 hb2 HPL HLV W1
 go_loopw [10] (fun q wr => ∃ i : Nat, q = .int .i64 (i : Nat) ∧ i ≤ len ∧ PlayK wr bs H O (own % 8) seed ∧ Below w.heap.size w wr) (fun q _ => 3 - (intOf q).toNat)
 case atStart => exact ⟨0, rfl, Nat.zero_le _, hP2, hB2⟩
 case round =>
  clear hP2 hB2
  obtain ⟨i, rfl, hi, hPl, hbr⟩ := hrel
  by_cases hin : i < len ∧ i < 3
  · obtain ⟨h1, h2⟩ := hin
    have hiL : i < ds.length := by have := HLE.out; omega
    have d1 : decide ((i : Int) < (len : Int)) = true := by simp; omega
    have d2 : decide ((i : Int) < 3) = true := by simp; omega
    have l1 : (i : Int) < (len : Int) := by omega
    have l2 : (i : Int) < 3 := by omega
    have hi0 : (0 : Int) ≤ (i : Int) := by omega
    have hww : IntKind.i64.wrap ((i : Int) + 1) = (i : Int) + 1 := by rw [IntKind.wrap_i64]; omega
    have HBR : Veil (Below w.heap.size w wr) := ⟨hbr⟩
    obtain ⟨g, off, rfl, hdr⟩ := (HL.out.below hbr).deed hiL
    have hdok := HL.out.ok _ (List.getElem_mem hiL)
    obtain ⟨d, hd⟩ : ∃ q, ds[i] = q := ⟨_, rfl⟩
    rw [hd] at hdr hdok
    have rD : wr.drew.rangeAt g (off + i * 87 + 1) (dotC d.ea d.es) := by
     intro j v hv
     have := hdr (1 + j) v (by rw [← hv]; rcases j with _ | _ | j <;> first | rfl | (exact absurd hv (by simp [dotC])))
     rw [← Nat.add_assoc] at this
     exact this
    have cF : wr.drew.cell? ⟨g, off + i * 87 + 35, none⟩ = some (.int .u8 d.from_) := by
     exact hdr 35 _ (deed_from d hdok.k32)
    have hsm := same11_play (hPl.far (Below.refl _ _).drew) ((HKT.out.below hbr).below (Below.refl _ _).drew) d.ea d.es d.from_ hdok.dot
    have iD : (Tryz.prog.info? 33).map (·.size) = some (dotC d.ea d.es).length := sizeDot
    have uD := Tryz.underlying33
    clear hd hbr hiL hdr hdok
    go_upto_region 7 with fail
    refine wp_region_gateT (fun w' => w'.rangeAt g (off + i * 87 + 1) (dotC d.ea d.es) ∧ w'.cell? ⟨g, off + i * 87 + 35, none⟩ = some (.int .u8 d.from_)) (fun _ => True) 99 (by kernel_rfl) ?_
    have hT : (fun w' : World => w'.rangeAt g (off + i * 87 + 1) (dotC d.ea d.es) ∧ w'.cell? ⟨g, off + i * 87 + 35, none⟩ = some (.int .u8 d.from_)) wr.drew := ⟨rD, cF⟩
    have hS : (fun _ : World => True) wr.drew := trivial
    refine ghA 0 _ hT hS ?_
    simp only [Act.put, gA, gS, gZ, sI, sZ, sS]
    refine ghA 1 _ hT hS ?_
    simp only [Act.put, gA, gS, gZ, sI, sZ, sS]
    refine ghA 2 _ hT hS ?_
    simp only [Act.put, gA, gS, gZ, sI, sZ, sS]
    refine ghA 3 _ hT hS ?_
    simp only [Act.put, gA, gS, gZ, sI, sZ, sS]
    refine ghA 4 _ hT hS ?_
    simp only [Act.put, gA, gS, gZ, sI, sZ, sS]
    refine ghA 5 _ hT hS ?_
    simp only [Act.put, gA, gS, gZ, sI, sZ, sS]
    refine ghA 7 _ hT hS ?_
    simp only [Act.put, gA, gS, gZ, sI, sZ, sS]
    refine ghA 8 _ hT hS ?_
    simp only [Act.put, gA, gS, gZ, sI, sZ, sS]
    refine ghA 9 _ hT hS ?_
    simp only [Act.put, gA, gS, gZ, sI, sZ, sS]
    refine ghA 10 _ hT hS ?_
    simp only [Act.put, gA, gS, gZ, sI, sZ, sS]
    refine gl 6 41 33 40 g (off + i * 87 + 1) (dotC d.ea d.es) (by kernel_rfl) (by kernel_rfl) (by kernel_rfl) (fun _ _ _ h => h) hT hS (by kernel_rfl) (fun _ h => h.1) uD rfl iD ?_
    simp only [Act.put, gA, gS, gZ, sI, sZ, sS]
    refine ghA 11 _ hT hS ?_
    simp only [Act.put, gA, gS, gZ, sI, sZ, sS]
    refine wpAnyT_one (i := 12) rfl (by kernel_rfl) (by kernel_rfl) (fun K hK => ?_)
    refine wpx_call _ _ (by kernel_rfl) (hsm.mono ?_)
    rintro e V1 ⟨rfl, hbq⟩
    refine ⟨_, rfl, ?_⟩
    have hPl1 : PlayK V1 bs H O (own % 8) seed := (hPl.far (Below.refl _ _).drew).far hbq
    have hb1 : Below w.heap.size w V1 := HBR.out.drew.trans (hbq.mono HBR.out.drew.size)
    replace hT : (fun w' : World => w'.rangeAt g (off + i * 87 + 1) (dotC d.ea d.es) ∧ w'.cell? ⟨g, off + i * 87 + 35, none⟩ = some (.int .u8 d.from_)) V1 := ⟨fun j v hv => (hbq.cell (p := ⟨g, off + i * 87 + 1 + j, none⟩) (block_lt_of_cell (rD j v hv))).trans (rD j v hv), (hbq.cell (p := ⟨g, off + i * 87 + 35, none⟩) (block_lt_of_cell cF)).trans cF⟩
    clear hsm hbq hPl rD cF
    refine hK.out _ _ hT (fun _ => hS) ?_
    clear hK K
    try simp only [Act.put, gA, gS, gZ, sI, sZ, sS]
    refine ghA 13 (.bool false) hT hS ?_
    simp only [Act.put, gA, gS, gZ, sI, sZ, sS]
    refine wpAnyT_done (by kernel_rfl) ?_ _
    clear hT hS
    go_wp2
    go_roundw
    case rel => exact ⟨i + 1, by push_cast; rfl, h1, hPl1, hb1⟩
    case measure => simp [intOf]; omega
  · have hsm := same11_play hPl (HKT.out.below hbr) 0 0 o1 (by unfold okD; omega)
    have hcase : i = len ∨ (i < len ∧ 3 ≤ i) := by omega
    rcases hcase with hA | ⟨hA, hA60⟩
    · have l1 : ¬ (i : Int) < (len : Int) := by omega
      have d1 : decide ((i : Int) < (len : Int)) = false := decide_eq_false l1
      go_wp2_with (first
       | (refine wpList_bldx rfl 33 _ rfl #[] (by first | rfl | kernel_rfl) _ (HDZ.out _) ?_)
       | (go_at_call 7; refine hsm.mono ?_; rintro e W3 ⟨rfl, hb3⟩; clear hsm))
      go_ret
      exact ⟨rfl, hbr.trans (hb3.mono hbr.size)⟩
    · have l1 : (i : Int) < (len : Int) := by omega
      have d1 : decide ((i : Int) < (len : Int)) = true := decide_eq_true l1
      have l2 : ¬ (i : Int) < 3 := by omega
      have d2 : decide ((i : Int) < 3) = false := decide_eq_false l2
      go_wp2_with (first
       | (refine wpList_bldx rfl 33 _ rfl #[] (by first | rfl | kernel_rfl) _ (HDZ.out _) ?_)
       | (go_at_call 7; refine hsm.mono ?_; rintro e W3 ⟨rfl, hb3⟩; clear hsm))
      go_ret
      exact ⟨rfl, hbr.trans (hb3.mono hbr.size)⟩
end Go.Proofs.YtflkhkmejnpapaaGreatDoor
