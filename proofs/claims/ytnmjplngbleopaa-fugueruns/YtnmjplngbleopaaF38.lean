/- Fw3 -/
import Derived.Test.YtnmjplngbleopaaF37
namespace Go.Proofs.Ytnmjplngbleopaa
open Go.RowKit Go.Shelf
set_option maxRecDepth 20000
set_option linter.unusedSimpArgs false
theorem mapSideF : Try.prog.underlying 49 = some (.map 56 57) := by kernel_rfl
theorem sizeSide (s : (Int × Int) × Bool) : (Try.prog.info? 56).map (·.size) = some (sideC s).length := by show _ = some 3; kernel_rfl
theorem sideC_one (s : (Int × Int) × Bool) : ∀ u ∈ sideC s, u.oneCell' = true := by
  intro u hu
  simp only [sideC, encF, dotC, List.mem_append, List.mem_cons, List.not_mem_nil, or_false] at hu
  rcases hu with (rfl | rfl) | rfl <;> rfl
theorem MapG.mono {w : World} {b n n' : Nat} {M : (Int × Int) × Bool → Option Value} (h : MapG Try.prog 56 encS okS w b n M) (hn : n ≤ n') : MapG Try.prog 56 encS okS w b n' M := by
  obtain ⟨D, hD, hM⟩ := h
  exact ⟨D, hD.mono hn, hM⟩
structure SdK where
  s : (Int × Int) × Bool
  ok : okS s
set_option maxHeartbeats 16000000 in
theorem forkT_any (base R bc bn : Nat) (N : List Nd) (V : (Int × Int) × Bool → Value) (hlen : N.length ≤ 1000) (w : World) (hT : TreeAt w base R bc bn N V) :
    Calls Try.prog 8 #[.pointer (some ⟨R, 0, none⟩)] w fun e w' => ∃ R' bc' bn' V', e = .returned (.pointer (some ⟨R', 0, none⟩)) ∧ TreeAt w' w.heap.size R' bc' bn' N V' ∧ Below w.heap.size w w' ∧ ∀ k, treeP R' bc' bn' V' k → w.heap.size ≤ k := by
  have HT := Veil.mk hT
  have hbn := hT.nodes.lt
  obtain ⟨D, hown0, hat⟩ := hT.nodes
  have hown := hown0.alloc (.map #[] 0)
  have HMD := Veil.mk (MapG.made (P := Try.prog) (kt := 56) (enc := encS) (ok := okS) w)
  have cN : (w.alloc (.map #[] 0)).cell? ⟨R, 1, none⟩ = some (.map (some bn)) := (hT.box.alloc (.map #[] 0)).cell 1
  have hzm : (w.alloc (.map #[] 0)).heap.size = w.heap.size + 1 := World.size_alloc _ _
  have hbm : Below w.heap.size w (w.alloc (.map #[] 0)) := (Below.refl _ _).alloc (Nat.le_refl _) _
  have HHAS : Veil (∀ s, okS s → ∀ l, keyOf Try.prog 56 (encS s) = some l → Maps.has D l = (sideM N V s).isSome) := ⟨fun s hs l hl => by
    cases hv : sideM N V s with
    | none => exact Maps.has_false_of_atKey fun z => by rw [hat s hs l hl, hv]
    | some v => exact Maps.has_true_of_atKey (y := .held v) fun z => by rw [hat s hs l hl, hv]⟩
  have HAT := Veil.mk hat
  have HSZ : Veil (Maps.size D ≤ N.length) := ⟨hown0.size_le⟩
  clear hat hown0 hT
  have hmm := @run_makeMap Try.prog
  go_enter Try.func8, Try.ntmps8
  go_upto_region 4 with fail
  obtain ⟨wm, hwm⟩ : ∃ q, w.alloc (.map #[] 0) = q := ⟨_, rfl⟩
  rw [hwm] at hown HMD cN hzm hbm ⊢
  clear hwm
  obtain ⟨B, hBB⟩ : ∃ q, w.heap.size = q := ⟨_, rfl⟩
  have HB := Veil.mk hBB
  rw [hBB] at HMD hzm hbm hbn ⊢
  clear hBB
  go_wp2_with (first
    | (at_range; refine wpList_range_own _ rfl _ 49 rfl 56 57 keyEncS.keyed mapSideF _ bn _ D rfl hown ?_; intro w0 hrg0 hg0 hs0)
    | go_in)
  go_frame
  clear hmm cN
  have HOW := Veil.mk hown
  have hb0 : Below wm.heap.size wm w0 := ⟨hg0.os, hg0.tape, hg0.output, hg0.size, fun k hk => hg0.block k hk (by simp)⟩
  have HST : Veil (∃ (left : Lit → Bool) (cnt m : Nat) (M' : (Int × Int) × Bool → Option Value) (V' : (Int × Int) × Bool → Value), w0.ranges Try.prog 56 rawE bn wm.heap.size N.length D left cnt ∧ m + cnt ≤ N.length ∧ MapG Try.prog 56 encS okS w0 B m M' ∧ ForkV w0 B N left M' V' ∧ Below B w w0 ∧ B + 2 ≤ w0.heap.size) := ⟨_, _, 0, fun _ => none, fun _ => .slice none 0 0, hrg0, by rw [Nat.zero_add]; exact HSZ.out, HMD.out.congr (hb0.block _ HMD.out.lt), ForkV.start w0 B N _ V HHAS.out, hbm.trans (hb0.mono (by omega)), by omega⟩
  obtain ⟨r, hr⟩ : ∃ q, wm.heap.size = q := ⟨_, rfl⟩
  rw [hr] at HST hzm ⊢
  have HR : Veil (r = B + 1) := ⟨hzm⟩
  have HBN : Veil (bn < B) := ⟨hbn⟩
  clear hr hzm hb0 hrg0 hg0 hs0 hbm hown HMD HSZ HHAS hbn HOW
  go_loopw [4, 5] (fun _ _ wr => ∃ (left : Lit → Bool) (cnt m : Nat) (M' : (Int × Int) × Bool → Option Value) (V' : (Int × Int) × Bool → Value), wr.ranges Try.prog 56 rawE bn r N.length D left cnt ∧ m + cnt ≤ N.length ∧ MapG Try.prog 56 encS okS wr B m M' ∧ ForkV wr B N left M' V' ∧ Below B w wr ∧ B + 2 ≤ wr.heap.size) (fun _ _ wr => wr.rangeLeft bn r)
  case atStart => exact HST.out
  case round =>
    obtain ⟨left, cnt, m, M', V', hrg, hcs, hMG, hFV, hBw, hz⟩ := hrel
    clear HST
    go_wp2_with (first
      | (at_next; refine wpList_next_ranges _ rfl _ rfl 56 keyEncS.keyed rawE (fun x : SdK => .agg (sideC x.s).toArray) (fun v : Value => v) (fun key kl hk => by obtain ⟨x, e⟩ := sideKey_inv hk; exact ⟨⟨x.1, x.2⟩, e⟩) (fun v y hv => ⟨v, rfl⟩) bn r N.length D left cnt rfl hrg ?_ ?_)
      | go_in)
    · intro hc0 hl0
      have hBw2 : Below w.heap.size w wr := by rw [HB.out]; exact hBw
      have hT2 := HT.out.far hBw2
      have cC : wr.cell? ⟨R, 0, none⟩ = some (.map (some bc)) := hT2.box.cell 0
      have hcl := cCloneF_any bc N.length (chrM N) wr hT2.chars
      have HE : Veil (∀ W1, MapX Try.prog 32 encDF okDF W1 wr.heap.size N.length (chrM N) → Below wr.heap.size wr W1 → TreeAt (W1.alloc (.cells #[.map (some wr.heap.size), .map (some B)] 51)) w.heap.size W1.heap.size wr.heap.size B N V' ∧ Below w.heap.size w (W1.alloc (.cells #[.map (some wr.heap.size), .map (some B)] 51)) ∧ ∀ k, treeP W1.heap.size wr.heap.size B V' k → w.heap.size ≤ k) := ⟨fun W1 hX hb1 => by
        have hal : Below W1.heap.size W1 (W1.alloc (.cells #[.map (some wr.heap.size), .map (some B)] 51)) := (Below.refl _ _).alloc (Nat.le_refl _) _
        have hz1 := hb1.size
        have hwb := HB.out
        have hlits : ∀ s, okS s → ∃ l, keyOf Try.prog 56 (encS s) = some l := fun s hs => keyEncS.has s hs
        have hXl := hX.lt
        have hAll : Below wr.heap.size wr (W1.alloc (.cells #[.map (some wr.heap.size), .map (some B)] 51)) := hb1.trans (hal.mono hz1)
        have hown : ∀ s, okS s → OwnI wr w.heap.size 32 2 (V' s) ((kids N s).map encF) := fun s hs => by
          obtain ⟨l, hl⟩ := hlits s hs
          exact (hFV.yes s hs l hl (hl0 l)).less (by omega)
        refine ⟨⟨CellsAt.new W1 51 [.map (some wr.heap.size), .map (some B)], hX.congr (hal.block _ hXl), ?_, ⟨fun s hs => (hown s hs).far hAll, hFV.apart, fun s hs => ?_⟩, fun s hs hk => ?_, HT.out.nodup, HT.out.okId, HT.out.okChr, by omega⟩, hBw2.trans (hAll.mono hBw2.size), fun k hk => ?_⟩
        · obtain ⟨DD, hD1, hD2⟩ := hMG.mono (show m ≤ N.length by omega)
          refine MapG.congr ⟨DD, hD1, fun s hs l hl z => ?_⟩ (hAll.block B (by omega))
          rw [hD2 s hs l hl z, hFV.tab s hs l hl, hl0 l]
          rfl
        · have h1 := hFV.lt s hs
          refine ⟨fun q => ?_, fun q => ?_, fun q => ?_⟩
          · have := h1 _ q; omega
          · have := h1 _ q; omega
          · have := h1 _ q; omega
        · obtain ⟨l, hl⟩ := hlits s hs
          exact hFV.no s hs l hl (.inr hk)
        · rcases hk with q | q | q | ⟨s, hs, q⟩
          · omega
          · omega
          · omega
          · have := hFV.lt s hs k q; omega⟩
      clear hT2 hBw2 hFV hMG hrg hBw HAT hc0 hl0 hcs
      go_wp2_with (go_at_call 17; refine hcl.mono ?_; rintro e W1 ⟨rfl, hX1, hb1⟩; clear hcl)
      have HQ := Veil.mk (HE.out W1 hX1 hb1)
      clear HE hX1 hb1
      go_ret
      exact ⟨_, _, _, _, rfl, HQ.out⟩
    · intro x v kl yd yp w2 cnt2 hkey hlk hv hat2 hrg2 hlt hg2 hs2 hen
      obtain ⟨sd, hsd⟩ := x
      have hyd : yd = .held v := by
        have h1 : some ((DataW.held v : DataW Value), ([] : List MemPlace)) = some (yd, yp) := hv
        injection h1 with h1
        injection h1 with h1 _
        exact h1.symm
      have hkk : kids N sd ≠ [] ∧ v = V sd := by
        have h1 := fun z => HAT.out sd hsd kl hkey z
        unfold sideM at h1
        by_cases hk : kids N sd = []
        · exfalso
          rw [if_pos hk] at h1
          have e1 := hat2 (.held (.bool true))
          have e2 := hat2 (.held (.bool false))
          rw [h1] at e1 e2
          rw [← e2] at e1
          cases e1
        · refine ⟨hk, ?_⟩
          rw [if_neg hk] at h1
          have e1 := hat2 (.held (.bool true))
          rw [h1, hyd] at e1
          simp only at e1
          injection e1 with e1
          exact e1.symm
      obtain ⟨hk0, rfl⟩ := hkk
      have hkl : (kids N sd).length ≤ 1000 := Nat.le_trans (kids_few N sd) hlen
      have hlw := hrg.lt
      have HKEEP2 : Veil (∀ k, k < wr.heap.size → k ≠ r → w2.heap[k]? = wr.heap[k]?) := ⟨fun k hk hn => hg2.block k hk (fun e => hn (Option.some.inj e))⟩
      have HZ2 : Veil (w2.heap.size = wr.heap.size) := ⟨hs2⟩
      have HOS : Veil (w2.os = wr.os ∧ w2.tape = wr.tape ∧ w2.output = wr.output) := ⟨hg2.os, hg2.tape, hg2.output⟩
      have iS := sizeSide sd
      have h1S := sideC_one sd
      have hl3 : [Value.int .u8 0, Value.int .u32 0, Value.bool false].length = (sideC sd).length := rfl
      have HL3 := Veil.mk hl3
      have HSC : Veil (encS sd = .agg (sideC sd).toArray) := ⟨rfl⟩
      have HRG2 := Veil.mk hrg2
      have HFV := Veil.mk hFV
      have HMG := Veil.mk hMG
      have HBW := Veil.mk hBw
      have HRG := Veil.mk hrg
      have HHAT := Veil.mk hat2
      clear hat2 hyd hv hrg2 hg2 hs2 hl3 hFV hMG hBw hrg HAT
      generalize hSC : sideC sd = SC at iS h1S HL3 HSC hen hkey
      have uS := Try.underlying56
      go_upto_region 7 with (refine wpList_stv rfl 56 (.tmp 4) _ rfl w2.heap.size rfl rfl (CellsAt.new w2 56 [.int .u8 0, .int .u32 0, .bool false]) iS HL3.out h1S ?_)
      refine forget (p := fun y => Code.wp _ _ _ _ y) (fun W => Below w2.heap.size w2 W ∧ CellsAt W w2.heap.size 56 SC) ⟨below_setRowN ((Below.refl _ _).alloc (Nat.le_refl _) _) (Nat.le_refl _) _, (CellsAt.new w2 56 [.int .u8 0, .int .u32 0, .bool false]).setRow SC⟩ ?_
      rintro W3 ⟨hb3, hc3⟩
      have hz2 := HZ2.out
      have hwB := HB.out
      have hrB := HR.out
      have hbB := HBN.out
      have hb32 : ∀ k, k < wr.heap.size → k ≠ r → W3.heap[k]? = wr.heap[k]? := fun k hk hn => (hb3.block k (by omega)).trans (HKEEP2.out k hk hn)
      have hz3 : wr.heap.size < W3.heap.size := by have := hc3.lt; omega
      have hT3 : OwnI W3 base 32 2 (V sd) ((kids N sd).map encF) := (HT.out.sides.own sd hsd).congr fun g hg => by
        have h1 := ((HT.out.sides.own sd hsd).blockLt g hg).1
        rw [hb32 g (by omega) (by omega)]
        exact HBW.out.block g (by omega)
      have hcl := dCloneF_any base W3.drew (V sd) (kids N sd) (hT3.congr fun g _ => rfl) hkl
      have HS3 : Veil (∀ W4 v4, OwnI W4 W3.drew.heap.size 32 2 v4 ((kids N sd).map encF) → Below W3.drew.heap.size W3.drew W4 → W4.rangeAt w2.heap.size 0 SC ∧ ∃ W5, (Instr.mapUpdate 49 (.map (some B)) (.agg SC.toArray) v4).run Try.prog W4 = .ok () W5 ∧ Veil (∃ (left' : Lit → Bool) (cnt' m' : Nat) (M2 : (Int × Int) × Bool → Option Value) (V2 : (Int × Int) × Bool → Value), (W5.ranges Try.prog 56 rawE bn r N.length D left' cnt' ∧ m' + cnt' ≤ N.length ∧ MapG Try.prog 56 encS okS W5 B m' M2 ∧ ForkV W5 B N left' M2 V2 ∧ Below B w W5 ∧ B + 2 ≤ W5.heap.size) ∧ cnt' = cnt2)) := ⟨fun W4 v4 ho4 hb4 => by
        have hb4' : Below W3.heap.size W3 W4 := (Below.refl W3.heap.size W3).drew.trans hb4
        have hz4 := hb4'.size
        have hk4 : ∀ k, k < wr.heap.size → k ≠ r → W4.heap[k]? = wr.heap[k]? := fun k hk hn => (hb4'.block k (by omega)).trans (hb32 k hk hn)
        have hMG4 : MapG Try.prog 56 encS okS W4 B m M' := HMG.out.congr (hk4 B (by omega) (by omega))
        obtain ⟨W5, hrun, hMG5, hg5⟩ := hMG4.store keyEncS mapSideF (by have h1 : 1000 < maxLen := (by decide); omega) sd hsd v4
        rw [HSC.out] at hrun
        have hz5 := hg5.size
        have hk5 : ∀ k, k < wr.heap.size → k ≠ r → k ≠ B → W5.heap[k]? = wr.heap[k]? := fun k hk hn hnB => (hg5.block k (by omega) (fun e => hnB (Option.some.inj e))).trans (hk4 k hk hn)
        refine ⟨(hc3.farM hb4').wholeM, W5, hrun, ⟨_, cnt2, m + 1, _, _, ⟨ranges_congr HRG2.out ?_ ?_, by omega, hMG5, HFV.out.step hsd (by rw [HSC.out]; exact hkey) hk0 ((ho4.less (by show wr.heap.size ≤ W3.heap.size; omega)).congr (fun g hg => hg5.block g (ho4.blockLt g hg).1 (fun e => by have h1 := (ho4.blockLt g hg).2.1; have h2 : W3.drew.heap.size = W3.heap.size := rfl; have := Option.some.inj e; omega))) hz (fun k h1 h2 => hk5 k h2 (by omega) (by omega)) (by omega), ?_, by omega⟩, rfl⟩⟩
        · rw [hk5 bn (by omega) (by omega) (by omega)]; exact (HKEEP2.out bn (by omega) (by omega)).symm
        · exact ((hg5.block r (by omega) (fun e => by have := Option.some.inj e; omega)).trans (hb4'.block r (by omega))).trans (hb3.block r (by omega))
        · refine ⟨?_, ?_, ?_, by have := HBW.out.size; omega, fun k hk => ?_⟩
          · rw [hg5.os, hb4'.os, hb3.os, HOS.out.1, HBW.out.os]
          · rw [hg5.tape, hb4'.tape, hb3.tape, HOS.out.2.1, HBW.out.tape]
          · rw [hg5.output, hb4'.output, hb3.output, HOS.out.2.2, HBW.out.output]
          · rw [hk5 k (by omega) (by omega) (by omega)]; exact HBW.out.block k hk⟩
      have hr3 := hc3.wholeM
      obtain ⟨bs, hbs⟩ : ∃ q, w2.heap.size = q := ⟨_, rfl⟩
      rw [hbs] at hr3 HS3 ⊢
      clear hT3 hb32 hz2 hwB hrB hbB hb3 hc3 hbs HKEEP2 HOS HFV HMG HBW HRG2 hz3 hkl hen HSC
      refine wp_region_gate (fun w' => w'.rangeAt bs 0 SC) 4 (by kernel_rfl) ?_
      have hS : (fun w' : World => w'.rangeAt bs 0 SC) W3.drew := hr3
      refine wpAnyG_any (i := 0) (v := ?_) rfl (by kernel_rfl) (by kernel_rfl) (by kernel_rfl) (fun _ _ _ h => h) (by kernel_rfl) (fun _ => hS) (by kernel_rfl) ?_ ?_
      rotate_left
      · intro _; go_simp; try with_reducible rfl
      simp only [Act.put, List.getElem_toArray, List.getElem_cons_succ, List.getElem_cons_zero, List.setIfInBounds_toArray, List.set_cons_zero, List.set_cons_succ]
      refine wpAnyG_any (i := 2) (v := ?_) rfl (by kernel_rfl) (by kernel_rfl) (by kernel_rfl) (fun _ _ _ h => h) (by kernel_rfl) (fun _ => hS) (by kernel_rfl) ?_ ?_
      rotate_left
      · intro _; go_simp; try with_reducible rfl
      simp only [Act.put, List.getElem_toArray, List.getElem_cons_succ, List.getElem_cons_zero, List.setIfInBounds_toArray, List.set_cons_zero, List.set_cons_succ]
      refine wpAnyG_load (i := 1) (dst := some 20) (ty := 56) (x := .tmp 4) (b := bs) (o := (0)) (cs := SC) (by kernel_rfl) (by kernel_rfl) (by kernel_rfl) (by kernel_rfl) (by kernel_rfl) (fun _ _ _ h => h) (by kernel_rfl) (by kernel_rfl) (by kernel_rfl) hS (by kernel_rfl) (fun _ h => h) uS rfl iS ?_
      simp only [Act.put, List.getElem_toArray, List.getElem_cons_succ, List.getElem_cons_zero, List.setIfInBounds_toArray, List.set_cons_zero, List.set_cons_succ]
      refine wpAnyG_one (i := 3) rfl (by kernel_rfl) (by kernel_rfl) (fun K hK => ?_)
      refine wpx_call _ _ (by kernel_rfl) (hcl.mono ?_)
      rintro e W4 ⟨v4, rfl, ho4, hb4⟩
      refine ⟨_, rfl, ?_⟩
      obtain ⟨hr4, W5, hrun, HQ⟩ := HS3.out W4 v4 ho4 hb4
      clear ho4 hb4 HS3 hcl
      replace hS : (fun w' : World => w'.rangeAt bs 0 SC) W4 := hr4
      refine hK.out _ _ (fun _ => hS) ?_
      clear hK K
      try simp only [Act.put, List.getElem_toArray, List.getElem_cons_succ, List.getElem_cons_zero, List.setIfInBounds_toArray, List.set_cons_zero, List.set_cons_succ]
      refine wpAnyG_one (i := 4) rfl (by kernel_rfl) (by kernel_rfl) (fun K hK => ?_)
      refine wpx_upd _ _ _ _ rfl _ _ _ W5 rfl rfl rfl hrun ?_
      refine hK.out _ _ (fun h => absurd (show true = false from h) (by decide)) ?_
      clear hK K
      try simp only [Act.put, List.getElem_toArray, List.getElem_cons_succ, List.getElem_cons_zero, List.setIfInBounds_toArray, List.set_cons_zero, List.set_cons_succ]
      refine wpAnyG_done (by kernel_rfl) ?_ _
      clear hS hr3 hr4 hrun
      go_wp2
      go_roundw
      case rel =>
        obtain ⟨left', cnt', m', M2, V2, h, _⟩ := HQ.out
        exact ⟨left', cnt', m', M2, V2, h⟩
      case measure =>
        obtain ⟨left', cnt', m', M2, V2, h, e⟩ := HQ.out
        rw [h.1.left_eq, HRG.out.left_eq, e]
        exact hlt
end Go.Proofs.Ytnmjplngbleopaa
