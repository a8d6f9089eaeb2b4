/- Fw3 Abk Dc19 -/
import Derived.Test.YtmbdohnmbkpfaaaGreatV47
import Derived.Shelf.SlMaps.Clone
import Derived.Test.YtmbdohnmbkpfaaaGreatV19
import Derived.Test.YtmbdohnmbkpfaaaGreatV38
import Derived.Test.YtmbdohnmbkpfaaaGreatV37
namespace Go.Proofs.YtmbdohnmbkpfaaaGreat
open Go.RowKit Go.Shelf
set_option maxRecDepth 20000
set_option linter.unusedSimpArgs false
theorem mapSideF : Tryz.prog.underlying 111 = some (.map 117 139) := by kernel_rfl
theorem sizeSide (s : (Int × Int) × Bool) : (Tryz.prog.info? 117).map (·.size) = some (sideC s).length := by show _ = some 3; kernel_rfl
theorem sideC_one (s : (Int × Int) × Bool) : ∀ u ∈ sideC s, u.oneCell' = true := by
 intro u hu
 simp only [sideC, encF, dotC, List.mem_append, List.mem_cons, List.not_mem_nil, or_false] at hu
 rcases hu with (rfl | rfl) | rfl <;> rfl
theorem MapG.mono {w : World} {b n n' : Nat} {M : (Int × Int) × Bool → Option Value} (h : MapG Tryz.prog 117 encS okS w b n M) (hn : n ≤ n') : MapG Tryz.prog 117 encS okS w b n' M := by
 obtain ⟨D, hD, hM⟩ := h
 exact ⟨D, hD.mono hn, hM⟩
structure SdK where
 s : (Int × Int) × Bool
 ok : okS s
set_option maxHeartbeats 16000000 in
theorem forkT_any (base R bc bn : Nat) (N : List Nd) (V : (Int × Int) × Bool → Value) (hlen : N.length ≤ 1000) (w : World) (hT : TreeAt w base R bc bn N V) :
    Calls Tryz.prog 82 #[.pointer (some ⟨R, 0, none⟩)] w fun e w' => ∃ R' bc' bn' V', e = .returned (.pointer (some ⟨R', 0, none⟩)) ∧ TreeAt w' w.heap.size R' bc' bn' N V' ∧ Below w.heap.size w w' ∧ ∀ k, treeP R' bc' bn' V' k → w.heap.size ≤ k := by
 have HT := Veil.mk hT
 have hbn := hT.nodes.lt
 obtain ⟨D, hown0, hat⟩ := hT.nodes
 have hown := hown0.alloc (.map #[] 0)
 have HMD := Veil.mk (MapG.made (P := Tryz.prog) (kt := 117) (enc := encS) (ok := okS) w)
 have cN : (w.alloc (.map #[] 0)).cell? ⟨R, 1, none⟩ = some (.map (some bn)) := (hT.box.alloc (.map #[] 0)).cell 1
 have hzm : (w.alloc (.map #[] 0)).heap.size = w.heap.size + 1 := World.size_alloc _ _
 have hbm : Below w.heap.size w (w.alloc (.map #[] 0)) := (Below.refl _ _).alloc (Nat.le_refl _) _
 have HHAS : Veil (∀ s, okS s → ∀ l, keyOf Tryz.prog 117 (encS s) = some l → Maps.has D l = (sideM N V s).isSome) := ⟨fun s hs l hl => by
  cases hv : sideM N V s with
  | none => exact Maps.has_false_of_atKey fun z => by rw [hat s hs l hl, hv]
  | some v => exact Maps.has_true_of_atKey (y := .held v) fun z => by rw [hat s hs l hl, hv]⟩
 have HAT := Veil.mk hat
 have HSZ : Veil (Maps.size D ≤ N.length) := ⟨hown0.size_le⟩
 clear hat hown0 hT
 have hmm := @run_makeMap Tryz.prog
 go_enter Tryz.func82, Tryz.ntmps82
 go_upto_region 4 with fail
 obtain ⟨wm, hwm⟩ : ∃ q, w.alloc (.map #[] 0) = q := ⟨_, rfl⟩
 rw [hwm] at hown HMD cN hzm hbm ⊢
 clear hwm
 obtain ⟨B, hBB⟩ : ∃ q, w.heap.size = q := ⟨_, rfl⟩
 have HB := Veil.mk hBB
 rw [hBB] at HMD hzm hbm hbn ⊢
 clear hBB
 go_wp2_with (first
  | (at_range; refine wpList_range_own _ rfl _ 111 rfl 117 139 keyEncS.keyed mapSideF _ bn _ D rfl hown ?_; intro w0 hrg0 hg0 hs0)
  | go_in)
 go_frame
 clear hmm cN
 have HOW := Veil.mk hown
 have hb0 : Below wm.heap.size wm w0 := ⟨hg0.os, hg0.tape, hg0.output, hg0.size, fun k hk => hg0.block k hk (by simp)⟩
 have HST : Veil (∃ (left : Lit → Bool) (cnt m : Nat) (M' : (Int × Int) × Bool → Option Value) (V' : (Int × Int) × Bool → Value), w0.ranges Tryz.prog 117 rawE bn wm.heap.size N.length D left cnt ∧ m + cnt ≤ N.length ∧ MapG Tryz.prog 117 encS okS w0 B m M' ∧ ForkV w0 B N left M' V' ∧ Below B w w0 ∧ B + 2 ≤ w0.heap.size) := ⟨_, _, 0, fun _ => none, fun _ => .slice none 0 0, hrg0, by rw [Nat.zero_add]; exact HSZ.out, HMD.out.congr (hb0.block _ HMD.out.lt), ForkV.start w0 B N _ V HHAS.out, hbm.trans (hb0.mono (by omega)), by omega⟩
 obtain ⟨r, hr⟩ : ∃ q, wm.heap.size = q := ⟨_, rfl⟩
 rw [hr] at HST hzm ⊢
 have HR : Veil (r = B + 1) := ⟨hzm⟩
 have HBN : Veil (bn < B) := ⟨hbn⟩
 clear hr hzm hb0 hrg0 hg0 hs0 hbm hown HMD HSZ HHAS hbn HOW
 go_loopw [4, 5] (fun _ _ wr => ∃ (left : Lit → Bool) (cnt m : Nat) (M' : (Int × Int) × Bool → Option Value) (V' : (Int × Int) × Bool → Value), wr.ranges Tryz.prog 117 rawE bn r N.length D left cnt ∧ m + cnt ≤ N.length ∧ MapG Tryz.prog 117 encS okS wr B m M' ∧ ForkV wr B N left M' V' ∧ Below B w wr ∧ B + 2 ≤ wr.heap.size) (fun _ _ wr => wr.rangeLeft bn r)
 case atStart => exact HST.out
 case round =>
  obtain ⟨left, cnt, m, M', V', hrg, hcs, hMG, hFV, hBw, hz⟩ := hrel
  clear HST
  go_wp2_with (first
   | (at_next; refine wpList_next_ranges _ rfl _ rfl 117 keyEncS.keyed rawE (fun x : SdK => .agg (sideC x.s).toArray) (fun v : Value => v) (fun key kl hk => by obtain ⟨x, e⟩ := sideKey_inv hk; exact ⟨⟨x.1, x.2⟩, e⟩) (fun v y hv => ⟨v, rfl⟩) bn r N.length D left cnt rfl hrg ?_ ?_)
   | go_in)
  · intro hc0 hl0
    have hBw2 : Below w.heap.size w wr := by rw [HB.out]; exact hBw
    have hT2 := HT.out.far hBw2
    have cC : wr.cell? ⟨R, 0, none⟩ = some (.map (some bc)) := hT2.box.cell 0
    have hcl := cCloneF_any bc N.length (chrM N) wr hT2.chars
    have HE : Veil (∀ W1, MapX Tryz.prog 40 encDF okDF W1 wr.heap.size N.length (chrM N) → Below wr.heap.size wr W1 → TreeAt (W1.alloc (.cells #[.map (some wr.heap.size), .map (some B)] 113)) w.heap.size W1.heap.size wr.heap.size B N V' ∧ Below w.heap.size w (W1.alloc (.cells #[.map (some wr.heap.size), .map (some B)] 113)) ∧ ∀ k, treeP W1.heap.size wr.heap.size B V' k → w.heap.size ≤ k) := ⟨fun W1 hX hb1 => by
     have hal : Below W1.heap.size W1 (W1.alloc (.cells #[.map (some wr.heap.size), .map (some B)] 113)) := (Below.refl _ _).alloc (Nat.le_refl _) _
     have hz1 := hb1.size
     have hwb := HB.out
     have hlits : ∀ s, okS s → ∃ l, keyOf Tryz.prog 117 (encS s) = some l := fun s hs => keyEncS.has s hs
     have hXl := hX.lt
     have hAll : Below wr.heap.size wr (W1.alloc (.cells #[.map (some wr.heap.size), .map (some B)] 113)) := hb1.trans (hal.mono hz1)
     have hown : ∀ s, okS s → OwnI wr w.heap.size 40 2 (V' s) ((kids N s).map encF) := fun s hs => by
      obtain ⟨l, hl⟩ := hlits s hs
      exact (hFV.yes s hs l hl (hl0 l)).less (by omega)
     refine ⟨⟨CellsAt.new W1 113 [.map (some wr.heap.size), .map (some B)], hX.congr (hal.block _ hXl), ?_, ⟨fun s hs => (hown s hs).far hAll, hFV.apart, fun s hs => ?_⟩, fun s hs hk => ?_, HT.out.nodup, HT.out.okId, HT.out.okChr, by omega⟩, hBw2.trans (hAll.mono hBw2.size), fun k hk => ?_⟩
     · obtain ⟨DD, hD1, hD2⟩ := hMG.mono (show m ≤ N.length by omega)
       refine MapG.congr ⟨DD, hD1, fun s hs l hl z => ?_⟩ (hAll.block B (by omega))
       rw [hD2 s hs l hl z, hFV.tab s hs l hl, hl0 l]
       rfl
     · have h1 := hFV.lt s hs
       refine ⟨fun q => ?_, fun q => ?_, fun q => ?_⟩
       · have := h1 _ q; omega
       · have := h1 _ q; omega
       · have := h1 _ q; omega
     · obtain ⟨l, hl⟩ := hlits s hs
       exact hFV.no s hs l hl (.inr hk)
     · rcases hk with q | q | q | ⟨s, hs, q⟩
       · omega
       · omega
       · omega
       · have := hFV.lt s hs k q; omega⟩
    clear hT2 hBw2 hFV hMG hrg hBw HAT hc0 hl0 hcs
    go_wp2_with (go_at_call 108; refine hcl.mono ?_; rintro e W1 ⟨rfl, hX1, hb1⟩; clear hcl)
    have HQ := Veil.mk (HE.out W1 hX1 hb1)
    clear HE hX1 hb1
    go_ret
    exact ⟨_, _, _, _, rfl, HQ.out⟩
  · intro x v kl yd yp w2 cnt2 hkey hlk hv hat2 hrg2 hlt hg2 hs2 hen
    obtain ⟨sd, hsd⟩ := x
    have hyd : yd = .held v := by
     have h1 : some ((DataW.held v : DataW Value), ([] : List MemPlace)) = some (yd, yp) := hv
     injection h1 with h1
     injection h1 with h1 _
     exact h1.symm
    have hkk : kids N sd ≠ [] ∧ v = V sd := by
     have h1 := fun z => HAT.out sd hsd kl hkey z
     unfold sideM at h1
     by_cases hk : kids N sd = []
     · exfalso
       rw [if_pos hk] at h1
       have e1 := hat2 (.held (.bool true))
       have e2 := hat2 (.held (.bool false))
       rw [h1] at e1 e2
       rw [← e2] at e1
       cases e1
     · refine ⟨hk, ?_⟩
       rw [if_neg hk] at h1
       have e1 := hat2 (.held (.bool true))
       rw [h1, hyd] at e1
       simp only at e1
       injection e1 with e1
       exact e1.symm
    obtain ⟨hk0, rfl⟩ := hkk
    have hkl : (kids N sd).length ≤ 1000 := Nat.le_trans (kids_few N sd) hlen
    have hlw := hrg.lt
    have HKEEP2 : Veil (∀ k, k < wr.heap.size → k ≠ r → w2.heap[k]? = wr.heap[k]?) := ⟨fun k hk hn => hg2.block k hk (fun e => hn (Option.some.inj e))⟩
    have HZ2 : Veil (w2.heap.size = wr.heap.size) := ⟨hs2⟩
    have HOS : Veil (w2.os = wr.os ∧ w2.tape = wr.tape ∧ w2.output = wr.output) := ⟨hg2.os, hg2.tape, hg2.output⟩
    have iS := sizeSide sd
    have h1S := sideC_one sd
    have hl3 : [Value.int .u8 0, Value.int .u32 0, Value.bool false].length = (sideC sd).length := rfl
    have HL3 := Veil.mk hl3
    have HSC : Veil (encS sd = .agg (sideC sd).toArray) := ⟨rfl⟩
    have HRG2 := Veil.mk hrg2
    have HFV := Veil.mk hFV
    have HMG := Veil.mk hMG
    have HBW := Veil.mk hBw
    have HRG := Veil.mk hrg
    have HHAT := Veil.mk hat2
    clear hat2 hyd hv hrg2 hg2 hs2 hl3 hFV hMG hBw hrg HAT
    generalize hSC : sideC sd = SC at iS h1S HL3 HSC hen hkey
    have uS := Tryz.underlying117
    go_upto_region 7 with (refine wpList_stv rfl 117 (.tmp 4) _ rfl w2.heap.size rfl rfl (CellsAt.new w2 117 [.int .u8 0, .int .u32 0, .bool false]) iS HL3.out h1S ?_)
    refine forget (p := fun y => Code.wp _ _ _ _ y) (fun W => Below w2.heap.size w2 W ∧ CellsAt W w2.heap.size 117 SC) ⟨below_setRowN ((Below.refl _ _).alloc (Nat.le_refl _) _) (Nat.le_refl _) _, (CellsAt.new w2 117 [.int .u8 0, .int .u32 0, .bool false]).setRow SC⟩ ?_
    rintro W3 ⟨hb3, hc3⟩
    have hz2 := HZ2.out
    have hwB := HB.out
    have hrB := HR.out
    have hbB := HBN.out
    have hb32 : ∀ k, k < wr.heap.size → k ≠ r → W3.heap[k]? = wr.heap[k]? := fun k hk hn => (hb3.block k (by omega)).trans (HKEEP2.out k hk hn)
    have hz3 : wr.heap.size < W3.heap.size := by have := hc3.lt; omega
    have hT3 : OwnI W3 base 40 2 (V sd) ((kids N sd).map encF) := (HT.out.sides.own sd hsd).congr fun g hg => by
     have h1 := ((HT.out.sides.own sd hsd).blockLt g hg).1
     rw [hb32 g (by omega) (by omega)]
     exact HBW.out.block g (by omega)
    have hcl := dCloneF_any base W3.drew (V sd) (kids N sd) (hT3.congr fun g _ => rfl) hkl
    have HS3 : Veil (∀ W4 v4, OwnI W4 W3.drew.heap.size 40 2 v4 ((kids N sd).map encF) → Below W3.drew.heap.size W3.drew W4 → W4.rangeAt w2.heap.size 0 SC ∧ ∃ W5, (Instr.mapUpdate 111 (.map (some B)) (.agg SC.toArray) v4).run Tryz.prog W4 = .ok () W5 ∧ Veil (∃ (left' : Lit → Bool) (cnt' m' : Nat) (M2 : (Int × Int) × Bool → Option Value) (V2 : (Int × Int) × Bool → Value), (W5.ranges Tryz.prog 117 rawE bn r N.length D left' cnt' ∧ m' + cnt' ≤ N.length ∧ MapG Tryz.prog 117 encS okS W5 B m' M2 ∧ ForkV W5 B N left' M2 V2 ∧ Below B w W5 ∧ B + 2 ≤ W5.heap.size) ∧ cnt' = cnt2)) := ⟨fun W4 v4 ho4 hb4 => by
     have hb4' : Below W3.heap.size W3 W4 := (Below.refl W3.heap.size W3).drew.trans hb4
     have hz4 := hb4'.size
     have hk4 : ∀ k, k < wr.heap.size → k ≠ r → W4.heap[k]? = wr.heap[k]? := fun k hk hn => (hb4'.block k (by omega)).trans (hb32 k hk hn)
     have hMG4 : MapG Tryz.prog 117 encS okS W4 B m M' := HMG.out.congr (hk4 B (by omega) (by omega))
     obtain ⟨W5, hrun, hMG5, hg5⟩ := hMG4.store keyEncS mapSideF (by have h1 : 1000 < maxLen := (by decide); omega) sd hsd v4
     rw [HSC.out] at hrun
     have hz5 := hg5.size
     have hk5 : ∀ k, k < wr.heap.size → k ≠ r → k ≠ B → W5.heap[k]? = wr.heap[k]? := fun k hk hn hnB => (hg5.block k (by omega) (fun e => hnB (Option.some.inj e))).trans (hk4 k hk hn)
     refine ⟨(hc3.farM hb4').wholeM, W5, hrun, ⟨_, cnt2, m + 1, _, _, ⟨ranges_congr HRG2.out ?_ ?_, by omega, hMG5, HFV.out.step hsd (by rw [HSC.out]; exact hkey) hk0 ((ho4.less (by show wr.heap.size ≤ W3.heap.size; omega)).congr (fun g hg => hg5.block g (ho4.blockLt g hg).1 (fun e => by have h1 := (ho4.blockLt g hg).2.1; have h2 : W3.drew.heap.size = W3.heap.size := rfl; have := Option.some.inj e; omega))) hz (fun k h1 h2 => hk5 k h2 (by omega) (by omega)) (by omega), ?_, by omega⟩, rfl⟩⟩
     · rw [hk5 bn (by omega) (by omega) (by omega)]; exact (HKEEP2.out bn (by omega) (by omega)).symm
     · exact ((hg5.block r (by omega) (fun e => by have := Option.some.inj e; omega)).trans (hb4'.block r (by omega))).trans (hb3.block r (by omega))
     · refine ⟨?_, ?_, ?_, by have := HBW.out.size; omega, fun k hk => ?_⟩
       · rw [hg5.os, hb4'.os, hb3.os, HOS.out.1, HBW.out.os]
       · rw [hg5.tape, hb4'.tape, hb3.tape, HOS.out.2.1, HBW.out.tape]
       · rw [hg5.output, hb4'.output, hb3.output, HOS.out.2.2, HBW.out.output]
       · rw [hk5 k (by omega) (by omega) (by omega)]; exact HBW.out.block k hk⟩
    have hr3 := hc3.wholeM
    obtain ⟨bs, hbs⟩ : ∃ q, w2.heap.size = q := ⟨_, rfl⟩
    rw [hbs] at hr3 HS3 ⊢
    clear hT3 hb32 hz2 hwB hrB hbB hb3 hc3 hbs HKEEP2 HOS HFV HMG HBW HRG2 hz3 hkl hen HSC
    refine wp_region_gate (fun w' => w'.rangeAt bs 0 SC) 4 (by kernel_rfl) ?_
    have hS : (fun w' : World => w'.rangeAt bs 0 SC) W3.drew := hr3
    refine gaA 0 _ hS ?_
    simp only [Act.put, gA, gS, gZ, sI, sZ, sS]
    refine gaA 2 _ hS ?_
    simp only [Act.put, gA, gS, gZ, sI, sZ, sS]
    refine wpAnyG_load (i := 1) (dst := some 20) (ty := 117) (x := .tmp 4) (b := bs) (o := (0)) (cs := SC) (by kernel_rfl) (by kernel_rfl) (by kernel_rfl) (by kernel_rfl) (by kernel_rfl) (fun _ _ _ h => h) (by kernel_rfl) (by kernel_rfl) (by kernel_rfl) hS (by kernel_rfl) (fun _ h => h) uS rfl iS ?_
    simp only [Act.put, gA, gS, gZ, sI, sZ, sS]
    refine wpAnyG_one (i := 3) rfl (by kernel_rfl) (by kernel_rfl) (fun K hK => ?_)
    refine wpx_call _ _ (by kernel_rfl) (hcl.mono ?_)
    rintro e W4 ⟨v4, rfl, ho4, hb4⟩
    refine ⟨_, rfl, ?_⟩
    obtain ⟨hr4, W5, hrun, HQ⟩ := HS3.out W4 v4 ho4 hb4
    clear ho4 hb4 HS3 hcl
    replace hS : (fun w' : World => w'.rangeAt bs 0 SC) W4 := hr4
    refine hK.out _ _ (fun _ => hS) ?_
    clear hK K
    try simp only [Act.put, gA, gS, gZ, sI, sZ, sS]
    refine wpAnyG_one (i := 4) rfl (by kernel_rfl) (by kernel_rfl) (fun K hK => ?_)
    refine wpx_upd _ _ _ _ rfl _ _ _ W5 rfl rfl rfl hrun ?_
    refine hK.out _ _ (fun h => absurd (show true = false from h) (by decide)) ?_
    clear hK K
    try simp only [Act.put, gA, gS, gZ, sI, sZ, sS]
    refine wpAnyG_done (by kernel_rfl) ?_ _
    clear hS hr3 hr4 hrun
    go_wp2
    go_roundw
    case rel =>
     obtain ⟨left', cnt', m', M2, V2, h, _⟩ := HQ.out
     exact ⟨left', cnt', m', M2, V2, h⟩
    case measure =>
     obtain ⟨left', cnt', m', M2, V2, h, e⟩ := HQ.out
     rw [h.1.left_eq, HRG.out.left_eq, e]
     exact hlt
theorem mapDotEnt : Tryz.prog.underlying 127 = some (.map 40 144) := by kernel_rfl
set_option maxHeartbeats 4000000 in
theorem aClone_any (b : Nat) (L : List Ent) (w : World) (hW : BookAt w b L) :
    Calls Tryz.prog 109 #[.map (some b)] w fun e w' => e = .returned (.map (some w.heap.size)) ∧ BookAt w' w.heap.size L ∧ Below w.heap.size w w' := by
 obtain ⟨D, ⟨es, clock, hb, hrest⟩, hD⟩ := hW
 have hq := fun w => run_eql_map_nil_sl (P := Tryz.prog) w 127 _ _ (some b) mapDotEnt
 go_enter Tryz.func109, Tryz.ntmps109
 go_wp2
 rw [run_callFunc_extern Tryz.func110 (by kernel_rfl) (by kernel_rfl) (by kernel_rfl) (e := Extern.MapsClone.clone) (by kernel_rfl), run_maps_clone_sl w 127 hb]
 simp only [Result.andThen]
 rw [Oper.upon_value]
 go_wp2
 rw [run_typeAssert_map_sl _ 127 _ _ _ _ mapDotEnt]
 simp only [Result.andThen]
 rw [Oper.upon_value]
 go_wp2
 go_ret
 exact ⟨rfl, ⟨D, ⟨es, clock, heap_alloc_new w _, hrest⟩, hD⟩, (Below.refl _ _).alloc (Nat.le_refl _) _⟩
set_option maxHeartbeats 4000000 in
theorem abfork_any (H b : Nat) (L : List Ent) (w : World) (hC : BookC w H b L) :
    Calls Tryz.prog 83 #[.pointer (some ⟨H, 0, none⟩)] w fun e w' => ∃ H' b', e = .returned (.pointer (some ⟨H', 0, none⟩)) ∧ BookC w' H' b' L ∧ Below w.heap.size w w' ∧ w.heap.size ≤ H' ∧ w.heap.size ≤ b' := by
 have cM := hC.mapCell
 have hcl := aClone_any b L w hC.map
 have HE : Veil (∀ w1, BookAt w1 w.heap.size L → Below w.heap.size w w1 → BookC (w1.alloc (.cells #[.map (some w.heap.size)] 129)) w1.heap.size w.heap.size L ∧ Below w.heap.size w (w1.alloc (.cells #[.map (some w.heap.size)] 129)) ∧ w.heap.size ≤ w1.heap.size) := ⟨fun w1 hM hb => ⟨⟨CellsAt.new w1 129 [.map (some w.heap.size)], hM.congr (Below.heap_alloc _ _ _ hM.lt)⟩, hb.alloc hb.size _, hb.size⟩⟩
 clear hC
 go_enter Tryz.func83, Tryz.ntmps83
 go_wp2_with (go_at_call 109; refine hcl.mono ?_; rintro e w1 ⟨rfl, hM1, hb1⟩)
 go_ret
 obtain ⟨h1, h2, h3⟩ := HE.out w1 hM1 hb1
 exact ⟨_, _, rfl, h1, h2, h3, Nat.le_refl _⟩
theorem mapDotUn : Tryz.prog.underlying 71 = some (.map 40 80) := by kernel_rfl
set_option maxHeartbeats 4000000 in
theorem fCloneD_any (b n : Nat) (M : Int × Int → Option Value) (w : World) (hM : MapG Tryz.prog 40 encDF okDF w b n M) :
    Calls Tryz.prog 84 #[.map (some b)] w fun e w' => e = .returned (.map (some w.heap.size)) ∧ MapG Tryz.prog 40 encDF okDF w' w.heap.size n M ∧ Below w.heap.size w w' := by
 obtain ⟨D, ⟨es, clock, hb, hrest⟩, hD⟩ := hM
 have hq := fun w => run_eql_map_nil_sl (P := Tryz.prog) w 71 _ _ (some b) mapDotUn
 go_enter Tryz.func84, Tryz.ntmps84
 go_wp2
 rw [run_callFunc_extern Tryz.func110 (by kernel_rfl) (by kernel_rfl) (by kernel_rfl) (e := Extern.MapsClone.clone) (by kernel_rfl), run_maps_clone_sl w 71 hb]
 simp only [Result.andThen]
 rw [Oper.upon_value]
 go_wp2
 rw [run_typeAssert_map_sl _ 71 _ _ _ _ mapDotUn]
 simp only [Result.andThen]
 rw [Oper.upon_value]
 go_wp2
 go_ret
 exact ⟨rfl, ⟨D, ⟨es, clock, heap_alloc_new w _, hrest⟩, hD⟩, (Below.refl _ _).alloc (Nat.le_refl _) _⟩
structure PartsD (st : Ds) (s : Nat) (p : Pl) (W : World) : Prop where
 tree : TreeAt W s p.R p.bc p.bn st.N p.V
 book : BookC W p.H p.bk st.B
 evs : OwnI W s 44 17 p.v (st.L.map Ev.cells)
 force : MapG Tryz.prog 40 encDF okDF W p.fm st.F.length (forM st.F)
 cuts : ∃ a b, (∀ k, treeP p.R p.bc p.bn p.V k → s ≤ k ∧ k < a) ∧ (a ≤ p.H ∧ p.H < b) ∧ (a ≤ p.bk ∧ p.bk < b) ∧ (∀ k, p.v.ownBlock = some k → b ≤ k ∧ k < p.fm) ∧ b ≤ p.fm
theorem PartsD.far {st : Ds} {s : Nat} {p : Pl} {W W' : World} (h : PartsD st s p W) (hb : Below W.heap.size W W') : PartsD st s p W' := ⟨h.tree.far hb, h.book.far hb, h.evs.far hb, h.force.congr (hb.block _ h.force.lt), h.cuts⟩
theorem PartsD.doc {st : Ds} {s : Nat} {p : Pl} {W : World} (h : PartsD st s p W) (hs : s ≤ W.heap.size) : DocAt (W.alloc (.cells (docC st p).toArray 75)) s st { p with D := W.heap.size } ∧ ∀ k, docP { p with D := W.heap.size } k → s ≤ k := by
 have hb : Below W.heap.size W (W.alloc (.cells (docC st p).toArray 75)) := (Below.refl _ _).alloc (Nat.le_refl _) _
 obtain ⟨a, b, h1, h2, h3, h4, h5⟩ := h.cuts
 have lt := h.tree.blockLt
 have lH := h.book.cells.lt
 have lk := h.book.map.lt
 have lf := h.force.lt
 have lR := h.tree.blockLt _ (.inl rfl)
 have hRs := h1 _ (.inl rfl)
 have hne : p.H ≠ p.bk := fun e => h.book.map.cellsNe h.book.cells e.symm
 have vb : ∀ k, p.v.ownBlock = some k → b ≤ k ∧ k < p.fm := h4
 refine ⟨⟨CellsAt.new W 75 (docC st p), h.tree.far hb, h.book.far hb, h.evs.far hb, h.force.congr (hb.block _ lf), ⟨fun k q => ?_, ?_, ?_⟩⟩, fun k q => ?_⟩
 · have h6 := h1 k q
   have h7 := lt k q
   show k ≠ W.heap.size ∧ k ≠ p.H ∧ k ≠ p.bk ∧ k ≠ p.fm ∧ p.v.ownBlock ≠ some k
   exact ⟨by omega, by omega, by omega, by omega, fun e => by have := vb k e; omega⟩
 · show W.heap.size ≠ p.H ∧ W.heap.size ≠ p.bk ∧ W.heap.size ≠ p.fm ∧ p.v.ownBlock ≠ some W.heap.size
   exact ⟨by omega, by omega, by omega, fun e => by have := vb _ e; omega⟩
 · show p.H ≠ p.bk ∧ p.H ≠ p.fm ∧ p.v.ownBlock ≠ some p.H ∧ p.bk ≠ p.fm ∧ p.v.ownBlock ≠ some p.bk ∧ p.v.ownBlock ≠ some p.fm
   exact ⟨hne, by omega, fun e => by have := vb _ e; omega, by omega, fun e => by have := vb _ e; omega, fun e => by have := vb _ e; omega⟩
 · rcases q with q | q | q | q | q | q
   · have : k = W.heap.size := q; omega
   · exact (h1 k q).1
   · have : k = p.H := q; omega
   · have : k = p.bk := q; omega
   · have := vb k q; omega
   · have : k = p.fm := q; omega
theorem PartsD.keep {st : Ds} {s : Nat} {p : Pl} {W W' : World} (h : PartsD st s p W) (hk : ∀ k, s ≤ k → W'.heap[k]? = W.heap[k]?) : PartsD st s p W' := by
 obtain ⟨a, b, h1, h2, h3, h4, h5⟩ := h.cuts
 have s1 := h1 _ (.inl rfl)
 exact ⟨h.tree.congr fun k q => hk k (h1 k q).1, h.book.congr (hk _ (by omega)) (hk _ (by omega)), h.evs.congr fun g q => hk g (by have := h4 g q; omega), h.force.congr (hk _ (by omega)), h.cuts⟩
theorem PartsD.less {st : Ds} {s s' : Nat} {p : Pl} {W : World} (h : PartsD st s p W) (hs : s' ≤ s) : PartsD st s' p W := by
 obtain ⟨a, b, h1, r⟩ := h.cuts
 exact ⟨h.tree.lessD hs, h.book, h.evs.less hs, h.force, ⟨a, b, fun k q => ⟨by have := (h1 k q).1; omega, (h1 k q).2⟩, r⟩⟩
def docQ (st : Ds) (R H : Nat) (x : Option Addr) (n c fm : Nat) : List Value := docC st ⟨0, R, 0, 0, fun _ => .slice none 0 0, H, 0, .slice x n c, fm⟩
theorem docQ_len (st : Ds) (h : st.S.length = 8) (R H : Nat) (x : Option Addr) (n c fm : Nat) : (docQ st R H x n c fm).length = 12 := (docC_parts st _ h).2.2.2.2.2
theorem docQ_one (st : Ds) (R H : Nat) (x : Option Addr) (n c fm : Nat) : ∀ v ∈ docQ st R H x n c fm, v.oneCell' = true := fun v hv => by
 unfold docQ docC at hv
 simp only [List.mem_append, List.mem_cons, List.mem_map, List.not_mem_nil, or_false] at hv
 rcases hv with ((rfl | rfl) | ⟨a, -, rfl⟩) | (rfl | rfl) <;> rfl
theorem docQ_build (st : Ds) (h : st.S.length = 8) (R H : Nat) (x : Option Addr) (n c fm : Nat) (wx : World) : (Instr.build 73 #[(0, .pointer (some ⟨R, 0, none⟩)), (1, .pointer (some ⟨H, 0, none⟩)), (2, .agg (st.S.map (Value.int .u32)).toArray), (3, .slice x n c), (4, .map (some fm))]).run Tryz.prog wx = .ok (.agg (docQ st R H x n c fm).toArray) wx := by
 obtain ⟨N, B, S, L, F⟩ := st
 match S, h with
 | [_, _, _, _, _, _, _, _], _ => exact run_build wx _ _ _ (by kernel_rfl)
theorem docQ_lit (st : Ds) (h : st.S.length = 8) : ∃ a0 a1 a2 a3 a4 a5 a6 a7 : Int, ∀ R H x n c fm, docQ st R H x n c fm = [.pointer (some ⟨R, 0, none⟩), .pointer (some ⟨H, 0, none⟩), .int .u32 a0, .int .u32 a1, .int .u32 a2, .int .u32 a3, .int .u32 a4, .int .u32 a5, .int .u32 a6, .int .u32 a7, .slice x n c, .map (some fm)] := by
 obtain ⟨N, B, S, L, F⟩ := st
 match S, h with
 | [b0, b1, b2, b3, b4, b5, b6, b7], _ => exact ⟨b0, b1, b2, b3, b4, b5, b6, b7, fun _ _ _ _ _ _ => rfl⟩
set_option maxHeartbeats 8000000 in
theorem dcopied_any (base : Nat) (st : Ds) (p : Pl) (w : World) (hD : DocAt w base st p) (hG : GoodD st) :
    Calls Tryz.prog 57 #[.pointer (some ⟨p.D, 0, none⟩)] w fun r w' => ∃ R H x n c fm q, r = .returned (.agg (docQ st R H x n c fm).toArray) ∧ docC st q = docQ st R H x n c fm ∧ PartsD st w.heap.size q w' ∧ Below w.heap.size w w' := by
 obtain ⟨Z, hZ⟩ : ∃ Z : List Value, Z = [.pointer none, .pointer none, .int .u32 0, .int .u32 0, .int .u32 0, .int .u32 0, .int .u32 0, .int .u32 0, .int .u32 0, .int .u32 0, .slice none 0 0, .map none] := ⟨_, rfl⟩
 have hc0 := CellsAt.new w 73 Z
 have hB0 : Below w.heap.size w (w.alloc (.cells Z.toArray 73)) := (Below.refl _ _).alloc (Nat.le_refl _) _
 have hD0 := hD.far hB0
 have hZ12 : Z.length = 12 := by rw [hZ]; rfl
 have iI : ∀ cs : List Value, cs.length = 12 → (Tryz.prog.info? 73).map (·.size) = some cs.length := fun cs h => by rw [h]; kernel_rfl
 have iV : (Tryz.prog.info? 37).map (·.size) = some (st.S.map (Value.int .u32)).length := by rw [List.length_map, hG.slen]; kernel_rfl
 have uV := Tryz.underlying37
 have uI := Tryz.underlying73
 have hnl := hG.nlen
 have hll := hG.llen
 obtain ⟨px, pc, hpv⟩ := hD.evs.isSlice
 rw [List.length_map] at hpv
 have HND : Veil (∀ k, docP p k → k < w.heap.size) := ⟨hD.blockLt⟩
 have HT : Veil (∀ W, DocAt W base st p → W.cell? ⟨p.D, 0, none⟩ = some (.pointer (some ⟨p.R, 0, none⟩)) ∧ W.cell? ⟨p.D, 1, none⟩ = some (.pointer (some ⟨p.H, 0, none⟩)) ∧ W.rangeAt p.D 2 (st.S.map (Value.int .u32)) ∧ W.cell? ⟨p.D, 10, none⟩ = some (.slice px st.L.length pc) ∧ W.cell? ⟨p.D, 11, none⟩ = some (.map (some p.fm))) := ⟨fun W h => ⟨h.cR hG.slen, h.cH hG.slen, h.cS hG.slen, by rw [← hpv]; exact h.cV hG.slen, h.cF hG.slen⟩⟩
 have HFT : Veil (∀ W, DocAt W base st p → Calls Tryz.prog 82 #[.pointer (some ⟨p.R, 0, none⟩)] W fun e w' => ∃ R' bc' bn' V', e = .returned (.pointer (some ⟨R', 0, none⟩)) ∧ TreeAt w' W.heap.size R' bc' bn' st.N V' ∧ Below W.heap.size W w' ∧ ∀ k, treeP R' bc' bn' V' k → W.heap.size ≤ k) := ⟨fun W h => forkT_any base p.R p.bc p.bn st.N p.V (by omega) W h.tree⟩
 have HFB : Veil (∀ W, DocAt W base st p → Calls Tryz.prog 83 #[.pointer (some ⟨p.H, 0, none⟩)] W fun e w' => ∃ H' b', e = .returned (.pointer (some ⟨H', 0, none⟩)) ∧ BookC w' H' b' st.B ∧ Below W.heap.size W w' ∧ W.heap.size ≤ H' ∧ W.heap.size ≤ b') := ⟨fun W h => abfork_any p.H p.bk st.B W h.book⟩
 have HFE : Veil (∀ W, DocAt W base st p → Calls Tryz.prog 40 #[.slice px st.L.length pc] W fun e w' => ∃ x c, e = .returned (.slice x st.L.length c) ∧ OwnI w' W.heap.size 44 17 (.slice x st.L.length c) (st.L.map Ev.cells) ∧ Below W.heap.size W w') := ⟨fun W h => by
  have h1 := h.evs
  rw [hpv] at h1
  refine (eCloneD_any base W _ st.L h1 (by omega)).mono ?_
  rintro e w' ⟨v', rfl, ho, hb⟩
  obtain ⟨x, c, hx⟩ := ho.isSlice
  rw [List.length_map] at hx
  subst hx
  exact ⟨x, c, rfl, ho, hb⟩⟩
 have HFM : Veil (∀ W, DocAt W base st p → Calls Tryz.prog 84 #[.map (some p.fm)] W fun e w' => e = .returned (.map (some W.heap.size)) ∧ MapG Tryz.prog 40 encDF okDF w' W.heap.size st.F.length (forM st.F) ∧ Below W.heap.size W w') := ⟨fun W h => fCloneD_any p.fm st.F.length (forM st.F) W h.force⟩
 have HBD := Veil.mk (docQ_build st hG.slen)
 have HQL := Veil.mk (docQ_len st hG.slen)
 have HQ1 := Veil.mk (docQ_one st)
 have HQC : Veil (∀ R' bc' bn' V' H' b' x n c fm, docC st ⟨0, R', bc', bn', V', H', b', .slice x n c, fm⟩ = docQ st R' H' x n c fm) := ⟨fun _ _ _ _ _ _ _ _ _ _ => rfl⟩
 generalize docQ st = QQ at HBD HQL HQ1 HQC ⊢
 generalize st.S.map (Value.int .u32) = SV at HT HBD iV
 obtain ⟨n, hn⟩ : ∃ q, st.L.length = q := ⟨_, rfl⟩
 rw [hn] at HT HFE
 generalize p.D = D at HT ⊢
 generalize p.R = R at HT HFT
 generalize p.H = H at HT HFB
 generalize p.fm = fm at HT HFM
 rw [hZ] at hc0 hB0
 clear hD hpv hn hnl hll
 go_enter Tryz.func57, Tryz.ntmps57
 go_upto_region 1 with fail
 have hD1 : DocAt (w.alloc (.cells Z.toArray 73)) base st p := hD0
 rw [hZ] at hD1
 refine forget (p := fun y => Code.wp _ _ _ _ y) (fun W => Below w.heap.size w W ∧ CellsAt W w.heap.size 73 Z ∧ DocAt W base st p ∧ w.heap.size < W.heap.size) ⟨hB0, by rw [hZ]; exact hc0, hD1, hc0.lt⟩ ?_
 clear hB0 hc0 hZ hD0 hD1
 rintro W0 ⟨hB, hc, hD, hlt⟩
 have hb0 : Below W0.heap.size W0 W0.drew := (Below.refl _ _).drew
 have hDd := hD.far hb0
 have hcd := hc.farM hb0
 have hBd := hB.trans (hb0.mono hB.size)
 have hltd : w.heap.size < W0.drew.heap.size := hlt
 refine wp_region_gateT (fun W => W.cell? ⟨D, 0, none⟩ = some (.pointer (some ⟨R, 0, none⟩)) ∧ W.cell? ⟨D, 1, none⟩ = some (.pointer (some ⟨H, 0, none⟩)) ∧ W.rangeAt D 2 SV ∧ W.cell? ⟨D, 10, none⟩ = some (.slice px n pc) ∧ W.cell? ⟨D, 11, none⟩ = some (.map (some fm))) (fun _ => True) 99 (by kernel_rfl) ?_
 have hT : (fun W : World => W.cell? ⟨D, 0, none⟩ = some (.pointer (some ⟨R, 0, none⟩)) ∧ W.cell? ⟨D, 1, none⟩ = some (.pointer (some ⟨H, 0, none⟩)) ∧ W.rangeAt D 2 SV ∧ W.cell? ⟨D, 10, none⟩ = some (.slice px n pc) ∧ W.cell? ⟨D, 11, none⟩ = some (.map (some fm))) W0.drew := HT.out _ hDd
 have hS : (fun _ : World => True) W0.drew := trivial
 generalize W0.drew = W at hDd hcd hBd hltd hT hS ⊢
 clear hb0 hD hc hB hlt W0
 have hft := HFT.out W hDd
 refine ghA 0 _ hT hS ?_
 simp only [Act.put, gA, gS, gZ, sI, sZ, sS]
 refine ghA 1 _ hT hS ?_
 simp only [Act.put, gA, gS, gZ, sI, sZ, sS]
 refine ghA 2 _ hT hS ?_
 simp only [Act.put, gA, gS, gZ, sI, sZ, sS]
 refine ghA 3 _ hT hS ?_
 simp only [Act.put, gA, gS, gZ, sI, sZ, sS]
 refine ghA 5 _ hT hS ?_
 simp only [Act.put, gA, gS, gZ, sI, sZ, sS]
 refine ghA 6 _ hT hS ?_
 simp only [Act.put, gA, gS, gZ, sI, sZ, sS]
 refine ghA 7 _ hT hS ?_
 simp only [Act.put, gA, gS, gZ, sI, sZ, sS]
 refine ghA 8 _ hT hS ?_
 simp only [Act.put, gA, gS, gZ, sI, sZ, sS]
 refine ghA 10 _ hT hS ?_
 simp only [Act.put, gA, gS, gZ, sI, sZ, sS]
 refine ghA 11 _ hT hS ?_
 simp only [Act.put, gA, gS, gZ, sI, sZ, sS]
 refine ghA 12 _ hT hS ?_
 simp only [Act.put, gA, gS, gZ, sI, sZ, sS]
 refine gl 13 16 37 15 D 2 SV (by kernel_rfl) (by kernel_rfl) (by kernel_rfl) (fun _ _ _ h => h) hT hS (by kernel_rfl) (fun _ h => h.2.2.1) uV rfl iV ?_
 simp only [Act.put, gA, gS, gZ, sI, sZ, sS]
 refine ghA 14 _ hT hS ?_
 simp only [Act.put, gA, gS, gZ, sI, sZ, sS]
 refine ghA 15 _ hT hS ?_
 simp only [Act.put, gA, gS, gZ, sI, sZ, sS]
 refine ghA 16 _ hT hS ?_
 simp only [Act.put, gA, gS, gZ, sI, sZ, sS]
 refine ghA 17 _ hT hS ?_
 simp only [Act.put, gA, gS, gZ, sI, sZ, sS]
 refine ghA 19 _ hT hS ?_
 simp only [Act.put, gA, gS, gZ, sI, sZ, sS]
 refine ghA 20 _ hT hS ?_
 simp only [Act.put, gA, gS, gZ, sI, sZ, sS]
 refine ghA 21 _ hT hS ?_
 simp only [Act.put, gA, gS, gZ, sI, sZ, sS]
 refine ghA 22 _ hT hS ?_
 simp only [Act.put, gA, gS, gZ, sI, sZ, sS]
 refine wpAnyT_one (i := 4) rfl (by kernel_rfl) (by kernel_rfl) (fun K hK => ?_)
 refine wpx_call _ _ (by kernel_rfl) (hft.mono ?_)
 rintro y W1 ⟨R', bc', bn', V', rfl, hT1, hb1, ht1⟩
 refine ⟨_, rfl, ?_⟩
 have hD1 := hDd.far hb1
 replace hT := HT.out _ hD1
 replace hS : (fun _ : World => True) W1 := trivial
 have hfb := HFB.out W1 hD1
 have hc1 := hcd.farM hb1
 clear hft hDd hcd
 refine hK.out _ _ hT (fun _ => hS) ?_
 clear hK K
 try simp only [Act.put, gA, gS, gZ, sI, sZ, sS]
 refine wpAnyT_one (i := 9) rfl (by kernel_rfl) (by kernel_rfl) (fun K hK => ?_)
 refine wpx_call _ _ (by kernel_rfl) (hfb.mono ?_)
 rintro y W2 ⟨H', b', rfl, hK2, hb2, hh1, hh2⟩
 refine ⟨_, rfl, ?_⟩
 have hD2 := hD1.far hb2
 replace hT := HT.out _ hD2
 replace hS : (fun _ : World => True) W2 := trivial
 have hfe := HFE.out W2 hD2
 have hc2 := hc1.farM hb2
 clear hfb hD1 hc1
 refine hK.out _ _ hT (fun _ => hS) ?_
 clear hK K
 try simp only [Act.put, gA, gS, gZ, sI, sZ, sS]
 refine wpAnyT_one (i := 18) rfl (by kernel_rfl) (by kernel_rfl) (fun K hK => ?_)
 refine wpx_call _ _ (by kernel_rfl) (hfe.mono ?_)
 rintro y W3 ⟨x, c, rfl, ho3, hb3⟩
 refine ⟨_, rfl, ?_⟩
 have hD3 := hD2.far hb3
 replace hT := HT.out _ hD3
 replace hS : (fun _ : World => True) W3 := trivial
 have hfm := HFM.out W3 hD3
 have hc3 := hc2.farM hb3
 clear hfe hD2 hc2
 refine hK.out _ _ hT (fun _ => hS) ?_
 clear hK K
 try simp only [Act.put, gA, gS, gZ, sI, sZ, sS]
 refine wpAnyT_one (i := 23) rfl (by kernel_rfl) (by kernel_rfl) (fun K hK => ?_)
 refine wpx_call _ _ (by kernel_rfl) (hfm.mono ?_)
 rintro y W4 ⟨rfl, hM4, hb4⟩
 refine ⟨_, rfl, ?_⟩
 have hD4 := hD3.far hb4
 replace hT := HT.out _ hD4
 replace hS : (fun _ : World => True) W4 := trivial
 have hc4 := hc3.farM hb4
 have HPT : Veil (PartsD st W.heap.size ⟨0, R', bc', bn', V', H', b', .slice x n c, W3.heap.size⟩ W4) := ⟨⟨((hT1.far hb2).far hb3).far hb4, (hK2.far hb3).far hb4, (ho3.far hb4).less (Nat.le_trans hb1.size hb2.size), hM4, ⟨W1.heap.size, W2.heap.size, fun k q => ⟨ht1 k q, hT1.blockLt k q⟩, ⟨hh1, hK2.cells.lt⟩, ⟨hh2, hK2.map.lt⟩, fun k hk => ⟨(ho3.blockLt k hk).2.1, (ho3.blockLt k hk).1⟩, hb3.size⟩⟩⟩
 have hBB : Below w.heap.size w W4 := hBd.trans ((hb1.trans ((hb2.trans ((hb3.trans (hb4.mono hb3.size)).mono hb2.size)).mono hb1.size)).mono hBd.size)
 have HBB := Veil.mk hBB
 clear hfm hD3 hc3 hT1 hb1 ht1 hK2 hb2 hh1 hh2 ho3 hb3 hM4 hb4 hBB hBd
 have HD4 := Veil.mk hD4
 clear hD4
 generalize W3.heap.size = fm' at HPT
 clear W1 W2 W3
 refine hK.out _ _ hT (fun _ => hS) ?_
 clear hK K
 try simp only [Act.put, gA, gS, gZ, sI, sZ, sS]
 refine wpAnyT_one (i := 24) rfl (by kernel_rfl) (by kernel_rfl) (fun K hK => ?_)
 refine wpx_bld 73 _ rfl #[(0, .pointer (some ⟨R', 0, none⟩)), (1, .pointer (some ⟨H', 0, none⟩)), (2, .agg SV.toArray), (3, .slice x n c), (4, .map (some fm'))] (by kernel_rfl) _ (HBD.out R' H' x n c fm' W4) ?_
 refine hK.out _ _ hT (fun _ => hS) ?_
 clear hK K
 try simp only [Act.put, gA, gS, gZ, sI, sZ, sS]
 refine wpAnyT_one (i := 25) rfl (by kernel_rfl) (by kernel_rfl) (fun K hK => ?_)
 refine wp_stvE 73 _ _ rfl w.heap.size rfl (cs := QQ R' H' x n c fm') rfl hc4 (iI _ (HQL.out _ _ _ _ _ _)) (by rw [hZ12]; exact (HQL.out _ _ _ _ _ _).symm) (HQ1.out _ _ _ _ _ _) ?_
 have hP5 : PartsD st W.heap.size ⟨0, R', bc', bn', V', H', b', .slice x n c, fm'⟩ (W4.setRow w.heap.size (QQ R' H' x n c fm').toArray) := HPT.out.keep fun k hk => setRow_other _ _ _ _ (by omega)
 have hB5 : Below w.heap.size w (W4.setRow w.heap.size (QQ R' H' x n c fm').toArray) := below_setRow HBB.out (Nat.le_refl _) _
 have hc5 := hc4.setRow (QQ R' H' x n c fm')
 have HFI := Veil.mk (And.intro (hP5.less (Nat.le_of_lt hltd)) (And.intro hB5 hc5))
 have hD5 : DocAt (W4.setRow w.heap.size (QQ R' H' x n c fm').toArray) base st p := HD4.out.congr fun k q => setRow_other _ _ _ _ (by have := HND.out k q; omega)
 replace hT := HT.out _ hD5
 replace hS : (fun _ : World => True) (W4.setRow w.heap.size (QQ R' H' x n c fm').toArray) := trivial
 clear hP5 hB5 hc5 hc4 hD5 HD4 HPT HBB
 generalize W4.setRow w.heap.size (QQ R' H' x n c fm').toArray = W5 at HFI hT hS ⊢
 clear W4
 refine hK.out _ _ hT (fun _ => hS) ?_
 clear hK K
 try simp only [Act.put, gA, gS, gZ, sI, sZ, sS]
 refine wpAnyT_done (by kernel_rfl) ?_ _
 clear hT hS
 go_wp2
 obtain ⟨hP5, hB5, hc5⟩ := HFI.out
 exact bodyPost_ret (results_cells (Tryz.results57) _ rfl hc5 uI rfl (iI _ (HQL.out _ _ _ _ _ _))) rfl ⟨R', H', x, n, c, fm', ⟨0, R', bc', bn', V', H', b', .slice x n c, fm'⟩, rfl, HQC.out _ _ _ _ _ _ _ _ _ _, hP5, hB5⟩
set_option maxHeartbeats 4000000 in
theorem dfork_any (base : Nat) (st : Ds) (p : Pl) (w : World) (hD : DocAt w base st p) (hG : GoodD st) :
    Calls Tryz.prog 29 #[.pointer (some ⟨p.D, 0, none⟩)] w fun r w' => ∃ q, r = .returned (.pointer (some ⟨q.D, 0, none⟩)) ∧ DocAt w' w.heap.size st q ∧ Below w.heap.size w w' ∧ ∀ k, docP q k → w.heap.size ≤ k := by
 have hcp := dcopied_any base st p w hD hG
 obtain ⟨s0, s1, s2, s3, s4, s5, s6, s7, hL⟩ := docQ_lit st hG.slen
 have HL := Veil.mk hL
 have HDD : Veil (∀ W q, PartsD st w.heap.size q W → Below w.heap.size w W → DocAt (W.alloc (.cells (docC st q).toArray 75)) w.heap.size st { q with D := W.heap.size } ∧ ∀ k, docP { q with D := W.heap.size } k → w.heap.size ≤ k) := ⟨fun W q h hb => h.doc hb.size⟩
 generalize docQ st = QQ at hcp HL
 generalize p.D = D at hcp ⊢
 clear hD hL
 go_enter Tryz.func29, Tryz.ntmps29
 go_wp2_with (go_at_call 57; refine hcp.mono ?_; rintro y W1 ⟨R, H, x, n, c, fm, q, rfl, hq, hP, hB⟩; rw [HL.out] at hq ⊢; clear hcp)
 have HH := HDD.out W1 q hP hB
 rw [hq] at HH
 have hb2 : Below w.heap.size w (W1.alloc (.cells (docC st q).toArray 75)) := hB.alloc hB.size _
 rw [hq] at hb2
 have HF := Veil.mk (And.intro HH hb2)
 clear HH hb2
 go_ret
 exact ⟨{ q with D := W1.heap.size }, rfl, HF.out.1.1, HF.out.2, HF.out.1.2⟩
end Go.Proofs.YtmbdohnmbkpfaaaGreat
