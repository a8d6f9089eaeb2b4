/- Fg16 Cv2 Eve Ab1 -/
import Derived.Test.YtmbdohnmbkpfaaaGreatV14
import Derived.Test.YtmbdohnmbkpfaaaGreatV01
import Derived.Test.YtmbdohnmbkpfaaaGreatV11
import Derived.Test.YtmbdohnmbkpfaaaGreatV07
import Derived.Test.YtmbdohnmbkpfaaaGreatV09
namespace Go.Proofs.YtmbdohnmbkpfaaaGreat
open Go.RowKit Go.Shelf
set_option maxRecDepth 20000
set_option linter.unusedSimpArgs false
def gone (x : Int × Int) (n : Nd) : Nd := if n.id = x then { n with chr := 0 } else n
def delN (N : List Nd) (x : Int × Int) : List Nd := N.map (gone x)
theorem gone_id (x : Int × Int) (n : Nd) : (gone x n).id = n.id := by unfold gone; split <;> rfl
theorem gone_side (x : Int × Int) (n : Nd) : (gone x n).side = n.side := by unfold gone; split <;> rfl
theorem delN_ids (N : List Nd) (x : Int × Int) : (delN N x).map (·.id) = N.map (·.id) := by
 unfold delN
 rw [List.map_map]
 exact List.map_congr_left fun n _ => gone_id x n
theorem delN_len (N : List Nd) (x : Int × Int) : (delN N x).length = N.length := List.length_map _
theorem kids_delN (N : List Nd) (x : Int × Int) (s : (Int × Int) × Bool) : kids (delN N x) s = kids N s := by
 unfold kids delN
 rw [List.foldl_map]
 simp only [gone_id, gone_side]
theorem Rooted.del {N : List Nd} (h : Rooted N) (x : Int × Int) : Rooted (delN N x) where
 nodup := by rw [delN_ids]; exact h.nodup
 id := fun m hm => by
  obtain ⟨n, hn, rfl⟩ := List.mem_map.1 hm
  rw [gone_id]; exact h.id n hn
 above := fun j hj => by
  have e : ∀ k (hk : k < (delN N x).length), (delN N x)[k] = gone x (N[k]'(by rw [delN_len] at hk; exact hk)) := fun k hk => List.getElem_map _
  rw [e j hj, gone_side]
  rcases h.above j (by rw [delN_len] at hj; exact hj) with q | ⟨i, hi, q⟩
  · exact .inl q
  · exact .inr ⟨i, hi, by rw [e, gone_id]; exact q⟩
theorem TreeOk.del {N : List Nd} (h : TreeOk N) (x : Int × Int) : TreeOk (delN N x) where
 rooted := h.rooted.del x
 right := fun m hm => by
  obtain ⟨n, hn, rfl⟩ := List.mem_map.1 hm
  rw [gone_side]; exact h.right n hn
theorem walk_delN {N : List Nd} (h : Rooted N) (x : Int × Int) (s : (Int × Int) × Bool) : walkA (delN N x) s = walkA N s := walk_same (h.del x) h (kids_delN N x) s
theorem chrN_del (N : List Nd) (x y : Int × Int) : chrN (delN N x) y = if y = x then (chrN N x).map (fun _ => 0) else chrN N y := by
 unfold chrN delN
 rw [List.find?_map]
 have : ((fun n : Nd => decide (n.id = y)) ∘ gone x) = fun n : Nd => decide (n.id = y) := by funext n; simp [gone_id]
 rw [this]
 split
 · next e =>
   subst e
   cases hq : N.find? (fun n => decide (n.id = y)) with
   | none => rfl
   | some n =>
    have := List.find?_some hq
    simp only [Option.map_some]
    unfold gone
    rw [if_pos (by simpa using this)]
 · next e =>
   cases hq : N.find? (fun n => decide (n.id = y)) with
   | none => rfl
   | some n =>
    have := List.find?_some hq
    simp only [Option.map_some]
    unfold gone
    rw [if_neg (fun q => e (by have h2 : n.id = y := (by simpa using this); exact h2.symm.trans q))]
theorem chrM_del (N : List Nd) (x : Int × Int) (h : (chrN N x).isSome = true) : putG (chrM N) x (.int .u8 0) = chrM (delN N x) := by
 funext y
 unfold putG chrM
 rw [chrN_del]
 by_cases e : y = x
 · subst e
   cases hq : chrN N y with
   | none => rw [hq] at h; cases h
   | some c => simp
 · simp [e]
theorem sideM_del (N : List Nd) (x : Int × Int) (V : (Int × Int) × Bool → Value) : sideM (delN N x) V = sideM N V := by
 funext s
 unfold sideM
 rw [kids_delN]
theorem TreeAt.del {w w' : World} {base R bc bn : Nat} {N : List Nd} {V : (Int × Int) × Bool → Value} (h : TreeAt w base R bc bn N V) (x : Int × Int) (hM : MapX Tryz.prog 40 encDF okDF w' bc N.length (chrM (delN N x))) (hk : ∀ k, k < w.heap.size → k ≠ bc → w'.heap[k]? = w.heap[k]?) : TreeAt w' base R bc bn (delN N x) V where
 box := h.box.congr (hk R h.box.lt (fun e => h.chars.g.cellsNe h.box e.symm))
 chars := by rw [delN_len]; exact hM
 nodes := by rw [delN_len, sideM_del]; exact h.nodes.congr (hk bn h.nodes.lt (Ne.symm h.ne))
 sides := ⟨fun s hs => by rw [kids_delN]; exact (h.sides.own s hs).congr fun g hg => hk g ((h.sides.own s hs).blockLt g hg).1 (fun e => (h.sides.far s hs).2.1 (e ▸ hg)), h.sides.apart, h.sides.far⟩
 empty := fun s hs hq => h.empty s hs (by rw [kids_delN] at hq; exact hq)
 nodup := by rw [delN_ids]; exact h.nodup
 okId := fun m hm => by
  obtain ⟨n, hn, rfl⟩ := List.mem_map.1 hm
  rw [gone_id, gone_side]; exact h.okId n hn
 okChr := fun m hm => by
  obtain ⟨n, hn, rfl⟩ := List.mem_map.1 hm
  have := h.okChr n hn
  unfold gone
  split
  · exact ⟨by show (0 : Int) ≤ 0; decide, by show (0 : Int) ≤ 127; decide⟩
  · exact this
 ne := h.ne
theorem delN_none {N : List Nd} {x : Int × Int} (h : (chrN N x).isSome = false) : delN N x = N := by
 unfold delN
 conv => rhs; rw [← List.map_id N]
 refine List.map_congr_left fun n hn => ?_
 unfold gone
 rw [if_neg (chrN_fresh h n hn)]; rfl
set_option maxHeartbeats 4000000 in
theorem delT_any (base R bc bn : Nat) (N : List Nd) (V : (Int × Int) × Bool → Value) (x : Int × Int) (hx : okDF x) (hlen : N.length ≤ 1000) (w : World) (hT : TreeAt w base R bc bn N V) :
    Calls Tryz.prog 115 #[.pointer (some ⟨R, 0, none⟩), .agg (encF x).toArray] w fun e w' => e = .returned (.int .i64 (if (chrN N x).isSome = true then 0 else 7)) ∧ TreeAt w' base R bc bn (delN N x) V ∧ TreeTo R bc bn V V w w' := by
 have hd0 := CellsAt.new w 40 (encF x)
 have hB : Below w.heap.size w (w.alloc (.cells (encF x).toArray 40)) := (Below.refl _ _).alloc (Nat.le_refl _) _
 have uD := Tryz.underlying40
 have iD : (Tryz.prog.info? 40).map (·.size) = some (encF x).length := sizeDot
 have HH : Veil (∀ W, Below w.heap.size w W → Calls Tryz.prog 123 #[.pointer (some ⟨R, 0, none⟩), .agg (encF x).toArray] W fun e w' => e = .returned (.bool (chrN N x).isSome) ∧ Below W.heap.size W w') := ⟨fun W h => hasT_any base R bc bn N V x hx W (hT.far h)⟩
 have HN : Veil ((chrN N x).isSome = false → ∀ W, Below w.heap.size w W → TreeAt W base R bc bn (delN N x) V ∧ TreeTo R bc bn V V w W) := ⟨fun h W hb => ⟨by rw [delN_none h]; exact hT.far hb, TreeTo.of_below hb⟩⟩
 have HS : Veil ((chrN N x).isSome = true → ∀ W, Below w.heap.size w W → W.cell? ⟨R, 0, none⟩ = some (.map (some bc)) ∧ ∃ W1, (Instr.mapUpdate 110 (.map (some bc)) (.agg (encF x).toArray) (.int .u8 0)).run Tryz.prog W = .ok () W1 ∧ TreeAt W1 base R bc bn (delN N x) V ∧ TreeTo R bc bn V V w W1) := ⟨fun h W hb => ⟨(hT.far hb).box.cell 0, by
  obtain ⟨W1, hrun, hM, hg⟩ := (hT.far hb).chars.store keyEncDF Tryz.underlying110 (by simp [maxLen]; omega) x hx (.int .u8 0)
  rw [chrM_some, h, chrM_del N x h] at hM
  refine ⟨W1, hrun, (hT.far hb).del x hM fun k hk hn => hg.block k hk (fun e => hn (Option.some.inj e)), (Turn.of_below hb).trans (Turn.of_grown hg fun k hk => .inr (.inl (Option.some.inj hk).symm)), fun k hk => .inl hk⟩⟩⟩
 generalize (chrN N x).isSome = IS at HH HN HS ⊢
 obtain ⟨DX, hDX⟩ : ∃ q, encF x = q := ⟨_, rfl⟩
 rw [hDX] at hd0 hB iD HH HS ⊢
 clear hDX hT hx hlen
 go_enter Tryz.func115, Tryz.ntmps115
 go_upto_region 3 with fail
 refine forget (p := fun y => Code.wp _ _ _ _ y) (fun W => Below w.heap.size w W ∧ CellsAt W w.heap.size 40 DX) ⟨hB, hd0⟩ ?_
 clear hB hd0
 rintro W ⟨hB, hd⟩
 have hr := hd.wholeM
 have hh := HH.out W hB
 have HF : Veil (∀ W1, Below W.heap.size W W1 → Below w.heap.size w W1 ∧ W1.rangeAt w.heap.size 0 DX) := ⟨fun W1 hb => ⟨hB.trans (hb.mono hB.size), (hd.farM hb).wholeM⟩⟩
 clear hB hd HH
 cases IS
 · go_wp2_with (first
    | (refine wpList_ldv rfl 40 (.tmp 3) rfl w.heap.size 0 rfl DX hr uD rfl iD ?_)
    | (go_at_call 123; refine hh.mono ?_; rintro z W1 ⟨rfl, h1⟩))
   go_ret
   exact ⟨rfl, HN.out trivial W1 (HF.out W1 h1).1⟩
 · go_upto_region 5 with (first
    | (refine wpList_ldv rfl 40 (.tmp 3) rfl w.heap.size 0 rfl DX hr uD rfl iD ?_)
    | (go_at_call 123; refine hh.mono ?_; rintro z W1 ⟨rfl, h1⟩))
   obtain ⟨hB1, r1⟩ := HF.out W1 h1
   obtain ⟨hc, W2, hrun, hE⟩ := HS.out trivial W1.drew hB1.drew
   have HE := Veil.mk hE
   clear hE hh hr h1 HF
   refine wp_region_gate (fun w' => w'.cell? ⟨R, 0, none⟩ = some (.map (some bc)) ∧ w'.rangeAt w.heap.size 0 DX) 5 (by kernel_rfl) ?_
   have hS : (fun w' : World => w'.cell? ⟨R, 0, none⟩ = some (.map (some bc)) ∧ w'.rangeAt w.heap.size 0 DX) W1.drew := ⟨hc, r1⟩
   clear hc
   refine gaA 0 _ hS ?_
   simp only [Act.put, gA, gS, gZ, sI, sZ, sS]
   refine gaA 1 _ hS ?_
   simp only [Act.put, gA, gS, gZ, sI, sZ, sS]
   refine gaA 2 _ hS ?_
   simp only [Act.put, gA, gS, gZ, sI, sZ, sS]
   refine grA 3 _ hS ?_
   simp only [Act.put, gA, gS, gZ, sI, sZ, sS]
   refine wpAnyG_load (i := 4) (dst := some 15) (ty := 40) (x := .tmp 3) (b := w.heap.size) (o := (0)) (cs := DX) (by kernel_rfl) (by kernel_rfl) (by kernel_rfl) (by kernel_rfl) (by kernel_rfl) (fun _ _ _ h => h) (by kernel_rfl) (by kernel_rfl) (by kernel_rfl) hS (by kernel_rfl) (fun _ h => h.2) uD rfl iD ?_
   simp only [Act.put, gA, gS, gZ, sI, sZ, sS]
   refine wpAnyG_one (i := 5) rfl (by kernel_rfl) (by kernel_rfl) (fun K hK => ?_)
   refine wpx_upd _ _ _ _ rfl _ _ _ W2 rfl rfl rfl hrun ?_
   refine hK.out _ _ (fun h => absurd (show true = false from h) (by decide)) ?_
   clear hK K
   try simp only [Act.put, gA, gS, gZ, sI, sZ, sS]
   refine wpAnyG_done (by kernel_rfl) ?_ _
   clear hS hrun r1
   go_wp2
   go_ret
   exact ⟨rfl, HE.out⟩
theorem TreeAt.new {w : World} {R bc bn : Nat} (base : Nat) (hbox : CellsAt w R 113 [.map (some bc), .map (some bn)]) (hc : MapX Tryz.prog 40 encDF okDF w bc 0 (fun _ => none)) (hn : MapG Tryz.prog 117 encS okS w bn 0 (fun _ => none)) (hne : bc ≠ bn) : TreeAt w base R bc bn [] (fun _ => .slice none 0 0) where
 box := hbox
 chars := hc
 nodes := hn
 sides := ⟨fun s _ => OwnI.nil _ _ _ _, fun _ _ _ _ _ k hk => by simp [Value.ownBlock] at hk, fun _ _ => by simp [Value.ownBlock]⟩
 empty := fun _ _ _ => rfl
 nodup := List.nodup_nil
 okId := fun _ h => by simp at h
 okChr := fun _ h => by simp at h
 ne := hne
theorem newT_any (w : World) : Calls Tryz.prog 70 #[] w fun e w' => ∃ R bc bn, e = .returned (.pointer (some ⟨R, 0, none⟩)) ∧ TreeAt w' w.heap.size R bc bn [] (fun _ => .slice none 0 0) ∧ Below w.heap.size w w' ∧ w.heap.size ≤ R ∧ w.heap.size ≤ bc ∧ w.heap.size ≤ bn := by
 have hc := MapX.made (P := Tryz.prog) (kt := 40) (enc := encDF) (ok := okDF) w
 have hn := MapG.made (P := Tryz.prog) (kt := 117) (enc := encS) (ok := okS) (w.alloc (.map #[] 0))
 have hb := CellsAt.new ((w.alloc (.map #[] 0)).alloc (.map #[] 0)) 113 [.map (some w.heap.size), .map (some (w.heap.size + 1))]
 simp only [World.size_alloc] at hn hb
 have hB : Below w.heap.size w (((w.alloc (.map #[] 0)).alloc (.map #[] 0)).alloc (.cells #[.map (some w.heap.size), .map (some (w.heap.size + 1))] 113)) := (((Below.refl _ _).alloc (Nat.le_refl _) _).alloc (by simp) _).alloc (by simp; omega) _
 have HT : Veil (TreeAt (((w.alloc (.map #[] 0)).alloc (.map #[] 0)).alloc (.cells #[.map (some w.heap.size), .map (some (w.heap.size + 1))] 113)) w.heap.size (w.heap.size + 1 + 1) w.heap.size (w.heap.size + 1) [] (fun _ => .slice none 0 0)) := ⟨TreeAt.new _ hb ((hc.congr (Below.heap_alloc _ _ _ (by simp))).congr (Below.heap_alloc _ _ _ (by simp; omega))) (hn.congr (Below.heap_alloc _ _ _ (by simp))) (by omega)⟩
 have HB := Veil.mk hB
 have hmm := @run_makeMap Tryz.prog
 clear hc hn hb hB
 go_enter Tryz.func70, Tryz.ntmps70
 go_wp2
 go_ret
 exact ⟨_, _, _, rfl, HT.out, HB.out, by omega, by omega, by omega⟩
open Go.RowKit
def joinTo (a b : List Int) : Nat → List Int
 | 0 => a
 | n + 1 => (joinTo a b n).set n (if a[n]?.getD 0 < b[n]?.getD 0 then b[n]?.getD 0 else a[n]?.getD 0)
def joinV (a b : List Int) : List Int := joinTo a b 8
theorem joinTo_length (a b : List Int) : ∀ n, (joinTo a b n).length = a.length
 | 0 => rfl
 | n + 1 => by rw [joinTo, List.length_set, joinTo_length a b n]
theorem joinTo_above (a b : List Int) : ∀ n j, n ≤ j → (joinTo a b n)[j]?.getD 0 = a[j]?.getD 0
 | 0, _, _ => rfl
 | n + 1, j, h => by
  rw [joinTo, List.getElem?_set_ne (by omega), joinTo_above a b n j (by omega)]
theorem sizeV8 : (Tryz.prog.info? 37).map (·.size) = some 8 := by kernel_rfl
set_option maxHeartbeats 2000000 in
theorem cjoin_any (a b : List Int) (w : World) (ha : a.length = 8) (hb : b.length = 8) :
    Calls Tryz.prog 121 #[.agg (row .u32 a), .agg (row .u32 b)] w fun e w' => e = .returned (.agg (row .u32 (joinV a b))) ∧ Below w.heap.size w w' := by
 have hv0 := Holds.new w .u32 37 a
 have hd0 := Holds.new (w.alloc (.cells (row .u32 a) 37)) .u32 37 b
 rw [World.size_alloc] at hd0
 have hv1 := (hv0.alloc (.cells (row .u32 b) 37)).alloc (.cells (row .u32 [0, 0, 0, 0, 0, 0, 0, 0]) 37)
 have hd1 := hd0.alloc (.cells (row .u32 [0, 0, 0, 0, 0, 0, 0, 0]) 37)
 have hr1 := Holds.new ((w.alloc (.cells (row .u32 a) 37)).alloc (.cells (row .u32 b) 37)) .u32 37 [0, 0, 0, 0, 0, 0, 0, 0]
 rw [World.size_alloc, World.size_alloc] at hr1
 have hB : Below w.heap.size w (((w.alloc (.cells (row .u32 a) 37)).alloc (.cells (row .u32 b) 37)).alloc (.cells (row .u32 [0, 0, 0, 0, 0, 0, 0, 0]) 37)) := (((Below.refl _ _).alloc (Nat.le_refl _) _).alloc (by simp) _).alloc (by simp; omega) _
 have HL : Veil (∀ n, (joinTo a b n).length = 8) := ⟨fun n => by rw [joinTo_length]; exact ha⟩
 have HA : Veil (∀ n, (joinTo a b n)[n]?.getD 0 = a[n]?.getD 0) := ⟨fun n => joinTo_above a b n n (Nat.le_refl _)⟩
 have HBL : Veil (b.length = 8) := ⟨hb⟩
 clear hv0 hd0 ha hb
 go_enter Tryz.func121, Tryz.ntmps121
 go_wp2_with fail
 obtain ⟨Z, hZ⟩ : ∃ Z : List Int, Z = [0, 0, 0, 0, 0, 0, 0, 0] := ⟨_, rfl⟩
 have HZ : Veil (Z.length = 8) := ⟨by rw [hZ]; rfl⟩
 refine forget (p := fun y => Code.wp _ _ _ _ y) (fun W => Below w.heap.size w W ∧ Holds W w.heap.size .u32 37 a ∧ Holds W (w.heap.size + 1) .u32 37 b ∧ Holds W (w.heap.size + 1 + 1) .u32 37 Z) ⟨hB, hv1, hd1, by rw [hZ]; exact hr1⟩ ?_
 clear hB hv1 hd1 hr1 hZ
 rintro W ⟨hB, hv1, hd1, hr1⟩
 go_loopw [6] (fun i wr => ∃ k : Nat, k ≤ 8 ∧ i = .int .i64 k ∧ Below w.heap.size w wr ∧ Holds wr w.heap.size .u32 37 (joinTo a b k) ∧ Holds wr (w.heap.size + 1) .u32 37 b ∧ Holds wr (w.heap.size + 1 + 1) .u32 37 Z) (fun i _ => 8 - (intOf i).toNat)
 case atStart => exact ⟨0, by omega, rfl, hB, hv1, hd1, hr1⟩
 case round =>
  clear hB hv1 hd1 hr1
  obtain ⟨k, hk, rfl, hB, hv1, hd1, hr1⟩ := hrel
  by_cases hlt : k < 8
  · have c1 := hv1.cell k (by rw [HL.out]; exact hlt)
    have c2 := hd1.cell k (by rw [HBL.out]; exact hlt)
    have f1 := hv1.frozen k
    rw [HA.out] at c1
    have hki : (0 : Int) ≤ (k : Int) := by omega
    have hkl : (k : Int) < 8 := by omega
    have HS : Veil (joinTo a b (k + 1) = (joinTo a b k).set k (if a[k]?.getD 0 < b[k]?.getD 0 then b[k]?.getD 0 else a[k]?.getD 0)) := ⟨rfl⟩
    obtain ⟨p, hp⟩ : ∃ p, a[k]?.getD 0 = p := ⟨_, rfl⟩
    obtain ⟨q, hq⟩ : ∃ q, b[k]?.getD 0 = q := ⟨_, rfl⟩
    rw [hp] at c1 HS
    rw [hq] at c2 HS
    clear hp hq
    go_wp2_with fail
    go_region_with (fail)
    all_goals
     go_wp2
     go_roundw
     case rel => exact ⟨k + 1, by omega, by go_num, (hB.setCell (Nat.le_refl _) _).drew, by rw [HS.out]; exact (hv1.set k _).drew, (hd1.setOther _ _ (by simp)).drew, (hr1.setOther _ _ (by simp; omega)).drew⟩
     case measure => simp [intOf]; omega
  · obtain rfl : k = 8 := by omega
    have hz8 := HZ.out
    have hj8 := HL.out 8
    have HL8 : Veil ((joinTo a b 8).length = 8) := ⟨hj8⟩
    have HJ : Veil (joinV a b = joinTo a b 8) := ⟨rfl⟩
    obtain ⟨J, hJ⟩ : ∃ J, joinTo a b 8 = J := ⟨_, rfl⟩
    rw [hJ] at hv1 HJ hj8
    clear hJ HL HA HBL HL8
    go_wp2_with (first
     | (refine wpList_ld rfl 37 _ rfl _ rfl hv1 Tryz.underlying37 sizeV8 hj8 ?_)
     | (refine wpList_st rfl 37 _ _ rfl _ rfl rfl hr1 (by rw [hj8]; exact sizeV8) (by rw [hz8, hj8]) ?_))
    refine bodyPost_ret (results_holds (Tryz.results121) _ rfl (hr1.setRow _) Tryz.underlying37 sizeV8 hj8) rfl ⟨?_, ?_⟩
    · rw [HJ.out]
    · exact below_setRow hB (by omega) _
abbrev EvT := List Int × List Int × Bool
def Ev.tup (e : Ev) : EvT := ([e.da, e.ds, e.kind, e.pa, e.ps, e.char, e.who, e.role], e.past, e.right)
def tupEv (t : EvT) : Ev := ⟨t.1[0]?.getD 0, t.1[1]?.getD 0, t.2.1, t.1[2]?.getD 0, t.1[3]?.getD 0, t.1[4]?.getD 0, t.2.2, t.1[5]?.getD 0, t.1[6]?.getD 0, t.1[7]?.getD 0⟩
theorem tupEv_tup (t : EvT) (h : t.1.length = 8) : (tupEv t).tup = t := by
 obtain ⟨l, p, b⟩ := t
 match l, h with
 | [_, _, _, _, _, _, _, _], _ => rfl
def evEq (e f : Ev) : Bool := decide (e.tup = f.tup)
theorem flatDotE (d : Nat) (a s : Int) (h : okD a s) : Flat Tryz.prog (d + 1 + 1) 40 (dotC a s) := ⟨_, litsDot d a s h⟩
theorem ev_length (e : Ev) (h : e.past.length = 8) : e.cells.length = 17 := by
 unfold Ev.cells dotC; simp [h]
theorem flatEv (d : Nat) (e : Ev) (h : e.Ok) : Flat Tryz.prog (d + 1 + 1 + 1) 44 e.cells :=
 flat_struct Tryz.underlying44 (by kernel_rfl) (by rw [ev_length e h.past]; kernel_rfl) (tl := [(40, 0, 2), (37, 2, 8), (41, 10, 1), (40, 11, 2), (4, 13, 1), (5, 14, 1), (5, 15, 1), (42, 16, 1)]) (by kernel_rfl) fun q hq => by
  obtain ⟨p1, p2, p3, p4, p5, p6, p7, p8⟩ := ev_parts e h.past
  have one : ∀ (j : Nat) (v : Value), e.cells[j]? = some v → (e.cells.drop j).take 1 = [v] := fun j v hv => by
   obtain ⟨hj, rfl⟩ := List.getElem?_eq_some_iff.1 hv
   rw [List.drop_eq_getElem_cons hj]; rfl
  simp only [List.mem_cons, List.not_mem_nil, or_false] at hq
  rcases hq with rfl | rfl | rfl | rfl | rfl | rfl | rfl | rfl
  · show Flat _ _ _ ((e.cells.drop 0).take 2); rw [p1]; exact flatDotE d _ _ h.dot
  · show Flat _ _ _ ((e.cells.drop 2).take 8); rw [p2]; exact flat_row32 Tryz.underlying37 Tryz.underlying35 (by kernel_rfl) (by kernel_rfl) h.past h.pastB
  · show Flat _ _ _ ((e.cells.drop 10).take 1); rw [one _ _ p3]; exact flat_u8 Tryz.underlying41 _ h.kind.1 h.kind.2
  · show Flat _ _ _ ((e.cells.drop 11).take 2); rw [p4]; exact flatDotE d _ _ h.par
  · show Flat _ _ _ ((e.cells.drop 13).take 1); rw [one _ _ p5]; exact flat_bool Tryz.underlying4 _
  · show Flat _ _ _ ((e.cells.drop 14).take 1); rw [one _ _ p6]; exact flat_u8 Tryz.underlying5 _ h.char.1 h.char.2
  · show Flat _ _ _ ((e.cells.drop 15).take 1); rw [one _ _ p7]; exact flat_u8 Tryz.underlying5 _ h.who.1 h.who.2
  · show Flat _ _ _ ((e.cells.drop 16).take 1); rw [one _ _ p8]; exact flat_u8 Tryz.underlying42 _ h.role.1 h.role.2
theorem ev_inj {e f : Ev} (he : e.past.length = 8) (hf : f.past.length = 8) (h : e.cells = f.cells) : e = f := by
 obtain ⟨a1, a2, a3, a4, a5, a6, a7, a8⟩ := ev_parts e he
 obtain ⟨b1, b2, b3, b4, b5, b6, b7, b8⟩ := ev_parts f hf
 rw [h] at a1 a2 a3 a4 a5 a6 a7 a8
 rw [a1] at b1; rw [a2] at b2; rw [a3] at b3; rw [a4] at b4; rw [a5] at b5; rw [a6] at b6; rw [a7] at b7; rw [a8] at b8
 obtain ⟨da, ds, past, kind, pa, ps, right, char, who, role⟩ := e
 obtain ⟨da', ds', past', kind', pa', ps', right', char', who', role'⟩ := f
 simp only [dotC, List.cons.injEq, Value.int.injEq, true_and, and_true, Option.some.injEq, Value.bool.injEq] at b1 b2 b3 b4 b5 b6 b7 b8
 have b2 := mapI_inj b2
 obtain ⟨rfl, rfl⟩ := b1
 obtain ⟨rfl, rfl⟩ := b4
 subst b2 b3 b5 b6 b7 b8
 rfl
theorem keyEncE : KeyEnc Tryz.prog 44 (fun t : EvT => .agg (tupEv t).cells.toArray) (fun t => t.1.length = 8 ∧ (tupEv t).Ok) where
 keyed := Go.Maps.Keyed.of_law (deep_law (m := 4) (by omega) (by kernel_rfl) (by kernel_rfl) (by kernel_rfl))
 has := fun k h => by
  obtain ⟨m, hm⟩ := manyTypes
  exact key_of_flat (by kernel_rfl) (by kernel_rfl) (by rw [ev_length _ h.2.past]; kernel_rfl) (by rw [hm]; exact flatEv _ _ h.2)
 inj := fun x y hx hy e => by
  injection e with e
  have := ev_inj hx.2.past hy.2.past (by simpa using e)
  rw [← tupEv_tup x hx.1, this, tupEv_tup y hy.1]
theorem ev_neq (e f : Ev) (he : e.Ok) (hf : f.Ok) (w : World) : (binOp .neq 44 (.agg e.cells.toArray) (.agg f.cells.toArray)).run Tryz.prog w = .ok (.bool (!evEq e f)) w := keyEncE.neq (m := 4) (by omega) (by kernel_rfl) (by kernel_rfl) e.tup f.tup ⟨rfl, he⟩ ⟨rfl, hf⟩ rfl rfl w
abbrev Ent := Ev × Bool
def entC (x : Ent) : List Value := x.1.cells ++ [.bool x.2]
def lookB (L : List Ent) (d : Int × Int) : Option Ent := L.find? (fun x => x.1.dot == d)
def nodB (L : List Ent) : Prop := (L.map (fun x => x.1.dot)).Nodup
theorem lookB_none {L : List Ent} {d : Int × Int} : lookB L d = none ↔ ∀ x ∈ L, x.1.dot ≠ d := by
 unfold lookB; rw [List.find?_eq_none]; simp
theorem lookB_mem {L : List Ent} {d : Int × Int} {x : Ent} (h : lookB L d = some x) : x ∈ L ∧ x.1.dot = d := ⟨List.mem_of_find?_eq_some h, by simpa using List.find?_some h⟩
theorem nodB_eq {L : List Ent} (hn : nodB L) {x y : Ent} (hx : x ∈ L) (hy : y ∈ L) (h : x.1.dot = y.1.dot) : x = y := by
 induction L with
 | nil => cases hx
 | cons z L ih =>
  unfold nodB at hn
  rw [List.map_cons, List.nodup_cons] at hn
  rcases List.mem_cons.1 hx with hxz | hx
  · rcases List.mem_cons.1 hy with hyz | hy
    · rw [hxz, hyz]
    · exact absurd (List.mem_map.2 ⟨y, hy, by rw [← hxz]; exact h.symm⟩) hn.1
  · rcases List.mem_cons.1 hy with hyz | hy
    · exact absurd (List.mem_map.2 ⟨x, hx, by rw [← hyz]; exact h⟩) hn.1
    · exact ih hn.2 hx hy
theorem lookB_some {L : List Ent} (hn : nodB L) {x : Ent} (hx : x ∈ L) : lookB L x.1.dot = some x := by
 cases h : lookB L x.1.dot with
 | none => exact absurd rfl (lookB_none.1 h x hx)
 | some y =>
  obtain ⟨h1, h2⟩ := lookB_mem h
  rw [nodB_eq hn h1 hx h2]
theorem lookB_app {L : List Ent} (x : Ent) (hn : lookB L x.1.dot = none) (d : Int × Int) : lookB (L ++ [x]) d = if d = x.1.dot then some x else lookB L d := by
 unfold lookB
 rw [List.find?_append]
 by_cases h : d = x.1.dot
 · rw [if_pos h]
   subst h
   unfold lookB at hn
   rw [hn]; simp
 · rw [if_neg h, List.find?_cons_of_neg (by simpa using fun e => h e.symm), List.find?_nil, Option.or_none]
theorem nodB_app {L : List Ent} (hL : nodB L) (x : Ent) (hn : lookB L x.1.dot = none) : nodB (L ++ [x]) := by
 unfold nodB at *
 rw [List.map_append, List.map_cons, List.map_nil]
 refine List.nodup_append.2 ⟨hL, by simp, fun a ha b hb e => ?_⟩
 rw [List.mem_singleton.1 hb] at e
 obtain ⟨y, hy, rfl⟩ := List.mem_map.1 ha
 exact lookB_none.1 hn y hy e
def BookAt (w : World) (b : Nat) (L : List Ent) : Prop :=
 ∃ D : DataW Value, w.ownsMap Tryz.prog 40 rawElem b L.length D ∧ (∀ a s, okD a s → ∀ z, D.atKey (dotLit a s) z = (match lookB L (a, s) with | some x => .held (.agg (entC x).toArray) | none => z)) ∧ Maps.size D = L.length ∧ nodB L ∧ ∀ x ∈ L, x.1.Ok
theorem BookAt.ok {w : World} {b : Nat} {L : List Ent} (h : BookAt w b L) : ∀ x ∈ L, x.1.Ok := by obtain ⟨D, _, _, _, _, h⟩ := h; exact h
theorem BookAt.lt {w : World} {b : Nat} {L : List Ent} (h : BookAt w b L) : b < w.heap.size := by obtain ⟨D, h, _⟩ := h; exact h.lt
theorem BookAt.congr {w w' : World} {b : Nat} {L : List Ent} (h : BookAt w b L) (he : w'.heap[b]? = w.heap[b]?) : BookAt w' b L := by
 obtain ⟨D, ⟨es, cl, hb, r⟩, hM⟩ := h
 exact ⟨D, ⟨es, cl, he.trans hb, r⟩, hM⟩
theorem BookAt.far {w w' : World} {b : Nat} {L : List Ent} (h : BookAt w b L) (hb : Below w.heap.size w w') : BookAt w' b L := h.congr (hb.block b h.lt)
theorem BookAt.made (w : World) : BookAt (w.alloc (.map #[] 0)) w.heap.size [] := ⟨_, World.ownsMap_made w _ _ _, fun _ _ _ _ => rfl, rfl, List.Pairwise.nil, by simp⟩
theorem BookAt.cellsNe {w : World} {b g : Nat} {L : List Ent} (h : BookAt w b L) {t : TypeId} {cs : List Value} (hg : CellsAt w g t cs) : b ≠ g := by
 intro e
 subst e
 obtain ⟨D, ⟨es, cl, hb, _⟩, _⟩ := h
 unfold CellsAt at hg
 rw [hb] at hg
 cases hg
theorem BookAt.mapAt {w : World} {b : Nat} {L : List Ent} (h : BookAt w b L) : MapAt w b L.length (fun a s => (lookB L (a, s)).map fun e => .agg (entC e).toArray) := by
 obtain ⟨D, hD, hM, _⟩ := h
 refine ⟨D, hD, fun a s ho z => ?_⟩
 rw [hM a s ho z]
 show _ = match Option.map (fun e => Value.agg (entC e).toArray) (lookB L (a, s)) with | some v => DataW.held v | none => z
 cases lookB L (a, s) <;> rfl
theorem book_has {L : List Ent} {D : DataW Value} (hM : ∀ a s, okD a s → ∀ z, D.atKey (dotLit a s) z = (match lookB L (a, s) with | some e => .held (.agg (entC e).toArray) | none => z)) (a s : Int) (ho : okD a s) : Maps.has D (dotLit a s) = (lookB L (a, s)).isSome := by
 cases hv : lookB L (a, s) with
 | none => exact Maps.has_false_of_atKey fun z => by rw [hM a s ho, hv]
 | some v => exact Maps.has_true_of_atKey (y := .held (.agg (entC v).toArray)) fun z => by rw [hM a s ho, hv]
theorem BookAt.store {w : World} {b : Nat} {L : List Ent} (h : BookAt w b L) {t et : TypeId} (ht : Tryz.prog.underlying t = some (.map 40 et)) (hn : L.length < 100000) (x : Ent) (he : x.1.Ok) (hl : lookB L x.1.dot = none) :
    ∃ w', (Instr.mapUpdate t (.map (some b)) (.agg (dotC x.1.da x.1.ds).toArray) (.agg (entC x).toArray)).run Tryz.prog w = .ok () w' ∧ BookAt w' b (L ++ [x]) ∧ w.grownBy w' (some b) := by
 obtain ⟨D, hD, hM, hsz, hso, hok⟩ := h
 obtain ⟨w', hrun, hown, ht'⟩ := hD.store dotKeyed ht (by simp [maxLen]; omega) (dotKey x.1.da x.1.ds he.dot) (d := .held (.agg (entC x).toArray)) (ps := []) rfl
 refine ⟨w', hrun, ⟨_, by rw [List.length_append]; exact hown, fun a' s' ho' z => ?_, ?_, nodB_app hso x hl, fun y hy => ?_⟩, ht'.grown⟩
 · rw [lookB_app x hl]
   by_cases q : (a', s') = x.1.dot
   · rw [if_pos q]
     injection q with q1 q2
     subst q1 q2
     rw [Maps.atKey_put_same hD.isMap (dotKeyLit _ _)]
   · rw [if_neg q, Maps.atKey_put_other (fun q' => q (by have := dotLit_inj ho' he.dot q'; unfold Ev.dot; rw [this.1, this.2])), hM a' s' ho']
 · have hh : Maps.has D (dotLit x.1.da x.1.ds) = false := by rw [book_has hM x.1.da x.1.ds he.dot]; rw [show (x.1.da, x.1.ds) = x.1.dot from rfl, hl]; rfl
   rw [Maps.size_put (hD.tidy dotKeyed), hh, List.length_append, hsz]; rfl
 · rcases List.mem_append.1 hy with q | q
   · exact hok y q
   · rw [List.mem_singleton.1 q]; exact he
theorem BookAt.len {w : World} {b : Nat} {L : List Ent} (h : BookAt w b L) {t et : TypeId} (ht : Tryz.prog.underlying t = some (.map 40 et)) (ty : TypeId) : (Builtin.len_ #[t] ty #[.map (some b)]).run Tryz.prog w = .ok (.int .i64 L.length) w := by
 obtain ⟨D, hD, _, hsz, _⟩ := h
 rw [hD.len ht ty, hsz]
structure CollB (L : List Ent) (left : Lit → Bool) (xs : List Ent) : Prop where
 nodup : nodB xs
 iff : ∀ a s, okD a s → ((a, s) ∈ xs.map (fun x => x.1.dot) ↔ ((lookB L (a, s)).isSome = true ∧ left (dotLit a s) = false))
 mem : ∀ x ∈ xs, x ∈ L
theorem CollB.step {L : List Ent} {left : Lit → Bool} {xs : List Ent} (h : CollB L left xs) {x : Ent} (hx : x ∈ L) (ho : okD x.1.da x.1.ds) (hn : nodB L) (hl : left (dotLit x.1.da x.1.ds) = true) : CollB L (fun z => left z && !z.sameKey (dotLit x.1.da x.1.ds)) (xs ++ [x]) := by
 have hs : (lookB L (x.1.da, x.1.ds)).isSome = true := by rw [show (x.1.da, x.1.ds) = x.1.dot from rfl, lookB_some hn hx]; rfl
 have hnx : lookB xs x.1.dot = none := lookB_none.2 fun y hy e => by
  have h1 := ((h.iff x.1.da x.1.ds ho).1 (List.mem_map.2 ⟨y, hy, e⟩)).2
  rw [hl] at h1; cases h1
 refine ⟨nodB_app h.nodup x hnx, fun a' s' ho' => ?_, fun y hy => ?_⟩
 · have hk := dotLit_same ho' ho
   rw [List.map_append, List.map_cons, List.map_nil, List.mem_append, List.mem_singleton, h.iff a' s' ho']
   by_cases q : (a', s') = (x.1.da, x.1.ds)
   · have e : (dotLit a' s').sameKey (dotLit x.1.da x.1.ds) = true := hk.2 q
     injection q with q1 q2
     subst q1 q2
     simp only [hs, e, Bool.not_true, Bool.and_false, and_self, iff_true]
     exact .inr rfl
   · have e : (dotLit a' s').sameKey (dotLit x.1.da x.1.ds) = false := by
      cases e : (dotLit a' s').sameKey (dotLit x.1.da x.1.ds) with
      | false => rfl
      | true => exact absurd (hk.1 e) q
     simp only [e, Bool.not_false, Bool.and_true]
     constructor
     · rintro (r | r)
       · exact r
       · exact absurd r q
     · exact .inl
 · rcases List.mem_append.1 hy with q | q
   · exact h.mem y q
   · rw [List.mem_singleton.1 q]; exact hx
theorem nodB_nodup {L : List Ent} (h : nodB L) : L.Nodup := by
 unfold nodB List.Nodup at *
 rw [List.pairwise_map] at h
 exact h.imp fun hne e => hne (by rw [e])
theorem CollB.perm {L : List Ent} {left : Lit → Bool} {xs : List Ent} (h : CollB L left xs) (hn : nodB L) (hok : ∀ x ∈ L, x.1.Ok) (hl : ∀ k, left k = false) : xs.Perm L := by
 refine (List.perm_ext_iff_of_nodup (nodB_nodup h.nodup) (nodB_nodup hn)).2 fun x => ⟨h.mem x, fun hx => ?_⟩
 have h1 := (h.iff x.1.da x.1.ds (hok x hx).dot).2 ⟨by rw [show (x.1.da, x.1.ds) = x.1.dot from rfl, lookB_some hn hx]; rfl, hl _⟩
 obtain ⟨y, hy, e⟩ := List.mem_map.1 h1
 rw [← nodB_eq hn (h.mem y hy) hx e]; exact hy
structure BookC (w : World) (H b : Nat) (L : List Ent) : Prop where
 cells : CellsAt w H 129 [.map (some b)]
 map : BookAt w b L
theorem BookC.congr {w w' : World} {H b : Nat} {L : List Ent} (h : BookC w H b L) (h1 : w'.heap[H]? = w.heap[H]?) (h2 : w'.heap[b]? = w.heap[b]?) : BookC w' H b L := ⟨h.cells.congr h1, h.map.congr h2⟩
theorem BookC.far {w w' : World} {H b : Nat} {L : List Ent} (h : BookC w H b L) (hb : Below w.heap.size w w') : BookC w' H b L := h.congr (hb.block H h.cells.lt) (hb.block b h.map.lt)
theorem BookC.mapCell {w : World} {H b : Nat} {L : List Ent} (h : BookC w H b L) : w.cell? ⟨H, 0, none⟩ = some (.map (some b)) := h.cells.cell 0
def tellB (who : Int) (v : List Int) (e : Ev) : Bool := (e.who == who) && hasB v e.da e.ds
def toldL (L : List Ent) (who : Int) (v : List Int) : List Ev := (L.filter (fun x => x.2 && tellB who v x.1)).map Prod.fst
def lastL (l : List Ev) : List Ev := l.filter (fun e => !(l.any fun x => hasB x.past e.da e.ds))
def leastS (s : Int × Bool) (e : Ev) : Int × Bool := if s.2 = false ∨ e.role < s.1 then (e.role, true) else s
def leastL (l : List Ev) : Int × Bool := l.foldl leastS (0, false)
def roleP (L : List Ent) (who : Int) (v : List Int) : Int := if 8 ≤ who then 0 else if (leastL (lastL (toldL L who v))).2 = true then (leastL (lastL (toldL L who v))).1 else if who = 0 then 3 else 0
theorem leastS_comm (s : Int × Bool) (e f : Ev) : leastS (leastS s e) f = leastS (leastS s f) e := by
 unfold leastS
 obtain ⟨r, t⟩ := s
 cases t <;> simp <;> repeat' split
 all_goals (try simp_all) <;> omega
theorem leastL_perm {l m : List Ev} (h : l.Perm m) : leastL l = leastL m := h.foldl_eq' (fun x _ y _ z => leastS_comm z x y) _
def seenJ (l : List Ev) : List Int := l.foldl (fun s e => joinV s e.past) [0, 0, 0, 0, 0, 0, 0, 0]
theorem joinTo_get (a b : List Int) : ∀ n, n ≤ a.length → ∀ j, (joinTo a b n)[j]?.getD 0 = if j < n ∧ a[j]?.getD 0 < b[j]?.getD 0 then b[j]?.getD 0 else a[j]?.getD 0
 | 0, _, j => by rw [if_neg (by omega)]; rfl
 | n + 1, hn, j => by
  rw [joinTo]
  by_cases e : j = n
  · subst e
    rw [List.getElem?_set_self (by rw [joinTo_length]; omega), Option.getD_some]
    by_cases h : a[j]?.getD 0 < b[j]?.getD 0
    · rw [if_pos h, if_pos ⟨by omega, h⟩]
    · rw [if_neg h, if_neg (fun q => h q.2)]
  · rw [List.getElem?_set_ne (by omega), joinTo_get a b n (by omega) j]
    by_cases h : j < n ∧ a[j]?.getD 0 < b[j]?.getD 0
    · rw [if_pos h, if_pos ⟨by omega, h.2⟩]
    · rw [if_neg h, if_neg (fun q => h ⟨by omega, q.2⟩)]
theorem join_has (a b : List Int) (ha : a.length = 8) (x s : Int) (hx : 0 ≤ x) : hasB (joinV a b) x s = (hasB a x s || hasB b x s) := by
 unfold hasB joinV
 by_cases h8 : x < 8
 · rw [joinTo_get a b 8 (by omega)]
   rw [Bool.eq_iff_iff]
   by_cases hs : s = 0
   · simp [hs]
   · by_cases hlt : a[x.toNat]?.getD 0 < b[x.toNat]?.getD 0
     · rw [if_pos ⟨by omega, hlt⟩]
       simp [h8, hs]
       omega
     · rw [if_neg (fun q => hlt q.2)]
       simp [h8, hs]
       omega
 · simp [h8]
theorem joinV_len (a b : List Int) : (joinV a b).length = a.length := joinTo_length a b 8
theorem seen_fold : ∀ (l : List Ev) (s : List Int), s.length = 8 → (l.foldl (fun s e => joinV s e.past) s).length = 8 ∧ ∀ x q, 0 ≤ x → hasB (l.foldl (fun s e => joinV s e.past) s) x q = (hasB s x q || l.any fun e => hasB e.past x q)
 | [], s, hs => ⟨hs, fun x q _ => by simp⟩
 | e :: l, s, hs => by
  have h1 : (joinV s e.past).length = 8 := by rw [joinV_len]; exact hs
  obtain ⟨h2, h3⟩ := seen_fold l (joinV s e.past) h1
  refine ⟨h2, fun x q hx => ?_⟩
  rw [List.foldl_cons, h3 x q hx, join_has s e.past hs x q hx, List.any_cons, Bool.or_assoc]
theorem seenJ_len (l : List Ev) : (seenJ l).length = 8 := (seen_fold l _ rfl).1
theorem zero_has (x s : Int) (hs : 0 ≤ s) : hasB [0, 0, 0, 0, 0, 0, 0, 0] x s = false := by
 unfold hasB
 have : ([0, 0, 0, 0, 0, 0, 0, 0] : List Int)[x.toNat]?.getD 0 = 0 := by
  generalize x.toNat = k
  match k with
  | 0 => rfl
  | 1 => rfl
  | 2 => rfl
  | 3 => rfl
  | 4 => rfl
  | 5 => rfl
  | 6 => rfl
  | 7 => rfl
  | k + 8 => rfl
 rw [this]
 by_cases h : s = 0
 · simp [h]
 · have : ¬ s ≤ 0 := by omega
   simp [h, this]
theorem seenJ_has (l : List Ev) (x s : Int) (hx : 0 ≤ x) (hs : 0 ≤ s) : hasB (seenJ l) x s = l.any fun e => hasB e.past x s := by
 rw [seenJ, (seen_fold l _ rfl).2 x s hx, zero_has x s hs, Bool.false_or]
theorem seenJ_app (l : List Ev) (e : Ev) : seenJ (l ++ [e]) = joinV (seenJ l) e.past := by unfold seenJ; rw [List.foldl_append]; rfl
end Go.Proofs.YtmbdohnmbkpfaaaGreat
