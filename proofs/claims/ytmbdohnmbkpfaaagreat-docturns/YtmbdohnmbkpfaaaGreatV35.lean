/- Fr7 -/
import Derived.Test.YtmbdohnmbkpfaaaGreatV34
namespace Go.Proofs.YtmbdohnmbkpfaaaGreat
open Go.RowKit Go.Shelf
set_option maxRecDepth 20000
set_option linter.unusedSimpArgs false
theorem below_setRowN {B : Nat} {a w : World} {g : Nat} (h : Below B a w) (hg : B ≤ g) (cs : Array Value) : Below B a (w.setRow g cs) := ⟨h.os, h.tape, h.output, by have := h.size; simp [World.setRow, World.putObj]; omega, fun k hk => (setRow_other _ _ _ _ (by omega)).trans (h.block k hk)⟩
theorem sizeN6 (n : Nd) : (Tryz.prog.info? 124).map (·.size) = some (ndC n).length := by show _ = some 6; kernel_rfl
set_option maxHeartbeats 16000000 in
theorem rkids_any (base R : Nat) (v : Value) (N : List Nd) (s : (Int × Int) × Bool) (hnd : (N.map (·.id)).Nodup) (w : World) (hT : RefT w base R v N) :
    Calls Tryz.prog 111 #[.pointer (some ⟨R, 0, none⟩), .agg (encF s.1).toArray, .bool s.2] w fun e w' => ∃ u, e = .returned u ∧ OwnI w' w.heap.size 124 6 u ((kids N s).map (cF N)) ∧ Below w.heap.size w w' := by
 have hd0 := CellsAt.new w 40 (encF s.1)
 have hB : Below w.heap.size w (w.alloc (.cells (encF s.1).toArray 40)) := (Below.refl _ _).alloc (Nat.le_refl _) _
 have uD := Tryz.underlying40
 have uN := Tryz.underlying124
 have uS := Tryz.underlying120
 have iD : (Tryz.prog.info? 40).map (·.size) = some (encF s.1).length := sizeDot
 obtain ⟨sx, sc, hsl⟩ := hT.own.isSlice
 rw [List.length_map] at hsl
 have hln := hT.len
 subst hsl
 obtain ⟨n, hn⟩ : ∃ q, N.length = q := ⟨_, rfl⟩
 have HN := Veil.mk hn
 have HT := Veil.mk hT
 rw [hn] at HT hln
 have HND := Veil.mk hnd
 obtain ⟨⟨xa, xs⟩, rt⟩ := s
 simp only [encF, dotC] at hd0 hB iD ⊢
 clear hT hn hnd
 go_enter Tryz.func111, Tryz.ntmps111
 go_upto_region 1 with fail
 refine forget (p := fun y => Code.wp _ _ _ _ y) (fun W => Below w.heap.size w W ∧ CellsAt W w.heap.size 40 [.int .u8 xa, .int .u32 xs]) ⟨hB, hd0⟩ ?_
 clear hB hd0
 rintro W0 ⟨hB0, hd0⟩
 go_wp2_with fail
 go_loopw [7, 8, 9, 10, 11, 12, 13] (fun p q _ _ _ _ _ wr => ∃ i : Nat, q = .int .i64 (i : Nat) ∧ i ≤ n ∧ OwnI wr (w.heap.size + 1) 124 6 p ((kids (N.take i) ((xa, xs), rt)).map (cF N)) ∧ Below w.heap.size w wr ∧ CellsAt wr w.heap.size 40 [.int .u8 xa, .int .u32 xs]) (fun _ q _ _ _ _ _ _ => n - (intOf q).toNat)
 case atStart => exact ⟨0, rfl, Nat.zero_le _, by rw [List.take_zero]; exact OwnI.nil _ _ _ _, hB0, hd0⟩
 case round =>
  obtain ⟨i, rfl, hi, hO, hB, hd⟩ := hrel
  clear hB0 hd0
  have hTr := HT.out.far hB
  have cR : wr.cell? ⟨R, 0, none⟩ = some (.slice sx n sc) := hTr.box.cell 0
  obtain ⟨ox, oc, rfl⟩ := hO.isSlice
  obtain ⟨K, hK⟩ : ∃ q, kids (N.take i) ((xa, xs), rt) = q := ⟨_, rfl⟩
  rw [hK] at hO ⊢
  have HKL : Veil (K.length ≤ 1000) := ⟨by rw [← hK]; have := kids_few (N.take i) ((xa, xs), rt); rw [List.length_take] at this; omega⟩
  have HKM : Veil (∀ x ∈ K, ∃ m ∈ N.take i, m.id = x) := ⟨fun x hx => by rw [← hK] at hx; obtain ⟨m, h1, _, h2⟩ := mem_kids.1 hx; exact ⟨m, h1, h2⟩⟩
  rw [List.length_map] at hO ⊢
  obtain ⟨kl, hkl⟩ : ∃ q, K.length = q := ⟨_, rfl⟩
  rw [hkl] at hO ⊢
  have HKK := Veil.mk hK
  have HKN := Veil.mk hkl
  clear hK hkl
  have HO := Veil.mk hO
  have HB := Veil.mk hB
  have HD := Veil.mk hd
  clear hO hB hd
  by_cases hlt : i < n
  · have hli : (i : Int) < (n : Int) := by omega
    have hli0 : (0 : Int) ≤ (i : Int) := by omega
    have hki : i < N.length := by rw [HN.out]; exact hlt
    obtain ⟨g, rfl, -, hr⟩ := hTr.own.at_ i (by rw [List.length_map]; exact hki)
    rw [List.getElem_map] at hr
    have HNX : Veil (kids (N.take (i + 1)) ((xa, xs), rt) = if N[i].side = ((xa, xs), rt) then insD K N[i].id else K) := ⟨by rw [List.take_succ_eq_append_getElem hki, kids_snoc, HKK.out]⟩
    have HCF : Veil (cF N N[i].id = ndC N[i]) := ⟨by unfold cF; rw [ndOf_mem HND.out (List.getElem_mem hki)]⟩
    have HNK : Veil (N[i].id ∉ K) := ⟨fun q => by
     obtain ⟨m, hm, e⟩ := HKM.out _ q
     have h2 := HND.out
     rw [← List.take_append_drop i N, List.map_append, List.nodup_append] at h2
     refine h2.2.2 m.id (List.mem_map_of_mem hm) N[i].id (List.mem_map_of_mem ?_) e
     rw [List.drop_eq_getElem_cons hki]
     exact List.mem_cons_self⟩
    have iX := sizeN6 N[i]
    have h1X := ndC_one N[i]
    generalize N[i] = nd at hr HNX HCF HNK iX h1X
    obtain ⟨⟨ia, is⟩, ⟨⟨pa, ps⟩, rg⟩, ch⟩ := nd
    have hnc : ndC ⟨(ia, is), ((pa, ps), rg), ch⟩ = [.int .u8 ia, .int .u32 is, .int .u8 pa, .int .u32 ps, .bool rg, .int .u8 ch] := rfl
    rw [hnc] at hr HCF iX h1X
    simp only at HNX HCF HNK
    clear hnc hTr hki
    obtain ⟨X, hX⟩ : ∃ q, [Value.int .u8 ia, .int .u32 is, .int .u8 pa, .int .u32 ps, .bool rg, .int .u8 ch] = q := ⟨_, rfl⟩
    rw [hX] at hr HCF iX h1X
    have hX6 : [Value.int .u8 0, .int .u32 0, .int .u8 0, .int .u32 0, .bool false, .int .u8 0].length = X.length := by rw [← hX]; rfl
    have HX := Veil.mk hX
    clear hX
    have hww : IntKind.i64.wrap ((i : Int) + 1) = (i : Int) + 1 := by rw [IntKind.wrap_i64]; omega
    go_upto_region 6 with (first
     | (refine wpList_ldv rfl 124 (.tmp 28) rfl g (i * 6) rfl X hr uN rfl iX ?_)
     | (refine wpList_stv rfl 124 _ _ rfl wr.heap.size rfl rfl (CellsAt.new wr 124 [.int .u8 0, .int .u32 0, .int .u8 0, .int .u32 0, .bool false, .int .u8 0]) iX hX6 h1X ?_))
    refine forget (p := fun y => Code.wp _ _ _ _ y) (fun W => Below wr.heap.size wr W ∧ CellsAt W wr.heap.size 124 X) ⟨below_setRowN ((Below.refl _ _).alloc (Nat.le_refl _) _) (Nat.le_refl _) _, (CellsAt.new wr 124 [.int .u8 0, .int .u32 0, .int .u8 0, .int .u32 0, .bool false, .int .u8 0]).setRow X⟩ ?_
    rintro W1 ⟨hb1, hx1⟩
    have HW1 : Veil (Below w.heap.size w W1 ∧ CellsAt W1 w.heap.size 40 [.int .u8 xa, .int .u32 xs] ∧ OwnI W1 (w.heap.size + 1) 124 6 (.slice ox kl oc) (K.map (cF N)) ∧ CellsAt W1 wr.heap.size 124 X ∧ w.heap.size < wr.heap.size ∧ wr.heap.size < W1.heap.size) := ⟨HB.out.trans (hb1.mono HB.out.size), HD.out.farM hb1, HO.out.far hb1, hx1, HD.out.lt, hx1.lt⟩
    have r0 := HW1.out.2.1.wholeM
    have hcx : CellsAt W1 wr.heap.size 124 [.int .u8 ia, .int .u32 is, .int .u8 pa, .int .u32 ps, .bool rg, .int .u8 ch] := by rw [HX.out]; exact hx1
    have rp : W1.rangeAt wr.heap.size 2 [.int .u8 pa, .int .u32 ps] := hcx.range 2 2
    have c4 : W1.cell? ⟨wr.heap.size, 4, none⟩ = some (.bool rg) := hcx.cell 4
    have iP : (Tryz.prog.info? 40).map (·.size) = some [Value.int .u8 pa, Value.int .u32 ps].length := sizeDot
    have hne := dot_neq pa ps xa xs
    simp only [dotC] at hne
    obtain ⟨bx, hbx⟩ : ∃ q, wr.heap.size = q := ⟨_, rfl⟩
    rw [hbx] at HW1 rp c4 ⊢
    have HBX := Veil.mk hbx
    clear hb1 hx1 hcx hbx hr cR HB HD HO HT
    have hcase : ¬ (pa = xa ∧ ps = xs) ∨ ((pa = xa ∧ ps = xs) ∧ rg ≠ rt) ∨ (pa = xa ∧ ps = xs ∧ rg = rt) := by
     by_cases h1 : pa = xa ∧ ps = xs
     · by_cases h2 : rg = rt
       · exact .inr (.inr ⟨h1.1, h1.2, h2⟩)
       · exact .inr (.inl ⟨h1, h2⟩)
     · exact .inl h1
    rcases hcase with hc | ⟨⟨rfl, rfl⟩, hc⟩ | ⟨rfl, rfl, rfl⟩
    · have hbb : ((pa == xa) && (ps == xs)) = false := by simpa using hc
      rw [hbb] at hne
      replace HNX : Veil (kids (N.take (i + 1)) ((xa, xs), rt) = K) := ⟨by rw [HNX.out, if_neg]; intro e; exact hc (by simp only [Prod.mk.injEq] at e; exact e.1)⟩
      clear hc hbb
      go_wp2_with (first
       | (refine wpList_ldv rfl 40 (.tmp 30) rfl bx 2 rfl [.int .u8 pa, .int .u32 ps] rp uD rfl iP ?_)
       | (refine wpList_ldv rfl 40 (.tmp 4) rfl w.heap.size 0 rfl [.int .u8 xa, .int .u32 xs] r0 uD rfl iD ?_))
      go_roundw
      case rel => exact ⟨i + 1, by push_cast; rfl, hlt, by rw [HNX.out]; exact HW1.out.2.2.1, HW1.out.1, HW1.out.2.1⟩
      case measure => simp [intOf]; omega
    · have hbb : ((pa == pa) && (ps == ps)) = true := by simp
      rw [hbb] at hne
      replace HNX : Veil (kids (N.take (i + 1)) ((pa, ps), rt) = K) := ⟨by rw [HNX.out, if_neg]; intro e; exact hc (by simp only [Prod.mk.injEq] at e; exact e.2)⟩
      have hcb : (rg == rt) = false := by simpa using hc
      clear hc hbb
      cases rg <;> cases rt <;> simp only [reduceCtorEq, Bool.beq_eq_decide_eq, decide_true, decide_false, Bool.true_eq_false] at hcb
      all_goals (
       go_wp2_with (first
        | (refine wpList_ldv rfl 40 (.tmp 30) rfl bx 2 rfl [.int .u8 pa, .int .u32 ps] rp uD rfl iP ?_)
        | (refine wpList_ldv rfl 40 (.tmp 4) rfl w.heap.size 0 rfl [.int .u8 pa, .int .u32 ps] r0 uD rfl iD ?_))
       go_roundw
       case rel => exact ⟨i + 1, by push_cast; rfl, hlt, by rw [HNX.out]; exact HW1.out.2.2.1, HW1.out.1, HW1.out.2.1⟩
       case measure => simp [intOf]; omega)
    · have hbb : ((pa == pa) && (ps == ps)) = true := by simp
      rw [hbb] at hne
      replace HNX : Veil (kids (N.take (i + 1)) ((pa, ps), rg) = insD K (ia, is)) := ⟨by rw [HNX.out, if_pos rfl]⟩
      have hrr : (rg == rg) = true := by simp
      have hr0 : (rg != rg) = false := by simp
      go_wp2_with (first
       | (refine wpList_ldv rfl 40 (.tmp 30) rfl bx 2 rfl [.int .u8 pa, .int .u32 ps] rp uD rfl iP ?_)
       | (refine wpList_ldv rfl 40 (.tmp 4) rfl w.heap.size 0 rfl [.int .u8 pa, .int .u32 ps] r0 uD rfl iD ?_))
      clear rp r0 c4 hne hrr hr0 hbb
      obtain ⟨wo, hwo⟩ : ∃ q, q = wr := ⟨_, rfl⟩
      subst hwo
      go_loopw [10, 11, 12, 13] (fun p q k _ wv => ∃ j : Nat, k = .int .i64 (j : Nat) ∧ j ≤ kl ∧ q = .bool (partI (ia, is) (K.take j)).1 ∧ OwnI wv W1.heap.size 124 6 p ((partI (ia, is) (K.take j)).2.map (cF N)) ∧ Below W1.heap.size W1 wv) (fun _ _ k _ _ => kl - (intOf k).toNat)
      case atStart => exact ⟨0, rfl, Nat.zero_le _, rfl, by rw [List.take_zero]; exact OwnI.nil _ _ _ _, Below.refl _ _⟩
      case round =>
       obtain ⟨j, rfl, hj, rfl, hL, hb⟩ := hrel
       obtain ⟨lx, lc, rfl⟩ := hL.isSlice
       have HPL : Veil ((partI (ia, is) (K.take j)).2.length ≤ 2000) := ⟨by have h1 := partI_len (ia, is) (K.take j); have h2 := HKL.out; have h3 := List.length_take_le j K; rw [List.length_take] at h1; omega⟩
       obtain ⟨PB, hPB⟩ : ∃ q, (partI (ia, is) (K.take j)).1 = q := ⟨_, rfl⟩
       obtain ⟨PL, hPL⟩ : ∃ q, (partI (ia, is) (K.take j)).2 = q := ⟨_, rfl⟩
       rw [hPL] at hL HPL ⊢
       rw [hPB] at ⊢
       rw [List.length_map] at hL ⊢
       have HPP : Veil (partI (ia, is) (K.take j) = (PB, PL)) := ⟨by rw [← hPB, ← hPL]⟩
       obtain ⟨ll, hll⟩ : ∃ q, PL.length = q := ⟨_, rfl⟩
       rw [hll] at hL HPL ⊢
       have HLL := Veil.mk hll
       clear hPB hPL hll
       have hO1 := HW1.out.2.2.1.far hb
       have hw1 := HW1.out.2.2.2.2
       by_cases hjl : j < kl
       · have hjk : j < K.length := by rw [HKN.out]; exact hjl
         obtain ⟨go, rfl, -, hry⟩ := hO1.at_ j (by rw [List.length_map]; exact hjk)
         rw [List.getElem_map] at hry
         have HST : Veil (partI (ia, is) (K.take (j + 1)) = stepI (ia, is) (PB, PL) K[j]) := ⟨by rw [List.take_succ_eq_append_getElem hjk, partI_snoc, HPP.out]⟩
         have HID : Veil ((ndOf N K[j]).id = K[j]) := ⟨ndOf_id (by obtain ⟨m, h1, h2⟩ := HKM.out K[j] (List.getElem_mem hjk); exact ⟨m, List.mem_of_mem_take h1, h2⟩)⟩
         have HCY : Veil (cF N K[j] = ndC (ndOf N K[j])) := ⟨rfl⟩
         have hry' : wr.rangeAt go (j * 6) (ndC (ndOf N K[j])) := hry
         have iY := sizeN6 (ndOf N K[j])
         have h1Y := ndC_one (ndOf N K[j])
         generalize K[j] = kj at HST HID HCY hry' iY h1Y
         generalize ndOf N kj = nd at HID HCY hry' iY h1Y
         obtain ⟨⟨ya, ys⟩, ⟨⟨qa, qs⟩, qr⟩, qc⟩ := nd
         obtain rfl : (ya, ys) = kj := HID.out
         have hnc : ndC ⟨(ya, ys), ((qa, qs), qr), qc⟩ = [.int .u8 ya, .int .u32 ys, .int .u8 qa, .int .u32 qs, .bool qr, .int .u8 qc] := rfl
         rw [hnc] at hry' iY h1Y HCY
         obtain ⟨Y, hY⟩ : ∃ q, [Value.int .u8 ya, .int .u32 ys, .int .u8 qa, .int .u32 qs, .bool qr, .int .u8 qc] = q := ⟨_, rfl⟩
         rw [hY] at hry' iY h1Y HCY
         have hY6 : [Value.int .u8 0, .int .u32 0, .int .u8 0, .int .u32 0, .bool false, .int .u8 0].length = Y.length := by rw [← hY]; rfl
         have HY := Veil.mk hY
         have hjli : (j : Int) < (kl : Int) := by omega
         have hj0 : (0 : Int) ≤ (j : Int) := by omega
         have hwj : IntKind.i64.wrap ((j : Int) + 1) = (j : Int) + 1 := by rw [IntKind.wrap_i64]; have := HKL.out; have := HKN.out; omega
         clear hY hnc hry hjk HID hO1
         go_upto_region 13 with (first
          | (refine wpList_ldv rfl 124 (.tmp 48) rfl go (j * 6) rfl Y hry' uN rfl iY ?_)
          | (refine wpList_stv rfl 124 _ _ rfl wr.heap.size rfl rfl (CellsAt.new wr 124 [.int .u8 0, .int .u32 0, .int .u8 0, .int .u32 0, .bool false, .int .u8 0]) iY hY6 h1Y ?_))
         refine forget (p := fun y => Code.wp _ _ _ _ y) (fun W => Below wr.heap.size wr W ∧ CellsAt W wr.heap.size 124 Y) ⟨below_setRowN ((Below.refl _ _).alloc (Nat.le_refl _) _) (Nat.le_refl _) _, (CellsAt.new wr 124 [.int .u8 0, .int .u32 0, .int .u8 0, .int .u32 0, .bool false, .int .u8 0]).setRow Y⟩ ?_
         rintro W2 ⟨hb2, hy2⟩
         have hb12 : Below W1.heap.size W1 W2 := hb.trans (hb2.mono hb.size)
         have hx2 := HW1.out.2.2.2.1.congr (hb12.block bx hw1.2)
         have hL2 := hL.far hb2
         have hlL : ∀ k, (Value.slice lx ll lc).ownBlock = some k → W1.heap.size ≤ k ∧ k < wr.heap.size := fun k hk => ⟨(hL.blockLt k hk).2.1, (hL.blockLt k hk).1⟩
         have hcx : CellsAt W2 bx 124 [.int .u8 ia, .int .u32 is, .int .u8 pa, .int .u32 ps, .bool rg, .int .u8 ch] := by rw [HX.out]; exact hx2
         have hcy : CellsAt W2 wr.heap.size 124 [.int .u8 ya, .int .u32 ys, .int .u8 qa, .int .u32 qs, .bool qr, .int .u8 qc] := by rw [HY.out]; exact hy2
         have x0 : W2.cell? ⟨bx, 0, none⟩ = some (.int .u8 ia) := hcx.cell 0
         have x1 : W2.cell? ⟨bx, 1, none⟩ = some (.int .u32 is) := hcx.cell 1
         have y0 : W2.cell? ⟨wr.heap.size, 0, none⟩ = some (.int .u8 ya) := hcy.cell 0
         have y1 : W2.cell? ⟨wr.heap.size, 1, none⟩ = some (.int .u32 ys) := hcy.cell 1
         have HX6 : Veil (X.length = 6) := ⟨hX6.symm⟩
         have HY6 : Veil (Y.length = 6) := ⟨hY6.symm⟩
         have hll1 := HPL.out
         have hz2 : W1.heap.size ≤ W2.heap.size := hb12.size
         have hlen : ∀ A : List (Int × Int), A.length = ll → (A.map (cF N)).length ≤ 1000000 := fun A hA => by rw [List.length_map]; omega
         have hLe : ((PL.map (cF N)).length : Nat) = ll := by rw [List.length_map]; exact HLL.out
         have HNO : Veil (∀ b, (!PB && aheadB (ia, is) (ya, ys)) = false → PB = b → ∃ x4 l4 c4 W4, (Builtin.append_ #[120, 120] 120 #[.slice lx ll lc, .slice (some ⟨W2.heap.size, 0, none⟩) 1 1]).run Tryz.prog (W2.alloc (.cells Y.toArray 124)) = .ok (.slice x4 l4 c4) W4 ∧ Veil (b = (partI (ia, is) (K.take (j + 1))).1 ∧ OwnI W4 W1.heap.size 124 6 (.slice x4 l4 c4) ((partI (ia, is) (K.take (j + 1))).2.map (cF N)) ∧ Below W1.heap.size W1 W4)) := ⟨fun b hq hbq => by
          obtain ⟨x4, c4, W4, hrun, ho, ht, hf⟩ := hL2.push 120 uS infoN6 rfl (by decide) Y HY6.out h1Y (by rw [hLe]; omega) (by decide) hz2
          rw [hLe] at hrun ho
          refine ⟨x4, ll + 1, c4, W4, hrun, ⟨?_, ?_, hb12.trans (below_turn ht (fun k hk => (hlL k hk).1) hz2)⟩⟩
          · rw [HST.out]; unfold stepI; rw [if_neg (by simp [hq]), hbq]
          · rw [HST.out]; unfold stepI; rw [if_neg (by simp [hq])]
            simp only [List.map_append, List.map_cons, List.map_nil, HCY.out]
            exact ho⟩
         have HYES : Veil ((!PB && aheadB (ia, is) (ya, ys)) = true → ∃ x3 l3 c3 W3 x4 l4 c4 W4, (Builtin.append_ #[120, 120] 120 #[.slice lx ll lc, .slice (some ⟨W2.heap.size, 0, none⟩) 1 1]).run Tryz.prog (W2.alloc (.cells X.toArray 124)) = .ok (.slice x3 l3 c3) W3 ∧ W3.rangeAt wr.heap.size 0 Y ∧ (Builtin.append_ #[120, 120] 120 #[.slice x3 l3 c3, .slice (some ⟨W3.heap.size, 0, none⟩) 1 1]).run Tryz.prog (W3.alloc (.cells Y.toArray 124)) = .ok (.slice x4 l4 c4) W4 ∧ Veil (true = (partI (ia, is) (K.take (j + 1))).1 ∧ OwnI W4 W1.heap.size 124 6 (.slice x4 l4 c4) ((partI (ia, is) (K.take (j + 1))).2.map (cF N)) ∧ Below W1.heap.size W1 W4)) := ⟨fun hq => by
          obtain ⟨x3, c3, W3, hrun3, ho3, ht3, hf3⟩ := hL2.push 120 uS infoN6 rfl (by decide) X HX6.out h1X (by rw [hLe]; omega) (by decide) hz2
          rw [hLe] at hrun3 ho3 hf3
          have hy3 := hy2.congr (ht3.block wr.heap.size hy2.lt (fun q => by have := (hlL _ q).2; omega))
          have hLe3 : (PL.map (cF N) ++ [X]).length = ll + 1 := by rw [List.length_append, hLe]; rfl
          obtain ⟨x4, c4, W4, hrun4, ho4, ht4, hf4⟩ := ho3.push 120 uS infoN6 rfl (by decide) Y HY6.out h1Y (by rw [hLe3]; omega) (by decide) (Nat.le_trans hz2 ht3.size)
          rw [hLe3] at hrun4 ho4
          have hb13 := hb12.trans (below_turn ht3 (fun k hk => (hlL k hk).1) hz2)
          refine ⟨x3, ll + 1, c3, W3, x4, ll + 1 + 1, c4, W4, hrun3, hy3.wholeM, hrun4, ⟨?_, ?_, hb13.trans (below_turn ht4 (fun k hk => ?_) (Nat.le_trans hz2 ht3.size))⟩⟩
          · rw [HST.out]; unfold stepI; rw [if_pos hq]
          · rw [HST.out]; unfold stepI; rw [if_pos hq]
            simp only [List.map_append, List.map_cons, List.map_nil, HCY.out, HCF.out]
            exact ho4
          · exact (ho3.blockLt k hk).2.1⟩
         have rx := hx2.wholeM
         have ry := hy2.wholeM
         clear hL hb hb2 hy2 hx2 hL2 hlL hcx hcy hlen hLe hry' hw1 hb12 hz2 hll1 hX6 hY6
         obtain ⟨byy, hby⟩ : ∃ q, wr.heap.size = q := ⟨_, rfl⟩
         rw [hby] at y0 y1 ry HYES ⊢
         clear hby
         have hcase : PB = true ∨ (PB = false ∧ ia < ya) ∨ (PB = false ∧ ia = ya ∧ is < ys) ∨ (PB = false ∧ ia = ya ∧ ¬ is < ys) ∨ (PB = false ∧ ¬ ia < ya ∧ ia ≠ ya) := by
          cases PB
          · by_cases h1 : ia < ya
            · exact .inr (.inl ⟨rfl, h1⟩)
            · by_cases h2 : ia = ya
              · by_cases h3 : is < ys
                · exact .inr (.inr (.inl ⟨rfl, h2, h3⟩))
                · exact .inr (.inr (.inr (.inl ⟨rfl, h2, h3⟩)))
              · exact .inr (.inr (.inr (.inr ⟨rfl, h1, h2⟩)))
          · exact .inl rfl
         rcases hcase with rfl | ⟨rfl, hc⟩ | ⟨rfl, rfl, hc⟩ | ⟨rfl, rfl, hc⟩ | ⟨rfl, hc, hc2⟩
         · obtain ⟨x4, l4, c4, W4, hrun4, HE⟩ := HNO.out true rfl rfl
           clear HNO HYES
           go_upto_region 16 with fail
           clear x0 x1 y0 y1
           go_wp2_with (first
            | (refine wpList_ldv rfl 124 (.tmp 13) rfl byy 0 rfl Y ry uN rfl iY ?_)
            | (refine wpList_bs1 rfl 120 124 _ rfl Y rfl uS infoN6 (by decide) (by decide) HY6.out ?_)
            | (refine wpList_appx rfl _ _ _ _ rfl _ _ _ W4 rfl rfl hrun4 ?_))
           go_roundw
           case rel =>
            obtain ⟨e1, e2, e3⟩ := HE.out
            refine ⟨j + 1, ?_, hjl, ?_, ?_, e3⟩
            · push_cast; rfl
            · exact congrArg Value.bool e1
            · exact e2
           case measure => simp [intOf]; omega
         · obtain ⟨x3, l3, c3, W3, x4, l4, c4, W4, hrun3, ry3, hrun4, HE⟩ := HYES.out (by simp [aheadB, hc])
           have hcd : decide (ia < ya) = true := by simpa using hc
           clear HNO HYES
           go_upto_region 14 with fail
           clear x0 x1 y0 y1
           go_upto_region 16 with (first
            | (refine wpList_ldv rfl 124 (.tmp 9) rfl bx 0 rfl X rx uN rfl iX ?_)
            | (refine wpList_bs1 rfl 120 124 _ rfl X rfl uS infoN6 (by decide) (by decide) HX6.out ?_)
            | (refine wpList_appx rfl _ _ _ _ rfl _ _ _ W3 rfl rfl hrun3 ?_))
           clear hrun3 rx
           go_wp2_with (first
            | (refine wpList_ldv rfl 124 (.tmp 13) rfl byy 0 rfl Y ry3 uN rfl iY ?_)
            | (refine wpList_bs1 rfl 120 124 _ rfl Y rfl uS infoN6 (by decide) (by decide) HY6.out ?_)
            | (refine wpList_appx rfl _ _ _ _ rfl _ _ _ W4 rfl rfl hrun4 ?_))
           go_roundw
           case rel =>
            obtain ⟨e1, e2, e3⟩ := HE.out
            refine ⟨j + 1, ?_, hjl, ?_, ?_, e3⟩
            · push_cast; rfl
            · exact congrArg Value.bool e1
            · exact e2
           case measure => simp [intOf]; omega
         · obtain ⟨x3, l3, c3, W3, x4, l4, c4, W4, hrun3, ry3, hrun4, HE⟩ := HYES.out (by simp [aheadB, hc])
           have hcd : decide (is < ys) = true := by simpa using hc
           have hcn : ¬ ia < ia := by omega
           have hce : (ia == ia) = true := by simp
           clear HNO HYES
           go_upto_region 14 with fail
           clear x0 x1 y0 y1
           go_upto_region 16 with (first
            | (refine wpList_ldv rfl 124 (.tmp 9) rfl bx 0 rfl X rx uN rfl iX ?_)
            | (refine wpList_bs1 rfl 120 124 _ rfl X rfl uS infoN6 (by decide) (by decide) HX6.out ?_)
            | (refine wpList_appx rfl _ _ _ _ rfl _ _ _ W3 rfl rfl hrun3 ?_))
           clear hrun3 rx
           go_wp2_with (first
            | (refine wpList_ldv rfl 124 (.tmp 13) rfl byy 0 rfl Y ry3 uN rfl iY ?_)
            | (refine wpList_bs1 rfl 120 124 _ rfl Y rfl uS infoN6 (by decide) (by decide) HY6.out ?_)
            | (refine wpList_appx rfl _ _ _ _ rfl _ _ _ W4 rfl rfl hrun4 ?_))
           go_roundw
           case rel =>
            obtain ⟨e1, e2, e3⟩ := HE.out
            refine ⟨j + 1, ?_, hjl, ?_, ?_, e3⟩
            · push_cast; rfl
            · exact congrArg Value.bool e1
            · exact e2
           case measure => simp [intOf]; omega
         · obtain ⟨x4, l4, c4, W4, hrun4, HE⟩ := HNO.out false (by simp [aheadB]; omega) rfl
           have hcd : decide (is < ys) = false := by simpa using hc
           have hcn : ¬ ia < ia := by omega
           have hce : (ia == ia) = true := by simp
           clear HNO HYES
           go_upto_region 16 with fail
           clear x0 x1 y0 y1
           go_wp2_with (first
            | (refine wpList_ldv rfl 124 (.tmp 13) rfl byy 0 rfl Y ry uN rfl iY ?_)
            | (refine wpList_bs1 rfl 120 124 _ rfl Y rfl uS infoN6 (by decide) (by decide) HY6.out ?_)
            | (refine wpList_appx rfl _ _ _ _ rfl _ _ _ W4 rfl rfl hrun4 ?_))
           go_roundw
           case rel =>
            obtain ⟨e1, e2, e3⟩ := HE.out
            refine ⟨j + 1, ?_, hjl, ?_, ?_, e3⟩
            · push_cast; rfl
            · exact congrArg Value.bool e1
            · exact e2
           case measure => simp [intOf]; omega
         · obtain ⟨x4, l4, c4, W4, hrun4, HE⟩ := HNO.out false (by simp [aheadB]; omega) rfl
           have hcd : decide (ia < ya) = false := by simpa using hc
           have hce : (ia == ya) = false := by simpa using hc2
           clear HNO HYES
           go_upto_region 16 with fail
           clear x0 x1 y0 y1
           go_wp2_with (first
            | (refine wpList_ldv rfl 124 (.tmp 13) rfl byy 0 rfl Y ry uN rfl iY ?_)
            | (refine wpList_bs1 rfl 120 124 _ rfl Y rfl uS infoN6 (by decide) (by decide) HY6.out ?_)
            | (refine wpList_appx rfl _ _ _ _ rfl _ _ _ W4 rfl rfl hrun4 ?_))
           go_roundw
           case rel =>
            obtain ⟨e1, e2, e3⟩ := HE.out
            refine ⟨j + 1, ?_, hjl, ?_, ?_, e3⟩
            · push_cast; rfl
            · exact congrArg Value.bool e1
            · exact e2
           case measure => simp [intOf]; omega
       · obtain rfl : j = kl := by omega
         have hjli : ¬ (j : Int) < (j : Int) := by omega
         have HEND := Veil.mk (partI_end (ia, is) K HNK.out)
         have HKT : Veil (K.take j = K) := ⟨List.take_of_length_le (by rw [HKN.out]; omega)⟩
         replace HPP : Veil (partI (ia, is) K = (PB, PL)) := ⟨by rw [← HPP.out, HKT.out]⟩
         have hx2 := HW1.out.2.2.2.1.congr (hb.block bx hw1.2)
         have rx := hx2.wholeM
         have hz2 : W1.heap.size ≤ wr.heap.size := hb.size
         have HX6 : Veil (X.length = 6) := ⟨hX6.symm⟩
         have HCLO : Veil (∀ W, Below W1.heap.size W1 W → Below w.heap.size w W ∧ CellsAt W w.heap.size 40 [.int .u8 pa, .int .u32 ps]) := ⟨fun W h => ⟨HW1.out.1.trans (h.mono HW1.out.1.size), HW1.out.2.1.farM h⟩⟩
         have HYES : Veil (PB = true → OwnI wr (w.heap.size + 1) 124 6 (.slice lx ll lc) ((kids (N.take (i + 1)) ((pa, ps), rg)).map (cF N)) ∧ Below W1.heap.size W1 wr) := ⟨fun hq => by
          refine ⟨?_, hb⟩
          have h1 := HEND.out
          rw [HPP.out] at h1
          simp only [hq, if_true] at h1
          rw [HNX.out, ← h1]
          exact hL.less (by omega)⟩
         have HNO : Veil (PB = false → ∃ x4 l4 c4 W4, (Builtin.append_ #[120, 120] 120 #[.slice lx ll lc, .slice (some ⟨wr.heap.size, 0, none⟩) 1 1]).run Tryz.prog (wr.alloc (.cells X.toArray 124)) = .ok (.slice x4 l4 c4) W4 ∧ Veil (OwnI W4 (w.heap.size + 1) 124 6 (.slice x4 l4 c4) ((kids (N.take (i + 1)) ((pa, ps), rg)).map (cF N)) ∧ Below W1.heap.size W1 W4)) := ⟨fun hq => by
          have hLe : ((PL.map (cF N)).length : Nat) = ll := by rw [List.length_map]; exact HLL.out
          have h2 := HPL.out
          obtain ⟨x4, c4, W4, hrun, ho, ht, hf⟩ := hL.push 120 uS infoN6 rfl (by decide) X HX6.out h1X (by rw [hLe]; omega) (by decide) hz2
          rw [hLe] at hrun ho
          refine ⟨x4, ll + 1, c4, W4, hrun, ⟨?_, hb.trans (below_turn ht (fun k hk => (hL.blockLt k hk).2.1) hz2)⟩⟩
          have h1 := HEND.out
          rw [HPP.out] at h1
          simp only [hq, Bool.false_eq_true, if_false] at h1
          rw [HNX.out, ← h1, List.map_append, List.map_cons, List.map_nil, HCF.out]
          exact ho.less (by omega)⟩
         clear hL hb hx2 hz2 hX6 hw1 hO1 hj HKN HKT HEND HPP HPL HLL HNX HW1 HKK hjl
         cases PB
         · obtain ⟨x4, l4, c4, W4, hrun4, HE⟩ := HNO.out rfl
           clear HNO HYES
           go_wp2_with (first
            | (refine wpList_ldv rfl 124 (.tmp 9) rfl bx 0 rfl X rx uN rfl iX ?_)
            | (refine wpList_bs1 rfl 120 124 _ rfl X rfl uS infoN6 (by decide) (by decide) HX6.out ?_)
            | (refine wpList_appx rfl _ _ _ _ rfl _ _ _ W4 rfl rfl hrun4 ?_))
           go_roundw
           case rel =>
            obtain ⟨e1, e2⟩ := HE.out
            obtain ⟨e3, e4⟩ := HCLO.out W4 e2
            refine ⟨i + 1, ?_, hlt, e1, e3, e4⟩
            push_cast; rfl
           case measure => simp [intOf]; omega
         · obtain ⟨e1, e2⟩ := HYES.out rfl
           obtain ⟨e3, e4⟩ := HCLO.out wr e2
           have HE := Veil.mk (And.intro e1 (And.intro e3 e4))
           clear HNO HYES e1 e2 e3 e4
           go_wp2_with fail
           go_roundw
           case rel =>
            obtain ⟨e1, e3, e4⟩ := HE.out
            refine ⟨i + 1, ?_, hlt, e1, e3, e4⟩
            push_cast; rfl
           case measure => simp [intOf]; omega
  · obtain rfl : i = n := by omega
    have hli : ¬ (i : Int) < (i : Int) := by omega
    have HE : Veil (OwnI wr w.heap.size 124 6 (.slice ox kl oc) ((kids N ((xa, xs), rt)).map (cF N)) ∧ Below w.heap.size w wr) := ⟨by rw [show kids N ((xa, xs), rt) = K by rw [← HKK.out, List.take_of_length_le (by have := HN.out; omega)]]; exact HO.out.less (by omega), HB.out⟩
    clear HO HB HD HKK HKN HKM HKL hTr
    go_wp2
    go_ret
    exact ⟨_, rfl, HE.out⟩
end Go.Proofs.YtmbdohnmbkpfaaaGreat
