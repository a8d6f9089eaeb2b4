/- The statement DiskSynced, walked. -/
import Derived.Test.YtknomnnbebhijaaDoorDiskBackW
namespace Go.Proofs.YtknomnnbebhijaaDoor
open Go.RowKit Go.Shelf
set_option maxRecDepth 20000
set_option linter.unusedSimpArgs false

theorem strOfNums_first (a b : List Int) : (strOfNums (a ++ b)).extract 0 a.length = strOfNums a := by
  have hl : (strOfNums (a ++ b)).data.toList = (a ++ b).map fun n => UInt8.ofNat n.toNat := rfl
  apply ByteArray.ext
  apply Array.toList_inj.1
  rw [ByteArray.data_extract]
  rw [Array.toList_extract, hl, strOfNums_data]
  simp [List.extract]
theorem RowsAt.viewT {w : World} {base : Nat} {v : Value} {rs : List (List Int)} (h : RowsAt w base v rs) : ∃ x c, v = .slice x rs.length c ∧ RowsV w x rs.length c rs ∧ TopA x := by
  obtain ⟨x, c, hx, hv⟩ := h.view
  refine ⟨x, c, hx, hv, ?_⟩
  obtain ⟨vals, h1, _⟩ := h
  rcases h1.2 with ⟨h', _⟩ | ⟨g, cap, cur, h', _⟩
  · rw [hx] at h'
    injection h' with h1
    exact .inl h1
  · rw [hx] at h'
    injection h' with h1
    exact .inr ⟨g, h1⟩
set_option maxHeartbeats 4000000 in
theorem begins_any (x : Option Addr) (n c : Nat) (rs : List (List Int)) (y : Option Addr) (m d : Nat) (qs : List (List Int)) (w : World) (hx : RowsV w x n c rs) (hy : RowsV w y m d (rs ++ qs)) (hyt : TopA y) (hr : ∀ r ∈ rs, isB r) (hn : n ≤ 1000000) :
    Calls Tryd.prog 17 #[.slice x n c, .slice y m d] w fun e w' => e = .returned (.bool true) ∧ Below w.heap.size w w' := by
  have h1 := hx.len_eq
  have h2 := hy.len_eq
  rw [List.length_append] at h2
  have hnm : n ≤ m := by omega
  have hvf := hy.few n hnm
  rw [List.take_append_of_le_length (by omega), List.take_of_length_le (by omega)] at hvf
  have hsr := sameRows_any _ _ _ _ _ _ _ _ w hx hvf hr hr hn
  rw [show (rs == rs) = true by simp] at hsr
  have hsl := fun wx => run_rows_h wx y m d n hyt (by have := hy.le; omega)
  have hnmi : (n : Int) ≤ (m : Int) := by omega
  clear h1 h2 hvf hx hy hyt
  go_enter Tryd.func17, Tryd.ntmps17
  go_wp2_with (go_at_call 20; refine hsr.mono ?_; rintro e w1 ⟨rfl, hb1⟩)
  go_ret
  exact ⟨rfl, hb1⟩
set_option maxHeartbeats 8000000 in
theorem diskSynced_walk (x : Option Addr) (len cap : Nat) (ds : List Dd) (y : Option Addr) (lm cm : Nat) (ms : List Dd) (keep : Int) (w : World) (hd : DeedsAt w x len cap ds) (hm : DeedsAt w y lm cm ms) (hkp : 0 ≤ keep ∧ keep ≤ 65535) (hKT : S.KTab w) :
    Calls Tryd.prog 4 #[.slice x len cap, .slice y lm cm, .int .u16 keep] w fun e w' => e = .returned (.bool true) ∧ Below w.heap.size w w' := by
  obtain ⟨kp, rfl⟩ := Int.eq_ofNat_of_zero_le hkp.1
  have hkp1 : kp ≤ 65535 := by omega
  have hP := play_any x len cap ds w hd hKT
  clear hkp
  go_enter Tryd.func4, Tryd.ntmps4
  go_upto_region 4 with (first
    | (go_at_call 9; refine hP.mono ?_; rintro e w1 ⟨D, R, rfl, ⟨v, u, z, s, hB1⟩, hb1⟩)
    | (go_at_call 10; refine (dLive_any w1 (hKT.below hb1)).mono ?_; rintro e w2 ⟨rfl, hb2⟩))
  have hb12 := hb1.trans (hb2.mono hb1.size)
  have hD2 := hB1.d.far hb2
  clear hP hB1 hd hb1 hb2
  go_upto_region 5 with (go_at_call 12; refine (dSync_any _ _ _ _ _ w2 hD2).mono ?_; rintro e w3 ⟨rfl, hd3⟩)
  have hb13 := hb12.trans (hd3.below hD2 hb12.size)
  have hD3 := hd3.disk
  have hzB := hD3.isb
  have hzl := hD3.len
  have hrB := recsL_in z hzB
  have hrl := recsL_few z hzl
  have HBG : Veil (∀ t, ∃ q, recsL (z ++ t) = recsL z ++ q) := ⟨fun t => recsL_begins _ z t (Nat.le_refl _)⟩
  obtain ⟨rs, hrs⟩ : ∃ q, recsL z = q := ⟨_, rfl⟩
  rw [hrs] at hrB hrl HBG
  obtain ⟨W3, hW3⟩ : ∃ q, w3.drew = q := ⟨_, rfl⟩
  have hb13d : Below w.heap.size w W3 := by rw [← hW3]; exact hb13.drew
  have hD3d : DiskAt W3 w.heap.size D v z z.length := by rw [← hW3]; exact hD3.far (Below.refl _ _).drew
  have hR3 := records_any _ _ _ _ _ W3 hD3d (hKT.below hb13d)
  rw [hrs] at hR3
  obtain ⟨SZ, hSZ⟩ : ∃ q, strOfNums z = q := ⟨_, rfl⟩
  refine wp_region_gate (fun _ => True) 6 (by kernel_rfl) ?_
  rw [hW3]
  clear hW3 hD3 hb13 hd3 hD2 hb12 hrs
  have hS : (fun _ : World => True) W3 := trivial
  refine wpAnyG_any (i := 0) (v := ?_) rfl (by kernel_rfl) (by kernel_rfl) (by kernel_rfl) (fun _ _ _ h => h) (by kernel_rfl) (fun _ => hS) (by kernel_rfl) ?_ ?_
  rotate_left
  · intro _; go_simp; try with_reducible rfl
  simp only [Act.put, List.getElem_toArray, List.getElem_cons_succ, List.getElem_cons_zero, List.setIfInBounds_toArray, List.set_cons_zero, List.set_cons_succ]
  refine wpAnyG_any (i := 2) (v := ?_) rfl (by kernel_rfl) (by kernel_rfl) (by kernel_rfl) (fun _ _ _ h => h) (by kernel_rfl) (fun _ => hS) (by kernel_rfl) ?_ ?_
  rotate_left
  · intro _; go_simp; try with_reducible rfl
  simp only [Act.put, List.getElem_toArray, List.getElem_cons_succ, List.getElem_cons_zero, List.setIfInBounds_toArray, List.set_cons_zero, List.set_cons_succ]
  refine wpAnyG_one (i := 1) rfl (by kernel_rfl) (by kernel_rfl) (fun K hK => ?_)
  refine wpx_call _ _ (by kernel_rfl) (hR3.mono ?_)
  rintro e w4 ⟨v4, rfl, hr4, hb4⟩
  refine ⟨_, rfl, ?_⟩
  have hb14 := hb13d.trans (hb4.mono hb13d.size)
  have hD4 := hD3d.far hb4
  have hs34 := hb4.size
  have ho4 : DiskOut W3.heap.size w4.heap.size D v := hD3d.out _
  refine hK.out _ _ (fun _ => hS) ?_
  clear hK K
  try simp only [Act.put, List.getElem_toArray, List.getElem_cons_succ, List.getElem_cons_zero, List.setIfInBounds_toArray, List.set_cons_zero, List.set_cons_succ]
  refine wpAnyG_one (i := 3) rfl (by kernel_rfl) (by kernel_rfl) (fun K hK => ?_)
  refine wpx_call _ _ (by kernel_rfl) ((dBytes_any _ _ _ _ _ w4 hD4).mono ?_)
  rintro e w5 ⟨v5, rfl, ho5, hb5⟩
  refine ⟨_, rfl, ?_⟩
  have hcv5 := ho5.conv
  rw [hSZ] at hcv5
  have hb15 := hb14.trans (hb5.mono hb14.size)
  have hD5 := hD4.far hb5
  have hs45 := hb5.size
  have hk5 : RangeK W3.heap.size w4.heap.size w4 w5 := RangeK.of_below hb5 (Nat.le_refl _)
  refine hK.out _ _ (fun _ => hS) ?_
  clear hK K
  try simp only [Act.put, List.getElem_toArray, List.getElem_cons_succ, List.getElem_cons_zero, List.setIfInBounds_toArray, List.set_cons_zero, List.set_cons_succ]
  refine wpAnyG_any (i := 5) (v := ?_) rfl (by kernel_rfl) (by kernel_rfl) (by kernel_rfl) (fun _ _ _ h => h) (by kernel_rfl) (fun _ => hS) (by kernel_rfl) ?_ ?_
  rotate_left
  · intro _; go_simp; try with_reducible rfl
  simp only [Act.put, List.getElem_toArray, List.getElem_cons_succ, List.getElem_cons_zero, List.setIfInBounds_toArray, List.set_cons_zero, List.set_cons_succ]
  refine wpAnyG_one (i := 4) rfl (by kernel_rfl) (by kernel_rfl) (fun K hK => ?_)
  go_simp
  refine hK.out _ _ (fun _ => hS) ?_
  clear hK K
  try simp only [Act.put, List.getElem_toArray, List.getElem_cons_succ, List.getElem_cons_zero, List.setIfInBounds_toArray, List.set_cons_zero, List.set_cons_succ]
  refine wpAnyG_one (i := 6) rfl (by kernel_rfl) (by kernel_rfl) (fun K hK => ?_)
  go_simp
  refine hK.out _ _ (fun h => absurd (show true = false from h) (by decide)) ?_
  clear hK K
  try simp only [Act.put, List.getElem_toArray, List.getElem_cons_succ, List.getElem_cons_zero, List.setIfInBounds_toArray, List.set_cons_zero, List.set_cons_succ]
  refine wpAnyG_done (by kernel_rfl) ?_ _
  obtain ⟨x4, c4, hx4, hv4⟩ := hr4.view
  subst hx4
  obtain ⟨n, hn⟩ : ∃ q, rs.length = q := ⟨_, rfl⟩
  have HN := Veil.mk hn
  rw [hn] at hrl ⊢
  have hSZl : SZ.size = z.length := by rw [← hSZ, strOfNums_size]
  obtain ⟨zl, hzz⟩ : ∃ q, z.length = q := ⟨_, rfl⟩
  rw [hzz] at hSZl hD5 hzl
  have HZ := Veil.mk hzz
  have HSZ := Veil.mk hSZ
  clear hn hv4 hcv5 ho5 hR3 hD3d hD4 hb4 hb5 hS hzz hSZ
  go_wp2
  go_loopw [12] (fun p wr => ∃ k : Nat, k ≤ lm ∧ p = .int .i64 (k : Nat) ∧ (∃ v' t, DiskAt wr w.heap.size D v' (z ++ t) zl ∧ DiskOut W3.heap.size w4.heap.size D v') ∧ RangeK W3.heap.size w4.heap.size w4 wr ∧ Below w.heap.size w wr ∧ w4.heap.size ≤ wr.heap.size) (fun p _ => lm - (intOf p).toNat)
  case atStart => exact ⟨0, Nat.zero_le _, rfl, ⟨v, [], by rw [List.append_nil]; exact hD5, ho4⟩, hk5, hb15, hs45⟩
  case round =>
    clear hD5 ho4 hk5 hb15 hs45
    obtain ⟨k, hk, rfl, ⟨v6, t, hD6, ho6⟩, hk6, hb16, hs46⟩ := hrel
    by_cases h1 : k < lm
    · have h1i : (k : Int) < (lm : Int) := by omega
      by_cases h2 : k < 20
      · have h2i : (k : Int) < 20 := by omega
        have hm6 := hm.below hb16
        have hkd : k < ms.length := by have := hm.len_eq; omega
        obtain ⟨b, off, rfl, hc⟩ : ∃ b off, y = some ⟨b, off, none⟩ ∧ ∀ j (hj : j < ms.length) (i : Nat) v, ms[j].cells[i]? = some v → wr.cell? ⟨b, off + j * 3 + i, none⟩ = some v := by
          rcases hm6.at_ with h0 | h0
          · omega
          · exact h0
        have e2 := hc k hkd 2 _ rfl
        have hok := hm.ok ms[k] (List.getElem_mem hkd)
        have hby := (hok.below hb16).bytes
        have hib := hok.isb
        have hxw := hok.bytes.blockLt
        generalize ms[k] = dk at e2 hby hib hxw
        obtain ⟨kind, keep', xx, ll, cc, bb⟩ := dk
        simp only at e2 hby hib hxw
        have hw1 : IntKind.i64.wrap ((k : Int) + 1) = (k : Int) + 1 := by rw [IntKind.wrap_i64]; omega
        clear hc hok hm6
        by_cases hl3 : ll ≤ 300
        · have hl3i : (ll : Int) ≤ 300 := by omega
          by_cases hf : 65536 < (z ++ t).length + 10 + ll
          · have hWr := dWrite_full _ _ _ _ _ wr hD6 xx ll cc (by omega) hf
            clear hf
            go_wp2_with (go_at_call 15; refine hWr.mono ?_; rintro e w7 ⟨rfl, rfl⟩)
            go_roundw
            case rel => exact ⟨k + 1, h1, by push_cast; rfl, ⟨v6, t, hD6, ho6⟩, hk6, hb16, hs46⟩
            case measure => simp [intOf]; omega
          · have hWr := dWrite_any _ _ _ _ _ wr hD6 xx ll cc bb hby hib (by omega) (by omega) (fun a hl0 ha e => by
              have h1 := hxw a hl0 ha
              have h2 := (hD6.inside a.block (.inr e)).2
              omega) hb16.size (hKT.below hb16)
            clear hf
            go_wp2_with (go_at_call 15; refine hWr.mono ?_; rintro e w7 ⟨rfl, v7, hd7⟩)
            go_roundw
            case rel => exact ⟨k + 1, h1, by push_cast; rfl, ⟨v7, t ++ recL bb, by rw [← List.append_assoc]; exact hd7.disk, hd7.out ho6 hs46⟩, hk6.trans (hd7.range ho6 hs46), hb16.trans (hd7.below hD6 hb16.size), Nat.le_trans hs46 hd7.turn.size⟩
            case measure => simp [intOf]; omega
        · have hl3i : ¬ (ll : Int) ≤ 300 := by omega
          go_wp2
          go_roundw
          case rel => exact ⟨k + 1, h1, by push_cast; rfl, ⟨v6, t, hD6, ho6⟩, hk6, hb16, hs46⟩
          case measure => simp [intOf]; omega
      · have h2i : ¬ (k : Int) < 20 := by omega
        obtain ⟨q1, hq1⟩ := HBG.out t
        have hR6 := records_any _ _ _ _ _ wr hD6 (hKT.below hb16)
        rw [hq1] at hR6
        clear hm
        go_upto_region 12 with (go_at_call 13; refine hR6.mono ?_; rintro e w8 ⟨v8, rfl, hr8, hb8⟩)
        have hb18 := hb16.trans (hb8.mono hb16.size)
        have hs68 := hb8.size
        have hk8 := hk6.trans (RangeK.of_below hb8 hs46)
        have hD8 := hD6.far hb8
        have ho8 : DiskOut wr.heap.size w8.heap.size D v6 := hD6.out _
        have hPw := dPower_any _ _ _ _ _ w8 hD8 kp (by omega)
        obtain ⟨m, hmm⟩ : ∃ q, min kp ((z ++ t).length - zl) = q := ⟨_, rfl⟩
        have hml : m ≤ t.length := by have := HZ.out; rw [← hmm, List.length_append]; omega
        have hz9 : (z ++ t).take (zl + m) = z ++ t.take m := by rw [← HZ.out, List.take_length_add_append]
        rw [hmm, hz9] at hPw
        clear hR6 hD6 hmm hz9 hq1
        go_upto_region 13 with (go_at_call 16; refine hPw.mono ?_; rintro e w9 ⟨rfl, v9, hd9⟩)
        have hb19 := hb18.trans (hd9.below hD8 hb18.size)
        have hs89 := hd9.turn.size
        have hk9 := hk8.trans (hd9.range ho6 (by omega))
        have hka : RangeK wr.heap.size w8.heap.size w8 w9 := hd9.range ho8 (Nat.le_refl _)
        have hD9 := hd9.disk
        obtain ⟨q2, hq2⟩ := HBG.out (t.take m)
        have hR9 := records_any _ _ _ _ _ w9 hD9 (hKT.below hb19)
        rw [hq2] at hR9
        clear hPw hd9 hD8 hq2
        go_upto_region 14 with (go_at_call 13; refine hR9.mono ?_; rintro e w10 ⟨v10, rfl, hr10, hb10⟩)
        have hb110 := hb19.trans (hb10.mono hb19.size)
        have hs910 := hb10.size
        have hk10 := hk9.trans (RangeK.of_below hb10 (by omega))
        have hka10 := hka.trans (RangeK.of_below hb10 hs89)
        have hD10 := hD9.far hb10
        have hBy := dBytes_any _ _ _ _ _ w10 hD10
        obtain ⟨SG, hSG⟩ : ∃ q, strOfNums (z ++ t.take m) = q := ⟨_, rfl⟩
        have hSGl : SG.size = zl + m := by rw [← hSG, strOfNums_size, List.length_append, HZ.out, List.length_take]; omega
        have hSGf : SG.extract 0 zl = SZ := by rw [← hSG, ← HZ.out, strOfNums_first]; exact HSZ.out
        clear hR9 hD9
        go_upto_region 15 with (go_at_call 14; refine hBy.mono ?_; rintro e w11 ⟨v11, rfl, ho11, hb11⟩; have hcv := ho11.conv; rw [hSG] at hcv)
        have hb111 := hb110.trans (hb11.mono hb110.size)
        have hD11 := hD10.far hb11
        have hr4b := hr4.range (hk10.trans (RangeK.of_below hb11 (by omega)))
        obtain ⟨xa, ca, hxa, hva⟩ := hr4b.view
        have hnk := HN.out
        rw [hnk] at hxa hva
        cases hxa
        obtain ⟨xb, cb, hxb, hvb, htb⟩ := (hr10.far hb11).viewT
        subst hxb
        have hbg1 := begins_any _ _ _ _ _ _ _ _ w11 hva hvb htb hrB hrl
        have hr8b := (hr8.range hka10).far hb11
        obtain ⟨xc, cc, hxc, hvc, htc⟩ := hr8b.viewT
        subst hxc
        generalize (rs ++ q2).length = n2 at hbg1 hvb ⊢
        generalize hn3 : (rs ++ q1).length = n3 at hvc ⊢
        clear hn3
        have hzm : (zl : Int) ≤ (zl : Int) + (m : Int) := by omega
        have hsl : ∀ wx, (Instr.slice 9 (.string SG) none (some (.int .i64 (zl : Int))) none).run Tryd.prog wx = .ok (.string SZ) wx := fun wx => by
          rw [run_slice_string_h wx 9 SG Tryd.underlying9 .i64 (zl : Int) (by omega) (by rw [hSGl]; omega), Int.toNat_natCast, hSGf]
        clear hBy hD10 hcv ho11 hr4b hr4 hr8 hr8b hr10 hSG hSGf hb11
        go_wp2_with (first
          | (go_at_call 17; refine hbg1.mono ?_; rintro e w12 ⟨rfl, hb12⟩; clear hbg1; have hD12 := hD11.far hb12; have hb112 := hb111.trans (hb12.mono hb111.size); have hbg2 := begins_any _ _ _ _ _ _ _ _ w12 (hva.below hb12) (hvc.below hb12) htc hrB hrl)
          | (go_at_call 18; refine (dSynced_any _ _ _ _ _ w12 hD12).mono ?_; rintro e w13 ⟨rfl, rfl⟩)
          | (go_at_call 17; refine hbg2.mono ?_; rintro e w14 ⟨rfl, hb14'⟩))
        go_ret
        exact ⟨rfl, hb112.trans (hb14'.mono hb112.size)⟩
    · have h1i : ¬ (k : Int) < (lm : Int) := by omega
      obtain ⟨q1, hq1⟩ := HBG.out t
      have hR6 := records_any _ _ _ _ _ wr hD6 (hKT.below hb16)
      rw [hq1] at hR6
      clear hm
      go_upto_region 12 with (go_at_call 13; refine hR6.mono ?_; rintro e w8 ⟨v8, rfl, hr8, hb8⟩)
      have hb18 := hb16.trans (hb8.mono hb16.size)
      have hs68 := hb8.size
      have hk8 := hk6.trans (RangeK.of_below hb8 hs46)
      have hD8 := hD6.far hb8
      have ho8 : DiskOut wr.heap.size w8.heap.size D v6 := hD6.out _
      have hPw := dPower_any _ _ _ _ _ w8 hD8 kp (by omega)
      obtain ⟨m, hmm⟩ : ∃ q, min kp ((z ++ t).length - zl) = q := ⟨_, rfl⟩
      have hml : m ≤ t.length := by have := HZ.out; rw [← hmm, List.length_append]; omega
      have hz9 : (z ++ t).take (zl + m) = z ++ t.take m := by rw [← HZ.out, List.take_length_add_append]
      rw [hmm, hz9] at hPw
      clear hR6 hD6 hmm hz9 hq1
      go_upto_region 13 with (go_at_call 16; refine hPw.mono ?_; rintro e w9 ⟨rfl, v9, hd9⟩)
      have hb19 := hb18.trans (hd9.below hD8 hb18.size)
      have hs89 := hd9.turn.size
      have hk9 := hk8.trans (hd9.range ho6 (by omega))
      have hka : RangeK wr.heap.size w8.heap.size w8 w9 := hd9.range ho8 (Nat.le_refl _)
      have hD9 := hd9.disk
      obtain ⟨q2, hq2⟩ := HBG.out (t.take m)
      have hR9 := records_any _ _ _ _ _ w9 hD9 (hKT.below hb19)
      rw [hq2] at hR9
      clear hPw hd9 hD8 hq2
      go_upto_region 14 with (go_at_call 13; refine hR9.mono ?_; rintro e w10 ⟨v10, rfl, hr10, hb10⟩)
      have hb110 := hb19.trans (hb10.mono hb19.size)
      have hs910 := hb10.size
      have hk10 := hk9.trans (RangeK.of_below hb10 (by omega))
      have hka10 := hka.trans (RangeK.of_below hb10 hs89)
      have hD10 := hD9.far hb10
      have hBy := dBytes_any _ _ _ _ _ w10 hD10
      obtain ⟨SG, hSG⟩ : ∃ q, strOfNums (z ++ t.take m) = q := ⟨_, rfl⟩
      have hSGl : SG.size = zl + m := by rw [← hSG, strOfNums_size, List.length_append, HZ.out, List.length_take]; omega
      have hSGf : SG.extract 0 zl = SZ := by rw [← hSG, ← HZ.out, strOfNums_first]; exact HSZ.out
      clear hR9 hD9
      go_upto_region 15 with (go_at_call 14; refine hBy.mono ?_; rintro e w11 ⟨v11, rfl, ho11, hb11⟩; have hcv := ho11.conv; rw [hSG] at hcv)
      have hb111 := hb110.trans (hb11.mono hb110.size)
      have hD11 := hD10.far hb11
      have hr4b := hr4.range (hk10.trans (RangeK.of_below hb11 (by omega)))
      obtain ⟨xa, ca, hxa, hva⟩ := hr4b.view
      have hnk := HN.out
      rw [hnk] at hxa hva
      cases hxa
      obtain ⟨xb, cb, hxb, hvb, htb⟩ := (hr10.far hb11).viewT
      subst hxb
      have hbg1 := begins_any _ _ _ _ _ _ _ _ w11 hva hvb htb hrB hrl
      have hr8b := (hr8.range hka10).far hb11
      obtain ⟨xc, cc, hxc, hvc, htc⟩ := hr8b.viewT
      subst hxc
      generalize (rs ++ q2).length = n2 at hbg1 hvb ⊢
      generalize hn3 : (rs ++ q1).length = n3 at hvc ⊢
      clear hn3
      have hzm : (zl : Int) ≤ (zl : Int) + (m : Int) := by omega
      have hsl : ∀ wx, (Instr.slice 9 (.string SG) none (some (.int .i64 (zl : Int))) none).run Tryd.prog wx = .ok (.string SZ) wx := fun wx => by
        rw [run_slice_string_h wx 9 SG Tryd.underlying9 .i64 (zl : Int) (by omega) (by rw [hSGl]; omega), Int.toNat_natCast, hSGf]
      clear hBy hD10 hcv ho11 hr4b hr4 hr8 hr8b hr10 hSG hSGf hb11
      go_wp2_with (first
        | (go_at_call 17; refine hbg1.mono ?_; rintro e w12 ⟨rfl, hb12⟩; clear hbg1; have hD12 := hD11.far hb12; have hb112 := hb111.trans (hb12.mono hb111.size); have hbg2 := begins_any _ _ _ _ _ _ _ _ w12 (hva.below hb12) (hvc.below hb12) htc hrB hrl)
        | (go_at_call 18; refine (dSynced_any _ _ _ _ _ w12 hD12).mono ?_; rintro e w13 ⟨rfl, rfl⟩)
        | (go_at_call 17; refine hbg2.mono ?_; rintro e w14 ⟨rfl, hb14'⟩))
      go_ret
      exact ⟨rfl, hb112.trans (hb14'.mono hb112.size)⟩
end Go.Proofs.YtknomnnbebhijaaDoor
