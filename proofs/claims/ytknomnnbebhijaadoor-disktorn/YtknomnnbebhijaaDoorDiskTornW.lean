/- The statement DiskTorn, walked. -/
import Derived.Test.YtknomnnbebhijaaDoorDiskSyncedW
import Derived.Test.YtknomnnbebhijaaDoorDq2
namespace Go.Proofs.YtknomnnbebhijaaDoor
open Go.RowKit Go.Shelf
set_option maxRecDepth 20000
set_option linter.unusedSimpArgs false

set_option maxHeartbeats 8000000 in
theorem diskTorn_walk (x : Option Addr) (len cap : Nat) (rs : List (List Int)) (keep : Int) (w : World) (hd : ArgRows w x len cap rs) (hkp : 0 ≤ keep ∧ keep ≤ 65535) (hKT : S.KTab w) :
    Calls Tryd.prog 5 #[.slice x len cap, .int .u16 keep] w fun e w' => e = .returned (.bool true) ∧ Below w.heap.size w w' := by
  obtain ⟨kp, rfl⟩ := Int.eq_ofNat_of_zero_le hkp.1
  have hkp1 : kp ≤ 65535 := by omega
  have hN := dNew_any w
  have hrsB := hd.isb
  clear hkp
  go_enter Tryd.func5, Tryd.ntmps5
  go_wp2_with (go_at_call 19; refine hN.mono ?_; rintro e w1 ⟨rfl, hD1, hs1, hb1⟩; clear hs1)
  clear hN
  obtain ⟨D, hDD⟩ : ∃ q, w.heap.size = q := ⟨_, rfl⟩
  have hD1' : DiskAt w1 w.heap.size D (.slice none 0 0) [] 0 := by rw [← hDD]; exact hD1
  rw [show (⟨w.heap.size, 0, none⟩ : Addr) = ⟨D, 0, none⟩ by rw [hDD]]
  clear hD1 hDD
  go_loopw [6, 7, 8] (fun p q i wr => ∃ k : Nat, (k ≤ rs.length ∧ k ≤ 20 ∧ ∀ r ∈ rs.take k, r.length ≤ 300) ∧ p = .int .i64 (lensK rs k : Nat) ∧ q = .int .i64 (wholeC rs kp k : Nat) ∧ i = .int .i64 (k : Nat) ∧ (∃ v, DiskAt wr w.heap.size D v (flatR (rs.take k)) 0) ∧ Below w.heap.size w wr) (fun _ _ i _ => 20 - (intOf i).toNat)
  case atStart => exact ⟨0, ⟨Nat.zero_le _, Nat.zero_le _, fun r hr => by simp at hr⟩, rfl, rfl, rfl, ⟨_, hD1'⟩, hb1⟩
  case round =>
    clear hD1' hb1
    obtain ⟨k, ⟨hk, hk20, hk3⟩, rfl, rfl, rfl, ⟨v, hD⟩, hb⟩ := hrel
    have hHK : Veil (k ≤ rs.length ∧ k ≤ 20 ∧ ∀ r ∈ rs.take k, r.length ≤ 300) := ⟨hk, hk20, hk3⟩
    have hlen := Veil.mk hd.len_eq
    have hfl : (flatR (rs.take k)).length = lensK rs k := by rw [flatR_length, lensK_take]
    have hwl := wholeC_le rs kp k
    have hDl := hD.len
    rw [hfl] at hDl
    have hL : ∀ wx, Below w.heap.size w wx → Calls Tryd.prog 10 #[] wx fun e w' => e = .returned (.bool true) ∧ Below wx.heap.size wx w' := fun wx hx => dLive_any wx (hKT.below hx)
    by_cases h1 : k < len
    · have h1i : (k : Int) < (len : Int) := by omega
      by_cases h2 : k < 20
      · have h2i : (k : Int) < 20 := by omega
        have hdr := hd.below hb
        have hkd : k < rs.length := by have := hlen.out; omega
        obtain ⟨b, off, rfl, hc⟩ : ∃ b off, x = some ⟨b, off, none⟩ ∧ ∀ j (hj : j < rs.length), ∃ xx cc, wr.cell? ⟨b, off + j, none⟩ = some (.slice xx rs[j].length cc) ∧ Bytes wr xx rs[j].length cc rs[j] := by
          rcases hdr.at_ with h0 | h0
          · omega
          · exact h0
        obtain ⟨xx, cc, e1, e2⟩ := hc k hkd
        have hxw : b < w.heap.size ∧ ∀ a, rs[k].length ≠ 0 → xx = some a → a.block < w.heap.size := by
          rcases hd.at_ with h0 | ⟨b', off', hx', hc'⟩
          · omega
          · cases hx'
            obtain ⟨x2, c2, f1, f2⟩ := hc' k hkd
            have := (hb.cell (p := ⟨b, off + k, none⟩) (block_lt_of_cell f1)).trans f1
            rw [e1] at this
            cases this
            exact ⟨block_lt_of_cell f1, f2.blockLt⟩
        obtain ⟨hbk, hxw⟩ := hxw
        have hrB := hrsB rs[k] (List.getElem_mem hkd)
        have HLS : Veil (lensK rs (k + 1) = lensK rs k + (10 + rs[k].length)) := ⟨lensK_succ rs k hkd⟩
        have HFS : Veil (flatR (rs.take (k + 1)) = flatR (rs.take k) ++ recL rs[k]) := ⟨by rw [List.take_succ_eq_append_getElem hkd, flatR_snoc]⟩
        have HTK : Veil (rs.take (k + 1) = rs.take k ++ [rs[k]]) := ⟨List.take_succ_eq_append_getElem hkd⟩
        have HWC : Veil (wholeC rs kp (k + 1) = if lensK rs (k + 1) ≤ kp then wholeC rs kp k + 1 else wholeC rs kp k) := ⟨rfl⟩
        obtain ⟨rk, hrk⟩ : ∃ q, rs[k] = q := ⟨_, rfl⟩
        rw [hrk] at e1 e2 hxw hrB HLS HFS HTK
        have hrl : rk.length ≤ 300 → (lensK rs k + (10 + rk.length) ≤ 65536 ∨ 65536 < (flatR (rs.take k)).length + 10 + rk.length) := fun _ => by omega
        obtain ⟨ll, hll⟩ : ∃ q, rk.length = q := ⟨_, rfl⟩
        rw [hll] at e1 e2 hxw HLS
        have HLL := Veil.mk hll
        have hw1 : IntKind.i64.wrap ((k : Int) + 1) = (k : Int) + 1 := by rw [IntKind.wrap_i64]; omega
        clear hc hdr hrk hll hk hk3 hk20
        by_cases hl3 : ll ≤ 300
        · have hl3i : ¬ (300 : Int) < (ll : Int) := by omega
          by_cases hf : 65536 < (flatR (rs.take k)).length + 10 + ll
          · have hWr := dWrite_full _ _ _ _ _ wr hD xx ll cc (by omega) hf
            clear hf hrl
            go_wp2_with (first
              | (go_at_call 15; refine hWr.mono ?_; rintro e w7 ⟨rfl, rfl⟩)
              | (go_at_call 10; refine (hL _ hb).mono ?_; rintro e w8 ⟨rfl, hb8⟩))
            go_ret
            exact ⟨rfl, hb.trans (hb8.mono hb.size)⟩
          · have hWr := dWrite_any _ _ _ _ _ wr hD xx ll cc rk e2 hrB (by omega) (by omega) (fun a hl0 ha e => by
              have h1 := hxw a hl0 ha
              have h2 := (hD.inside a.block (.inr e)).2
              omega) hb.size (hKT.below hb)
            rw [← HFS.out] at hWr
            rw [hfl] at hf
            clear hfl hrl
            obtain ⟨lk, hlk⟩ : ∃ q, lensK rs k = q := ⟨_, rfl⟩
            obtain ⟨wc, hwc⟩ : ∃ q, wholeC rs kp k = q := ⟨_, rfl⟩
            rw [hlk] at HLS hf hDl ⊢
            rw [hwc] at HWC hwl ⊢
            have hw2 : IntKind.i64.wrap (10 + (ll : Int)) = 10 + (ll : Int) := by rw [IntKind.wrap_i64]; omega
            have hw3 : IntKind.i64.wrap ((lk : Int) + (10 + (ll : Int))) = (lk : Int) + (10 + (ll : Int)) := by rw [IntKind.wrap_i64]; omega
            have hw4 : IntKind.i64.wrap ((wc : Int) + 1) = (wc : Int) + 1 := by rw [IntKind.wrap_i64]; omega
            clear hlk hwc
            by_cases hle : lk + (10 + ll) ≤ kp
            · have hlei : (lk : Int) + (10 + (ll : Int)) ≤ (kp : Int) := by omega
              clear hf
              go_wp2_with (go_at_call 15; refine hWr.mono ?_; rintro e w7 ⟨rfl, v7, hd7⟩; have e7 : w7.cell? ⟨b, off + k, none⟩ = some (.slice xx ll cc) := (World.cell?_of_block (a := ⟨b, off + k, none⟩) (hd7.turn.block b (Nat.lt_of_lt_of_le hbk hb.size) (fun hp => absurd (hD.inside b hp).2 (Nat.not_le.2 hbk)))).trans e1)
              go_roundw
              case rel =>
                refine ⟨k + 1, ⟨by omega, by omega, fun r hr => ?_⟩, by rw [HLS.out]; push_cast; rfl, by rw [HWC.out, HLS.out, if_pos hle]; push_cast; rfl, by push_cast; rfl, ⟨v7, hd7.disk⟩, hb.trans (hd7.below hD hb.size)⟩
                rw [HTK.out] at hr
                rcases List.mem_append.1 hr with h | h
                · exact hHK.out.2.2 r h
                · rw [List.mem_singleton] at h
                  rw [h, HLL.out]; exact hl3
              case measure => simp [intOf]; omega
            · have hlei : ¬ (lk : Int) + (10 + (ll : Int)) ≤ (kp : Int) := by omega
              clear hf
              go_wp2_with (go_at_call 15; refine hWr.mono ?_; rintro e w7 ⟨rfl, v7, hd7⟩; have e7 : w7.cell? ⟨b, off + k, none⟩ = some (.slice xx ll cc) := (World.cell?_of_block (a := ⟨b, off + k, none⟩) (hd7.turn.block b (Nat.lt_of_lt_of_le hbk hb.size) (fun hp => absurd (hD.inside b hp).2 (Nat.not_le.2 hbk)))).trans e1)
              go_roundw
              case rel =>
                refine ⟨k + 1, ⟨by omega, by omega, fun r hr => ?_⟩, by rw [HLS.out]; push_cast; rfl, by rw [HWC.out, HLS.out, if_neg hle], by push_cast; rfl, ⟨v7, hd7.disk⟩, hb.trans (hd7.below hD hb.size)⟩
                rw [HTK.out] at hr
                rcases List.mem_append.1 hr with h | h
                · exact hHK.out.2.2 r h
                · rw [List.mem_singleton] at h
                  rw [h, HLL.out]; exact hl3
              case measure => simp [intOf]; omega
        · have hl3i : (300 : Int) < (ll : Int) := by omega
          go_wp2_with (go_at_call 10; refine (hL _ hb).mono ?_; rintro e w8 ⟨rfl, hb8⟩)
          go_ret
          exact ⟨rfl, hb.trans (hb8.mono hb.size)⟩
      · have h2i : ¬ (k : Int) < 20 := by omega
        have hsm : ∀ r ∈ rs.take k, r.length < 65536 := fun r hr => by have := hk3 r hr; omega
        have hR := records_any _ _ _ _ _ wr hD (hKT.below hb)
        rw [(flatR_recs _ hsm).1] at hR
        obtain ⟨q, hq⟩ := torn_recs rs kp k hsm hk
        have hrkB : ∀ r ∈ rs.take (wholeC rs kp k), isB r := fun r hr => hrsB r (List.mem_of_mem_take hr)
        have hrkl : (rs.take k).length = k := by rw [List.length_take]; omega
        have hrwl : (rs.take (wholeC rs kp k)).length = wholeC rs kp k := by rw [List.length_take]; omega
        have hrkw : (rs.take k).take (wholeC rs kp k) = rs.take (wholeC rs kp k) := by rw [List.take_take, Nat.min_eq_left hwl]
        obtain ⟨wc, hwc⟩ : ∃ q, wholeC rs kp k = q := ⟨_, rfl⟩
        rw [hwc] at hwl hq hrkB hrwl hrkw ⊢
        obtain ⟨F, hF⟩ : ∃ q, flatR (rs.take k) = q := ⟨_, rfl⟩
        rw [hF] at hD hq
        clear hd hwc hF hfl hDl hk3 hHK
        go_upto_region 13 with (go_at_call 13; refine hR.mono ?_; rintro e w8 ⟨v8, rfl, hr8, hb8⟩)
        have hb18 := hb.trans (hb8.mono hb.size)
        have hD8 := hD.far hb8
        have ho8 : DiskOut wr.heap.size w8.heap.size D v := hD.out _
        have hPw := dPower_any _ _ _ _ _ w8 hD8 kp (by omega)
        have hzt : F.take (0 + min kp (F.length - 0)) = F.take kp := by
          rw [Nat.zero_add, Nat.sub_zero]
          by_cases h : kp ≤ F.length
          · rw [Nat.min_eq_left h]
          · rw [Nat.min_eq_right (by omega), List.take_length, List.take_of_length_le (by omega)]
        rw [hzt] at hPw
        clear hR hD hzt
        go_upto_region 15 with (go_at_call 16; refine hPw.mono ?_; rintro e w9 ⟨rfl, v9, hd9⟩)
        have hb19 := hb18.trans (hd9.below hD8 hb18.size)
        have hka := hd9.range ho8 (Nat.le_refl _)
        have hs89 := hd9.turn.size
        have hD9 := hd9.disk
        have hR9 := records_any _ _ _ _ _ w9 hD9 (hKT.below hb19)
        rw [hq] at hR9
        clear hPw hd9 hD8 hq
        go_upto_region 16 with (go_at_call 13; refine hR9.mono ?_; rintro e w10 ⟨v10, rfl, hr10, hb10⟩)
        have hb110 := hb19.trans (hb10.mono hb19.size)
        have hr8b := hr8.range (hka.trans (RangeK.of_below hb10 hs89))
        obtain ⟨xa, ca, hxa, hva, hta⟩ := hr8b.viewT
        subst hxa
        obtain ⟨xb, cb, hxb, hvb, htb⟩ := hr10.viewT
        subst hxb
        have hn2 : wc ≤ (rs.take wc ++ q).length := by rw [List.length_append]; omega
        have hvaf := hva.few wc (by omega)
        rw [hrkw] at hvaf
        have hvbf := hvb.few wc hn2
        rw [List.take_append_of_le_length (by omega), List.take_of_length_le (by omega)] at hvbf
        have hsa := fun wx => run_rows_h wx xa (rs.take k).length ca wc hta (by have := hva.le; omega)
        have hsb := fun wx => run_rows_h wx xb (rs.take wc ++ q).length cb wc htb (by have := hvb.le; omega)
        rw [hrkl] at hsa
        generalize (rs.take wc ++ q).length = n2 at hn2 hsb ⊢
        rw [hrkl]
        clear hva hvb hr8b hr8 hr10 hR9 hD9 hrkw hrwl hrkl
        have hn1i : (wc : Int) ≤ (k : Int) := by omega
        have hn2i : (wc : Int) ≤ (n2 : Int) := by omega
        obtain ⟨W, hW⟩ : ∃ q, w10.drew = q := ⟨_, rfl⟩
        have hbW : Below w10.heap.size w10 W := by rw [← hW]; exact (Below.refl _ _).drew
        have hb1W := hb110.trans (hbW.mono hb110.size)
        refine wp_region_gate (fun _ => True) 22 (by kernel_rfl) ?_
        rw [hW]
        have hS : (fun _ : World => True) W := trivial
        refine wpAnyG_one (i := 0) rfl (by kernel_rfl) (by kernel_rfl) (fun K hK => ?_)
        refine wpx_call _ _ (by kernel_rfl) ((hL W hb1W).mono ?_)
        rintro e w11 ⟨rfl, hb11⟩
        refine ⟨_, rfl, ?_⟩
        have hbb := hbW.trans (hb11.mono hbW.size)
        have hsr := sameRows_any _ _ _ _ _ _ _ _ w11 (hvbf.below hbb) (hvaf.below hbb) hrkB hrkB (by omega)
        rw [show (rs.take wc == rs.take wc) = true by simp] at hsr
        refine hK.out _ _ (fun _ => hS) ?_
        clear hK K
        try simp only [Act.put, List.getElem_toArray, List.getElem_cons_succ, List.getElem_cons_zero, List.setIfInBounds_toArray, List.set_cons_zero, List.set_cons_succ]
        refine wpAnyG_any (i := 1) (v := ?_) rfl (by kernel_rfl) (by kernel_rfl) (by kernel_rfl) (fun _ _ _ h => h) (by kernel_rfl) (fun _ => hS) (by kernel_rfl) ?_ ?_
        rotate_left
        · intro _; go_simp; try with_reducible rfl
        simp only [Act.put, List.getElem_toArray, List.getElem_cons_succ, List.getElem_cons_zero, List.setIfInBounds_toArray, List.set_cons_zero, List.set_cons_succ]
        refine wpAnyG_any (i := 2) (v := ?_) rfl (by kernel_rfl) (by kernel_rfl) (by kernel_rfl) (fun _ _ _ h => h) (by kernel_rfl) (fun _ => hS) (by kernel_rfl) ?_ ?_
        rotate_left
        · intro _; go_simp; try with_reducible rfl
        simp only [Act.put, List.getElem_toArray, List.getElem_cons_succ, List.getElem_cons_zero, List.setIfInBounds_toArray, List.set_cons_zero, List.set_cons_succ]
        refine wpAnyG_any (i := 3) (v := ?_) rfl (by kernel_rfl) (by kernel_rfl) (by kernel_rfl) (fun _ _ _ h => h) (by kernel_rfl) (fun _ => hS) (by kernel_rfl) ?_ ?_
        rotate_left
        · intro _; go_simp; try with_reducible rfl
        simp only [Act.put, List.getElem_toArray, List.getElem_cons_succ, List.getElem_cons_zero, List.setIfInBounds_toArray, List.set_cons_zero, List.set_cons_succ]
        refine wpAnyG_any (i := 4) (v := ?_) rfl (by kernel_rfl) (by kernel_rfl) (by kernel_rfl) (fun _ _ _ h => h) (by kernel_rfl) (fun _ => hS) (by kernel_rfl) ?_ ?_
        rotate_left
        · intro _; go_simp; try with_reducible rfl
        simp only [Act.put, List.getElem_toArray, List.getElem_cons_succ, List.getElem_cons_zero, List.setIfInBounds_toArray, List.set_cons_zero, List.set_cons_succ]
        refine wpAnyG_any (i := 5) (v := .bool true) rfl (by kernel_rfl) (by kernel_rfl) (by kernel_rfl) (fun _ _ _ h => h) (by kernel_rfl) (fun _ => hS) (by kernel_rfl) ?_ ?_
        · intro _; go_simp
        simp only [Act.put, List.getElem_toArray, List.getElem_cons_succ, List.getElem_cons_zero, List.setIfInBounds_toArray, List.set_cons_zero, List.set_cons_succ]
        refine wpAnyG_any (i := 6) (v := ?_) rfl (by kernel_rfl) (by kernel_rfl) (by kernel_rfl) (fun _ _ _ h => h) (by kernel_rfl) (fun _ => hS) (by kernel_rfl) ?_ ?_
        rotate_left
        · intro _; go_simp; try with_reducible rfl
        simp only [Act.put, List.getElem_toArray, List.getElem_cons_succ, List.getElem_cons_zero, List.setIfInBounds_toArray, List.set_cons_zero, List.set_cons_succ]
        refine wpAnyG_any (i := 7) (v := ?_) rfl (by kernel_rfl) (by kernel_rfl) (by kernel_rfl) (fun _ _ _ h => h) (by kernel_rfl) (fun _ => hS) (by kernel_rfl) ?_ ?_
        rotate_left
        · intro _; go_simp; try with_reducible rfl
        simp only [Act.put, List.getElem_toArray, List.getElem_cons_succ, List.getElem_cons_zero, List.setIfInBounds_toArray, List.set_cons_zero, List.set_cons_succ]
        refine wpAnyG_any (i := 8) (v := ?_) rfl (by kernel_rfl) (by kernel_rfl) (by kernel_rfl) (fun _ _ _ h => h) (by kernel_rfl) (fun _ => hS) (by kernel_rfl) ?_ ?_
        rotate_left
        · intro _; go_simp; try with_reducible rfl
        simp only [Act.put, List.getElem_toArray, List.getElem_cons_succ, List.getElem_cons_zero, List.setIfInBounds_toArray, List.set_cons_zero, List.set_cons_succ]
        refine wpAnyG_any (i := 9) (v := ?_) rfl (by kernel_rfl) (by kernel_rfl) (by kernel_rfl) (fun _ _ _ h => h) (by kernel_rfl) (fun _ => hS) (by kernel_rfl) ?_ ?_
        rotate_left
        · intro _; go_simp; try with_reducible rfl
        simp only [Act.put, List.getElem_toArray, List.getElem_cons_succ, List.getElem_cons_zero, List.setIfInBounds_toArray, List.set_cons_zero, List.set_cons_succ]
        refine wpAnyG_any (i := 10) (v := ?_) rfl (by kernel_rfl) (by kernel_rfl) (by kernel_rfl) (fun _ _ _ h => h) (by kernel_rfl) (fun _ => hS) (by kernel_rfl) ?_ ?_
        rotate_left
        · intro _; go_simp; try with_reducible rfl
        simp only [Act.put, List.getElem_toArray, List.getElem_cons_succ, List.getElem_cons_zero, List.setIfInBounds_toArray, List.set_cons_zero, List.set_cons_succ]
        refine wpAnyG_any (i := 11) (v := .bool true) rfl (by kernel_rfl) (by kernel_rfl) (by kernel_rfl) (fun _ _ _ h => h) (by kernel_rfl) (fun _ => hS) (by kernel_rfl) ?_ ?_
        · intro _; go_simp
        simp only [Act.put, List.getElem_toArray, List.getElem_cons_succ, List.getElem_cons_zero, List.setIfInBounds_toArray, List.set_cons_zero, List.set_cons_succ]
        refine wpAnyG_any (i := 12) (v := ?_) rfl (by kernel_rfl) (by kernel_rfl) (by kernel_rfl) (fun _ _ _ h => h) (by kernel_rfl) (fun _ => hS) (by kernel_rfl) ?_ ?_
        rotate_left
        · intro _; go_simp; try with_reducible rfl
        simp only [Act.put, List.getElem_toArray, List.getElem_cons_succ, List.getElem_cons_zero, List.setIfInBounds_toArray, List.set_cons_zero, List.set_cons_succ]
        refine wpAnyG_any (i := 13) (v := ?_) rfl (by kernel_rfl) (by kernel_rfl) (by kernel_rfl) (fun _ _ _ h => h) (by kernel_rfl) (fun _ => hS) (by kernel_rfl) ?_ ?_
        rotate_left
        · intro _; go_simp; try with_reducible rfl
        simp only [Act.put, List.getElem_toArray, List.getElem_cons_succ, List.getElem_cons_zero, List.setIfInBounds_toArray, List.set_cons_zero, List.set_cons_succ]
        refine wpAnyG_any (i := 14) (v := ?_) rfl (by kernel_rfl) (by kernel_rfl) (by kernel_rfl) (fun _ _ _ h => h) (by kernel_rfl) (fun _ => hS) (by kernel_rfl) ?_ ?_
        rotate_left
        · intro _; go_simp; try with_reducible rfl
        simp only [Act.put, List.getElem_toArray, List.getElem_cons_succ, List.getElem_cons_zero, List.setIfInBounds_toArray, List.set_cons_zero, List.set_cons_succ]
        refine wpAnyG_any (i := 15) (v := ?_) rfl (by kernel_rfl) (by kernel_rfl) (by kernel_rfl) (fun _ _ _ h => h) (by kernel_rfl) (fun _ => hS) (by kernel_rfl) ?_ ?_
        rotate_left
        · intro _; go_simp; try with_reducible rfl
        simp only [Act.put, List.getElem_toArray, List.getElem_cons_succ, List.getElem_cons_zero, List.setIfInBounds_toArray, List.set_cons_zero, List.set_cons_succ]
        refine wpAnyG_any (i := 16) (v := .slice xb wc cb) rfl (by kernel_rfl) (by kernel_rfl) (by kernel_rfl) (fun _ _ _ h => h) (by kernel_rfl) (fun _ => hS) (by kernel_rfl) ?_ ?_
        · intro _; go_simp
        simp only [Act.put, List.getElem_toArray, List.getElem_cons_succ, List.getElem_cons_zero, List.setIfInBounds_toArray, List.set_cons_zero, List.set_cons_succ]
        refine wpAnyG_any (i := 17) (v := ?_) rfl (by kernel_rfl) (by kernel_rfl) (by kernel_rfl) (fun _ _ _ h => h) (by kernel_rfl) (fun _ => hS) (by kernel_rfl) ?_ ?_
        rotate_left
        · intro _; go_simp; try with_reducible rfl
        simp only [Act.put, List.getElem_toArray, List.getElem_cons_succ, List.getElem_cons_zero, List.setIfInBounds_toArray, List.set_cons_zero, List.set_cons_succ]
        refine wpAnyG_any (i := 18) (v := ?_) rfl (by kernel_rfl) (by kernel_rfl) (by kernel_rfl) (fun _ _ _ h => h) (by kernel_rfl) (fun _ => hS) (by kernel_rfl) ?_ ?_
        rotate_left
        · intro _; go_simp; try with_reducible rfl
        simp only [Act.put, List.getElem_toArray, List.getElem_cons_succ, List.getElem_cons_zero, List.setIfInBounds_toArray, List.set_cons_zero, List.set_cons_succ]
        refine wpAnyG_any (i := 19) (v := .slice xa wc ca) rfl (by kernel_rfl) (by kernel_rfl) (by kernel_rfl) (fun _ _ _ h => h) (by kernel_rfl) (fun _ => hS) (by kernel_rfl) ?_ ?_
        · intro _; go_simp
        simp only [Act.put, List.getElem_toArray, List.getElem_cons_succ, List.getElem_cons_zero, List.setIfInBounds_toArray, List.set_cons_zero, List.set_cons_succ]
        refine wpAnyG_one (i := 20) rfl (by kernel_rfl) (by kernel_rfl) (fun K hK => ?_)
        refine wpx_call _ _ (by kernel_rfl) (hsr.mono ?_)
        rintro e w12 ⟨rfl, hb12⟩
        refine ⟨_, rfl, ?_⟩
        refine hK.out _ _ (fun _ => hS) ?_
        clear hK K
        try simp only [Act.put, List.getElem_toArray, List.getElem_cons_succ, List.getElem_cons_zero, List.setIfInBounds_toArray, List.set_cons_zero, List.set_cons_succ]
        refine wpAnyG_any (i := 21) (v := .bool true) rfl (by kernel_rfl) (by kernel_rfl) (by kernel_rfl) (fun _ _ _ h => h) (by kernel_rfl) (fun _ => hS) (by kernel_rfl) ?_ ?_
        · intro _; go_simp
        simp only [Act.put, List.getElem_toArray, List.getElem_cons_succ, List.getElem_cons_zero, List.setIfInBounds_toArray, List.set_cons_zero, List.set_cons_succ]
        refine wpAnyG_one (i := 22) rfl (by kernel_rfl) (by kernel_rfl) (fun K hK => ?_)
        go_simp
        refine hK.out _ _ (fun h => absurd (show true = false from h) (by decide)) ?_
        clear hK K
        try simp only [Act.put, List.getElem_toArray, List.getElem_cons_succ, List.getElem_cons_zero, List.setIfInBounds_toArray, List.set_cons_zero, List.set_cons_succ]
        refine wpAnyG_done (by kernel_rfl) ?_ _
        clear hS hsr hL
        go_wp2
        go_ret
        have hb111 := hb1W.trans (hb11.mono hb1W.size)
        exact ⟨rfl, hb111.trans (hb12.mono hb111.size)⟩
    · have h1i : ¬ (k : Int) < (len : Int) := by omega
      have hsm : ∀ r ∈ rs.take k, r.length < 65536 := fun r hr => by have := hk3 r hr; omega
      have hR := records_any _ _ _ _ _ wr hD (hKT.below hb)
      rw [(flatR_recs _ hsm).1] at hR
      obtain ⟨q, hq⟩ := torn_recs rs kp k hsm hk
      have hrkB : ∀ r ∈ rs.take (wholeC rs kp k), isB r := fun r hr => hrsB r (List.mem_of_mem_take hr)
      have hrkl : (rs.take k).length = k := by rw [List.length_take]; omega
      have hrwl : (rs.take (wholeC rs kp k)).length = wholeC rs kp k := by rw [List.length_take]; omega
      have hrkw : (rs.take k).take (wholeC rs kp k) = rs.take (wholeC rs kp k) := by rw [List.take_take, Nat.min_eq_left hwl]
      obtain ⟨wc, hwc⟩ : ∃ q, wholeC rs kp k = q := ⟨_, rfl⟩
      rw [hwc] at hwl hq hrkB hrwl hrkw ⊢
      obtain ⟨F, hF⟩ : ∃ q, flatR (rs.take k) = q := ⟨_, rfl⟩
      rw [hF] at hD hq
      clear hd hwc hF hfl hDl hk3 hHK
      go_upto_region 13 with (go_at_call 13; refine hR.mono ?_; rintro e w8 ⟨v8, rfl, hr8, hb8⟩)
      have hb18 := hb.trans (hb8.mono hb.size)
      have hD8 := hD.far hb8
      have ho8 : DiskOut wr.heap.size w8.heap.size D v := hD.out _
      have hPw := dPower_any _ _ _ _ _ w8 hD8 kp (by omega)
      have hzt : F.take (0 + min kp (F.length - 0)) = F.take kp := by
        rw [Nat.zero_add, Nat.sub_zero]
        by_cases h : kp ≤ F.length
        · rw [Nat.min_eq_left h]
        · rw [Nat.min_eq_right (by omega), List.take_length, List.take_of_length_le (by omega)]
      rw [hzt] at hPw
      clear hR hD hzt
      go_upto_region 15 with (go_at_call 16; refine hPw.mono ?_; rintro e w9 ⟨rfl, v9, hd9⟩)
      have hb19 := hb18.trans (hd9.below hD8 hb18.size)
      have hka := hd9.range ho8 (Nat.le_refl _)
      have hs89 := hd9.turn.size
      have hD9 := hd9.disk
      have hR9 := records_any _ _ _ _ _ w9 hD9 (hKT.below hb19)
      rw [hq] at hR9
      clear hPw hd9 hD8 hq
      go_upto_region 16 with (go_at_call 13; refine hR9.mono ?_; rintro e w10 ⟨v10, rfl, hr10, hb10⟩)
      have hb110 := hb19.trans (hb10.mono hb19.size)
      have hr8b := hr8.range (hka.trans (RangeK.of_below hb10 hs89))
      obtain ⟨xa, ca, hxa, hva, hta⟩ := hr8b.viewT
      subst hxa
      obtain ⟨xb, cb, hxb, hvb, htb⟩ := hr10.viewT
      subst hxb
      have hn2 : wc ≤ (rs.take wc ++ q).length := by rw [List.length_append]; omega
      have hvaf := hva.few wc (by omega)
      rw [hrkw] at hvaf
      have hvbf := hvb.few wc hn2
      rw [List.take_append_of_le_length (by omega), List.take_of_length_le (by omega)] at hvbf
      have hsa := fun wx => run_rows_h wx xa (rs.take k).length ca wc hta (by have := hva.le; omega)
      have hsb := fun wx => run_rows_h wx xb (rs.take wc ++ q).length cb wc htb (by have := hvb.le; omega)
      rw [hrkl] at hsa
      generalize (rs.take wc ++ q).length = n2 at hn2 hsb ⊢
      rw [hrkl]
      clear hva hvb hr8b hr8 hr10 hR9 hD9 hrkw hrwl hrkl
      have hn1i : (wc : Int) ≤ (k : Int) := by omega
      have hn2i : (wc : Int) ≤ (n2 : Int) := by omega
      obtain ⟨W, hW⟩ : ∃ q, w10.drew = q := ⟨_, rfl⟩
      have hbW : Below w10.heap.size w10 W := by rw [← hW]; exact (Below.refl _ _).drew
      have hb1W := hb110.trans (hbW.mono hb110.size)
      refine wp_region_gate (fun _ => True) 22 (by kernel_rfl) ?_
      rw [hW]
      have hS : (fun _ : World => True) W := trivial
      refine wpAnyG_one (i := 0) rfl (by kernel_rfl) (by kernel_rfl) (fun K hK => ?_)
      refine wpx_call _ _ (by kernel_rfl) ((hL W hb1W).mono ?_)
      rintro e w11 ⟨rfl, hb11⟩
      refine ⟨_, rfl, ?_⟩
      have hbb := hbW.trans (hb11.mono hbW.size)
      have hsr := sameRows_any _ _ _ _ _ _ _ _ w11 (hvbf.below hbb) (hvaf.below hbb) hrkB hrkB (by omega)
      rw [show (rs.take wc == rs.take wc) = true by simp] at hsr
      refine hK.out _ _ (fun _ => hS) ?_
      clear hK K
      try simp only [Act.put, List.getElem_toArray, List.getElem_cons_succ, List.getElem_cons_zero, List.setIfInBounds_toArray, List.set_cons_zero, List.set_cons_succ]
      refine wpAnyG_any (i := 1) (v := ?_) rfl (by kernel_rfl) (by kernel_rfl) (by kernel_rfl) (fun _ _ _ h => h) (by kernel_rfl) (fun _ => hS) (by kernel_rfl) ?_ ?_
      rotate_left
      · intro _; go_simp; try with_reducible rfl
      simp only [Act.put, List.getElem_toArray, List.getElem_cons_succ, List.getElem_cons_zero, List.setIfInBounds_toArray, List.set_cons_zero, List.set_cons_succ]
      refine wpAnyG_any (i := 2) (v := ?_) rfl (by kernel_rfl) (by kernel_rfl) (by kernel_rfl) (fun _ _ _ h => h) (by kernel_rfl) (fun _ => hS) (by kernel_rfl) ?_ ?_
      rotate_left
      · intro _; go_simp; try with_reducible rfl
      simp only [Act.put, List.getElem_toArray, List.getElem_cons_succ, List.getElem_cons_zero, List.setIfInBounds_toArray, List.set_cons_zero, List.set_cons_succ]
      refine wpAnyG_any (i := 3) (v := ?_) rfl (by kernel_rfl) (by kernel_rfl) (by kernel_rfl) (fun _ _ _ h => h) (by kernel_rfl) (fun _ => hS) (by kernel_rfl) ?_ ?_
      rotate_left
      · intro _; go_simp; try with_reducible rfl
      simp only [Act.put, List.getElem_toArray, List.getElem_cons_succ, List.getElem_cons_zero, List.setIfInBounds_toArray, List.set_cons_zero, List.set_cons_succ]
      refine wpAnyG_any (i := 4) (v := ?_) rfl (by kernel_rfl) (by kernel_rfl) (by kernel_rfl) (fun _ _ _ h => h) (by kernel_rfl) (fun _ => hS) (by kernel_rfl) ?_ ?_
      rotate_left
      · intro _; go_simp; try with_reducible rfl
      simp only [Act.put, List.getElem_toArray, List.getElem_cons_succ, List.getElem_cons_zero, List.setIfInBounds_toArray, List.set_cons_zero, List.set_cons_succ]
      refine wpAnyG_any (i := 5) (v := .bool true) rfl (by kernel_rfl) (by kernel_rfl) (by kernel_rfl) (fun _ _ _ h => h) (by kernel_rfl) (fun _ => hS) (by kernel_rfl) ?_ ?_
      · intro _; go_simp
      simp only [Act.put, List.getElem_toArray, List.getElem_cons_succ, List.getElem_cons_zero, List.setIfInBounds_toArray, List.set_cons_zero, List.set_cons_succ]
      refine wpAnyG_any (i := 6) (v := ?_) rfl (by kernel_rfl) (by kernel_rfl) (by kernel_rfl) (fun _ _ _ h => h) (by kernel_rfl) (fun _ => hS) (by kernel_rfl) ?_ ?_
      rotate_left
      · intro _; go_simp; try with_reducible rfl
      simp only [Act.put, List.getElem_toArray, List.getElem_cons_succ, List.getElem_cons_zero, List.setIfInBounds_toArray, List.set_cons_zero, List.set_cons_succ]
      refine wpAnyG_any (i := 7) (v := ?_) rfl (by kernel_rfl) (by kernel_rfl) (by kernel_rfl) (fun _ _ _ h => h) (by kernel_rfl) (fun _ => hS) (by kernel_rfl) ?_ ?_
      rotate_left
      · intro _; go_simp; try with_reducible rfl
      simp only [Act.put, List.getElem_toArray, List.getElem_cons_succ, List.getElem_cons_zero, List.setIfInBounds_toArray, List.set_cons_zero, List.set_cons_succ]
      refine wpAnyG_any (i := 8) (v := ?_) rfl (by kernel_rfl) (by kernel_rfl) (by kernel_rfl) (fun _ _ _ h => h) (by kernel_rfl) (fun _ => hS) (by kernel_rfl) ?_ ?_
      rotate_left
      · intro _; go_simp; try with_reducible rfl
      simp only [Act.put, List.getElem_toArray, List.getElem_cons_succ, List.getElem_cons_zero, List.setIfInBounds_toArray, List.set_cons_zero, List.set_cons_succ]
      refine wpAnyG_any (i := 9) (v := ?_) rfl (by kernel_rfl) (by kernel_rfl) (by kernel_rfl) (fun _ _ _ h => h) (by kernel_rfl) (fun _ => hS) (by kernel_rfl) ?_ ?_
      rotate_left
      · intro _; go_simp; try with_reducible rfl
      simp only [Act.put, List.getElem_toArray, List.getElem_cons_succ, List.getElem_cons_zero, List.setIfInBounds_toArray, List.set_cons_zero, List.set_cons_succ]
      refine wpAnyG_any (i := 10) (v := ?_) rfl (by kernel_rfl) (by kernel_rfl) (by kernel_rfl) (fun _ _ _ h => h) (by kernel_rfl) (fun _ => hS) (by kernel_rfl) ?_ ?_
      rotate_left
      · intro _; go_simp; try with_reducible rfl
      simp only [Act.put, List.getElem_toArray, List.getElem_cons_succ, List.getElem_cons_zero, List.setIfInBounds_toArray, List.set_cons_zero, List.set_cons_succ]
      refine wpAnyG_any (i := 11) (v := .bool true) rfl (by kernel_rfl) (by kernel_rfl) (by kernel_rfl) (fun _ _ _ h => h) (by kernel_rfl) (fun _ => hS) (by kernel_rfl) ?_ ?_
      · intro _; go_simp
      simp only [Act.put, List.getElem_toArray, List.getElem_cons_succ, List.getElem_cons_zero, List.setIfInBounds_toArray, List.set_cons_zero, List.set_cons_succ]
      refine wpAnyG_any (i := 12) (v := ?_) rfl (by kernel_rfl) (by kernel_rfl) (by kernel_rfl) (fun _ _ _ h => h) (by kernel_rfl) (fun _ => hS) (by kernel_rfl) ?_ ?_
      rotate_left
      · intro _; go_simp; try with_reducible rfl
      simp only [Act.put, List.getElem_toArray, List.getElem_cons_succ, List.getElem_cons_zero, List.setIfInBounds_toArray, List.set_cons_zero, List.set_cons_succ]
      refine wpAnyG_any (i := 13) (v := ?_) rfl (by kernel_rfl) (by kernel_rfl) (by kernel_rfl) (fun _ _ _ h => h) (by kernel_rfl) (fun _ => hS) (by kernel_rfl) ?_ ?_
      rotate_left
      · intro _; go_simp; try with_reducible rfl
      simp only [Act.put, List.getElem_toArray, List.getElem_cons_succ, List.getElem_cons_zero, List.setIfInBounds_toArray, List.set_cons_zero, List.set_cons_succ]
      refine wpAnyG_any (i := 14) (v := ?_) rfl (by kernel_rfl) (by kernel_rfl) (by kernel_rfl) (fun _ _ _ h => h) (by kernel_rfl) (fun _ => hS) (by kernel_rfl) ?_ ?_
      rotate_left
      · intro _; go_simp; try with_reducible rfl
      simp only [Act.put, List.getElem_toArray, List.getElem_cons_succ, List.getElem_cons_zero, List.setIfInBounds_toArray, List.set_cons_zero, List.set_cons_succ]
      refine wpAnyG_any (i := 15) (v := ?_) rfl (by kernel_rfl) (by kernel_rfl) (by kernel_rfl) (fun _ _ _ h => h) (by kernel_rfl) (fun _ => hS) (by kernel_rfl) ?_ ?_
      rotate_left
      · intro _; go_simp; try with_reducible rfl
      simp only [Act.put, List.getElem_toArray, List.getElem_cons_succ, List.getElem_cons_zero, List.setIfInBounds_toArray, List.set_cons_zero, List.set_cons_succ]
      refine wpAnyG_any (i := 16) (v := .slice xb wc cb) rfl (by kernel_rfl) (by kernel_rfl) (by kernel_rfl) (fun _ _ _ h => h) (by kernel_rfl) (fun _ => hS) (by kernel_rfl) ?_ ?_
      · intro _; go_simp
      simp only [Act.put, List.getElem_toArray, List.getElem_cons_succ, List.getElem_cons_zero, List.setIfInBounds_toArray, List.set_cons_zero, List.set_cons_succ]
      refine wpAnyG_any (i := 17) (v := ?_) rfl (by kernel_rfl) (by kernel_rfl) (by kernel_rfl) (fun _ _ _ h => h) (by kernel_rfl) (fun _ => hS) (by kernel_rfl) ?_ ?_
      rotate_left
      · intro _; go_simp; try with_reducible rfl
      simp only [Act.put, List.getElem_toArray, List.getElem_cons_succ, List.getElem_cons_zero, List.setIfInBounds_toArray, List.set_cons_zero, List.set_cons_succ]
      refine wpAnyG_any (i := 18) (v := ?_) rfl (by kernel_rfl) (by kernel_rfl) (by kernel_rfl) (fun _ _ _ h => h) (by kernel_rfl) (fun _ => hS) (by kernel_rfl) ?_ ?_
      rotate_left
      · intro _; go_simp; try with_reducible rfl
      simp only [Act.put, List.getElem_toArray, List.getElem_cons_succ, List.getElem_cons_zero, List.setIfInBounds_toArray, List.set_cons_zero, List.set_cons_succ]
      refine wpAnyG_any (i := 19) (v := .slice xa wc ca) rfl (by kernel_rfl) (by kernel_rfl) (by kernel_rfl) (fun _ _ _ h => h) (by kernel_rfl) (fun _ => hS) (by kernel_rfl) ?_ ?_
      · intro _; go_simp
      simp only [Act.put, List.getElem_toArray, List.getElem_cons_succ, List.getElem_cons_zero, List.setIfInBounds_toArray, List.set_cons_zero, List.set_cons_succ]
      refine wpAnyG_one (i := 20) rfl (by kernel_rfl) (by kernel_rfl) (fun K hK => ?_)
      refine wpx_call _ _ (by kernel_rfl) (hsr.mono ?_)
      rintro e w12 ⟨rfl, hb12⟩
      refine ⟨_, rfl, ?_⟩
      refine hK.out _ _ (fun _ => hS) ?_
      clear hK K
      try simp only [Act.put, List.getElem_toArray, List.getElem_cons_succ, List.getElem_cons_zero, List.setIfInBounds_toArray, List.set_cons_zero, List.set_cons_succ]
      refine wpAnyG_any (i := 21) (v := .bool true) rfl (by kernel_rfl) (by kernel_rfl) (by kernel_rfl) (fun _ _ _ h => h) (by kernel_rfl) (fun _ => hS) (by kernel_rfl) ?_ ?_
      · intro _; go_simp
      simp only [Act.put, List.getElem_toArray, List.getElem_cons_succ, List.getElem_cons_zero, List.setIfInBounds_toArray, List.set_cons_zero, List.set_cons_succ]
      refine wpAnyG_one (i := 22) rfl (by kernel_rfl) (by kernel_rfl) (fun K hK => ?_)
      go_simp
      refine hK.out _ _ (fun h => absurd (show true = false from h) (by decide)) ?_
      clear hK K
      try simp only [Act.put, List.getElem_toArray, List.getElem_cons_succ, List.getElem_cons_zero, List.setIfInBounds_toArray, List.set_cons_zero, List.set_cons_succ]
      refine wpAnyG_done (by kernel_rfl) ?_ _
      clear hS hsr hL
      go_wp2
      go_ret
      have hb111 := hb1W.trans (hb11.mono hb1W.size)
      exact ⟨rfl, hb111.trans (hb12.mono hb111.size)⟩
end Go.Proofs.YtknomnnbebhijaaDoor
