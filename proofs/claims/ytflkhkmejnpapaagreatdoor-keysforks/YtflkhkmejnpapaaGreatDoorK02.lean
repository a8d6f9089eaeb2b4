/- Mixed Step Join PureB -/
import Derived.Test.YtflkhkmejnpapaaGreatDoorK01
import Derived.Deep.RegionHeld3
import Derived.Deep.DeepCutAuto
namespace Go.Proofs.YtflkhkmejnpapaaGreatDoor.S
open Go.RowKit
def KTab (w : World) : Prop := ∀ j, j < 64 → w.cell? ⟨0, j, none⟩ = some (.int .u32 (kTab[j]?.getD 0))
theorem KTab.lt {w : World} (h : KTab w) : 0 < w.heap.size := block_lt_of_cell (h 0 (by omega))
theorem KTab.below {w w' : World} (h : KTab w) (hb : Below w.heap.size w w') : KTab w' := fun j hj => (hb.cell (p := ⟨0, j, none⟩) h.lt).trans (h j hj)
set_option maxRecDepth 20000 in
theorem mixed_any (s ws : List Int) (w : World) (hs : s.length = 8) (hin : InU s) (hw : ws.length = 64) (hk : KTab w) :
    Calls Tryz.prog 118 #[.agg (row .u32 s), .agg (row .u32 ws)] w fun e w' => e = .returned (.agg (row .u32 (rounds ws s 64))) ∧ Below w.heap.size w w' := by
 go_enter Tryz.func118, Tryz.ntmps118
 go_wp2
 refine forget (p := fun x => Code.wp _ _ _ _ x) (fun W0 => Below w.heap.size w W0 ∧ W0.heap.size = w.heap.size + 3 ∧ Holds W0 w.heap.size .u32 158 s ∧ Holds W0 (w.heap.size + 1) .u32 172 ws ∧ Holds W0 (w.heap.size + 1 + 1) .u32 158 (List.replicate 8 0)) ⟨(((Below.refl _ _).alloc (Nat.le_refl _) _).alloc (by simp) _).alloc (by simp; omega) _, by simp, ?_, ?_, ?_⟩ ?_
 · exact ((Holds.new w .u32 158 s).alloc _).alloc _
 · have hn := Holds.new (w.alloc (.cells (row .u32 s) 158)) .u32 172 ws
   rw [World.size_alloc] at hn
   exact hn.alloc _
 · have hn := Holds.new ((w.alloc (.cells (row .u32 s) 158)).alloc (.cells (row .u32 ws) 172)) .u32 158 (List.replicate 8 0)
   rw [World.size_alloc, World.size_alloc] at hn
   exact hn
 rintro W0 ⟨hB, hsz, h0, h1, h2⟩
 obtain ⟨a, b, c, d, e, f, g, h, rfl⟩ := eight hs
 have c0 : W0.cell? ⟨w.heap.size, 0, none⟩ = some (.int .u32 a) := h0.cell 0 (by simp)
 have c1 : W0.cell? ⟨w.heap.size, 1, none⟩ = some (.int .u32 b) := h0.cell 1 (by simp)
 have c2 : W0.cell? ⟨w.heap.size, 2, none⟩ = some (.int .u32 c) := h0.cell 2 (by simp)
 have c3 : W0.cell? ⟨w.heap.size, 3, none⟩ = some (.int .u32 d) := h0.cell 3 (by simp)
 have c4 : W0.cell? ⟨w.heap.size, 4, none⟩ = some (.int .u32 e) := h0.cell 4 (by simp)
 have c5 : W0.cell? ⟨w.heap.size, 5, none⟩ = some (.int .u32 f) := h0.cell 5 (by simp)
 have c6 : W0.cell? ⟨w.heap.size, 6, none⟩ = some (.int .u32 g) := h0.cell 6 (by simp)
 have c7 : W0.cell? ⟨w.heap.size, 7, none⟩ = some (.int .u32 h) := h0.cell 7 (by simp)
 go_quiet ((fail))
 go_wp2
 refine forget (p := fun x => Code.wp _ _ _ _ x) (fun W1 => Below w.heap.size w W1 ∧ W1.heap.size = w.heap.size + 3 ∧ Holds W1 (w.heap.size + 1) .u32 172 ws ∧ Holds W1 (w.heap.size + 1 + 1) .u32 158 (List.replicate 8 0)) ⟨below_drewN hB _, by simp [hsz], h1.drewN _, h2.drewN _⟩ ?_
 clear c0 c1 c2 c3 c4 c5 c6 c7 h0 h1 h2 hB hsz
 rintro W1 ⟨hB, hsz, h1, h2⟩
 go_loopw [5, 6, 7, 8, 9, 10, 11, 12, 32] (fun va vb vc vd ve vf vg vh i wr => ∃ (k : Nat) (a' b' c' d' e' f' g' h' : Int), k ≤ 64 ∧ i = .int .i64 k ∧ rounds ws [a, b, c, d, e, f, g, h] k = [a', b', c', d', e', f', g', h'] ∧
     va = .int .u32 a' ∧ vb = .int .u32 b' ∧ vc = .int .u32 c' ∧ vd = .int .u32 d' ∧ ve = .int .u32 e' ∧ vf = .int .u32 f' ∧ vg = .int .u32 g' ∧ vh = .int .u32 h' ∧
     Below w.heap.size w wr ∧ wr.heap.size = w.heap.size + 3 ∧ Holds wr (w.heap.size + 1) .u32 172 ws ∧ Holds wr (w.heap.size + 1 + 1) .u32 158 (List.replicate 8 0))
  (fun _ _ _ _ _ _ _ _ i _ => 64 - (intOf i).toNat)
 case atStart => exact ⟨0, a, b, c, d, e, f, g, h, by omega, rfl, rfl, rfl, rfl, rfl, rfl, rfl, rfl, rfl, rfl, hB, hsz, h1, h2⟩
 case round =>
  clear hB hsz h1 h2 W1
  obtain ⟨k, a', b', c', d', e', f', g', h', hk64, rfl, HR, rfl, rfl, rfl, rfl, rfl, rfl, rfl, rfl, hB, hsz, h1, h2⟩ := hrel
  have HH : Hid (rounds ws [a, b, c, d, e, f, g, h] k = [a', b', c', d', e', f', g', h']) := HR
  have hin' := rounds_in ws [a, b, c, d, e, f, g, h] k hs hin
  rw [HR] at hin'
  have he := hin' e' (by simp)
  obtain ⟨he0, he1⟩ := he
  clear HR hin'
  by_cases hlt : k < 64
  · have ck : wr.cell? ⟨0, k, none⟩ = some (.int .u32 (kTab[k]?.getD 0)) := (hB.cell (p := ⟨0, k, none⟩) hk.lt).trans (hk k hlt)
    have cw := h1.cell k (by omega)
    obtain ⟨K, hK⟩ : ∃ K, kTab[k]?.getD 0 = K := ⟨_, rfl⟩
    have HK : Hid (kTab[k]?.getD 0 = K) := hK
    rw [hK] at ck
    obtain ⟨V, hV⟩ : ∃ V, ws[k]?.getD 0 = V := ⟨_, rfl⟩
    have HV : Hid (ws[k]?.getD 0 = V) := hV
    rw [hV] at cw
    have HN : Hid (bits .xor .u32 (if IntKind.u32.signed = true then -1 else IntKind.u32.max) e' = 4294967295 - e') := not_u32 e' he0 he1
    clear hK hV
    go_wp2
    go_quiet ((go_at_call 121; exact Calls.quiet_of_same (right_any _ _ _ (by unfold rotN; omega))))
    go_wp2_with (go_at_call 121; refine (right_any _ _ _ (by unfold rotN; omega)).mono ?_; rintro e w' ⟨rfl, rfl⟩)
    go_roundw
    case rel =>
     refine ⟨k + 1, _, _, _, _, _, _, _, _, by omega, by go_num, ?_, rfl, rfl, rfl, rfl, rfl, rfl, rfl, rfl, below_drewN hB _, by simp [hsz], h1.drewN _, h2.drewN _⟩
     show rnd (kTab[k]?.getD 0) (ws[k]?.getD 0) (rounds ws [a, b, c, d, e, f, g, h] k) = _
     rw [HH.out, HK.out, HV.out]
     refine rnd_of ?_ ?_
     · unfold sig1 sig0 chs maj; rw [HN.out]; omega
     · unfold sig1 chs; rw [HN.out]; omega
    case measure => simp [intOf]; omega
  · obtain rfl : k = 64 := by omega
    have hr : rounds ws [a, b, c, d, e, f, g, h] 64 = [a', b', c', d', e', f', g', h'] := HH.out
    go_wp2_with (refine wpList_st rfl 158 _ _ rfl _ rfl (l := [a', b', c', d', e', f', g', h']) rfl h2 sizeSt (by simp) ?_)
    refine bodyPost_ret (results_holds (Tryz.results118) _ rfl (h2.setRow [a', b', c', d', e', f', g', h']) Tryz.underlying158 sizeSt rfl) rfl ⟨by rw [hr], ?_⟩
    exact below_setRow hB (by omega) _
theorem bcell {W w1 : World} (hb : Below W.heap.size W w1) : (∀ b o, b < W.heap.size → w1.cell? ⟨b, o, none⟩ = W.cell? ⟨b, o, none⟩) ∧ (∀ b o, b < W.heap.size → w1.frozen? ⟨b, o, none⟩ = W.frozen? ⟨b, o, none⟩) :=
 ⟨fun b o h => hb.cell (p := ⟨b, o, none⟩) h, fun b o h => hb.frozen (p := ⟨b, o, none⟩) h⟩
theorem facts8 {w : World} {g : Nat} {t : TypeId} (h : Holds w g .u32 t (List.replicate 8 0)) :
    (w.cell? ⟨g, 0, none⟩ = some (.int .u32 0) ∧ w.cell? ⟨g, 1, none⟩ = some (.int .u32 0) ∧ w.cell? ⟨g, 2, none⟩ = some (.int .u32 0) ∧ w.cell? ⟨g, 3, none⟩ = some (.int .u32 0) ∧
     w.cell? ⟨g, 4, none⟩ = some (.int .u32 0) ∧ w.cell? ⟨g, 5, none⟩ = some (.int .u32 0) ∧ w.cell? ⟨g, 6, none⟩ = some (.int .u32 0) ∧ w.cell? ⟨g, 7, none⟩ = some (.int .u32 0)) ∧ ∀ j, w.frozen? ⟨g, j, none⟩ = false :=
 ⟨⟨h.cell 0 (by simp), h.cell 1 (by simp), h.cell 2 (by simp), h.cell 3 (by simp), h.cell 4 (by simp), h.cell 5 (by simp), h.cell 6 (by simp), h.cell 7 (by simp)⟩, h.frozen⟩
theorem below8 {B : Nat} {a w : World} (h : Below B a w) {g : Nat} (hg : B ≤ g) (v0 v1 v2 v3 v4 v5 v6 v7 : Value) :
    Below B a ((((((((w.setCell ⟨g, 0, none⟩ v0).setCell ⟨g, 1, none⟩ v1).setCell ⟨g, 2, none⟩ v2).setCell ⟨g, 3, none⟩ v3).setCell ⟨g, 4, none⟩ v4).setCell ⟨g, 5, none⟩ v5).setCell ⟨g, 6, none⟩ v6).setCell ⟨g, 7, none⟩ v7) :=
 (((((((h.setCell (p := ⟨g, 0, none⟩) hg _).setCell (p := ⟨g, 1, none⟩) hg _).setCell (p := ⟨g, 2, none⟩) hg _).setCell (p := ⟨g, 3, none⟩) hg _).setCell (p := ⟨g, 4, none⟩) hg _).setCell (p := ⟨g, 5, none⟩) hg _).setCell (p := ⟨g, 6, none⟩) hg _).setCell (p := ⟨g, 7, none⟩) hg _
theorem holds8 {w : World} {g : Nat} {t : TypeId} (h : Holds w g .u32 t (List.replicate 8 0)) (r0 r1 r2 r3 r4 r5 r6 r7 : Int) :
    Holds ((((((((w.setCell ⟨g, 0, none⟩ (.int .u32 r0)).setCell ⟨g, 1, none⟩ (.int .u32 r1)).setCell ⟨g, 2, none⟩ (.int .u32 r2)).setCell ⟨g, 3, none⟩ (.int .u32 r3)).setCell ⟨g, 4, none⟩ (.int .u32 r4)).setCell ⟨g, 5, none⟩ (.int .u32 r5)).setCell ⟨g, 6, none⟩ (.int .u32 r6)).setCell ⟨g, 7, none⟩ (.int .u32 r7)) g .u32 t [r0, r1, r2, r3, r4, r5, r6, r7] :=
 (((((((h.set 0 r0).set 1 r1).set 2 r2).set 3 r3).set 4 r4).set 5 r5).set 6 r6).set 7 r7
set_option maxRecDepth 20000 in
set_option maxHeartbeats 1000000 in
theorem step_any (s z : List Int) (b off cap : Nat) (w : World) (hs : s.length = 8) (hin : InU s) (hk : KTab w) (hcap : 64 ≤ cap) (hcap2 : cap ≤ 9223372036854775807)
    (hcell : ∀ j, j < 64 → w.cell? ⟨b, off + j, none⟩ = some (.int .u8 (z[j]?.getD 0))) :
    Calls Tryz.prog 109 #[.agg (row .u32 s), .slice (some ⟨b, off, none⟩) 64 cap] w fun e w' => e = .returned (.agg (row .u32 (stepL s z))) ∧ Below w.heap.size w w' := by
 have hb : b < w.heap.size := block_lt_of_cell (hcell 0 (by omega))
 have hws : (sched (wordsL z 16) 48).length = 64 := by rw [sched_length, wordsL_length]
 obtain ⟨r0, r1, r2, r3, r4, r5, r6, r7, hR⟩ := eight (rounds_length (sched (wordsL z 16) 48) s 64 hs)
 have HR : Hid (rounds (sched (wordsL z 16) 48) s 64 = [r0, r1, r2, r3, r4, r5, r6, r7]) := hR
 have mx : ∀ wx, KTab wx → Calls Tryz.prog 118 #[.agg (row .u32 s), .agg (row .u32 (sched (wordsL z 16) 48))] wx fun e w' => e = .returned (.agg #[.int .u32 r0, .int .u32 r1, .int .u32 r2, .int .u32 r3, .int .u32 r4, .int .u32 r5, .int .u32 r6, .int .u32 r7]) ∧ Below wx.heap.size wx w' := fun wx hx => by
  have := mixed_any s (sched (wordsL z 16) 48) wx hs hin hws hx
  rw [hR] at this
  exact this
 clear hR
 go_enter Tryz.func109, Tryz.ntmps109
 go_wp2
 refine forget (p := fun x => Code.wp _ _ _ _ x) (fun W0 => Below w.heap.size w W0 ∧ W0.heap.size = w.heap.size + 2 ∧ Holds W0 w.heap.size .u32 158 s ∧ Holds W0 (w.heap.size + 1) .u32 158 (List.replicate 8 0)) ⟨((Below.refl _ _).alloc (Nat.le_refl _) _).alloc (by simp) _, by simp, ?_, ?_⟩ ?_
 · exact (Holds.new w .u32 158 s).alloc _
 · have hn := Holds.new (w.alloc (.cells (row .u32 s) 158)) .u32 158 (List.replicate 8 0)
   rw [World.size_alloc] at hn
   exact hn
 rintro W0 ⟨hB, hsz, h0, h1⟩
 obtain ⟨s0, s1, s2, s3, s4, s5, s6, s7, rfl⟩ := eight hs
 have c0 : W0.cell? ⟨w.heap.size, 0, none⟩ = some (.int .u32 s0) := h0.cell 0 (by simp)
 have c1 : W0.cell? ⟨w.heap.size, 1, none⟩ = some (.int .u32 s1) := h0.cell 1 (by simp)
 have c2 : W0.cell? ⟨w.heap.size, 2, none⟩ = some (.int .u32 s2) := h0.cell 2 (by simp)
 have c3 : W0.cell? ⟨w.heap.size, 3, none⟩ = some (.int .u32 s3) := h0.cell 3 (by simp)
 have c4 : W0.cell? ⟨w.heap.size, 4, none⟩ = some (.int .u32 s4) := h0.cell 4 (by simp)
 have c5 : W0.cell? ⟨w.heap.size, 5, none⟩ = some (.int .u32 s5) := h0.cell 5 (by simp)
 have c6 : W0.cell? ⟨w.heap.size, 6, none⟩ = some (.int .u32 s6) := h0.cell 6 (by simp)
 have c7 : W0.cell? ⟨w.heap.size, 7, none⟩ = some (.int .u32 s7) := h0.cell 7 (by simp)
 have hkeep : ∀ w', Below W0.heap.size W0 w' → (w'.cell? ⟨w.heap.size, 0, none⟩ = some (.int .u32 s0) ∧ w'.cell? ⟨w.heap.size, 1, none⟩ = some (.int .u32 s1) ∧ w'.cell? ⟨w.heap.size, 2, none⟩ = some (.int .u32 s2) ∧ w'.cell? ⟨w.heap.size, 3, none⟩ = some (.int .u32 s3) ∧
     w'.cell? ⟨w.heap.size, 4, none⟩ = some (.int .u32 s4) ∧ w'.cell? ⟨w.heap.size, 5, none⟩ = some (.int .u32 s5) ∧ w'.cell? ⟨w.heap.size, 6, none⟩ = some (.int .u32 s6) ∧ w'.cell? ⟨w.heap.size, 7, none⟩ = some (.int .u32 s7)) := fun w' hb' => by
  have hc := (bcell hb').1
  have hl : w.heap.size < W0.heap.size := by omega
  exact ⟨(hc _ _ hl).trans c0, (hc _ _ hl).trans c1, (hc _ _ hl).trans c2, (hc _ _ hl).trans c3, (hc _ _ hl).trans c4, (hc _ _ hl).trans c5, (hc _ _ hl).trans c6, (hc _ _ hl).trans c7⟩
 clear c0 c1 c2 c3 c4 c5 c6 c7
 have hk0 : KTab W0 := hk.below hB
 have wB : ∀ wx, Below W0.heap.size W0 wx → Calls Tryz.prog 120 #[.slice (some ⟨b, off, none⟩) 64 cap] wx fun e w' => e = .returned (.agg (row .u32 (wordsL z 16))) ∧ Below W0.heap.size W0 w' ∧ Below wx.heap.size wx w' := fun wx hx =>
  (words_any b off cap z wx hcap hcap2 (fun j hj => ((hB.trans (hx.mono hB.size)).cell (p := ⟨b, off + j, none⟩) hb).trans (hcell j hj))).mono fun e w' ⟨h1, h2⟩ => ⟨h1, hx.trans (h2.mono hx.size), h2⟩
 have sB : ∀ wx, Below W0.heap.size W0 wx → Calls Tryz.prog 119 #[.agg (row .u32 (wordsL z 16))] wx fun e w' => e = .returned (.agg (row .u32 (sched (wordsL z 16) 48))) ∧ Below W0.heap.size W0 w' ∧ Below wx.heap.size wx w' := fun wx hx =>
  (spread_any (wordsL z 16) wx (wordsL_length _ _)).mono fun e w' ⟨h1, h2⟩ => ⟨h1, hx.trans (h2.mono hx.size), h2⟩
 have mB : ∀ wx, Below W0.heap.size W0 wx → Calls Tryz.prog 118 #[.agg #[.int .u32 s0, .int .u32 s1, .int .u32 s2, .int .u32 s3, .int .u32 s4, .int .u32 s5, .int .u32 s6, .int .u32 s7], .agg (row .u32 (sched (wordsL z 16) 48))] wx fun e w' => e = .returned (.agg #[.int .u32 r0, .int .u32 r1, .int .u32 r2, .int .u32 r3, .int .u32 r4, .int .u32 r5, .int .u32 r6, .int .u32 r7]) ∧ Below W0.heap.size W0 w' ∧ Below wx.heap.size wx w' := fun wx hx =>
  (mx wx (hk0.below hx)).mono fun e w' ⟨h1, h2⟩ => ⟨h1, hx.trans (h2.mono hx.size), h2⟩
 have hsl : w.heap.size + 2 ≤ W0.heap.size := by omega
 clear hk mx hcell hsz hws
 go_cut [5] (fun v wx => ∃ X, v = .pointer (some ⟨X, 0, none⟩) ∧ W0.heap.size ≤ X ∧ Below W0.heap.size W0 wx ∧ Holds wx X .u32 158 [r0, r1, r2, r3, r4, r5, r6, r7])
 case first =>
  go_region_held3 (fun w' => w'.cell? ⟨w.heap.size, 0, none⟩ = some (.int .u32 s0) ∧ w'.cell? ⟨w.heap.size, 1, none⟩ = some (.int .u32 s1) ∧ w'.cell? ⟨w.heap.size, 2, none⟩ = some (.int .u32 s2) ∧ w'.cell? ⟨w.heap.size, 3, none⟩ = some (.int .u32 s3) ∧
   w'.cell? ⟨w.heap.size, 4, none⟩ = some (.int .u32 s4) ∧ w'.cell? ⟨w.heap.size, 5, none⟩ = some (.int .u32 s5) ∧ w'.cell? ⟨w.heap.size, 6, none⟩ = some (.int .u32 s6) ∧ w'.cell? ⟨w.heap.size, 7, none⟩ = some (.int .u32 s7))
   ((refine hkeep _ ?_; first | with_reducible exact hbw1 | with_reducible exact hbw2 | with_reducible exact hbw3 | with_reducible exact hbw1.alloc hbw1.size _ | with_reducible exact hbw2.alloc hbw2.size _ | with_reducible exact hbw3.alloc hbw3.size _ | with_reducible exact below8 hbw3 hXg _ _ _ _ _ _ _ _ | with_reducible exact (Below.refl _ _).drew | with_reducible exact ((Below.refl _ _).alloc (Nat.le_refl _) _).drew))
   (first
   | (go_at_call 120; with_reducible refine (wB (World.drew (World.alloc _ _)) ?_).mono ?_; exact ((Below.refl _ _).alloc (Nat.le_refl _) _).drew; rintro e w1 ⟨rfl, hbw1, hb1⟩; have HX := (Holds.new W0 .u32 158 (List.replicate 8 0)).drew.below hb1 (by simp); have hXg : W0.heap.size ≤ W0.heap.size := Nat.le_refl _)
   | (go_at_call 120; refine (wB _ ?_).mono ?_; with_reducible exact (Below.refl _ _).drew; rintro e w1 ⟨rfl, hbw1, hb1⟩)
   | (go_at_call 119; with_reducible refine (sB (World.alloc _ _) ?_).mono ?_; exact hbw1.alloc hbw1.size _; rintro e w2 ⟨rfl, hbw2, hb2⟩; have HX := (Holds.new w1 .u32 158 (List.replicate 8 0)).below hb2 (by simp); have hXg : W0.heap.size ≤ w1.heap.size := hbw1.size)
   | (go_at_call 119; with_reducible refine (sB _ ?_).mono ?_; exact hbw1; rintro e w2 ⟨rfl, hbw2, hb2⟩; try have HX := HX.below hb2 HX.lt)
   | (go_at_call 118; with_reducible refine (mB (World.alloc _ _) ?_).mono ?_; exact hbw2.alloc hbw2.size _; rintro e w3 ⟨rfl, hbw3, hb3⟩; have HX := (Holds.new w2 .u32 158 (List.replicate 8 0)).below hb3 (by simp); have hXg : W0.heap.size ≤ w2.heap.size := hbw2.size; obtain ⟨⟨x0, x1, x2, x3, x4, x5, x6, x7⟩, xf⟩ := facts8 HX)
   | (go_at_call 118; with_reducible refine (mB _ ?_).mono ?_; exact hbw2; rintro e w3 ⟨rfl, hbw3, hb3⟩; try (have HX := HX.below hb3 HX.lt; obtain ⟨⟨x0, x1, x2, x3, x4, x5, x6, x7⟩, xf⟩ := facts8 HX)))
  all_goals go_wp2_with fail
  all_goals go_meet
  all_goals first
   | exact ⟨_, rfl, hbw3.size, hbw3.alloc hbw3.size _, Holds.new w3 .u32 158 [r0, r1, r2, r3, r4, r5, r6, r7]⟩
   | exact ⟨_, rfl, hXg, below8 hbw3 hXg _ _ _ _ _ _ _ _, holds8 HX _ _ _ _ _ _ _ _⟩
 case rest =>
  obtain ⟨X, rfl, hX, hBx, hHx⟩ := hcut
  have hs0 : Holds wc w.heap.size .u32 158 [s0, s1, s2, s3, s4, s5, s6, s7] := h0.below hBx (by omega)
  have hs1 : Holds wc (w.heap.size + 1) .u32 158 (List.replicate 8 0) := h1.below hBx (by omega)
  have hBw : Below w.heap.size w wc := hB.trans (hBx.mono (by omega))
  have hXl : w.heap.size + 2 ≤ X := by omega
  clear h0 h1 hBx hB wB sB mB hkeep hk0 hX hsl
  go_wp2
  go_loopw [16] (fun i wr => ∃ k : Nat, k ≤ 8 ∧ i = .int .i64 k ∧ Below w.heap.size w wr ∧ Holds wr w.heap.size .u32 158 [s0, s1, s2, s3, s4, s5, s6, s7] ∧ Holds wr (w.heap.size + 1) .u32 158 (List.replicate 8 0)
      ∧ Holds wr X .u32 158 (addK [r0, r1, r2, r3, r4, r5, r6, r7] [s0, s1, s2, s3, s4, s5, s6, s7] k)) (fun i _ => 8 - (intOf i).toNat)
  case atStart => exact ⟨0, by omega, rfl, hBw, hs0, hs1, by rw [addK_zero _ _ rfl]; exact hHx⟩
  case round =>
   clear hs0 hs1 hBw hHx
   obtain ⟨k, hk8, rfl, hBr, hs0, hs1, hHr⟩ := hrel
   by_cases hlt : k < 8
   · have cx := hHr.cell k (by rw [addK_length]; exact hlt)
     rw [addK_get _ _ _ _ hlt, if_neg (by omega)] at cx
     have cs := hs0.cell k hlt
     have fx := hHr.frozen k
     have hst := addK_set [r0, r1, r2, r3, r4, r5, r6, r7] [s0, s1, s2, s3, s4, s5, s6, s7] k
     obtain ⟨RK, hRK⟩ : ∃ v, [r0, r1, r2, r3, r4, r5, r6, r7][k]?.getD 0 = v := ⟨_, rfl⟩
     obtain ⟨SK, hSK⟩ : ∃ v, [s0, s1, s2, s3, s4, s5, s6, s7][k]?.getD 0 = v := ⟨_, rfl⟩
     rw [hRK] at cx hst
     rw [hSK] at cs hst
     have HST : Hid ((addK [r0, r1, r2, r3, r4, r5, r6, r7] [s0, s1, s2, s3, s4, s5, s6, s7] k).set k ((RK + SK) % 4294967296) = addK [r0, r1, r2, r3, r4, r5, r6, r7] [s0, s1, s2, s3, s4, s5, s6, s7] (k + 1)) := hst
     clear hRK hSK hst
     go_wp2
     go_region
     all_goals go_wp2
     all_goals go_roundw
     case rel =>
      refine ⟨k + 1, by omega, by go_num, (below_drewN hBr 1).setCell (by simp; omega) _, (hs0.drew).setOther _ _ (by simp; omega), (hs1.drew).setOther _ _ (by simp; omega), ?_⟩
      have := hHr.drew.set k ((RK + SK) % 4294967296)
      rw [HST.out] at this
      exact this
     case measure => simp [intOf]; omega
   · obtain rfl : k = 8 := by omega
     rw [addK_eight] at hHr
     have hl : (addL [r0, r1, r2, r3, r4, r5, r6, r7] [s0, s1, s2, s3, s4, s5, s6, s7]).length = 8 := by simp [addL]
     go_wp2_with (first | (refine wpList_ld rfl 158 _ rfl _ rfl hHr Tryz.underlying158 sizeSt hl ?_) | (refine wpList_st rfl 158 _ _ rfl _ rfl rfl hs1 (by rw [hl]; exact sizeSt) (by simp [hl]) ?_))
     refine bodyPost_ret (results_holds (Tryz.results109) _ rfl (hs1.setRow _) Tryz.underlying158 sizeSt hl) rfl ⟨?_, ?_⟩
     · unfold stepL; rw [HR.out]
     · exact below_setRow hBr (by omega) _
theorem heap8 {w : World} {g b : Nat} (v0 v1 v2 v3 v4 v5 v6 v7 : Value) (h : b ≠ g) :
    ((((((((w.setCell ⟨g, 0, none⟩ v0).setCell ⟨g, 1, none⟩ v1).setCell ⟨g, 2, none⟩ v2).setCell ⟨g, 3, none⟩ v3).setCell ⟨g, 4, none⟩ v4).setCell ⟨g, 5, none⟩ v5).setCell ⟨g, 6, none⟩ v6).setCell ⟨g, 7, none⟩ v7).heap[b]? = w.heap[b]? := by
 rw [heap_setCell_other _ _ _ _ h, heap_setCell_other _ _ _ _ h, heap_setCell_other _ _ _ _ h, heap_setCell_other _ _ _ _ h, heap_setCell_other _ _ _ _ h, heap_setCell_other _ _ _ _ h, heap_setCell_other _ _ _ _ h, heap_setCell_other _ _ _ _ h]
theorem holds8' {w : World} {g : Nat} {t : TypeId} {s0 s1 s2 s3 s4 s5 s6 s7 : Int} (h : Holds w g .u32 t [s0, s1, s2, s3, s4, s5, s6, s7]) (r0 r1 r2 r3 r4 r5 r6 r7 : Int) :
    Holds ((((((((w.setCell ⟨g, 0, none⟩ (.int .u32 r0)).setCell ⟨g, 1, none⟩ (.int .u32 r1)).setCell ⟨g, 2, none⟩ (.int .u32 r2)).setCell ⟨g, 3, none⟩ (.int .u32 r3)).setCell ⟨g, 4, none⟩ (.int .u32 r4)).setCell ⟨g, 5, none⟩ (.int .u32 r5)).setCell ⟨g, 6, none⟩ (.int .u32 r6)).setCell ⟨g, 7, none⟩ (.int .u32 r7)) g .u32 t [r0, r1, r2, r3, r4, r5, r6, r7] :=
 (((((((h.set 0 r0).set 1 r1).set 2 r2).set 3 r3).set 4 r4).set 5 r5).set 6 r6).set 7 r7
theorem holdsOther8 {w : World} {g b : Nat} {k : IntKind} {t : TypeId} {l : List Int} (h : Holds w b k t l) (v0 v1 v2 v3 v4 v5 v6 v7 : Value) (hne : b ≠ g) :
    Holds ((((((((w.setCell ⟨g, 0, none⟩ v0).setCell ⟨g, 1, none⟩ v1).setCell ⟨g, 2, none⟩ v2).setCell ⟨g, 3, none⟩ v3).setCell ⟨g, 4, none⟩ v4).setCell ⟨g, 5, none⟩ v5).setCell ⟨g, 6, none⟩ v6).setCell ⟨g, 7, none⟩ v7) b k t l := by
 unfold Holds at h ⊢; rw [heap8 _ _ _ _ _ _ _ _ hne]; exact h
theorem facts8' {w : World} {g : Nat} {t : TypeId} {s0 s1 s2 s3 s4 s5 s6 s7 : Int} (h : Holds w g .u32 t [s0, s1, s2, s3, s4, s5, s6, s7]) :
    (w.cell? ⟨g, 0, none⟩ = some (.int .u32 s0) ∧ w.cell? ⟨g, 1, none⟩ = some (.int .u32 s1) ∧ w.cell? ⟨g, 2, none⟩ = some (.int .u32 s2) ∧ w.cell? ⟨g, 3, none⟩ = some (.int .u32 s3) ∧
     w.cell? ⟨g, 4, none⟩ = some (.int .u32 s4) ∧ w.cell? ⟨g, 5, none⟩ = some (.int .u32 s5) ∧ w.cell? ⟨g, 6, none⟩ = some (.int .u32 s6) ∧ w.cell? ⟨g, 7, none⟩ = some (.int .u32 s7)) ∧ ∀ j, w.frozen? ⟨g, j, none⟩ = false :=
 ⟨⟨h.cell 0 (by simp), h.cell 1 (by simp), h.cell 2 (by simp), h.cell 3 (by simp), h.cell 4 (by simp), h.cell 5 (by simp), h.cell 6 (by simp), h.cell 7 (by simp)⟩, h.frozen⟩
theorem run_index_row {P : Program} (w : World) (t e : TypeId) (n : Nat) (kd : IntKind) (l : List Int) (k : Nat) (hu : P.underlying t = some (.array n e)) (hue : P.underlying e = some (.int kd)) (hi : (P.info? e).map (·.size) = some 1) (hl : l.length = n) (hk : k < n) :
    (Instr.index t (.agg (row kd l)) (.int .i64 k)).run P w = .ok (.int kd (l[k]?.getD 0)) w := by
 cases hq : P.info? e with
 | none => simp [hq] at hi
 | some i =>
  have hs : i.size = 1 := by simpa [hq] using hi
  have hg := row_get kd l k (by omega)
  simp [Instr.index, asIntOf, run_underlying hu, sizeOf, typeInfo, hq, hs, hk, part, isAgg, run_underlying hue, hg]
theorem joined_any (s : List Int) (w : World) (hs : s.length = 8) :
    Calls Tryz.prog 110 #[.agg (row .u32 s)] w fun e w' => e = .returned (.agg (row .u8 (joinL s))) ∧ Below w.heap.size w w' := by
 have hb0 : ∀ o o', Holds (((w.alloc (.cells (row .u32 s) 158)).alloc o).alloc o') w.heap.size .u32 158 s := fun o o' => ((Holds.new w .u32 158 s).alloc o).alloc o'
 go_enter Tryz.func110, Tryz.ntmps110
 go_wp2_with (refine wpList_ld rfl 158 _ rfl _ rfl (hb0 _ _) Tryz.underlying158 sizeSt hs ?_)
 refine forget (p := fun x => Code.wp _ _ _ _ x) (fun W0 => Below w.heap.size w W0 ∧ Holds W0 (w.heap.size + 1) .u8 23 (List.replicate 32 0) ∧ Holds W0 (w.heap.size + 1 + 1) .u8 23 (List.replicate 32 0)) ⟨(((Below.refl _ _).alloc (Nat.le_refl _) _).alloc (by simp) _).alloc (by simp; omega) _, ?_, ?_⟩ ?_
 · have hn := Holds.new (w.alloc (.cells (row .u32 s) 158)) .u8 23 (List.replicate 32 0)
   rw [World.size_alloc] at hn
   exact hn.alloc _
 · have hn := Holds.new ((w.alloc (.cells (row .u32 s) 158)).alloc (.cells (row .u8 (List.replicate 32 0)) 23)) .u8 23 (List.replicate 32 0)
   rw [World.size_alloc, World.size_alloc] at hn
   exact hn
 clear hb0
 rintro W0 ⟨hB, h1, h2⟩
 go_loopw [8] (fun i wr => ∃ k : Nat, k ≤ 8 ∧ i = .int .i64 k ∧ Below w.heap.size w wr ∧ Holds wr (w.heap.size + 1) .u8 23 (List.replicate 32 0) ∧ Holds wr (w.heap.size + 1 + 1) .u8 23 (joinK s k ++ List.replicate (32 - 4 * k) 0))
  (fun i _ => 8 - (intOf i).toNat)
 case atStart => exact ⟨0, by omega, rfl, hB, h1, h2⟩
 case round =>
  clear hB h1 h2 W0
  obtain ⟨k, hk, rfl, hB, h1, h2⟩ := hrel
  by_cases hlt : k < 8
  · have hix : ∀ wx, (Instr.index 158 (.agg (row .u32 s)) (.int .i64 k)).run Tryz.prog wx = .ok (.int .u32 (s[k]?.getD 0)) wx := fun wx => run_index_row wx 158 31 8 .u32 s k Tryz.underlying158 Tryz.underlying31 size1u32 hs hlt
    have hstep : joinK s (k + 1) = joinK s k ++ bytes4 (s[k]?.getD 0) := rfl
    obtain ⟨V, hV⟩ : ∃ V, s[k]?.getD 0 = V := ⟨_, rfl⟩
    rw [hV] at hix hstep
    have HS : Hid (joinK s (k + 1) = joinK s k ++ bytes4 V) := hstep
    have hln : (joinK s k ++ List.replicate (32 - 4 * k) 0).length = 32 := by rw [List.length_append, joinK_length, List.length_replicate]; omega
    have c0 := h2.cell (k * 4) (by omega)
    have c1 := h2.cell (k * 4 + 1) (by omega)
    have c2 := h2.cell (k * 4 + 2) (by omega)
    have c3 := h2.cell (k * 4 + 3) (by omega)
    have hff := h2.frozen
    clear hV hstep hln
    go_wp2
    go_roundw
    case rel =>
     refine ⟨k + 1, by omega, by go_num, (((hB.setCell (by simp; omega) _).setCell (by simp; omega) _).setCell (by simp; omega) _).setCell (by simp; omega) _, (((h1.setOther _ _ (by simp)).setOther _ _ (by simp)).setOther _ _ (by simp)).setOther _ _ (by simp), ?_⟩
     have := (((h2.set (k * 4) (V / 16777216 % 256)).set (k * 4 + 1) (V / 65536 % 256)).set (k * 4 + 2) (V / 256 % 256)).set (k * 4 + 3) (V % 256)
     have e := set_four (joinK s k) (32 - 4 * (k + 1)) (k * 4) (V / 16777216 % 256) (V / 65536 % 256) (V / 256 % 256) (V % 256) (by rw [joinK_length]; omega)
     rw [show 32 - 4 * k = 32 - 4 * (k + 1) + 4 by omega, e] at this
     rw [HS.out]
     exact this
    case measure => simp [intOf]; omega
  · obtain rfl : k = 8 := by omega
    have h2' : Holds wr (w.heap.size + 1 + 1) .u8 23 (joinL s) := by simpa [joinL] using h2
    clear h2
    go_wp2_with (first | (refine wpList_ld rfl 23 _ rfl _ rfl h2' Tryz.underlying23 sizeKey (joinL_length _) ?_) | (refine wpList_st rfl 23 _ _ rfl _ rfl rfl h1 (by rw [joinL_length]; exact sizeKey) (by simp [joinL_length]) ?_))
    refine bodyPost_ret (results_holds (Tryz.results110) _ rfl (h1.setRow _) Tryz.underlying23 sizeKey (joinL_length _)) rfl ⟨rfl, ?_⟩
    exact below_setRow hB (by omega) _
open Go
def padSize (n : Nat) : Nat := (n + 8) / 64 * 64 + 64
def lenByte (n i : Nat) : Int := (n : Int) * 8 / 2 ^ (8 * i) % 256
def lenTail (n : Nat) : Nat → List Int
 | 0 => []
 | k + 1 => lenByte n k :: lenTail n k
theorem lenTail_length (n k : Nat) : (lenTail n k).length = k := by
 induction k with
 | zero => rfl
 | succ k ih => simp [lenTail, ih]
def padK (z : List Int) (k : Nat) : List Int := (z ++ [128] ++ List.replicate (padSize z.length - z.length - 9) 0) ++ List.replicate (8 - k) 0 ++ lenTail z.length k
def padL (z : List Int) : List Int := padK z 8
theorem padSize_ge (n : Nat) : n + 9 ≤ padSize n := by unfold padSize; omega
theorem padK_length (z : List Int) (k : Nat) (h : k ≤ 8) : (padK z k).length = padSize z.length := by
 have := padSize_ge z.length
 simp only [padK, List.length_append, List.length_replicate, lenTail_length, List.length_cons, List.length_nil]; omega
theorem padL_length (z : List Int) : (padL z).length = padSize z.length := padK_length z 8 (by omega)
theorem set_last (p t : List Int) (r : Nat) (v : Int) : (p ++ List.replicate (r + 1) 0 ++ t).set (p.length + r) v = p ++ List.replicate r 0 ++ (v :: t) := by
 rw [List.append_assoc, List.set_append_right _ _ (by omega), show p.length + r - p.length = r by omega, List.replicate_succ', List.append_assoc, List.set_append_right _ _ (by simp)]
 simp
theorem padK_set (z : List Int) (k : Nat) (h : k < 8) : (padK z k).set (padSize z.length - 1 - k) (lenByte z.length k) = padK z (k + 1) := by
 have hg := padSize_ge z.length
 have e := set_last (z ++ [128] ++ List.replicate (padSize z.length - z.length - 9) 0) (lenTail z.length k) (8 - (k + 1)) (lenByte z.length k)
 simp only [List.length_append, List.length_replicate, List.length_cons, List.length_nil] at e
 unfold padK
 rw [show 8 - k = 8 - (k + 1) + 1 by omega, show padSize z.length - 1 - k = z.length + (0 + 1) + (padSize z.length - z.length - 9) + (8 - (k + 1)) by omega, e]
 rfl
theorem padK_zero (z : List Int) : (z ++ List.replicate (padSize z.length - z.length) 0).set z.length 128 = padK z 0 := by
 have hg := padSize_ge z.length
 rw [show padSize z.length - z.length = (padSize z.length - z.length - 1) + 1 by omega, set_next]
 simp only [padK, lenTail, List.append_nil, List.append_assoc, List.replicate_append_replicate]
 rw [show padSize z.length - z.length - 9 + (8 - 0) = padSize z.length - z.length - 1 by omega]
theorem lenTail_get (n m k : Nat) (h : k < m) : (lenTail n m)[k]?.getD 0 = lenByte n (m - 1 - k) := by
 induction m generalizing k with
 | zero => omega
 | succ m ih =>
  cases k with
  | zero => simp [lenTail]
  | succ k => simp only [lenTail, List.getElem?_cons_succ]; rw [ih k (by omega)]; congr 1; omega
theorem take_next (l : List Int) (k : Nat) (h : k < l.length) : l.take (k + 1) = l.take k ++ [l[k]?.getD 0] := by
 rw [List.take_succ_eq_append_getElem h, List.getElem?_eq_getElem h]; rfl
def blk (p : List Int) (i : Nat) : List Int := (p.drop (64 * i)).take 64
theorem blk_get (p : List Int) (i j : Nat) (h : j < 64) : (blk p i)[j]?.getD 0 = p[64 * i + j]?.getD 0 := by
 simp [blk, h]
def foldB (p : List Int) (l : List Nat) (s : List Int) : List Int := l.foldl (fun s i => stepL s (blk p i)) s
theorem foldB_snoc (p : List Int) (l : List Nat) (i : Nat) (s : List Int) : foldB p (l ++ [i]) s = stepL (foldB p l s) (blk p i) := by simp [foldB]
theorem startL_in : InU startL := by
 intro x hx
 simp only [startL, List.mem_cons, List.not_mem_nil, or_false] at hx
 omega
theorem foldB_length (p : List Int) (l : List Nat) (s : List Int) (h : s.length = 8) : (foldB p l s).length = 8 := by
 induction l generalizing s with
 | nil => exact h
 | cons a l ih => exact ih _ (stepL_length _ _)
theorem foldB_in (p : List Int) (l : List Nat) (s : List Int) (h : InU s) : InU (foldB p l s) := by
 induction l generalizing s with
 | nil => exact h
 | cons a l ih => exact ih _ (stepL_in _ _)
def sumS (z : List Int) : List Int := foldB (padL z) (List.range (padSize z.length / 64)) startL
def sumL (z : List Int) : List Int := joinL (sumS z)
theorem sumS_length (z : List Int) : (sumS z).length = 8 := foldB_length _ _ _ rfl
theorem sumL_length (z : List Int) : (sumL z).length = 32 := joinL_length _
end Go.Proofs.YtflkhkmejnpapaaGreatDoor.S
