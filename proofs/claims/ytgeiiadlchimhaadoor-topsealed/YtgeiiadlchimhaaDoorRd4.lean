/- The readers of wire: what was filled up. -/
import Derived.Test.YtgeiiadlchimhaaDoorMRd1Rd2Rd3
import Derived.Test.YtgeiiadlchimhaaDoorWpad
namespace Go.Proofs.YtgeiiadlchimhaaDoor
open Go.RowKit
set_option maxRecDepth 20000
set_option linter.unusedSimpArgs false

/-- The length that bytes tell that were filled up. -/
def toldN (z : List Int) : Nat := (val2 (z[0]?.getD 0) (z[1]?.getD 0)).toNat
/-- Bytes that were filled up. -/
def unpadOk (z : List Int) : Prop := 2 ≤ z.length ∧ bucketN (toldN z) = (z.length : Int) ∧ ∀ j, j < z.length - (2 + toldN z) → (z.drop (2 + toldN z))[j]?.getD 0 = 0
def unpadL (z : List Int) : List Int := (z.drop 2).take (toldN z)
theorem told_val (z : List Int) (hz : ∀ v ∈ z, b8 v) : val2 (z[0]?.getD 0) (z[1]?.getD 0) = (toldN z : Int) ∧ toldN z ≤ 65535 := by
  have h0 := b8_get hz 0
  have h1 := b8_get hz 1
  unfold toldN val2
  omega
set_option maxHeartbeats 4000000 in
theorem padded_any (R base : Nat) (z : List Int) (w : World) (hR : Rd w R base z) (hT : ∀ wx, Below base w wx → BTab wx) (hz : ∀ v ∈ z, b8 v) (hl : z.length ≤ 1000000) :
    Calls Tryd.prog 20 #[.pointer (some ⟨R, 0, none⟩)] w fun e w' =>
      (unpadOk z ∧ ∃ v, e = .returned v ∧ OwnB w' base v (unpadL z) ∧ Rd w' R base [] ∧ Took w w' R base) ∨ (¬ unpadOk z ∧ e = .panicked [wrongP] ∧ Took w w' R base) := by
  obtain ⟨hv, hlt⟩ := told_val z hz
  obtain ⟨s, hs, hs'⟩ := bucketN_in (toldN z)
  have HOK : Veil (unpadOk z ↔ (2 ≤ z.length ∧ s = z.length ∧ ∀ j, j < z.length - (2 + toldN z) → (z.drop (2 + toldN z))[j]?.getD 0 = 0)) := ⟨by
    unfold unpadOk; rw [hs]; constructor
    · rintro ⟨h1, h2, h3⟩; exact ⟨h1, by omega, h3⟩
    · rintro ⟨h1, h2, h3⟩; exact ⟨h1, by omega, h3⟩⟩
  have h2 := rtwo_any R base z w hR hz
  rw [hv] at h2
  have HU : Veil (unpadL z = (z.drop 2).take (toldN z)) := ⟨rfl⟩
  obtain ⟨U, hU⟩ : ∃ q, unpadL z = q := ⟨_, rfl⟩
  rw [hU] at HU ⊢
  obtain ⟨OK, hOK⟩ : ∃ q, unpadOk z = q := ⟨_, rfl⟩
  rw [hOK] at HOK ⊢
  obtain ⟨L, hL⟩ : ∃ q, toldN z = q := ⟨_, rfl⟩
  rw [hL] at h2 hs hs' HOK HU hlt
  have hbk := fun wx (h : Below base w wx) => bucket_any (L : Int) wx (hT wx h)
  rw [hs] at hbk
  have hge := hR.ge
  obtain ⟨x, n, c, hbx, hby⟩ := hR.has
  have hn := (hby w (Below.refl _ _)).len_eq
  have HN : Veil (n = z.length) := ⟨hn⟩
  have hcl := hbx.cell
  have hle := (hby w (Below.refl _ _)).le
  have htp := (hby w (Below.refl _ _)).top
  have hnl : n ≤ 1000000 := by omega
  have hok := fun wx => need_ok wx
  have hbad := fun wx => need_bad wx
  clear hR hbx hby hn hU hOK hL hv hT hs hz
  go_enter Tryd.func20, Tryd.ntmps20
  go_upto_region 3 with (go_at_call 32; refine h2.mono ?_; rintro e w1 (⟨hk, rfl, hR1, ht1⟩ | ⟨hk, rfl, ht1⟩))
  rotate_left
  · exact bodyPost_gone (.inr ⟨fun h => by have := (HOK.out.1 h).1; omega, rfl, ht1⟩)
  have hk1 := hbk w1 ht1.below
  clear h2 hcl
  by_cases hsn : s = n
  · subst hsn
    have hLs : L + 2 ≤ s := by have := HN.out; omega
    go_upto_region 4 with (first
      | (go_at_call 10; refine hk1.mono ?_; rintro e w2 ⟨rfl, rfl⟩)
      | (go_at_call 31; refine (hok _).mono ?_; rintro e w2 ⟨⟨r2, rfl⟩, rfl⟩))
    have htk := take_any R base (z.drop 2) L w1 hR1
    have hld : (z.drop 2).length = s - 2 := by rw [List.length_drop, HN.out]
    have HLD : Veil ((z.drop 2).length = s - 2) := ⟨hld⟩
    clear hk1 hR1 hld hbk hbad
    go_upto_region 5 with (first
      | (go_at_call 34; refine htk.mono ?_; rintro e w2 (⟨hk2, x2, rfl, hy2, hR2, ht2⟩ | ⟨hk2, _⟩); rotate_left; (exfalso; have := HLD.out; omega); have hcn := clone_any x2 L L ((z.drop 2).take L) w2 (hy2 w2 (Below.refl _ _)) (by omega))
      | (go_at_call 33; refine hcn.mono ?_; rintro e w3 ⟨v3, rfl, ho3, hb3⟩))
    have hR3 := hR2.afar hb3
    have ht3 := (ht1.trans ht2).trans (Took.afar hR2.size hb3)
    have hO3 := ho3.lessG (base' := base) hR2.size
    rw [← HU.out] at hO3
    have hdd : (z.drop 2).drop L = z.drop (2 + L) := by rw [List.drop_drop]
    rw [hdd] at hR3
    obtain ⟨x4, n4, c4, hbx4, hby4⟩ := hR3.has
    have hcl4 := hbx4.cell
    have hn4 := (hby4 w3 (Below.refl _ _)).len_eq
    have hle4 := (hby4 w3 (Below.refl _ _)).le
    have htp4 := (hby4 w3 (Below.refl _ _)).top
    have hnn4 : n4 = s - (2 + L) := by rw [hn4, List.length_drop, HN.out]
    have HN4 : Veil (n4 = (z.drop (2 + L)).length ∧ n4 = s - (2 + L)) := ⟨hn4, hnn4⟩
    have hn4b : n4 ≤ 1000000 := by omega
    have hzr := rzeros_any R base (z.drop (2 + L)) n4 w3 hR3 hn4b
    clear hn4 hnn4 hby4 hdd ho3 hR3 hR2 htk hy2 hb3
    go_upto_region 6 with (go_at_call 35; refine hzr.mono ?_; rintro e w4 (⟨hk4, ⟨r4, rfl⟩, hR4, ht4⟩ | ⟨hk4, rfl, ht4⟩))
    rotate_left
    · exact bodyPost_gone (.inr ⟨fun h => hk4 ⟨by rw [HN4.out.1]; exact Nat.le_refl _, fun j hj => (HOK.out.1 h).2.2 j (by have := HN.out; have := HN4.out.2; omega)⟩, rfl, ht3.trans ht4⟩)
    have hO4 := hO3.took hbx4 ht4
    obtain ⟨xq, nq, cq, rfl, _⟩ := hO4.isSlice
    rw [HN4.out.1, List.drop_of_length_le (Nat.le_refl _)] at hR4
    have HOK4 : Veil (∀ j, j < s - (2 + L) → (z.drop (2 + L))[j]?.getD 0 = 0) := ⟨fun j hj => hk4.2 j (by rw [HN4.out.2]; exact hj)⟩
    clear hzr hk4 hbx4 hcl4 hO3
    go_wp2
    go_ret
    refine .inl ⟨HOK.out.2 ⟨hk, HN.out, fun j hj => HOK4.out j (by have := HN.out; omega)⟩, _, rfl, hO4, hR4, ht3.trans ht4⟩
  · have hsb : ((s : Int) == (n : Int)) = false := by simp; omega
    go_upto_region 4 with (first
      | (go_at_call 10; refine hk1.mono ?_; rintro e w2 ⟨rfl, rfl⟩)
      | (go_at_call 31; refine (hbad _).mono ?_; rintro e w2 ⟨rfl, rfl⟩))
    exact bodyPost_gone (.inr ⟨fun h => hsn (by rw [(HOK.out.1 h).2.1, HN.out]), rfl, ht1⟩)
end Go.Proofs.YtgeiiadlchimhaaDoor
