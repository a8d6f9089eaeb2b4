/- The table of buckets; 'Bucket'. 'Pad' of wire. The readers of wire: what was filled up. -/
import Derived.Test.YtfainlfiphdaeaaGreatDoorMRd3Wr2Wr3
import Derived.Test.YtfainlfiphdaeaaGreatDoorMRe3Wr5Wr6
import Derived.Test.YtfainlfiphdaeaaGreatDoorMWr4Re1Re2
namespace Go.Proofs.YtfainlfiphdaeaaGreatDoor
open Go.RowKit
set_option maxRecDepth 20000
set_option linter.unusedSimpArgs false

def bTab : List Int := [128, 256, 512, 1024, 2048, 4096]
/-- The table of buckets lies as its initialiser lays it. -/
def BTab (w : World) : Prop := w.rangeAt 0 0 (bTab.map (Value.int .i64))
theorem BTab.below {w w' : World} (h : BTab w) (hb : Below w.heap.size w w') : BTab w' := fun j v hv => by
  have := h j v hv
  rw [hb.cell (p := ⟨0, 0 + j, none⟩) (block_lt_of_cell this)]; exact this
def bktL (n : Int) : List Int → Int
  | [] => 0
  | b :: l => if n ≤ b - 2 then b else bktL n l
def bucketN (n : Int) : Int := if n < 0 then 0 else bktL n bTab
theorem bkt_step (n : Int) (j : Nat) (hj : j < 6) : bktL n (bTab.drop j) = if n ≤ bTab[j]?.getD 0 - 2 then bTab[j]?.getD 0 else bktL n (bTab.drop (j + 1)) := by
  have hj' : j < bTab.length := hj
  rw [List.drop_eq_getElem_cons hj', List.getElem?_eq_getElem hj']
  rfl
theorem bTab_in (j : Nat) (hj : j < 6) : 128 ≤ bTab[j]?.getD 0 ∧ bTab[j]?.getD 0 ≤ 4096 := by
  have hic : j = 0 ∨ j = 1 ∨ j = 2 ∨ j = 3 ∨ j = 4 ∨ j = 5 := by omega
  rcases hic with rfl | rfl | rfl | rfl | rfl | rfl <;> decide
theorem size6 : (Tryz.prog.info? 180).map (·.size) = some (bTab.map (Value.int .i64)).length := by kernel_rfl
set_option maxHeartbeats 2000000 in
theorem bucket_any (n : Int) (w : World) (hT : BTab w) :
    Calls Tryz.prog 101 #[.int .i64 n] w fun e w' => e = .returned (.int .i64 (bucketN n)) ∧ w = w' := by
  by_cases hn : n < 0
  · have e0 : bucketN n = 0 := by unfold bucketN; rw [if_pos hn]
    rw [e0]
    clear e0 hT
    go_enter Tryz.func101, Tryz.ntmps101
    go_wp2
    go_ret
    exact ⟨rfl, rfl⟩
  · have e0 : bucketN n = bktL n bTab := by unfold bucketN; rw [if_neg hn]
    rw [e0]
    clear e0
    obtain ⟨R, hR⟩ : ∃ q, bktL n bTab = q := ⟨_, rfl⟩
    have HR : Veil (bktL n (bTab.drop 0) = R) := ⟨hR⟩
    rw [hR]
    clear hR
    go_enter Tryz.func101, Tryz.ntmps101
    go_wp2_with (refine wpList_ldv rfl 180 _ rfl 0 0 rfl (bTab.map (Value.int .i64)) hT Tryz.underlying180 rfl size6 ?_)
    go_loopw [8] (fun q wr => ∃ j : Nat, j ≤ 6 ∧ q = .int .i64 j ∧ Veil (bktL n (bTab.drop j) = R) ∧ wr = w) (fun q _ => 6 - (intOf q).toNat)
    case atStart => exact ⟨0, by omega, rfl, HR, rfl⟩
    case round =>
      clear HR
      obtain ⟨j, hj, rfl, HJ, rfl⟩ := hrel
      by_cases hlt : j < 6
      · have hix : ∀ wx, (Instr.index 180 (.agg (bTab.map (Value.int .i64)).toArray) (.int .i64 (j : Nat))).run Tryz.prog wx = .ok (.int .i64 (bTab[j]?.getD 0)) wx := fun wx => run_index_row wx 180 3 6 .i64 bTab j Tryz.underlying180 Tryz.underlying3 (by kernel_rfl) rfl hlt
        have hst := bkt_step n j hlt
        have hin := bTab_in j hlt
        obtain ⟨B, hB⟩ : ∃ q, bTab[j]?.getD 0 = q := ⟨_, rfl⟩
        rw [hB] at hix hst hin
        have hwB : IntKind.i64.wrap (B - 2) = B - 2 := by rw [IntKind.wrap_i64]; omega
        have hj6 : (j : Int) < 6 := by omega
        by_cases hnb : n ≤ B - 2
        · rw [if_pos hnb] at hst
          have hBR : B = R := by rw [← hst]; exact HJ.out
          subst hBR
          clear hst hB HJ hin
          go_wp2
          go_ret
          exact ⟨rfl, rfl⟩
        · rw [if_neg hnb] at hst
          have HJ2 : Veil (bktL n (bTab.drop (j + 1)) = R) := ⟨by rw [← hst]; exact HJ.out⟩
          clear hst hB HJ
          go_wp2
          go_roundw
          case rel => exact ⟨j + 1, by omega, by go_num, HJ2, trivial⟩
          case measure => simp [intOf]; omega
      · obtain rfl : j = 6 := by omega
        have hR0 : R = 0 := by rw [← HJ.out]; rfl
        subst hR0
        rw [show ((6 : Nat) : Int) = 6 from rfl]
        clear HJ
        go_wp2
        go_ret
        exact ⟨rfl, rfl⟩
end Go.Proofs.YtfainlfiphdaeaaGreatDoor

namespace Go.Proofs.YtfainlfiphdaeaaGreatDoor
open Go.RowKit
set_option maxRecDepth 20000
set_option linter.unusedSimpArgs false

theorem bktL_in (n : Int) : ∀ l : List Int, (∀ b ∈ l, 128 ≤ b ∧ b ≤ 4096) → bktL n l = 0 ∨ (n + 2 ≤ bktL n l ∧ 128 ≤ bktL n l ∧ bktL n l ≤ 4096)
  | [], _ => .inl rfl
  | b :: l, h => by
    unfold bktL
    by_cases hb : n ≤ b - 2
    · rw [if_pos hb]
      have := h b (by simp)
      exact .inr ⟨by omega, this.1, this.2⟩
    · rw [if_neg hb]
      exact bktL_in n l (fun x hx => h x (List.mem_cons_of_mem _ hx))
theorem bucketN_in (n : Nat) : ∃ s : Nat, bucketN n = (s : Int) ∧ (s = 0 ∨ (n + 2 ≤ s ∧ 128 ≤ s ∧ s ≤ 4096)) := by
  have h : bucketN n = bktL n bTab := by unfold bucketN; rw [if_neg (by omega)]
  rw [h]
  rcases bktL_in n bTab (by decide) with h0 | h1
  · exact ⟨0, h0, .inl rfl⟩
  · exact ⟨(bktL n bTab).toNat, by omega, .inr ⟨by omega, by omega, by omega⟩⟩
/-- Bytes that are filled up to s. -/
def padL (z : List Int) (s : Nat) : List Int := be2 z.length ++ z ++ List.replicate (s - (z.length + 2)) 0
theorem padL_length (z : List Int) (s : Nat) (h : z.length + 2 ≤ s) : (padL z s).length = s := by
  unfold padL; simp [be2]; omega
set_option maxHeartbeats 4000000 in
theorem Pad_none (x : Option Addr) (len cap : Nat) (z : List Int) (w : World) (hT : BTab w) (hb : Bytes w x len cap z) (h0 : bucketN len = 0) :
    Calls Tryz.prog 51 #[.slice x len cap] w fun e w' => e = .returned (.tuple #[.slice none 0 0, .int .i64 2]) ∧ Below w.heap.size w w' := by
  have hbk := bucket_any len w hT
  rw [h0] at hbk
  have hle := hb.le
  have htop := hb.top
  clear hb h0 hT
  go_enter Tryz.func51, Tryz.ntmps51
  go_wp2_with (go_at_call 101; refine hbk.mono ?_; rintro e w1 ⟨rfl, rfl⟩)
  go_ret2
  exact ⟨rfl, Below.refl _ _⟩
set_option maxHeartbeats 4000000 in
theorem Pad_any (x : Option Addr) (len cap : Nat) (z : List Int) (w : World) (hT : BTab w) (hb : Bytes w x len cap z) (s : Nat) (hs : bucketN len = (s : Int)) (hs1 : len + 2 ≤ s) (hs2 : s ≤ 4096) :
    Calls Tryz.prog 51 #[.slice x len cap] w fun e w' => ∃ v, e = .returned (.tuple #[v, .int .i64 0]) ∧ OwnB w' w.heap.size v (padL z s) ∧ Below w.heap.size w w' := by
  have hbk := bucket_any len w hT
  rw [hs] at hbk
  have hs0 : ¬ (s : Int) = 0 := by omega
  have hle := hb.le
  have htop := hb.top
  have HBL : Veil (z.length = len) := ⟨hb.len_eq.symm⟩
  have hbody := fun wx (h : Below w.heap.size w wx) => hb.below h
  have hbx : Box (w.alloc (.cells #[.slice none 0 0] 143)) w.heap.size 143 (.slice none 0 0) := heap_alloc_new _ _
  have hW1 : Wr (w.alloc (.cells #[.slice none 0 0] 143)) w.heap.size w.heap.size [] := ⟨Nat.le_refl _, _, hbx, OwnB.nil _ _⟩
  have hB1 : Below w.heap.size w (w.alloc (.cells #[.slice none 0 0] 143)) := (Below.refl _ _).alloc (Nat.le_refl _) _
  clear hb hs hT hbx
  go_enter Tryz.func51, Tryz.ntmps51
  go_upto_region 5 with (go_at_call 101; refine hbk.mono ?_; rintro e w1 ⟨rfl, rfl⟩)
  refine forget (p := fun y => Code.wp _ _ _ _ y) (fun W1 => Below w.heap.size w W1 ∧ Wr W1 w.heap.size w.heap.size []) ⟨hB1, hW1⟩ ?_
  clear hB1 hW1 hbk
  rintro W1 ⟨hB1, hW1⟩
  have htw := two_any w.heap.size w.heap.size [] len W1 hW1 (by simp)
  rw [List.nil_append] at htw
  go_upto_region 6 with (go_at_call 102; refine htw.mono ?_; rintro e w2 ⟨⟨r2, rfl⟩, hW2, hg2⟩)
  have hB2 : Below w.heap.size w w2 := hB1.trans hg2.below
  have hpt := put_any w.heap.size w.heap.size (be2 len) x len cap z w2 hW2 (hbody w2 hB2) (by simp [be2]; omega)
  clear htw hB1 hW1 hg2
  go_upto_region 7 with (go_at_call 103; refine hpt.mono ?_; rintro e w3 ⟨⟨r3, rfl⟩, hW3, hg3⟩)
  have hB3 : Below w.heap.size w w3 := hB2.trans hg3.below
  have hl3 : (be2 len ++ z).length = len + 2 := by rw [List.length_append, HBL.out]; simp [be2]; omega
  have hzr := wzeros_any w.heap.size w.heap.size (be2 len ++ z) (s - (len + 2)) w3 hW3 (by omega) (by omega)
  obtain ⟨v3, hb3, ho3⟩ := hW3.has
  have c3 := hb3.cell
  obtain ⟨x3, n3, k3, rfl, hn3⟩ := ho3.isSlice
  rw [hl3] at hn3
  subst hn3
  have hwr : IntKind.i64.wrap ((s : Int) - ((len + 2 : Nat) : Int)) = ((s - (len + 2) : Nat) : Int) := by rw [IntKind.wrap_i64]; omega
  obtain ⟨d, hd⟩ : ∃ q, s - (len + 2) = q := ⟨_, rfl⟩
  have HD : Veil (s - (len + 2) = d) := ⟨hd⟩
  rw [hd] at hzr hwr
  obtain ⟨m, hm⟩ : ∃ q, len + 2 = q := ⟨_, rfl⟩
  rw [hm] at hwr c3
  have hm1 : m ≤ 4096 := by omega
  clear hpt hB2 hW2 hg3 hW3 hb3 ho3 hl3 hd hs1 hm
  go_upto_region 8 with (go_at_call 104; refine hzr.mono ?_; rintro e w4 ⟨⟨r4, rfl⟩, hW4, hg4⟩)
  obtain ⟨v4, hb4, ho4⟩ := hW4.has
  have c4 := hb4.cell
  have hB4 : Below w.heap.size w w4 := hB3.trans hg4.below
  obtain ⟨x4, n4, k4, rfl, hn4⟩ := ho4.isSlice
  clear hn4 hzr hW4 hb4 hg4 hB3 c3 hwr
  go_wp2
  go_ret2
  refine ⟨_, rfl, ?_, hB4⟩
  unfold padL
  rw [HBL.out, HD.out]
  exact ho4
/-- Both ways. -/
theorem Pad_both (x : Option Addr) (len cap : Nat) (z : List Int) (w : World) (hT : BTab w) (hb : Bytes w x len cap z) (s : Nat) (hs : bucketN len = (s : Int)) (h : s = 0 ∨ (len + 2 ≤ s ∧ s ≤ 4096)) :
    Calls Tryz.prog 51 #[.slice x len cap] w fun e w' => ∃ x' n' c', e = .returned (.tuple #[.slice x' n' c', .int .i64 (if s = 0 then 2 else 0)]) ∧ Bytes w' x' n' c' (if s = 0 then [] else padL z s) ∧ Below w.heap.size w w' := by
  rcases h with rfl | ⟨h1, h2⟩
  · simp only [if_true]
    exact (Pad_none x len cap z w hT hb hs).mono fun e w' ⟨h1, h2⟩ => ⟨none, 0, 0, h1, bytes_nil _, h2⟩
  · rw [if_neg (by omega), if_neg (by omega)]
    exact (Pad_any x len cap z w hT hb s hs h1 h2).mono fun e w' ⟨v, h1, h2, h3⟩ => by
      obtain ⟨x, n, c, rfl, _⟩ := h2.isSlice
      exact ⟨x, n, c, h1, h2.bytes.2, h3⟩
end Go.Proofs.YtfainlfiphdaeaaGreatDoor

namespace Go.Proofs.YtfainlfiphdaeaaGreatDoor
open Go.RowKit
set_option maxRecDepth 20000
set_option linter.unusedSimpArgs false

/-- The length that bytes tell that were filled up. -/
def toldN (z : List Int) : Nat := (val2 (z[0]?.getD 0) (z[1]?.getD 0)).toNat
/-- Bytes that were filled up. -/
def unpadOk (z : List Int) : Prop := 2 ≤ z.length ∧ bucketN (toldN z) = (z.length : Int) ∧ ∀ j, j < z.length - (2 + toldN z) → (z.drop (2 + toldN z))[j]?.getD 0 = 0
def unpadL (z : List Int) : List Int := (z.drop 2).take (toldN z)
theorem told_val (z : List Int) (hz : ∀ v ∈ z, b8 v) : val2 (z[0]?.getD 0) (z[1]?.getD 0) = (toldN z : Int) ∧ toldN z ≤ 65535 := by
  have h0 := b8_get hz 0
  have h1 := b8_get hz 1
  unfold toldN val2
  omega
set_option maxHeartbeats 4000000 in
theorem padded_any (R base : Nat) (z : List Int) (w : World) (hR : Rd w R base z) (hT : ∀ wx, Below base w wx → BTab wx) (hz : ∀ v ∈ z, b8 v) (hl : z.length ≤ 1000000) :
    Calls Tryz.prog 127 #[.pointer (some ⟨R, 0, none⟩)] w fun e w' =>
      (unpadOk z ∧ ∃ v, e = .returned v ∧ OwnB w' base v (unpadL z) ∧ Rd w' R base [] ∧ Took w w' R base) ∨ (¬ unpadOk z ∧ e = .panicked [wrongP] ∧ Took w w' R base) := by
  obtain ⟨hv, hlt⟩ := told_val z hz
  obtain ⟨s, hs, hs'⟩ := bucketN_in (toldN z)
  have HOK : Veil (unpadOk z ↔ (2 ≤ z.length ∧ s = z.length ∧ ∀ j, j < z.length - (2 + toldN z) → (z.drop (2 + toldN z))[j]?.getD 0 = 0)) := ⟨by
    unfold unpadOk; rw [hs]; constructor
    · rintro ⟨h1, h2, h3⟩; exact ⟨h1, by omega, h3⟩
    · rintro ⟨h1, h2, h3⟩; exact ⟨h1, by omega, h3⟩⟩
  have h2 := rtwo_any R base z w hR hz
  rw [hv] at h2
  have HU : Veil (unpadL z = (z.drop 2).take (toldN z)) := ⟨rfl⟩
  obtain ⟨U, hU⟩ : ∃ q, unpadL z = q := ⟨_, rfl⟩
  rw [hU] at HU ⊢
  obtain ⟨OK, hOK⟩ : ∃ q, unpadOk z = q := ⟨_, rfl⟩
  rw [hOK] at HOK ⊢
  obtain ⟨L, hL⟩ : ∃ q, toldN z = q := ⟨_, rfl⟩
  rw [hL] at h2 hs hs' HOK HU hlt
  have hbk := fun wx (h : Below base w wx) => bucket_any (L : Int) wx (hT wx h)
  rw [hs] at hbk
  have hge := hR.ge
  obtain ⟨x, n, c, hbx, hby⟩ := hR.has
  have hn := (hby w (Below.refl _ _)).len_eq
  have HN : Veil (n = z.length) := ⟨hn⟩
  have hcl := hbx.cell
  have hle := (hby w (Below.refl _ _)).le
  have htp := (hby w (Below.refl _ _)).top
  have hnl : n ≤ 1000000 := by omega
  have hok := fun wx => need_ok wx
  have hbad := fun wx => need_bad wx
  clear hR hbx hby hn hU hOK hL hv hT hs hz
  go_enter Tryz.func127, Tryz.ntmps127
  go_upto_region 3 with (go_at_call 171; refine h2.mono ?_; rintro e w1 (⟨hk, rfl, hR1, ht1⟩ | ⟨hk, rfl, ht1⟩))
  rotate_left
  · exact bodyPost_gone (.inr ⟨fun h => by have := (HOK.out.1 h).1; omega, rfl, ht1⟩)
  have hk1 := hbk w1 ht1.below
  clear h2 hcl
  by_cases hsn : s = n
  · subst hsn
    have hLs : L + 2 ≤ s := by have := HN.out; omega
    go_upto_region 4 with (first
      | (go_at_call 101; refine hk1.mono ?_; rintro e w2 ⟨rfl, rfl⟩)
      | (go_at_call 164; refine (hok _).mono ?_; rintro e w2 ⟨⟨r2, rfl⟩, rfl⟩))
    have htk := take_any R base (z.drop 2) L w1 hR1
    have hld : (z.drop 2).length = s - 2 := by rw [List.length_drop, HN.out]
    have HLD : Veil ((z.drop 2).length = s - 2) := ⟨hld⟩
    clear hk1 hR1 hld hbk hbad
    go_upto_region 5 with (first
      | (go_at_call 173; refine htk.mono ?_; rintro e w2 (⟨hk2, x2, rfl, hy2, hR2, ht2⟩ | ⟨hk2, _⟩); rotate_left; (exfalso; have := HLD.out; omega); have hcn := clone_any x2 L L ((z.drop 2).take L) w2 (hy2 w2 (Below.refl _ _)) (by omega))
      | (go_at_call 172; refine hcn.mono ?_; rintro e w3 ⟨v3, rfl, ho3, hb3⟩))
    have hR3 := hR2.afar hb3
    have ht3 := (ht1.trans ht2).trans (Took.afar hR2.size hb3)
    have hO3 := ho3.lessG (base' := base) hR2.size
    rw [← HU.out] at hO3
    have hdd : (z.drop 2).drop L = z.drop (2 + L) := by rw [List.drop_drop]
    rw [hdd] at hR3
    obtain ⟨x4, n4, c4, hbx4, hby4⟩ := hR3.has
    have hcl4 := hbx4.cell
    have hn4 := (hby4 w3 (Below.refl _ _)).len_eq
    have hle4 := (hby4 w3 (Below.refl _ _)).le
    have htp4 := (hby4 w3 (Below.refl _ _)).top
    have hnn4 : n4 = s - (2 + L) := by rw [hn4, List.length_drop, HN.out]
    have HN4 : Veil (n4 = (z.drop (2 + L)).length ∧ n4 = s - (2 + L)) := ⟨hn4, hnn4⟩
    have hn4b : n4 ≤ 1000000 := by omega
    have hzr := rzeros_any R base (z.drop (2 + L)) n4 w3 hR3 hn4b
    clear hn4 hnn4 hby4 hdd ho3 hR3 hR2 htk hy2 hb3
    go_upto_region 6 with (go_at_call 169; refine hzr.mono ?_; rintro e w4 (⟨hk4, ⟨r4, rfl⟩, hR4, ht4⟩ | ⟨hk4, rfl, ht4⟩))
    rotate_left
    · exact bodyPost_gone (.inr ⟨fun h => hk4 ⟨by rw [HN4.out.1]; exact Nat.le_refl _, fun j hj => (HOK.out.1 h).2.2 j (by have := HN.out; have := HN4.out.2; omega)⟩, rfl, ht3.trans ht4⟩)
    have hO4 := hO3.took hbx4 ht4
    obtain ⟨xq, nq, cq, rfl, _⟩ := hO4.isSlice
    rw [HN4.out.1, List.drop_of_length_le (Nat.le_refl _)] at hR4
    have HOK4 : Veil (∀ j, j < s - (2 + L) → (z.drop (2 + L))[j]?.getD 0 = 0) := ⟨fun j hj => hk4.2 j (by rw [HN4.out.2]; exact hj)⟩
    clear hzr hk4 hbx4 hcl4 hO3
    go_wp2
    go_ret
    refine .inl ⟨HOK.out.2 ⟨hk, HN.out, fun j hj => HOK4.out j (by have := HN.out; omega)⟩, _, rfl, hO4, hR4, ht3.trans ht4⟩
  · have hsb : ((s : Int) == (n : Int)) = false := by simp; omega
    go_upto_region 4 with (first
      | (go_at_call 101; refine hk1.mono ?_; rintro e w2 ⟨rfl, rfl⟩)
      | (go_at_call 164; refine (hbad _).mono ?_; rintro e w2 ⟨rfl, rfl⟩))
    exact bodyPost_gone (.inr ⟨fun h => hsn (by rw [(HOK.out.1 h).2.1, HN.out]), rfl, ht1⟩)
end Go.Proofs.YtfainlfiphdaeaaGreatDoor
