/- Cf Cb Cg -/
import Derived.Test.YtflkhkmejnpapaaGreatDoorK10
import Derived.Test.YtflkhkmejnpapaaGreatDoorK04
import Derived.Deep.RegionWith
import Derived.Test.YtflkhkmejnpapaaGreatDoorK05
namespace Go.Proofs.YtflkhkmejnpapaaGreatDoor
open Go.RowKit
set_option maxRecDepth 20000
def wl (a b c d : Int) : Int :=
 bits .or .u32 (bits .or .u32 (bits .or .u32 (a % 4294967296) (b % 4294967296 * 256 % 4294967296)) (c % 4294967296 * 65536 % 4294967296)) (d % 4294967296 * 16777216 % 4294967296)
def wlAt (z : List Int) (i : Nat) : Int := wl (z[4 * i]?.getD 0) (z[4 * i + 1]?.getD 0) (z[4 * i + 2]?.getD 0) (z[4 * i + 3]?.getD 0)
def wlL (z : List Int) (k : Nat) : List Int := (List.range k).map (wlAt z)
theorem wlL_length (z : List Int) (k : Nat) : (wlL z k).length = k := by simp [wlL]
theorem wlL_succ (z : List Int) (k : Nat) : wlL z (k + 1) = wlL z k ++ [wlAt z k] := by simp [wlL, List.range_succ]
theorem refWord_any (b off cap : Nat) (z0 z1 z2 z3 : Int) (w : World)
    (h0 : w.cell? ⟨b, off, none⟩ = some (.int .u8 z0)) (h1 : w.cell? ⟨b, off + 1, none⟩ = some (.int .u8 z1))
    (h2 : w.cell? ⟨b, off + 2, none⟩ = some (.int .u8 z2)) (h3 : w.cell? ⟨b, off + 3, none⟩ = some (.int .u8 z3)) :
    Calls Tryz.prog 86 #[.slice (some ⟨b, off, none⟩) 4 cap] w fun e w' => e = .returned (.int .u32 (wl z0 z1 z2 z3)) ∧ ∃ n, w' = w.drewN n := by
 go_enter Tryz.func86, Tryz.ntmps86
 go_wp2
 go_quiet ((fail))
 go_wp2
 go_ret
 exact ⟨rfl, _, rfl⟩
def fillK (l z : List Int) (o k : Nat) : List Int := l.take o ++ wlL z k ++ l.drop (o + k)
theorem fillK_length (l z : List Int) (o k : Nat) (h : o + k ≤ l.length) : (fillK l z o k).length = l.length := by
 simp [fillK, wlL_length]; omega
theorem fillK_zero (l z : List Int) (o : Nat) : fillK l z o 0 = l := by simp [fillK, wlL]
theorem fillK_set (l z : List Int) (o k : Nat) (h : o + k < l.length) : (fillK l z o k).set (o + k) (wlAt z k) = fillK l z o (k + 1) := by
 have e : l.drop (o + k) = l[o + k] :: l.drop (o + k + 1) := List.drop_eq_getElem_cons h
 have hl : (l.take o ++ wlL z k).length = o + k := by simp [wlL_length]; omega
 unfold fillK
 rw [e, List.set_append_right _ _ (by omega), hl, Nat.sub_self, sZ, wlL_succ]
 simp [Nat.add_assoc]
set_option maxHeartbeats 1000000 in
theorem fill_any (g o m cap bb bn bcap : Nat) (z l : List Int) (t : TypeId) (w : World) (hg : Holds w g .u32 t l) (hom : o + m ≤ l.length) (hm : m ≤ 16) (hcap : m ≤ cap) (hcap2 : cap ≤ 1000)
    (hne : bb < g) (hbn : bn = 4 * m) (hbc : bn ≤ bcap) (hbc2 : bcap ≤ 1000) (hcell : ∀ j, j < bn → w.cell? ⟨bb, j, none⟩ = some (.int .u8 (z[j]?.getD 0))) :
    Calls Tryz.prog 96 #[.slice (some ⟨g, o, none⟩) m cap, .slice (some ⟨bb, 0, none⟩) bn bcap] w fun e w' => (∃ v, e = .returned v) ∧ Below g w w' ∧ w'.heap.size = w.heap.size ∧ Holds w' g .u32 t (fillK l z o m) := by
 have HBN : Hid (bn = 4 * m) := hbn
 clear hbn
 go_enter Tryz.func96, Tryz.ntmps96
 go_wp2
 go_loopw [8] (fun i wr => ∃ k : Nat, k ≤ m ∧ i = .int .i64 k ∧ Below g w wr ∧ wr.heap.size = w.heap.size ∧ Holds wr g .u32 t (fillK l z o k))
  (fun i _ => m - (intOf i).toNat)
 case atStart => exact ⟨0, by omega, rfl, Below.refl _ _, rfl, by rw [fillK_zero]; exact hg⟩
 case round =>
  obtain ⟨k, hk, rfl, hB, hsz, hH⟩ := hrel
  by_cases hlt : k < m
  · obtain ⟨I, hI⟩ : ∃ I : Nat, 4 * k = I := ⟨_, rfl⟩
    have hbn := HBN.out
    have c : ∀ j, j < bn → wr.cell? ⟨bb, j, none⟩ = some (.int .u8 (z[j]?.getD 0)) := fun j hj => (hB.cell (p := ⟨bb, j, none⟩) hne).trans (hcell j hj)
    have c0 : wr.cell? ⟨bb, I, none⟩ = some (.int .u8 (z[4 * k]?.getD 0)) := by rw [hI]; exact c I (by omega)
    have c1 : wr.cell? ⟨bb, I + 1, none⟩ = some (.int .u8 (z[4 * k + 1]?.getD 0)) := by rw [hI]; exact c (I + 1) (by omega)
    have c2 : wr.cell? ⟨bb, I + 2, none⟩ = some (.int .u8 (z[4 * k + 2]?.getD 0)) := by rw [hI]; exact c (I + 2) (by omega)
    have c3 : wr.cell? ⟨bb, I + 3, none⟩ = some (.int .u8 (z[4 * k + 3]?.getD 0)) := by rw [hI]; exact c (I + 3) (by omega)
    have hcc := hH.cell (o + k) (by rw [fillK_length _ _ _ _ (by omega)]; omega)
    have hff := hH.frozen (o + k)
    have hnb : ¬ g = bb := by omega
    have hI' : (k : Int) * 4 = (I : Int) := by omega
    have i4 : (I : Int) + 3 < (bn : Int) := by omega
    have i3 : (I : Int) + 2 < (bn : Int) := by omega
    have i2 : (I : Int) + 1 < (bn : Int) := by omega
    have i1 : (I : Int) < (bn : Int) := by omega
    have j1 : IntKind.i64.wrap ((I : Int) + 1) = (I : Int) + 1 := by rw [IntKind.wrap_i64]; omega
    have j2 : IntKind.i64.wrap ((I : Int) + 2) = (I : Int) + 2 := by rw [IntKind.wrap_i64]; omega
    have j3 : IntKind.i64.wrap ((I : Int) + 3) = (I : Int) + 3 := by rw [IntKind.wrap_i64]; omega
    have n1 : (0 : Int) ≤ (I : Int) + 1 := by omega
    have n2 : (0 : Int) ≤ (I : Int) + 2 := by omega
    have n3 : (0 : Int) ≤ (I : Int) + 3 := by omega
    have t1 : ((I : Int) + 1).toNat = I + 1 := by omega
    have t2 : ((I : Int) + 2).toNat = I + 2 := by omega
    have t3 : ((I : Int) + 3).toNat = I + 3 := by omega
    have hki : (k : Int) < (m : Int) := by omega
    clear c hcell hbn
    go_upto_region 4 with fail
    have HI : Hid (4 * k = I) := hI
    clear hI hI'
    obtain ⟨Z0, hZ0⟩ : ∃ x, z[4 * k]?.getD 0 = x := ⟨_, rfl⟩
    obtain ⟨Z1, hZ1⟩ : ∃ x, z[4 * k + 1]?.getD 0 = x := ⟨_, rfl⟩
    obtain ⟨Z2, hZ2⟩ : ∃ x, z[4 * k + 2]?.getD 0 = x := ⟨_, rfl⟩
    obtain ⟨Z3, hZ3⟩ : ∃ x, z[4 * k + 3]?.getD 0 = x := ⟨_, rfl⟩
    rw [hZ0] at c0
    rw [hZ1] at c1
    rw [hZ2] at c2
    rw [hZ3] at c3
    have HZ : Hid (wlAt z k = wl Z0 Z1 Z2 Z3) := by show wlAt z k = _; unfold wlAt; rw [hZ0, hZ1, hZ2, hZ3]
    clear hZ0 hZ1 hZ2 hZ3
    go_region_held3 (fun w' => w'.cell? ⟨bb, I, none⟩ = some (.int .u8 Z0) ∧ w'.cell? ⟨bb, I + 1, none⟩ = some (.int .u8 Z1) ∧ w'.cell? ⟨bb, I + 2, none⟩ = some (.int .u8 Z2) ∧ w'.cell? ⟨bb, I + 3, none⟩ = some (.int .u8 Z3))
     (go_keep) (fail)
    go_wp2
    go_roundw
    case rel =>
     refine ⟨k + 1, by omega, by go_num, (hB.setCell (p := ⟨g, o + k, none⟩) (Nat.le_refl _) _).drew, by simp [hsz], ?_⟩
     have := (hH.set (o + k) (wlAt z k)).drew
     rw [fillK_set _ _ _ _ (by omega)] at this
     rw [HZ.out] at this
     exact this
    case measure => simp [intOf]; omega
  · obtain rfl : k = m := by omega
    go_wp2
    go_end0
    exact ⟨⟨_, rfl⟩, hB, hsz, hH⟩
def at' (s : List Int) (i : Nat) : Int := s[i]?.getD 0
def qAt (s : List Int) (i j k l : Nat) : List Int :=
 (((s.set i (qr (at' s i) (at' s j) (at' s k) (at' s l)).1).set j (qr (at' s i) (at' s j) (at' s k) (at' s l)).2.1).set k (qr (at' s i) (at' s j) (at' s k) (at' s l)).2.2.1).set l (qr (at' s i) (at' s j) (at' s k) (at' s l)).2.2.2
theorem qAt_length (s : List Int) (i j k l : Nat) : (qAt s i j k l).length = s.length := by simp [qAt]
theorem Holds.at {w : World} {g : Nat} {t : TypeId} {l : List Int} (h : Holds w g .u32 t l) (j : Nat) (hj : j < l.length) : w.cell? ⟨g, j, none⟩ = some (.int .u32 (at' l j)) := h.cell j hj
theorem Holds.qAt {w : World} {g : Nat} {t : TypeId} {s : List Int} (h : Holds w g .u32 t s) (i j k l : Nat) :
    Holds ((((w.setCell ⟨g, i, none⟩ (.int .u32 (qr (at' s i) (at' s j) (at' s k) (at' s l)).1)).setCell ⟨g, j, none⟩ (.int .u32 (qr (at' s i) (at' s j) (at' s k) (at' s l)).2.1)).setCell ⟨g, k, none⟩ (.int .u32 (qr (at' s i) (at' s j) (at' s k) (at' s l)).2.2.1)).setCell ⟨g, l, none⟩ (.int .u32 (qr (at' s i) (at' s j) (at' s k) (at' s l)).2.2.2)) g .u32 t (qAt s i j k l) :=
 (((h.set i _).set j _).set k _).set l _
theorem below4 {B : Nat} {a w : World} (h : Below B a w) {g : Nat} (hg : B ≤ g) (i j k l : Nat) (v0 v1 v2 v3 : Value) :
    Below B a ((((w.setCell ⟨g, i, none⟩ v0).setCell ⟨g, j, none⟩ v1).setCell ⟨g, k, none⟩ v2).setCell ⟨g, l, none⟩ v3) :=
 (((h.setCell (p := ⟨g, i, none⟩) hg _).setCell (p := ⟨g, j, none⟩) hg _).setCell (p := ⟨g, k, none⟩) hg _).setCell (p := ⟨g, l, none⟩) hg _
theorem sizeState : (Tryz.prog.info? 113).map (·.size) = some 16 := by kernel_rfl
theorem sizeKey : (Tryz.prog.info? 23).map (·.size) = some 32 := by kernel_rfl
theorem sizeNonce : (Tryz.prog.info? 78).map (·.size) = some 12 := by kernel_rfl
def beginL (k n : List Int) (c : Int) : List Int := [1634760805, 857760878, 2036477234, 1797285236] ++ wlL k 8 ++ [c] ++ wlL n 3
theorem beginL_length (k n : List Int) (c : Int) : (beginL k n c).length = 16 := by simp [beginL, wlL_length]
def constL : List Int := [1634760805, 857760878, 2036477234, 1797285236, 0, 0, 0, 0, 0, 0, 0, 0, 0, 0, 0, 0]
theorem begin_eq (k n : List Int) (c : Int) : fillK ((fillK constL k 4 8).set 12 c) n 13 3 = beginL k n c := by
 have h : (wlL k 8).length = 8 := wlL_length k 8
 match hw : wlL k 8, h with
 | [a0, a1, a2, a3, a4, a5, a6, a7], _ => simp [fillK, hw, beginL, constL]
set_option maxHeartbeats 1000000 in
theorem begin_any (k n : List Int) (c : Int) (w : World) (hk : k.length = 32) (hn : n.length = 12) :
    Calls Tryz.prog 74 #[.agg (row .u8 k), .agg (row .u8 n), .int .u32 c] w fun e w' => e = .returned (.agg (row .u32 (beginL k n c))) ∧ Below w.heap.size w w' := by
 have hl := beginL_length k n c
 have hbe := begin_eq k n c
 obtain ⟨L, hL⟩ : ∃ L, beginL k n c = L := ⟨_, rfl⟩
 rw [hL] at hl hbe ⊢
 have HBE : Hid (fillK ((fillK constL k 4 8).set 12 c) n 13 3 = L) := hbe
 clear hL hbe
 go_enter Tryz.func74, Tryz.ntmps74
 go_upto_region 2 with fail
 refine forget (p := fun y => Code.wp _ _ _ _ y) (fun W0 => Below w.heap.size w W0 ∧ W0.heap.size = w.heap.size + 1 + 1 + 1 + 1 ∧ Holds W0 w.heap.size .u8 23 k ∧ Holds W0 (w.heap.size + 1) .u8 78 n ∧ Holds W0 (w.heap.size + 1 + 1) .u32 113 (List.replicate 16 0) ∧ Holds W0 (w.heap.size + 1 + 1 + 1) .u32 113 constL) ⟨?_, by simp, ?_, ?_, ?_, ?_⟩ ?_
 · exact ((((Below.refl _ _).alloc (Nat.le_refl _) _).alloc (by simp) _).alloc (by simp; omega) _).alloc (by simp; omega) _
 · exact (((Holds.new w .u8 23 k).alloc _).alloc _).alloc _
 · have := (Holds.new (w.alloc (.cells (row .u8 k) 23)) .u8 78 n)
   rw [World.size_alloc] at this
   exact (this.alloc _).alloc _
 · have := (Holds.new ((w.alloc (.cells (row .u8 k) 23)).alloc (.cells (row .u8 n) 78)) .u32 113 (List.replicate 16 0))
   rw [World.size_alloc, World.size_alloc] at this
   exact this.alloc _
 · have := (Holds.new (((w.alloc (.cells (row .u8 k) 23)).alloc (.cells (row .u8 n) 78)).alloc (.cells (row .u32 (List.replicate 16 0)) 113)) .u32 113 constL)
   rw [World.size_alloc, World.size_alloc, World.size_alloc] at this
   exact this
 rintro W0 ⟨hB, hsz, hK, hN, hR, hSt⟩
 have f1 : ∀ wx, wx = W0.drew → Calls Tryz.prog 96 #[.slice (some ⟨w.heap.size + 1 + 1 + 1, 4, none⟩) 8 12, .slice (some ⟨w.heap.size, 0, none⟩) 32 32] wx fun e w' => (∃ v, e = .returned v) ∧ Below (w.heap.size + 1 + 1 + 1) W0 w' ∧ w'.heap.size = W0.heap.size ∧ Holds w' (w.heap.size + 1 + 1 + 1) .u32 113 (fillK constL k 4 8) := fun wx hx => by
  subst hx
  refine (fill_any (w.heap.size + 1 + 1 + 1) 4 8 12 w.heap.size 32 32 k constL 113 W0.drew hSt.drew (by decide) (by omega) (by omega) (by omega) (by omega) (by omega) (by omega) (by omega) (fun j hj => hK.drew.cell j (by omega))).mono ?_
  rintro e w' ⟨h1, h2, h3, h4⟩
  exact ⟨h1, ((Below.refl _ _).drew).trans h2, h3.trans (by simp), h4⟩
 go_region_with (go_at_call 96; refine (f1 _ rfl).mono ?_; rintro e w1 ⟨⟨v1, rfl⟩, hb1, hs1, hSt1⟩)
 have hN1 := hN.below hb1 (by omega)
 have hR1 := hR.below hb1 (by omega)
 have hB1 : Below w.heap.size w w1 := hB.trans (hb1.mono (by omega))
 have c12 := hSt1.cell 12 (by rw [fillK_length _ _ _ _ (by decide)]; decide)
 have f12 := hSt1.frozen 12
 clear f1 hK hN hR hSt hb1
 go_upto_region 4 with fail
 refine forget (p := fun y => Code.wp _ _ _ _ y) (fun W2 => Below w.heap.size w W2 ∧ W2.heap.size = w.heap.size + 1 + 1 + 1 + 1 ∧ Holds W2 (w.heap.size + 1) .u8 78 n ∧ Holds W2 (w.heap.size + 1 + 1) .u32 113 (List.replicate 16 0) ∧ Holds W2 (w.heap.size + 1 + 1 + 1) .u32 113 ((fillK constL k 4 8).set 12 c)) ⟨hB1.setCell (by simp; omega) _, by simp; omega, hN1.setOther _ _ (by simp), hR1.setOther _ _ (by simp), hSt1.set 12 c⟩ ?_
 clear c12 f12 hB1 hN1 hR1 hSt1
 rintro W2 ⟨hB2, hs2, hN2, hR2, hSt2⟩
 have f2 : ∀ wx, wx = W2.drew → Calls Tryz.prog 96 #[.slice (some ⟨w.heap.size + 1 + 1 + 1, 13, none⟩) 3 3, .slice (some ⟨w.heap.size + 1, 0, none⟩) 12 12] wx fun e w' => (∃ v, e = .returned v) ∧ Below (w.heap.size + 1 + 1 + 1) W2 w' ∧ w'.heap.size = W2.heap.size ∧ Holds w' (w.heap.size + 1 + 1 + 1) .u32 113 L := fun wx hx => by
  subst hx
  refine (fill_any (w.heap.size + 1 + 1 + 1) 13 3 3 (w.heap.size + 1) 12 12 n ((fillK constL k 4 8).set 12 c) 113 W2.drew hSt2.drew (by rw [List.length_set, fillK_length _ _ _ _ (by decide)]; decide) (by omega) (by omega) (by omega) (by omega) (by omega) (by omega) (by omega) (fun j hj => hN2.drew.cell j (by omega))).mono ?_
  rintro e w' ⟨h1, h2, h3, h4⟩
  rw [HBE.out] at h4
  exact ⟨h1, ((Below.refl _ _).drew).trans h2, h3.trans (by simp), h4⟩
 go_region_with (go_at_call 96; refine (f2 _ rfl).mono ?_; rintro e w3 ⟨⟨v3, rfl⟩, hb3, hs3, hSt3⟩)
 have hR3 := hR2.below hb3 (by omega)
 have hB3 : Below w.heap.size w w3 := hB2.trans (hb3.mono (by omega))
 clear f2 hb3 hN2 hR2 hSt2
 go_wp2_with (first | (refine wpList_ld rfl 113 _ rfl _ rfl hSt3 Tryz.underlying113 sizeState hl ?_) | (refine wpList_st rfl 113 _ _ rfl _ rfl rfl hR3 (by rw [hl]; exact sizeState) (by simp [hl]) ?_))
 refine bodyPost_ret (results_holds (Tryz.results74) _ rfl (hR3.setRow _) Tryz.underlying113 sizeState hl) rfl ⟨rfl, ?_⟩
 exact below_setRow hB3 (by omega) _
end Go.Proofs.YtflkhkmejnpapaaGreatDoor
