/- Mac7 OwnK MacEq FewS Mac8 Od -/
import Derived.Test.YtflkhkmejnpapaaGreatDoorK17
import Derived.Test.YtflkhkmejnpapaaGreatDoorK16
import Derived.Laws.BitsLemmas
import Derived.Laws.Closers25b
import Derived.OwnWalk
import Derived.Test.YtflkhkmejnpapaaGreatDoorK15
import Derived.Maps.AppendAt
namespace Go.Proofs.YtflkhkmejnpapaaGreatDoor.S
open Go.RowKit
set_option maxRecDepth 20000
set_option linter.unusedSimpArgs false
theorem OwnB.belowM {w w' : World} {base : Nat} {v : Value} {z : List Int} (h : OwnB w base v z) (hb : Below w.heap.size w w') : OwnB w' base v z := by
 refine ⟨h.1, ?_⟩
 rcases h.2 with h' | ⟨g, cap, cur, h1, h2, h3, h4⟩
 · exact .inl h'
 · refine .inr ⟨g, cap, cur, h1, h2, ?_, h4⟩
   rw [hb.block g (Array.getElem?_eq_some_iff.1 h3).1]; exact h3
theorem OwnB.keepM {w w' : World} {base : Nat} {v : Value} {z : List Int} (h : OwnB w base v z) (hk : ∀ g, base ≤ g → g < w.heap.size → w'.heap[g]? = w.heap[g]? ∨ ∃ cs t fr, w.heap[g]? = some (.cells cs t fr) ∧ t ≠ 5) : OwnB w' base v z := by
 refine ⟨h.1, ?_⟩
 rcases h.2 with h' | ⟨g, cap, cur, h1, h2, h3, h4⟩
 · exact .inl h'
 · refine .inr ⟨g, cap, cur, h1, h2, ?_, h4⟩
   rcases hk g h2 (Array.getElem?_eq_some_iff.1 h3).1 with h | ⟨cs, t, fr, h5, h6⟩
   · rw [h]; exact h3
   · rw [h3] at h5
     simp at h5
     exact absurd h5.2.1.symm h6
theorem holds_grown {w w' : World} {g base : Nat} {t : TypeId} {l z : List Int} {v : Value} (h : Holds w g .u8 t l) (hv : OwnB w base v z) (hg : w.grownBy w' v.ownBlock) (ht : t ≠ 5) : Holds w' g .u8 t l := by
 have hl := h.lt
 unfold Holds at h ⊢
 rw [hg.block g hl (fun e => by
  rcases hv.2 with ⟨rfl, _⟩ | ⟨g', cap, cur, rfl, _, h3, _⟩
  · cases e
  · simp [Value.ownBlock] at e
    subst e
    rw [h] at h3
    simp at h3
    exact ht h3.2)]
 exact h
theorem bits_xor_u8_nat (a b : Nat) (ha : a < 256) (hb : b < 256) :
    bits .xor .u8 (a : Int) (b : Int) = ((a ^^^ b : Nat) : Int) := by
 have hx : a ^^^ b < 2 ^ 8 := Nat.xor_lt_two_pow (by omega) (by omega)
 have h1 : (BitVec.ofInt 8 (a : Int)).toNat = a := by
  rw [BitVec.ofInt_natCast, BitVec.toNat_ofNat]; exact Nat.mod_eq_of_lt (by omega)
 have h2 : (BitVec.ofInt 8 (b : Int)).toNat = b := by
  rw [BitVec.ofInt_natCast, BitVec.toNat_ofNat]; exact Nat.mod_eq_of_lt (by omega)
 show IntKind.u8.wrap ((BitVec.ofInt 8 (a : Int) ^^^ BitVec.ofInt 8 (b : Int)).toNat : Int) = _
 rw [BitVec.toNat_xor, h1, h2, IntKind.wrap_u8]
 omega
theorem orx_step (u p q : Int) (hu : 0 ≤ u ∧ u ≤ 255) (hp : 0 ≤ p ∧ p ≤ 255) (hq : 0 ≤ q ∧ q ≤ 255) : bits .or .u8 u (bits .xor .u8 p q) = 0 ↔ u = 0 ∧ p = q := by
 obtain ⟨a, rfl⟩ := Int.eq_ofNat_of_zero_le hu.1
 obtain ⟨b, rfl⟩ := Int.eq_ofNat_of_zero_le hp.1
 obtain ⟨c, rfl⟩ := Int.eq_ofNat_of_zero_le hq.1
 have hx : b ^^^ c < 2 ^ 8 := Nat.xor_lt_two_pow (by omega) (by omega)
 rw [bits_xor_u8_nat b c (by omega) (by omega), (bits_nat .u8 8 (by decide) wraps_u8 a (b ^^^ c) (by omega) hx).2]
 constructor
 · intro h
   have h' : a ||| (b ^^^ c) = 0 := by exact_mod_cast h
   have h2 := Nat.or_eq_zero_iff.1 h'
   have h3 : b ^^^ (b ^^^ c) = c := by rw [← Nat.xor_assoc, Nat.xor_self, Nat.zero_xor]
   rw [h2.2, Nat.xor_zero] at h3
   exact ⟨by omega, by omega⟩
 · rintro ⟨h1, h2⟩
   have : b = c := by omega
   subst this
   have : a = 0 := by omega
   subst this
   simp
def orx (z b : List Int) : Nat → Int
 | 0 => 0
 | k + 1 => bits .or .u8 (orx z b k) (bits .xor .u8 (z[k]?.getD 0) (b[k]?.getD 0))
theorem orx_within (z b : List Int) (k : Nat) : 0 ≤ orx z b k ∧ orx z b k ≤ 255 := by
 cases k with
 | zero => exact ⟨by simp [orx], by simp [orx]⟩
 | succ k => exact ⟨bits_lo_u8 _ _ _, bits_hi_u8 _ _ _⟩
theorem getD_byte {z : List Int} (h : ∀ v ∈ z, 0 ≤ v ∧ v ≤ 255) (k : Nat) : 0 ≤ z[k]?.getD 0 ∧ z[k]?.getD 0 ≤ 255 := by
 by_cases hk : k < z.length
 · rw [List.getElem?_eq_getElem hk]; exact h _ (List.getElem_mem hk)
 · rw [List.getElem?_eq_none (by omega)]; simp
theorem orx_zero (z b : List Int) (hz : ∀ v ∈ z, 0 ≤ v ∧ v ≤ 255) (hb : ∀ v ∈ b, 0 ≤ v ∧ v ≤ 255) (k : Nat) : orx z b k = 0 ↔ ∀ i, i < k → z[i]?.getD 0 = b[i]?.getD 0 := by
 induction k with
 | zero => simp [orx]
 | succ k ih =>
  simp only [orx]
  rw [orx_step _ _ _ (orx_within z b k) (getD_byte hz k) (getD_byte hb k), ih]
  constructor
  · rintro ⟨h1, h2⟩ i hi
    by_cases h : i = k
    · subst h; exact h2
    · exact h1 i (by omega)
  · intro h
    exact ⟨fun i hi => h i (by omega), h k (by omega)⟩
theorem orx_eq (z b : List Int) (hz : ∀ v ∈ z, 0 ≤ v ∧ v ≤ 255) (hb : ∀ v ∈ b, 0 ≤ v ∧ v ≤ 255) (hl : z.length = b.length) : (orx z b z.length == 0) = (z == b) := by
 rw [Bool.eq_iff_iff]
 simp only [beq_iff_eq]
 rw [orx_zero z b hz hb]
 constructor
 · intro h
   apply List.ext_getElem hl
   intro i h1 h2
   have := h i h1
   simpa [h1, h2] using this
 · rintro rfl i _; rfl
structure VeilE (p : Prop) : Prop where
 out : p
theorem ret_b {a b : Bool} (h : a = b) : Ending.returned (.bool a) = .returned (.bool b) := by rw [h]
theorem orx_succ (z b : List Int) (k : Nat) (p q : Int) (hp : z[k]?.getD 0 = p) (hq : b[k]?.getD 0 = q) : orx z b (k + 1) = bits .or .u8 (orx z b k) (bits .xor .u8 p q) := by subst hp hq; rfl
set_option maxHeartbeats 1000000 in
theorem equal_any (x : Option Addr) (len cap : Nat) (z : List Int) (y : Option Addr) (lb cb : Nat) (b : List Int) (w : World) (hx : Bytes w x len cap z) (hy : Bytes w y lb cb b) (hz : ∀ v ∈ z, 0 ≤ v ∧ v ≤ 255) (hb : ∀ v ∈ b, 0 ≤ v ∧ v ≤ 255) :
    Calls Tryz.prog 52 #[.slice x len cap, .slice y lb cb] w fun e w' => e = .returned (.bool (z == b)) ∧ ∃ n, w' = w.drewN n := by
 have hxl := hx.len_eq
 have hyl := hy.len_eq
 have hle := hx.le
 have htop := hx.top
 by_cases hl : len = lb
 · have HE : VeilE ((orx z b len == 0) = (z == b)) := ⟨by rw [hxl]; exact orx_eq z b hz hb (by omega)⟩
   subst hl
   clear hz hb hxl hyl
   go_enter Tryz.func52, Tryz.ntmps52
   go_wp2
   go_loopw [5, 14] (fun u i wr => ∃ k : Nat, k ≤ len ∧ i = .int .i64 k ∧ u = .int .u8 (orx z b k) ∧ ∃ n, wr = w.drewN n) (fun _ i _ => len - (intOf i).toNat)
   case atStart => exact ⟨0, by omega, rfl, rfl, 0, rfl⟩
   case round =>
    obtain ⟨k, hk, rfl, rfl, n, rfl⟩ := hrel
    by_cases hlt : k < len
    · obtain ⟨b1, o1, hx1, hc1⟩ : ∃ b off, x = some ⟨b, off, none⟩ ∧ ∀ j, j < len → w.cell? ⟨b, off + j, none⟩ = some (.int .u8 (z[j]?.getD 0)) := by
       rcases hx.at_ with h0 | h
       · omega
       · exact h
      obtain ⟨b2, o2, hx2, hc2⟩ : ∃ b' off, y = some ⟨b', off, none⟩ ∧ ∀ j, j < len → w.cell? ⟨b', off + j, none⟩ = some (.int .u8 (b[j]?.getD 0)) := by
       rcases hy.at_ with h0 | h
       · omega
       · exact h
      subst hx1 hx2
      have c1 := hc1 k hlt
      have c2 := hc2 k hlt
      obtain ⟨p, hp⟩ : ∃ p, z[k]?.getD 0 = p := ⟨_, rfl⟩
      obtain ⟨q, hq⟩ : ∃ q, b[k]?.getD 0 = q := ⟨_, rfl⟩
      have HS : VeilE (orx z b (k + 1) = bits .or .u8 (orx z b k) (bits .xor .u8 p q)) := ⟨orx_succ z b k p q hp hq⟩
      rw [hp] at c1
      rw [hq] at c2
      obtain ⟨U, hU⟩ : ∃ q, orx z b k = q := ⟨_, rfl⟩
      rw [hU] at HS ⊢
      have hki : (0 : Int) ≤ (k : Int) := by omega
      have hkl : (k : Int) < (len : Int) := by omega
      clear hc1 hc2 hp hq hU hx hy HE
      go_wp2
      go_quiet ((fail))
      go_wp2
      go_roundw
      case rel => exact ⟨k + 1, by omega, by go_num, by rw [HS.out], n + nq, by simp⟩
      case measure => simp [intOf]; omega
    · obtain rfl : k = len := by omega
      go_wp2
      go_ret
      exact ⟨ret_b HE.out, n, rfl⟩
 · have hne : (z == b) = false := by
    rw [beq_eq_false_iff_ne]
    intro h
    exact hl (by rw [hxl, hyl, h])
   have hli : ¬ ((len : Int) = (lb : Int)) := by omega
   rw [hne]
   clear hxl hyl
   go_enter Tryz.func52, Tryz.ntmps52
   go_wp2
   go_ret
   exact ⟨rfl, 0, rfl⟩
theorem Bytes.fewM {w : World} {x : Option Addr} {len cap : Nat} {z : List Int} (h : Bytes w x len cap z) (n : Nat) : Bytes w x (min len n) cap (z.take n) := by
 have hz := h.len_eq
 refine ⟨by rw [List.length_take]; omega, by have := h.le; omega, h.top, h.nil, ?_⟩
 rcases h.at_ with h0 | ⟨b, off, hx, hc⟩
 · exact .inl (by omega)
 · exact .inr ⟨b, off, hx, fun j hj => by rw [List.getElem?_take_of_lt (by omega)]; exact hc j (by omega)⟩
theorem partsAll {w : World} {pb : Nat} {t : TypeId} (ps : List Part) (hbox : w.heap[pb]? = some (.cells (ps.map fun p => Value.slice p.x p.len p.cap).toArray t (0, 0))) (hb : ∀ p ∈ ps, Bytes w p.x p.len p.cap p.z) : PartsAt w w.heap.size pb ps := by
 intro w' hB j hj
 have hlt : pb < w.heap.size := (Array.getElem?_eq_some_iff.1 hbox).1
 refine ⟨?_, (hb _ (List.getElem_mem hj)).below hB⟩
 rw [hB.cell (p := ⟨pb, j, none⟩) hlt, cell_of_row w pb j _ t _ hbox]
 simp [hj]
def tK (k b : List Int) : Nat → List Int
 | 0 => []
 | i + 1 => tagL k (tK k b i ++ (b ++ [((i + 1 : Nat) : Int)]))
def outK (k b : List Int) : Nat → List Int
 | 0 => []
 | i + 1 => outK k b i ++ tK k b (i + 1)
theorem tK_length (k b : List Int) (i : Nat) : (tK k b (i + 1)).length = 32 := tagL_length _ _
theorem tK_len (k b : List Int) (i : Nat) : (tK k b i).length ≤ 32 := by
 cases i with
 | zero => simp [tK]
 | succ i => rw [tK_length]; omega
theorem outK_length (k b : List Int) (j : Nat) : (outK k b j).length = 32 * j := by
 induction j with
 | zero => rfl
 | succ j ih => simp only [outK, List.length_append, ih, tK_length]; omega
def expL (k b : List Int) (n : Nat) : List Int := (outK k b ((n + 31) / 32)).take n
theorem expL_length (k b : List Int) (n : Nat) : (expL k b n).length = n := by
 unfold expL; rw [List.length_take, outK_length]; omega
theorem out_step (k b : List Int) (j n : Nat) : (outK k b j).take n ++ (tK k b (j + 1)).take (n - 32 * j) = (outK k b (j + 1)).take n := by
 simp only [outK]
 rw [List.take_append, outK_length]
theorem OwnB.mono {w : World} {base base' : Nat} {v : Value} {z : List Int} (h : OwnB w base v z) (hb : base' ≤ base) : OwnB w base' v z := by
 refine ⟨h.1, ?_⟩
 rcases h.2 with h' | ⟨g, cap, cur, h1, h2, h3⟩
 · exact .inl h'
 · exact .inr ⟨g, cap, cur, h1, by omega, h3⟩
def LastAt (w : World) (v : Value) (t : List Int) : Prop := (v = .slice none 0 0 ∧ t = []) ∨ ∃ tb, v = .slice (some ⟨tb, 0, none⟩) 32 32 ∧ Holds w tb .u8 23 t ∧ t.length = 32
theorem LastAt.bytes {w : World} {v : Value} {t : List Int} (h : LastAt w v t) : ∃ x n c, v = .slice x n c ∧ Bytes w x n c t ∧ n ≤ 32 := by
 rcases h with ⟨rfl, rfl⟩ | ⟨tb, rfl, h1, h2⟩
 · exact ⟨_, _, _, rfl, bytes_nil w, by omega⟩
 · exact ⟨_, _, _, rfl, h1.bytes h2.symm (by omega), by omega⟩
theorem below_of_grown {w w' : World} (hg : w.grownBy w' none) : Below w.heap.size w w' :=
 (Below.refl w.heap.size w).grown hg (Nat.le_refl _) (fun _ hk => by cases hk)
set_option maxHeartbeats 2000000 in
theorem expand_any (k : List Int) (y : Option Addr) (lb cb : Nat) (b : List Int) (n : Nat) (w : World) (hk : k.length = 32) (hy : Bytes w y lb cb b) (hlb : lb ≤ 100000) (hn : n ≤ 8160) (hKT : KTab w) :
    Calls Tryz.prog 44 #[.agg (row .u8 k), .slice y lb cb, .int .i64 n] w fun e w' => ∃ v, e = .returned (.tuple #[v, .int .i64 0]) ∧ OwnB w' w.heap.size v (expL k b n) ∧ Below w.heap.size w w' := by
 obtain ⟨i0, hi0, hz0, hz1, hz2⟩ := info_parts infoU8
 have hni : ¬ ((n : Int) < 0) := by omega
 have hnj : ¬ ((8160 : Int) < (n : Int)) := by omega
 go_enter Tryz.func44, Tryz.ntmps44
 go_upto_region 1 with fail
 refine forget (p := fun y => Code.wp _ _ _ _ y) (fun W0 => Below w.heap.size w W0 ∧ W0.heap.size = w.heap.size + 1 ∧ Holds W0 w.heap.size .u8 23 k) ⟨(Below.refl _ _).alloc (Nat.le_refl _) _, by simp, Holds.new w .u8 23 k⟩ ?_
 rintro W0 ⟨hB0, hs0, hk0⟩
 have hB0' := hB0.size
 go_wp2_with (at_make; refine wpList_make_own _ rfl _ _ 74 rfl (w.heap.size + 1) 5 i0 (.int .u8 0) 1 Tryz.underlying74 hi0 hz0 hz1 .i64 .i64 _ n rfl rfl rfl (by rw [hz2]; omega) (by simp [maxLen]; omega) (by omega) ?_; intro w1 ho1 hg1)
 have hB1 : Below (w.heap.size + 1) W0 w1 := by rw [← hs0]; exact below_of_grown hg1
 have ho1' : OwnB w1 (w.heap.size + 1) (.slice (some ⟨w.heap.size + 1, 0, none⟩) 0 n) [] := by rw [hs0] at ho1; exact OwnB.cast ho1 rfl rfl
 clear ho1 hg1
 go_loopw [8, 9, 10] (fun v l i wr => ∃ j : Nat, 32 * j < n + 32 ∧ i = .int .i64 ((j + 1 : Nat) : Int) ∧ OwnB wr (w.heap.size + 1) v ((outK k b j).take n) ∧ LastAt wr l (tK k b j) ∧ Below (w.heap.size + 1) W0 wr) (fun v _ _ _ => n - lenOf v)
 case atStart => exact ⟨0, by omega, rfl, by simpa [outK] using ho1', .inl ⟨rfl, rfl⟩, hB1⟩
 case round =>
  clear ho1' hB1
  obtain ⟨j, hj, rfl, ho, hl, hB⟩ := hrel
  obtain ⟨xv, nv, cv, hv, hnv⟩ := ho.isSlice
  rw [List.length_take, outK_length] at hnv
  obtain ⟨lx, ll, lc, hlv, hlb2, hll⟩ := hl.bytes
  have hBw : Below w.heap.size w wr := hB0.trans (hB.mono (by omega))
  by_cases hlt : 32 * j < n
  · subst hv hlv
    have HNV : VeilM (nv = 32 * j) := ⟨by omega⟩
    have hnvi : (nv : Int) < (n : Int) := by omega
    have hjj : (j : Int) + 1 ≤ 255 := by omega
    have hk1 := hk0.below hB (by omega)
    have hyr := hy.below hBw
    have hcast : (((j + 1 : Nat) : Int)) = (j : Int) + 1 := by omega
    obtain ⟨C, hC⟩ : ∃ C : Int, (j : Int) + 1 = C := ⟨_, rfl⟩
    have hps : PartsAt ((wr.alloc (.cells #[.int .u8 C] 5)).alloc (.cells #[.slice lx ll lc, .slice y lb cb, .slice (some ⟨wr.heap.size, 0, none⟩) 1 1] 74)) ((wr.alloc (.cells #[.int .u8 C] 5)).alloc (.cells #[.slice lx ll lc, .slice y lb cb, .slice (some ⟨wr.heap.size, 0, none⟩) 1 1] 74)).heap.size (wr.heap.size + 1) [⟨lx, ll, lc, tK k b j⟩, ⟨y, lb, cb, b⟩, ⟨some ⟨wr.heap.size, 0, none⟩, 1, 1, [C]⟩] := by
     have hb3 : Below wr.heap.size wr ((wr.alloc (.cells #[.int .u8 C] 5)).alloc (.cells #[.slice lx ll lc, .slice y lb cb, .slice (some ⟨wr.heap.size, 0, none⟩) 1 1] 74)) := ((Below.refl _ _).alloc (Nat.le_refl _) _).alloc (by simp) _
     refine partsAll (t := 74) _ ?_ ?_
     · have := heap_alloc_new (wr.alloc (.cells #[.int .u8 C] 5)) (.cells #[.slice lx ll lc, .slice y lb cb, .slice (some ⟨wr.heap.size, 0, none⟩) 1 1] 74)
       rw [World.size_alloc] at this
       exact this
     · intro p hp
       simp only [List.mem_cons, List.not_mem_nil, or_false] at hp
       rcases hp with rfl | rfl | rfl
       · exact hlb2.below hb3
       · exact hyr.below hb3
       · exact ((Holds.new wr .u8 5 [C]).alloc _).bytes rfl (by simp)
    have hTl := tK_length k b j
    have hkb : Bytes ((wr.alloc (.cells #[.int .u8 C] 5)).alloc (.cells #[.slice lx ll lc, .slice y lb cb, .slice (some ⟨wr.heap.size, 0, none⟩) 1 1] 74)) (some ⟨w.heap.size, 0, none⟩) 32 32 k := ((hk1.alloc _).alloc _).bytes hk.symm (by omega)
    have htg := tag_any (some ⟨w.heap.size, 0, none⟩) 32 32 k (wr.heap.size + 1) 3 3 _ _ hkb (by omega) hps rfl (by omega) (fun q hq => by
        have h1 := tK_len k b j
        have h2 := hy.len_eq
        match q with
        | 0 => simp [allOf]
        | 1 => simp [allOf]; omega
        | 2 => simp [allOf]; omega
        | q + 3 => simp [allOf]; omega) (fun p hp => by
        simp only [List.mem_cons, List.not_mem_nil, or_false] at hp
        rcases hp with rfl | rfl | rfl
        · show ll ≤ 1000000; omega
        · show lb ≤ 1000000; omega
        · show 1 ≤ 1000000; omega) (hKT.below (hBw.trans ((((Below.refl _ _).alloc (Nat.le_refl _) _).alloc (by simp) _).mono hBw.size)))
    have eT : tagL k (allOf [⟨lx, ll, lc, tK k b j⟩, ⟨y, lb, cb, b⟩, ⟨some ⟨wr.heap.size, 0, none⟩, 1, 1, [C]⟩]) = tK k b (j + 1) := by
     simp only [tK, allOf, List.flatMap_cons, List.flatMap_nil, List.append_nil]
     rw [hcast, hC]
    rw [eT] at htg
    have HST : VeilM ((outK k b j).take n ++ (tK k b (j + 1)).take (n - nv) = (outK k b (j + 1)).take n) := ⟨by rw [HNV.out]; exact out_step k b j n⟩
    have HLA : VeilM (LastAt wr (.slice lx ll lc) (tK k b j)) := ⟨hl⟩
    obtain ⟨T, hT⟩ : ∃ T, tK k b (j + 1) = T := ⟨_, rfl⟩
    rw [hT] at htg hTl HST
    have HT : VeilM (tK k b (j + 1) = T) := ⟨hT⟩
    obtain ⟨Z, hZ⟩ : ∃ Z, (outK k b j).take n = Z := ⟨_, rfl⟩
    rw [hZ] at ho HST
    have hZl : Z.length = nv := by rw [← hZ, List.length_take, outK_length]; have := HNV.out; omega
    rw [hcast, hC]
    have HC : VeilM ((j : Int) + 1 = C) := ⟨hC⟩
    have hC0 : 0 ≤ C := by omega
    have hC1 : C ≤ 255 := by omega
    have hC2 : C % 256 = C := by omega
    clear hps hkb eT hT hZ hl hlb2 hyr hcast hC hnv hjj
    go_upto_region 9 with (first
     | (go_at_call 57; refine htg.mono ?_; rintro e w2 ⟨rfl, hb2⟩; have hN2 := Holds.new w2 .u8 23 (List.replicate 32 0))
     | (refine wpList_st rfl 23 _ _ rfl _ rfl rfl hN2 (by rw [hTl]; exact sizeKey) (by simp [hTl]) ?_))
    have hs2 := hb2.size
    rw [World.size_alloc, World.size_alloc] at hs2
    have hB3 : Below wr.heap.size wr ((wr.alloc (.cells #[.int .u8 C] 5)).alloc (.cells #[.slice lx ll lc, .slice y lb cb, .slice (some ⟨wr.heap.size, 0, none⟩) 1 1] 74)) := ((Below.refl _ _).alloc (Nat.le_refl _) _).alloc (by simp) _
    have hB2 : Below wr.heap.size wr w2 := hB3.trans (hb2.mono (by simp; omega))
    have hsr := hB.size
    have hsw : w.heap.size + 1 ≤ wr.heap.size := by omega
    refine forget (p := fun y => Code.wp _ _ _ _ y) (fun W3 => Below (w.heap.size + 1) W0 W3 ∧ OwnB W3 (w.heap.size + 1) (.slice xv nv cv) Z ∧ Holds W3 w2.heap.size .u8 23 T) ⟨below_setRow ((hB.trans (hB2.mono hsw)).alloc (by omega) _) (by omega) _, ?_, hN2.setRow _⟩ ?_
    · refine ((ho.belowM hB2).alloc (.cells (row .u8 (List.replicate 32 0)) 23)).keepM (fun g h1 h2 => ?_)
      by_cases hgg : g = w2.heap.size
      · exact .inr (by rw [hgg]; exact ⟨_, _, _, hN2, by decide⟩)
      · exact .inl (setRow_other _ _ _ _ hgg)
    clear hN2 hb2 hB3 hB2 htg hk1 ho
    rintro W3 ⟨hB3, ho3, hT3⟩
    obtain ⟨tb, htb⟩ : ∃ q, w2.heap.size = q := ⟨_, rfl⟩
    rw [htb] at hT3 hs2 ⊢
    clear htb hs2
    simp only [Act.put]
    have hlen3 := hB3.size
    by_cases h32 : 32 ≤ n - nv
    · have hm1 : (32 : Int) ≤ (n : Int) - (nv : Int) := by omega
      have hy3 := hT3.bytes (n := 32) hTl.symm (by omega)
      have HS2 : VeilM (Z ++ T = (outK k b (j + 1)).take n) := ⟨by rw [← HST.out, List.take_of_length_le (l := T) (by omega)]⟩
      go_wp2_with (at_builtin; refine wpList_app rfl _ _ rfl (w.heap.size + 1) _ Z rfl ho3 _ 32 32 T rfl hy3 (by omega) (by omega) ?_; intro v4 w4 ho4 hg4)
      refine ⟨⟨j + 1, by omega, ?_, by rw [← HS2.out]; exact ho4, .inr ⟨tb, rfl, by rw [HT.out]; exact holds_grown hT3 ho3 hg4 (by decide), by rw [HT.out]; exact hTl⟩, below_grown hB3 ho3 hg4 (by omega)⟩, ?_⟩
      · rw [← HC.out]; go_num
      · obtain ⟨x4, n4, c4, rfl, hn4⟩ := ho4.isSlice
        rw [List.length_append] at hn4
        simp only [lenOf]
        omega
    · obtain ⟨m, hm⟩ : ∃ m, n - nv = m := ⟨_, rfl⟩
      have hmi : (n : Int) - (nv : Int) = (m : Int) := by omega
      have hm1 : (m : Int) < 32 := by omega
      have hm0 : 0 < m := by omega
      have hy3 : Bytes W3 (some ⟨tb, 0, none⟩) m 32 (T.take m) := by
       have := (hT3.bytes (n := 32) hTl.symm (by omega)).fewM m
       rw [Nat.min_eq_right (by omega)] at this
       exact this
      have hTm : (T.take m).length = m := by rw [List.length_take]; omega
      rw [hm] at HST
      clear hm h32
      go_wp2_with (at_builtin; refine wpList_app rfl _ _ rfl (w.heap.size + 1) _ Z rfl ho3 _ m 32 (T.take m) rfl hy3 (by omega) (by omega) ?_; intro v4 w4 ho4 hg4)
      refine ⟨⟨j + 1, by omega, ?_, by rw [← HST.out]; exact ho4, .inr ⟨tb, rfl, by rw [HT.out]; exact holds_grown hT3 ho3 hg4 (by decide), by rw [HT.out]; exact hTl⟩, below_grown hB3 ho3 hg4 (by omega)⟩, ?_⟩
      · rw [← HC.out]; go_num
      · obtain ⟨x4, n4, c4, rfl, hn4⟩ := ho4.isSlice
        rw [List.length_append] at hn4
        simp only [lenOf]
        omega
  · subst hv hlv
    have hnn : nv = n := by omega
    subst hnn
    have hje : j = (nv + 31) / 32 := by omega
    have HE : VeilM ((outK k b j).take nv = expL k b nv) := ⟨by unfold expL; rw [← hje]⟩
    have HJ : VeilM (j = (nv + 31) / 32) := ⟨hje⟩
    clear hje hnv hl hlb2
    go_wp2
    go_ret2
    refine ⟨_, rfl, ?_, hBw⟩
    rw [← HE.out]
    exact ho.mono (by omega)
end Go.Proofs.YtflkhkmejnpapaaGreatDoor.S
namespace Go.Proofs.YtflkhkmejnpapaaGreatDoor
open Go.RowKit
set_option maxRecDepth 20000
set_option linter.unusedSimpArgs false
def dotsC (L : List (Int × Int)) : List Value := (L.map fun d => dotC d.1 d.2).flatten
def OwnD (w : World) (base : Nat) (v : Value) (L : List (Int × Int)) : Prop := w.ownsRow base 33 2 v L.length (dotsC L)
theorem OwnD.nil (w : World) (base : Nat) : OwnD w base (.slice none 0 0) [] := World.ownsRow_nil w base 33 2
theorem OwnD.isSlice {w : World} {base : Nat} {v : Value} {L : List (Int × Int)} (h : OwnD w base v L) : ∃ x c, v = .slice x L.length c := by
 rcases h.2 with ⟨rfl, h0⟩ | ⟨g, cap, cur, rfl, _⟩
 · exact ⟨none, 0, by rw [h0]⟩
 · exact ⟨_, _, rfl⟩
theorem OwnD.congr {w w' : World} {base : Nat} {v : Value} {L : List (Int × Int)} (h : OwnD w base v L) (hk : ∀ g, v.ownBlock = some g → w'.heap[g]? = w.heap[g]?) : OwnD w' base v L := by
 refine ⟨h.1, ?_⟩
 rcases h.2 with h' | ⟨g, cap, cur, h1, h2, h3, h4⟩
 · exact .inl h'
 · exact .inr ⟨g, cap, cur, h1, h2, (hk g (by rw [h1]; rfl)).trans h3, h4⟩
theorem OwnD.blockLt {w : World} {base : Nat} {v : Value} {L : List (Int × Int)} (h : OwnD w base v L) (g : Nat) (hg : v.ownBlock = some g) : g < w.heap.size ∧ base ≤ g ∧ ∃ cur, w.heap[g]? = some (.cells cur 33 (0, 0)) := by
 rcases h.2 with ⟨rfl, _⟩ | ⟨g', cap, cur, rfl, h2, h3, _⟩
 · cases hg
 · obtain rfl : g' = g := by simpa [Value.ownBlock] using hg
   exact ⟨(Array.getElem?_eq_some_iff.1 h3).1, h2, cur, h3⟩
theorem dotsC_get (L : List (Int × Int)) (j : Nat) (hj : j < L.length) : ((dotsC L).drop (j * 2)).take 2 = dotC (L[j]).1 (L[j]).2 := by
 induction L generalizing j with
 | nil => simp at hj
 | cons e L ih =>
  have hcons : dotsC (e :: L) = dotC e.1 e.2 ++ dotsC L := by simp [dotsC]
  rw [hcons]
  cases j with
  | zero => rfl
  | succ j =>
   have := ih j (by simpa using hj)
   rw [show (j + 1) * 2 = (dotC e.1 e.2).length + j * 2 by simp [dotC]; omega, List.drop_length_add_append, this]
   rfl
theorem OwnD.at_ {w : World} {base : Nat} {x : Option Addr} {n c : Nat} {L : List (Int × Int)} (h : OwnD w base (.slice x n c) L) (j : Nat) (hj : j < L.length) : ∃ g, x = some ⟨g, 0, none⟩ ∧ n = L.length ∧ w.rangeAt g (j * 2) (dotC (L[j]).1 (L[j]).2) := by
 rcases h.2 with ⟨h1, h0⟩ | ⟨g, cap', cur, h1, _, hg, hc, hm, hs, ht⟩
 · omega
 · cases h1
   refine ⟨g, rfl, rfl, fun i v hv => ?_⟩
   have hi : i < 2 := by have := (List.getElem?_eq_some_iff.1 hv).1; simpa [dotC] using this
   rw [cell_of_row w g _ _ _ _ hg, ← Array.getElem?_toList]
   have e := dotsC_get L j hj
   rw [← ht] at e
   have hlt : j * 2 + i < L.length * 2 := by omega
   rw [← e, List.getElem?_take_of_lt hi, List.getElem?_drop, List.getElem?_take_of_lt hlt] at hv
   exact hv
theorem infoDot : (Tryz.prog.info? 33).map (fun i => (i.zero, i.size, i.bytes)) = some (some (.agg (dotC 0 0).toArray), 2, 8) := by kernel_rfl
theorem wp_appD {w : World} {o : Oper} {a : Act} {K : Act → World → Prop} {Q : Exit → Act → World → Prop} (s x : Operand)
    (ho : o.op = .call { callee := .builtin .append, args := #[s, x], argTypes := #[58, 58] }) (base : Nat) (v : Value) (L : List (Int × Int)) (hs : a.eval s = v) (hown : OwnD w base v L) (d1 d2 : Int)
    (g : Nat) (hx : a.eval x = .slice (some ⟨g, 0, none⟩) 1 1) (hg : w.rangeAt g 0 (dotC d1 d2)) (hln : L.length ≤ 1000000) (hbase : base ≤ w.heap.size)
    (h : ∀ v' w', OwnD w' base v' (L ++ [(d1, d2)]) → w.grownBy w' v.ownBlock → (v'.ownBlock = v.ownBlock ∨ v'.ownBlock = some w.heap.size) → K (a.put o.dst v') w') : o.wp Tryz.prog a w K Q := by
 obtain ⟨i0, hi, hz0, hz1, hz2⟩ := info_parts infoDot
 have h1 : ∀ u ∈ dotC d1 d2, u.oneCell' = true := by
  intro u hu
  simp only [dotC, List.mem_cons, List.not_mem_nil, or_false] at hu
  rcases hu with rfl | rfl <;> rfl
 obtain ⟨v', w', hr, h2, h3, _, h5⟩ := run_append_own_at (P := Tryz.prog) w base 58 o.type 33 i0 _ 2 8 Tryz.underlying58 hi hz0 hz1 hz2 rfl (by decide) v L.length (dotsC L) hown ⟨g, 0, none⟩ 1 1 (dotC d1 d2) rfl (fun j u hu => by rw [show (⟨g, 0, none⟩ : Addr).add j = ⟨g, 0 + j, none⟩ by unfold Addr.add; split <;> simp_all]; exact hg j u hu) h1 (by simp [maxLen]; omega) (by omega) hbase
 unfold Oper.wp execOp
 simp only [ho, resolve, invoke, builtin, Sem.run_bind, Sem.run_pure, Result.andThen_ok, List.map_toArray, List.map_cons, List.map_nil, hs, hx, hr]
 refine h v' w' ?_ h3 h5
 unfold OwnD
 rw [List.length_append, show dotsC (L ++ [(d1, d2)]) = dotsC L ++ dotC d1 d2 by simp [dotsC]]
 exact h2
structure Turn (p : Nat → Prop) (w w' : World) : Prop where
 os : w'.os = w.os
 tape : w'.tape = w.tape
 output : w'.output = w.output
 size : w.heap.size ≤ w'.heap.size
 block : ∀ k, k < w.heap.size → ¬ p k → w'.heap[k]? = w.heap[k]?
theorem Turn.refl (p : Nat → Prop) (w : World) : Turn p w w := ⟨rfl, rfl, rfl, Nat.le_refl _, fun _ _ _ => rfl⟩
theorem Turn.of_below {p : Nat → Prop} {w w' : World} (h : Below w.heap.size w w') : Turn p w w' := ⟨h.os, h.tape, h.output, h.size, fun k hk _ => h.block k hk⟩
theorem Turn.of_grown {p : Nat → Prop} {w w' : World} {r : Option Nat} (h : w.grownBy w' r) (hp : ∀ k, r = some k → p k) : Turn p w w' := ⟨h.os, h.tape, h.output, h.size, fun k hk hn => h.block k hk (fun e => hn (hp k e.symm))⟩
theorem Turn.of_setCell {p : Nat → Prop} (w : World) {a : Addr} (ha : p a.block) (u : Value) : Turn p w (w.setCell a u) := ⟨rfl, rfl, rfl, by simp [World.setCell], fun k _ hn => Below.heap_setCell w a u k (fun e => hn (by rw [e]; exact ha))⟩
theorem Turn.trans {p : Nat → Prop} {a b c : World} (h : Turn p a b) (k : Turn p b c) : Turn p a c :=
 ⟨k.os.trans h.os, k.tape.trans h.tape, k.output.trans h.output, Nat.le_trans h.size k.size, fun i hi hn => (k.block i (Nat.lt_of_lt_of_le hi h.size) hn).trans (h.block i hi hn)⟩
theorem Turn.mono {p q : Nat → Prop} {w w' : World} (h : Turn p w w') (hq : ∀ k, k < w.heap.size → p k → q k) : Turn q w w' := ⟨h.os, h.tape, h.output, h.size, fun k hk hn => h.block k hk (fun e => hn (hq k hk e))⟩
theorem Turn.below {p : Nat → Prop} {w w' : World} {B : Nat} (h : Turn p w w') (hB : B ≤ w.heap.size) (hp : ∀ k, p k → B ≤ k) : Below B w w' := ⟨h.os, h.tape, h.output, h.size, fun k hk => h.block k (by omega) (fun e => by have := hp k e; omega)⟩
end Go.Proofs.YtflkhkmejnpapaaGreatDoor
