/- Hmac. What is kept of rows of the call's own. 'Equal': whether bytes are the same; always all of them are looked at. -/
import Derived.Test.YtfainlfiphdaeaaGreatDoorMGateS2Mac5Mac6
import Derived.Test.YtfainlfiphdaeaaGreatDoorMOwnMac1Mac2
import Derived.Laws.BitsLemmas
import Derived.Laws.Closers25b
namespace Go.Proofs.YtfainlfiphdaeaaGreatDoor.S
open Go.RowKit
set_option maxRecDepth 20000
set_option linter.unusedSimpArgs false

set_option maxHeartbeats 1000000 in
theorem hmac_any (x : Option Addr) (len cap : Nat) (z : List Int) (y : Option Addr) (lb cb : Nat) (b : List Int) (w : World) (hx : Bytes w x len cap z) (hln : len ≤ 1000000) (hy : Bytes w y lb cb b) (hlb : lb ≤ 900000) (hKT : KTab w) :
    Calls Tryz.prog 113 #[.slice x len cap, .slice y lb cb] w fun e w' => e = .returned (.agg (row .u8 (tagL z b))) ∧ Below w.heap.size w w' := by
  have hTl := tagL_length z b
  have hyl := hy.len_eq
  have htg : ∀ (pb : Nat) (wx : World), Below w.heap.size w wx → PartsAt wx wx.heap.size pb [⟨y, lb, cb, b⟩] → Calls Tryz.prog 156 #[.slice x len cap, .slice (some ⟨pb, 0, none⟩) 1 1] wx fun e w' => e = .returned (.agg (row .u8 (tagL z b))) ∧ Below wx.heap.size wx w' := fun pb wx h1 h2 => by
    have := tag_any x len cap z pb 1 1 [⟨y, lb, cb, b⟩] wx (hx.below h1) hln h2 rfl (by omega) (fun j hj => by
      have : (allOf (List.take j [(⟨y, lb, cb, b⟩ : Part)])).length ≤ 900000 := by
        match j with
        | 0 => simp [allOf]
        | j + 1 => simp [allOf]; omega
      omega) (fun p hp => by simp at hp; subst hp; show lb ≤ 1000000; omega) (hKT.below h1)
    have e : allOf [(⟨y, lb, cb, b⟩ : Part)] = b := by simp [allOf]
    rw [e] at this
    exact this
  obtain ⟨TG, hTG⟩ : ∃ q, tagL z b = q := ⟨_, rfl⟩
  rw [hTG] at hTl htg ⊢
  clear hTG hx hyl
  go_enter Tryz.func113, Tryz.ntmps113
  go_upto_region 1 with fail
  refine forget (p := fun y => Code.wp _ _ _ _ y) (fun W0 => Below w.heap.size w W0 ∧ W0.heap.size = w.heap.size + 1 ∧ Holds W0 w.heap.size .u8 23 (List.replicate 32 0)) ⟨(Below.refl _ _).alloc (Nat.le_refl _) _, by simp, Holds.new w .u8 23 (List.replicate 32 0)⟩ ?_
  rintro W0 ⟨hB0, hs0, hR0⟩
  have hB1 : Below W0.heap.size W0 (W0.alloc (.cells #[.slice y lb cb] 41)) := (Below.refl _ _).alloc (Nat.le_refl _) _
  have hBw : Below w.heap.size w (W0.alloc (.cells #[.slice y lb cb] 41)) := hB0.trans (hB1.mono hB0.size)
  have hp1 : PartsAt (W0.alloc (.cells #[.slice y lb cb] 41)) (W0.alloc (.cells #[.slice y lb cb] 41)).heap.size (w.heap.size + 1) [⟨y, lb, cb, b⟩] :=
    partsOne (t := 41) (by have := heap_alloc_new W0 (.cells #[.slice y lb cb] 41); rw [hs0] at this; exact this) (by simp [hs0]) (Nat.le_refl _) (hy.below hBw) (fun bb off h hl => by
      rcases hy.at_ with h0 | ⟨b', off', hx', hc⟩
      · omega
      · have e : bb = b' := by
          rw [h] at hx'
          injection hx' with h1
          injection h1
        have hlt : b' < w.heap.size := block_lt_of_cell (hc 0 hl)
        rw [e, World.size_alloc, hs0]; omega)
  have ht1 := htg _ _ hBw hp1
  have hR1 := hR0.below hB1 hR0.lt
  clear htg hp1 hy hR0
  go_wp2_with (first
    | (go_at_call 156; refine ht1.mono ?_; rintro e w2 ⟨rfl, hb2⟩; have hR2 := hR1.below hb2 hR1.lt)
    | (refine wpList_st rfl 23 _ _ rfl _ rfl rfl hR2 (by rw [hTl]; exact sizeKey) (by simp [hTl]) ?_))
  refine bodyPost_ret (results_holds (Tryz.results113) _ rfl (hR2.setRow _) Tryz.underlying23 sizeKey hTl) rfl ⟨rfl, ?_⟩
  exact below_setRow (hBw.trans (hb2.mono hBw.size)) (Nat.le_refl _) _
end Go.Proofs.YtfainlfiphdaeaaGreatDoor.S

namespace Go.Proofs.YtfainlfiphdaeaaGreatDoor.S
open Go.RowKit
set_option maxRecDepth 20000
set_option linter.unusedSimpArgs false

theorem own_first {w : World} {base : Nat} {v : Value} {z : List Int} (h : OwnB w base v z) (hz : 0 < z.length) : ∃ g, v.ownBlock = some g ∧ w.cell? ⟨g, 0, none⟩ = some (.int .u8 (z[0]?.getD 0)) := by
  rcases h.2 with ⟨_, h0⟩ | ⟨g, cap, cur, rfl, hb, hg, hc, hm, hs, ht⟩
  · omega
  · refine ⟨g, rfl, ?_⟩
    rw [cell_of_row w g 0 _ _ _ hg, ← Array.getElem?_toList]
    have e : (cur.toList.take (z.length * 1))[0]? = (z.map (Value.int .u8))[0]? := by rw [ht]
    rw [Nat.mul_one, List.getElem?_take_of_lt hz, List.getElem?_map, List.getElem?_eq_getElem hz] at e
    rw [e, List.getElem?_eq_getElem hz]; rfl
/-- Rows whose first bytes are unlike lie apart. -/
theorem own_apart {w : World} {base base' : Nat} {v u : Value} {z y : List Int} (hv : OwnB w base v z) (hu : OwnB w base' u y) (hz : 0 < z.length) (hy : 0 < y.length) (hne : z[0]?.getD 0 ≠ y[0]?.getD 0) : v.ownBlock ≠ u.ownBlock := by
  obtain ⟨g, h1, h2⟩ := own_first hv hz
  obtain ⟨g', h3, h4⟩ := own_first hu hy
  intro e
  rw [h1, h3] at e
  cases e
  have h5 := Option.some.inj (h2.symm.trans h4)
  injection h5 with _ h6
  exact hne h6
theorem own_kept {w w' : World} {base : Nat} {u v : Value} {y : List Int} (hu : OwnB w base u y) (hg : w.grownBy w' v.ownBlock) (hne : u = .slice none 0 0 ∨ v.ownBlock = none ∨ v.ownBlock ≠ u.ownBlock) : OwnB w' base u y := by
  refine ⟨hu.1, ?_⟩
  rcases hu.2 with h' | ⟨g, cap, cur, h1, h2, h3, h4⟩
  · exact .inl h'
  · refine .inr ⟨g, cap, cur, h1, h2, ?_, h4⟩
    rw [hg.block g (Array.getElem?_eq_some_iff.1 h3).1 (fun e => by
      rcases hne with h | h | h
      · rw [h1] at h; cases h
      · rw [h] at e; cases e
      · exact h (by rw [h1]; exact e.symm))]
    exact h3
theorem OwnB.belowM {w w' : World} {base : Nat} {v : Value} {z : List Int} (h : OwnB w base v z) (hb : Below w.heap.size w w') : OwnB w' base v z := by
  refine ⟨h.1, ?_⟩
  rcases h.2 with h' | ⟨g, cap, cur, h1, h2, h3, h4⟩
  · exact .inl h'
  · refine .inr ⟨g, cap, cur, h1, h2, ?_, h4⟩
    rw [hb.block g (Array.getElem?_eq_some_iff.1 h3).1]; exact h3
theorem xor_ne (c : Int) (h0 : 0 ≤ c) (h1 : c ≤ 255) : bits .xor .u8 c 54 ≠ bits .xor .u8 c 92 := by
  obtain ⟨n, rfl⟩ : ∃ n : Nat, c = n := ⟨c.toNat, by omega⟩
  have hn : n < 256 := by omega
  have key : ∀ m : Fin 256, bits .xor .u8 (m.1 : Int) 54 ≠ bits .xor .u8 (m.1 : Int) 92 := by decide +kernel
  exact key ⟨n, hn⟩

/-- What is kept of a row of the call's own where only blocks of another type turn. -/
theorem OwnB.keepM {w w' : World} {base : Nat} {v : Value} {z : List Int} (h : OwnB w base v z) (hk : ∀ g, base ≤ g → g < w.heap.size → w'.heap[g]? = w.heap[g]? ∨ ∃ cs t fr, w.heap[g]? = some (.cells cs t fr) ∧ t ≠ 5) : OwnB w' base v z := by
  refine ⟨h.1, ?_⟩
  rcases h.2 with h' | ⟨g, cap, cur, h1, h2, h3, h4⟩
  · exact .inl h'
  · refine .inr ⟨g, cap, cur, h1, h2, ?_, h4⟩
    rcases hk g h2 (Array.getElem?_eq_some_iff.1 h3).1 with h | ⟨cs, t, fr, h5, h6⟩
    · rw [h]; exact h3
    · rw [h3] at h5
      simp at h5
      exact absurd h5.2.1.symm h6
theorem holds_grown {w w' : World} {g base : Nat} {t : TypeId} {l z : List Int} {v : Value} (h : Holds w g .u8 t l) (hv : OwnB w base v z) (hg : w.grownBy w' v.ownBlock) (ht : t ≠ 5) : Holds w' g .u8 t l := by
  have hl := h.lt
  unfold Holds at h ⊢
  rw [hg.block g hl (fun e => by
    rcases hv.2 with ⟨rfl, _⟩ | ⟨g', cap, cur, rfl, _, h3, _⟩
    · cases e
    · simp [Value.ownBlock] at e
      subst e
      rw [h] at h3
      simp at h3
      exact ht h3.2)]
  exact h
theorem wp_appM {w : World} {o : Oper} {a : Act} {K : Act → World → Prop} {Q : Exit → Act → World → Prop} (s x : Operand)
    (ho : o.op = .call { callee := .builtin .append, args := #[s, x], argTypes := #[41, 41] }) (base : Nat) (v : Value) (zs : List Int) (hs : a.eval s = v) (hown : OwnB w base v zs)
    (g len cap : Nat) (z : List Int) (hx : a.eval x = .slice (some ⟨g, 0, none⟩) len cap) (hb : Bytes w (some ⟨g, 0, none⟩) len cap z) (hln : zs.length + len ≤ 4000000) (hbase : base ≤ w.heap.size)
    (h : ∀ v' w', OwnB w' base v' (zs ++ z) → w.grownBy w' v.ownBlock → K (a.put o.dst v') w') : o.wp Tryz.prog a w K Q := by
  obtain ⟨i0, hi, hz0, hz1, hz2⟩ := info_parts infoU8
  have hzl := hb.len_eq
  refine wp_append_own w s x 41 ho base 5 i0 (.int .u8 0) 1 1 Tryz.underlying41 hi hz0 hz1 hz2 rfl (by decide) v zs.length (zs.map (Value.int .u8)) hs hown ⟨g, 0, none⟩ len cap (z.map (Value.int .u8)) hx (by simp [hzl]) ?_ (by simp [Value.oneCell']) (by simp [maxLen]; omega) (by omega) hbase ?_
  · intro j u hu
    have hj : j < len := by have := (List.getElem?_eq_some_iff.1 hu).1; simpa [hzl] using this
    rcases hb.at_ with h0 | ⟨b, off, hy, hc⟩
    · omega
    · cases hy
      rw [Addr.add_mid', hc j hj, ← hu, List.getElem?_map, List.getElem?_eq_getElem (by omega)]; rfl
  · intro v' w' h1 h2 _
    exact h v' w' (OwnB.cast h1 (by simp [hzl]) (by simp)) h2

end Go.Proofs.YtfainlfiphdaeaaGreatDoor.S

namespace Go.Proofs.YtfainlfiphdaeaaGreatDoor.S
open Go.RowKit
set_option maxRecDepth 20000

theorem bits_xor_u8_nat (a b : Nat) (ha : a < 256) (hb : b < 256) :
    bits .xor .u8 (a : Int) (b : Int) = ((a ^^^ b : Nat) : Int) := by
  have hx : a ^^^ b < 2 ^ 8 := Nat.xor_lt_two_pow (by omega) (by omega)
  have h1 : (BitVec.ofInt 8 (a : Int)).toNat = a := by
    rw [BitVec.ofInt_natCast, BitVec.toNat_ofNat]; exact Nat.mod_eq_of_lt (by omega)
  have h2 : (BitVec.ofInt 8 (b : Int)).toNat = b := by
    rw [BitVec.ofInt_natCast, BitVec.toNat_ofNat]; exact Nat.mod_eq_of_lt (by omega)
  show IntKind.u8.wrap ((BitVec.ofInt 8 (a : Int) ^^^ BitVec.ofInt 8 (b : Int)).toNat : Int) = _
  rw [BitVec.toNat_xor, h1, h2, IntKind.wrap_u8]
  omega
theorem orx_step (u p q : Int) (hu : 0 ≤ u ∧ u ≤ 255) (hp : 0 ≤ p ∧ p ≤ 255) (hq : 0 ≤ q ∧ q ≤ 255) : bits .or .u8 u (bits .xor .u8 p q) = 0 ↔ u = 0 ∧ p = q := by
  obtain ⟨a, rfl⟩ := Int.eq_ofNat_of_zero_le hu.1
  obtain ⟨b, rfl⟩ := Int.eq_ofNat_of_zero_le hp.1
  obtain ⟨c, rfl⟩ := Int.eq_ofNat_of_zero_le hq.1
  have hx : b ^^^ c < 2 ^ 8 := Nat.xor_lt_two_pow (by omega) (by omega)
  rw [bits_xor_u8_nat b c (by omega) (by omega), (bits_nat .u8 8 (by decide) wraps_u8 a (b ^^^ c) (by omega) hx).2]
  constructor
  · intro h
    have h' : a ||| (b ^^^ c) = 0 := by exact_mod_cast h
    have h2 := Nat.or_eq_zero_iff.1 h'
    have h3 : b ^^^ (b ^^^ c) = c := by rw [← Nat.xor_assoc, Nat.xor_self, Nat.zero_xor]
    rw [h2.2, Nat.xor_zero] at h3
    exact ⟨by omega, by omega⟩
  · rintro ⟨h1, h2⟩
    have : b = c := by omega
    subst this
    have : a = 0 := by omega
    subst this
    simp
/-- What is unlike of the first k bytes. -/
def orx (z b : List Int) : Nat → Int
  | 0 => 0
  | k + 1 => bits .or .u8 (orx z b k) (bits .xor .u8 (z[k]?.getD 0) (b[k]?.getD 0))
theorem orx_within (z b : List Int) (k : Nat) : 0 ≤ orx z b k ∧ orx z b k ≤ 255 := by
  cases k with
  | zero => exact ⟨by simp [orx], by simp [orx]⟩
  | succ k => exact ⟨bits_lo_u8 _ _ _, bits_hi_u8 _ _ _⟩
theorem getD_byte {z : List Int} (h : ∀ v ∈ z, 0 ≤ v ∧ v ≤ 255) (k : Nat) : 0 ≤ z[k]?.getD 0 ∧ z[k]?.getD 0 ≤ 255 := by
  by_cases hk : k < z.length
  · rw [List.getElem?_eq_getElem hk]; exact h _ (List.getElem_mem hk)
  · rw [List.getElem?_eq_none (by omega)]; simp
theorem orx_zero (z b : List Int) (hz : ∀ v ∈ z, 0 ≤ v ∧ v ≤ 255) (hb : ∀ v ∈ b, 0 ≤ v ∧ v ≤ 255) (k : Nat) : orx z b k = 0 ↔ ∀ i, i < k → z[i]?.getD 0 = b[i]?.getD 0 := by
  induction k with
  | zero => simp [orx]
  | succ k ih =>
    simp only [orx]
    rw [orx_step _ _ _ (orx_within z b k) (getD_byte hz k) (getD_byte hb k), ih]
    constructor
    · rintro ⟨h1, h2⟩ i hi
      by_cases h : i = k
      · subst h; exact h2
      · exact h1 i (by omega)
    · intro h
      exact ⟨fun i hi => h i (by omega), h k (by omega)⟩
theorem orx_eq (z b : List Int) (hz : ∀ v ∈ z, 0 ≤ v ∧ v ≤ 255) (hb : ∀ v ∈ b, 0 ≤ v ∧ v ≤ 255) (hl : z.length = b.length) : (orx z b z.length == 0) = (z == b) := by
  rw [Bool.eq_iff_iff]
  simp only [beq_iff_eq]
  rw [orx_zero z b hz hb]
  constructor
  · intro h
    apply List.ext_getElem hl
    intro i h1 h2
    have := h i h1
    simpa [h1, h2] using this
  · rintro rfl i _; rfl

/-- A fact that no tactic looks into till it is opened. -/
structure VeilE (p : Prop) : Prop where
  out : p
theorem ret_b {a b : Bool} (h : a = b) : Ending.returned (.bool a) = .returned (.bool b) := by rw [h]
theorem orx_succ (z b : List Int) (k : Nat) (p q : Int) (hp : z[k]?.getD 0 = p) (hq : b[k]?.getD 0 = q) : orx z b (k + 1) = bits .or .u8 (orx z b k) (bits .xor .u8 p q) := by subst hp hq; rfl

set_option maxHeartbeats 1000000 in
theorem equal_any (x : Option Addr) (len cap : Nat) (z : List Int) (y : Option Addr) (lb cb : Nat) (b : List Int) (w : World) (hx : Bytes w x len cap z) (hy : Bytes w y lb cb b) (hz : ∀ v ∈ z, 0 ≤ v ∧ v ≤ 255) (hb : ∀ v ∈ b, 0 ≤ v ∧ v ≤ 255) :
    Calls Tryz.prog 77 #[.slice x len cap, .slice y lb cb] w fun e w' => e = .returned (.bool (z == b)) ∧ ∃ n, w' = w.drewN n := by
  have hxl := hx.len_eq
  have hyl := hy.len_eq
  have hle := hx.le
  have htop := hx.top
  by_cases hl : len = lb
  · have HE : VeilE ((orx z b len == 0) = (z == b)) := ⟨by rw [hxl]; exact orx_eq z b hz hb (by omega)⟩
    subst hl
    clear hz hb hxl hyl
    go_enter Tryz.func77, Tryz.ntmps77
    go_wp2
    go_loopw [5, 14] (fun u i wr => ∃ k : Nat, k ≤ len ∧ i = .int .i64 k ∧ u = .int .u8 (orx z b k) ∧ ∃ n, wr = w.drewN n) (fun _ i _ => len - (intOf i).toNat)
    case atStart => exact ⟨0, by omega, rfl, rfl, 0, rfl⟩
    case round =>
      obtain ⟨k, hk, rfl, rfl, n, rfl⟩ := hrel
      by_cases hlt : k < len
      · obtain ⟨b1, o1, hx1, hc1⟩ : ∃ b off, x = some ⟨b, off, none⟩ ∧ ∀ j, j < len → w.cell? ⟨b, off + j, none⟩ = some (.int .u8 (z[j]?.getD 0)) := by
          rcases hx.at_ with h0 | h
          · omega
          · exact h
        obtain ⟨b2, o2, hx2, hc2⟩ : ∃ b' off, y = some ⟨b', off, none⟩ ∧ ∀ j, j < len → w.cell? ⟨b', off + j, none⟩ = some (.int .u8 (b[j]?.getD 0)) := by
          rcases hy.at_ with h0 | h
          · omega
          · exact h
        subst hx1 hx2
        have c1 := hc1 k hlt
        have c2 := hc2 k hlt
        obtain ⟨p, hp⟩ : ∃ p, z[k]?.getD 0 = p := ⟨_, rfl⟩
        obtain ⟨q, hq⟩ : ∃ q, b[k]?.getD 0 = q := ⟨_, rfl⟩
        have HS : VeilE (orx z b (k + 1) = bits .or .u8 (orx z b k) (bits .xor .u8 p q)) := ⟨orx_succ z b k p q hp hq⟩
        rw [hp] at c1
        rw [hq] at c2
        obtain ⟨U, hU⟩ : ∃ q, orx z b k = q := ⟨_, rfl⟩
        rw [hU] at HS ⊢
        have hki : (0 : Int) ≤ (k : Int) := by omega
        have hkl : (k : Int) < (len : Int) := by omega
        clear hc1 hc2 hp hq hU hx hy HE
        go_wp2
        go_quiet ((fail))
        go_wp2
        go_roundw
        case rel => exact ⟨k + 1, by omega, by go_num, by rw [HS.out], n + nq, by simp⟩
        case measure => simp [intOf]; omega
      · obtain rfl : k = len := by omega
        go_wp2
        go_ret
        exact ⟨ret_b HE.out, n, rfl⟩
  · have hne : (z == b) = false := by
      rw [beq_eq_false_iff_ne]
      intro h
      exact hl (by rw [hxl, hyl, h])
    have hli : ¬ ((len : Int) = (lb : Int)) := by omega
    rw [hne]
    clear hxl hyl
    go_enter Tryz.func77, Tryz.ntmps77
    go_wp2
    go_ret
    exact ⟨rfl, 0, rfl⟩
end Go.Proofs.YtfainlfiphdaeaaGreatDoor.S
