/- Gate5 Gd Rd1 Rd2 Rd3 -/
import Derived.Test.YtfainlfiphdaeaaGreatDoorT01
import Derived.Test.YtfainlfiphdaeaaGreatDoorT02
import Derived.Defers
import Derived.Recover
import Derived.WalkLawsBesides
namespace Go.Proofs.YtfainlfiphdaeaaGreatDoor
open Go Go.RowKit
section
variable {P : Program} {ops : Array Oper} {Q : Exit → Act → World → Prop} {md : Region.Mode} {S : World → Prop} {D : Nat}
theorem wpAnyG_two {i j : Nat} {oi oj : Oper} {fuel : Nat} {listed : Array Bool} {a : Act} {w : World} (hi : ops[i]? = some oi) (hj : ops[j]? = some oj) (hr : Region.ready md ops listed = [i, j])
    (hwi : Region.wanted oi (yielded ops a.tmps) = true) (hwj : Region.wanted oj (yielded ops a.tmps) = true)
    (h1 : ∀ K' : Act → World → Prop, Shut (∀ a w, ((listed.setIfInBounds i true).getD D true = false → S w) → wpAnyG P md ops Q S D fuel (listed.setIfInBounds i true) a w → K' a w) → Oper.wp P oi a w K' Q)
    (h2 : ∀ K' : Act → World → Prop, Shut (∀ a w, ((listed.setIfInBounds j true).getD D true = false → S w) → wpAnyG P md ops Q S D fuel (listed.setIfInBounds j true) a w → K' a w) → Oper.wp P oj a w K' Q) : wpAnyG P md ops Q S D (fuel + 1) listed a w :=
  ⟨fun h0 => (by rw [hr] at h0; cases h0), fun q hq => by
    rw [hr] at hq
    rcases List.mem_cons.1 hq with rfl | hq
    · refine wpOp_step hi (fun K' hK => ?_)
      rw [if_pos hwi]
      exact h1 K' (fun a w h1 h2 => hK a w ⟨h1, h2⟩)
    · obtain rfl : q = j := by simpa using hq
      refine wpOp_step hj (fun K' hK => ?_)
      rw [if_pos hwj]
      exact h2 K' (fun a w h1 h2 => hK a w ⟨h1, h2⟩)⟩
end
theorem meet {α : Prop} (R : Nat → Value → World → Prop) (C : Nat → Value → World → Prop) (use : Veil (∀ g v w, R g v w → C g v w) → α) (prove : ∀ g v w, R g v w → C g v w) : α := use ⟨prove⟩
end Go.Proofs.YtfainlfiphdaeaaGreatDoor
namespace Go.Proofs.YtfainlfiphdaeaaGreatDoor
open Go.RowKit
set_option maxRecDepth 20000
set_option linter.unusedSimpArgs false
section
variable {P : Program} {ops : Array Oper} {Q : Exit → Act → World → Prop} {md : Region.Mode} {S : World → Prop} {D : Nat}
end
theorem wp_appA {w : World} {o : Oper} {a : Act} {K : Act → World → Prop} {Q : Exit → Act → World → Prop} (s x : Operand)
    (ho : o.op = .call { callee := .builtin .append, args := #[s, x], argTypes := #[41, 41] }) (base : Nat) (v : Value) (zs : List Int) (hs : a.eval s = v) (hown : OwnB w base v zs)
    (y : Option Addr) (len cap : Nat) (z : List Int) (hx : a.eval x = .slice y len cap) (hb : Bytes w y len cap z) (hln : zs.length + len ≤ 4000000) (hbase : base ≤ w.heap.size)
    (h : ∀ v' w', OwnB w' base v' (zs ++ z) → w.grownBy w' v.ownBlock → K (a.put o.dst v') w') : o.wp Tryz.prog a w K Q := by
  obtain ⟨i0, hi, hz0, hz1, hz2⟩ := info_parts infoU8
  have hzl := hb.len_eq
  have hcase : ∀ ad : Addr, y = some ad → (∀ j u, (z.map (Value.int .u8))[j]? = some u → w.cell? (ad.add j) = some u) → o.wp Tryz.prog a w K Q := fun ad hy hsrc => by
    subst hy
    refine wp_append_own w s x 41 ho base 5 i0 (.int .u8 0) 1 1 Tryz.underlying41 hi hz0 hz1 hz2 rfl (by decide) v zs.length (zs.map (Value.int .u8)) hs hown ad len cap (z.map (Value.int .u8)) hx (by simp [hzl]) hsrc (by simp [Value.oneCell']) (by simp [maxLen]; omega) (by omega) hbase ?_
    intro v' w' h1 h2 _
    exact h v' w' (OwnB.cast h1 (by simp [hzl]) (by simp)) h2
  rcases hb.at_ with h0 | ⟨b, off, hy, hc⟩
  · have hz0' : z = [] := List.length_eq_zero_iff.1 (by omega)
    cases y with
    | none =>
      have hc0 := hb.nil rfl
      subst h0 hc0 hz0'
      have hrun := run_append_owned_none (P := Tryz.prog) (w := w) base 41 o.type 5 i0 1 Tryz.underlying41 hi v zs.length (zs.map (Value.int .u8)) hown
      unfold Oper.wp
      simp [execOp, ho, resolve, invoke, builtin, hs, hx, hrun, Result.andThen]
      exact h v w (by rw [List.append_nil]; exact hown) ⟨rfl, rfl, rfl, Nat.le_refl _, fun _ _ _ => rfl⟩
    | some ad => exact hcase ad rfl (fun j u hu => by subst hz0'; simp at hu)
  · exact hcase _ hy (fun j u hu => by
      have hj : j < len := by have := (List.getElem?_eq_some_iff.1 hu).1; simpa [hzl] using this
      rw [Addr.add_mid', hc j hj, ← hu, List.getElem?_map, List.getElem?_eq_getElem (by omega)]; rfl)
theorem OwnB.keep {w w' : World} {base : Nat} {v : Value} {z : List Int} (h : OwnB w base v z) (hk : ∀ g, base ≤ g → g < w.heap.size → w'.heap[g]? = w.heap[g]?) : OwnB w' base v z := by
  refine ⟨h.1, ?_⟩
  rcases h.2 with h' | ⟨g, cap, cur, h1, h2, h3, h4⟩
  · exact .inl h'
  · refine .inr ⟨g, cap, cur, h1, h2, ?_, h4⟩
    rw [hk g h2 (Array.getElem?_eq_some_iff.1 h3).1]; exact h3
end Go.Proofs.YtfainlfiphdaeaaGreatDoor
namespace Go.Proofs.YtfainlfiphdaeaaGreatDoor
open Go.RowKit
set_option maxRecDepth 20000
set_option linter.unusedSimpArgs false
theorem bodyPost_gone {P : Program} {fn : Func} {R : Ending → World → Prop} {ch : List PanicEntry} {t : Array Value} {w : World} (h : R (.panicked ch) w) : bodyPost P fn R (.panic ch) ⟨t, []⟩ w := ⟨rfl, h⟩
def wrongP : PanicEntry := { v := .iface 196 (.agg #[]), recovered := false }
set_option maxHeartbeats 1000000 in
theorem need_ok (w : World) : Calls Tryz.prog 164 #[.bool true] w fun e w' => (∃ r, e = .returned r) ∧ w = w' := by
  go_enter Tryz.func164, Tryz.ntmps164
  go_wp2
  go_end0
  exact ⟨⟨_, rfl⟩, rfl⟩
set_option maxHeartbeats 1000000 in
theorem need_bad (w : World) : Calls Tryz.prog 164 #[.bool false] w fun e w' => e = .panicked [wrongP] ∧ w = w' := by
  go_enter Tryz.func164, Tryz.ntmps164
  go_wp2
  exact bodyPost_gone ⟨rfl, rfl⟩
theorem Bytes.cut3 {w : World} {x : Option Addr} {len cap : Nat} {z : List Int} (hb : Bytes w x len cap z) (k : Nat) (hk : k ≤ len) : Bytes w (subA x k 0) k k (z.take k) := by
  have hz := hb.len_eq
  have hle := hb.le
  refine ⟨by rw [List.length_take]; omega, Nat.le_refl _, by have := hb.top; omega, ?_, ?_⟩
  · unfold subA
    split
    · intro _; omega
    · intro hn
      cases x with
      | none => have := hb.nil rfl; omega
      | some a => simp at hn
  · by_cases h0 : k = 0
    · exact .inl h0
    · rcases hb.at_ with h00 | ⟨b, off, hx, hc⟩
      · omega
      · refine .inr ⟨b, off, ?_, fun j hj => ?_⟩
        · unfold subA
          rw [if_neg (by omega), hx, Option.map_some, Addr.add_mid', Nat.zero_mul, Nat.add_zero]
        · rw [List.getElem?_take_of_lt hj]; exact hc j (by omega)
theorem run_cut_hm (w : World) (x : Option Addr) (len cap k : Nat) (hk : k ≤ cap) : (Instr.slice 41 (.slice x len cap) none (some (.int .i64 (k : Int))) (some (.int .i64 (k : Int)))).run Tryz.prog w = .ok (.slice (subA x k 0) k k) w := by
  rw [run_slice_hm w 41 x len cap elemB .i64 .i64 (k : Int) (k : Int) (by omega) (by omega) (by omega), sizeU8]
  simp [sliced, subA, Result.andThen]
structure Rd (w : World) (R base : Nat) (z : List Int) : Prop where
  ge : base ≤ R
  has : ∃ x n c, Box w R 200 (.slice x n c) ∧ ∀ wx, Below base w wx → Bytes wx x n c z
structure Took (w w' : World) (R base : Nat) : Prop where
  below : Below base w w'
  more : w.heap.size ≤ w'.heap.size
  kept : ∀ g, g < w.heap.size → g ≠ R → w'.heap[g]? = w.heap[g]?
theorem Took.refl (w : World) (R base : Nat) : Took w w R base := ⟨Below.refl _ _, Nat.le_refl _, fun _ _ _ => rfl⟩
theorem Took.trans {w w' w'' : World} {R base : Nat} (h : Took w w' R base) (h' : Took w' w'' R base) : Took w w'' R base := ⟨h.below.trans h'.below, Nat.le_trans h.more h'.more, fun g h1 h2 => by rw [h'.kept g (Nat.lt_of_lt_of_le h1 h.more) h2, h.kept g h1 h2]⟩
theorem Took.alloc {w : World} {R base : Nat} (hb : base ≤ w.heap.size) (o : Obj) : Took w (w.alloc o) R base := ⟨(Below.refl _ _).alloc hb _, by simp, fun g h1 _ => Below.heap_alloc w o g h1⟩
theorem Took.afar {w w' : World} {R base : Nat} (hb : base ≤ w.heap.size) (h : Below w.heap.size w w') : Took w w' R base := ⟨h.mono hb, h.size, fun g h1 _ => h.block g h1⟩
theorem Rd.size {w : World} {R base : Nat} {z : List Int} (h : Rd w R base z) : base ≤ w.heap.size := by
  obtain ⟨x, n, c, hb, _⟩ := h.has
  have := hb.lt
  have := h.ge
  omega
theorem Rd.lt {w : World} {R base : Nat} {z : List Int} (h : Rd w R base z) : R < w.heap.size := by
  obtain ⟨x, n, c, hb, _⟩ := h.has
  exact hb.lt
theorem Rd.afar {w w' : World} {R base : Nat} {z : List Int} (h : Rd w R base z) (hb : Below w.heap.size w w') : Rd w' R base z := by
  have hs := h.size
  obtain ⟨x, n, c, h1, h2⟩ := h.has
  refine ⟨h.ge, x, n, c, ?_, fun wx hx => h2 wx ((hb.mono hs).trans hx)⟩
  unfold Box at h1 ⊢
  rw [hb.block R (Array.getElem?_eq_some_iff.1 h1).1]; exact h1
theorem Rd.alloc {w : World} {R base : Nat} {z : List Int} (h : Rd w R base z) (o : Obj) : Rd (w.alloc o) R base z := h.afar ((Below.refl _ _).alloc (Nat.le_refl _) _)
set_option maxHeartbeats 2000000 in
theorem take_any (R base : Nat) (z : List Int) (k : Nat) (w : World) (hR : Rd w R base z) :
    Calls Tryz.prog 173 #[.pointer (some ⟨R, 0, none⟩), .int .i64 k] w fun e w' =>
      (k ≤ z.length ∧ ∃ x, e = .returned (.slice x k k) ∧ (∀ wx, Below base w' wx → Bytes wx x k k (z.take k)) ∧ Rd w' R base (z.drop k) ∧ Took w w' R base) ∨ (z.length < k ∧ e = .panicked [wrongP] ∧ Took w w' R base) := by
  have hge := hR.ge
  obtain ⟨x, n, c, hbx, hby⟩ := hR.has
  have hb0 := hby w (Below.refl _ _)
  have hn := hb0.len_eq
  have hle := hb0.le
  have htop := hb0.top
  have hc := hbx.cell
  have hf := hbx.frozen
  by_cases h : k ≤ n
  · have hki : (k : Int) ≤ (n : Int) := by omega
    have hc3 := fun wx => run_cut_hm wx x n c k (by omega)
    have hcl := fun wx => run_cut_l wx x n c k h
    have hnd := need_ok w
    have HB : Veil (∀ wx, Below base w wx → Bytes wx x n c z) := ⟨hby⟩
    have HN : Veil (n = z.length) := ⟨hn⟩
    clear hR hb0 hby hn
    go_enter Tryz.func173, Tryz.ntmps173
    go_wp2_with (go_at_call 164; refine hnd.mono ?_; rintro e w1 ⟨⟨r1, rfl⟩, rfl⟩)
    go_ret
    have hBs : Below base w (w.setCell ⟨R, 0, none⟩ (.slice (subA x c k) (n - k) (c - k))) := (Below.refl _ _).setCell hge _
    refine .inl ⟨by rw [← HN.out]; exact h, _, rfl, fun wx hx => (HB.out wx (hBs.trans hx)).cut3 k h, ⟨hge, _, _, _, hbx.set _, fun wx hx => ?_⟩, ⟨hBs, by simp [World.setCell], fun g h1 h2 => heap_setCell_other _ _ g _ h2⟩⟩
    have := (HB.out wx (hBs.trans hx)).cut k n h (Nat.le_refl _)
    rw [List.take_of_length_le (by rw [List.length_drop, HN.out]; exact Nat.le_refl _)] at this
    exact this
  · have hki : ¬ (k : Int) ≤ (n : Int) := by omega
    have hnd := need_bad w
    have HN : Veil (n = z.length) := ⟨hn⟩
    clear hR hb0 hby hn
    go_enter Tryz.func173, Tryz.ntmps173
    go_wp2_with (go_at_call 164; refine hnd.mono ?_; rintro e w1 ⟨rfl, rfl⟩)
    exact bodyPost_gone (.inr ⟨by rw [← HN.out]; omega, rfl, Took.refl _ _ _⟩)
end Go.Proofs.YtfainlfiphdaeaaGreatDoor
namespace Go.Proofs.YtfainlfiphdaeaaGreatDoor
open Go.RowKit
set_option maxRecDepth 20000
set_option linter.unusedSimpArgs false
abbrev b8 (x : Int) : Prop := 0 ≤ x ∧ x ≤ 255
theorem or_i64 (a b : Nat) (ha : a < 65536) (hb : b < 256) : bits .or .i64 ((a * 256 : Nat) : Int) (b : Int) = ((a * 256 + b : Nat) : Int) := by
  have h1 : (BitVec.ofInt 64 ((a * 256 : Nat) : Int)).toNat = a * 256 := by
    rw [BitVec.ofInt_natCast, BitVec.toNat_ofNat]; exact Nat.mod_eq_of_lt (by omega)
  have h2 : (BitVec.ofInt 64 (b : Int)).toNat = b := by
    rw [BitVec.ofInt_natCast, BitVec.toNat_ofNat]; exact Nat.mod_eq_of_lt (by omega)
  have h3 : a * 256 ||| b = a * 256 + b := by
    have := Nat.two_pow_add_eq_or_of_lt (i := 8) (b := b) (by omega) a
    rw [Nat.mul_comm] at this
    exact this.symm
  show IntKind.i64.wrap ((BitVec.ofInt 64 ((a * 256 : Nat) : Int) ||| BitVec.ofInt 64 (b : Int)).toNat : Int) = _
  rw [BitVec.toNat_or, h1, h2, h3, IntKind.wrap_i64]
  omega
theorem or_u32 (a b i m : Nat) (hm : 2 ^ i = m) (ha : a * m < 4294967296) (hi : m ≤ 4294967296) (hb : b < m) : bits .or .u32 ((a * m : Nat) : Int) (b : Int) = ((a * m + b : Nat) : Int) := by
  have h3 : a * m ||| b = a * m + b := by
    have := Nat.two_pow_add_eq_or_of_lt (i := i) (b := b) (by omega) a
    rw [hm, Nat.mul_comm] at this
    exact this.symm
  have hx : a * m ||| b < 2 ^ 32 := Nat.or_lt_two_pow (by omega) (by omega)
  have h1 : (BitVec.ofInt 32 ((a * m : Nat) : Int)).toNat = a * m := by
    rw [BitVec.ofInt_natCast, BitVec.toNat_ofNat]; exact Nat.mod_eq_of_lt (by omega)
  have h2 : (BitVec.ofInt 32 (b : Int)).toNat = b := by
    rw [BitVec.ofInt_natCast, BitVec.toNat_ofNat]; exact Nat.mod_eq_of_lt (by omega)
  show IntKind.u32.wrap ((BitVec.ofInt 32 ((a * m : Nat) : Int) ||| BitVec.ofInt 32 (b : Int)).toNat : Int) = _
  rw [BitVec.toNat_or, h1, h2]
  rw [h3] at hx ⊢
  rw [IntKind.wrap_u32]
  omega
def val2 (a b : Int) : Int := a * 256 + b
def val4 (a b c d : Int) : Int := a * 16777216 + b * 65536 + c * 256 + d
theorem val2_or (a b : Int) (ha : b8 a) (hb : b8 b) : bits .or .i64 (a * 256) b = val2 a b := by
  have := or_i64 a.toNat b.toNat (by omega) (by omega)
  have e1 : ((a.toNat * 256 : Nat) : Int) = a * 256 := by omega
  have e2 : (b.toNat : Int) = b := by omega
  rw [e1, e2] at this
  rw [this]; unfold val2; omega
theorem val4_f1 (p q : Nat) : p * 16777216 + q * 65536 = (p * 256 + q) * 65536 := by rw [Nat.add_mul, Nat.mul_assoc]
theorem val4_f2 (p q r : Nat) : (p * 256 + q) * 65536 + r * 256 = ((p * 256 + q) * 256 + r) * 256 := by rw [Nat.add_mul _ r, Nat.mul_assoc]
theorem val4_or (a b c d : Int) (ha : b8 a) (hb : b8 b) (hc : b8 c) (hd : b8 d) : bits .or .u32 (bits .or .u32 (bits .or .u32 (a * 16777216) (b * 65536)) (c * 256)) d = val4 a b c d := by
  obtain ⟨p, rfl⟩ : ∃ n : Nat, a = n := ⟨a.toNat, by omega⟩
  obtain ⟨q, rfl⟩ : ∃ n : Nat, b = n := ⟨b.toNat, by omega⟩
  obtain ⟨r, rfl⟩ : ∃ n : Nat, c = n := ⟨c.toNat, by omega⟩
  obtain ⟨t, rfl⟩ : ∃ n : Nat, d = n := ⟨d.toNat, by omega⟩
  have hp : p < 256 := by omega
  have hq : q < 256 := by omega
  have hr : r < 256 := by omega
  have ht : t < 256 := by omega
  clear ha hb hc hd
  have e1 : (p : Int) * 16777216 = ((p * 16777216 : Nat) : Int) := by rw [Int.natCast_mul]; rfl
  have e2 : (q : Int) * 65536 = ((q * 65536 : Nat) : Int) := by rw [Int.natCast_mul]; rfl
  have e3 : (r : Int) * 256 = ((r * 256 : Nat) : Int) := by rw [Int.natCast_mul]; rfl
  rw [e1, e2, e3, or_u32 p (q * 65536) 24 16777216 (by decide +kernel) (by omega) (by omega) (by omega), val4_f1, or_u32 (p * 256 + q) (r * 256) 16 65536 (by decide +kernel) (by omega) (by omega) (by omega), val4_f2, or_u32 ((p * 256 + q) * 256 + r) t 8 256 (by decide +kernel) (by omega) (by omega) (by omega)]
  unfold val4
  omega
theorem first_cells {w : World} {x : Option Addr} {k : Nat} {z : List Int} (h : Bytes w x k k (z.take k)) (h0 : 0 < k) : ∃ b off, x = some ⟨b, off, none⟩ ∧ ∀ j, j < k → w.cell? ⟨b, off + j, none⟩ = some (.int .u8 (z[j]?.getD 0)) := by
  rcases h.at_ with h1 | ⟨b, off, hx, hc⟩
  · omega
  · refine ⟨b, off, hx, fun j hj => ?_⟩
    have := hc j hj
    rw [List.getElem?_take_of_lt hj] at this
    exact this
theorem b8_get {z : List Int} (hz : ∀ v ∈ z, b8 v) (j : Nat) : b8 (z[j]?.getD 0) := by
  by_cases h : j < z.length
  · rw [List.getElem?_eq_getElem h]; exact hz _ (List.getElem_mem h)
  · rw [List.getElem?_eq_none (by omega)]; exact ⟨by decide, by decide⟩
set_option maxHeartbeats 2000000 in
theorem rtwo_any (R base : Nat) (z : List Int) (w : World) (hR : Rd w R base z) (hz : ∀ v ∈ z, b8 v) :
    Calls Tryz.prog 171 #[.pointer (some ⟨R, 0, none⟩)] w fun e w' =>
      (2 ≤ z.length ∧ e = .returned (.int .i64 (val2 (z[0]?.getD 0) (z[1]?.getD 0))) ∧ Rd w' R base (z.drop 2) ∧ Took w w' R base) ∨ (z.length < 2 ∧ e = .panicked [wrongP] ∧ Took w w' R base) := by
  have ht := take_any R base z 2 w hR
  have ha := b8_get hz 0
  have hb := b8_get hz 1
  have HV : Veil (bits .or .i64 ((z[0]?.getD 0) * 256) (z[1]?.getD 0) = val2 (z[0]?.getD 0) (z[1]?.getD 0)) := ⟨val2_or _ _ ha hb⟩
  have HF : Veil (∀ (w' : World) (x : Option Addr), 2 ≤ z.length → Bytes w' x 2 2 (z.take 2) → ∃ b off, x = some ⟨b, off, none⟩ ∧ ∀ j, j < 2 → w'.cell? ⟨b, off + j, none⟩ = some (.int .u8 (z[j]?.getD 0))) := ⟨fun w' x _ h' => first_cells h' (by omega)⟩
  clear hz
  obtain ⟨A, hA⟩ : ∃ q, z[0]?.getD 0 = q := ⟨_, rfl⟩
  obtain ⟨B, hB⟩ : ∃ q, z[1]?.getD 0 = q := ⟨_, rfl⟩
  have HA : Veil (z[0]?.getD 0 = A ∧ z[1]?.getD 0 = B) := ⟨hA, hB⟩
  rw [hA, hB] at HV ⊢
  rw [hA] at ha
  rw [hB] at hb
  have e1 : IntKind.i64.wrap A = A := by rw [IntKind.wrap_i64]; omega
  have e2 : IntKind.i64.wrap B = B := by rw [IntKind.wrap_i64]; omega
  have e3 : IntKind.i64.wrap (A * 256) = A * 256 := by rw [IntKind.wrap_i64]; omega
  clear hA hB hR
  go_enter Tryz.func171, Tryz.ntmps171
  go_upto_region 2 with (go_at_call 173; refine ht.mono ?_; rintro e w1 (⟨hk, x1, rfl, hy1, hR1, ht1⟩ | ⟨hk, rfl, ht1⟩))
  rotate_left
  · exact bodyPost_gone (.inr ⟨hk, rfl, ht1⟩)
  obtain ⟨b, off, rfl, hc⟩ := HF.out w1 x1 hk (hy1 w1 (Below.refl _ _))
  have c0 : w1.cell? ⟨b, off, none⟩ = some (.int .u8 A) := by have := hc 0 (by omega); rw [HA.out.1] at this; exact this
  have c1 : w1.cell? ⟨b, off + 1, none⟩ = some (.int .u8 B) := by have := hc 1 (by omega); rw [HA.out.2] at this; exact this
  clear hc hy1 ht
  refine wp_region_gate (fun w' => w'.cell? ⟨b, off, none⟩ = some (.int .u8 A) ∧ w'.cell? ⟨b, off + 1, none⟩ = some (.int .u8 B)) 10 (by kernel_rfl) ?_
  have hS : w1.drew.cell? ⟨b, off, none⟩ = some (.int .u8 A) ∧ w1.drew.cell? ⟨b, off + 1, none⟩ = some (.int .u8 B) := ⟨c0, c1⟩
  refine wpAnyG_any (i := 0) (v := ?_) rfl (by kernel_rfl) (by kernel_rfl) (by kernel_rfl) (fun _ _ _ h => h) (by kernel_rfl) (fun _ => hS) (by kernel_rfl) ?_ ?_
  rotate_left
  · intro _; go_simp; try with_reducible rfl
  simp only [Act.put, sI, sZ, sS]
  refine wpAnyG_any (i := 1) (v := ?_) rfl (by kernel_rfl) (by kernel_rfl) (by kernel_rfl) (fun _ _ _ h => h) (by kernel_rfl) (fun _ => hS) (by kernel_rfl) ?_ ?_
  rotate_left
  · intro _; go_simp; try with_reducible rfl
  simp only [Act.put, sI, sZ, sS]
  refine wpAnyG_read (i := 2) (v := ?_) rfl (by kernel_rfl) (by kernel_rfl) (by kernel_rfl) (fun _ _ _ h => h) (by kernel_rfl) (by kernel_rfl) (by kernel_rfl) hS (by kernel_rfl) ?_ ?_
  rotate_left
  · intro wx hSw; go_split_ands; go_simp; try with_reducible rfl
  simp only [Act.put, sI, sZ, sS]
  refine wpAnyG_any (i := 3) (v := ?_) rfl (by kernel_rfl) (by kernel_rfl) (by kernel_rfl) (fun _ _ _ h => h) (by kernel_rfl) (fun _ => hS) (by kernel_rfl) ?_ ?_
  rotate_left
  · intro _; go_simp; try with_reducible rfl
  simp only [Act.put, sI, sZ, sS]
  refine wpAnyG_any (i := 4) (v := ?_) rfl (by kernel_rfl) (by kernel_rfl) (by kernel_rfl) (fun _ _ _ h => h) (by kernel_rfl) (fun _ => hS) (by kernel_rfl) ?_ ?_
  rotate_left
  · intro _; go_simp; try with_reducible rfl
  simp only [Act.put, sI, sZ, sS]
  refine wpAnyG_any (i := 5) (v := ?_) rfl (by kernel_rfl) (by kernel_rfl) (by kernel_rfl) (fun _ _ _ h => h) (by kernel_rfl) (fun _ => hS) (by kernel_rfl) ?_ ?_
  rotate_left
  · intro _; go_simp; try with_reducible rfl
  simp only [Act.put, sI, sZ, sS]
  refine wpAnyG_any (i := 6) (v := ?_) rfl (by kernel_rfl) (by kernel_rfl) (by kernel_rfl) (fun _ _ _ h => h) (by kernel_rfl) (fun _ => hS) (by kernel_rfl) ?_ ?_
  rotate_left
  · intro _; go_simp; try with_reducible rfl
  simp only [Act.put, sI, sZ, sS]
  refine wpAnyG_read (i := 7) (v := ?_) rfl (by kernel_rfl) (by kernel_rfl) (by kernel_rfl) (fun _ _ _ h => h) (by kernel_rfl) (by kernel_rfl) (by kernel_rfl) hS (by kernel_rfl) ?_ ?_
  rotate_left
  · intro wx hSw; go_split_ands; go_simp; try with_reducible rfl
  simp only [Act.put, sI, sZ, sS]
  refine wpAnyG_any (i := 8) (v := ?_) rfl (by kernel_rfl) (by kernel_rfl) (by kernel_rfl) (fun _ _ _ h => h) (by kernel_rfl) (fun _ => hS) (by kernel_rfl) ?_ ?_
  rotate_left
  · intro _; go_simp; try with_reducible rfl
  simp only [Act.put, sI, sZ, sS]
  refine wpAnyG_any (i := 9) (v := ?_) rfl (by kernel_rfl) (by kernel_rfl) (by kernel_rfl) (fun _ _ _ h => h) (by kernel_rfl) (fun _ => hS) (by kernel_rfl) ?_ ?_
  rotate_left
  · intro _; go_simp; try with_reducible rfl
  simp only [Act.put, sI, sZ, sS]
  refine wpAnyG_one (i := 10) rfl (by kernel_rfl) (by kernel_rfl) (fun K hK => ?_)
  go_simp
  refine hK.out _ _ (fun h => absurd (show true = false from h) (by decide)) ?_
  clear hK K
  refine wpAnyG_done (by kernel_rfl) ?_ _
  go_wp2
  go_ret
  refine .inl ⟨hk, ?_, hR1.afar ((Below.refl _ _).drew), ht1.trans (Took.afar hR1.size ((Below.refl _ _).drew))⟩
  rw [← HV.out]
  rfl
end Go.Proofs.YtfainlfiphdaeaaGreatDoor
namespace Go.Proofs.YtfainlfiphdaeaaGreatDoor
open Go.RowKit
set_option maxRecDepth 20000
set_option linter.unusedSimpArgs false
set_option maxHeartbeats 2000000 in
theorem rzeros_any (R base : Nat) (z : List Int) (n : Nat) (w : World) (hR : Rd w R base z) (hn : n ≤ 1000000) :
    Calls Tryz.prog 169 #[.pointer (some ⟨R, 0, none⟩), .int .i64 n] w fun e w' =>
      ((n ≤ z.length ∧ ∀ j, j < n → z[j]?.getD 0 = 0) ∧ (∃ r, e = .returned r) ∧ Rd w' R base (z.drop n) ∧ Took w w' R base) ∨ (¬ (n ≤ z.length ∧ ∀ j, j < n → z[j]?.getD 0 = 0) ∧ e = .panicked [wrongP] ∧ Took w w' R base) := by
  have ht := take_any R base z n w hR
  have hok := fun wx => need_ok wx
  have hbad := fun wx => need_bad wx
  clear hR
  go_enter Tryz.func169, Tryz.ntmps169
  go_upto_region 1 with (go_at_call 173; refine ht.mono ?_; rintro e w1 (⟨hk, x1, rfl, hy1, hR1, ht1⟩ | ⟨hk, rfl, ht1⟩))
  rotate_left
  · exact bodyPost_gone (.inr ⟨fun h => by omega, rfl, ht1⟩)
  have hb1 := hy1 w1 (Below.refl _ _)
  have hle := hb1.le
  clear ht hy1
  go_wp2_with fail
  go_loopw [12] (fun q wr => ∃ i : Nat, i ≤ n ∧ q = .int .i64 i ∧ Veil (∀ j, j < i → z[j]?.getD 0 = 0) ∧ w1 = wr) (fun q _ => n - (intOf q).toNat)
  case atStart => exact ⟨0, by omega, rfl, ⟨fun j hj => by omega⟩, rfl⟩
  case round =>
    obtain ⟨i, hi, rfl, HJ, rfl⟩ := hrel
    by_cases hlt : i < n
    · obtain ⟨b, off, rfl, hc⟩ := first_cells hb1 (by omega)
      have ci := hc i hlt
      clear hc
      by_cases h0 : z[i]?.getD 0 = 0
      · rw [h0] at ci
        have HJ2 : Veil (∀ j, j < i + 1 → z[j]?.getD 0 = 0) := ⟨fun j hj => by
          by_cases h : j = i
          · rw [h]; exact h0
          · exact HJ.out j (by omega)⟩
        have hi0 : (0 : Int) ≤ (i : Int) := by omega
        have hin : (i : Int) < (n : Int) := by omega
        clear h0 hbad HJ
        go_wp2_with (go_at_call 164; refine (hok _).mono ?_; rintro e w2 ⟨⟨r2, rfl⟩, rfl⟩)
        go_roundw
        case rel => exact ⟨i + 1, by omega, by go_num, HJ2, trivial⟩
        case measure => simp [intOf]; omega
      · obtain ⟨q, hq⟩ : ∃ q, z[i]?.getD 0 = q := ⟨_, rfl⟩
        have HQ : Veil (∃ j, j < n ∧ ¬ z[j]?.getD 0 = 0) := ⟨i, hlt, h0⟩
        rw [hq] at h0 ci
        have hi0 : (0 : Int) ≤ (i : Int) := by omega
        have hin : (i : Int) < (n : Int) := by omega
        have hqb : (q == 0) = false := by simp [h0]
        clear hq hok
        go_wp2_with (go_at_call 164; refine (hbad _).mono ?_; rintro e w2 ⟨rfl, rfl⟩)
        exact bodyPost_gone (.inr ⟨fun h => by obtain ⟨j, h1, h2⟩ := HQ.out; exact h2 (h.2 j h1), rfl, ht1⟩)
    · obtain rfl : i = n := by omega
      go_wp2
      go_end0
      exact .inl ⟨⟨hk, HJ.out⟩, ⟨_, rfl⟩, hR1, ht1⟩
theorem OwnB.took {w w' : World} {base R : Nat} {v u : Value} {z : List Int} (h : OwnB w base v z) (hb : Box w R 200 u) (ht : Took w w' R base) : OwnB w' base v z := by
  have hne := h.apartT hb (by decide)
  refine ⟨h.1, ?_⟩
  rcases h.2 with h' | ⟨g, cap, cur, h1, h2, h3, h4⟩
  · exact .inl h'
  · refine .inr ⟨g, cap, cur, h1, h2, ?_, h4⟩
    subst h1
    rw [ht.kept g (Array.getElem?_eq_some_iff.1 h3).1 (fun e => by
      rcases hne with h0 | h0
      · simp [Value.ownBlock] at h0
      · simp [Value.ownBlock] at h0; exact h0 e)]
    exact h3
set_option maxHeartbeats 2000000 in
theorem clone_any (x : Option Addr) (n c : Nat) (z : List Int) (w : World) (hb : Bytes w x n c z) (hn : n ≤ 1000000) :
    Calls Tryz.prog 172 #[.slice x n c] w fun e w' => ∃ v, e = .returned v ∧ OwnB w' w.heap.size v z ∧ Below w.heap.size w w' := by
  cases x with
  | none =>
    have hc := hb.nil rfl
    have hle := hb.le
    have hz := hb.len_eq
    obtain rfl : c = 0 := hc
    obtain rfl : n = 0 := by omega
    have hz' : z = [] := List.length_eq_zero_iff.1 hz.symm
    subst hz'
    have hnil : ∀ wx : World, (binOp BinOp.eql 41 (.slice none 0 0) (.slice none 0 0)).run Tryz.prog wx = .ok (.bool true) wx := fun _ => by kernel_rfl
    clear hb hz hle hn
    go_enter Tryz.func172, Tryz.ntmps172
    go_wp2
    go_ret
    exact ⟨_, rfl, OwnB.nil _ _, Below.refl _ _⟩
  | some a =>
    have hE0 : OwnB (w.alloc (.cells #[] 5)) w.heap.size (.slice (some ⟨w.heap.size, 0, none⟩) 0 0) [] := OwnB.ofHolds (Holds.new w .u8 5 []) (Nat.le_refl _) (by simp)
    have hy : Bytes (w.alloc (.cells #[] 5)) (some a) n c z := hb.below ((Below.refl _ _).alloc (Nat.le_refl _) _)
    have hnil : ∀ wx : World, (binOp BinOp.eql 41 (.slice (some a) n c) (.slice none 0 0)).run Tryz.prog wx = .ok (.bool false) wx := fun _ => by kernel_rfl
    clear hb
    go_enter Tryz.func172, Tryz.ntmps172
    go_wp2_with (at_builtin; refine wpList_app rfl _ _ rfl w.heap.size _ [] rfl hE0 (some a) n c z rfl hy (by simp; omega) (by simp) ?_; intro v1 w1 ho1 hg1)
    go_ret
    rw [List.nil_append] at ho1
    exact ⟨_, rfl, ho1, below_grown ((Below.refl _ _).alloc (Nat.le_refl _) _) hE0 hg1 (by simp)⟩
end Go.Proofs.YtfainlfiphdaeaaGreatDoor
