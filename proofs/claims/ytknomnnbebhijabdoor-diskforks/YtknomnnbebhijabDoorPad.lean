/- 'Pad': the bytes that are digested. -/
import Derived.Test.YtknomnnbebhijabDoorMJoinPureB
import Derived.Deep.OwnRows
namespace Go.Proofs.YtknomnnbebhijabDoor.S
open Go.RowKit

theorem Addr.add_mid' (b o j : Nat) : (⟨b, o, none⟩ : Addr).add j = ⟨b, o + j, none⟩ := by unfold Addr.add; split <;> simp_all
/-- What is known of bytes that are read: a slice of len bytes whose cells hold z. -/
structure Bytes (w : World) (x : Option Addr) (len cap : Nat) (z : List Int) : Prop where
  len_eq : len = z.length
  le : len ≤ cap
  top : cap ≤ 9223372036854775807
  nil : x = none → cap = 0
  at_ : len = 0 ∨ ∃ b off, x = some ⟨b, off, none⟩ ∧ ∀ j, j < len → w.cell? ⟨b, off + j, none⟩ = some (.int .u8 (z[j]?.getD 0))

theorem Bytes.below {w w' : World} {x : Option Addr} {len cap : Nat} {z : List Int} (h : Bytes w x len cap z) (hb : Below w.heap.size w w') : Bytes w' x len cap z :=
  ⟨h.len_eq, h.le, h.top, h.nil, by
    rcases h.at_ with h0 | ⟨b, off, hx, hc⟩
    · exact .inl h0
    · by_cases hl : len = 0
      · exact .inl hl
      · exact .inr ⟨b, off, hx, fun j hj => (hb.cell (p := ⟨b, off + j, none⟩) (block_lt_of_cell (hc j hj))).trans (hc j hj)⟩⟩

theorem bytes_nil (w : World) : Bytes w none 0 0 [] := ⟨rfl, by omega, by omega, fun _ => rfl, .inl rfl⟩

theorem infoU8 : (Tryd.prog.info? 5).map (fun i => (i.zero, i.size, i.bytes)) = some (some (.int .u8 0), 1, 1) := by kernel_rfl
theorem size1u8 : (Tryd.prog.info? 5).map (·.size) = some 1 := by kernel_rfl
theorem made_row (n : Nat) : madeCells #[.int .u8 0] n = row .u8 (List.replicate n 0) := by
  apply Array.ext_getElem?
  intro i
  by_cases h : i < n <;> simp [madeCells, row, h, Nat.mod_one]

/-- A copy of bytes into a row of noughts that is at least as long. -/
theorem run_copy_bytes {t : TypeId} (w : World) (g m : Nat) (x : Option Addr) (len cap : Nat) (z : List Int) (hb : Bytes w x len cap z) (hg : Holds w g .u8 t (List.replicate m 0)) (hm : len ≤ m) :
    (Builtin.copy_ #[31, 31] 3 #[.slice (some ⟨g, 0, none⟩) m m, .slice x len cap]).run Tryd.prog w = .ok (.int .i64 len) (w.setRow g (row .u8 (z ++ List.replicate (m - z.length) 0))) := by
  have hz : z.length = len := hb.len_eq.symm
  have hcopy : ∀ (a : Addr), (∀ j v, (row .u8 z).toList[j]? = some v → w.cell? (a.add j) = some v) →
      (Builtin.copy_ #[31, 31] 3 #[.slice (some ⟨g, 0, none⟩) m m, .slice (some a) len cap]).run Tryd.prog w = .ok (.int .i64 len) (w.setRow g (row .u8 (z ++ List.replicate (m - z.length) 0))) := fun a hsrc => by
    have hlen : (row .u8 z).toList.length = len := by simp [row, hz]
    have := run_copy_row (P := Tryd.prog) w 31 31 3 5 g 0 m m a len cap _ t (row .u8 z).toList Tryd.underlying31 size1u8 hg
      (by rw [hlen]; exact (Nat.min_eq_left hm).symm) hsrc (by rw [hlen, row_size, List.length_replicate]; omega) (fun v hv => (Array.all_eq_true_iff_forall_mem.1 (row_one .u8 z)) v (by simpa using hv))
    rw [this, hlen]
    have e : (List.take 0 (row .u8 (List.replicate m 0)).toList ++ (row .u8 z).toList ++ List.drop (0 + len) (row .u8 (List.replicate m 0)).toList).toArray = row .u8 (z ++ List.replicate (m - z.length) 0) := by
      simp [row, hz]
    rw [e]; rfl
  rcases hb.at_ with h0 | ⟨b, off, hx, hc⟩
  · have hz0 : z = [] := List.length_eq_zero_iff.1 (by omega)
    cases x with
    | none =>
      have hc0 := hb.nil rfl
      subst h0 hc0 hz0
      rw [run_copy_nil Tryd.prog w 31 31 3 5 ⟨g, 0, none⟩ m m Tryd.underlying31 (by rw [size1u8]; rfl)]
      simp only [List.nil_append, List.length_nil, Nat.sub_zero]
      rw [setRow_self w g _ t _ hg]; rfl
    | some a => exact hcopy a (fun j v hv => by subst hz0; simp [row] at hv)
  · subst hx
    exact hcopy _ (fun j v hv => by
      have hj : j < len := by
        have := (List.getElem?_eq_some_iff.1 hv).1
        simpa [row, hz] using this
      rw [Addr.add_mid', hc j hj]
      have : (row .u8 z).toList[j]? = some (.int .u8 (z[j]?.getD 0)) := by
        have h := row_get .u8 z j (by omega)
        simpa using h
      rw [← this]; exact hv)

theorem psize_any (len : Nat) (w : World) (h : len ≤ 1000000) :
    Calls Tryd.prog 47 #[.int .i64 len] w fun e w' => e = .returned (.int .i64 (((len : Int) + 8) / 64 * 64 + 64)) ∧ w = w' := by
  go_enter Tryd.func47, Tryd.ntmps47
  go_wp2
  go_ret
  exact ⟨rfl, rfl⟩

set_option maxHeartbeats 400000 in
theorem pad_any (x : Option Addr) (len cap : Nat) (z : List Int) (w : World) (hbz : Bytes w x len cap z) (hln : len ≤ 1000000) :
    Calls Tryd.prog 40 #[.slice x len cap] w fun e w' => ∃ g, e = .returned (.slice (some ⟨g, 0, none⟩) (padSize z.length) (padSize z.length)) ∧ w.heap.size ≤ g ∧ Holds w' g .u8 5 (padL z) ∧ Below w.heap.size w w' := by
  have hz := hbz.len_eq
  have hg9 := padSize_ge len
  have hsz : padSize len ≤ 2000000 := by unfold padSize; omega
  have hsi : ((padSize len : Nat) : Int) = ((len : Int) + 8) / 64 * 64 + 64 := by unfold padSize; omega
  have hmk : ∀ wx : World, (Instr.makeSlice 31 (.int .i64 (((len : Int) + 8) / 64 * 64 + 64)) (.int .i64 (((len : Int) + 8) / 64 * 64 + 64))).run Tryd.prog wx = .ok (.slice (some ⟨wx.heap.size, 0, none⟩) (padSize len) (padSize len)) (wx.alloc (.cells (row .u8 (List.replicate (padSize len) 0)) 5)) := fun wx => by
    have := run_make_row' (P := Tryd.prog) 31 5 (.int .u8 0) 1 Tryd.underlying31 infoU8 rfl .i64 .i64 (padSize len) (by omega) (by omega) wx
    rw [hsi, made_row] at this
    exact this
  obtain ⟨m, hm⟩ : ∃ m, padSize len = m := ⟨_, rfl⟩
  have HM : Hid (padSize z.length = m) := by rw [← hz]; exact hm
  rw [hm] at hmk hg9 hsz
  have hW1 : Holds (w.alloc (.cells (row .u8 (List.replicate m 0)) 5)) w.heap.size .u8 5 (List.replicate m 0) := Holds.new w .u8 5 _
  have hcp := run_copy_bytes (w.alloc (.cells (row .u8 (List.replicate m 0)) 5)) w.heap.size m x len cap z (hbz.below ((Below.refl _ _).alloc (Nat.le_refl _) _)) hW1 (by omega)
  have HZ : Hid (len = z.length) := hz
  clear hsi hm hbz hz
  go_enter Tryd.func40, Tryd.ntmps40
  go_upto_region 3 with (go_at_call 47; refine (psize_any _ _ hln).mono ?_; rintro e w' ⟨rfl, rfl⟩)
  refine forget (p := fun y => Code.wp _ _ _ _ y) (fun W0 => Below w.heap.size w W0 ∧ Holds W0 w.heap.size .u8 5 (z ++ List.replicate (m - z.length) 0)) ⟨below_setRow ((Below.refl _ _).alloc (Nat.le_refl _) _) (Nat.le_refl _) _, hW1.setRow _⟩ ?_
  clear hcp hW1 hmk
  rintro W0 ⟨hB, h0⟩
  have c0 := h0.cell len (by have := HZ.out; rw [List.length_append, List.length_replicate]; omega)
  have f0 := h0.frozen len
  go_wp2
  go_loopw [21] (fun i wr => ∃ k : Nat, k ≤ 8 ∧ i = .int .i64 k ∧ Below w.heap.size w wr ∧ Holds wr w.heap.size .u8 5 (padK z k)) (fun i _ => 8 - (intOf i).toNat)
  case atStart =>
    refine ⟨0, by omega, rfl, hB.setCell (Nat.le_refl _) _, ?_⟩
    have := h0.set len 128
    rw [HZ.out, ← HM.out, padK_zero] at this
    rw [HZ.out]
    exact this
  case round =>
    clear hB h0 c0 f0 W0
    obtain ⟨k, hk, rfl, hB, h0⟩ := hrel
    by_cases hlt : k < 8
    · have c0 := h0.cell (m - 1 - k) (by rw [padK_length _ _ hk, HM.out]; omega)
      have f0 := h0.frozen (m - 1 - k)
      go_wp2
      go_roundw
      case rel =>
        refine ⟨k + 1, by omega, by go_num, hB.setCell (Nat.le_refl _) _, ?_⟩
        have := h0.set (padSize z.length - 1 - k) (lenByte z.length k)
        rw [padK_set z k hlt] at this
        rw [← HM.out, HZ.out]
        exact this
      case measure => simp [intOf]; omega
    · obtain rfl : k = 8 := by omega
      go_wp2
      go_ret
      exact ⟨w.heap.size, by rw [HM.out]; rfl, Nat.le_refl _, h0, hB⟩
end Go.Proofs.YtknomnnbebhijabDoor.S
