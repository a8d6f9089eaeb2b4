/- 'OneTime', 'tagOf', 'Seal': the key of the tag, the tag, what is sealed. 'Equal': whether bytes are the same; always all of them are looked at. -/
import Derived.Test.YtlalcnmcnkompaaDoorMKy7An3
import Derived.Test.YtlalcnmcnkompaaDoorMPyPl
import Derived.Test.YtlalcnmcnkompaaDoorMGbGate
import Derived.Laws.BitsLemmas
import Derived.Laws.Closers25b
namespace Go.Proofs.YtlalcnmcnkompaaDoor
open Go.RowKit
set_option maxRecDepth 20000
set_option linter.unusedSimpArgs false

/-- A row of one type out of a part of a block. -/
theorem wpList_ldr {P : Program} {ops : Array Oper} {rest : List Oper} {o : Oper} {a : Act} {w : World} {Q : Exit → Act → World → Prop} (hgd : o.guard = none) (ty : TypeId) (x : Operand) (ho : o.op = .load ty x)
    (g off : Nat) (hx : a.eval x = .pointer (some ⟨g, off, none⟩)) {k : IntKind} {l : List Int} (hg : w.rangeAt g off (l.map (Value.int k))) {n : Nat} {e : TypeId}
    (hu : P.underlying ty = some (.array n e)) (hi : (P.info? ty).map (·.size) = some n) (hl : l.length = n)
    (h : wpList P ops Q rest (a.put o.dst (.agg (row k l))) w) : wpList P ops Q (o :: rest) a w :=
  wpList_plain hgd fun _ hK => wp_load_mid ty x ho g off hx (l.map (Value.int k)) _ hg hu rfl (by rw [hi, List.length_map, hl]) (hK _ _ h)
theorem Holds.rangeSub {w : World} {g : Nat} {k : IntKind} {t : TypeId} {l : List Int} (h : Holds w g k t l) (n : Nat) : w.rangeAt g 0 ((l.take n).map (Value.int k)) := fun j v hv => by
  rw [List.getElem?_map, List.getElem?_take] at hv
  refine h.rangeAll j v ?_
  rw [List.getElem?_map]
  split at hv
  · exact hv
  · simp at hv
theorem sizeK : (Tryd.prog.info? 23).map (·.size) = some 32 := by kernel_rfl
theorem sizeN : (Tryd.prog.info? 52).map (·.size) = some 12 := by kernel_rfl
theorem sizeT : (Tryd.prog.info? 90).map (·.size) = some 16 := by kernel_rfl
theorem sizeB64 : (Tryd.prog.info? 97).map (·.size) = some 64 := by kernel_rfl

set_option maxHeartbeats 2000000 in
theorem onetime_any (k n : List Int) (w : World) (hk : k.length = 32) (hn : n.length = 12) :
    Calls Tryd.prog 50 #[.agg (row .u8 k), .agg (row .u8 n)] w fun e w' => e = .returned (.agg (row .u8 (onceL k n))) ∧ Below w.heap.size w w' := by
  have hblk := fun wx => block_any k n 0 wx hk hn
  have hBl := blockL_length k n 0
  have hOl := onceL_length k n
  have HO : Veil (onceL k n = (blockL k n 0).take 32) := ⟨rfl⟩
  obtain ⟨B, hB⟩ : ∃ q, blockL k n 0 = q := ⟨_, rfl⟩
  obtain ⟨O, hO⟩ : ∃ q, onceL k n = q := ⟨_, rfl⟩
  rw [hB] at hblk hBl HO
  rw [hO] at hOl HO ⊢
  have hK0 := ((Holds.new w .u8 23 k).alloc (.cells (row .u8 n) 52)).alloc (.cells (row .u8 (List.replicate 32 0)) 23)
  have hN0 := (Holds.new (w.alloc (.cells (row .u8 k) 23)) .u8 52 n).alloc (.cells (row .u8 (List.replicate 32 0)) 23)
  have hR0 := Holds.new ((w.alloc (.cells (row .u8 k) 23)).alloc (.cells (row .u8 n) 52)) .u8 23 (List.replicate 32 0)
  have hB0 : Below w.heap.size w (((w.alloc (.cells (row .u8 k) 23)).alloc (.cells (row .u8 n) 52)).alloc (.cells (row .u8 (List.replicate 32 0)) 23)) := (((Below.refl _ _).alloc (Nat.le_refl _) _).alloc (by simp) _).alloc (by simp; omega) _
  rw [World.size_alloc] at hN0 hR0
  rw [World.size_alloc] at hR0
  clear hB hO
  go_enter Tryd.func50, Tryd.ntmps50
  go_upto_region 1 with fail
  refine forget (p := fun y => Code.wp _ _ _ _ y) (fun W0 => Below w.heap.size w W0 ∧ Holds W0 w.heap.size .u8 23 k ∧ Holds W0 (w.heap.size + 1) .u8 52 n ∧ Holds W0 (w.heap.size + 1 + 1) .u8 23 (List.replicate 32 0)) ⟨hB0, hK0, hN0, hR0⟩ ?_
  clear hK0 hN0 hR0 hB0
  rintro W0 ⟨hB0, hK0, hN0, hR0⟩
  go_upto_region 2 with (first
    | (refine wpList_ld rfl 23 _ rfl _ rfl hK0 Tryd.underlying23 sizeK hk ?_)
    | (refine wpList_ld rfl 52 _ rfl _ rfl hN0 Tryd.underlying52 sizeN hn ?_)
    | (go_at_call 48; refine (hblk _).mono ?_; rintro e w1 ⟨rfl, hb1⟩; have hN1 := Holds.new w1 .u8 97 (List.replicate 64 0))
    | (refine wpList_st rfl 97 _ _ rfl _ rfl rfl hN1 (by rw [hBl]; exact sizeB64) (by simp [hBl]) ?_))
  have hB1 : Below w.heap.size w w1 := hB0.trans (hb1.mono hB0.size)
  have hR1 := hR0.below hb1 hR0.lt
  have hlt := hR1.lt
  have hlt0 := hR0.lt
  have hG2 := hN1.setRow B
  have hR2 := (hR1.alloc (.cells (row .u8 (List.replicate 64 0)) 97)).setRowOther (g' := w1.heap.size) (row .u8 B) (by omega)
  have hB2 := below_setRow (g := w1.heap.size) (hB1.alloc hB1.size (.cells (row .u8 (List.replicate 64 0)) 97)) hB1.size (row .u8 B)
  refine forget (p := fun y => Code.wp _ _ _ _ y) (fun W2 => Below w.heap.size w W2 ∧ Holds W2 w1.heap.size .u8 97 B ∧ Holds W2 (w.heap.size + 1 + 1) .u8 23 (List.replicate 32 0)) ⟨hB2, hG2, hR2⟩ ?_
  obtain ⟨G, hG⟩ : ∃ q, w1.heap.size = q := ⟨_, rfl⟩
  rw [hG]
  clear hB1 hR1 hlt hlt0 hG2 hR2 hB2 hN1 hb1 hB0 hK0 hN0 hR0 hG hblk
  rintro W2 ⟨hB2, hG2, hR2⟩
  have hat : ∀ (b off cap : Nat) (wx : World), (Instr.arrayAt 23 (.slice (some ⟨b, off, none⟩) 32 cap)).run Tryd.prog wx = .ok (.pointer (some ⟨b, off, none⟩)) wx := fun b off cap wx => run_arrayAt wx 23 _ 32 _ 32 cap Tryd.underlying23 (by omega)
  have hrg := hG2.rangeSub 32
  rw [← HO.out] at hrg
  go_wp2_with (first
    | (refine wpList_ldr rfl 23 _ rfl _ _ rfl hrg Tryd.underlying23 sizeK hOl ?_)
    | (refine wpList_st rfl 23 _ _ rfl _ rfl rfl hR2 (by rw [hOl]; exact sizeK) (by simp [hOl]) ?_))
  refine bodyPost_ret (results_holds (Tryd.results50) _ rfl (hR2.setRow _) Tryd.underlying23 sizeK hOl) rfl ⟨rfl, ?_⟩
  exact below_setRow hB2 (by omega) _

set_option maxHeartbeats 2000000 in
theorem tagOf_any (k n : List Int) (x : Option Addr) (len cap : Nat) (o : List Int) (y : Option Addr) (lb cb : Nat) (s : List Int) (w : World) (hk : k.length = 32) (hn : n.length = 12) (hx : Bytes w x len cap o) (hy : Bytes w y lb cb s) (hl1 : len ≤ 100000) (hl2 : lb ≤ 100000) :
    Calls Tryd.prog 42 #[.agg (row .u8 k), .agg (row .u8 n), .slice x len cap, .slice y lb cb] w fun e w' => e = .returned (.agg (row .u8 (tagL k n o s))) ∧ Below w.heap.size w w' := by
  have hon := fun wx => onetime_any k n wx hk hn
  have hOl := onceL_length k n
  have hTl : (tagL k n o s).length = 16 := polyL_length _ _
  have HL : Veil ((framedL o s).length ≤ 1000000) := ⟨by rw [framedL_length, ← hx.len_eq, ← hy.len_eq]; have := fillN_lt len; have := fillN_lt lb; omega⟩
  have hfr := fun wx (hb : Below w.heap.size w wx) => framed_any x len cap o y lb cb s wx (hx.below hb) (hy.below hb) hl1 hl2
  have hps : ∀ (v : Value) (base : Nat) (wx : World), OwnB wx base v (framedL o s) → Calls Tryd.prog 49 #[.agg (row .u8 (onceL k n)), v] wx fun e w' => e = .returned (.agg (row .u8 (tagL k n o s))) ∧ Below wx.heap.size wx w' := fun v base wx ho => by
    obtain ⟨x', n', c', rfl, hn'⟩ := ho.isSlice
    exact psum_any (onceL k n) x' n' c' (framedL o s) wx hOl ho.bytes.2 (by rw [hn']; exact HL.out)
  obtain ⟨O, hO⟩ : ∃ q, onceL k n = q := ⟨_, rfl⟩
  obtain ⟨T, hT⟩ : ∃ q, tagL k n o s = q := ⟨_, rfl⟩
  obtain ⟨F, hF⟩ : ∃ q, framedL o s = q := ⟨_, rfl⟩
  rw [hO] at hon hps
  rw [hT] at hps hTl ⊢
  rw [hF] at hfr hps
  have hK0 := ((Holds.new w .u8 23 k).alloc (.cells (row .u8 n) 52)).alloc (.cells (row .u8 (List.replicate 16 0)) 90)
  have hN0 := (Holds.new (w.alloc (.cells (row .u8 k) 23)) .u8 52 n).alloc (.cells (row .u8 (List.replicate 16 0)) 90)
  have hR0 := Holds.new ((w.alloc (.cells (row .u8 k) 23)).alloc (.cells (row .u8 n) 52)) .u8 90 (List.replicate 16 0)
  have hB0 : Below w.heap.size w (((w.alloc (.cells (row .u8 k) 23)).alloc (.cells (row .u8 n) 52)).alloc (.cells (row .u8 (List.replicate 16 0)) 90)) := (((Below.refl _ _).alloc (Nat.le_refl _) _).alloc (by simp) _).alloc (by simp; omega) _
  rw [World.size_alloc] at hN0 hR0
  rw [World.size_alloc] at hR0
  clear hO hT hF HL hOl hx hy
  go_enter Tryd.func42, Tryd.ntmps42
  go_upto_region 1 with fail
  refine forget (p := fun y => Code.wp _ _ _ _ y) (fun W0 => Below w.heap.size w W0 ∧ Holds W0 w.heap.size .u8 23 k ∧ Holds W0 (w.heap.size + 1) .u8 52 n ∧ Holds W0 (w.heap.size + 1 + 1) .u8 90 (List.replicate 16 0)) ⟨hB0, hK0, hN0, hR0⟩ ?_
  clear hK0 hN0 hR0 hB0
  rintro W0 ⟨hB0, hK0, hN0, hR0⟩
  go_wp2_with (first
    | (refine wpList_ld rfl 23 _ rfl _ rfl hK0 Tryd.underlying23 sizeK hk ?_)
    | (refine wpList_ld rfl 52 _ rfl _ rfl hN0 Tryd.underlying52 sizeN hn ?_)
    | (go_at_call 50; refine (hon _).mono ?_; rintro e w1 ⟨rfl, hb1⟩; have hB1 : Below w.heap.size w w1 := hB0.trans (hb1.mono hB0.size))
    | (go_at_call 51; refine (hfr _ hB1).mono ?_; rintro e w2 ⟨v2, rfl, ho2, hb2⟩; have hs2 := hps v2 _ w2 ho2)
    | (go_at_call 49; refine hs2.mono ?_; rintro e w3 ⟨rfl, hb3⟩; have hB13 : Below W0.heap.size W0 w3 := (hb1.trans (hb2.mono hb1.size)).trans (hb3.mono (hb1.trans (hb2.mono hb1.size)).size); have hR3 := hR0.below hB13 hR0.lt)
    | (refine wpList_st rfl 90 _ _ rfl _ rfl rfl hR3 (by rw [hTl]; exact sizeT) (by simp [hTl]) ?_))
  refine bodyPost_ret (results_holds (Tryd.results42) _ rfl (hR3.setRow _) Tryd.underlying90 sizeT hTl) rfl ⟨rfl, ?_⟩
  exact below_setRow (hB0.trans (hB13.mono hB0.size)) (by omega) _

set_option maxHeartbeats 2000000 in
theorem seal_any (k n : List Int) (x : Option Addr) (len cap : Nat) (o : List Int) (y : Option Addr) (lb cb : Nat) (b : List Int) (w : World) (hk : k.length = 32) (hn : n.length = 12) (hx : Bytes w x len cap o) (hy : Bytes w y lb cb b) (hl1 : len ≤ 100000) (hl2 : lb ≤ 100000) :
    Calls Tryd.prog 32 #[.agg (row .u8 k), .agg (row .u8 n), .slice x len cap, .slice y lb cb] w fun e w' => ∃ v, e = .returned v ∧ OwnB w' w.heap.size v (sealL k n o b) ∧ Below w.heap.size w w' := by
  have hxor := fun wx (hb : Below w.heap.size w wx) => xor_any k n 1 y lb cb b wx hk hn ⟨by decide, by decide⟩ (hy.below hb) (by omega)
  have hXl : (xorL k n 1 b).length = lb := by rw [xorL_length]; exact hy.len_eq.symm
  have HSE : Veil (∀ p0 p1, allZ [⟨p0, lb, lb, xorL k n 1 b⟩, ⟨p1, 16, 16, tagL k n o (xorL k n 1 b)⟩] = sealL k n o b) := ⟨fun p0 p1 => by simp [allZ, sealL]⟩
  have hTl : (tagL k n o (xorL k n 1 b)).length = 16 := polyL_length _ _
  have HSL : Veil ((sealL k n o b).length ≤ 1000000) := ⟨by unfold sealL; rw [List.length_append, hXl, hTl]; omega⟩
  have htag := fun (g : Nat) wx (hb : Below w.heap.size w wx) (hh : Bytes wx (some ⟨g, 0, none⟩) lb lb (xorL k n 1 b)) => tagOf_any k n x len cap o (some ⟨g, 0, none⟩) lb lb (xorL k n 1 b) wx hk hn (hx.below hb) hh hl1 hl2
  obtain ⟨X, hX⟩ : ∃ q, xorL k n 1 b = q := ⟨_, rfl⟩
  rw [hX] at hxor hXl HSE hTl htag
  obtain ⟨T, hT⟩ : ∃ q, tagL k n o X = q := ⟨_, rfl⟩
  rw [hT] at HSE hTl htag
  have hK0 := (Holds.new w .u8 23 k).alloc (.cells (row .u8 n) 52)
  have hN0 := Holds.new (w.alloc (.cells (row .u8 k) 23)) .u8 52 n
  have hB0 : Below w.heap.size w ((w.alloc (.cells (row .u8 k) 23)).alloc (.cells (row .u8 n) 52)) := ((Below.refl _ _).alloc (Nat.le_refl _) _).alloc (by simp) _
  rw [World.size_alloc] at hN0
  clear hX hT hx hy
  go_enter Tryd.func32, Tryd.ntmps32
  go_upto_region 1 with fail
  refine forget (p := fun y => Code.wp _ _ _ _ y) (fun W0 => Below w.heap.size w W0 ∧ Holds W0 w.heap.size .u8 23 k ∧ Holds W0 (w.heap.size + 1) .u8 52 n) ⟨hB0, hK0, hN0⟩ ?_
  clear hK0 hN0 hB0
  rintro W0 ⟨hB0, hK0, hN0⟩
  go_upto_region 2 with (first
    | (refine wpList_ld rfl 23 _ rfl _ rfl hK0 Tryd.underlying23 sizeK hk ?_)
    | (refine wpList_ld rfl 52 _ rfl _ rfl hN0 Tryd.underlying52 sizeN hn ?_)
    | (go_at_call 41; refine (hxor _ hB0).mono ?_; rintro e w1 ⟨g1, rfl, hg1, hH1, hb1⟩))
  have hB1 : Below w.heap.size w w1 := hB0.trans (hb1.mono hB0.size)
  have hK1 := hK0.below hb1 hK0.lt
  have hN1 := hN0.below hb1 hN0.lt
  have hBy1 : Bytes w1 (some ⟨g1, 0, none⟩) lb lb X := hH1.bytes hXl.symm (by omega)
  have htg := htag g1 w1 hB1 hBy1
  clear hxor htag hK0 hN0
  go_upto_region 3 with (first
    | (refine wpList_ld rfl 23 _ rfl _ rfl hK1 Tryd.underlying23 sizeK hk ?_)
    | (refine wpList_ld rfl 52 _ rfl _ rfl hN1 Tryd.underlying52 sizeN hn ?_)
    | (go_at_call 42; refine htg.mono ?_; rintro e w2 ⟨rfl, hb2⟩; have hA2 := Holds.new w2 .u8 90 (List.replicate 16 0))
    | (refine wpList_st rfl 90 _ _ rfl _ rfl rfl hA2 (by rw [hTl]; exact sizeT) (by simp [hTl]) ?_))
  have hB2 : Below w.heap.size w w2 := hB1.trans (hb2.mono hB1.size)
  have hBy2 := hBy1.below hb2
  have hB3 := below_setRow (g := w2.heap.size) (hB2.alloc hB2.size (.cells (row .u8 (List.replicate 16 0)) 90)) hB2.size (row .u8 T)
  have hBy3 : Bytes ((w2.alloc (.cells (row .u8 (List.replicate 16 0)) 90)).setRow w2.heap.size (row .u8 T)) (some ⟨g1, 0, none⟩) lb lb X := hBy2.below (below_setRow ((Below.refl _ _).alloc (Nat.le_refl _) _) (Nat.le_refl _) _)
  refine forget (p := fun y => Code.wp _ _ _ _ y) (fun W3 => Below w.heap.size w W3 ∧ Holds W3 w2.heap.size .u8 90 T ∧ Bytes W3 (some ⟨g1, 0, none⟩) lb lb X) ⟨hB3, hA2.setRow _, hBy3⟩ ?_
  obtain ⟨G, hG⟩ : ∃ q, w2.heap.size = q := ⟨_, rfl⟩
  rw [hG]
  clear hB2 hBy2 hB3 hBy3 hA2 hb2 hB1 hK1 hN1 hBy1 htg hb1 hH1 hg1 hB0 hG
  rintro W3 ⟨hB3, hG3, hBy3⟩
  have hPA := PartsAt.new W3 76 [⟨some ⟨g1, 0, none⟩, lb, lb, X⟩, ⟨some ⟨G, 0, none⟩, 16, 16, T⟩] (parts2 _ _ hBy3 (hG3.bytes hTl.symm (by omega)))
  have hj := joined_any W3.heap.size 2 _ _ hPA rfl (by omega) (by unfold sumN; rw [HSE.out]; exact HSL.out)
  rw [HSE.out] at hj
  have hB4 := hB3.alloc hB3.size (.cells #[Value.slice (some ⟨g1, 0, none⟩) lb lb, .slice (some ⟨G, 0, none⟩) 16 16] 76)
  have hsz := hB3.size
  clear hPA hBy3 hG3 hB3
  go_wp2_with (go_at_call 43; refine hj.mono ?_; rintro e w5 ⟨v5, rfl, ho5, hb5⟩)
  go_ret
  exact ⟨_, rfl, ho5.lessG (by simp; omega), hB4.trans (hb5.mono hB4.size)⟩
end Go.Proofs.YtlalcnmcnkompaaDoor

namespace Go.Proofs.YtlalcnmcnkompaaDoor
open Go.RowKit
set_option maxRecDepth 20000

theorem bits_xor_u8_nat (a b : Nat) (ha : a < 256) (hb : b < 256) :
    bits .xor .u8 (a : Int) (b : Int) = ((a ^^^ b : Nat) : Int) := by
  have hx : a ^^^ b < 2 ^ 8 := Nat.xor_lt_two_pow (by omega) (by omega)
  have h1 : (BitVec.ofInt 8 (a : Int)).toNat = a := by
    rw [BitVec.ofInt_natCast, BitVec.toNat_ofNat]; exact Nat.mod_eq_of_lt (by omega)
  have h2 : (BitVec.ofInt 8 (b : Int)).toNat = b := by
    rw [BitVec.ofInt_natCast, BitVec.toNat_ofNat]; exact Nat.mod_eq_of_lt (by omega)
  show IntKind.u8.wrap ((BitVec.ofInt 8 (a : Int) ^^^ BitVec.ofInt 8 (b : Int)).toNat : Int) = _
  rw [BitVec.toNat_xor, h1, h2, IntKind.wrap_u8]
  omega
theorem orx_step (u p q : Int) (hu : 0 ≤ u ∧ u ≤ 255) (hp : 0 ≤ p ∧ p ≤ 255) (hq : 0 ≤ q ∧ q ≤ 255) : bits .or .u8 u (bits .xor .u8 p q) = 0 ↔ u = 0 ∧ p = q := by
  obtain ⟨a, rfl⟩ := Int.eq_ofNat_of_zero_le hu.1
  obtain ⟨b, rfl⟩ := Int.eq_ofNat_of_zero_le hp.1
  obtain ⟨c, rfl⟩ := Int.eq_ofNat_of_zero_le hq.1
  have hx : b ^^^ c < 2 ^ 8 := Nat.xor_lt_two_pow (by omega) (by omega)
  rw [bits_xor_u8_nat b c (by omega) (by omega), (bits_nat .u8 8 (by decide) wraps_u8 a (b ^^^ c) (by omega) hx).2]
  constructor
  · intro h
    have h' : a ||| (b ^^^ c) = 0 := by exact_mod_cast h
    have h2 := Nat.or_eq_zero_iff.1 h'
    have h3 : b ^^^ (b ^^^ c) = c := by rw [← Nat.xor_assoc, Nat.xor_self, Nat.zero_xor]
    rw [h2.2, Nat.xor_zero] at h3
    exact ⟨by omega, by omega⟩
  · rintro ⟨h1, h2⟩
    have : b = c := by omega
    subst this
    have : a = 0 := by omega
    subst this
    simp
/-- What is unlike of the first k bytes. -/
def orx (z b : List Int) : Nat → Int
  | 0 => 0
  | k + 1 => bits .or .u8 (orx z b k) (bits .xor .u8 (z[k]?.getD 0) (b[k]?.getD 0))
theorem orx_within (z b : List Int) (k : Nat) : 0 ≤ orx z b k ∧ orx z b k ≤ 255 := by
  cases k with
  | zero => exact ⟨by simp [orx], by simp [orx]⟩
  | succ k => exact ⟨bits_lo_u8 _ _ _, bits_hi_u8 _ _ _⟩
theorem getD_byte {z : List Int} (h : ∀ v ∈ z, 0 ≤ v ∧ v ≤ 255) (k : Nat) : 0 ≤ z[k]?.getD 0 ∧ z[k]?.getD 0 ≤ 255 := by
  by_cases hk : k < z.length
  · rw [List.getElem?_eq_getElem hk]; exact h _ (List.getElem_mem hk)
  · rw [List.getElem?_eq_none (by omega)]; simp
theorem orx_zero (z b : List Int) (hz : ∀ v ∈ z, 0 ≤ v ∧ v ≤ 255) (hb : ∀ v ∈ b, 0 ≤ v ∧ v ≤ 255) (k : Nat) : orx z b k = 0 ↔ ∀ i, i < k → z[i]?.getD 0 = b[i]?.getD 0 := by
  induction k with
  | zero => simp [orx]
  | succ k ih =>
    simp only [orx]
    rw [orx_step _ _ _ (orx_within z b k) (getD_byte hz k) (getD_byte hb k), ih]
    constructor
    · rintro ⟨h1, h2⟩ i hi
      by_cases h : i = k
      · subst h; exact h2
      · exact h1 i (by omega)
    · intro h
      exact ⟨fun i hi => h i (by omega), h k (by omega)⟩
theorem orx_eq (z b : List Int) (hz : ∀ v ∈ z, 0 ≤ v ∧ v ≤ 255) (hb : ∀ v ∈ b, 0 ≤ v ∧ v ≤ 255) (hl : z.length = b.length) : (orx z b z.length == 0) = (z == b) := by
  rw [Bool.eq_iff_iff]
  simp only [beq_iff_eq]
  rw [orx_zero z b hz hb]
  constructor
  · intro h
    apply List.ext_getElem hl
    intro i h1 h2
    have := h i h1
    simpa [h1, h2] using this
  · rintro rfl i _; rfl

/-- A fact that no tactic looks into till it is opened. -/
structure VeilE (p : Prop) : Prop where
  out : p
theorem ret_b {a b : Bool} (h : a = b) : Ending.returned (.bool a) = .returned (.bool b) := by rw [h]
theorem orx_succ (z b : List Int) (k : Nat) (p q : Int) (hp : z[k]?.getD 0 = p) (hq : b[k]?.getD 0 = q) : orx z b (k + 1) = bits .or .u8 (orx z b k) (bits .xor .u8 p q) := by subst hp hq; rfl

set_option maxHeartbeats 1000000 in
theorem equal_any (x : Option Addr) (len cap : Nat) (z : List Int) (y : Option Addr) (lb cb : Nat) (b : List Int) (w : World) (hx : Bytes w x len cap z) (hy : Bytes w y lb cb b) (hz : ∀ v ∈ z, 0 ≤ v ∧ v ≤ 255) (hb : ∀ v ∈ b, 0 ≤ v ∧ v ≤ 255) :
    Calls Tryd.prog 44 #[.slice x len cap, .slice y lb cb] w fun e w' => e = .returned (.bool (z == b)) ∧ ∃ n, w' = w.drewN n := by
  have hxl := hx.len_eq
  have hyl := hy.len_eq
  have hle := hx.le
  have htop := hx.top
  by_cases hl : len = lb
  · have HE : VeilE ((orx z b len == 0) = (z == b)) := ⟨by rw [hxl]; exact orx_eq z b hz hb (by omega)⟩
    subst hl
    clear hz hb hxl hyl
    go_enter Tryd.func44, Tryd.ntmps44
    go_wp2
    go_loopw [5, 14] (fun u i wr => ∃ k : Nat, k ≤ len ∧ i = .int .i64 k ∧ u = .int .u8 (orx z b k) ∧ ∃ n, wr = w.drewN n) (fun _ i _ => len - (intOf i).toNat)
    case atStart => exact ⟨0, by omega, rfl, rfl, 0, rfl⟩
    case round =>
      obtain ⟨k, hk, rfl, rfl, n, rfl⟩ := hrel
      by_cases hlt : k < len
      · obtain ⟨b1, o1, hx1, hc1⟩ : ∃ b off, x = some ⟨b, off, none⟩ ∧ ∀ j, j < len → w.cell? ⟨b, off + j, none⟩ = some (.int .u8 (z[j]?.getD 0)) := by
          rcases hx.at_ with h0 | h
          · omega
          · exact h
        obtain ⟨b2, o2, hx2, hc2⟩ : ∃ b' off, y = some ⟨b', off, none⟩ ∧ ∀ j, j < len → w.cell? ⟨b', off + j, none⟩ = some (.int .u8 (b[j]?.getD 0)) := by
          rcases hy.at_ with h0 | h
          · omega
          · exact h
        subst hx1 hx2
        have c1 := hc1 k hlt
        have c2 := hc2 k hlt
        obtain ⟨p, hp⟩ : ∃ p, z[k]?.getD 0 = p := ⟨_, rfl⟩
        obtain ⟨q, hq⟩ : ∃ q, b[k]?.getD 0 = q := ⟨_, rfl⟩
        have HS : VeilE (orx z b (k + 1) = bits .or .u8 (orx z b k) (bits .xor .u8 p q)) := ⟨orx_succ z b k p q hp hq⟩
        rw [hp] at c1
        rw [hq] at c2
        obtain ⟨U, hU⟩ : ∃ q, orx z b k = q := ⟨_, rfl⟩
        rw [hU] at HS ⊢
        have hki : (0 : Int) ≤ (k : Int) := by omega
        have hkl : (k : Int) < (len : Int) := by omega
        clear hc1 hc2 hp hq hU hx hy HE
        go_wp2
        go_quiet ((fail))
        go_wp2
        go_roundw
        case rel => exact ⟨k + 1, by omega, by go_num, by rw [HS.out], n + nq, by simp⟩
        case measure => simp [intOf]; omega
      · obtain rfl : k = len := by omega
        go_wp2
        go_ret
        exact ⟨ret_b HE.out, n, rfl⟩
  · have hne : (z == b) = false := by
      rw [beq_eq_false_iff_ne]
      intro h
      exact hl (by rw [hxl, hyl, h])
    have hli : ¬ ((len : Int) = (lb : Int)) := by omega
    rw [hne]
    clear hxl hyl
    go_enter Tryd.func44, Tryd.ntmps44
    go_wp2
    go_ret
    exact ⟨rfl, 0, rfl⟩
end Go.Proofs.YtlalcnmcnkompaaDoor
