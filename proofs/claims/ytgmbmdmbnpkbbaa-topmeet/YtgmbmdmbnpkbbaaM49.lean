/- Hv2 TopHeirsW Mt3 -/
import Derived.Test.YtgmbmdmbnpkbbaaM46
import Derived.Test.YtgmbmdmbnpkbbaaM48
import Derived.Test.YtgmbmdmbnpkbbaaM43
import Derived.Test.YtgmbmdmbnpkbbaaM47
namespace Go.Proofs.Ytgmbmdmbnpkbbaa
open Go.RowKit Go.Shelf
set_option maxRecDepth 20000
set_option linter.unusedSimpArgs false
theorem DocAt.lessD {w : World} {base base' : Nat} {st : Ds} {p : Pl} (h : DocAt w base st p) (hb : base' ≤ base) : DocAt w base' st p := ⟨h.box, h.tree.lessD hb, h.book, h.evs.less hb, h.force, h.apart⟩
structure TwoP (B : Nat) (W : World) (s1 s2 : Ds) (p1 p2 : Pl) (K : List (Nat × List Value)) : Prop where
  d1 : DocAt W B s1 p1
  d2 : DocAt W B s2 p2
  a1 : ∀ k, docP p1 k → B ≤ k
  a2 : ∀ k, docP p2 k → B ≤ k
  apart : ∀ k, docP p1 k → ¬ docP p2 k
  kept : ∀ x ∈ K, CellsAt W x.1 32 x.2 ∧ ¬ docP p1 x.1 ∧ ¬ docP p2 x.1
def TwoD (B : Nat) (W : World) (s1 s2 : Ds) (D1 D2 : Nat) (K : List (Nat × List Value)) : Prop := ∃ p1 p2, p1.D = D1 ∧ p2.D = D2 ∧ TwoP B W s1 s2 p1 p2 K
section
variable {B : Nat} {W W' : World} {s1 s2 : Ds} {D1 D2 : Nat} {K : List (Nat × List Value)}
theorem TwoD.swap (h : TwoD B W s1 s2 D1 D2 K) : TwoD B W s2 s1 D2 D1 K := by
  obtain ⟨p1, p2, h1, h2, h⟩ := h
  exact ⟨p2, p1, h2, h1, ⟨h.d2, h.d1, h.a2, h.a1, fun k q r => h.apart k r q, fun x hx => ⟨(h.kept x hx).1, (h.kept x hx).2.2, (h.kept x hx).2.1⟩⟩⟩
theorem TwoD.far (h : TwoD B W s1 s2 D1 D2 K) (hb : Below W.heap.size W W') : TwoD B W' s1 s2 D1 D2 K := by
  obtain ⟨p1, p2, h1, h2, h⟩ := h
  exact ⟨p1, p2, h1, h2, ⟨h.d1.far hb, h.d2.far hb, h.a1, h.a2, h.apart, fun x hx => ⟨(h.kept x hx).1.farM hb, (h.kept x hx).2⟩⟩⟩
theorem TwoD.keep (h : TwoD B W s1 s2 D1 D2 K) (hb : Below W.heap.size W W') {b : Nat} {cs : List Value} (hc : CellsAt W' b 32 cs) (hl : W.heap.size ≤ b) : TwoD B W' s1 s2 D1 D2 ((b, cs) :: K) := by
  obtain ⟨p1, p2, h1, h2, h⟩ := h
  refine ⟨p1, p2, h1, h2, ⟨h.d1.far hb, h.d2.far hb, h.a1, h.a2, h.apart, fun x hx => ?_⟩⟩
  rcases List.mem_cons.1 hx with rfl | q
  · exact ⟨hc, fun q => by have := h.d1.blockLt _ q; omega, fun q => by have := h.d2.blockLt _ q; omega⟩
  · exact ⟨(h.kept x q).1.farM hb, (h.kept x q).2⟩
theorem TwoD.cells (h : TwoD B W s1 s2 D1 D2 K) {x : Nat × List Value} (hx : x ∈ K) : CellsAt W x.1 32 x.2 := by
  obtain ⟨p1, p2, h1, h2, h⟩ := h
  exact (h.kept x hx).1
theorem TwoD.fst (h : TwoD B W s1 s2 D1 D2 K) : AtD B W s1 D1 := by
  obtain ⟨p1, p2, h1, h2, h⟩ := h
  exact ⟨p1, h1, h.d1, h.a1⟩
theorem TwoD.apply (h : TwoD B W s1 s2 D1 D2 K) (hG : GoodD s1) {e : Ev} (he : e.Ok) (hr : refD s1 e = 0) (hB : B ≤ W.heap.size) :
    Calls Try.prog 12 #[.pointer (some ⟨D1, 0, none⟩), .agg e.cells.toArray] W fun r w' => r = .returned (.int .i64 0) ∧ TwoD B w' (apS s1 e) s2 D1 D2 K ∧ Below B W w' := by
  obtain ⟨p1, p2, rfl, h2, h⟩ := h
  have hdo : doS s1 e = apS s1 e := if_pos hr
  have hap := dApply_any B s1 p1 e W h.d1 hG he hB
  rw [hr, hdo] at hap
  refine hap.mono ?_
  rintro r w' ⟨h3, p3, hD3, ht⟩
  have hnew : ∀ k, k < W.heap.size → ¬ docP p1 k → ¬ docP p3 k := fun k hk hn q => by
    rcases ht.own k q with r | r
    · exact hn r
    · omega
  refine ⟨h3, ⟨p3, p2, ht.at_, h2, ⟨hD3, h.d2.turned ht.turn fun k q r => h.apart k r q, fun k q => ?_, h.a2, fun k q r => ?_, fun x hx => ?_⟩⟩, ht.turn.below hB h.a1⟩
  · rcases ht.own k q with r | r
    · exact h.a1 k r
    · omega
  · exact hnew k (h.d2.blockLt k r) (fun s => h.apart k s r) q
  · obtain ⟨c1, c2, c3⟩ := h.kept x hx
    exact ⟨c1.congr (ht.turn.block _ c1.lt c2), hnew _ c1.lt c2, c3⟩
end
theorem TwoD.made {B1 B2 : Nat} {W1 W : World} {s1 s2 : Ds} {D1 D2 : Nat} (h1 : AtD B1 W1 s1 D1) (hb : Below W1.heap.size W1 W) (h2 : AtD B2 W s2 D2) (hB : B1 ≤ B2) (hl : W1.heap.size ≤ B2) : TwoD B1 W s1 s2 D1 D2 [] := by
  obtain ⟨p1, e1, d1, a1⟩ := h1
  obtain ⟨p2, e2, d2, a2⟩ := h2
  exact ⟨p1, p2, e1, e2, ⟨d1.far hb, d2.lessD hB, a1, fun k q => Nat.le_trans hB (a2 k q), fun k q r => by have := d1.blockLt k q; have := a2 k r; omega, fun x hx => by cases hx⟩⟩
theorem AtD.force {base : Nat} {W : World} {st : Ds} {D : Nat} (h : AtD base W st D) (hG : GoodD st) (x : Int × Int) (hx : okDF x) : Calls Try.prog 14 #[.pointer (some ⟨D, 0, none⟩), .agg (encF x).toArray] W fun r w' => r = .returned (.bool (decide (x ∈ st.F))) ∧ Below W.heap.size W w' := by
  obtain ⟨p, rfl, hD, -⟩ := h
  exact dForce_any base st p x hx W hD hG
theorem AtD.text {base : Nat} {W : World} {st : Ds} {D : Nat} (h : AtD base W st D) (hG : GoodD st) : Calls Try.prog 15 #[.pointer (some ⟨D, 0, none⟩)] W fun r w' => ∃ v, r = .returned v ∧ OwnB w' W.heap.size v (textN st.N) ∧ Below W.heap.size W w' := by
  obtain ⟨p, rfl, hD, -⟩ := h
  exact dText_any base st p W hD hG
theorem AtD.write {base : Nat} {W : World} {st : Ds} {D : Nat} (h : AtD base W st D) (hG : GoodD st) (a i c : Int) (ha : 0 ≤ a) (hi : i ≤ 9223372036854775807) : Calls Try.prog 10 #[.pointer (some ⟨D, 0, none⟩), .int .u8 a, .int .i64 i, .int .u8 c] W fun r w' => r = .returned (.tuple #[.agg (tellW st a i c).1.cells.toArray, .int .i64 (tellW st a i c).2]) ∧ Below W.heap.size W w' := by
  obtain ⟨p, rfl, hD, -⟩ := h
  exact dWrite_any base st p a i c W hD hG ha hi
theorem AtD.give {base : Nat} {W : World} {st : Ds} {D : Nat} (h : AtD base W st D) (hG : GoodD st) (a who role : Int) (ha : 0 ≤ a) : Calls Try.prog 7 #[.pointer (some ⟨D, 0, none⟩), .int .u8 a, .int .u8 who, .int .u8 role] W fun r w' => r = .returned (.tuple #[.agg (tellG st a who role).1.cells.toArray, .int .i64 (tellG st a who role).2]) ∧ Below W.heap.size W w' := by
  obtain ⟨p, rfl, hD, -⟩ := h
  exact dGive_any base st p a who role W hD hG ha
theorem AtD.take {base : Nat} {W : World} {st : Ds} {D : Nat} (h : AtD base W st D) (hG : GoodD st) (a who : Int) (ha : 0 ≤ a) : Calls Try.prog 9 #[.pointer (some ⟨D, 0, none⟩), .int .u8 a, .int .u8 who] W fun r w' => r = .returned (.tuple #[.agg (tellT st a who).1.cells.toArray, .int .i64 (tellT st a who).2]) ∧ Below W.heap.size W w' := by
  obtain ⟨p, rfl, hD, -⟩ := h
  exact dTake_any base st p a who W hD hG ha
def charC (x : Int) : Int := x % 127 + 1
def wordL (z : List Int) : List Int := z.map charC
theorem wordL_next {z : List Int} {i : Nat} (h : i < z.length) : wordL (z.take (i + 1)) = wordL (z.take i) ++ [charC (z[i]?.getD 0)] := by
  unfold wordL
  rw [List.take_succ_eq_append_getElem h, List.map_append, List.getElem?_eq_getElem h]
  rfl
theorem wordL_ok {z : List Int} (h : z.length ≤ 10) : WordOk (wordL z) where
  len := by unfold wordL; rw [List.length_map]; exact h
  chr := fun k hk => by
    have hk' : k < z.length := by unfold wordL at hk; rw [List.length_map] at hk; exact hk
    have e : (wordL z)[k]?.getD 0 = charC z[k] := by unfold wordL; rw [List.getElem?_map, List.getElem?_eq_getElem hk']; rfl
    rw [e]; unfold charC; omega
set_option maxHeartbeats 8000000 in
theorem word_any (x : Option Addr) (len cap : Nat) (z : List Int) (w : World) (h : Bytes w x len cap z) (hz : ∀ v ∈ z, 0 ≤ v ∧ v ≤ 255) (hl : len ≤ 1000) :
    Calls Try.prog 20 #[.slice x len cap] w fun r w' => r = .returned (.string (strOfNums (wordL z))) ∧ Below w.heap.size w w' := by
  have HB := Veil.mk h
  have HZ := Veil.mk hz
  have HL := Veil.mk h.len_eq
  clear h hz
  go_enter Try.func20, Try.ntmps20
  go_wp2_with fail
  go_loopw [3, 4] (fun ov iv wr => ∃ i : Nat, iv = .int .i64 (i : Nat) ∧ i ≤ len ∧ OwnB wr w.heap.size ov (wordL (z.take i)) ∧ Below w.heap.size w wr) (fun _ iv _ => len - (intOf iv).toNat)
  case atStart => exact ⟨0, rfl, Nat.zero_le _, OwnB.nil _ _, Below.refl _ _⟩
  case round =>
    obtain ⟨i, rfl, hi, ho, hB⟩ := hrel
    by_cases hlt : i < len
    · have hiz : i < z.length := by have := HL.out; omega
      have d1 : decide ((i : Int) < (len : Int)) = true := by simp; omega
      have l1 : (i : Int) < (len : Int) := by omega
      have hi0 : (0 : Int) ≤ (i : Int) := by omega
      have hww : IntKind.i64.wrap ((i : Int) + 1) = (i : Int) + 1 := by rw [IntKind.wrap_i64]; omega
      obtain ⟨g, o, rfl, hc⟩ : ∃ g o, x = some ⟨g, o, none⟩ ∧ wr.cell? ⟨g, o + i, none⟩ = some (.int .u8 (z[i]?.getD 0)) := by
        rcases (HB.out.below hB).at_ with h | ⟨g, o, hx, hc⟩
        · omega
        · exact ⟨g, o, hx, hc i hlt⟩
      have hv : 0 ≤ z[i]?.getD 0 ∧ z[i]?.getD 0 ≤ 255 := by
        rw [List.getElem?_eq_getElem hiz]; exact HZ.out _ (List.getElem_mem hiz)
      have HN := Veil.mk (wordL_next hiz)
      generalize z[i]?.getD 0 = c at hc hv HN
      obtain ⟨q, hq⟩ : ∃ q, c.tmod 127 = q := ⟨_, rfl⟩
      have hqw : IntKind.u8.wrap (q + 1) = charC c := by
        rw [← hq, IntKind.wrap_u8, Int.tmod_eq_emod_of_nonneg hv.1]; unfold charC; omega
      generalize charC c = cc at hqw HN
      have hol : (wordL (z.take i)).length ≤ 4000000 := by unfold wordL; rw [List.length_map, List.length_take]; omega
      generalize wordL (z.take i) = A at ho HN hol
      clear hv hiz
      go_wp2_with (at_builtin; refine wpList_app1 rfl _ _ rfl w.heap.size _ A rfl cc (ho.alloc _) rfl hol hB.size ?_; intro v3 w3 ho3 hg3)
      go_roundw
      case rel => exact ⟨i + 1, by push_cast; rfl, hlt, by rw [HN.out]; exact ho3, below_grown (hB.alloc hB.size _) (ho.alloc _) hg3 (by have := hB.size; simp; omega)⟩
      case measure => simp [intOf]; omega
    · obtain rfl : i = len := by omega
      have d1 : decide ((i : Int) < (i : Int)) = false := by simp
      have l1 : ¬ (i : Int) < (i : Int) := by omega
      rw [List.take_of_length_le (by have := HL.out; omega)] at ho
      obtain ⟨y, n, c, rfl, -⟩ := ho.isSlice
      have hcv := conv_bytes ho.bytes.2
      obtain ⟨S, hS⟩ : ∃ q, strOfNums (wordL z) = q := ⟨_, rfl⟩
      rw [hS] at hcv
      have HSS := Veil.mk hS
      clear ho hS
      go_wp2
      go_ret
      exact ⟨by rw [HSS.out]; rfl, hB⟩
theorem TwoD.applied {B : Nat} {W : World} {s1 s2 : Ds} {D1 D2 : Nat} {K : List (Nat × List Value)} (h : TwoD B W s1 s2 D1 D2 K) (hG : GoodD s1) {e : Ev} (he : e.Ok) (hr : refD s1 e = 0) (hB : B ≤ W.heap.size) :
    Calls Try.prog 8 #[.pointer (some ⟨D1, 0, none⟩), .agg e.cells.toArray, .int .i64 0] W fun r w' => r = .returned (.bool true) ∧ TwoD B w' (apS s1 e) s2 D1 D2 K ∧ Below B W w' := by
  have hB0 : Below W.heap.size W (W.alloc (.cells e.cells.toArray 32)) := (Below.refl _ _).alloc (Nat.le_refl _) _
  have hx0 := CellsAt.new W 32 e.cells
  have he1 := aev_len e he.past
  have iE : (Try.prog.info? 32).map (·.size) = some e.cells.length := by rw [he1]; kernel_rfl
  have uE := Try.underlying32
  have hap := (h.far hB0).apply hG he hr (Nat.le_trans hB hB0.size)
  have hr0 := hx0.wholeM
  generalize e.cells = E at hB0 hx0 iE hap hr0 ⊢
  have HB0 := Veil.mk hB0
  clear h he hG he1 hr hx0 hB0
  go_enter Try.func8, Try.ntmps8
  go_wp2_with (first
    | (refine wpList_ldgv (by kernel_rfl) 32 _ rfl W.heap.size 0 rfl E hr0 uE rfl iE ?_)
    | (go_at_call 12; refine hap.mono ?_; rintro y W1 ⟨rfl, hT1, ht1⟩; clear hap))
  go_ret
  exact ⟨rfl, hT1, (HB0.out.mono hB).trans ht1⟩
structure Steps (f : Nat → Ds) (g : Nat → Ev) (au : Int) (z : List Int) : Prop where
  good : ∀ i, i ≤ z.length → GoodD (f i)
  tell : ∀ i, i < z.length → tellW (f i) au (i : Int) (charC (z[i]?.getD 0)) = (g i, 0)
  ok : ∀ i, i < z.length → (g i).Ok
  ref : ∀ i, i < z.length → refD (f i) (g i) = 0
  next : ∀ i, i < z.length → f (i + 1) = apS (f i) (g i)
theorem str_at {z : List Int} (hz : ∀ v ∈ z, 0 ≤ v ∧ v ≤ 255) {i : Nat} (h : i < z.length) (hs : i < (strOfNums z).size) : (((strOfNums z)[i]'hs).toNat : Int) = z[i]?.getD 0 := by
  have h1 := hz _ (List.getElem_mem h)
  rw [List.getElem?_eq_getElem h]
  show ((((z.map fun n => UInt8.ofNat n.toNat).toArray)[i]'(by simpa using h)).toNat : Int) = _
  simp
  omega
set_option maxHeartbeats 16000000 in
theorem typed_any {B : Nat} {f : Nat → Ds} {g : Nat → Ev} {au : Int} {z : List Int} (hS : Steps f g au z) (hau : 0 ≤ au) {s2 : Ds} {D1 D2 : Nat} (x : Option Addr) (len cap : Nat) (w : World) (h : TwoD B w (f 0) s2 D1 D2 []) (hb : Bytes w x len cap z) (hz : ∀ v ∈ z, 0 ≤ v ∧ v ≤ 255) (hl : len ≤ 10) (hB : B ≤ w.heap.size) :
    Calls Try.prog 18 #[.pointer (some ⟨D1, 0, none⟩), .int .u8 au, .slice x len cap] w fun r w' => r = .returned (.bool true) ∧ TwoD B w' (f len) s2 D1 D2 [] ∧ Below B w w' := by
  have hwd := word_any x len cap z w hb hz (by omega)
  have hlz := hb.len_eq
  have hwl : (strOfNums (wordL z)).size = len := by rw [strOfNums_size]; unfold wordL; rw [List.length_map]; exact hlz.symm
  have HIX : Veil (∀ i, i < len → ∀ W, (Instr.index 9 (.string (strOfNums (wordL z))) (.int .i64 (i : Nat))).run Try.prog W = .ok (.int .u8 (charC (z[i]?.getD 0))) W) := ⟨fun i hi W => by
    have hiz : i < z.length := by omega
    have e : (wordL z)[i]?.getD 0 = charC (z[i]?.getD 0) := by
      unfold wordL
      rw [List.getElem?_map, List.getElem?_eq_getElem hiz]; rfl
    rw [run_index_string _ _ _ _ _ (by kernel_rfl), dif_pos ⟨by omega, by omega⟩, ← e]
    rw [← str_at (z := wordL z) (fun v hv => by
      obtain ⟨c, hc, rfl⟩ := List.mem_map.1 hv
      have := hz c hc
      unfold charC; omega) (by unfold wordL; rw [List.length_map]; exact hiz) (by omega)]
    rfl⟩
  generalize strOfNums (wordL z) = S at hwd hwl HIX
  have HS := Veil.mk hS
  have HLZ := Veil.mk hlz
  have HT := Veil.mk h
  have HBB := Veil.mk hB
  have HZ : Veil (∀ (W : World) (C : List Value), CellsAt (W.alloc (.cells zC.toArray 32)) W.heap.size 32 zC ∧ Below W.heap.size W ((W.alloc (.cells zC.toArray 32)).setRow W.heap.size C.toArray)) := ⟨fun W C => ⟨CellsAt.new W 32 zC, below_setRow ((Below.refl _ _).alloc (Nat.le_refl _) _) (Nat.le_refl _) _⟩⟩
  unfold zC at HZ
  have uE := Try.underlying32
  clear hS hlz h hb hz hB
  go_enter Try.func18, Try.ntmps18
  go_upto_region 2 with (go_at_call 20; refine hwd.mono ?_; rintro y W0 ⟨rfl, hb0⟩; clear hwd)
  have hT0 := HT.out.far hb0
  have hB0 := hb0.mono HBB.out
  clear hb0
  go_wp2_with fail
  go_loopw [8, 9, 10] (fun iv _ _ wr => ∃ i : Nat, iv = .int .i64 (i : Nat) ∧ i ≤ len ∧ TwoD B wr (f i) s2 D1 D2 [] ∧ Below B w wr) (fun iv _ _ _ => len - (intOf iv).toNat)
  case atStart => exact ⟨0, rfl, Nat.zero_le _, hT0, hB0⟩
  case round =>
    clear hT0 hB0
    obtain ⟨i, rfl, hi, hT, hBw⟩ := hrel
    by_cases hlt : i < len
    · have hiz : i < z.length := by have := HLZ.out; omega
      have d1 : decide ((i : Int) < (len : Int)) = true := by simp; omega
      have l1 : (i : Int) < (len : Int) := by omega
      have hi0 : (0 : Int) ≤ (i : Int) := by omega
      have hww : IntKind.i64.wrap ((i : Int) + 1) = (i : Int) + 1 := by rw [IntKind.wrap_i64]; omega
      have hix := HIX.out i hlt wr
      have hcl := hT.fst.write (HS.out.good i (by omega)) au (i : Int) (charC (z[i]?.getD 0)) hau (by omega)
      rw [HS.out.tell i hiz] at hcl
      have HAP : Veil (∀ W, TwoD B W (f i) s2 D1 D2 [] → B ≤ W.heap.size → Calls Try.prog 8 #[.pointer (some ⟨D1, 0, none⟩), .agg (g i).cells.toArray, .int .i64 0] W fun r w' => r = .returned (.bool true) ∧ TwoD B w' (f (i + 1)) s2 D1 D2 [] ∧ Below B W w') := ⟨fun W h1 h2 => by rw [HS.out.next i hiz]; exact h1.applied (HS.out.good i (by omega)) (HS.out.ok i hiz) (HS.out.ref i hiz) h2⟩
      have e1 := aev_len (g i) (HS.out.ok i hiz).past
      have n1 : ∀ v ∈ (g i).cells, v.oneCell' = true := aev_one _
      have i1 : (Try.prog.info? 32).map (·.size) = some (g i).cells.length := by rw [e1]; kernel_rfl
      generalize (g i).cells = C1 at hcl HAP e1 n1 i1
      generalize charC (z[i]?.getD 0) = cc at hix hcl
      have HHT := Veil.mk (And.intro hT (And.intro hBw (Nat.le_trans HBB.out hBw.size)))
      clear hT hBw hiz
      go_upto_region 6 with (first
        | (go_at_call 10; refine hcl.mono ?_; rintro y W1 ⟨rfl, hb1⟩; have hz1 := (HZ.out W1 C1).1; clear hcl)
        | (refine wpList_stv (cs := C1) rfl 32 _ _ rfl W1.heap.size rfl rfl hz1 i1 (by rw [e1]; rfl) n1 ?_))
      have hb2 := (HZ.out W1 C1).2
      have hz2 := hz1.setRow C1
      have hb12 := hb1.trans (hb2.mono hb1.size)
      refine forget (p := fun y => Code.wp _ _ _ _ y) (fun W2 => Below wr.heap.size wr W2 ∧ CellsAt W2 W1.heap.size 32 C1) ⟨hb12, hz2⟩ ?_
      generalize W1.heap.size = b1
      clear hb1 hb2 hb12 hz1 hz2 hix W1
      rintro W2 ⟨hb2, hx2⟩
      have hr2 := hx2.wholeM
      have hB2 := HHT.out.2.1.trans (hb2.mono HHT.out.2.2)
      have hap := HAP.out W2 (HHT.out.1.far hb2) (Nat.le_trans HHT.out.2.2 hb2.size)
      clear hb2 hx2
      go_wp2_with (first
        | (refine wpList_ldv rfl 32 _ rfl b1 0 rfl C1 hr2 uE rfl i1 ?_)
        | (go_at_call 8; refine hap.mono ?_; rintro y W3 ⟨rfl, hT3, hB3⟩; clear hap))
      go_roundw
      case rel => exact ⟨i + 1, by push_cast; rfl, hlt, hT3, hB2.trans hB3⟩
      case measure => simp [intOf]; omega
    · obtain rfl : i = len := by omega
      have d1 : decide ((i : Int) < (i : Int)) = false := by simp
      have l1 : ¬ (i : Int) < (i : Int) := by omega
      go_wp2
      go_ret
      exact ⟨rfl, hT, hBw⟩
end Go.Proofs.Ytgmbmdmbnpkbbaa
