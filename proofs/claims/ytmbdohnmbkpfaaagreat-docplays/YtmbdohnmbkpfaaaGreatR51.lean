/- Dlv DocPlaysW -/
import Derived.Test.YtmbdohnmbkpfaaaGreatR47
import Derived.Test.YtmbdohnmbkpfaaaGreatR50
namespace Go.Proofs.YtmbdohnmbkpfaaaGreat
open Go.RowKit Go.Shelf
set_option maxRecDepth 20000
set_option linter.unusedSimpArgs false
def e1L : Ev := ⟨0, 1, [0, 0, 0, 0, 0, 0, 0, 0], 1, 0, 0, true, 97, 0, 0⟩
def s1L : Ds := ⟨[⟨(0, 1), ((0, 0), true), 97⟩], [], [1, 0, 0, 0, 0, 0, 0, 0], [e1L], [(0, 1)]⟩
theorem tell1L : tellW newS 0 0 97 = (e1L, 0) := rfl
theorem ref1L : refD newS e1L = 0 := by decide
theorem do1L : doS newS e1L = s1L := rfl
theorem text1L : textN s1L.N = [97] := by decide
theorem mem1L : membersL s1L.B s1L.S = [3, 0, 0, 0, 0, 0, 0, 0] := by decide
theorem e1L_ok : e1L.Ok := ⟨⟨by decide, by decide⟩, rfl, (fun x hx => by
  have h0 : x = 0 := (by simpa [e1L] using hx)
  subst h0; decide), ⟨by decide, by decide⟩, by decide, by decide, by decide, by decide⟩
set_option maxHeartbeats 8000000 in
theorem live10_any (w : World) : Calls Tryz.prog 12 #[] w fun e w' => e = .returned (.bool true) ∧ Below w.heap.size w w' := by
  have hG1 : GoodD s1L := by rw [← do1L]; exact GoodD.new.does e1L_ok
  have HWR : Veil (∀ W p, DocAt W w.heap.size newS p → Calls Tryz.prog 25 #[.pointer (some ⟨p.D, 0, none⟩), .int .u8 0, .int .i64 0, .int .u8 97] W fun r w' => r = .returned (.tuple #[.agg (evKC 1 0 0 true 97 0 0 |>.set 1 (.int .u32 1)).toArray, .int .i64 0]) ∧ Below W.heap.size W w') := ⟨fun W p h => by
    have := dWrite_any w.heap.size newS p 0 0 97 W h GoodD.new (by decide) (by decide)
    rw [tell1L] at this
    exact this⟩
  have HAP : Veil (∀ W p, DocAt W w.heap.size newS p → w.heap.size ≤ W.heap.size → Calls Tryz.prog 18 #[.pointer (some ⟨p.D, 0, none⟩), .agg (evKC 1 0 0 true 97 0 0 |>.set 1 (.int .u32 1)).toArray] W fun r w' => r = .returned (.int .i64 0) ∧ ∃ p', DocAt w' w.heap.size s1L p' ∧ DocTo p p' W w') := ⟨fun W p h hb => by
    have := dApply_any w.heap.size newS p e1L W h GoodD.new e1L_ok hb
    rw [ref1L, do1L] at this
    exact this⟩
  have HTX : Veil (∀ W p, DocAt W w.heap.size s1L p → Calls Tryz.prog 20 #[.pointer (some ⟨p.D, 0, none⟩)] W fun e w' => ∃ x c, e = .returned (.slice x 1 c) ∧ (convert 30 9 (.slice x 1 c)).run Tryz.prog w' = .ok (.string (strOfNums [97])) w' ∧ Below W.heap.size W w') := ⟨fun W p h => (dText_any w.heap.size s1L p W h hG1).mono fun e w' ⟨v, h1, h2, h3⟩ => by
    rw [text1L] at h2
    obtain ⟨x, c, rfl⟩ : ∃ x c, v = .slice x 1 c := by
      rcases h2.2 with ⟨rfl, h0⟩ | ⟨g, cap, cur, rfl, _⟩
      · simp at h0
      · exact ⟨_, _, rfl⟩
    exact ⟨x, c, h1, conv_bytes h2.bytes.2, h3⟩⟩
  have HME : Veil (∀ W p, DocAt W w.heap.size s1L p → Calls Tryz.prog 21 #[.pointer (some ⟨p.D, 0, none⟩)] W fun r w' => r = .returned (.agg #[.int .u8 3, .int .u8 0, .int .u8 0, .int .u8 0, .int .u8 0, .int .u8 0, .int .u8 0, .int .u8 0]) ∧ Below W.heap.size W w') := ⟨fun W p h => by
    have := dMembers_any w.heap.size s1L p W h hG1
    rw [mem1L] at this
    exact this⟩
  have HFO : Veil (∀ W p, DocAt W w.heap.size s1L p → Calls Tryz.prog 19 #[.pointer (some ⟨p.D, 0, none⟩), .agg #[.int .u8 0, .int .u32 1]] W fun r w' => r = .returned (.bool true) ∧ Below W.heap.size W w') := ⟨fun W p h => by
    have := dForce_any w.heap.size s1L p (0, 1) ⟨⟨by decide, by decide⟩, ⟨by decide, by decide⟩⟩ W h hG1
    rw [show decide ((0, 1) ∈ s1L.F) = true by decide] at this
    exact this⟩
  have HS : Veil (((strOfNums [97]).toList == [97]) = true) := ⟨by rw [show (strOfNums [97]).toList = [97] by rw [ByteArray.toList_eq]; show (strOfNums [97]).data.toList = _; rw [strOfNums_data]; rfl]; rfl⟩
  have hnew := dNew_any w
  have uE := Tryz.underlying44
  have uD := Tryz.underlying40
  obtain ⟨EC, hEC⟩ : ∃ q, (evKC 1 0 0 true 97 0 0 |>.set 1 (.int .u32 1)) = q := ⟨_, rfl⟩
  rw [hEC] at HWR HAP
  have iE : (Tryz.prog.info? 44).map (·.size) = some EC.length := by rw [← hEC]; show _ = some 17; kernel_rfl
  have h1E : ∀ v ∈ EC, v.oneCell' = true := by rw [← hEC]; exact aev_one e1L
  have hE17 : EC.length = 17 := by rw [← hEC]; rfl
  have HE2 : Veil (EC.take 2 = [.int .u8 0, .int .u32 1]) := ⟨by rw [← hEC]; rfl⟩
  have i01 : (Tryz.prog.info? 40).map (·.size) = some [Value.int .u8 0, Value.int .u32 1].length := sizeDot
  have HZ : Veil (∀ W : World, CellsAt (W.alloc (.cells zC.toArray 44)) W.heap.size 44 zC) := ⟨fun W => CellsAt.new W 44 zC⟩
  unfold zC at HZ
  clear hG1 hEC
  go_enter Tryz.func12, Tryz.ntmps12
  go_upto_region 3 with (first
    | (go_at_call 15; refine hnew.mono ?_; rintro z W1 ⟨p1, rfl, hD1, hB1, hab⟩; have hwr := HWR.out W1 p1 hD1; clear hnew)
    | (go_at_call 25; refine hwr.mono ?_; rintro z W2 ⟨rfl, hb2⟩; have hz2 := HZ.out W2; clear hwr)
    | (refine wpList_stv (cs := EC) rfl 44 _ _ rfl W2.heap.size rfl rfl hz2 iE (by rw [hE17]; rfl) h1E ?_))
  have hb3 : Below W2.heap.size W2 ((W2.alloc (.cells zC.toArray 44)).setRow W2.heap.size EC.toArray) := below_setRow ((Below.refl _ _).alloc (Nat.le_refl _) _) (Nat.le_refl _) _
  have hb13 := hb2.trans (hb3.mono hb2.size)
  have hx3 := hz2.setRow EC
  refine forget (p := fun y => Code.wp _ _ _ _ y) (fun W => Below W1.heap.size W1 W ∧ CellsAt W W2.heap.size 44 EC) ⟨hb13, hx3⟩ ?_
  have HNE : Veil (¬ docP p1 W2.heap.size) := ⟨fun q => by have := hD1.blockLt _ q; have := hb2.size; omega⟩
  generalize W2.heap.size = be at HNE
  clear hb13 hb3 hb2 hz2 hx3 W2
  rintro W3 ⟨hb3, hx3⟩
  have hD3 := hD1.far hb3
  have hB3 := hB1.trans (hb3.mono hB1.size)
  have hap := HAP.out W3 p1 hD3 hB3.size
  have hr3 := hx3.wholeM
  have HAB := Veil.mk hab
  clear hD1 hB1 hb3 hab W1
  go_upto_region 4 with (first
    | (refine wpList_ldv rfl 44 _ rfl be 0 rfl EC hr3 uE rfl iE ?_)
    | (go_at_call 18; refine hap.mono ?_; rintro z W4 ⟨rfl, p4, hD4, ht4⟩; clear hap))
  have hx4 := hx3.congr (ht4.turn.block _ hx3.lt HNE.out)
  have hB4 : Below w.heap.size w W4 := hB3.trans (ht4.turn.below hB3.size fun k q => HAB.out k q)
  have HPD : Veil (p4.D = p1.D) := ⟨ht4.at_⟩
  have htx := HTX.out W4 p4 hD4
  rw [HPD.out] at htx
  have HD4 := Veil.mk hD4
  have HB4 := Veil.mk hB4
  have HX4 := Veil.mk hx4
  have HS2 := HS.out
  have hix : ∀ W : World, (Instr.index 49 (.agg #[.int .u8 3, .int .u8 0, .int .u8 0, .int .u8 0, .int .u8 0, .int .u8 0, .int .u8 0, .int .u8 0]) (.int .i64 0)).run Tryz.prog W = .ok (.int .u8 3) W := fun W => by kernel_rfl
  have HRD : Veil (∀ W, Below W4.heap.size W4 W → W.rangeAt be 0 [.int .u8 0, .int .u32 1]) := ⟨fun W hb => by
    have := (HX4.out.farM hb).range 0 2
    rw [List.drop_zero, HE2.out] at this
    exact this⟩
  clear hx3 hr3 hD3 hB3 hD4 ht4 hx4 hB4 W3
  go_wp2_with (first
    | (go_at_call 20; refine htx.mono ?_; rintro z W5 ⟨tx, tc, rfl, hcv, hb5⟩; have hme := HME.out W5 p4 (HD4.out.far hb5); rw [HPD.out] at hme; clear htx)
    | (go_at_call 21; refine hme.mono ?_; rintro z W6 ⟨rfl, hb6⟩; have hb46 := hb5.trans (hb6.mono hb5.size); have hfo := HFO.out W6 p4 (HD4.out.far hb46); rw [HPD.out] at hfo; have hrd := HRD.out W6 hb46; clear hme)
    | (refine wpList_ldgv (by kernel_rfl) 40 _ rfl be 0 rfl [.int .u8 0, .int .u32 1] hrd uD rfl i01 ?_)
    | (go_at_call 19; refine hfo.mono ?_; rintro z W7 ⟨rfl, hb7⟩; have HQ := Veil.mk (HB4.out.trans ((hb46.trans (hb7.mono hb46.size)).mono HB4.out.size)); clear hfo))
  go_ret
  exact ⟨rfl, HQ.out⟩
set_option maxHeartbeats 8000000 in
theorem dplays_walk (x : Option Addr) (len cap : Nat) (L : List Ed) (w : World) (hL : EdsAt w x len cap L) :
    Calls Tryz.prog 3 #[.slice x len cap] w fun e w' => e = .returned (.bool true) ∧ Below w.heap.size w w' := by
  have hpl := play10_any x len cap L w hL
  have HPL : Veil (∀ v0 W, PlayX w L v0 W → ∃ D Q, v0 = .tuple #[.pointer (some ⟨D, 0, none⟩), .pointer (some ⟨Q, 0, none⟩), .bool true] ∧ Veil (Below w.heap.size w W ∧ ∀ W', Below W.heap.size W W' → Calls Tryz.prog 13 #[.pointer (some ⟨D, 0, none⟩), .pointer (some ⟨Q, 0, none⟩)] W' fun e w' => e = .returned (.bool true) ∧ Below W'.heap.size W' w')) := ⟨fun v0 W ⟨D, Q, h1, h2, h3⟩ => ⟨D, Q, h1, h3, fun W' hb => same10_any _ _ D Q [] W' (h2.far hb)⟩⟩
  have HLV : Veil (∀ W, Calls Tryz.prog 12 #[] W fun e w' => e = .returned (.bool true) ∧ Below W.heap.size W w') := ⟨fun W => live10_any W⟩
  clear hL
  go_enter Tryz.func3, Tryz.ntmps3
  go_wp2_with (first
    | (go_at_call 11; refine hpl.mono ?_; rintro z W1 ⟨v0, rfl, hpr⟩; obtain ⟨D, Q, rfl, HQ⟩ := HPL.out v0 W1 hpr; have hlv := HLV.out W1; clear hpl hpr)
    | (go_at_call 12; refine hlv.mono ?_; rintro z W2 ⟨rfl, hb2⟩; have hsm := HQ.out.2 W2 hb2; clear hlv)
    | (go_at_call 13; refine hsm.mono ?_; rintro z W3 ⟨rfl, hb3⟩; clear hsm))
  have HE := Veil.mk (HQ.out.1.trans ((hb2.trans (hb3.mono hb2.size)).mono HQ.out.1.size))
  go_ret
  exact ⟨rfl, HE.out⟩
end Go.Proofs.YtmbdohnmbkpfaaaGreat
