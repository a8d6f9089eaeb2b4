/- Dlv DocGapsW -/
import Derived.Test.YtmbdohnmbkpfaaaGreatT48
import Derived.Test.YtmbdohnmbkpfaaaGreatT50
namespace Go.Proofs.YtmbdohnmbkpfaaaGreat
open Go.RowKit Go.Shelf
set_option maxRecDepth 20000
set_option linter.unusedSimpArgs false
def e1L : Ev := ⟨0, 1, [0, 0, 0, 0, 0, 0, 0, 0], 1, 0, 0, true, 97, 0, 0⟩
def s1L : Ds := ⟨[⟨(0, 1), ((0, 0), true), 97⟩], [], [1, 0, 0, 0, 0, 0, 0, 0], [e1L], [(0, 1)]⟩
theorem tell1L : tellW newS 0 0 97 = (e1L, 0) := rfl
theorem ref1L : refD newS e1L = 0 := by decide
theorem do1L : doS newS e1L = s1L := rfl
theorem text1L : textN s1L.N = [97] := by decide
theorem mem1L : membersL s1L.B s1L.S = [3, 0, 0, 0, 0, 0, 0, 0] := by decide
theorem e1L_ok : e1L.Ok := ⟨⟨by decide, by decide⟩, rfl, (fun x hx => by
  have h0 : x = 0 := (by simpa [e1L] using hx)
  subst h0; decide), ⟨by decide, by decide⟩, by decide, by decide, by decide, by decide⟩
set_option maxHeartbeats 8000000 in
theorem live10_any (w : World) : Calls Tryz.prog 12 #[] w fun e w' => e = .returned (.bool true) ∧ Below w.heap.size w w' := by
  have hG1 : GoodD s1L := by rw [← do1L]; exact GoodD.new.does e1L_ok
  have HWR : Veil (∀ W p, DocAt W w.heap.size newS p → Calls Tryz.prog 25 #[.pointer (some ⟨p.D, 0, none⟩), .int .u8 0, .int .i64 0, .int .u8 97] W fun r w' => r = .returned (.tuple #[.agg (evKC 1 0 0 true 97 0 0 |>.set 1 (.int .u32 1)).toArray, .int .i64 0]) ∧ Below W.heap.size W w') := ⟨fun W p h => by
    have := dWrite_any w.heap.size newS p 0 0 97 W h GoodD.new (by decide) (by decide)
    rw [tell1L] at this
    exact this⟩
  have HAP : Veil (∀ W p, DocAt W w.heap.size newS p → w.heap.size ≤ W.heap.size → Calls Tryz.prog 18 #[.pointer (some ⟨p.D, 0, none⟩), .agg (evKC 1 0 0 true 97 0 0 |>.set 1 (.int .u32 1)).toArray] W fun r w' => r = .returned (.int .i64 0) ∧ ∃ p', DocAt w' w.heap.size s1L p' ∧ DocTo p p' W w') := ⟨fun W p h hb => by
    have := dApply_any w.heap.size newS p e1L W h GoodD.new e1L_ok hb
    rw [ref1L, do1L] at this
    exact this⟩
  have HTX : Veil (∀ W p, DocAt W w.heap.size s1L p → Calls Tryz.prog 20 #[.pointer (some ⟨p.D, 0, none⟩)] W fun e w' => ∃ x c, e = .returned (.slice x 1 c) ∧ (convert 30 9 (.slice x 1 c)).run Tryz.prog w' = .ok (.string (strOfNums [97])) w' ∧ Below W.heap.size W w') := ⟨fun W p h => (dText_any w.heap.size s1L p W h hG1).mono fun e w' ⟨v, h1, h2, h3⟩ => by
    rw [text1L] at h2
    obtain ⟨x, c, rfl⟩ : ∃ x c, v = .slice x 1 c := by
      rcases h2.2 with ⟨rfl, h0⟩ | ⟨g, cap, cur, rfl, _⟩
      · simp at h0
      · exact ⟨_, _, rfl⟩
    exact ⟨x, c, h1, conv_bytes h2.bytes.2, h3⟩⟩
  have HME : Veil (∀ W p, DocAt W w.heap.size s1L p → Calls Tryz.prog 21 #[.pointer (some ⟨p.D, 0, none⟩)] W fun r w' => r = .returned (.agg #[.int .u8 3, .int .u8 0, .int .u8 0, .int .u8 0, .int .u8 0, .int .u8 0, .int .u8 0, .int .u8 0]) ∧ Below W.heap.size W w') := ⟨fun W p h => by
    have := dMembers_any w.heap.size s1L p W h hG1
    rw [mem1L] at this
    exact this⟩
  have HFO : Veil (∀ W p, DocAt W w.heap.size s1L p → Calls Tryz.prog 19 #[.pointer (some ⟨p.D, 0, none⟩), .agg #[.int .u8 0, .int .u32 1]] W fun r w' => r = .returned (.bool true) ∧ Below W.heap.size W w') := ⟨fun W p h => by
    have := dForce_any w.heap.size s1L p (0, 1) ⟨⟨by decide, by decide⟩, ⟨by decide, by decide⟩⟩ W h hG1
    rw [show decide ((0, 1) ∈ s1L.F) = true by decide] at this
    exact this⟩
  have HS : Veil (((strOfNums [97]).toList == [97]) = true) := ⟨by rw [show (strOfNums [97]).toList = [97] by rw [ByteArray.toList_eq]; show (strOfNums [97]).data.toList = _; rw [strOfNums_data]; rfl]; rfl⟩
  have hnew := dNew_any w
  have uE := Tryz.underlying44
  have uD := Tryz.underlying40
  obtain ⟨EC, hEC⟩ : ∃ q, (evKC 1 0 0 true 97 0 0 |>.set 1 (.int .u32 1)) = q := ⟨_, rfl⟩
  rw [hEC] at HWR HAP
  have iE : (Tryz.prog.info? 44).map (·.size) = some EC.length := by rw [← hEC]; show _ = some 17; kernel_rfl
  have h1E : ∀ v ∈ EC, v.oneCell' = true := by rw [← hEC]; exact aev_one e1L
  have hE17 : EC.length = 17 := by rw [← hEC]; rfl
  have HE2 : Veil (EC.take 2 = [.int .u8 0, .int .u32 1]) := ⟨by rw [← hEC]; rfl⟩
  have i01 : (Tryz.prog.info? 40).map (·.size) = some [Value.int .u8 0, Value.int .u32 1].length := sizeDot
  have HZ : Veil (∀ W : World, CellsAt (W.alloc (.cells zC.toArray 44)) W.heap.size 44 zC) := ⟨fun W => CellsAt.new W 44 zC⟩
  unfold zC at HZ
  clear hG1 hEC
  go_enter Tryz.func12, Tryz.ntmps12
  go_upto_region 3 with (first
    | (go_at_call 15; refine hnew.mono ?_; rintro z W1 ⟨p1, rfl, hD1, hB1, hab⟩; have hwr := HWR.out W1 p1 hD1; clear hnew)
    | (go_at_call 25; refine hwr.mono ?_; rintro z W2 ⟨rfl, hb2⟩; have hz2 := HZ.out W2; clear hwr)
    | (refine wpList_stv (cs := EC) rfl 44 _ _ rfl W2.heap.size rfl rfl hz2 iE (by rw [hE17]; rfl) h1E ?_))
  have hb3 : Below W2.heap.size W2 ((W2.alloc (.cells zC.toArray 44)).setRow W2.heap.size EC.toArray) := below_setRow ((Below.refl _ _).alloc (Nat.le_refl _) _) (Nat.le_refl _) _
  have hb13 := hb2.trans (hb3.mono hb2.size)
  have hx3 := hz2.setRow EC
  refine forget (p := fun y => Code.wp _ _ _ _ y) (fun W => Below W1.heap.size W1 W ∧ CellsAt W W2.heap.size 44 EC) ⟨hb13, hx3⟩ ?_
  have HNE : Veil (¬ docP p1 W2.heap.size) := ⟨fun q => by have := hD1.blockLt _ q; have := hb2.size; omega⟩
  generalize W2.heap.size = be at HNE
  clear hb13 hb3 hb2 hz2 hx3 W2
  rintro W3 ⟨hb3, hx3⟩
  have hD3 := hD1.far hb3
  have hB3 := hB1.trans (hb3.mono hB1.size)
  have hap := HAP.out W3 p1 hD3 hB3.size
  have hr3 := hx3.wholeM
  have HAB := Veil.mk hab
  clear hD1 hB1 hb3 hab W1
  go_upto_region 4 with (first
    | (refine wpList_ldv rfl 44 _ rfl be 0 rfl EC hr3 uE rfl iE ?_)
    | (go_at_call 18; refine hap.mono ?_; rintro z W4 ⟨rfl, p4, hD4, ht4⟩; clear hap))
  have hx4 := hx3.congr (ht4.turn.block _ hx3.lt HNE.out)
  have hB4 : Below w.heap.size w W4 := hB3.trans (ht4.turn.below hB3.size fun k q => HAB.out k q)
  have HPD : Veil (p4.D = p1.D) := ⟨ht4.at_⟩
  have htx := HTX.out W4 p4 hD4
  rw [HPD.out] at htx
  have HD4 := Veil.mk hD4
  have HB4 := Veil.mk hB4
  have HX4 := Veil.mk hx4
  have HS2 := HS.out
  have hix : ∀ W : World, (Instr.index 49 (.agg #[.int .u8 3, .int .u8 0, .int .u8 0, .int .u8 0, .int .u8 0, .int .u8 0, .int .u8 0, .int .u8 0]) (.int .i64 0)).run Tryz.prog W = .ok (.int .u8 3) W := fun W => by kernel_rfl
  have HRD : Veil (∀ W, Below W4.heap.size W4 W → W.rangeAt be 0 [.int .u8 0, .int .u32 1]) := ⟨fun W hb => by
    have := (HX4.out.farM hb).range 0 2
    rw [List.drop_zero, HE2.out] at this
    exact this⟩
  clear hx3 hr3 hD3 hB3 hD4 ht4 hx4 hB4 W3
  go_wp2_with (first
    | (go_at_call 20; refine htx.mono ?_; rintro z W5 ⟨tx, tc, rfl, hcv, hb5⟩; have hme := HME.out W5 p4 (HD4.out.far hb5); rw [HPD.out] at hme; clear htx)
    | (go_at_call 21; refine hme.mono ?_; rintro z W6 ⟨rfl, hb6⟩; have hb46 := hb5.trans (hb6.mono hb5.size); have hfo := HFO.out W6 p4 (HD4.out.far hb46); rw [HPD.out] at hfo; have hrd := HRD.out W6 hb46; clear hme)
    | (refine wpList_ldgv (by kernel_rfl) 40 _ rfl be 0 rfl [.int .u8 0, .int .u32 1] hrd uD rfl i01 ?_)
    | (go_at_call 19; refine hfo.mono ?_; rintro z W7 ⟨rfl, hb7⟩; have HQ := Veil.mk (HB4.out.trans ((hb46.trans (hb7.mono hb46.size)).mono HB4.out.size)); clear hfo))
  go_ret
  exact ⟨rfl, HQ.out⟩
theorem ready_ref {st : Ds} {e : Ev} (h : readyB st.S e = true) : refD st e = 0 ∨ (refD st e ≠ 0 ∧ 512 ≤ st.L.length) := by
  have hr : rightB e = true := by
    unfold readyB at h
    exact (Bool.and_eq_true_iff.1 h).1
  have hh : hasB st.S e.da e.ds = false := by
    have := ready_seq h
    unfold hasB
    rw [this]
    have h2 : decide (e.ds ≤ e.ds - 1) = false := by simp; omega
    rw [h2, Bool.and_false, Bool.and_false]
  unfold refD
  rw [hr, hh, h]
  by_cases hl : 512 ≤ st.L.length
  · right
    refine ⟨?_, hl⟩
    rw [if_neg (by decide), if_neg (by decide), if_neg (by decide), if_pos hl]; decide
  · left
    rw [if_neg (by decide), if_neg (by decide), if_neg (by decide), if_neg hl]
theorem unready_ref {st : Ds} {e : Ev} (h : readyB st.S e = false) : refD st e ≠ 0 := fun q => by
  have := (refD_zero q).2.2.1
  rw [h] at this; cases this
set_option maxHeartbeats 16000000 in
theorem dgaps_walk (x : Option Addr) (len cap : Nat) (L : List Ed) (e : Ev) (he : e.Ok) (w : World) (hL : EdsAt w x len cap L) :
    Calls Tryz.prog 9 #[.slice x len cap, .agg e.cells.toArray] w fun r w' => r = .returned (.bool true) ∧ Below w.heap.size w w' := by
  have hB0 : Below w.heap.size w (w.alloc (.cells e.cells.toArray 44)) := (Below.refl _ _).alloc (Nat.le_refl _) _
  have hx0 := CellsAt.new w 44 e.cells
  have he1 := aev_len e he.past
  have iE : (Tryz.prog.info? 44).map (·.size) = some e.cells.length := by rw [he1]; kernel_rfl
  have uE := Tryz.underlying44
  have hpl := play10_any x len cap L (w.alloc (.cells e.cells.toArray 44)) (hL.below hB0)
  obtain ⟨st, hst⟩ : ∃ q, playX (L.take 50) = q := ⟨_, rfl⟩
  obtain ⟨B, hBB⟩ : ∃ q, (w.alloc (.cells e.cells.toArray 44)).heap.size = q := ⟨_, rfl⟩
  have hwB : w.heap.size < B := by rw [← hBB, World.size_alloc]; omega
  have HPL : Veil (∀ v0 W, PlayX (w.alloc (.cells e.cells.toArray 44)) L v0 W → ∃ D Q, v0 = .tuple #[.pointer (some ⟨D, 0, none⟩), .pointer (some ⟨Q, 0, none⟩), .bool true] ∧ BothD B W st st D Q [] ∧ Below w.heap.size w W ∧ CellsAt W w.heap.size 44 e.cells ∧ B ≤ W.heap.size) := ⟨fun v0 W ⟨D, Q, h1, h2, h3⟩ => by
    rw [hBB, hst] at h2
    exact ⟨D, Q, h1, h2, hB0.trans (h3.mono hB0.size), hx0.congr (h3.block _ (by rw [World.size_alloc]; omega)), by rw [← hBB]; exact h3.size⟩⟩
  have HLV : Veil (∀ W, Calls Tryz.prog 12 #[] W fun e w' => e = .returned (.bool true) ∧ Below W.heap.size W w') := ⟨fun W => live10_any W⟩
  have HVE : Veil (∀ W D Q, BothD B W st st D Q [] → Calls Tryz.prog 17 #[.pointer (some ⟨D, 0, none⟩)] W fun r w' => r = .returned (.agg (row .u32 st.S)) ∧ Below W.heap.size W w') := ⟨fun W D Q h => by
    obtain ⟨p, q, rfl, rfl, h⟩ := h
    exact dVector_any B st p W h.d h.g1⟩
  have HRD : Veil (∀ W D Q, BothD B W st st D Q [] → ∀ W2, Calls Tryz.prog 16 #[.agg (row .u32 st.S), .agg e.cells.toArray] W2 fun x w' => x = .returned (.bool (readyB st.S e)) ∧ Below W2.heap.size W2 w') := ⟨fun W D Q h W2 => rready_any st.S e W2 h.good.slen (fun x hx => by have := h.good.sval x hx; have := h.good.llen; omega) he.past he.dot.1.1 he.dot.2.1 (by have := he.dot.2.2; omega) he.par.1.1 he.par.2.1⟩
  have HAP : Veil (∀ W D Q, BothD B W st st D Q [] → B ≤ W.heap.size → Calls Tryz.prog 18 #[.pointer (some ⟨D, 0, none⟩), .agg e.cells.toArray] W fun r w' => r = .returned (.int .i64 (refD st e)) ∧ BothD B w' (doS st e) st D Q [] ∧ Below B W w') := ⟨fun W D Q h hb => h.applyD he hb⟩
  have HAR : Veil (∀ W D Q, BothD B W (doS st e) st D Q [] → B ≤ W.heap.size → Calls Tryz.prog 31 #[.pointer (some ⟨Q, 0, none⟩), .agg e.cells.toArray] W fun r w' => r = .returned (.int .i64 (refD st e)) ∧ BothD B w' (doS st e) (doS st e) D Q [] ∧ Below B W w') := ⟨fun W D Q h hb => h.applyR he hb⟩
  have HSM : Veil (∀ W D Q, BothD B W (doS st e) (doS st e) D Q [] → Calls Tryz.prog 13 #[.pointer (some ⟨D, 0, none⟩), .pointer (some ⟨Q, 0, none⟩)] W fun r w' => r = .returned (.bool true) ∧ Below W.heap.size W w') := ⟨fun W D Q h => same10_any B _ D Q [] W h⟩
  have HEV : Veil (∀ W D Q, BothD B W (doS st e) st D Q [] → Calls Tryz.prog 30 #[.pointer (some ⟨Q, 0, none⟩)] W fun r w' => ∃ x c, r = .returned (.slice x st.L.length c) ∧ Below W.heap.size W w') := ⟨fun W D Q h => by
    obtain ⟨p, q, rfl, rfl, h⟩ := h
    refine (revents10_any B st q W h.r h.g2).mono ?_
    rintro r w' ⟨v, q1, q2, q3⟩
    obtain ⟨x, c, rfl⟩ := q2.isSlice
    rw [List.length_map] at q1
    exact ⟨x, c, q1, q3⟩⟩
  have HY : Veil (readyB st.S e = true → refD st e = 0 ∨ (refD st e ≠ 0 ∧ 512 ≤ st.L.length)) := ⟨fun h => ready_ref h⟩
  have HU : Veil (readyB st.S e = false → refD st e ≠ 0) := ⟨unready_ref⟩
  generalize doS st e = SD at HAP HAR HSM HEV
  generalize refD st e = RN at HAP HAR HY HU
  generalize readyB st.S e = RY at HRD HY HU
  generalize row .u32 st.S = SR at HVE HRD
  generalize st.L.length = n at HEV HY
  obtain ⟨E, hE⟩ : ∃ E, e.cells = E := ⟨_, rfl⟩
  rw [hE] at hB0 hx0 iE hpl HPL HRD HAP HAR ⊢
  clear hE he he1 hL hB0 hx0 hBB hst
  go_enter Tryz.func9, Tryz.ntmps9
  go_upto_region 4 with (first
    | (go_at_call 11; refine hpl.mono ?_; rintro z W1 ⟨v0, rfl, hpr⟩; obtain ⟨D, Q, rfl, hD1, hb1, hx1, hs1⟩ := HPL.out v0 W1 hpr; have hlv := HLV.out W1; clear hpl hpr)
    | (go_at_call 12; refine hlv.mono ?_; rintro z W2 ⟨rfl, hb2⟩; clear hlv))
  have hb0 : Below W2.heap.size W2 W2.drew := (Below.refl _ _).drew
  have hB2 : Below w.heap.size w W2.drew := (hb1.trans (hb2.mono hb1.size)).trans (hb0.mono (Nat.le_trans hb1.size hb2.size))
  have hx2 := (hx1.farM hb2).farM hb0
  have hD2 := (hD1.far hb2).far hb0
  have hs2 : B ≤ W2.drew.heap.size := Nat.le_trans hs1 (Nat.le_trans hb2.size hb0.size)
  clear hb0 hb1 hb2 hx1 hD1 hs1
  have hrd := HRD.out _ D Q hD2
  have hve := HVE.out _ D Q hD2
  refine wp_region_gateT (fun W : World => W.rangeAt w.heap.size 0 E) (fun _ => True) 99 (by kernel_rfl) ?_
  have hT : (fun W : World => W.rangeAt w.heap.size 0 E) W2.drew := hx2.wholeM
  have hS : (fun _ : World => True) W2.drew := trivial
  refine gh 0 ?_ hT hS ?_ ?_
  rotate_left
  · intro wx hSw; go_split_ands; go_simp; try with_reducible rfl
  simp only [Act.put, gA, gS, gZ, sI, sZ, sS]
  refine gl 2 23 44 3 w.heap.size 0 E (by kernel_rfl) (by kernel_rfl) (by kernel_rfl) (fun _ _ _ h => h) hT hS (by kernel_rfl) (fun _ h => h) uE rfl iE ?_
  simp only [Act.put, gA, gS, gZ, sI, sZ, sS]
  refine wpAnyT_one (i := 1) rfl (by kernel_rfl) (by kernel_rfl) (fun K hK => ?_)
  refine wpx_call _ _ (by kernel_rfl) (hve.mono ?_)
  rintro y W3 ⟨rfl, hb3⟩
  refine ⟨_, rfl, ?_⟩
  have hB3 := hB2.trans (hb3.mono hB2.size)
  have hx3 := hx2.farM hb3
  have hD3 := hD2.far hb3
  have hs3 := Nat.le_trans hs2 hb3.size
  replace hT : (fun W : World => W.rangeAt w.heap.size 0 E) W3 := hx3.wholeM
  replace hS : (fun _ : World => True) W3 := trivial
  clear hve hb3 hB2 hx2 hD2 hs2
  refine hK.out _ _ hT (fun _ => hS) ?_
  clear hK K
  try simp only [Act.put, gA, gS, gZ, sI, sZ, sS]
  refine wpAnyT_one (i := 3) rfl (by kernel_rfl) (by kernel_rfl) (fun K hK => ?_)
  refine wpx_call _ _ (by kernel_rfl) ((hrd W3).mono ?_)
  rintro y W4 ⟨rfl, hb4⟩
  refine ⟨_, rfl, ?_⟩
  have hB4 := hB3.trans (hb4.mono hB3.size)
  have hx4 := hx3.farM hb4
  have hD4 := hD3.far hb4
  have hs4 := Nat.le_trans hs3 hb4.size
  replace hT : (fun W : World => W.rangeAt w.heap.size 0 E) W4 := hx4.wholeM
  replace hS : (fun _ : World => True) W4 := trivial
  clear hrd hb4 hB3 hx3 hD3 hs3
  refine hK.out _ _ hT (fun _ => hS) ?_
  clear hK K
  try simp only [Act.put, gA, gS, gZ, sI, sZ, sS]
  refine wpAnyT_done (by kernel_rfl) ?_ _
  clear hT hS W1 W2 W3
  have hr4 := hx4.wholeM
  have hap := HAP.out W4 D Q hD4 hs4
  have hwl : w.heap.size ≤ B := Nat.le_of_lt hwB
  cases RY
  · have hne := HU.out rfl
    have hne0 : (RN == 0) = false := by simpa using hne
    have hne1 : (RN != 0) = true := by simpa using hne
    have hrr : (RN == RN) = true := by simp
    clear HY HU HEV HVE HRD HPL HLV hD4
    have HC : Veil (∀ W', Below B W4 W' → CellsAt W' w.heap.size 44 E ∧ Below w.heap.size w W' ∧ B ≤ W'.heap.size) := ⟨fun W' hb => ⟨hx4.congr (hb.block _ hwB), hB4.trans (hb.mono hwl), Nat.le_trans hs4 hb.size⟩⟩
    clear hx4 hB4
    go_upto_region 7 with (first
      | (refine wpList_ldv rfl 44 (.tmp 3) rfl w.heap.size 0 rfl E hr4 uE rfl iE ?_)
      | (go_at_call 18; refine hap.mono ?_; rintro z W5 ⟨rfl, hD5, hb5⟩; clear hap))
    have har := HAR.out W5 D Q hD5 (HC.out W5 hb5).2.2
    have hr5 := (HC.out W5 hb5).1.wholeM
    clear hD5 hr4
    go_wp2_with (first
      | (refine wpList_ldgv (by kernel_rfl) 44 (.tmp 3) rfl w.heap.size 0 rfl E hr5 uE rfl iE ?_)
      | (go_at_call 31; refine har.mono ?_; rintro z W6 ⟨rfl, hD6, hb6⟩; have hsm := HSM.out W6 D Q hD6; clear har)
      | (go_at_call 13; refine hsm.mono ?_; rintro z W7 ⟨rfl, hb7⟩; clear hsm))
    have HQ := Veil.mk ((HC.out W6 (hb5.trans hb6)).2.1.trans (hb7.mono (HC.out W6 (hb5.trans hb6)).2.1.size))
    go_ret
    exact ⟨rfl, HQ.out⟩
  · have HC : Veil (∀ W', Below B W4 W' → Below w.heap.size w W') := ⟨fun W' hb => hB4.trans (hb.mono hwl)⟩
    rcases HY.out rfl with h0 | ⟨hne, hl⟩
    · subst h0
      clear HU HEV HVE HRD HPL HLV hD4 HAR HSM HY HAP hx4 hB4
      go_wp2_with (first
        | (refine wpList_ldv rfl 44 (.tmp 3) rfl w.heap.size 0 rfl E hr4 uE rfl iE ?_)
        | (go_at_call 18; refine hap.mono ?_; rintro z W5 ⟨rfl, hD5, hb5⟩; clear hap))
      have HQ := Veil.mk (HC.out W5 hb5)
      go_ret
      exact ⟨rfl, HQ.out⟩
    · have hne0 : (RN == 0) = false := by simpa using hne
      have hli : (512 : Int) ≤ (n : Int) := by omega
      clear HU HVE HRD HPL HLV hD4 HAR HSM HY HAP hx4 hB4
      go_wp2_with (first
        | (refine wpList_ldv rfl 44 (.tmp 3) rfl w.heap.size 0 rfl E hr4 uE rfl iE ?_)
        | (go_at_call 18; refine hap.mono ?_; rintro z W5 ⟨rfl, hD5, hb5⟩; have hev := HEV.out W5 D Q hD5; clear hap)
        | (go_at_call 30; refine hev.mono ?_; rintro z W6 ⟨x6, c6, rfl, hb6⟩; clear hev))
      have HQ := Veil.mk ((HC.out W5 hb5).trans (hb6.mono (HC.out W5 hb5).size))
      go_ret
      exact ⟨rfl, HQ.out⟩
end Go.Proofs.YtmbdohnmbkpfaaaGreat
