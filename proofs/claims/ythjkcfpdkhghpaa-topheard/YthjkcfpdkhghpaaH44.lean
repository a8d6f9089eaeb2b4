/- TopHeardW -/
import Derived.Test.YthjkcfpdkhghpaaH42
import Derived.Test.YthjkcfpdkhghpaaH22
import Derived.Test.YthjkcfpdkhghpaaH43
namespace Go.Proofs.Ythjkcfpdkhghpaa
open Go.RowKit Go.Shelf
set_option maxRecDepth 20000
set_option linter.unusedSimpArgs false
theorem exec_eqT {P : Program} {ρ : Operand → Value} {o : Oper} {w : World} {op : BinOp} {t u : TypeId} {x y : Operand} (ho : o.op = .binOp op t x y u) {xv yv v : Value} (hx : ρ x = xv) (hy : ρ y = yv) (hg : (eqGuard op t x y xv yv).run P w = .ok () w) (hrun : (binOp op t xv yv).run P w = .ok v w) : (execOp ρ o).run P w = .ok (.value v) w := by
  unfold execOp
  simp only [ho, hx, hy, Sem.run_bind, hg, hrun, Result.andThen_ok, Sem.run_pure]
structure HrR (w : World) (ls : List Ev) (n : Nat) (p : Hp4) (k : Nat) (W : World) : Prop where
  ex : ∃ V1 V2 S L T M X Y, HrI w W p V1 V2 S L T M X Y ∧ Good k S L ∧ Good k T M ∧ Inv (fun e => e ∈ ls.take k) S L ∧ Inv (fun e => e ∈ ls.drop (n - k)) T M ∧ AnsX (fun e => e ∈ ls.take k) S L X ∧ AnsX (fun e => e ∈ ls.drop (n - k)) T M Y
theorem ans_len {P : Ev → Prop} {n : Nat} {S : List Int} {L X : List Ev} (h : AnsX P S L X) (g : Good n S L) : X.length ≤ n := by
  have h1 := h.run.sum
  have h2 := g.sum
  omega
theorem vecT_eql (l : List Int) (hl : l.length = 8) (w : World) : (binOp .eql 34 (.agg (l.map (Value.int .u32)).toArray) (.agg (l.map (Value.int .u32)).toArray)).run Try.prog w = .ok (.bool true) w := by
  rw [run_eql_struct]
  have := run_equalIn_rows (P := Try.prog) w 9998 .u32 l l Try.underlying34 Try.underlying30 (by kernel_rfl) (by kernel_rfl) hl hl
  unfold row at this
  rw [this, beq_self_eq_true]; rfl
set_option maxHeartbeats 32000000 in
theorem heard_walk (x : Option Addr) (len cap : Nat) (ds : List Ev) (w : World) (hd : EvsAt w x len cap ds) :
    Calls Try.prog 3 #[.slice x len cap] w fun e w' => e = .returned (.bool true) ∧ Below w.heap.size w w' := by
  have uE := Try.underlying38
  have hcase : (∃ n : Nat, n = 16 ∧ 16 < len) ∨ (∃ n : Nat, n = len ∧ ¬ 16 < len) := by
    by_cases h : 16 < len
    · exact .inl ⟨_, rfl, h⟩
    · exact .inr ⟨_, rfl, h⟩
  have HNB : Veil (∀ W, Calls Try.prog 5 #[] W fun r w' => ∃ H b, r = .returned (.pointer (some ⟨H, 0, none⟩)) ∧ BufC w' H b [0, 0, 0, 0, 0, 0, 0, 0] [] ∧ Below W.heap.size W w' ∧ W.heap.size ≤ b ∧ W.heap.size ≤ H) := ⟨fun W => new_any W⟩
  have HNT : Veil (∀ W, Calls Try.prog 6 #[] W fun e w' => ∃ R bc bn, e = .returned (.pointer (some ⟨R, 0, none⟩)) ∧ TreeAt w' W.heap.size R bc bn [] (fun _ => .slice none 0 0) ∧ Below W.heap.size W w' ∧ W.heap.size ≤ R ∧ W.heap.size ≤ bc ∧ W.heap.size ≤ bn) := ⟨fun W => newT_any W⟩
  go_enter Try.func3, Try.ntmps3
  rcases hcase with ⟨n, hn, h16⟩ | ⟨n, hn, h16⟩
  · have h16i : (16 : Int) < (len : Int) := by omega
    have hle := hd.le
    have hci : (16 : Int) ≤ (cap : Int) := by omega
    go_upto_region 3 with fail
    rw [show Value.slice x 16 cap = Value.slice x n cap by rw [hn]]
    have HD : Veil (∃ ls, n ≤ 16 ∧ EvsAt w x n cap ls) := ⟨_, by omega, hd.cutT n (by omega)⟩
    clear hd hn h16 h16i hle hci
    obtain ⟨ls, hn16, hd⟩ := HD.out
    clear HD
    have HDL := Veil.mk hd.len_eq
    have HDS := Veil.mk hd
    have hnb1 := HNB.out w
    go_upto_region 4 with (first
      | (go_at_call 5; refine hnb2.mono ?_; rintro e w2 ⟨Hb, bb, rfl, hCb, hBb, hbb, hHb⟩; clear hnb2)
      | (go_at_call 5; refine hnb1.mono ?_; rintro e w1 ⟨Ha, ba, rfl, hCa, hBa, hba, hHa⟩; have hnb2 := HNB.out w1; clear hnb1))
    have hnt1 := HNT.out w2
    go_upto_region 5 with (first
      | (go_at_call 6; refine hnt2.mono ?_; rintro e w4 ⟨R2, c2, n2, rfl, hT2, hB4, q21, q22, q23⟩; clear hnt2)
      | (go_at_call 6; refine hnt1.mono ?_; rintro e w3 ⟨R1, c1, n1, rfl, hT1, hB3, q11, q12, q13⟩; have hnt2 := HNT.out w3; clear hnt1))
    have H0 : Veil (HrR w ls n ⟨Ha, ba, Hb, bb, R1, c1, n1, R2, c2, n2, w2.heap.size, w3.heap.size⟩ 0 w4) := ⟨by
      have l1 := hCa.cells.lt
      have l2 := hCa.wait.lt
      have l3 := hCb.cells.lt
      have l4 := hCb.wait.lt
      have s1 := hBa.size
      have s2 := hBb.size
      have s3 := hB3.size
      have s4 := hB4.size
      have r1 := hT1.box.lt
      have r2 := hT1.chars.lt
      have r3 := hT1.nodes.lt
      have b24 := hB3.trans (hB4.mono s3)
      have b14 := hBb.trans (b24.mono s2)
      have t1 : ∀ q, treeP R1 c1 n1 (fun _ => Value.slice none 0 0) q → q = R1 ∨ q = c1 ∨ q = n1 := fun q h => by
        rcases h with h | h | h | ⟨s, -, h⟩
        · exact .inl h
        · exact .inr (.inl h)
        · exact .inr (.inr h)
        · cases h
      have t2 : ∀ q, treeP R2 c2 n2 (fun _ => Value.slice none 0 0) q → q = R2 ∨ q = c2 ∨ q = n2 := fun q h => by
        rcases h with h | h | h | ⟨s, -, h⟩
        · exact .inl h
        · exact .inr (.inl h)
        · exact .inr (.inr h)
        · cases h
      refine ⟨_, _, _, _, _, _, [], [], ⟨hCa.far b14, hCb.far b24, hT1.far hB4, hT2, fun q h => ?_, fun q h => ?_, ?_, ?_, ?_, hBa.trans (b14.mono s1)⟩, Good.zero, Good.zero, Inv.zero.of_iff fun e => by simp, Inv.zero.of_iff fun e => ?_, AnsX.zero.of_iff fun e => by simp, AnsX.zero.of_iff fun e => ?_⟩
      · have h1 := t1 q h
        exact ⟨fun k => by have h2 := t2 q k; omega, ⟨(by omega : q ≠ Ha), (by omega : q ≠ ba), (by omega : q ≠ Hb), (by omega : q ≠ bb)⟩, (by omega : w.heap.size ≤ q)⟩
      · have h1 := t2 q h
        exact ⟨⟨(by omega : q ≠ Ha), (by omega : q ≠ ba), (by omega : q ≠ Hb), (by omega : q ≠ bb)⟩, (by omega : w.heap.size ≤ q)⟩
      · show Ha ≠ Hb ∧ Ha ≠ bb ∧ ba ≠ Hb ∧ ba ≠ bb
        omega
      · show w.heap.size ≤ Ha ∧ w.heap.size ≤ ba ∧ w.heap.size ≤ Hb ∧ w.heap.size ≤ bb
        omega
      · show w2.heap.size ≤ w4.heap.size ∧ w3.heap.size ≤ w4.heap.size
        omega
      · rw [List.drop_of_length_le (by have := HDL.out; omega)]; simp
      · rw [List.drop_of_length_le (by have := HDL.out; omega)]; simp⟩
    generalize w2.heap.size = s2 at H0
    generalize w3.heap.size = s3 at H0
    obtain ⟨p, hp⟩ : ∃ p : Hp4, p = ⟨Ha, ba, Hb, bb, R1, c1, n1, R2, c2, n2, s2, s3⟩ := ⟨_, rfl⟩
    rw [← hp] at H0
    obtain ⟨e1, e2, e3, e4⟩ : Ha = p.Ha ∧ Hb = p.Hb ∧ R1 = p.R1 ∧ R2 = p.R2 := by rw [hp]; exact ⟨rfl, rfl, rfl, rfl⟩
    rw [e1, e2, e3, e4]
    clear hd hCa hCb hT1 hT2 hB3 hB4 hBa hBb q11 q12 q13 q21 q22 q23 hba hHa hbb hHb HNB HNT hp e1 e2 e3 e4
    go_wp2_with fail
    go_loopw [7, 8, 9, 10, 11] (fun q _ _ _ _ wr => ∃ k : Nat, k ≤ n ∧ q = .int .i64 (k : Nat) ∧ HrR w ls n p k wr) (fun q _ _ _ _ _ => n - (intOf q).toNat)
    case atStart => exact ⟨0, Nat.zero_le _, rfl, H0.out⟩
    case round =>
      obtain ⟨k, hk, rfl, ⟨V1, V2, S, L, T, M, X, Y, hI, hGS, hGT, hIS, hIT, hAS, hAT⟩⟩ := hrel
      clear H0
      by_cases hkn : k < n
      · have hki : (k : Int) < (n : Int) := by omega
        have hkd : k < ls.length := by have := HDL.out; omega
        have hmd : n - 1 - k < ls.length := by have := HDL.out; omega
        obtain ⟨eb, off, rfl, hre⟩ := (HDS.out.below hI.below).rngT k hkd
        obtain ⟨eb2, off2, hx2, hrf⟩ := HDS.out.rngT (n - 1 - k) hmd
        obtain ⟨rfl, rfl⟩ : eb = eb2 ∧ off = off2 := by cases hx2; exact ⟨rfl, rfl⟩
        clear hx2
        have hok := HDS.out.ok ls[k] (List.getElem_mem hkd)
        have hokf := HDS.out.ok ls[n - 1 - k] (List.getElem_mem hmd)
        have HQ1 : Veil (∀ e, (e ∈ ls.take k ∨ e = ls[k]) ↔ e ∈ ls.take (k + 1)) := ⟨fun e => by rw [List.take_succ_eq_append_getElem hkd, List.mem_append, List.mem_singleton]⟩
        have HQ2 : Veil (∀ e, (e ∈ ls.drop (n - k) ∨ e = ls[n - 1 - k]) ↔ e ∈ ls.drop (n - (k + 1))) := ⟨fun e => by
          rw [show n - (k + 1) = n - 1 - k by omega, List.drop_eq_getElem_cons hmd, show n - 1 - k + 1 = n - k by omega, List.mem_cons]
          exact Or.comm⟩
        have iE : (Try.prog.info? 38).map (·.size) = some ls[k].cells.length := by rw [ev_len _ hok.past]; kernel_rfl
        have iF : (Try.prog.info? 38).map (·.size) = some ls[n - 1 - k].cells.length := by rw [ev_len _ hokf.past]; kernel_rfl
        have hwA : IntKind.i64.wrap ((n : Int) - 1) = (n : Int) - 1 := by rw [IntKind.wrap_i64]; omega
        have hwB : IntKind.i64.wrap ((n : Int) - 1 - (k : Int)) = ((n - 1 - k : Nat) : Int) := by rw [IntKind.wrap_i64]; omega
        have hw1 : IntKind.i64.wrap ((k : Int) + 1) = (k : Int) + 1 := by rw [IntKind.wrap_i64]; omega
        have hmi : ((n - 1 - k : Nat) : Int) < (n : Int) := by omega
        have hmn : n - 1 - k < n := by omega
        have hput := put_any k p.Ha p.ba S L ls[k] wr hI.bA hGS hok (by omega)
        generalize ls[k] = ek at hre hput iE hok HQ1
        generalize ls[n - 1 - k] = fk at hrf iF hokf HQ2
        generalize n - 1 - k = m at hrf hwB hmi hmn
        obtain ⟨RA, hRA⟩ : ∃ r, refN S L ek = r := ⟨_, rfl⟩
        obtain ⟨RB, hRB⟩ : ∃ r, refN T M fk = r := ⟨_, rfl⟩
        rw [hRA] at hput
        have HRA := Veil.mk hRA
        have HRB := Veil.mk hRB
        have HOK := Veil.mk hok
        have HOKF := Veil.mk hokf
        have HI := Veil.mk hI
        have HGT := Veil.mk hGT
        have HIS := Veil.mk (And.intro hIS (And.intro hIT (And.intro hAS hAT)))
        have HLN := Veil.mk (And.intro (ans_len hAS hGS) (ans_len hAT hGT))
        obtain ⟨E, hE⟩ : ∃ E, ek.cells = E := ⟨_, rfl⟩
        obtain ⟨F, hF⟩ : ∃ F, fk.cells = F := ⟨_, rfl⟩
        rw [hE] at hre hput iE
        rw [hF] at hrf iF
        have HF := Veil.mk hF
        clear hE hF hok hokf hRA hRB hmd hkd hI hGS hGT hIS hIT hAS hAT
        go_upto_region 9 with (first
          | (refine wpList_ldv rfl 38 _ rfl eb (off + k * 17) rfl E hre uE rfl iE ?_)
          | (go_at_call 7; refine hput.mono ?_; rintro e W1 ⟨y, c, xs, S3, L3, rfl, hP, hG3, hxo, hC3, hO3, hT3⟩))
        have hI1 := HI.out.putA hC3 hT3
        have hputB := put_any k p.Hb p.bb T M fk W1 hI1.bB HGT.out HOKF.out (by omega)
        rw [HF.out, HRB.out] at hputB
        have hrf1 : W1.rangeAt eb (off + m * 17) F := fun i v hv => (hI1.below.cell (block_lt_of_cell (hrf i v hv))).trans (hrf i v hv)
        have H1 := Veil.mk (And.intro hI1 (And.intro hG3 (And.intro hP (And.intro hxo (And.intro hO3 hT3.size)))))
        clear hput hre hrf hC3 hT3 hG3 hP hxo hO3 hI1
        go_upto_region 10 with (first
          | (refine wpList_ldv rfl 38 _ rfl eb (off + m * 17) rfl F hrf1 uE rfl iF ?_)
          | (go_at_call 7; refine hputB.mono ?_; rintro e W2 ⟨y2, d2, ys, T3, M3, rfl, hP4, hG4, hyo, hC4, hO4, hT4⟩))
        obtain ⟨hI1, hG3, hP, hxo, hO3, hz1⟩ := H1.out
        have hI2 := hI1.putB hC4 hT4
        have hO3' : OwnI W2 wr.heap.size 38 17 (.slice y xs.length c) (xs.map Ev.cells) := hO3.congr fun g hg => hT4.block g (hO3.blockLt g hg).1 (fun q => by
          have h1 := (hO3.blockLt g hg).2.1
          have h2 := HI.out.bB.cells.lt
          have h3 := HI.out.bB.wait.lt
          rcases q with rfl | rfl <;> omega)
        have H2 := Veil.mk (And.intro hI2 (And.intro hO3' (And.intro hO4 (And.intro hxo hyo))))
        have H3 := Veil.mk (And.intro hG3 (And.intro hG4 (And.intro hP hP4)))
        clear hputB hrf1 hI1 hI2 hG3 hP hxo hO3 hO3' hO4 hT4 hC4 hG4 hP4 hyo H1
        have hlen := lenT_any p.B1 p.R1 p.c1 p.n1 (treeX X) V1 W2 H2.out.1.t1
        have hl16 : (treeX X).length ≤ 16 := by have := (treeX_ok X).2; have := HLN.out.1; omega
        by_cases hA : RA = 0
        · by_cases hBz : RB = 0
          · subst hA hBz
            clear hlen hl16
            go_upto_region 12 with fail
            obtain ⟨hI2, hO3, hO4, hxo, hyo⟩ := H2.out
            obtain ⟨hG3, hG4, hP, hP4⟩ := H3.out
            obtain ⟨hIS, hIT, hAS, hAT⟩ := HIS.out
            have hAS2 := hP.ans hIS hAS HOK.out HRA.out
            have hAT2 := hP4.ans hIT hAT HOKF.out HRB.out
            have hx2 := ans_len hAS2 hG3
            have hy2 := ans_len hAT2 hG4
            rw [List.length_append] at hx2 hy2
            have HNX : Veil ((∀ W, HrI w W p V1 V2 S3 L3 T3 M3 X Y → OwnI W wr.heap.size 38 17 (.slice y xs.length c) (xs.map Ev.cells) → Calls Try.prog 9 #[.pointer (some ⟨p.R1, 0, none⟩), .slice y xs.length c] W fun r w' => r = .returned (.tuple #[]) ∧ ∃ V', TreeAt w' p.B1 p.R1 p.c1 p.n1 (xs.foldl effN (treeX X)) V' ∧ TreeTo p.R1 p.c1 p.n1 V1 V' W w') ∧ (∀ W V, HrI w W p V V2 S3 L3 T3 M3 (X ++ xs) Y → OwnI W W1.heap.size 38 17 (.slice y2 ys.length d2) (ys.map Ev.cells) → Calls Try.prog 9 #[.pointer (some ⟨p.R2, 0, none⟩), .slice y2 ys.length d2] W fun r w' => r = .returned (.tuple #[]) ∧ ∃ V', TreeAt w' p.B2 p.R2 p.c2 p.n2 (ys.foldl effN (treeX Y)) V' ∧ TreeTo p.R2 p.c2 p.n2 V2 V' W w')) := ⟨fun W h ho => inserts_any p.B1 p.R1 p.c1 p.n1 (treeX X) V1 _ y xs.length c xs W (treeX_ok X).1 h.t1 ho hxo (by have := (treeX_ok X).2; omega) h.base.1 (fun g hg q => by
              have h1 := (ho.blockLt g hg).2.1
              have h2 := HI.out.t1.blockLt g q
              omega), fun W V h ho => inserts_any p.B2 p.R2 p.c2 p.n2 (treeX Y) V2 _ y2 ys.length d2 ys W (treeX_ok Y).1 h.t2 ho hyo (by have := (treeX_ok Y).2; omega) h.base.2 (fun g hg q => by
              have h1 := (ho.blockLt g hg).2.1
              have h2 := HI.out.t2.blockLt g q
              omega)⟩
            have HEND : Veil (∀ W V3 V4, HrI w W p V3 V4 S3 L3 T3 M3 (X ++ xs) (Y ++ ys) → HrR w ls n p (k + 1) W) := ⟨fun W V3 V4 h => ⟨V3, V4, S3, L3, T3, M3, X ++ xs, Y ++ ys, h, hG3, hG4, (hP.inv hIS HOK.out HRA.out).of_iff HQ1.out, (hP4.inv hIT HOKF.out HRB.out).of_iff HQ2.out, hAS2.of_iff HQ1.out, hAT2.of_iff HQ2.out⟩⟩
            have hin1 := HNX.out.1 W2 hI2 hO3
            have H4 := Veil.mk (And.intro hI2 (And.intro hO4 hz1))
            clear hI2 hO3 hO4 hxo hyo hG3 hG4 hP hP4 hIS hIT hAS hAT hAS2 hAT2 hx2 hy2 H2 H3 HIS HLN HRA HRB HOK HOKF HQ1 HQ2
            go_upto_region 13 with (go_at_call 9; refine hin1.mono ?_; rintro e W3 ⟨rfl, V3, hT5, hto5⟩; clear hin1)
            obtain ⟨hI2, hO4, hz1⟩ := H4.out
            have hI3 := hI2.ins1 hT5 hto5
            have hO5 : OwnI W3 W1.heap.size 38 17 (.slice y2 ys.length d2) (ys.map Ev.cells) := hO4.congr fun g hg => hto5.turn.block g (hO4.blockLt g hg).1 (fun q => by
              have h1 := (hO4.blockLt g hg).2.1
              have h2 := HI.out.t1.blockLt g q
              omega)
            have hin2 := HNX.out.2 W3 V3 hI3 hO5
            have H5 := Veil.mk hI3
            clear hI2 hO4 hT5 hto5 hI3 hO5 HNX H4 hz1
            go_wp2_with (go_at_call 9; refine hin2.mono ?_; rintro e W4 ⟨rfl, V4, hT6, hto6⟩; have H6 := Veil.mk (HEND.out W4 V3 V4 (H5.out.ins2 hT6 hto6)); clear hin2 hT6 hto6)
            go_roundw
            case rel => exact ⟨k + 1, hkn, by push_cast; rfl, H6.out⟩
            case measure => simp [intOf]; omega
          · subst hA
            have hz2 : (RB == 0) = false := by simpa using hBz
            have hd16 : decide (((treeX X).length : Int) ≤ 16) = true := by simp; omega
            have HQ := Veil.mk H2.out.1.below
            clear H2 H3 HI HIS HLN hl16
            generalize (treeX X).length = tl at hlen hd16
            go_wp2_with (go_at_call 8; refine hlen.mono ?_; rintro e W4 ⟨rfl, rfl⟩)
            go_ret
            exact ⟨rfl, HQ.out⟩
        · have hz2 : (RA == 0) = false := by simpa using hA
          have hd16 : decide (((treeX X).length : Int) ≤ 16) = true := by simp; omega
          have HQ := Veil.mk H2.out.1.below
          clear H2 H3 HI HIS HLN hl16
          generalize (treeX X).length = tl at hlen hd16
          go_wp2_with (go_at_call 8; refine hlen.mono ?_; rintro e W4 ⟨rfl, rfl⟩)
          go_ret
          exact ⟨rfl, HQ.out⟩
      · have hki : ¬ (k : Int) < (n : Int) := by omega
        obtain rfl : k = n := by omega
        obtain ⟨rfl, rfl⟩ := conf hIS hIT (fun e => by rw [Nat.sub_self, List.drop_zero, List.take_of_length_le (by have := HDL.out; omega)]) hGS hGT
        have hXY := hAS.same hIS hAT (fun e => by rw [Nat.sub_self, List.drop_zero, List.take_of_length_le (by have := HDL.out; omega)])
        have hxl := ans_len hAS hGS
        have hyl := ans_len hAT hGT
        obtain ⟨htt, htl⟩ := heard_same hAS.run hAT.run hXY (by omega) (by omega)
        have heq := vecT_eql S hGS.len
        obtain ⟨z, hz⟩ : ∃ q, textN (treeX X) = q := ⟨_, rfl⟩
        obtain ⟨tn, htn⟩ : ∃ q, z.length = q := ⟨_, rfl⟩
        have HSN : Veil (∀ W, Below wr.heap.size wr W → (Calls Try.prog 10 #[.pointer (some ⟨p.Ha, 0, none⟩)] W fun r w' => r = .returned (.agg (S.map (Value.int .u32)).toArray) ∧ Below W.heap.size W w') ∧ (Calls Try.prog 10 #[.pointer (some ⟨p.Hb, 0, none⟩)] W fun r w' => r = .returned (.agg (S.map (Value.int .u32)).toArray) ∧ Below W.heap.size W w')) := ⟨fun W hb => ⟨seen_any _ _ S L W (hI.far hb).bA, seen_any _ _ S L W (hI.far hb).bB⟩⟩
        have HTT : Veil (∀ W, Below wr.heap.size wr W → (Calls Try.prog 11 #[.pointer (some ⟨p.R1, 0, none⟩)] W fun r w' => ∃ tx tc, r = .returned (.slice tx tn tc) ∧ Bytes w' tx tn tc z ∧ Below W.heap.size W w') ∧ (Calls Try.prog 11 #[.pointer (some ⟨p.R2, 0, none⟩)] W fun r w' => ∃ tx tc, r = .returned (.slice tx tn tc) ∧ Bytes w' tx tn tc z ∧ Below W.heap.size W w')) := ⟨fun W hb => by
          have key : ∀ {b R bc bn : Nat} {V : (Int × Int) × Bool → Value} {Q : List Ev}, TreeAt W b R bc bn (treeX Q) V → Q.length ≤ 1000 → textN (treeX Q) = z → Calls Try.prog 11 #[.pointer (some ⟨R, 0, none⟩)] W fun r w' => ∃ tx tc, r = .returned (.slice tx tn tc) ∧ Bytes w' tx tn tc z ∧ Below W.heap.size W w' := fun {b R bc bn V Q} ht hl hq => by
            refine (textB_any b R bc bn (treeX Q) V (treeX_ok Q).1 (by have := (treeX_ok Q).2; omega) W ht).mono ?_
            rintro r w' ⟨v, h1, h2, h3⟩
            rw [hq] at h2
            obtain ⟨y, n', cc, rfl, hn'⟩ := h2.isSlice
            obtain rfl : n' = tn := hn'.trans htn
            exact ⟨y, cc, h1, h2.bytes.2, h3⟩
          exact ⟨key (hI.far hb).t1 (by omega) hz, key (hI.far hb).t2 (by omega) (by rw [← htt]; exact hz)⟩⟩
        have HLL : Veil (∀ W, Below wr.heap.size wr W → (Calls Try.prog 8 #[.pointer (some ⟨p.R1, 0, none⟩)] W fun r w' => r = .returned (.int .i64 ((treeX X).length : Nat)) ∧ w' = W) ∧ (Calls Try.prog 8 #[.pointer (some ⟨p.R2, 0, none⟩)] W fun r w' => r = .returned (.int .i64 ((treeX X).length : Nat)) ∧ w' = W)) := ⟨fun W hb => ⟨lenT_any _ _ _ _ _ _ W (hI.far hb).t1, by rw [htl]; exact lenT_any _ _ _ _ _ _ W (hI.far hb).t2⟩⟩
        have HCV : Veil (∀ w' tx tc, Bytes w' tx tn tc z → (convert 42 9 (.slice tx tn tc)).run Try.prog w' = .ok (.string (strOfNums z)) w') := ⟨fun w' tx tc h => conv_bytes h⟩
        obtain ⟨SZ, hSZ⟩ : ∃ q, strOfNums z = q := ⟨_, rfl⟩
        rw [hSZ] at HCV
        generalize (treeX X).length = tl at HLL
        generalize (S.map (Value.int .u32)).toArray = SV at HSN heq
        have HB := Veil.mk hI.below
        clear hI hGS hGT hIS hIT hAS hAT hXY hxl hyl htt htl hz htn hSZ HDS HDL
        go_upto_region 14 with fail
        have hb0 : Below wr.heap.size wr wr.drew := (Below.refl _ _).drew
        refine wp_region_gateT (fun _ : World => True) (fun _ => True) 99 (by kernel_rfl) ?_
        have hT : (fun _ : World => True) wr.drew := trivial
        have hS : (fun _ : World => True) wr.drew := trivial
        refine wpAnyT_held (i := 0) (v := ?_) rfl (by kernel_rfl) (by kernel_rfl) (by kernel_rfl) (fun _ _ _ h => h) (by kernel_rfl) hT (fun _ => hS) (by kernel_rfl) ?_ ?_
        rotate_left
        · intro wx hSw; go_split_ands; go_simp; try with_reducible rfl
        simp only [Act.put, List.getElem_toArray, List.getElem_cons_succ, List.getElem_cons_zero, List.setIfInBounds_toArray, List.set_cons_zero, List.set_cons_succ]
        refine wpAnyT_held (i := 1) (v := ?_) rfl (by kernel_rfl) (by kernel_rfl) (by kernel_rfl) (fun _ _ _ h => h) (by kernel_rfl) hT (fun _ => hS) (by kernel_rfl) ?_ ?_
        rotate_left
        · intro wx hSw; go_split_ands; go_simp; try with_reducible rfl
        simp only [Act.put, List.getElem_toArray, List.getElem_cons_succ, List.getElem_cons_zero, List.setIfInBounds_toArray, List.set_cons_zero, List.set_cons_succ]
        refine wpAnyT_held (i := 2) (v := ?_) rfl (by kernel_rfl) (by kernel_rfl) (by kernel_rfl) (fun _ _ _ h => h) (by kernel_rfl) hT (fun _ => hS) (by kernel_rfl) ?_ ?_
        rotate_left
        · intro wx hSw; go_split_ands; go_simp; try with_reducible rfl
        simp only [Act.put, List.getElem_toArray, List.getElem_cons_succ, List.getElem_cons_zero, List.setIfInBounds_toArray, List.set_cons_zero, List.set_cons_succ]
        refine wpAnyT_held (i := 3) (v := ?_) rfl (by kernel_rfl) (by kernel_rfl) (by kernel_rfl) (fun _ _ _ h => h) (by kernel_rfl) hT (fun _ => hS) (by kernel_rfl) ?_ ?_
        rotate_left
        · intro wx hSw; go_split_ands; go_simp; try with_reducible rfl
        simp only [Act.put, List.getElem_toArray, List.getElem_cons_succ, List.getElem_cons_zero, List.setIfInBounds_toArray, List.set_cons_zero, List.set_cons_succ]
        refine wpAnyT_held (i := 5) (v := ?_) rfl (by kernel_rfl) (by kernel_rfl) (by kernel_rfl) (fun _ _ _ h => h) (by kernel_rfl) hT (fun _ => hS) (by kernel_rfl) ?_ ?_
        rotate_left
        · intro wx hSw; go_split_ands; go_simp; try with_reducible rfl
        simp only [Act.put, List.getElem_toArray, List.getElem_cons_succ, List.getElem_cons_zero, List.setIfInBounds_toArray, List.set_cons_zero, List.set_cons_succ]
        refine wpAnyT_one (i := 4) rfl (by kernel_rfl) (by kernel_rfl) (fun K hK => ?_)
        refine wpx_call _ _ (by kernel_rfl) ((HSN.out _ hb0).1.mono ?_)
        rintro y U1 ⟨rfl, hb1⟩
        refine ⟨_, rfl, ?_⟩
        replace hb1 := hb0.trans (hb1.mono hb0.size)
        replace hT : (fun _ : World => True) U1 := trivial
        replace hS : (fun _ : World => True) U1 := trivial
        clear hb0
        refine hK.out _ _ hT (fun _ => hS) ?_
        clear hK K
        try simp only [Act.put, List.getElem_toArray, List.getElem_cons_succ, List.getElem_cons_zero, List.setIfInBounds_toArray, List.set_cons_zero, List.set_cons_succ]
        refine wpAnyT_one (i := 6) rfl (by kernel_rfl) (by kernel_rfl) (fun K hK => ?_)
        refine wpx_call _ _ (by kernel_rfl) ((HSN.out _ hb1).2.mono ?_)
        rintro y U2 ⟨rfl, hb2⟩
        refine ⟨_, rfl, ?_⟩
        replace hb2 := hb1.trans (hb2.mono hb1.size)
        replace hT : (fun _ : World => True) U2 := trivial
        replace hS : (fun _ : World => True) U2 := trivial
        clear hb1
        refine hK.out _ _ hT (fun _ => hS) ?_
        clear hK K
        try simp only [Act.put, List.getElem_toArray, List.getElem_cons_succ, List.getElem_cons_zero, List.setIfInBounds_toArray, List.set_cons_zero, List.set_cons_succ]
        refine wpAnyT_held (i := 7) (v := .bool true) rfl (by kernel_rfl) (by kernel_rfl) (by kernel_rfl) (fun _ _ _ h => h) (by kernel_rfl) hT (fun _ => hS) (by kernel_rfl) (fun wx h => exec_eqT rfl rfl rfl (by go_simp) (heq wx)) ?_
        simp only [Act.put, List.getElem_toArray, List.getElem_cons_succ, List.getElem_cons_zero, List.setIfInBounds_toArray, List.set_cons_zero, List.set_cons_succ]
        refine wpAnyT_held (i := 8) (v := ?_) rfl (by kernel_rfl) (by kernel_rfl) (by kernel_rfl) (fun _ _ _ h => h) (by kernel_rfl) hT (fun _ => hS) (by kernel_rfl) ?_ ?_
        rotate_left
        · intro wx hSw; go_split_ands; go_simp; try with_reducible rfl
        simp only [Act.put, List.getElem_toArray, List.getElem_cons_succ, List.getElem_cons_zero, List.setIfInBounds_toArray, List.set_cons_zero, List.set_cons_succ]
        refine wpAnyT_held (i := 9) (v := ?_) rfl (by kernel_rfl) (by kernel_rfl) (by kernel_rfl) (fun _ _ _ h => h) (by kernel_rfl) hT (fun _ => hS) (by kernel_rfl) ?_ ?_
        rotate_left
        · intro wx hSw; go_split_ands; go_simp; try with_reducible rfl
        simp only [Act.put, List.getElem_toArray, List.getElem_cons_succ, List.getElem_cons_zero, List.setIfInBounds_toArray, List.set_cons_zero, List.set_cons_succ]
        refine wpAnyT_held (i := 10) (v := ?_) rfl (by kernel_rfl) (by kernel_rfl) (by kernel_rfl) (fun _ _ _ h => h) (by kernel_rfl) hT (fun _ => hS) (by kernel_rfl) ?_ ?_
        rotate_left
        · intro wx hSw; go_split_ands; go_simp; try with_reducible rfl
        simp only [Act.put, List.getElem_toArray, List.getElem_cons_succ, List.getElem_cons_zero, List.setIfInBounds_toArray, List.set_cons_zero, List.set_cons_succ]
        refine wpAnyT_held (i := 13) (v := ?_) rfl (by kernel_rfl) (by kernel_rfl) (by kernel_rfl) (fun _ _ _ h => h) (by kernel_rfl) hT (fun _ => hS) (by kernel_rfl) ?_ ?_
        rotate_left
        · intro wx hSw; go_split_ands; go_simp; try with_reducible rfl
        simp only [Act.put, List.getElem_toArray, List.getElem_cons_succ, List.getElem_cons_zero, List.setIfInBounds_toArray, List.set_cons_zero, List.set_cons_succ]
        refine wpAnyT_one (i := 11) rfl (by kernel_rfl) (by kernel_rfl) (fun K hK => ?_)
        refine wpx_call _ _ (by kernel_rfl) ((HTT.out _ hb2).1.mono ?_)
        rintro y U3 ⟨tx, tc, rfl, hz3, hb3⟩
        refine ⟨_, rfl, ?_⟩
        have HZ3 := Veil.mk hz3
        replace hb3 := hb2.trans (hb3.mono hb2.size)
        replace hT : (fun _ : World => True) U3 := trivial
        replace hS : (fun _ : World => True) U3 := trivial
        clear hb2 hz3
        refine hK.out _ _ hT (fun _ => hS) ?_
        clear hK K
        try simp only [Act.put, List.getElem_toArray, List.getElem_cons_succ, List.getElem_cons_zero, List.setIfInBounds_toArray, List.set_cons_zero, List.set_cons_succ]
        refine wpAnyT_more (T' := fun w' : World => (convert 42 9 (.slice tx tn tc)).run Try.prog w' = .ok (.string SZ) w') (fun _ _ => trivial) _ _ _ _ ?_
        replace hT : (fun w' : World => (convert 42 9 (.slice tx tn tc)).run Try.prog w' = .ok (.string SZ) w') U3 := HCV.out _ _ _ HZ3.out
        refine wpAnyT_held (i := 12) (v := ?_) rfl (by kernel_rfl) (by kernel_rfl) (by kernel_rfl) (fun _ _ _ h => h) (by kernel_rfl) hT (fun _ => hS) (by kernel_rfl) ?_ ?_
        rotate_left
        · intro wx hSw; go_split_ands; go_simp; try with_reducible rfl
        simp only [Act.put, List.getElem_toArray, List.getElem_cons_succ, List.getElem_cons_zero, List.setIfInBounds_toArray, List.set_cons_zero, List.set_cons_succ]
        refine wpAnyT_one (i := 14) rfl (by kernel_rfl) (by kernel_rfl) (fun K hK => ?_)
        refine wpx_call _ _ (by kernel_rfl) ((HTT.out _ hb3).2.mono ?_)
        rintro y U4 ⟨tx2, tc2, rfl, hz4, hb4⟩
        refine ⟨_, rfl, ?_⟩
        have HZ4 := Veil.mk (And.intro (HZ3.out.below hb4) hz4)
        replace hb4 := hb3.trans (hb4.mono hb3.size)
        replace hT : (fun w' : World => (convert 42 9 (.slice tx tn tc)).run Try.prog w' = .ok (.string SZ) w') U4 := HCV.out _ _ _ HZ4.out.1
        replace hS : (fun _ : World => True) U4 := trivial
        clear hb3 hz4 HZ3
        refine hK.out _ _ hT (fun _ => hS) ?_
        clear hK K
        try simp only [Act.put, List.getElem_toArray, List.getElem_cons_succ, List.getElem_cons_zero, List.setIfInBounds_toArray, List.set_cons_zero, List.set_cons_succ]
        refine wpAnyT_more (T' := fun w' : World => (convert 42 9 (.slice tx tn tc)).run Try.prog w' = .ok (.string SZ) w' ∧ (convert 42 9 (.slice tx2 tn tc2)).run Try.prog w' = .ok (.string SZ) w') (fun _ h => h.1) _ _ _ _ ?_
        replace hT : (fun w' : World => (convert 42 9 (.slice tx tn tc)).run Try.prog w' = .ok (.string SZ) w' ∧ (convert 42 9 (.slice tx2 tn tc2)).run Try.prog w' = .ok (.string SZ) w') U4 := ⟨HCV.out _ _ _ HZ4.out.1, HCV.out _ _ _ HZ4.out.2⟩
        refine wpAnyT_held (i := 15) (v := ?_) rfl (by kernel_rfl) (by kernel_rfl) (by kernel_rfl) (fun _ _ _ h => h) (by kernel_rfl) hT (fun _ => hS) (by kernel_rfl) ?_ ?_
        rotate_left
        · intro wx hSw; go_split_ands; go_simp; try with_reducible rfl
        simp only [Act.put, List.getElem_toArray, List.getElem_cons_succ, List.getElem_cons_zero, List.setIfInBounds_toArray, List.set_cons_zero, List.set_cons_succ]
        refine wpAnyT_held (i := 16) (v := .bool true) rfl (by kernel_rfl) (by kernel_rfl) (by kernel_rfl) (fun _ _ _ h => h) (by kernel_rfl) hT (fun _ => hS) (by kernel_rfl) ?_ ?_
        · intro wx hSw; go_split_ands; go_simp
        simp only [Act.put, List.getElem_toArray, List.getElem_cons_succ, List.getElem_cons_zero, List.setIfInBounds_toArray, List.set_cons_zero, List.set_cons_succ]
        refine wpAnyT_held (i := 17) (v := ?_) rfl (by kernel_rfl) (by kernel_rfl) (by kernel_rfl) (fun _ _ _ h => h) (by kernel_rfl) hT (fun _ => hS) (by kernel_rfl) ?_ ?_
        rotate_left
        · intro wx hSw; go_split_ands; go_simp; try with_reducible rfl
        simp only [Act.put, List.getElem_toArray, List.getElem_cons_succ, List.getElem_cons_zero, List.setIfInBounds_toArray, List.set_cons_zero, List.set_cons_succ]
        refine wpAnyT_held (i := 18) (v := ?_) rfl (by kernel_rfl) (by kernel_rfl) (by kernel_rfl) (fun _ _ _ h => h) (by kernel_rfl) hT (fun _ => hS) (by kernel_rfl) ?_ ?_
        rotate_left
        · intro wx hSw; go_split_ands; go_simp; try with_reducible rfl
        simp only [Act.put, List.getElem_toArray, List.getElem_cons_succ, List.getElem_cons_zero, List.setIfInBounds_toArray, List.set_cons_zero, List.set_cons_succ]
        refine wpAnyT_held (i := 19) (v := ?_) rfl (by kernel_rfl) (by kernel_rfl) (by kernel_rfl) (fun _ _ _ h => h) (by kernel_rfl) hT (fun _ => hS) (by kernel_rfl) ?_ ?_
        rotate_left
        · intro wx hSw; go_split_ands; go_simp; try with_reducible rfl
        simp only [Act.put, List.getElem_toArray, List.getElem_cons_succ, List.getElem_cons_zero, List.setIfInBounds_toArray, List.set_cons_zero, List.set_cons_succ]
        refine wpAnyT_held (i := 21) (v := ?_) rfl (by kernel_rfl) (by kernel_rfl) (by kernel_rfl) (fun _ _ _ h => h) (by kernel_rfl) hT (fun _ => hS) (by kernel_rfl) ?_ ?_
        rotate_left
        · intro wx hSw; go_split_ands; go_simp; try with_reducible rfl
        simp only [Act.put, List.getElem_toArray, List.getElem_cons_succ, List.getElem_cons_zero, List.setIfInBounds_toArray, List.set_cons_zero, List.set_cons_succ]
        have hl1 := (HLL.out _ hb4).1
        have hl2 := (HLL.out _ hb4).2
        refine wpAnyT_one (i := 20) rfl (by kernel_rfl) (by kernel_rfl) (fun K hK => ?_)
        refine wpx_call _ _ (by kernel_rfl) (hl1.mono ?_)
        rintro y U5 ⟨rfl, rfl⟩
        refine ⟨_, rfl, ?_⟩
        clear hl1
        refine hK.out _ _ hT (fun _ => hS) ?_
        clear hK K
        try simp only [Act.put, List.getElem_toArray, List.getElem_cons_succ, List.getElem_cons_zero, List.setIfInBounds_toArray, List.set_cons_zero, List.set_cons_succ]
        refine wpAnyT_one (i := 22) rfl (by kernel_rfl) (by kernel_rfl) (fun K hK => ?_)
        refine wpx_call _ _ (by kernel_rfl) (hl2.mono ?_)
        rintro y U6 ⟨rfl, rfl⟩
        refine ⟨_, rfl, ?_⟩
        clear hl2
        refine hK.out _ _ hT (fun _ => hS) ?_
        clear hK K
        try simp only [Act.put, List.getElem_toArray, List.getElem_cons_succ, List.getElem_cons_zero, List.setIfInBounds_toArray, List.set_cons_zero, List.set_cons_succ]
        refine wpAnyT_held (i := 23) (v := .bool true) rfl (by kernel_rfl) (by kernel_rfl) (by kernel_rfl) (fun _ _ _ h => h) (by kernel_rfl) hT (fun _ => hS) (by kernel_rfl) ?_ ?_
        · intro wx hSw; go_split_ands; go_simp
        simp only [Act.put, List.getElem_toArray, List.getElem_cons_succ, List.getElem_cons_zero, List.setIfInBounds_toArray, List.set_cons_zero, List.set_cons_succ]
        refine wpAnyT_held (i := 24) (v := ?_) rfl (by kernel_rfl) (by kernel_rfl) (by kernel_rfl) (fun _ _ _ h => h) (by kernel_rfl) hT (fun _ => hS) (by kernel_rfl) ?_ ?_
        rotate_left
        · intro wx hSw; go_split_ands; go_simp; try with_reducible rfl
        simp only [Act.put, List.getElem_toArray, List.getElem_cons_succ, List.getElem_cons_zero, List.setIfInBounds_toArray, List.set_cons_zero, List.set_cons_succ]
        refine wpAnyT_held (i := 25) (v := ?_) rfl (by kernel_rfl) (by kernel_rfl) (by kernel_rfl) (fun _ _ _ h => h) (by kernel_rfl) hT (fun _ => hS) (by kernel_rfl) ?_ ?_
        rotate_left
        · intro wx hSw; go_split_ands; go_simp; try with_reducible rfl
        simp only [Act.put, List.getElem_toArray, List.getElem_cons_succ, List.getElem_cons_zero, List.setIfInBounds_toArray, List.set_cons_zero, List.set_cons_succ]
        refine wpAnyT_done (by kernel_rfl) ?_ _
        have HQ := Veil.mk (HB.out.trans (hb4.mono HB.out.size))
        clear hT hS hb4
        go_wp2
        go_ret
        exact ⟨rfl, HQ.out⟩
  · have h16i : ¬ (16 : Int) < (len : Int) := by omega
    go_upto_region 3 with fail
    have HD : Veil (∃ ls, n ≤ 16 ∧ EvsAt w x n cap ls) := ⟨_, by omega, by rw [hn]; exact hd⟩
    rw [← hn]
    clear hd hn h16 h16i
    obtain ⟨ls, hn16, hd⟩ := HD.out
    clear HD
    have HDL := Veil.mk hd.len_eq
    have HDS := Veil.mk hd
    have hnb1 := HNB.out w
    go_upto_region 4 with (first
      | (go_at_call 5; refine hnb2.mono ?_; rintro e w2 ⟨Hb, bb, rfl, hCb, hBb, hbb, hHb⟩; clear hnb2)
      | (go_at_call 5; refine hnb1.mono ?_; rintro e w1 ⟨Ha, ba, rfl, hCa, hBa, hba, hHa⟩; have hnb2 := HNB.out w1; clear hnb1))
    have hnt1 := HNT.out w2
    go_upto_region 5 with (first
      | (go_at_call 6; refine hnt2.mono ?_; rintro e w4 ⟨R2, c2, n2, rfl, hT2, hB4, q21, q22, q23⟩; clear hnt2)
      | (go_at_call 6; refine hnt1.mono ?_; rintro e w3 ⟨R1, c1, n1, rfl, hT1, hB3, q11, q12, q13⟩; have hnt2 := HNT.out w3; clear hnt1))
    have H0 : Veil (HrR w ls n ⟨Ha, ba, Hb, bb, R1, c1, n1, R2, c2, n2, w2.heap.size, w3.heap.size⟩ 0 w4) := ⟨by
      have l1 := hCa.cells.lt
      have l2 := hCa.wait.lt
      have l3 := hCb.cells.lt
      have l4 := hCb.wait.lt
      have s1 := hBa.size
      have s2 := hBb.size
      have s3 := hB3.size
      have s4 := hB4.size
      have r1 := hT1.box.lt
      have r2 := hT1.chars.lt
      have r3 := hT1.nodes.lt
      have b24 := hB3.trans (hB4.mono s3)
      have b14 := hBb.trans (b24.mono s2)
      have t1 : ∀ q, treeP R1 c1 n1 (fun _ => Value.slice none 0 0) q → q = R1 ∨ q = c1 ∨ q = n1 := fun q h => by
        rcases h with h | h | h | ⟨s, -, h⟩
        · exact .inl h
        · exact .inr (.inl h)
        · exact .inr (.inr h)
        · cases h
      have t2 : ∀ q, treeP R2 c2 n2 (fun _ => Value.slice none 0 0) q → q = R2 ∨ q = c2 ∨ q = n2 := fun q h => by
        rcases h with h | h | h | ⟨s, -, h⟩
        · exact .inl h
        · exact .inr (.inl h)
        · exact .inr (.inr h)
        · cases h
      refine ⟨_, _, _, _, _, _, [], [], ⟨hCa.far b14, hCb.far b24, hT1.far hB4, hT2, fun q h => ?_, fun q h => ?_, ?_, ?_, ?_, hBa.trans (b14.mono s1)⟩, Good.zero, Good.zero, Inv.zero.of_iff fun e => by simp, Inv.zero.of_iff fun e => ?_, AnsX.zero.of_iff fun e => by simp, AnsX.zero.of_iff fun e => ?_⟩
      · have h1 := t1 q h
        exact ⟨fun k => by have h2 := t2 q k; omega, ⟨(by omega : q ≠ Ha), (by omega : q ≠ ba), (by omega : q ≠ Hb), (by omega : q ≠ bb)⟩, (by omega : w.heap.size ≤ q)⟩
      · have h1 := t2 q h
        exact ⟨⟨(by omega : q ≠ Ha), (by omega : q ≠ ba), (by omega : q ≠ Hb), (by omega : q ≠ bb)⟩, (by omega : w.heap.size ≤ q)⟩
      · show Ha ≠ Hb ∧ Ha ≠ bb ∧ ba ≠ Hb ∧ ba ≠ bb
        omega
      · show w.heap.size ≤ Ha ∧ w.heap.size ≤ ba ∧ w.heap.size ≤ Hb ∧ w.heap.size ≤ bb
        omega
      · show w2.heap.size ≤ w4.heap.size ∧ w3.heap.size ≤ w4.heap.size
        omega
      · rw [List.drop_of_length_le (by have := HDL.out; omega)]; simp
      · rw [List.drop_of_length_le (by have := HDL.out; omega)]; simp⟩
    generalize w2.heap.size = s2 at H0
    generalize w3.heap.size = s3 at H0
    obtain ⟨p, hp⟩ : ∃ p : Hp4, p = ⟨Ha, ba, Hb, bb, R1, c1, n1, R2, c2, n2, s2, s3⟩ := ⟨_, rfl⟩
    rw [← hp] at H0
    obtain ⟨e1, e2, e3, e4⟩ : Ha = p.Ha ∧ Hb = p.Hb ∧ R1 = p.R1 ∧ R2 = p.R2 := by rw [hp]; exact ⟨rfl, rfl, rfl, rfl⟩
    rw [e1, e2, e3, e4]
    clear hd hCa hCb hT1 hT2 hB3 hB4 hBa hBb q11 q12 q13 q21 q22 q23 hba hHa hbb hHb HNB HNT hp e1 e2 e3 e4
    go_wp2_with fail
    go_loopw [7, 8, 9, 10, 11] (fun q _ _ _ _ wr => ∃ k : Nat, k ≤ n ∧ q = .int .i64 (k : Nat) ∧ HrR w ls n p k wr) (fun q _ _ _ _ _ => n - (intOf q).toNat)
    case atStart => exact ⟨0, Nat.zero_le _, rfl, H0.out⟩
    case round =>
      obtain ⟨k, hk, rfl, ⟨V1, V2, S, L, T, M, X, Y, hI, hGS, hGT, hIS, hIT, hAS, hAT⟩⟩ := hrel
      clear H0
      by_cases hkn : k < n
      · have hki : (k : Int) < (n : Int) := by omega
        have hkd : k < ls.length := by have := HDL.out; omega
        have hmd : n - 1 - k < ls.length := by have := HDL.out; omega
        obtain ⟨eb, off, rfl, hre⟩ := (HDS.out.below hI.below).rngT k hkd
        obtain ⟨eb2, off2, hx2, hrf⟩ := HDS.out.rngT (n - 1 - k) hmd
        obtain ⟨rfl, rfl⟩ : eb = eb2 ∧ off = off2 := by cases hx2; exact ⟨rfl, rfl⟩
        clear hx2
        have hok := HDS.out.ok ls[k] (List.getElem_mem hkd)
        have hokf := HDS.out.ok ls[n - 1 - k] (List.getElem_mem hmd)
        have HQ1 : Veil (∀ e, (e ∈ ls.take k ∨ e = ls[k]) ↔ e ∈ ls.take (k + 1)) := ⟨fun e => by rw [List.take_succ_eq_append_getElem hkd, List.mem_append, List.mem_singleton]⟩
        have HQ2 : Veil (∀ e, (e ∈ ls.drop (n - k) ∨ e = ls[n - 1 - k]) ↔ e ∈ ls.drop (n - (k + 1))) := ⟨fun e => by
          rw [show n - (k + 1) = n - 1 - k by omega, List.drop_eq_getElem_cons hmd, show n - 1 - k + 1 = n - k by omega, List.mem_cons]
          exact Or.comm⟩
        have iE : (Try.prog.info? 38).map (·.size) = some ls[k].cells.length := by rw [ev_len _ hok.past]; kernel_rfl
        have iF : (Try.prog.info? 38).map (·.size) = some ls[n - 1 - k].cells.length := by rw [ev_len _ hokf.past]; kernel_rfl
        have hwA : IntKind.i64.wrap ((n : Int) - 1) = (n : Int) - 1 := by rw [IntKind.wrap_i64]; omega
        have hwB : IntKind.i64.wrap ((n : Int) - 1 - (k : Int)) = ((n - 1 - k : Nat) : Int) := by rw [IntKind.wrap_i64]; omega
        have hw1 : IntKind.i64.wrap ((k : Int) + 1) = (k : Int) + 1 := by rw [IntKind.wrap_i64]; omega
        have hmi : ((n - 1 - k : Nat) : Int) < (n : Int) := by omega
        have hmn : n - 1 - k < n := by omega
        have hput := put_any k p.Ha p.ba S L ls[k] wr hI.bA hGS hok (by omega)
        generalize ls[k] = ek at hre hput iE hok HQ1
        generalize ls[n - 1 - k] = fk at hrf iF hokf HQ2
        generalize n - 1 - k = m at hrf hwB hmi hmn
        obtain ⟨RA, hRA⟩ : ∃ r, refN S L ek = r := ⟨_, rfl⟩
        obtain ⟨RB, hRB⟩ : ∃ r, refN T M fk = r := ⟨_, rfl⟩
        rw [hRA] at hput
        have HRA := Veil.mk hRA
        have HRB := Veil.mk hRB
        have HOK := Veil.mk hok
        have HOKF := Veil.mk hokf
        have HI := Veil.mk hI
        have HGT := Veil.mk hGT
        have HIS := Veil.mk (And.intro hIS (And.intro hIT (And.intro hAS hAT)))
        have HLN := Veil.mk (And.intro (ans_len hAS hGS) (ans_len hAT hGT))
        obtain ⟨E, hE⟩ : ∃ E, ek.cells = E := ⟨_, rfl⟩
        obtain ⟨F, hF⟩ : ∃ F, fk.cells = F := ⟨_, rfl⟩
        rw [hE] at hre hput iE
        rw [hF] at hrf iF
        have HF := Veil.mk hF
        clear hE hF hok hokf hRA hRB hmd hkd hI hGS hGT hIS hIT hAS hAT
        go_upto_region 9 with (first
          | (refine wpList_ldv rfl 38 _ rfl eb (off + k * 17) rfl E hre uE rfl iE ?_)
          | (go_at_call 7; refine hput.mono ?_; rintro e W1 ⟨y, c, xs, S3, L3, rfl, hP, hG3, hxo, hC3, hO3, hT3⟩))
        have hI1 := HI.out.putA hC3 hT3
        have hputB := put_any k p.Hb p.bb T M fk W1 hI1.bB HGT.out HOKF.out (by omega)
        rw [HF.out, HRB.out] at hputB
        have hrf1 : W1.rangeAt eb (off + m * 17) F := fun i v hv => (hI1.below.cell (block_lt_of_cell (hrf i v hv))).trans (hrf i v hv)
        have H1 := Veil.mk (And.intro hI1 (And.intro hG3 (And.intro hP (And.intro hxo (And.intro hO3 hT3.size)))))
        clear hput hre hrf hC3 hT3 hG3 hP hxo hO3 hI1
        go_upto_region 10 with (first
          | (refine wpList_ldv rfl 38 _ rfl eb (off + m * 17) rfl F hrf1 uE rfl iF ?_)
          | (go_at_call 7; refine hputB.mono ?_; rintro e W2 ⟨y2, d2, ys, T3, M3, rfl, hP4, hG4, hyo, hC4, hO4, hT4⟩))
        obtain ⟨hI1, hG3, hP, hxo, hO3, hz1⟩ := H1.out
        have hI2 := hI1.putB hC4 hT4
        have hO3' : OwnI W2 wr.heap.size 38 17 (.slice y xs.length c) (xs.map Ev.cells) := hO3.congr fun g hg => hT4.block g (hO3.blockLt g hg).1 (fun q => by
          have h1 := (hO3.blockLt g hg).2.1
          have h2 := HI.out.bB.cells.lt
          have h3 := HI.out.bB.wait.lt
          rcases q with rfl | rfl <;> omega)
        have H2 := Veil.mk (And.intro hI2 (And.intro hO3' (And.intro hO4 (And.intro hxo hyo))))
        have H3 := Veil.mk (And.intro hG3 (And.intro hG4 (And.intro hP hP4)))
        clear hputB hrf1 hI1 hI2 hG3 hP hxo hO3 hO3' hO4 hT4 hC4 hG4 hP4 hyo H1
        have hlen := lenT_any p.B1 p.R1 p.c1 p.n1 (treeX X) V1 W2 H2.out.1.t1
        have hl16 : (treeX X).length ≤ 16 := by have := (treeX_ok X).2; have := HLN.out.1; omega
        by_cases hA : RA = 0
        · by_cases hBz : RB = 0
          · subst hA hBz
            clear hlen hl16
            go_upto_region 12 with fail
            obtain ⟨hI2, hO3, hO4, hxo, hyo⟩ := H2.out
            obtain ⟨hG3, hG4, hP, hP4⟩ := H3.out
            obtain ⟨hIS, hIT, hAS, hAT⟩ := HIS.out
            have hAS2 := hP.ans hIS hAS HOK.out HRA.out
            have hAT2 := hP4.ans hIT hAT HOKF.out HRB.out
            have hx2 := ans_len hAS2 hG3
            have hy2 := ans_len hAT2 hG4
            rw [List.length_append] at hx2 hy2
            have HNX : Veil ((∀ W, HrI w W p V1 V2 S3 L3 T3 M3 X Y → OwnI W wr.heap.size 38 17 (.slice y xs.length c) (xs.map Ev.cells) → Calls Try.prog 9 #[.pointer (some ⟨p.R1, 0, none⟩), .slice y xs.length c] W fun r w' => r = .returned (.tuple #[]) ∧ ∃ V', TreeAt w' p.B1 p.R1 p.c1 p.n1 (xs.foldl effN (treeX X)) V' ∧ TreeTo p.R1 p.c1 p.n1 V1 V' W w') ∧ (∀ W V, HrI w W p V V2 S3 L3 T3 M3 (X ++ xs) Y → OwnI W W1.heap.size 38 17 (.slice y2 ys.length d2) (ys.map Ev.cells) → Calls Try.prog 9 #[.pointer (some ⟨p.R2, 0, none⟩), .slice y2 ys.length d2] W fun r w' => r = .returned (.tuple #[]) ∧ ∃ V', TreeAt w' p.B2 p.R2 p.c2 p.n2 (ys.foldl effN (treeX Y)) V' ∧ TreeTo p.R2 p.c2 p.n2 V2 V' W w')) := ⟨fun W h ho => inserts_any p.B1 p.R1 p.c1 p.n1 (treeX X) V1 _ y xs.length c xs W (treeX_ok X).1 h.t1 ho hxo (by have := (treeX_ok X).2; omega) h.base.1 (fun g hg q => by
              have h1 := (ho.blockLt g hg).2.1
              have h2 := HI.out.t1.blockLt g q
              omega), fun W V h ho => inserts_any p.B2 p.R2 p.c2 p.n2 (treeX Y) V2 _ y2 ys.length d2 ys W (treeX_ok Y).1 h.t2 ho hyo (by have := (treeX_ok Y).2; omega) h.base.2 (fun g hg q => by
              have h1 := (ho.blockLt g hg).2.1
              have h2 := HI.out.t2.blockLt g q
              omega)⟩
            have HEND : Veil (∀ W V3 V4, HrI w W p V3 V4 S3 L3 T3 M3 (X ++ xs) (Y ++ ys) → HrR w ls n p (k + 1) W) := ⟨fun W V3 V4 h => ⟨V3, V4, S3, L3, T3, M3, X ++ xs, Y ++ ys, h, hG3, hG4, (hP.inv hIS HOK.out HRA.out).of_iff HQ1.out, (hP4.inv hIT HOKF.out HRB.out).of_iff HQ2.out, hAS2.of_iff HQ1.out, hAT2.of_iff HQ2.out⟩⟩
            have hin1 := HNX.out.1 W2 hI2 hO3
            have H4 := Veil.mk (And.intro hI2 (And.intro hO4 hz1))
            clear hI2 hO3 hO4 hxo hyo hG3 hG4 hP hP4 hIS hIT hAS hAT hAS2 hAT2 hx2 hy2 H2 H3 HIS HLN HRA HRB HOK HOKF HQ1 HQ2
            go_upto_region 13 with (go_at_call 9; refine hin1.mono ?_; rintro e W3 ⟨rfl, V3, hT5, hto5⟩; clear hin1)
            obtain ⟨hI2, hO4, hz1⟩ := H4.out
            have hI3 := hI2.ins1 hT5 hto5
            have hO5 : OwnI W3 W1.heap.size 38 17 (.slice y2 ys.length d2) (ys.map Ev.cells) := hO4.congr fun g hg => hto5.turn.block g (hO4.blockLt g hg).1 (fun q => by
              have h1 := (hO4.blockLt g hg).2.1
              have h2 := HI.out.t1.blockLt g q
              omega)
            have hin2 := HNX.out.2 W3 V3 hI3 hO5
            have H5 := Veil.mk hI3
            clear hI2 hO4 hT5 hto5 hI3 hO5 HNX H4 hz1
            go_wp2_with (go_at_call 9; refine hin2.mono ?_; rintro e W4 ⟨rfl, V4, hT6, hto6⟩; have H6 := Veil.mk (HEND.out W4 V3 V4 (H5.out.ins2 hT6 hto6)); clear hin2 hT6 hto6)
            go_roundw
            case rel => exact ⟨k + 1, hkn, by push_cast; rfl, H6.out⟩
            case measure => simp [intOf]; omega
          · subst hA
            have hz2 : (RB == 0) = false := by simpa using hBz
            have hd16 : decide (((treeX X).length : Int) ≤ 16) = true := by simp; omega
            have HQ := Veil.mk H2.out.1.below
            clear H2 H3 HI HIS HLN hl16
            generalize (treeX X).length = tl at hlen hd16
            go_wp2_with (go_at_call 8; refine hlen.mono ?_; rintro e W4 ⟨rfl, rfl⟩)
            go_ret
            exact ⟨rfl, HQ.out⟩
        · have hz2 : (RA == 0) = false := by simpa using hA
          have hd16 : decide (((treeX X).length : Int) ≤ 16) = true := by simp; omega
          have HQ := Veil.mk H2.out.1.below
          clear H2 H3 HI HIS HLN hl16
          generalize (treeX X).length = tl at hlen hd16
          go_wp2_with (go_at_call 8; refine hlen.mono ?_; rintro e W4 ⟨rfl, rfl⟩)
          go_ret
          exact ⟨rfl, HQ.out⟩
      · have hki : ¬ (k : Int) < (n : Int) := by omega
        obtain rfl : k = n := by omega
        obtain ⟨rfl, rfl⟩ := conf hIS hIT (fun e => by rw [Nat.sub_self, List.drop_zero, List.take_of_length_le (by have := HDL.out; omega)]) hGS hGT
        have hXY := hAS.same hIS hAT (fun e => by rw [Nat.sub_self, List.drop_zero, List.take_of_length_le (by have := HDL.out; omega)])
        have hxl := ans_len hAS hGS
        have hyl := ans_len hAT hGT
        obtain ⟨htt, htl⟩ := heard_same hAS.run hAT.run hXY (by omega) (by omega)
        have heq := vecT_eql S hGS.len
        obtain ⟨z, hz⟩ : ∃ q, textN (treeX X) = q := ⟨_, rfl⟩
        obtain ⟨tn, htn⟩ : ∃ q, z.length = q := ⟨_, rfl⟩
        have HSN : Veil (∀ W, Below wr.heap.size wr W → (Calls Try.prog 10 #[.pointer (some ⟨p.Ha, 0, none⟩)] W fun r w' => r = .returned (.agg (S.map (Value.int .u32)).toArray) ∧ Below W.heap.size W w') ∧ (Calls Try.prog 10 #[.pointer (some ⟨p.Hb, 0, none⟩)] W fun r w' => r = .returned (.agg (S.map (Value.int .u32)).toArray) ∧ Below W.heap.size W w')) := ⟨fun W hb => ⟨seen_any _ _ S L W (hI.far hb).bA, seen_any _ _ S L W (hI.far hb).bB⟩⟩
        have HTT : Veil (∀ W, Below wr.heap.size wr W → (Calls Try.prog 11 #[.pointer (some ⟨p.R1, 0, none⟩)] W fun r w' => ∃ tx tc, r = .returned (.slice tx tn tc) ∧ Bytes w' tx tn tc z ∧ Below W.heap.size W w') ∧ (Calls Try.prog 11 #[.pointer (some ⟨p.R2, 0, none⟩)] W fun r w' => ∃ tx tc, r = .returned (.slice tx tn tc) ∧ Bytes w' tx tn tc z ∧ Below W.heap.size W w')) := ⟨fun W hb => by
          have key : ∀ {b R bc bn : Nat} {V : (Int × Int) × Bool → Value} {Q : List Ev}, TreeAt W b R bc bn (treeX Q) V → Q.length ≤ 1000 → textN (treeX Q) = z → Calls Try.prog 11 #[.pointer (some ⟨R, 0, none⟩)] W fun r w' => ∃ tx tc, r = .returned (.slice tx tn tc) ∧ Bytes w' tx tn tc z ∧ Below W.heap.size W w' := fun {b R bc bn V Q} ht hl hq => by
            refine (textB_any b R bc bn (treeX Q) V (treeX_ok Q).1 (by have := (treeX_ok Q).2; omega) W ht).mono ?_
            rintro r w' ⟨v, h1, h2, h3⟩
            rw [hq] at h2
            obtain ⟨y, n', cc, rfl, hn'⟩ := h2.isSlice
            obtain rfl : n' = tn := hn'.trans htn
            exact ⟨y, cc, h1, h2.bytes.2, h3⟩
          exact ⟨key (hI.far hb).t1 (by omega) hz, key (hI.far hb).t2 (by omega) (by rw [← htt]; exact hz)⟩⟩
        have HLL : Veil (∀ W, Below wr.heap.size wr W → (Calls Try.prog 8 #[.pointer (some ⟨p.R1, 0, none⟩)] W fun r w' => r = .returned (.int .i64 ((treeX X).length : Nat)) ∧ w' = W) ∧ (Calls Try.prog 8 #[.pointer (some ⟨p.R2, 0, none⟩)] W fun r w' => r = .returned (.int .i64 ((treeX X).length : Nat)) ∧ w' = W)) := ⟨fun W hb => ⟨lenT_any _ _ _ _ _ _ W (hI.far hb).t1, by rw [htl]; exact lenT_any _ _ _ _ _ _ W (hI.far hb).t2⟩⟩
        have HCV : Veil (∀ w' tx tc, Bytes w' tx tn tc z → (convert 42 9 (.slice tx tn tc)).run Try.prog w' = .ok (.string (strOfNums z)) w') := ⟨fun w' tx tc h => conv_bytes h⟩
        obtain ⟨SZ, hSZ⟩ : ∃ q, strOfNums z = q := ⟨_, rfl⟩
        rw [hSZ] at HCV
        generalize (treeX X).length = tl at HLL
        generalize (S.map (Value.int .u32)).toArray = SV at HSN heq
        have HB := Veil.mk hI.below
        clear hI hGS hGT hIS hIT hAS hAT hXY hxl hyl htt htl hz htn hSZ HDS HDL
        go_upto_region 14 with fail
        have hb0 : Below wr.heap.size wr wr.drew := (Below.refl _ _).drew
        refine wp_region_gateT (fun _ : World => True) (fun _ => True) 99 (by kernel_rfl) ?_
        have hT : (fun _ : World => True) wr.drew := trivial
        have hS : (fun _ : World => True) wr.drew := trivial
        refine wpAnyT_held (i := 0) (v := ?_) rfl (by kernel_rfl) (by kernel_rfl) (by kernel_rfl) (fun _ _ _ h => h) (by kernel_rfl) hT (fun _ => hS) (by kernel_rfl) ?_ ?_
        rotate_left
        · intro wx hSw; go_split_ands; go_simp; try with_reducible rfl
        simp only [Act.put, List.getElem_toArray, List.getElem_cons_succ, List.getElem_cons_zero, List.setIfInBounds_toArray, List.set_cons_zero, List.set_cons_succ]
        refine wpAnyT_held (i := 1) (v := ?_) rfl (by kernel_rfl) (by kernel_rfl) (by kernel_rfl) (fun _ _ _ h => h) (by kernel_rfl) hT (fun _ => hS) (by kernel_rfl) ?_ ?_
        rotate_left
        · intro wx hSw; go_split_ands; go_simp; try with_reducible rfl
        simp only [Act.put, List.getElem_toArray, List.getElem_cons_succ, List.getElem_cons_zero, List.setIfInBounds_toArray, List.set_cons_zero, List.set_cons_succ]
        refine wpAnyT_held (i := 2) (v := ?_) rfl (by kernel_rfl) (by kernel_rfl) (by kernel_rfl) (fun _ _ _ h => h) (by kernel_rfl) hT (fun _ => hS) (by kernel_rfl) ?_ ?_
        rotate_left
        · intro wx hSw; go_split_ands; go_simp; try with_reducible rfl
        simp only [Act.put, List.getElem_toArray, List.getElem_cons_succ, List.getElem_cons_zero, List.setIfInBounds_toArray, List.set_cons_zero, List.set_cons_succ]
        refine wpAnyT_held (i := 3) (v := ?_) rfl (by kernel_rfl) (by kernel_rfl) (by kernel_rfl) (fun _ _ _ h => h) (by kernel_rfl) hT (fun _ => hS) (by kernel_rfl) ?_ ?_
        rotate_left
        · intro wx hSw; go_split_ands; go_simp; try with_reducible rfl
        simp only [Act.put, List.getElem_toArray, List.getElem_cons_succ, List.getElem_cons_zero, List.setIfInBounds_toArray, List.set_cons_zero, List.set_cons_succ]
        refine wpAnyT_held (i := 5) (v := ?_) rfl (by kernel_rfl) (by kernel_rfl) (by kernel_rfl) (fun _ _ _ h => h) (by kernel_rfl) hT (fun _ => hS) (by kernel_rfl) ?_ ?_
        rotate_left
        · intro wx hSw; go_split_ands; go_simp; try with_reducible rfl
        simp only [Act.put, List.getElem_toArray, List.getElem_cons_succ, List.getElem_cons_zero, List.setIfInBounds_toArray, List.set_cons_zero, List.set_cons_succ]
        refine wpAnyT_one (i := 4) rfl (by kernel_rfl) (by kernel_rfl) (fun K hK => ?_)
        refine wpx_call _ _ (by kernel_rfl) ((HSN.out _ hb0).1.mono ?_)
        rintro y U1 ⟨rfl, hb1⟩
        refine ⟨_, rfl, ?_⟩
        replace hb1 := hb0.trans (hb1.mono hb0.size)
        replace hT : (fun _ : World => True) U1 := trivial
        replace hS : (fun _ : World => True) U1 := trivial
        clear hb0
        refine hK.out _ _ hT (fun _ => hS) ?_
        clear hK K
        try simp only [Act.put, List.getElem_toArray, List.getElem_cons_succ, List.getElem_cons_zero, List.setIfInBounds_toArray, List.set_cons_zero, List.set_cons_succ]
        refine wpAnyT_one (i := 6) rfl (by kernel_rfl) (by kernel_rfl) (fun K hK => ?_)
        refine wpx_call _ _ (by kernel_rfl) ((HSN.out _ hb1).2.mono ?_)
        rintro y U2 ⟨rfl, hb2⟩
        refine ⟨_, rfl, ?_⟩
        replace hb2 := hb1.trans (hb2.mono hb1.size)
        replace hT : (fun _ : World => True) U2 := trivial
        replace hS : (fun _ : World => True) U2 := trivial
        clear hb1
        refine hK.out _ _ hT (fun _ => hS) ?_
        clear hK K
        try simp only [Act.put, List.getElem_toArray, List.getElem_cons_succ, List.getElem_cons_zero, List.setIfInBounds_toArray, List.set_cons_zero, List.set_cons_succ]
        refine wpAnyT_held (i := 7) (v := .bool true) rfl (by kernel_rfl) (by kernel_rfl) (by kernel_rfl) (fun _ _ _ h => h) (by kernel_rfl) hT (fun _ => hS) (by kernel_rfl) (fun wx h => exec_eqT rfl rfl rfl (by go_simp) (heq wx)) ?_
        simp only [Act.put, List.getElem_toArray, List.getElem_cons_succ, List.getElem_cons_zero, List.setIfInBounds_toArray, List.set_cons_zero, List.set_cons_succ]
        refine wpAnyT_held (i := 8) (v := ?_) rfl (by kernel_rfl) (by kernel_rfl) (by kernel_rfl) (fun _ _ _ h => h) (by kernel_rfl) hT (fun _ => hS) (by kernel_rfl) ?_ ?_
        rotate_left
        · intro wx hSw; go_split_ands; go_simp; try with_reducible rfl
        simp only [Act.put, List.getElem_toArray, List.getElem_cons_succ, List.getElem_cons_zero, List.setIfInBounds_toArray, List.set_cons_zero, List.set_cons_succ]
        refine wpAnyT_held (i := 9) (v := ?_) rfl (by kernel_rfl) (by kernel_rfl) (by kernel_rfl) (fun _ _ _ h => h) (by kernel_rfl) hT (fun _ => hS) (by kernel_rfl) ?_ ?_
        rotate_left
        · intro wx hSw; go_split_ands; go_simp; try with_reducible rfl
        simp only [Act.put, List.getElem_toArray, List.getElem_cons_succ, List.getElem_cons_zero, List.setIfInBounds_toArray, List.set_cons_zero, List.set_cons_succ]
        refine wpAnyT_held (i := 10) (v := ?_) rfl (by kernel_rfl) (by kernel_rfl) (by kernel_rfl) (fun _ _ _ h => h) (by kernel_rfl) hT (fun _ => hS) (by kernel_rfl) ?_ ?_
        rotate_left
        · intro wx hSw; go_split_ands; go_simp; try with_reducible rfl
        simp only [Act.put, List.getElem_toArray, List.getElem_cons_succ, List.getElem_cons_zero, List.setIfInBounds_toArray, List.set_cons_zero, List.set_cons_succ]
        refine wpAnyT_held (i := 13) (v := ?_) rfl (by kernel_rfl) (by kernel_rfl) (by kernel_rfl) (fun _ _ _ h => h) (by kernel_rfl) hT (fun _ => hS) (by kernel_rfl) ?_ ?_
        rotate_left
        · intro wx hSw; go_split_ands; go_simp; try with_reducible rfl
        simp only [Act.put, List.getElem_toArray, List.getElem_cons_succ, List.getElem_cons_zero, List.setIfInBounds_toArray, List.set_cons_zero, List.set_cons_succ]
        refine wpAnyT_one (i := 11) rfl (by kernel_rfl) (by kernel_rfl) (fun K hK => ?_)
        refine wpx_call _ _ (by kernel_rfl) ((HTT.out _ hb2).1.mono ?_)
        rintro y U3 ⟨tx, tc, rfl, hz3, hb3⟩
        refine ⟨_, rfl, ?_⟩
        have HZ3 := Veil.mk hz3
        replace hb3 := hb2.trans (hb3.mono hb2.size)
        replace hT : (fun _ : World => True) U3 := trivial
        replace hS : (fun _ : World => True) U3 := trivial
        clear hb2 hz3
        refine hK.out _ _ hT (fun _ => hS) ?_
        clear hK K
        try simp only [Act.put, List.getElem_toArray, List.getElem_cons_succ, List.getElem_cons_zero, List.setIfInBounds_toArray, List.set_cons_zero, List.set_cons_succ]
        refine wpAnyT_more (T' := fun w' : World => (convert 42 9 (.slice tx tn tc)).run Try.prog w' = .ok (.string SZ) w') (fun _ _ => trivial) _ _ _ _ ?_
        replace hT : (fun w' : World => (convert 42 9 (.slice tx tn tc)).run Try.prog w' = .ok (.string SZ) w') U3 := HCV.out _ _ _ HZ3.out
        refine wpAnyT_held (i := 12) (v := ?_) rfl (by kernel_rfl) (by kernel_rfl) (by kernel_rfl) (fun _ _ _ h => h) (by kernel_rfl) hT (fun _ => hS) (by kernel_rfl) ?_ ?_
        rotate_left
        · intro wx hSw; go_split_ands; go_simp; try with_reducible rfl
        simp only [Act.put, List.getElem_toArray, List.getElem_cons_succ, List.getElem_cons_zero, List.setIfInBounds_toArray, List.set_cons_zero, List.set_cons_succ]
        refine wpAnyT_one (i := 14) rfl (by kernel_rfl) (by kernel_rfl) (fun K hK => ?_)
        refine wpx_call _ _ (by kernel_rfl) ((HTT.out _ hb3).2.mono ?_)
        rintro y U4 ⟨tx2, tc2, rfl, hz4, hb4⟩
        refine ⟨_, rfl, ?_⟩
        have HZ4 := Veil.mk (And.intro (HZ3.out.below hb4) hz4)
        replace hb4 := hb3.trans (hb4.mono hb3.size)
        replace hT : (fun w' : World => (convert 42 9 (.slice tx tn tc)).run Try.prog w' = .ok (.string SZ) w') U4 := HCV.out _ _ _ HZ4.out.1
        replace hS : (fun _ : World => True) U4 := trivial
        clear hb3 hz4 HZ3
        refine hK.out _ _ hT (fun _ => hS) ?_
        clear hK K
        try simp only [Act.put, List.getElem_toArray, List.getElem_cons_succ, List.getElem_cons_zero, List.setIfInBounds_toArray, List.set_cons_zero, List.set_cons_succ]
        refine wpAnyT_more (T' := fun w' : World => (convert 42 9 (.slice tx tn tc)).run Try.prog w' = .ok (.string SZ) w' ∧ (convert 42 9 (.slice tx2 tn tc2)).run Try.prog w' = .ok (.string SZ) w') (fun _ h => h.1) _ _ _ _ ?_
        replace hT : (fun w' : World => (convert 42 9 (.slice tx tn tc)).run Try.prog w' = .ok (.string SZ) w' ∧ (convert 42 9 (.slice tx2 tn tc2)).run Try.prog w' = .ok (.string SZ) w') U4 := ⟨HCV.out _ _ _ HZ4.out.1, HCV.out _ _ _ HZ4.out.2⟩
        refine wpAnyT_held (i := 15) (v := ?_) rfl (by kernel_rfl) (by kernel_rfl) (by kernel_rfl) (fun _ _ _ h => h) (by kernel_rfl) hT (fun _ => hS) (by kernel_rfl) ?_ ?_
        rotate_left
        · intro wx hSw; go_split_ands; go_simp; try with_reducible rfl
        simp only [Act.put, List.getElem_toArray, List.getElem_cons_succ, List.getElem_cons_zero, List.setIfInBounds_toArray, List.set_cons_zero, List.set_cons_succ]
        refine wpAnyT_held (i := 16) (v := .bool true) rfl (by kernel_rfl) (by kernel_rfl) (by kernel_rfl) (fun _ _ _ h => h) (by kernel_rfl) hT (fun _ => hS) (by kernel_rfl) ?_ ?_
        · intro wx hSw; go_split_ands; go_simp
        simp only [Act.put, List.getElem_toArray, List.getElem_cons_succ, List.getElem_cons_zero, List.setIfInBounds_toArray, List.set_cons_zero, List.set_cons_succ]
        refine wpAnyT_held (i := 17) (v := ?_) rfl (by kernel_rfl) (by kernel_rfl) (by kernel_rfl) (fun _ _ _ h => h) (by kernel_rfl) hT (fun _ => hS) (by kernel_rfl) ?_ ?_
        rotate_left
        · intro wx hSw; go_split_ands; go_simp; try with_reducible rfl
        simp only [Act.put, List.getElem_toArray, List.getElem_cons_succ, List.getElem_cons_zero, List.setIfInBounds_toArray, List.set_cons_zero, List.set_cons_succ]
        refine wpAnyT_held (i := 18) (v := ?_) rfl (by kernel_rfl) (by kernel_rfl) (by kernel_rfl) (fun _ _ _ h => h) (by kernel_rfl) hT (fun _ => hS) (by kernel_rfl) ?_ ?_
        rotate_left
        · intro wx hSw; go_split_ands; go_simp; try with_reducible rfl
        simp only [Act.put, List.getElem_toArray, List.getElem_cons_succ, List.getElem_cons_zero, List.setIfInBounds_toArray, List.set_cons_zero, List.set_cons_succ]
        refine wpAnyT_held (i := 19) (v := ?_) rfl (by kernel_rfl) (by kernel_rfl) (by kernel_rfl) (fun _ _ _ h => h) (by kernel_rfl) hT (fun _ => hS) (by kernel_rfl) ?_ ?_
        rotate_left
        · intro wx hSw; go_split_ands; go_simp; try with_reducible rfl
        simp only [Act.put, List.getElem_toArray, List.getElem_cons_succ, List.getElem_cons_zero, List.setIfInBounds_toArray, List.set_cons_zero, List.set_cons_succ]
        refine wpAnyT_held (i := 21) (v := ?_) rfl (by kernel_rfl) (by kernel_rfl) (by kernel_rfl) (fun _ _ _ h => h) (by kernel_rfl) hT (fun _ => hS) (by kernel_rfl) ?_ ?_
        rotate_left
        · intro wx hSw; go_split_ands; go_simp; try with_reducible rfl
        simp only [Act.put, List.getElem_toArray, List.getElem_cons_succ, List.getElem_cons_zero, List.setIfInBounds_toArray, List.set_cons_zero, List.set_cons_succ]
        have hl1 := (HLL.out _ hb4).1
        have hl2 := (HLL.out _ hb4).2
        refine wpAnyT_one (i := 20) rfl (by kernel_rfl) (by kernel_rfl) (fun K hK => ?_)
        refine wpx_call _ _ (by kernel_rfl) (hl1.mono ?_)
        rintro y U5 ⟨rfl, rfl⟩
        refine ⟨_, rfl, ?_⟩
        clear hl1
        refine hK.out _ _ hT (fun _ => hS) ?_
        clear hK K
        try simp only [Act.put, List.getElem_toArray, List.getElem_cons_succ, List.getElem_cons_zero, List.setIfInBounds_toArray, List.set_cons_zero, List.set_cons_succ]
        refine wpAnyT_one (i := 22) rfl (by kernel_rfl) (by kernel_rfl) (fun K hK => ?_)
        refine wpx_call _ _ (by kernel_rfl) (hl2.mono ?_)
        rintro y U6 ⟨rfl, rfl⟩
        refine ⟨_, rfl, ?_⟩
        clear hl2
        refine hK.out _ _ hT (fun _ => hS) ?_
        clear hK K
        try simp only [Act.put, List.getElem_toArray, List.getElem_cons_succ, List.getElem_cons_zero, List.setIfInBounds_toArray, List.set_cons_zero, List.set_cons_succ]
        refine wpAnyT_held (i := 23) (v := .bool true) rfl (by kernel_rfl) (by kernel_rfl) (by kernel_rfl) (fun _ _ _ h => h) (by kernel_rfl) hT (fun _ => hS) (by kernel_rfl) ?_ ?_
        · intro wx hSw; go_split_ands; go_simp
        simp only [Act.put, List.getElem_toArray, List.getElem_cons_succ, List.getElem_cons_zero, List.setIfInBounds_toArray, List.set_cons_zero, List.set_cons_succ]
        refine wpAnyT_held (i := 24) (v := ?_) rfl (by kernel_rfl) (by kernel_rfl) (by kernel_rfl) (fun _ _ _ h => h) (by kernel_rfl) hT (fun _ => hS) (by kernel_rfl) ?_ ?_
        rotate_left
        · intro wx hSw; go_split_ands; go_simp; try with_reducible rfl
        simp only [Act.put, List.getElem_toArray, List.getElem_cons_succ, List.getElem_cons_zero, List.setIfInBounds_toArray, List.set_cons_zero, List.set_cons_succ]
        refine wpAnyT_held (i := 25) (v := ?_) rfl (by kernel_rfl) (by kernel_rfl) (by kernel_rfl) (fun _ _ _ h => h) (by kernel_rfl) hT (fun _ => hS) (by kernel_rfl) ?_ ?_
        rotate_left
        · intro wx hSw; go_split_ands; go_simp; try with_reducible rfl
        simp only [Act.put, List.getElem_toArray, List.getElem_cons_succ, List.getElem_cons_zero, List.setIfInBounds_toArray, List.set_cons_zero, List.set_cons_succ]
        refine wpAnyT_done (by kernel_rfl) ?_ _
        have HQ := Veil.mk (HB.out.trans (hb4.mono HB.out.size))
        clear hT hS hb4
        go_wp2
        go_ret
        exact ⟨rfl, HQ.out⟩
end Go.Proofs.Ythjkcfpdkhghpaa
