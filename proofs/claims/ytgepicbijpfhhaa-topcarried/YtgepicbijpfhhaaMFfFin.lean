/- Frames as bytes, and back. The bytes of a frame are bytes. -/
import Derived.Test.YtgepicbijpfhhaaRfr
import Derived.Test.YtgepicbijpfhhaaGoW
import Derived.Test.YtgepicbijpfhhaaWr6
import Derived.Test.YtgepicbijpfhhaaWf
namespace Go.Proofs.Ytgepicbijpfhhaa
open Go.RowKit
set_option maxRecDepth 20000
set_option linter.unusedSimpArgs false

/-- Bytes that are a frame's, all of them. -/
def frameAll' (z : List Int) : Prop := frameOk z ∧ z.length = fO z + 32
theorem val4_backF (n : Int) (h : in32 n) : val4 (n / 16777216 % 256) (n / 65536 % 256) (n / 256 % 256) (n % 256) = n := by
  have h1 := h.1
  have h2 := h.2
  unfold val4; omega
theorem be4_valF (a b c d : Int) (ha : b8 a) (hb : b8 b) (hc : b8 c) (hd : b8 d) : be4 (val4 a b c d) = [a, b, c, d] := by
  have h1 := ha.1; have h2 := ha.2; have h3 := hb.1; have h4 := hb.2; have h5 := hc.1; have h6 := hc.2; have h7 := hd.1; have h8 := hd.2
  unfold be4 val4
  congr 1
  · omega
  congr 1
  · omega
  congr 1
  · omega
  congr 1
  omega
theorem seg1F (z : List Int) (o : Nat) (h : o < z.length) : [at1 z o] = (z.drop o).take 1 := by
  rw [List.drop_eq_getElem_cons h, List.take_succ_cons, List.take_zero]
  unfold at1
  rw [List.getElem?_eq_getElem h]; rfl
theorem segq (z : List Int) (o a n : Nat) : (z.drop o).take a ++ (z.drop (o + a)).take n = (z.drop o).take (a + n) := by rw [← List.drop_drop, List.take_add]
theorem seg4F (z : List Int) (hz : ∀ v ∈ z, b8 v) (o : Nat) (h : o + 4 ≤ z.length) : be4 (at4 z o) = (z.drop o).take 4 := by
  have g : ∀ j, b8 (at1 z j) := fun j => b8_get hz j
  unfold at4
  rw [be4_valF _ _ _ _ (g _) (g _) (g _) (g _)]
  have s1 := seg1F z o (by omega)
  have s2 := seg1F z (o + 1) (by omega)
  have s3 := seg1F z (o + 2) (by omega)
  have s4 := seg1F z (o + 3) (by omega)
  rw [show ([at1 z o, at1 z (o + 1), at1 z (o + 2), at1 z (o + 3)] : List Int) = [at1 z o] ++ [at1 z (o + 1)] ++ [at1 z (o + 2)] ++ [at1 z (o + 3)] from rfl, s1, s2, s3, s4]
  rw [segq z o 1 1, segq z o 2 1, segq z o 3 1]
theorem at1_app (A B : List Int) (o j : Nat) (h : A.length = o) : at1 (A ++ B) (o + j) = at1 B j := by
  subst h
  unfold at1
  rw [List.getElem?_append_right (by omega), Nat.add_sub_cancel_left]
theorem drop_app (A B : List Int) (o j : Nat) (h : A.length = o) : (A ++ B).drop (o + j) = B.drop j := by
  subst h
  exact List.drop_length_add_append _
theorem at4_app (A B : List Int) (o j : Nat) (h : A.length = o) : at4 (A ++ B) (o + j) = at4 B j := by
  unfold at4
  rw [at1_app A B o j h, Nat.add_assoc, at1_app A B o (j + 1) h, Nat.add_assoc, at1_app A B o (j + 2) h, Nat.add_assoc, at1_app A B o (j + 3) h]
theorem wpOf_app (A B : List Int) (o : Nat) (h : A.length = o) : wpOf (A ++ B) o = wpOf B 0 := by
  unfold wpOf
  have e0 := at1_app A B o 0 h
  rw [Nat.add_zero] at e0
  rw [e0, at1_app A B o 1 h, at4_app A B o 2 h, drop_app A B o 6 h]
theorem wpOf_wrap (e : Wp) (R : List Int) (h : e.In) (hd : e.data.length = 48) : wpOf (wrapL e ++ R) 0 = e := by
  obtain ⟨t, a, s, d⟩ := e
  have h4 : at4 (wrapL ⟨t, a, s, d⟩ ++ R) (0 + 2) = s := val4_backF s h.es
  have h6 : ((wrapL ⟨t, a, s, d⟩ ++ R).drop (0 + 6)).take 48 = d := by
    show (d ++ R).take 48 = d
    exact List.take_left' hd
  show (⟨t, a, at4 (wrapL ⟨t, a, s, d⟩ ++ R) (0 + 2), ((wrapL ⟨t, a, s, d⟩ ++ R).drop (0 + 6)).take 48⟩ : Wp) = ⟨t, a, s, d⟩
  rw [h4, h6]
theorem wrapsL_app (a b : List Wp) : wrapsL (a ++ b) = wrapsL a ++ wrapsL b := by simp [wrapsL]
theorem wrapsL_cons (e : Wp) (b : List Wp) : wrapsL (e :: b) = wrapL e ++ wrapsL b := by simp [wrapsL]
theorem wpsN_wraps (A R : List Int) (o : Nat) (hA : A.length = o) (ws : List Wp) (hi : ∀ e ∈ ws, e.In) (hd : ∀ e ∈ ws, e.data.length = 48) : wpsN (A ++ (wrapsL ws ++ R)) o ws.length = ws := by
  apply List.ext_getElem
  · rw [wpsN_len]
  · intro j h1 h2
    have e1 : (wpsN (A ++ (wrapsL ws ++ R)) o ws.length)[j] = wpOf (A ++ (wrapsL ws ++ R)) (o + 54 * j) := by simp [wpsN]
    have hs : ws = ws.take j ++ ws[j] :: ws.drop (j + 1) := by rw [List.getElem_cons_drop, List.take_append_drop]
    have e2 : A ++ (wrapsL ws ++ R) = (A ++ wrapsL (ws.take j)) ++ (wrapL ws[j] ++ (wrapsL (ws.drop (j + 1)) ++ R)) := by
      have : wrapsL ws = wrapsL (ws.take j) ++ (wrapL ws[j] ++ wrapsL (ws.drop (j + 1))) := by
        conv => lhs; rw [hs]
        rw [wrapsL_app, wrapsL_cons]
      rw [this]; simp only [List.append_assoc]
    have hl : (A ++ wrapsL (ws.take j)).length = o + 54 * j := by
      rw [List.length_append, hA, wrapsL_le _ (fun e he => hd e (List.mem_of_mem_take he)), List.length_take, Nat.min_eq_left (by omega)]
    rw [e1, e2, wpOf_app _ _ _ hl, wpOf_wrap _ _ (hi _ (List.getElem_mem h2)) (hd _ (List.getElem_mem h2))]
/-- A frame's bytes, cut. -/
theorem frameL_cut (F : Fr) (ws : List Wp) (body : List Int) : frameL F ws body = ([69, 83, F.author] ++ be4 F.number ++ dotL F.ea F.es) ++ (F.prev ++ ((ws.length : Int) :: (wrapsL ws ++ (be2 body.length ++ (body ++ F.mac))))) := by
  unfold frameL openL
  simp only [List.append_assoc, List.cons_append, List.nil_append]
theorem frame_back (F : Fr) (ws : List Wp) (body : List Int) (hp : F.prev.length = 32) (hm : F.mac.length = 32) (hF : F.In) (hi : ∀ e ∈ ws, e.In) (hd : ∀ e ∈ ws, e.data.length = 48) (hw : ws.length ≤ 64) (hb : body.length ≤ 4112) :
    frameAll' (frameL F ws body) ∧ fN (frameL F ws body) = ws.length ∧ wsOf (frameL F ws body) = ws ∧ boOf (frameL F ws body) = body ∧ ∀ wv bv, frOf (frameL F ws body) wv bv = { F with wraps := wv, body := bv } := by
  obtain ⟨Z, hZ⟩ : ∃ q, frameL F ws body = q := ⟨_, rfl⟩
  have hc := frameL_cut F ws body
  rw [hZ] at hc
  have hlen : Z.length = 45 + 54 * ws.length + 2 + body.length + 32 := by
    rw [hc]
    simp only [List.length_append, List.length_cons, List.length_nil, be4_length, dotL_length, wrapsL_le ws hd, hp, hm]
    have : (be2 (body.length : Int)).length = 2 := rfl
    omega
  rw [hZ]
  have P12 : ([69, 83, F.author] ++ be4 F.number ++ dotL F.ea F.es).length = 12 := rfl
  have d12 : Z.drop 12 = F.prev ++ ((ws.length : Int) :: (wrapsL ws ++ (be2 body.length ++ (body ++ F.mac)))) := by rw [hc]; rfl
  have a44 : at1 Z 44 = (ws.length : Int) := by
    rw [hc, show (44 : Nat) = 12 + 32 from rfl, at1_app _ _ 12 32 P12, show (32 : Nat) = 32 + 0 from rfl, at1_app _ _ 32 0 hp]; rfl
  have hN : fN Z = ws.length := by unfold fN; rw [a44]; rfl
  have hQ : fQ Z = 45 + 54 * ws.length := by unfold fQ; rw [hN]
  have c45 : ∃ A : List Int, A.length = 45 ∧ Z = A ++ (wrapsL ws ++ (be2 body.length ++ (body ++ F.mac))) := by
    refine ⟨([69, 83, F.author] ++ be4 F.number ++ dotL F.ea F.es) ++ (F.prev ++ [(ws.length : Int)]), ?_, ?_⟩
    · rw [List.length_append, P12, List.length_append, hp]; rfl
    · rw [hc]; simp only [List.append_assoc, List.cons_append, List.nil_append]
  obtain ⟨A, hA, hZA⟩ := c45
  have hZB : Z = (A ++ wrapsL ws) ++ (be2 body.length ++ (body ++ F.mac)) := by rw [hZA, List.append_assoc]
  have hAB : (A ++ wrapsL ws).length = 45 + 54 * ws.length := by rw [List.length_append, hA, wrapsL_le ws hd]
  have hM : fM Z = body.length := by
    unfold fM told2
    rw [hQ]
    have e0 := at1_app (A ++ wrapsL ws) (be2 body.length ++ (body ++ F.mac)) (45 + 54 * ws.length) 0 hAB
    have e1 := at1_app (A ++ wrapsL ws) (be2 body.length ++ (body ++ F.mac)) (45 + 54 * ws.length) 1 hAB
    rw [← hZB] at e0 e1
    rw [Nat.add_zero] at e0
    rw [e0, e1]
    show (val2 ((body.length : Int) / 256 % 256) ((body.length : Int) % 256)).toNat = body.length
    unfold val2; omega
  have hO : fO Z = 45 + 54 * ws.length + 2 + body.length := by unfold fO; rw [hQ, hM]
  have dQ : Z.drop (45 + 54 * ws.length + 2) = body ++ F.mac := by
    rw [hZB, drop_app _ _ _ 2 hAB]; rfl
  have hBo : boOf Z = body := by
    unfold boOf
    rw [hQ, hM, dQ, List.take_left' rfl]
  have hMa : (Z.drop (fO Z)).take 32 = F.mac := by
    rw [hO, ← List.drop_drop, dQ, List.drop_left' rfl, List.take_of_length_le (by omega)]
  have hPr : (Z.drop 12).take 32 = F.prev := by rw [d12, List.take_left' hp]
  refine ⟨⟨⟨?_, ?_, ⟨by omega, by rw [a44]; omega, by rw [a44, Int.toNat_natCast]; omega⟩, ⟨by rw [hQ]; omega, by have := hM; unfold fM at this; rw [this]; omega, by have := hM; unfold fM at this; rw [this, hQ]; omega⟩, by rw [hO]; omega⟩, by rw [hO, hlen]⟩, hN, ?_, hBo, fun wv bv => ?_⟩
  · rw [hc]; rfl
  · rw [hc]; rfl
  · unfold wsOf
    rw [hN, hZA]
    exact wpsN_wraps A _ 45 hA ws hi hd
  · have q2 : at1 Z 2 = F.author := by rw [hc]; rfl
    have q3 : at4 Z 3 = F.number := by rw [hc]; exact val4_backF F.number hF.number
    have q7 : at1 Z 7 = F.ea := by rw [hc]; rfl
    have q8 : at4 Z 8 = F.es := by rw [hc]; exact val4_backF F.es hF.es
    unfold frOf
    rw [q2, q3, q7, q8, hPr, hMa]
theorem wrapL_of (z : List Int) (hz : ∀ v ∈ z, b8 v) (o : Nat) (h : o + 54 ≤ z.length) : wrapL (wpOf z o) = (z.drop o).take 54 := by
  unfold wrapL wpOf dotL
  show [at1 z o] ++ (at1 z (o + 1) :: be4 (at4 z (o + 2))) ++ (z.drop (o + 6)).take 48 = _
  rw [show (at1 z (o + 1) :: be4 (at4 z (o + 2))) = [at1 z (o + 1)] ++ be4 (at4 z (o + 2)) from rfl, seg1F z o (by omega), seg1F z (o + 1) (by omega), seg4F z hz (o + 2) (by omega)]
  rw [← List.append_assoc, segq z o 1 1, segq z o 2 4, segq z o 6 48]
theorem wrapsL_of (z : List Int) (hz : ∀ v ∈ z, b8 v) (o : Nat) : ∀ n, o + 54 * n ≤ z.length → wrapsL (wpsN z o n) = (z.drop o).take (54 * n)
  | 0, _ => by simp [wpsN, wrapsL]
  | n + 1, h => by
    rw [wpsN_succ, wrapsL_app, wrapsL_of z hz o n (by omega), wrapsL_cons, wrapL_of z hz (o + 54 * n) (by omega)]
    rw [show wrapsL [] = [] from rfl, List.append_nil, segq z o (54 * n) 54]
    congr 1
theorem frame_forth (z : List Int) (hz : ∀ v ∈ z, b8 v) (h : frameAll' z) (wv bv : Value) : frameL (frOf z wv bv) (wsOf z) (boOf z) = z ∧ (wsOf z).length = fN z ∧ fN z ≤ 64 ∧ (boOf z).length ≤ 4112 ∧ (boOf z).length = fM z := by
  obtain ⟨⟨h0, h1, ⟨c1, c2, c3⟩, ⟨b1, b2, b3⟩, o1⟩, hl⟩ := h
  have hn8 := (b8_get hz 44).1
  have hN64 : fN z ≤ 64 := by unfold fN; omega
  have hNi : ((fN z : Nat) : Int) = at1 z 44 := by
    unfold fN
    have : 0 ≤ at1 z 44 := hn8
    omega
  have hwl : (wsOf z).length = fN z := wpsN_len z 45 (fN z)
  have hM1 : fM z = told2 z (fQ z) := rfl
  have hbl : (boOf z).length = fM z := by
    unfold boOf
    rw [List.length_take, List.length_drop, hM1]; omega
  refine ⟨?_, hwl, hN64, by rw [hbl, hM1]; omega, hbl⟩
  rw [frameL_cut, hwl, hbl]
  have g0 := (b8_get hz (fQ z))
  have g1 := (b8_get hz (fQ z + 1))
  have hbe : be2 ((fM z : Nat) : Int) = (z.drop (fQ z)).take 2 := by
    have e : ((fM z : Nat) : Int) = at1 z (fQ z) * 256 + at1 z (fQ z + 1) := by
      rw [hM1]; unfold told2 val2
      have : 0 ≤ at1 z (fQ z) := g0.1
      have : 0 ≤ at1 z (fQ z + 1) := g1.1
      omega
    have e2 : be2 ((fM z : Nat) : Int) = [at1 z (fQ z)] ++ [at1 z (fQ z + 1)] := by
      rw [e]; unfold be2
      have k1 : 0 ≤ at1 z (fQ z) := g0.1
      have k2 : at1 z (fQ z) ≤ 255 := g0.2
      have k3 : 0 ≤ at1 z (fQ z + 1) := g1.1
      have k4 : at1 z (fQ z + 1) ≤ 255 := g1.2
      show [_, _] = [_, _]
      congr 1
      · omega
      congr 1
      omega
    rw [e2, seg1F z (fQ z) (by omega), seg1F z (fQ z + 1) (by omega), segq z (fQ z) 1 1]
  have hQ1 : fQ z = 45 + 54 * fN z := rfl
  have hO1 : fO z = fQ z + 2 + fM z := rfl
  have ew : wrapsL (wsOf z) = (z.drop 45).take (54 * fN z) := wrapsL_of z hz 45 (fN z) (by rw [show fN z = (at1 z 44).toNat from rfl]; omega)
  show ([69, 83, at1 z 2] ++ be4 (at4 z 3) ++ (at1 z 7 :: be4 (at4 z 8))) ++ ((z.drop 12).take 32 ++ (((fN z : Nat) : Int) :: (wrapsL (wsOf z) ++ (be2 ((fM z : Nat) : Int) ++ (boOf z ++ (z.drop (fO z)).take 32))))) = z
  rw [hNi, ew, hbe, show ([69, 83, at1 z 2] : List Int) = [at1 z 0] ++ [at1 z 1] ++ [at1 z 2] by rw [h0, h1]; rfl, show (at1 z 7 :: be4 (at4 z 8)) = [at1 z 7] ++ be4 (at4 z 8) from rfl]
  rw [show ∀ X : List Int, (at1 z 44 :: X) = [at1 z 44] ++ X from fun _ => rfl]
  rw [seg1F z 0 (by omega), seg1F z 1 (by omega), seg1F z 2 (by omega), seg4F z hz 3 (by omega), seg1F z 7 (by omega), seg4F z hz 8 (by omega), seg1F z 44 (by omega)]
  have s : ∀ a n m : Nat, a + n = m → z.take a ++ (z.drop a).take n = z.take m := fun a n m h => by rw [← h, List.take_add]
  unfold boOf
  simp only [← List.append_assoc]
  rw [List.drop_zero, s 1 1 2 rfl, s 2 1 3 rfl, s 3 4 7 rfl, s 7 1 8 rfl, s 8 4 12 rfl, s 12 32 44 rfl, s 44 1 45 rfl, s 45 (54 * fN z) (fQ z) hQ1.symm, s (fQ z) 2 (fQ z + 2) rfl, s (fQ z + 2) (fM z) (fO z) hO1.symm, s (fO z) 32 (fO z + 32) rfl, List.take_of_length_le (by omega)]
end Go.Proofs.Ytgepicbijpfhhaa

namespace Go.Proofs.Ytgepicbijpfhhaa
open Go.RowKit
set_option maxRecDepth 20000

theorem be4_inF (n : Int) : ∀ v ∈ be4 n, b8 v := fun v hv => by
  unfold be4 at hv
  simp only [List.mem_cons, List.not_mem_nil, or_false] at hv
  rcases hv with rfl | rfl | rfl | rfl <;> constructor <;> omega
theorem wrapsL_in (ws : List Wp) (hi : ∀ e ∈ ws, e.In) : ∀ v ∈ wrapsL ws, b8 v := by
  intro v hv
  unfold wrapsL at hv
  obtain ⟨c, hc, hvc⟩ := List.mem_flatten.1 hv
  obtain ⟨e, he, rfl⟩ := List.mem_map.1 hc
  have h := hi e he
  unfold wrapL dotL at hvc
  simp only [List.mem_append, List.mem_cons, List.not_mem_nil, or_false] at hvc
  rcases hvc with (rfl | (rfl | h1)) | h1
  · exact h.too
  · exact h.ea
  · exact be4_inF _ v h1
  · exact h.data v h1
theorem frameL_in (F : Fr) (ws : List Wp) (body : List Int) (hF : F.In) (hi : ∀ e ∈ ws, e.In) (hb : ∀ v ∈ body, b8 v) (hw : ws.length ≤ 64) : ∀ v ∈ frameL F ws body, b8 v := by
  intro v hv
  rw [frameL_cut] at hv
  unfold dotL at hv
  simp only [List.mem_append, List.mem_cons, List.not_mem_nil, or_false] at hv
  rcases hv with (((rfl | rfl | rfl) | h1) | (rfl | h1)) | (h1 | rfl | h1 | h1 | h1 | h1)
  · exact ⟨by decide, by decide⟩
  · exact ⟨by decide, by decide⟩
  · exact hF.author
  · exact be4_inF _ v h1
  · exact hF.ea
  · exact be4_inF _ v h1
  · exact hF.prev v h1
  · exact ⟨by omega, by omega⟩
  · exact wrapsL_in ws hi v h1
  · unfold be2 at h1
    simp only [List.mem_cons, List.not_mem_nil, or_false] at h1
    rcases h1 with rfl | rfl <;> constructor <;> omega
  · exact hb v h1
  · exact hF.mac v h1
theorem few_in {F : Fr} (h : F.In) (xw : Option Addr) (lw cw : Nat) (xb : Option Addr) (lb cb : Nat) : (F.few xw lw cw xb lb cb).In := ⟨h.author, h.number, h.ea, h.es, h.prev, h.mac⟩
theorem fr_with_in {F : Fr} (h : F.In) (wv bv : Value) : ({ F with wraps := wv, body := bv } : Fr).In := ⟨h.author, h.number, h.ea, h.es, h.prev, h.mac⟩
end Go.Proofs.Ytgepicbijpfhhaa
