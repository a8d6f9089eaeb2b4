/- DocForceW -/
import Derived.Test.YtmbdohnmbkpfaaaGreatU50
namespace Go.Proofs.YtmbdohnmbkpfaaaGreat
open Go.RowKit Go.Shelf
set_option maxRecDepth 20000
set_option linter.unusedSimpArgs false
structure FcI (W0 wr : World) (L : List Ev) (R : Nat) (K : List Ent) (v : Value) : Prop where
  below : Below W0.heap.size W0 wr
  book : ∃ x c bx bc, RefB W0.heap.size wr R K x c bx bc ∧ (∀ k, OwnR R (.slice x K.length c) (.slice bx K.length bc) k → W0.heap.size ≤ k) ∧ ∀ g, v.ownBlock = some g → ¬ OwnR R (.slice x K.length c) (.slice bx K.length bc) g
  evs : OwnI wr W0.heap.size 44 17 v (L.map Ev.cells)
theorem RefB.blkLt {B : Nat} {w : World} {R : Nat} {L : List Ent} {x bx : Option Addr} {c bc : Nat} (h : RefB B w R L x c bx bc) {k : Nat} (hk : OwnR R (.slice x L.length c) (.slice bx L.length bc) k) : k < w.heap.size := by
  rcases hk with rfl | q | q
  · exact h.cells.lt
  · exact (h.ev.blockLt k q).1
  · exact (h.bo.blockLt k q).1
theorem FcI.far {W0 wr w' : World} {L : List Ev} {R : Nat} {K : List Ent} {v : Value} (h : FcI W0 wr L R K v) (hb : Below wr.heap.size wr w') : FcI W0 w' L R K v := by
  obtain ⟨x, c, bx, bc, h1, h2, h3⟩ := h.book
  exact ⟨h.below.trans (hb.mono h.below.size), ⟨x, c, bx, bc, h1.far hb, h2, h3⟩, h.evs.far hb⟩
structure FcE (W0 wr : World) (L : List Ev) (R : Nat) (K : List Ent) (v : Value) (b : Nat) (E : List Value) : Prop where
  below : Below W0.heap.size W0 wr
  book : ∃ x c bx bc, RefB W0.heap.size wr R K x c bx bc ∧ (∀ k, OwnR R (.slice x K.length c) (.slice bx K.length bc) k → W0.heap.size ≤ k) ∧ (∀ g, v.ownBlock = some g → ¬ OwnR R (.slice x K.length c) (.slice bx K.length bc) g) ∧ ¬ OwnR R (.slice x K.length c) (.slice bx K.length bc) b
  evs : OwnI wr W0.heap.size 44 17 v (L.map Ev.cells)
  cells : CellsAt wr b 44 E
theorem FcI.keep {W0 wr w' : World} {L : List Ev} {R : Nat} {K : List Ent} {v : Value} (h : FcI W0 wr L R K v) (hb : Below wr.heap.size wr w') {b : Nat} {E : List Value} (hc : CellsAt w' b 44 E) (hl : wr.heap.size ≤ b) : FcE W0 w' L R K v b E := by
  obtain ⟨x, c, bx, bc, h1, h2, h3⟩ := h.book
  exact ⟨h.below.trans (hb.mono h.below.size), ⟨x, c, bx, bc, h1.far hb, h2, h3, fun q => by have := h1.blkLt q; omega⟩, h.evs.far hb, hc⟩
theorem FcE.far {W0 wr w' : World} {L : List Ev} {R : Nat} {K : List Ent} {v : Value} {b : Nat} {E : List Value} (h : FcE W0 wr L R K v b E) (hb : Below wr.heap.size wr w') : FcE W0 w' L R K v b E := by
  obtain ⟨x, c, bx, bc, h1, h2, h3, h4⟩ := h.book
  exact ⟨h.below.trans (hb.mono h.below.size), ⟨x, c, bx, bc, h1.far hb, h2, h3, h4⟩, h.evs.far hb, h.cells.farM hb⟩
theorem FcE.fcI {W0 wr : World} {L : List Ev} {R : Nat} {K : List Ent} {v : Value} {b : Nat} {E : List Value} (h : FcE W0 wr L R K v b E) : FcI W0 wr L R K v := by
  obtain ⟨x, c, bx, bc, h1, h2, h3, h4⟩ := h.book
  exact ⟨h.below, ⟨x, c, bx, bc, h1, h2, h3⟩, h.evs⟩
theorem FcE.role {W0 wr : World} {L : List Ev} {R : Nat} {K : List Ent} {v : Value} {b : Nat} {E : List Value} (h : FcE W0 wr L R K v b E) (hK : GoodB K) (hl : K.length ≤ 1000) (who : Int) (u : List Int) (hu : u.length = 8) :
    Calls Tryz.prog 23 #[.pointer (some ⟨R, 0, none⟩), .int .u8 who, .agg (u.map (Value.int .u32)).toArray] wr fun r w' => r = .returned (.int .u8 (roleP K who u)) ∧ Below wr.heap.size wr w' := by
  obtain ⟨x, c, bx, bc, h1, h2, h3, h4⟩ := h.book
  exact rrole_any R K x bx c bc who u wr h1 hu hl hK
theorem FcE.add {W0 wr : World} {L : List Ev} {R : Nat} {K : List Ent} {v : Value} {b : Nat} {E : List Value} (h : FcE W0 wr L R K v b E) {e : Ev} (he : e.Ok) (hK : GoodB K) (hl : K.length ≤ 1000) :
    Calls Tryz.prog 24 #[.pointer (some ⟨R, 0, none⟩), .agg e.cells.toArray] wr fun r w' => (∃ q, r = .returned q) ∧ FcE W0 w' L R (addB K e) v b E := by
  obtain ⟨x, c, bx, bc, h1, h2, h3, h4⟩ := h.book
  refine (raddO_any R K x bx c bc e wr h1 he hl hK h.below.size).mono ?_
  rintro r w' ⟨q1, ⟨x', c', bx', bc', q2, q3⟩, q4⟩
  refine ⟨⟨_, q1⟩, ⟨h.below.trans (q4.below h.below.size h2), ⟨x', c', bx', bc', q2, fun k hk => ?_, fun g hg hk => ?_, fun hk => ?_⟩, h.evs.congr fun g hg => q4.block g (h.evs.blockLt g hg).1 (h3 g hg), h.cells.congr (q4.block b h.cells.lt h4)⟩⟩
  · rcases q3 k hk with r | r
    · exact h2 k r
    · exact Nat.le_trans h.below.size r
  · rcases q3 g hk with r | r
    · exact h3 g hg r
    · have := (h.evs.blockLt g hg).1; omega
  · rcases q3 b hk with r | r
    · exact h4 r
    · have := h.cells.lt; omega
set_option maxHeartbeats 32000000 in
theorem dforce_walk (x : Option Addr) (len cap : Nat) (L : List Ed) (w : World) (hL : EdsAt w x len cap L) :
    Calls Tryz.prog 5 #[.slice x len cap] w fun e w' => e = .returned (.bool true) ∧ Below w.heap.size w w' := by
  have hpl := play10_any x len cap L w hL
  obtain ⟨K0, G0, hre⟩ := reach_play (L.take 50) (fun X hX => hL.ok X (List.mem_of_mem_take hX))
  have hfo := hre.force.2
  have hgd := hre.good.1
  have hrt := hre.right
  obtain ⟨st, hst⟩ : ∃ q, playX (L.take 50) = q := ⟨_, rfl⟩
  rw [hst] at hfo hgd hrt
  have hlok := hgd.lok
  have hll := hgd.llen
  have HPL : Veil (∀ v0 W, PlayX w L v0 W → ∃ D Q, v0 = .tuple #[.pointer (some ⟨D, 0, none⟩), .pointer (some ⟨Q, 0, none⟩), .bool true] ∧ BothD w.heap.size W st st D Q [] ∧ Below w.heap.size w W) := ⟨fun v0 W ⟨D, Q, h1, h2, h3⟩ => by rw [hst] at h2; exact ⟨D, Q, h1, h2, h3⟩⟩
  have HLV : Veil (∀ W, Calls Tryz.prog 12 #[] W fun e w' => e = .returned (.bool true) ∧ Below W.heap.size W w') := ⟨fun W => live10_any W⟩
  have HNB : Veil (∀ W, Calls Tryz.prog 22 #[] W fun r w' => r = .returned (.pointer (some ⟨W.heap.size, 0, none⟩)) ∧ RefB W.heap.size w' W.heap.size [] none 0 none 0 ∧ Below W.heap.size W w') := ⟨fun W => rbnew_any W.heap.size W⟩
  have HED : Veil (∀ W D Q, BothD w.heap.size W st st D Q [] → Calls Tryz.prog 14 #[.pointer (some ⟨D, 0, none⟩)] W fun r w' => ∃ x c, r = .returned (.slice x st.L.length c) ∧ OwnI w' W.heap.size 44 17 (.slice x st.L.length c) (st.L.map Ev.cells) ∧ Below W.heap.size W w') := ⟨fun W D Q h => by
    obtain ⟨p, q, rfl, rfl, h⟩ := h
    refine (dEvents_any _ st p W h.d h.g1).mono ?_
    rintro e w' ⟨v, q1, q2, q3⟩
    obtain ⟨x, c, rfl⟩ := q2.isSlice
    rw [List.length_map] at q1 q2
    exact ⟨x, c, q1, q2, q3⟩⟩
  have HFO : Veil (∀ i (hi : i < st.L.length) W D Q, BothD w.heap.size W st st D Q [] → Calls Tryz.prog 19 #[.pointer (some ⟨D, 0, none⟩), .agg (dotC st.L[i].da st.L[i].ds).toArray] W fun r w' => r = .returned (.bool (decide (st.L[i].dot ∈ st.F))) ∧ Below W.heap.size W w') := ⟨fun i hi W D Q h => by
    obtain ⟨p, q, rfl, rfl, h⟩ := h
    exact dForce_any _ st p st.L[i].dot (hlok _ (List.getElem_mem hi)).dot W h.d h.g1⟩
  have HFC : Veil (ForceOk st) := ⟨hfo⟩
  have HRT : Veil (∀ i (hi : i < st.L.length), rightB st.L[i] = true) := ⟨fun i hi => hrt _ (List.getElem_mem hi)⟩
  have HOK : Veil (∀ i (hi : i < st.L.length), st.L[i].Ok) := ⟨fun i hi => hlok _ (List.getElem_mem hi)⟩
  have HKG : Veil (∀ i, i ≤ st.L.length → GoodB (kL (st.L.take i)) ∧ (kL (st.L.take i)).length ≤ 1000) := ⟨fun i hi => by
    have := kL_good (st.L.take i) (fun e he => hlok e (List.mem_of_mem_take he))
    rw [List.length_take] at this
    exact ⟨this.1, by omega⟩⟩
  have HKS : Veil (∀ i (hi : i < st.L.length), kL (st.L.take (i + 1)) = actR (kL (st.L.take i)) st.L[i]) := ⟨fun i hi => by rw [List.take_succ_eq_append_getElem hi, kL_snoc]⟩
  have HK3 : Veil (∀ i (hi : i < st.L.length), roleAt st.L i st.L[i] ≤ 3) := ⟨fun i hi => GoodB.three (HKG.out i (by omega)).1 _ _⟩
  obtain ⟨n, hn⟩ : ∃ q, st.L.length = q := ⟨_, rfl⟩
  have HN := Veil.mk hn
  have hln : n ≤ 512 := by omega
  rw [hn] at HED
  have uE := Tryz.underlying44
  have uD := Tryz.underlying40
  have uV := Tryz.underlying37
  have iZ : (Tryz.prog.info? 44).map (·.size) = some 17 := by kernel_rfl
  clear hL hfo hgd hlok hll hst hre hn hrt
  go_enter Tryz.func5, Tryz.ntmps5
  go_upto_region 6 with (first
    | (go_at_call 11; refine hpl.mono ?_; rintro z W1 ⟨v0, rfl, hpr⟩; obtain ⟨D, Q, rfl, hD1, hb1⟩ := HPL.out v0 W1 hpr; have hlv := HLV.out W1; clear hpl hpr)
    | (go_at_call 12; refine hlv.mono ?_; rintro z W2 ⟨rfl, hb2⟩; have hnb := HNB.out W2; clear hlv)
    | (go_at_call 22; refine hnb.mono ?_; rintro z W3 ⟨rfl, hK3, hb3⟩; have hed := HED.out W3 D Q ((hD1.far hb2).far hb3); clear hnb)
    | (go_at_call 14; refine hed.mono ?_; rintro z W4 ⟨vx, vc, rfl, ho4, hb4⟩; clear hed))
  have hI0 : FcI W2 W4 st.L W2.heap.size (kL (st.L.take 0)) (.slice vx n vc) := by
    refine ⟨hb3.trans (hb4.mono hb3.size), ⟨none, 0, none, 0, hK3.far hb4, fun k q => ?_, fun g hg q => ?_⟩, ho4.less hb3.size⟩
    · rcases q with q | q | q
      · omega
      · cases q
      · cases q
    · have := (ho4.blockLt g hg).2.1
      rcases q with q | q | q
      · have := hK3.cells.lt; omega
      · cases q
      · cases q
  have HD2 : Veil (∀ W', Below W2.heap.size W2 W' → BothD w.heap.size W' st st D Q [] ∧ Below w.heap.size w W') := ⟨fun W' hb => ⟨(hD1.far hb2).far hb, (hb1.trans (hb2.mono hb1.size)).trans (hb.mono (Nat.le_trans hb1.size hb2.size))⟩⟩
  generalize W2.heap.size = R at hI0 ⊢
  clear hD1 hb1 hb2 hb3 hb4 hK3 ho4 HPL HLV HNB HED
  go_wp2_with fail
  go_loopw [8] (fun p wr => ∃ i : Nat, p = .int .i64 (i : Nat) ∧ i ≤ n ∧ FcI W2 wr st.L R (kL (st.L.take i)) (.slice vx n vc)) (fun p _ => n - (intOf p).toNat)
  case atStart => exact ⟨0, rfl, Nat.zero_le _, hI0⟩
  case round =>
    obtain ⟨i, rfl, hi, hI⟩ := hrel
    clear hI0
    by_cases hlt : i < n
    · have hil : i < st.L.length := by rw [HN.out]; exact hlt
      have hli : (i : Int) < (n : Int) := by omega
      have hli0 : (0 : Int) ≤ (i : Int) := by omega
      obtain ⟨g, rfl, -, hr⟩ := hI.evs.at_ i (by rw [List.length_map]; exact hil)
      rw [List.getElem_map] at hr
      have hok := HOK.out i hil
      obtain ⟨hKg, hKl⟩ := HKG.out i (by omega)
      have hks := HKS.out i hil
      have hrole : roleAt st.L i st.L[i] = roleP (kL (st.L.take i)) st.L[i].da st.L[i].past := rfl
      obtain ⟨hfc1, hfc2⟩ := HFC.out i hil
      have hr3 := HK3.out i hil
      have HFD : Veil (∀ W', Below W2.heap.size W2 W' → Calls Tryz.prog 19 #[.pointer (some ⟨D, 0, none⟩), .agg (dotC st.L[i].da st.L[i].ds).toArray] W' fun r w' => r = .returned (.bool (decide (st.L[i].dot ∈ st.F))) ∧ Below W'.heap.size W' w') := ⟨fun W' hb => HFO.out i hil W' D Q (HD2.out W' hb).1⟩
      rw [hrole] at hfc1 hfc2 hr3
      have HNA : Veil (¬ (st.L[i].kind = 3 ∨ st.L[i].kind = 4) → ∀ W' b E v, FcE W2 W' st.L R (kL (st.L.take i)) v b E → FcI W2 W' st.L R (kL (st.L.take (i + 1))) v) := ⟨fun h W' b E v hf => by
        have : kL (st.L.take (i + 1)) = kL (st.L.take i) := by
          rw [hks]; unfold actR
          have := rightB_kind (HRT.out i hil)
          rw [if_pos (by omega)]
        rw [this]; exact hf.fcI⟩
      have he1 := aev_len st.L[i] hok.past
      have h1E := aev_one st.L[i]
      have iE : (Tryz.prog.info? 44).map (·.size) = some st.L[i].cells.length := by rw [he1]; kernel_rfl
      have iD : (Tryz.prog.info? 40).map (·.size) = some (dotC st.L[i].da st.L[i].ds).length := sizeDot
      have iP : (Tryz.prog.info? 37).map (·.size) = some (st.L[i].past.map (Value.int .u32)).length := by rw [List.length_map, hok.past]; kernel_rfl
      have HTE : Veil (∀ W b, CellsAt W b 44 st.L[i].cells → W.rangeAt b 0 st.L[i].cells ∧ W.cell? ⟨b, 0, none⟩ = some (.int .u8 st.L[i].da) ∧ W.rangeAt b 2 (st.L[i].past.map (Value.int .u32)) ∧ W.cell? ⟨b, 10, none⟩ = some (.int .u8 st.L[i].kind) ∧ W.rangeAt b 0 (dotC st.L[i].da st.L[i].ds)) := ⟨fun W b hx => by
        have h1 := hx.range 0 2
        rw [(ev_parts st.L[i] hok.past).1] at h1
        have h2 := hx.range 2 8
        rw [(ev_parts st.L[i] hok.past).2.1] at h2
        exact ⟨hx.wholeM, (hx.cell 0).trans rfl, h2, (hx.cell 10).trans (ev_parts st.L[i] hok.past).2.2.1, h1⟩⟩
      have HRO : Veil (∀ W' b E v, FcE W2 W' st.L R (kL (st.L.take i)) v b E → Calls Tryz.prog 23 #[.pointer (some ⟨R, 0, none⟩), .int .u8 st.L[i].da, .agg (st.L[i].past.map (Value.int .u32)).toArray] W' fun r w' => r = .returned (.int .u8 (roleP (kL (st.L.take i)) st.L[i].da st.L[i].past)) ∧ Below W'.heap.size W' w') := ⟨fun W' b E v h => h.role hKg hKl st.L[i].da st.L[i].past hok.past⟩
      have HAD : Veil ((st.L[i].kind = 3 ∨ st.L[i].kind = 4) → ∀ W' b E v, FcE W2 W' st.L R (kL (st.L.take i)) v b E → Calls Tryz.prog 24 #[.pointer (some ⟨R, 0, none⟩), .agg st.L[i].cells.toArray] W' fun r w' => (∃ q, r = .returned q) ∧ FcE W2 w' st.L R (kL (st.L.take (i + 1))) v b E) := ⟨fun h W' b E v hf => by
        have : kL (st.L.take (i + 1)) = addB (kL (st.L.take i)) st.L[i] := by rw [hks]; exact if_neg (by omega)
        rw [this]; exact hf.add hok hKg hKl⟩
      have hf1 : decide (st.L[i].dot ∈ st.F) = true → 2 ≤ roleP (kL (st.L.take i)) st.L[i].da st.L[i].past ∧ ((st.L[i].kind = 3 ∨ st.L[i].kind = 4) → roleP (kL (st.L.take i)) st.L[i].da st.L[i].past = 3) := fun h => hfc1 (by simpa using h)
      have hf2 : (st.L[i].kind = 3 ∨ st.L[i].kind = 4) → roleP (kL (st.L.take i)) st.L[i].da st.L[i].past = 3 → decide (st.L[i].dot ∈ st.F) = true := fun h1 h2 => by simpa using hfc2 h1 h2
      generalize decide (st.L[i].dot ∈ st.F) = FB at HFD hf1 hf2
      clear hfc1 hfc2 hrole hks
      generalize roleP (kL (st.L.take i)) st.L[i].da st.L[i].past = RO at HRO hf1 hf2 hr3
      obtain ⟨K1, hK1⟩ : ∃ q, kL (st.L.take (i + 1)) = q := ⟨_, rfl⟩
      rw [hK1] at HNA HAD
      have HK1 := Veil.mk hK1
      clear hK1
      generalize kL (st.L.take i) = Ki at hI HNA HAD HRO hKg hKl
      generalize dotC st.L[i].da st.L[i].ds = DV at HTE HFD iD
      generalize st.L[i].past.map (Value.int .u32) = PV at HTE HRO iP
      generalize st.L[i].da = da at HTE HRO
      generalize st.L[i].kind = KD at HTE HNA HAD hf1 hf2
      generalize st.L[i].cells = E at HTE HAD hr he1 h1E iE
      have hww : IntKind.i64.wrap ((i : Int) + 1) = (i : Int) + 1 := by rw [IntKind.wrap_i64]; omega
      have hz1 := CellsAt.new wr 44 zC
      have hbA : Below wr.heap.size wr ((wr.alloc (.cells zC.toArray 44)).setRow wr.heap.size E.toArray) := below_setRow ((Below.refl _ _).alloc (Nat.le_refl _) _) (Nat.le_refl _) _
      have hE1 := hI.keep hbA (hz1.setRow E) (Nat.le_refl _)
      have hZ17 : zC.length = E.length := by rw [he1]; rfl
      have HZ17 := Veil.mk hZ17
      unfold zC at hz1 hE1
      clear hbA hok hKg hKl hil hI hZ17
      go_upto_region 10 with (first
        | (refine wpList_ldv rfl 44 _ rfl g (i * 17) rfl E hr uE rfl iE ?_)
        | (refine wpList_stv (cs := E) rfl 44 _ _ rfl wr.heap.size rfl rfl hz1 iE (by rw [he1]; rfl) h1E ?_))
      refine forget (p := fun y => Code.wp _ _ _ _ y) (fun W => FcE W2 W st.L R Ki (.slice (some ⟨g, 0, none⟩) n vc) wr.heap.size E) hE1 ?_
      generalize wr.heap.size = b
      clear hz1 hE1 hr wr he1 HZ17
      rintro W5 h5
      have H5 := Veil.mk h5
      obtain ⟨-, c0, r2, -, -⟩ := HTE.out W5 b h5.cells
      have hro := HRO.out W5 b E _ h5
      clear h5 HRO
      go_upto_region 11 with (first
        | (refine wpList_ldv rfl 37 _ rfl b 2 rfl PV r2 uV rfl iP ?_)
        | (go_at_call 23; refine hro.mono ?_; rintro z W6 ⟨rfl, hb6⟩; clear hro))
      have H6 := Veil.mk (H5.out.far hb6)
      obtain ⟨r0, -, -, c10, -⟩ := HTE.out W6 b H6.out.cells
      clear c0 r2 hb6 H5 W5
      have hkk : KD = 3 ∨ KD = 4 ∨ (KD ≠ 3 ∧ KD ≠ 4) := by clear HTE HNA HAD hf1 hf2 c10; omega
      rcases hkk with rfl | rfl | ⟨k3, k4⟩
      rotate_left 2
      · have k3b : (KD == 3) = false := by simpa using k3
        have k4b : (KD == 4) = false := by simpa using k4
        have HI1 : Veil (∀ W', Below W6.heap.size W6 W' → FcI W2 W' st.L R K1 (.slice (some ⟨g, 0, none⟩) n vc)) := ⟨fun W' hb => HNA.out (by omega) W' b E _ (H6.out.far hb)⟩
        have hfd := HFD.out W6 H6.out.below
        obtain ⟨-, -, -, -, rd⟩ := HTE.out W6 b H6.out.cells
        clear HNA HAD hf2 k3 k4
        cases FB
        · clear hf1
          go_wp2_with (first
            | (refine wpList_ldv rfl 40 _ rfl b 0 rfl DV rd uD rfl iD ?_)
            | (go_at_call 19; refine hfd.mono ?_; rintro z W8 ⟨rfl, hb8⟩; clear hfd))
          have HQ := Veil.mk (HI1.out W8 hb8)
          clear hb8
          go_roundw
          case rel => exact ⟨i + 1, by push_cast; rfl, hlt, by rw [HK1.out]; exact HQ.out⟩
          case measure => simp [intOf]; omega
        · have h2 := (hf1 rfl).1
          have hd2 : decide (RO < 2) = false := by simp; omega
          have hl2 : ¬ RO < 2 := by omega
          clear hf1
          go_wp2_with (first
            | (refine wpList_ldv rfl 40 _ rfl b 0 rfl DV rd uD rfl iD ?_)
            | (go_at_call 19; refine hfd.mono ?_; rintro z W8 ⟨rfl, hb8⟩; clear hfd))
          have HQ := Veil.mk (HI1.out W8 hb8)
          clear hb8
          go_roundw
          case rel => exact ⟨i + 1, by push_cast; rfl, hlt, by rw [HK1.out]; exact HQ.out⟩
          case measure => simp [intOf]; omega
      all_goals
        have had := HAD.out (by omega) W6 b E _ H6.out
        have hf1' : FB = true → RO = 3 := fun h => (hf1 h).2 (by omega)
        have hf2' : RO = 3 → FB = true := fun h => hf2 (by omega) h
        clear HNA HAD hf1 hf2
        go_upto_region 14 with (first
          | (refine wpList_ldv rfl 44 _ rfl b 0 rfl E r0 uE rfl iE ?_)
          | (go_at_call 24; refine had.mono ?_; rintro z W7 ⟨⟨q7, rfl⟩, h7⟩; clear had))
        have H7 := Veil.mk h7
        have hfd := HFD.out W7 h7.below
        obtain ⟨-, -, -, -, rd⟩ := HTE.out W7 b h7.cells
        clear h7 r0 c10 H6
        by_cases h3 : RO = 3
        · obtain rfl := hf2' h3
          subst h3
          clear hf1' hf2'
          have HN8 : Veil (∀ W', Below W7.heap.size W7 W' → W'.rangeAt b 0 DV ∧ Calls Tryz.prog 19 #[.pointer (some ⟨D, 0, none⟩), .agg DV.toArray] W' fun r w' => r = .returned (.bool true) ∧ Below W'.heap.size W' w') := ⟨fun W' hb => ⟨(HTE.out W' b (H7.out.far hb).cells).2.2.2.2, HFD.out W' (H7.out.far hb).below⟩⟩
          go_wp2_with (first
            | (refine wpList_ldgv (by kernel_rfl) 40 _ rfl b 0 rfl DV rd8 uD rfl iD ?_)
            | (go_at_call 19; refine hfe.mono ?_; rintro z W9 ⟨rfl, hb9⟩; clear hfe)
            | (refine wpList_ldv rfl 40 _ rfl b 0 rfl DV rd uD rfl iD ?_)
            | (go_at_call 19; refine hfd.mono ?_; rintro z W8 ⟨rfl, hb8⟩; obtain ⟨rd8, hfe⟩ := HN8.out W8 hb8; clear hfd))
          have HQ := Veil.mk ((H7.out.far hb8).far hb9).fcI
          clear hb8 hb9
          go_roundw
          case rel => exact ⟨i + 1, by push_cast; rfl, hlt, by rw [HK1.out]; exact HQ.out⟩
          case measure => simp [intOf]; omega
        · have h3b : (RO == 3) = false := by simpa using h3
          have hfb : FB = false := by
            cases FB
            · rfl
            · exact absurd (hf1' rfl) h3
          subst hfb
          clear hf1' hf2'
          go_wp2_with (first
            | (refine wpList_ldv rfl 40 _ rfl b 0 rfl DV rd uD rfl iD ?_)
            | (go_at_call 19; refine hfd.mono ?_; rintro z W8 ⟨rfl, hb8⟩; clear hfd))
          have HQ := Veil.mk (H7.out.far hb8).fcI
          clear hb8
          go_roundw
          case rel => exact ⟨i + 1, by push_cast; rfl, hlt, by rw [HK1.out]; exact HQ.out⟩
          case measure => simp [intOf]; omega
    · obtain rfl : i = n := by omega
      have hli : ¬ (i : Int) < (i : Int) := by omega
      have HQ := Veil.mk (HD2.out wr hI.below).2
      clear hI HFO HFC HOK HKG HKS HK3 HRT HD2
      go_wp2
      go_ret
      exact ⟨rfl, HQ.out⟩
end Go.Proofs.YtmbdohnmbkpfaaaGreat
