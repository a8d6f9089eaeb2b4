/- Fag FrameAgainW -/
import Derived.Test.YtfainlfiphdaeaaGreatDoorR09
import Derived.Test.YtfainlfiphdaeaaGreatDoorRows
import Derived.ProofKit
import Derived.OpenShut
import Derived.ChangeOld
import Derived.ChangeSame
import Derived.Deep.DeepHandedRow
import Derived.Test.YtfainlfiphdaeaaGreatDoorR13
import Derived.Test.YtfainlfiphdaeaaGreatDoorR12
import Derived.Test.YtfainlfiphdaeaaGreatDoorR35
import Derived.Test.YtfainlfiphdaeaaGreatDoorR01
import Derived.Test.YtfainlfiphdaeaaGreatDoorR02
import Derived.Laws.StructEq
import Derived.Test.YtfainlfiphdaeaaGreatDoorR50
import Derived.Test.YtfainlfiphdaeaaGreatDoorR49
import Derived.Test.YtfainlfiphdaeaaGreatDoorR40
import Derived.Test.YtfainlfiphdaeaaGreatDoorR39
import Derived.Test.YtfainlfiphdaeaaGreatDoorR30
namespace Go.Proofs.YtfainlfiphdaeaaGreatDoor
open Go.ChangeShapes Go.WideShapes Go.ChangeAt Go.RowKit
set_option maxRecDepth 20000
theorem cellsU8 : Tryz.prog.cellsOf 5 = 1 := by kernel_rfl
theorem open_row {H : Type} {enc : TypeId × Value → H} {P : Program} {W : World} {r : Reach} {base n : Nat} {t e : TypeId} {k : IntKind} {v : Value} {d : DataW H} {p : List MemPlace} (hu : P.underlying t = some (.array n e)) (he : P.underlying e = some (.int k)) (hce : P.cellsOf e = 1) (hct : P.cellsOf t = n)
    (hv : Value.okWide P W r base t v) (h : DataW.Trod enc P W 0 (fun _ => true) true t v d p) :
    ∃ l : List Int, l.length = n ∧ v = .agg (row k l) ∧ ∀ x ∈ l, (Lit.int k x).wf = true := by
  simp only [Value.okWide, hu] at hv
  obtain ⟨cs, rfl, hsz, _⟩ := hv
  rw [hct] at hsz
  obtain ⟨fuel, hf⟩ := h
  obtain ⟨xs, m, _, _, _, hlen, hel⟩ := DataW.trod_array hu hf
  simp only [Value.cells, hce, Nat.mul_one] at hel
  have key : ∀ i (hi : i < cs.size), cs[i] = .int k (intOf cs[i]) ∧ (Lit.int k (intOf cs[i])).wf = true := fun i hi => by
    have h1 := hel i (by omega)
    rw [List.getElem?_eq_getElem (by omega)] at h1
    obtain ⟨a, ea, _, wa⟩ := DataW.trod_int he h1
    have e1 : (cs.toList.drop i).take 1 = [cs[i]] := by
      rw [List.drop_eq_getElem_cons (by simpa using hi)]; simp
    rw [e1] at ea
    have e2 : cs[i] = .int k a := by simpa using ea
    rw [e2]
    exact ⟨rfl, wa⟩
  refine ⟨cs.toList.map intOf, by simp [hsz], ?_, ?_⟩
  · congr 1
    apply Array.ext (by simp [row])
    intro i h1 h2
    have := (key i h1).1
    simp only [row, List.map_map, gA, List.getElem_map, Function.comp, Array.getElem_toList]
    exact this
  · intro x hx
    obtain ⟨c, hc, rfl⟩ := List.mem_map.1 hx
    obtain ⟨i, hi, rfl⟩ := List.mem_iff_getElem.1 hc
    have := (key i (by simpa using hi)).2
    simpa using this
end Go.Proofs.YtfainlfiphdaeaaGreatDoor
namespace Go.Proofs.YtfainlfiphdaeaaGreatDoor
open Go.ChangeShapes Go.WideShapes Go.ChangeAt Go.RowKit
set_option maxRecDepth 20000
set_option linter.unusedSimpArgs false
theorem open_key7 {H : Type} {enc : TypeId × Value → H} {W : World} {r : Reach} {base : Nat} {v : Value} {d : DataW H} {p : List MemPlace} (hv : Value.okWide Tryz.prog W r base 23 v) (h : DataW.Trod enc Tryz.prog W 0 (fun _ => true) true 23 v d p) :
    ∃ l : List Int, l.length = 32 ∧ v = .agg (row .u8 l) ∧ ∀ x ∈ l, 0 ≤ x ∧ x ≤ 255 := by
  obtain ⟨l, h1, h2, h3⟩ := open_row Tryz.underlying23 Tryz.underlying5 cellsU8 (by kernel_rfl) hv h
  exact ⟨l, h1, h2, fun x hx => bounds_u8 (h3 x hx)⟩
end Go.Proofs.YtfainlfiphdaeaaGreatDoor
namespace Go.Proofs.YtfainlfiphdaeaaGreatDoor
open Go.RowKit
set_option maxRecDepth 20000
set_option linter.unusedSimpArgs false
theorem key_eql (l m : List Int) (hl : l.length = 32) (hm : m.length = 32) (wx : World) : (binOp BinOp.eql 23 (.agg (l.map (Value.int .u8)).toArray) (.agg (m.map (Value.int .u8)).toArray)).run Tryz.prog wx = .ok (.bool (l == m)) wx := by
  rw [run_eql_struct, key_eqIn 9998 l m hl hm]; rfl
end Go.Proofs.YtfainlfiphdaeaaGreatDoor
namespace Go.Proofs.YtfainlfiphdaeaaGreatDoor
open Go.RowKit
set_option maxRecDepth 20000
set_option linter.unusedSimpArgs false
theorem beqList_comm (a b : List Int) : (a == b) = (b == a) := BEq.comm
end Go.Proofs.YtfainlfiphdaeaaGreatDoor
namespace Go.Proofs.YtfainlfiphdaeaaGreatDoor
open Go.RowKit
set_option maxRecDepth 20000
set_option linter.unusedSimpArgs false
structure AgainF (V : World) (NN : Int) (own : Int) (seed : List Int) (m : Option (List Int)) (num : Int) (ws : List Wp) (E : Ev) (ea es : Int) (pv : List Int) (F : Fr) : Prop where
  at_ : ∃ yw l dw vs yb lb db body, FrOk V F yw l dw vs yb lb db body ∧ ((NN = 0 ∧ ∃ k, m = some k ∧ vs = ws ∧ F.author = own ∧ F.number = num ∧ F.ea = ea ∧ F.es = es ∧ F.prev = pv ∧ body = sbodyL k F ws E ∧ F.mac = ftagL seed F ws body) ∨ (NN ≠ 0 ∧ F = frZ1 ∧ vs = [] ∧ body = []))
theorem AgainF.below {V V' : World} {NN own : Int} {seed : List Int} {m : Option (List Int)} {num : Int} {ws : List Wp} {E : Ev} {ea es : Int} {pv : List Int} {F : Fr} (h : AgainF V NN own seed m num ws E ea es pv F) (hb : Below V.heap.size V V') : AgainF V' NN own seed m num ws E ea es pv F := by
  obtain ⟨yw, l, dw, vs, yb, lb, db, body, h1, h2⟩ := h.at_
  exact ⟨yw, l, dw, vs, yb, lb, db, body, h1.below hb, h2⟩
theorem again_is {V : World} {NN own : Int} {seed : List Int} {m : Option (List Int)} {num : Int} {ws : List Wp} {E : Ev} {ea es : Int} {pv pw : List Int} {F G : Fr} (hF : AgainF V NN own seed m num ws E ea es pv F) (hG : AgainF V NN own seed m num ws E ea es pw G) (h : NN = 0 ∨ pv = pw) :
    Calls Tryz.prog 20 #[.agg F.cells.toArray, .agg G.cells.toArray] V fun e w' => e = .returned (.bool (pv == pw)) ∧ Below V.heap.size V w' := by
  obtain ⟨yw, l, dw, vs, yb, lb, db, body, h1, h2⟩ := hF.at_
  obtain ⟨zw, l', ew, us, zb, lb', eb, body', g1, g2⟩ := hG.at_
  have := refSame_any F yw l dw vs yb lb db body G zw l' ew us zb lb' eb body' V h1.prev h1.mac h1.wraps h1.hw h1.body_ h1.hb g1.prev g1.mac g1.wraps g1.hw g1.body_ g1.hb
  have e : sameB F vs body G us body' = (pv == pw) := by
    rcases h2 with ⟨h0, k, hm, hv, fa, fn, fea, fes, fp, fb, fm⟩ | ⟨h0, rfl, rfl, rfl⟩
    · rcases g2 with ⟨-, k', hm', hv', ga, gn, gea, ges, gp, gb, gm⟩ | ⟨q, -⟩
      · have hkk : k' = k := by rw [hm] at hm'; exact (Option.some.inj hm').symm
        subst hkk
        by_cases hp : pv = pw
        · have eo : openL F ws = openL G ws := by unfold openL; rw [fa, fn, fea, fes, fp, ga, gn, gea, ges, gp, hp]
          have eb : body = body' := by rw [fb, gb]; unfold sbodyL; rw [eo, fa, fn, ga, gn]
          have em : F.mac = G.mac := by rw [fm, gm]; unfold ftagL; rw [eo, eb, fa, ga]
          unfold sameB
          rw [em, eb, fa, fn, fea, fes, fp, ga, gn, gea, ges, gp, hp, hv, hv', wsB_true rfl]
          simp
        · unfold sameB
          rw [fp, gp]
          have : (pv == pw) = false := by simpa using hp
          rw [this]; simp
      · exact absurd h0 q
    · rcases g2 with ⟨q, -⟩ | ⟨-, rfl, rfl, rfl⟩
      · exact absurd q h0
      · have hp : pv = pw := by rcases h with q | q; exact absurd q h0; exact q
        rw [sameB_refl, hp]; simp
  rw [e] at this
  exact this
theorem sealN_any (base H : Nat) (own : Int) (seed : List Int) (b : Nat) (M : Int → Int → Option (List Int)) (v : Value) (L : List (Int × Int)) (W : World) (q : Aq) (xw : Option Addr) (lw cw : Nat) (ws : List Wp) (pv : List Int) (hpv : pv.length = 32) (hq : AqIn W q xw lw cw ws) (hR : RingAt W base H own seed b M v L) (hKT : S.KTab W) (hBT : BTab W) (hown : 0 ≤ own ∧ own ≤ 255) :
    Calls Tryz.prog 17 #[.pointer (some ⟨H, 0, none⟩), .int .u32 q.num, .agg (pv.map (Value.int .u8)).toArray, .agg (dotC q.ea q.es).toArray, .slice xw lw cw, .agg q.E.cells.toArray] W fun e w' => ∃ F : Fr, e = .returned (.tuple #[.agg F.cells.toArray, .int .i64 (sealE q.num lw q.E own (M q.ea q.es))]) ∧ F.cells.length = 70 ∧ (∀ v ∈ F.cells, v.oneCell' = true) ∧ AgainF w' (sealE q.num lw q.E own (M q.ea q.es)) own seed (M q.ea q.es) q.num ws q.E q.ea q.es pv F ∧ Below W.heap.size W w' := by
  refine (Seal_any base H own seed b M v L W q.num xw lw cw ws q.ea q.es pv q.E hR hKT hBT hq.hw hpv hq.E ⟨hq.ea, hq.es⟩ hown).mono ?_
  rintro e w' ⟨hs | hs, hb'⟩
  · exact ⟨frZ1, hs.2, rfl, by decide, ⟨none, 0, 0, [], none, 0, 0, [], ⟨rfl, rfl, rfl, rfl, wraps_nilL w', bytes_nil w'⟩, .inr ⟨hs.1, rfl, rfl, rfl⟩⟩, hb'⟩
  · obtain ⟨h0, F, k, hk, he, hf, fa, fn, fea, fes, fp, fm⟩ := hs
    obtain ⟨yw, dw, yb, db, hqq⟩ := hf.at_
    have hq0 := hqq w' (fun _ _ _ => rfl)
    rw [h0]
    exact ⟨F, he, (fr_parts F hq0.prev hq0.mac).1, fr_one7 F hq0.wraps hq0.body_, ⟨yw, lw, dw, ws, yb, 144, db, _, hq0, .inl ⟨rfl, k, hk, rfl, fa, fn, fea, fes, fp, rfl, fm⟩⟩, hb'⟩
end Go.Proofs.YtfainlfiphdaeaaGreatDoor
namespace Go.Proofs.YtfainlfiphdaeaaGreatDoor
open Go.RowKit
set_option maxRecDepth 20000
set_option linter.unusedSimpArgs false
set_option maxHeartbeats 16000000 in
theorem frameAgain_walk (q0 : Aq) (xw : Option Addr) (lw0 cw : Nat) (ws0 : List Wp) (t : List Int) (w : World) (hq0 : AqIn w q0 xw lw0 cw ws0) (ht : t.length = 32) (hKT : S.KTab w) (hBT : BTab w) :
    Calls Tryz.prog 10 #[.agg q0.cells.toArray, .agg (row .u8 t)] w fun e w' => e = .returned (.bool true) ∧ Below w.heap.size w w' := by
  have hA := (CellsAt.new w 35 q0.cells).alloc (.cells (row .u8 t) 23)
  have hB := CellsAt.new (w.alloc (.cells q0.cells.toArray 35)) 23 (t.map (Value.int .u8))
  rw [World.size_alloc] at hB
  have hb0 : Below w.heap.size w ((w.alloc (.cells q0.cells.toArray 35)).alloc (.cells (row .u8 t) 23)) := ((Below.refl _ _).alloc (Nat.le_refl _) _).alloc (by simp) _
  have HFW : Veil (∀ W, Below w.heap.size w W → Calls Tryz.prog 15 #[.agg q0.cells.toArray] W fun e w' => ∃ (q : Aq) (lw : Nat) (ws : List Wp), e = .returned (.agg q.cells.toArray) ∧ AqIn w q xw lw cw ws ∧ q.cells.length = 86 ∧ (∀ v ∈ q.cells, v.oneCell' = true) ∧ Below W.heap.size W w') := ⟨fun W hb => by
    refine (few7_any q0 xw lw0 cw ws0 W (hq0.below hb)).mono ?_
    rintro e w' ⟨q, lw, ws, he, hq, -, hb'⟩
    have hq := hq w hq0
    exact ⟨q, lw, ws, he, hq, (aq_parts q hq.seed hq.prev hq.E.plen).1, aq_one q hq.wraps, hb'⟩⟩
  have h86 := (aq_parts q0 hq0.seed hq0.prev hq0.E.plen).1
  have iA0 : (Tryz.prog.info? 35).map (·.size) = some q0.cells.length := by rw [h86]; exact sizeAq
  have HKT : Veil (∀ W, Below w.heap.size w W → S.KTab W ∧ BTab W) := ⟨fun W hb => ⟨hKT.below hb, hBT.below hb⟩⟩
  have HLV : Veil (∀ W, Below w.heap.size w W → Calls Tryz.prog 19 #[] W fun e w' => e = .returned (.bool true) ∧ Below W.heap.size W w') := ⟨fun W hb => flive_any W (hKT.below hb) (hBT.below hb)⟩
  have uA := Tryz.underlying35
  have uF := Tryz.underlying43
  have uE := Tryz.underlying33
  have uK := Tryz.underlying23
  have uD := Tryz.underlying26
  have iT : (Tryz.prog.info? 23).map (·.size) = some (t.map (Value.int .u8)).length := by rw [List.length_map, ht]; exact sizeKeyD
  have hTl : (t.map (Value.int .u8)).length = 32 := by rw [List.length_map, ht]
  have h1T : ∀ v ∈ t.map (Value.int .u8), v.oneCell' = true := fun v hv => by obtain ⟨x, _, rfl⟩ := List.mem_map.1 hv; rfl
  have HT := Veil.mk ht
  obtain ⟨TV, hTV⟩ : ∃ q, t.map (Value.int .u8) = q := ⟨_, rfl⟩
  have HTV := Veil.mk hTV
  have hTr : row .u8 t = TV.toArray := by rw [← hTV]; rfl
  rw [hTV] at hB iT h1T hTl
  rw [hTr] at hA hb0 ⊢
  clear hq0 ht hKT hBT hTV hTr
  generalize q0.cells = QC at hA hB hb0 HFW h86 iA0 ⊢
  go_enter Tryz.func10, Tryz.ntmps10
  go_upto_region 1 with fail
  refine forget (p := fun y => Code.wp _ _ _ _ y) (fun W => Below w.heap.size w W ∧ CellsAt W w.heap.size 35 QC ∧ CellsAt W (w.heap.size + 1) 23 TV) ⟨hb0, hA, hB⟩ ?_
  clear hb0 hA hB
  rintro W ⟨hb, hA, hB⟩
  have rA := hA.wholeM
  have hfw := HFW.out W hb
  go_upto_region 2 with (first
    | (refine wpList_ldv rfl 35 _ rfl _ _ rfl QC rA uA rfl iA0 ?_)
    | (go_at_call 15; refine hfw.mono ?_; rintro e w1 ⟨q, lw, ws, rfl, hq, q86, q1, hb1⟩; have hA1 := hA.farM hb1; have iA : (Tryz.prog.info? 35).map (·.size) = some q.cells.length := (by rw [q86]; exact sizeAq); clear hfw)
    | (refine wpList_stv rfl 35 _ _ rfl _ rfl rfl hA1 iA (by rw [h86, q86]) q1 ?_))
  have hB1 := hb.trans (hb1.mono hb.size)
  refine forget (p := fun y => Code.wp _ _ _ _ y) (fun V => Below w.heap.size w V ∧ CellsAt V w.heap.size 35 q.cells ∧ CellsAt V (w.heap.size + 1) 23 TV) ⟨below_setRow hB1 (Nat.le_refl _) _, hA1.setRow _, (hB.farM hb1).congr (setRow_other _ _ _ _ (by omega))⟩ ?_
  clear hB1 hA1 hb1 iA q1 q86 rA hA hB hb iA0 h86 HFW
  clear w1 W
  -- what the asking says
  obtain ⟨_, q0', q1, q33, q34, q66, q68, q69⟩ := aq_parts q hq.seed hq.prev hq.E.plen
  rw [hq.wraps] at q68
  obtain ⟨m, hm, hm5⟩ : ∃ m : Nat, q.own = (m : Int) ∧ m ≤ 255 := ⟨q.own.toNat, by have := hq.own.1; omega, by have := hq.own.1; have := hq.own.2; omega⟩
  rw [hm] at q0'
  have HQ : Veil (∀ W, CellsAt W w.heap.size 35 q.cells → W.cell? ⟨w.heap.size, 0, none⟩ = some (.int .u8 (m : Int)) ∧ W.rangeAt w.heap.size 1 (q.seed.map (Value.int .u8)) ∧ W.cell? ⟨w.heap.size, 33, none⟩ = some (.int .u32 q.num) ∧ W.rangeAt w.heap.size 34 (q.prev.map (Value.int .u8)) ∧ W.rangeAt w.heap.size 66 (dotC q.ea q.es) ∧ W.cell? ⟨w.heap.size, 68, none⟩ = some (.slice xw lw cw) ∧ W.rangeAt w.heap.size 69 q.E.cells) := ⟨fun W h => by
    refine ⟨(h.cell 0).trans q0', ?_, (h.cell 33).trans q33, ?_, ?_, (h.cell 68).trans q68, ?_⟩
    · have := h.range 1 32; rw [q1] at this; exact this
    · have := h.range 34 32; rw [q34] at this; exact this
    · have := h.range 66 2; rw [q66] at this; exact this
    · have := h.range 69 17; rw [q69] at this; exact this⟩
  have HRG : Veil (∀ W, Below w.heap.size w W → Calls Tryz.prog 16 #[.int .u8 (m : Int), .agg (q.seed.map (Value.int .u8)).toArray, .agg (dotC q.ea q.es).toArray] W fun e w' => ∃ H O b v L vo, e = .returned (.tuple #[.pointer (some ⟨H, 0, none⟩), .pointer (some ⟨O, 0, none⟩)]) ∧ Rings W w' H O ((m % 8 : Nat) : Int) q.seed q.ea q.es b v L vo) := ⟨fun W hb => rings_any m hm5 q.seed hq.seed q.ea q.es ⟨hq.ea, hq.es⟩ W (HKT.out W hb).1⟩
  obtain ⟨NN, hNN⟩ : ∃ x, sealE q.num lw q.E ((m % 8 : Nat) : Int) (ringM ((m % 8 : Nat) : Int) q.seed q.ea q.es q.ea q.es) = x := ⟨_, rfl⟩
  obtain ⟨AG, hAG⟩ : ∃ A : World → List Int → Fr → Prop, A = fun w' pv F => AgainF w' NN ((m % 8 : Nat) : Int) q.seed (ringM ((m % 8 : Nat) : Int) q.seed q.ea q.es q.ea q.es) q.num ws q.E q.ea q.es pv F := ⟨_, rfl⟩
  have HSL : Veil (∀ W base H b v L pv, Below w.heap.size w W → RingAt W base H ((m % 8 : Nat) : Int) q.seed b (ringM ((m % 8 : Nat) : Int) q.seed q.ea q.es) v L → pv.length = 32 → Calls Tryz.prog 17 #[.pointer (some ⟨H, 0, none⟩), .int .u32 q.num, .agg (pv.map (Value.int .u8)).toArray, .agg (dotC q.ea q.es).toArray, .slice xw lw cw, .agg q.E.cells.toArray] W fun e w' => ∃ F : Fr, e = .returned (.tuple #[.agg F.cells.toArray, .int .i64 NN]) ∧ F.cells.length = 70 ∧ (∀ v ∈ F.cells, v.oneCell' = true) ∧ AG w' pv F ∧ Below W.heap.size W w') := ⟨fun W base H b v L pv hb hR hp => by
    have := sealN_any base H _ _ b _ v L W q xw lw cw ws pv hp (hq.below hb) hR (HKT.out W hb).1 (HKT.out W hb).2 (by omega)
    rw [hNN] at this
    rw [hAG]
    exact this⟩
  have HAF : Veil (∀ V V' pv F, AG V pv F → Below V.heap.size V V' → AG V' pv F) := ⟨fun V V' pv F h hb => by rw [hAG] at h ⊢; exact AgainF.below h hb⟩
  have HSM : Veil (∀ V pv pw F G, AG V pv F → AG V pw G → (NN = 0 ∨ pv = pw) → Calls Tryz.prog 20 #[.agg F.cells.toArray, .agg G.cells.toArray] V fun e w' => e = .returned (.bool (pv == pw)) ∧ Below V.heap.size V w') := ⟨fun V pv pw F G h1 h2 h => by rw [hAG] at h1 h2; exact again_is h1 h2 h⟩
  obtain ⟨pr, hpr⟩ : ∃ x, q.prev = x := ⟨_, rfl⟩
  have HPR : Veil (pr.length = 32) := ⟨by rw [← hpr]; exact hq.prev⟩
  have iS : (Tryz.prog.info? 23).map (·.size) = some (q.seed.map (Value.int .u8)).length := by rw [List.length_map, hq.seed]; exact sizeKeyD
  have iP : (Tryz.prog.info? 23).map (·.size) = some (q.prev.map (Value.int .u8)).length := by rw [List.length_map, hq.prev]; exact sizeKeyD
  have iD : (Tryz.prog.info? 26).map (·.size) = some (dotC q.ea q.es).length := sizeDot
  have iE := sizeEvZ q.E hq.E.plen
  obtain ⟨M, hM⟩ : ∃ M, ringM ((m % 8 : Nat) : Int) q.seed q.ea q.es = M := ⟨_, rfl⟩
  have HRG2 : Veil (∀ W w' H O b v L vo, Rings W w' H O ((m % 8 : Nat) : Int) q.seed q.ea q.es b v L vo → RingAt w' W.heap.size H ((m % 8 : Nat) : Int) q.seed b M v L ∧ Below W.heap.size W w') := ⟨fun W w' H O b v L vo h => ⟨by rw [← hM]; exact h.ring, h.below⟩⟩
  rw [hM] at HSL
  rw [hpr] at HQ iP
  obtain ⟨PV, hPV⟩ : ∃ x, pr.map (Value.int .u8) = x := ⟨_, rfl⟩
  rw [hPV] at HQ iP
  have HPV := Veil.mk hPV
  clear hPV hpr hNN hAG hM hq hm q0' q1 q33 q34 q66 q68 q69
  generalize q.num = QN at HQ HSL
  generalize hSD : q.seed = SD at HQ HSL HRG HRG2 iS
  generalize SD.map (Value.int .u8) = SV at HQ HRG iS
  generalize hea : q.ea = EA at HQ HSL HRG HRG2 iD
  generalize hes : q.es = ES at HQ HSL HRG HRG2 iD
  generalize q.E.cells = EV at HQ HSL iE
  generalize q.cells = QC2 at HQ ⊢
  clear hSD hea hes
  rintro W ⟨hb, hA, hB⟩
  obtain ⟨c0, r1, -, -, r66, -, -⟩ := HQ.out W hA
  have hrg := HRG.out W hb
  go_upto_region 3 with (first
    | (refine wpList_ldv rfl 23 _ rfl _ _ rfl SV r1 uK rfl iS ?_)
    | (refine wpList_ldv rfl 26 _ rfl _ _ rfl (dotC EA ES) r66 uD rfl iD ?_)
    | (go_at_call 16; refine hrg.mono ?_; rintro e w1 ⟨H, O, b, v, L, vo, rfl, hR1⟩; clear hrg))
  obtain ⟨hRr, hb1⟩ := HRG2.out _ _ _ _ _ _ _ _ hR1
  refine forget (p := fun y => Code.wp _ _ _ _ y) (fun V => Below w.heap.size w V ∧ CellsAt V w.heap.size 35 QC2 ∧ CellsAt V (w.heap.size + 1) 23 TV ∧ RingAt V W.heap.size H ((m % 8 : Nat) : Int) SD b M v L) ⟨hb.trans (hb1.mono hb.size), hA.farM hb1, hB.farM hb1, hRr⟩ ?_
  clear hRr hb1 hR1 HRG HRG2 c0 r1 r66 hA hB hb iS
  obtain ⟨BS, hBS⟩ : ∃ q, W.heap.size = q := ⟨_, rfl⟩
  rw [hBS]
  clear hBS
  clear w1 W
  rintro W ⟨hb, hA, hB, hR⟩
  obtain ⟨Z, hzv, hz1, hZ⟩ : ∃ Z : List Value, (∀ wx, (zeroValue 43).run Tryz.prog wx = .ok (.agg Z.toArray) wx) ∧ ¬ Z.toArray = #[] ∧ Z.length = 70 := ⟨frZ1.cells, fun wx => by kernel_rfl, by decide, rfl⟩
  obtain ⟨DV, hDV⟩ : ∃ x, dotC EA ES = x := ⟨_, rfl⟩
  rw [hDV] at HQ HSL iD
  clear hDV
  have HSP : Veil (∀ W b0 v L, Below w.heap.size w W → RingAt W BS H ((m % 8 : Nat) : Int) SD b0 M v L → (Calls Tryz.prog 17 #[.pointer (some ⟨H, 0, none⟩), .int .u32 QN, .agg PV.toArray, .agg DV.toArray, .slice xw lw cw, .agg EV.toArray] W fun e w' => ∃ F : Fr, e = .returned (.tuple #[.agg F.cells.toArray, .int .i64 NN]) ∧ F.cells.length = 70 ∧ (∀ v ∈ F.cells, v.oneCell' = true) ∧ AG w' pr F ∧ Below W.heap.size W w') ∧ (Calls Tryz.prog 17 #[.pointer (some ⟨H, 0, none⟩), .int .u32 QN, .agg TV.toArray, .agg DV.toArray, .slice xw lw cw, .agg EV.toArray] W fun e w' => ∃ F : Fr, e = .returned (.tuple #[.agg F.cells.toArray, .int .i64 NN]) ∧ F.cells.length = 70 ∧ (∀ v ∈ F.cells, v.oneCell' = true) ∧ AG w' t F ∧ Below W.heap.size W w')) := ⟨fun W b0 v L hb hR => ⟨by
      have := HSL.out W BS H b0 v L pr hb hR HPR.out
      rw [HPV.out] at this
      exact this, by
      have := HSL.out W BS H b0 v L t hb hR HT.out
      rw [HTV.out] at this
      exact this⟩⟩
  clear HSL
  obtain ⟨-, -, c33, r34, r66, c68, r69⟩ := HQ.out W hA
  have hsl := (HSP.out W b v L hb hR).1
  have rT := hB.wholeM
  go_upto_region 4 with (first
    | (refine wpList_ldv rfl 23 _ rfl _ _ rfl PV r34 uK rfl iP ?_)
    | (refine wpList_ldv rfl 26 _ rfl _ _ rfl DV r66 uD rfl iD ?_)
    | (refine wpList_ldv rfl 33 _ rfl _ _ rfl EV r69 uE rfl iE ?_)
    | (go_at_call 17; refine hsl.mono ?_; rintro e w1 ⟨F, rfl, h70F, h1F, hN, hb1⟩; have hG1 := CellsAt.new w1 43 Z; have iF : (Tryz.prog.info? 43).map (·.size) = some F.cells.length := (by rw [h70F]; exact sizeFrame); clear hsl)
    | (refine wpList_stv rfl 43 _ _ rfl _ rfl rfl hG1 iF (by rw [hZ, h70F]) h1F ?_))
  have hb2 : Below w1.heap.size w1 ((w1.alloc (.cells Z.toArray 43)).setRow w1.heap.size F.cells.toArray) := below_setRow ((Below.refl _ _).alloc (Nat.le_refl _) _) (Nat.le_refl _) _
  have hb12 := hb1.trans (hb2.mono hb1.size)
  refine forget (p := fun y => Code.wp _ _ _ _ y) (fun V => Below w.heap.size w V ∧ CellsAt V w.heap.size 35 QC2 ∧ CellsAt V (w.heap.size + 1) 23 TV ∧ RingAt V BS H ((m % 8 : Nat) : Int) SD b M v L ∧ CellsAt V w1.heap.size 43 F.cells ∧ AG V pr F) ⟨hb.trans (hb12.mono hb.size), hA.farM hb12, hB.farM hb12, hR.far hb12, hG1.setRow _, HAF.out _ _ _ _ hN hb2⟩ ?_
  clear hb12 hb2 hG1 hb hA hB hR c33 r34 r66 c68 r69 rT hb1 hN h1F
  obtain ⟨g1, hg⟩ : ∃ x, w1.heap.size = x := ⟨_, rfl⟩
  rw [hg]
  clear hg
  clear w1 W
  rintro W ⟨hb, hA, hB, hR, hGF, hAF⟩
  obtain ⟨-, -, c33, r34, r66, c68, r69⟩ := HQ.out W hA
  have hsl := (HSP.out W b v L hb hR).1
  have rT := hB.wholeM
  go_upto_region 5 with (first
    | (refine wpList_ldv rfl 23 _ rfl _ _ rfl PV r34 uK rfl iP ?_)
    | (refine wpList_ldv rfl 26 _ rfl _ _ rfl DV r66 uD rfl iD ?_)
    | (refine wpList_ldv rfl 33 _ rfl _ _ rfl EV r69 uE rfl iE ?_)
    | (go_at_call 17; refine hsl.mono ?_; rintro e w1 ⟨G, rfl, h70G, h1F, hN, hb1⟩; have hG1 := CellsAt.new w1 43 Z; have iG : (Tryz.prog.info? 43).map (·.size) = some G.cells.length := (by rw [h70G]; exact sizeFrame); clear hsl)
    | (refine wpList_stv rfl 43 _ _ rfl _ rfl rfl hG1 iG (by rw [hZ, h70G]) h1F ?_))
  have hb2 : Below w1.heap.size w1 ((w1.alloc (.cells Z.toArray 43)).setRow w1.heap.size G.cells.toArray) := below_setRow ((Below.refl _ _).alloc (Nat.le_refl _) _) (Nat.le_refl _) _
  have hb12 := hb1.trans (hb2.mono hb1.size)
  refine forget (p := fun y => Code.wp _ _ _ _ y) (fun V => Below w.heap.size w V ∧ CellsAt V w.heap.size 35 QC2 ∧ CellsAt V (w.heap.size + 1) 23 TV ∧ RingAt V BS H ((m % 8 : Nat) : Int) SD b M v L ∧ CellsAt V g1 43 F.cells ∧ AG V pr F ∧ CellsAt V w1.heap.size 43 G.cells ∧ AG V pr G) ⟨hb.trans (hb12.mono hb.size), hA.farM hb12, hB.farM hb12, hR.far hb12, hGF.farM hb12, HAF.out _ _ _ _ hAF hb12, hG1.setRow _, HAF.out _ _ _ _ hN hb2⟩ ?_
  clear hb12 hb2 hG1 hb hA hB hR c33 r34 r66 c68 r69 rT hb1 hN h1F hGF hAF
  obtain ⟨g2, hg⟩ : ∃ x, w1.heap.size = x := ⟨_, rfl⟩
  rw [hg]
  clear hg
  clear w1 W
  rintro W ⟨hb, hA, hB, hR, hGF, hAF, hGG, hAG⟩
  obtain ⟨-, -, c33, r34, r66, c68, r69⟩ := HQ.out W hA
  have hsl := (HSP.out W b v L hb hR).2
  have rT := hB.wholeM
  go_upto_region 6 with (first
    | (refine wpList_ldv rfl 23 _ rfl _ _ rfl TV rT uK rfl iT ?_)
    | (refine wpList_ldv rfl 26 _ rfl _ _ rfl DV r66 uD rfl iD ?_)
    | (refine wpList_ldv rfl 33 _ rfl _ _ rfl EV r69 uE rfl iE ?_)
    | (go_at_call 17; refine hsl.mono ?_; rintro e w1 ⟨Y, rfl, h70Y, h1F, hN, hb1⟩; have hG1 := CellsAt.new w1 43 Z; have iY : (Tryz.prog.info? 43).map (·.size) = some Y.cells.length := (by rw [h70Y]; exact sizeFrame); clear hsl)
    | (refine wpList_stv rfl 43 _ _ rfl _ rfl rfl hG1 iY (by rw [hZ, h70Y]) h1F ?_))
  have hb2 : Below w1.heap.size w1 ((w1.alloc (.cells Z.toArray 43)).setRow w1.heap.size Y.cells.toArray) := below_setRow ((Below.refl _ _).alloc (Nat.le_refl _) _) (Nat.le_refl _) _
  have hb12 := hb1.trans (hb2.mono hb1.size)
  refine forget (p := fun y => Code.wp _ _ _ _ y) (fun V => Below w.heap.size w V ∧ CellsAt V w.heap.size 35 QC2 ∧ CellsAt V (w.heap.size + 1) 23 TV ∧ RingAt V BS H ((m % 8 : Nat) : Int) SD b M v L ∧ CellsAt V g1 43 F.cells ∧ AG V pr F ∧ CellsAt V g2 43 G.cells ∧ AG V pr G ∧ CellsAt V w1.heap.size 43 Y.cells ∧ AG V t Y) ⟨hb.trans (hb12.mono hb.size), hA.farM hb12, hB.farM hb12, hR.far hb12, hGF.farM hb12, HAF.out _ _ _ _ hAF hb12, hGG.farM hb12, HAF.out _ _ _ _ hAG hb12, hG1.setRow _, HAF.out _ _ _ _ hN hb2⟩ ?_
  clear hb12 hb2 hG1 hb hA hB hR c33 r34 r66 c68 r69 rT hb1 hN h1F hGF hAF hGG hAG
  obtain ⟨g3, hg⟩ : ∃ x, w1.heap.size = x := ⟨_, rfl⟩
  rw [hg]
  clear hg
  clear w1 W
  rintro W ⟨hb, hA, hB, hR, hGF, hAF, hGG, hAG, hGY, hAY⟩
  have hNN : (NN == NN) = true := by simp
  have hsm := HSM.out W pr pr F G hAF hAG (.inr rfl)
  rw [show (pr == pr) = true by simp] at hsm
  have rF := hGF.wholeM
  have rG := hGG.wholeM
  obtain ⟨FC, hFC⟩ : ∃ x, F.cells = x := ⟨_, rfl⟩
  obtain ⟨GC, hGC⟩ : ∃ x, G.cells = x := ⟨_, rfl⟩
  obtain ⟨YC, hYC⟩ : ∃ x, Y.cells = x := ⟨_, rfl⟩
  rw [hFC, hGC] at hsm
  rw [hFC] at rF iF hGF
  rw [hGC] at rG iG
  rw [hYC] at iY hGY
  have HFAR : Veil (∀ V, Below W.heap.size W V → Below w.heap.size w V ∧ (V.rangeAt g1 0 FC ∧ V.rangeAt g3 0 YC ∧ V.rangeAt (w.heap.size + 1) 0 TV ∧ V.rangeAt w.heap.size 34 PV) ∧ (NN = 0 → Calls Tryz.prog 20 #[.agg FC.toArray, .agg YC.toArray] V fun e w' => e = .returned (.bool (pr == t)) ∧ Below V.heap.size V w')) := ⟨fun V h => ⟨hb.trans (h.mono hb.size), ⟨(hGF.farM h).wholeM, (hGY.farM h).wholeM, (hB.farM h).wholeM, (HQ.out V (hA.farM h)).2.2.2.1⟩, fun h0 => by
    have := HSM.out V pr t F Y (HAF.out _ _ _ _ hAF h) (HAF.out _ _ _ _ hAY h) (.inl h0)
    rw [hFC, hYC] at this
    exact this⟩⟩
  have HKQ : Veil (∀ wx, (binOp BinOp.eql 23 (.agg TV.toArray) (.agg PV.toArray)).run Tryz.prog wx = .ok (.bool (pr == t)) wx) := ⟨fun wx => by rw [← HTV.out, ← HPV.out, key_eql t pr HT.out HPR.out wx, beqList_comm]⟩
  clear hb hA hB hR hGF hAF hGG hAG hGY hAY hFC hGC hYC h70F h70G h70Y
  go_upto_region 8 with (first
    | (refine wpList_ldgv (by kernel_rfl) 43 (.tmp 7) rfl g1 0 rfl FC rF uF rfl iF ?_; clear rF)
    | (refine wpList_ldgv (by kernel_rfl) 43 (.tmp 9) rfl g2 0 rfl GC rG uF rfl iG ?_; clear rG)
    | (go_at_call 20; refine hsm.mono ?_; rintro e w2 ⟨rfl, hb2⟩; clear hsm))
  refine wp_region_gateT (fun w' => w'.rangeAt g1 0 FC ∧ w'.rangeAt g3 0 YC ∧ w'.rangeAt (w.heap.size + 1) 0 TV ∧ w'.rangeAt w.heap.size 34 PV) (fun _ => True) 99 (by kernel_rfl) ?_
  refine forget (p := fun y => wpAnyT _ _ _ _ _ _ _ _ _ _ y) (fun V => Below W.heap.size W V) hb2.drew ?_
  clear hb2 hNN
  clear w2
  rintro V hbV
  have hT : (fun w' : World => w'.rangeAt g1 0 FC ∧ w'.rangeAt g3 0 YC ∧ w'.rangeAt (w.heap.size + 1) 0 TV ∧ w'.rangeAt w.heap.size 34 PV) V := (HFAR.out V hbV).2.1
  have hS : (fun _ : World => True) V := trivial
  have hlv := HLV.out V (HFAR.out V hbV).1
  by_cases hn : NN = 0
  rotate_left
  · have hn0 : (NN == 0) = false := by simpa using hn
    refine wpAnyT_one (i := 0) rfl (by kernel_rfl) (by kernel_rfl) (fun K hK => ?_)
    refine wpx_call _ _ (by kernel_rfl) (hlv.mono ?_)
    rintro e V1 ⟨rfl, hb3⟩
    refine ⟨_, rfl, ?_⟩
    obtain ⟨hbw1, hT1, -⟩ := HFAR.out V1 (hbV.trans (hb3.mono hbV.size))
    replace hT : (fun w' : World => w'.rangeAt g1 0 FC ∧ w'.rangeAt g3 0 YC ∧ w'.rangeAt (w.heap.size + 1) 0 TV ∧ w'.rangeAt w.heap.size 34 PV) V1 := hT1
    clear hT1 hb3
    refine hK.out _ _ hT (fun _ => hS) ?_
    clear hK K
    try simp only [Act.put, gA, gS, gZ, sI, sZ, sS]
    refine wpAnyT_held (i := 1) (v := ?_) rfl (by kernel_rfl) (by kernel_rfl) (by kernel_rfl) (fun _ _ _ h => h) (by kernel_rfl) hT (fun _ => hS) (by kernel_rfl) ?_ ?_
    rotate_left
    · intro wx hSw; go_split_ands; go_simp; try with_reducible rfl
    simp only [Act.put, gA, gS, gZ, sI, sZ, sS]
    refine wpAnyT_held (i := 2) (v := ?_) rfl (by kernel_rfl) (by kernel_rfl) (by kernel_rfl) (fun _ _ _ h => h) (by kernel_rfl) hT (fun _ => hS) (by kernel_rfl) ?_ ?_
    rotate_left
    · intro wx hSw; go_split_ands; go_simp; try with_reducible rfl
    simp only [Act.put, gA, gS, gZ, sI, sZ, sS]
    refine wpAnyT_held (i := 3) (v := .bool true) rfl (by kernel_rfl) (by kernel_rfl) (by kernel_rfl) (fun _ _ _ h => h) (by kernel_rfl) hT (fun _ => hS) (by kernel_rfl) ?_ ?_
    · intro wx hSw; go_split_ands; go_simp
    simp only [Act.put, gA, gS, gZ, sI, sZ, sS]
    refine wpAnyT_held (i := 4) (v := ?_) rfl (by kernel_rfl) (by kernel_rfl) (by kernel_rfl) (fun _ _ _ h => h) (by kernel_rfl) hT (fun _ => hS) (by kernel_rfl) ?_ ?_
    rotate_left
    · intro wx hSw; go_split_ands; go_simp; try with_reducible rfl
    simp only [Act.put, gA, gS, gZ, sI, sZ, sS]
    refine wpAnyT_skip (i := 5) rfl (by kernel_rfl) (by kernel_rfl) (by kernel_rfl) (fun _ _ _ h => h) (by kernel_rfl) hT (fun _ => hS) (by kernel_rfl) ?_
    simp only [Act.put, gA, gS, gZ, sI, sZ, sS]
    refine wpAnyT_skip (i := 6) rfl (by kernel_rfl) (by kernel_rfl) (by kernel_rfl) (fun _ _ _ h => h) (by kernel_rfl) hT (fun _ => hS) (by kernel_rfl) ?_
    simp only [Act.put, gA, gS, gZ, sI, sZ, sS]
    refine wpAnyT_skip (i := 7) rfl (by kernel_rfl) (by kernel_rfl) (by kernel_rfl) (fun _ _ _ h => h) (by kernel_rfl) hT (fun _ => hS) (by kernel_rfl) ?_
    simp only [Act.put, gA, gS, gZ, sI, sZ, sS]
    refine wpAnyT_skip (i := 8) rfl (by kernel_rfl) (by kernel_rfl) (by kernel_rfl) (fun _ _ _ h => h) (by kernel_rfl) hT (fun _ => hS) (by kernel_rfl) ?_
    simp only [Act.put, gA, gS, gZ, sI, sZ, sS]
    refine wpAnyT_skip (i := 9) rfl (by kernel_rfl) (by kernel_rfl) (by kernel_rfl) (fun _ _ _ h => h) (by kernel_rfl) hT (fun _ => hS) (by kernel_rfl) ?_
    simp only [Act.put, gA, gS, gZ, sI, sZ, sS]
    refine wpAnyT_skip (i := 10) rfl (by kernel_rfl) (by kernel_rfl) (by kernel_rfl) (fun _ _ _ h => h) (by kernel_rfl) hT (fun _ => hS) (by kernel_rfl) ?_
    simp only [Act.put, gA, gS, gZ, sI, sZ, sS]
    refine wpAnyT_skip (i := 11) rfl (by kernel_rfl) (by kernel_rfl) (by kernel_rfl) (fun _ _ _ h => h) (by kernel_rfl) hT (fun _ => hS) (by kernel_rfl) ?_
    simp only [Act.put, gA, gS, gZ, sI, sZ, sS]
    refine wpAnyT_skip (i := 12) rfl (by kernel_rfl) (by kernel_rfl) (by kernel_rfl) (fun _ _ _ h => h) (by kernel_rfl) hT (fun _ => hS) (by kernel_rfl) ?_
    simp only [Act.put, gA, gS, gZ, sI, sZ, sS]
    refine wpAnyT_held (i := 13) (v := ?_) rfl (by kernel_rfl) (by kernel_rfl) (by kernel_rfl) (fun _ _ _ h => h) (by kernel_rfl) hT (fun _ => hS) (by kernel_rfl) ?_ ?_
    rotate_left
    · intro wx hSw; go_split_ands; go_simp; try with_reducible rfl
    simp only [Act.put, gA, gS, gZ, sI, sZ, sS]
    refine wpAnyT_held (i := 14) (v := ?_) rfl (by kernel_rfl) (by kernel_rfl) (by kernel_rfl) (fun _ _ _ h => h) (by kernel_rfl) hT (fun _ => hS) (by kernel_rfl) ?_ ?_
    rotate_left
    · intro wx hSw; go_split_ands; go_simp; try with_reducible rfl
    simp only [Act.put, gA, gS, gZ, sI, sZ, sS]
    refine wpAnyT_held (i := 15) (v := ?_) rfl (by kernel_rfl) (by kernel_rfl) (by kernel_rfl) (fun _ _ _ h => h) (by kernel_rfl) hT (fun _ => hS) (by kernel_rfl) ?_ ?_
    rotate_left
    · intro wx hSw; go_split_ands; go_simp; try with_reducible rfl
    simp only [Act.put, gA, gS, gZ, sI, sZ, sS]
    refine wpAnyT_done (by kernel_rfl) ?_ _
    clear hT hS
    go_wp2
    go_ret
    exact ⟨rfl, hbw1⟩
  subst hn
  refine wpAnyT_one (i := 0) rfl (by kernel_rfl) (by kernel_rfl) (fun K hK => ?_)
  refine wpx_call _ _ (by kernel_rfl) (hlv.mono ?_)
  rintro e V1 ⟨rfl, hb3⟩
  refine ⟨_, rfl, ?_⟩
  have hb13 := hbV.trans (hb3.mono hbV.size)
  obtain ⟨hbw1, hT1, hsm⟩ := HFAR.out V1 hb13
  replace hsm := hsm rfl
  replace hT : (fun w' : World => w'.rangeAt g1 0 FC ∧ w'.rangeAt g3 0 YC ∧ w'.rangeAt (w.heap.size + 1) 0 TV ∧ w'.rangeAt w.heap.size 34 PV) V1 := hT1
  clear hT1 hb3
  have heqK := HKQ.out
  generalize (pr == t) = BB at hsm heqK HFAR HKQ
  refine hK.out _ _ hT (fun _ => hS) ?_
  clear hK K
  try simp only [Act.put, gA, gS, gZ, sI, sZ, sS]
  refine wpAnyT_held (i := 1) (v := ?_) rfl (by kernel_rfl) (by kernel_rfl) (by kernel_rfl) (fun _ _ _ h => h) (by kernel_rfl) hT (fun _ => hS) (by kernel_rfl) ?_ ?_
  rotate_left
  · intro wx hSw; go_split_ands; go_simp; try with_reducible rfl
  simp only [Act.put, gA, gS, gZ, sI, sZ, sS]
  refine wpAnyT_held (i := 2) (v := ?_) rfl (by kernel_rfl) (by kernel_rfl) (by kernel_rfl) (fun _ _ _ h => h) (by kernel_rfl) hT (fun _ => hS) (by kernel_rfl) ?_ ?_
  rotate_left
  · intro wx hSw; go_split_ands; go_simp; try with_reducible rfl
  simp only [Act.put, gA, gS, gZ, sI, sZ, sS]
  refine wpAnyT_held (i := 3) (v := .bool false) rfl (by kernel_rfl) (by kernel_rfl) (by kernel_rfl) (fun _ _ _ h => h) (by kernel_rfl) hT (fun _ => hS) (by kernel_rfl) ?_ ?_
  · intro wx hSw; go_split_ands; go_simp
  simp only [Act.put, gA, gS, gZ, sI, sZ, sS]
  refine wpAnyT_held (i := 4) (v := ?_) rfl (by kernel_rfl) (by kernel_rfl) (by kernel_rfl) (fun _ _ _ h => h) (by kernel_rfl) hT (fun _ => hS) (by kernel_rfl) ?_ ?_
  rotate_left
  · intro wx hSw; go_split_ands; go_simp; try with_reducible rfl
  simp only [Act.put, gA, gS, gZ, sI, sZ, sS]
  refine wpAnyT_load (i := 5) (dst := some 88) (ty := 43) (x := .tmp 7) (b := g1) (o := (0)) (cs := FC) (by kernel_rfl) (by kernel_rfl) (by kernel_rfl) (by kernel_rfl) (by kernel_rfl) (fun _ _ _ h => h) (by kernel_rfl) hT (fun _ => hS) (by kernel_rfl) (fun _ h => h.1) uF rfl iF ?_
  simp only [Act.put, gA, gS, gZ, sI, sZ, sS]
  refine wpAnyT_load (i := 6) (dst := some 89) (ty := 43) (x := .tmp 11) (b := g3) (o := (0)) (cs := YC) (by kernel_rfl) (by kernel_rfl) (by kernel_rfl) (by kernel_rfl) (by kernel_rfl) (fun _ _ _ h => h) (by kernel_rfl) hT (fun _ => hS) (by kernel_rfl) (fun _ h => h.2.1) uF rfl iY ?_
  simp only [Act.put, gA, gS, gZ, sI, sZ, sS]
  refine wpAnyT_load (i := 8) (dst := some 91) (ty := 23) (x := .tmp 3) (b := (w.heap.size + 1)) (o := (0)) (cs := TV) (by kernel_rfl) (by kernel_rfl) (by kernel_rfl) (by kernel_rfl) (by kernel_rfl) (fun _ _ _ h => h) (by kernel_rfl) hT (fun _ => hS) (by kernel_rfl) (fun _ h => h.2.2.1) uK rfl iT ?_
  simp only [Act.put, gA, gS, gZ, sI, sZ, sS]
  refine wpAnyT_held (i := 9) (v := ?_) rfl (by kernel_rfl) (by kernel_rfl) (by kernel_rfl) (fun _ _ _ h => h) (by kernel_rfl) hT (fun _ => hS) (by kernel_rfl) ?_ ?_
  rotate_left
  · intro wx hSw; go_split_ands; go_simp; try with_reducible rfl
  simp only [Act.put, gA, gS, gZ, sI, sZ, sS]
  refine wpAnyT_load (i := 10) (dst := some 93) (ty := 23) (x := .tmp 92) (b := w.heap.size) (o := (34)) (cs := PV) (by kernel_rfl) (by kernel_rfl) (by kernel_rfl) (by kernel_rfl) (by kernel_rfl) (fun _ _ _ h => h) (by kernel_rfl) hT (fun _ => hS) (by kernel_rfl) (fun _ h => h.2.2.2) uK rfl iP ?_
  simp only [Act.put, gA, gS, gZ, sI, sZ, sS]
  refine wpAnyT_held (i := 11) (v := .bool BB) rfl (by kernel_rfl) (by kernel_rfl) (by kernel_rfl) (fun _ _ _ h => h) (by kernel_rfl) hT (fun _ => hS) (by kernel_rfl) ?_ ?_
  · intro wx hSw; go_split_ands; go_simp
  simp only [Act.put, gA, gS, gZ, sI, sZ, sS]
  refine wpAnyT_one (i := 7) rfl (by kernel_rfl) (by kernel_rfl) (fun K hK => ?_)
  refine wpx_call _ _ (by kernel_rfl) (hsm.mono ?_)
  rintro e V2 ⟨rfl, hb4⟩
  refine ⟨_, rfl, ?_⟩
  obtain ⟨hbw2, hT2, -⟩ := HFAR.out V2 (hb13.trans (hb4.mono hb13.size))
  replace hT : (fun w' : World => w'.rangeAt g1 0 FC ∧ w'.rangeAt g3 0 YC ∧ w'.rangeAt (w.heap.size + 1) 0 TV ∧ w'.rangeAt w.heap.size 34 PV) V2 := hT2
  clear hT2 hb4
  refine hK.out _ _ hT (fun _ => hS) ?_
  clear hK K
  try simp only [Act.put, gA, gS, gZ, sI, sZ, sS]
  refine wpAnyT_held (i := 12) (v := .bool true) rfl (by kernel_rfl) (by kernel_rfl) (by kernel_rfl) (fun _ _ _ h => h) (by kernel_rfl) hT (fun _ => hS) (by kernel_rfl) ?_ ?_
  · intro wx hSw; go_split_ands; go_simp
  simp only [Act.put, gA, gS, gZ, sI, sZ, sS]
  refine wpAnyT_held (i := 13) (v := ?_) rfl (by kernel_rfl) (by kernel_rfl) (by kernel_rfl) (fun _ _ _ h => h) (by kernel_rfl) hT (fun _ => hS) (by kernel_rfl) ?_ ?_
  rotate_left
  · intro wx hSw; go_split_ands; go_simp; try with_reducible rfl
  simp only [Act.put, gA, gS, gZ, sI, sZ, sS]
  refine wpAnyT_held (i := 14) (v := ?_) rfl (by kernel_rfl) (by kernel_rfl) (by kernel_rfl) (fun _ _ _ h => h) (by kernel_rfl) hT (fun _ => hS) (by kernel_rfl) ?_ ?_
  rotate_left
  · intro wx hSw; go_split_ands; go_simp; try with_reducible rfl
  simp only [Act.put, gA, gS, gZ, sI, sZ, sS]
  refine wpAnyT_held (i := 15) (v := ?_) rfl (by kernel_rfl) (by kernel_rfl) (by kernel_rfl) (fun _ _ _ h => h) (by kernel_rfl) hT (fun _ => hS) (by kernel_rfl) ?_ ?_
  rotate_left
  · intro wx hSw; go_split_ands; go_simp; try with_reducible rfl
  simp only [Act.put, gA, gS, gZ, sI, sZ, sS]
  refine wpAnyT_done (by kernel_rfl) ?_ _
  clear hT hS heqK
  go_wp2
  go_ret
  exact ⟨rfl, hbw2⟩
end Go.Proofs.YtfainlfiphdaeaaGreatDoor
