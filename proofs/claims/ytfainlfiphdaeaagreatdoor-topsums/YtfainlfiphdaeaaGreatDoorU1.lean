/- Wo1 Wo3 Wo4 Mg Fk Hs Ftp TopSumsW -/
import Derived.Test.YtfainlfiphdaeaaGreatDoorT32
import Derived.Test.YtfainlfiphdaeaaGreatDoorT01
import Derived.Test.YtfainlfiphdaeaaGreatDoorT02
import Derived.Laws.StructEq
import Derived.Test.YtfainlfiphdaeaaGreatDoorT03
import Derived.Test.YtfainlfiphdaeaaGreatDoorT07
import Derived.Test.YtfainlfiphdaeaaGreatDoorT33
import Derived.Maps.OwnSet
import Derived.DeepKeys3
import Derived.Test.YtfainlfiphdaeaaGreatDoorT44
import Derived.Test.YtfainlfiphdaeaaGreatDoorT12
import Derived.Test.YtfainlfiphdaeaaGreatDoorT09
import Derived.Test.YtfainlfiphdaeaaGreatDoorT47
import Derived.Test.YtfainlfiphdaeaaGreatDoorT13
import Derived.Test.YtfainlfiphdaeaaGreatDoorT29
namespace Go.Proofs.YtfainlfiphdaeaaGreatDoor
open Go.RowKit
set_option maxRecDepth 20000
set_option linter.unusedSimpArgs false
theorem cells8 : Tryz.prog.cellsOf 5 = 1 := by kernel_rfl
theorem info8 : (Tryz.prog.info? 5).isSome = true := by kernel_rfl
theorem key_eqIn (d : Nat) (l m : List Int) (hl : l.length = 32) (hm : m.length = 32) (wx : World) : (Op.equalIn (d + 1 + 1) 23 (.agg (l.map (Value.int .u8)).toArray) (.agg (m.map (Value.int .u8)).toArray)).run Tryz.prog wx = .ok (l == m) wx :=
  run_equalIn_rows wx d .u8 l m Tryz.underlying23 Tryz.underlying5 cells8 info8 hl hm
theorem key_eql (l m : List Int) (hl : l.length = 32) (hm : m.length = 32) (wx : World) : (binOp BinOp.eql 23 (.agg (l.map (Value.int .u8)).toArray) (.agg (m.map (Value.int .u8)).toArray)).run Tryz.prog wx = .ok (.bool (l == m)) wx := by
  rw [run_eql_struct, key_eqIn 9998 l m hl hm]; rfl
end Go.Proofs.YtfainlfiphdaeaaGreatDoor
namespace Go.Proofs.YtfainlfiphdaeaaGreatDoor
open Go.RowKit
set_option maxRecDepth 20000
set_option linter.unusedSimpArgs false
end Go.Proofs.YtfainlfiphdaeaaGreatDoor
namespace Go.Proofs.YtfainlfiphdaeaaGreatDoor
open Go.RowKit
set_option maxRecDepth 20000
set_option linter.unusedSimpArgs false
end Go.Proofs.YtfainlfiphdaeaaGreatDoor
namespace Go.Proofs.YtfainlfiphdaeaaGreatDoor
open Go.RowKit
set_option maxRecDepth 20000
set_option linter.unusedSimpArgs false
end Go.Proofs.YtfainlfiphdaeaaGreatDoor
namespace Go.Proofs.YtfainlfiphdaeaaGreatDoor
open Go.RowKit
set_option maxRecDepth 20000
set_option linter.unusedSimpArgs false
set_option linter.unusedSectionVars false
def rawE (v : Value) : Option (DataW Value × List MemPlace) := some (.held v, [])
structure KeyEnc (P : Program) (kt : TypeId) {α : Type} (enc : α → Value) (ok : α → Prop) : Prop where
  keyed : Go.Maps.Keyed P kt
  has : ∀ x, ok x → ∃ l, keyOf P kt (enc x) = some l
  inj : ∀ x y, ok x → ok y → enc x = enc y → x = y
section
variable {P : Program} {kt : TypeId} {α : Type} [DecidableEq α] {enc : α → Value} {ok : α → Prop}
def MapG (P : Program) (kt : TypeId) (enc : α → Value) (ok : α → Prop) (w : World) (b n : Nat) (M : α → Option Value) : Prop :=
  ∃ D : DataW Value, w.ownsMap P kt rawE b n D ∧ ∀ x, ok x → ∀ l, keyOf P kt (enc x) = some l → ∀ z, D.atKey l z = (match M x with | some v => .held v | none => z)
def putG (M : α → Option Value) (x : α) (v : Value) : α → Option Value := fun y => if y = x then some v else M y
def delG (M : α → Option Value) (x : α) : α → Option Value := fun y => if y = x then none else M y
theorem MapG.made (w : World) : MapG P kt enc ok (w.alloc (.map #[] 0)) w.heap.size 0 (fun _ => none) := ⟨_, World.ownsMap_made w _ _ _, fun _ _ _ _ _ => rfl⟩
theorem MapG.lt {w : World} {b n : Nat} {M : α → Option Value} (h : MapG P kt enc ok w b n M) : b < w.heap.size := by obtain ⟨D, h, _⟩ := h; exact h.lt
theorem MapG.congr {w w' : World} {b n : Nat} {M : α → Option Value} (h : MapG P kt enc ok w b n M) (he : w'.heap[b]? = w.heap[b]?) : MapG P kt enc ok w' b n M := by
  obtain ⟨D, ⟨es, cl, hb, r⟩, hM⟩ := h
  exact ⟨D, ⟨es, cl, he.trans hb, r⟩, hM⟩
theorem MapG.look (K : KeyEnc P kt enc ok) {w : World} {b n : Nat} {M : α → Option Value} (h : MapG P kt enc ok w b n M) {t e : TypeId} (ht : P.underlying t = some (.map kt e)) {z : Value} (hz : (zeroValue e).run P w = .ok z w) (x : α) (hx : ok x) :
    (Instr.lookup t (.map (some b)) (enc x) true).run P w = .ok (.tuple #[(M x).getD z, .bool (M x).isSome]) w := by
  obtain ⟨D, hD, hM⟩ := h
  obtain ⟨l, hl⟩ := K.has x hx
  have h2 := hM x hx l hl
  have h1 : Maps.has D l = (M x).isSome := by
    cases hv : M x with
    | none => exact Maps.has_false_of_atKey fun z => by rw [h2, hv]
    | some v => exact Maps.has_true_of_atKey (y := .held v) fun z => by rw [h2, hv]
  obtain ⟨v, ps, hrun, hv⟩ := hD.look_ok K.keyed ht hz (zd := .held z) (zp := []) rfl hl
  rw [hrun, h1]
  unfold rawE at hv
  injection hv with hv
  injection hv with hv _
  rw [h2] at hv
  cases hm : M x with
  | none => rw [hm] at hv; injection hv with hv; rw [hv]; rfl
  | some u => rw [hm] at hv; injection hv with hv; rw [hv]; rfl
theorem KeyEnc.lit_inj (K : KeyEnc P kt enc ok) {x y : α} (hx : ok x) (hy : ok y) {l : Lit} (h1 : keyOf P kt (enc x) = some l) (h2 : keyOf P kt (enc y) = some l) : x = y := K.inj x y hx hy (K.keyed.inj h1 h2)
theorem MapG.store (K : KeyEnc P kt enc ok) {w : World} {b n : Nat} {M : α → Option Value} (h : MapG P kt enc ok w b n M) {t e : TypeId} (ht : P.underlying t = some (.map kt e)) (hn : n < maxLen) (x : α) (hx : ok x) (v : Value) :
    ∃ w', (Instr.mapUpdate t (.map (some b)) (enc x) v).run P w = .ok () w' ∧ MapG P kt enc ok w' b (n + 1) (putG M x v) ∧ w.grownBy w' (some b) := by
  obtain ⟨D, hD, hM⟩ := h
  obtain ⟨l, hl⟩ := K.has x hx
  obtain ⟨w', hrun, hown, ht'⟩ := hD.store K.keyed ht hn hl (d := .held v) (ps := []) rfl
  refine ⟨w', hrun, ⟨_, hown, fun y hy ly hly z => ?_⟩, ht'.grown⟩
  unfold putG
  by_cases e : y = x
  · subst e
    obtain rfl : ly = l := by rw [hl] at hly; injection hly with h; exact h.symm
    rw [if_pos rfl, Maps.atKey_put_same hD.isMap (K.keyed.key hl)]
  · rw [if_neg e, Maps.atKey_put_other (fun q : ly = l => e (K.lit_inj hy hx hly (by rw [q]; exact hl))), hM y hy ly hly]
theorem MapG.drop (K : KeyEnc P kt enc ok) {w : World} {b n : Nat} {M : α → Option Value} (h : MapG P kt enc ok w b n M) {t e : TypeId} (ht : P.underlying t = some (.map kt e)) (ty : TypeId) (x : α) (hx : ok x) :
    ∃ w', (Builtin.delete_ #[t, kt] ty #[.map (some b), enc x]).run P w = .ok (.tuple #[]) w' ∧ MapG P kt enc ok w' b n (delG M x) ∧ w.grownBy w' (some b) := by
  obtain ⟨D, hD, hM⟩ := h
  obtain ⟨l, hl⟩ := K.has x hx
  obtain ⟨w', hrun, hown, ht'⟩ := hD.drop K.keyed ht hl ty
  refine ⟨w', hrun, ⟨_, hown, fun y hy ly hly z => ?_⟩, ht'.grown⟩
  unfold delG
  by_cases e : y = x
  · subst e
    obtain rfl : ly = l := by rw [hl] at hly; injection hly with h; exact h.symm
    rw [if_pos rfl, Maps.atKey_del_same]
  · rw [if_neg e, Maps.atKey_del_other (fun q : ly = l => e (K.lit_inj hy hx hly (by rw [q]; exact hl))), hM y hy ly hly]
end
section
variable {P : Program}
end
end Go.Proofs.YtfainlfiphdaeaaGreatDoor
namespace Go.Proofs.YtfainlfiphdaeaaGreatDoor
open Go.RowKit
set_option maxRecDepth 20000
set_option linter.unusedSimpArgs false
set_option linter.unusedSectionVars false
def Flat (P : Program) (d : Nat) (t : TypeId) (cs : List Value) : Prop := ∃ L, P.keyLits d t cs = some L
section
variable {P : Program} {d : Nat} {t : TypeId}
end
section
variable {P : Program} {kt : TypeId} {α : Type} [DecidableEq α] {enc : α → Value} {ok : α → Prop}
theorem KeyEnc.equal (K : KeyEnc P kt enc ok) {m : Nat} (hm : m ≤ 10000) (hk : P.keyTypeAt m kt = true) (hwide : (match P.underlying kt with | some (.array _ _) | some (.struct _) => true | _ => false) = true) (x y : α) (hx : ok x) (hy : ok y) (w : World) :
    (Op.equal kt (enc x) (enc y)).run P w = .ok (decide (x = y)) w := by
  obtain ⟨lx, h1⟩ := K.has x hx
  obtain ⟨ly, h2⟩ := K.has y hy
  obtain ⟨r, hr, hi⟩ := run_equal_deep w hm hk hwide h1 h2
  rw [hr]
  have : r = decide (x = y) := by
    rw [Bool.eq_iff_iff, hi, decide_eq_true_iff]
    constructor
    · intro e; subst e; exact K.lit_inj hx hy h1 h2
    · intro e; subst e; rw [h1] at h2; injection h2
  rw [this]
theorem KeyEnc.eql (K : KeyEnc P kt enc ok) {cx cy : Array Value} {m : Nat} (hm : m ≤ 10000) (hk : P.keyTypeAt m kt = true) (hwide : (match P.underlying kt with | some (.array _ _) | some (.struct _) => true | _ => false) = true) (x y : α) (hx : ok x) (hy : ok y) (ex : enc x = .agg cx) (ey : enc y = .agg cy) (w : World) :
    (binOp .eql kt (.agg cx) (.agg cy)).run P w = .ok (.bool (decide (x = y))) w := by
  have h := K.equal hm hk hwide x y hx hy w
  rw [ex, ey] at h
  rw [run_eql_struct, show Op.equalIn 10000 kt (.agg cx) (.agg cy) = Op.equal kt (.agg cx) (.agg cy) from rfl, h]; rfl
end
end Go.Proofs.YtfainlfiphdaeaaGreatDoor
namespace Go.Proofs.YtfainlfiphdaeaaGreatDoor
open Go.RowKit
set_option maxRecDepth 20000
set_option linter.unusedSimpArgs false
theorem Bytes.toSf {w : World} {x : Option Addr} {n c : Nat} {z : List Int} (h : Bytes w x n c z) : S.Bytes w x n c z := ⟨h.1, h.2, h.3, h.4, h.5⟩
theorem sizeKeyH : (Tryz.prog.info? 23).map (·.size) = some 32 := by kernel_rfl
def fsum (F : Fr) (lw lb : Nat) (ws : List Wp) (body : List Int) : List Int := if lw ≤ 64 ∧ lb ≤ 4112 then S.sumL (frameL F ws body) else List.replicate 32 0
theorem FrIn.below {W W' : World} {F : Fr} {xw : Option Addr} {lw cw : Nat} {ws : List Wp} {xb : Option Addr} {lb cb : Nat} {body : List Int} (h : FrIn W F xw lw cw ws xb lb cb body) (hb : Below W.heap.size W W') : FrIn W' F xw lw cw ws xb lb cb body :=
  ⟨h.prev, h.mac, h.wraps, h.body_, h.hw.below hb, h.hb.below hb, h.inF, h.inW, h.inB⟩
theorem frameL_length (F : Fr) (ws : List Wp) (body : List Int) (hp : F.prev.length = 32) (hm : F.mac.length = 32) (h : ∀ e ∈ ws, e.data.length = 48) : (frameL F ws body).length = 79 + 54 * ws.length + body.length := by
  unfold frameL
  simp only [List.length_append, openL_length F ws hp h, hm]
  simp [be2]; omega
section
variable (F : Fr) (xw : Option Addr) (lw cw : Nat) (ws : List Wp) (xb : Option Addr) (lb cb : Nat) (body : List Int) (w : World)
set_option maxHeartbeats 4000000 in
theorem fSum_any (hF : FrIn w F xw lw cw ws xb lb cb body) (hKT : S.KTab w) :
    Calls Tryz.prog 25 #[.agg F.cells.toArray] w fun e w' => e = .returned (.agg (row .u8 (fsum F lw lb ws body))) ∧ Below w.heap.size w w' := by
  obtain ⟨q0, _⟩ := fr_parts F hF.prev hF.mac
  have hiF : (Tryz.prog.info? 43).map (·.size) = some F.cells.length := by rw [q0]; exact sizeFrame
  obtain ⟨Z, hZl, hZ⟩ : ∃ Z : List Int, Z.length = 32 ∧ Z = List.replicate 32 0 := ⟨_, rfl, rfl⟩
  have hD0 := (CellsAt.new w 43 F.cells).alloc (.cells (row .u8 Z) 23)
  have hr0 := Holds.new (w.alloc (.cells F.cells.toArray 43)) .u8 23 Z
  rw [World.size_alloc] at hr0
  have hB : Below w.heap.size w ((w.alloc (.cells F.cells.toArray 43)).alloc (.cells (row .u8 Z) 23)) := ((Below.refl _ _).alloc (Nat.le_refl _) _).alloc (by simp) _
  rw [hZ] at hD0 hr0 hB
  by_cases hs : lw ≤ 64 ∧ lb ≤ 4112
  · have hfs : fsum F lw lb ws body = S.sumL (frameL F ws body) := by unfold fsum; rw [if_pos hs]
    have hfl : (S.sumL (frameL F ws body)).length = 32 := S.sumL_length _
    have HFR : Veil (∀ W, Below w.heap.size w W → Calls Tryz.prog 76 #[.agg F.cells.toArray] W fun e w' => ∃ v, e = .returned (.tuple #[v, .int .i64 0]) ∧ OwnB w' W.heap.size v (frameL F ws body) ∧ Below W.heap.size W w') := ⟨fun W hb => Frame_any F xw lw cw ws xb lb cb body W hF.prev hF.mac hF.wraps (hF.hw.below hb) hF.body_ (hF.hb.below hb) hs.1 hs.2⟩
    have hlen := frameL_length F ws body hF.prev hF.mac hF.hw.ok
    have h1 := hF.hw.len_eq
    have h2 := hF.hb.len_eq
    have HSM : Veil (∀ W x n c, Below w.heap.size w W → Bytes W x n c (frameL F ws body) → Calls Tryz.prog 78 #[.slice x n c] W fun e w' => e = .returned (.agg (row .u8 (S.sumL (frameL F ws body)))) ∧ Below W.heap.size W w') := ⟨fun W x n c hb hz => S.sum_any x n c _ W hz.toSf (by have := hz.len_eq; omega) (hKT.below hb)⟩
    clear hlen h1 h2
    rw [hfs]
    clear hfs hF hKT q0
    generalize S.sumL (frameL F ws body) = SM at hfl HSM ⊢
    generalize frameL F ws body = FL at HSM HFR
    go_enter Tryz.func25, Tryz.ntmps25
    go_upto_region 1 with fail
    refine forget (p := fun y => Code.wp _ _ _ _ y) (fun W => Below w.heap.size w W ∧ CellsAt W w.heap.size 43 F.cells ∧ Holds W (w.heap.size + 1) .u8 23 Z) ⟨hB, hD0, by rw [hZ]; exact hr0⟩ ?_
    clear hB hD0 hr0 hZ
    rintro W ⟨hB, hD0, hr0⟩
    have hfr := HFR.out W hB
    have rF : W.rangeAt w.heap.size 0 F.cells := fun j v hv => by rw [Nat.zero_add, hD0.cell]; exact hv
    go_upto_region 2 with (first
      | (refine wpList_ldv rfl 43 _ rfl _ _ rfl F.cells rF Tryz.underlying43 rfl hiF ?_)
      | (go_at_call 76; refine hfr.mono ?_; rintro e w1 ⟨v1, rfl, ho1, hb1⟩; obtain ⟨x1, n1, c1, rfl, -⟩ := ho1.isSlice))
    have hB1 := hB.trans (hb1.mono hB.size)
    have hsum := HSM.out w1 x1 n1 c1 hB1 ho1.bytes.2
    have hr1 := hr0.below hb1 hr0.lt
    clear hfr ho1 HSM HFR hD0 hr0 rF hB hb1 hiF
    go_wp2_with (first
      | (go_at_call 78; refine hsum.mono ?_; rintro e w2 ⟨rfl, hb2⟩; have hr2 := hr1.below hb2 hr1.lt)
      | (refine wpList_st rfl 23 _ _ rfl _ rfl rfl hr2 (by rw [hfl]; exact sizeKeyH) (by rw [hfl, hZl]) ?_))
    refine bodyPost_ret (results_holds (Tryz.results25) _ rfl (hr2.setRow SM) Tryz.underlying23 sizeKeyH hfl) rfl ⟨rfl, ?_⟩
    exact below_setRow (hB1.trans (hb2.mono hB1.size)) (by omega) _
  · have hfs : fsum F lw lb ws body = List.replicate 32 0 := by unfold fsum; rw [if_neg hs]
    have HFR := fun W => Frame_long F xw lw cw xb lb cb W hF.prev hF.mac hF.wraps hF.body_ (by omega)
    rw [hfs]
    clear hF hKT q0 hfs
    go_enter Tryz.func25, Tryz.ntmps25
    go_upto_region 1 with fail
    refine forget (p := fun y => Code.wp _ _ _ _ y) (fun W => Below w.heap.size w W ∧ CellsAt W w.heap.size 43 F.cells ∧ Holds W (w.heap.size + 1) .u8 23 Z) ⟨hB, hD0, by rw [hZ]; exact hr0⟩ ?_
    clear hB hD0 hr0
    rintro W ⟨hB, hD0, hr0⟩
    have hfr := HFR W
    have rF : W.rangeAt w.heap.size 0 F.cells := fun j v hv => by rw [Nat.zero_add, hD0.cell]; exact hv
    clear HFR
    clear hZ
    go_upto_region 3 with (first
      | (refine wpList_ldv rfl 43 _ rfl _ _ rfl F.cells rF Tryz.underlying43 rfl hiF ?_)
      | (go_at_call 76; refine hfr.mono ?_; rintro e w1 ⟨rfl, hb1⟩))
    have hr1 := hr0.below hb1 hr0.lt
    have hB1 := hB.trans (hb1.mono hB.size)
    clear hfr rF hD0 hr0 hB hb1 hiF
    go_wp2_with (first
      | (refine wpList_st rfl 23 _ _ rfl _ rfl (k := .u8) (l := List.replicate 32 0) (by kernel_rfl) hr1 (by kernel_rfl) hZl ?_))
    refine bodyPost_ret (results_holds (Tryz.results25) _ rfl (hr1.setRow (List.replicate 32 0)) Tryz.underlying23 sizeKeyH rfl) rfl ⟨rfl, ?_⟩
    exact below_setRow hB1 (by omega) _
end
end Go.Proofs.YtfainlfiphdaeaaGreatDoor
namespace Go.Proofs.YtfainlfiphdaeaaGreatDoor
open Go.RowKit
set_option maxRecDepth 20000
set_option linter.unusedSimpArgs false
theorem wraps_nilT (W : World) : WrapsAt W none 0 0 [] := ⟨rfl, by omega, by omega, fun _ => rfl, by simp, .inl rfl⟩
def tF (own n : Int) (prev : List Int) : Fr := ⟨own, n, 0, 0, prev, .slice none 0 0, .slice none 0 0, []⟩
def tBody (k : List Int) (own n : Int) (prev : List Int) (E : Ev) : List Int := sbodyL k (tF own n prev) [] E
def tMac (seed k : List Int) (own n : Int) (prev : List Int) (E : Ev) : List Int := ftagL seed (tF own n prev) [] (tBody k own n prev E)
def tG (seed k : List Int) (own n : Int) (prev : List Int) (E : Ev) : Fr := ⟨own, n, 0, 0, prev, .slice none 0 0, .slice none 0 0, tMac seed k own n prev E⟩
def tFrm (seed k : List Int) (own n : Int) (prev : List Int) (E : Ev) : List Int := frameL (tG seed k own n prev E) [] (tBody k own n prev E)
def tSum (seed k : List Int) (own n : Int) (prev : List Int) (E : Ev) : List Int := S.sumL (tFrm seed k own n prev E)
structure TFr (W : World) (seed k : List Int) (own n : Int) (prev : List Int) (E : Ev) (F : Fr) : Prop where
  frin : ∃ xw cw xb cb, FrIn W F xw 0 cw [] xb 144 cb (tBody k own n prev E)
  author : F.author = own
  number : F.number = n
  ea : F.ea = 0
  es : F.es = 0
  prv : F.prev = prev
  mac : F.mac = tMac seed k own n prev E
theorem TFr.below {W V : World} {seed k : List Int} {own n : Int} {prev : List Int} {E : Ev} {F : Fr} (h : TFr W seed k own n prev E F) (hb : Below W.heap.size W V) : TFr V seed k own n prev E F := by
  obtain ⟨xw, cw, xb, cb, hF⟩ := h.frin
  exact ⟨⟨xw, cw, xb, cb, hF.below hb⟩, h.author, h.number, h.ea, h.es, h.prv, h.mac⟩
theorem openL_t {F G : Fr} (h1 : F.author = G.author) (h2 : F.number = G.number) (h3 : F.ea = G.ea) (h4 : F.es = G.es) (h5 : F.prev = G.prev) (ws : List Wp) : openL F ws = openL G ws := by
  unfold openL
  rw [h1, h2, h3, h4, h5]
theorem sbodyL_t {F : Fr} {k : List Int} {own n : Int} {prev : List Int} {E : Ev} (h1 : F.author = own) (h2 : F.number = n) (h3 : F.ea = 0) (h4 : F.es = 0) (h5 : F.prev = prev) : sbodyL k F [] E = tBody k own n prev E := by
  unfold tBody sbodyL
  rw [openL_t (F := F) (G := tF own n prev) h1 h2 h3 h4 h5, h1, h2]
  rfl
theorem TFr.fsum {W : World} {seed k : List Int} {own n : Int} {prev : List Int} {E : Ev} {F : Fr} (h : TFr W seed k own n prev E F) : fsum F 0 144 [] (tBody k own n prev E) = tSum seed k own n prev E := by
  unfold Go.Proofs.YtfainlfiphdaeaaGreatDoor.fsum tSum tFrm frameL
  rw [if_pos ⟨by omega, by omega⟩, openL_t (F := F) (G := tG seed k own n prev E) h.author h.number h.ea h.es h.prv, h.mac]
  rfl
theorem TFr.checkE {W : World} {seed k : List Int} {own n : Int} {prev : List Int} {E : Ev} {F : Fr} (h : TFr W seed k own n prev E F) (ho : own < 8) (hn : mayB n = true) : checkE seed F 0 [] 144 (tBody k own n prev E) = 0 := by
  unfold Go.Proofs.YtfainlfiphdaeaaGreatDoor.checkE
  have e1 : ftagL seed F [] (tBody k own n prev E) = F.mac := by
    rw [h.mac]
    unfold tMac ftagL
    rw [openL_t (F := F) (G := tF own n prev) h.author h.number h.ea h.es h.prv, h.author]
    rfl
  rw [e1, h.author, h.number, if_pos ⟨ho, hn⟩, if_pos ⟨by omega, by omega⟩, if_pos rfl]
theorem TFr.Check {V : World} {seed k : List Int} {own n : Int} {prev : List Int} {E : Ev} {F : Fr} (h : TFr V seed k own n prev E F) (ho : own < 8) (hn : mayB n = true) (base H : Nat) (o : Int) (b : Nat) (M : Int → Int → Option (List Int)) (v : Value) (L : List (Int × Int)) (hR : RingAt V base H o seed b M v L) (hKT : S.KTab V) :
    Calls Tryz.prog 23 #[.pointer (some ⟨H, 0, none⟩), .agg F.cells.toArray] V fun e w'' => e = .returned (.int .i64 0) ∧ Below V.heap.size V w'' := by
  obtain ⟨xw, cw, xb, cb, hF⟩ := h.frin
  refine (Check_any base H o seed b M v L V F xw 0 cw [] xb 144 cb _ hR hKT ⟨hF.prev, hF.mac, hF.wraps, hF.body_, hF.hw, hF.hb⟩ hF.inF.mac).mono ?_
  rw [h.checkE ho hn]
  exact fun e2 w2 h => h
theorem TFr.Sum {V : World} {seed k : List Int} {own n : Int} {prev : List Int} {E : Ev} {F : Fr} (h : TFr V seed k own n prev E F) (hKT : S.KTab V) :
    Calls Tryz.prog 25 #[.agg F.cells.toArray] V fun e w'' => e = .returned (.agg (row .u8 (tSum seed k own n prev E))) ∧ Below V.heap.size V w'' := by
  obtain ⟨xw, cw, xb, cb, hF⟩ := h.frin
  have := fSum_any F xw 0 cw [] xb 144 cb _ V hF hKT
  rw [h.fsum] at this
  exact this
theorem tSum_length (seed k : List Int) (own n : Int) (prev : List Int) (E : Ev) : (tSum seed k own n prev E).length = 32 := S.sumL_length _
theorem tseal_any (base H : Nat) (own : Int) (seed : List Int) (b : Nat) (M : Int → Int → Option (List Int)) (v : Value) (L : List (Int × Int)) (W : World) (n : Int) (prev : List Int) (E : Ev) (k : List Int)
    (hR : RingAt W base H own seed b M v L) (hKT : S.KTab W) (hBT : BTab W) (hp : prev.length = 32) (hpi : ∀ x ∈ prev, in8 x) (hE : E.In) (hown : 0 ≤ own ∧ own < 8) (hM : M 0 0 = some k) (hn : mayB n = true) (hn32 : in32 n) (hr : rightB E = true) (hda : E.da = own) (hds : E.ds = n) :
    Calls Tryz.prog 17 #[.pointer (some ⟨H, 0, none⟩), .int .u32 n, .agg (row .u8 prev), .agg (dotC 0 0).toArray, .slice none 0 0, .agg E.cells.toArray] W fun e w' => ∃ F : Fr, e = .returned (.tuple #[.agg F.cells.toArray, .int .i64 0]) ∧ TFr w' seed k own n prev E F ∧ Below W.heap.size W w' := by
  refine (Seal_any base H own seed b M v L W n none 0 0 [] 0 0 prev E hR hKT hBT (wraps_nilT W) hp hE ⟨⟨by omega, by omega⟩, by omega, by omega⟩ ⟨hown.1, by omega⟩).mono ?_
  have h0 : sealE n 0 E own (M 0 0) = 0 := by rw [hM]; exact seal_of hn (by omega) hr hda hds hown.2
  rintro e w' ⟨hs | hs, hb'⟩
  · exact absurd h0 hs.1
  · obtain ⟨_, F, k', hk, he, hf, fa, fn, fea, fes, fp, fm⟩ := hs
    rw [hM] at hk
    obtain rfl := Option.some.inj hk
    obtain ⟨xw, cw, xb, cb, hq⟩ := hf.at_
    have hq0 := hq w' (fun _ _ _ => rfl)
    have hIn : F.In := ⟨by rw [fa]; exact ⟨hown.1, by omega⟩, by rw [fn]; exact hn32, by rw [fea]; exact ⟨by decide, by decide⟩, by rw [fes]; exact ⟨by decide, by decide⟩, fun x hx => by rw [fp] at hx; exact hpi x hx, fun x hx => by rw [fm] at hx; exact ftagL_in _ _ _ _ x hx⟩
    have hsb := sbodyL_t (k := k) (E := E) fa fn fea fes fp
    have hbi := sbodyL_in (k := k) (ws := []) hIn (by simp) (by decide) hE
    rw [hsb] at hq0 hbi fm
    refine ⟨F, he, ⟨⟨xw, cw, xb, cb, ⟨hq0.prev, hq0.mac, hq0.wraps, hq0.body_, hq0.hw, hq0.hb, hIn, by simp, hbi⟩⟩, fa, fn, fea, fes, fp, ?_⟩, hb'⟩
    rw [fm]
    unfold tMac ftagL
    rw [openL_t (F := F) (G := tF own n prev) fa fn fea fes fp, fa]
    rfl
theorem TFr.cells {W : World} {seed k : List Int} {own n : Int} {prev : List Int} {E : Ev} {F : Fr} (h : TFr W seed k own n prev E F) : F.cells.length = 70 ∧ (∀ v ∈ F.cells, v.oneCell' = true) ∧ ∃ xb cb, F.cells[37]? = some (.slice xb 144 cb) := by
  obtain ⟨xw, cw, xb, cb, hF⟩ := h.frin
  obtain ⟨f70, _, _, _, _, _, f37, _⟩ := fr_parts F hF.prev hF.mac
  rw [hF.body_] at f37
  refine ⟨f70, fun v hv => ?_, xb, cb, f37⟩
  simp only [Fr.cells, dotC, List.mem_append, List.mem_cons, List.not_mem_nil, or_false, List.mem_map, hF.wraps, hF.body_] at hv
  rcases hv with ((((rfl | rfl) | rfl | rfl) | ⟨x, _, rfl⟩) | rfl | rfl) | ⟨x, _, rfl⟩ <;> rfl
end Go.Proofs.YtfainlfiphdaeaaGreatDoor
namespace Go.Proofs.YtfainlfiphdaeaaGreatDoor
open Go.RowKit
set_option maxRecDepth 20000
set_option linter.unusedSimpArgs false
def evS0 (m : Nat) : Ev := ⟨0, (m : Int) + 1, [0, 0, 0, 0, 0, 0, 0, 0], 4, 0, 0, false, 0, 3, 0⟩
def evS (m : Nat) : Ev := ⟨0, (m : Int) + 1, [(m : Int), 0, 0, 0, 0, 0, 0, 0], 4, 0, 0, false, 0, 3, 0⟩
theorem evS_right (m : Nat) (hm : m ≤ 255) : rightB (evS m) = true := by
  have h1 : (m : Int) + 1 ≤ 1048576 := by omega
  have h2 : ¬ (m : Int) + 1 = 0 := by omega
  have h3 : (m : Int) ≤ 1048576 := by omega
  unfold rightB rightDotB rightKB noTextB evS
  simp [pastTo, h1, h2, h3]
theorem evS_in (m : Nat) (hm : m ≤ 255) : (evS m).In :=
  ⟨show in8 0 from ⟨by decide, by decide⟩, ⟨by show (0 : Int) ≤ (m : Int) + 1; omega, by show (m : Int) + 1 ≤ 4294967295; omega⟩, rfl, fun x hx => by
    have : x ∈ ([(m : Int), 0, 0, 0, 0, 0, 0, 0] : List Int) := hx
    simp only [List.mem_cons, List.not_mem_nil, or_false, or_self] at this
    rcases this with rfl | rfl
    · exact ⟨by omega, by omega⟩
    · exact ⟨by decide, by decide⟩, show in8 4 from ⟨by decide, by decide⟩, show in8 0 from ⟨by decide, by decide⟩, show in32 0 from ⟨by decide, by decide⟩, show in8 0 from ⟨by decide, by decide⟩, show in8 3 from ⟨by decide, by decide⟩, show in8 0 from ⟨by decide, by decide⟩⟩
set_option maxHeartbeats 16000000 in
theorem topSums_walk (seed prev : List Int) (hs : seed.length = 32) (hp : prev.length = 32) (hpi : ∀ x ∈ prev, in8 x) (m : Nat) (hm : m ≤ 255) (w : World) (hKT : S.KTab w) (hBT : BTab w) :
    Calls Tryz.prog 11 #[.agg (row .u8 seed), .agg (row .u8 prev), .int .u8 (m : Int)] w fun e w' => e = .returned (.bool true) ∧ Below w.heap.size w w' := by
  have hA := (CellsAt.new w 23 (seed.map (Value.int .u8))).alloc (.cells (row .u8 prev) 23)
  have hB := CellsAt.new (w.alloc (.cells (row .u8 seed) 23)) 23 (prev.map (Value.int .u8))
  rw [World.size_alloc] at hB
  have hb0 : Below w.heap.size w ((w.alloc (.cells (row .u8 seed) 23)).alloc (.cells (row .u8 prev) 23)) := ((Below.refl _ _).alloc (Nat.le_refl _) _).alloc (by simp) _
  obtain ⟨k, hk⟩ : ∃ k, newM 0 seed 0 0 = some k := ⟨epochL seed, by unfold newM; rw [if_pos rfl]; unfold putK; simp⟩
  have HNW : Veil (∀ W, Below w.heap.size w W → Calls Tryz.prog 27 #[.int .u8 0, .agg (seed.map (Value.int .u8)).toArray] W fun e w' => ∃ H b v, e = .returned (.pointer (some ⟨H, 0, none⟩)) ∧ RingAt w' W.heap.size H 0 seed b (newM 0 seed) v (newD 0) ∧ Below W.heap.size W w') := ⟨fun W hb => new_any 0 seed W (by decide) hs (hKT.below hb)⟩
  have hmay : mayB ((m : Int) + 1) = true := by unfold mayB; simp; omega
  have HSL : Veil (∀ W base H b v, Below w.heap.size w W → RingAt W base H 0 seed b (newM 0 seed) v (newD 0) → Calls Tryz.prog 17 #[.pointer (some ⟨H, 0, none⟩), .int .u32 ((m : Int) + 1), .agg (prev.map (Value.int .u8)).toArray, .agg (dotC 0 0).toArray, .slice none 0 0, .agg (evS m).cells.toArray] W fun e w' => ∃ (F : Fr) (xb : Option Addr) (cb : Nat), e = .returned (.tuple #[.agg F.cells.toArray, .int .i64 0]) ∧ TFr w' seed k 0 ((m : Int) + 1) prev (evS m) F ∧ F.cells.length = 70 ∧ (∀ v ∈ F.cells, v.oneCell' = true) ∧ F.cells[37]? = some (.slice xb 144 cb) ∧ Below W.heap.size W w') := ⟨fun W base H b v hb hR => (tseal_any base H 0 seed b (newM 0 seed) v (newD 0) W ((m : Int) + 1) prev (evS m) k hR (hKT.below hb) (hBT.below hb) hp hpi (evS_in m hm) ⟨by omega, by omega⟩ hk hmay ⟨by omega, by omega⟩ (evS_right m hm) rfl rfl).mono fun e w' ⟨F, he, hT, hb'⟩ => by
    obtain ⟨h70, h1, xb, cb, h37⟩ := hT.cells
    exact ⟨F, xb, cb, he, hT, h70, h1, h37, hb'⟩⟩
  have HSM : Veil (∀ W F, Below w.heap.size w W → TFr W seed k 0 ((m : Int) + 1) prev (evS m) F → Calls Tryz.prog 25 #[.agg F.cells.toArray] W fun e w'' => e = .returned (.agg (row .u8 (tSum seed k 0 ((m : Int) + 1) prev (evS m)))) ∧ Below W.heap.size W w'') := ⟨fun W F hb hT => hT.Sum (hKT.below hb)⟩
  have HCK : Veil (∀ W F base H b v, Below w.heap.size w W → RingAt W base H 0 seed b (newM 0 seed) v (newD 0) → TFr W seed k 0 ((m : Int) + 1) prev (evS m) F → Calls Tryz.prog 23 #[.pointer (some ⟨H, 0, none⟩), .agg F.cells.toArray] W fun e w'' => e = .returned (.int .i64 0) ∧ Below W.heap.size W w'') := ⟨fun W F base H b v hb hR hT => hT.Check (by decide) hmay base H 0 b _ v _ hR (hKT.below hb)⟩
  have hsl := tSum_length seed k 0 ((m : Int) + 1) prev (evS m)
  have heqK : ∀ wx, (binOp BinOp.eql 23 (.agg (row .u8 (tSum seed k 0 ((m : Int) + 1) prev (evS m)))) (.agg (row .u8 (tSum seed k 0 ((m : Int) + 1) prev (evS m))))).run Tryz.prog wx = .ok (.bool true) wx := fun wx => by
    have := key_eql _ _ hsl hsl wx
    simp only [beq_self_eq_true] at this
    exact this
  have HB0 : Veil (∀ wx, (Instr.build 26 #[]).run Tryz.prog wx = .ok (.agg (dotC 0 0).toArray) wx) := ⟨fun wx => run_build wx _ _ _ (by kernel_rfl)⟩
  have HB1 : Veil (∀ wx, (Instr.build 26 #[(1, .int .u32 ((m : Int) + 1))]).run Tryz.prog wx = .ok (.agg (dotC 0 ((m : Int) + 1)).toArray) wx) := ⟨fun wx => run_build wx _ _ _ (by kernel_rfl)⟩
  have HB2 : Veil (∀ wx, (Instr.build 33 #[(0, .agg (dotC 0 ((m : Int) + 1)).toArray), (2, .int .u8 4), (6, .int .u8 3)]).run Tryz.prog wx = .ok (.agg (evS0 m).cells.toArray) wx) := ⟨fun wx => run_build wx _ _ _ (by kernel_rfl)⟩
  have HS2 : Veil ((evS0 m).cells.set 2 (.int .u32 (m : Int)) = (evS m).cells) := ⟨rfl⟩
  have h1E0 := ev_one (evS0 m)
  have iE0 : (Tryz.prog.info? 33).map (·.size) = some (evS0 m).cells.length := sizeEvZ (evS0 m) rfl
  have iE : (Tryz.prog.info? 33).map (·.size) = some (evS m).cells.length := sizeEvZ (evS m) rfl
  have hE17 : (evS0 m).cells.length = 17 := rfl
  have hc2 : (evS0 m).cells[2]? = some (.int .u32 0) := rfl
  have wm : IntKind.u32.wrap (m : Int) = (m : Int) := by rw [IntKind.wrap_u32]; omega
  have wm1 : IntKind.u32.wrap ((m : Int) + 1) = (m : Int) + 1 := by rw [IntKind.wrap_u32]; omega
  have iS : (Tryz.prog.info? 23).map (·.size) = some (seed.map (Value.int .u8)).length := by rw [List.length_map, hs]; exact sizeKeyD
  have iP : (Tryz.prog.info? 23).map (·.size) = some (prev.map (Value.int .u8)).length := by rw [List.length_map, hp]; exact sizeKeyD
  have uK := Tryz.underlying23
  have uF := Tryz.underlying43
  have uE := Tryz.underlying33
  have hr1 : (row .u8 seed) = (seed.map (Value.int .u8)).toArray := rfl
  have hr2 : (row .u8 prev) = (prev.map (Value.int .u8)).toArray := rfl
  rw [hr1, hr2] at hb0 ⊢
  rw [hr2] at hA
  rw [hr1] at hB
  have hm5 : (m : Int) ≤ 255 := by omega
  have hm0 : (0 : Int) ≤ (m : Int) := by omega
  clear hr1 hr2 hs hp hpi hKT hBT hk hm hmay hsl
  generalize row .u8 (tSum seed k 0 ((m : Int) + 1) prev (evS m)) = TS at HSM heqK
  generalize hSV : seed.map (Value.int .u8) = SV at hA hB hb0 HNW iS ⊢
  generalize hPV : prev.map (Value.int .u8) = PV at hA hB hb0 HSL iP ⊢
  clear hSV hPV
  generalize (evS m).cells = EC at HSL HS2 iE
  generalize (evS0 m).cells = EC0 at HB2 HS2 h1E0 iE0 hE17 hc2
  obtain ⟨EZ, hzE, hz1, hZ17⟩ : ∃ Z : List Value, (∀ wx, (zeroValue 33).run Tryz.prog wx = .ok (.agg Z.toArray) wx) ∧ ¬ Z.toArray = #[] ∧ Z.length = 17 := ⟨evZ.cells, fun wx => by kernel_rfl, by decide, rfl⟩
  obtain ⟨Z, hzv, hzv1, hZ⟩ : ∃ Z : List Value, (∀ wx, (zeroValue 43).run Tryz.prog wx = .ok (.agg Z.toArray) wx) ∧ ¬ Z.toArray = #[] ∧ Z.length = 70 := ⟨frZ1.cells, fun wx => by kernel_rfl, by decide, rfl⟩
  go_enter Tryz.func11, Tryz.ntmps11
  go_upto_region 1 with fail
  refine forget (p := fun y => Code.wp _ _ _ _ y) (fun W => Below w.heap.size w W ∧ CellsAt W w.heap.size 23 SV ∧ CellsAt W (w.heap.size + 1) 23 PV) ⟨hb0, hA, hB⟩ ?_
  clear hb0 hA hB
  rintro W ⟨hb, hA, hB⟩
  have rA := hA.wholeM
  have hnw := HNW.out W hb
  go_upto_region 2 with (first
    | (refine wpList_ldv rfl 23 _ rfl _ _ rfl SV rA uK rfl iS ?_)
    | (go_at_call 27; refine hnw.mono ?_; rintro e w1 ⟨H, b, v, rfl, hR1, hb1⟩; clear hnw))
  refine forget (p := fun y => Code.wp _ _ _ _ y) (fun V => Below w.heap.size w V ∧ CellsAt V (w.heap.size + 1) 23 PV ∧ RingAt V W.heap.size H 0 seed b (newM 0 seed) v (newD 0)) ⟨hb.trans (hb1.mono hb.size), hB.farM hb1, hR1⟩ ?_
  clear hb1 hR1 HNW hA hB hb rA
  obtain ⟨BS, hBS⟩ : ∃ q, W.heap.size = q := ⟨_, rfl⟩
  rw [hBS]
  clear hBS
  clear w1 W
  rintro W ⟨hb, hB, hR⟩
  have HR := Veil.mk hR
  clear hR
  have hE1 := CellsAt.new W 33 EZ
  have hb1 : Below W.heap.size W ((W.alloc (.cells EZ.toArray 33)).setRow W.heap.size EC0.toArray) := below_setRow ((Below.refl _ _).alloc (Nat.le_refl _) _) (Nat.le_refl _) _
  have hE2 := hE1.setRow EC0
  go_upto_region 3 with (first
    | (refine wpList_bldx rfl 26 _ rfl #[(1, .int .u32 ((m : Int) + 1))] (by first | rfl | kernel_rfl) _ (HB1.out _) ?_)
    | (refine wpList_bldx rfl 33 _ rfl #[(0, .agg (dotC 0 ((m : Int) + 1)).toArray), (2, .int .u8 4), (6, .int .u8 3)] (by first | rfl | kernel_rfl) _ (HB2.out _) ?_)
    | (refine wpList_stv rfl 33 _ _ rfl _ rfl rfl hE1 iE0 (by rw [hZ17, hE17]) h1E0 ?_))
  refine forget (p := fun y => Code.wp _ _ _ _ y) (fun V => Below W.heap.size W V ∧ CellsAt V W.heap.size 33 EC0) ⟨hb1, hE2⟩ ?_
  clear hb1 hE2 hE1 HB1 HB2
  rintro V ⟨hbV, hE⟩
  have c2 := (hE.cell 2).trans hc2
  have fz2 := hE.frozen 2
  have hE3 := hE.set 2 (.int .u32 (m : Int))
  rw [HS2.out] at hE3
  go_upto_region 4 with fail
  have HFAR : Veil (∀ V', Below W.heap.size W V' → Below w.heap.size w V' ∧ CellsAt V' (w.heap.size + 1) 23 PV ∧ RingAt V' BS H 0 seed b (newM 0 seed) v (newD 0)) := ⟨fun V' h => ⟨hb.trans (h.mono hb.size), hB.farM h, HR.out.far h⟩⟩
  obtain ⟨GE, hGE⟩ : ∃ q, W.heap.size = q := ⟨_, rfl⟩
  refine forget (p := fun y => Code.wp _ _ _ _ y) (fun V => Below W.heap.size W V ∧ CellsAt V W.heap.size 33 EC) ⟨hbV.setCell (p := ⟨W.heap.size, 2, none⟩) (Nat.le_refl _) _, hE3⟩ ?_
  clear hE3 c2 fz2 hbV hE hb hB HR
  clear V
  rintro V ⟨hbV, hE⟩
  have hGW := Veil.mk hGE
  rw [hGE] at hE ⊢
  clear hGE
  obtain ⟨hb, hB, hR⟩ := HFAR.out V hbV
  have hsl := HSL.out V BS H b v hb hR
  have rP := hB.wholeM
  have rE := hE.wholeM
  clear hb hB hR
  go_upto_region 5 with (first
    | (refine wpList_ldv rfl 23 _ rfl _ _ rfl PV rP uK rfl iP ?_)
    | (refine wpList_bldx rfl 26 #[] rfl #[] (by first | rfl | kernel_rfl) _ (HB0.out _) ?_)
    | (refine wpList_ldv rfl 33 _ rfl _ _ rfl EC rE uE rfl iE ?_)
    | (go_at_call 17; refine hsl.mono ?_; rintro e w2 ⟨F, xb, cb, rfl, hT, hFl, h1F, h37, hb2⟩; have hG2 := CellsAt.new w2 43 Z; have iF : (Tryz.prog.info? 43).map (·.size) = some F.cells.length := (by rw [hFl]; exact sizeFrame); have HT := Veil.mk hT; have H37 := Veil.mk h37; clear hsl hT h37)
    | (refine wpList_stv rfl 43 _ _ rfl _ rfl rfl hG2 iF (by rw [hZ, hFl]) h1F ?_))
  have hb3 : Below w2.heap.size w2 ((w2.alloc (.cells Z.toArray 43)).setRow w2.heap.size F.cells.toArray) := below_setRow ((Below.refl _ _).alloc (Nat.le_refl _) _) (Nat.le_refl _) _
  have hb23 := hb2.trans (hb3.mono hb2.size)
  refine forget (p := fun y => Code.wp _ _ _ _ y) (fun U => Below W.heap.size W U ∧ CellsAt U GE 33 EC ∧ CellsAt U w2.heap.size 43 F.cells ∧ TFr U seed k 0 ((m : Int) + 1) prev (evS m) F) ⟨hbV.trans (hb23.mono hbV.size), hE.farM hb23, hG2.setRow _, HT.out.below hb3⟩ ?_
  clear hb3 hb23 hG2 hb2 hbV hE rP rE HT h1F hFl
  obtain ⟨G1, hG1⟩ : ∃ q, w2.heap.size = q := ⟨_, rfl⟩
  rw [hG1]
  clear hG1
  clear w2 V
  rintro V ⟨hbV, hE, hG1, hT⟩
  obtain ⟨hb, hB, hR⟩ := HFAR.out V hbV
  have hsl := HSL.out V BS H b v hb hR
  have rP := hB.wholeM
  have rE := hE.wholeM
  have HT := Veil.mk hT
  clear hb hB hR hT
  go_upto_region 6 with (first
    | (refine wpList_ldv rfl 23 _ rfl _ _ rfl PV rP uK rfl iP ?_)
    | (refine wpList_bldx rfl 26 #[] rfl #[] (by first | rfl | kernel_rfl) _ (HB0.out _) ?_)
    | (refine wpList_ldv rfl 33 _ rfl _ _ rfl EC rE uE rfl iE ?_)
    | (go_at_call 17; refine hsl.mono ?_; rintro e w2 ⟨F2, xb2, cb2, rfl, hT2, hFl2, h1F2, -, hb2⟩; have hG2 := CellsAt.new w2 43 Z; have iF2 : (Tryz.prog.info? 43).map (·.size) = some F2.cells.length := (by rw [hFl2]; exact sizeFrame); have HT2 := Veil.mk hT2; clear hsl hT2)
    | (refine wpList_stv rfl 43 _ _ rfl _ rfl rfl hG2 iF2 (by rw [hZ, hFl2]) h1F2 ?_))
  have hb3 : Below w2.heap.size w2 ((w2.alloc (.cells Z.toArray 43)).setRow w2.heap.size F2.cells.toArray) := below_setRow ((Below.refl _ _).alloc (Nat.le_refl _) _) (Nat.le_refl _) _
  have hb23 := hb2.trans (hb3.mono hb2.size)
  refine forget (p := fun y => Code.wp _ _ _ _ y) (fun U => Below W.heap.size W U ∧ CellsAt U G1 43 F.cells ∧ CellsAt U w2.heap.size 43 F2.cells ∧ TFr U seed k 0 ((m : Int) + 1) prev (evS m) F ∧ TFr U seed k 0 ((m : Int) + 1) prev (evS m) F2) ⟨hbV.trans (hb23.mono hbV.size), hG1.farM hb23, hG2.setRow _, HT.out.below hb23, HT2.out.below hb3⟩ ?_
  clear hb3 hb23 hG2 hb2 hbV hE rP rE HT HT2 h1F2 hFl2 hG1
  obtain ⟨G2, hG2⟩ : ∃ q, w2.heap.size = q := ⟨_, rfl⟩
  rw [hG2]
  clear hG2
  clear w2 V
  rintro V ⟨hbV, hG1, hG2, hT1, hT2⟩
  have HST : Veil (∀ V', Below V.heap.size V V' → V'.rangeAt G1 0 F.cells ∧ V'.rangeAt G2 0 F2.cells ∧ V'.cell? ⟨G1, 37, none⟩ = some (.slice xb 144 cb)) := ⟨fun V' h => ⟨(hG1.farM h).wholeM, (hG2.farM h).wholeM, ((hG1.farM h).cell 37).trans H37.out⟩⟩
  have HS1 : Veil (∀ V', Below V.heap.size V V' → (Calls Tryz.prog 25 #[.agg F.cells.toArray] V' fun e w'' => e = .returned (.agg TS) ∧ Below V'.heap.size V' w'') ∧ (Calls Tryz.prog 25 #[.agg F2.cells.toArray] V' fun e w'' => e = .returned (.agg TS) ∧ Below V'.heap.size V' w'') ∧ (Calls Tryz.prog 23 #[.pointer (some ⟨H, 0, none⟩), .agg F.cells.toArray] V' fun e w'' => e = .returned (.int .i64 0) ∧ Below V'.heap.size V' w'') ∧ Below w.heap.size w V') := ⟨fun V' h => by
    obtain ⟨hb, _, hR⟩ := HFAR.out V' (hbV.trans (h.mono hbV.size))
    exact ⟨HSM.out V' F hb (hT1.below h), HSM.out V' F2 hb (hT2.below h), HCK.out V' F BS H b v hb hR (hT1.below h), hb⟩⟩
  clear HSM HCK hT1 hT2 hG1 hG2 hbV HFAR HSL H37
  have hV0 : Below V.heap.size V V.drew := (Below.refl _ V).drew
  generalize F.cells = FC at HST HS1 iF
  generalize F2.cells = FC2 at HST HS1 iF2
  refine wp_region_gateT (fun w' => w'.rangeAt G1 0 FC ∧ w'.rangeAt G2 0 FC2 ∧ w'.cell? ⟨G1, 37, none⟩ = some (.slice xb 144 cb)) (fun _ => True) 99 (by kernel_rfl) ?_
  have hT : (fun w' : World => w'.rangeAt G1 0 FC ∧ w'.rangeAt G2 0 FC2 ∧ w'.cell? ⟨G1, 37, none⟩ = some (.slice xb 144 cb)) V.drew := HST.out _ hV0
  have hS := trivial
  refine wpAnyT_held (i := 0) (v := ?_) rfl (by kernel_rfl) (by kernel_rfl) (by kernel_rfl) (fun _ _ _ h => h) (by kernel_rfl) hT (fun _ => hS) (by kernel_rfl) ?_ ?_
  rotate_left
  · intro wx hSw; go_split_ands; go_simp; try with_reducible rfl
  simp only [Act.put, gA, gS, gZ, sI, sZ, sS]
  refine wpAnyT_held (i := 1) (v := ?_) rfl (by kernel_rfl) (by kernel_rfl) (by kernel_rfl) (fun _ _ _ h => h) (by kernel_rfl) hT (fun _ => hS) (by kernel_rfl) ?_ ?_
  rotate_left
  · intro wx hSw; go_split_ands; go_simp; try with_reducible rfl
  simp only [Act.put, gA, gS, gZ, sI, sZ, sS]
  refine wpAnyT_held (i := 2) (v := ?_) rfl (by kernel_rfl) (by kernel_rfl) (by kernel_rfl) (fun _ _ _ h => h) (by kernel_rfl) hT (fun _ => hS) (by kernel_rfl) ?_ ?_
  rotate_left
  · intro wx hSw; go_split_ands; go_simp; try with_reducible rfl
  simp only [Act.put, gA, gS, gZ, sI, sZ, sS]
  refine wpAnyT_held (i := 3) (v := ?_) rfl (by kernel_rfl) (by kernel_rfl) (by kernel_rfl) (fun _ _ _ h => h) (by kernel_rfl) hT (fun _ => hS) (by kernel_rfl) ?_ ?_
  rotate_left
  · intro wx hSw; go_split_ands; go_simp; try with_reducible rfl
  simp only [Act.put, gA, gS, gZ, sI, sZ, sS]
  refine wpAnyT_held (i := 4) (v := ?_) rfl (by kernel_rfl) (by kernel_rfl) (by kernel_rfl) (fun _ _ _ h => h) (by kernel_rfl) hT (fun _ => hS) (by kernel_rfl) ?_ ?_
  rotate_left
  · intro wx hSw; go_split_ands; go_simp; try with_reducible rfl
  simp only [Act.put, gA, gS, gZ, sI, sZ, sS]
  refine wpAnyT_held (i := 5) (v := ?_) rfl (by kernel_rfl) (by kernel_rfl) (by kernel_rfl) (fun _ _ _ h => h) (by kernel_rfl) hT (fun _ => hS) (by kernel_rfl) ?_ ?_
  rotate_left
  · intro wx hSw; go_split_ands; go_simp; try with_reducible rfl
  simp only [Act.put, gA, gS, gZ, sI, sZ, sS]
  refine wpAnyT_held (i := 6) (v := ?_) rfl (by kernel_rfl) (by kernel_rfl) (by kernel_rfl) (fun _ _ _ h => h) (by kernel_rfl) hT (fun _ => hS) (by kernel_rfl) ?_ ?_
  rotate_left
  · intro wx hSw; go_split_ands; go_simp; try with_reducible rfl
  simp only [Act.put, gA, gS, gZ, sI, sZ, sS]
  refine wpAnyT_held (i := 7) (v := ?_) rfl (by kernel_rfl) (by kernel_rfl) (by kernel_rfl) (fun _ _ _ h => h) (by kernel_rfl) hT (fun _ => hS) (by kernel_rfl) ?_ ?_
  rotate_left
  · intro wx hSw; go_split_ands; go_simp; try with_reducible rfl
  simp only [Act.put, gA, gS, gZ, sI, sZ, sS]
  refine wpAnyT_held (i := 8) (v := ?_) rfl (by kernel_rfl) (by kernel_rfl) (by kernel_rfl) (fun _ _ _ h => h) (by kernel_rfl) hT (fun _ => hS) (by kernel_rfl) ?_ ?_
  rotate_left
  · intro wx hSw; go_split_ands; go_simp; try with_reducible rfl
  simp only [Act.put, gA, gS, gZ, sI, sZ, sS]
  refine wpAnyT_held (i := 9) (v := ?_) rfl (by kernel_rfl) (by kernel_rfl) (by kernel_rfl) (fun _ _ _ h => h) (by kernel_rfl) hT (fun _ => hS) (by kernel_rfl) ?_ ?_
  rotate_left
  · intro wx hSw; go_split_ands; go_simp; try with_reducible rfl
  simp only [Act.put, gA, gS, gZ, sI, sZ, sS]
  refine wpAnyT_held (i := 10) (v := .bool true) rfl (by kernel_rfl) (by kernel_rfl) (by kernel_rfl) (fun _ _ _ h => h) (by kernel_rfl) hT (fun _ => hS) (by kernel_rfl) ?_ ?_
  · intro wx hSw; go_split_ands; go_simp
  simp only [Act.put, gA, gS, gZ, sI, sZ, sS]
  refine wpAnyT_held (i := 11) (v := ?_) rfl (by kernel_rfl) (by kernel_rfl) (by kernel_rfl) (fun _ _ _ h => h) (by kernel_rfl) hT (fun _ => hS) (by kernel_rfl) ?_ ?_
  rotate_left
  · intro wx hSw; go_split_ands; go_simp; try with_reducible rfl
  simp only [Act.put, gA, gS, gZ, sI, sZ, sS]
  refine wpAnyT_held (i := 12) (v := ?_) rfl (by kernel_rfl) (by kernel_rfl) (by kernel_rfl) (fun _ _ _ h => h) (by kernel_rfl) hT (fun _ => hS) (by kernel_rfl) ?_ ?_
  rotate_left
  · intro wx hSw; go_split_ands; go_simp; try with_reducible rfl
  simp only [Act.put, gA, gS, gZ, sI, sZ, sS]
  refine wpAnyT_load (i := 13) (dst := some 59) (ty := 43) (x := .tmp 9) (b := G1) (o := (0)) (cs := FC) (by kernel_rfl) (by kernel_rfl) (by kernel_rfl) (by kernel_rfl) (by kernel_rfl) (fun _ _ _ h => h) (by kernel_rfl) hT (fun _ => hS) (by kernel_rfl) (fun _ h => h.1) uF rfl iF ?_
  simp only [Act.put, gA, gS, gZ, sI, sZ, sS]
  refine wpAnyT_load (i := 15) (dst := some 61) (ty := 43) (x := .tmp 11) (b := G2) (o := (0)) (cs := FC2) (by kernel_rfl) (by kernel_rfl) (by kernel_rfl) (by kernel_rfl) (by kernel_rfl) (fun _ _ _ h => h) (by kernel_rfl) hT (fun _ => hS) (by kernel_rfl) (fun _ h => h.2.1) uF rfl iF2 ?_
  simp only [Act.put, gA, gS, gZ, sI, sZ, sS]
  refine wpAnyT_one (i := 14) rfl (by kernel_rfl) (by kernel_rfl) (fun K hK => ?_)
  refine wpx_call _ _ (by kernel_rfl) ((HS1.out _ hV0).1.mono ?_)
  rintro e w1 ⟨rfl, hb1⟩
  refine ⟨_, rfl, ?_⟩
  have hV1 := hV0.trans (hb1.mono hV0.size)
  replace hT := HST.out w1 hV1
  refine hK.out _ _ hT (fun _ => hS) ?_
  clear hK K
  try simp only [Act.put, gA, gS, gZ, sI, sZ, sS]
  refine wpAnyT_one (i := 16) rfl (by kernel_rfl) (by kernel_rfl) (fun K hK => ?_)
  refine wpx_call _ _ (by kernel_rfl) ((HS1.out _ hV1).2.1.mono ?_)
  rintro e w2 ⟨rfl, hb2⟩
  refine ⟨_, rfl, ?_⟩
  have hV2 := hV1.trans (hb2.mono hV1.size)
  replace hT := HST.out w2 hV2
  refine hK.out _ _ hT (fun _ => hS) ?_
  clear hK K
  try simp only [Act.put, gA, gS, gZ, sI, sZ, sS]
  refine wpAnyT_held (i := 17) (v := .bool true) rfl (by kernel_rfl) (by kernel_rfl) (by kernel_rfl) (fun _ _ _ h => h) (by kernel_rfl) hT (fun _ => hS) (by kernel_rfl) ?_ ?_
  · intro wx hSw; go_split_ands; go_simp
  simp only [Act.put, gA, gS, gZ, sI, sZ, sS]
  refine wpAnyT_held (i := 18) (v := ?_) rfl (by kernel_rfl) (by kernel_rfl) (by kernel_rfl) (fun _ _ _ h => h) (by kernel_rfl) hT (fun _ => hS) (by kernel_rfl) ?_ ?_
  rotate_left
  · intro wx hSw; go_split_ands; go_simp; try with_reducible rfl
  simp only [Act.put, gA, gS, gZ, sI, sZ, sS]
  refine wpAnyT_held (i := 19) (v := ?_) rfl (by kernel_rfl) (by kernel_rfl) (by kernel_rfl) (fun _ _ _ h => h) (by kernel_rfl) hT (fun _ => hS) (by kernel_rfl) ?_ ?_
  rotate_left
  · intro wx hSw; go_split_ands; go_simp; try with_reducible rfl
  simp only [Act.put, gA, gS, gZ, sI, sZ, sS]
  refine wpAnyT_held (i := 20) (v := ?_) rfl (by kernel_rfl) (by kernel_rfl) (by kernel_rfl) (fun _ _ _ h => h) (by kernel_rfl) hT (fun _ => hS) (by kernel_rfl) ?_ ?_
  rotate_left
  · intro wx hSw; go_split_ands; go_simp; try with_reducible rfl
  simp only [Act.put, gA, gS, gZ, sI, sZ, sS]
  refine wpAnyT_load (i := 21) (dst := some 67) (ty := 43) (x := .tmp 9) (b := G1) (o := (0)) (cs := FC) (by kernel_rfl) (by kernel_rfl) (by kernel_rfl) (by kernel_rfl) (by kernel_rfl) (fun _ _ _ h => h) (by kernel_rfl) hT (fun _ => hS) (by kernel_rfl) (fun _ h => h.1) uF rfl iF ?_
  simp only [Act.put, gA, gS, gZ, sI, sZ, sS]
  refine wpAnyT_one (i := 22) rfl (by kernel_rfl) (by kernel_rfl) (fun K hK => ?_)
  refine wpx_call _ _ (by kernel_rfl) ((HS1.out _ hV2).2.2.1.mono ?_)
  rintro e w3 ⟨rfl, hb3⟩
  refine ⟨_, rfl, ?_⟩
  have hV3 := hV2.trans (hb3.mono hV2.size)
  replace hT := HST.out w3 hV3
  refine hK.out _ _ hT (fun _ => hS) ?_
  clear hK K
  try simp only [Act.put, gA, gS, gZ, sI, sZ, sS]
  refine wpAnyT_held (i := 23) (v := ?_) rfl (by kernel_rfl) (by kernel_rfl) (by kernel_rfl) (fun _ _ _ h => h) (by kernel_rfl) hT (fun _ => hS) (by kernel_rfl) ?_ ?_
  rotate_left
  · intro wx hSw; go_split_ands; go_simp; try with_reducible rfl
  simp only [Act.put, gA, gS, gZ, sI, sZ, sS]
  refine wpAnyT_held (i := 24) (v := ?_) rfl (by kernel_rfl) (by kernel_rfl) (by kernel_rfl) (fun _ _ _ h => h) (by kernel_rfl) hT (fun _ => hS) (by kernel_rfl) ?_ ?_
  rotate_left
  · intro wx hSw; go_split_ands; go_simp; try with_reducible rfl
  simp only [Act.put, gA, gS, gZ, sI, sZ, sS]
  refine wpAnyT_held (i := 25) (v := ?_) rfl (by kernel_rfl) (by kernel_rfl) (by kernel_rfl) (fun _ _ _ h => h) (by kernel_rfl) hT (fun _ => hS) (by kernel_rfl) ?_ ?_
  rotate_left
  · intro wx hSw; go_split_ands; go_simp; try with_reducible rfl
  simp only [Act.put, gA, gS, gZ, sI, sZ, sS]
  refine wpAnyT_done (by kernel_rfl) ?_ _
  have hB3 := (HS1.out _ hV3).2.2.2
  clear hT hS HS1 HST
  go_wp2
  go_ret
  exact ⟨rfl, hB3⟩
theorem topSums_walkI (seed prev : List Int) (hs : seed.length = 32) (hp : prev.length = 32) (hpi : ∀ x ∈ prev, in8 x) (n : Int) (hn : 0 ≤ n ∧ n ≤ 255) (w : World) (hKT : S.KTab w) (hBT : BTab w) :
    Calls Tryz.prog 11 #[.agg (row .u8 seed), .agg (row .u8 prev), .int .u8 n] w fun e w' => e = .returned (.bool true) ∧ Below w.heap.size w w' := by
  obtain ⟨m, rfl⟩ := Int.eq_ofNat_of_zero_le hn.1
  exact topSums_walk seed prev hs hp hpi m (by have := hn.2; omega) w hKT hBT
end Go.Proofs.YtfainlfiphdaeaaGreatDoor
