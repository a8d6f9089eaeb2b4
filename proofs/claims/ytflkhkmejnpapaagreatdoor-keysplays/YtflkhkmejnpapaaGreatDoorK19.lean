/- Mp Gate5 Kh Kh2 -/
import Derived.Test.YtflkhkmejnpapaaGreatDoorK15
import Derived.Maps.OwnSet
import Derived.DeepKeys3
import Derived.Test.YtflkhkmejnpapaaGreatDoorK05
import Derived.Test.YtflkhkmejnpapaaGreatDoorK18
import Derived.Test.YtflkhkmejnpapaaGreatDoorK04
import Derived.Great.BuildSlice
namespace Go.Proofs.YtflkhkmejnpapaaGreatDoor
open Go.RowKit
set_option maxRecDepth 20000
set_option linter.unusedSimpArgs false
def rawElem (v : Value) : Option (DataW Value × List MemPlace) := some (.held v, [])
theorem dotKeyed : Go.Maps.Keyed Tryz.prog 33 := Go.Maps.Keyed.of_law (deep_law (m := 3) (by omega) (by kernel_rfl) (by kernel_rfl) (by kernel_rfl))
def dotLit (a s : Int) : Lit := .string (keyBytes [.int .u8 a, .int .u32 s])
def okD (a s : Int) : Prop := (0 ≤ a ∧ a ≤ 255) ∧ 0 ≤ s ∧ s ≤ 4294967295
theorem u8_wf {a : Int} (h1 : 0 ≤ a) (h2 : a ≤ 255) : (Lit.int .u8 a).wf = true := by
 show (decide ((0 : Int) ≤ a) && decide (a ≤ 255)) = true
 simp; omega
theorem u32_wf {a : Int} (h1 : 0 ≤ a) (h2 : a ≤ 4294967295) : (Lit.int .u32 a).wf = true := by
 show (decide ((0 : Int) ≤ a) && decide (a ≤ 4294967295)) = true
 simp; omega
theorem litsU8 (d : Nat) (a : Int) (h1 : 0 ≤ a) (h2 : a ≤ 255) : Tryz.prog.keyLits (d + 1) 5 [.int .u8 a] = some [.int .u8 a] := by
 unfold Program.keyLits; simp [Tryz.underlying5, u8_wf h1 h2]
theorem litsU32 (d : Nat) (a : Int) (h1 : 0 ≤ a) (h2 : a ≤ 4294967295) : Tryz.prog.keyLits (d + 1) 31 [.int .u32 a] = some [.int .u32 a] := by
 unfold Program.keyLits; simp [Tryz.underlying31, u32_wf h1 h2]
theorem cellsDot : Tryz.prog.cellsOf 33 = 2 ∧ Tryz.prog.cellsOf 5 = 1 ∧ Tryz.prog.cellsOf 31 = 1 := ⟨by kernel_rfl, by kernel_rfl, by kernel_rfl⟩
theorem litsDot (d : Nat) (a s : Int) (h : okD a s) : Tryz.prog.keyLits (d + 1 + 1) 33 (dotC a s) = some [.int .u8 a, .int .u32 s] := by
 obtain ⟨⟨h1, h2⟩, h3, h4⟩ := h
 obtain ⟨c1, c2, c3⟩ := cellsDot
 unfold Program.keyLits
 simp [Tryz.underlying33, dotC, c1, c2, c3, litsU8 d a h1 h2, litsU32 d s h3 h4]
theorem typesBig : ∃ m, Tryz.prog.types.size = m + 1 := by
 have h : Nat.ble 1 Tryz.prog.types.size = true := by kernel_rfl
 exact ⟨Tryz.prog.types.size - 1, by have := Nat.le_of_ble_eq_true h; omega⟩
theorem dotKey (a s : Int) (h : okD a s) : keyOf Tryz.prog 33 (.agg (dotC a s).toArray) = some (dotLit a s) := by
 obtain ⟨m, hm⟩ := typesBig
 have hk : Tryz.prog.keyType 33 = true := by kernel_rfl
 have hf : Value.formed Tryz.prog 33 (.agg (dotC a s).toArray) = true := by
  simp [Value.formed, Tryz.underlying33, cellsDot.1, dotC]
 unfold keyOf
 rw [Tryz.underlying33, hm]
 simp only [hk, hf, Bool.and_self, if_true, Value.cells]
 rw [litsDot m a s h]
 rfl
theorem dotLit_inj {a s a' s' : Int} (h : okD a s) (h' : okD a' s') (e : dotLit a s = dotLit a' s') : a = a' ∧ s = s' := by
 unfold dotLit at e
 injection e with e
 have := keyLits_inj (litsDot 0 a s h) (litsDot 0 a' s' h') e
 simpa using this
def MapAt (w : World) (b n : Nat) (M : Int → Int → Option Value) : Prop :=
 ∃ D : DataW Value, w.ownsMap Tryz.prog 33 rawElem b n D ∧ ∀ a s, okD a s → ∀ z, D.atKey (dotLit a s) z = (match M a s with | some v => .held v | none => z)
def putM (M : Int → Int → Option Value) (a s : Int) (v : Value) : Int → Int → Option Value := fun a' s' => if a' = a ∧ s' = s then some v else M a' s'
def delM (M : Int → Int → Option Value) (a s : Int) : Int → Int → Option Value := fun a' s' => if a' = a ∧ s' = s then none else M a' s'
theorem MapAt.made (w : World) : MapAt (w.alloc (.map #[] 0)) w.heap.size 0 (fun _ _ => none) := ⟨_, World.ownsMap_made w _ _ _, fun _ _ _ _ => rfl⟩
theorem MapAt.lt {w : World} {b n : Nat} {M : Int → Int → Option Value} (h : MapAt w b n M) : b < w.heap.size := by obtain ⟨D, h, _⟩ := h; exact h.lt
theorem MapAt.congr {w w' : World} {b n : Nat} {M : Int → Int → Option Value} (h : MapAt w b n M) (he : w'.heap[b]? = w.heap[b]?) : MapAt w' b n M := by
 obtain ⟨D, ⟨es, cl, hb, r⟩, hM⟩ := h
 exact ⟨D, ⟨es, cl, he.trans hb, r⟩, hM⟩
theorem MapAt.alloc {w : World} {b n : Nat} {M : Int → Int → Option Value} (h : MapAt w b n M) (o : Obj) : MapAt (w.alloc o) b n M := h.congr (Below.heap_alloc w o b h.lt)
theorem MapAt.below {w w' : World} {b n B : Nat} {M : Int → Int → Option Value} (h : MapAt w b n M) (hb : Below B w w') (hl : b < B) : MapAt w' b n M := h.congr (hb.block b hl)
theorem MapAt.far {w w' : World} {b n : Nat} {M : Int → Int → Option Value} (h : MapAt w b n M) (hb : Below w.heap.size w w') : MapAt w' b n M := h.below hb h.lt
theorem MapAt.setCell {w : World} {b n : Nat} {M : Int → Int → Option Value} (h : MapAt w b n M) {a : Addr} (ha : b ≠ a.block) (u : Value) : MapAt (w.setCell a u) b n M := h.congr (Below.heap_setCell w a u b ha)
theorem MapAt.has {w : World} {b n : Nat} {M : Int → Int → Option Value} (h : MapAt w b n M) : ∃ D : DataW Value, w.ownsMap Tryz.prog 33 rawElem b n D ∧ ∀ a s, okD a s → Maps.has D (dotLit a s) = (M a s).isSome ∧ ∀ z, D.atKey (dotLit a s) z = (match M a s with | some v => .held v | none => z) := by
 obtain ⟨D, h, hM⟩ := h
 refine ⟨D, h, fun a s ho => ⟨?_, hM a s ho⟩⟩
 cases hv : M a s with
 | none => exact Maps.has_false_of_atKey fun z => by rw [hM a s ho, hv]
 | some v => exact Maps.has_true_of_atKey (y := .held v) fun z => by rw [hM a s ho, hv]
theorem MapAt.look {w : World} {b n : Nat} {M : Int → Int → Option Value} (h : MapAt w b n M) {t e : TypeId} (ht : Tryz.prog.underlying t = some (.map 33 e)) {z : Value} (hz : (zeroValue e).run Tryz.prog w = .ok z w) (a s : Int) (ho : okD a s) :
    (Instr.lookup t (.map (some b)) (.agg (dotC a s).toArray) true).run Tryz.prog w = .ok (.tuple #[(M a s).getD z, .bool (M a s).isSome]) w := by
 obtain ⟨D, hD, hM⟩ := h.has
 obtain ⟨h1, h2⟩ := hM a s ho
 obtain ⟨v, ps, hrun, hv⟩ := hD.look_ok dotKeyed ht hz (zd := .held z) (zp := []) rfl (dotKey a s ho)
 rw [hrun, h1]
 unfold rawElem at hv
 injection hv with hv
 injection hv with hv _
 rw [h2] at hv
 cases hm : M a s with
 | none => rw [hm] at hv; injection hv with hv; rw [hv]; rfl
 | some u => rw [hm] at hv; injection hv with hv; rw [hv]; rfl
theorem dotKeyLit (a s : Int) : Go.WideAt.IsKeyLit (dotLit a s) := by unfold dotLit; trivial
theorem MapAt.store {w : World} {b n : Nat} {M : Int → Int → Option Value} (h : MapAt w b n M) {t e : TypeId} (ht : Tryz.prog.underlying t = some (.map 33 e)) (hn : n < maxLen) (a s : Int) (ho : okD a s) (v : Value) :
    ∃ w', (Instr.mapUpdate t (.map (some b)) (.agg (dotC a s).toArray) v).run Tryz.prog w = .ok () w' ∧ MapAt w' b (n + 1) (putM M a s v) ∧ w.grownBy w' (some b) := by
 obtain ⟨D, hD, hM⟩ := h
 obtain ⟨w', hrun, hown, ht'⟩ := hD.store dotKeyed ht hn (dotKey a s ho) (d := .held v) (ps := []) rfl
 refine ⟨w', hrun, ⟨_, hown, fun a' s' ho' z => ?_⟩, ht'.grown⟩
 unfold putM
 by_cases e : a' = a ∧ s' = s
 · obtain ⟨rfl, rfl⟩ := e
   rw [if_pos ⟨rfl, rfl⟩, Maps.atKey_put_same hD.isMap (dotKeyLit _ _)]
 · rw [if_neg e, Maps.atKey_put_other (fun q => e (dotLit_inj ho' ho q)), hM a' s' ho']
theorem MapAt.drop {w : World} {b n : Nat} {M : Int → Int → Option Value} (h : MapAt w b n M) {t e : TypeId} (ht : Tryz.prog.underlying t = some (.map 33 e)) (ty : TypeId) (a s : Int) (ho : okD a s) :
    ∃ w', (Builtin.delete_ #[t, 33] ty #[.map (some b), .agg (dotC a s).toArray]).run Tryz.prog w = .ok (.tuple #[]) w' ∧ MapAt w' b n (delM M a s) ∧ w.grownBy w' (some b) := by
 obtain ⟨D, hD, hM⟩ := h
 obtain ⟨w', hrun, hown, ht'⟩ := hD.drop dotKeyed ht (dotKey a s ho) ty
 refine ⟨w', hrun, ⟨_, hown, fun a' s' ho' z => ?_⟩, ht'.grown⟩
 unfold delM
 by_cases e : a' = a ∧ s' = s
 · obtain ⟨rfl, rfl⟩ := e
   rw [if_pos ⟨rfl, rfl⟩, Maps.atKey_del_same]
 · rw [if_neg e, Maps.atKey_del_other (fun q => e (dotLit_inj ho' ho q)), hM a' s' ho']
open Go Go.RowKit
section
variable {P : Program} {ops : Array Oper} {Q : Exit → Act → World → Prop} {md : Region.Mode} {S : World → Prop} {D : Nat}
theorem wpAnyG_two {i j : Nat} {oi oj : Oper} {fuel : Nat} {listed : Array Bool} {a : Act} {w : World} (hi : ops[i]? = some oi) (hj : ops[j]? = some oj) (hr : Region.ready md ops listed = [i, j])
    (hwi : Region.wanted oi (yielded ops a.tmps) = true) (hwj : Region.wanted oj (yielded ops a.tmps) = true)
    (h1 : ∀ K' : Act → World → Prop, Shut (∀ a w, ((listed.setIfInBounds i true).getD D true = false → S w) → wpAnyG P md ops Q S D fuel (listed.setIfInBounds i true) a w → K' a w) → Oper.wp P oi a w K' Q)
    (h2 : ∀ K' : Act → World → Prop, Shut (∀ a w, ((listed.setIfInBounds j true).getD D true = false → S w) → wpAnyG P md ops Q S D fuel (listed.setIfInBounds j true) a w → K' a w) → Oper.wp P oj a w K' Q) : wpAnyG P md ops Q S D (fuel + 1) listed a w :=
 ⟨fun h0 => (by rw [hr] at h0; cases h0), fun q hq => by
  rw [hr] at hq
  rcases List.mem_cons.1 hq with rfl | hq
  · refine wpOp_step hi (fun K' hK => ?_)
    rw [if_pos hwi]
    exact h1 K' (fun a w h1 h2 => hK a w ⟨h1, h2⟩)
  · obtain rfl : q = j := by simpa using hq
    refine wpOp_step hj (fun K' hK => ?_)
    rw [if_pos hwj]
    exact h2 K' (fun a w h1 h2 => hK a w ⟨h1, h2⟩)⟩
end
theorem meet {α : Prop} (R : Nat → Value → World → Prop) (C : Nat → Value → World → Prop) (use : Veil (∀ g v w, R g v w → C g v w) → α) (prove : ∀ g v w, R g v w → C g v w) : α := use ⟨prove⟩
def ringC (own : Int) (seed : List Int) (b : Nat) (v : Value) : List Value := [.int .u8 own] ++ seed.map (Value.int .u8) ++ [.map (some b), v]
theorem ringC_own (own : Int) (seed : List Int) (b : Nat) (v : Value) : (ringC own seed b v)[0]? = some (.int .u8 own) := rfl
theorem ringC_seed (own : Int) (seed : List Int) (b : Nat) (v : Value) (hs : seed.length = 32) : ((ringC own seed b v).drop 1).take 32 = seed.map (Value.int .u8) := by
 show (seed.map (Value.int .u8) ++ [.map (some b), v]).take 32 = _
 rw [List.take_left' (by simp [hs])]
theorem ringC_map (own : Int) (seed : List Int) (b : Nat) (v : Value) (hs : seed.length = 32) : (ringC own seed b v)[33]? = some (.map (some b)) := by
 show (seed.map (Value.int .u8) ++ [.map (some b), v])[32]? = _
 rw [List.getElem?_append_right (by simp [hs])]; simp [hs]
theorem ringC_added (own : Int) (seed : List Int) (b : Nat) (v : Value) (hs : seed.length = 32) : (ringC own seed b v)[34]? = some v := by
 show (seed.map (Value.int .u8) ++ [.map (some b), v])[33]? = _
 rw [List.getElem?_append_right (by simp [hs])]; simp [hs]
theorem ringC_set (own : Int) (seed : List Int) (b : Nat) (v v' : Value) (hs : seed.length = 32) : (ringC own seed b v).set 34 v' = ringC own seed b v' := by
 show (([.int .u8 own] : List Value) ++ seed.map (Value.int .u8) ++ [.map (some b), v]).set 34 v' = _
 rw [List.set_append_right _ _ (by simp [hs])]
 simp [hs, ringC]
def rowM (M : Int → Int → Option (List Int)) : Int → Int → Option Value := fun a s => (M a s).map fun k => .agg (row .u8 k)
def putK (M : Int → Int → Option (List Int)) (a s : Int) (k : List Int) : Int → Int → Option (List Int) := fun a' s' => if a' = a ∧ s' = s then some k else M a' s'
theorem rowM_put (M : Int → Int → Option (List Int)) (a s : Int) (k : List Int) : rowM (putK M a s k) = putM (rowM M) a s (.agg (row .u8 k)) := by
 funext a' s'
 unfold rowM putK putM
 by_cases e : a' = a ∧ s' = s
 · rw [if_pos e, if_pos e]; rfl
 · rw [if_neg e, if_neg e]
structure RingAt (w : World) (base H : Nat) (own : Int) (seed : List Int) (b : Nat) (M : Int → Int → Option (List Int)) (v : Value) (L : List (Int × Int)) : Prop where
 box : CellsAt w H 62 (ringC own seed b v)
 map : MapAt w b L.length (rowM M)
 added : OwnD w base v L
 seed32 : seed.length = 32
 is32 : ∀ a s k, M a s = some k → k.length = 32
 lenL : L.length ≤ 16
 baseH : base ≤ H
 baseB : base ≤ b
def ringP (H b : Nat) (v : Value) (k : Nat) : Prop := k = H ∨ k = b ∨ v.ownBlock = some k
theorem RingAt.neHB {w : World} {base H : Nat} {own : Int} {seed : List Int} {b : Nat} {M : Int → Int → Option (List Int)} {v : Value} {L : List (Int × Int)} (h : RingAt w base H own seed b M v L) : b ≠ H := by
 intro e
 subst e
 obtain ⟨D, ⟨es, cl, hb, _⟩, _⟩ := h.map
 have := h.box
 unfold CellsAt at this
 rw [hb] at this
 cases this
theorem RingAt.neV {w : World} {base H : Nat} {own : Int} {seed : List Int} {b : Nat} {M : Int → Int → Option (List Int)} {v : Value} {L : List (Int × Int)} (h : RingAt w base H own seed b M v L) (g : Nat) (hg : v.ownBlock = some g) : g ≠ H ∧ g ≠ b := by
 obtain ⟨_, _, cur, hc⟩ := h.added.blockLt g hg
 refine ⟨fun e => ?_, fun e => ?_⟩
 · subst e
   have := h.box
   unfold CellsAt at this
   rw [hc] at this
   injection this with this
   injection this with _ e2 _
   exact absurd e2 (by decide)
 · subst e
   obtain ⟨D, ⟨es, cl, hb, _⟩, _⟩ := h.map
   rw [hb] at hc
   cases hc
theorem RingAt.congr {w w' : World} {base H : Nat} {own : Int} {seed : List Int} {b : Nat} {M : Int → Int → Option (List Int)} {v : Value} {L : List (Int × Int)} (h : RingAt w base H own seed b M v L) (hk : ∀ g, ringP H b v g → w'.heap[g]? = w.heap[g]?) : RingAt w' base H own seed b M v L :=
 ⟨h.box.congr (hk H (.inl rfl)), h.map.congr (hk b (.inr (.inl rfl))), h.added.congr fun g hg => hk g (.inr (.inr hg)), h.seed32, h.is32, h.lenL, h.baseH, h.baseB⟩
theorem RingAt.inside {w : World} {base H : Nat} {own : Int} {seed : List Int} {b : Nat} {M : Int → Int → Option (List Int)} {v : Value} {L : List (Int × Int)} (h : RingAt w base H own seed b M v L) (g : Nat) (hg : ringP H b v g) : g < w.heap.size ∧ base ≤ g := by
 rcases hg with rfl | rfl | hg
 · exact ⟨h.box.lt, h.baseH⟩
 · exact ⟨h.map.lt, h.baseB⟩
 · obtain ⟨h1, h2, _⟩ := h.added.blockLt g hg
   exact ⟨h1, h2⟩
theorem RingAt.far {w w' : World} {base H : Nat} {own : Int} {seed : List Int} {b : Nat} {M : Int → Int → Option (List Int)} {v : Value} {L : List (Int × Int)} (h : RingAt w base H own seed b M v L) (hb : Below w.heap.size w w') : RingAt w' base H own seed b M v L := h.congr fun g hg => hb.block g (h.inside g hg).1
theorem RingAt.turn {w w' : World} {base H : Nat} {own : Int} {seed : List Int} {b : Nat} {M : Int → Int → Option (List Int)} {v : Value} {L : List (Int × Int)} {p : Nat → Prop} (h : RingAt w base H own seed b M v L) (ht : Turn p w w') (hp : ∀ g, ringP H b v g → ¬ p g) : RingAt w' base H own seed b M v L := h.congr fun g hg => ht.block g (h.inside g hg).1 (hp g hg)
theorem mapDotKey : Tryz.prog.underlying 60 = some (.map 33 23) := by kernel_rfl
theorem sizeDotK : (Tryz.prog.info? 33).map (·.size) = some 2 := by kernel_rfl
theorem sizeKeyK : (Tryz.prog.info? 23).map (·.size) = some 32 := by kernel_rfl
theorem wp_mapUpd {P : Program} {o : Oper} {a : Act} {w w' : World} {K : Act → World → Prop} {Q : Exit → Act → World → Prop} (t : TypeId) (m x y : Operand) (ho : o.op = .mapUpdate t m x y) (mv xv yv : Value) (hm : a.eval m = mv) (hx : a.eval x = xv) (hy : a.eval y = yv)
    (hrun : (Instr.mapUpdate t mv xv yv).run P w = .ok () w') (h : K (a.put o.dst undef) w') : o.wp P a w K Q := by
 unfold Oper.wp
 simp [execOp, ho, hm, hx, hy, hrun, Result.andThen]
 exact h
theorem Holds.cellsAt {w : World} {g : Nat} {k : IntKind} {t : TypeId} {l : List Int} (h : Holds w g k t l) : CellsAt w g t (l.map (Value.int k)) := h
set_option maxHeartbeats 4000000 in
theorem hold_any (base H : Nat) (own : Int) (seed : List Int) (b : Nat) (M : Int → Int → Option (List Int)) (v : Value) (L : List (Int × Int)) (a s : Int) (k : List Int) (w : World) (hR : RingAt w base H own seed b M v L) (hl : L.length < 16) (ho : okD a s) (hk : k.length = 32) (hbase : base ≤ w.heap.size) :
    Calls Tryz.prog 30 #[.pointer (some ⟨H, 0, none⟩), .agg (dotC a s).toArray, .agg (row .u8 k)] w fun e w' => (∃ r, e = .returned r) ∧ ∃ v', RingAt w' base H own seed b (putK M a s k) v' (L ++ [(a, s)]) ∧ Turn (ringP H b v) w w' ∧ (v'.ownBlock = v.ownBlock ∨ ∃ g, v'.ownBlock = some g ∧ w.heap.size ≤ g) := by
 have hs32 := hR.seed32
 have hd0 := CellsAt.new w 33 (dotC a s)
 have hk0 := Holds.new (w.alloc (.cells (dotC a s).toArray 33)) .u8 23 k
 rw [World.size_alloc] at hk0
 have hd1 := hd0.alloc (.cells (row .u8 k) 23)
 have hB : Below w.heap.size w ((w.alloc (.cells (dotC a s).toArray 33)).alloc (.cells (row .u8 k) 23)) := ((Below.refl _ _).alloc (Nat.le_refl _) _).alloc (by simp) _
 have hR0 := hR.far hB
 have hsz0 : w.heap.size ≤ ((w.alloc (.cells (dotC a s).toArray 33)).alloc (.cells (row .u8 k) 23)).heap.size := hB.size
 have hin := hR.inside
 have uD : Tryz.prog.underlying 33 = _ := Tryz.underlying33
 have uK : Tryz.prog.underlying 23 = _ := Tryz.underlying23
 have iD : (Tryz.prog.info? 33).map (·.size) = some (dotC a s).length := sizeDotK
 have iK : (Tryz.prog.info? 23).map (·.size) = some (k.map (Value.int .u8)).length := by rw [List.length_map, hk]; exact sizeKeyK
 go_enter Tryz.func30, Tryz.ntmps30
 go_upto_region 1 with fail
 refine forget (p := fun y => Code.wp _ _ _ _ y) (fun W => Below w.heap.size w W ∧ RingAt W base H own seed b M v L ∧ CellsAt W w.heap.size 33 (dotC a s) ∧ Holds W (w.heap.size + 1) .u8 23 k) ⟨hB, hR0, hd1, hk0⟩ ?_
 clear hB hR0 hd1 hk0 hd0 hsz0
 rintro W ⟨hB, hR0, hd0, hk0⟩
 have hkr := hk0.cellsAt.range 0 32
 rw [List.drop_zero, List.take_of_length_le (by simp [hk])] at hkr
 refine wp_region_gate (fun w' => w'.cell? ⟨H, 33, none⟩ = some (.map (some b)) ∧ w'.rangeAt w.heap.size 0 (dotC a s) ∧ w'.rangeAt (w.heap.size + 1) 0 (k.map (Value.int .u8))) 6 (by kernel_rfl) ?_
 have hS : (fun w' : World => w'.cell? ⟨H, 33, none⟩ = some (.map (some b)) ∧ w'.rangeAt w.heap.size 0 (dotC a s) ∧ w'.rangeAt (w.heap.size + 1) 0 (k.map (Value.int .u8))) W.drew := ⟨by have := hR0.box.cell 33; rw [ringC_map _ _ _ _ hs32] at this; exact this, hd0.range 0 2, hkr⟩
 refine gaA 0 _ hS ?_
 simp only [Act.put, gA, gS, gZ, sI, sZ, sS]
 refine gaA 1 _ hS ?_
 simp only [Act.put, gA, gS, gZ, sI, sZ, sS]
 refine gaA 2 _ hS ?_
 simp only [Act.put, gA, gS, gZ, sI, sZ, sS]
 refine grA 3 _ hS ?_
 simp only [Act.put, gA, gS, gZ, sI, sZ, sS]
 refine wpAnyG_load (i := 4) (dst := some 10) (ty := 33) (x := .tmp 4) (b := w.heap.size) (o := (0)) (cs := (dotC a s)) (by kernel_rfl) (by kernel_rfl) (by kernel_rfl) (by kernel_rfl) (by kernel_rfl) (fun _ _ _ h => h) (by kernel_rfl) (by kernel_rfl) (by kernel_rfl) hS (by kernel_rfl) (fun _ h => h.2.1) uD rfl iD ?_
 simp only [Act.put, gA, gS, gZ, sI, sZ, sS]
 refine wpAnyG_load (i := 5) (dst := some 11) (ty := 23) (x := .tmp 5) (b := (w.heap.size + 1)) (o := (0)) (cs := (k.map (Value.int .u8))) (by kernel_rfl) (by kernel_rfl) (by kernel_rfl) (by kernel_rfl) (by kernel_rfl) (fun _ _ _ h => h) (by kernel_rfl) (by kernel_rfl) (by kernel_rfl) hS (by kernel_rfl) (fun _ h => h.2.2) uK rfl iK ?_
 simp only [Act.put, gA, gS, gZ, sI, sZ, sS]
 refine wpAnyG_one (i := 6) rfl (by kernel_rfl) (by kernel_rfl) (fun K hK => ?_)
 obtain ⟨W1, hrun, hM1, hg1⟩ := (hR0.map.congr (w' := W.drew) rfl).store mapDotKey (by simp [maxLen]; omega) a s ho (.agg (row .u8 k))
 refine wp_mapUpd 60 _ _ _ rfl _ _ _ rfl rfl rfl hrun ?_
 refine hK.out _ _ (fun h => absurd (show true = false from h) (by decide)) ?_
 clear hK K
 try simp only [Act.put, gA, gS, gZ, sI, sZ, sS]
 refine wpAnyG_done (by kernel_rfl) ?_ _
 have hbH := hR0.neHB
 have hlt : ∀ g, g < w.heap.size + 2 → g < W.drew.heap.size := fun g hg => Nat.lt_of_lt_of_le hg hk0.lt
 have hT1 : Turn (ringP H b v) w W1 := (Turn.of_below hB).trans ((Turn.of_below (w' := W.drew) (Below.refl _ _).drew).trans (Turn.of_grown hg1 fun k hk => by cases hk; exact .inr (.inl rfl)))
 have hbx : b < w.heap.size := (hin b (.inr (.inl rfl))).1
 have hHx : H < w.heap.size := (hin H (.inl rfl)).1
 have hbox1 : CellsAt W1 H 62 (ringC own seed b v) := hR0.box.congr (hg1.block H (hlt H (by omega)) (by simpa using fun e => hbH e.symm))
 have hd1 : CellsAt W1 w.heap.size 33 (dotC a s) := hd0.congr (hg1.block _ (hlt _ (by omega)) (by simp; omega))
 have hv1 : OwnD W1 base v L := hR0.added.congr fun g hg => hg1.block g (hlt g (by have := (hin g (.inr (.inr hg))).1; omega)) (by simp; intro e; exact (hR0.neV g hg).2 e)
 refine forget (p := fun y => Exit.then _ _ _ _ y) (fun W1 => Turn (ringP H b v) w W1 ∧ CellsAt W1 H 62 (ringC own seed b v) ∧ CellsAt W1 w.heap.size 33 (dotC a s) ∧ OwnD W1 base v L ∧ MapAt W1 b (L.length + 1) (putM (rowM M) a s (.agg (row .u8 k)))) ⟨hT1, hbox1, hd1, hv1, hM1⟩ ?_
 have HNV : Veil (∀ g, v.ownBlock = some g → g ≠ H ∧ g ≠ b ∧ g < w.heap.size) := ⟨fun g hg => ⟨(hR0.neV g hg).1, (hR0.neV g hg).2, (hin g (.inr (.inr hg))).1⟩⟩
 clear hT1 hbox1 hd1 hv1 hM1 hg1 hrun hS hB hR0 hd0 hk0 hkr iK uK hlt
 clear W1 W
 rintro W ⟨hT1, hbox1, hd1, hv1, hM1⟩
 go_upto_region 2 with fail
 have c34 := hbox1.cell 34
 rw [ringC_added _ _ _ _ hs32] at c34
 have hW0 : w.heap.size ≤ W.heap.size := hT1.size
 have hWl : w.heap.size < W.heap.size := hd1.lt
 refine wp_region_gate (fun w' => w'.cell? ⟨H, 34, none⟩ = some v ∧ w'.rangeAt w.heap.size 0 (dotC a s)) 10 (by kernel_rfl) ?_
 have hS : (fun w' : World => w'.cell? ⟨H, 34, none⟩ = some v ∧ w'.rangeAt w.heap.size 0 (dotC a s)) W.drew := ⟨c34, hd1.range 0 2⟩
 refine gaA 0 _ hS ?_
 simp only [Act.put, gA, gS, gZ, sI, sZ, sS]
 refine gaA 1 _ hS ?_
 simp only [Act.put, gA, gS, gZ, sI, sZ, sS]
 refine gaA 2 _ hS ?_
 simp only [Act.put, gA, gS, gZ, sI, sZ, sS]
 refine gaA 3 _ hS ?_
 simp only [Act.put, gA, gS, gZ, sI, sZ, sS]
 refine grA 4 _ hS ?_
 simp only [Act.put, gA, gS, gZ, sI, sZ, sS]
 refine wpAnyG_load (i := 5) (dst := some 17) (ty := 33) (x := .tmp 4) (b := w.heap.size) (o := (0)) (cs := (dotC a s)) (by kernel_rfl) (by kernel_rfl) (by kernel_rfl) (by kernel_rfl) (by kernel_rfl) (fun _ _ _ h => h) (by kernel_rfl) (by kernel_rfl) (by kernel_rfl) hS (by kernel_rfl) (fun _ h => h.2) uD rfl iD ?_
 simp only [Act.put, gA, gS, gZ, sI, sZ, sS]
 refine wpAnyG_one (i := 6) rfl (by kernel_rfl) (by kernel_rfl) (fun K hK => ?_)
 obtain ⟨iw, hiw, hwz, hws, hwb⟩ := info_parts infoDot
 refine wp_buildSlice 58 33 1 _ rfl (dotC a s).toArray iw _ Tryz.underlying58 hiw hwz (by rw [hws]; decide) (by rw [hws]; decide) (by rw [hws]; kernel_rfl) ?_
 have hbx2 := hbox1.alloc (.cells (dotC a s).toArray 33)
 have hd2 := hd1.alloc (.cells (dotC a s).toArray 33)
 have hv2 : OwnD (W.drew.alloc (.cells (dotC a s).toArray 33)) base v L := hv1.congr fun g hg => Below.heap_alloc W _ g (by have := (HNV.out g hg).2.2; omega)
 have hM2 := hM1.alloc (.cells (dotC a s).toArray 33)
 have hn2 := CellsAt.new W 33 (dotC a s)
 have hT2 : Turn (ringP H b v) w (W.drew.alloc (.cells (dotC a s).toArray 33)) := hT1.trans (Turn.of_below ((Below.refl _ _).drew.alloc (Nat.le_refl _) _))
 have hsz2 : (W.drew.alloc (.cells (dotC a s).toArray 33)).heap.size = W.heap.size + 1 := by simp
 replace hS : (fun w' : World => w'.cell? ⟨H, 34, none⟩ = some v ∧ w'.rangeAt w.heap.size 0 (dotC a s)) (W.drew.alloc (.cells (dotC a s).toArray 33)) := ⟨by have := hbx2.cell 34; rw [ringC_added _ _ _ _ hs32] at this; exact this, hd2.range 0 2⟩
 refine hK.out _ _ (fun _ => hS) ?_
 clear hK K
 try simp only [Act.put, gA, gS, gZ, sI, sZ, sS]
 refine wpAnyG_one (i := 7) rfl (by kernel_rfl) (by kernel_rfl) (fun K hK => ?_)
 refine wp_appD _ _ rfl base v L rfl hv2 a s W.heap.size rfl (hn2.range 0 2) (by omega) (by rw [hsz2]; omega) ?_
 intro v3 W3 hv3 hg3 hw3
 rw [hsz2] at hw3
 have hk3 : ∀ g, g < W.heap.size → v.ownBlock ≠ some g → W3.heap[g]? = W.heap[g]? := fun g hg hn => (hg3.block g (by rw [hsz2]; omega) (fun e => hn e.symm)).trans (Below.heap_alloc W _ g hg)
 have hbox3 : CellsAt W3 H 62 (ringC own seed b v) := hbox1.congr (hk3 H (by omega) (fun e => (HNV.out H e).1 rfl))
 have hd3 : CellsAt W3 w.heap.size 33 (dotC a s) := hd1.congr (hk3 _ hWl (fun e => by have := (HNV.out _ e).2.2; omega))
 have hM3 : MapAt W3 b (L.length + 1) (putM (rowM M) a s (.agg (row .u8 k))) := hM1.congr (hk3 b (by omega) (fun e => (HNV.out b e).2.1 rfl))
 have hT3 : Turn (ringP H b v) w W3 := hT2.trans (Turn.of_grown hg3 fun k hk => .inr (.inr hk))
 replace hS : (fun w' : World => w'.cell? ⟨H, 34, none⟩ = some v ∧ w'.rangeAt w.heap.size 0 (dotC a s)) W3 := ⟨by have := hbox3.cell 34; rw [ringC_added _ _ _ _ hs32] at this; exact this, hd3.range 0 2⟩
 refine hK.out _ _ (fun _ => hS) ?_
 clear hK K
 try simp only [Act.put, gA, gS, gZ, sI, sZ, sS]
 refine gaA 8 _ hS ?_
 simp only [Act.put, gA, gS, gZ, sI, sZ, sS]
 refine gaA 9 _ hS ?_
 simp only [Act.put, gA, gS, gZ, sI, sZ, sS]
 refine wpAnyG_one (i := 10) rfl (by kernel_rfl) (by kernel_rfl) (fun K hK => ?_)
 have c3 := hS.1
 have f3 := hbox3.frozen 34
 have HV3 : Veil (OwnD W3 base v3 (L ++ [(a, s)])) := ⟨hv3⟩
 have HW3 : Veil (v3.ownBlock = v.ownBlock ∨ v3.ownBlock = some (W.heap.size + 1)) := ⟨hw3⟩
 obtain ⟨x3, q3, hx3⟩ := hv3.isSlice
 clear hv3 hw3 hg3
 subst hx3
 go_simp
 refine hK.out _ _ (fun h => absurd (show true = false from h) (by decide)) ?_
 clear hK K
 try simp only [Act.put, gA, gS, gZ, sI, sZ, sS]
 refine wpAnyG_done (by kernel_rfl) ?_ _
 go_wp2
 go_end0
 have hlen : (L ++ [(a, s)]).length = L.length + 1 := by simp
 rw [hlen] at HV3 HW3
 refine ⟨⟨_, rfl⟩, .slice x3 (L.length + 1) q3, ⟨?_, ?_, ?_, hs32, ?_, by rw [hlen]; omega, hR.baseH, hR.baseB⟩, ?_, ?_⟩
 · have := hbox3.set 34 (.slice x3 (L.length + 1) q3)
   rw [ringC_set _ _ _ _ _ hs32] at this
   exact this
 · rw [hlen, rowM_put]; exact hM3.setCell (by simpa using hbH) _
 · refine HV3.out.congr fun g hg => Below.heap_setCell W3 _ _ g ?_
   intro e
   have e' : g = H := e
   subst e'
   rcases HW3.out with h | h
   · rw [h] at hg; exact (HNV.out g hg).1 rfl
   · rw [h] at hg; cases hg; omega
 · intro a' s' k' h
   unfold putK at h
   split at h
   · injection h with h; rw [← h]; exact hk
   · exact hR.is32 a' s' k' h
 · exact hT3.trans (Turn.of_setCell W3 (a := ⟨H, 34, none⟩) (.inl rfl) _)
 · rcases HW3.out with h | h
   · exact .inl h
   · exact .inr ⟨_, h, by omega⟩
end Go.Proofs.YtflkhkmejnpapaaGreatDoor
