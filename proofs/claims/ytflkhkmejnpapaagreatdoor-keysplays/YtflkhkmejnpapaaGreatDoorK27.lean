/- Gate4 Eqd Kr5 -/
import Derived.Test.YtflkhkmejnpapaaGreatDoorK26
import Derived.Deep.MidRow
import Derived.Test.YtflkhkmejnpapaaGreatDoorK15
import Derived.Test.YtflkhkmejnpapaaGreatDoorK05
import Derived.Laws.StructEq
namespace Go.Proofs.YtflkhkmejnpapaaGreatDoor
open Go Go.RowKit
section
variable {P : Program} {ops : Array Oper} {Q : Exit → Act → World → Prop} {md : Region.Mode} {T S : World → Prop} {D : Nat}
theorem wpAnyT_load {i : Nat} {dst : Option Tmp} {ty : TypeId} {x : Operand} {b o : Nat} {cs : List Value} {d : TypeDesc} {fuel : Nat} {listed : Array Bool} {a : Act} {w : World}
    (hop : (ops[i]?).map (fun o => (o.dst, o.op)) = some (dst, .load ty x)) (hw : (ops[i]?).map (fun o => Region.wanted o (yielded ops a.tmps)) = some true)
    (hs : Region.noSelect ops = true) (hf : Region.free md ops listed i = true) (hr : (Region.ready md ops listed).contains i = true)
    (hQ : ∀ c a w, Q (.panic c) (a.put dst (.agg cs.toArray)) w → Q (.panic c) a w) (hD : (i == D) = false) (hT : T w) (hS : listed.getD D true = false → S w)
    (hx : a.eval x = .pointer (some ⟨b, o, none⟩)) (hc : ∀ w, T w → w.rangeAt b o cs) (hu : P.underlying ty = some d) (hd : d.isRow = true) (hi : (P.info? ty).map (·.size) = some cs.length)
    (h : wpAnyT P md ops Q T S D fuel (listed.setIfInBounds i true) (a.put dst (.agg cs.toArray)) w) : wpAnyT P md ops Q T S D (fuel + 1) listed a w := by
 cases ho : ops[i]? with
 | none => rw [ho] at hop; cases hop
 | some oi =>
  rw [ho] at hop hw
  simp only [Option.map_some, Option.some.injEq, Prod.mk.injEq] at hop hw
  obtain ⟨rfl, hop⟩ := hop
  exact wpAnyT_first (U := T) ho (Region.noSelect_spec hs) hQ (by simpa using hD) (.inl fun _ h => h) fuel listed a w (Region.free_spec ho hf) (by simpa using hr) (.inl fun _ h => h) (yieldsIf_load_mid hw ty x hop b o hx cs d hc hu hd hi) hT hS h
theorem gl (i dst : Nat) (ty : TypeId) (x b o : Nat) (cs : List Value) {d : TypeDesc} {fuel : Nat} {listed : Array Bool} {a : Act} {w : World}
    (hop : (ops[i]?).map (fun o => (o.dst, o.op)) = some (some dst, .load ty (.tmp x))) (hw : (ops[i]?).map (fun o => Region.wanted o (yielded ops a.tmps)) = some true)
    (hb : (Region.noSelect ops && (Region.free md ops listed i && ((Region.ready md ops listed).contains i && !(i == D)))) = true)
    (hQ : ∀ c a w, Q (.panic c) (a.put (some dst) (.agg cs.toArray)) w → Q (.panic c) a w) (hT : T w) (hS : S w)
    (hx : a.eval (.tmp x) = .pointer (some ⟨b, o, none⟩)) (hc : ∀ w, T w → w.rangeAt b o cs) (hu : P.underlying ty = some d) (hd : d.isRow = true) (hi : (P.info? ty).map (·.size) = some cs.length)
    (h : wpAnyT P md ops Q T S D fuel (listed.setIfInBounds i true) (a.put (some dst) (.agg cs.toArray)) w) : wpAnyT P md ops Q T S D (fuel + 1) listed a w := by
 rw [Bool.and_eq_true, Bool.and_eq_true, Bool.and_eq_true, Bool.not_eq_true'] at hb
 exact wpAnyT_load hop hw hb.1 hb.2.1 hb.2.2.1 hQ hb.2.2.2 hT (fun _ => hS) hx hc hu hd hi h
end
open Go.RowKit
set_option maxRecDepth 20000
set_option linter.unusedSimpArgs false
theorem part_midE {P : Program} (w : World) (t : TypeId) (n : Nat) (d : TypeDesc) (cs : List Value) (off : Nat) (hu : P.underlying t = some d) (hd : (match d with | .struct _ | .array _ _ => true | _ => false) = true) (hi : (P.info? t).map (·.size) = some n) :
    (part t cs.toArray off).run P w = .ok (.agg ((cs.drop off).take n).toArray) w := by
 cases hq : P.info? t with
 | none => simp [hq] at hi
 | some i =>
  have hs : i.size = n := by simpa [hq] using hi
  cases d <;> simp_all [part, isAgg, run_underlying hu, sizeOf, typeInfo, List.extract]
theorem part_one {P : Program} (w : World) (t : TypeId) (k : IntKind) (cs : List Value) (off : Nat) (v : Value) (hu : P.underlying t = some (.int k)) (hv : cs[off]? = some v) : (part t cs.toArray off).run P w = .ok v w := by
 simp [part, isAgg, run_underlying hu, hv]
theorem eqFields_2 {P : Program} (w : World) (d : Nat) (xs ys : Array Value) (t1 t2 : TypeId) (o1 o2 : Nat) (a1 b1 a2 b2 : Value) (r1 r2 : Bool) (h1 : (part t1 xs o1).run P w = .ok a1 w) (k1 : (part t1 ys o1).run P w = .ok b1 w) (h2 : (part t2 xs o2).run P w = .ok a2 w) (k2 : (part t2 ys o2).run P w = .ok b2 w)
    (e1 : (Op.equalIn d t1 a1 b1).run P w = .ok r1 w) (e2 : (Op.equalIn d t2 a2 b2).run P w = .ok r2 w) : ∀ L : List Field, L.map (fun f => (f.name != "_", f.type, f.offset)) = [(true, t1, o1), (true, t2, o2)] → (Op.eqFields d xs ys L).run P w = .ok (r1 && r2) w
 | [], hf => by simp at hf
 | [_], hf => by simp at hf
 | _ :: _ :: _ :: _, hf => by simp at hf
 | [f, g], hf => by
  simp only [List.map_cons, List.map_nil, List.cons.injEq, Prod.mk.injEq, and_true, bne_iff_ne, ne_eq] at hf
  obtain ⟨⟨q1, q2, q3⟩, p1, p2, p3⟩ := hf
  cases r1 <;> cases r2 <;> simp only [Op.eqFields, q1, q2, q3, p1, p2, p3, ne_eq, not_false_eq_true, if_true, Sem.run_bind, h1, h2, k1, k2, e1, e2, Result.andThen_ok, Bool.not_true, Bool.not_false, Bool.false_eq_true, if_false, Sem.run_pure, Bool.and_true, Bool.and_false]
theorem eqFields_3 {P : Program} (w : World) (d : Nat) (xs ys : Array Value) (t1 t2 t3 : TypeId) (o1 o2 o3 : Nat) (a1 b1 a2 b2 a3 b3 : Value) (r1 r2 r3 : Bool) (h1 : (part t1 xs o1).run P w = .ok a1 w) (k1 : (part t1 ys o1).run P w = .ok b1 w) (h2 : (part t2 xs o2).run P w = .ok a2 w) (k2 : (part t2 ys o2).run P w = .ok b2 w) (h3 : (part t3 xs o3).run P w = .ok a3 w) (k3 : (part t3 ys o3).run P w = .ok b3 w)
    (e1 : (Op.equalIn d t1 a1 b1).run P w = .ok r1 w) (e2 : (Op.equalIn d t2 a2 b2).run P w = .ok r2 w) (e3 : (Op.equalIn d t3 a3 b3).run P w = .ok r3 w) : ∀ L : List Field, L.map (fun f => (f.name != "_", f.type, f.offset)) = [(true, t1, o1), (true, t2, o2), (true, t3, o3)] → (Op.eqFields d xs ys L).run P w = .ok (r1 && r2 && r3) w
 | [], hf => by simp at hf
 | [_], hf => by simp at hf
 | [_, _], hf => by simp at hf
 | _ :: _ :: _ :: _ :: _, hf => by simp at hf
 | [f, g, i], hf => by
  simp only [List.map_cons, List.map_nil, List.cons.injEq, Prod.mk.injEq, and_true, bne_iff_ne, ne_eq] at hf
  obtain ⟨⟨q1, q2, q3⟩, ⟨p1, p2, p3⟩, s1, s2, s3⟩ := hf
  cases r1 <;> cases r2 <;> cases r3 <;> simp only [Op.eqFields, q1, q2, q3, p1, p2, p3, s1, s2, s3, ne_eq, not_false_eq_true, if_true, Sem.run_bind, h1, h2, h3, k1, k2, k3, e1, e2, e3, Result.andThen_ok, Bool.not_true, Bool.not_false, Bool.false_eq_true, if_false, Sem.run_pure, Bool.and_true, Bool.and_false]
theorem dot_fields : (Tryz.prog.fieldsOf 33).toList.map (fun f => (f.name != "_", f.type, f.offset)) = [(true, 5, 0), (true, 31, 1)] := by kernel_rfl
theorem dot_under : Tryz.prog.underlying 33 = some (.struct (Tryz.prog.fieldsOf 33)) := by kernel_rfl
theorem dot_held : Tryz.prog.stoodInHeld 33 = false := by kernel_rfl
theorem dot_eqIn (d : Nat) (a s a' s' : Int) (wx : World) : (Op.equalIn (d + 1 + 1) 33 (.agg (dotC a s).toArray) (.agg (dotC a' s').toArray)).run Tryz.prog wx = .ok ((a == a') && (s == s')) wx := by
 rw [run_equalIn_struct wx _ 33 _ _ dot_under dot_held]
 exact eqFields_2 wx _ _ _ _ _ _ _ (.int .u8 a) (.int .u8 a') (.int .u32 s) (.int .u32 s') _ _ (part_one wx _ _ (dotC a s) 0 _ Tryz.underlying5 rfl) (part_one wx _ _ (dotC a' s') 0 _ Tryz.underlying5 rfl) (part_one wx _ _ (dotC a s) 1 _ Tryz.underlying31 rfl) (part_one wx _ _ (dotC a' s') 1 _ Tryz.underlying31 rfl)
  (run_equalIn_int wx d 5 .u8 .u8 a a' Tryz.underlying5) (run_equalIn_int wx d 31 .u32 .u32 s s' Tryz.underlying31) _ dot_fields
theorem dot_eql (a s a' s' : Int) (wx : World) : (binOp BinOp.eql 33 (.agg (dotC a s).toArray) (.agg (dotC a' s').toArray)).run Tryz.prog wx = .ok (.bool ((a == a') && (s == s'))) wx := by
 rw [run_eql_struct, dot_eqIn 9998]; rfl
theorem dot_neq (a s a' s' : Int) (wx : World) : (binOp BinOp.neq 33 (.agg (dotC a s).toArray) (.agg (dotC a' s').toArray)).run Tryz.prog wx = .ok (.bool (!((a == a') && (s == s')))) wx := by
 rw [run_neq_struct, dot_eqIn 9998]; rfl
theorem cells8 : Tryz.prog.cellsOf 5 = 1 := by kernel_rfl
theorem info8 : (Tryz.prog.info? 5).isSome = true := by kernel_rfl
theorem key_eqIn (d : Nat) (l m : List Int) (hl : l.length = 32) (hm : m.length = 32) (wx : World) : (Op.equalIn (d + 1 + 1) 23 (.agg (l.map (Value.int .u8)).toArray) (.agg (m.map (Value.int .u8)).toArray)).run Tryz.prog wx = .ok (l == m) wx :=
 run_equalIn_rows wx d .u8 l m Tryz.underlying23 Tryz.underlying5 cells8 info8 hl hm
theorem key_eql (l m : List Int) (hl : l.length = 32) (hm : m.length = 32) (wx : World) : (binOp BinOp.eql 23 (.agg (l.map (Value.int .u8)).toArray) (.agg (m.map (Value.int .u8)).toArray)).run Tryz.prog wx = .ok (.bool (l == m)) wx := by
 rw [run_eql_struct, key_eqIn 9998 l m hl hm]; rfl
theorem wrap_fields : (Tryz.prog.fieldsOf 36).toList.map (fun f => (f.name != "_", f.type, f.offset)) = [(true, 5, 0), (true, 33, 1), (true, 34, 3)] := by kernel_rfl
theorem wrap_under : Tryz.prog.underlying 36 = some (.struct (Tryz.prog.fieldsOf 36)) := by kernel_rfl
theorem wrap_held : Tryz.prog.stoodInHeld 36 = false := by kernel_rfl
theorem sizeData : (Tryz.prog.info? 34).map (·.size) = some 48 := by kernel_rfl
def wpEq (e f : Wp) : Bool := (e.too == f.too) && ((e.ea == f.ea) && (e.es == f.es)) && (e.data == f.data)
theorem wpEq_iff (e f : Wp) : wpEq e f = true ↔ e = f := by
 obtain ⟨a, b, c, d⟩ := e
 obtain ⟨a', b', c', d'⟩ := f
 unfold wpEq
 simp only [Bool.and_eq_true, beq_iff_eq, Wp.mk.injEq, and_assoc]
theorem wrap_eqIn (e f : Wp) (he : e.data.length = 48) (hf : f.data.length = 48) (wx : World) : (Op.equalIn 10000 36 (.agg e.cells.toArray) (.agg f.cells.toArray)).run Tryz.prog wx = .ok (wpEq e f) wx := by
 obtain ⟨_, q1, q2, q3, _⟩ := wp_parts e he
 obtain ⟨_, p1, p2, p3, _⟩ := wp_parts f hf
 have s1 := part_midE wx 33 2 _ e.cells 1 Tryz.underlying33 rfl sizeDot
 have s2 := part_midE wx 33 2 _ f.cells 1 Tryz.underlying33 rfl sizeDot
 have s3 := part_midE wx 34 48 _ e.cells 3 Tryz.underlying34 rfl sizeData
 have s4 := part_midE wx 34 48 _ f.cells 3 Tryz.underlying34 rfl sizeData
 rw [q2] at s1
 rw [p2] at s2
 rw [q3] at s3
 rw [p3] at s4
 rw [run_equalIn_struct wx 9999 36 _ _ wrap_under wrap_held]
 exact eqFields_3 wx _ _ _ _ _ _ _ _ _ (.int .u8 e.too) (.int .u8 f.too) _ _ _ _ _ _ _ (part_one wx _ _ e.cells 0 _ Tryz.underlying5 q1) (part_one wx _ _ f.cells 0 _ Tryz.underlying5 p1) s1 s2 s3 s4
  (run_equalIn_int wx 9998 5 .u8 .u8 e.too f.too Tryz.underlying5) (dot_eqIn 9997 _ _ _ _ wx) (run_equalIn_rows wx 9997 .u8 e.data f.data Tryz.underlying34 Tryz.underlying5 cells8 info8 he hf) _ wrap_fields
abbrev Ep := (Int × Int) × List Int
def epD (e : Ep) : List Value := epC e.1.1 e.1.2 e.2
structure RRing (w : World) (base O : Nat) (own : Int) (seed : List Int) (v : Value) (L : List Ep) : Prop where
 box : CellsAt w O 69 (rringC own seed v)
 own : OwnI w base 72 34 v (L.map epD)
 seed32 : seed.length = 32
 k32 : ∀ e ∈ L, e.2.length = 32
 lenL : L.length ≤ 16
 baseO : base ≤ O
def rrB (O : Nat) (v : Value) (k : Nat) : Prop := k = O ∨ v.ownBlock = some k
section
variable {w w' : World} {base O : Nat} {own : Int} {seed : List Int} {v : Value} {L : List Ep}
theorem RRing.congr (h : RRing w base O own seed v L) (hk : ∀ g, rrB O v g → w'.heap[g]? = w.heap[g]?) : RRing w' base O own seed v L := ⟨h.box.congr (hk _ (.inl rfl)), h.own.congr fun g hg => hk g (.inr hg), h.seed32, h.k32, h.lenL, h.baseO⟩
theorem RRing.inside (h : RRing w base O own seed v L) (g : Nat) (hg : rrB O v g) : g < w.heap.size ∧ base ≤ g := by
 rcases hg with rfl | hg
 · exact ⟨h.box.lt, h.baseO⟩
 · exact ⟨(h.own.blockLt g hg).1, (h.own.blockLt g hg).2.1⟩
theorem RRing.far (h : RRing w base O own seed v L) (hb : Below w.heap.size w w') : RRing w' base O own seed v L := h.congr fun g hg => hb.block g (h.inside g hg).1
theorem RRing.cell33 (h : RRing w base O own seed v L) : w.cell? ⟨O, 33, none⟩ = some v := by
 have hl : ([Value.int .u8 own] ++ seed.map (Value.int .u8)).length = 33 := by simp [h.seed32]
 rw [h.box.cell]
 unfold rringC
 rw [List.getElem?_append_right (by omega), hl]; rfl
theorem RRing.ofNew (hb : CellsAt w O 69 (rringC own seed v)) (ho : OwnE w base v L) (hs : seed.length = 32) (hk : ∀ e ∈ L, e.2.length = 32) (hl : L.length ≤ 16) (hO : base ≤ O) : RRing w base O own seed v L :=
 ⟨hb, ⟨by rw [List.length_map]; exact ho, fun c hc => by
  obtain ⟨e, he, rfl⟩ := List.mem_map.1 hc
  exact epC_length _ _ _ (hk e he)⟩, hs, hk, hl, hO⟩
end
def keyE : List Ep → Int → Int → Option (List Int)
 | [], _, _ => none
 | e :: L, a, s => if e.1.1 = a ∧ e.1.2 = s then some e.2 else keyE L a s
theorem keyE_at (a s : Int) : ∀ (L : List Ep) (j : Nat) (hj : j < L.length), (∀ i (hi : i < j), ¬ (L[i].1.1 = a ∧ L[i].1.2 = s)) → (L[j].1.1 = a ∧ L[j].1.2 = s) → keyE L a s = some L[j].2
 | e :: L, 0, _, _, h => by
  unfold keyE; rw [if_pos (show e.1.1 = a ∧ e.1.2 = s from h)]; rfl
 | e :: L, j + 1, hj, hn, h => by
  unfold keyE
  rw [if_neg (show ¬ (e.1.1 = a ∧ e.1.2 = s) from hn 0 (by omega))]
  exact keyE_at a s L j (by simpa using hj) (fun i hi => hn (i + 1) (by omega)) h
theorem keyE_none (a s : Int) : ∀ (L : List Ep), (∀ i (hi : i < L.length), ¬ (L[i].1.1 = a ∧ L[i].1.2 = s)) → keyE L a s = none
 | [], _ => rfl
 | e :: L, hn => by
  unfold keyE
  rw [if_neg (show ¬ (e.1.1 = a ∧ e.1.2 = s) from hn 0 (by simp))]
  exact keyE_none a s L (fun i hi => hn (i + 1) (by simpa using hi))
section
variable (base O : Nat) (own : Int) (seed : List Int) (v : Value) (L : List Ep) (w : World)
set_option maxHeartbeats 8000000 in
theorem rrKeyZ_any (a s : Int) (hR : RRing w base O own seed v L) :
    Calls Tryz.prog 22 #[.pointer (some ⟨O, 0, none⟩), .agg (dotC a s).toArray] w fun e w' => ∃ k : List Int, k.length = 32 ∧ k = (keyE L a s).getD (List.replicate 32 0) ∧ e = .returned (.tuple #[.agg (row .u8 k), .bool (keyE L a s).isSome]) ∧ Below w.heap.size w w' := by
 obtain ⟨Z, hZl, hZ⟩ : ∃ Z : List Int, Z.length = 32 ∧ Z = List.replicate 32 0 := ⟨_, rfl, rfl⟩
 have hzv : ∀ wx, (zeroValue 23).run Tryz.prog wx = .ok (.agg (row .u8 Z)) wx := fun wx => by rw [hZ]; kernel_rfl
 have hz1 : ¬ (row .u8 Z) = #[] := by intro h; have := congrArg Array.size h; rw [row_size] at this; simp at this; rw [this] at hZl; simp at hZl
 have HBZ : Veil (∀ wx, (Instr.build 23 #[]).run Tryz.prog wx = .ok (.agg (row .u8 Z)) wx) := ⟨fun wx => by rw [hZ]; exact run_build wx _ _ _ (by kernel_rfl)⟩
 have hD := (CellsAt.new w 33 (dotC a s)).alloc (.cells (row .u8 Z) 23)
 have hK := Holds.new (w.alloc (.cells (dotC a s).toArray 33)) .u8 23 Z
 rw [World.size_alloc] at hK
 have hb0 : Below w.heap.size w ((w.alloc (.cells (dotC a s).toArray 33)).alloc (.cells (row .u8 Z) 23)) := ((Below.refl _ _).alloc (Nat.le_refl _) _).alloc (by simp) _
 have HR := Veil.mk (fun W (hb : Below w.heap.size w W) => hR.far hb)
 have HK32 := Veil.mk hR.k32
 have hl16 := hR.lenL
 obtain ⟨x, c, hv⟩ := hR.own.isSlice
 rw [List.length_map] at hv
 obtain ⟨n, hn⟩ : ∃ q, L.length = q := ⟨_, rfl⟩
 rw [hn] at hv hl16
 subst hv
 have HN := Veil.mk hn
 have HZ := Veil.mk hZ
 clear hZ hR hn
 have uD := Tryz.underlying33
 have uK := Tryz.underlying23
 have iD : (Tryz.prog.info? 33).map (·.size) = some (dotC a s).length := sizeDot
 go_enter Tryz.func22, Tryz.ntmps22
 go_upto_region 1 with fail
 refine forget (p := fun y => Code.wp _ _ _ _ y) (fun W => Below w.heap.size w W ∧ CellsAt W w.heap.size 33 (dotC a s) ∧ Holds W (w.heap.size + 1) .u8 23 Z) ⟨hb0, hD, hK⟩ ?_
 clear hb0 hD hK hzv hz1
 rintro W ⟨hb, hD, hK⟩
 go_wp2
 go_loopw [6] (fun q wr => ∃ j : Nat, j ≤ n ∧ q = .int .i64 j ∧ Below w.heap.size w wr ∧ CellsAt wr w.heap.size 33 (dotC a s) ∧ Holds wr (w.heap.size + 1) .u8 23 Z ∧ ∀ i (hi : i < L.length), i < j → ¬ (L[i].1.1 = a ∧ L[i].1.2 = s)) (fun q _ => n - (intOf q).toNat)
 case atStart => exact ⟨0, Nat.zero_le _, rfl, hb, hD, hK, fun i _ h => absurd h (Nat.not_lt_zero _)⟩
 case round =>
  clear hb hD hK
  obtain ⟨j, hj, rfl, hb, hD, hK, hno⟩ := hrel
  have HNO := Veil.mk hno
  clear hno
  have hRR := HR.out wr hb
  have c33 := hRR.cell33
  by_cases hjn : j < n
  · have hji : (j : Int) < (n : Int) := by omega
    have hj0 : (0 : Int) ≤ (j : Int) := by omega
    have hjL : j < L.length := by rw [HN.out]; exact hjn
    obtain ⟨g, hxg, _, hr⟩ := hRR.own.at_ j (by rw [List.length_map]; exact hjL)
    subst hxg
    rw [List.getElem_map] at hr
    have hkl := HK32.out L[j] (List.getElem_mem hjL)
    have HRG : Veil (wr.rangeAt g (j * 34) (dotC L[j].1.1 L[j].1.2) ∧ wr.rangeAt g (j * 34 + 2) (L[j].2.map (Value.int .u8))) := ⟨fun i u hu => by
     have hi := (List.getElem?_eq_some_iff.1 hu).1
     exact hr i u (by unfold epD epC; rw [List.getElem?_append_left hi]; exact hu), fun i u hu => by
     have := hr (i + 2) u (by unfold epD epC; rw [List.getElem?_append_right (by simp [dotC])]; exact hu)
     rw [show j * 34 + (i + 2) = j * 34 + 2 + i by omega] at this
     exact this⟩
    obtain ⟨r1, r2⟩ := HRG.out
    have HEQ : Veil (∀ wx, (binOp .eql 33 (.agg (dotC L[j].1.1 L[j].1.2).toArray) (.agg (dotC a s).toArray)).run Tryz.prog wx = .ok (.bool ((L[j].1.1 == a) && (L[j].1.2 == s))) wx) := ⟨fun wx => dot_eql _ _ _ _ wx⟩
    have iDj : (Tryz.prog.info? 33).map (·.size) = some (dotC L[j].1.1 L[j].1.2).length := sizeDot
    have HKE : Veil ((L[j].1.1 = a ∧ L[j].1.2 = s) → keyE L a s = some L[j].2) := ⟨fun h => keyE_at a s L j hjL (fun i hi => HNO.out i (by omega) hi) h⟩
    have HNX : Veil (¬ (L[j].1.1 = a ∧ L[j].1.2 = s) → ∀ i (hi : i < L.length), i < j + 1 → ¬ (L[i].1.1 = a ∧ L[i].1.2 = s)) := ⟨fun h i hi hlt => by
     by_cases e : i = j
     · subst e; exact h
     · exact HNO.out i hi (by omega)⟩
    have rD := hD.wholeM
    have hkl2 : L[j].2.length = 32 := hkl
    have iKj : (Tryz.prog.info? 23).map (·.size) = some (L[j].2.map (Value.int .u8)).length := by rw [List.length_map, hkl2]; exact sizeKeyD
    have HEB : Veil (((L[j].1.1 == a) && (L[j].1.2 == s)) = true ↔ (L[j].1.1 = a ∧ L[j].1.2 = s)) := ⟨by simp⟩
    clear hr hRR
    generalize dotC L[j].1.1 L[j].1.2 = DJ at r1 HEQ iDj
    obtain ⟨KJ, hKJ⟩ : ∃ q, L[j].2 = q := ⟨_, rfl⟩
    rw [hKJ] at r2 HKE hkl2 iKj
    generalize hbb : ((L[j].1.1 == a) && (L[j].1.2 == s)) = BB at HEQ HEB
    clear hbb hKJ hkl
    have hw1 : IntKind.i64.wrap ((j : Int) + 1) = (j : Int) + 1 := by rw [IntKind.wrap_i64]; omega
    have heq := HEQ.out
    generalize hDV : dotC a s = DV at rD heq iD hD
    have HDV := Veil.mk hDV
    clear hDV
    cases BB with
    | true =>
     have HKS : Veil (keyE L a s = some KJ) := ⟨HKE.out (HEB.out.1 rfl)⟩
     go_upto_region 4 with fail
     refine wp_region_gateT (fun w' => w'.cell? ⟨O, 33, none⟩ = some (.slice (some ⟨g, 0, none⟩) n c) ∧ w'.rangeAt g (j * 34) DJ ∧ w'.rangeAt w.heap.size 0 DV) (fun _ => True) 99 (by kernel_rfl) ?_
     have hT : (fun w' : World => w'.cell? ⟨O, 33, none⟩ = some (.slice (some ⟨g, 0, none⟩) n c) ∧ w'.rangeAt g (j * 34) DJ ∧ w'.rangeAt w.heap.size 0 DV) wr.drew := ⟨c33, r1, rD⟩
     have hS := trivial
     refine ghA 0 _ hT hS ?_
     simp only [Act.put, gA, gS, gZ, sI, sZ, sS]
     refine ghA 1 _ hT hS ?_
     simp only [Act.put, gA, gS, gZ, sI, sZ, sS]
     refine ghA 2 _ hT hS ?_
     simp only [Act.put, gA, gS, gZ, sI, sZ, sS]
     refine ghA 3 _ hT hS ?_
     simp only [Act.put, gA, gS, gZ, sI, sZ, sS]
     refine ghA 4 _ hT hS ?_
     simp only [Act.put, gA, gS, gZ, sI, sZ, sS]
     refine ghA 5 _ hT hS ?_
     simp only [Act.put, gA, gS, gZ, sI, sZ, sS]
     refine ghA 6 _ hT hS ?_
     simp only [Act.put, gA, gS, gZ, sI, sZ, sS]
     refine gl 7 27 33 26 g (j * 34) DJ (by kernel_rfl) (by kernel_rfl) (by kernel_rfl) (fun _ _ _ h => h) hT hS (by kernel_rfl) (fun _ h => h.2.1) uD rfl iDj ?_
     simp only [Act.put, gA, gS, gZ, sI, sZ, sS]
     refine gl 8 28 33 3 w.heap.size 0 DV (by kernel_rfl) (by kernel_rfl) (by kernel_rfl) (fun _ _ _ h => h) hT hS (by kernel_rfl) (fun _ h => h.2.2) uD rfl iD ?_
     simp only [Act.put, gA, gS, gZ, sI, sZ, sS]
     refine ghA 9 (.bool true) hT hS ?_
     simp only [Act.put, gA, gS, gZ, sI, sZ, sS]
     refine wpAnyT_done (by kernel_rfl) ?_ _
     clear hT hS heq r1 rD
     have hKd := hK.below (Below.refl wr.heap.size wr).drew hK.lt
     have HBD := Veil.mk hb.drew
     have r2d : wr.drew.rangeAt g (j * 34 + 2) (KJ.map (Value.int .u8)) := r2
     have c33d : wr.drew.cell? ⟨O, 33, none⟩ = some (.slice (some ⟨g, 0, none⟩) n c) := c33
     clear r2 c33 hK hb hD
     go_wp2_with (first
      | (refine wpList_ldv rfl 23 _ rfl _ _ rfl (KJ.map (Value.int .u8)) r2d uK rfl iKj ?_)
      | (refine wpList_st rfl 23 _ _ rfl _ rfl rfl hKd (by rw [hkl2]; exact sizeKeyD) (by rw [hZl, hkl2]) ?_))
     refine bodyPost_ret (results_ct (Tryz.results22) _ rfl rfl (hKd.setRow KJ).cellsAt Tryz.underlying23 rfl iKj) rfl ⟨KJ, hkl2, by rw [HKS.out]; rfl, by rw [HKS.out]; rfl, below_setRow HBD.out (by omega) _⟩
    | false =>
     have HNX2 := Veil.mk (HNX.out (fun h => absurd (HEB.out.2 h) (by decide)))
     clear HNX HKE HEB
     go_upto_region 4 with fail
     refine wp_region_gateT (fun w' => w'.cell? ⟨O, 33, none⟩ = some (.slice (some ⟨g, 0, none⟩) n c) ∧ w'.rangeAt g (j * 34) DJ ∧ w'.rangeAt w.heap.size 0 DV) (fun _ => True) 99 (by kernel_rfl) ?_
     have hT : (fun w' : World => w'.cell? ⟨O, 33, none⟩ = some (.slice (some ⟨g, 0, none⟩) n c) ∧ w'.rangeAt g (j * 34) DJ ∧ w'.rangeAt w.heap.size 0 DV) wr.drew := ⟨c33, r1, rD⟩
     have hS := trivial
     refine ghA 0 _ hT hS ?_
     simp only [Act.put, gA, gS, gZ, sI, sZ, sS]
     refine ghA 1 _ hT hS ?_
     simp only [Act.put, gA, gS, gZ, sI, sZ, sS]
     refine ghA 2 _ hT hS ?_
     simp only [Act.put, gA, gS, gZ, sI, sZ, sS]
     refine ghA 3 _ hT hS ?_
     simp only [Act.put, gA, gS, gZ, sI, sZ, sS]
     refine ghA 4 _ hT hS ?_
     simp only [Act.put, gA, gS, gZ, sI, sZ, sS]
     refine ghA 5 _ hT hS ?_
     simp only [Act.put, gA, gS, gZ, sI, sZ, sS]
     refine ghA 6 _ hT hS ?_
     simp only [Act.put, gA, gS, gZ, sI, sZ, sS]
     refine gl 7 27 33 26 g (j * 34) DJ (by kernel_rfl) (by kernel_rfl) (by kernel_rfl) (fun _ _ _ h => h) hT hS (by kernel_rfl) (fun _ h => h.2.1) uD rfl iDj ?_
     simp only [Act.put, gA, gS, gZ, sI, sZ, sS]
     refine gl 8 28 33 3 w.heap.size 0 DV (by kernel_rfl) (by kernel_rfl) (by kernel_rfl) (fun _ _ _ h => h) hT hS (by kernel_rfl) (fun _ h => h.2.2) uD rfl iD ?_
     simp only [Act.put, gA, gS, gZ, sI, sZ, sS]
     refine ghA 9 (.bool false) hT hS ?_
     simp only [Act.put, gA, gS, gZ, sI, sZ, sS]
     refine wpAnyT_done (by kernel_rfl) ?_ _
     clear hT hS heq r1 rD r2 c33
     go_wp2
     go_roundw
     case rel => exact ⟨j + 1, hjn, by push_cast; rfl, hb.drew, hD.congr rfl, hK.below (Below.refl wr.heap.size wr).drew hK.lt, HNX2.out⟩
     case measure => simp [intOf]; omega
  · have hji : ¬ (j : Int) < (n : Int) := by omega
    have HKN : Veil (keyE L a s = none) := ⟨keyE_none a s L (fun i hi => HNO.out i hi (by have := HN.out; omega))⟩
    clear hRR
    go_wp2_with (first
     | (refine wpList_bldx rfl 23 #[] rfl #[] (by first | rfl | kernel_rfl) _ (HBZ.out _) ?_)
     | (refine wpList_st rfl 23 _ _ rfl _ rfl rfl hK (by rw [hZl]; exact sizeKeyD) rfl ?_))
    refine bodyPost_ret (results_ct (Tryz.results22) _ rfl rfl (hK.setRow Z).cellsAt Tryz.underlying23 rfl (by rw [List.length_map, hZl]; exact sizeKeyD)) rfl ⟨Z, hZl, by rw [HKN.out]; exact HZ.out, by rw [HKN.out]; rfl, below_setRow hb (by omega) _⟩
theorem rrKey_any (a s : Int) (hR : RRing w base O own seed v L) :
    Calls Tryz.prog 22 #[.pointer (some ⟨O, 0, none⟩), .agg (dotC a s).toArray] w fun e w' => ∃ k : List Int, k.length = 32 ∧ (keyE L a s).getD k = k ∧ e = .returned (.tuple #[.agg (row .u8 k), .bool (keyE L a s).isSome]) ∧ Below w.heap.size w w' :=
 (rrKeyZ_any base O own seed v L w a s hR).mono fun e w' ⟨k, h1, h2, h3, h4⟩ => ⟨k, h1, by rw [h2]; cases keyE L a s <;> rfl, h3, h4⟩
set_option maxHeartbeats 4000000 in
theorem rrHas_any (a s : Int) (hR : RRing w base O own seed v L) :
    Calls Tryz.prog 24 #[.pointer (some ⟨O, 0, none⟩), .agg (dotC a s).toArray] w fun e w' => e = .returned (.bool (keyE L a s).isSome) ∧ Below w.heap.size w w' := by
 obtain ⟨Z, hZl, hZ⟩ : ∃ Z : List Int, Z.length = 32 ∧ Z = List.replicate 32 0 := ⟨_, rfl, rfl⟩
 have hzv : ∀ wx, (zeroValue 23).run Tryz.prog wx = .ok (.agg (row .u8 Z)) wx := fun wx => by rw [hZ]; kernel_rfl
 have hz1 : ¬ (row .u8 Z) = #[] := by intro h; have := congrArg Array.size h; rw [row_size] at this; simp at this; rw [this] at hZl; simp at hZl
 have hD := CellsAt.new w 33 (dotC a s)
 have hb0 : Below w.heap.size w (w.alloc (.cells (dotC a s).toArray 33)) := (Below.refl _ _).alloc (Nat.le_refl _) _
 have hkk := rrKey_any base O own seed v L _ a s (hR.far hb0)
 have rD := hD.wholeM
 have iD : (Tryz.prog.info? 33).map (·.size) = some (dotC a s).length := sizeDot
 generalize (keyE L a s).isSome = KS at hkk ⊢
 clear hZ hR
 go_enter Tryz.func24, Tryz.ntmps24
 go_wp2_with (first
  | (refine wpList_ldv rfl 33 _ rfl _ _ rfl (dotC a s) rD Tryz.underlying33 rfl iD ?_)
  | (go_at_call 22; refine hkk.mono ?_; rintro e w1 ⟨k1, hk1, -, rfl, hb1⟩; have hN1 := Holds.new w1 .u8 23 Z; clear hkk)
  | (refine wpList_st rfl 23 _ _ rfl _ rfl rfl hN1 (by rw [hk1]; exact sizeKeyD) (by rw [hZl, hk1]) ?_))
 go_ret
 have q := hb0.trans (hb1.mono hb0.size)
 exact ⟨rfl, below_setRow (q.alloc q.size _) q.size _⟩
structure RRTo (w w' : World) (base O : Nat) (own : Int) (seed : List Int) (v v' : Value) (L' : List Ep) : Prop where
 at_ : RRing w' base O own seed v' L'
 turn : Turn (rrB O v) w w'
 own : v'.ownBlock = v.ownBlock ∨ ∃ g, v'.ownBlock = some g ∧ w.heap.size ≤ g
def addE (L : List Ep) (a s : Int) (k : List Int) : List Ep := if (keyE L a s).isSome = true ∨ 16 ≤ L.length then L else L ++ [((a, s), k)]
def addN (L : List Ep) (a s : Int) : Int := if (keyE L a s).isSome = true then 5 else if 16 ≤ L.length then 10 else 0
set_option maxHeartbeats 8000000 in
theorem rrAddN_any (a s : Int) (k : List Int) (hk : k.length = 32) (hR : RRing w base O own seed v L) (hbase : base ≤ w.heap.size) :
    Calls Tryz.prog 33 #[.pointer (some ⟨O, 0, none⟩), .agg (dotC a s).toArray, .agg (row .u8 k)] w fun e w' => ∃ v', e = .returned (.int .i64 (addN L a s)) ∧ RRTo w w' base O own seed v v' (addE L a s k) := by
 have hD := (CellsAt.new w 33 (dotC a s)).alloc (.cells (row .u8 k) 23)
 have hK := CellsAt.new (w.alloc (.cells (dotC a s).toArray 33)) 23 (k.map (Value.int .u8))
 rw [World.size_alloc] at hK
 have hb0 : Below w.heap.size w ((w.alloc (.cells (dotC a s).toArray 33)).alloc (.cells (row .u8 k) 23)) := ((Below.refl _ _).alloc (Nat.le_refl _) _).alloc (by simp) _
 have HR := Veil.mk (fun W (hb : Below w.heap.size w W) => hR.far hb)
 have HHS : Veil (∀ W, Below w.heap.size w W → Calls Tryz.prog 24 #[.pointer (some ⟨O, 0, none⟩), .agg (dotC a s).toArray] W fun e w' => e = .returned (.bool (keyE L a s).isSome) ∧ Below W.heap.size W w') := ⟨fun W hb => rrHas_any base O own seed v L W a s (hR.far hb)⟩
 have HAE : Veil (addE L a s k = if (keyE L a s).isSome = true ∨ 16 ≤ L.length then L else L ++ [((a, s), k)]) := ⟨rfl⟩
 have HAN : Veil (addN L a s = if (keyE L a s).isSome = true then 5 else if 16 ≤ L.length then 10 else 0) := ⟨rfl⟩
 have iD : (Tryz.prog.info? 33).map (·.size) = some (dotC a s).length := sizeDot
 have iK : (Tryz.prog.info? 23).map (·.size) = some (k.map (Value.int .u8)).length := by rw [List.length_map, hk]; exact sizeKeyD
 have HEB : Veil (∀ wx, (Instr.build 72 #[(0, .agg (dotC a s).toArray), (1, .agg (k.map (Value.int .u8)).toArray)]).run Tryz.prog wx = .ok (.agg (epC a s k).toArray) wx) := ⟨fun wx => epoch_built a s k hk wx⟩
 have hEl := epC_length a s k hk
 have h1E : ∀ u ∈ epC a s k, u.oneCell' = true := fun u hu => by
  unfold epC dotC at hu
  simp only [List.mem_append, List.mem_cons, List.not_mem_nil, or_false, List.mem_map] at hu
  rcases hu with (rfl | rfl) | ⟨x, _, rfl⟩ <;> rfl
 have HINS : Veil (∀ g, rrB O v g → g < w.heap.size) := ⟨fun g hg => (hR.inside g hg).1⟩
 have HK := Veil.mk (And.intro hR.seed32 (And.intro hR.k32 (And.intro hR.lenL hk)))
 have HBO : Veil (base ≤ O) := ⟨hR.baseO⟩
 obtain ⟨x, c, hv⟩ := hR.own.isSlice
 rw [List.length_map] at hv
 have uD := Tryz.underlying33
 have uK := Tryz.underlying23
 have hAl : (row .u8 k) = (k.map (Value.int .u8)).toArray := rfl
 rw [hAl] at hD hb0 ⊢
 clear hAl
 generalize hKV : k.map (Value.int .u8) = KV at hD hK hb0 iK HEB ⊢
 clear hKV hR
 obtain ⟨n, hn⟩ : ∃ q, L.length = q := ⟨_, rfl⟩
 have HN := Veil.mk hn
 rw [hn] at hv HAE HAN
 subst hv
 clear hn
 go_enter Tryz.func33, Tryz.ntmps33
 go_upto_region 3 with fail
 refine forget (p := fun y => Code.wp _ _ _ _ y) (fun W => Below w.heap.size w W ∧ CellsAt W w.heap.size 33 (dotC a s) ∧ CellsAt W (w.heap.size + 1) 23 KV) ⟨hb0, hD, hK⟩ ?_
 clear hb0 hD hK
 rintro W ⟨hb, hD, hK⟩
 have rD := hD.wholeM
 have hhs := HHS.out W hb
 clear HHS
 cases hks : (keyE L a s).isSome with
 | true =>
  have HE : Veil (addE L a s k = L) := ⟨by rw [HAE.out, if_pos (.inl hks)]⟩
  have HN5 : Veil (addN L a s = 5) := ⟨by rw [HAN.out, if_pos hks]⟩
  rw [hks] at hhs
  clear hks
  go_wp2_with (first
   | (refine wpList_ldv rfl 33 _ rfl _ _ rfl (dotC a s) rD uD rfl iD ?_)
   | (go_at_call 24; refine hhs.mono ?_; rintro e w1 ⟨rfl, hb1⟩))
  go_ret
  have q := hb.trans (hb1.mono hb.size)
  exact ⟨_, by rw [HN5.out]; rfl, ⟨by rw [HE.out]; exact HR.out _ q, Turn.of_below q, .inl rfl⟩⟩
 | false =>
  rw [hks] at hhs
  by_cases h16 : 16 ≤ n
  · have HE : Veil (addE L a s k = L) := ⟨by rw [HAE.out, if_pos (.inr h16)]⟩
    have HN5 : Veil (addN L a s = 10) := ⟨by rw [HAN.out, if_neg (by rw [hks]; decide), if_pos h16]⟩
    have h16i : (n : Int) ≥ 16 := by omega
    have HC : Veil (∀ w1, Below W.heap.size W w1 → Below w.heap.size w w1 ∧ w1.cell? ⟨O, 33, none⟩ = some (.slice x n c)) := ⟨fun w1 h => ⟨hb.trans (h.mono hb.size), (HR.out w1 (hb.trans (h.mono hb.size))).cell33⟩⟩
    clear hks h16
    go_wp2_with (first
     | (refine wpList_ldv rfl 33 _ rfl _ _ rfl (dotC a s) rD uD rfl iD ?_)
     | (go_at_call 24; refine hhs.mono ?_; rintro e w1 ⟨rfl, hb1⟩; obtain ⟨hB1, c33⟩ := HC.out w1 hb1))
    go_ret
    exact ⟨_, by rw [HN5.out]; rfl, ⟨by rw [HE.out]; exact HR.out _ hB1, Turn.of_below hB1, .inl rfl⟩⟩
  · have HN5 : Veil (addN L a s = 0) := ⟨by rw [HAN.out, if_neg (by rw [hks]; decide), if_neg h16]⟩
    have HE : Veil (addE L a s k = L ++ [((a, s), k)]) := ⟨by rw [HAE.out, if_neg (fun q => by rcases q with q | q; rw [hks] at q; cases q; exact h16 q)]⟩
    have h16i : ¬ (n : Int) ≥ 16 := by omega
    have HC : Veil (∀ w1, Below W.heap.size W w1 → Below w.heap.size w w1 ∧ w1.cell? ⟨O, 33, none⟩ = some (.slice x n c)) := ⟨fun w1 h => ⟨hb.trans (h.mono hb.size), (HR.out w1 (hb.trans (h.mono hb.size))).cell33⟩⟩
    clear hks
    go_upto_region 7 with (first
     | (refine wpList_ldv rfl 33 _ rfl _ _ rfl (dotC a s) rD uD rfl iD ?_)
     | (go_at_call 24; refine hhs.mono ?_; rintro e w1 ⟨rfl, hb1⟩; obtain ⟨hB1, c33⟩ := HC.out w1 hb1))
    have hD1 := hD.farM hb1
    have hK1 := hK.farM hb1
    refine wp_region_gate (fun w' => w'.cell? ⟨O, 33, none⟩ = some (.slice x n c) ∧ w'.rangeAt w.heap.size 0 (dotC a s) ∧ w'.rangeAt (w.heap.size + 1) 0 KV) 12 (by kernel_rfl) ?_
    refine forget (p := fun y => wpAnyG _ _ _ _ _ _ _ _ _ y) (fun V => Below w.heap.size w V ∧ CellsAt V w.heap.size 33 (dotC a s) ∧ CellsAt V (w.heap.size + 1) 23 KV) ⟨hB1.drew, hD1.congr rfl, hK1.congr rfl⟩ ?_
    clear hD1 hK1 hB1 c33 hb1 HC hhs rD hb hD hK
    clear w1 W
    rintro V ⟨hb, hD, hY⟩
    have HSS : ∀ V, Below w.heap.size w V → CellsAt V w.heap.size 33 (dotC a s) → CellsAt V (w.heap.size + 1) 23 KV → (fun w' : World => w'.cell? ⟨O, 33, none⟩ = some (.slice x n c) ∧ w'.rangeAt w.heap.size 0 (dotC a s) ∧ w'.rangeAt (w.heap.size + 1) 0 KV) V := fun V h1 h2 h3 => ⟨(HR.out V h1).cell33, h2.wholeM, h3.wholeM⟩
    have hS := HSS V hb hD hY
    have hsz := hD.lt
    have HVS : Veil (w.heap.size ≤ V.heap.size) := ⟨hb.size⟩
    refine gaA 0 _ hS ?_
    simp only [Act.put, gA, gS, gZ, sI, sZ, sS]
    refine gaA 1 _ hS ?_
    simp only [Act.put, gA, gS, gZ, sI, sZ, sS]
    refine gaA 2 _ hS ?_
    simp only [Act.put, gA, gS, gZ, sI, sZ, sS]
    refine gaA 3 _ hS ?_
    simp only [Act.put, gA, gS, gZ, sI, sZ, sS]
    refine grA 4 _ hS ?_
    simp only [Act.put, gA, gS, gZ, sI, sZ, sS]
    refine wpAnyG_load (i := 5) (dst := some 26) (ty := 33) (x := .tmp 4) (b := w.heap.size) (o := (0)) (cs := (dotC a s)) (by kernel_rfl) (by kernel_rfl) (by kernel_rfl) (by kernel_rfl) (by kernel_rfl) (fun _ _ _ h => h) (by kernel_rfl) (by kernel_rfl) (by kernel_rfl) hS (by kernel_rfl) (fun _ h => h.2.1) uD rfl iD ?_
    simp only [Act.put, gA, gS, gZ, sI, sZ, sS]
    refine wpAnyG_load (i := 6) (dst := some 27) (ty := 23) (x := .tmp 5) (b := (w.heap.size + 1)) (o := (0)) (cs := KV) (by kernel_rfl) (by kernel_rfl) (by kernel_rfl) (by kernel_rfl) (by kernel_rfl) (fun _ _ _ h => h) (by kernel_rfl) (by kernel_rfl) (by kernel_rfl) hS (by kernel_rfl) (fun _ h => h.2.2) uK rfl iK ?_
    simp only [Act.put, gA, gS, gZ, sI, sZ, sS]
    refine wpAnyG_read (i := 7) (v := (.agg (epC a s k).toArray)) rfl (by kernel_rfl) (by kernel_rfl) (by kernel_rfl) (fun _ _ _ h => h) (by kernel_rfl) (by kernel_rfl) (by kernel_rfl) hS (by kernel_rfl) (fun wx h => execBuildT 72 _ rfl #[(0, .agg (dotC a s).toArray), (1, .agg KV.toArray)] (by kernel_rfl) (HEB.out wx)) ?_
    simp only [Act.put, gA, gS, gZ, sI, sZ, sS]
    refine wpAnyG_one (i := 8) rfl (by kernel_rfl) (by kernel_rfl) (fun K hK => ?_)
    refine wp_bs1 67 72 _ rfl (epC a s k) rfl Tryz.underlying67 epoch_info (by decide) (by decide) hEl ?_
    have hb2 : Below V.heap.size V (V.alloc (.cells (epC a s k).toArray 72)) := (Below.refl _ _).alloc (Nat.le_refl _) _
    have hB2 := hb.trans (hb2.mono hb.size)
    have hr2 := (CellsAt.new V 72 (epC a s k)).wholeM
    replace hS := HSS _ hB2 (hD.farM hb2) (hY.farM hb2)
    refine hK.out _ _ (fun _ => hS) ?_
    clear hK K
    try simp only [Act.put, gA, gS, gZ, sI, sZ, sS]
    obtain ⟨v3, W3, hr3, hv3, hg3, hw3⟩ := (HR.out _ hB2).own.app (P := Tryz.prog) 67 67 Tryz.underlying67 epoch_info (by rfl) (by decide) (epC a s k) hEl h1E V.heap.size hr2 (by rw [List.length_map, HN.out]; omega) (by decide) (by have := hB2.size; omega)
    refine wpAnyG_one (i := 9) rfl (by kernel_rfl) (by kernel_rfl) (fun K hK => ?_)
    refine wpx_app _ _ 67 67 rfl _ _ _ _ rfl rfl hr3 ?_
    have hT3 : Turn (rrB O (.slice x n c)) w W3 := (Turn.of_below hB2).trans (Turn.of_grown hg3 (fun k hk => .inr hk))
    have hb3 : Below w.heap.size w W3 → True := fun _ => trivial
    have hbox : CellsAt W3 O 69 (rringC own seed (.slice x n c)) := (HR.out _ hB2).box.congr (hg3.block O (HR.out _ hB2).box.lt (fun q => by
     obtain ⟨_, _, cur, hc⟩ := (HR.out _ hB2).own.blockLt O q.symm
     have := (HR.out _ hB2).box
     unfold CellsAt at this
     rw [hc] at this
     injection this with this
     injection this with _ e2 _
     exact absurd e2 (by decide)))
    have hD3 : CellsAt W3 w.heap.size 33 (dotC a s) := (hD.farM hb2).congr (hg3.block _ (hD.farM hb2).lt (fun q => by have := HINS.out _ (.inr q.symm); omega))
    have hY3 : CellsAt W3 (w.heap.size + 1) 23 KV := (hY.farM hb2).congr (hg3.block _ (hY.farM hb2).lt (fun q => by have := HINS.out _ (.inr q.symm); omega))
    have c33 : W3.cell? ⟨O, 33, none⟩ = some (.slice x n c) := by
     have hl : ([Value.int .u8 own] ++ seed.map (Value.int .u8)).length = 33 := by simp [HK.out.1]
     rw [hbox.cell]
     unfold rringC
     rw [List.getElem?_append_right (by omega), hl]; rfl
    have g33 := hbox.frozen 33
    have HNE : Veil (∀ g, v3.ownBlock = some g → g ≠ O) := ⟨fun g hg e => by
     obtain ⟨_, _, cur, hc⟩ := hv3.blockLt g hg
     have := hbox
     unfold CellsAt at this
     rw [e] at hc
     rw [hc] at this
     injection this with this
     injection this with _ e2 _
     exact absurd e2 (by decide)⟩
    have HALL := Veil.mk (And.intro hv3 (And.intro hT3 (And.intro hbox hw3)))
    obtain ⟨x3, c3, hx3⟩ := hv3.isSlice
    replace hS : (fun w' : World => w'.cell? ⟨O, 33, none⟩ = some (.slice x n c) ∧ w'.rangeAt w.heap.size 0 (dotC a s) ∧ w'.rangeAt (w.heap.size + 1) 0 KV) W3 := ⟨c33, hD3.wholeM, hY3.wholeM⟩
    generalize (L.map epD ++ [epC a s k]).length = m3 at hx3
    subst hx3
    clear hb3 hv3 hT3 hw3 hg3 hD3 hY3 hr3 hr2 hb2 hB2 hb hD hY HSS HEB HR
    refine hK.out _ _ (fun _ => hS) ?_
    clear hK K
    try simp only [Act.put, gA, gS, gZ, sI, sZ, sS]
    refine gaA 10 _ hS ?_
    simp only [Act.put, gA, gS, gZ, sI, sZ, sS]
    refine gaA 11 _ hS ?_
    simp only [Act.put, gA, gS, gZ, sI, sZ, sS]
    refine wpAnyG_one (i := 12) rfl (by kernel_rfl) (by kernel_rfl) (fun K hK => ?_)
    go_simp
    refine hK.out _ _ (fun h => absurd (show true = false from h) (by decide)) ?_
    clear hK K
    try simp only [Act.put, gA, gS, gZ, sI, sZ, sS]
    refine wpAnyG_done (by kernel_rfl) ?_ _
    clear hS c33 g33
    go_wp2
    go_ret
    obtain ⟨hv3, hT3, hbox, hw3⟩ := HALL.out
    have hset : (rringC own seed (.slice x n c)).set 33 (.slice x3 m3 c3) = rringC own seed (.slice x3 m3 c3) := by
     have hl : ([Value.int .u8 own] ++ seed.map (Value.int .u8)).length = 33 := by simp [HK.out.1]
     unfold rringC
     rw [List.set_append_right _ _ (by omega), hl]; rfl
    have hbox2 := hbox.set 33 (.slice x3 m3 c3)
    rw [hset] at hbox2
    refine ⟨.slice x3 m3 c3, by rw [HN5.out]; rfl, ⟨?_, hT3.trans (Turn.of_setCell W3 (a := ⟨O, 33, none⟩) (.inl rfl) _), ?_⟩⟩
    · rw [HE.out]
      refine ⟨hbox2, ?_, HK.out.1, ?_, ?_, ?_⟩
      · have hq := hv3.congr (w' := W3.setCell ⟨O, 33, none⟩ (.slice x3 m3 c3)) (fun g hg => Below.heap_setCell _ _ _ g (HNE.out g hg))
        rw [List.map_append]
        exact hq
      · intro e he
        rcases List.mem_append.1 he with h | h
        · exact HK.out.2.1 e h
        · rw [List.mem_singleton.1 h]; exact HK.out.2.2.2
      · rw [List.length_append, HN.out]; simp; omega
      · have hO := HINS.out O (.inl rfl); have := HBO.out; omega
    · rcases hw3 with h | h
      · exact .inl h
      · exact .inr ⟨_, h, by have := HVS.out; rw [World.size_alloc]; omega⟩
end
end Go.Proofs.YtflkhkmejnpapaaGreatDoor
