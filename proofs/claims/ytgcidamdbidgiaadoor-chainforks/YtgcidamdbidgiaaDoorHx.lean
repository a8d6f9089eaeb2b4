/- chain: two of the same frames, heads that were true at one time, a frame at hand. -/
import Derived.Test.YtgcidamdbidgiaaDoorHa
namespace Go.Proofs.YtgcidamdbidgiaaDoor
open Go.RowKit
set_option maxRecDepth 20000
set_option linter.unusedSimpArgs false

/-- Heads that were true at one time. -/
structure TrueHs (T : Sms) (hs : List (Int × List Int)) : Prop where
  ok : okHs8 hs
  at_ : ∀ (a : Nat) h, hs[a]? = some h → h.1.toNat ≤ cnt T a ∧ atN T a h.1.toNat = h.2
theorem TrueHs.of {T : Sms} (hT : OkS T) : TrueHs T (headsOf T) := ⟨hT.heads8, fun a h hh => by
  obtain ⟨hl, rfl⟩ := List.getElem?_eq_some_iff.1 hh
  rw [headsOf_length] at hl
  rw [headsOf_get T a hl]
  exact ⟨by show ((cnt T a : Nat) : Int).toNat ≤ _; rw [Int.toNat_natCast]; exact Nat.le_refl _, by show atN T a ((cnt T a : Nat) : Int).toNat = _; rw [Int.toNat_natCast]; rfl⟩⟩
theorem TrueHs.add {T : Sms} {hs : List (Int × List Int)} (h : TrueHs T hs) (hT : OkS T) (a : Nat) (k : List Int) : TrueHs (addS T a k) hs := ⟨h.ok, fun b x hx => by
  obtain ⟨h1, h2⟩ := h.at_ b x hx
  by_cases e : b = a
  · subst e
    rw [cnt_add hT, atN_add_lt hT b _ k h1]
    exact ⟨by omega, h2⟩
  · rw [cnt_add_ne T a b k e, atN_add_ne T a b _ k e]
    exact ⟨h1, h2⟩⟩
theorem TrueHs.found {T : Sms} {hs : List (Int × List Int)} (h : TrueHs T hs) : ∀ n, foundN T hs n = []
  | 0 => rfl
  | n + 1 => by
    rw [foundN_succ, h.found n, List.nil_append]
    unfold foundAt
    rw [if_neg]
    rintro ⟨q1, _, q3⟩
    cases hq : hs[n]? with
    | none => rw [hq] at q1; exact absurd (show (1 : Int) ≤ 0 from q1) (by decide)
    | some x => rw [hq] at q3; exact q3 (h.at_ n x hq).2
theorem chainP_new {H b g : Nat} (h : chainP H b (.slice none 0 0) g) : g = H ∨ g = b := by
  rcases h with e | e | e
  · exact .inl e
  · exact .inr e
  · cases e
/-- Two chains, heads and no proof. -/
structure TwoAt (W : World) (s B2 H1 b1 H2 b2 G : Nat) (v1 v2 : Value) (T1 T2 : Sms) (hs : List (Int × List Int)) : Prop where
  c : ChainAt W s H1 b1 v1 T1 []
  d : ChainAt W B2 H2 b2 v2 T2 []
  g : CellsAt W G 41 (headsC hs)
  sep : ∀ k, chainP H1 b1 v1 k → ¬ chainP H2 b2 v2 k
  gc : ¬ chainP H1 b1 v1 G
  gd : ¬ chainP H2 b2 v2 G
  tr : TrueHs T1 hs
  sb : s ≤ B2
  sG : s ≤ G
section
variable {W W' : World} {s B2 H1 b1 H2 b2 G : Nat} {v1 v2 v' : Value} {T1 T2 T' : Sms} {hs : List (Int × List Int)}
theorem TwoAt.far (h : TwoAt W s B2 H1 b1 H2 b2 G v1 v2 T1 T2 hs) (hb : Below W.heap.size W W') : TwoAt W' s B2 H1 b1 H2 b2 G v1 v2 T1 T2 hs := ⟨h.c.far hb, h.d.far hb, h.g.farM hb, h.sep, h.gc, h.gd, h.tr, h.sb, h.sG⟩
theorem TwoAt.stepC (h : TwoAt W s B2 H1 b1 H2 b2 G v1 v2 T1 T2 hs) (hto : ChainTo W W' s H1 b1 v1 v' T' []) (htr : TrueHs T' hs) : TwoAt W' s B2 H1 b1 H2 b2 G v' v2 T' T2 hs :=
  ⟨hto.at_, h.d.turn hto.turn fun g hg hp => h.sep g hp hg, h.g.congr (hto.turn.block _ h.g.lt h.gc), fun k hk hd => hto.out k (h.d.inside k hd).1 (fun hc => h.sep k hc hd) hk, hto.out _ h.g.lt h.gc, h.gd, htr, h.sb, h.sG⟩
theorem TwoAt.stepD (h : TwoAt W s B2 H1 b1 H2 b2 G v1 v2 T1 T2 hs) (hto : ChainTo W W' B2 H2 b2 v2 v' T' []) : TwoAt W' s B2 H1 b1 H2 b2 G v1 v' T1 T' hs :=
  ⟨h.c.turn hto.turn h.sep, hto.at_, h.g.congr (hto.turn.block _ h.g.lt h.gd), fun k hk hd => hto.out k (h.c.inside k hk).1 (h.sep k hk) hd, h.gc, hto.out _ h.g.lt h.gd, h.tr, h.sb, h.sG⟩
theorem TwoAt.setG (h : TwoAt W s B2 H1 b1 H2 b2 G v1 v2 T1 T2 hs) (hs' : List (Int × List Int)) (htr : TrueHs T1 hs') : TwoAt (W.setRow G (headsC hs').toArray) s B2 H1 b1 H2 b2 G v1 v2 T1 T2 hs' :=
  ⟨h.c.congr fun k hk => setRow_other W G k _ (fun e => h.gc (by rw [← e]; exact hk)), h.d.congr fun k hk => setRow_other W G k _ (fun e => h.gd (by rw [← e]; exact hk)), h.g.setRow _, h.sep, h.gc, h.gd, htr, h.sb, h.sG⟩
theorem TwoAt.setA (h : TwoAt W s B2 H1 b1 H2 b2 G v1 v2 T1 T2 hs) {A : Nat} (ac : ¬ chainP H1 b1 v1 A) (ad : ¬ chainP H2 b2 v2 A) (aG : A ≠ G) (cs : Array Value) : TwoAt (W.setRow A cs) s B2 H1 b1 H2 b2 G v1 v2 T1 T2 hs :=
  ⟨h.c.congr fun k hk => setRow_other W A k _ (fun e => ac (by rw [← e]; exact hk)), h.d.congr fun k hk => setRow_other W A k _ (fun e => ad (by rw [← e]; exact hk)), h.g.setRowM _ (fun e => aG e.symm), h.sep, h.gc, h.gd, h.tr, h.sb, h.sG⟩
end
/-- And a frame at hand. -/
structure RdAt (W : World) (s B2 H1 b1 H2 b2 G : Nat) (v1 v2 : Value) (T1 T2 : Sms) (hs : List (Int × List Int)) (A : Nat) (F : Fr) : Prop extends TwoAt W s B2 H1 b1 H2 b2 G v1 v2 T1 T2 hs where
  a : CellsAt W A 38 F.cells
  ac : ¬ chainP H1 b1 v1 A
  ad : ¬ chainP H2 b2 v2 A
  aG : A ≠ G
  sA : s ≤ A
section
variable {W W' : World} {s B2 H1 b1 H2 b2 G A : Nat} {v1 v2 v' : Value} {T1 T2 T' : Sms} {hs : List (Int × List Int)} {F : Fr}
theorem RdAt.far (h : RdAt W s B2 H1 b1 H2 b2 G v1 v2 T1 T2 hs A F) (hb : Below W.heap.size W W') : RdAt W' s B2 H1 b1 H2 b2 G v1 v2 T1 T2 hs A F := ⟨h.toTwoAt.far hb, h.a.farM hb, h.ac, h.ad, h.aG, h.sA⟩
theorem RdAt.stepC (h : RdAt W s B2 H1 b1 H2 b2 G v1 v2 T1 T2 hs A F) (hto : ChainTo W W' s H1 b1 v1 v' T' []) (htr : TrueHs T' hs) : RdAt W' s B2 H1 b1 H2 b2 G v' v2 T' T2 hs A F := ⟨h.toTwoAt.stepC hto htr, h.a.congr (hto.turn.block _ h.a.lt h.ac), hto.out _ h.a.lt h.ac, h.ad, h.aG, h.sA⟩
theorem RdAt.stepD (h : RdAt W s B2 H1 b1 H2 b2 G v1 v2 T1 T2 hs A F) (hto : ChainTo W W' B2 H2 b2 v2 v' T' []) : RdAt W' s B2 H1 b1 H2 b2 G v1 v' T1 T' hs A F := ⟨h.toTwoAt.stepD hto, h.a.congr (hto.turn.block _ h.a.lt h.ad), h.ac, hto.out _ h.a.lt h.ad, h.aG, h.sA⟩
theorem TwoAt.frame (h : TwoAt W s B2 H1 b1 H2 b2 G v1 v2 T1 T2 hs) (hs' : s ≤ W.heap.size) (Z : List Value) : RdAt ((W.alloc (.cells Z.toArray 38)).setRow W.heap.size F.cells.toArray) s B2 H1 b1 H2 b2 G v1 v2 T1 T2 hs W.heap.size F :=
  have hb : Below W.heap.size W ((W.alloc (.cells Z.toArray 38)).setRow W.heap.size F.cells.toArray) := below_setRow ((Below.refl _ _).alloc (Nat.le_refl _) _) (Nat.le_refl _) _
  ⟨h.far hb, (CellsAt.new W 38 Z).setRow _, fun hp => by have := (h.c.inside _ hp).1; omega, fun hp => by have := (h.d.inside _ hp).1; omega, fun e => by have := h.g.lt; omega, hs'⟩
end
/-- A frame with another digest ahead of it. -/
def Fr.withPrev (F : Fr) (k : List Int) : Fr := { F with prev := k }
theorem withPrev_cells (F : Fr) (k : List Int) (hp : F.prev.length = 32) : F.cells.take 4 ++ k.map (Value.int .u8) ++ F.cells.drop 36 = (F.withPrev k).cells := by
  have e0 : F.cells = ([.int .u8 F.author, .int .u32 F.number] : List Value) ++ dotC F.ea F.es ++ (F.prev.map (Value.int .u8) ++ ([F.wraps, F.body] ++ F.mac.map (Value.int .u8))) := by unfold Fr.cells; simp only [List.append_assoc]
  have hP : (F.prev.map (Value.int .u8)).length = 32 := by rw [List.length_map, hp]
  have e4 : F.cells.take 4 = [.int .u8 F.author, .int .u32 F.number] ++ dotC F.ea F.es := by rw [e0]; rfl
  have e36 : F.cells.drop 36 = [F.wraps, F.body] ++ F.mac.map (Value.int .u8) := by
    have d4 : F.cells.drop 4 = F.prev.map (Value.int .u8) ++ ([F.wraps, F.body] ++ F.mac.map (Value.int .u8)) := by rw [e0]; rfl
    rw [show 36 = 4 + 32 from rfl, ← List.drop_drop, d4, List.drop_left' hP]
  rw [e4, e36]
  unfold Fr.withPrev Fr.cells
  simp only [List.append_assoc]
theorem FrIn.withPrev {W : World} {F : Fr} {xw : Option Addr} {lw cw : Nat} {ws : List Wp} {xb : Option Addr} {lb cb : Nat} {body : List Int} (h : FrIn W F xw lw cw ws xb lb cb body) {k : List Int} (hk : okK k) : FrIn W (F.withPrev k) xw lw cw ws xb lb cb body :=
  ⟨hk.1, h.mac, h.wraps, h.body_, h.hw, h.hb, { h.inF with prev := hk.2 }, h.inW, h.inB⟩
theorem fr_one (F : Fr) {x y : Option Addr} {a b c d : Nat} (hw : F.wraps = .slice x a b) (hb : F.body = .slice y c d) : ∀ v ∈ F.cells, v.oneCell' = true := by
  intro v hv
  simp only [Fr.cells, dotC, List.mem_append, List.mem_cons, List.not_mem_nil, or_false, List.mem_map, hw, hb] at hv
  rcases hv with ((((rfl | rfl) | rfl | rfl) | ⟨x, _, rfl⟩) | rfl | rfl) | ⟨x, _, rfl⟩ <;> rfl
theorem RdAt.setPrev {W : World} {s B2 H1 b1 H2 b2 G A : Nat} {v1 v2 : Value} {T1 T2 : Sms} {hs : List (Int × List Int)} {F : Fr} (h : RdAt W s B2 H1 b1 H2 b2 G v1 v2 T1 T2 hs A F) (F' : Fr) : RdAt (W.setRow A F'.cells.toArray) s B2 H1 b1 H2 b2 G v1 v2 T1 T2 hs A F' := ⟨h.toTwoAt.setA h.ac h.ad h.aG _, h.a.setRow _, h.ac, h.ad, h.aG, h.sA⟩
theorem exec_ixH {P : Program} {ρ : Operand → Value} {o : Oper} {w : World} {t : TypeId} {m x : Operand} (ho : o.op = .index t m x) {mv xv v : Value} (hm : ρ m = mv) (hx : ρ x = xv) (hrun : (Instr.index t mv xv).run P w = .ok v w) : (execOp ρ o).run P w = .ok (.value v) w := by
  unfold execOp
  simp only [ho, hm, hx, Sem.run_bind, hrun, Result.andThen_ok, Sem.run_pure]
theorem exec_fdH {P : Program} {ρ : Operand → Value} {o : Oper} {w : World} {t : TypeId} {m : Operand} {k : Nat} (ho : o.op = .field t m k) {mv v : Value} (hm : ρ m = mv) (hrun : (Instr.field t mv k).run P w = .ok v w) : (execOp ρ o).run P w = .ok (.value v) w := by
  unfold execOp
  simp only [ho, hm, Sem.run_bind, hrun, Result.andThen_ok, Sem.run_pure]
theorem run_index_u8 {P : Program} (w : World) (t e : TypeId) (n m : Nat) (d : TypeDesc) (cs : List Value) (k : Nat) (hu : P.underlying t = some (.array n e)) (hue : P.underlying e = some d) (hd : (match d with | .struct _ | .array _ _ => true | _ => false) = true) (hi : (P.info? e).map (·.size) = some m) (hk : k < n) :
    (Instr.index t (.agg cs.toArray) (.int .u8 (k : Int))).run P w = .ok (.agg ((cs.drop (k * m)).take m).toArray) w := by
  have hp := part_midE (P := P) w e m d cs (k * m) hue hd hi
  cases hq : P.info? e with
  | none => simp [hq] at hi
  | some i =>
    have hs : i.size = m := by simpa [hq] using hi
    have hk' : (k : Int) < (n : Int) := by omega
    simp [Instr.index, asIntOf, run_underlying hu, sizeOf, typeInfo, hq, hs, hk, hp]
theorem headIx {T : Sms} (hT : OkS T) (a : Nat) (ha : a < 8) (w : World) : (Instr.index 41 (.agg (headsC (headsOf T)).toArray) (.int .u8 (a : Int))).run Tryd.prog w = .ok (.agg (headC (headOf T a)).toArray) w := by
  have := run_index_u8 w 41 40 8 33 _ (headsC (headsOf T)) a Tryd.underlying41 Tryd.underlying40 rfl sizeHead1 ha
  have hp := headsC_part (headsOf T) hT.heads_ok a (by rw [headsOf_length]; omega) []
  rw [List.append_nil, headsOf_get _ a ha] at hp
  rw [hp] at this
  exact this
theorem headSum (n : Int) (s : List Int) (hs : s.length = 32) (w : World) : (Instr.field 40 (.agg (headC (n, s)).toArray) 1).run Tryd.prog w = .ok (.agg (row .u8 s)) w := by
  have hp := part_midE (P := Tryd.prog) w 34 32 _ (headC (n, s)) 1 Tryd.underlying34 rfl sizeKeyH
  have e : ((headC (n, s)).drop 1).take 32 = s.map (Value.int .u8) := (headC_parts (n, s) hs).2
  rw [e] at hp
  simpa [Instr.field, run_underlying Tryd.underlying40, asAgg, row] using hp
end Go.Proofs.YtgcidamdbidgiaaDoor
