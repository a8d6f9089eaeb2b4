/- Gate4 Cv4 -/
import Derived.Test.YtmbdohnmbkpfaaaGreatV02
import Derived.Deep.MidRow
namespace Go.Proofs.YtmbdohnmbkpfaaaGreat
open Go Go.RowKit
section
variable {P : Program} {ops : Array Oper} {Q : Exit → Act → World → Prop} {md : Region.Mode} {T S : World → Prop} {D : Nat}
theorem wpAnyT_load {i : Nat} {dst : Option Tmp} {ty : TypeId} {x : Operand} {b o : Nat} {cs : List Value} {d : TypeDesc} {fuel : Nat} {listed : Array Bool} {a : Act} {w : World}
    (hop : (ops[i]?).map (fun o => (o.dst, o.op)) = some (dst, .load ty x)) (hw : (ops[i]?).map (fun o => Region.wanted o (yielded ops a.tmps)) = some true)
    (hs : Region.noSelect ops = true) (hf : Region.free md ops listed i = true) (hr : (Region.ready md ops listed).contains i = true)
    (hQ : ∀ c a w, Q (.panic c) (a.put dst (.agg cs.toArray)) w → Q (.panic c) a w) (hD : (i == D) = false) (hT : T w) (hS : listed.getD D true = false → S w)
    (hx : a.eval x = .pointer (some ⟨b, o, none⟩)) (hc : ∀ w, T w → w.rangeAt b o cs) (hu : P.underlying ty = some d) (hd : d.isRow = true) (hi : (P.info? ty).map (·.size) = some cs.length)
    (h : wpAnyT P md ops Q T S D fuel (listed.setIfInBounds i true) (a.put dst (.agg cs.toArray)) w) : wpAnyT P md ops Q T S D (fuel + 1) listed a w := by
 cases ho : ops[i]? with
 | none => rw [ho] at hop; cases hop
 | some oi =>
  rw [ho] at hop hw
  simp only [Option.map_some, Option.some.injEq, Prod.mk.injEq] at hop hw
  obtain ⟨rfl, hop⟩ := hop
  exact wpAnyT_first (U := T) ho (Region.noSelect_spec hs) hQ (by simpa using hD) (.inl fun _ h => h) fuel listed a w (Region.free_spec ho hf) (by simpa using hr) (.inl fun _ h => h) (yieldsIf_load_mid hw ty x hop b o hx cs d hc hu hd hi) hT hS h
theorem gl (i dst : Nat) (ty : TypeId) (x b o : Nat) (cs : List Value) {d : TypeDesc} {fuel : Nat} {listed : Array Bool} {a : Act} {w : World}
    (hop : (ops[i]?).map (fun o => (o.dst, o.op)) = some (some dst, .load ty (.tmp x))) (hw : (ops[i]?).map (fun o => Region.wanted o (yielded ops a.tmps)) = some true)
    (hb : (Region.noSelect ops && (Region.free md ops listed i && ((Region.ready md ops listed).contains i && !(i == D)))) = true)
    (hQ : ∀ c a w, Q (.panic c) (a.put (some dst) (.agg cs.toArray)) w → Q (.panic c) a w) (hT : T w) (hS : S w)
    (hx : a.eval (.tmp x) = .pointer (some ⟨b, o, none⟩)) (hc : ∀ w, T w → w.rangeAt b o cs) (hu : P.underlying ty = some d) (hd : d.isRow = true) (hi : (P.info? ty).map (·.size) = some cs.length)
    (h : wpAnyT P md ops Q T S D fuel (listed.setIfInBounds i true) (a.put (some dst) (.agg cs.toArray)) w) : wpAnyT P md ops Q T S D (fuel + 1) listed a w := by
 rw [Bool.and_eq_true, Bool.and_eq_true, Bool.and_eq_true, Bool.not_eq_true'] at hb
 exact wpAnyT_load hop hw hb.1 hb.2.1 hb.2.2.1 hQ hb.2.2.2 hT (fun _ => hS) hx hc hu hd hi h
theorem wpAnyT_skip {i : Nat} {oi : Oper} {fuel : Nat} {listed : Array Bool} {a : Act} {w : World} (hi : ops[i]? = some oi)
    (hs : Region.noSelect ops = true) (hf : Region.free md ops listed i = true) (hr : (Region.ready md ops listed).contains i = true)
    (hQ : ∀ c a w, Q (.panic c) (a.put oi.dst undef) w → Q (.panic c) a w) (hD : (i == D) = false) (hT : T w) (hS : listed.getD D true = false → S w) (hw : Region.wanted oi (yielded ops a.tmps) = false)
    (h : wpAnyT P md ops Q T S D fuel (listed.setIfInBounds i true) (a.put oi.dst undef) w) : wpAnyT P md ops Q T S D (fuel + 1) listed a w :=
 wpAnyT_first (U := T) hi (Region.noSelect_spec hs) hQ (by simpa using hD) (.inl fun _ h => h) fuel listed a w (Region.free_spec hi hf) (by simpa using hr) (.inl fun _ h => h) (.inr ⟨hw, rfl⟩) hT hS h
theorem gs (i : Nat) {oi : Oper} {fuel : Nat} {listed : Array Bool} {a : Act} {w : World} (hT : T w) (hS : S w)
    (h : wpAnyT P md ops Q T S D fuel (listed.setIfInBounds i true) (a.put oi.dst undef) w) (hi : ops[i]? = some oi := by exact rfl)
    (hb : (Region.noSelect ops && (Region.free md ops listed i && ((Region.ready md ops listed).contains i && (!(i == D) && !(Region.wanted oi (yielded ops a.tmps)))))) = true := by kernel_rfl)
    (hQ : ∀ c a w, Q (.panic c) (a.put oi.dst undef) w → Q (.panic c) a w := by exact fun _ _ _ h => h) : wpAnyT P md ops Q T S D (fuel + 1) listed a w := by
 rw [Bool.and_eq_true, Bool.and_eq_true, Bool.and_eq_true, Bool.and_eq_true, Bool.not_eq_true', Bool.not_eq_true'] at hb
 exact wpAnyT_skip hi hb.1 hb.2.1 hb.2.2.1 hQ hb.2.2.2.1 hT (fun _ => hS) hb.2.2.2.2 h
end
open Go.RowKit
set_option maxRecDepth 20000
set_option linter.unusedSimpArgs false
def pastTo (l : List Int) : Nat → Bool
 | 0 => true
 | n + 1 => pastTo l n && decide (l[n]?.getD 0 ≤ 1048576)
theorem pastTo_false (l : List Int) (k : Nat) : ∀ {n : Nat}, k < n → ¬ l[k]?.getD 0 ≤ 1048576 → pastTo l n = false
 | 0, h, _ => absurd h (Nat.not_lt_zero _)
 | n + 1, h, hl => by
  unfold pastTo
  by_cases e : k = n
  · subst e; simp [hl]
  · rw [pastTo_false l k (n := n) (by omega) hl]; rfl
def rightDotB (e : Ev) : Bool := decide (e.da < 8) && (!(e.ds == 0) && (decide (e.ds ≤ 1048576) && ((e.past[e.da.toNat]?.getD 0 == e.ds - 1) && pastTo e.past 8)))
def rightParB (e : Ev) : Bool := (((e.pa == 0) && (e.ps == 0)) && e.right) || hasB e.past e.pa e.ps
def rightKB (e : Ev) : Bool :=
 if e.kind = 1 then ((decide (1 ≤ e.char) && decide (e.char ≤ 127)) && rightParB e) && noMemB e
 else if e.kind = 2 then ((hasB e.past e.pa e.ps && !e.right) && (e.char == 0)) && noMemB e
 else if e.kind = 3 then ((decide (e.who < 8) && decide (1 ≤ e.role)) && decide (e.role ≤ 3)) && noTextB e
 else if e.kind = 4 then (decide (e.who < 8) && (e.role == 0)) && noTextB e
 else false
def rightB (e : Ev) : Bool := rightDotB e && rightKB e
theorem CellsAt.setRowO7 {w : World} {g g' : Nat} {t : TypeId} {cs : List Value} (h : CellsAt w g t cs) (cs' : Array Value) (hne : g ≠ g') : CellsAt (w.setRow g' cs') g t cs := by
 unfold CellsAt at h ⊢
 simp only [World.setRow, Array.getElem?_modify]
 rw [if_neg (fun e => hne e.symm)]; exact h
theorem ev_dot (e : Ev) (hp : e.past.length = 8) : (e.cells.drop 0).take 2 = dotC e.da e.ds := (ev_parts e hp).1
theorem ev_pastAt (e : Ev) (hp : e.past.length = 8) (j : Nat) (hj : j < 8) : e.cells[2 + j]? = some (.int .u32 (e.past[j]?.getD 0)) := by
 have h := ev_past e hp
 have hj' : j < e.past.length := by omega
 have h2 : ((e.cells.drop 2).take 8)[j]? = (e.past.map (Value.int .u32))[j]? := by rw [h]
 rw [List.getElem?_take_of_lt hj, List.getElem?_drop, List.getElem?_map, List.getElem?_eq_getElem hj'] at h2
 rw [h2, List.getElem?_eq_getElem hj']; rfl
theorem past_index (l : List Int) (hl : l.length = 8) (j : Nat) (hj : j < 8) (w : World) : (Instr.index 37 (.agg (l.map (Value.int .u32)).toArray) (.int .i64 (j : Int))).run Tryz.prog w = .ok (.int .u32 (l[j]?.getD 0)) w := by
 obtain ⟨a, b, c, d, e, f, g, h, rfl⟩ : ∃ p0 p1 p2 p3 p4 p5 p6 p7, l = [p0, p1, p2, p3, p4, p5, p6, p7] := by
  match l, hl with
  | [a, b, c, d, e, f, g, i], _ => exact ⟨a, b, c, d, e, f, g, i, rfl⟩
 obtain rfl | rfl | rfl | rfl | rfl | rfl | rfl | rfl : j = 0 ∨ j = 1 ∨ j = 2 ∨ j = 3 ∨ j = 4 ∨ j = 5 ∨ j = 6 ∨ j = 7 := by omega
 · kernel_rfl
 · kernel_rfl
 · kernel_rfl
 · kernel_rfl
 · kernel_rfl
 · kernel_rfl
 · kernel_rfl
 · kernel_rfl
theorem sizeV8c : (Tryz.prog.info? 37).map (·.size) = some 8 := by kernel_rfl
set_option maxHeartbeats 8000000 in
theorem crightDot_any (e : Ev) (w : World) (hp : e.past.length = 8) (ha : 0 ≤ e.da) (hs : 0 ≤ e.ds) (hs2 : e.ds < 4294967296) :
    Calls Tryz.prog 91 #[.agg e.cells.toArray] w fun x w' => x = .returned (.bool (rightDotB e)) ∧ Below w.heap.size w w' := by
 have h0 := CellsAt.new w 44 e.cells
 have rg := h0.range 0 2
 rw [ev_dot e hp] at rg
 have hN1 := CellsAt.new (w.alloc (.cells e.cells.toArray 44)) 40 [.int .u8 0, .int .u32 0]
 have hD3 := hN1.setRow [.int .u8 e.da, .int .u32 e.ds]
 have hE3 := (h0.alloc (.cells [.int .u8 0, .int .u32 0].toArray 40)).setRowO7 (g' := w.heap.size + 1) #[.int .u8 e.da, .int .u32 e.ds] (by omega)
 have hB3 : Below w.heap.size w (((w.alloc (.cells e.cells.toArray 44)).alloc (.cells [.int .u8 0, .int .u32 0].toArray 40)).setRow (w.heap.size + 1) #[.int .u8 e.da, .int .u32 e.ds]) := below_setRow (((Below.refl _ _).alloc (Nat.le_refl _) _).alloc (by simp) _) (by omega) _
 rw [World.size_alloc] at hN1 hD3
 have hD1 : ∀ v ∈ ([.int .u8 e.da, .int .u32 e.ds] : List Value), v.oneCell' = true := by intro v hv; simp at hv; rcases hv with rfl | rfl <;> rfl
 have HH : Veil (rightDotB e = (decide (e.da < 8) && (!(e.ds == 0) && (decide (e.ds ≤ 1048576) && ((e.past[e.da.toNat]?.getD 0 == e.ds - 1) && pastTo e.past 8))))) := ⟨rfl⟩
 have HPA : Veil (∀ j, j < 8 → e.cells[2 + j]? = some (.int .u32 (e.past[j]?.getD 0))) := ⟨fun j hj => ev_pastAt e hp j hj⟩
 have HIX : Veil (∀ j : Nat, j < 8 → ∀ wx, (Instr.index 37 (.agg (e.past.map (Value.int .u32)).toArray) (.int .i64 (j : Int))).run Tryz.prog wx = .ok (.int .u32 (e.past[j]?.getD 0)) wx) := ⟨fun j hj wx => past_index e.past hp j hj wx⟩
 have hPL := ev_past e hp
 have uD := Tryz.underlying40
 have uV := Tryz.underlying37
 have HPL : Veil (e.past.length = 8) := ⟨hp⟩
 obtain ⟨EC, hEC⟩ : ∃ q, e.cells = q := ⟨_, rfl⟩
 obtain ⟨dn, hDA⟩ := Int.eq_ofNat_of_zero_le ha
 obtain ⟨DS, hDS⟩ : ∃ q, e.ds = q := ⟨_, rfl⟩
 obtain ⟨PA, hPA⟩ : ∃ q, e.past = q := ⟨_, rfl⟩
 rw [hEC] at rg hN1 hD3 hE3 hB3 HPA hPL
 rw [hDA] at rg hD3 hE3 hB3 hD1 HH ha
 rw [hDS] at rg hD3 hE3 hB3 hD1 HH hs hs2
 rw [hPA] at HH HPA hPL HPL HIX
 rw [hEC]
 have HPS := Veil.mk hPL
 clear h0 hEC hDA hDS hPA hp hPL
 rw [Int.toNat_natCast] at HH
 by_cases k0 : (dn : Int) < 8
 rotate_left
 · have k0' : (dn : Int) ≥ 8 := by omega
   have k0d : decide ((dn : Int) < 8) = false := by simp [k0]
   clear k0 ha hs hs2 HIX HPA HPS HPL
   go_enter Tryz.func91, Tryz.ntmps91
   go_upto_region 2 with (first
    | (refine wpList_ldv rfl 40 _ rfl w.heap.size 0 rfl _ rg uD rfl sizeDot ?_)
    | (refine wpList_stv rfl 40 _ _ rfl _ rfl rfl hN1 sizeDot rfl hD1 ?_))
   refine forget (p := fun y => Code.wp _ _ _ _ y) (fun W => Below w.heap.size w W ∧ CellsAt W w.heap.size 44 EC ∧ CellsAt W (w.heap.size + 1) 40 [.int .u8 (dn : Int), .int .u32 DS]) ⟨hB3, hE3, hD3⟩ ?_
   clear hB3 hE3 hD3 hN1 rg hD1
   rintro W ⟨hB, hE, hD⟩
   have d0 : W.cell? ⟨w.heap.size + 1, 0, none⟩ = some (.int .u8 (dn : Int)) := hD.cell 0
   have d1 : W.cell? ⟨w.heap.size + 1, 1, none⟩ = some (.int .u32 DS) := hD.cell 1
   refine wp_region_gateT (fun w' => w'.cell? ⟨w.heap.size + 1, 0, none⟩ = some (.int .u8 (dn : Int)) ∧ w'.cell? ⟨w.heap.size + 1, 1, none⟩ = some (.int .u32 DS)) (fun _ => True) 99 (by kernel_rfl) ?_
   have hT : (fun w' : World => w'.cell? ⟨w.heap.size + 1, 0, none⟩ = some (.int .u8 (dn : Int)) ∧ w'.cell? ⟨w.heap.size + 1, 1, none⟩ = some (.int .u32 DS)) W.drew := ⟨d0, d1⟩
   have hS := trivial
   refine ghA 0 _ hT hS ?_
   simp only [Act.put, gA, gS, gZ, sI, sZ, sS]
   refine ghA 1 _ hT hS ?_
   simp only [Act.put, gA, gS, gZ, sI, sZ, sS]
   refine ghA 2 (.bool true) hT hS ?_
   simp only [Act.put, gA, gS, gZ, sI, sZ, sS]
   refine ghA 3 _ hT hS ?_
   simp only [Act.put, gA, gS, gZ, sI, sZ, sS]
   refine gs 4 hT hS ?_
   simp only [Act.put, gA, gS, gZ, sI, sZ, sS]
   refine gs 5 hT hS ?_
   simp only [Act.put, gA, gS, gZ, sI, sZ, sS]
   refine gs 6 hT hS ?_
   simp only [Act.put, gA, gS, gZ, sI, sZ, sS]
   refine ghA 7 (.bool true) hT hS ?_
   simp only [Act.put, gA, gS, gZ, sI, sZ, sS]
   refine ghA 8 _ hT hS ?_
   simp only [Act.put, gA, gS, gZ, sI, sZ, sS]
   refine gs 9 hT hS ?_
   simp only [Act.put, gA, gS, gZ, sI, sZ, sS]
   refine gs 10 hT hS ?_
   simp only [Act.put, gA, gS, gZ, sI, sZ, sS]
   refine gs 11 hT hS ?_
   simp only [Act.put, gA, gS, gZ, sI, sZ, sS]
   refine ghA 12 (.bool true) hT hS ?_
   simp only [Act.put, gA, gS, gZ, sI, sZ, sS]
   refine ghA 13 _ hT hS ?_
   simp only [Act.put, gA, gS, gZ, sI, sZ, sS]
   refine gs 14 hT hS ?_
   simp only [Act.put, gA, gS, gZ, sI, sZ, sS]
   refine gs 15 hT hS ?_
   simp only [Act.put, gA, gS, gZ, sI, sZ, sS]
   refine gs 16 hT hS ?_
   simp only [Act.put, gA, gS, gZ, sI, sZ, sS]
   refine gs 17 hT hS ?_
   simp only [Act.put, gA, gS, gZ, sI, sZ, sS]
   refine gs 18 hT hS ?_
   simp only [Act.put, gA, gS, gZ, sI, sZ, sS]
   refine gs 19 hT hS ?_
   simp only [Act.put, gA, gS, gZ, sI, sZ, sS]
   refine gs 20 hT hS ?_
   simp only [Act.put, gA, gS, gZ, sI, sZ, sS]
   refine gs 21 hT hS ?_
   simp only [Act.put, gA, gS, gZ, sI, sZ, sS]
   refine gs 22 hT hS ?_
   simp only [Act.put, gA, gS, gZ, sI, sZ, sS]
   refine ghA 23 (.bool true) hT hS ?_
   simp only [Act.put, gA, gS, gZ, sI, sZ, sS]
   refine wpAnyT_done (by kernel_rfl) ?_ _
   clear hT hS
   clear d0 d1
   go_wp2
   go_ret
   exact ⟨by rw [HH.out]; exact ret_bC (by simp [*]), hB.drew⟩
 have k0' : ¬ (dn : Int) ≥ 8 := by omega
 have hd8 : dn < 8 := by omega
 by_cases k1 : DS = 0
 · have k1' : (DS == 0) = true := by simp [k1]
   clear k1 hs hs2 HIX HPA HPS HPL
   go_enter Tryz.func91, Tryz.ntmps91
   go_upto_region 2 with (first
    | (refine wpList_ldv rfl 40 _ rfl w.heap.size 0 rfl _ rg uD rfl sizeDot ?_)
    | (refine wpList_stv rfl 40 _ _ rfl _ rfl rfl hN1 sizeDot rfl hD1 ?_))
   refine forget (p := fun y => Code.wp _ _ _ _ y) (fun W => Below w.heap.size w W ∧ CellsAt W w.heap.size 44 EC ∧ CellsAt W (w.heap.size + 1) 40 [.int .u8 (dn : Int), .int .u32 DS]) ⟨hB3, hE3, hD3⟩ ?_
   clear hB3 hE3 hD3 hN1 rg hD1
   rintro W ⟨hB, hE, hD⟩
   have d0 : W.cell? ⟨w.heap.size + 1, 0, none⟩ = some (.int .u8 (dn : Int)) := hD.cell 0
   have d1 : W.cell? ⟨w.heap.size + 1, 1, none⟩ = some (.int .u32 DS) := hD.cell 1
   refine wp_region_gateT (fun w' => w'.cell? ⟨w.heap.size + 1, 0, none⟩ = some (.int .u8 (dn : Int)) ∧ w'.cell? ⟨w.heap.size + 1, 1, none⟩ = some (.int .u32 DS)) (fun _ => True) 99 (by kernel_rfl) ?_
   have hT : (fun w' : World => w'.cell? ⟨w.heap.size + 1, 0, none⟩ = some (.int .u8 (dn : Int)) ∧ w'.cell? ⟨w.heap.size + 1, 1, none⟩ = some (.int .u32 DS)) W.drew := ⟨d0, d1⟩
   have hS := trivial
   refine ghA 0 _ hT hS ?_
   simp only [Act.put, gA, gS, gZ, sI, sZ, sS]
   refine ghA 1 _ hT hS ?_
   simp only [Act.put, gA, gS, gZ, sI, sZ, sS]
   refine ghA 2 (.bool false) hT hS ?_
   simp only [Act.put, gA, gS, gZ, sI, sZ, sS]
   refine ghA 3 _ hT hS ?_
   simp only [Act.put, gA, gS, gZ, sI, sZ, sS]
   refine ghA 4 _ hT hS ?_
   simp only [Act.put, gA, gS, gZ, sI, sZ, sS]
   refine ghA 5 _ hT hS ?_
   simp only [Act.put, gA, gS, gZ, sI, sZ, sS]
   refine ghA 6 (.bool true) hT hS ?_
   simp only [Act.put, gA, gS, gZ, sI, sZ, sS]
   refine ghA 7 (.bool true) hT hS ?_
   simp only [Act.put, gA, gS, gZ, sI, sZ, sS]
   refine ghA 8 _ hT hS ?_
   simp only [Act.put, gA, gS, gZ, sI, sZ, sS]
   refine gs 9 hT hS ?_
   simp only [Act.put, gA, gS, gZ, sI, sZ, sS]
   refine gs 10 hT hS ?_
   simp only [Act.put, gA, gS, gZ, sI, sZ, sS]
   refine gs 11 hT hS ?_
   simp only [Act.put, gA, gS, gZ, sI, sZ, sS]
   refine ghA 12 (.bool true) hT hS ?_
   simp only [Act.put, gA, gS, gZ, sI, sZ, sS]
   refine ghA 13 _ hT hS ?_
   simp only [Act.put, gA, gS, gZ, sI, sZ, sS]
   refine gs 14 hT hS ?_
   simp only [Act.put, gA, gS, gZ, sI, sZ, sS]
   refine gs 15 hT hS ?_
   simp only [Act.put, gA, gS, gZ, sI, sZ, sS]
   refine gs 16 hT hS ?_
   simp only [Act.put, gA, gS, gZ, sI, sZ, sS]
   refine gs 17 hT hS ?_
   simp only [Act.put, gA, gS, gZ, sI, sZ, sS]
   refine gs 18 hT hS ?_
   simp only [Act.put, gA, gS, gZ, sI, sZ, sS]
   refine gs 19 hT hS ?_
   simp only [Act.put, gA, gS, gZ, sI, sZ, sS]
   refine gs 20 hT hS ?_
   simp only [Act.put, gA, gS, gZ, sI, sZ, sS]
   refine gs 21 hT hS ?_
   simp only [Act.put, gA, gS, gZ, sI, sZ, sS]
   refine gs 22 hT hS ?_
   simp only [Act.put, gA, gS, gZ, sI, sZ, sS]
   refine ghA 23 (.bool true) hT hS ?_
   simp only [Act.put, gA, gS, gZ, sI, sZ, sS]
   refine wpAnyT_done (by kernel_rfl) ?_ _
   clear hT hS
   clear d0 d1
   go_wp2
   go_ret
   exact ⟨by rw [HH.out]; exact ret_bC (by simp [*]), hB.drew⟩
 have k1' : (DS == 0) = false := by simpa using k1
 by_cases k2 : DS ≤ 1048576
 rotate_left
 · have k2' : DS > 1048576 := by omega
   have k2d : decide (DS ≤ 1048576) = false := by simp [k2]
   clear k1 HIX HPA HPS HPL
   go_enter Tryz.func91, Tryz.ntmps91
   go_upto_region 2 with (first
    | (refine wpList_ldv rfl 40 _ rfl w.heap.size 0 rfl _ rg uD rfl sizeDot ?_)
    | (refine wpList_stv rfl 40 _ _ rfl _ rfl rfl hN1 sizeDot rfl hD1 ?_))
   refine forget (p := fun y => Code.wp _ _ _ _ y) (fun W => Below w.heap.size w W ∧ CellsAt W w.heap.size 44 EC ∧ CellsAt W (w.heap.size + 1) 40 [.int .u8 (dn : Int), .int .u32 DS]) ⟨hB3, hE3, hD3⟩ ?_
   clear hB3 hE3 hD3 hN1 rg hD1
   rintro W ⟨hB, hE, hD⟩
   have d0 : W.cell? ⟨w.heap.size + 1, 0, none⟩ = some (.int .u8 (dn : Int)) := hD.cell 0
   have d1 : W.cell? ⟨w.heap.size + 1, 1, none⟩ = some (.int .u32 DS) := hD.cell 1
   refine wp_region_gateT (fun w' => w'.cell? ⟨w.heap.size + 1, 0, none⟩ = some (.int .u8 (dn : Int)) ∧ w'.cell? ⟨w.heap.size + 1, 1, none⟩ = some (.int .u32 DS)) (fun _ => True) 99 (by kernel_rfl) ?_
   have hT : (fun w' : World => w'.cell? ⟨w.heap.size + 1, 0, none⟩ = some (.int .u8 (dn : Int)) ∧ w'.cell? ⟨w.heap.size + 1, 1, none⟩ = some (.int .u32 DS)) W.drew := ⟨d0, d1⟩
   have hS := trivial
   refine ghA 0 _ hT hS ?_
   simp only [Act.put, gA, gS, gZ, sI, sZ, sS]
   refine ghA 1 _ hT hS ?_
   simp only [Act.put, gA, gS, gZ, sI, sZ, sS]
   refine ghA 2 (.bool false) hT hS ?_
   simp only [Act.put, gA, gS, gZ, sI, sZ, sS]
   refine ghA 3 _ hT hS ?_
   simp only [Act.put, gA, gS, gZ, sI, sZ, sS]
   refine ghA 4 _ hT hS ?_
   simp only [Act.put, gA, gS, gZ, sI, sZ, sS]
   refine ghA 5 _ hT hS ?_
   simp only [Act.put, gA, gS, gZ, sI, sZ, sS]
   refine ghA 6 (.bool false) hT hS ?_
   simp only [Act.put, gA, gS, gZ, sI, sZ, sS]
   refine ghA 7 (.bool false) hT hS ?_
   simp only [Act.put, gA, gS, gZ, sI, sZ, sS]
   refine ghA 8 _ hT hS ?_
   simp only [Act.put, gA, gS, gZ, sI, sZ, sS]
   refine ghA 9 _ hT hS ?_
   simp only [Act.put, gA, gS, gZ, sI, sZ, sS]
   refine ghA 10 _ hT hS ?_
   simp only [Act.put, gA, gS, gZ, sI, sZ, sS]
   refine ghA 11 (.bool true) hT hS ?_
   simp only [Act.put, gA, gS, gZ, sI, sZ, sS]
   refine ghA 12 (.bool true) hT hS ?_
   simp only [Act.put, gA, gS, gZ, sI, sZ, sS]
   refine ghA 13 _ hT hS ?_
   simp only [Act.put, gA, gS, gZ, sI, sZ, sS]
   refine gs 14 hT hS ?_
   simp only [Act.put, gA, gS, gZ, sI, sZ, sS]
   refine gs 15 hT hS ?_
   simp only [Act.put, gA, gS, gZ, sI, sZ, sS]
   refine gs 16 hT hS ?_
   simp only [Act.put, gA, gS, gZ, sI, sZ, sS]
   refine gs 17 hT hS ?_
   simp only [Act.put, gA, gS, gZ, sI, sZ, sS]
   refine gs 18 hT hS ?_
   simp only [Act.put, gA, gS, gZ, sI, sZ, sS]
   refine gs 19 hT hS ?_
   simp only [Act.put, gA, gS, gZ, sI, sZ, sS]
   refine gs 20 hT hS ?_
   simp only [Act.put, gA, gS, gZ, sI, sZ, sS]
   refine gs 21 hT hS ?_
   simp only [Act.put, gA, gS, gZ, sI, sZ, sS]
   refine gs 22 hT hS ?_
   simp only [Act.put, gA, gS, gZ, sI, sZ, sS]
   refine ghA 23 (.bool true) hT hS ?_
   simp only [Act.put, gA, gS, gZ, sI, sZ, sS]
   refine wpAnyT_done (by kernel_rfl) ?_ _
   clear hT hS
   clear d0 d1
   go_wp2
   go_ret
   exact ⟨by rw [HH.out]; exact ret_bC (by simp [*]), hB.drew⟩
 have k2' : ¬ DS > 1048576 := by omega
 have ws : IntKind.u32.wrap (DS - 1) = DS - 1 := by rw [IntKind.wrap_u32]; omega
 have k0d : decide ((dn : Int) < 8) = true := by simp [k0]
 have k2d : decide (DS ≤ 1048576) = true := by simp [k2]
 have cp := HPA.out dn hd8
 rw [k0d, k1', k2d] at HH
 obtain ⟨PP, hPP⟩ : ∃ q, PA[dn]?.getD 0 = q := ⟨_, rfl⟩
 rw [hPP] at cp HH
 clear hPP k0d k2d
 by_cases k3 : PP = DS - 1
 rotate_left
 · have k3' : (PP == DS - 1) = false := by simpa using k3
   rw [k3'] at HH
   clear k3
   go_enter Tryz.func91, Tryz.ntmps91
   go_upto_region 2 with (first
    | (refine wpList_ldv rfl 40 _ rfl w.heap.size 0 rfl _ rg uD rfl sizeDot ?_)
    | (refine wpList_stv rfl 40 _ _ rfl _ rfl rfl hN1 sizeDot rfl hD1 ?_))
   refine forget (p := fun y => Code.wp _ _ _ _ y) (fun W => Below w.heap.size w W ∧ CellsAt W w.heap.size 44 EC ∧ CellsAt W (w.heap.size + 1) 40 [.int .u8 (dn : Int), .int .u32 DS]) ⟨hB3, hE3, hD3⟩ ?_
   clear hB3 hE3 hD3 hN1 rg hD1
   rintro W ⟨hB, hE, hD⟩
   have d0 : W.cell? ⟨w.heap.size + 1, 0, none⟩ = some (.int .u8 (dn : Int)) := hD.cell 0
   have d1 : W.cell? ⟨w.heap.size + 1, 1, none⟩ = some (.int .u32 DS) := hD.cell 1
   have cE := hE.cell (2 + dn)
   rw [cp] at cE
   refine wp_region_gateT (fun w' => w'.cell? ⟨w.heap.size + 1, 0, none⟩ = some (.int .u8 (dn : Int)) ∧ w'.cell? ⟨w.heap.size + 1, 1, none⟩ = some (.int .u32 DS) ∧ w'.cell? ⟨w.heap.size, 2 + dn, none⟩ = some (.int .u32 PP)) (fun _ => True) 99 (by kernel_rfl) ?_
   have hT : (fun w' : World => w'.cell? ⟨w.heap.size + 1, 0, none⟩ = some (.int .u8 (dn : Int)) ∧ w'.cell? ⟨w.heap.size + 1, 1, none⟩ = some (.int .u32 DS) ∧ w'.cell? ⟨w.heap.size, 2 + dn, none⟩ = some (.int .u32 PP)) W.drew := ⟨d0, d1, cE⟩
   have hS := trivial
   refine ghA 0 _ hT hS ?_
   simp only [Act.put, gA, gS, gZ, sI, sZ, sS]
   refine ghA 1 _ hT hS ?_
   simp only [Act.put, gA, gS, gZ, sI, sZ, sS]
   refine ghA 2 (.bool false) hT hS ?_
   simp only [Act.put, gA, gS, gZ, sI, sZ, sS]
   refine ghA 3 _ hT hS ?_
   simp only [Act.put, gA, gS, gZ, sI, sZ, sS]
   refine ghA 4 _ hT hS ?_
   simp only [Act.put, gA, gS, gZ, sI, sZ, sS]
   refine ghA 5 _ hT hS ?_
   simp only [Act.put, gA, gS, gZ, sI, sZ, sS]
   refine ghA 6 (.bool false) hT hS ?_
   simp only [Act.put, gA, gS, gZ, sI, sZ, sS]
   refine ghA 7 (.bool false) hT hS ?_
   simp only [Act.put, gA, gS, gZ, sI, sZ, sS]
   refine ghA 8 _ hT hS ?_
   simp only [Act.put, gA, gS, gZ, sI, sZ, sS]
   refine ghA 9 _ hT hS ?_
   simp only [Act.put, gA, gS, gZ, sI, sZ, sS]
   refine ghA 10 _ hT hS ?_
   simp only [Act.put, gA, gS, gZ, sI, sZ, sS]
   refine ghA 11 (.bool false) hT hS ?_
   simp only [Act.put, gA, gS, gZ, sI, sZ, sS]
   refine ghA 12 (.bool false) hT hS ?_
   simp only [Act.put, gA, gS, gZ, sI, sZ, sS]
   refine ghA 13 _ hT hS ?_
   simp only [Act.put, gA, gS, gZ, sI, sZ, sS]
   refine ghA 14 _ hT hS ?_
   simp only [Act.put, gA, gS, gZ, sI, sZ, sS]
   refine ghA 15 _ hT hS ?_
   simp only [Act.put, gA, gS, gZ, sI, sZ, sS]
   refine ghA 16 _ hT hS ?_
   simp only [Act.put, gA, gS, gZ, sI, sZ, sS]
   refine ghA 17 _ hT hS ?_
   simp only [Act.put, gA, gS, gZ, sI, sZ, sS]
   refine ghA 18 _ hT hS ?_
   simp only [Act.put, gA, gS, gZ, sI, sZ, sS]
   refine ghA 19 _ hT hS ?_
   simp only [Act.put, gA, gS, gZ, sI, sZ, sS]
   refine ghA 20 _ hT hS ?_
   simp only [Act.put, gA, gS, gZ, sI, sZ, sS]
   refine ghA 21 _ hT hS ?_
   simp only [Act.put, gA, gS, gZ, sI, sZ, sS]
   refine gh 22 (.bool true) hT hS ?_ ?_
   · intro wx hSw; go_split_ands; go_simp; simpa using k3'
   simp only [Act.put, gA, gS, gZ, sI, sZ, sS]
   refine ghA 23 (.bool true) hT hS ?_
   simp only [Act.put, gA, gS, gZ, sI, sZ, sS]
   refine wpAnyT_done (by kernel_rfl) ?_ _
   clear hT hS
   clear cE
   clear d0 d1
   go_wp2
   go_ret
   exact ⟨by rw [HH.out]; exact ret_bC (by simp [*]), hB.drew⟩
 have k3' : (PP == DS - 1) = true := by simpa using k3
 rw [k3'] at HH
 clear k3
 go_enter Tryz.func91, Tryz.ntmps91
 go_upto_region 2 with (first
  | (refine wpList_ldv rfl 40 _ rfl w.heap.size 0 rfl _ rg uD rfl sizeDot ?_)
  | (refine wpList_stv rfl 40 _ _ rfl _ rfl rfl hN1 sizeDot rfl hD1 ?_))
 refine forget (p := fun y => Code.wp _ _ _ _ y) (fun W => Below w.heap.size w W ∧ CellsAt W w.heap.size 44 EC ∧ CellsAt W (w.heap.size + 1) 40 [.int .u8 (dn : Int), .int .u32 DS]) ⟨hB3, hE3, hD3⟩ ?_
 clear hB3 hE3 hD3 hN1 rg hD1
 rintro W ⟨hB, hE, hD⟩
 have d0 : W.cell? ⟨w.heap.size + 1, 0, none⟩ = some (.int .u8 (dn : Int)) := hD.cell 0
 have d1 : W.cell? ⟨w.heap.size + 1, 1, none⟩ = some (.int .u32 DS) := hD.cell 1
 have cE := hE.cell (2 + dn)
 rw [cp] at cE
 refine wp_region_gateT (fun w' => w'.cell? ⟨w.heap.size + 1, 0, none⟩ = some (.int .u8 (dn : Int)) ∧ w'.cell? ⟨w.heap.size + 1, 1, none⟩ = some (.int .u32 DS) ∧ w'.cell? ⟨w.heap.size, 2 + dn, none⟩ = some (.int .u32 PP)) (fun _ => True) 99 (by kernel_rfl) ?_
 have hT : (fun w' : World => w'.cell? ⟨w.heap.size + 1, 0, none⟩ = some (.int .u8 (dn : Int)) ∧ w'.cell? ⟨w.heap.size + 1, 1, none⟩ = some (.int .u32 DS) ∧ w'.cell? ⟨w.heap.size, 2 + dn, none⟩ = some (.int .u32 PP)) W.drew := ⟨d0, d1, cE⟩
 have hS := trivial
 refine ghA 0 _ hT hS ?_
 simp only [Act.put, gA, gS, gZ, sI, sZ, sS]
 refine ghA 1 _ hT hS ?_
 simp only [Act.put, gA, gS, gZ, sI, sZ, sS]
 refine ghA 2 (.bool false) hT hS ?_
 simp only [Act.put, gA, gS, gZ, sI, sZ, sS]
 refine ghA 3 _ hT hS ?_
 simp only [Act.put, gA, gS, gZ, sI, sZ, sS]
 refine ghA 4 _ hT hS ?_
 simp only [Act.put, gA, gS, gZ, sI, sZ, sS]
 refine ghA 5 _ hT hS ?_
 simp only [Act.put, gA, gS, gZ, sI, sZ, sS]
 refine ghA 6 (.bool false) hT hS ?_
 simp only [Act.put, gA, gS, gZ, sI, sZ, sS]
 refine ghA 7 (.bool false) hT hS ?_
 simp only [Act.put, gA, gS, gZ, sI, sZ, sS]
 refine ghA 8 _ hT hS ?_
 simp only [Act.put, gA, gS, gZ, sI, sZ, sS]
 refine ghA 9 _ hT hS ?_
 simp only [Act.put, gA, gS, gZ, sI, sZ, sS]
 refine ghA 10 _ hT hS ?_
 simp only [Act.put, gA, gS, gZ, sI, sZ, sS]
 refine ghA 11 (.bool false) hT hS ?_
 simp only [Act.put, gA, gS, gZ, sI, sZ, sS]
 refine ghA 12 (.bool false) hT hS ?_
 simp only [Act.put, gA, gS, gZ, sI, sZ, sS]
 refine ghA 13 _ hT hS ?_
 simp only [Act.put, gA, gS, gZ, sI, sZ, sS]
 refine ghA 14 _ hT hS ?_
 simp only [Act.put, gA, gS, gZ, sI, sZ, sS]
 refine ghA 15 _ hT hS ?_
 simp only [Act.put, gA, gS, gZ, sI, sZ, sS]
 refine ghA 16 _ hT hS ?_
 simp only [Act.put, gA, gS, gZ, sI, sZ, sS]
 refine ghA 17 _ hT hS ?_
 simp only [Act.put, gA, gS, gZ, sI, sZ, sS]
 refine ghA 18 _ hT hS ?_
 simp only [Act.put, gA, gS, gZ, sI, sZ, sS]
 refine ghA 19 _ hT hS ?_
 simp only [Act.put, gA, gS, gZ, sI, sZ, sS]
 refine ghA 20 _ hT hS ?_
 simp only [Act.put, gA, gS, gZ, sI, sZ, sS]
 refine ghA 21 _ hT hS ?_
 simp only [Act.put, gA, gS, gZ, sI, sZ, sS]
 refine gh 22 (.bool false) hT hS ?_ ?_
 · intro wx hSw; go_split_ands; go_simp; simpa using k3'
 simp only [Act.put, gA, gS, gZ, sI, sZ, sS]
 refine ghA 23 (.bool false) hT hS ?_
 simp only [Act.put, gA, gS, gZ, sI, sZ, sS]
 refine wpAnyT_done (by kernel_rfl) ?_ _
 clear hT hS
 have rP := hE.range 2 8
 rw [HPS.out] at rP
 have iV : (Tryz.prog.info? 37).map (·.size) = some (PA.map (Value.int .u32)).length := by rw [List.length_map, HPL.out]; exact sizeV8c
 have HRP : Veil (W.drew.rangeAt w.heap.size 2 (PA.map (Value.int .u32))) := ⟨rP⟩
 have rP2 := HRP.out
 obtain ⟨PV, hPV⟩ : ∃ q, PA.map (Value.int .u32) = q := ⟨_, rfl⟩
 rw [hPV] at rP2 iV HIX
 clear d0 d1 cE rP HRP hPV k0 k0' ha hs hs2 k1 k1' k2 k2' k3' ws cp HPA HPS hE hD
 have HBD := Veil.mk hB.drew
 clear hB
 refine forget (p := fun y => Exit.then _ _ _ _ y) (fun W => Below w.heap.size w W ∧ W.rangeAt w.heap.size 2 PV) ⟨HBD.out, rP2⟩ ?_
 clear rP2 HBD
 clear W
 rintro W ⟨hB, rP⟩
 go_wp2_with (refine wpList_ldv rfl 37 _ rfl w.heap.size 2 rfl PV rP uV rfl iV ?_)
 go_loopw [5, 34] (fun _ q wr => ∃ j : Nat, j ≤ 8 ∧ q = .int .i64 j ∧ Below w.heap.size w wr ∧ pastTo PA j = true) (fun _ q _ => 8 - (intOf q).toNat)
 case atStart => exact ⟨0, Nat.zero_le _, rfl, hB, rfl⟩
 case round =>
  clear hB rP
  obtain ⟨j, hj, rfl, hB, hall⟩ := hrel
  have HALL := Veil.mk hall
  clear hall
  by_cases hj8 : j < 8
  · have hji : (j : Int) < 8 := by omega
    have hj0 : (0 : Int) ≤ (j : Int) := by omega
    have hix := HIX.out j hj8
    have hw1 : IntKind.i64.wrap ((j : Int) + 1) = (j : Int) + 1 := by rw [IntKind.wrap_i64]; omega
    have HPF : Veil (¬ PA[j]?.getD 0 ≤ 1048576 → pastTo PA 8 = false) := ⟨fun h => pastTo_false PA j hj8 h⟩
    have HPT : Veil (PA[j]?.getD 0 ≤ 1048576 → pastTo PA (j + 1) = true) := ⟨fun h => by unfold pastTo; rw [HALL.out]; simp [h]⟩
    generalize PA[j]?.getD 0 = PJ at hix HPF HPT
    by_cases hgt : PJ > 1048576
    · go_wp2
      go_ret
      exact ⟨by rw [HH.out, HPF.out (by omega)]; rfl, hB⟩
    · go_wp2
      go_roundw
      case rel => exact ⟨j + 1, hj8, by push_cast; rfl, hB, HPT.out (by omega)⟩
      case measure => simp [intOf]; omega
  · obtain rfl : j = 8 := by omega
    have hji : ¬ ((8 : Nat) : Int) < 8 := by omega
    go_wp2
    go_ret
    exact ⟨by rw [HH.out, HALL.out]; rfl, hB⟩
set_option maxHeartbeats 4000000 in
theorem crightPar_any (e : Ev) (w : World) (hp : e.past.length = 8) (ha : 0 ≤ e.pa) (hs : 0 ≤ e.ps) :
    Calls Tryz.prog 92 #[.agg e.cells.toArray] w fun x w' => x = .returned (.bool (rightParB e)) ∧ Below w.heap.size w w' := by
 have h0 := CellsAt.new w 44 e.cells
 have hB : Below w.heap.size w (w.alloc (.cells e.cells.toArray 44)) := (Below.refl _ _).alloc (Nat.le_refl _) _
 obtain ⟨q13, _, _, _, _⟩ := ev_cell15 e hp
 have c13 := (h0.cell 13).trans q13
 have rg := h0.range 11 2
 rw [ev_parent e hp] at rg
 have rp := h0.range 2 8
 rw [ev_past e hp] at rp
 have heq : ∀ wx, (binOp BinOp.eql 40 (.agg (dotC e.pa e.ps).toArray) (.agg #[.int .u8 0, .int .u32 0])).run Tryz.prog wx = .ok (.bool ((e.pa == 0) && (e.ps == 0))) wx := fun wx => dot_eql e.pa e.ps 0 0 wx
 have hch : ∀ W, Calls Tryz.prog 74 #[.agg (e.past.map (Value.int .u32)).toArray, .agg (dotC e.pa e.ps).toArray] W fun x w' => x = .returned (.bool (hasB e.past e.pa e.ps)) ∧ Below W.heap.size W w' := fun W => chas_any e.past e.pa e.ps W hp ha hs
 have HCH := Veil.mk hch
 have HH : Veil (rightParB e = ((((e.pa == 0) && (e.ps == 0)) && e.right) || hasB e.past e.pa e.ps)) := ⟨rfl⟩
 have iV : (Tryz.prog.info? 37).map (·.size) = some (e.past.map (Value.int .u32)).length := by rw [List.length_map, hp]; exact sizeV8c
 have hDl : (Tryz.prog.info? 40).map (·.size) = some (dotC e.pa e.ps).length := sizeDot
 obtain ⟨r, hr⟩ : ∃ q, ((e.pa == 0) && (e.ps == 0)) = q := ⟨_, rfl⟩
 simp only [hr] at heq
 rw [hr] at HH
 obtain ⟨hb, hhb⟩ : ∃ q, hasB e.past e.pa e.ps = q := ⟨_, rfl⟩
 rw [hhb] at HCH HH
 obtain ⟨DP, hDP⟩ : ∃ q, dotC e.pa e.ps = q := ⟨_, rfl⟩
 rw [hDP] at rg hDl HCH
 simp only [hDP] at heq
 obtain ⟨PV, hPV⟩ : ∃ q, e.past.map (Value.int .u32) = q := ⟨_, rfl⟩
 rw [hPV] at rp iV HCH
 obtain ⟨ri, hri⟩ : ∃ q, e.right = q := ⟨_, rfl⟩
 rw [hri] at c13 HH
 have uD := Tryz.underlying40
 have uV := Tryz.underlying37
 clear q13 hri h0 hDP hr hPV hhb hch ha hs
 cases r <;> cases ri
 all_goals
  go_enter Tryz.func92, Tryz.ntmps92
  go_upto_region 1 with fail
  refine forget (p := fun y => Code.wp _ _ _ _ y) (fun W => Below w.heap.size w W ∧ W.cell? ⟨w.heap.size, 13, none⟩ = some (.bool _) ∧ W.rangeAt w.heap.size 11 DP ∧ W.rangeAt w.heap.size 2 PV) ⟨hB, c13, rg, rp⟩ ?_
  clear hB c13 rg rp
  rintro W ⟨hB, c13, rg, rp⟩
  have hc := HCH.out W
  have HB : Veil (∀ w1, Below W.heap.size W w1 → Below w.heap.size w w1) := ⟨fun w1 h => hB.trans (h.mono hB.size)⟩
  go_wp2_with (first
   | (refine wpList_ldv rfl 40 _ rfl w.heap.size 11 rfl DP rg uD rfl hDl ?_)
   | (refine wpList_ldgv (by kernel_rfl) 37 _ rfl w.heap.size 2 rfl PV rp uV rfl iV ?_)
   | (refine wpList_ldgv (by kernel_rfl) 40 _ rfl w.heap.size 11 rfl DP rg uD rfl hDl ?_)
   | (go_at_call 74; refine hc.mono ?_; rintro e w1 ⟨rfl, hb1⟩; replace hB := HB.out w1 hb1))
  go_ret
  exact ⟨by rw [HH.out]; cases hb <;> rfl, hB⟩
end Go.Proofs.YtmbdohnmbkpfaaaGreat
