/- Bg Ky4 Ky5 Ky6 Kr1 -/
import Derived.Laws.Tables
import Derived.Test.YtflkhkmejnpapaaGreatDoorK04
import Derived.Test.YtflkhkmejnpapaaGreatDoorK21
import Derived.ArgAppend
import Derived.Lib.LazyBuf
namespace Go.Proofs.YtflkhkmejnpapaaGreatDoor
open Go.RowKit
set_option maxRecDepth 20000
theorem fold_set (off : Nat) : ∀ (cs : List Value) (k : Nat) (old : List Value), off + k + cs.length ≤ old.length →
    (cs.zipIdx k).foldl (fun (a : Array Value) (p : Value × Nat) => a.setIfInBounds (off + p.2) p.1) old.toArray = (old.take (off + k) ++ cs ++ old.drop (off + k + cs.length)).toArray
 | [], k, old, _ => by simp
 | c :: cs, k, old, h => by
  rw [List.length_cons] at h
  rw [List.zipIdx_cons, List.foldl_cons, sI, fold_set off cs (k + 1) (old.set (off + k) c) (by rw [List.length_set]; omega)]
  congr 1
  have e1 : (old.set (off + k) c).take (off + (k + 1)) = old.take (off + k) ++ [c] := by
   rw [show off + (k + 1) = (off + k) + 1 by omega, List.take_add_one, List.take_set_of_le (Nat.le_refl _), List.getElem?_set_self (by omega)]
   rfl
  have e2 : (old.set (off + k) c).drop (off + (k + 1) + cs.length) = old.drop (off + k + (c :: cs).length) := by
   rw [List.drop_set_of_lt (by omega), List.length_cons]
   congr 1; omega
  rw [e1, e2]
  simp
theorem fill_cons (place : Nat → Option (Nat × Nat)) (old cs : List Value) (i off size : Nat) (v : Value) (rest : List (Nat × Value)) (hp : place i = some (off, size)) (hv : v.cells = cs.toArray) (hs : cs.length = size) (hl : off + size ≤ old.length) :
    Instr.fill place old.toArray ((i, v) :: rest) = Instr.fill place (old.take off ++ cs ++ old.drop (off + size)).toArray rest := by
 rw [Instr.fill, hp]
 simp only [hv, List.size_toArray, hs]
 rw [if_neg (by simp; omega), ← Array.foldl_toList, Array.toList_zipIdx]
 have := fold_set off cs 0 old (by omega)
 simp only [Nat.add_zero] at this
 rw [hs] at this
 rw [← this]
theorem built_of {P : Program} {t : TypeId} {fields : Array Field} {z : List Value} {places : List (Nat × Nat)} (hz : (P.info? t).map (·.zero) = some (some (.agg z.toArray))) (hu : P.underlying t = some (.struct fields)) (hp : fields.toList.mapM (fun f => (P.info? f.type).map fun i => (f.offset, i.size)) = some places) (parts : List (Nat × Value)) :
    P.built t parts = Instr.fill (places.toArray[·]?) z.toArray parts := by
 unfold Program.built
 cases hi : P.info? t with
 | none => simp [hi] at hz
 | some it =>
  have hz' : it.zero = some (.agg z.toArray) := by simpa [hi] using hz
  simp only [hu, hz', hp, Value.cells]
set_option linter.unusedSimpArgs false
section
variable (base H : Nat) (own : Int) (seed : List Int) (b : Nat) (M : Int → Int → Option (List Int)) (v : Value) (L : List (Int × Int)) (w : World)
def refuseE (own o : Int) : Int := if 8 ≤ o then 2 else if o = own then 12 else 0
set_option maxHeartbeats 1000000 in
theorem refuse_any (o : Int) (hR : RingAt w base H own seed b M v L) :
    Calls Tryz.prog 35 #[.pointer (some ⟨H, 0, none⟩), .int .u8 o] w fun e w' => e = .returned (.int .i64 (refuseE own o)) ∧ w' = w := by
 have c0 := hR.box.cell 0
 rw [ringC_own] at c0
 by_cases h8 : 8 ≤ o
 · have HE : Veil (refuseE own o = 2) := ⟨if_pos h8⟩
   go_enter Tryz.func35, Tryz.ntmps35
   go_wp2
   go_ret
   exact ⟨by rw [HE.out]; rfl, rfl⟩
 · by_cases ho : o = own
   · have HE : Veil (refuseE own o = 12) := ⟨by unfold refuseE; rw [if_neg h8, if_pos ho]⟩
     subst ho
     go_enter Tryz.func35, Tryz.ntmps35
     go_wp2
     go_ret
     exact ⟨by rw [HE.out]; rfl, rfl⟩
   · have HE : Veil (refuseE own o = 0) := ⟨by unfold refuseE; rw [if_neg h8, if_neg ho]⟩
     have hbe : (o == own) = false := by simpa using ho
     go_enter Tryz.func35, Tryz.ntmps35
     go_wp2
     go_ret
     exact ⟨by rw [HE.out]; rfl, rfl⟩
set_option maxHeartbeats 1000000 in
theorem rOwn_any (hR : RingAt w base H own seed b M v L) :
    Calls Tryz.prog 16 #[.pointer (some ⟨H, 0, none⟩)] w fun e w' => e = .returned (.int .u8 own) ∧ w' = w := by
 have c0 := hR.box.cell 0
 rw [ringC_own] at c0
 go_enter Tryz.func16, Tryz.ntmps16
 go_wp2
 go_ret
 exact ⟨rfl, rfl⟩
end
theorem exec_look {P : Program} {ρ : Operand → Value} {o : Oper} {w : World} {t : TypeId} {m x : Operand} {b : Bool} (ho : o.op = .lookup t m x b) {mv xv v : Value} (hm : ρ m = mv) (hx : ρ x = xv) (hrun : (Instr.lookup t mv xv b).run P w = .ok v w) : (execOp ρ o).run P w = .ok (.value v) w := by
 unfold execOp
 simp only [ho, hm, hx, Sem.run_bind, hrun, Result.andThen_ok, Sem.run_pure]
theorem results_ct {P : Program} {fn : Func} {p q : Tmp} {ty t : TypeId} {d : TypeDesc} (h : fn.results = #[.cell p ty, .tmp q]) (tmps : Array Value) {w : World} {A : Nat} {cs : List Value} {v : Value} (hp : tmps.getD p undef = .pointer (some ⟨A, 0, none⟩)) (hq : tmps.getD q undef = v) (hA : CellsAt w A t cs)
    (hu : P.underlying ty = some d) (hd : d.isRow = true) (hi : (P.info? ty).map (·.size) = some cs.length) :
    (results fn tmps).run P w = .ok (.tuple #[.agg cs.toArray, v]) w := by
 have hp' : tmps[p]?.getD undef = .pointer (some ⟨A, 0, none⟩) := by simpa using hp
 have hq' : tmps[q]?.getD undef = v := by simpa using hq
 have hl := run_loadVar_row (P := P) w A t ty cs.toArray (0, 0) _ hA hu (by cases d <;> first | rfl | (cases hd)) (by rw [hi]; simp)
 simp [results, h, hp', hq', asAddr, hl]
def keyAt (M : Int → Int → Option (List Int)) (a s : Int) : List Int := (M a s).getD (List.replicate 32 0)
theorem zeroKeyRun (w : World) : (zeroValue 23).run Tryz.prog w = .ok (.agg (row .u8 (List.replicate 32 0))) w := by kernel_rfl
theorem rowM_getD (M : Int → Int → Option (List Int)) (a s : Int) : (rowM M a s).getD (.agg (row .u8 (List.replicate 32 0))) = .agg (row .u8 (keyAt M a s)) := by
 unfold rowM keyAt
 cases M a s <;> rfl
theorem rowM_isSome (M : Int → Int → Option (List Int)) (a s : Int) : (rowM M a s).isSome = (M a s).isSome := by
 unfold rowM
 cases M a s <;> rfl
section
variable (base H : Nat) (own : Int) (seed : List Int) (b : Nat) (M : Int → Int → Option (List Int)) (v : Value) (L : List (Int × Int)) (w : World)
theorem keyAt_length (hR : RingAt w base H own seed b M v L) (a s : Int) : (keyAt M a s).length = 32 := by
 unfold keyAt
 cases h : M a s with
 | none => rfl
 | some k => exact hR.is32 a s k h
set_option maxHeartbeats 4000000 in
theorem rKey_any (a s : Int) (ho : okD a s) (hR : RingAt w base H own seed b M v L) :
    Calls Tryz.prog 21 #[.pointer (some ⟨H, 0, none⟩), .agg (dotC a s).toArray] w fun e w' => e = .returned (.tuple #[.agg (row .u8 (keyAt M a s)), .bool (M a s).isSome]) ∧ Below w.heap.size w w' := by
 have hs32 := hR.seed32
 have hKl := keyAt_length base H own seed b M v L w hR a s
 obtain ⟨Z, hZl, hZ⟩ : ∃ Z : List Int, Z.length = 32 ∧ Z = List.replicate 32 0 := ⟨_, rfl, rfl⟩
 have hd0 := (CellsAt.new w 33 (dotC a s)).alloc (.cells (row .u8 Z) 23)
 have hr0 := Holds.new (w.alloc (.cells (dotC a s).toArray 33)) .u8 23 Z
 rw [World.size_alloc] at hr0
 have hB : Below w.heap.size w ((w.alloc (.cells (dotC a s).toArray 33)).alloc (.cells (row .u8 Z) 23)) := ((Below.refl _ _).alloc (Nat.le_refl _) _).alloc (by simp) _
 have HLOOK : Veil (∀ wx, MapAt wx b L.length (rowM M) → (Instr.lookup 60 (.map (some b)) (.agg (dotC a s).toArray) true).run Tryz.prog wx = .ok (.tuple #[.agg (row .u8 (keyAt M a s)), .bool (M a s).isSome]) wx) := ⟨fun wx h => by
  have := h.look mapDotKey (zeroKeyRun wx) a s ho
  rw [rowM_getD, rowM_isSome] at this
  exact this⟩
 obtain ⟨KA, hKA⟩ : ∃ q, keyAt M a s = q := ⟨_, rfl⟩
 obtain ⟨IS, hIS⟩ : ∃ q, (M a s).isSome = q := ⟨_, rfl⟩
 rw [hKA, hIS] at HLOOK
 rw [hKA] at hKl
 have HKI : Veil (keyAt M a s = KA ∧ (M a s).isSome = IS) := ⟨hKA, hIS⟩
 clear hKA hIS
 have uD : Tryz.prog.underlying 33 = _ := Tryz.underlying33
 have iD : (Tryz.prog.info? 33).map (·.size) = some (dotC a s).length := sizeDotK
 go_enter Tryz.func21, Tryz.ntmps21
 go_upto_region 3 with fail
 refine forget (p := fun y => Code.wp _ _ _ _ y) (fun W => Below w.heap.size w W ∧ RingAt W base H own seed b M v L ∧ CellsAt W w.heap.size 33 (dotC a s) ∧ Holds W (w.heap.size + 1) .u8 23 Z) ⟨by rw [hZ] at hB; exact hB, by rw [hZ] at hB; exact hR.far hB, by rw [hZ] at hd0; exact hd0, by rw [hZ] at hr0 ⊢; exact hr0⟩ ?_
 clear hB hd0 hr0 hZ
 rintro W ⟨hB, hR0, hd0, hr0⟩
 refine wp_region_gate (fun w' => w'.cell? ⟨H, 33, none⟩ = some (.map (some b)) ∧ w'.rangeAt w.heap.size 0 (dotC a s) ∧ MapAt w' b L.length (rowM M)) 10 (by kernel_rfl) ?_
 have HS : ∀ W' : World, RingAt W' base H own seed b M v L → CellsAt W' w.heap.size 33 (dotC a s) → (fun w' : World => w'.cell? ⟨H, 33, none⟩ = some (.map (some b)) ∧ w'.rangeAt w.heap.size 0 (dotC a s) ∧ MapAt w' b L.length (rowM M)) W' := fun W' h1 h2 => ⟨by have := h1.box.cell 33; rw [ringC_map _ _ _ _ hs32] at this; exact this, h2.range 0 2, h1.map⟩
 have hS := HS W.drew (hR0.congr fun _ _ => rfl) (hd0.congr rfl)
 refine gaA 0 _ hS ?_
 simp only [Act.put, gA, gS, gZ, sI, sZ, sS]
 refine gaA 1 _ hS ?_
 simp only [Act.put, gA, gS, gZ, sI, sZ, sS]
 refine gaA 2 _ hS ?_
 simp only [Act.put, gA, gS, gZ, sI, sZ, sS]
 refine grA 3 _ hS ?_
 simp only [Act.put, gA, gS, gZ, sI, sZ, sS]
 refine wpAnyG_load (i := 4) (dst := some 16) (ty := 33) (x := .tmp 3) (b := w.heap.size) (o := (0)) (cs := (dotC a s)) (by kernel_rfl) (by kernel_rfl) (by kernel_rfl) (by kernel_rfl) (by kernel_rfl) (fun _ _ _ h => h) (by kernel_rfl) (by kernel_rfl) (by kernel_rfl) hS (by kernel_rfl) (fun _ h => h.2.1) uD rfl iD ?_
 simp only [Act.put, gA, gS, gZ, sI, sZ, sS]
 refine wpAnyG_read (i := 5) (v := (.tuple #[.agg (row .u8 KA), .bool IS])) rfl (by kernel_rfl) (by kernel_rfl) (by kernel_rfl) (fun _ _ _ h => h) (by kernel_rfl) (by kernel_rfl) (by kernel_rfl) hS (by kernel_rfl) (fun wx h => exec_look rfl rfl rfl (HLOOK.out wx h.2.2)) ?_
 simp only [Act.put, gA, gS, gZ, sI, sZ, sS]
 refine gaA 6 _ hS ?_
 simp only [Act.put, gA, gS, gZ, sI, sZ, sS]
 refine gaA 7 _ hS ?_
 simp only [Act.put, gA, gS, gZ, sI, sZ, sS]
 refine gaA 8 _ hS ?_
 simp only [Act.put, gA, gS, gZ, sI, sZ, sS]
 refine wpAnyG_one (i := 9) rfl (by kernel_rfl) (by kernel_rfl) (fun K hK => ?_)
 go_simp
 have hb1 : Below W.heap.size W (W.alloc (.cells (row .u8 (List.replicate 32 0)) 23)).drew := ((Below.refl _ _).alloc (Nat.le_refl _) _).drew
 have hA1 := (Holds.new W .u8 23 (List.replicate 32 0)).drew
 have hR1 := hR0.far hb1
 have hd1 := hd0.congr (hb1.block _ hd0.lt)
 have hr1 := hr0.below hb1 hr0.lt
 have hB1 := hB.trans (hb1.mono hB.size)
 have hgW : w.heap.size + 1 < W.heap.size := hr0.lt
 replace hS := HS _ hR1 hd1
 refine hK.out _ _ (fun _ => hS) ?_
 clear hK K
 try simp only [Act.put, gA, gS, gZ, sI, sZ, sS]
 refine wpAnyG_one (i := 10) rfl (by kernel_rfl) (by kernel_rfl) (fun K hK => ?_)
 refine wp_stG 23 _ _ rfl _ rfl (k := .u8) (l := KA) rfl hA1 (by rw [hKl]; exact sizeKeyD) (by rw [hKl]; rfl) ?_
 refine hK.out _ _ (fun h => absurd (show true = false from h) (by decide)) ?_
 clear hK K
 try simp only [Act.put, gA, gS, gZ, sI, sZ, sS]
 refine wpAnyG_any (i := 11) (v := ?_) rfl (by kernel_rfl) (by kernel_rfl) (by kernel_rfl) (fun _ _ _ h => h) (by kernel_rfl) (fun h => absurd (show true = false from h) (by decide)) (by kernel_rfl) ?_ ?_
 rotate_left
 · intro _; go_simp; try with_reducible rfl
 simp only [Act.put, gA, gS, gZ, sI, sZ, sS]
 refine wpAnyG_done (by kernel_rfl) ?_ _
 have hA2 := hA1.setRow KA
 have hr2 := hr1.setRowOther (g' := W.heap.size) (row .u8 KA) (by omega)
 have hB2 := below_setRow (g := W.heap.size) hB1 (by have := hB.size; omega) (row .u8 KA)
 refine forget (p := fun y => Exit.then _ _ _ _ y) (fun V => Below w.heap.size w V ∧ Holds V W.heap.size .u8 23 KA ∧ Holds V (w.heap.size + 1) .u8 23 Z) ⟨hB2, hA2, hr2⟩ ?_
 clear hb1 hA1 hR1 hd1 hr1 hB1 hS HS hA2 hr2 hB2 hR0 hd0 hr0 hB uD iD HLOOK
 obtain ⟨G, hG⟩ : ∃ q, W.heap.size = q := ⟨_, rfl⟩
 rw [hG] at hgW ⊢
 clear hG
 clear W
 rintro V ⟨hB, hA, hr⟩
 go_wp2_with (first
  | (refine wpList_ld rfl 23 _ rfl _ rfl hA Tryz.underlying23 sizeKeyD hKl ?_)
  | (refine wpList_st rfl 23 _ _ rfl _ rfl rfl hr (by rw [hKl]; exact sizeKeyD) (by rw [hZl, hKl]) ?_))
 refine bodyPost_ret (results_ct (Tryz.results21) _ rfl rfl (hr.setRow KA).cellsAt Tryz.underlying23 rfl (by rw [List.length_map, hKl]; exact sizeKeyD)) rfl ⟨?_, ?_⟩
 · rw [HKI.out.1, HKI.out.2]; rfl
 · exact below_setRow hB (by omega) _
set_option maxHeartbeats 1000000 in
theorem rHas_any (a s : Int) (ho : okD a s) (hR : RingAt w base H own seed b M v L) :
    Calls Tryz.prog 15 #[.pointer (some ⟨H, 0, none⟩), .agg (dotC a s).toArray] w fun e w' => e = .returned (.bool (M a s).isSome) ∧ Below w.heap.size w w' := by
 have hd0 := CellsAt.new w 33 (dotC a s)
 have hB : Below w.heap.size w (w.alloc (.cells (dotC a s).toArray 33)) := (Below.refl _ _).alloc (Nat.le_refl _) _
 have hk := rKey_any base H own seed b M v L (w.alloc (.cells (dotC a s).toArray 33)) a s ho (hR.far hB)
 have hKl := keyAt_length base H own seed b M v L w hR a s
 have rD := hd0.range 0 2
 rw [show ((dotC a s).drop 0).take 2 = dotC a s from rfl] at rD
 obtain ⟨KA, hKA⟩ : ∃ q, keyAt M a s = q := ⟨_, rfl⟩
 obtain ⟨IS, hIS⟩ : ∃ q, (M a s).isSome = q := ⟨_, rfl⟩
 rw [hKA] at hKl hk
 rw [hIS] at hk
 have HIS := Veil.mk hIS
 clear hKA hIS
 go_enter Tryz.func15, Tryz.ntmps15
 go_wp2_with (first
  | (refine wpList_ldv rfl 33 _ rfl _ _ rfl (dotC a s) rD Tryz.underlying33 rfl sizeDotK ?_)
  | (go_at_call 21; refine hk.mono ?_; rintro e w1 ⟨rfl, hb1⟩; have hA1 := Holds.new w1 .u8 23 (List.replicate 32 0))
  | (refine wpList_st rfl 23 _ _ rfl _ rfl rfl hA1 (by rw [hKl]; exact sizeKeyD) (by rw [hKl]; rfl) ?_))
 go_ret
 have hB1 := hB.trans (hb1.mono hB.size)
 exact ⟨by rw [HIS.out]; rfl, below_setRow (hB1.alloc hB1.size _) hB1.size _⟩
end
def minB (a b : Int) : Int := if b < a then b else a
def maxB (a b : Int) : Int := if a < b then b else a
def wPair : List Int := [112, 97, 105, 114]
def wEpoch : List Int := [101, 112, 111, 99, 104]
def wFrame : List Int := [102, 114, 97, 109, 101]
def pairL (seed : List Int) (a b : Int) : List Int := derL seed (wPair ++ [minB a b, maxB a b])
def epochL (seed : List Int) : List Int := derL seed (wEpoch ++ [])
def fkeyL (k : List Int) (a : Int) : List Int := derL k (wFrame ++ [a])
section
variable (base H : Nat) (own : Int) (seed : List Int) (b : Nat) (M : Int → Int → Option (List Int)) (v : Value) (L : List (Int × Int)) (w : World)
set_option maxHeartbeats 4000000 in
theorem rPair_any (p q : Int) (hR : RingAt w base H own seed b M v L) (hKT : S.KTab w) :
    Calls Tryz.prog 37 #[.pointer (some ⟨H, 0, none⟩), .int .u8 p, .int .u8 q] w fun e w' => e = .returned (.agg (row .u8 (pairL seed p q))) ∧ Below w.heap.size w w' := by
 have hs32 := hR.seed32
 obtain ⟨Z, hZl, hZ⟩ : ∃ Z : List Int, Z.length = 32 ∧ Z = List.replicate 32 0 := ⟨_, rfl, rfl⟩
 have hB : Below w.heap.size w (w.alloc (.cells (row .u8 Z) 23)) := (Below.refl _ _).alloc (Nat.le_refl _) _
 have hr0 := Holds.new w .u8 23 Z
 have hPl : (pairL seed p q).length = 32 := derL_length _ _
 have HD : Veil (∀ W : World, S.KTab W → Calls Tryz.prog 31 #[.agg (row .u8 seed), .string ⟨#[112, 97, 105, 114]⟩, .slice (some ⟨W.heap.size, 0, none⟩) 2 2] (W.alloc (.cells (row .u8 [minB p q, maxB p q]) 5)) fun e w' => e = .returned (.agg (row .u8 (pairL seed p q))) ∧ Below (W.alloc (.cells (row .u8 [minB p q, maxB p q]) 5)).heap.size (W.alloc (.cells (row .u8 [minB p q, maxB p q]) 5)) w') := ⟨fun W hk => derived_any seed ⟨#[112, 97, 105, 114]⟩ _ 2 2 [minB p q, maxB p q] _ hs32 (by decide) (newB W [minB p q, maxB p q] 2 rfl (by simp)) (by omega) (hk.below ((Below.refl _ _).alloc (Nat.le_refl _) _))⟩
 obtain ⟨PL, hPL⟩ : ∃ z, pairL seed p q = z := ⟨_, rfl⟩
 rw [hPL] at HD hPl
 have HPL := Veil.mk hPL
 obtain ⟨mn, hmn⟩ : ∃ z, minB p q = z := ⟨_, rfl⟩
 obtain ⟨mx, hmx⟩ : ∃ z, maxB p q = z := ⟨_, rfl⟩
 rw [hmn, hmx] at HD
 have hmn' : (if q < p then q else p) = mn := hmn
 have hmx' : (if p < q then q else p) = mx := hmx
 clear hPL hmn hmx
 go_enter Tryz.func37, Tryz.ntmps37
 go_upto_region 3 with fail
 refine forget (p := fun y => Code.wp _ _ _ _ y) (fun W => Below w.heap.size w W ∧ RingAt W base H own seed b M v L ∧ Holds W w.heap.size .u8 23 Z) ⟨by rw [hZ] at hB; exact hB, by rw [hZ] at hB; exact hR.far hB, by rw [hZ] at hr0 ⊢; exact hr0⟩ ?_
 clear hB hr0 hZ
 rintro W ⟨hB, hR0, hr0⟩
 have rS := hR0.box.range 1 32
 rw [ringC_seed _ _ _ _ hs32] at rS
 have iK : (Tryz.prog.info? 23).map (·.size) = some (seed.map (Value.int .u8)).length := by rw [List.length_map, hs32]; exact sizeKeyD
 have hd := HD.out W (hKT.below hB)
 have hB2 := hB.alloc hB.size (.cells (row .u8 [mn, mx]) 5)
 have hr2 := hr0.alloc (.cells (row .u8 [mn, mx]) 5)
 clear hR0
 go_wp2_with (first
  | (refine wpList_ldv rfl 23 _ rfl _ _ rfl (seed.map (Value.int .u8)) rS Tryz.underlying23 rfl iK ?_)
  | (go_at_call 31; refine hd.mono ?_; rintro e w1 ⟨rfl, hb1⟩; have hr3 := hr2.below hb1 hr2.lt)
  | (refine wpList_st rfl 23 _ _ rfl _ rfl rfl hr3 (by rw [hPl]; exact sizeKeyD) (by rw [hZl, hPl]) ?_))
 refine bodyPost_ret (results_holds (Tryz.results37) _ rfl (hr3.setRow _) Tryz.underlying23 sizeKeyD hPl) rfl ⟨?_, ?_⟩
 · rw [HPL.out]
 · exact below_setRow (hB2.trans (hb1.mono hB2.size)) (Nat.le_refl _) _
end
def ringZ : List Value := ringC 0 (List.replicate 32 0) 0 (.slice none 0 0) |>.set 33 (.map none)
theorem ring_zero : (Tryz.prog.info? 62).map (·.zero) = some (some (.agg ringZ.toArray)) := by kernel_rfl
theorem ring_built (own : Int) (seed : List Int) (b : Nat) (hs : seed.length = 32) (w : World) : (Instr.build 62 #[(0, .int .u8 own), (1, .agg (row .u8 seed)), (2, .map (some b))]).run Tryz.prog w = .ok (.agg (ringC own seed b (.slice none 0 0)).toArray) w := by
 refine run_build w _ _ _ ?_
 rw [built_of ring_zero Tryz.underlying62 (by kernel_rfl) (places := [(0, 1), (1, 32), (33, 1), (34, 1)])]
 rw [fill_cons _ _ [.int .u8 own] 0 0 1 _ _ rfl rfl rfl (by decide), show ringZ.take 0 ++ [.int .u8 own] ++ ringZ.drop (0 + 1) = [Value.int .u8 own] ++ (List.replicate 32 (0 : Int)).map (Value.int .u8) ++ [.map none, .slice none 0 0] from rfl]
 rw [fill_cons _ _ (seed.map (Value.int .u8)) 1 1 32 _ _ rfl rfl (by simp [hs]) (Nat.le_of_ble_eq_true rfl)]
 rw [show List.take 1 ([Value.int .u8 own] ++ (List.replicate 32 (0 : Int)).map (Value.int .u8) ++ [.map none, .slice none 0 0]) = [Value.int .u8 own] from rfl, show List.drop (1 + 32) ([Value.int .u8 own] ++ (List.replicate 32 (0 : Int)).map (Value.int .u8) ++ [.map none, .slice none 0 0]) = [.map none, .slice none 0 0] from rfl]
 rw [fill_cons _ _ [.map (some b)] 2 33 1 _ _ rfl rfl rfl (by simp [hs]), Instr.fill]
 congr 2
 rw [List.take_left' (by simp [hs]), show 33 + 1 = ([Value.int .u8 own] ++ seed.map (Value.int .u8)).length + 1 by simp [hs], List.drop_length_add_append]
 simp [ringC]
def newM (own : Int) (seed : List Int) : Int → Int → Option (List Int) := if own = 0 then putK (fun _ _ => none) 0 0 (epochL seed) else fun _ _ => none
def newD (own : Int) : List (Int × Int) := if own = 0 then [(0, 0)] else []
theorem okZ : okD 0 0 := ⟨⟨by omega, by omega⟩, by omega, by omega⟩
set_option maxHeartbeats 4000000 in
theorem new_any (own : Int) (seed : List Int) (w : World) (h8 : own < 8) (hs : seed.length = 32) (hKT : S.KTab w) :
    Calls Tryz.prog 10 #[.int .u8 own, .agg (row .u8 seed)] w fun e w' => ∃ H b v, e = .returned (.pointer (some ⟨H, 0, none⟩)) ∧ RingAt w' w.heap.size H own seed b (newM own seed) v (newD own) ∧ Below w.heap.size w w' := by
 have hmm := @run_makeMap Tryz.prog
 have HBU : Veil (∀ b wx, (Instr.build 62 #[(0, .int .u8 own), (1, .agg (row .u8 seed)), (2, .map (some b))]).run Tryz.prog wx = .ok (.agg (ringC own seed b (.slice none 0 0)).toArray) wx ) := ⟨fun b wx => ring_built own seed b hs wx⟩
 have hk0 := Holds.new w .u8 23 seed
 have hB : Below w.heap.size w (w.alloc (.cells (row .u8 seed) 23)) := (Below.refl _ _).alloc (Nat.le_refl _) _
 have hn8 : ¬ 8 ≤ own := by omega
 go_enter Tryz.func10, Tryz.ntmps10
 go_upto_region 3 with fail
 refine forget (p := fun y => Code.wp _ _ _ _ y) (fun W => Below w.heap.size w W ∧ Holds W w.heap.size .u8 23 seed) ⟨hB, hk0⟩ ?_
 clear hB hk0
 rintro W ⟨hB, hk0⟩
 go_upto_region 4 with (first
  | (refine wpList_ld rfl 23 _ rfl _ rfl hk0 Tryz.underlying23 sizeKeyD hs ?_)
  | (refine wpList_bldx rfl 62 _ rfl #[(0, .int .u8 own), (1, .agg (row .u8 seed)), (2, .map (some W.heap.size))] (by first | rfl | kernel_rfl) _ (HBU.out _ _) ?_))
 have hW := hB.size
 have hm1 := (MapAt.made W).alloc (.cells (ringC own seed W.heap.size (.slice none 0 0)).toArray 62)
 have hx1 := CellsAt.new (W.alloc (.map #[] 0)) 62 (ringC own seed W.heap.size (.slice none 0 0))
 rw [World.size_alloc] at hx1
 have hB1 := (hB.alloc hB.size (.map #[] 0)).alloc (by simp; omega) (.cells (ringC own seed W.heap.size (.slice none 0 0)).toArray 62)
 have hk1 := (hk0.alloc (.map #[] 0)).alloc (.cells (ringC own seed W.heap.size (.slice none 0 0)).toArray 62)
 have hR1 : RingAt ((W.alloc (.map #[] 0)).alloc (.cells (ringC own seed W.heap.size (.slice none 0 0)).toArray 62)) w.heap.size (W.heap.size + 1) own seed W.heap.size (fun _ _ => none) (.slice none 0 0) [] := ⟨hx1, hm1, OwnD.nil _ _, hs, (fun _ _ _ h => by cases h), by simp, by omega, by omega⟩
 refine forget (p := fun y => Code.wp _ _ _ _ y) (fun V => Below w.heap.size w V ∧ Holds V w.heap.size .u8 23 seed ∧ RingAt V w.heap.size (W.heap.size + 1) own seed W.heap.size (fun _ _ => none) (.slice none 0 0) []) ⟨hB1, hk1, hR1⟩ ?_
 clear hm1 hx1 hB1 hk1 hR1 hB hk0 hmm HBU hW
 obtain ⟨G, hG⟩ : ∃ q, W.heap.size = q := ⟨_, rfl⟩
 rw [hG]
 clear hG
 clear W
 rintro W ⟨hB, hk0, hR0⟩
 by_cases h0 : own = 0
 · subst h0
   have hd := derived_any seed ⟨#[101, 112, 111, 99, 104]⟩ none 0 0 [] W hs (by decide) (bytes_nil W) (by omega) (hKT.below hB)
   have hdl : (epochL seed).length = 32 := derL_length _ _
   rw [show derL seed (wordL ⟨#[101, 112, 111, 99, 104]⟩ ++ []) = epochL seed from rfl] at hd
   have HN : Veil (newM 0 seed = putK (fun _ _ => none) 0 0 (epochL seed) ∧ newD 0 = [] ++ [(0, 0)]) := ⟨if_pos rfl, rfl⟩
   obtain ⟨EL, hEL⟩ : ∃ q, epochL seed = q := ⟨_, rfl⟩
   rw [hEL] at hd hdl HN
   clear hEL
   go_wp2_with (first
    | (refine wpList_ld rfl 23 _ rfl _ rfl hk0 Tryz.underlying23 sizeKeyD hs ?_)
    | (go_at_call 31; refine hd.mono ?_; rintro e w1 ⟨rfl, hb1⟩; have hB1 := hB.trans (hb1.mono hB.size); have hh := hold_any w.heap.size (G + 1) 0 seed G (fun _ _ => none) (.slice none 0 0) [] 0 0 EL w1 (hR0.far hb1) (by simp) okZ hdl hB1.size)
    | (go_at_call 30; refine hh.mono ?_; rintro e w2 ⟨⟨r, rfl⟩, v2, hR2, hT2, _⟩))
   go_ret
   refine ⟨G + 1, G, v2, rfl, ?_, hB1.trans (hT2.below hB1.size ?_)⟩
   · rw [HN.out.1, HN.out.2]; exact hR2
   · intro k hk
     rcases hk with rfl | rfl | hk
     · exact hR0.baseH
     · exact hR0.baseB
     · cases hk
 · have HN : Veil (newM own seed = (fun _ _ => none) ∧ newD own = []) := ⟨if_neg h0, if_neg h0⟩
   have h0' : (own == 0) = false := by simpa using h0
   go_wp2
   go_ret
   refine ⟨G + 1, rfl, ⟨G, .slice none 0 0, ?_⟩, hB⟩
   rw [HN.out.1, HN.out.2]; exact hR0
theorem conv_word2 (s : ByteArray) (w : World) (hs : s.size ≤ 1000) :
    ∃ c W, (convert 9 74 (.string s)).run Tryz.prog w = .ok (.slice (some ⟨w.heap.size, 0, none⟩) s.size c) W ∧ s.size ≤ c ∧ c ≤ maxLen ∧ W.heap[w.heap.size]? = some (.cells (bytesRow s c) 5 ((bytesRow s c).size, (bytesRow s c).size + 1)) ∧ Below w.heap.size w W ∧ W.heap.size = w.heap.size + 1 :=
 ⟨_, _, run_bytes_of_string w 9 74 5 s Tryz.underlying9 Tryz.underlying74 Tryz.underlying5, grownCap_ge w s.size 0 5, grownCap_le_maxLen w s.size 0 5 (by simp [maxLen]; omega), heap_alloc_new w.drew _, (Below.refl _ _).drew.alloc (Nat.le_refl _) _, by simp⟩
theorem bytesRow_size (s : ByteArray) (c : Nat) (h : s.size ≤ c) : (bytesRow s c).size = c := by
 have : s.data.size = s.size := rfl
 simp [bytesRow]; omega
theorem bytesRow_get (s : ByteArray) (c j : Nat) (h : j < s.size) : (bytesRow s c)[j]? = some (.int .u8 ((wordL s)[j]?.getD 0)) := by
 have hj' : j < s.data.size := h
 simp [bytesRow, wordL, hj', Array.getElem?_append]
 rw [if_pos h, Array.getElem?_eq_getElem hj']
 rfl
theorem app_word (ws : ByteArray) (W : World) (g c2 : Nat) (ty : TypeId) (hrow : W.heap[g]? = some (.cells (bytesRow ws c2) 5 ((bytesRow ws c2).size, (bytesRow ws c2).size + 1))) (hc : ws.size ≤ c2) (hcm : c2 ≤ maxLen) (x : Option Addr) (n c : Nat) (m : List Int) (hm : Bytes W x n c m) (hn : n ≤ 1000) (hws : ws.size ≤ 1000) (hx : ∀ b off, x = some ⟨b, off, none⟩ → 0 < n → b ≠ g) :
    ∃ x' n' c' W3, (Builtin.append_ #[74, 74] ty #[.slice (some ⟨g, 0, none⟩) ws.size c2, .slice x n c]).run Tryz.prog W = .ok (.slice x' n' c') W3 ∧ Bytes W3 x' n' c' (wordL ws ++ m) ∧ Below g W W3 := by
 obtain ⟨i0, hi, hz0, hz1, hz2⟩ := info_parts infoU8
 have hml := hm.len_eq
 have hwl := wordL_length ws
 have hgl : g < W.heap.size := (Array.getElem?_eq_some_iff.1 hrow).1
 have hcell : ∀ j, j < ws.size → W.cell? ⟨g, j, none⟩ = some (.int .u8 ((wordL ws)[j]?.getD 0)) := fun j hj => by
  rw [cell_of_row W g j _ _ _ hrow]; exact bytesRow_get ws c2 j hj
 have hsome : ∀ j, j < c2 → (W.cell? ⟨g, j, none⟩).isSome = true := fun j hj => by
  rw [cell_of_row W g j _ _ _ hrow, Array.getElem?_eq_getElem (by rw [bytesRow_size ws c2 hc]; exact hj)]; rfl
 have hbase : Bytes W (some ⟨g, 0, none⟩) ws.size c2 (wordL ws) := ⟨hwl.symm, hc, by simpa [maxLen] using hcm, (fun h => by cases h), .inr ⟨_, _, rfl, fun j hj => by rw [Nat.zero_add]; exact hcell j hj⟩⟩
 have hmain : ∀ ad : Addr, x = some ad → (∀ j u, (m.map (Value.int .u8))[j]? = some u → W.cell? (ad.add j) = some u) → (0 < n → ad.block ≠ g) →
     ∃ x' n' c' W3, (Builtin.append_ #[74, 74] ty #[.slice (some ⟨g, 0, none⟩) ws.size c2, .slice x n c]).run Tryz.prog W = .ok (.slice x' n' c') W3 ∧ Bytes W3 x' n' c' (wordL ws ++ m) ∧ Below g W W3 := fun ad hxa hsrc hne => by
  subst hxa
  have h1 : ∀ u ∈ m.map (Value.int .u8), u.oneCell' = true := fun u hu => by simp only [List.mem_map] at hu; obtain ⟨_, _, rfl⟩ := hu; rfl
  by_cases hr : ws.size + n ≤ c2
  · have hst := run_append_room_cells (P := Tryz.prog) W 74 ty 5 i0 Tryz.underlying74 hi g 0 ws.size c2 ad n c (m.map (Value.int .u8)) (by rw [List.length_map, hz1]; omega) hsrc h1 hr
     (fun j hj => by rw [hz1, Nat.zero_add, Nat.mul_one]; exact hsome _ (by simp at hj; omega))
     (fun j hj => by
      rw [hz1, Nat.zero_add, Nat.mul_one]
      simp only [List.length_map] at hj
      unfold World.frozen?
      rw [hrow]
      simp [bytesRow_size ws c2 hc]
      omega)
    refine ⟨_, _, _, _, hst, ⟨by rw [List.length_append, hwl, hml], hr, by simpa [maxLen] using hcm, (fun h => by cases h), .inr ⟨_, _, rfl, fun j hj => ?_⟩⟩, below_setCells (Nat.le_refl _) _ _ _ (Below.refl _ _)⟩
    rw [hz1, Nat.zero_add, Nat.zero_add, Nat.mul_one]
    by_cases hj2 : j < ws.size
    · rw [World.cell?_setCells_out _ _ _ _ _ (fun _ _ => .inl hj2), hcell j hj2, List.getElem?_append_left (by omega)]
    · have := World.cell?_setCells_in g (m.map (Value.int .u8)) ws.size W (fun j hj => hsome _ (by simp at hj; omega)) (j - ws.size) (by simp; omega)
      rw [show ws.size + (j - ws.size) = j by omega] at this
      rw [this, List.getElem?_append_right (by omega), hwl]
      simp only [List.getElem_map]
      rw [List.getElem?_eq_getElem (by omega)]; rfl
  · obtain ⟨v', w', hrun, hown, hgr⟩ := run_append_arg_grows (P := Tryz.prog) W 74 ty 5 i0 _ 1 1 Tryz.underlying74 hi hz0 hz1 hz2 rfl (by decide) ⟨g, 0, none⟩ ws.size c2 ((wordL ws).map (Value.int .u8)) (by simp [hwl])
     (fun j u hu => by rw [Addr.add_mid']; exact hbase.rangeK j u hu) ad n c (m.map (Value.int .u8)) (by simp; omega) hsrc (by omega) (by simp [maxLen]; omega) (by omega)
    have ho : OwnB w' W.heap.size v' (wordL ws ++ m) := OwnB.cast hown (by simp [hwl, hml]) (by simp)
    obtain ⟨x', n', c', rfl, hn'⟩ := ho.isSlice
    exact ⟨x', n', c', w', hrun, ho.bytes.2, ((Below.refl g W).grown hgr (Nat.le_of_lt hgl) (fun k hk => by cases hk))⟩
 rcases hm.at_ with h0 | ⟨b, off, hy, hcs⟩
 · have hm0 : m = [] := List.length_eq_zero_iff.1 (by omega)
   cases x with
   | none =>
    have hc0 := hm.nil rfl
    subst h0 hc0 hm0
    refine ⟨_, _, _, W, ?_, by rw [List.append_nil]; exact hbase, Below.refl _ _⟩
    simp [Builtin.append_, run_underlying Tryz.underlying74, sizeOf, typeInfo, hi, Builtin.lenOf, hc, Builtin.firstCells, storeCells]
   | some ad => exact hmain ad rfl (fun j u hu => by subst hm0; simp at hu) (fun h => by omega)
 · exact hmain _ hy (fun j u hu => by
    have hj : j < n := by have := (List.getElem?_eq_some_iff.1 hu).1; simpa [hml] using this
    rw [Addr.add_mid', hcs j hj, ← hu, List.getElem?_map, List.getElem?_eq_getElem (by omega)]; rfl) (fun h => hx b off hy h)
end Go.Proofs.YtflkhkmejnpapaaGreatDoor
