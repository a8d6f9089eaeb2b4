/- The reference's 'Put'. -/
import Derived.Test.YtmoabomoodddkaaRb3
namespace Go.Proofs.Ytmoabomoodddkaa
open Go.RowKit Go.Shelf
set_option maxRecDepth 20000
set_option linter.unusedSimpArgs false
theorem rright_ok (e : Ev) (w : World) (he : e.Ok) : Calls Try.prog 20 #[.agg e.cells.toArray] w fun x w' => x = .returned (.bool (rightB e)) ∧ Below w.heap.size w w' :=
  rright_any e w he.past he.dot.1.1 he.dot.2.1 (by have := he.dot.2.2; omega) he.par.1.1 he.par.2.1
theorem rhas_ok (S : List Int) (a s : Int) (w : World) (hS : S.length = 8) (h : okD a s) : Calls Try.prog 14 #[.agg (S.map (Value.int .u32)).toArray, .agg (dotC a s).toArray] w fun x w' => x = .returned (.bool (hasB S a s)) ∧ Below w.heap.size w w' := rhas_any S a s w hS h.1.1 h.2.1
theorem rready_ok (S : List Int) (e : Ev) (w : World) (hl : S.length = 8) (hr : ∀ x ∈ S, 0 ≤ x ∧ x ≤ 4294967295) (he : e.Ok) : Calls Try.prog 22 #[.agg (S.map (Value.int .u32)).toArray, .agg e.cells.toArray] w fun x w' => x = .returned (.bool (readyB S e)) ∧ Below w.heap.size w w' :=
  rready_any S e w hl (fun q hq => by have := hr q hq; omega) he.past he.dot.1.1 he.dot.2.1 (by have := he.dot.2.2; omega) he.par.1.1 he.par.2.1
theorem lookE_at {L : List Ev} (hs : sortedE L) (i : Nat) (hi : i < L.length) (d : Int × Int) (h : L[i].dot = d) : lookE L d = some L[i] := by rw [← h]; exact lookE_some hs (List.getElem_mem hi)
structure RPutP (R : Nat) (S : List Int) (L : List Ev) (e : Ev) (w : World) (v : Value) (w' : World) : Prop where
  out : ∃ ys S2 L2 x2 c2, PutR S L e ys S2 L2 ∧ RefC w' R S2 L2 x2 c2 ∧ OwnI w' w.heap.size 37 17 v (ys.map Ev.cells) ∧ Turn (fun k => k = R) w w'
theorem RPutP.no {R : Nat} {S : List Int} {L : List Ev} {x : Option Addr} {c : Nat} {e : Ev} {w w' : World} (hC : RefC w R S L x c) (hb : Below w.heap.size w w') (hn : ¬ refN S L e = 0) : RPutP R S L e w (.slice none 0 0) w' :=
  ⟨[], S, L, x, c, .inl ⟨hn, rfl, rfl, rfl⟩, hC.far hb, OwnI.nil _ _ _ _, Turn.of_below hb⟩
/-- The loop that puts e in its place: i of L have come, pl tells whether e has. -/
structure PutSt (e : Ev) (L : List Ev) (i : Nat) (pl : Bool) (l : List Ev) : Prop where
  yes : pl = true → ∀ B, insE e (L.take i ++ B) = l ++ B
  no : pl = false → l = L.take i ∧ ∀ B, insE e (L.take i ++ B) = L.take i ++ insE e B
  len : l.length ≤ i + 1
theorem PutSt.zero (e : Ev) (L : List Ev) : PutSt e L 0 false [] := ⟨(fun h => by cases h), fun _ => ⟨rfl, fun B => rfl⟩, by simp⟩
theorem take_more (L : List Ev) (i : Nat) (hi : i < L.length) (B : List Ev) : L.take (i + 1) ++ B = L.take i ++ (L[i] :: B) := by
  rw [List.take_succ_eq_append_getElem hi, List.append_assoc]; rfl
theorem PutSt.keep {e : Ev} {L : List Ev} {i : Nat} {l : List Ev} (h : PutSt e L i true l) (hi : i < L.length) : PutSt e L (i + 1) true (l ++ [L[i]]) :=
  ⟨fun _ B => by rw [take_more L i hi, h.yes rfl, List.append_assoc]; rfl, (fun q => by cases q), by have := h.len; simp; omega⟩
theorem PutSt.pass {e : Ev} {L : List Ev} {i : Nat} {l : List Ev} (h : PutSt e L i false l) (hi : i < L.length) (hlt : ltD e.dot L[i].dot = false) : PutSt e L (i + 1) false (l ++ [L[i]]) :=
  ⟨(fun q => by cases q), fun _ => ⟨by rw [(h.no rfl).1, List.take_succ_eq_append_getElem hi], fun B => by
    rw [take_more L i hi, take_more L i hi, (h.no rfl).2]
    show _ ++ (if _ then _ else _) = _
    rw [hlt]; rfl⟩, by have := h.len; simp; omega⟩
theorem PutSt.place {e : Ev} {L : List Ev} {i : Nat} {l : List Ev} (h : PutSt e L i false l) (hi : i < L.length) (hlt : ltD e.dot L[i].dot = true) : PutSt e L (i + 1) true ((l ++ [e]) ++ [L[i]]) :=
  ⟨fun _ B => by
    rw [take_more L i hi, (h.no rfl).2, (h.no rfl).1]
    show _ ++ (if _ then _ else _) = _
    rw [hlt, List.append_assoc, List.append_assoc]; rfl, (fun q => by cases q), by have := (h.no rfl).1; rw [this]; simp; omega⟩
theorem PutSt.doneT {e : Ev} {L l : List Ev} (h : PutSt e L L.length true l) : insE e L = l := by
  have := h.yes rfl []
  rw [List.take_length, List.append_nil, List.append_nil] at this; exact this
theorem PutSt.doneF {e : Ev} {L l : List Ev} (h : PutSt e L L.length false l) : insE e L = l ++ [e] := by
  have := (h.no rfl).2 []
  rw [(h.no rfl).1]
  rw [List.take_length, List.append_nil] at this
  rw [List.take_length]; exact this
theorem refCells_set9 (S : List Int) (v v2 : Value) (h8 : S.length = 8) : (refCells S v).set 9 v2 = refCells S v2 := by
  unfold refCells
  rw [List.set_append_right _ _ (by rw [List.length_map]; omega), List.length_map, h8]; rfl
theorem ref_store {w : World} {R : Nat} {S : List Int} {L : List Ev} {x : Option Addr} {c : Nat} (hC : RefC w R S L x c) (W : World) (hB : Below w.heap.size w W) (M : List Ev) (lx : Option Addr) (ln lc : Nat) (hO : OwnI W (w.heap.size + 1) 37 17 (.slice lx ln lc) (M.map Ev.cells)) (hn : M.length = ln) :
    RefC (W.setCell ⟨R, 9, none⟩ (.slice lx ln lc)) R S M lx lc ∧ Turn (fun k => k = R) w (W.setCell ⟨R, 9, none⟩ (.slice lx ln lc)) := by
  subst hn
  have hCW := hC.far hB
  have hR := hC.cells.lt
  refine ⟨⟨?_, ?_, hC.len⟩, (Turn.of_below hB).trans (Turn.of_setCell (p := fun k => k = R) W (a := ⟨R, 9, none⟩) rfl _)⟩
  · have h := hCW.cells.set 9 (.slice lx M.length lc)
    rw [refCells_set9 S _ _ hC.len] at h
    exact h
  · exact (hO.congr (fun g hg => Below.heap_setCell _ _ _ _ (fun e => by have := (hO.blockLt g hg).2.1; simp at e; omega))).less (Nat.zero_le _)
set_option maxHeartbeats 32000000 in
theorem rput_any (R : Nat) (S : List Int) (L : List Ev) (x : Option Addr) (c : Nat) (e : Ev) (w : World) (hC : RefC w R S L x c) (hG : Gd S L) (hL : L.length ≤ 16) (he : e.Ok) :
    Calls Try.prog 39 #[.pointer (some ⟨R, 0, none⟩), .agg e.cells.toArray] w fun r w' => ∃ v, r = .returned (.tuple #[v, .int .i64 (refN S L e)]) ∧ RPutP R S L e w v w' := by
  have uE := Try.underlying37
  have uV := Try.underlying24
  have uD := Try.underlying26
  have uS := Try.underlying42
  have hB0 : Below w.heap.size w (w.alloc (.cells e.cells.toArray 37)) := (Below.refl _ _).alloc (Nat.le_refl _) _
  have hx0 := CellsAt.new w 37 e.cells
  have he1 := ev_len e he.past
  have he2 := ev_one e
  have iE : (Try.prog.info? 37).map (·.size) = some e.cells.length := by rw [he1]; kernel_rfl
  have iD : (Try.prog.info? 26).map (·.size) = some (dotC e.da e.ds).length := sizeDot
  have iV : (Try.prog.info? 24).map (·.size) = some (S.map (Value.int .u32)).length := by rw [List.length_map, hC.len]; exact sizeV8c
  have HR : Veil (∀ W, Calls Try.prog 20 #[.agg e.cells.toArray] W fun x w' => x = .returned (.bool (rightB e)) ∧ Below W.heap.size W w') := ⟨fun W => rright_ok e W he⟩
  have HH : Veil (∀ W, Calls Try.prog 14 #[.agg (S.map (Value.int .u32)).toArray, .agg (dotC e.da e.ds).toArray] W fun x w' => x = .returned (.bool (hasB S e.da e.ds)) ∧ Below W.heap.size W w') := ⟨fun W => rhas_ok S e.da e.ds W hC.len he.dot⟩
  have HD : Veil (∀ W, Calls Try.prog 22 #[.agg (S.map (Value.int .u32)).toArray, .agg e.cells.toArray] W fun x w' => x = .returned (.bool (readyB S e)) ∧ Below W.heap.size W w') := ⟨fun W => rready_ok S e W hC.len hG.rng he⟩
  have HT : Veil (∀ W, Below w.heap.size w W → CellsAt W w.heap.size 37 e.cells → W.rangeAt w.heap.size 0 e.cells ∧ W.rangeAt w.heap.size 0 (dotC e.da e.ds) ∧ W.rangeAt R 0 (S.map (Value.int .u32)) ∧ W.cell? ⟨R, 9, none⟩ = some (.slice x L.length c)) := ⟨fun W hb hx => by
    have h1 := hx.range 0 2
    rw [(ev_parts e he.past).1] at h1
    have hC1 := hC.far hb
    exact ⟨hx.wholeM, h1, hC1.seenR, hC1.waitC⟩⟩
  have HN : Veil (refN S L e = if rightB e = false then 3 else if hasB S e.da e.ds = true then 5 else match lookE L e.dot with | some k => if evEq k e = true then 5 else 11 | none => if fullB S = true then 10 else if readyB S e = true then 0 else if 16 ≤ L.length then 10 else 0) := ⟨rfl⟩
  have HNO : Veil (∀ w', Below w.heap.size w w' → ¬ refN S L e = 0 → RPutP R S L e w (.slice none 0 0) w') := ⟨fun w' hb hn => RPutP.no hC hb hn⟩
  have HC := Veil.mk hC
  have HE := Veil.mk he
  have HG := Veil.mk hG
  obtain ⟨E, hE⟩ : ∃ E, e.cells = E := ⟨_, rfl⟩
  have HEE := Veil.mk hE
  rw [hE] at hB0 hx0 iE HR HD HT he1 he2
  rw [hE]
  obtain ⟨RN, hRN⟩ : ∃ q, refN S L e = q := ⟨_, rfl⟩
  have HRN := Veil.mk hRN
  rw [hRN] at HN HNO ⊢
  obtain ⟨RB, hRB⟩ : ∃ q, rightB e = q := ⟨_, rfl⟩
  rw [hRB] at HN HR
  obtain ⟨HB, hHB⟩ : ∃ q, hasB S e.da e.ds = q := ⟨_, rfl⟩
  rw [hHB] at HN HH
  obtain ⟨RY, hRY⟩ : ∃ q, readyB S e = q := ⟨_, rfl⟩
  rw [hRY] at HN HD
  generalize hSV : S.map (Value.int .u32) = SV at HH HD HT iV
  clear hC he hG hE hSV hRN hRB hHB hRY
  go_enter Try.func39, Try.ntmps39
  go_upto_region 3 with fail
  refine forget (p := fun y => Code.wp _ _ _ _ y) (fun W => Below w.heap.size w W ∧ CellsAt W w.heap.size 37 E) ⟨hB0, hx0⟩ ?_
  clear hB0 hx0
  rintro W ⟨hB, hx⟩
  have hrE := hx.wholeM
  have hr := HR.out W
  cases RB
  · replace HN : Veil (RN = 3) := ⟨HN.out⟩
    go_wp2_with (first
      | (refine wpList_ldv rfl 37 _ rfl w.heap.size 0 rfl E hrE uE rfl iE ?_)
      | (go_at_call 20; refine hr.mono ?_; rintro x W1 ⟨rfl, hb1⟩))
    go_ret2
    exact ⟨_, by rw [HN.out]; rfl, HNO.out _ (hB.trans (hb1.mono hB.size)) (by rw [HN.out]; decide)⟩
  go_upto_region 5 with (first
      | (refine wpList_ldv rfl 37 _ rfl w.heap.size 0 rfl E hrE uE rfl iE ?_)
      | (go_at_call 20; refine hr.mono ?_; rintro x W1 ⟨rfl, hb1⟩))
  have hB1 := hB.trans (hb1.mono hB.size)
  have hx1 := hx.farM hb1
  clear hr hrE hB hx hb1 HR
  obtain ⟨q1, q2, q3, q4⟩ := HT.out W1 hB1 hx1
  refine wp_region_gateT (fun w' => w'.rangeAt R 0 SV ∧ w'.rangeAt w.heap.size 0 (dotC e.da e.ds)) (fun _ => True) 99 (by kernel_rfl) ?_
  have hT : (fun w' : World => w'.rangeAt R 0 SV ∧ w'.rangeAt w.heap.size 0 (dotC e.da e.ds)) W1.drew := ⟨q3, q2⟩
  have hS : (fun _ : World => True) W1.drew := trivial
  have hh := HH.out W1.drew
  refine wpAnyT_held (i := 0) (v := ?_) rfl (by kernel_rfl) (by kernel_rfl) (by kernel_rfl) (fun _ _ _ h => h) (by kernel_rfl) hT (fun _ => hS) (by kernel_rfl) ?_ ?_
  rotate_left
  · intro wx hSw; go_split_ands; go_simp; try with_reducible rfl
  simp only [Act.put, List.getElem_toArray, List.getElem_cons_succ, List.getElem_cons_zero, List.setIfInBounds_toArray, List.set_cons_zero, List.set_cons_succ]
  refine wpAnyT_held (i := 1) (v := ?_) rfl (by kernel_rfl) (by kernel_rfl) (by kernel_rfl) (fun _ _ _ h => h) (by kernel_rfl) hT (fun _ => hS) (by kernel_rfl) ?_ ?_
  rotate_left
  · intro wx hSw; go_split_ands; go_simp; try with_reducible rfl
  simp only [Act.put, List.getElem_toArray, List.getElem_cons_succ, List.getElem_cons_zero, List.setIfInBounds_toArray, List.set_cons_zero, List.set_cons_succ]
  refine wpAnyT_held (i := 2) (v := ?_) rfl (by kernel_rfl) (by kernel_rfl) (by kernel_rfl) (fun _ _ _ h => h) (by kernel_rfl) hT (fun _ => hS) (by kernel_rfl) ?_ ?_
  rotate_left
  · intro wx hSw; go_split_ands; go_simp; try with_reducible rfl
  simp only [Act.put, List.getElem_toArray, List.getElem_cons_succ, List.getElem_cons_zero, List.setIfInBounds_toArray, List.set_cons_zero, List.set_cons_succ]
  refine wpAnyT_load (i := 3) (dst := some 21) (ty := 24) (x := .tmp 20) (b := R) (o := (0)) (cs := SV) (by kernel_rfl) (by kernel_rfl) (by kernel_rfl) (by kernel_rfl) (by kernel_rfl) (fun _ _ _ h => h) (by kernel_rfl) hT (fun _ => hS) (by kernel_rfl) (fun _ h => h.1) uV rfl iV ?_
  simp only [Act.put, List.getElem_toArray, List.getElem_cons_succ, List.getElem_cons_zero, List.setIfInBounds_toArray, List.set_cons_zero, List.set_cons_succ]
  refine wpAnyT_held (i := 4) (v := ?_) rfl (by kernel_rfl) (by kernel_rfl) (by kernel_rfl) (fun _ _ _ h => h) (by kernel_rfl) hT (fun _ => hS) (by kernel_rfl) ?_ ?_
  rotate_left
  · intro wx hSw; go_split_ands; go_simp; try with_reducible rfl
  simp only [Act.put, List.getElem_toArray, List.getElem_cons_succ, List.getElem_cons_zero, List.setIfInBounds_toArray, List.set_cons_zero, List.set_cons_succ]
  refine wpAnyT_load (i := 5) (dst := some 23) (ty := 26) (x := .tmp 22) (b := w.heap.size) (o := (0)) (cs := (dotC e.da e.ds)) (by kernel_rfl) (by kernel_rfl) (by kernel_rfl) (by kernel_rfl) (by kernel_rfl) (fun _ _ _ h => h) (by kernel_rfl) hT (fun _ => hS) (by kernel_rfl) (fun _ h => h.2) uD rfl iD ?_
  simp only [Act.put, List.getElem_toArray, List.getElem_cons_succ, List.getElem_cons_zero, List.setIfInBounds_toArray, List.set_cons_zero, List.set_cons_succ]
  refine wpAnyT_one (i := 6) rfl (by kernel_rfl) (by kernel_rfl) (fun K hK => ?_)
  refine wpx_call _ _ (by kernel_rfl) (hh.mono ?_)
  rintro x W2 ⟨rfl, hb2⟩
  refine ⟨_, rfl, ?_⟩
  have hB2 : Below w.heap.size w W2 := hB1.drew.trans (hb2.mono hB1.size)
  have hx2 := (hx1.congr (w' := W1.drew) rfl).farM hb2
  clear q1 q2 q3 q4 hh hb2 hB1 hx1
  obtain ⟨q1, q2, q3, q4⟩ := HT.out W2 hB2 hx2
  replace hT : (fun w' : World => w'.rangeAt R 0 SV ∧ w'.rangeAt w.heap.size 0 (dotC e.da e.ds)) W2 := ⟨q3, q2⟩
  replace hS : (fun _ : World => True) W2 := trivial
  refine hK.out _ _ hT (fun _ => hS) ?_
  clear hK K
  try simp only [Act.put, List.getElem_toArray, List.getElem_cons_succ, List.getElem_cons_zero, List.setIfInBounds_toArray, List.set_cons_zero, List.set_cons_succ]
  refine wpAnyT_held (i := 7) (v := ?_) rfl (by kernel_rfl) (by kernel_rfl) (by kernel_rfl) (fun _ _ _ h => h) (by kernel_rfl) hT (fun _ => hS) (by kernel_rfl) ?_ ?_
  rotate_left
  · intro wx hSw; go_split_ands; go_simp; try with_reducible rfl
  simp only [Act.put, List.getElem_toArray, List.getElem_cons_succ, List.getElem_cons_zero, List.setIfInBounds_toArray, List.set_cons_zero, List.set_cons_succ]
  refine wpAnyT_done (by kernel_rfl) ?_ _
  clear hT hS HH q1 q2 q3 q4
  cases HB
  rotate_left
  · replace HN : Veil (RN = 5) := ⟨HN.out⟩
    go_wp2
    go_ret2
    exact ⟨_, by rw [HN.out]; rfl, HNO.out _ hB2 (by rw [HN.out]; decide)⟩
  replace HN : Veil (RN = match lookE L e.dot with | some k => if evEq k e = true then 5 else 11 | none => if fullB S = true then 10 else if RY = true then 0 else if 16 ≤ L.length then 10 else 0) := ⟨HN.out⟩
  go_wp2
  go_loopw [6] (fun p wr => ∃ i : Nat, i ≤ L.length ∧ p = .int .i64 (i : Nat) ∧ Below w.heap.size w wr ∧ CellsAt wr w.heap.size 37 E ∧ ∀ j (hj : j < L.length), j < i → ¬ L[j].dot = e.dot) (fun p _ => L.length - (intOf p).toNat)
  case atStart => exact ⟨0, Nat.zero_le _, rfl, hB2, hx2, fun j _ h => absurd h (Nat.not_lt_zero _)⟩
  case round =>
    obtain ⟨i, hi, rfl, hB, hx, hno⟩ := hrel
    clear hB2 hx2
    obtain ⟨q1, q2, q3, q4⟩ := HT.out wr hB hx
    have HNOT := Veil.mk hno
    clear hno
    by_cases hil : i < L.length
    · have hii : (i : Int) < (L.length : Int) := by omega
      obtain ⟨g, rfl, -, hxr⟩ := (HC.out.far hB).own.at_ i (by rw [List.length_map]; exact hil)
      rw [List.getElem_map] at hxr
      have hxk := HG.out.ok L[i] (List.getElem_mem hil)
      have HXK := Veil.mk hxk
      have hxd : wr.rangeAt g (i * 17) (dotC L[i].da L[i].ds) := fun j u hu => hxr j u (by
        have := (ev_parts L[i] hxk.past).1
        rw [← this, List.drop_zero, List.getElem?_take] at hu
        split at hu
        · exact hu
        · cases hu)
      have iX : (Try.prog.info? 37).map (·.size) = some L[i].cells.length := by rw [ev_len _ hxk.past]; kernel_rfl
      have iDj : (Try.prog.info? 26).map (·.size) = some (dotC L[i].da L[i].ds).length := sizeDot
      have HEQ : Veil (∀ wx, (binOp .eql 26 (.agg (dotC L[i].da L[i].ds).toArray) (.agg (dotC e.da e.ds).toArray)).run Try.prog wx = .ok (.bool ((L[i].da == e.da) && (L[i].ds == e.ds))) wx) := ⟨fun wx => dot_eql _ _ _ _ wx⟩
      have HEB : Veil (((L[i].da == e.da) && (L[i].ds == e.ds)) = true ↔ L[i].dot = e.dot) := ⟨by unfold Ev.dot; simp⟩
      have HVE : Veil (∀ wx, (binOp .eql 37 (.agg L[i].cells.toArray) (.agg E.toArray)).run Try.prog wx = .ok (.bool (evEq L[i] e)) wx) := ⟨fun wx => by rw [← HEE.out]; exact ev_eql _ _ hxk HE.out wx⟩
      generalize dotC L[i].da L[i].ds = DJ at hxd HEQ iDj
      generalize hbb : ((L[i].da == e.da) && (L[i].ds == e.ds)) = BB at HEQ HEB
      have hw2 : IntKind.i64.wrap ((i : Int) + 1) = (i : Int) + 1 := by rw [IntKind.wrap_i64]; omega
      generalize hXC : L[i].cells = XC at hxr iX HVE
      clear hbb hxk hXC
      have heq := HEQ.out
      generalize hDV : dotC e.da e.ds = DV at heq iD HT q2
      clear hDV
      go_upto_region 10 with fail
      refine wp_region_gateT (fun w' => w'.cell? ⟨R, 9, none⟩ = some (.slice (some ⟨g, 0, none⟩) L.length c) ∧ w'.rangeAt g (i * 17) DJ ∧ w'.rangeAt w.heap.size 0 DV) (fun _ => True) 99 (by kernel_rfl) ?_
      have hT : (fun w' : World => w'.cell? ⟨R, 9, none⟩ = some (.slice (some ⟨g, 0, none⟩) L.length c) ∧ w'.rangeAt g (i * 17) DJ ∧ w'.rangeAt w.heap.size 0 DV) wr.drew := ⟨q4, hxd, q2⟩
      have hS : (fun _ : World => True) wr.drew := trivial
      refine wpAnyT_held (i := 0) (v := ?_) rfl (by kernel_rfl) (by kernel_rfl) (by kernel_rfl) (fun _ _ _ h => h) (by kernel_rfl) hT (fun _ => hS) (by kernel_rfl) ?_ ?_
      rotate_left
      · intro wx hSw; go_split_ands; go_simp; try with_reducible rfl
      simp only [Act.put, List.getElem_toArray, List.getElem_cons_succ, List.getElem_cons_zero, List.setIfInBounds_toArray, List.set_cons_zero, List.set_cons_succ]
      refine wpAnyT_held (i := 1) (v := ?_) rfl (by kernel_rfl) (by kernel_rfl) (by kernel_rfl) (fun _ _ _ h => h) (by kernel_rfl) hT (fun _ => hS) (by kernel_rfl) ?_ ?_
      rotate_left
      · intro wx hSw; go_split_ands; go_simp; try with_reducible rfl
      simp only [Act.put, List.getElem_toArray, List.getElem_cons_succ, List.getElem_cons_zero, List.setIfInBounds_toArray, List.set_cons_zero, List.set_cons_succ]
      refine wpAnyT_held (i := 2) (v := ?_) rfl (by kernel_rfl) (by kernel_rfl) (by kernel_rfl) (fun _ _ _ h => h) (by kernel_rfl) hT (fun _ => hS) (by kernel_rfl) ?_ ?_
      rotate_left
      · intro wx hSw; go_split_ands; go_simp; try with_reducible rfl
      simp only [Act.put, List.getElem_toArray, List.getElem_cons_succ, List.getElem_cons_zero, List.setIfInBounds_toArray, List.set_cons_zero, List.set_cons_succ]
      refine wpAnyT_held (i := 3) (v := ?_) rfl (by kernel_rfl) (by kernel_rfl) (by kernel_rfl) (fun _ _ _ h => h) (by kernel_rfl) hT (fun _ => hS) (by kernel_rfl) ?_ ?_
      rotate_left
      · intro wx hSw; go_split_ands; go_simp; try with_reducible rfl
      simp only [Act.put, List.getElem_toArray, List.getElem_cons_succ, List.getElem_cons_zero, List.setIfInBounds_toArray, List.set_cons_zero, List.set_cons_succ]
      refine wpAnyT_held (i := 4) (v := ?_) rfl (by kernel_rfl) (by kernel_rfl) (by kernel_rfl) (fun _ _ _ h => h) (by kernel_rfl) hT (fun _ => hS) (by kernel_rfl) ?_ ?_
      rotate_left
      · intro wx hSw; go_split_ands; go_simp; try with_reducible rfl
      simp only [Act.put, List.getElem_toArray, List.getElem_cons_succ, List.getElem_cons_zero, List.setIfInBounds_toArray, List.set_cons_zero, List.set_cons_succ]
      refine wpAnyT_held (i := 5) (v := ?_) rfl (by kernel_rfl) (by kernel_rfl) (by kernel_rfl) (fun _ _ _ h => h) (by kernel_rfl) hT (fun _ => hS) (by kernel_rfl) ?_ ?_
      rotate_left
      · intro wx hSw; go_split_ands; go_simp; try with_reducible rfl
      simp only [Act.put, List.getElem_toArray, List.getElem_cons_succ, List.getElem_cons_zero, List.setIfInBounds_toArray, List.set_cons_zero, List.set_cons_succ]
      refine wpAnyT_held (i := 6) (v := ?_) rfl (by kernel_rfl) (by kernel_rfl) (by kernel_rfl) (fun _ _ _ h => h) (by kernel_rfl) hT (fun _ => hS) (by kernel_rfl) ?_ ?_
      rotate_left
      · intro wx hSw; go_split_ands; go_simp; try with_reducible rfl
      simp only [Act.put, List.getElem_toArray, List.getElem_cons_succ, List.getElem_cons_zero, List.setIfInBounds_toArray, List.set_cons_zero, List.set_cons_succ]
      refine wpAnyT_load (i := 7) (dst := some 41) (ty := 26) (x := .tmp 40) (b := g) (o := ((i * 17))) (cs := DJ) (by kernel_rfl) (by kernel_rfl) (by kernel_rfl) (by kernel_rfl) (by kernel_rfl) (fun _ _ _ h => h) (by kernel_rfl) hT (fun _ => hS) (by kernel_rfl) (fun _ h => h.2.1) uD rfl iDj ?_
      simp only [Act.put, List.getElem_toArray, List.getElem_cons_succ, List.getElem_cons_zero, List.setIfInBounds_toArray, List.set_cons_zero, List.set_cons_succ]
      refine wpAnyT_held (i := 8) (v := ?_) rfl (by kernel_rfl) (by kernel_rfl) (by kernel_rfl) (fun _ _ _ h => h) (by kernel_rfl) hT (fun _ => hS) (by kernel_rfl) ?_ ?_
      rotate_left
      · intro wx hSw; go_split_ands; go_simp; try with_reducible rfl
      simp only [Act.put, List.getElem_toArray, List.getElem_cons_succ, List.getElem_cons_zero, List.setIfInBounds_toArray, List.set_cons_zero, List.set_cons_succ]
      refine wpAnyT_load (i := 9) (dst := some 43) (ty := 26) (x := .tmp 42) (b := w.heap.size) (o := (0)) (cs := DV) (by kernel_rfl) (by kernel_rfl) (by kernel_rfl) (by kernel_rfl) (by kernel_rfl) (fun _ _ _ h => h) (by kernel_rfl) hT (fun _ => hS) (by kernel_rfl) (fun _ h => h.2.2) uD rfl iD ?_
      simp only [Act.put, List.getElem_toArray, List.getElem_cons_succ, List.getElem_cons_zero, List.setIfInBounds_toArray, List.set_cons_zero, List.set_cons_succ]
      refine wpAnyT_held (i := 10) (v := .bool BB) rfl (by kernel_rfl) (by kernel_rfl) (by kernel_rfl) (fun _ _ _ h => h) (by kernel_rfl) hT (fun _ => hS) (by kernel_rfl) ?_ ?_
      · intro wx hSw; go_split_ands; go_simp
      simp only [Act.put, List.getElem_toArray, List.getElem_cons_succ, List.getElem_cons_zero, List.setIfInBounds_toArray, List.set_cons_zero, List.set_cons_succ]
      refine wpAnyT_done (by kernel_rfl) ?_ _
      clear hT hS heq hxd q2
      cases BB
      · go_wp2
        go_roundw
        case rel =>
          refine ⟨i + 1, hil, by push_cast; rfl, hB.drew, hx.congr rfl, fun j hj hji => ?_⟩
          by_cases ej : j = i
          · subst ej; exact fun q => by have := HEB.out.2 q; cases this
          · exact HNOT.out j hj (by omega)
        case measure => simp [intOf]; omega
      · have HLK : Veil (lookE L e.dot = some L[i]) := ⟨lookE_at HG.out.srt i hil _ (HEB.out.1 rfl)⟩
        replace HN : Veil (RN = if evEq L[i] e = true then 5 else 11) := ⟨by have := HN.out; rw [HLK.out] at this; exact this⟩
        generalize evEq L[i] e = VE at HN HVE
        have hve := HVE.out
        go_upto_region 11 with fail
        refine wp_region_gateT (fun w' => w'.cell? ⟨R, 9, none⟩ = some (.slice (some ⟨g, 0, none⟩) L.length c) ∧ w'.rangeAt g (i * 17) XC ∧ w'.rangeAt w.heap.size 0 E) (fun _ => True) 99 (by kernel_rfl) ?_
        have hT : (fun w' : World => w'.cell? ⟨R, 9, none⟩ = some (.slice (some ⟨g, 0, none⟩) L.length c) ∧ w'.rangeAt g (i * 17) XC ∧ w'.rangeAt w.heap.size 0 E) wr.drew.drew := ⟨q4, hxr, q1⟩
        have hS : (fun _ : World => True) wr.drew.drew := trivial
        refine wpAnyT_held (i := 0) (v := ?_) rfl (by kernel_rfl) (by kernel_rfl) (by kernel_rfl) (fun _ _ _ h => h) (by kernel_rfl) hT (fun _ => hS) (by kernel_rfl) ?_ ?_
        rotate_left
        · intro wx hSw; go_split_ands; go_simp; try with_reducible rfl
        simp only [Act.put, List.getElem_toArray, List.getElem_cons_succ, List.getElem_cons_zero, List.setIfInBounds_toArray, List.set_cons_zero, List.set_cons_succ]
        refine wpAnyT_held (i := 1) (v := ?_) rfl (by kernel_rfl) (by kernel_rfl) (by kernel_rfl) (fun _ _ _ h => h) (by kernel_rfl) hT (fun _ => hS) (by kernel_rfl) ?_ ?_
        rotate_left
        · intro wx hSw; go_split_ands; go_simp; try with_reducible rfl
        simp only [Act.put, List.getElem_toArray, List.getElem_cons_succ, List.getElem_cons_zero, List.setIfInBounds_toArray, List.set_cons_zero, List.set_cons_succ]
        refine wpAnyT_held (i := 2) (v := ?_) rfl (by kernel_rfl) (by kernel_rfl) (by kernel_rfl) (fun _ _ _ h => h) (by kernel_rfl) hT (fun _ => hS) (by kernel_rfl) ?_ ?_
        rotate_left
        · intro wx hSw; go_split_ands; go_simp; try with_reducible rfl
        simp only [Act.put, List.getElem_toArray, List.getElem_cons_succ, List.getElem_cons_zero, List.setIfInBounds_toArray, List.set_cons_zero, List.set_cons_succ]
        refine wpAnyT_held (i := 3) (v := ?_) rfl (by kernel_rfl) (by kernel_rfl) (by kernel_rfl) (fun _ _ _ h => h) (by kernel_rfl) hT (fun _ => hS) (by kernel_rfl) ?_ ?_
        rotate_left
        · intro wx hSw; go_split_ands; go_simp; try with_reducible rfl
        simp only [Act.put, List.getElem_toArray, List.getElem_cons_succ, List.getElem_cons_zero, List.setIfInBounds_toArray, List.set_cons_zero, List.set_cons_succ]
        refine wpAnyT_held (i := 4) (v := ?_) rfl (by kernel_rfl) (by kernel_rfl) (by kernel_rfl) (fun _ _ _ h => h) (by kernel_rfl) hT (fun _ => hS) (by kernel_rfl) ?_ ?_
        rotate_left
        · intro wx hSw; go_split_ands; go_simp; try with_reducible rfl
        simp only [Act.put, List.getElem_toArray, List.getElem_cons_succ, List.getElem_cons_zero, List.setIfInBounds_toArray, List.set_cons_zero, List.set_cons_succ]
        refine wpAnyT_held (i := 5) (v := ?_) rfl (by kernel_rfl) (by kernel_rfl) (by kernel_rfl) (fun _ _ _ h => h) (by kernel_rfl) hT (fun _ => hS) (by kernel_rfl) ?_ ?_
        rotate_left
        · intro wx hSw; go_split_ands; go_simp; try with_reducible rfl
        simp only [Act.put, List.getElem_toArray, List.getElem_cons_succ, List.getElem_cons_zero, List.setIfInBounds_toArray, List.set_cons_zero, List.set_cons_succ]
        refine wpAnyT_load (i := 6) (dst := some 51) (ty := 37) (x := .tmp 50) (b := g) (o := ((i * 17))) (cs := XC) (by kernel_rfl) (by kernel_rfl) (by kernel_rfl) (by kernel_rfl) (by kernel_rfl) (fun _ _ _ h => h) (by kernel_rfl) hT (fun _ => hS) (by kernel_rfl) (fun _ h => h.2.1) uE rfl iX ?_
        simp only [Act.put, List.getElem_toArray, List.getElem_cons_succ, List.getElem_cons_zero, List.setIfInBounds_toArray, List.set_cons_zero, List.set_cons_succ]
        refine wpAnyT_load (i := 7) (dst := some 52) (ty := 37) (x := .tmp 3) (b := w.heap.size) (o := (0)) (cs := E) (by kernel_rfl) (by kernel_rfl) (by kernel_rfl) (by kernel_rfl) (by kernel_rfl) (fun _ _ _ h => h) (by kernel_rfl) hT (fun _ => hS) (by kernel_rfl) (fun _ h => h.2.2) uE rfl iE ?_
        simp only [Act.put, List.getElem_toArray, List.getElem_cons_succ, List.getElem_cons_zero, List.setIfInBounds_toArray, List.set_cons_zero, List.set_cons_succ]
        refine wpAnyT_held (i := 8) (v := .bool VE) rfl (by kernel_rfl) (by kernel_rfl) (by kernel_rfl) (fun _ _ _ h => h) (by kernel_rfl) hT (fun _ => hS) (by kernel_rfl) ?_ ?_
        · intro wx hSw; go_split_ands; go_simp
        simp only [Act.put, List.getElem_toArray, List.getElem_cons_succ, List.getElem_cons_zero, List.setIfInBounds_toArray, List.set_cons_zero, List.set_cons_succ]
        refine wpAnyT_done (by kernel_rfl) ?_ _
        clear hT hS hve
        cases VE
        · replace HN : Veil (RN = 11) := ⟨HN.out⟩
          go_wp2
          go_ret2
          exact ⟨_, by rw [HN.out]; rfl, HNO.out _ hB.drew.drew (by rw [HN.out]; decide)⟩
        · replace HN : Veil (RN = 5) := ⟨HN.out⟩
          go_wp2
          go_ret2
          exact ⟨_, by rw [HN.out]; rfl, HNO.out _ hB.drew.drew (by rw [HN.out]; decide)⟩
    · have hii : ¬ (i : Int) < (L.length : Int) := by omega
      have HLK : Veil (lookE L e.dot = none) := ⟨lookE_none.2 fun y hy => by
        obtain ⟨j, hj, rfl⟩ := List.getElem_of_mem hy
        exact HNOT.out j hj (by omega)⟩
      replace HN : Veil (RN = if fullB S = true then 10 else if RY = true then 0 else if 16 ≤ L.length then 10 else 0) := ⟨by have := HN.out; rw [HLK.out] at this; exact this⟩
      have hmc : wr.cell? ⟨R, 8, none⟩ = some (.int .i64 (sumS S)) := (HC.out.far hB).manyC
      clear hi hil HNOT
      by_cases hfu : 512 ≤ sumS S
      · replace HN : Veil (RN = 10) := ⟨by have := HN.out; rw [show fullB S = true from decide_eq_true hfu] at this; exact this⟩
        generalize sumS S = MS at hmc hfu
        go_upto_region 14 with fail
        refine wp_region_gateT (fun w' => w'.cell? ⟨R, 8, none⟩ = some (.int .i64 MS)) (fun _ => True) 99 (by kernel_rfl) ?_
        have hT : (fun w' : World => w'.cell? ⟨R, 8, none⟩ = some (.int .i64 MS)) wr.drew := hmc
        have hS : (fun _ : World => True) wr.drew := trivial
        refine wpAnyT_held (i := 0) (v := ?_) rfl (by kernel_rfl) (by kernel_rfl) (by kernel_rfl) (fun _ _ _ h => h) (by kernel_rfl) hT (fun _ => hS) (by kernel_rfl) ?_ ?_
        rotate_left
        · intro wx hSw; go_split_ands; go_simp; try with_reducible rfl
        simp only [Act.put, List.getElem_toArray, List.getElem_cons_succ, List.getElem_cons_zero, List.setIfInBounds_toArray, List.set_cons_zero, List.set_cons_succ]
        refine wpAnyT_held (i := 1) (v := ?_) rfl (by kernel_rfl) (by kernel_rfl) (by kernel_rfl) (fun _ _ _ h => h) (by kernel_rfl) hT (fun _ => hS) (by kernel_rfl) ?_ ?_
        rotate_left
        · intro wx hSw; go_split_ands; go_simp; try with_reducible rfl
        simp only [Act.put, List.getElem_toArray, List.getElem_cons_succ, List.getElem_cons_zero, List.setIfInBounds_toArray, List.set_cons_zero, List.set_cons_succ]
        refine wpAnyT_held (i := 2) (v := ?_) rfl (by kernel_rfl) (by kernel_rfl) (by kernel_rfl) (fun _ _ _ h => h) (by kernel_rfl) hT (fun _ => hS) (by kernel_rfl) ?_ ?_
        rotate_left
        · intro wx hSw; go_split_ands; go_simp; try with_reducible rfl
        simp only [Act.put, List.getElem_toArray, List.getElem_cons_succ, List.getElem_cons_zero, List.setIfInBounds_toArray, List.set_cons_zero, List.set_cons_succ]
        refine wpAnyT_held (i := 3) (v := ?_) rfl (by kernel_rfl) (by kernel_rfl) (by kernel_rfl) (fun _ _ _ h => h) (by kernel_rfl) hT (fun _ => hS) (by kernel_rfl) ?_ ?_
        rotate_left
        · intro wx hSw; go_split_ands; go_simp; try with_reducible rfl
        simp only [Act.put, List.getElem_toArray, List.getElem_cons_succ, List.getElem_cons_zero, List.setIfInBounds_toArray, List.set_cons_zero, List.set_cons_succ]
        refine wpAnyT_held (i := 4) (v := .bool true) rfl (by kernel_rfl) (by kernel_rfl) (by kernel_rfl) (fun _ _ _ h => h) (by kernel_rfl) hT (fun _ => hS) (by kernel_rfl) ?_ ?_
        · intro wx hSw; go_split_ands; go_simp
        simp only [Act.put, List.getElem_toArray, List.getElem_cons_succ, List.getElem_cons_zero, List.setIfInBounds_toArray, List.set_cons_zero, List.set_cons_succ]
        refine wpAnyT_held (i := 5) (v := ?_) rfl (by kernel_rfl) (by kernel_rfl) (by kernel_rfl) (fun _ _ _ h => h) (by kernel_rfl) hT (fun _ => hS) (by kernel_rfl) ?_ ?_
        rotate_left
        · intro wx hSw; go_split_ands; go_simp; try with_reducible rfl
        simp only [Act.put, List.getElem_toArray, List.getElem_cons_succ, List.getElem_cons_zero, List.setIfInBounds_toArray, List.set_cons_zero, List.set_cons_succ]
        refine wpAnyT_skip (i := 6) rfl (by kernel_rfl) (by kernel_rfl) (by kernel_rfl) (fun _ _ _ h => h) (by kernel_rfl) hT (fun _ => hS) (by kernel_rfl) ?_
        simp only [Act.put, List.getElem_toArray, List.getElem_cons_succ, List.getElem_cons_zero, List.setIfInBounds_toArray, List.set_cons_zero, List.set_cons_succ]
        refine wpAnyT_skip (i := 7) rfl (by kernel_rfl) (by kernel_rfl) (by kernel_rfl) (fun _ _ _ h => h) (by kernel_rfl) hT (fun _ => hS) (by kernel_rfl) ?_
        simp only [Act.put, List.getElem_toArray, List.getElem_cons_succ, List.getElem_cons_zero, List.setIfInBounds_toArray, List.set_cons_zero, List.set_cons_succ]
        refine wpAnyT_skip (i := 8) rfl (by kernel_rfl) (by kernel_rfl) (by kernel_rfl) (fun _ _ _ h => h) (by kernel_rfl) hT (fun _ => hS) (by kernel_rfl) ?_
        simp only [Act.put, List.getElem_toArray, List.getElem_cons_succ, List.getElem_cons_zero, List.setIfInBounds_toArray, List.set_cons_zero, List.set_cons_succ]
        refine wpAnyT_skip (i := 9) rfl (by kernel_rfl) (by kernel_rfl) (by kernel_rfl) (fun _ _ _ h => h) (by kernel_rfl) hT (fun _ => hS) (by kernel_rfl) ?_
        simp only [Act.put, List.getElem_toArray, List.getElem_cons_succ, List.getElem_cons_zero, List.setIfInBounds_toArray, List.set_cons_zero, List.set_cons_succ]
        refine wpAnyT_skip (i := 10) rfl (by kernel_rfl) (by kernel_rfl) (by kernel_rfl) (fun _ _ _ h => h) (by kernel_rfl) hT (fun _ => hS) (by kernel_rfl) ?_
        simp only [Act.put, List.getElem_toArray, List.getElem_cons_succ, List.getElem_cons_zero, List.setIfInBounds_toArray, List.set_cons_zero, List.set_cons_succ]
        refine wpAnyT_skip (i := 11) rfl (by kernel_rfl) (by kernel_rfl) (by kernel_rfl) (fun _ _ _ h => h) (by kernel_rfl) hT (fun _ => hS) (by kernel_rfl) ?_
        simp only [Act.put, List.getElem_toArray, List.getElem_cons_succ, List.getElem_cons_zero, List.setIfInBounds_toArray, List.set_cons_zero, List.set_cons_succ]
        refine wpAnyT_skip (i := 12) rfl (by kernel_rfl) (by kernel_rfl) (by kernel_rfl) (fun _ _ _ h => h) (by kernel_rfl) hT (fun _ => hS) (by kernel_rfl) ?_
        simp only [Act.put, List.getElem_toArray, List.getElem_cons_succ, List.getElem_cons_zero, List.setIfInBounds_toArray, List.set_cons_zero, List.set_cons_succ]
        refine wpAnyT_skip (i := 13) rfl (by kernel_rfl) (by kernel_rfl) (by kernel_rfl) (fun _ _ _ h => h) (by kernel_rfl) hT (fun _ => hS) (by kernel_rfl) ?_
        simp only [Act.put, List.getElem_toArray, List.getElem_cons_succ, List.getElem_cons_zero, List.setIfInBounds_toArray, List.set_cons_zero, List.set_cons_succ]
        refine wpAnyT_skip (i := 14) rfl (by kernel_rfl) (by kernel_rfl) (by kernel_rfl) (fun _ _ _ h => h) (by kernel_rfl) hT (fun _ => hS) (by kernel_rfl) ?_
        simp only [Act.put, List.getElem_toArray, List.getElem_cons_succ, List.getElem_cons_zero, List.setIfInBounds_toArray, List.set_cons_zero, List.set_cons_succ]
        refine wpAnyT_skip (i := 15) rfl (by kernel_rfl) (by kernel_rfl) (by kernel_rfl) (fun _ _ _ h => h) (by kernel_rfl) hT (fun _ => hS) (by kernel_rfl) ?_
        simp only [Act.put, List.getElem_toArray, List.getElem_cons_succ, List.getElem_cons_zero, List.setIfInBounds_toArray, List.set_cons_zero, List.set_cons_succ]
        refine wpAnyT_skip (i := 16) rfl (by kernel_rfl) (by kernel_rfl) (by kernel_rfl) (fun _ _ _ h => h) (by kernel_rfl) hT (fun _ => hS) (by kernel_rfl) ?_
        simp only [Act.put, List.getElem_toArray, List.getElem_cons_succ, List.getElem_cons_zero, List.setIfInBounds_toArray, List.set_cons_zero, List.set_cons_succ]
        refine wpAnyT_skip (i := 17) rfl (by kernel_rfl) (by kernel_rfl) (by kernel_rfl) (fun _ _ _ h => h) (by kernel_rfl) hT (fun _ => hS) (by kernel_rfl) ?_
        simp only [Act.put, List.getElem_toArray, List.getElem_cons_succ, List.getElem_cons_zero, List.setIfInBounds_toArray, List.set_cons_zero, List.set_cons_succ]
        refine wpAnyT_skip (i := 18) rfl (by kernel_rfl) (by kernel_rfl) (by kernel_rfl) (fun _ _ _ h => h) (by kernel_rfl) hT (fun _ => hS) (by kernel_rfl) ?_
        simp only [Act.put, List.getElem_toArray, List.getElem_cons_succ, List.getElem_cons_zero, List.setIfInBounds_toArray, List.set_cons_zero, List.set_cons_succ]
        refine wpAnyT_skip (i := 19) rfl (by kernel_rfl) (by kernel_rfl) (by kernel_rfl) (fun _ _ _ h => h) (by kernel_rfl) hT (fun _ => hS) (by kernel_rfl) ?_
        simp only [Act.put, List.getElem_toArray, List.getElem_cons_succ, List.getElem_cons_zero, List.setIfInBounds_toArray, List.set_cons_zero, List.set_cons_succ]
        refine wpAnyT_skip (i := 20) rfl (by kernel_rfl) (by kernel_rfl) (by kernel_rfl) (fun _ _ _ h => h) (by kernel_rfl) hT (fun _ => hS) (by kernel_rfl) ?_
        simp only [Act.put, List.getElem_toArray, List.getElem_cons_succ, List.getElem_cons_zero, List.setIfInBounds_toArray, List.set_cons_zero, List.set_cons_succ]
        refine wpAnyT_held (i := 21) (v := .bool true) rfl (by kernel_rfl) (by kernel_rfl) (by kernel_rfl) (fun _ _ _ h => h) (by kernel_rfl) hT (fun _ => hS) (by kernel_rfl) ?_ ?_
        · intro wx hSw; go_split_ands; go_simp
        simp only [Act.put, List.getElem_toArray, List.getElem_cons_succ, List.getElem_cons_zero, List.setIfInBounds_toArray, List.set_cons_zero, List.set_cons_succ]
        refine wpAnyT_done (by kernel_rfl) ?_ _
        clear hT hS
        go_wp2
        go_ret2
        exact ⟨_, by rw [HN.out]; rfl, HNO.out _ hB.drew (by rw [HN.out]; decide)⟩
      replace HN : Veil (RN = if RY = true then 0 else if 16 ≤ L.length then 10 else 0) := ⟨by have := HN.out; rw [show fullB S = false from decide_eq_false hfu] at this; exact this⟩
      have hMn := sumS_nn HG.out.rng
      obtain ⟨MS, hMS⟩ : ∃ MS, sumS S = MS := ⟨_, rfl⟩
      rw [hMS] at hmc hfu hMn
      clear hMS
      have HT4 : Veil (∀ W, Below wr.heap.size wr W → W.rangeAt R 0 SV ∧ W.rangeAt w.heap.size 0 E ∧ W.cell? ⟨R, 8, none⟩ = some (.int .i64 MS) ∧ W.cell? ⟨R, 9, none⟩ = some (.slice x L.length c)) := ⟨fun W hb => by
        obtain ⟨p1, p2, p3, p4⟩ := HT.out W (hB.trans (hb.mono hB.size)) (hx.farM hb)
        exact ⟨p3, p1, (hb.cell (p := ⟨R, 8, none⟩) (block_lt_of_cell hmc)).trans hmc, p4⟩⟩
      have hry := HD.out wr.drew
      have hcase : (RN = 10 ∧ RY = false ∧ (16 : Int) ≤ (L.length : Int)) ∨ (RN = 0 ∧ RY = false ∧ ¬ (16 : Int) ≤ (L.length : Int)) ∨ (RN = 0 ∧ RY = true) := by
        have := HN.out
        cases RY
        · by_cases h16 : 16 ≤ L.length
          · exact .inl ⟨by rw [this]; simp [h16], rfl, by omega⟩
          · exact .inr (.inl ⟨by rw [this]; simp [h16], rfl, by omega⟩)
        · exact .inr (.inr ⟨by rw [this]; rfl, rfl⟩)
      clear HN q1 q2 q3
      go_upto_region 14 with fail
      clear q4
      refine wp_region_gateT (fun w' => w'.rangeAt R 0 SV ∧ w'.rangeAt w.heap.size 0 E ∧ w'.cell? ⟨R, 8, none⟩ = some (.int .i64 MS) ∧ w'.cell? ⟨R, 9, none⟩ = some (.slice x L.length c)) (fun _ => True) 99 (by kernel_rfl) ?_
      have hT : (fun w' : World => w'.rangeAt R 0 SV ∧ w'.rangeAt w.heap.size 0 E ∧ w'.cell? ⟨R, 8, none⟩ = some (.int .i64 MS) ∧ w'.cell? ⟨R, 9, none⟩ = some (.slice x L.length c)) wr.drew := HT4.out _ (Below.refl _ _).drew
      have hS : (fun _ : World => True) wr.drew := trivial
      refine wpAnyT_held (i := 0) (v := ?_) rfl (by kernel_rfl) (by kernel_rfl) (by kernel_rfl) (fun _ _ _ h => h) (by kernel_rfl) hT (fun _ => hS) (by kernel_rfl) ?_ ?_
      rotate_left
      · intro wx hSw; go_split_ands; go_simp; try with_reducible rfl
      simp only [Act.put, List.getElem_toArray, List.getElem_cons_succ, List.getElem_cons_zero, List.setIfInBounds_toArray, List.set_cons_zero, List.set_cons_succ]
      refine wpAnyT_held (i := 1) (v := ?_) rfl (by kernel_rfl) (by kernel_rfl) (by kernel_rfl) (fun _ _ _ h => h) (by kernel_rfl) hT (fun _ => hS) (by kernel_rfl) ?_ ?_
      rotate_left
      · intro wx hSw; go_split_ands; go_simp; try with_reducible rfl
      simp only [Act.put, List.getElem_toArray, List.getElem_cons_succ, List.getElem_cons_zero, List.setIfInBounds_toArray, List.set_cons_zero, List.set_cons_succ]
      refine wpAnyT_held (i := 2) (v := ?_) rfl (by kernel_rfl) (by kernel_rfl) (by kernel_rfl) (fun _ _ _ h => h) (by kernel_rfl) hT (fun _ => hS) (by kernel_rfl) ?_ ?_
      rotate_left
      · intro wx hSw; go_split_ands; go_simp; try with_reducible rfl
      simp only [Act.put, List.getElem_toArray, List.getElem_cons_succ, List.getElem_cons_zero, List.setIfInBounds_toArray, List.set_cons_zero, List.set_cons_succ]
      refine wpAnyT_held (i := 3) (v := ?_) rfl (by kernel_rfl) (by kernel_rfl) (by kernel_rfl) (fun _ _ _ h => h) (by kernel_rfl) hT (fun _ => hS) (by kernel_rfl) ?_ ?_
      rotate_left
      · intro wx hSw; go_split_ands; go_simp; try with_reducible rfl
      simp only [Act.put, List.getElem_toArray, List.getElem_cons_succ, List.getElem_cons_zero, List.setIfInBounds_toArray, List.set_cons_zero, List.set_cons_succ]
      refine wpAnyT_held (i := 4) (v := .bool false) rfl (by kernel_rfl) (by kernel_rfl) (by kernel_rfl) (fun _ _ _ h => h) (by kernel_rfl) hT (fun _ => hS) (by kernel_rfl) ?_ ?_
      · intro wx hSw; go_split_ands; go_simp
      simp only [Act.put, List.getElem_toArray, List.getElem_cons_succ, List.getElem_cons_zero, List.setIfInBounds_toArray, List.set_cons_zero, List.set_cons_succ]
      refine wpAnyT_held (i := 5) (v := ?_) rfl (by kernel_rfl) (by kernel_rfl) (by kernel_rfl) (fun _ _ _ h => h) (by kernel_rfl) hT (fun _ => hS) (by kernel_rfl) ?_ ?_
      rotate_left
      · intro wx hSw; go_split_ands; go_simp; try with_reducible rfl
      simp only [Act.put, List.getElem_toArray, List.getElem_cons_succ, List.getElem_cons_zero, List.setIfInBounds_toArray, List.set_cons_zero, List.set_cons_succ]
      refine wpAnyT_held (i := 6) (v := ?_) rfl (by kernel_rfl) (by kernel_rfl) (by kernel_rfl) (fun _ _ _ h => h) (by kernel_rfl) hT (fun _ => hS) (by kernel_rfl) ?_ ?_
      rotate_left
      · intro wx hSw; go_split_ands; go_simp; try with_reducible rfl
      simp only [Act.put, List.getElem_toArray, List.getElem_cons_succ, List.getElem_cons_zero, List.setIfInBounds_toArray, List.set_cons_zero, List.set_cons_succ]
      refine wpAnyT_held (i := 7) (v := ?_) rfl (by kernel_rfl) (by kernel_rfl) (by kernel_rfl) (fun _ _ _ h => h) (by kernel_rfl) hT (fun _ => hS) (by kernel_rfl) ?_ ?_
      rotate_left
      · intro wx hSw; go_split_ands; go_simp; try with_reducible rfl
      simp only [Act.put, List.getElem_toArray, List.getElem_cons_succ, List.getElem_cons_zero, List.setIfInBounds_toArray, List.set_cons_zero, List.set_cons_succ]
      refine wpAnyT_held (i := 8) (v := ?_) rfl (by kernel_rfl) (by kernel_rfl) (by kernel_rfl) (fun _ _ _ h => h) (by kernel_rfl) hT (fun _ => hS) (by kernel_rfl) ?_ ?_
      rotate_left
      · intro wx hSw; go_split_ands; go_simp; try with_reducible rfl
      simp only [Act.put, List.getElem_toArray, List.getElem_cons_succ, List.getElem_cons_zero, List.setIfInBounds_toArray, List.set_cons_zero, List.set_cons_succ]
      refine wpAnyT_load (i := 9) (dst := some 63) (ty := 24) (x := .tmp 62) (b := R) (o := (0)) (cs := SV) (by kernel_rfl) (by kernel_rfl) (by kernel_rfl) (by kernel_rfl) (by kernel_rfl) (fun _ _ _ h => h) (by kernel_rfl) hT (fun _ => hS) (by kernel_rfl) (fun _ h => h.1) uV rfl iV ?_
      simp only [Act.put, List.getElem_toArray, List.getElem_cons_succ, List.getElem_cons_zero, List.setIfInBounds_toArray, List.set_cons_zero, List.set_cons_succ]
      refine wpAnyT_load (i := 10) (dst := some 64) (ty := 37) (x := .tmp 3) (b := w.heap.size) (o := (0)) (cs := E) (by kernel_rfl) (by kernel_rfl) (by kernel_rfl) (by kernel_rfl) (by kernel_rfl) (fun _ _ _ h => h) (by kernel_rfl) hT (fun _ => hS) (by kernel_rfl) (fun _ h => h.2.1) uE rfl iE ?_
      simp only [Act.put, List.getElem_toArray, List.getElem_cons_succ, List.getElem_cons_zero, List.setIfInBounds_toArray, List.set_cons_zero, List.set_cons_succ]
      refine wpAnyT_one (i := 11) rfl (by kernel_rfl) (by kernel_rfl) (fun K hK => ?_)
      refine wpx_call _ _ (by kernel_rfl) (hry.mono ?_)
      rintro z W3 ⟨rfl, hb3⟩
      refine ⟨_, rfl, ?_⟩
      have hb4 : Below wr.heap.size wr W3 := ((Below.refl _ _).drew).trans (hb3.mono (Nat.le_refl _))
      clear hb3 hry
      replace hT : (fun w' : World => w'.rangeAt R 0 SV ∧ w'.rangeAt w.heap.size 0 E ∧ w'.cell? ⟨R, 8, none⟩ = some (.int .i64 MS) ∧ w'.cell? ⟨R, 9, none⟩ = some (.slice x L.length c)) W3 := HT4.out _ hb4
      replace hS : (fun _ : World => True) W3 := trivial
      refine hK.out _ _ hT (fun _ => hS) ?_
      clear hK K
      try simp only [Act.put, List.getElem_toArray, List.getElem_cons_succ, List.getElem_cons_zero, List.setIfInBounds_toArray, List.set_cons_zero, List.set_cons_succ]
      have hB5 : Below w.heap.size w W3 := hB.trans (hb4.mono hB.size)
      have hx5 := hx.farM hb4
      rcases hcase with ⟨hN, rfl, h16⟩ | ⟨hN, rfl, h16⟩ | ⟨hN, rfl⟩
      focus
        subst hN
        refine wpAnyT_held (i := 12) (v := ?_) rfl (by kernel_rfl) (by kernel_rfl) (by kernel_rfl) (fun _ _ _ h => h) (by kernel_rfl) hT (fun _ => hS) (by kernel_rfl) ?_ ?_
        rotate_left
        · intro wx hSw; go_split_ands; go_simp; try with_reducible rfl
        simp only [Act.put, List.getElem_toArray, List.getElem_cons_succ, List.getElem_cons_zero, List.setIfInBounds_toArray, List.set_cons_zero, List.set_cons_succ]
        refine wpAnyT_held (i := 13) (v := ?_) rfl (by kernel_rfl) (by kernel_rfl) (by kernel_rfl) (fun _ _ _ h => h) (by kernel_rfl) hT (fun _ => hS) (by kernel_rfl) ?_ ?_
        rotate_left
        · intro wx hSw; go_split_ands; go_simp; try with_reducible rfl
        simp only [Act.put, List.getElem_toArray, List.getElem_cons_succ, List.getElem_cons_zero, List.setIfInBounds_toArray, List.set_cons_zero, List.set_cons_succ]
        refine wpAnyT_held (i := 14) (v := ?_) rfl (by kernel_rfl) (by kernel_rfl) (by kernel_rfl) (fun _ _ _ h => h) (by kernel_rfl) hT (fun _ => hS) (by kernel_rfl) ?_ ?_
        rotate_left
        · intro wx hSw; go_split_ands; go_simp; try with_reducible rfl
        simp only [Act.put, List.getElem_toArray, List.getElem_cons_succ, List.getElem_cons_zero, List.setIfInBounds_toArray, List.set_cons_zero, List.set_cons_succ]
        refine wpAnyT_held (i := 15) (v := ?_) rfl (by kernel_rfl) (by kernel_rfl) (by kernel_rfl) (fun _ _ _ h => h) (by kernel_rfl) hT (fun _ => hS) (by kernel_rfl) ?_ ?_
        rotate_left
        · intro wx hSw; go_split_ands; go_simp; try with_reducible rfl
        simp only [Act.put, List.getElem_toArray, List.getElem_cons_succ, List.getElem_cons_zero, List.setIfInBounds_toArray, List.set_cons_zero, List.set_cons_succ]
        refine wpAnyT_held (i := 16) (v := ?_) rfl (by kernel_rfl) (by kernel_rfl) (by kernel_rfl) (fun _ _ _ h => h) (by kernel_rfl) hT (fun _ => hS) (by kernel_rfl) ?_ ?_
        rotate_left
        · intro wx hSw; go_split_ands; go_simp; try with_reducible rfl
        simp only [Act.put, List.getElem_toArray, List.getElem_cons_succ, List.getElem_cons_zero, List.setIfInBounds_toArray, List.set_cons_zero, List.set_cons_succ]
        refine wpAnyT_held (i := 17) (v := ?_) rfl (by kernel_rfl) (by kernel_rfl) (by kernel_rfl) (fun _ _ _ h => h) (by kernel_rfl) hT (fun _ => hS) (by kernel_rfl) ?_ ?_
        rotate_left
        · intro wx hSw; go_split_ands; go_simp; try with_reducible rfl
        simp only [Act.put, List.getElem_toArray, List.getElem_cons_succ, List.getElem_cons_zero, List.setIfInBounds_toArray, List.set_cons_zero, List.set_cons_succ]
        refine wpAnyT_held (i := 18) (v := ?_) rfl (by kernel_rfl) (by kernel_rfl) (by kernel_rfl) (fun _ _ _ h => h) (by kernel_rfl) hT (fun _ => hS) (by kernel_rfl) ?_ ?_
        rotate_left
        · intro wx hSw; go_split_ands; go_simp; try with_reducible rfl
        simp only [Act.put, List.getElem_toArray, List.getElem_cons_succ, List.getElem_cons_zero, List.setIfInBounds_toArray, List.set_cons_zero, List.set_cons_succ]
        refine wpAnyT_held (i := 19) (v := .bool true) rfl (by kernel_rfl) (by kernel_rfl) (by kernel_rfl) (fun _ _ _ h => h) (by kernel_rfl) hT (fun _ => hS) (by kernel_rfl) ?_ ?_
        · intro wx hSw; go_split_ands; go_simp
        simp only [Act.put, List.getElem_toArray, List.getElem_cons_succ, List.getElem_cons_zero, List.setIfInBounds_toArray, List.set_cons_zero, List.set_cons_succ]
        refine wpAnyT_held (i := 20) (v := ?_) rfl (by kernel_rfl) (by kernel_rfl) (by kernel_rfl) (fun _ _ _ h => h) (by kernel_rfl) hT (fun _ => hS) (by kernel_rfl) ?_ ?_
        rotate_left
        · intro wx hSw; go_split_ands; go_simp; try with_reducible rfl
        simp only [Act.put, List.getElem_toArray, List.getElem_cons_succ, List.getElem_cons_zero, List.setIfInBounds_toArray, List.set_cons_zero, List.set_cons_succ]
        refine wpAnyT_held (i := 21) (v := .bool true) rfl (by kernel_rfl) (by kernel_rfl) (by kernel_rfl) (fun _ _ _ h => h) (by kernel_rfl) hT (fun _ => hS) (by kernel_rfl) ?_ ?_
        · intro wx hSw; go_split_ands; go_simp
        simp only [Act.put, List.getElem_toArray, List.getElem_cons_succ, List.getElem_cons_zero, List.setIfInBounds_toArray, List.set_cons_zero, List.set_cons_succ]
        refine wpAnyT_done (by kernel_rfl) ?_ _
        clear hT hS
        go_wp2
        go_ret2
        exact ⟨_, rfl, HNO.out _ hB5 (by decide)⟩
      focus
        subst hN
        refine wpAnyT_held (i := 12) (v := ?_) rfl (by kernel_rfl) (by kernel_rfl) (by kernel_rfl) (fun _ _ _ h => h) (by kernel_rfl) hT (fun _ => hS) (by kernel_rfl) ?_ ?_
        rotate_left
        · intro wx hSw; go_split_ands; go_simp; try with_reducible rfl
        simp only [Act.put, List.getElem_toArray, List.getElem_cons_succ, List.getElem_cons_zero, List.setIfInBounds_toArray, List.set_cons_zero, List.set_cons_succ]
        refine wpAnyT_held (i := 13) (v := ?_) rfl (by kernel_rfl) (by kernel_rfl) (by kernel_rfl) (fun _ _ _ h => h) (by kernel_rfl) hT (fun _ => hS) (by kernel_rfl) ?_ ?_
        rotate_left
        · intro wx hSw; go_split_ands; go_simp; try with_reducible rfl
        simp only [Act.put, List.getElem_toArray, List.getElem_cons_succ, List.getElem_cons_zero, List.setIfInBounds_toArray, List.set_cons_zero, List.set_cons_succ]
        refine wpAnyT_held (i := 14) (v := ?_) rfl (by kernel_rfl) (by kernel_rfl) (by kernel_rfl) (fun _ _ _ h => h) (by kernel_rfl) hT (fun _ => hS) (by kernel_rfl) ?_ ?_
        rotate_left
        · intro wx hSw; go_split_ands; go_simp; try with_reducible rfl
        simp only [Act.put, List.getElem_toArray, List.getElem_cons_succ, List.getElem_cons_zero, List.setIfInBounds_toArray, List.set_cons_zero, List.set_cons_succ]
        refine wpAnyT_held (i := 15) (v := ?_) rfl (by kernel_rfl) (by kernel_rfl) (by kernel_rfl) (fun _ _ _ h => h) (by kernel_rfl) hT (fun _ => hS) (by kernel_rfl) ?_ ?_
        rotate_left
        · intro wx hSw; go_split_ands; go_simp; try with_reducible rfl
        simp only [Act.put, List.getElem_toArray, List.getElem_cons_succ, List.getElem_cons_zero, List.setIfInBounds_toArray, List.set_cons_zero, List.set_cons_succ]
        refine wpAnyT_held (i := 16) (v := ?_) rfl (by kernel_rfl) (by kernel_rfl) (by kernel_rfl) (fun _ _ _ h => h) (by kernel_rfl) hT (fun _ => hS) (by kernel_rfl) ?_ ?_
        rotate_left
        · intro wx hSw; go_split_ands; go_simp; try with_reducible rfl
        simp only [Act.put, List.getElem_toArray, List.getElem_cons_succ, List.getElem_cons_zero, List.setIfInBounds_toArray, List.set_cons_zero, List.set_cons_succ]
        refine wpAnyT_held (i := 17) (v := ?_) rfl (by kernel_rfl) (by kernel_rfl) (by kernel_rfl) (fun _ _ _ h => h) (by kernel_rfl) hT (fun _ => hS) (by kernel_rfl) ?_ ?_
        rotate_left
        · intro wx hSw; go_split_ands; go_simp; try with_reducible rfl
        simp only [Act.put, List.getElem_toArray, List.getElem_cons_succ, List.getElem_cons_zero, List.setIfInBounds_toArray, List.set_cons_zero, List.set_cons_succ]
        refine wpAnyT_held (i := 18) (v := ?_) rfl (by kernel_rfl) (by kernel_rfl) (by kernel_rfl) (fun _ _ _ h => h) (by kernel_rfl) hT (fun _ => hS) (by kernel_rfl) ?_ ?_
        rotate_left
        · intro wx hSw; go_split_ands; go_simp; try with_reducible rfl
        simp only [Act.put, List.getElem_toArray, List.getElem_cons_succ, List.getElem_cons_zero, List.setIfInBounds_toArray, List.set_cons_zero, List.set_cons_succ]
        refine wpAnyT_held (i := 19) (v := .bool false) rfl (by kernel_rfl) (by kernel_rfl) (by kernel_rfl) (fun _ _ _ h => h) (by kernel_rfl) hT (fun _ => hS) (by kernel_rfl) ?_ ?_
        · intro wx hSw; go_split_ands; go_simp
        simp only [Act.put, List.getElem_toArray, List.getElem_cons_succ, List.getElem_cons_zero, List.setIfInBounds_toArray, List.set_cons_zero, List.set_cons_succ]
        refine wpAnyT_held (i := 20) (v := ?_) rfl (by kernel_rfl) (by kernel_rfl) (by kernel_rfl) (fun _ _ _ h => h) (by kernel_rfl) hT (fun _ => hS) (by kernel_rfl) ?_ ?_
        rotate_left
        · intro wx hSw; go_split_ands; go_simp; try with_reducible rfl
        simp only [Act.put, List.getElem_toArray, List.getElem_cons_succ, List.getElem_cons_zero, List.setIfInBounds_toArray, List.set_cons_zero, List.set_cons_succ]
        refine wpAnyT_held (i := 21) (v := .bool false) rfl (by kernel_rfl) (by kernel_rfl) (by kernel_rfl) (fun _ _ _ h => h) (by kernel_rfl) hT (fun _ => hS) (by kernel_rfl) ?_ ?_
        · intro wx hSw; go_split_ands; go_simp
        simp only [Act.put, List.getElem_toArray, List.getElem_cons_succ, List.getElem_cons_zero, List.setIfInBounds_toArray, List.set_cons_zero, List.set_cons_succ]
        refine wpAnyT_done (by kernel_rfl) ?_ _
        clear hT hS h16
      rotate_left
      focus
        subst hN
        refine wpAnyT_held (i := 12) (v := ?_) rfl (by kernel_rfl) (by kernel_rfl) (by kernel_rfl) (fun _ _ _ h => h) (by kernel_rfl) hT (fun _ => hS) (by kernel_rfl) ?_ ?_
        rotate_left
        · intro wx hSw; go_split_ands; go_simp; try with_reducible rfl
        simp only [Act.put, List.getElem_toArray, List.getElem_cons_succ, List.getElem_cons_zero, List.setIfInBounds_toArray, List.set_cons_zero, List.set_cons_succ]
        refine wpAnyT_held (i := 13) (v := ?_) rfl (by kernel_rfl) (by kernel_rfl) (by kernel_rfl) (fun _ _ _ h => h) (by kernel_rfl) hT (fun _ => hS) (by kernel_rfl) ?_ ?_
        rotate_left
        · intro wx hSw; go_split_ands; go_simp; try with_reducible rfl
        simp only [Act.put, List.getElem_toArray, List.getElem_cons_succ, List.getElem_cons_zero, List.setIfInBounds_toArray, List.set_cons_zero, List.set_cons_succ]
        refine wpAnyT_skip (i := 14) rfl (by kernel_rfl) (by kernel_rfl) (by kernel_rfl) (fun _ _ _ h => h) (by kernel_rfl) hT (fun _ => hS) (by kernel_rfl) ?_
        simp only [Act.put, List.getElem_toArray, List.getElem_cons_succ, List.getElem_cons_zero, List.setIfInBounds_toArray, List.set_cons_zero, List.set_cons_succ]
        refine wpAnyT_skip (i := 15) rfl (by kernel_rfl) (by kernel_rfl) (by kernel_rfl) (fun _ _ _ h => h) (by kernel_rfl) hT (fun _ => hS) (by kernel_rfl) ?_
        simp only [Act.put, List.getElem_toArray, List.getElem_cons_succ, List.getElem_cons_zero, List.setIfInBounds_toArray, List.set_cons_zero, List.set_cons_succ]
        refine wpAnyT_skip (i := 16) rfl (by kernel_rfl) (by kernel_rfl) (by kernel_rfl) (fun _ _ _ h => h) (by kernel_rfl) hT (fun _ => hS) (by kernel_rfl) ?_
        simp only [Act.put, List.getElem_toArray, List.getElem_cons_succ, List.getElem_cons_zero, List.setIfInBounds_toArray, List.set_cons_zero, List.set_cons_succ]
        refine wpAnyT_skip (i := 17) rfl (by kernel_rfl) (by kernel_rfl) (by kernel_rfl) (fun _ _ _ h => h) (by kernel_rfl) hT (fun _ => hS) (by kernel_rfl) ?_
        simp only [Act.put, List.getElem_toArray, List.getElem_cons_succ, List.getElem_cons_zero, List.setIfInBounds_toArray, List.set_cons_zero, List.set_cons_succ]
        refine wpAnyT_skip (i := 18) rfl (by kernel_rfl) (by kernel_rfl) (by kernel_rfl) (fun _ _ _ h => h) (by kernel_rfl) hT (fun _ => hS) (by kernel_rfl) ?_
        simp only [Act.put, List.getElem_toArray, List.getElem_cons_succ, List.getElem_cons_zero, List.setIfInBounds_toArray, List.set_cons_zero, List.set_cons_succ]
        refine wpAnyT_skip (i := 19) rfl (by kernel_rfl) (by kernel_rfl) (by kernel_rfl) (fun _ _ _ h => h) (by kernel_rfl) hT (fun _ => hS) (by kernel_rfl) ?_
        simp only [Act.put, List.getElem_toArray, List.getElem_cons_succ, List.getElem_cons_zero, List.setIfInBounds_toArray, List.set_cons_zero, List.set_cons_succ]
        refine wpAnyT_held (i := 20) (v := ?_) rfl (by kernel_rfl) (by kernel_rfl) (by kernel_rfl) (fun _ _ _ h => h) (by kernel_rfl) hT (fun _ => hS) (by kernel_rfl) ?_ ?_
        rotate_left
        · intro wx hSw; go_split_ands; go_simp; try with_reducible rfl
        simp only [Act.put, List.getElem_toArray, List.getElem_cons_succ, List.getElem_cons_zero, List.setIfInBounds_toArray, List.set_cons_zero, List.set_cons_succ]
        refine wpAnyT_held (i := 21) (v := .bool false) rfl (by kernel_rfl) (by kernel_rfl) (by kernel_rfl) (fun _ _ _ h => h) (by kernel_rfl) hT (fun _ => hS) (by kernel_rfl) ?_ ?_
        · intro wx hSw; go_split_ands; go_simp
        simp only [Act.put, List.getElem_toArray, List.getElem_cons_succ, List.getElem_cons_zero, List.setIfInBounds_toArray, List.set_cons_zero, List.set_cons_succ]
        refine wpAnyT_done (by kernel_rfl) ?_ _
        clear hT hS
      all_goals
        clear hmc hfu hMn HT4 hb4 hB hx HNO HD hii
        go_wp2
        go_loopw [7, 8, 9] (fun p q r wr2 => ∃ (i : Nat) (pl : Bool) (l : List Ev), i ≤ L.length ∧ r = .int .i64 (i : Nat) ∧ q = .bool pl ∧ OwnI wr2 (w.heap.size + 1) 37 17 p (l.map Ev.cells) ∧ Below w.heap.size w wr2 ∧ CellsAt wr2 w.heap.size 37 E ∧ PutSt e L i pl l) (fun _ _ r _ => L.length - (intOf r).toNat)
        case atStart => exact ⟨0, false, [], Nat.zero_le _, rfl, rfl, OwnI.nil _ _ _ _, hB5, hx5, PutSt.zero e L⟩
        case round =>
          obtain ⟨i, pl, l, hi, rfl, rfl, hO, hB, hx, hSt⟩ := hrel
          clear hB5 hx5
          obtain ⟨q1, q2, q3, q4⟩ := HT.out wr hB hx
          obtain ⟨lx, lc, rfl⟩ := hO.isSlice
          rw [List.length_map] at hO ⊢
          have hll := hSt.len
          have HST := Veil.mk hSt
          have HO := Veil.mk hO
          obtain ⟨ln, hln⟩ : ∃ n, l.length = n := ⟨_, rfl⟩
          rw [hln] at HO ⊢
          have HLN := Veil.mk hln
          clear hSt hO hln
          by_cases hil : i < L.length
          · have hii : (i : Int) < (L.length : Int) := by omega
            obtain ⟨g, rfl, -, hxr⟩ := (HC.out.far hB).own.at_ i (by rw [List.length_map]; exact hil)
            rw [List.getElem_map] at hxr
            have hxk := HG.out.ok L[i] (List.getElem_mem hil)
            have hxd : wr.rangeAt g (i * 17) (dotC L[i].da L[i].ds) := fun j u hu => hxr j u (by
              have := (ev_parts L[i] hxk.past).1
              rw [← this, List.drop_zero, List.getElem?_take] at hu
              split at hu
              · exact hu
              · cases hu)
            have he9 := ev_len L[i] hxk.past
            have h19 := ev_one L[i]
            have iX : (Try.prog.info? 37).map (·.size) = some L[i].cells.length := by rw [he9]; kernel_rfl
            have iDj : (Try.prog.info? 26).map (·.size) = some (dotC L[i].da L[i].ds).length := sizeDot
            have HLS : Veil (∀ W, Calls Try.prog 47 #[.agg (dotC e.da e.ds).toArray, .agg (dotC L[i].da L[i].ds).toArray] W fun r w' => r = .returned (.bool (ltD e.dot L[i].dot)) ∧ Below W.heap.size W w') := ⟨fun W => rless_any _ _ _ _ W⟩
            obtain ⟨LT, hLT⟩ : ∃ b, ltD e.dot L[i].dot = b := ⟨_, rfl⟩
            rw [hLT] at HLS
            have HLT := Veil.mk hLT
            generalize hDJ : dotC L[i].da L[i].ds = DJ at hxd iDj HLS
            obtain ⟨XC, hXC⟩ : ∃ q, L[i].cells = q := ⟨_, rfl⟩
            have HXC := Veil.mk hXC
            rw [hXC] at hxr iX he9 h19
            have hw2 : IntKind.i64.wrap ((i : Int) + 1) = (i : Int) + 1 := by rw [IntKind.wrap_i64]; omega
            obtain ⟨DV, hDV⟩ : ∃ q, dotC e.da e.ds = q := ⟨_, rfl⟩
            rw [hDV] at iD HT q2 HLS
            have HXR : Veil (∀ W, Below w.heap.size w W → W.rangeAt g (i * 17) XC) := ⟨fun W hb => by
              obtain ⟨g', hg', -, h'⟩ := (HC.out.far hb).own.at_ i (by rw [List.length_map]; exact hil)
              cases hg'
              rw [List.getElem_map, HXC.out] at h'
              exact h'⟩
            clear hxk hDJ hXC hDV hLT hxr
            have hcase : pl = true ∨ (pl = false ∧ LT = true) ∨ (pl = false ∧ LT = false) := by cases pl <;> cases LT <;> simp
            go_upto_region 21 with fail
            rcases hcase with rfl | ⟨rfl, rfl⟩ | ⟨rfl, rfl⟩
            focus
              have HNX : Veil (∃ pl0, true = pl0 ∧ PutSt e L (i + 1) pl0 (l ++ [L[i]])) := ⟨_, rfl, HST.out.keep hil⟩
              refine wp_region_gateT (fun w' => w'.cell? ⟨R, 9, none⟩ = some (.slice (some ⟨g, 0, none⟩) L.length c)) (fun _ => True) 99 (by kernel_rfl) ?_
              have hT : (fun w' : World => w'.cell? ⟨R, 9, none⟩ = some (.slice (some ⟨g, 0, none⟩) L.length c)) wr.drew := q4
              have hS : (fun _ : World => True) wr.drew := trivial
              refine wpAnyT_held (i := 0) (v := ?_) rfl (by kernel_rfl) (by kernel_rfl) (by kernel_rfl) (fun _ _ _ h => h) (by kernel_rfl) hT (fun _ => hS) (by kernel_rfl) ?_ ?_
              rotate_left
              · intro wx hSw; go_split_ands; go_simp; try with_reducible rfl
              simp only [Act.put, List.getElem_toArray, List.getElem_cons_succ, List.getElem_cons_zero, List.setIfInBounds_toArray, List.set_cons_zero, List.set_cons_succ]
              refine wpAnyT_held (i := 1) (v := ?_) rfl (by kernel_rfl) (by kernel_rfl) (by kernel_rfl) (fun _ _ _ h => h) (by kernel_rfl) hT (fun _ => hS) (by kernel_rfl) ?_ ?_
              rotate_left
              · intro wx hSw; go_split_ands; go_simp; try with_reducible rfl
              simp only [Act.put, List.getElem_toArray, List.getElem_cons_succ, List.getElem_cons_zero, List.setIfInBounds_toArray, List.set_cons_zero, List.set_cons_succ]
              refine wpAnyT_held (i := 2) (v := ?_) rfl (by kernel_rfl) (by kernel_rfl) (by kernel_rfl) (fun _ _ _ h => h) (by kernel_rfl) hT (fun _ => hS) (by kernel_rfl) ?_ ?_
              rotate_left
              · intro wx hSw; go_split_ands; go_simp; try with_reducible rfl
              simp only [Act.put, List.getElem_toArray, List.getElem_cons_succ, List.getElem_cons_zero, List.setIfInBounds_toArray, List.set_cons_zero, List.set_cons_succ]
              refine wpAnyT_skip (i := 3) rfl (by kernel_rfl) (by kernel_rfl) (by kernel_rfl) (fun _ _ _ h => h) (by kernel_rfl) hT (fun _ => hS) (by kernel_rfl) ?_
              simp only [Act.put, List.getElem_toArray, List.getElem_cons_succ, List.getElem_cons_zero, List.setIfInBounds_toArray, List.set_cons_zero, List.set_cons_succ]
              refine wpAnyT_skip (i := 4) rfl (by kernel_rfl) (by kernel_rfl) (by kernel_rfl) (fun _ _ _ h => h) (by kernel_rfl) hT (fun _ => hS) (by kernel_rfl) ?_
              simp only [Act.put, List.getElem_toArray, List.getElem_cons_succ, List.getElem_cons_zero, List.setIfInBounds_toArray, List.set_cons_zero, List.set_cons_succ]
              refine wpAnyT_skip (i := 5) rfl (by kernel_rfl) (by kernel_rfl) (by kernel_rfl) (fun _ _ _ h => h) (by kernel_rfl) hT (fun _ => hS) (by kernel_rfl) ?_
              simp only [Act.put, List.getElem_toArray, List.getElem_cons_succ, List.getElem_cons_zero, List.setIfInBounds_toArray, List.set_cons_zero, List.set_cons_succ]
              refine wpAnyT_skip (i := 6) rfl (by kernel_rfl) (by kernel_rfl) (by kernel_rfl) (fun _ _ _ h => h) (by kernel_rfl) hT (fun _ => hS) (by kernel_rfl) ?_
              simp only [Act.put, List.getElem_toArray, List.getElem_cons_succ, List.getElem_cons_zero, List.setIfInBounds_toArray, List.set_cons_zero, List.set_cons_succ]
              refine wpAnyT_skip (i := 7) rfl (by kernel_rfl) (by kernel_rfl) (by kernel_rfl) (fun _ _ _ h => h) (by kernel_rfl) hT (fun _ => hS) (by kernel_rfl) ?_
              simp only [Act.put, List.getElem_toArray, List.getElem_cons_succ, List.getElem_cons_zero, List.setIfInBounds_toArray, List.set_cons_zero, List.set_cons_succ]
              refine wpAnyT_skip (i := 8) rfl (by kernel_rfl) (by kernel_rfl) (by kernel_rfl) (fun _ _ _ h => h) (by kernel_rfl) hT (fun _ => hS) (by kernel_rfl) ?_
              simp only [Act.put, List.getElem_toArray, List.getElem_cons_succ, List.getElem_cons_zero, List.setIfInBounds_toArray, List.set_cons_zero, List.set_cons_succ]
              refine wpAnyT_skip (i := 9) rfl (by kernel_rfl) (by kernel_rfl) (by kernel_rfl) (fun _ _ _ h => h) (by kernel_rfl) hT (fun _ => hS) (by kernel_rfl) ?_
              simp only [Act.put, List.getElem_toArray, List.getElem_cons_succ, List.getElem_cons_zero, List.setIfInBounds_toArray, List.set_cons_zero, List.set_cons_succ]
              refine wpAnyT_skip (i := 10) rfl (by kernel_rfl) (by kernel_rfl) (by kernel_rfl) (fun _ _ _ h => h) (by kernel_rfl) hT (fun _ => hS) (by kernel_rfl) ?_
              simp only [Act.put, List.getElem_toArray, List.getElem_cons_succ, List.getElem_cons_zero, List.setIfInBounds_toArray, List.set_cons_zero, List.set_cons_succ]
              refine wpAnyT_skip (i := 11) rfl (by kernel_rfl) (by kernel_rfl) (by kernel_rfl) (fun _ _ _ h => h) (by kernel_rfl) hT (fun _ => hS) (by kernel_rfl) ?_
              simp only [Act.put, List.getElem_toArray, List.getElem_cons_succ, List.getElem_cons_zero, List.setIfInBounds_toArray, List.set_cons_zero, List.set_cons_succ]
              refine wpAnyT_skip (i := 12) rfl (by kernel_rfl) (by kernel_rfl) (by kernel_rfl) (fun _ _ _ h => h) (by kernel_rfl) hT (fun _ => hS) (by kernel_rfl) ?_
              simp only [Act.put, List.getElem_toArray, List.getElem_cons_succ, List.getElem_cons_zero, List.setIfInBounds_toArray, List.set_cons_zero, List.set_cons_succ]
              refine wpAnyT_skip (i := 13) rfl (by kernel_rfl) (by kernel_rfl) (by kernel_rfl) (fun _ _ _ h => h) (by kernel_rfl) hT (fun _ => hS) (by kernel_rfl) ?_
              simp only [Act.put, List.getElem_toArray, List.getElem_cons_succ, List.getElem_cons_zero, List.setIfInBounds_toArray, List.set_cons_zero, List.set_cons_succ]
              refine wpAnyT_held (i := 14) (v := .bool false) rfl (by kernel_rfl) (by kernel_rfl) (by kernel_rfl) (fun _ _ _ h => h) (by kernel_rfl) hT (fun _ => hS) (by kernel_rfl) ?_ ?_
              · intro wx hSw; go_split_ands; go_simp
              simp only [Act.put, List.getElem_toArray, List.getElem_cons_succ, List.getElem_cons_zero, List.setIfInBounds_toArray, List.set_cons_zero, List.set_cons_succ]
              refine wpAnyT_done (by kernel_rfl) ?_ _
              clear hT hS
              go_upto_region 24 with fail
              refine forget (p := fun y => Code.wp _ _ _ _ y) (fun W => Below w.heap.size w W ∧ CellsAt W w.heap.size 37 E ∧ OwnI W (w.heap.size + 1) 37 17 (.slice lx ln lc) (l.map Ev.cells)) ⟨hB.drew, hx.congr rfl, HO.out.congr (fun _ _ => rfl)⟩ ?_
            rotate_left
            focus
              have HNX : Veil (∃ pl0, true = pl0 ∧ PutSt e L (i + 1) pl0 ((l ++ [e]) ++ [L[i]])) := ⟨_, rfl, HST.out.place hil HLT.out⟩
              refine wp_region_gateT (fun w' => w'.cell? ⟨R, 9, none⟩ = some (.slice (some ⟨g, 0, none⟩) L.length c) ∧ w'.rangeAt g (i * 17) DJ ∧ w'.rangeAt w.heap.size 0 DV) (fun _ => True) 99 (by kernel_rfl) ?_
              have hT : (fun w' : World => w'.cell? ⟨R, 9, none⟩ = some (.slice (some ⟨g, 0, none⟩) L.length c) ∧ w'.rangeAt g (i * 17) DJ ∧ w'.rangeAt w.heap.size 0 DV) wr.drew := ⟨q4, hxd, q2⟩
              have hS : (fun _ : World => True) wr.drew := trivial
              have hls := HLS.out wr.drew
              have HHX : Veil (∀ W, Below wr.heap.size wr W → W.cell? ⟨R, 9, none⟩ = some (.slice (some ⟨g, 0, none⟩) L.length c) ∧ W.rangeAt g (i * 17) DJ ∧ W.rangeAt w.heap.size 0 DV) := ⟨fun W hq => ⟨(hq.cell (p := ⟨R, 9, none⟩) (block_lt_of_cell q4)).trans q4, fun j u hu => (hq.cell (block_lt_of_cell (hxd j u hu))).trans (hxd j u hu), fun j u hu => (hq.cell (block_lt_of_cell (q2 j u hu))).trans (q2 j u hu)⟩⟩
              refine wpAnyT_held (i := 0) (v := ?_) rfl (by kernel_rfl) (by kernel_rfl) (by kernel_rfl) (fun _ _ _ h => h) (by kernel_rfl) hT (fun _ => hS) (by kernel_rfl) ?_ ?_
              rotate_left
              · intro wx hSw; go_split_ands; go_simp; try with_reducible rfl
              simp only [Act.put, List.getElem_toArray, List.getElem_cons_succ, List.getElem_cons_zero, List.setIfInBounds_toArray, List.set_cons_zero, List.set_cons_succ]
              refine wpAnyT_held (i := 1) (v := ?_) rfl (by kernel_rfl) (by kernel_rfl) (by kernel_rfl) (fun _ _ _ h => h) (by kernel_rfl) hT (fun _ => hS) (by kernel_rfl) ?_ ?_
              rotate_left
              · intro wx hSw; go_split_ands; go_simp; try with_reducible rfl
              simp only [Act.put, List.getElem_toArray, List.getElem_cons_succ, List.getElem_cons_zero, List.setIfInBounds_toArray, List.set_cons_zero, List.set_cons_succ]
              refine wpAnyT_held (i := 2) (v := ?_) rfl (by kernel_rfl) (by kernel_rfl) (by kernel_rfl) (fun _ _ _ h => h) (by kernel_rfl) hT (fun _ => hS) (by kernel_rfl) ?_ ?_
              rotate_left
              · intro wx hSw; go_split_ands; go_simp; try with_reducible rfl
              simp only [Act.put, List.getElem_toArray, List.getElem_cons_succ, List.getElem_cons_zero, List.setIfInBounds_toArray, List.set_cons_zero, List.set_cons_succ]
              refine wpAnyT_held (i := 3) (v := ?_) rfl (by kernel_rfl) (by kernel_rfl) (by kernel_rfl) (fun _ _ _ h => h) (by kernel_rfl) hT (fun _ => hS) (by kernel_rfl) ?_ ?_
              rotate_left
              · intro wx hSw; go_split_ands; go_simp; try with_reducible rfl
              simp only [Act.put, List.getElem_toArray, List.getElem_cons_succ, List.getElem_cons_zero, List.setIfInBounds_toArray, List.set_cons_zero, List.set_cons_succ]
              refine wpAnyT_load (i := 4) (dst := some 89) (ty := 26) (x := .tmp 88) (b := w.heap.size) (o := (0)) (cs := DV) (by kernel_rfl) (by kernel_rfl) (by kernel_rfl) (by kernel_rfl) (by kernel_rfl) (fun _ _ _ h => h) (by kernel_rfl) hT (fun _ => hS) (by kernel_rfl) (fun _ h => h.2.2) uD rfl iD ?_
              simp only [Act.put, List.getElem_toArray, List.getElem_cons_succ, List.getElem_cons_zero, List.setIfInBounds_toArray, List.set_cons_zero, List.set_cons_succ]
              refine wpAnyT_held (i := 5) (v := ?_) rfl (by kernel_rfl) (by kernel_rfl) (by kernel_rfl) (fun _ _ _ h => h) (by kernel_rfl) hT (fun _ => hS) (by kernel_rfl) ?_ ?_
              rotate_left
              · intro wx hSw; go_split_ands; go_simp; try with_reducible rfl
              simp only [Act.put, List.getElem_toArray, List.getElem_cons_succ, List.getElem_cons_zero, List.setIfInBounds_toArray, List.set_cons_zero, List.set_cons_succ]
              refine wpAnyT_held (i := 6) (v := ?_) rfl (by kernel_rfl) (by kernel_rfl) (by kernel_rfl) (fun _ _ _ h => h) (by kernel_rfl) hT (fun _ => hS) (by kernel_rfl) ?_ ?_
              rotate_left
              · intro wx hSw; go_split_ands; go_simp; try with_reducible rfl
              simp only [Act.put, List.getElem_toArray, List.getElem_cons_succ, List.getElem_cons_zero, List.setIfInBounds_toArray, List.set_cons_zero, List.set_cons_succ]
              refine wpAnyT_held (i := 7) (v := ?_) rfl (by kernel_rfl) (by kernel_rfl) (by kernel_rfl) (fun _ _ _ h => h) (by kernel_rfl) hT (fun _ => hS) (by kernel_rfl) ?_ ?_
              rotate_left
              · intro wx hSw; go_split_ands; go_simp; try with_reducible rfl
              simp only [Act.put, List.getElem_toArray, List.getElem_cons_succ, List.getElem_cons_zero, List.setIfInBounds_toArray, List.set_cons_zero, List.set_cons_succ]
              refine wpAnyT_held (i := 8) (v := ?_) rfl (by kernel_rfl) (by kernel_rfl) (by kernel_rfl) (fun _ _ _ h => h) (by kernel_rfl) hT (fun _ => hS) (by kernel_rfl) ?_ ?_
              rotate_left
              · intro wx hSw; go_split_ands; go_simp; try with_reducible rfl
              simp only [Act.put, List.getElem_toArray, List.getElem_cons_succ, List.getElem_cons_zero, List.setIfInBounds_toArray, List.set_cons_zero, List.set_cons_succ]
              refine wpAnyT_held (i := 9) (v := ?_) rfl (by kernel_rfl) (by kernel_rfl) (by kernel_rfl) (fun _ _ _ h => h) (by kernel_rfl) hT (fun _ => hS) (by kernel_rfl) ?_ ?_
              rotate_left
              · intro wx hSw; go_split_ands; go_simp; try with_reducible rfl
              simp only [Act.put, List.getElem_toArray, List.getElem_cons_succ, List.getElem_cons_zero, List.setIfInBounds_toArray, List.set_cons_zero, List.set_cons_succ]
              refine wpAnyT_held (i := 10) (v := ?_) rfl (by kernel_rfl) (by kernel_rfl) (by kernel_rfl) (fun _ _ _ h => h) (by kernel_rfl) hT (fun _ => hS) (by kernel_rfl) ?_ ?_
              rotate_left
              · intro wx hSw; go_split_ands; go_simp; try with_reducible rfl
              simp only [Act.put, List.getElem_toArray, List.getElem_cons_succ, List.getElem_cons_zero, List.setIfInBounds_toArray, List.set_cons_zero, List.set_cons_succ]
              refine wpAnyT_held (i := 11) (v := ?_) rfl (by kernel_rfl) (by kernel_rfl) (by kernel_rfl) (fun _ _ _ h => h) (by kernel_rfl) hT (fun _ => hS) (by kernel_rfl) ?_ ?_
              rotate_left
              · intro wx hSw; go_split_ands; go_simp; try with_reducible rfl
              simp only [Act.put, List.getElem_toArray, List.getElem_cons_succ, List.getElem_cons_zero, List.setIfInBounds_toArray, List.set_cons_zero, List.set_cons_succ]
              refine wpAnyT_load (i := 12) (dst := some 97) (ty := 26) (x := .tmp 96) (b := g) (o := ((i * 17))) (cs := DJ) (by kernel_rfl) (by kernel_rfl) (by kernel_rfl) (by kernel_rfl) (by kernel_rfl) (fun _ _ _ h => h) (by kernel_rfl) hT (fun _ => hS) (by kernel_rfl) (fun _ h => h.2.1) uD rfl iDj ?_
              simp only [Act.put, List.getElem_toArray, List.getElem_cons_succ, List.getElem_cons_zero, List.setIfInBounds_toArray, List.set_cons_zero, List.set_cons_succ]
              refine wpAnyT_one (i := 13) rfl (by kernel_rfl) (by kernel_rfl) (fun K hK => ?_)
              refine wpx_call _ _ (by kernel_rfl) (hls.mono ?_)
              rintro z W6 ⟨rfl, hb6⟩
              refine ⟨_, rfl, ?_⟩
              have hb7 : Below wr.heap.size wr W6 := ((Below.refl _ _).drew).trans (hb6.mono (Nat.le_refl _))
              replace hT : (fun w' : World => w'.cell? ⟨R, 9, none⟩ = some (.slice (some ⟨g, 0, none⟩) L.length c) ∧ w'.rangeAt g (i * 17) DJ ∧ w'.rangeAt w.heap.size 0 DV) W6 := HHX.out _ hb7
              replace hS : (fun _ : World => True) W6 := trivial
              refine hK.out _ _ hT (fun _ => hS) ?_
              clear hK K
              try simp only [Act.put, List.getElem_toArray, List.getElem_cons_succ, List.getElem_cons_zero, List.setIfInBounds_toArray, List.set_cons_zero, List.set_cons_succ]
              refine wpAnyT_held (i := 14) (v := .bool true) rfl (by kernel_rfl) (by kernel_rfl) (by kernel_rfl) (fun _ _ _ h => h) (by kernel_rfl) hT (fun _ => hS) (by kernel_rfl) ?_ ?_
              · intro wx hSw; go_split_ands; go_simp
              simp only [Act.put, List.getElem_toArray, List.getElem_cons_succ, List.getElem_cons_zero, List.setIfInBounds_toArray, List.set_cons_zero, List.set_cons_succ]
              refine wpAnyT_done (by kernel_rfl) ?_ _
              clear hT hS hls HHX hb6
              have hB6 := hB.trans (hb7.mono hB.size)
              have hx6 := hx.farM hb7
              have hrE := hx6.wholeM
              have hal : Below W6.heap.size W6 (W6.alloc (.cells E.toArray 37)) := (Below.refl _ _).alloc (Nat.le_refl _) _
              have hO6 := HO.out.far hb7
              obtain ⟨v7, W7, hrun, ho7, hg7, hb8⟩ := (hO6.far hal).app (P := Try.prog) 42 42 uS infoE17x rfl (by decide) E he1 he2 W6.heap.size (CellsAt.new W6 37 E).wholeM (by rw [List.length_map]; omega) (by decide) (by rw [World.size_alloc]; have h1 := hx6.lt; omega)
              have HB7 : Veil (Below w.heap.size w W7) := ⟨(hB6.trans (hal.mono hB6.size)).grown hg7 (Nat.le_trans hB6.size hal.size) (fun k hk => by have := (hO6.blockLt k hk).2.1; omega)⟩
              have HX7 : Veil (CellsAt W7 w.heap.size 37 E) := ⟨(hx6.alloc _).congr (hg7.block _ (Nat.lt_of_lt_of_le hx6.lt hal.size) (fun q => by have := (hO6.blockLt _ q.symm).2.1; omega))⟩
              have HO7 : Veil (OwnI W7 (w.heap.size + 1) 37 17 v7 ((l ++ [e]).map Ev.cells)) := ⟨by rw [List.map_append, List.map_cons, List.map_nil, HEE.out]; exact ho7⟩
              obtain ⟨l2, hl2⟩ : ∃ q, l ++ [e] = q := ⟨_, rfl⟩
              have hl3 : l2.length ≤ 20 := by rw [← hl2]; simp; omega
              rw [hl2] at HO7 HNX
              obtain ⟨lx2, lc2, hv7⟩ := HO7.out.isSlice
              obtain ⟨ln2, hln2⟩ : ∃ n, (l2.map Ev.cells).length = n := ⟨_, rfl⟩
              rw [hln2] at hv7
              clear hl2 hln2 hb8 hg7 ho7 hO6 HO HST hll hx6 hB6 hb7
              subst hv7
              go_upto_region 24 with (first
                | (refine wpList_ldv rfl 37 _ rfl w.heap.size 0 rfl E hrE uE rfl iE ?_)
                | (refine wpList_bs1 rfl 42 37 _ rfl E rfl uS (infoE17x) (by decide) (by decide) he1 ?_)
                | (refine wpList_appx rfl _ _ _ _ rfl _ _ _ W7 rfl rfl hrun ?_))
              clear hrE hrun hal
              obtain ⟨l, hl⟩ : ∃ q, l2 = q := ⟨_, rfl⟩
              obtain ⟨lx, hlx⟩ : ∃ q, lx2 = q := ⟨_, rfl⟩
              obtain ⟨lc, hlc⟩ : ∃ q, lc2 = q := ⟨_, rfl⟩
              obtain ⟨ln, hln⟩ : ∃ q, ln2 = q := ⟨_, rfl⟩
              rw [hl, hlx, hlc, hln] at HO7
              rw [hl] at HNX hl3
              rw [hlx, hlc, hln]
              clear hl hlx hlc hln
              refine forget (p := fun y => Code.wp _ _ _ _ y) (fun W => Below w.heap.size w W ∧ CellsAt W w.heap.size 37 E ∧ OwnI W (w.heap.size + 1) 37 17 (.slice lx ln lc) (l.map Ev.cells)) ⟨HB7.out, HX7.out, HO7.out⟩ ?_
            rotate_left
            focus
              have HNX : Veil (∃ pl0, false = pl0 ∧ PutSt e L (i + 1) pl0 (l ++ [L[i]])) := ⟨_, rfl, HST.out.pass hil HLT.out⟩
              refine wp_region_gateT (fun w' => w'.cell? ⟨R, 9, none⟩ = some (.slice (some ⟨g, 0, none⟩) L.length c) ∧ w'.rangeAt g (i * 17) DJ ∧ w'.rangeAt w.heap.size 0 DV) (fun _ => True) 99 (by kernel_rfl) ?_
              have hT : (fun w' : World => w'.cell? ⟨R, 9, none⟩ = some (.slice (some ⟨g, 0, none⟩) L.length c) ∧ w'.rangeAt g (i * 17) DJ ∧ w'.rangeAt w.heap.size 0 DV) wr.drew := ⟨q4, hxd, q2⟩
              have hS : (fun _ : World => True) wr.drew := trivial
              have hls := HLS.out wr.drew
              have HHX : Veil (∀ W, Below wr.heap.size wr W → W.cell? ⟨R, 9, none⟩ = some (.slice (some ⟨g, 0, none⟩) L.length c) ∧ W.rangeAt g (i * 17) DJ ∧ W.rangeAt w.heap.size 0 DV) := ⟨fun W hq => ⟨(hq.cell (p := ⟨R, 9, none⟩) (block_lt_of_cell q4)).trans q4, fun j u hu => (hq.cell (block_lt_of_cell (hxd j u hu))).trans (hxd j u hu), fun j u hu => (hq.cell (block_lt_of_cell (q2 j u hu))).trans (q2 j u hu)⟩⟩
              refine wpAnyT_held (i := 0) (v := ?_) rfl (by kernel_rfl) (by kernel_rfl) (by kernel_rfl) (fun _ _ _ h => h) (by kernel_rfl) hT (fun _ => hS) (by kernel_rfl) ?_ ?_
              rotate_left
              · intro wx hSw; go_split_ands; go_simp; try with_reducible rfl
              simp only [Act.put, List.getElem_toArray, List.getElem_cons_succ, List.getElem_cons_zero, List.setIfInBounds_toArray, List.set_cons_zero, List.set_cons_succ]
              refine wpAnyT_held (i := 1) (v := ?_) rfl (by kernel_rfl) (by kernel_rfl) (by kernel_rfl) (fun _ _ _ h => h) (by kernel_rfl) hT (fun _ => hS) (by kernel_rfl) ?_ ?_
              rotate_left
              · intro wx hSw; go_split_ands; go_simp; try with_reducible rfl
              simp only [Act.put, List.getElem_toArray, List.getElem_cons_succ, List.getElem_cons_zero, List.setIfInBounds_toArray, List.set_cons_zero, List.set_cons_succ]
              refine wpAnyT_held (i := 2) (v := ?_) rfl (by kernel_rfl) (by kernel_rfl) (by kernel_rfl) (fun _ _ _ h => h) (by kernel_rfl) hT (fun _ => hS) (by kernel_rfl) ?_ ?_
              rotate_left
              · intro wx hSw; go_split_ands; go_simp; try with_reducible rfl
              simp only [Act.put, List.getElem_toArray, List.getElem_cons_succ, List.getElem_cons_zero, List.setIfInBounds_toArray, List.set_cons_zero, List.set_cons_succ]
              refine wpAnyT_held (i := 3) (v := ?_) rfl (by kernel_rfl) (by kernel_rfl) (by kernel_rfl) (fun _ _ _ h => h) (by kernel_rfl) hT (fun _ => hS) (by kernel_rfl) ?_ ?_
              rotate_left
              · intro wx hSw; go_split_ands; go_simp; try with_reducible rfl
              simp only [Act.put, List.getElem_toArray, List.getElem_cons_succ, List.getElem_cons_zero, List.setIfInBounds_toArray, List.set_cons_zero, List.set_cons_succ]
              refine wpAnyT_load (i := 4) (dst := some 89) (ty := 26) (x := .tmp 88) (b := w.heap.size) (o := (0)) (cs := DV) (by kernel_rfl) (by kernel_rfl) (by kernel_rfl) (by kernel_rfl) (by kernel_rfl) (fun _ _ _ h => h) (by kernel_rfl) hT (fun _ => hS) (by kernel_rfl) (fun _ h => h.2.2) uD rfl iD ?_
              simp only [Act.put, List.getElem_toArray, List.getElem_cons_succ, List.getElem_cons_zero, List.setIfInBounds_toArray, List.set_cons_zero, List.set_cons_succ]
              refine wpAnyT_held (i := 5) (v := ?_) rfl (by kernel_rfl) (by kernel_rfl) (by kernel_rfl) (fun _ _ _ h => h) (by kernel_rfl) hT (fun _ => hS) (by kernel_rfl) ?_ ?_
              rotate_left
              · intro wx hSw; go_split_ands; go_simp; try with_reducible rfl
              simp only [Act.put, List.getElem_toArray, List.getElem_cons_succ, List.getElem_cons_zero, List.setIfInBounds_toArray, List.set_cons_zero, List.set_cons_succ]
              refine wpAnyT_held (i := 6) (v := ?_) rfl (by kernel_rfl) (by kernel_rfl) (by kernel_rfl) (fun _ _ _ h => h) (by kernel_rfl) hT (fun _ => hS) (by kernel_rfl) ?_ ?_
              rotate_left
              · intro wx hSw; go_split_ands; go_simp; try with_reducible rfl
              simp only [Act.put, List.getElem_toArray, List.getElem_cons_succ, List.getElem_cons_zero, List.setIfInBounds_toArray, List.set_cons_zero, List.set_cons_succ]
              refine wpAnyT_held (i := 7) (v := ?_) rfl (by kernel_rfl) (by kernel_rfl) (by kernel_rfl) (fun _ _ _ h => h) (by kernel_rfl) hT (fun _ => hS) (by kernel_rfl) ?_ ?_
              rotate_left
              · intro wx hSw; go_split_ands; go_simp; try with_reducible rfl
              simp only [Act.put, List.getElem_toArray, List.getElem_cons_succ, List.getElem_cons_zero, List.setIfInBounds_toArray, List.set_cons_zero, List.set_cons_succ]
              refine wpAnyT_held (i := 8) (v := ?_) rfl (by kernel_rfl) (by kernel_rfl) (by kernel_rfl) (fun _ _ _ h => h) (by kernel_rfl) hT (fun _ => hS) (by kernel_rfl) ?_ ?_
              rotate_left
              · intro wx hSw; go_split_ands; go_simp; try with_reducible rfl
              simp only [Act.put, List.getElem_toArray, List.getElem_cons_succ, List.getElem_cons_zero, List.setIfInBounds_toArray, List.set_cons_zero, List.set_cons_succ]
              refine wpAnyT_held (i := 9) (v := ?_) rfl (by kernel_rfl) (by kernel_rfl) (by kernel_rfl) (fun _ _ _ h => h) (by kernel_rfl) hT (fun _ => hS) (by kernel_rfl) ?_ ?_
              rotate_left
              · intro wx hSw; go_split_ands; go_simp; try with_reducible rfl
              simp only [Act.put, List.getElem_toArray, List.getElem_cons_succ, List.getElem_cons_zero, List.setIfInBounds_toArray, List.set_cons_zero, List.set_cons_succ]
              refine wpAnyT_held (i := 10) (v := ?_) rfl (by kernel_rfl) (by kernel_rfl) (by kernel_rfl) (fun _ _ _ h => h) (by kernel_rfl) hT (fun _ => hS) (by kernel_rfl) ?_ ?_
              rotate_left
              · intro wx hSw; go_split_ands; go_simp; try with_reducible rfl
              simp only [Act.put, List.getElem_toArray, List.getElem_cons_succ, List.getElem_cons_zero, List.setIfInBounds_toArray, List.set_cons_zero, List.set_cons_succ]
              refine wpAnyT_held (i := 11) (v := ?_) rfl (by kernel_rfl) (by kernel_rfl) (by kernel_rfl) (fun _ _ _ h => h) (by kernel_rfl) hT (fun _ => hS) (by kernel_rfl) ?_ ?_
              rotate_left
              · intro wx hSw; go_split_ands; go_simp; try with_reducible rfl
              simp only [Act.put, List.getElem_toArray, List.getElem_cons_succ, List.getElem_cons_zero, List.setIfInBounds_toArray, List.set_cons_zero, List.set_cons_succ]
              refine wpAnyT_load (i := 12) (dst := some 97) (ty := 26) (x := .tmp 96) (b := g) (o := ((i * 17))) (cs := DJ) (by kernel_rfl) (by kernel_rfl) (by kernel_rfl) (by kernel_rfl) (by kernel_rfl) (fun _ _ _ h => h) (by kernel_rfl) hT (fun _ => hS) (by kernel_rfl) (fun _ h => h.2.1) uD rfl iDj ?_
              simp only [Act.put, List.getElem_toArray, List.getElem_cons_succ, List.getElem_cons_zero, List.setIfInBounds_toArray, List.set_cons_zero, List.set_cons_succ]
              refine wpAnyT_one (i := 13) rfl (by kernel_rfl) (by kernel_rfl) (fun K hK => ?_)
              refine wpx_call _ _ (by kernel_rfl) (hls.mono ?_)
              rintro z W6 ⟨rfl, hb6⟩
              refine ⟨_, rfl, ?_⟩
              have hb7 : Below wr.heap.size wr W6 := ((Below.refl _ _).drew).trans (hb6.mono (Nat.le_refl _))
              replace hT : (fun w' : World => w'.cell? ⟨R, 9, none⟩ = some (.slice (some ⟨g, 0, none⟩) L.length c) ∧ w'.rangeAt g (i * 17) DJ ∧ w'.rangeAt w.heap.size 0 DV) W6 := HHX.out _ hb7
              replace hS : (fun _ : World => True) W6 := trivial
              refine hK.out _ _ hT (fun _ => hS) ?_
              clear hK K
              try simp only [Act.put, List.getElem_toArray, List.getElem_cons_succ, List.getElem_cons_zero, List.setIfInBounds_toArray, List.set_cons_zero, List.set_cons_succ]
              refine wpAnyT_held (i := 14) (v := .bool false) rfl (by kernel_rfl) (by kernel_rfl) (by kernel_rfl) (fun _ _ _ h => h) (by kernel_rfl) hT (fun _ => hS) (by kernel_rfl) ?_ ?_
              · intro wx hSw; go_split_ands; go_simp
              simp only [Act.put, List.getElem_toArray, List.getElem_cons_succ, List.getElem_cons_zero, List.setIfInBounds_toArray, List.set_cons_zero, List.set_cons_succ]
              refine wpAnyT_done (by kernel_rfl) ?_ _
              clear hT hS hls HHX hb6
              have hB6 := hB.trans (hb7.mono hB.size)
              have hx6 := hx.farM hb7
              have HO6 := Veil.mk (HO.out.far hb7)
              go_upto_region 24 with fail
              refine forget (p := fun y => Code.wp _ _ _ _ y) (fun W => Below w.heap.size w W ∧ CellsAt W w.heap.size 37 E ∧ OwnI W (w.heap.size + 1) 37 17 (.slice lx ln lc) (l.map Ev.cells)) ⟨hB6, hx6, HO6.out⟩ ?_
              clear hB6 hx6 HO6 hb7
            all_goals
              have hl20 : l.length ≤ 20 := by omega
              rintro W0 ⟨hB0, hx0, hO0⟩
              obtain ⟨p1, p2, p3, p4⟩ := HT.out W0 hB0 hx0
              have hxr := HXR.out W0 hB0
              clear p1 p2 p3
              have hal : Below W0.heap.size W0 (W0.alloc (.cells XC.toArray 37)) := (Below.refl _ _).alloc (Nat.le_refl _) _
              obtain ⟨v9, W9, hrun, ho9, hg9, hb9⟩ := (hO0.far hal).app (P := Try.prog) 42 42 uS infoE17x rfl (by decide) XC he9 h19 W0.heap.size (CellsAt.new W0 37 XC).wholeM (by rw [List.length_map]; omega) (by decide) (by rw [World.size_alloc]; have h1 := hx0.lt; omega)
              have HB9 : Veil (Below w.heap.size w W9) := ⟨(hB0.trans (hal.mono hB0.size)).grown hg9 (Nat.le_trans hB0.size hal.size) (fun k hk => by have := (hO0.blockLt k hk).2.1; omega)⟩
              have HX9 : Veil (CellsAt W9 w.heap.size 37 E) := ⟨(hx0.alloc _).congr (hg9.block _ (Nat.lt_of_lt_of_le hx0.lt hal.size) (fun q => by have := (hO0.blockLt _ q.symm).2.1; omega))⟩
              have HO9 : Veil (OwnI W9 (w.heap.size + 1) 37 17 v9 ((l ++ [L[i]]).map Ev.cells)) := ⟨by rw [List.map_append, List.map_cons, List.map_nil, HXC.out]; exact ho9⟩
              obtain ⟨lx9, lc9, hv9⟩ := HO9.out.isSlice
              obtain ⟨ln9, hln9⟩ : ∃ n, ((l ++ [L[i]]).map Ev.cells).length = n := ⟨_, rfl⟩
              rw [hln9] at hv9
              clear hln9 hb9 hg9 ho9 hO0 hx0 hB0 hal
              subst hv9
              go_wp2_with (first
                | (refine wpList_ldv rfl 37 _ rfl g (i * 17) rfl XC hxr uE rfl iX ?_)
                | (refine wpList_bs1 rfl 42 37 _ rfl XC rfl uS (infoE17x) (by decide) (by decide) he9 ?_)
                | (refine wpList_appx rfl _ _ _ _ rfl _ _ _ W9 rfl rfl hrun ?_))
              obtain ⟨pl0, hpl0, hnx⟩ := HNX.out
              go_roundw
              case rel => exact ⟨i + 1, pl0, l ++ [L[i]], hil, by push_cast; rfl, by rw [← hpl0], HO9.out, HB9.out, HX9.out, hnx⟩
              case measure => simp [intOf]; omega
          · have hii : ¬ (i : Int) < (L.length : Int) := by omega
            obtain rfl : i = L.length := by omega
            have HCX := Veil.mk (HC.out.far hB)
            have hrE := hx.wholeM
            clear q1 q2 q3 hil
            have HAN : Veil (∀ lx lc W5, RefC W5 R S (insE e L) lx lc → Calls Try.prog 48 #[.pointer (some ⟨R, 0, none⟩)] W5 fun r w' => ∃ v, r = .returned v ∧ AnsP R S (insE e L) W5 v w') := ⟨fun lx lc W5 hC5 => answer_any R S (insE e L) lx lc W5 hC5 ⟨HG.out.rng, sorted_insE HG.out.srt e HLK.out, insE_ok HE.out HG.out.ok⟩ (by rw [length_insE]; omega)⟩
            cases pl with
            | true =>
              have hins := Veil.mk HST.out.doneT
              have HFIN := Veil.mk (ref_store HC.out wr hB (insE e L) lx ln lc (by rw [hins.out]; exact HO.out) (by rw [hins.out]; exact HLN.out))
              have hf9 := HCX.out.cells.frozen 9
              go_upto_region 28 with fail
              refine forget (p := fun y => Code.wp _ _ _ _ y) (fun W => RefC W R S (insE e L) lx lc ∧ Turn (fun k => k = R) w W) HFIN.out ?_
              rintro W5 ⟨hC5, hT5⟩
              have hans := HAN.out lx lc W5 hC5
              clear hf9 hC5
              go_wp2_with (go_at_call 48; refine hans.mono ?_; rintro z W9 ⟨v, rfl, hA⟩)
              go_ret2
              obtain ⟨ys, S2, L2, x2, c2, h1, h2, h3, h4⟩ := hA.out
              exact ⟨_, rfl, ⟨ys, S2, L2, x2, c2, .inr ⟨HRN.out, h1⟩, h2, h3.less hT5.size, hT5.trans h4⟩⟩
            | false =>
              have hins := Veil.mk HST.out.doneF
              have hal : Below wr.heap.size wr (wr.alloc (.cells E.toArray 37)) := (Below.refl _ _).alloc (Nat.le_refl _) _
              obtain ⟨v7, W7, hrun, ho7, hg7, hb8⟩ := (HO.out.far hal).app (P := Try.prog) 42 42 uS infoE17x rfl (by decide) E he1 he2 wr.heap.size (CellsAt.new wr 37 E).wholeM (by rw [List.length_map]; omega) (by decide) (by rw [World.size_alloc]; have h1 := hx.lt; omega)
              have HB7 : Veil (Below w.heap.size w W7) := ⟨(hB.trans (hal.mono hB.size)).grown hg7 (Nat.le_trans hB.size hal.size) (fun k hk => by have := (HO.out.blockLt k hk).2.1; omega)⟩
              have HO7 : Veil (OwnI W7 (w.heap.size + 1) 37 17 v7 ((insE e L).map Ev.cells)) := ⟨by rw [hins.out, List.map_append, List.map_cons, List.map_nil, HEE.out]; exact ho7⟩
              obtain ⟨lx7, lc7, hv7⟩ := HO7.out.isSlice
              rw [List.length_map] at hv7
              obtain ⟨ln7, hln7⟩ : ∃ n, (insE e L).length = n := ⟨_, rfl⟩
              rw [hln7] at hv7
              subst hv7
              have HFIN := Veil.mk (ref_store HC.out W7 HB7.out (insE e L) lx7 ln7 lc7 HO7.out hln7)
              have HF9 := Veil.mk (And.intro ((HC.out.far HB7.out).cells.frozen 9) (HC.out.far HB7.out).waitC)
              clear hln7 hb8 hg7 ho7 hal
              go_upto_region 26 with fail
              clear q4 hii
              go_upto_region 27 with (first
                | (refine wpList_ldv rfl 37 _ rfl w.heap.size 0 rfl E hrE uE rfl iE ?_)
                | (refine wpList_bs1 rfl 42 37 _ rfl E rfl uS (infoE17x) (by decide) (by decide) he1 ?_)
                | (refine wpList_appx rfl _ _ _ _ rfl _ _ _ W7 rfl rfl hrun ?_))
              obtain ⟨hf9, c9⟩ := HF9.out
              clear hrun hrE hx HF9
              go_upto_region 28 with fail
              refine forget (p := fun y => Code.wp _ _ _ _ y) (fun W => RefC W R S (insE e L) lx7 lc7 ∧ Turn (fun k => k = R) w W) HFIN.out ?_
              rintro W5 ⟨hC5, hT5⟩
              have hans := HAN.out lx7 lc7 W5 hC5
              clear hf9 c9 hC5
              go_wp2_with (go_at_call 48; refine hans.mono ?_; rintro z W9 ⟨v, rfl, hA⟩)
              go_ret2
              obtain ⟨ys, S2, L2, x2, c2, h1, h2, h3, h4⟩ := hA.out
              exact ⟨_, rfl, ⟨ys, S2, L2, x2, c2, .inr ⟨HRN.out, h1⟩, h2, h3.less hT5.size, hT5.trans h4⟩⟩
end Go.Proofs.Ytmoabomoodddkaa
