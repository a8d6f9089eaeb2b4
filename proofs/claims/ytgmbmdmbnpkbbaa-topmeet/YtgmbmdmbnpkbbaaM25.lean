/- Ab6 Ab7 Ab8 -/
import Derived.Test.YtgmbmdmbnpkbbaaM24
namespace Go.Proofs.Ytgmbmdmbnpkbbaa
open Go.RowKit Go.Shelf
set_option maxRecDepth 20000
set_option linter.unusedSimpArgs false
theorem afirst_any (who : Int) (w : World) :
    Calls Try.prog 40 #[.int .u8 who] w fun e w' => e = .returned (.int .u8 (if who = 0 then 3 else 0)) ∧ w' = w := by
  go_enter Try.func40, Try.ntmps40
  by_cases h : who = 0
  · subst h
    go_wp2
    go_ret
    exact ⟨rfl, rfl⟩
  · have hb : (who == 0) = false := by simpa using h
    have HR : Veil ((if who = 0 then (3 : Int) else 0) = 0) := ⟨if_neg h⟩
    go_wp2
    go_ret
    exact ⟨rfl, rfl⟩
set_option maxHeartbeats 4000000 in
theorem role_any (H b : Nat) (L : List Ent) (who : Int) (v : List Int) (w : World) (hB : BookC w H b L) (hv : v.length = 8) :
    Calls Try.prog 22 #[.pointer (some ⟨H, 0, none⟩), .int .u8 who, .agg (v.map (Value.int .u32)).toArray] w fun e w' => e = .returned (.int .u8 (roleP L who v)) ∧ Below w.heap.size w w' := by
  obtain ⟨W1, hW1⟩ : ∃ W, W = (w.alloc (.cells #[.int .u8 who] 5)).alloc (.cells (v.map (Value.int .u32)).toArray 28) := ⟨_, rfl⟩
  have hb1 : Below w.heap.size w W1 := by rw [hW1]; exact ((Below.refl _ _).alloc (Nat.le_refl _) _).alloc (by simp) _
  have cw1 : W1.cell? ⟨w.heap.size, 0, none⟩ = some (.int .u8 who) := by rw [hW1]; exact ((CellsAt.new w 5 [.int .u8 who]).alloc _).cell 0
  have cv1 : CellsAt W1 (w.heap.size + 1) 28 (v.map (Value.int .u32)) := by
    rw [hW1]
    have := CellsAt.new (w.alloc (.cells #[.int .u8 who] 5)) 28 (v.map (Value.int .u32))
    rw [World.size_alloc] at this; exact this
  have hBk1 := hB.far hb1
  have hco := counting_any H w.heap.size (w.heap.size + 1) W1
  have hsz1 : W1.heap.size = w.heap.size + 2 := by rw [hW1]; simp
  have HRP : Veil (roleP L who v = if 8 ≤ who then 0 else if (leastL (lastL (toldL L who v))).2 = true then (leastL (lastL (toldL L who v))).1 else if who = 0 then 3 else 0) := ⟨rfl⟩
  have HX : Veil (∀ W2, Below W1.heap.size W1 W2 → W2.heap.size = W1.heap.size + 2 → W2.cell? ⟨W1.heap.size, 0, none⟩ = some (.pointer (some ⟨H, 0, none⟩)) → W2.cell? ⟨W1.heap.size + 1, 0, none⟩ = some (.func (.func 36) #[] #[.pointer (some ⟨w.heap.size, 0, none⟩), .pointer (some ⟨w.heap.size + 1, 0, none⟩)]) →
      ∀ W3, W3 = W2.alloc (.cells #[.func (.func 49) #[] #[.pointer (some ⟨W1.heap.size, 0, none⟩), .pointer (some ⟨W1.heap.size + 1, 0, none⟩)]] 79) →
      (Calls Try.prog 38 #[.func (.func 50) #[] #[.pointer (some ⟨W2.heap.size, 0, none⟩)]] W3 fun e w' => e = .returned (.tuple #[.int .u8 (leastL (lastL (toldL L who v))).1, .bool (leastL (lastL (toldL L who v))).2]) ∧ Below W3.heap.size W3 w') ∧ Below w.heap.size w W3 ∧ W3.cell? ⟨w.heap.size, 0, none⟩ = some (.int .u8 who)) := ⟨fun W2 hb2 hs2 h1 h2 W3 hW3 => by
    have hb3 : Below W2.heap.size W2 W3 := by rw [hW3]; exact (Below.refl _ _).alloc (Nat.le_refl _) _
    have hC : CtF W2 W1.heap.size (W1.heap.size + 1) H b w.heap.size (w.heap.size + 1) L who v := ⟨h1, h2, hBk1.far hb2, (hb2.cell (p := ⟨w.heap.size, 0, none⟩) (block_lt_of_cell cw1)).trans cw1, (cv1.farM hb2).wholeM, hv⟩
    have hC3 : CtF W3 W1.heap.size (W1.heap.size + 1) H b w.heap.size (w.heap.size + 1) L who v := hC.keep (fun k hk => hb3.block k hk)
    have hlt : H < W3.heap.size ∧ b < W3.heap.size := ⟨hC3.book.cells.lt, hC3.book.map.lt⟩
    have hz3 : W3.heap.size = w.heap.size + 5 := by rw [hW3, World.size_alloc]; omega
    have hOwn : ∀ k, (k = b ∨ k = H ∨ k = W1.heap.size ∨ k = W1.heap.size + 1 ∨ k = w.heap.size ∨ k = w.heap.size + 1) → k < W3.heap.size := fun k hk => by
      rcases hk with rfl | rfl | rfl | rfl | rfl | rfl
      · exact hlt.2
      · exact hlt.1
      all_goals omega
    have hbe : W3.cell? ⟨W2.heap.size, 0, none⟩ = some (.func (.func 49) #[] #[.pointer (some ⟨W1.heap.size, 0, none⟩), .pointer (some ⟨W1.heap.size + 1, 0, none⟩)]) := by rw [hW3]; exact (CellsAt.new W2 79 [.func (.func 49) #[] #[.pointer (some ⟨W1.heap.size, 0, none⟩), .pointer (some ⟨W1.heap.size + 1, 0, none⟩)]]).cell 0
    have h21 := hb2.size
    refine ⟨least_any 50 _ (enters_of Try.func50 (by kernel_rfl) rfl) _ _ L.length W3 (fun m => last1_seq m W2.heap.size 49 _ (enters_of Try.func49 (by kernel_rfl) rfl) _ (toldL L who v) (fun x hx => ?_) L.length W3 (fun m => counting1_seq m W1.heap.size (W1.heap.size + 1) H b w.heap.size (w.heap.size + 1) L who v W3 hC3) hbe hOwn) (fun k hk => ?_), ?_, hC3.cw⟩
    · unfold toldL at hx
      obtain ⟨y, hy, rfl⟩ := List.mem_map.1 hx
      exact hB.map.ok y (List.mem_filter.1 hy).1
    · rcases hk with q | q
      · exact hOwn k q
      · omega
    · exact (hb1.trans (hb2.mono hb1.size)).trans (hb3.mono (by omega))⟩
  obtain ⟨LS, hLS⟩ : ∃ q, leastL (lastL (toldL L who v)) = q := ⟨_, rfl⟩
  obtain ⟨LR, LT⟩ := LS
  rw [hLS] at HX HRP
  have HW1 := Veil.mk hW1
  have HB1 := Veil.mk hb1
  clear hLS hB hv hBk1 cv1 hsz1 hW1 hb1
  generalize roleP L who v = RP at HRP ⊢
  generalize v.map (Value.int .u32) = V at HW1
  have cw0 : ((w.alloc (.cells #[.int .u8 who] 5)).alloc (.cells V.toArray 28)).cell? ⟨w.heap.size, 0, none⟩ = some (.int .u8 who) := by rw [← HW1.out]; exact cw1
  go_enter Try.func22, Try.ntmps22
  by_cases h8 : (8 : Int) ≤ who
  · have HE : Veil (RP = 0) := ⟨by rw [HRP.out, if_pos h8]⟩
    clear hco HX HRP
    go_wp2
    go_ret
    exact ⟨by rw [HE.out]; rfl, by rw [← HW1.out]; exact HB1.out⟩
  · replace HRP : Veil (RP = if LT = true then LR else if who = 0 then 3 else 0) := ⟨by rw [HRP.out, if_neg h8]⟩
    have hla := fun W2 => last_any 49 #[.pointer (some ⟨W1.heap.size, 0, none⟩), .pointer (some ⟨W1.heap.size + 1, 0, none⟩)] W2
    have haf := fun W4 => afirst_any who W4
    generalize (if who = 0 then (3 : Int) else 0) = F0 at haf HRP
    cases LT with
    | true =>
      replace HRP : Veil (RP = LR) := ⟨by rw [HRP.out]; rfl⟩
      go_wp2_with (first
        | (go_at_call 38; refine hle.mono ?_; rintro z W4 ⟨rfl, hb4⟩)
        | (go_at_call 39; refine (hla W2).mono ?_; rintro z W3 ⟨rfl, hW3⟩; obtain ⟨hle, hB3, cw3⟩ := HXX.out W3 hW3; clear hW3)
        | (go_at_call 35; rw [← HW1.out]; refine hco.mono ?_; rintro z W2 ⟨rfl, hb2, hs2, c1, c2⟩; have HXX := Veil.mk (HX.out W2 hb2 hs2 c1 c2); clear hs2 c1 c2 hb2))
      go_ret
      exact ⟨by rw [HRP.out]; rfl, hB3.trans (hb4.mono hB3.size)⟩
    | false =>
      replace HRP : Veil (RP = F0) := ⟨by rw [HRP.out]; rfl⟩
      go_wp2_with (first
        | (go_at_call 40; refine (haf W4).mono ?_; rintro z W5 ⟨rfl, rfl⟩)
        | (go_at_call 38; refine hle.mono ?_; rintro z W4 ⟨rfl, hb4⟩; have cw4 : W4.cell? ⟨w.heap.size, 0, none⟩ = some (.int .u8 who) := (hb4.cell (p := ⟨w.heap.size, 0, none⟩) (block_lt_of_cell cw3)).trans cw3)
        | (go_at_call 39; refine (hla W2).mono ?_; rintro z W3 ⟨rfl, hW3⟩; obtain ⟨hle, hB3, cw3⟩ := HXX.out W3 hW3; clear hW3)
        | (go_at_call 35; rw [← HW1.out]; refine hco.mono ?_; rintro z W2 ⟨rfl, hb2, hs2, c1, c2⟩; have HXX := Veil.mk (HX.out W2 hb2 hs2 c1 c2); clear hs2 c1 c2 hb2))
      go_ret
      exact ⟨by rw [HRP.out]; rfl, hB3.trans (hb4.mono hB3.size)⟩
def membersL (L : List Ent) (v : List Int) : List Int := (List.range 8).map (fun i => roleP L (i : Nat) v)
theorem blen_any (H b : Nat) (L : List Ent) (w : World) (hB : BookC w H b L) :
    Calls Try.prog 78 #[.pointer (some ⟨H, 0, none⟩)] w fun e w' => e = .returned (.int .i64 L.length) ∧ w' = w := by
  have cM := hB.mapCell
  have hln := fun ty => hB.map.len Try.underlying75 ty
  clear hB
  generalize (L.length : Int) = n at hln ⊢
  go_enter Try.func78, Try.ntmps78
  go_wp2
  go_ret
  exact ⟨rfl, rfl⟩
theorem bnew_any (w : World) : Calls Try.prog 21 #[] w fun e w' => ∃ H b, e = .returned (.pointer (some ⟨H, 0, none⟩)) ∧ BookC w' H b [] ∧ Below w.heap.size w w' ∧ w.heap.size ≤ b ∧ w.heap.size ≤ H := by
  have hM := BookAt.made w
  have hc : CellsAt ((w.alloc (.map #[] 0)).alloc (.cells #[.map (some w.heap.size)] 77)) (w.heap.size + 1) 77 [.map (some w.heap.size)] := by
    have := CellsAt.new (w.alloc (.map #[] 0)) 77 [.map (some w.heap.size)]
    rw [World.size_alloc] at this; exact this
  have HB : Veil (BookC ((w.alloc (.map #[] 0)).alloc (.cells #[.map (some w.heap.size)] 77)) (w.heap.size + 1) w.heap.size [] ∧ Below w.heap.size w ((w.alloc (.map #[] 0)).alloc (.cells #[.map (some w.heap.size)] 77))) := ⟨⟨hc, hM.congr (Below.heap_alloc _ _ _ (by simp))⟩, ((Below.refl _ _).alloc (Nat.le_refl _) _).alloc (by simp) _⟩
  have hmm := @run_makeMap Try.prog
  clear hM hc
  go_enter Try.func21, Try.ntmps21
  go_wp2
  go_ret
  exact ⟨_, _, rfl, HB.out.1, HB.out.2, by omega, by omega⟩
theorem exec_lookA {P : Program} {o : Oper} {ρ : Operand → Value} {w : World} (t : TypeId) (m x : Operand) (b : Bool) (ho : o.op = .lookup t m x b) (mv xv v : Value) (hm : ρ m = mv) (hx : ρ x = xv) (hrun : (Instr.lookup t mv xv b).run P w = .ok v w) : (execOp ρ o).run P w = .ok (.value v) w := by
  unfold execOp
  simp only [ho, hm, hx, Sem.run_bind, hrun, Result.andThen_ok, Sem.run_pure]
theorem right_okA (e : Ev) (w : World) (he : e.Ok) : Calls Try.prog 45 #[.agg e.cells.toArray] w fun x w' => x = .returned (.bool (rightB e)) ∧ Below w.heap.size w w' :=
  cright_any e w he.past he.dot.1.1 he.dot.2.1 (by have := he.dot.2.2; omega) he.par.1.1 he.par.2.1
def refB (L : List Ent) (e : Ev) : Int := if rightB e = false then 3 else if e.kind ≠ 3 ∧ e.kind ≠ 4 then 3 else if (lookB L e.dot).isSome = true then 5 else if 512 ≤ L.length then 10 else 0
set_option maxHeartbeats 4000000 in
theorem brefuse_any (H b : Nat) (L : List Ent) (e : Ev) (w : World) (hC : BookC w H b L) (he : e.Ok) (hL : L.length ≤ 1000) :
    Calls Try.prog 74 #[.pointer (some ⟨H, 0, none⟩), .agg e.cells.toArray] w fun r w' => r = .returned (.int .i64 (refB L e)) ∧ Below w.heap.size w w' := by
  have hB0 : Below w.heap.size w (w.alloc (.cells e.cells.toArray 32)) := (Below.refl _ _).alloc (Nat.le_refl _) _
  have hx0 := CellsAt.new w 32 e.cells
  have he1 := aev_len e he.past
  have iE : (Try.prog.info? 32).map (·.size) = some e.cells.length := by rw [he1]; kernel_rfl
  have iD : (Try.prog.info? 26).map (·.size) = some (dotC e.da e.ds).length := sizeDot
  have uE := Try.underlying32
  have uD := Try.underlying26
  have HR : Veil (∀ W, Calls Try.prog 45 #[.agg e.cells.toArray] W fun x w' => x = .returned (.bool (rightB e)) ∧ Below W.heap.size W w') := ⟨fun W => right_okA e W he⟩
  have HT : Veil (∀ W, Below w.heap.size w W → CellsAt W w.heap.size 32 e.cells → W.rangeAt w.heap.size 0 e.cells ∧ W.rangeAt w.heap.size 0 (dotC e.da e.ds) ∧ W.cell? ⟨H, 0, none⟩ = some (.map (some b)) ∧ BookAt W b L ∧ W.cell? ⟨w.heap.size, 10, none⟩ = some (.int .u8 e.kind)) := ⟨fun W hb hx => by
    have h1 := hx.range 0 2
    rw [(ev_parts e he.past).1] at h1
    have hC1 := hC.far hb
    exact ⟨hx.wholeM, h1, hC1.mapCell, hC1.map, (hx.cell 10).trans (ev_parts e he.past).2.2.1⟩⟩
  have HN : Veil (refB L e = if rightB e = false then 3 else if e.kind ≠ 3 ∧ e.kind ≠ 4 then 3 else if (lookB L e.dot).isSome = true then 5 else if 512 ≤ L.length then 10 else 0) := ⟨rfl⟩
  have HC := Veil.mk hC
  have HE := Veil.mk he
  obtain ⟨E, hE⟩ : ∃ E, e.cells = E := ⟨_, rfl⟩
  rw [hE] at hB0 hx0 iE HR HT he1
  rw [hE]
  generalize refB L e = RN at HN ⊢
  generalize rightB e = RB at HR HN
  generalize e.kind = KD at HN HT
  clear hC he hE
  go_enter Try.func74, Try.ntmps74
  go_upto_region 3 with fail
  refine forget (p := fun y => Code.wp _ _ _ _ y) (fun W => Below w.heap.size w W ∧ CellsAt W w.heap.size 32 E) ⟨hB0, hx0⟩ ?_
  clear hB0 hx0
  rintro W ⟨hB, hx⟩
  have hrE := hx.wholeM
  have hr := HR.out W
  cases RB
  · replace HN : Veil (RN = 3) := ⟨HN.out⟩
    go_wp2_with (first
      | (refine wpList_ldv rfl 32 _ rfl w.heap.size 0 rfl E hrE uE rfl iE ?_)
      | (go_at_call 45; refine hr.mono ?_; rintro x W1 ⟨rfl, hb1⟩))
    go_ret
    exact ⟨by rw [HN.out]; rfl, hB.trans (hb1.mono hB.size)⟩
  replace HN : Veil (RN = if KD ≠ 3 ∧ KD ≠ 4 then 3 else if (lookB L e.dot).isSome = true then 5 else if 512 ≤ L.length then 10 else 0) := ⟨HN.out⟩
  have HK10 : Veil (∀ W1, Below W.heap.size W W1 → W1.cell? ⟨w.heap.size, 10, none⟩ = some (.int .u8 KD)) := ⟨fun W1 hb => (HT.out W1 (hB.trans (hb.mono hB.size)) (hx.farM hb)).2.2.2.2⟩
  by_cases hbad : KD ≠ 3 ∧ KD ≠ 4
  · replace HN : Veil (RN = 3) := ⟨by rw [HN.out, if_pos hbad]⟩
    obtain ⟨hk3, hk4⟩ := hbad
    have hk3b : (KD != 3) = true := by simpa using hk3
    have hk4b : (KD != 4) = true := by simpa using hk4
    clear hk3 hk4
    go_wp2_with (first
      | (refine wpList_ldv rfl 32 _ rfl w.heap.size 0 rfl E hrE uE rfl iE ?_)
      | (go_at_call 45; refine hr.mono ?_; rintro x W1 ⟨rfl, hb1⟩; have c10 := HK10.out W1 hb1))
    go_ret
    exact ⟨by rw [HN.out]; rfl, hB.trans (hb1.mono hB.size)⟩
  · replace HN : Veil (RN = if (lookB L e.dot).isSome = true then 5 else if 512 ≤ L.length then 10 else 0) := ⟨by rw [HN.out, if_neg hbad]⟩
    have hkk : KD = 3 ∨ KD = 4 := by omega
    clear hbad
    rcases hkk with rfl | rfl
    all_goals
      go_upto_region 5 with (first
        | (refine wpList_ldv rfl 32 _ rfl w.heap.size 0 rfl E hrE uE rfl iE ?_)
        | (go_at_call 45; refine hr.mono ?_; rintro x W1 ⟨rfl, hb1⟩; have c10 := HK10.out W1 hb1))
      have hB2 := hB.trans (hb1.mono hB.size)
      have hx2 := hx.farM hb1
      clear hr hrE hB hx hb1 HR HK10 c10
      obtain ⟨q1, q2, q4, q5, -⟩ := HT.out W1 hB2 hx2
      obtain ⟨KV, kb, hk17, hk1, hlk, hkb⟩ : ∃ (KV : List Value) (kb : Bool), KV.length = 18 ∧ (∀ v ∈ KV, v.oneCell' = true) ∧ (∀ W, BookAt W b L → (Instr.lookup 75 (.map (some b)) (.agg (dotC e.da e.ds).toArray) true).run Try.prog W = .ok (.tuple #[.agg KV.toArray, .bool kb]) W) ∧ kb = (lookB L e.dot).isSome := by
        have hg : ∀ W, BookAt W b L → (Instr.lookup 75 (.map (some b)) (.agg (dotC e.da e.ds).toArray) true).run Try.prog W = .ok (.tuple #[((lookB L (e.da, e.ds)).map fun e => Value.agg (entC e).toArray).getD (.agg entZ.toArray), .bool ((lookB L (e.da, e.ds)).map fun e => Value.agg (entC e).toArray).isSome]) W := fun W hW => hW.mapAt.look Try.underlying75 (z := .agg entZ.toArray) (by kernel_rfl) e.da e.ds HE.out.dot
        cases hk : lookB L (e.da, e.ds) with
        | none =>
          rw [hk] at hg
          exact ⟨entZ, false, rfl, by decide, hg, by rw [show e.dot = (e.da, e.ds) from rfl, hk]; rfl⟩
        | some k =>
          rw [hk] at hg
          have hko := HC.out.map.ok k (lookB_mem hk).1
          exact ⟨entC k, true, entC_len k hko, entC_one k, hg, by rw [show e.dot = (e.da, e.ds) from rfl, hk]; rfl⟩
      have HLK := Veil.mk hlk
      replace HN : Veil (RN = if kb = true then 5 else if 512 ≤ L.length then 10 else 0) := ⟨by rw [HN.out, hkb]⟩
      have iK : (Try.prog.info? 107).map (·.size) = some KV.length := by rw [hk17]; kernel_rfl
      clear hlk hkb
      refine wp_region_gateT (fun w' => w'.cell? ⟨H, 0, none⟩ = some (.map (some b)) ∧ w'.rangeAt w.heap.size 0 (dotC e.da e.ds) ∧ BookAt w' b L) (fun _ => True) 99 (by kernel_rfl) ?_
      have hT : (fun w' : World => w'.cell? ⟨H, 0, none⟩ = some (.map (some b)) ∧ w'.rangeAt w.heap.size 0 (dotC e.da e.ds) ∧ BookAt w' b L) W1.drew := ⟨q4, q2, q5.congr rfl⟩
      have hS : (fun _ : World => True) W1.drew := trivial
      refine wpAnyT_held (i := 0) (v := ?_) rfl (by kernel_rfl) (by kernel_rfl) (by kernel_rfl) (fun _ _ _ h => h) (by kernel_rfl) hT (fun _ => hS) (by kernel_rfl) ?_ ?_
      rotate_left
      · intro wx hSw; go_split_ands; go_simp; try with_reducible rfl
      simp only [Act.put, List.getElem_toArray, List.getElem_cons_succ, List.getElem_cons_zero, List.setIfInBounds_toArray, List.set_cons_zero, List.set_cons_succ]
      refine wpAnyT_held (i := 1) (v := ?_) rfl (by kernel_rfl) (by kernel_rfl) (by kernel_rfl) (fun _ _ _ h => h) (by kernel_rfl) hT (fun _ => hS) (by kernel_rfl) ?_ ?_
      rotate_left
      · intro wx hSw; go_split_ands; go_simp; try with_reducible rfl
      simp only [Act.put, List.getElem_toArray, List.getElem_cons_succ, List.getElem_cons_zero, List.setIfInBounds_toArray, List.set_cons_zero, List.set_cons_succ]
      refine wpAnyT_held (i := 2) (v := ?_) rfl (by kernel_rfl) (by kernel_rfl) (by kernel_rfl) (fun _ _ _ h => h) (by kernel_rfl) hT (fun _ => hS) (by kernel_rfl) ?_ ?_
      rotate_left
      · intro wx hSw; go_split_ands; go_simp; try with_reducible rfl
      simp only [Act.put, List.getElem_toArray, List.getElem_cons_succ, List.getElem_cons_zero, List.setIfInBounds_toArray, List.set_cons_zero, List.set_cons_succ]
      refine wpAnyT_held (i := 3) (v := ?_) rfl (by kernel_rfl) (by kernel_rfl) (by kernel_rfl) (fun _ _ _ h => h) (by kernel_rfl) hT (fun _ => hS) (by kernel_rfl) ?_ ?_
      rotate_left
      · intro wx hSw; go_split_ands; go_simp; try with_reducible rfl
      simp only [Act.put, List.getElem_toArray, List.getElem_cons_succ, List.getElem_cons_zero, List.setIfInBounds_toArray, List.set_cons_zero, List.set_cons_succ]
      refine wpAnyT_held (i := 4) (v := ?_) rfl (by kernel_rfl) (by kernel_rfl) (by kernel_rfl) (fun _ _ _ h => h) (by kernel_rfl) hT (fun _ => hS) (by kernel_rfl) ?_ ?_
      rotate_left
      · intro wx hSw; go_split_ands; go_simp; try with_reducible rfl
      simp only [Act.put, List.getElem_toArray, List.getElem_cons_succ, List.getElem_cons_zero, List.setIfInBounds_toArray, List.set_cons_zero, List.set_cons_succ]
      refine wpAnyT_load (i := 5) (dst := some 28) (ty := 26) (x := .tmp 27) (b := w.heap.size) (o := (0)) (cs := (dotC e.da e.ds)) (by kernel_rfl) (by kernel_rfl) (by kernel_rfl) (by kernel_rfl) (by kernel_rfl) (fun _ _ _ h => h) (by kernel_rfl) hT (fun _ => hS) (by kernel_rfl) (fun _ h => h.2.1) uD rfl iD ?_
      simp only [Act.put, List.getElem_toArray, List.getElem_cons_succ, List.getElem_cons_zero, List.setIfInBounds_toArray, List.set_cons_zero, List.set_cons_succ]
      refine wpAnyT_held (i := 6) (v := .tuple #[.agg KV.toArray, .bool kb]) rfl (by kernel_rfl) (by kernel_rfl) (by kernel_rfl) (fun _ _ _ h => h) (by kernel_rfl) hT (fun _ => hS) (by kernel_rfl) (fun wx h => exec_lookA _ _ _ _ rfl _ _ _ rfl rfl (HLK.out wx h.2.2)) ?_
      simp only [Act.put, List.getElem_toArray, List.getElem_cons_succ, List.getElem_cons_zero, List.setIfInBounds_toArray, List.set_cons_zero, List.set_cons_succ]
      refine wpAnyT_held (i := 7) (v := ?_) rfl (by kernel_rfl) (by kernel_rfl) (by kernel_rfl) (fun _ _ _ h => h) (by kernel_rfl) hT (fun _ => hS) (by kernel_rfl) ?_ ?_
      rotate_left
      · intro wx hSw; go_split_ands; go_simp; try with_reducible rfl
      simp only [Act.put, List.getElem_toArray, List.getElem_cons_succ, List.getElem_cons_zero, List.setIfInBounds_toArray, List.set_cons_zero, List.set_cons_succ]
      refine wpAnyT_held (i := 8) (v := ?_) rfl (by kernel_rfl) (by kernel_rfl) (by kernel_rfl) (fun _ _ _ h => h) (by kernel_rfl) hT (fun _ => hS) (by kernel_rfl) ?_ ?_
      rotate_left
      · intro wx hSw; go_split_ands; go_simp; try with_reducible rfl
      simp only [Act.put, List.getElem_toArray, List.getElem_cons_succ, List.getElem_cons_zero, List.setIfInBounds_toArray, List.set_cons_zero, List.set_cons_succ]
      refine wpAnyT_held (i := 9) (v := ?_) rfl (by kernel_rfl) (by kernel_rfl) (by kernel_rfl) (fun _ _ _ h => h) (by kernel_rfl) hT (fun _ => hS) (by kernel_rfl) ?_ ?_
      rotate_left
      · intro wx hSw; go_split_ands; go_simp; try with_reducible rfl
      simp only [Act.put, List.getElem_toArray, List.getElem_cons_succ, List.getElem_cons_zero, List.setIfInBounds_toArray, List.set_cons_zero, List.set_cons_succ]
      have hxl := hx2.lt
      have HAL : Veil (Below w.heap.size w (W1.drew.alloc (.cells entZ.toArray 107)) ∧ CellsAt (W1.drew.alloc (.cells entZ.toArray 107)) w.heap.size 32 E ∧ CellsAt (W1.drew.alloc (.cells entZ.toArray 107)) W1.heap.size 107 entZ) := ⟨hB2.drew.alloc hB2.size _, (hx2.congr (w' := W1.drew) rfl).alloc _, CellsAt.new W1.drew 107 entZ⟩
      refine wpAnyT_one (i := 10) rfl (by kernel_rfl) (by kernel_rfl) (fun K hK => ?_)
      go_simp
      refine forget (p := fun y => K _ y) (fun W3 => Below w.heap.size w W3 ∧ CellsAt W3 w.heap.size 32 E ∧ CellsAt W3 W1.heap.size 107 entZ) HAL.out ?_
      rintro W3 ⟨hB3, hx3, hz3⟩
      clear q1 q2 q4 q5 HAL
      obtain ⟨q1, q2, q4, q5, -⟩ := HT.out W3 hB3 hx3
      replace hT : (fun w' : World => w'.cell? ⟨H, 0, none⟩ = some (.map (some b)) ∧ w'.rangeAt w.heap.size 0 (dotC e.da e.ds) ∧ BookAt w' b L) W3 := ⟨q4, q2, q5⟩
      replace hS : (fun _ : World => True) W3 := trivial
      refine hK.out _ _ hT (fun _ => hS) ?_
      clear hK K
      try simp only [Act.put, List.getElem_toArray, List.getElem_cons_succ, List.getElem_cons_zero, List.setIfInBounds_toArray, List.set_cons_zero, List.set_cons_succ]
      have hx4 := hx3.setRowM KV.toArray (show w.heap.size ≠ W1.heap.size by omega)
      have hB4 : Below w.heap.size w (W3.setRow W1.heap.size KV.toArray) := ⟨hB3.os, hB3.tape, hB3.output, by have := hB3.size; simp [World.setRow, World.putObj]; omega, fun k hk => (setRow_other _ _ _ _ (by omega)).trans (hB3.block k hk)⟩
      refine wpAnyT_one (i := 11) rfl (by kernel_rfl) (by kernel_rfl) (fun K hK => ?_)
      refine wp_stvE 107 _ _ rfl W1.heap.size rfl (cs := KV) rfl hz3 iK (by rw [hk17]; rfl) hk1 ?_
      clear q1 q2 q4 q5
      obtain ⟨q1, q2, q4, q5, -⟩ := HT.out _ hB4 hx4
      replace hT : (fun w' : World => w'.cell? ⟨H, 0, none⟩ = some (.map (some b)) ∧ w'.rangeAt w.heap.size 0 (dotC e.da e.ds) ∧ BookAt w' b L) (W3.setRow W1.heap.size KV.toArray) := ⟨q4, q2, q5⟩
      replace hS : (fun _ : World => True) (W3.setRow W1.heap.size KV.toArray) := trivial
      refine hK.out _ _ hT (fun _ => hS) ?_
      clear hK K
      try simp only [Act.put, List.getElem_toArray, List.getElem_cons_succ, List.getElem_cons_zero, List.setIfInBounds_toArray, List.set_cons_zero, List.set_cons_succ]
      refine wpAnyT_held (i := 12) (v := ?_) rfl (by kernel_rfl) (by kernel_rfl) (by kernel_rfl) (fun _ _ _ h => h) (by kernel_rfl) hT (fun _ => hS) (by kernel_rfl) ?_ ?_
      rotate_left
      · intro wx hSw; go_split_ands; go_simp; try with_reducible rfl
      simp only [Act.put, List.getElem_toArray, List.getElem_cons_succ, List.getElem_cons_zero, List.setIfInBounds_toArray, List.set_cons_zero, List.set_cons_succ]
      refine wpAnyT_done (by kernel_rfl) ?_ _
      clear hT hS hz3 hx3 hB3 hB2 hx2 HLK
      generalize W3.setRow W1.heap.size KV.toArray = W5 at hx4 hB4 q1 q2 q4 q5 ⊢
      generalize W1.heap.size = Bk
      cases kb
      rotate_left
      · replace HN : Veil (RN = 5) := ⟨HN.out⟩
        go_wp2
        go_ret
        exact ⟨by rw [HN.out]; rfl, hB4⟩
      · replace HN : Veil (RN = if 512 ≤ L.length then 10 else 0) := ⟨HN.out⟩
        have hln := blen_any H b L W5 (HC.out.far hB4)
        by_cases h5 : 512 ≤ L.length
        · replace HN : Veil (RN = 10) := ⟨by rw [HN.out, if_pos h5]⟩
          have h5i : (512 : Int) ≤ (L.length : Int) := by omega
          go_wp2_with (go_at_call 78; refine hln.mono ?_; rintro x W6 ⟨rfl, rfl⟩)
          go_ret
          exact ⟨by rw [HN.out]; rfl, hB4⟩
        · replace HN : Veil (RN = 0) := ⟨by rw [HN.out, if_neg h5]⟩
          have h5i : ¬ (512 : Int) ≤ (L.length : Int) := by omega
          go_wp2_with (go_at_call 78; refine hln.mono ?_; rintro x W6 ⟨rfl, rfl⟩)
          go_ret
          exact ⟨by rw [HN.out]; rfl, hB4⟩
end Go.Proofs.Ytgmbmdmbnpkbbaa
