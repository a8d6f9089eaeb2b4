/- Rk4 De1 -/
import Derived.Test.YtmbdohnmbkpfaaaGreatU29
import Derived.Test.YtmbdohnmbkpfaaaGreatU27
namespace Go.Proofs.YtmbdohnmbkpfaaaGreat
open Go.RowKit Go.Shelf
set_option maxRecDepth 20000
set_option linter.unusedSimpArgs false
theorem lookB_isSome_at {L : List Ent} {d : Int × Int} (k : Nat) (hk : k < L.length) (hd : L[k].1.dot = d) : (lookB L d).isSome = true := by
  cases h : lookB L d with
  | some x => rfl
  | none => exact absurd hd (lookB_none.1 h _ (List.getElem_mem hk))
set_option maxHeartbeats 16000000 in
theorem raddO_any {B : Nat} (R : Nat) (L : List Ent) (x bx : Option Addr) (c bc : Nat) (e : Ev) (w : World) (hC : RefB B w R L x c bx bc) (he : e.Ok) (hL : L.length ≤ 1000) (hG : GoodB L) (hBW : B ≤ w.heap.size) :
    Calls Tryz.prog 24 #[.pointer (some ⟨R, 0, none⟩), .agg e.cells.toArray] w fun r w' => r = .returned (.int .i64 (refB L e)) ∧ (∃ x' c' bx' bc', RefB B w' R (addB L e) x' c' bx' bc' ∧ ∀ k, OwnR R (.slice x' (addB L e).length c') (.slice bx' (addB L e).length bc') k → OwnR R (.slice x L.length c) (.slice bx L.length bc) k ∨ w.heap.size ≤ k) ∧ Turn (OwnR R (.slice x L.length c) (.slice bx L.length bc)) w w' := by
  have hB0 : Below w.heap.size w (w.alloc (.cells e.cells.toArray 44)) := (Below.refl _ _).alloc (Nat.le_refl _) _
  have hx0 := CellsAt.new w 44 e.cells
  have he1 := aev_len e he.past
  have he2 := aev_one e
  have iE : (Tryz.prog.info? 44).map (·.size) = some e.cells.length := by rw [he1]; kernel_rfl
  have iD : (Tryz.prog.info? 40).map (·.size) = some (dotC e.da e.ds).length := sizeDot
  have iP : (Tryz.prog.info? 37).map (·.size) = some (e.past.map (Value.int .u32)).length := by rw [List.length_map, he.past]; kernel_rfl
  have uE := Tryz.underlying44
  have uD := Tryz.underlying40
  have uV := Tryz.underlying37
  have uS := Tryz.underlying31
  have uB := Tryz.underlying83
  have HR : Veil (∀ W, Calls Tryz.prog 42 #[.agg e.cells.toArray] W fun x w' => x = .returned (.bool (rightB e)) ∧ Below W.heap.size W w') := ⟨fun W => rright_okA e W he⟩
  have HT : Veil (∀ W, CellsAt W w.heap.size 44 e.cells → W.rangeAt w.heap.size 0 e.cells ∧ W.rangeAt w.heap.size 0 (dotC e.da e.ds) ∧ W.cell? ⟨w.heap.size, 10, none⟩ = some (.int .u8 e.kind) ∧ W.cell? ⟨w.heap.size, 0, none⟩ = some (.int .u8 e.da) ∧ W.rangeAt w.heap.size 2 (e.past.map (Value.int .u32))) := ⟨fun W hx => by
    have h1 := hx.range 0 2
    rw [(ev_parts e he.past).1] at h1
    have h2 := hx.range 2 8
    rw [(ev_parts e he.past).2.1] at h2
    exact ⟨hx.wholeM, h1, (hx.cell 10).trans (ev_parts e he.past).2.2.1, by have := h1 0 _ rfl; simpa using this, h2⟩⟩
  have HRO : Veil (∀ W, Below w.heap.size w W → Calls Tryz.prog 23 #[.pointer (some ⟨R, 0, none⟩), .int .u8 e.da, .agg (e.past.map (Value.int .u32)).toArray] W fun r w' => r = .returned (.int .u8 (roleP L e.da e.past)) ∧ Below W.heap.size W w') := ⟨fun W hb => rrole_any R L x bx c bc e.da e.past W (hC.far hb) he.past hL hG⟩
  have HEQ : Veil (∀ (k : Nat) (hk : k < L.length), ∀ wx, (Op.equalIn 10000 40 (.agg (dotC L[k].1.da L[k].1.ds).toArray) (.agg (dotC e.da e.ds).toArray)).run Tryz.prog wx = .ok (L[k].1.da == e.da && L[k].1.ds == e.ds) wx) := ⟨fun k hk wx => dot_eqIn 9998 _ _ _ _ wx⟩
  have HDD : Veil (∀ (k : Nat) (hk : k < L.length), (L[k].1.dot = e.dot ↔ (L[k].1.da == e.da && L[k].1.ds == e.ds) = true)) := ⟨fun k hk => dotC_eq⟩
  have HN : Veil (refB L e = if rightB e = false then 3 else if e.kind ≠ 3 ∧ e.kind ≠ 4 then 3 else if (lookB L e.dot).isSome = true then 5 else if 512 ≤ L.length then 10 else 0) := ⟨rfl⟩
  have HAD : Veil (addB L e = if refB L e = 0 then L ++ [(e, roleP L e.da e.past == 3)] else L) := ⟨rfl⟩
  have HC := Veil.mk hC
  have HG := Veil.mk hG
  have HEE : Veil (∀ cb, (L ++ [(e, cb)]).map (fun q : Ent => q.1.cells) = L.map (fun q => q.1.cells) ++ [e.cells]) := ⟨fun cb => by rw [List.map_append]; rfl⟩
  have HBE : Veil (∀ cb, (L ++ [(e, cb)]).map (fun q : Ent => [Value.bool q.2]) = L.map (fun q => [Value.bool q.2]) ++ [[.bool cb]]) := ⟨fun cb => by rw [List.map_append]; rfl⟩
  obtain ⟨E, hE⟩ : ∃ E, e.cells = E := ⟨_, rfl⟩
  rw [hE] at hB0 hx0 iE HT he1 he2 HR HEE ⊢
  obtain ⟨RN, hRN⟩ : ∃ q, refB L e = q := ⟨_, rfl⟩
  obtain ⟨RP, hRP⟩ : ∃ q, roleP L e.da e.past = q := ⟨_, rfl⟩
  rw [hRN, hRP] at HAD
  rw [hRN] at HN
  rw [hRP] at HRO
  generalize rightB e = RB at HR HN
  generalize e.kind = KD at HN HT
  obtain ⟨PV, hPV⟩ : ∃ q, e.past.map (Value.int .u32) = q := ⟨_, rfl⟩
  rw [hPV] at HT HRO iP
  obtain ⟨DV, hDV⟩ : ∃ q, dotC e.da e.ds = q := ⟨_, rfl⟩
  rw [hDV] at HT iD HEQ
  generalize e.da = DA at HT HRO HEQ HDD
  have HRN := Veil.mk hRN
  clear hC he hE hG hRN hRP hPV hDV
  have HNO : Veil (∀ W, Below w.heap.size w W → RN ≠ 0 → (∃ x' c' bx' bc', RefB B W R (addB L e) x' c' bx' bc' ∧ ∀ k, OwnR R (.slice x' (addB L e).length c') (.slice bx' (addB L e).length bc') k → OwnR R (.slice x L.length c) (.slice bx L.length bc) k ∨ w.heap.size ≤ k) ∧ Turn (OwnR R (.slice x L.length c) (.slice bx L.length bc)) w W) := ⟨fun W hb h => ⟨⟨x, c, bx, bc, by rw [HAD.out, if_neg h]; exact HC.out.far hb, by rw [HAD.out, if_neg h]; exact fun k q => .inl q⟩, Turn.of_below hb⟩⟩
  go_enter Tryz.func24, Tryz.ntmps24
  go_upto_region 3 with fail
  refine forget (p := fun y => Code.wp _ _ _ _ y) (fun W => Below w.heap.size w W ∧ CellsAt W w.heap.size 44 E) ⟨hB0, hx0⟩ ?_
  clear hB0 hx0
  rintro W ⟨hB, hx⟩
  have hrE := hx.wholeM
  have hr := HR.out W
  have HK10 : Veil (∀ W1, Below W.heap.size W W1 → W1.cell? ⟨w.heap.size, 10, none⟩ = some (.int .u8 KD)) := ⟨fun W1 hb => (HT.out W1 (hx.farM hb)).2.2.1⟩
  cases RB
  · replace HN : Veil (RN = 3) := ⟨HN.out⟩
    go_wp2_with (first
      | (refine wpList_ldv rfl 44 _ rfl w.heap.size 0 rfl E hrE uE rfl iE ?_)
      | (go_at_call 42; refine hr.mono ?_; rintro x W1 ⟨rfl, hb1⟩))
    go_ret
    exact ⟨by rw [HRN.out, HN.out]; rfl, HNO.out _ (hB.trans (hb1.mono hB.size)) (by rw [HN.out]; decide)⟩
  replace HN : Veil (RN = if KD ≠ 3 ∧ KD ≠ 4 then 3 else if (lookB L e.dot).isSome = true then 5 else if 512 ≤ L.length then 10 else 0) := ⟨HN.out⟩
  by_cases hbad : KD ≠ 3 ∧ KD ≠ 4
  · replace HN : Veil (RN = 3) := ⟨by rw [HN.out, if_pos hbad]⟩
    have hk3b : (KD != 3) = true := by simpa using hbad.1
    have hk4b : (KD != 4) = true := by simpa using hbad.2
    clear hbad
    go_wp2_with (first
      | (refine wpList_ldv rfl 44 _ rfl w.heap.size 0 rfl E hrE uE rfl iE ?_)
      | (go_at_call 42; refine hr.mono ?_; rintro x W1 ⟨rfl, hb1⟩; have c10 := HK10.out W1 hb1))
    go_ret
    exact ⟨by rw [HRN.out, HN.out]; rfl, HNO.out _ (hB.trans (hb1.mono hB.size)) (by rw [HN.out]; decide)⟩
  · replace HN : Veil (RN = if (lookB L e.dot).isSome = true then 5 else if 512 ≤ L.length then 10 else 0) := ⟨by rw [HN.out, if_neg hbad]⟩
    have hkk : KD = 3 ∨ KD = 4 := by omega
    clear hbad
    rcases hkk with rfl | rfl
    all_goals
      go_upto_region 5 with (first
        | (refine wpList_ldv rfl 44 _ rfl w.heap.size 0 rfl E hrE uE rfl iE ?_)
        | (go_at_call 42; refine hr.mono ?_; rintro x W1 ⟨rfl, hb1⟩; have c10 := HK10.out W1 hb1))
      have hB2 := hB.trans (hb1.mono hB.size)
      have hx2 := hx.farM hb1
      clear hr hrE hB hx hb1 HR HK10 c10
      go_wp2_with fail
      go_loopw [5] (fun q wr => ∃ k : Nat, k ≤ L.length ∧ q = .int .i64 (k : Nat) ∧ lookB (L.take k) e.dot = none ∧ Below w.heap.size w wr ∧ CellsAt wr w.heap.size 44 E) (fun q _ => L.length - (intOf q).toNat)
      case atStart => exact ⟨0, Nat.zero_le _, rfl, rfl, hB2, hx2⟩
      case round =>
        obtain ⟨k, hk, rfl, hlk, hB, hy⟩ := hrel
        clear hB2 hx2
        have HLK := Veil.mk hlk
        clear hlk
        have hCr := HC.out.far hB
        have c0 : wr.cell? ⟨R, 0, none⟩ = some (.slice x L.length c) := hCr.cells.cell 0
        by_cases hlt : k < L.length
        · have hii : (k : Int) < (L.length : Int) := by omega
          have hk0 : (0 : Int) ≤ (k : Int) := by omega
          obtain ⟨g, rfl, -, hxr⟩ := hCr.ev.at_ k (by rw [List.length_map]; exact hlt)
          rw [List.getElem_map] at hxr
          have hek := (HG.out L[k] (List.getElem_mem hlt)).1
          have hdp := (ev_parts L[k].1 hek.past).1
          have hxd : wr.rangeAt g (k * 17) (dotC L[k].1.da L[k].1.ds) := fun j u hu => hxr j u (by
            rw [← hdp, List.drop_zero, List.getElem?_take] at hu
            split at hu
            · exact hu
            · cases hu)
          have iDj : (Tryz.prog.info? 40).map (·.size) = some (dotC L[k].1.da L[k].1.ds).length := sizeDot
          obtain ⟨-, hwd, -, -, -⟩ := HT.out wr hy
          have heq := HEQ.out k hlt
          have hDD := HDD.out k hlt
          have HE5 : Veil (L[k].1.dot = e.dot → RN = 5) := ⟨fun h => by rw [HN.out, if_pos (lookB_isSome_at k hlt h)]⟩
          have HNX : Veil (L[k].1.dot ≠ e.dot → lookB (L.take (k + 1)) e.dot = none) := ⟨fun h => lookB_take k hlt HLK.out h⟩
          have hw2 : IntKind.i64.wrap ((k : Int) + 1) = (k : Int) + 1 := by rw [IntKind.wrap_i64]; omega
          generalize (L[k].1.da == DA && L[k].1.ds == e.ds) = EQ at heq hDD
          have HDQ := Veil.mk hDD
          generalize dotC L[k].1.da L[k].1.ds = DJ at hxd iDj heq
          clear hxr hek hdp hCr hDD
          go_upto_region 8 with fail
          refine wp_region_gateT (fun w' => w'.cell? ⟨R, 0, none⟩ = some (.slice (some ⟨g, 0, none⟩) L.length c) ∧ w'.rangeAt g (k * 17) DJ ∧ w'.rangeAt w.heap.size 0 DV) (fun _ => True) 99 (by kernel_rfl) ?_
          have hT : (fun w' : World => w'.cell? ⟨R, 0, none⟩ = some (.slice (some ⟨g, 0, none⟩) L.length c) ∧ w'.rangeAt g (k * 17) DJ ∧ w'.rangeAt w.heap.size 0 DV) wr.drew := ⟨c0, hxd, hwd⟩
          have hS : (fun _ : World => True) wr.drew := trivial
          refine gh 0 ?_ hT hS ?_ ?_
          rotate_left
          · intro wx hSw; go_split_ands; go_simp; try with_reducible rfl
          simp only [Act.put, gA, gS, gZ, sI, sZ, sS]
          refine gh 1 ?_ hT hS ?_ ?_
          rotate_left
          · intro wx hSw; go_split_ands; go_simp; try with_reducible rfl
          simp only [Act.put, gA, gS, gZ, sI, sZ, sS]
          refine gh 2 ?_ hT hS ?_ ?_
          rotate_left
          · intro wx hSw; go_split_ands; go_simp; try with_reducible rfl
          simp only [Act.put, gA, gS, gZ, sI, sZ, sS]
          refine gh 3 ?_ hT hS ?_ ?_
          rotate_left
          · intro wx hSw; go_split_ands; go_simp; try with_reducible rfl
          simp only [Act.put, gA, gS, gZ, sI, sZ, sS]
          refine gh 4 ?_ hT hS ?_ ?_
          rotate_left
          · intro wx hSw; go_split_ands; go_simp; try with_reducible rfl
          simp only [Act.put, gA, gS, gZ, sI, sZ, sS]
          refine gh 5 ?_ hT hS ?_ ?_
          rotate_left
          · intro wx hSw; go_split_ands; go_simp; try with_reducible rfl
          simp only [Act.put, gA, gS, gZ, sI, sZ, sS]
          refine gh 6 ?_ hT hS ?_ ?_
          rotate_left
          · intro wx hSw; go_split_ands; go_simp; try with_reducible rfl
          simp only [Act.put, gA, gS, gZ, sI, sZ, sS]
          refine gl 7 40 40 39 g (k * 17) DJ (by kernel_rfl) (by kernel_rfl) (by kernel_rfl) (fun _ _ _ h => h) hT hS (by kernel_rfl) (fun _ h => h.2.1) uD rfl iDj ?_
          simp only [Act.put, gA, gS, gZ, sI, sZ, sS]
          refine gh 8 ?_ hT hS ?_ ?_
          rotate_left
          · intro wx hSw; go_split_ands; go_simp; try with_reducible rfl
          simp only [Act.put, gA, gS, gZ, sI, sZ, sS]
          refine gl 9 42 40 41 w.heap.size 0 DV (by kernel_rfl) (by kernel_rfl) (by kernel_rfl) (fun _ _ _ h => h) hT hS (by kernel_rfl) (fun _ h => h.2.2) uD rfl iD ?_
          simp only [Act.put, gA, gS, gZ, sI, sZ, sS]
          refine gh 10 (.bool EQ) hT hS ?_ ?_
          · intro wx hSw; go_split_ands; go_simp
          simp only [Act.put, gA, gS, gZ, sI, sZ, sS]
          refine wpAnyT_done (by kernel_rfl) ?_ _
          clear hT hS
          cases EQ with
          | true =>
            have HR5 := Veil.mk (HE5.out (HDQ.out.2 rfl))
            go_wp2
            go_ret
            exact ⟨by rw [HRN.out, HR5.out]; rfl, HNO.out _ hB.drew (by rw [HR5.out]; decide)⟩
          | false =>
            have HNN := Veil.mk (HNX.out (fun h => by have := HDQ.out.1 h; cases this))
            go_wp2
            go_roundw
            case rel => exact ⟨k + 1, by omega, by push_cast; rfl, HNN.out, hB.drew, hy.congr rfl⟩
            case measure => simp [intOf]; omega
        · obtain rfl : k = L.length := by omega
          have hii : ¬ ((L.length : Nat) : Int) < (L.length : Int) := by omega
          replace HN : Veil (RN = if 512 ≤ L.length then 10 else 0) := ⟨by
            have h0 := HLK.out
            rw [List.take_length] at h0
            rw [HN.out, h0]; rfl⟩
          by_cases h5 : 512 ≤ L.length
          · replace HN : Veil (RN = 10) := ⟨by rw [HN.out, if_pos h5]⟩
            have h5i : (512 : Int) ≤ (L.length : Int) := by omega
            clear hCr
            go_wp2
            go_ret
            exact ⟨by rw [HRN.out, HN.out]; rfl, HNO.out _ hB (by rw [HN.out]; decide)⟩
          · replace HN : Veil (RN = 0) := ⟨by rw [HN.out, if_neg h5]⟩
            have h5i : ¬ (512 : Int) ≤ (L.length : Int) := by omega
            obtain ⟨-, -, -, c00, hrP⟩ := HT.out wr hy
            have hro := HRO.out wr hB
            have HCR := Veil.mk hCr
            have HY := Veil.mk hy
            have HBB := Veil.mk hB
            clear hCr hy hB hk hlt HNO
            go_upto_region 13 with (first
              | (refine wpList_ldv rfl 37 _ rfl w.heap.size 2 rfl PV hrP uV rfl iP ?_)
              | (go_at_call 23; refine hro.mono ?_; rintro z W6 ⟨rfl, hb6⟩))
            have hC6 := HCR.out.far hb6
            have hy6 := HY.out.farM hb6
            have hB6 := HBB.out.trans (hb6.mono HBB.out.size)
            have hC6d : RefB B W6.drew R L x c bx bc := hC6.congr rfl (fun _ _ => rfl) (fun _ _ => rfl)
            obtain ⟨x7, c7, W7, hrun7, hc70, hf70, hC7, ho7, hu7, ht7, hown7, hblk7⟩ := refApp1 hC6d.cells hC6d.ev hC6d.bo (Nat.le_trans hBW hB6.size) (by rw [List.length_map]) (by omega) E he1 he2
            obtain ⟨x9, c9, W9, hrun9, hc91, hf91, hC9, ho9, hv9, ht9, hown9⟩ := refApp2 hC7 ho7 hu7 (Nat.le_trans (Nat.le_trans hBW hB6.size) ht7.size) (by rw [List.length_map]) (by omega) (RP == 3)
            have hfin : Veil (RefB B (W9.setCell ⟨R, 1, none⟩ (.slice x9 (L.length + 1) c9)) R (L ++ [(e, RP == 3)]) x7 c7 x9 c9) := ⟨⟨by rw [List.length_append]; exact hC9, by rw [List.length_append, HEE.out]; exact hv9, by rw [List.length_append, HBE.out]; exact ho9⟩⟩
            have HTU : Veil (Turn (OwnR R (.slice x L.length c) (.slice bx L.length bc)) w (W9.setCell ⟨R, 1, none⟩ (.slice x9 (L.length + 1) c9))) := ⟨⟨((ht9.os.trans ht7.os).trans hB6.os), ((ht9.tape.trans ht7.tape).trans hB6.tape), ((ht9.output.trans ht7.output).trans hB6.output), Nat.le_trans hB6.size (Nat.le_trans ht7.size ht9.size), fun k hk hn => by
              have hk6 : k < W6.heap.size := Nat.lt_of_lt_of_le hk hB6.size
              refine ((ht9.block k (Nat.lt_of_lt_of_le hk6 ht7.size) (fun q => ?_)).trans (ht7.block k hk6 hn)).trans (hB6.block k hk)
              rcases q with q | q | q
              · exact hn (.inl q)
              · rcases hown7 k q with r | r
                · exact hn (.inr (.inl r))
                · have : W6.drew.heap.size = W6.heap.size := rfl
                  omega
              · exact hn (.inr (.inr q))⟩⟩
            have HOW : Veil (∀ k, OwnR R (.slice x7 (L.length + 1) c7) (.slice x9 (L.length + 1) c9) k → OwnR R (.slice x L.length c) (.slice bx L.length bc) k ∨ w.heap.size ≤ k) := ⟨fun k q => by
              have s6 := hB6.size
              have s7 : W6.heap.size ≤ _ := ht7.size
              rcases q with q | q | q
              · exact .inl (.inl q)
              · rcases hown7 k q with r | r
                · exact .inl (.inr (.inl r))
                · have : W6.drew.heap.size = W6.heap.size := rfl
                  exact .inr (by omega)
              · rcases hown9 k q with r | r
                · exact .inl (.inr (.inr r))
                · exact .inr (by omega)⟩
            replace HAD : Veil (addB L e = L ++ [(e, RP == 3)]) := ⟨by rw [HAD.out, HN.out]; rfl⟩
            have hxne : ∀ g, (Value.slice x L.length c).ownBlock = some g → g ≠ w.heap.size := fun g hg => by have := (HC.out.ev.blockLt g hg).1; omega
            have hRne : w.heap.size ≠ R := by have := HC.out.cells.lt; omega
            have c06 : W6.cell? ⟨R, 0, none⟩ = some (.slice x L.length c) := hC6.cells.cell 0
            have hw6 := hy6.wholeM
            have hy7 : CellsAt W7 w.heap.size 44 E := hy6.congr ((hblk7 w.heap.size hy6.lt hRne (fun q => hxne _ q rfl)).trans rfl)
            have hw7 := hy7.wholeM
            have hwa : (W6.drew.alloc (.cells E.toArray 44)).rangeAt w.heap.size 0 E := ((hy6.congr (w' := W6.drew) rfl).alloc _).wholeM
            have c0a : (W6.drew.alloc (.cells E.toArray 44)).cell? ⟨R, 0, none⟩ = some (.slice x L.length c) := (hC6d.cells.alloc _).cell 0
            have c91 : (W7.setCell ⟨R, 0, none⟩ (.slice x7 (L.length + 1) c7)).cell? ⟨R, 1, none⟩ = some (.slice bx L.length bc) := hC7.cell 1
            clear hC6 hy6 hB6 hC6d ht7 ht9 hown7 hown9 hblk7 hC7 hC9 ho7 hu7 ho9 hv9 hy7 hb6 hro hrP c00 c0
            refine wp_region_gate (fun w' => w'.cell? ⟨R, 0, none⟩ = some (.slice x L.length c) ∧ w'.rangeAt w.heap.size 0 E) 10 (by kernel_rfl) ?_
            have hS : (fun w' : World => w'.cell? ⟨R, 0, none⟩ = some (.slice x L.length c) ∧ w'.rangeAt w.heap.size 0 E) W6.drew := ⟨c06, hw6⟩
            refine ga 0 ?_ hS ?_ ?_
            rotate_left
            · intro _; go_simp; try with_reducible rfl
            simp only [Act.put, gA, gS, gZ, sI, sZ, sS]
            refine ga 1 ?_ hS ?_ ?_
            rotate_left
            · intro _; go_simp; try with_reducible rfl
            simp only [Act.put, gA, gS, gZ, sI, sZ, sS]
            refine ga 2 ?_ hS ?_ ?_
            rotate_left
            · intro _; go_simp; try with_reducible rfl
            simp only [Act.put, gA, gS, gZ, sI, sZ, sS]
            refine ga 3 ?_ hS ?_ ?_
            rotate_left
            · intro _; go_simp; try with_reducible rfl
            simp only [Act.put, gA, gS, gZ, sI, sZ, sS]
            refine gr 4 ?_ hS ?_ ?_
            rotate_left
            · intro wx hSw; go_split_ands; go_simp; try with_reducible rfl
            simp only [Act.put, gA, gS, gZ, sI, sZ, sS]
            refine wpAnyG_load (i := 5) (dst := some 63) (ty := 44) (x := .tmp 3) (b := w.heap.size) (o := (0)) (cs := E) (by kernel_rfl) (by kernel_rfl) (by kernel_rfl) (by kernel_rfl) (by kernel_rfl) (fun _ _ _ h => h) (by kernel_rfl) (by kernel_rfl) (by kernel_rfl) hS (by kernel_rfl) (fun _ h => h.2) uE rfl iE ?_
            simp only [Act.put, gA, gS, gZ, sI, sZ, sS]
            refine wpAnyG_one (i := 6) rfl (by kernel_rfl) (by kernel_rfl) (fun K hK => ?_)
            refine wp_bs1 31 44 _ rfl E rfl uS infoE17A (by decide) (by decide) he1 ?_
            replace hS : (fun w' : World => w'.cell? ⟨R, 0, none⟩ = some (.slice x L.length c) ∧ w'.rangeAt w.heap.size 0 E) (W6.drew.alloc (.cells E.toArray 44)) := ⟨c0a, hwa⟩
            refine hK.out _ _ (fun _ => hS) ?_
            clear hK K
            try simp only [Act.put, gA, gS, gZ, sI, sZ, sS]
            refine wpAnyG_one (i := 7) rfl (by kernel_rfl) (by kernel_rfl) (fun K hK => ?_)
            refine wpx_app _ _ 31 31 rfl _ _ _ W7 rfl rfl hrun7 ?_
            replace hS : (fun w' : World => w'.cell? ⟨R, 0, none⟩ = some (.slice x L.length c) ∧ w'.rangeAt w.heap.size 0 E) W7 := ⟨hc70, hw7⟩
            refine hK.out _ _ (fun _ => hS) ?_
            clear hK K
            try simp only [Act.put, gA, gS, gZ, sI, sZ, sS]
            refine ga 8 ?_ hS ?_ ?_
            rotate_left
            · intro _; go_simp; try with_reducible rfl
            simp only [Act.put, gA, gS, gZ, sI, sZ, sS]
            refine ga 9 ?_ hS ?_ ?_
            rotate_left
            · intro _; go_simp; try with_reducible rfl
            simp only [Act.put, gA, gS, gZ, sI, sZ, sS]
            refine wpAnyG_one (i := 10) rfl (by kernel_rfl) (by kernel_rfl) (fun K hK => ?_)
            clear c06 c0a hw6 hwa hw7 hrun7
            go_simp
            refine hK.out _ _ (fun h => absurd (show true = false from h) (by decide)) ?_
            clear hK K
            try simp only [Act.put, gA, gS, gZ, sI, sZ, sS]
            refine wpAnyG_done (by kernel_rfl) ?_ _
            clear hS hc70 hf70
            generalize W7.setCell ⟨R, 0, none⟩ (.slice x7 (L.length + 1) c7) = A3 at hrun9 c91 ⊢
            generalize hCB : (RP == 3) = CB at hrun9 hfin HAD ⊢
            clear hCB
            simp only [Exit.then]
            go_wp2_with (first
              | (refine wpList_appx rfl _ _ _ _ rfl _ _ _ W9 rfl rfl hrun9 ?_))
            go_ret
            exact ⟨by rw [HRN.out, HN.out]; rfl, ⟨x7, c7, x9, c9, by rw [HAD.out]; exact hfin.out, by rw [HAD.out, List.length_append, List.length_singleton]; exact HOW.out⟩, HTU.out⟩
def flagsD (st : Ds) : List Bool := st.L.map fun e => decide (e.dot ∈ st.F)
structure GoodR (st : Ds) (K : List Ent) (G : List Bool) : Prop where
  cnt : cntL K = st.B
  good : GoodB K
  klen : K.length ≤ st.L.length
  seen : ∀ e ∈ st.L, hasB st.S e.da e.ds = true
  fin : ∀ x ∈ st.F, ∃ e ∈ st.L, e.dot = x
  kin : ∀ y ∈ K, y.1 ∈ st.L
  flags : G = flagsD st
theorem GoodR.new : GoodR newS [] [] := ⟨rfl, (fun x hx => by cases hx), Nat.le_refl _, (fun e he => by cases he), (fun x hx => by cases hx), (fun x hx => by cases hx), rfl⟩
def actR (K : List Ent) (e : Ev) : List Ent := if e.kind = 1 ∨ e.kind = 2 then K else addB K e
theorem GoodR.fresh {st : Ds} {K : List Ent} {G : List Bool} (h : GoodR st K G) {e : Ev} (hr : refD st e = 0) : ∀ x ∈ st.L, x.dot ≠ e.dot := fun x hx q => by
  have h1 := h.seen x hx
  have h2 := (refD_zero hr).2.1
  have q1 : x.da = e.da := congrArg Prod.fst q
  have q2 : x.ds = e.ds := congrArg Prod.snd q
  rw [q1, q2, h2] at h1
  cases h1
theorem GoodR.lookK {st : Ds} {K : List Ent} {G : List Bool} (h : GoodR st K G) {e : Ev} (hr : refD st e = 0) : lookB K e.dot = none := lookB_none.2 fun y hy => h.fresh hr _ (h.kin y hy)
theorem kind34 {e : Ev} (hr : rightB e = true) (hk : ¬ (e.kind = 1 ∨ e.kind = 2)) : e.kind = 3 ∨ e.kind = 4 := by
  rcases rightB_kind hr with h | h | h | h
  · exact absurd (.inl h) hk
  · exact absurd (.inr h) hk
  · exact .inl h
  · exact .inr h
theorem refB_free {K : List Ent} {e : Ev} (hr : rightB e = true) (hk : e.kind = 3 ∨ e.kind = 4) (hl : lookB K e.dot = none) (hn : K.length < 512) : refB K e = 0 := by
  unfold refB
  rw [if_neg (by rw [hr]; simp), if_neg (by omega), if_neg (by rw [hl]; simp), if_neg (by omega)]
theorem GoodR.refK {st : Ds} {K : List Ent} {G : List Bool} (h : GoodR st K G) {e : Ev} (hr : refD st e = 0) (hk : ¬ (e.kind = 1 ∨ e.kind = 2)) : refB K e = 0 ∧ refB st.B e = 0 := by
  obtain ⟨h1, -, -, h4⟩ := refD_zero hr
  have h5 := h.klen
  refine ⟨refB_free h1 (kind34 h1 hk) (h.lookK hr) (by omega), refB_free h1 (kind34 h1 hk) ?_ ?_⟩
  · rw [← h.cnt]; exact cnt_look (h.lookK hr)
  · rw [← h.cnt]; have := cnt_len K; omega
theorem GoodR.role {st : Ds} {K : List Ent} {G : List Bool} (h : GoodR st K G) (who : Int) (v : List Int) : roleP K who v = roleP st.B who v := by rw [← h.cnt, role_cnt]
theorem GoodB.three {K : List Ent} (h : GoodB K) (who : Int) (v : List Int) : roleP K who v ≤ 3 := role_three K who v fun x hx => (good_role (h x hx).2.1 (h x hx).2.2).2.1
theorem GoodR.may {st : Ds} {K : List Ent} {G : List Bool} (h : GoodR st K G) (e : Ev) (least : Int) : mayB st e least = decide (least ≤ roleP K e.da e.past) := by unfold mayB; rw [h.role]
theorem GoodR.addK {st : Ds} {K : List Ent} {G : List Bool} (h : GoodR st K G) {e : Ev} (hr : refD st e = 0) (hk : ¬ (e.kind = 1 ∨ e.kind = 2)) : addB K e = K ++ [(e, actB st e)] ∧ actB st e = (roleP K e.da e.past == 3) ∧ actK st e = cntL (K ++ [(e, actB st e)]) := by
  obtain ⟨r1, r2⟩ := h.refK hr hk
  have h3 := h.good.three e.da e.past
  have ha : actB st e = (roleP K e.da e.past == 3) := by
    unfold actB
    rw [if_neg (fun q => hk (.inl q)), if_neg (fun q => hk (.inr q)), r2, h.may]
    by_cases q : roleP K e.da e.past = 3
    · rw [q]; rfl
    · have q1 : ¬ (3 : Int) ≤ roleP K e.da e.past := by omega
      rw [decide_eq_false q1, beq_eq_false_iff_ne.2 q]; rfl
  refine ⟨by unfold addB; rw [if_pos r1, ha], ha, ?_⟩
  unfold actK
  rw [if_neg hk, cnt_app, h.cnt]
  by_cases q : roleP K e.da e.past = 3
  · have hm : mayB st e 3 = true := by rw [h.may, q]; rfl
    rw [if_pos hm, ha, q]
    unfold addB
    rw [if_pos r2, ← h.role, q]; rfl
  · have hm : ¬ mayB st e 3 = true := by rw [h.may]; simp; omega
    rw [if_neg hm, ha, if_neg (by simpa using q)]
theorem cntB_new {K : List Ent} {e : Ev} {b : Bool} (h : lookB K e.dot = none) : cntB (K ++ [(e, b)]) e.dot = b := by
  unfold cntB
  rw [lookB_app (e, b) h, if_pos rfl]
theorem stepS_get {S : List Int} (hS : S.length = 8) {a : Int} (ha : 0 ≤ a) (ha8 : a < 8) (j : Nat) : (stepS S a)[j]?.getD 0 = if j = a.toNat then S[a.toNat]?.getD 0 + 1 else S[j]?.getD 0 := by
  unfold stepS
  rw [List.getElem?_set]
  by_cases q : a.toNat = j
  · rw [if_pos q, if_pos (by rw [hS]; omega), if_pos q.symm]; rfl
  · rw [if_neg q, if_neg (fun r => q r.symm)]
theorem has_step {S : List Int} (hS : S.length = 8) {a : Int} (ha : 0 ≤ a) (ha8 : a < 8) {x s : Int} (h : hasB S x s = true) : hasB (stepS S a) x s = true := by
  unfold hasB at *
  simp only [Bool.and_eq_true, decide_eq_true_eq] at h ⊢
  refine ⟨h.1, h.2.1, ?_⟩
  rw [stepS_get hS ha ha8]
  have h2 := h.2.2
  by_cases q : x.toNat = a.toNat
  · rw [q] at h2; rw [if_pos q]; omega
  · rw [if_neg q]; exact h2
theorem ready_seq {S : List Int} {e : Ev} (h : readyB S e = true) : S[e.da.toNat]?.getD 0 = e.ds - 1 := by
  unfold readyB at h
  simp only [Bool.and_eq_true, beq_iff_eq] at h
  exact h.2.1
theorem right_seq {e : Ev} (h : rightB e = true) : e.ds ≠ 0 := by
  unfold rightB rightDotB at h
  simp only [Bool.and_eq_true, decide_eq_true_eq, Bool.not_eq_true', beq_eq_false_iff_ne] at h
  exact h.1.2.1
theorem has_new {S : List Int} (hS : S.length = 8) {e : Ev} (he : e.Ok) (h : readyB S e = true) (hr : rightB e = true) : hasB (stepS S e.da) e.da e.ds = true := by
  have h8 := rightB_author hr
  have h0 := he.dot.1.1
  unfold hasB
  simp only [Bool.and_eq_true, decide_eq_true_eq, Bool.not_eq_true', beq_eq_false_iff_ne]
  refine ⟨h8, right_seq hr, ?_⟩
  rw [stepS_get hS h0 h8, if_pos rfl, ready_seq h]; omega
theorem GoodR.notF {st : Ds} {K : List Ent} {G : List Bool} (h : GoodR st K G) {e : Ev} (hr : refD st e = 0) : e.dot ∉ st.F := fun q => by
  obtain ⟨x, hx, hd⟩ := h.fin _ q
  exact h.fresh hr x hx hd
theorem actF_mem {st : Ds} {e : Ev} {x : Int × Int} : x ∈ actF st e ↔ x ∈ st.F ∨ (actB st e = true ∧ x = e.dot) := by
  unfold actF
  by_cases q : actB st e = true
  · rw [if_pos q]; simp [q]
  · rw [if_neg q]; simp [q]
theorem GoodR.flagsNew {st : Ds} {K : List Ent} {G : List Bool} (h : GoodR st K G) {e : Ev} (hr : refD st e = 0) : G ++ [actB st e] = flagsD (apS st e) := by
  have hf := h.notF hr
  rw [h.flags]
  unfold flagsD apS
  simp only
  rw [List.map_append, List.map_singleton]
  congr 1
  · refine List.map_congr_left fun x hx => ?_
    have hne := h.fresh hr x hx
    rw [Bool.eq_iff_iff, decide_eq_true_eq, decide_eq_true_eq, actF_mem]
    exact ⟨.inl, fun q => q.elim id fun q => absurd q.2 hne⟩
  · have : decide (e.dot ∈ actF st e) = actB st e := by
      rw [Bool.eq_iff_iff, decide_eq_true_eq, actF_mem]
      exact ⟨fun q => q.elim (fun r => absurd r hf) (·.1), fun q => .inr ⟨q, rfl⟩⟩
    rw [this]
theorem GoodR.ap {st : Ds} {K : List Ent} {G : List Bool} (h : GoodR st K G) (hG : GoodD st) {e : Ev} (he : e.Ok) (hr : refD st e = 0) : GoodR (apS st e) (actR K e) (G ++ [actB st e]) where
  cnt := by
    show cntL (actR K e) = Go.Proofs.YtmbdohnmbkpfaaaGreat.actK st e
    unfold actR
    by_cases hk : e.kind = 1 ∨ e.kind = 2
    · rw [if_pos hk, h.cnt]; unfold Go.Proofs.YtmbdohnmbkpfaaaGreat.actK; rw [if_pos hk]
    · obtain ⟨a1, -, a3⟩ := h.addK hr hk
      rw [if_neg hk, a1, a3]
  good := by
    unfold actR
    split
    · exact h.good
    · exact h.good.add e he
  klen := by
    have h1 := h.klen
    have : (actR K e).length ≤ K.length + 1 := by
      unfold actR
      split
      · omega
      · unfold Go.Proofs.YtmbdohnmbkpfaaaGreat.addB; split <;> simp
    show (actR K e).length ≤ (st.L ++ [e]).length
    rw [List.length_append, List.length_singleton]; omega
  seen := fun x hx => by
    obtain ⟨h1, -, h3, -⟩ := refD_zero hr
    rcases List.mem_append.1 hx with q | q
    · exact has_step hG.slen he.dot.1.1 (rightB_author h1) (h.seen x q)
    · rw [List.mem_singleton.1 q]; exact has_new hG.slen he h3 h1
  fin := fun x hx => by
    rcases actF_mem.1 hx with q | ⟨-, q⟩
    · obtain ⟨y, hy, e1⟩ := h.fin x q
      exact ⟨y, List.mem_append_left _ hy, e1⟩
    · exact ⟨e, List.mem_append_right _ (by simp), q.symm⟩
  kin := fun y hy => by
    unfold actR at hy
    split at hy
    · exact List.mem_append_left _ (h.kin y hy)
    · rename_i hk
      rw [(h.addK hr hk).1] at hy
      rcases List.mem_append.1 hy with q | q
      · exact List.mem_append_left _ (h.kin y q)
      · rw [List.mem_singleton.1 q]; exact List.mem_append_right _ (by simp)
  flags := h.flagsNew hr
end Go.Proofs.YtmbdohnmbkpfaaaGreat
