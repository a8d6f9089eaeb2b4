/- CausalOrder, walked. -/
import Derived.Test.YtmoabomoodddkaaBp
import Derived.Test.YtmoabomoodddkaaGoC
import Derived.Test.YtmoabomoodddkaaCausalVectorsW
namespace Go.Proofs.Ytmoabomoodddkaa
open Go.RowKit Go.Shelf
set_option maxRecDepth 20000
set_option linter.unusedSimpArgs false
theorem vec_neq (l m : List Int) (hl : l.length = 8) (hm : m.length = 8) (w : World) : (binOp .neq 24 (.agg (l.map (Value.int .u32)).toArray) (.agg (m.map (Value.int .u32)).toArray)).run Try.prog w = .ok (.bool (!(l == m))) w := by
  rw [run_neq_struct]
  have := run_equalIn_rows (P := Try.prog) w 9998 .u32 l m Try.underlying24 Try.underlying22 (by kernel_rfl) (by kernel_rfl) hl hm
  unfold row at this
  rw [this]; rfl
theorem advS_succ (S : List Int) (xs : List Ev) (j : Nat) (hj : j < xs.length) : advS S (xs.take (j + 1)) = incS (advS S (xs.take j)) xs[j].da := by
  unfold advS
  rw [List.take_succ_eq_append_getElem hj, List.foldl_append]; rfl
theorem EvsAt.rng {w : World} {x : Option Addr} {len cap : Nat} {ds : List Ev} (h : EvsAt w x len cap ds) (k : Nat) (hk : k < ds.length) : ∃ b off, x = some ⟨b, off, none⟩ ∧ w.rangeAt b (off + k * 17) ds[k].cells := by
  rcases h.at_ with h0 | ⟨b, off, hx, hc⟩
  · have := h.len_eq; omega
  · exact ⟨b, off, hx, fun j v hv => hc k hk j v hv⟩
theorem PutR.run {n : Nat} {S : List Int} {L : List Ev} {e : Ev} {xs : List Ev} {S2 : List Int} {L2 : List Ev} (g : Good n S L) (he : e.Ok) (h : PutR S L e xs S2 L2) : (∀ j (hj : j < xs.length), readyB (advS S (xs.take j)) xs[j] = true) ∧ (∀ j, (advS S (xs.take j)).length = 8 ∧ ∀ q ∈ advS S (xs.take j), 0 ≤ q ∧ q ≤ 4294967295) ∧ advS S xs = S2 := by
  rcases h with ⟨_, rfl, rfl, rfl⟩ | ⟨hr, ht⟩
  · refine ⟨fun j hj => (by cases hj), fun j => ?_, rfl⟩
    rw [List.take_nil]; exact ⟨g.len, g.rng⟩
  · exact ⟨ht.rdy, ht.mid (insE_ok he g.ok) g.len g.rng, ht.adv⟩
set_option maxHeartbeats 16000000 in
theorem cor_walk (x : Option Addr) (len cap : Nat) (ds : List Ev) (w : World) (hd : EvsAt w x len cap ds) :
    Calls Try.prog 7 #[.slice x len cap] w fun e w' => e = .returned (.bool true) ∧ Below w.heap.size w w' := by
  have hdl := hd.len_eq
  have HDL := Veil.mk hdl
  clear hdl
  have uE := Try.underlying37
  have uV := Try.underlying24
  go_enter Try.func7, Try.ntmps7
  go_wp2_with (first
    | (go_at_call 27; refine (new_any w).mono ?_; rintro e w1 ⟨H, b, rfl, hC1, hB1, hb1, hH1⟩))
  have hv0 : CellsAt (w1.alloc (.cells #[.int .u32 0, .int .u32 0, .int .u32 0, .int .u32 0, .int .u32 0, .int .u32 0, .int .u32 0, .int .u32 0] 24)) w1.heap.size 24 (([0, 0, 0, 0, 0, 0, 0, 0] : List Int).map (Value.int .u32)) := CellsAt.new w1 24 [.int .u32 0, .int .u32 0, .int .u32 0, .int .u32 0, .int .u32 0, .int .u32 0, .int .u32 0, .int .u32 0]
  have hBa : Below w1.heap.size w1 (w1.alloc (.cells #[.int .u32 0, .int .u32 0, .int .u32 0, .int .u32 0, .int .u32 0, .int .u32 0, .int .u32 0, .int .u32 0] 24)) := (Below.refl _ _).alloc (Nat.le_refl _) _
  have hC0 := hC1.far hBa
  have hBw := hB1.trans (hBa.mono hB1.size)
  have hvb : w.heap.size ≤ w1.heap.size := hB1.size
  have hvH : w1.heap.size ≠ H := fun q => by have := hC1.cells.lt; omega
  have hvB : w1.heap.size ≠ b := fun q => by have := hC1.wait.lt; omega
  generalize w1.alloc (.cells #[.int .u32 0, .int .u32 0, .int .u32 0, .int .u32 0, .int .u32 0, .int .u32 0, .int .u32 0, .int .u32 0] 24) = W0 at hv0 hC0 hBw ⊢
  generalize w1.heap.size = Bv at hv0 hvb hvH hvB ⊢
  clear hBa hC1 hB1
  go_loopw [5] (fun p wr => ∃ k : Nat, k ≤ len ∧ k ≤ 80 ∧ p = .int .i64 (k : Nat) ∧ ∃ S L, BufC wr H b S L ∧ Good k S L ∧ CellsAt wr Bv 24 (S.map (Value.int .u32)) ∧ Below w.heap.size w wr) (fun p _ => len - (intOf p).toNat)
  case atStart => exact ⟨0, Nat.zero_le _, by omega, rfl, _, _, hC0, Good.zero, hv0, hBw⟩
  case round =>
    obtain ⟨k, hk, hk80, rfl, S, L, hC, hG, hV, hB⟩ := hrel
    clear hv0 hC0 hBw
    by_cases h12 : k < len ∧ k < 80
    · obtain ⟨h1, h2⟩ := h12
      have h1i : (k : Int) < (len : Int) := by omega
      have h2i : (k : Int) < 80 := by omega
      have hkd : k < ds.length := by have := HDL.out; omega
      obtain ⟨eb, off, rfl, hre⟩ := (hd.below hB).rng k hkd
      have hok := hd.ok ds[k] (List.getElem_mem hkd)
      have hput := put_any k H b S L ds[k] wr hC hG hok (by omega)
      have iE : (Try.prog.info? 37).map (·.size) = some ds[k].cells.length := by rw [ev_len _ hok.past]; kernel_rfl
      have HOK := Veil.mk hok
      have hw1 : IntKind.i64.wrap ((k : Int) + 1) = (k : Int) + 1 := by rw [IntKind.wrap_i64]; omega
      generalize ds[k] = ek at hre hput iE HOK
      have HEK : Veil (∃ E, ek.cells = E) := ⟨_, rfl⟩
      obtain ⟨E, hE⟩ := HEK.out
      rw [hE] at hre hput iE
      clear HEK hE hok
      go_wp2_with (first
        | (refine wpList_ldv rfl 37 _ rfl eb (off + k * 17) rfl E hre uE rfl iE ?_)
        | (go_at_call 28; refine hput.mono ?_; rintro e W1 ⟨y, c, xs, S2, L2, rfl, hP, hG2, hxo, hC2, hO, hT⟩))
      have hRUN := Veil.mk (hP.run hG HOK.out)
      have hV1 : CellsAt W1 Bv 24 (S.map (Value.int .u32)) := hV.congr (hT.block Bv hV.lt (fun q => q.elim hvB hvH))
      have hBvw : Bv < wr.heap.size := hV.lt
      have hB1 : Below w.heap.size w W1 := hB.trans (hT.below hB.size (fun q hq => by rcases hq with rfl | rfl <;> assumption))
      have hxl : xs.length ≤ 1000 := by
        rcases hP with ⟨_, rfl, _⟩ | ⟨hr, ht⟩
        · simp
        · have := ht.len (sorted_insE hG.srt ek (refN_look hr)); rw [length_insE] at this; have := hG.few; omega
      clear hP hput hre iE hV hC hT hB hd
      go_loopw [8] (fun p wr2 => ∃ j : Nat, j ≤ xs.length ∧ p = .int .i64 (j : Nat) ∧ CellsAt wr2 Bv 24 ((advS S (xs.take j)).map (Value.int .u32)) ∧ Turn (fun q => q = Bv) W1 wr2) (fun p _ => xs.length - (intOf p).toNat)
      case atStart => exact ⟨0, Nat.zero_le _, rfl, hV1, Turn.refl _ _⟩
      case round =>
        obtain ⟨j, hj, rfl, hVj, hTj⟩ := hrel
        clear hV1
        have HOj : Veil (OwnI wr _ 37 17 (.slice y xs.length c) (xs.map Ev.cells)) := ⟨hO.congr (fun g hg => hTj.block g (hO.blockLt g hg).1 (fun q => by have := (hO.blockLt g hg).2.1; omega))⟩
        by_cases hjn : j < xs.length
        · have hji : (j : Int) < (xs.length : Int) := by omega
          obtain ⟨g, rfl, -, hxr⟩ := HOj.out.at_ j (by rw [List.length_map]; exact hjn)
          rw [List.getElem_map] at hxr
          have hgB : g ≠ Bv := fun q => by have := (hO.blockLt g rfl).2.1; omega
          have hrd := hRUN.out.1 j hjn
          have hmd := hRUN.out.2.1 j
          have hso := advS_succ S xs j hjn
          have hxk := hxo xs[j] (List.getElem_mem hjn)
          generalize xs[j] = xj at hxr hrd hso hxk
          generalize advS S (xs.take j) = Sj at hVj hrd hmd hso
          have hRB := right_bounds hxk.dot.2.1 (ready_right hrd).1
          have hRQ := (ready_right hrd).2
          have HRD : Veil (∀ W, Calls Try.prog 22 #[.agg (Sj.map (Value.int .u32)).toArray, .agg xj.cells.toArray] W fun r w' => r = .returned (.bool true) ∧ Below W.heap.size W w') := ⟨fun W => by
            have := rready_any Sj xj W hmd.1 (fun q hq => by have := hmd.2 q hq; omega) hxk.past hxk.dot.1.1 hxk.dot.2.1 (by have := hxk.dot.2.2; omega) hxk.par.1.1 hxk.par.2.1
            rw [hrd] at this; exact this⟩
          have iV : (Try.prog.info? 24).map (·.size) = some (Sj.map (Value.int .u32)).length := by rw [List.length_map, hmd.1]; exact sizeV8c
          have iX : (Try.prog.info? 37).map (·.size) = some xj.cells.length := by rw [ev_len _ hxk.past]; kernel_rfl
          have HT : Veil (∀ W, Below wr.heap.size wr W → W.rangeAt Bv 0 (Sj.map (Value.int .u32)) ∧ W.rangeAt g (j * 17) xj.cells) := ⟨fun W hq => ⟨(hVj.farM hq).wholeM, fun i v hv => (hq.cell (block_lt_of_cell (hxr i v hv))).trans (hxr i v hv)⟩⟩
          have hw2 : IntKind.i64.wrap ((j : Int) + 1) = (j : Int) + 1 := by rw [IntKind.wrap_i64]; omega
          obtain ⟨an, han⟩ := Int.eq_ofNat_of_zero_le hxk.dot.1.1
          have han8 : an < 8 := by have := hRB.1; omega
          have hca : xj.cells[0]? = some (.int .u8 (an : Int)) := by rw [← han]; rfl
          have hqv : (Sj.map (Value.int .u32))[an]? = some (.int .u32 (xj.ds - 1)) := by
            rw [han, Int.toNat_natCast] at hRQ
            rw [List.getElem?_map, List.getElem?_eq_getElem (by rw [hmd.1]; exact han8)]
            rw [List.getElem?_eq_getElem (by rw [hmd.1]; exact han8)] at hRQ
            simp only [Option.getD_some] at hRQ
            rw [hRQ]; rfl
          have hnx : (Sj.map (Value.int .u32)).set an (.int .u32 xj.ds) = (advS S (xs.take (j + 1))).map (Value.int .u32) := by
            rw [hso]
            unfold incS
            rw [hRQ, List.map_set, han, Int.toNat_natCast]
            congr 2
            omega
          have hdsr : 1 ≤ xj.ds ∧ xj.ds ≤ 1048576 := hRB.2
          generalize xj.ds = dq at hqv hnx hdsr
          generalize xj.cells = XC at HRD iX HT hca
          generalize hSV : Sj.map (Value.int .u32) = SV at HRD iV HT hqv hnx hVj
          clear hxr hrd hmd hso hxk hRB hRQ hSV han
          go_upto_region 10 with fail
          refine wp_region_gateT (fun w' => w'.rangeAt Bv 0 SV ∧ w'.rangeAt g (j * 17) XC) (fun _ => True) 99 (by kernel_rfl) ?_
          have hT : (fun w' : World => w'.rangeAt Bv 0 SV ∧ w'.rangeAt g (j * 17) XC) wr.drew := HT.out _ (Below.refl _ _).drew
          have hS : (fun _ : World => True) wr.drew := trivial
          refine wpAnyT_load (i := 0) (dst := some 37) (ty := 24) (x := .tmp 4) (b := Bv) (o := (0)) (cs := SV) (by kernel_rfl) (by kernel_rfl) (by kernel_rfl) (by kernel_rfl) (by kernel_rfl) (fun _ _ _ h => h) (by kernel_rfl) hT (fun _ => hS) (by kernel_rfl) (fun _ h => h.1) uV rfl iV ?_
          simp only [Act.put, List.getElem_toArray, List.getElem_cons_succ, List.getElem_cons_zero, List.setIfInBounds_toArray, List.set_cons_zero, List.set_cons_succ]
          refine wpAnyT_held (i := 1) (v := ?_) rfl (by kernel_rfl) (by kernel_rfl) (by kernel_rfl) (fun _ _ _ h => h) (by kernel_rfl) hT (fun _ => hS) (by kernel_rfl) ?_ ?_
          rotate_left
          · intro wx hSw; go_split_ands; go_simp; try with_reducible rfl
          simp only [Act.put, List.getElem_toArray, List.getElem_cons_succ, List.getElem_cons_zero, List.setIfInBounds_toArray, List.set_cons_zero, List.set_cons_succ]
          refine wpAnyT_held (i := 2) (v := ?_) rfl (by kernel_rfl) (by kernel_rfl) (by kernel_rfl) (fun _ _ _ h => h) (by kernel_rfl) hT (fun _ => hS) (by kernel_rfl) ?_ ?_
          rotate_left
          · intro wx hSw; go_split_ands; go_simp; try with_reducible rfl
          simp only [Act.put, List.getElem_toArray, List.getElem_cons_succ, List.getElem_cons_zero, List.setIfInBounds_toArray, List.set_cons_zero, List.set_cons_succ]
          refine wpAnyT_held (i := 3) (v := ?_) rfl (by kernel_rfl) (by kernel_rfl) (by kernel_rfl) (fun _ _ _ h => h) (by kernel_rfl) hT (fun _ => hS) (by kernel_rfl) ?_ ?_
          rotate_left
          · intro wx hSw; go_split_ands; go_simp; try with_reducible rfl
          simp only [Act.put, List.getElem_toArray, List.getElem_cons_succ, List.getElem_cons_zero, List.setIfInBounds_toArray, List.set_cons_zero, List.set_cons_succ]
          refine wpAnyT_load (i := 4) (dst := some 41) (ty := 37) (x := .tmp 40) (b := g) (o := ((j * 17))) (cs := XC) (by kernel_rfl) (by kernel_rfl) (by kernel_rfl) (by kernel_rfl) (by kernel_rfl) (fun _ _ _ h => h) (by kernel_rfl) hT (fun _ => hS) (by kernel_rfl) (fun _ h => h.2) uE rfl iX ?_
          simp only [Act.put, List.getElem_toArray, List.getElem_cons_succ, List.getElem_cons_zero, List.setIfInBounds_toArray, List.set_cons_zero, List.set_cons_succ]
          refine wpAnyT_one (i := 5) rfl (by kernel_rfl) (by kernel_rfl) (fun K hK => ?_)
          refine wpx_call _ _ (by kernel_rfl) ((HRD.out _).mono ?_)
          rintro x W3 ⟨rfl, hq⟩
          refine ⟨_, rfl, ?_⟩
          have hb3 : Below wr.heap.size wr W3 := ((Below.refl _ _).drew).trans (hq.mono (Nat.le_refl _))
          clear hq
          replace hT : (fun w' : World => w'.rangeAt Bv 0 SV ∧ w'.rangeAt g (j * 17) XC) W3 := HT.out _ hb3
          replace hS : (fun _ : World => True) W3 := trivial
          refine hK.out _ _ hT (fun _ => hS) ?_
          clear hK K
          try simp only [Act.put, List.getElem_toArray, List.getElem_cons_succ, List.getElem_cons_zero, List.setIfInBounds_toArray, List.set_cons_zero, List.set_cons_succ]
          refine wpAnyT_held (i := 6) (v := ?_) rfl (by kernel_rfl) (by kernel_rfl) (by kernel_rfl) (fun _ _ _ h => h) (by kernel_rfl) hT (fun _ => hS) (by kernel_rfl) ?_ ?_
          rotate_left
          · intro wx hSw; go_split_ands; go_simp; try with_reducible rfl
          simp only [Act.put, List.getElem_toArray, List.getElem_cons_succ, List.getElem_cons_zero, List.setIfInBounds_toArray, List.set_cons_zero, List.set_cons_succ]
          refine wpAnyT_done (by kernel_rfl) ?_ _
          clear hT hS
          have hV3 := hVj.farM hb3
          have hca3 : W3.cell? ⟨g, j * 17, none⟩ = some (.int .u8 (an : Int)) := by have := (HT.out W3 hb3).2 0 _ hca; rw [Nat.add_zero] at this; exact this
          have hq3 : W3.cell? ⟨Bv, an, none⟩ = some (.int .u32 (dq - 1)) := (hV3.cell an).trans hqv
          have hfz := hV3.frozen an
          have hani : (an : Int) < 8 := by omega
          have hwq : IntKind.u32.wrap (dq - 1 + 1) = dq := by rw [IntKind.wrap_u32]; omega
          go_wp2
          go_roundw
          case rel => exact ⟨j + 1, hjn, by push_cast; rfl, by rw [← hnx]; exact hV3.set an _, hTj.trans ((Turn.of_below hb3).trans (Turn.of_setCell (p := fun q => q = Bv) W3 (a := ⟨Bv, an, none⟩) rfl _))⟩
          case measure => simp [intOf]; omega
        · have hji : ¬ (j : Int) < (xs.length : Int) := by omega
          obtain rfl : j = xs.length := by omega
          rw [List.take_length, hRUN.out.2.2] at hVj
          have hC4 : BufC wr H b S2 L2 := hC2.congr (hTj.block H hC2.cells.lt (fun q => hvH q.symm)) (hTj.block b hC2.wait.lt (fun q => hvB q.symm))
          have HSN : Veil (∀ W, Below wr.heap.size wr W → Calls Try.prog 29 #[.pointer (some ⟨H, 0, none⟩)] W fun r w' => r = .returned (.agg (S2.map (Value.int .u32)).toArray) ∧ Below W.heap.size W w') := ⟨fun W hq => seen_any H b S2 L2 W (hC4.far hq)⟩
          have heq : ∀ wx, (binOp .neq 24 (.agg (S2.map (Value.int .u32)).toArray) (.agg (S2.map (Value.int .u32)).toArray)).run Try.prog wx = .ok (.bool false) wx := fun wx => by rw [vec_neq _ _ hG2.len hG2.len, beq_self_eq_true]; rfl
          have iV : (Try.prog.info? 24).map (·.size) = some (S2.map (Value.int .u32)).length := by rw [List.length_map, hG2.len]; exact sizeV8c
          have HT : Veil (∀ W, Below wr.heap.size wr W → W.rangeAt Bv 0 (S2.map (Value.int .u32))) := ⟨fun W hq => (hVj.farM hq).wholeM⟩
          have HV4 := Veil.mk hVj
          have HB4 : Veil (Below w.heap.size w wr) := ⟨hB1.trans (hTj.below hB1.size (fun q hq => by rw [hq]; exact hvb))⟩
          have hlr : (xs.length : Int) < (xs.length : Int) ↔ False := by simp
          obtain ⟨SV, hSV⟩ : ∃ SV, S2.map (Value.int .u32) = SV := ⟨_, rfl⟩
          rw [hSV] at HSN heq iV HT HV4
          clear hVj HOj hO
          go_upto_region 13 with fail
          refine wp_region_gateT (fun w' => w'.rangeAt Bv 0 SV) (fun _ => True) 99 (by kernel_rfl) ?_
          have hT : (fun w' : World => w'.rangeAt Bv 0 SV) wr.drew := HT.out _ (Below.refl _ _).drew
          have hS : (fun _ : World => True) wr.drew := trivial
          refine wpAnyT_held (i := 0) (v := ?_) rfl (by kernel_rfl) (by kernel_rfl) (by kernel_rfl) (fun _ _ _ h => h) (by kernel_rfl) hT (fun _ => hS) (by kernel_rfl) ?_ ?_
          rotate_left
          · intro wx hSw; go_split_ands; go_simp; try with_reducible rfl
          simp only [Act.put, List.getElem_toArray, List.getElem_cons_succ, List.getElem_cons_zero, List.setIfInBounds_toArray, List.set_cons_zero, List.set_cons_succ]
          refine wpAnyT_load (i := 2) (dst := some 56) (ty := 24) (x := .tmp 4) (b := Bv) (o := (0)) (cs := SV) (by kernel_rfl) (by kernel_rfl) (by kernel_rfl) (by kernel_rfl) (by kernel_rfl) (fun _ _ _ h => h) (by kernel_rfl) hT (fun _ => hS) (by kernel_rfl) (fun _ h => h) uV rfl iV ?_
          simp only [Act.put, List.getElem_toArray, List.getElem_cons_succ, List.getElem_cons_zero, List.setIfInBounds_toArray, List.set_cons_zero, List.set_cons_succ]
          refine wpAnyT_one (i := 1) rfl (by kernel_rfl) (by kernel_rfl) (fun K hK => ?_)
          refine wpx_call _ _ (by kernel_rfl) ((HSN.out _ (Below.refl _ _).drew).mono ?_)
          rintro x W3 ⟨rfl, hq⟩
          refine ⟨_, rfl, ?_⟩
          have hb3 : Below wr.heap.size wr W3 := ((Below.refl _ _).drew).trans (hq.mono (Nat.le_refl _))
          clear hq
          replace hT : (fun w' : World => w'.rangeAt Bv 0 SV) W3 := HT.out _ hb3
          replace hS : (fun _ : World => True) W3 := trivial
          refine hK.out _ _ hT (fun _ => hS) ?_
          clear hK K
          try simp only [Act.put, List.getElem_toArray, List.getElem_cons_succ, List.getElem_cons_zero, List.setIfInBounds_toArray, List.set_cons_zero, List.set_cons_succ]
          refine wpAnyT_held (i := 3) (v := .bool false) rfl (by kernel_rfl) (by kernel_rfl) (by kernel_rfl) (fun _ _ _ h => h) (by kernel_rfl) hT (fun _ => hS) (by kernel_rfl) ?_ ?_
          · intro wx hSw; go_split_ands; go_simp
          simp only [Act.put, List.getElem_toArray, List.getElem_cons_succ, List.getElem_cons_zero, List.setIfInBounds_toArray, List.set_cons_zero, List.set_cons_succ]
          refine wpAnyT_done (by kernel_rfl) ?_ _
          clear hT hS
          go_wp2
          go_roundw
          case rel => exact ⟨k + 1, h1, by omega, by push_cast; rfl, S2, L2, hC4.far hb3, hG2, by rw [hSV]; exact HV4.out.farM hb3, HB4.out.trans (hb3.mono HB4.out.size)⟩
          case measure => simp [intOf]; omega
    · have hcase : ¬ (k : Int) < (len : Int) ∨ ((k : Int) < (len : Int) ∧ ¬ (k : Int) < 80) := by omega
      have hwt := waiting_any H b S L wr hC hG.few
      rcases hcase with h1i | ⟨h1i, h2i⟩
      all_goals
        clear hk hk80 h12
        go_wp2_with (go_at_call 30; refine hwt.mono ?_; rintro e W1 ⟨v, rfl, hO, hb5⟩; obtain ⟨y, c, rfl⟩ := hO.isSlice; rw [List.length_map] at hO ⊢)
        have hV1 := hV.farM hb5
        have hB1 := hB.trans (hb5.mono hB.size)
        have HNN : Veil (∀ e ∈ L, readyB S e = false) := ⟨fun e he => by have := hG.none; unfold firstR at this; rw [List.find?_eq_none] at this; simpa using this e he⟩
        clear hwt hd hC hV hb5 hB
        go_loopw [10] (fun p wr2 => ∃ j : Nat, j ≤ L.length ∧ p = .int .i64 (j : Nat) ∧ Below W1.heap.size W1 wr2) (fun p _ => L.length - (intOf p).toNat)
        case atStart => exact ⟨0, Nat.zero_le _, rfl, Below.refl _ _⟩
        case round =>
          obtain ⟨j, hj, rfl, hbj⟩ := hrel
          by_cases hjn : j < L.length
          · have hji : (j : Int) < (L.length : Int) := by omega
            obtain ⟨g, rfl, -, hxr⟩ := (hO.far hbj).at_ j (by rw [List.length_map]; exact hjn)
            rw [List.getElem_map] at hxr
            have hrd := HNN.out L[j] (List.getElem_mem hjn)
            have hxk := hG.ok L[j] (List.getElem_mem hjn)
            generalize L[j] = xj at hxr hrd hxk
            have HRD : Veil (∀ W, Calls Try.prog 22 #[.agg (S.map (Value.int .u32)).toArray, .agg xj.cells.toArray] W fun r w' => r = .returned (.bool false) ∧ Below W.heap.size W w') := ⟨fun W => by
              have := rready_any S xj W hG.len (fun q hq => by have := hG.rng q hq; omega) hxk.past hxk.dot.1.1 hxk.dot.2.1 (by have := hxk.dot.2.2; omega) hxk.par.1.1 hxk.par.2.1
              rw [hrd] at this; exact this⟩
            have iV : (Try.prog.info? 24).map (·.size) = some (S.map (Value.int .u32)).length := by rw [List.length_map, hG.len]; exact sizeV8c
            have iX : (Try.prog.info? 37).map (·.size) = some xj.cells.length := by rw [ev_len _ hxk.past]; kernel_rfl
            have hVj := hV1.farM hbj
            have HT : Veil (∀ W, Below wr.heap.size wr W → W.rangeAt Bv 0 (S.map (Value.int .u32)) ∧ W.rangeAt g (j * 17) xj.cells) := ⟨fun W hq => ⟨(hVj.farM hq).wholeM, fun i v hv => (hq.cell (block_lt_of_cell (hxr i v hv))).trans (hxr i v hv)⟩⟩
            have hw2 : IntKind.i64.wrap ((j : Int) + 1) = (j : Int) + 1 := by have := hG.few; rw [IntKind.wrap_i64]; omega
            generalize xj.cells = XC at HRD iX HT
            generalize S.map (Value.int .u32) = SV at HRD iV HT
            clear hxr hrd hxk hVj hV1
            go_upto_region 19 with fail
            refine wp_region_gateT (fun w' => w'.rangeAt Bv 0 SV ∧ w'.rangeAt g (j * 17) XC) (fun _ => True) 99 (by kernel_rfl) ?_
            have hT : (fun w' : World => w'.rangeAt Bv 0 SV ∧ w'.rangeAt g (j * 17) XC) wr.drew := HT.out _ (Below.refl _ _).drew
            have hS : (fun _ : World => True) wr.drew := trivial
            refine wpAnyT_load (i := 0) (dst := some 66) (ty := 24) (x := .tmp 4) (b := Bv) (o := (0)) (cs := SV) (by kernel_rfl) (by kernel_rfl) (by kernel_rfl) (by kernel_rfl) (by kernel_rfl) (fun _ _ _ h => h) (by kernel_rfl) hT (fun _ => hS) (by kernel_rfl) (fun _ h => h.1) uV rfl iV ?_
            simp only [Act.put, List.getElem_toArray, List.getElem_cons_succ, List.getElem_cons_zero, List.setIfInBounds_toArray, List.set_cons_zero, List.set_cons_succ]
            refine wpAnyT_held (i := 1) (v := ?_) rfl (by kernel_rfl) (by kernel_rfl) (by kernel_rfl) (fun _ _ _ h => h) (by kernel_rfl) hT (fun _ => hS) (by kernel_rfl) ?_ ?_
            rotate_left
            · intro wx hSw; go_split_ands; go_simp; try with_reducible rfl
            simp only [Act.put, List.getElem_toArray, List.getElem_cons_succ, List.getElem_cons_zero, List.setIfInBounds_toArray, List.set_cons_zero, List.set_cons_succ]
            refine wpAnyT_held (i := 2) (v := ?_) rfl (by kernel_rfl) (by kernel_rfl) (by kernel_rfl) (fun _ _ _ h => h) (by kernel_rfl) hT (fun _ => hS) (by kernel_rfl) ?_ ?_
            rotate_left
            · intro wx hSw; go_split_ands; go_simp; try with_reducible rfl
            simp only [Act.put, List.getElem_toArray, List.getElem_cons_succ, List.getElem_cons_zero, List.setIfInBounds_toArray, List.set_cons_zero, List.set_cons_succ]
            refine wpAnyT_held (i := 3) (v := ?_) rfl (by kernel_rfl) (by kernel_rfl) (by kernel_rfl) (fun _ _ _ h => h) (by kernel_rfl) hT (fun _ => hS) (by kernel_rfl) ?_ ?_
            rotate_left
            · intro wx hSw; go_split_ands; go_simp; try with_reducible rfl
            simp only [Act.put, List.getElem_toArray, List.getElem_cons_succ, List.getElem_cons_zero, List.setIfInBounds_toArray, List.set_cons_zero, List.set_cons_succ]
            refine wpAnyT_load (i := 4) (dst := some 70) (ty := 37) (x := .tmp 69) (b := g) (o := ((j * 17))) (cs := XC) (by kernel_rfl) (by kernel_rfl) (by kernel_rfl) (by kernel_rfl) (by kernel_rfl) (fun _ _ _ h => h) (by kernel_rfl) hT (fun _ => hS) (by kernel_rfl) (fun _ h => h.2) uE rfl iX ?_
            simp only [Act.put, List.getElem_toArray, List.getElem_cons_succ, List.getElem_cons_zero, List.setIfInBounds_toArray, List.set_cons_zero, List.set_cons_succ]
            refine wpAnyT_one (i := 5) rfl (by kernel_rfl) (by kernel_rfl) (fun K hK => ?_)
            refine wpx_call _ _ (by kernel_rfl) ((HRD.out _).mono ?_)
            rintro x W3 ⟨rfl, hq⟩
            refine ⟨_, rfl, ?_⟩
            have hb3 : Below wr.heap.size wr W3 := ((Below.refl _ _).drew).trans (hq.mono (Nat.le_refl _))
            clear hq
            replace hT : (fun w' : World => w'.rangeAt Bv 0 SV ∧ w'.rangeAt g (j * 17) XC) W3 := HT.out _ hb3
            replace hS : (fun _ : World => True) W3 := trivial
            refine hK.out _ _ hT (fun _ => hS) ?_
            clear hK K
            try simp only [Act.put, List.getElem_toArray, List.getElem_cons_succ, List.getElem_cons_zero, List.setIfInBounds_toArray, List.set_cons_zero, List.set_cons_succ]
            refine wpAnyT_done (by kernel_rfl) ?_ _
            clear hT hS
            go_wp2
            go_roundw
            case rel => exact ⟨j + 1, hjn, by push_cast; rfl, hbj.trans (hb3.mono hbj.size)⟩
            case measure => simp [intOf]; omega
          · have hji : ¬ (j : Int) < (L.length : Int) := by omega
            have hL16 : (L.length : Int) ≤ 16 := by have := hG.few; omega
            go_wp2_with (go_at_call 12; refine (clive_any _).mono ?_; rintro e W4 ⟨rfl, hb4⟩)
            go_ret
            have h5 := hB1.trans (hbj.mono hB1.size)
            exact ⟨rfl, h5.trans (hb4.mono h5.size)⟩
end Go.Proofs.Ytmoabomoodddkaa
