/- Bf4 -/
import Derived.Test.YthjkcfpdkhghpaaH14
import Derived.Test.YthjkcfpdkhghpaaH05
namespace Go.Proofs.Ythjkcfpdkhghpaa
open Go.RowKit Go.Shelf
attribute [local go_sem] Oper.semAt_some
set_option maxRecDepth 20000
set_option linter.unusedSimpArgs false
structure BufC (w : World) (H b : Nat) (S : List Int) (L : List Ev) : Prop where
  cells : CellsAt w H 54 (S.map (Value.int .u32) ++ [.map (some b)])
  wait : WaitAt w b L
  len : S.length = 8
  rng : ∀ x ∈ S, 0 ≤ x ∧ x ≤ 4294967295
theorem BufC.congr {w w' : World} {H b : Nat} {S : List Int} {L : List Ev} (h : BufC w H b S L) (h1 : w'.heap[H]? = w.heap[H]?) (h2 : w'.heap[b]? = w.heap[b]?) : BufC w' H b S L := ⟨h.cells.congr h1, h.wait.congr h2, h.len, h.rng⟩
theorem BufC.far {w w' : World} {H b : Nat} {S : List Int} {L : List Ev} (h : BufC w H b S L) (hb : Below w.heap.size w w') : BufC w' H b S L := h.congr (hb.block H h.cells.lt) (hb.block b h.wait.lt)
theorem BufC.mapCell {w : World} {H b : Nat} {S : List Int} {L : List Ev} (h : BufC w H b S L) : w.cell? ⟨H, 8, none⟩ = some (.map (some b)) := by
  rw [h.cells.cell, List.getElem?_append_right (by simp [h.len])]; simp [h.len]
theorem BufC.seenR {w : World} {H b : Nat} {S : List Int} {L : List Ev} (h : BufC w H b S L) : w.rangeAt H 0 (S.map (Value.int .u32)) := by
  have := h.cells.range 0 8
  rw [List.drop_zero, List.take_left' (by simp [h.len])] at this
  exact this
set_option maxHeartbeats 2000000 in
theorem sortedKeys_any (Bm b : Nat) (L : List Ev) (w : World) (hm : w.cell? ⟨Bm, 0, none⟩ = some (.map (some b))) (hW : WaitAt w b L) (hL : L.length ≤ 1000) :
    Calls Try.prog 52 #[.func (.func 59) #[] #[.pointer (some ⟨Bm, 0, none⟩)], .func (.func 37) #[] #[]] w fun e w' => ∃ v, e = .returned v ∧ OwnI w' (w.heap.size + 1) 32 2 v ((L.map Ev.dot).map encD) ∧ Below w.heap.size w w' := by
  have hc := colD_any (fun x : Int × Int => encD x) (fun x => okD x.1 x.2) (fun x _ => ⟨rfl, fun u hu => by simp [encD, dotC] at hu; rcases hu with rfl | rfl <;> rfl⟩) 59 #[.pointer (some ⟨Bm, 0, none⟩)] (enters_of Try.func59 (by kernel_rfl) rfl) _ _ _ L.length (by omega) w (fun n => keys1_seq n Bm b L w hm hW) (fun k hk => by rcases hk with rfl | rfl; exact hW.lt; exact block_lt_of_cell hm) (fun xs A B h _ => h)
  have hM : (L.map Ev.dot).Pairwise (fun x y => ltD x y = true) := by rw [List.pairwise_map]; exact hW.sorted
  have HS := Veil.mk (fun (base : Nat) (v : Value) (ds : List (Int × Int)) (W : World) (ho : OwnI W base 32 2 v (ds.map encD)) (hp : ds.Perm (L.map Ev.dot)) => sortD_any base v ds (L.map Ev.dot) W ho hp hM (by rw [hp.length_eq, List.length_map]; omega))
  clear hM hW hm
  go_enter Try.func52, Try.ntmps52
  go_upto_region 2 with (go_at_call 57; refine hc.mono ?_; rintro e W1 ⟨v, xs, rfl, h1, _, hp, h3⟩)
  have hs := HS.out _ _ _ _ h1 hp
  have hB1 : Below w.heap.size w W1 := ⟨h3.os, h3.tape, h3.output, h3.size, fun k hk => h3.block k hk id⟩
  have HB : Veil (∀ w', Turn (fun k => v.ownBlock = some k) W1 w' → Below w.heap.size w w') := ⟨fun w' ht => hB1.trans (ht.below hB1.size (fun k hk => by have := (h1.blockLt k hk).2.1; omega))⟩
  obtain ⟨x, c, hv⟩ := h1.isSlice
  clear HS hc hp h3 hB1 h1
  generalize (xs.map encD).length = nn at hv
  subst hv
  go_wp2_with (go_at_call 58; refine hs.mono ?_; rintro e W2 ⟨rfl, h4, h5⟩)
  go_ret
  exact ⟨_, rfl, h4, HB.out _ h5⟩
theorem inOrder_any (H : Option Addr) (w : World) :
    Calls Try.prog 44 #[.pointer H] w fun e w' => e = .returned (.func (.func 51) #[] #[.pointer (some ⟨w.heap.size, 0, none⟩)]) ∧ w' = w.alloc (.cells #[.pointer H] 23) := by
  go_enter Try.func44, Try.ntmps44
  go_wp2
  go_ret
  exact ⟨rfl, rfl⟩
theorem taken_any (H : Option Addr) (w : World) :
    Calls Try.prog 19 #[.pointer H] w fun e w' => e = .returned (.func (.func 31) #[] #[.pointer (some ⟨w.heap.size, 0, none⟩)]) ∧ w' = w.alloc (.cells #[.pointer H] 23) := by
  go_enter Try.func19, Try.ntmps19
  go_wp2
  go_ret
  exact ⟨rfl, rfl⟩
theorem exec_look {P : Program} {o : Oper} {ρ : Operand → Value} {w : World} (t : TypeId) (m x : Operand) (b : Bool) (ho : o.op = .lookup t m x b) (mv xv v : Value) (hm : ρ m = mv) (hx : ρ x = xv) (hrun : (Instr.lookup t mv xv b).run P w = .ok v w) : (execOp ρ o).run P w = .ok (.value v) w := by
  unfold execOp
  simp only [ho, hm, hx, Sem.run_bind, hrun, Result.andThen_ok, Sem.run_pure]
structure PostIn (L : List Ev) (xs : List Ev) (_ : World) : Prop where
  all : xs = L
structure PostInX (L : List Ev) (xs : List Ev) (_ : World) : Prop where
  pre : xs <+: L
set_option maxHeartbeats 4000000 in
theorem inOrder1_seq (n Bb H b : Nat) (S : List Int) (L : List Ev) (w : World) (hB : w.cell? ⟨Bb, 0, none⟩ = some (.pointer (some ⟨H, 0, none⟩))) (hC : BufC w H b S L) (hL : L.length ≤ 1000) :
    SeqT n Try.prog 51 #[.pointer (some ⟨Bb, 0, none⟩)] (fun x : Ev => #[.agg x.cells.toArray]) (fun k => k = b ∨ k = H ∨ k = Bb) (fun _ => False) (PostIn L) (PostInX L) (fun x => x.Ok) L.length w := by
  intro l T J Jx W hWW hT hJ hJx hY h0
  have hlb : Bb < w.heap.size := block_lt_of_cell hB
  have hB2 : W.cell? ⟨Bb, 0, none⟩ = some (.pointer (some ⟨H, 0, none⟩)) := (hWW.cell (p := ⟨Bb, 0, none⟩) hlb).trans hB
  have hC2 := hC.congr (hWW.block H hC.cells.lt) (hWW.block b hC.wait.lt)
  have hmc := hC2.mapCell
  have hk := keys_any b W
  have hbx : (W.alloc (.cells #[.map (some b)] 52)).cell? ⟨W.heap.size, 0, none⟩ = some (.map (some b)) := (CellsAt.new W 52 [.map (some b)]).cell 0
  have hsk := sortedKeys_any W.heap.size b L _ hbx (hC2.wait.far ((Below.refl _ _).alloc (Nat.le_refl _) _)) hL
  rw [World.size_alloc] at hsk
  refine callsIn_of_wp Try.func51 rfl trivial ?_ rfl
  simp only [Try.ntmps51, List.size_toArray, List.length_cons, List.length_nil, Nat.reduceAdd, Nat.reduceSub, Array.replicate_succ, Array.replicate_zero, List.push_toArray, List.append_toArray, List.nil_append, List.cons_append]
  gi_wp2_with (first
    | (refine ⟨trivial, (fun h => by cases h), ?_⟩; gi_at_call 53; refine (callsIn_wide.2 hk).mono ?_; rintro e w1 ⟨rfl, rfl⟩)
    | (refine ⟨trivial, (fun h => by cases h), ?_⟩; gi_at_call 52; refine (callsIn_wide.2 hsk).mono ?_; rintro e W2 ⟨v, rfl, hv, hb2⟩; obtain ⟨vx, vc, hvv⟩ := hv.isSlice; rw [List.length_map, List.length_map] at hvv; subst hvv))
  have hbW : Below W.heap.size W W2 := ((Below.refl _ _).alloc (Nat.le_refl _) _).trans (hb2.mono (by omega))
  have hs2 := hb2.size
  rw [World.size_alloc] at hs2
  have hTn : ∀ k, T k → k < W.heap.size := fun k hk => (hT k hk).2
  clear hk hsk hbx hb2 hB2 hmc
  gi_loopw [4, 12] (fun _ q wr => ∃ (j : Nat) (T' : Nat → Prop), j ≤ L.length ∧ q = .int .i64 j ∧ J T' (L.take j) wr ∧ MovesT T W2 T' wr) (fun _ q _ => L.length - (intOf q).toNat)
  case atStart => exact ⟨0, T, Nat.zero_le _, rfl, hJ _ _ _ _ h0 (StaysT.of_below hbW (fun k hk => hk.elim (hTn k) (fun q => q.1))), MovesT.of_below (Below.refl _ _) (fun k hk => by have := hTn k hk; omega)⟩
  case round =>
    obtain ⟨j, T1, hj, rfl, hJs, hmv⟩ := hrel
    have hw2 := hmv.turn.size
    have hT1 : ∀ k, k < W2.heap.size → ¬ T k → ¬ T1 k := fun k hk hn q => by rcases (hmv.own k q).1 with e | e; exact hn e; omega
    have hkeepO : ∀ k, (k = b ∨ k = H ∨ k = Bb) → k < W.heap.size ∧ ¬ T k := fun k hk => ⟨by rcases hk with rfl | rfl | rfl; exact hC2.wait.lt; exact hC2.cells.lt; have := hWW.size; omega, fun q => (hT k q).1 hk⟩
    have hsame : ∀ k, (k = b ∨ k = H ∨ k = Bb) → wr.heap[k]? = w.heap[k]? := fun k hk => by
      obtain ⟨h1, h2⟩ := hkeepO k hk
      exact ((hmv.turn.block k (by omega) h2).trans (hbW.block k h1)).trans (hWW.block k (by rcases hk with rfl | rfl | rfl; exact hC.wait.lt; exact hC.cells.lt; exact hlb))
    by_cases hjn : j < L.length
    · have hji : (j : Int) < (L.length : Int) := by omega
      have hj0 : (0 : Int) ≤ (j : Int) := by omega
      obtain ⟨e, he⟩ : ∃ e, L[j] = e := ⟨_, rfl⟩
      have hem : e ∈ L := by rw [← he]; exact List.getElem_mem _
      have hok := hC.wait.ok e hem
      have hvr : OwnI wr (W.heap.size + 1 + 1) 32 2 (.slice vx L.length vc) ((L.map Ev.dot).map encD) := hv.congr (fun g hg => hmv.turn.block g (hv.blockLt g hg).1 (fun q => by have := (hv.blockLt g hg).2.1; have := hTn g q; omega))
      obtain ⟨g, hx, -, hr⟩ := hvr.at_ j (by simpa using hjn)
      have he2 : ((L.map Ev.dot).map encD)[j]'(by simpa using hjn) = dotC e.da e.ds := by simp only [List.getElem_map, he]; rfl
      rw [he2] at hr
      have c0 : wr.cell? ⟨g, j * 2, none⟩ = some (.int .u8 e.da) := hr 0 _ rfl
      have c1 : wr.cell? ⟨g, j * 2 + 1, none⟩ = some (.int .u32 e.ds) := hr 1 _ rfl
      subst hx
      have hV : StaysT (fun k => T1 k ∨ (k < W.heap.size ∧ ¬ False)) wr (wr.alloc (.cells #[.int .u8 e.da, .int .u32 e.ds] 32)).drew := StaysT.of_below ((Below.refl _ _).alloc (Nat.le_refl _) _).drew (fun k hk => hk.elim (fun hk => (hmv.own k hk).2) (fun q => by have := q.1; omega))
      have hCr := hC.congr (hsame H (.inr (.inl rfl))) (hsame b (.inl rfl))
      have cB : wr.cell? ⟨Bb, 0, none⟩ = some (.pointer (some ⟨H, 0, none⟩)) := (World.cell?_of_block (a := ⟨Bb, 0, none⟩) (hsame Bb (.inr (.inr rfl)))).trans hB
      have HE := Veil.mk he
      have HSM := Veil.mk hsame
      have HT1 := Veil.mk hT1
      have HKO := Veil.mk hkeepO
      have HJ := Veil.mk (hJ _ _ _ _ hJs hV)
      have HY := Veil.mk (hY T1 (L.take j) e)
      have HCr := Veil.mk hCr
      have HOK := Veil.mk hok
      have HMV := Veil.mk hmv
      have HBW := Veil.mk hbW
      have HWW := Veil.mk hWW
      have HLL := Veil.mk hL
      have HTn := Veil.mk hTn
      obtain ⟨N, hN⟩ : ∃ N, L.length = N := ⟨_, rfl⟩
      have HN := Veil.mk hN
      rw [hN] at hji hjn ⊢
      clear hN
      clear hvr hr hv he he2 hsame hT1 hkeepO hw2 hJ hJx hY h0 hT hWW hC hC2 hCr hTn hbW hB hok hmv hV hJs hem hlb hs2 hj hL
      gi_wp2
      have hVS : ∀ W3 T2, MovesT T1 (wr.alloc (.cells #[.int .u8 e.da, .int .u32 e.ds] 32)) T2 W3 → (W3.cell? ⟨Bb, 0, none⟩ = some (.pointer (some ⟨H, 0, none⟩)) ∧ W3.cell? ⟨H, 8, none⟩ = some (.map (some b)) ∧ W3.rangeAt wr.heap.size 0 (dotC e.da e.ds) ∧ WaitAt W3 b L) ∧ MovesT T W2 T2 W3 ∧ ∀ k, (k = b ∨ k = H ∨ k = Bb) → W3.heap[k]? = w.heap[k]? := fun W3 T2 hm3 => by
        have hsz := HMV.out.turn.size
        have hbk : ∀ k, k < wr.heap.size → ¬ T1 k → W3.heap[k]? = wr.heap[k]? := fun k hk hn => (hm3.turn.block k (by rw [World.size_alloc]; omega) hn).trans (Below.heap_alloc _ _ _ hk)
        have hOW : ∀ k, (k = b ∨ k = H ∨ k = Bb) → W3.heap[k]? = wr.heap[k]? := fun k hk => by
          have h1 := HKO.out k hk
          have h2 := HBW.out.size
          exact hbk k (by omega) (HT1.out k (by omega) h1.2)
        have hC3 := HCr.out.congr (hOW H (.inr (.inl rfl))) (hOW b (.inl rfl))
        have hbx := (CellsAt.new wr 32 (dotC e.da e.ds)).congr (hm3.turn.block wr.heap.size (by rw [World.size_alloc]; omega) (fun q => by have := (HMV.out.own _ q).2; omega))
        refine ⟨⟨(World.cell?_of_block (a := ⟨Bb, 0, none⟩) (hOW Bb (.inr (.inr rfl)))).trans cB, hC3.mapCell, hbx.wholeM, hC3.wait⟩, (HMV.out.trans (MovesT.of_below ((Below.refl _ _).alloc (Nat.le_refl _) _) (fun k hk => (HMV.out.own k hk).2))).trans hm3, fun k hk => (hOW k hk).trans (HSM.out k hk)⟩
      have HVS := Veil.mk hVS
      have hS0 := (hVS _ T1 (MovesT.of_below (Below.refl _ _) (fun k hk => by have := (HMV.out.own k hk).2; rw [World.size_alloc]; omega))).1
      have hYY := HY.out _ HJ.out HOK.out (by rw [List.length_take]; have := HN.out; omega) (fun k hk => by have := (HMV.out.own k hk).2; show k < (wr.alloc _).heap.size; rw [World.size_alloc]; omega)
      clear hVS cB c0 c1
      have uD := Try.underlying32
      have iD : (Try.prog.info? 32).map (·.size) = some (dotC e.da e.ds).length := sizeDot
      have HLK : Veil (∀ w', WaitAt w' b L → (Instr.lookup 52 (.map (some b)) (.agg (dotC e.da e.ds).toArray) false).run Try.prog w' = .ok (.agg e.cells.toArray) w') := ⟨fun w' hw => by
        have := hw.mapAt.get Try.underlying52 (Try.zeroValue38 w') e.da e.ds HOK.out.dot
        rw [this]
        have hl : lookE L (e.da, e.ds) = some e := lookE_some hw.sorted (by rw [← HE.out]; exact List.getElem_mem _)
        rw [hl]; rfl⟩
      obtain ⟨V, hV⟩ : ∃ V, wr.alloc (.cells #[.int .u8 e.da, .int .u32 e.ds] 32) = V := ⟨_, rfl⟩
      have HTV : Veil (∀ k, T1 k → k < (wr.alloc (.cells #[.int .u8 e.da, .int .u32 e.ds] 32)).heap.size) := ⟨fun k hk => by have := (HMV.out.own k hk).2; rw [World.size_alloc]; omega⟩
      rw [hV] at HVS hS0 hYY HTV ⊢
      clear hV HJ HY
      refine wpIn_region_gateI (fun w' => w'.cell? ⟨Bb, 0, none⟩ = some (.pointer (some ⟨H, 0, none⟩)) ∧ w'.cell? ⟨H, 8, none⟩ = some (.map (some b)) ∧ w'.rangeAt wr.heap.size 0 (dotC e.da e.ds) ∧ WaitAt w' b L) (by kernel_rfl) ?_
      have hS : (fun w' : World => w'.cell? ⟨Bb, 0, none⟩ = some (.pointer (some ⟨H, 0, none⟩)) ∧ w'.cell? ⟨H, 8, none⟩ = some (.map (some b)) ∧ w'.rangeAt wr.heap.size 0 (dotC e.da e.ds) ∧ WaitAt w' b L) V.drew := hS0
      refine wpAnyI_read (i := 0) (v := ?_) rfl (by kernel_rfl) (by kernel_rfl) (by kernel_rfl) (fun _ _ _ h => h) hS (by kernel_rfl) ?_ ?_
      rotate_left
      · intro wx hSw; go_split_ands; go_simp; try with_reducible rfl
      simp only [Act.put, List.getElem_toArray, List.getElem_cons_succ, List.getElem_cons_zero, List.setIfInBounds_toArray, List.set_cons_zero, List.set_cons_succ]
      refine wpAnyI_read (i := 1) (v := ?_) rfl (by kernel_rfl) (by kernel_rfl) (by kernel_rfl) (fun _ _ _ h => h) hS (by kernel_rfl) ?_ ?_
      rotate_left
      · intro wx hSw; go_split_ands; go_simp; try with_reducible rfl
      simp only [Act.put, List.getElem_toArray, List.getElem_cons_succ, List.getElem_cons_zero, List.setIfInBounds_toArray, List.set_cons_zero, List.set_cons_succ]
      refine wpAnyI_read (i := 2) (v := ?_) rfl (by kernel_rfl) (by kernel_rfl) (by kernel_rfl) (fun _ _ _ h => h) hS (by kernel_rfl) ?_ ?_
      rotate_left
      · intro wx hSw; go_split_ands; go_simp; try with_reducible rfl
      simp only [Act.put, List.getElem_toArray, List.getElem_cons_succ, List.getElem_cons_zero, List.setIfInBounds_toArray, List.set_cons_zero, List.set_cons_succ]
      refine wpAnyI_read (i := 3) (v := ?_) rfl (by kernel_rfl) (by kernel_rfl) (by kernel_rfl) (fun _ _ _ h => h) hS (by kernel_rfl) ?_ ?_
      rotate_left
      · intro wx hSw; go_split_ands; go_simp; try with_reducible rfl
      simp only [Act.put, List.getElem_toArray, List.getElem_cons_succ, List.getElem_cons_zero, List.setIfInBounds_toArray, List.set_cons_zero, List.set_cons_succ]
      refine wpAnyI_read (i := 4) (v := ?_) rfl (by kernel_rfl) (by kernel_rfl) (by kernel_rfl) (fun _ _ _ h => h) hS (by kernel_rfl) ?_ ?_
      rotate_left
      · intro wx hSw; go_split_ands; go_simp; try with_reducible rfl
      simp only [Act.put, List.getElem_toArray, List.getElem_cons_succ, List.getElem_cons_zero, List.setIfInBounds_toArray, List.set_cons_zero, List.set_cons_succ]
      refine wpAnyI_load (i := 5) (dst := some 21) (ty := 32) (x := .tmp 4) (b := wr.heap.size) (o := (0)) (cs := (dotC e.da e.ds)) (by kernel_rfl) (by kernel_rfl) (by kernel_rfl) (by kernel_rfl) (by kernel_rfl) (fun _ _ _ h => h) hS (by kernel_rfl) (fun _ h => h.2.2.1) uD rfl iD ?_
      simp only [Act.put, List.getElem_toArray, List.getElem_cons_succ, List.getElem_cons_zero, List.setIfInBounds_toArray, List.set_cons_zero, List.set_cons_succ]
      refine wpAnyI_read (i := 6) (v := .agg e.cells.toArray) rfl (by kernel_rfl) (by kernel_rfl) (by kernel_rfl) (fun _ _ _ h => h) hS (by kernel_rfl) (fun wx h => exec_look _ _ _ _ rfl _ _ _ rfl rfl (HLK.out wx h.2.2.2)) ?_
      simp only [Act.put, List.getElem_toArray, List.getElem_cons_succ, List.getElem_cons_zero, List.setIfInBounds_toArray, List.set_cons_zero, List.set_cons_succ]
      clear HLK uD iD hS0
      have hVd : MovesT T1 V T1 V.drew := MovesT.of_below (Below.refl _ _).drew (fun k hk => HTV.out k hk)
      have HTK : Veil (L.take (j + 1) = L.take j ++ [e]) := ⟨by rw [List.take_succ_eq_append_getElem (by rw [HN.out]; exact hjn), HE.out]⟩
      have HPT : Veil (∀ (T2 : Nat → Prop) (W3 : World), MovesT T W2 T2 W3 → MovesT (fun k => T k ∨ False) W T2 W3) := ⟨fun T2 W3 hm => ⟨(Turn.of_below HBW.out).trans (hm.turn.mono fun k _ q => .inl q), fun k hk => ⟨by rcases (hm.own k hk).1 with q | q; exact .inl (.inl q); exact .inr (by have := HBW.out.size; omega), (hm.own k hk).2⟩⟩⟩
      refine wpAnyI_one (i := 7) rfl (by kernel_rfl) (by kernel_rfl) (fun K hK => ?_)
      refine wpI_yield _ _ _ rfl rfl rfl hYY ?_
      rintro e2 W3 (⟨rfl, T2, hJ3, hm3⟩ | ⟨rfl, T2, hJx3, hm3⟩)
      · refine ⟨_, rfl, ?_⟩
        obtain ⟨hS3, hmv3, -⟩ := HVS.out W3 T2 (hVd.trans hm3)
        replace hS := hS3
        clear hS3 hYY
        refine hK.out _ _ hS ?_
        clear hK K
        try simp only [Act.put, List.getElem_toArray, List.getElem_cons_succ, List.getElem_cons_zero, List.setIfInBounds_toArray, List.set_cons_zero, List.set_cons_succ]
        refine wpAnyI_read (i := 8) (v := ?_) rfl (by kernel_rfl) (by kernel_rfl) (by kernel_rfl) (fun _ _ _ h => h) hS (by kernel_rfl) ?_ ?_
        rotate_left
        · intro wx hSw; go_split_ands; go_simp; try with_reducible rfl
        simp only [Act.put, List.getElem_toArray, List.getElem_cons_succ, List.getElem_cons_zero, List.setIfInBounds_toArray, List.set_cons_zero, List.set_cons_succ]
        refine wpAnyI_done (by kernel_rfl) ?_ _
        have hw1 : IntKind.i64.wrap ((j : Int) + 1) = (j : Int) + 1 := by rw [IntKind.wrap_i64]; have := HLL.out; have := HN.out; omega
        clear hS
        gi_wp2
        go_roundw
        case rel => exact ⟨j + 1, T2, by omega, by push_cast; rfl, by rw [HTK.out]; exact hJ3, hmv3⟩
        case measure => simp [intOf]; omega
      · refine ⟨_, rfl, ?_⟩
        obtain ⟨hS3, hmv3, -⟩ := HVS.out W3 T2 (hVd.trans hm3)
        have HEND : Veil (PostInX L (L.take j ++ [e]) W3) := ⟨⟨by rw [← HTK.out]; exact List.take_prefix _ _⟩⟩
        replace hS := hS3
        clear hS3 hYY
        refine hK.out _ _ hS ?_
        clear hK K
        try simp only [Act.put, List.getElem_toArray, List.getElem_cons_succ, List.getElem_cons_zero, List.setIfInBounds_toArray, List.set_cons_zero, List.set_cons_succ]
        refine wpAnyI_read (i := 8) (v := ?_) rfl (by kernel_rfl) (by kernel_rfl) (by kernel_rfl) (fun _ _ _ h => h) hS (by kernel_rfl) ?_ ?_
        rotate_left
        · intro wx hSw; go_split_ands; go_simp; try with_reducible rfl
        simp only [Act.put, List.getElem_toArray, List.getElem_cons_succ, List.getElem_cons_zero, List.setIfInBounds_toArray, List.set_cons_zero, List.set_cons_succ]
        refine wpAnyI_done (by kernel_rfl) ?_ _
        clear hS
        gi_wp2
        refine bodyPost_ret (results_none rfl _ _ _) rfl ?_
        exact ⟨⟨_, rfl⟩, .inr ⟨_, T2, HEND.out, hJx3, HPT.out _ _ hmv3⟩⟩
    · have hji : ¬ (j : Int) < (L.length : Int) := by omega
      obtain rfl : j = L.length := by omega
      rw [List.take_length] at hJs
      have HEND : Veil (PostIn L L wr) := ⟨⟨rfl⟩⟩
      have HPT : Veil (MovesT (fun k => T k ∨ False) W T1 wr) := ⟨(Turn.of_below hbW).trans (hmv.turn.mono fun k _ q => .inl q), fun k hk => ⟨by rcases (hmv.own k hk).1 with q | q; exact .inl (.inl q); exact .inr (by have := hbW.size; omega), (hmv.own k hk).2⟩⟩
      clear hsame hkeepO hT1 hv hmv
      gi_wp2
      go_end0
      exact ⟨⟨_, rfl⟩, .inl ⟨L, HEND.out, T1, hJs, by simpa using HPT.out⟩⟩
end Go.Proofs.Ythjkcfpdkhghpaa
