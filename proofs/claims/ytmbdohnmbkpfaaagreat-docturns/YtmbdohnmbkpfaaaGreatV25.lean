/- Rk0 Rk1 -/
import Derived.Test.YtmbdohnmbkpfaaaGreatV24
import Derived.Test.YtmbdohnmbkpfaaaGreatV06
import Derived.Test.YtmbdohnmbkpfaaaGreatV07
namespace Go.Proofs.YtmbdohnmbkpfaaaGreat
open Go.RowKit Go.Shelf
set_option maxRecDepth 20000
set_option linter.unusedSimpArgs false
structure RefB (B : Nat) (w : World) (R : Nat) (L : List Ent) (x : Option Addr) (c : Nat) (bx : Option Addr) (bc : Nat) : Prop where
 cells : CellsAt w R 85 [.slice x L.length c, .slice bx L.length bc]
 ev : OwnI w B 44 17 (.slice x L.length c) (L.map (fun e => e.1.cells))
 bo : OwnI w B 4 1 (.slice bx L.length bc) (L.map (fun e => [Value.bool e.2]))
theorem ownNeA {w : World} {B k t u s : Nat} {v : Value} {L : List (List Value)} (h : OwnI w B u s v L) {cs : List Value} (hk : CellsAt w k t cs) (ht : t ≠ u) : ∀ g, v.ownBlock = some g → g ≠ k := fun g hg e => by
 obtain ⟨_, _, cur, hc⟩ := h.blockLt g hg
 rw [e] at hc
 have hk' : w.heap[k]? = some (.cells cs.toArray t) := hk
 rw [hk'] at hc
 injection hc with hc
 injection hc with _ h2 _
 exact ht h2
theorem ownNeB {w : World} {B B' t u s s' : Nat} {v v' : Value} {L L' : List (List Value)} (h : OwnI w B u s v L) (h' : OwnI w B' t s' v' L') (ht : t ≠ u) : ∀ g g', v.ownBlock = some g → v'.ownBlock = some g' → g ≠ g' := fun g g' hg hg' e => by
 obtain ⟨_, _, cur, hc⟩ := h.blockLt g hg
 obtain ⟨_, _, cur', hc'⟩ := h'.blockLt g' hg'
 rw [e, hc'] at hc
 injection hc with hc
 injection hc with _ h2 _
 exact ht h2
theorem RefB.congr {B : Nat} {w w' : World} {R : Nat} {L : List Ent} {x bx : Option Addr} {c bc : Nat} (h : RefB B w R L x c bx bc) (h1 : w'.heap[R]? = w.heap[R]?) (h2 : ∀ g, (Value.slice x L.length c).ownBlock = some g → w'.heap[g]? = w.heap[g]?) (h3 : ∀ g, (Value.slice bx L.length bc).ownBlock = some g → w'.heap[g]? = w.heap[g]?) : RefB B w' R L x c bx bc := ⟨h.cells.congr h1, h.ev.congr h2, h.bo.congr h3⟩
theorem RefB.far {B : Nat} {w w' : World} {R : Nat} {L : List Ent} {x bx : Option Addr} {c bc : Nat} (h : RefB B w R L x c bx bc) (hb : Below w.heap.size w w') : RefB B w' R L x c bx bc := ⟨h.cells.farM hb, h.ev.far hb, h.bo.far hb⟩
def GoodB (L : List Ent) : Prop := ∀ x ∈ L, x.1.Ok ∧ rightB x.1 = true ∧ (x.1.kind = 3 ∨ x.1.kind = 4)
theorem good_role {e : Ev} (hr : rightB e = true) (hk : e.kind = 3 ∨ e.kind = 4) : 0 ≤ e.role ∧ e.role ≤ 3 ∧ (e.kind = 4 ↔ e.role = 0) ∧ e.who < 8 := by
 have h := (Bool.and_eq_true_iff.1 hr).2
 unfold rightKB at h
 rcases hk with k | k
 · rw [if_neg (by omega), if_neg (by omega), if_pos k] at h
   simp only [Bool.and_eq_true, decide_eq_true_eq] at h
   refine ⟨by omega, by omega, ⟨fun q => by omega, fun q => by omega⟩, h.1.1.1⟩
 · rw [if_neg (by omega), if_neg (by omega), if_neg (by omega), if_pos k] at h
   simp only [Bool.and_eq_true, decide_eq_true_eq, beq_iff_eq] at h
   refine ⟨by omega, by omega, ⟨fun q => h.1.2, fun q => k⟩, h.1.1⟩
theorem GoodB.add {L : List Ent} (h : GoodB L) (e : Ev) (he : e.Ok) : GoodB (addB L e) := by
 unfold addB
 split
 · rename_i h0
   intro x hx
   rcases List.mem_append.1 hx with q | q
   · exact h x q
   · rw [List.mem_singleton.1 q]
     unfold refB at h0
     split at h0
     · cases h0
     · rename_i h1
       split at h0
       · cases h0
       · rename_i h2
         exact ⟨he, by simpa using h1, by show e.kind = 3 ∨ e.kind = 4; omega⟩
 · exact h
theorem GoodB.told {L : List Ent} (h : GoodB L) (who : Int) (v : List Int) : ∀ e ∈ toldL L who v, e.Ok ∧ rightB e = true ∧ (e.kind = 3 ∨ e.kind = 4) := by
 intro e he
 unfold toldL at he
 obtain ⟨y, hy, rfl⟩ := List.mem_map.1 he
 exact h y (List.mem_filter.1 hy).1
def lastQ (told : List Ev) (e : Ev) : Bool := !(told.any fun x => hasB x.past e.da e.ds)
theorem lastL_eq (told : List Ev) : lastL told = told.filter (lastQ told) := rfl
def someX (X : List Ev) : Bool := (leastL X).2
def leastX (X : List Ev) : Int := if (leastL X).2 = true then (leastL X).1 else 3
theorem someX_app (X : List Ev) (e : Ev) : someX (X ++ [e]) = true := by
 unfold someX
 rw [leastL_app]
 unfold leastS
 split
 · rfl
 · rename_i h
   cases hq : (leastL X).2 with
   | true => rfl
   | false => exact absurd (.inl hq) h
theorem leastX_app (X : List Ev) (e : Ev) (h3 : e.role ≤ 3) : leastX (X ++ [e]) = if e.role < leastX X then e.role else leastX X := by
 have hs : (leastL (X ++ [e])).2 = true := someX_app X e
 unfold leastX
 rw [if_pos hs, leastL_app]
 unfold leastS
 by_cases hq : (leastL X).2 = true
 · simp only [hq, if_true, Bool.true_eq_false, false_or]
   split <;> rfl
 · have hq' : (leastL X).2 = false := by simpa using hq
   rw [if_pos (.inl hq'), if_neg hq]
   simp only
   by_cases h : e.role < 3
   · rw [if_pos h]
   · rw [if_neg h]; omega
theorem fold_zero : ∀ (X : List Ev) (s : Int × Bool), (s.2 = true → 0 ≤ s.1) → (∀ e ∈ X, 0 ≤ e.role) → (s = (0, true) ∨ ∃ e ∈ X, e.role = 0) → X.foldl leastS s = (0, true)
 | [], s, _, _, h => by
  rcases h with h | ⟨e, he, _⟩
  · exact h
  · cases he
 | e :: X, s, h0, hX, h => by
  rw [List.foldl_cons]
  have he := hX e (by simp)
  refine fold_zero X _ ?_ (fun x hx => hX x (by simp [hx])) ?_
  · unfold leastS
    split
    · exact fun _ => he
    · exact h0
  · rcases h with h | ⟨y, hy, hy0⟩
    · left
      rw [h]
      unfold leastS
      by_cases q : e.role < 0
      · omega
      · rw [if_neg (by simp; omega)]
    · rcases List.mem_cons.1 hy with rfl | hy
      · left
        unfold leastS
        by_cases q : s.2 = false ∨ y.role < s.1
        · rw [if_pos q, hy0]
        · rw [if_neg q]
          have h1 : s.2 = true := by simpa using fun z => q (.inl z)
          have h2 := h0 h1
          have h3 : ¬ y.role < s.1 := fun z => q (.inr z)
          obtain ⟨a, b⟩ := s
          simp only at h1 h2 h3
          rw [h1, show a = 0 by omega]
      · exact .inr ⟨y, hy, hy0⟩
theorem least_zero (X : List Ev) (hX : ∀ e ∈ X, 0 ≤ e.role) (h : ∃ e ∈ X, e.role = 0) : leastL X = (0, true) := fold_zero X _ (fun h => by cases h) hX (.inr h)
theorem roleP_last (L : List Ent) (who : Int) (v : List Int) (h8 : ¬ 8 ≤ who) : roleP L who v = if someX (lastL (toldL L who v)) = false ∧ who ≠ 0 then 0 else leastX (lastL (toldL L who v)) := by
 unfold roleP someX leastX
 rw [if_neg h8]
 cases hq : (leastL (lastL (toldL L who v))).2 with
 | true => simp
 | false =>
  by_cases h : who = 0
  · simp [h]
  · simp [h]
theorem roleP_zero (L : List Ent) (hG : GoodB L) (who : Int) (v : List Int) (h8 : ¬ 8 ≤ who) (e : Ev) (he : e ∈ toldL L who v) (hl : lastQ (toldL L who v) e = true) (hk : e.kind = 4) : roleP L who v = 0 := by
 have hr := hG.told who v
 have hm : e ∈ lastL (toldL L who v) := by rw [lastL_eq]; exact List.mem_filter.2 ⟨he, hl⟩
 have hz : leastL (lastL (toldL L who v)) = (0, true) := least_zero _ (fun x hx => by
  rw [lastL_eq] at hx
  have := hr x (List.mem_filter.1 hx).1
  exact (good_role this.2.1 this.2.2).1) ⟨e, hm, ((good_role (hr e he).2.1 (hr e he).2.2).2.2.1).1 hk⟩
 unfold roleP
 rw [if_neg h8, hz]; rfl
theorem rbnew_any (B : Nat) (w : World) : Calls Tryz.prog 22 #[] w fun r w' => r = .returned (.pointer (some ⟨w.heap.size, 0, none⟩)) ∧ RefB B w' w.heap.size [] none 0 none 0 ∧ Below w.heap.size w w' := by
 have hc := CellsAt.new w 85 [.slice none 0 0, .slice none 0 0]
 have HEND : Veil (RefB B (w.alloc (.cells #[.slice none 0 0, .slice none 0 0] 85)) w.heap.size [] none 0 none 0 ∧ Below w.heap.size w (w.alloc (.cells #[.slice none 0 0, .slice none 0 0] 85))) := ⟨⟨hc, OwnI.nil _ _ _ _, OwnI.nil _ _ _ _⟩, (Below.refl _ _).alloc (Nat.le_refl _) _⟩
 clear hc
 go_enter Tryz.func22, Tryz.ntmps22
 go_wp2
 go_ret
 exact ⟨rfl, HEND.out⟩
theorem infoE17A : (Tryz.prog.info? 44).map (fun i => (i.zero, i.size, i.bytes)) = some (some (.agg #[.int .u8 0, .int .u32 0, .int .u32 0, .int .u32 0, .int .u32 0, .int .u32 0, .int .u32 0, .int .u32 0, .int .u32 0, .int .u32 0, .int .u8 0, .int .u8 0, .int .u32 0, .bool false, .int .u8 0, .int .u8 0, .int .u8 0]), 17, 56) := by kernel_rfl
theorem toldL_take (L : List Ent) (who : Int) (v : List Int) (k : Nat) (hk : k < L.length) : toldL (L.take (k + 1)) who v = toldL (L.take k) who v ++ (if (L[k].2 && tellB who v L[k].1) = true then [L[k].1] else []) := by
 rw [List.take_add_one, List.getElem?_eq_getElem hk]
 exact toldL_app _ _ _ _
set_option maxHeartbeats 16000000 in
theorem rrole_any {B : Nat} (R : Nat) (L : List Ent) (x bx : Option Addr) (c bc : Nat) (who : Int) (v : List Int) (w : World) (hC : RefB B w R L x c bx bc) (hv : v.length = 8) (hL : L.length ≤ 1000) (hG : GoodB L) :
    Calls Tryz.prog 23 #[.pointer (some ⟨R, 0, none⟩), .int .u8 who, .agg (v.map (Value.int .u32)).toArray] w fun e w' => e = .returned (.int .u8 (roleP L who v)) ∧ Below w.heap.size w w' := by
 have hB0 : Below w.heap.size w (w.alloc (.cells (v.map (Value.int .u32)).toArray 37)) := (Below.refl _ _).alloc (Nat.le_refl _) _
 have hy0 := CellsAt.new w 37 (v.map (Value.int .u32))
 have iV : (Tryz.prog.info? 37).map (·.size) = some (v.map (Value.int .u32)).length := by rw [List.length_map, hv]; kernel_rfl
 have uE := Tryz.underlying44
 have uD := Tryz.underlying40
 have uV := Tryz.underlying37
 have uS := Tryz.underlying31
 have uB := Tryz.underlying83
 have HC := Veil.mk hC
 have HG := Veil.mk hG
 have HV8 := Veil.mk hv
 have HHS : Veil (∀ (e : Ev), e.Ok → ∀ W, Calls Tryz.prog 48 #[.agg (v.map (Value.int .u32)).toArray, .agg (dotC e.da e.ds).toArray] W fun r w' => r = .returned (.bool (hasB v e.da e.ds)) ∧ Below W.heap.size W w') := ⟨fun e he W => rhas_any v e.da e.ds W hv he.dot.1.1 he.dot.2.1⟩
 obtain ⟨VV, hVV⟩ : ∃ q, v.map (Value.int .u32) = q := ⟨_, rfl⟩
 rw [hVV] at hB0 hy0 iV HHS ⊢
 clear hC hG hv hVV
 go_enter Tryz.func23, Tryz.ntmps23
 by_cases h8 : (8 : Int) ≤ who
 · have HE : Veil (roleP L who v = 0) := ⟨by unfold roleP; rw [if_pos h8]⟩
   have h7 : (7 : Int) < who := by omega
   generalize roleP L who v = RP at HE ⊢
   clear HC HG HHS
   go_wp2
   go_ret
   exact ⟨by rw [HE.out]; rfl, hB0⟩
 · have h7 : ¬ (7 : Int) < who := by omega
   have HRL := Veil.mk (roleP_last L who v h8)
   have HRZ := Veil.mk (roleP_zero L HG.out who v h8)
   obtain ⟨RP, hRP⟩ : ∃ q, roleP L who v = q := ⟨_, rfl⟩
   rw [hRP] at HRL HRZ
   have HRP := Veil.mk hRP
   clear hRP
   have h8v := Veil.mk h8
   clear h8
   go_upto_region 4 with fail
   refine forget (p := fun y => Code.wp _ _ _ _ y) (fun W => Below w.heap.size w W ∧ CellsAt W w.heap.size 37 VV) ⟨hB0, hy0⟩ ?_
   clear hB0 hy0
   rintro W1 ⟨hB1, hy1⟩
   clear h7
   go_wp2_with fail
   go_loopw [7, 8] (fun p q wr => ∃ k : Nat, k ≤ L.length ∧ q = .int .i64 (k : Nat) ∧ OwnI wr (w.heap.size + 1) 44 17 p ((toldL (L.take k) who v).map Ev.cells) ∧ Below w.heap.size w wr ∧ CellsAt wr w.heap.size 37 VV) (fun _ q _ => L.length - (intOf q).toNat)
   case atStart => exact ⟨0, Nat.zero_le _, rfl, by rw [List.take_zero]; exact OwnI.nil _ _ _ _, hB1, hy1⟩
   case round =>
    obtain ⟨k, hk, rfl, hO, hB, hy⟩ := hrel
    clear hB1 hy1
    obtain ⟨lx, lc, rfl⟩ := hO.isSlice
    obtain ⟨ln, hln⟩ : ∃ n, ((toldL (L.take k) who v).map Ev.cells).length = n := ⟨_, rfl⟩
    rw [hln] at hO ⊢
    have HLN := Veil.mk hln
    clear hln
    have hCr := HC.out.far hB
    have c0 : wr.cell? ⟨R, 0, none⟩ = some (.slice x L.length c) := hCr.cells.cell 0
    by_cases hlt : k < L.length
    · have hii : (k : Int) < (L.length : Int) := by omega
      have hk0 : (0 : Int) ≤ (k : Int) := by omega
      obtain ⟨g, rfl, -, hxr⟩ := hCr.ev.at_ k (by rw [List.length_map]; exact hlt)
      obtain ⟨bg, rfl, -, hbr⟩ := hCr.bo.at_ k (by rw [List.length_map]; exact hlt)
      rw [List.getElem_map] at hxr hbr
      obtain ⟨hek, her, hkk⟩ := HG.out L[k] (List.getElem_mem hlt)
      have HTT := Veil.mk (toldL_take L who v k hlt)
      have HTL : Veil ((toldL (L.take k) who v).length ≤ 1000) := ⟨Nat.le_trans (toldL_len _ _ _) (by rw [List.length_take]; omega)⟩
      have he9 := aev_len L[k].1 hek.past
      have h19 := aev_one L[k].1
      have iX : (Tryz.prog.info? 44).map (·.size) = some L[k].1.cells.length := by rw [he9]; kernel_rfl
      have iDj : (Tryz.prog.info? 40).map (·.size) = some (dotC L[k].1.da L[k].1.ds).length := sizeDot
      have hhs := fun W => HHS.out L[k].1 hek W
      have HTE : Veil (tellB who v L[k].1 = ((L[k].1.who == who) && hasB v L[k].1.da L[k].1.ds)) := ⟨rfl⟩
      have hdp := (ev_parts L[k].1 hek.past).1
      have h15 := (ev_parts L[k].1 hek.past).2.2.2.2.2.2.1
      generalize tellB who v L[k].1 = TE at HTE HTT
      generalize hasB v L[k].1.da L[k].1.ds = HB at hhs HTE
      generalize hDJ : dotC L[k].1.da L[k].1.ds = DJ at hhs hdp iDj
      obtain ⟨XC, hXC⟩ : ∃ q, L[k].1.cells = q := ⟨_, rfl⟩
      have HXC := Veil.mk hXC
      rw [hXC] at hxr iX he9 h19 hdp h15
      generalize hWK : L[k].1.who = WK at h15 HTE
      generalize hCK : L[k].2 = CK at hbr HTT
      have HX : Veil (∀ W, Below wr.heap.size wr W → (W.cell? ⟨R, 1, none⟩ = some (.slice (some ⟨bg, 0, none⟩) L.length bc) ∧ W.cell? ⟨R, 0, none⟩ = some (.slice (some ⟨g, 0, none⟩) L.length c) ∧ W.cell? ⟨bg, k, none⟩ = some (.bool CK) ∧ W.cell? ⟨g, k * 17 + 15, none⟩ = some (.int .u8 WK) ∧ W.rangeAt w.heap.size 0 VV ∧ W.rangeAt g (k * 17) DJ) ∧ W.rangeAt g (k * 17) XC ∧ OwnI W (w.heap.size + 1) 44 17 (.slice lx ln lc) ((toldL (L.take k) who v).map Ev.cells) ∧ Below w.heap.size w W ∧ CellsAt W w.heap.size 37 VV) := ⟨fun W hb => by
       have hC6 := hCr.far hb
       have hxr6 : W.rangeAt g (k * 17) XC := fun j u hu => (hb.cell (block_lt_of_cell (hxr j u hu))).trans (hxr j u hu)
       have hbr6 : W.cell? ⟨bg, k, none⟩ = some (.bool CK) := by
        have h1 := hbr 0 (.bool CK) rfl
        have h2 := (hb.cell (p := ⟨bg, k * 1 + 0, none⟩) (block_lt_of_cell h1)).trans h1
        simpa using h2
       refine ⟨⟨hC6.cells.cell 1, hC6.cells.cell 0, hbr6, hxr6 15 _ h15, (hy.farM hb).wholeM, fun j u hu => hxr6 j u ?_⟩, hxr6, hO.far hb, hB.trans (hb.mono hB.size), hy.farM hb⟩
       rw [← hdp, List.drop_zero, List.getElem?_take] at hu
       split at hu
       · exact hu
       · cases hu⟩
      have hw2 : IntKind.i64.wrap ((k : Int) + 1) = (k : Int) + 1 := by rw [IntKind.wrap_i64]; omega
      clear hxr hbr hCr hO hB hy hek her hkk hdp h15 hDJ hXC hWK hCK
      have hcase : CK = false ∨ (CK = true ∧ WK ≠ who) ∨ (CK = true ∧ who = WK ∧ HB = false) ∨ (CK = true ∧ who = WK ∧ HB = true) := by
       cases CK <;> cases HB <;> simp <;> omega
      go_upto_region 7 with fail
      have hT0 := (HX.out wr.drew (Below.refl _ _).drew).1
      rcases hcase with rfl | ⟨rfl, hwk⟩ | ⟨rfl, rfl, rfl⟩ | ⟨rfl, rfl, rfl⟩
      · refine wp_region_gateT (fun w' => w'.cell? ⟨R, 1, none⟩ = some (.slice (some ⟨bg, 0, none⟩) L.length bc) ∧ w'.cell? ⟨R, 0, none⟩ = some (.slice (some ⟨g, 0, none⟩) L.length c) ∧ w'.cell? ⟨bg, k, none⟩ = some (.bool false) ∧ w'.cell? ⟨g, k * 17 + 15, none⟩ = some (.int .u8 WK) ∧ w'.rangeAt w.heap.size 0 VV ∧ w'.rangeAt g (k * 17) DJ) (fun _ => True) 99 (by kernel_rfl) ?_
        have hT : (fun w' : World => w'.cell? ⟨R, 1, none⟩ = some (.slice (some ⟨bg, 0, none⟩) L.length bc) ∧ w'.cell? ⟨R, 0, none⟩ = some (.slice (some ⟨g, 0, none⟩) L.length c) ∧ w'.cell? ⟨bg, k, none⟩ = some (.bool false) ∧ w'.cell? ⟨g, k * 17 + 15, none⟩ = some (.int .u8 WK) ∧ w'.rangeAt w.heap.size 0 VV ∧ w'.rangeAt g (k * 17) DJ) wr.drew := hT0
        have hS : (fun _ : World => True) wr.drew := trivial
        refine ghA 0 _ hT hS ?_
        simp only [Act.put, gA, gS, gZ, sI, sZ, sS]
        refine ghA 1 _ hT hS ?_
        simp only [Act.put, gA, gS, gZ, sI, sZ, sS]
        refine ghA 2 _ hT hS ?_
        simp only [Act.put, gA, gS, gZ, sI, sZ, sS]
        refine ghA 3 _ hT hS ?_
        simp only [Act.put, gA, gS, gZ, sI, sZ, sS]
        refine ghA 4 _ hT hS ?_
        simp only [Act.put, gA, gS, gZ, sI, sZ, sS]
        refine ghA 5 _ hT hS ?_
        simp only [Act.put, gA, gS, gZ, sI, sZ, sS]
        refine ghA 6 _ hT hS ?_
        simp only [Act.put, gA, gS, gZ, sI, sZ, sS]
        refine ghA 7 _ hT hS ?_
        simp only [Act.put, gA, gS, gZ, sI, sZ, sS]
        refine gs 8 hT hS ?_
        simp only [Act.put, gA, gS, gZ, sI, sZ, sS]
        refine gs 9 hT hS ?_
        simp only [Act.put, gA, gS, gZ, sI, sZ, sS]
        refine gs 10 hT hS ?_
        simp only [Act.put, gA, gS, gZ, sI, sZ, sS]
        refine gs 11 hT hS ?_
        simp only [Act.put, gA, gS, gZ, sI, sZ, sS]
        refine gs 12 hT hS ?_
        simp only [Act.put, gA, gS, gZ, sI, sZ, sS]
        refine gs 13 hT hS ?_
        simp only [Act.put, gA, gS, gZ, sI, sZ, sS]
        refine gs 14 hT hS ?_
        simp only [Act.put, gA, gS, gZ, sI, sZ, sS]
        refine gs 15 hT hS ?_
        simp only [Act.put, gA, gS, gZ, sI, sZ, sS]
        refine gs 16 hT hS ?_
        simp only [Act.put, gA, gS, gZ, sI, sZ, sS]
        refine gs 17 hT hS ?_
        simp only [Act.put, gA, gS, gZ, sI, sZ, sS]
        refine ghA 18 (.bool false) hT hS ?_
        simp only [Act.put, gA, gS, gZ, sI, sZ, sS]
        refine ghA 19 _ hT hS ?_
        simp only [Act.put, gA, gS, gZ, sI, sZ, sS]
        refine gs 20 hT hS ?_
        simp only [Act.put, gA, gS, gZ, sI, sZ, sS]
        refine gs 21 hT hS ?_
        simp only [Act.put, gA, gS, gZ, sI, sZ, sS]
        refine gs 22 hT hS ?_
        simp only [Act.put, gA, gS, gZ, sI, sZ, sS]
        refine gs 23 hT hS ?_
        simp only [Act.put, gA, gS, gZ, sI, sZ, sS]
        refine gs 24 hT hS ?_
        simp only [Act.put, gA, gS, gZ, sI, sZ, sS]
        refine gs 25 hT hS ?_
        simp only [Act.put, gA, gS, gZ, sI, sZ, sS]
        refine gs 26 hT hS ?_
        simp only [Act.put, gA, gS, gZ, sI, sZ, sS]
        refine gs 27 hT hS ?_
        simp only [Act.put, gA, gS, gZ, sI, sZ, sS]
        refine gs 28 hT hS ?_
        simp only [Act.put, gA, gS, gZ, sI, sZ, sS]
        refine gs 29 hT hS ?_
        simp only [Act.put, gA, gS, gZ, sI, sZ, sS]
        refine ghA 30 (.bool false) hT hS ?_
        simp only [Act.put, gA, gS, gZ, sI, sZ, sS]
        refine wpAnyT_done (by kernel_rfl) ?_ _
        clear hT hS
        obtain ⟨-, -, r3, r4, r5⟩ := HX.out wr.drew (Below.refl _ _).drew
        have HNX : Veil (toldL (L.take (k + 1)) who v = toldL (L.take k) who v) := ⟨by rw [HTT.out, HTE.out]; simp⟩
        clear HX HTT hT0
        go_wp2
        go_roundw
        case rel => exact ⟨k + 1, by omega, by push_cast; rfl, by rw [HNX.out]; exact r3, r4, r5⟩
        case measure => simp [intOf]; omega
      · have hwb : (WK == who) = false := by simpa using hwk
        refine wp_region_gateT (fun w' => w'.cell? ⟨R, 1, none⟩ = some (.slice (some ⟨bg, 0, none⟩) L.length bc) ∧ w'.cell? ⟨R, 0, none⟩ = some (.slice (some ⟨g, 0, none⟩) L.length c) ∧ w'.cell? ⟨bg, k, none⟩ = some (.bool true) ∧ w'.cell? ⟨g, k * 17 + 15, none⟩ = some (.int .u8 WK) ∧ w'.rangeAt w.heap.size 0 VV ∧ w'.rangeAt g (k * 17) DJ) (fun _ => True) 99 (by kernel_rfl) ?_
        have hT : (fun w' : World => w'.cell? ⟨R, 1, none⟩ = some (.slice (some ⟨bg, 0, none⟩) L.length bc) ∧ w'.cell? ⟨R, 0, none⟩ = some (.slice (some ⟨g, 0, none⟩) L.length c) ∧ w'.cell? ⟨bg, k, none⟩ = some (.bool true) ∧ w'.cell? ⟨g, k * 17 + 15, none⟩ = some (.int .u8 WK) ∧ w'.rangeAt w.heap.size 0 VV ∧ w'.rangeAt g (k * 17) DJ) wr.drew := hT0
        have hS : (fun _ : World => True) wr.drew := trivial
        refine ghA 0 _ hT hS ?_
        simp only [Act.put, gA, gS, gZ, sI, sZ, sS]
        refine ghA 1 _ hT hS ?_
        simp only [Act.put, gA, gS, gZ, sI, sZ, sS]
        refine ghA 2 _ hT hS ?_
        simp only [Act.put, gA, gS, gZ, sI, sZ, sS]
        refine ghA 3 _ hT hS ?_
        simp only [Act.put, gA, gS, gZ, sI, sZ, sS]
        refine ghA 4 _ hT hS ?_
        simp only [Act.put, gA, gS, gZ, sI, sZ, sS]
        refine ghA 5 _ hT hS ?_
        simp only [Act.put, gA, gS, gZ, sI, sZ, sS]
        refine ghA 6 _ hT hS ?_
        simp only [Act.put, gA, gS, gZ, sI, sZ, sS]
        refine ghA 7 _ hT hS ?_
        simp only [Act.put, gA, gS, gZ, sI, sZ, sS]
        refine ghA 8 _ hT hS ?_
        simp only [Act.put, gA, gS, gZ, sI, sZ, sS]
        refine ghA 9 _ hT hS ?_
        simp only [Act.put, gA, gS, gZ, sI, sZ, sS]
        refine ghA 10 _ hT hS ?_
        simp only [Act.put, gA, gS, gZ, sI, sZ, sS]
        refine ghA 11 _ hT hS ?_
        simp only [Act.put, gA, gS, gZ, sI, sZ, sS]
        refine ghA 12 _ hT hS ?_
        simp only [Act.put, gA, gS, gZ, sI, sZ, sS]
        refine ghA 13 _ hT hS ?_
        simp only [Act.put, gA, gS, gZ, sI, sZ, sS]
        refine ghA 14 _ hT hS ?_
        simp only [Act.put, gA, gS, gZ, sI, sZ, sS]
        refine ghA 15 _ hT hS ?_
        simp only [Act.put, gA, gS, gZ, sI, sZ, sS]
        refine ghA 16 _ hT hS ?_
        simp only [Act.put, gA, gS, gZ, sI, sZ, sS]
        refine ghA 17 (.bool false) hT hS ?_
        simp only [Act.put, gA, gS, gZ, sI, sZ, sS]
        refine ghA 18 (.bool false) hT hS ?_
        simp only [Act.put, gA, gS, gZ, sI, sZ, sS]
        refine ghA 19 _ hT hS ?_
        simp only [Act.put, gA, gS, gZ, sI, sZ, sS]
        refine gs 20 hT hS ?_
        simp only [Act.put, gA, gS, gZ, sI, sZ, sS]
        refine gs 21 hT hS ?_
        simp only [Act.put, gA, gS, gZ, sI, sZ, sS]
        refine gs 22 hT hS ?_
        simp only [Act.put, gA, gS, gZ, sI, sZ, sS]
        refine gs 23 hT hS ?_
        simp only [Act.put, gA, gS, gZ, sI, sZ, sS]
        refine gs 24 hT hS ?_
        simp only [Act.put, gA, gS, gZ, sI, sZ, sS]
        refine gs 25 hT hS ?_
        simp only [Act.put, gA, gS, gZ, sI, sZ, sS]
        refine gs 26 hT hS ?_
        simp only [Act.put, gA, gS, gZ, sI, sZ, sS]
        refine gs 27 hT hS ?_
        simp only [Act.put, gA, gS, gZ, sI, sZ, sS]
        refine gs 28 hT hS ?_
        simp only [Act.put, gA, gS, gZ, sI, sZ, sS]
        refine gs 29 hT hS ?_
        simp only [Act.put, gA, gS, gZ, sI, sZ, sS]
        refine ghA 30 (.bool false) hT hS ?_
        simp only [Act.put, gA, gS, gZ, sI, sZ, sS]
        refine wpAnyT_done (by kernel_rfl) ?_ _
        clear hT hS
        obtain ⟨-, -, r3, r4, r5⟩ := HX.out wr.drew (Below.refl _ _).drew
        have HNX : Veil (toldL (L.take (k + 1)) who v = toldL (L.take k) who v) := ⟨by rw [HTT.out, HTE.out]; simp [hwb]⟩
        clear HX HTT hT0
        go_wp2
        go_roundw
        case rel => exact ⟨k + 1, by omega, by push_cast; rfl, by rw [HNX.out]; exact r3, r4, r5⟩
        case measure => simp [intOf]; omega
      · have hhk := hhs wr.drew
        have hwb : (who == who) = true := beq_self_eq_true who
        refine wp_region_gateT (fun w' => w'.cell? ⟨R, 1, none⟩ = some (.slice (some ⟨bg, 0, none⟩) L.length bc) ∧ w'.cell? ⟨R, 0, none⟩ = some (.slice (some ⟨g, 0, none⟩) L.length c) ∧ w'.cell? ⟨bg, k, none⟩ = some (.bool true) ∧ w'.cell? ⟨g, k * 17 + 15, none⟩ = some (.int .u8 who) ∧ w'.rangeAt w.heap.size 0 VV ∧ w'.rangeAt g (k * 17) DJ) (fun _ => True) 99 (by kernel_rfl) ?_
        have hT : (fun w' : World => w'.cell? ⟨R, 1, none⟩ = some (.slice (some ⟨bg, 0, none⟩) L.length bc) ∧ w'.cell? ⟨R, 0, none⟩ = some (.slice (some ⟨g, 0, none⟩) L.length c) ∧ w'.cell? ⟨bg, k, none⟩ = some (.bool true) ∧ w'.cell? ⟨g, k * 17 + 15, none⟩ = some (.int .u8 who) ∧ w'.rangeAt w.heap.size 0 VV ∧ w'.rangeAt g (k * 17) DJ) wr.drew := hT0
        have hS : (fun _ : World => True) wr.drew := trivial
        refine ghA 0 _ hT hS ?_
        simp only [Act.put, gA, gS, gZ, sI, sZ, sS]
        refine ghA 1 _ hT hS ?_
        simp only [Act.put, gA, gS, gZ, sI, sZ, sS]
        refine ghA 2 _ hT hS ?_
        simp only [Act.put, gA, gS, gZ, sI, sZ, sS]
        refine ghA 3 _ hT hS ?_
        simp only [Act.put, gA, gS, gZ, sI, sZ, sS]
        refine ghA 4 _ hT hS ?_
        simp only [Act.put, gA, gS, gZ, sI, sZ, sS]
        refine ghA 5 _ hT hS ?_
        simp only [Act.put, gA, gS, gZ, sI, sZ, sS]
        refine ghA 6 _ hT hS ?_
        simp only [Act.put, gA, gS, gZ, sI, sZ, sS]
        refine ghA 7 _ hT hS ?_
        simp only [Act.put, gA, gS, gZ, sI, sZ, sS]
        refine ghA 8 _ hT hS ?_
        simp only [Act.put, gA, gS, gZ, sI, sZ, sS]
        refine ghA 9 _ hT hS ?_
        simp only [Act.put, gA, gS, gZ, sI, sZ, sS]
        refine ghA 10 _ hT hS ?_
        simp only [Act.put, gA, gS, gZ, sI, sZ, sS]
        refine ghA 11 _ hT hS ?_
        simp only [Act.put, gA, gS, gZ, sI, sZ, sS]
        refine ghA 12 _ hT hS ?_
        simp only [Act.put, gA, gS, gZ, sI, sZ, sS]
        refine ghA 13 _ hT hS ?_
        simp only [Act.put, gA, gS, gZ, sI, sZ, sS]
        refine ghA 14 _ hT hS ?_
        simp only [Act.put, gA, gS, gZ, sI, sZ, sS]
        refine ghA 15 _ hT hS ?_
        simp only [Act.put, gA, gS, gZ, sI, sZ, sS]
        refine ghA 16 _ hT hS ?_
        simp only [Act.put, gA, gS, gZ, sI, sZ, sS]
        refine ghA 17 (.bool true) hT hS ?_
        simp only [Act.put, gA, gS, gZ, sI, sZ, sS]
        refine ghA 18 (.bool true) hT hS ?_
        simp only [Act.put, gA, gS, gZ, sI, sZ, sS]
        refine ghA 19 _ hT hS ?_
        simp only [Act.put, gA, gS, gZ, sI, sZ, sS]
        refine gl 20 49 37 5 w.heap.size 0 VV (by kernel_rfl) (by kernel_rfl) (by kernel_rfl) (fun _ _ _ h => h) hT hS (by kernel_rfl) (fun _ h => h.2.2.2.2.1) uV rfl iV ?_
        simp only [Act.put, gA, gS, gZ, sI, sZ, sS]
        refine ghA 21 _ hT hS ?_
        simp only [Act.put, gA, gS, gZ, sI, sZ, sS]
        refine ghA 22 _ hT hS ?_
        simp only [Act.put, gA, gS, gZ, sI, sZ, sS]
        refine ghA 23 _ hT hS ?_
        simp only [Act.put, gA, gS, gZ, sI, sZ, sS]
        refine ghA 24 _ hT hS ?_
        simp only [Act.put, gA, gS, gZ, sI, sZ, sS]
        refine ghA 25 _ hT hS ?_
        simp only [Act.put, gA, gS, gZ, sI, sZ, sS]
        refine ghA 26 _ hT hS ?_
        simp only [Act.put, gA, gS, gZ, sI, sZ, sS]
        refine ghA 27 _ hT hS ?_
        simp only [Act.put, gA, gS, gZ, sI, sZ, sS]
        refine gl 28 57 40 56 g (k * 17) DJ (by kernel_rfl) (by kernel_rfl) (by kernel_rfl) (fun _ _ _ h => h) hT hS (by kernel_rfl) (fun _ h => h.2.2.2.2.2) uD rfl iDj ?_
        simp only [Act.put, gA, gS, gZ, sI, sZ, sS]
        refine wpAnyT_one (i := 29) rfl (by kernel_rfl) (by kernel_rfl) (fun K hK => ?_)
        refine wpx_call _ _ (by kernel_rfl) (hhk.mono ?_)
        rintro z W6 ⟨rfl, hb6⟩
        refine ⟨_, rfl, ?_⟩
        have hb7 : Below wr.heap.size wr W6 := ((Below.refl _ _).drew).trans (hb6.mono (Nat.le_refl _))
        replace hT : (fun w' : World => w'.cell? ⟨R, 1, none⟩ = some (.slice (some ⟨bg, 0, none⟩) L.length bc) ∧ w'.cell? ⟨R, 0, none⟩ = some (.slice (some ⟨g, 0, none⟩) L.length c) ∧ w'.cell? ⟨bg, k, none⟩ = some (.bool true) ∧ w'.cell? ⟨g, k * 17 + 15, none⟩ = some (.int .u8 who) ∧ w'.rangeAt w.heap.size 0 VV ∧ w'.rangeAt g (k * 17) DJ) W6 := (HX.out W6 hb7).1
        replace hS : (fun _ : World => True) W6 := trivial
        refine hK.out _ _ hT (fun _ => hS) ?_
        clear hK K
        try simp only [Act.put, gA, gS, gZ, sI, sZ, sS]
        refine ghA 30 (.bool false) hT hS ?_
        simp only [Act.put, gA, gS, gZ, sI, sZ, sS]
        refine wpAnyT_done (by kernel_rfl) ?_ _
        clear hT hS
        obtain ⟨-, -, r3, r4, r5⟩ := HX.out W6 hb7
        have HNX : Veil (toldL (L.take (k + 1)) who v = toldL (L.take k) who v) := ⟨by rw [HTT.out, HTE.out]; simp⟩
        clear HX HTT hT0
        go_wp2
        go_roundw
        case rel => exact ⟨k + 1, by omega, by push_cast; rfl, by rw [HNX.out]; exact r3, r4, r5⟩
        case measure => simp [intOf]; omega
      · have hhk := hhs wr.drew
        have hwb : (who == who) = true := beq_self_eq_true who
        refine wp_region_gateT (fun w' => w'.cell? ⟨R, 1, none⟩ = some (.slice (some ⟨bg, 0, none⟩) L.length bc) ∧ w'.cell? ⟨R, 0, none⟩ = some (.slice (some ⟨g, 0, none⟩) L.length c) ∧ w'.cell? ⟨bg, k, none⟩ = some (.bool true) ∧ w'.cell? ⟨g, k * 17 + 15, none⟩ = some (.int .u8 who) ∧ w'.rangeAt w.heap.size 0 VV ∧ w'.rangeAt g (k * 17) DJ) (fun _ => True) 99 (by kernel_rfl) ?_
        have hT : (fun w' : World => w'.cell? ⟨R, 1, none⟩ = some (.slice (some ⟨bg, 0, none⟩) L.length bc) ∧ w'.cell? ⟨R, 0, none⟩ = some (.slice (some ⟨g, 0, none⟩) L.length c) ∧ w'.cell? ⟨bg, k, none⟩ = some (.bool true) ∧ w'.cell? ⟨g, k * 17 + 15, none⟩ = some (.int .u8 who) ∧ w'.rangeAt w.heap.size 0 VV ∧ w'.rangeAt g (k * 17) DJ) wr.drew := hT0
        have hS : (fun _ : World => True) wr.drew := trivial
        refine ghA 0 _ hT hS ?_
        simp only [Act.put, gA, gS, gZ, sI, sZ, sS]
        refine ghA 1 _ hT hS ?_
        simp only [Act.put, gA, gS, gZ, sI, sZ, sS]
        refine ghA 2 _ hT hS ?_
        simp only [Act.put, gA, gS, gZ, sI, sZ, sS]
        refine ghA 3 _ hT hS ?_
        simp only [Act.put, gA, gS, gZ, sI, sZ, sS]
        refine ghA 4 _ hT hS ?_
        simp only [Act.put, gA, gS, gZ, sI, sZ, sS]
        refine ghA 5 _ hT hS ?_
        simp only [Act.put, gA, gS, gZ, sI, sZ, sS]
        refine ghA 6 _ hT hS ?_
        simp only [Act.put, gA, gS, gZ, sI, sZ, sS]
        refine ghA 7 _ hT hS ?_
        simp only [Act.put, gA, gS, gZ, sI, sZ, sS]
        refine ghA 8 _ hT hS ?_
        simp only [Act.put, gA, gS, gZ, sI, sZ, sS]
        refine ghA 9 _ hT hS ?_
        simp only [Act.put, gA, gS, gZ, sI, sZ, sS]
        refine ghA 10 _ hT hS ?_
        simp only [Act.put, gA, gS, gZ, sI, sZ, sS]
        refine ghA 11 _ hT hS ?_
        simp only [Act.put, gA, gS, gZ, sI, sZ, sS]
        refine ghA 12 _ hT hS ?_
        simp only [Act.put, gA, gS, gZ, sI, sZ, sS]
        refine ghA 13 _ hT hS ?_
        simp only [Act.put, gA, gS, gZ, sI, sZ, sS]
        refine ghA 14 _ hT hS ?_
        simp only [Act.put, gA, gS, gZ, sI, sZ, sS]
        refine ghA 15 _ hT hS ?_
        simp only [Act.put, gA, gS, gZ, sI, sZ, sS]
        refine ghA 16 _ hT hS ?_
        simp only [Act.put, gA, gS, gZ, sI, sZ, sS]
        refine ghA 17 (.bool true) hT hS ?_
        simp only [Act.put, gA, gS, gZ, sI, sZ, sS]
        refine ghA 18 (.bool true) hT hS ?_
        simp only [Act.put, gA, gS, gZ, sI, sZ, sS]
        refine ghA 19 _ hT hS ?_
        simp only [Act.put, gA, gS, gZ, sI, sZ, sS]
        refine gl 20 49 37 5 w.heap.size 0 VV (by kernel_rfl) (by kernel_rfl) (by kernel_rfl) (fun _ _ _ h => h) hT hS (by kernel_rfl) (fun _ h => h.2.2.2.2.1) uV rfl iV ?_
        simp only [Act.put, gA, gS, gZ, sI, sZ, sS]
        refine ghA 21 _ hT hS ?_
        simp only [Act.put, gA, gS, gZ, sI, sZ, sS]
        refine ghA 22 _ hT hS ?_
        simp only [Act.put, gA, gS, gZ, sI, sZ, sS]
        refine ghA 23 _ hT hS ?_
        simp only [Act.put, gA, gS, gZ, sI, sZ, sS]
        refine ghA 24 _ hT hS ?_
        simp only [Act.put, gA, gS, gZ, sI, sZ, sS]
        refine ghA 25 _ hT hS ?_
        simp only [Act.put, gA, gS, gZ, sI, sZ, sS]
        refine ghA 26 _ hT hS ?_
        simp only [Act.put, gA, gS, gZ, sI, sZ, sS]
        refine ghA 27 _ hT hS ?_
        simp only [Act.put, gA, gS, gZ, sI, sZ, sS]
        refine gl 28 57 40 56 g (k * 17) DJ (by kernel_rfl) (by kernel_rfl) (by kernel_rfl) (fun _ _ _ h => h) hT hS (by kernel_rfl) (fun _ h => h.2.2.2.2.2) uD rfl iDj ?_
        simp only [Act.put, gA, gS, gZ, sI, sZ, sS]
        refine wpAnyT_one (i := 29) rfl (by kernel_rfl) (by kernel_rfl) (fun K hK => ?_)
        refine wpx_call _ _ (by kernel_rfl) (hhk.mono ?_)
        rintro z W6 ⟨rfl, hb6⟩
        refine ⟨_, rfl, ?_⟩
        have hb7 : Below wr.heap.size wr W6 := ((Below.refl _ _).drew).trans (hb6.mono (Nat.le_refl _))
        replace hT : (fun w' : World => w'.cell? ⟨R, 1, none⟩ = some (.slice (some ⟨bg, 0, none⟩) L.length bc) ∧ w'.cell? ⟨R, 0, none⟩ = some (.slice (some ⟨g, 0, none⟩) L.length c) ∧ w'.cell? ⟨bg, k, none⟩ = some (.bool true) ∧ w'.cell? ⟨g, k * 17 + 15, none⟩ = some (.int .u8 who) ∧ w'.rangeAt w.heap.size 0 VV ∧ w'.rangeAt g (k * 17) DJ) W6 := (HX.out W6 hb7).1
        replace hS : (fun _ : World => True) W6 := trivial
        refine hK.out _ _ hT (fun _ => hS) ?_
        clear hK K
        try simp only [Act.put, gA, gS, gZ, sI, sZ, sS]
        refine ghA 30 (.bool true) hT hS ?_
        simp only [Act.put, gA, gS, gZ, sI, sZ, sS]
        refine wpAnyT_done (by kernel_rfl) ?_ _
        clear hT hS hhk hb6
        obtain ⟨⟨-, c06, -⟩, r2, r3, r4, r5⟩ := HX.out W6 hb7
        have HNX : Veil (toldL (L.take (k + 1)) who v = toldL (L.take k) who v ++ [L[k].1]) := ⟨by rw [HTT.out, HTE.out]; simp⟩
        have hal : Below W6.heap.size W6 (W6.alloc (.cells XC.toArray 44)) := (Below.refl _ _).alloc (Nat.le_refl _) _
        obtain ⟨v9, W9, hrun, ho9, hg9, hb9⟩ := (r3.far hal).app (P := Tryz.prog) 31 31 uS infoE17A rfl (by decide) XC he9 h19 W6.heap.size (CellsAt.new W6 44 XC).wholeM (by rw [List.length_map]; have := HTL.out; omega) (by decide) (by rw [World.size_alloc]; have h1 := r5.lt; omega)
        have HB9 : Veil (Below w.heap.size w W9) := ⟨(r4.trans (hal.mono r4.size)).grown hg9 (Nat.le_trans r4.size hal.size) (fun k hk => by have := (r3.blockLt k hk).2.1; omega)⟩
        have HX9 : Veil (CellsAt W9 w.heap.size 37 VV) := ⟨(r5.alloc _).congr (hg9.block _ (Nat.lt_of_lt_of_le r5.lt hal.size) (fun q => by have := (r3.blockLt _ q.symm).2.1; omega))⟩
        have HO9 : Veil (OwnI W9 (w.heap.size + 1) 44 17 v9 ((toldL (L.take (k + 1)) who v).map Ev.cells)) := ⟨by rw [HNX.out, List.map_append, List.map_cons, List.map_nil, HXC.out]; exact ho9⟩
        obtain ⟨lx9, lc9, hv9⟩ := HO9.out.isSlice
        obtain ⟨ln9, hln9⟩ : ∃ n, ((toldL (L.take (k + 1)) who v).map Ev.cells).length = n := ⟨_, rfl⟩
        rw [hln9] at hv9
        clear hln9 hb9 hg9 ho9 r3 r5 r4 hal HX hb7 HTT hT0
        subst hv9
        go_wp2_with (first
         | (refine wpList_ldv rfl 44 _ rfl g (k * 17) rfl XC r2 uE rfl iX ?_)
         | (refine wpList_bs1 rfl 31 44 _ rfl XC rfl uS (infoE17A) (by decide) (by decide) he9 ?_)
         | (refine wpList_appx rfl _ _ _ _ rfl _ _ _ W9 rfl rfl hrun ?_))
        go_roundw
        case rel => exact ⟨k + 1, by omega, by push_cast; rfl, HO9.out, HB9.out, HX9.out⟩
        case measure => simp [intOf]; omega
    · obtain rfl : k = L.length := by omega
      have hii : ¬ ((L.length : Nat) : Int) < (L.length : Int) := by omega
      rw [List.take_length] at hO
      replace HLN : Veil ((toldL L who v).length = ln) := ⟨by have := HLN.out; rw [List.take_length, List.length_map] at this; exact this⟩
      have HGT := Veil.mk (HG.out.told who v)
      have HTL : Veil ((toldL L who v).length ≤ 1000) := ⟨Nat.le_trans (toldL_len _ _ _) hL⟩
      generalize toldL L who v = TD at hO HLN HGT HTL HRL HRZ
      go_wp2_with fail
      clear c0 hii hlt hk hCr hy
      have hl0 : ln ≤ 1000 := by rw [← HLN.out]; exact HTL.out
      go_loopw [9, 10, 11, 12, 13] (fun p9 p10 p11 _ _ wr => ∃ i : Nat, i ≤ ln ∧ p11 = .int .i64 (i : Nat) ∧ p9 = .int .u8 (leastX ((TD.take i).filter (lastQ TD))) ∧ p10 = .bool (someX ((TD.take i).filter (lastQ TD))) ∧ OwnI wr (w.heap.size + 1) 44 17 (.slice lx ln lc) (TD.map Ev.cells) ∧ Below w.heap.size w wr) (fun _ _ q _ _ _ => ln - (intOf q).toNat)
      case atStart => exact ⟨0, Nat.zero_le _, rfl, rfl, rfl, hO, hB⟩
      case round =>
       obtain ⟨i, hi, rfl, rfl, rfl, hO, hB⟩ := hrel
       by_cases hlt : i < ln
       · have hii : (i : Int) < (ln : Int) := by omega
         have hi0 : (0 : Int) ≤ (i : Int) := by omega
         have hiT : i < TD.length := by rw [HLN.out]; exact hlt
         have hXS : Veil ((TD.take (i + 1)).filter (lastQ TD) = (TD.take i).filter (lastQ TD) ++ (if lastQ TD TD[i] = true then [TD[i]] else [])) := ⟨by
          rw [List.take_add_one, List.getElem?_eq_getElem hiT, List.filter_append]
          congr 1
          by_cases h : lastQ TD TD[i] = true
          · rw [if_pos h]; simp [h]
          · rw [if_neg h]; simp [h]⟩
         obtain ⟨hek, her, hkk⟩ := HGT.out TD[i] (List.getElem_mem hiT)
         have hgr := good_role her hkk
         have HRO := Veil.mk hgr
         have HZ : Veil (lastQ TD TD[i] = true → TD[i].kind = 4 → RP = 0) := ⟨HRZ.out TD[i] (List.getElem_mem hiT)⟩
         have HQ : Veil (lastQ TD TD[i] = !(TD.any fun x => hasB x.past TD[i].da TD[i].ds)) := ⟨rfl⟩
         have HLX := Veil.mk (leastX_app ((TD.take i).filter (lastQ TD)) TD[i] hgr.2.1)
         have HSX := Veil.mk (someX_app ((TD.take i).filter (lastQ TD)) TD[i])
         have he9 := aev_len TD[i] hek.past
         have iXI : (Tryz.prog.info? 44).map (·.size) = some TD[i].cells.length := by rw [he9]; kernel_rfl
         have HBF : Veil (∀ y : Ev, y.Ok → ∀ W, Calls Tryz.prog 49 #[.agg TD[i].cells.toArray, .agg y.cells.toArray] W fun r w' => r = .returned (.bool (hasB y.past TD[i].da TD[i].ds)) ∧ Below W.heap.size W w') := ⟨fun y hy W => rbefore_any TD[i] y W hek.past hy.past hek.dot.1.1 hek.dot.2.1⟩
         have h10 := (ev_parts TD[i] hek.past).2.2.1
         have h16 := (ev_parts TD[i] hek.past).2.2.2.2.2.2.2
         obtain ⟨g, hlx, -, -⟩ := hO.at_ i (by rw [List.length_map]; exact hiT)
         have HXI : Veil (∀ W, OwnI W (w.heap.size + 1) 44 17 (.slice lx ln lc) (TD.map Ev.cells) → W.rangeAt g (i * 17) TD[i].cells ∧ W.cell? ⟨g, i * 17 + 10, none⟩ = some (.int .u8 TD[i].kind) ∧ W.cell? ⟨g, i * 17 + 16, none⟩ = some (.int .u8 TD[i].role) ∧ ∀ (j : Nat) (hj : j < TD.length), W.rangeAt g (j * 17) TD[j].cells) := ⟨fun W hW => by
          have hall : ∀ (j : Nat) (hj : j < TD.length), W.rangeAt g (j * 17) TD[j].cells := fun j hj => by
           obtain ⟨g', hlx', -, hr⟩ := hW.at_ j (by rw [List.length_map]; exact hj)
           rw [hlx] at hlx'
           cases hlx'
           rw [List.getElem_map] at hr
           exact hr
          exact ⟨hall i hiT, hall i hiT 10 _ h10, hall i hiT 16 _ h16, hall⟩⟩
         subst hlx
         generalize hKI : TD[i].kind = KI at HXI HRO HZ
         generalize hRI : TD[i].role = RI at HXI HRO HLX
         generalize hLQ : lastQ TD TD[i] = LQ at hXS HZ HQ
         obtain ⟨XI, hXI⟩ : ∃ q, TD[i].cells = q := ⟨_, rfl⟩
         rw [hXI] at HXI HBF iXI
         obtain ⟨XX, hXX⟩ : ∃ q, (TD.take i).filter (lastQ TD) = q := ⟨_, rfl⟩
         rw [hXX] at hXS HLX HSX ⊢
         generalize hDA : TD[i].da = DA at HQ HBF
         generalize hDS : TD[i].ds = DS at HQ HBF
         clear hKI hRI hLQ hXI hXX hDA hDS hek her hkk hgr h10 h16 he9
         obtain ⟨LX, hLX⟩ : ∃ q, leastX XX = q := ⟨_, rfl⟩
         obtain ⟨SX, hSX⟩ : ∃ q, someX XX = q := ⟨_, rfl⟩
         rw [hLX] at HLX
         have HLX0 := Veil.mk hLX
         have HSX0 := Veil.mk hSX
         rw [hLX, hSX]
         clear hLX hSX
         have hw2 : IntKind.i64.wrap ((i : Int) + 1) = (i : Int) + 1 := by rw [IntKind.wrap_i64]; omega
         go_wp2_with fail
         go_loopw [12, 13] (fun p12 p13 wr => ∃ j : Nat, j ≤ ln ∧ p13 = .int .i64 (j : Nat) ∧ p12 = .bool (!((TD.take j).any fun x => hasB x.past DA DS)) ∧ OwnI wr (w.heap.size + 1) 44 17 (.slice (some ⟨g, 0, none⟩) ln lc) (TD.map Ev.cells) ∧ Below w.heap.size w wr) (fun _ q _ => ln - (intOf q).toNat)
         case atStart => exact ⟨0, Nat.zero_le _, rfl, rfl, hO, hB⟩
         case round =>
          obtain ⟨j, hj, rfl, rfl, hO, hB⟩ := hrel
          by_cases hjl : j < ln
          · have hjj : (j : Int) < (ln : Int) := by omega
            have hj0 : (0 : Int) ≤ (j : Int) := by omega
            have hjT : j < TD.length := by rw [HLN.out]; exact hjl
            have hjk := (HGT.out TD[j] (List.getElem_mem hjT)).1
            have hj2 : IntKind.i64.wrap ((j : Int) + 1) = (j : Int) + 1 := by rw [IntKind.wrap_i64]; omega
            have HST : Veil ((!((TD.take (j + 1)).any fun x => hasB x.past DA DS)) = (!((TD.take j).any fun x => hasB x.past DA DS) && !hasB TD[j].past DA DS)) := ⟨by
             rw [List.take_add_one, List.getElem?_eq_getElem hjT, List.any_append]
             simp⟩
            have iXJ : (Tryz.prog.info? 44).map (·.size) = some TD[j].cells.length := by rw [aev_len TD[j] hjk.past]; kernel_rfl
            have hbf := HBF.out TD[j] hjk wr.drew
            have HOK : Veil (∀ W, Below wr.heap.size wr W → (W.rangeAt g (i * 17) XI ∧ W.rangeAt g (j * 17) TD[j].cells) ∧ OwnI W (w.heap.size + 1) 44 17 (.slice (some ⟨g, 0, none⟩) ln lc) (TD.map Ev.cells) ∧ Below w.heap.size w W) := ⟨fun W hb => ⟨⟨(HXI.out W (hO.far hb)).1, (HXI.out W (hO.far hb)).2.2.2 j hjT⟩, hO.far hb, hB.trans (hb.mono hB.size)⟩⟩
            generalize hasB TD[j].past DA DS = BJ at hbf HST
            generalize TD[j].cells = XJ at hbf iXJ HOK
            obtain ⟨FL, hFL⟩ : ∃ q, (!((TD.take j).any fun x => hasB x.past DA DS)) = q := ⟨_, rfl⟩
            rw [hFL] at HST ⊢
            clear hFL hjk hO hB
            go_upto_region 18 with fail
            refine wp_region_gateT (fun w' => w'.rangeAt g (i * 17) XI ∧ w'.rangeAt g (j * 17) XJ) (fun _ => True) 99 (by kernel_rfl) ?_
            have hT : (fun w' : World => w'.rangeAt g (i * 17) XI ∧ w'.rangeAt g (j * 17) XJ) wr.drew := (HOK.out wr.drew (Below.refl _ _).drew).1
            have hS : (fun _ : World => True) wr.drew := trivial
            refine ghA 0 _ hT hS ?_
            simp only [Act.put, gA, gS, gZ, sI, sZ, sS]
            refine ghA 1 _ hT hS ?_
            simp only [Act.put, gA, gS, gZ, sI, sZ, sS]
            refine ghA 2 _ hT hS ?_
            simp only [Act.put, gA, gS, gZ, sI, sZ, sS]
            refine gl 3 85 44 84 g (i * 17) XI (by kernel_rfl) (by kernel_rfl) (by kernel_rfl) (fun _ _ _ h => h) hT hS (by kernel_rfl) (fun _ h => h.1) uE rfl iXI ?_
            simp only [Act.put, gA, gS, gZ, sI, sZ, sS]
            refine ghA 4 _ hT hS ?_
            simp only [Act.put, gA, gS, gZ, sI, sZ, sS]
            refine ghA 5 _ hT hS ?_
            simp only [Act.put, gA, gS, gZ, sI, sZ, sS]
            refine ghA 6 _ hT hS ?_
            simp only [Act.put, gA, gS, gZ, sI, sZ, sS]
            refine gl 7 89 44 88 g (j * 17) XJ (by kernel_rfl) (by kernel_rfl) (by kernel_rfl) (fun _ _ _ h => h) hT hS (by kernel_rfl) (fun _ h => h.2) uE rfl iXJ ?_
            simp only [Act.put, gA, gS, gZ, sI, sZ, sS]
            refine wpAnyT_one (i := 8) rfl (by kernel_rfl) (by kernel_rfl) (fun K hK => ?_)
            refine wpx_call _ _ (by kernel_rfl) (hbf.mono ?_)
            rintro z W6 ⟨rfl, hb6⟩
            refine ⟨_, rfl, ?_⟩
            have hb7 : Below wr.heap.size wr W6 := ((Below.refl _ _).drew).trans (hb6.mono (Nat.le_refl _))
            replace hT : (fun w' : World => w'.rangeAt g (i * 17) XI ∧ w'.rangeAt g (j * 17) XJ) W6 := (HOK.out W6 hb7).1
            replace hS : (fun _ : World => True) W6 := trivial
            refine hK.out _ _ hT (fun _ => hS) ?_
            clear hK K
            try simp only [Act.put, gA, gS, gZ, sI, sZ, sS]
            refine wpAnyT_done (by kernel_rfl) ?_ _
            clear hT hS hbf hb6
            obtain ⟨-, r3, r4⟩ := HOK.out W6 hb7
            clear HOK hb7
            cases BJ with
            | true =>
             go_wp2
             go_roundw
             case rel => exact ⟨j + 1, by omega, by push_cast; rfl, by rw [HST.out]; simp, r3, r4⟩
             case measure => simp [intOf]; omega
            | false =>
             go_wp2
             go_roundw
             case rel => exact ⟨j + 1, by omega, by push_cast; rfl, by rw [HST.out]; simp, r3, r4⟩
             case measure => simp [intOf]; omega
          · obtain rfl : j = ln := by omega
            have hjj : ¬ ((j : Nat) : Int) < (j : Int) := by omega
            have HFQ : Veil ((!((TD.take j).any fun x => hasB x.past DA DS)) = LQ) := ⟨by rw [← HLN.out, List.take_length, ← HQ.out]⟩
            obtain ⟨FL, hFL⟩ : ∃ q, (!((TD.take j).any fun x => hasB x.past DA DS)) = q := ⟨_, rfl⟩
            rw [hFL] at HFQ ⊢
            obtain rfl : FL = LQ := HFQ.out
            obtain ⟨-, c10, c16, -⟩ := HXI.out wr hO
            have HO := Veil.mk hO
            have HBB := Veil.mk hB
            clear hFL hO hB HBF
            cases FL with
            | false =>
             replace hXS : Veil ((TD.take (i + 1)).filter (lastQ TD) = XX) := ⟨by rw [hXS.out]; simp⟩
             clear c10 c16
             go_wp2
             go_roundw
             case rel => exact ⟨i + 1, by omega, by push_cast; rfl, by rw [hXS.out, HLX0.out], by rw [hXS.out, HSX0.out], HO.out, HBB.out⟩
             case measure => simp [intOf]; omega
            | true =>
             replace hXS : Veil ((TD.take (i + 1)).filter (lastQ TD) = XX ++ [TD[i]]) := ⟨by rw [hXS.out]; simp⟩
             have hcs : KI = 4 ∨ (KI ≠ 4 ∧ RI < LX) ∨ (KI ≠ 4 ∧ ¬ RI < LX) := by omega
             rcases hcs with rfl | ⟨hk4, hrl⟩ | ⟨hk4, hrl⟩
             · have HR0 : Veil (RP = 0) := ⟨HZ.out rfl rfl⟩
               clear c16
               go_wp2
               go_ret
               exact ⟨by rw [HRP.out, HR0.out]; rfl, HBB.out⟩
             · have hkb : (KI == 4) = false := by simpa using hk4
               clear hk4
               go_wp2
               go_roundw
               case rel => exact ⟨i + 1, by omega, by push_cast; rfl, by rw [hXS.out, HLX.out, if_pos hrl], by rw [hXS.out, HSX.out], HO.out, HBB.out⟩
               case measure => simp [intOf]; omega
             · have hkb : (KI == 4) = false := by simpa using hk4
               clear hk4
               go_wp2
               go_roundw
               case rel => exact ⟨i + 1, by omega, by push_cast; rfl, by rw [hXS.out, HLX.out, if_neg hrl], by rw [hXS.out, HSX.out], HO.out, HBB.out⟩
               case measure => simp [intOf]; omega
       · obtain rfl : i = ln := by omega
         have hii : ¬ ((i : Nat) : Int) < (i : Int) := by omega
         have hX : (TD.take i).filter (lastQ TD) = lastL TD := by rw [← HLN.out, List.take_length]; rfl
         rw [hX]
         have HBB := Veil.mk hB
         obtain ⟨LX, hLX⟩ : ∃ q, leastX (lastL TD) = q := ⟨_, rfl⟩
         obtain ⟨SX, hSX⟩ : ∃ q, someX (lastL TD) = q := ⟨_, rfl⟩
         rw [hLX, hSX] at HRL
         rw [hLX, hSX]
         clear hX hLX hSX hO hB
         cases SX with
         | true =>
          replace HRL : Veil (RP = LX) := ⟨by rw [HRL.out]; simp⟩
          go_wp2
          go_ret
          exact ⟨by rw [HRP.out, HRL.out]; rfl, HBB.out⟩
         | false =>
          by_cases hw0 : who = 0
          · subst hw0
            replace HRL : Veil (RP = LX) := ⟨by rw [HRL.out]; simp⟩
            go_wp2
            go_ret
            exact ⟨by rw [HRP.out, HRL.out]; rfl, HBB.out⟩
          · replace HRL : Veil (RP = 0) := ⟨by rw [HRL.out]; simp [hw0]⟩
            have hwb : (who != 0) = true := by simpa using hw0
            clear hw0
            go_wp2
            go_ret
            exact ⟨by rw [HRP.out, HRL.out]; rfl, HBB.out⟩
end Go.Proofs.YtmbdohnmbkpfaaaGreat
