/- AclNoneW AclFirstW Rk2 Rk3 Rk4 -/
import Derived.Test.YtmbdohnmbkpfaaaGreatV24
import Derived.Test.YtmbdohnmbkpfaaaGreatV05
import Derived.Test.YtmbdohnmbkpfaaaGreatV25
import Derived.Test.YtmbdohnmbkpfaaaGreatV06
namespace Go.Proofs.YtmbdohnmbkpfaaaGreat
open Go.RowKit Go.Shelf
set_option maxRecDepth 20000
set_option linter.unusedSimpArgs false
theorem rright_okA (e : Ev) (w : World) (he : e.Ok) : Calls Tryz.prog 42 #[.agg e.cells.toArray] w fun x w' => x = .returned (.bool (rightB e)) ∧ Below w.heap.size w w' :=
 rright_any e w he.past he.dot.1.1 he.dot.2.1 (by have := he.dot.2.2; omega) he.par.1.1 he.par.2.1
def cntB (L : List Ent) (d : Int × Int) : Bool := match lookB L d with | some x => x.2 | none => false
theorem cntB_at {L : List Ent} {d : Int × Int} (k : Nat) (hk : k < L.length) (hb : lookB (L.take k) d = none) (hd : L[k].1.dot = d) : cntB L d = L[k].2 := by
 unfold cntB
 have h : lookB L d = some L[k] := by
  unfold lookB at *
  have e : L = L.take k ++ L[k] :: L.drop (k + 1) := by rw [List.getElem_cons_drop, List.take_append_drop]
  rw [congrArg (List.find? (fun x : Ent => x.1.dot == d)) e, List.find?_append, hb]
  rw [Option.none_or, List.find?_cons_of_pos (by simpa using hd)]
 rw [h]
theorem lookB_take {L : List Ent} {d : Int × Int} (k : Nat) (hk : k < L.length) (hb : lookB (L.take k) d = none) (hd : L[k].1.dot ≠ d) : lookB (L.take (k + 1)) d = none := by
 unfold lookB at *
 rw [List.take_add_one, List.getElem?_eq_getElem hk, List.find?_append, hb, Option.none_or]
 show List.find? _ [L[k]] = none
 rw [List.find?_cons_of_neg (by simpa using hd)]; rfl
theorem dotC_eq {a s a' s' : Int} : ((a, s) : Int × Int) = (a', s') ↔ (a == a' && s == s') = true := by simp
set_option maxHeartbeats 2000000 in
theorem rmembers_any {B : Nat} (R : Nat) (L : List Ent) (x bx : Option Addr) (c bc : Nat) (v : List Int) (w : World) (hC : RefB B w R L x c bx bc) (hv : v.length = 8) (hL : L.length ≤ 1000) (hG : GoodB L) :
    Calls Tryz.prog 69 #[.pointer (some ⟨R, 0, none⟩), .agg (row .u32 v)] w fun e w' => e = .returned (.agg (row .u8 (membersL L v))) ∧ Below w.heap.size w w' := by
 have hv0 := Holds.new w .u32 37 v
 have hr0 := Holds.new (w.alloc (.cells (row .u32 v) 37)) .u8 49 [0, 0, 0, 0, 0, 0, 0, 0]
 rw [World.size_alloc] at hr0
 have hv1 := (hv0.alloc (.cells (row .u8 [0, 0, 0, 0, 0, 0, 0, 0]) 49)).alloc (.cells (row .u8 [0, 0, 0, 0, 0, 0, 0, 0]) 49)
 have hr1 := hr0.alloc (.cells (row .u8 [0, 0, 0, 0, 0, 0, 0, 0]) 49)
 have hs1 := Holds.new ((w.alloc (.cells (row .u32 v) 37)).alloc (.cells (row .u8 [0, 0, 0, 0, 0, 0, 0, 0]) 49)) .u8 49 [0, 0, 0, 0, 0, 0, 0, 0]
 rw [World.size_alloc, World.size_alloc] at hs1
 have hBw : Below w.heap.size w (((w.alloc (.cells (row .u32 v) 37)).alloc (.cells (row .u8 [0, 0, 0, 0, 0, 0, 0, 0]) 49)).alloc (.cells (row .u8 [0, 0, 0, 0, 0, 0, 0, 0]) 49)) := (((Below.refl _ _).alloc (Nat.le_refl _) _).alloc (by simp) _).alloc (by simp; omega) _
 have HRO : Veil (∀ W, Below w.heap.size w W → ∀ who, Calls Tryz.prog 23 #[.pointer (some ⟨R, 0, none⟩), .int .u8 who, .agg (row .u32 v)] W fun e w' => e = .returned (.int .u8 (roleP L who v)) ∧ Below W.heap.size W w') := ⟨fun W hb who => rrole_any R L x bx c bc who v W (hC.far hb) hv hL hG⟩
 have HV := Veil.mk hv
 clear hv0 hr0 hC hv hG
 go_enter Tryz.func69, Tryz.ntmps69
 go_wp2_with fail
 obtain ⟨Z, hZ⟩ : ∃ Z : List Int, Z = [0, 0, 0, 0, 0, 0, 0, 0] := ⟨_, rfl⟩
 have HZ : Veil (Z.length = 8) := ⟨by rw [hZ]; rfl⟩
 have hM0 : memTo L v 0 = [0, 0, 0, 0, 0, 0, 0, 0] := rfl
 refine forget (p := fun y => Code.wp _ _ _ _ y) (fun W => Below w.heap.size w W ∧ Holds W w.heap.size .u32 37 v ∧ Holds W (w.heap.size + 1) .u8 49 Z ∧ Holds W (w.heap.size + 1 + 1) .u8 49 (memTo L v 0)) ⟨hBw, hv1, by rw [hZ]; exact hr1, by rw [hM0]; exact hs1⟩ ?_
 clear hBw hv1 hr1 hs1 hZ hM0
 rintro W ⟨hBw, hv1, hr1, hs1⟩
 go_loopw [6] (fun i wr => ∃ k : Nat, k ≤ 8 ∧ i = .int .i64 k ∧ Below w.heap.size w wr ∧ Holds wr w.heap.size .u32 37 v ∧ Holds wr (w.heap.size + 1) .u8 49 Z ∧ Holds wr (w.heap.size + 1 + 1) .u8 49 (memTo L v k)) (fun i _ => 8 - (intOf i).toNat)
 case atStart => exact ⟨0, by omega, rfl, hBw, hv1, hr1, hs1⟩
 case round =>
  clear hBw hv1 hr1 hs1
  obtain ⟨k, hk, rfl, hB, hv1, hr1, hs1⟩ := hrel
  by_cases hlt : k < 8
  · have hki : (0 : Int) ≤ (k : Int) := by omega
    have hkl : (k : Int) < 8 := by omega
    have hkw : IntKind.u8.wrap (k : Int) = (k : Int) := by simp [IntKind.wrap, IntKind.bits, IntKind.signed]; omega
    have hl8 := HV.out
    have hro := HRO.out wr hB (k : Nat)
    have HSE : Veil (∀ W6, Below wr.heap.size wr W6 → Below w.heap.size w W6 ∧ Holds W6 w.heap.size .u32 37 v ∧ Holds W6 (w.heap.size + 1) .u8 49 Z ∧ Holds W6 (w.heap.size + 1 + 1) .u8 49 (memTo L v k)) := ⟨fun W6 hb => ⟨hB.trans (hb.mono hB.size), holds_farA hv1 hb, holds_farA hr1 hb, holds_farA hs1 hb⟩⟩
    have HST : Veil (memTo L v (k + 1) = (memTo L v k).set k (roleP L (k : Nat) v)) := ⟨memTo_set L v k⟩
    have HLN : Veil ((memTo L v k).length = 8) := ⟨memTo_len L v k⟩
    clear hB hr1 hs1
    generalize roleP L (k : Nat) v = RK at hro HST
    go_wp2_with (first
     | (refine wpList_ld rfl 37 _ rfl _ rfl hv1 Tryz.underlying37 sizeV8 hl8 ?_)
     | (go_at_call 23; refine hro.mono ?_; rintro z W6 ⟨rfl, hb6⟩; obtain ⟨hB6, hv6, hr6, hs6⟩ := HSE.out W6 hb6; clear hb6; have c6 := hs6.cell k (by rw [HLN.out]; exact hlt); have f6 := hs6.frozen k))
    go_roundw
    case rel => exact ⟨k + 1, by omega, by go_num, hB6.setCell (by simp; omega) _, hv6.setOther _ _ (by simp; omega), hr6.setOther _ _ (by simp), by rw [HST.out]; exact hs6.set k _⟩
    case measure => simp [intOf]; omega
  · obtain rfl : k = 8 := by omega
    have hz8 := HZ.out
    have HJ : Veil (membersL L v = memTo L v 8) := ⟨(memTo_8 L v).symm⟩
    have hj8 := memTo_len L v 8
    obtain ⟨J, hJ⟩ : ∃ J, memTo L v 8 = J := ⟨_, rfl⟩
    rw [hJ] at hs1 HJ hj8
    clear hJ HRO HV
    go_wp2_with (first
     | (refine wpList_ld rfl 49 _ rfl _ rfl hs1 Tryz.underlying49 sizeR8 hj8 ?_)
     | (refine wpList_st rfl 49 _ _ rfl _ rfl rfl hr1 (by rw [hj8]; exact sizeR8) (by rw [hz8, hj8]) ?_))
    refine bodyPost_ret (results_holds (Tryz.results69) _ rfl (hr1.setRow _) Tryz.underlying49 sizeR8 hj8) rfl ⟨?_, ?_⟩
    · rw [HJ.out]
    · exact below_setRow hB (by omega) _
set_option maxHeartbeats 8000000 in
theorem rcounts_any {B : Nat} (R : Nat) (L : List Ent) (x bx : Option Addr) (c bc : Nat) (da ds : Int) (w : World) (hC : RefB B w R L x c bx bc) (hL : L.length ≤ 1000) (hG : GoodB L) :
    Calls Tryz.prog 60 #[.pointer (some ⟨R, 0, none⟩), .agg (dotC da ds).toArray] w fun r w' => r = .returned (.bool (cntB L (da, ds))) ∧ Below w.heap.size w w' := by
 have hB0 : Below w.heap.size w (w.alloc (.cells (dotC da ds).toArray 40)) := (Below.refl _ _).alloc (Nat.le_refl _) _
 have hx0 := CellsAt.new w 40 (dotC da ds)
 have iD : ∀ a s, (Tryz.prog.info? 40).map (·.size) = some (dotC a s).length := fun a s => sizeDot
 have uD := Tryz.underlying40
 have HC := Veil.mk hC
 have HG := Veil.mk hG
 clear hC hG
 go_enter Tryz.func60, Tryz.ntmps60
 go_upto_region 1 with fail
 refine forget (p := fun y => Code.wp _ _ _ _ y) (fun W => Below w.heap.size w W ∧ CellsAt W w.heap.size 40 (dotC da ds)) ⟨hB0, hx0⟩ ?_
 clear hB0 hx0
 rintro W1 ⟨hB1, hy1⟩
 go_wp2_with fail
 go_loopw [5] (fun q wr => ∃ k : Nat, k ≤ L.length ∧ q = .int .i64 (k : Nat) ∧ lookB (L.take k) (da, ds) = none ∧ Below w.heap.size w wr ∧ CellsAt wr w.heap.size 40 (dotC da ds)) (fun q _ => L.length - (intOf q).toNat)
 case atStart => exact ⟨0, Nat.zero_le _, rfl, rfl, hB1, hy1⟩
 case round =>
  obtain ⟨k, hk, rfl, hlk, hB, hy⟩ := hrel
  clear hB1 hy1
  have HLK := Veil.mk hlk
  clear hlk
  have hCr := HC.out.far hB
  have c0 : wr.cell? ⟨R, 0, none⟩ = some (.slice x L.length c) := hCr.cells.cell 0
  by_cases hlt : k < L.length
  · have hii : (k : Int) < (L.length : Int) := by omega
    have hk0 : (0 : Int) ≤ (k : Int) := by omega
    obtain ⟨g, rfl, -, hxr⟩ := hCr.ev.at_ k (by rw [List.length_map]; exact hlt)
    obtain ⟨bg, rfl, -, hbr⟩ := hCr.bo.at_ k (by rw [List.length_map]; exact hlt)
    rw [List.getElem_map] at hxr hbr
    have hek := (HG.out L[k] (List.getElem_mem hlt)).1
    have hdp := (ev_parts L[k].1 hek.past).1
    have hxd : wr.rangeAt g (k * 17) (dotC L[k].1.da L[k].1.ds) := fun j u hu => hxr j u (by
     rw [← hdp, List.drop_zero, List.getElem?_take] at hu
     split at hu
     · exact hu
     · cases hu)
    have cb : wr.cell? ⟨bg, k, none⟩ = some (.bool L[k].2) := by
     have h1 := hbr 0 (.bool L[k].2) rfl
     simpa using h1
    have c1 : wr.cell? ⟨R, 1, none⟩ = some (.slice (some ⟨bg, 0, none⟩) L.length bc) := hCr.cells.cell 1
    have iDj := iD L[k].1.da L[k].1.ds
    have iD0 := iD da ds
    have hwh := hy.wholeM
    have HEQ : Veil (∀ wx, (Op.equalIn 10000 40 (.agg (dotC L[k].1.da L[k].1.ds).toArray) (.agg (dotC da ds).toArray)).run Tryz.prog wx = .ok (L[k].1.da == da && L[k].1.ds == ds) wx) := ⟨fun wx => dot_eqIn 9998 _ _ _ _ wx⟩
    have hDD : Veil (L[k].1.dot = (da, ds) ↔ (L[k].1.da == da && L[k].1.ds == ds) = true) := ⟨dotC_eq⟩
    have HE : Veil (L[k].1.dot = (da, ds) → cntB L (da, ds) = L[k].2) := ⟨fun h => cntB_at k hlt HLK.out h⟩
    have HN : Veil (L[k].1.dot ≠ (da, ds) → lookB (L.take (k + 1)) (da, ds) = none) := ⟨fun h => lookB_take k hlt HLK.out h⟩
    have hw2 : IntKind.i64.wrap ((k : Int) + 1) = (k : Int) + 1 := by rw [IntKind.wrap_i64]; omega
    generalize (L[k].1.da == da && L[k].1.ds == ds) = EQ at HEQ hDD
    generalize dotC L[k].1.da L[k].1.ds = DJ at hxd iDj HEQ
    generalize hD0 : dotC da ds = D0 at hwh iD0 HEQ hy ⊢
    generalize hCK : L[k].2 = CK at cb HE
    clear hD0 hCK hxr hbr hek hdp iD hCr
    have heq := HEQ.out
    go_upto_region 4 with fail
    refine wp_region_gateT (fun w' => w'.cell? ⟨R, 0, none⟩ = some (.slice (some ⟨g, 0, none⟩) L.length c) ∧ w'.rangeAt g (k * 17) DJ ∧ w'.rangeAt w.heap.size 0 D0) (fun _ => True) 99 (by kernel_rfl) ?_
    have hT : (fun w' : World => w'.cell? ⟨R, 0, none⟩ = some (.slice (some ⟨g, 0, none⟩) L.length c) ∧ w'.rangeAt g (k * 17) DJ ∧ w'.rangeAt w.heap.size 0 D0) wr.drew := ⟨c0, hxd, hwh⟩
    have hS : (fun _ : World => True) wr.drew := trivial
    refine ghA 0 _ hT hS ?_
    simp only [Act.put, gA, gS, gZ, sI, sZ, sS]
    refine ghA 1 _ hT hS ?_
    simp only [Act.put, gA, gS, gZ, sI, sZ, sS]
    refine ghA 2 _ hT hS ?_
    simp only [Act.put, gA, gS, gZ, sI, sZ, sS]
    refine ghA 3 _ hT hS ?_
    simp only [Act.put, gA, gS, gZ, sI, sZ, sS]
    refine ghA 4 _ hT hS ?_
    simp only [Act.put, gA, gS, gZ, sI, sZ, sS]
    refine ghA 5 _ hT hS ?_
    simp only [Act.put, gA, gS, gZ, sI, sZ, sS]
    refine ghA 6 _ hT hS ?_
    simp only [Act.put, gA, gS, gZ, sI, sZ, sS]
    refine gl 7 26 40 25 g (k * 17) DJ (by kernel_rfl) (by kernel_rfl) (by kernel_rfl) (fun _ _ _ h => h) hT hS (by kernel_rfl) (fun _ h => h.2.1) uD rfl iDj ?_
    simp only [Act.put, gA, gS, gZ, sI, sZ, sS]
    refine gl 8 27 40 3 w.heap.size 0 D0 (by kernel_rfl) (by kernel_rfl) (by kernel_rfl) (fun _ _ _ h => h) hT hS (by kernel_rfl) (fun _ h => h.2.2) uD rfl iD0 ?_
    simp only [Act.put, gA, gS, gZ, sI, sZ, sS]
    refine ghA 9 (.bool EQ) hT hS ?_
    simp only [Act.put, gA, gS, gZ, sI, sZ, sS]
    refine wpAnyT_done (by kernel_rfl) ?_ _
    clear hT hS
    cases EQ with
    | true =>
     have HR := Veil.mk (HE.out (hDD.out.2 rfl))
     go_wp2
     go_ret
     exact ⟨by rw [HR.out]; rfl, hB.drew⟩
    | false =>
     have HNX := Veil.mk (HN.out (fun h => by have := hDD.out.1 h; cases this))
     go_wp2
     go_roundw
     case rel => exact ⟨k + 1, by omega, by push_cast; rfl, HNX.out, hB.drew, hy.congr rfl⟩
     case measure => simp [intOf]; omega
  · obtain rfl : k = L.length := by omega
    have hii : ¬ ((L.length : Nat) : Int) < (L.length : Int) := by omega
    have HR : Veil (cntB L (da, ds) = false) := ⟨by have := HLK.out; rw [List.take_length] at this; unfold cntB; rw [this]⟩
    clear hCr
    go_wp2
    go_ret
    exact ⟨by rw [HR.out]; rfl, hB⟩
def OwnR (R : Nat) (v u : Value) (k : Nat) : Prop := k = R ∨ v.ownBlock = some k ∨ u.ownBlock = some k
theorem infoBA : (Tryz.prog.info? 4).map (fun i => (i.zero, i.size, i.bytes)) = some (some (.bool false), 1, 1) := by kernel_rfl
theorem refApp1 {B : Nat} {A : World} {R n : Nat} {vs bs : List (List Value)} {v u : Value} (hc : CellsAt A R 85 [v, u]) (hv : OwnI A B 44 17 v vs) (hu : OwnI A B 4 1 u bs) (hBA : B ≤ A.heap.size) (hn : vs.length = n) (hL : n ≤ 1000) (E : List Value) (he1 : E.length = 17) (he2 : ∀ q ∈ E, q.oneCell' = true) :
    ∃ x7 c7 W7, (Builtin.append_ #[31, 31] 31 #[v, .slice (some ⟨A.heap.size, 0, none⟩) 1 1]).run Tryz.prog (A.alloc (.cells E.toArray 44)) = .ok (.slice x7 (n + 1) c7) W7 ∧ W7.cell? ⟨R, 0, none⟩ = some v ∧ W7.frozen? ⟨R, 0, none⟩ = false ∧
     CellsAt (W7.setCell ⟨R, 0, none⟩ (.slice x7 (n + 1) c7)) R 85 [.slice x7 (n + 1) c7, u] ∧ OwnI (W7.setCell ⟨R, 0, none⟩ (.slice x7 (n + 1) c7)) B 44 17 (.slice x7 (n + 1) c7) (vs ++ [E]) ∧ OwnI (W7.setCell ⟨R, 0, none⟩ (.slice x7 (n + 1) c7)) B 4 1 u bs ∧ Turn (OwnR R v u) A (W7.setCell ⟨R, 0, none⟩ (.slice x7 (n + 1) c7)) ∧ (∀ k, (Value.slice x7 (n + 1) c7).ownBlock = some k → v.ownBlock = some k ∨ A.heap.size ≤ k) ∧ (∀ k, k < A.heap.size → k ≠ R → v.ownBlock ≠ some k → W7.heap[k]? = A.heap[k]?) := by
 have hal : Below A.heap.size A (A.alloc (.cells E.toArray 44)) := (Below.refl _ _).alloc (Nat.le_refl _) _
 obtain ⟨v7, W7, hrun, ho7, hg7, hb8⟩ := (hv.far hal).app (P := Tryz.prog) 31 31 Tryz.underlying31 infoE17A rfl (by decide) E he1 he2 A.heap.size (CellsAt.new A 44 E).wholeM (by omega) (by decide) (by rw [World.size_alloc]; omega)
 obtain ⟨x7, c7, rfl⟩ := ho7.isSlice
 have hln : (vs ++ [E]).length = n + 1 := by rw [List.length_append, hn]; rfl
 rw [hln] at hrun ho7 hb8
 have hvR : ∀ g, v.ownBlock = some g → g ≠ R := ownNeA hv hc (by decide)
 have huR : ∀ g, u.ownBlock = some g → g ≠ R := ownNeA hu hc (by decide)
 have huv : ∀ g g', v.ownBlock = some g → u.ownBlock = some g' → g ≠ g' := ownNeB hv hu (by decide)
 have hblk : ∀ k, k < A.heap.size → v.ownBlock ≠ some k → W7.heap[k]? = A.heap[k]? := fun k hk hne => (hg7.block k (by rw [World.size_alloc]; omega) (fun q => hne q.symm)).trans (Below.heap_alloc _ _ _ hk)
 have hc7 : CellsAt W7 R 85 [v, u] := hc.congr (hblk R hc.lt (fun q => hvR R q rfl))
 have h7R : ∀ g, (Value.slice x7 (n + 1) c7).ownBlock = some g → g ≠ R := fun g hg => by
  rcases hb8 with q | q
  · rw [q] at hg; exact hvR g hg
  · rw [q] at hg
    have := Option.some.inj hg
    have := hc.lt
    rw [World.size_alloc] at *
    omega
 refine ⟨x7, c7, W7, hrun, hc7.cell 0, hc7.frozen 0, hc7.set 0 _, ho7.congr (fun g hg => Below.heap_setCell _ _ _ _ (h7R g hg)), (hu.congr (fun g hg => hblk g (hu.blockLt g hg).1 (fun q => huv g g q hg rfl))).congr (fun g hg => Below.heap_setCell _ _ _ _ (huR g hg)), ?_, ?_, fun k hk _ hne => hblk k hk hne⟩
 · refine ((Turn.of_below hal).trans (Turn.of_grown hg7 (fun k e => .inr (.inl e)))).trans (Turn.of_setCell _ ?_ _)
   exact .inl rfl
 · intro k hk
   rcases hb8 with q | q
   · rw [q] at hk; exact .inl hk
   · rw [q] at hk
     have := Option.some.inj hk
     rw [World.size_alloc] at this
     exact .inr (by omega)
theorem refApp2 {B : Nat} {A : World} {R n : Nat} {vs bs : List (List Value)} {v u : Value} (hc : CellsAt A R 85 [v, u]) (hv : OwnI A B 44 17 v vs) (hu : OwnI A B 4 1 u bs) (hBA : B ≤ A.heap.size) (hn : bs.length = n) (hL : n ≤ 1000) (b : Bool) :
    ∃ x7 c7 W7, (Builtin.append_ #[83, 83] 83 #[u, .slice (some ⟨A.heap.size, 0, none⟩) 1 1]).run Tryz.prog (A.alloc (.cells #[.bool b] 4)) = .ok (.slice x7 (n + 1) c7) W7 ∧ W7.cell? ⟨R, 1, none⟩ = some u ∧ W7.frozen? ⟨R, 1, none⟩ = false ∧
     CellsAt (W7.setCell ⟨R, 1, none⟩ (.slice x7 (n + 1) c7)) R 85 [v, .slice x7 (n + 1) c7] ∧ OwnI (W7.setCell ⟨R, 1, none⟩ (.slice x7 (n + 1) c7)) B 4 1 (.slice x7 (n + 1) c7) (bs ++ [[.bool b]]) ∧ OwnI (W7.setCell ⟨R, 1, none⟩ (.slice x7 (n + 1) c7)) B 44 17 v vs ∧ Turn (OwnR R v u) A (W7.setCell ⟨R, 1, none⟩ (.slice x7 (n + 1) c7))  ∧ (∀ k, (Value.slice x7 (n + 1) c7).ownBlock = some k → u.ownBlock = some k ∨ A.heap.size ≤ k) := by
 have hal : Below A.heap.size A (A.alloc (.cells #[.bool b] 4)) := (Below.refl _ _).alloc (Nat.le_refl _) _
 obtain ⟨v7, W7, hrun, ho7, hg7, hb8⟩ := (hu.far hal).app (P := Tryz.prog) 83 83 Tryz.underlying83 infoBA rfl (by decide) [.bool b] rfl (by simp [Value.oneCell']) A.heap.size (CellsAt.new A 4 [.bool b]).wholeM (by omega) (by decide) (by rw [World.size_alloc]; omega)
 obtain ⟨x7, c7, rfl⟩ := ho7.isSlice
 have hln : (bs ++ [[Value.bool b]]).length = n + 1 := by rw [List.length_append, hn]; rfl
 rw [hln] at hrun ho7 hb8
 have hvR : ∀ g, v.ownBlock = some g → g ≠ R := ownNeA hv hc (by decide)
 have huR : ∀ g, u.ownBlock = some g → g ≠ R := ownNeA hu hc (by decide)
 have huv : ∀ g g', v.ownBlock = some g → u.ownBlock = some g' → g ≠ g' := ownNeB hv hu (by decide)
 have hblk : ∀ k, k < A.heap.size → u.ownBlock ≠ some k → W7.heap[k]? = A.heap[k]? := fun k hk hne => (hg7.block k (by rw [World.size_alloc]; omega) (fun q => hne q.symm)).trans (Below.heap_alloc _ _ _ hk)
 have hc7 : CellsAt W7 R 85 [v, u] := hc.congr (hblk R hc.lt (fun q => huR R q rfl))
 have h7R : ∀ g, (Value.slice x7 (n + 1) c7).ownBlock = some g → g ≠ R := fun g hg => by
  rcases hb8 with q | q
  · rw [q] at hg; exact huR g hg
  · rw [q] at hg
    have := Option.some.inj hg
    have := hc.lt
    rw [World.size_alloc] at *
    omega
 refine ⟨x7, c7, W7, hrun, hc7.cell 1, hc7.frozen 1, hc7.set 1 _, ho7.congr (fun g hg => Below.heap_setCell _ _ _ _ (h7R g hg)), (hv.congr (fun g hg => hblk g (hv.blockLt g hg).1 (fun q => huv g g hg q rfl))).congr (fun g hg => Below.heap_setCell _ _ _ _ (hvR g hg)), ?_, fun k hk => ?_⟩
 · refine ((Turn.of_below hal).trans (Turn.of_grown hg7 (fun k e => .inr (.inr e)))).trans (Turn.of_setCell _ ?_ _)
   exact .inl rfl
 · rcases hb8 with q | q
   · rw [q] at hk; exact .inl hk
   · rw [q] at hk
     have := Option.some.inj hk
     rw [World.size_alloc] at this
     exact .inr (by omega)
theorem lookB_isSome_at {L : List Ent} {d : Int × Int} (k : Nat) (hk : k < L.length) (hd : L[k].1.dot = d) : (lookB L d).isSome = true := by
 cases h : lookB L d with
 | some x => rfl
 | none => exact absurd hd (lookB_none.1 h _ (List.getElem_mem hk))
set_option maxHeartbeats 16000000 in
theorem raddO_any {B : Nat} (R : Nat) (L : List Ent) (x bx : Option Addr) (c bc : Nat) (e : Ev) (w : World) (hC : RefB B w R L x c bx bc) (he : e.Ok) (hL : L.length ≤ 1000) (hG : GoodB L) (hBW : B ≤ w.heap.size) :
    Calls Tryz.prog 24 #[.pointer (some ⟨R, 0, none⟩), .agg e.cells.toArray] w fun r w' => r = .returned (.int .i64 (refB L e)) ∧ (∃ x' c' bx' bc', RefB B w' R (addB L e) x' c' bx' bc' ∧ ∀ k, OwnR R (.slice x' (addB L e).length c') (.slice bx' (addB L e).length bc') k → OwnR R (.slice x L.length c) (.slice bx L.length bc) k ∨ w.heap.size ≤ k) ∧ Turn (OwnR R (.slice x L.length c) (.slice bx L.length bc)) w w' := by
 have hB0 : Below w.heap.size w (w.alloc (.cells e.cells.toArray 44)) := (Below.refl _ _).alloc (Nat.le_refl _) _
 have hx0 := CellsAt.new w 44 e.cells
 have he1 := aev_len e he.past
 have he2 := aev_one e
 have iE : (Tryz.prog.info? 44).map (·.size) = some e.cells.length := by rw [he1]; kernel_rfl
 have iD : (Tryz.prog.info? 40).map (·.size) = some (dotC e.da e.ds).length := sizeDot
 have iP : (Tryz.prog.info? 37).map (·.size) = some (e.past.map (Value.int .u32)).length := by rw [List.length_map, he.past]; kernel_rfl
 have uE := Tryz.underlying44
 have uD := Tryz.underlying40
 have uV := Tryz.underlying37
 have uS := Tryz.underlying31
 have uB := Tryz.underlying83
 have HR : Veil (∀ W, Calls Tryz.prog 42 #[.agg e.cells.toArray] W fun x w' => x = .returned (.bool (rightB e)) ∧ Below W.heap.size W w') := ⟨fun W => rright_okA e W he⟩
 have HT : Veil (∀ W, CellsAt W w.heap.size 44 e.cells → W.rangeAt w.heap.size 0 e.cells ∧ W.rangeAt w.heap.size 0 (dotC e.da e.ds) ∧ W.cell? ⟨w.heap.size, 10, none⟩ = some (.int .u8 e.kind) ∧ W.cell? ⟨w.heap.size, 0, none⟩ = some (.int .u8 e.da) ∧ W.rangeAt w.heap.size 2 (e.past.map (Value.int .u32))) := ⟨fun W hx => by
  have h1 := hx.range 0 2
  rw [(ev_parts e he.past).1] at h1
  have h2 := hx.range 2 8
  rw [(ev_parts e he.past).2.1] at h2
  exact ⟨hx.wholeM, h1, (hx.cell 10).trans (ev_parts e he.past).2.2.1, by have := h1 0 _ rfl; simpa using this, h2⟩⟩
 have HRO : Veil (∀ W, Below w.heap.size w W → Calls Tryz.prog 23 #[.pointer (some ⟨R, 0, none⟩), .int .u8 e.da, .agg (e.past.map (Value.int .u32)).toArray] W fun r w' => r = .returned (.int .u8 (roleP L e.da e.past)) ∧ Below W.heap.size W w') := ⟨fun W hb => rrole_any R L x bx c bc e.da e.past W (hC.far hb) he.past hL hG⟩
 have HEQ : Veil (∀ (k : Nat) (hk : k < L.length), ∀ wx, (Op.equalIn 10000 40 (.agg (dotC L[k].1.da L[k].1.ds).toArray) (.agg (dotC e.da e.ds).toArray)).run Tryz.prog wx = .ok (L[k].1.da == e.da && L[k].1.ds == e.ds) wx) := ⟨fun k hk wx => dot_eqIn 9998 _ _ _ _ wx⟩
 have HDD : Veil (∀ (k : Nat) (hk : k < L.length), (L[k].1.dot = e.dot ↔ (L[k].1.da == e.da && L[k].1.ds == e.ds) = true)) := ⟨fun k hk => dotC_eq⟩
 have HN : Veil (refB L e = if rightB e = false then 3 else if e.kind ≠ 3 ∧ e.kind ≠ 4 then 3 else if (lookB L e.dot).isSome = true then 5 else if 512 ≤ L.length then 10 else 0) := ⟨rfl⟩
 have HAD : Veil (addB L e = if refB L e = 0 then L ++ [(e, roleP L e.da e.past == 3)] else L) := ⟨rfl⟩
 have HC := Veil.mk hC
 have HG := Veil.mk hG
 have HEE : Veil (∀ cb, (L ++ [(e, cb)]).map (fun q : Ent => q.1.cells) = L.map (fun q => q.1.cells) ++ [e.cells]) := ⟨fun cb => by rw [List.map_append]; rfl⟩
 have HBE : Veil (∀ cb, (L ++ [(e, cb)]).map (fun q : Ent => [Value.bool q.2]) = L.map (fun q => [Value.bool q.2]) ++ [[.bool cb]]) := ⟨fun cb => by rw [List.map_append]; rfl⟩
 obtain ⟨E, hE⟩ : ∃ E, e.cells = E := ⟨_, rfl⟩
 rw [hE] at hB0 hx0 iE HT he1 he2 HR HEE ⊢
 obtain ⟨RN, hRN⟩ : ∃ q, refB L e = q := ⟨_, rfl⟩
 obtain ⟨RP, hRP⟩ : ∃ q, roleP L e.da e.past = q := ⟨_, rfl⟩
 rw [hRN, hRP] at HAD
 rw [hRN] at HN
 rw [hRP] at HRO
 generalize rightB e = RB at HR HN
 generalize e.kind = KD at HN HT
 obtain ⟨PV, hPV⟩ : ∃ q, e.past.map (Value.int .u32) = q := ⟨_, rfl⟩
 rw [hPV] at HT HRO iP
 obtain ⟨DV, hDV⟩ : ∃ q, dotC e.da e.ds = q := ⟨_, rfl⟩
 rw [hDV] at HT iD HEQ
 generalize e.da = DA at HT HRO HEQ HDD
 have HRN := Veil.mk hRN
 clear hC he hE hG hRN hRP hPV hDV
 have HNO : Veil (∀ W, Below w.heap.size w W → RN ≠ 0 → (∃ x' c' bx' bc', RefB B W R (addB L e) x' c' bx' bc' ∧ ∀ k, OwnR R (.slice x' (addB L e).length c') (.slice bx' (addB L e).length bc') k → OwnR R (.slice x L.length c) (.slice bx L.length bc) k ∨ w.heap.size ≤ k) ∧ Turn (OwnR R (.slice x L.length c) (.slice bx L.length bc)) w W) := ⟨fun W hb h => ⟨⟨x, c, bx, bc, by rw [HAD.out, if_neg h]; exact HC.out.far hb, by rw [HAD.out, if_neg h]; exact fun k q => .inl q⟩, Turn.of_below hb⟩⟩
 go_enter Tryz.func24, Tryz.ntmps24
 go_upto_region 3 with fail
 refine forget (p := fun y => Code.wp _ _ _ _ y) (fun W => Below w.heap.size w W ∧ CellsAt W w.heap.size 44 E) ⟨hB0, hx0⟩ ?_
 clear hB0 hx0
 rintro W ⟨hB, hx⟩
 have hrE := hx.wholeM
 have hr := HR.out W
 have HK10 : Veil (∀ W1, Below W.heap.size W W1 → W1.cell? ⟨w.heap.size, 10, none⟩ = some (.int .u8 KD)) := ⟨fun W1 hb => (HT.out W1 (hx.farM hb)).2.2.1⟩
 cases RB
 · replace HN : Veil (RN = 3) := ⟨HN.out⟩
   go_wp2_with (first
    | (refine wpList_ldv rfl 44 _ rfl w.heap.size 0 rfl E hrE uE rfl iE ?_)
    | (go_at_call 42; refine hr.mono ?_; rintro x W1 ⟨rfl, hb1⟩))
   go_ret
   exact ⟨by rw [HRN.out, HN.out]; rfl, HNO.out _ (hB.trans (hb1.mono hB.size)) (by rw [HN.out]; decide)⟩
 replace HN : Veil (RN = if KD ≠ 3 ∧ KD ≠ 4 then 3 else if (lookB L e.dot).isSome = true then 5 else if 512 ≤ L.length then 10 else 0) := ⟨HN.out⟩
 by_cases hbad : KD ≠ 3 ∧ KD ≠ 4
 · replace HN : Veil (RN = 3) := ⟨by rw [HN.out, if_pos hbad]⟩
   have hk3b : (KD != 3) = true := by simpa using hbad.1
   have hk4b : (KD != 4) = true := by simpa using hbad.2
   clear hbad
   go_wp2_with (first
    | (refine wpList_ldv rfl 44 _ rfl w.heap.size 0 rfl E hrE uE rfl iE ?_)
    | (go_at_call 42; refine hr.mono ?_; rintro x W1 ⟨rfl, hb1⟩; have c10 := HK10.out W1 hb1))
   go_ret
   exact ⟨by rw [HRN.out, HN.out]; rfl, HNO.out _ (hB.trans (hb1.mono hB.size)) (by rw [HN.out]; decide)⟩
 · replace HN : Veil (RN = if (lookB L e.dot).isSome = true then 5 else if 512 ≤ L.length then 10 else 0) := ⟨by rw [HN.out, if_neg hbad]⟩
   have hkk : KD = 3 ∨ KD = 4 := by omega
   clear hbad
   rcases hkk with rfl | rfl
   all_goals
    go_upto_region 5 with (first
     | (refine wpList_ldv rfl 44 _ rfl w.heap.size 0 rfl E hrE uE rfl iE ?_)
     | (go_at_call 42; refine hr.mono ?_; rintro x W1 ⟨rfl, hb1⟩; have c10 := HK10.out W1 hb1))
    have hB2 := hB.trans (hb1.mono hB.size)
    have hx2 := hx.farM hb1
    clear hr hrE hB hx hb1 HR HK10 c10
    go_wp2_with fail
    go_loopw [5] (fun q wr => ∃ k : Nat, k ≤ L.length ∧ q = .int .i64 (k : Nat) ∧ lookB (L.take k) e.dot = none ∧ Below w.heap.size w wr ∧ CellsAt wr w.heap.size 44 E) (fun q _ => L.length - (intOf q).toNat)
    case atStart => exact ⟨0, Nat.zero_le _, rfl, rfl, hB2, hx2⟩
    case round =>
     obtain ⟨k, hk, rfl, hlk, hB, hy⟩ := hrel
     clear hB2 hx2
     have HLK := Veil.mk hlk
     clear hlk
     have hCr := HC.out.far hB
     have c0 : wr.cell? ⟨R, 0, none⟩ = some (.slice x L.length c) := hCr.cells.cell 0
     by_cases hlt : k < L.length
     · have hii : (k : Int) < (L.length : Int) := by omega
       have hk0 : (0 : Int) ≤ (k : Int) := by omega
       obtain ⟨g, rfl, -, hxr⟩ := hCr.ev.at_ k (by rw [List.length_map]; exact hlt)
       rw [List.getElem_map] at hxr
       have hek := (HG.out L[k] (List.getElem_mem hlt)).1
       have hdp := (ev_parts L[k].1 hek.past).1
       have hxd : wr.rangeAt g (k * 17) (dotC L[k].1.da L[k].1.ds) := fun j u hu => hxr j u (by
        rw [← hdp, List.drop_zero, List.getElem?_take] at hu
        split at hu
        · exact hu
        · cases hu)
       have iDj : (Tryz.prog.info? 40).map (·.size) = some (dotC L[k].1.da L[k].1.ds).length := sizeDot
       obtain ⟨-, hwd, -, -, -⟩ := HT.out wr hy
       have heq := HEQ.out k hlt
       have hDD := HDD.out k hlt
       have HE5 : Veil (L[k].1.dot = e.dot → RN = 5) := ⟨fun h => by rw [HN.out, if_pos (lookB_isSome_at k hlt h)]⟩
       have HNX : Veil (L[k].1.dot ≠ e.dot → lookB (L.take (k + 1)) e.dot = none) := ⟨fun h => lookB_take k hlt HLK.out h⟩
       have hw2 : IntKind.i64.wrap ((k : Int) + 1) = (k : Int) + 1 := by rw [IntKind.wrap_i64]; omega
       generalize (L[k].1.da == DA && L[k].1.ds == e.ds) = EQ at heq hDD
       have HDQ := Veil.mk hDD
       generalize dotC L[k].1.da L[k].1.ds = DJ at hxd iDj heq
       clear hxr hek hdp hCr hDD
       go_upto_region 8 with fail
       refine wp_region_gateT (fun w' => w'.cell? ⟨R, 0, none⟩ = some (.slice (some ⟨g, 0, none⟩) L.length c) ∧ w'.rangeAt g (k * 17) DJ ∧ w'.rangeAt w.heap.size 0 DV) (fun _ => True) 99 (by kernel_rfl) ?_
       have hT : (fun w' : World => w'.cell? ⟨R, 0, none⟩ = some (.slice (some ⟨g, 0, none⟩) L.length c) ∧ w'.rangeAt g (k * 17) DJ ∧ w'.rangeAt w.heap.size 0 DV) wr.drew := ⟨c0, hxd, hwd⟩
       have hS : (fun _ : World => True) wr.drew := trivial
       refine ghA 0 _ hT hS ?_
       simp only [Act.put, gA, gS, gZ, sI, sZ, sS]
       refine ghA 1 _ hT hS ?_
       simp only [Act.put, gA, gS, gZ, sI, sZ, sS]
       refine ghA 2 _ hT hS ?_
       simp only [Act.put, gA, gS, gZ, sI, sZ, sS]
       refine ghA 3 _ hT hS ?_
       simp only [Act.put, gA, gS, gZ, sI, sZ, sS]
       refine ghA 4 _ hT hS ?_
       simp only [Act.put, gA, gS, gZ, sI, sZ, sS]
       refine ghA 5 _ hT hS ?_
       simp only [Act.put, gA, gS, gZ, sI, sZ, sS]
       refine ghA 6 _ hT hS ?_
       simp only [Act.put, gA, gS, gZ, sI, sZ, sS]
       refine gl 7 40 40 39 g (k * 17) DJ (by kernel_rfl) (by kernel_rfl) (by kernel_rfl) (fun _ _ _ h => h) hT hS (by kernel_rfl) (fun _ h => h.2.1) uD rfl iDj ?_
       simp only [Act.put, gA, gS, gZ, sI, sZ, sS]
       refine ghA 8 _ hT hS ?_
       simp only [Act.put, gA, gS, gZ, sI, sZ, sS]
       refine gl 9 42 40 41 w.heap.size 0 DV (by kernel_rfl) (by kernel_rfl) (by kernel_rfl) (fun _ _ _ h => h) hT hS (by kernel_rfl) (fun _ h => h.2.2) uD rfl iD ?_
       simp only [Act.put, gA, gS, gZ, sI, sZ, sS]
       refine ghA 10 (.bool EQ) hT hS ?_
       simp only [Act.put, gA, gS, gZ, sI, sZ, sS]
       refine wpAnyT_done (by kernel_rfl) ?_ _
       clear hT hS
       cases EQ with
       | true =>
        have HR5 := Veil.mk (HE5.out (HDQ.out.2 rfl))
        go_wp2
        go_ret
        exact ⟨by rw [HRN.out, HR5.out]; rfl, HNO.out _ hB.drew (by rw [HR5.out]; decide)⟩
       | false =>
        have HNN := Veil.mk (HNX.out (fun h => by have := HDQ.out.1 h; cases this))
        go_wp2
        go_roundw
        case rel => exact ⟨k + 1, by omega, by push_cast; rfl, HNN.out, hB.drew, hy.congr rfl⟩
        case measure => simp [intOf]; omega
     · obtain rfl : k = L.length := by omega
       have hii : ¬ ((L.length : Nat) : Int) < (L.length : Int) := by omega
       replace HN : Veil (RN = if 512 ≤ L.length then 10 else 0) := ⟨by
        have h0 := HLK.out
        rw [List.take_length] at h0
        rw [HN.out, h0]; rfl⟩
       by_cases h5 : 512 ≤ L.length
       · replace HN : Veil (RN = 10) := ⟨by rw [HN.out, if_pos h5]⟩
         have h5i : (512 : Int) ≤ (L.length : Int) := by omega
         clear hCr
         go_wp2
         go_ret
         exact ⟨by rw [HRN.out, HN.out]; rfl, HNO.out _ hB (by rw [HN.out]; decide)⟩
       · replace HN : Veil (RN = 0) := ⟨by rw [HN.out, if_neg h5]⟩
         have h5i : ¬ (512 : Int) ≤ (L.length : Int) := by omega
         obtain ⟨-, -, -, c00, hrP⟩ := HT.out wr hy
         have hro := HRO.out wr hB
         have HCR := Veil.mk hCr
         have HY := Veil.mk hy
         have HBB := Veil.mk hB
         clear hCr hy hB hk hlt HNO
         go_upto_region 13 with (first
          | (refine wpList_ldv rfl 37 _ rfl w.heap.size 2 rfl PV hrP uV rfl iP ?_)
          | (go_at_call 23; refine hro.mono ?_; rintro z W6 ⟨rfl, hb6⟩))
         have hC6 := HCR.out.far hb6
         have hy6 := HY.out.farM hb6
         have hB6 := HBB.out.trans (hb6.mono HBB.out.size)
         have hC6d : RefB B W6.drew R L x c bx bc := hC6.congr rfl (fun _ _ => rfl) (fun _ _ => rfl)
         obtain ⟨x7, c7, W7, hrun7, hc70, hf70, hC7, ho7, hu7, ht7, hown7, hblk7⟩ := refApp1 hC6d.cells hC6d.ev hC6d.bo (Nat.le_trans hBW hB6.size) (by rw [List.length_map]) (by omega) E he1 he2
         obtain ⟨x9, c9, W9, hrun9, hc91, hf91, hC9, ho9, hv9, ht9, hown9⟩ := refApp2 hC7 ho7 hu7 (Nat.le_trans (Nat.le_trans hBW hB6.size) ht7.size) (by rw [List.length_map]) (by omega) (RP == 3)
         have hfin : Veil (RefB B (W9.setCell ⟨R, 1, none⟩ (.slice x9 (L.length + 1) c9)) R (L ++ [(e, RP == 3)]) x7 c7 x9 c9) := ⟨⟨by rw [List.length_append]; exact hC9, by rw [List.length_append, HEE.out]; exact hv9, by rw [List.length_append, HBE.out]; exact ho9⟩⟩
         have HTU : Veil (Turn (OwnR R (.slice x L.length c) (.slice bx L.length bc)) w (W9.setCell ⟨R, 1, none⟩ (.slice x9 (L.length + 1) c9))) := ⟨⟨((ht9.os.trans ht7.os).trans hB6.os), ((ht9.tape.trans ht7.tape).trans hB6.tape), ((ht9.output.trans ht7.output).trans hB6.output), Nat.le_trans hB6.size (Nat.le_trans ht7.size ht9.size), fun k hk hn => by
          have hk6 : k < W6.heap.size := Nat.lt_of_lt_of_le hk hB6.size
          refine ((ht9.block k (Nat.lt_of_lt_of_le hk6 ht7.size) (fun q => ?_)).trans (ht7.block k hk6 hn)).trans (hB6.block k hk)
          rcases q with q | q | q
          · exact hn (.inl q)
          · rcases hown7 k q with r | r
            · exact hn (.inr (.inl r))
            · have : W6.drew.heap.size = W6.heap.size := rfl
              omega
          · exact hn (.inr (.inr q))⟩⟩
         have HOW : Veil (∀ k, OwnR R (.slice x7 (L.length + 1) c7) (.slice x9 (L.length + 1) c9) k → OwnR R (.slice x L.length c) (.slice bx L.length bc) k ∨ w.heap.size ≤ k) := ⟨fun k q => by
          have s6 := hB6.size
          have s7 : W6.heap.size ≤ _ := ht7.size
          rcases q with q | q | q
          · exact .inl (.inl q)
          · rcases hown7 k q with r | r
            · exact .inl (.inr (.inl r))
            · have : W6.drew.heap.size = W6.heap.size := rfl
              exact .inr (by omega)
          · rcases hown9 k q with r | r
            · exact .inl (.inr (.inr r))
            · exact .inr (by omega)⟩
         replace HAD : Veil (addB L e = L ++ [(e, RP == 3)]) := ⟨by rw [HAD.out, HN.out]; rfl⟩
         have hxne : ∀ g, (Value.slice x L.length c).ownBlock = some g → g ≠ w.heap.size := fun g hg => by have := (HC.out.ev.blockLt g hg).1; omega
         have hRne : w.heap.size ≠ R := by have := HC.out.cells.lt; omega
         have c06 : W6.cell? ⟨R, 0, none⟩ = some (.slice x L.length c) := hC6.cells.cell 0
         have hw6 := hy6.wholeM
         have hy7 : CellsAt W7 w.heap.size 44 E := hy6.congr ((hblk7 w.heap.size hy6.lt hRne (fun q => hxne _ q rfl)).trans rfl)
         have hw7 := hy7.wholeM
         have hwa : (W6.drew.alloc (.cells E.toArray 44)).rangeAt w.heap.size 0 E := ((hy6.congr (w' := W6.drew) rfl).alloc _).wholeM
         have c0a : (W6.drew.alloc (.cells E.toArray 44)).cell? ⟨R, 0, none⟩ = some (.slice x L.length c) := (hC6d.cells.alloc _).cell 0
         have c91 : (W7.setCell ⟨R, 0, none⟩ (.slice x7 (L.length + 1) c7)).cell? ⟨R, 1, none⟩ = some (.slice bx L.length bc) := hC7.cell 1
         clear hC6 hy6 hB6 hC6d ht7 ht9 hown7 hown9 hblk7 hC7 hC9 ho7 hu7 ho9 hv9 hy7 hb6 hro hrP c00 c0
         refine wp_region_gate (fun w' => w'.cell? ⟨R, 0, none⟩ = some (.slice x L.length c) ∧ w'.rangeAt w.heap.size 0 E) 10 (by kernel_rfl) ?_
         have hS : (fun w' : World => w'.cell? ⟨R, 0, none⟩ = some (.slice x L.length c) ∧ w'.rangeAt w.heap.size 0 E) W6.drew := ⟨c06, hw6⟩
         refine gaA 0 _ hS ?_
         simp only [Act.put, gA, gS, gZ, sI, sZ, sS]
         refine gaA 1 _ hS ?_
         simp only [Act.put, gA, gS, gZ, sI, sZ, sS]
         refine gaA 2 _ hS ?_
         simp only [Act.put, gA, gS, gZ, sI, sZ, sS]
         refine gaA 3 _ hS ?_
         simp only [Act.put, gA, gS, gZ, sI, sZ, sS]
         refine grA 4 _ hS ?_
         simp only [Act.put, gA, gS, gZ, sI, sZ, sS]
         refine wpAnyG_load (i := 5) (dst := some 63) (ty := 44) (x := .tmp 3) (b := w.heap.size) (o := (0)) (cs := E) (by kernel_rfl) (by kernel_rfl) (by kernel_rfl) (by kernel_rfl) (by kernel_rfl) (fun _ _ _ h => h) (by kernel_rfl) (by kernel_rfl) (by kernel_rfl) hS (by kernel_rfl) (fun _ h => h.2) uE rfl iE ?_
         simp only [Act.put, gA, gS, gZ, sI, sZ, sS]
         refine wpAnyG_one (i := 6) rfl (by kernel_rfl) (by kernel_rfl) (fun K hK => ?_)
         refine wp_bs1 31 44 _ rfl E rfl uS infoE17A (by decide) (by decide) he1 ?_
         replace hS : (fun w' : World => w'.cell? ⟨R, 0, none⟩ = some (.slice x L.length c) ∧ w'.rangeAt w.heap.size 0 E) (W6.drew.alloc (.cells E.toArray 44)) := ⟨c0a, hwa⟩
         refine hK.out _ _ (fun _ => hS) ?_
         clear hK K
         try simp only [Act.put, gA, gS, gZ, sI, sZ, sS]
         refine wpAnyG_one (i := 7) rfl (by kernel_rfl) (by kernel_rfl) (fun K hK => ?_)
         refine wpx_app _ _ 31 31 rfl _ _ _ W7 rfl rfl hrun7 ?_
         replace hS : (fun w' : World => w'.cell? ⟨R, 0, none⟩ = some (.slice x L.length c) ∧ w'.rangeAt w.heap.size 0 E) W7 := ⟨hc70, hw7⟩
         refine hK.out _ _ (fun _ => hS) ?_
         clear hK K
         try simp only [Act.put, gA, gS, gZ, sI, sZ, sS]
         refine gaA 8 _ hS ?_
         simp only [Act.put, gA, gS, gZ, sI, sZ, sS]
         refine gaA 9 _ hS ?_
         simp only [Act.put, gA, gS, gZ, sI, sZ, sS]
         refine wpAnyG_one (i := 10) rfl (by kernel_rfl) (by kernel_rfl) (fun K hK => ?_)
         clear c06 c0a hw6 hwa hw7 hrun7
         go_simp
         refine hK.out _ _ (fun h => absurd (show true = false from h) (by decide)) ?_
         clear hK K
         try simp only [Act.put, gA, gS, gZ, sI, sZ, sS]
         refine wpAnyG_done (by kernel_rfl) ?_ _
         clear hS hc70 hf70
         generalize W7.setCell ⟨R, 0, none⟩ (.slice x7 (L.length + 1) c7) = A3 at hrun9 c91 ⊢
         generalize hCB : (RP == 3) = CB at hrun9 hfin HAD ⊢
         clear hCB
         simp only [Exit.then]
         go_wp2_with (first
          | (refine wpList_appx rfl _ _ _ _ rfl _ _ _ W9 rfl rfl hrun9 ?_))
         go_ret
         exact ⟨by rw [HRN.out, HN.out]; rfl, ⟨x7, c7, x9, c9, by rw [HAD.out]; exact hfin.out, by rw [HAD.out, List.length_append, List.length_singleton]; exact HOW.out⟩, HTU.out⟩
end Go.Proofs.YtmbdohnmbkpfaaaGreat
