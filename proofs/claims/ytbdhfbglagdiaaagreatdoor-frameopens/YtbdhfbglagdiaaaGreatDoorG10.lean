/- GoZ Pa Pb -/
import Derived.Test.YtbdhfbglagdiaaaGreatDoorG07
import Derived.Test.YtbdhfbglagdiaaaGreatDoorG09
import Derived.Test.YtbdhfbglagdiaaaGreatDoorG02
import Derived.OwnWalk
import Derived.Laws.BitsLemmas
import Derived.Laws.Bits64
import Derived.Laws.Bits64b
namespace Go.Proofs.YtbdhfbglagdiaaaGreatDoor
open Go.ChangeShapes Go.WideShapes Go.ChangeAt Go.RowKit
set_option maxRecDepth 20000
set_option linter.unusedSimpArgs false
theorem gTabK : Tryz.prog.globalNamed "escritoire/sha.roundWords" = some 1 := by kernel_rfl
theorem gTabKType : (Tryz.prog.globals[1]?).map (·.type) = some 179 := by kernel_rfl
theorem cellsK64 : Tryz.prog.cellsOf 179 = 64 := by kernel_rfl
theorem cellsKU32 : Tryz.prog.cellsOf 24 = 1 := by kernel_rfl
theorem tables2 {W : World} (h : laidMetH Tryz.prog [("escritoire/sha.roundWords", Rows.laid_escritoire_sha_roundWords), ("escritoire/wire.buckets", Rows.laid_escritoire_wire_buckets)] W) : S.KTab W ∧ BTab W := by
 have ht : Lib.TabIs Tryz.prog W "escritoire/sha.roundWords" .u32 S.kTab := Lib.tabIs_of_head (rest := [("escritoire/wire.buckets", Rows.laid_escritoire_wire_buckets)]) gTabK gTabKType Tryz.underlying179 Tryz.underlying24 cellsKU32 cellsK64 h
 have hb : Lib.TabIs Tryz.prog W "escritoire/wire.buckets" .i64 bTab := by
  obtain ⟨ps, ⟨_, _, _, _, _, _, _, _, _, _, hrest, _⟩, _⟩ := h
  obtain ⟨g', t', cs, fuel, p, q, hg', ht', hvar, hd, _, _⟩ := hrest
  obtain rfl := Option.some.inj (gTab.symm.trans hg')
  obtain rfl := Option.some.inj (gTabType.symm.trans ht')
  unfold Lib.TabIs
  rw [hvar, ← Lib.cells_of_tab Tryz.underlying152 Tryz.underlying3 cellsI64 cells6 hd]
 refine ⟨fun j hj => ?_, fun j v hv => ?_⟩
 · have := ht.cell gTabK j hj
   rw [List.getD_eq_getElem?_getD] at this
   exact this
 · have hj : j < bTab.length := by have := (List.getElem?_eq_some_iff.1 hv).1; simpa using this
   have := hb.cell gTab j hj
   rw [Nat.zero_add, this, ← hv, List.getElem?_map, List.getD_eq_getElem?_getD, List.getElem?_eq_getElem hj]; rfl
def layB : Obj → Obj
 | .cells _ t frozen => .cells (row .i64 bTab) t frozen
 | o => o
def layK : Obj → Obj
 | .cells _ t frozen => .cells (row .u32 S.kTab) t frozen
 | o => o
noncomputable def laidWorld2 (os : Os) : World :=
 { World.holding Tryz.prog os ⟨#[], #[], []⟩ with heap := ((World.holding Tryz.prog os ⟨#[], #[], []⟩).heap.modify 0 layB).modify 1 layK }
structure Aq where
 own : Int
 seed : List Int
 num : Int
 prev : List Int
 ea : Int
 es : Int
 wraps : Value
 E : Ev
def Aq.cells (q : Aq) : List Value := [.int .u8 q.own] ++ q.seed.map (Value.int .u8) ++ [.int .u32 q.num] ++ q.prev.map (Value.int .u8) ++ dotC q.ea q.es ++ [q.wraps] ++ q.E.cells
structure AqIn (W : World) (q : Aq) (xw : Option Addr) (lw cw : Nat) (ws : List Wp) : Prop where
 own : in8 q.own
 seed : q.seed.length = 32
 seedI : ∀ x ∈ q.seed, in8 x
 num : in32 q.num
 prev : q.prev.length = 32
 prevI : ∀ x ∈ q.prev, in8 x
 ea : in8 q.ea
 es : in32 q.es
 wraps : q.wraps = .slice xw lw cw
 hw : WrapsAt W xw lw cw ws
 inW : ∀ e ∈ ws, e.In
 E : q.E.In
def frZ7 : Fr := ⟨0, 0, 0, 0, List.replicate 32 0, .slice none 0 0, .slice none 0 0, List.replicate 32 0⟩
theorem open_key7 {H : Type} {enc : TypeId × Value → H} {W : World} {r : Reach} {base : Nat} {v : Value} {d : DataW H} {p : List MemPlace} (hv : Value.okWide Tryz.prog W r base 23 v) (h : DataW.Trod enc Tryz.prog W 0 (fun _ => true) true 23 v d p) :
    ∃ l : List Int, l.length = 32 ∧ v = .agg (row .u8 l) ∧ ∀ x ∈ l, 0 ≤ x ∧ x ≤ 255 := by
 obtain ⟨l, h1, h2, h3⟩ := open_row Tryz.underlying23 Tryz.underlying5 cellsU8 (by kernel_rfl) hv h
 exact ⟨l, h1, h2, fun x hx => bounds_u8 (h3 x hx)⟩
open Go.RowKit
set_option maxHeartbeats 1000000
theorem grown_set {w w':World} {g:Nat} (h:w.grownBy w' (some g)) (j:Nat) (v:Value):w.grownBy (w'.setCell ⟨g,j,none⟩ v) (some g):=
 h.trans ⟨rfl,rfl,rfl,by simp [World.setCell],fun k _ hk=>heap_setCell_other w' _ k _ (fun e=>hk (by rw [e]))⟩
theorem grown_drew {w w':World} {r:Option Nat} (h:w.grownBy w' r):w.grownBy w'.drew r:=⟨h.os,h.tape,h.output,by simpa using h.size,fun k a b=>by rw [heap_drew];exact h.block k a b⟩
theorem gp {w w':World} {g b:Nat} (h:w.grownBy w' (some g)) (hb:w.heap.size≤b) (j:Nat) (v:Value):w.grownBy (w'.setCell ⟨b,j,none⟩ v) (some g):=
 ⟨h.os,h.tape,h.output,by simpa [World.setCell] using h.size,fun k hk hne=>by rw [heap_setCell_other w' _ k _ (by show k≠b;omega)];exact h.block k hk hne⟩
theorem sp (g:Nat) (t:TypeId) (L:List Int) (w:World) (h:aa w g .u64 t L) (hl:5≤L.length):
    Calls Tryz.prog 185 #[.pointer (some ⟨g,0,none⟩)] w fun e w'=>e=.returned (.int .u64 (L[4]?.getD 0 / 67108864))∧aa w' g .u64 t (L.set 4 (bits .and .u64 (L[4]?.getD 0) 67108863))∧w.grownBy w' (some g):=by
 have c4:=h.cell 4 (by omega);have f4:=h.frozen 4;obtain ⟨x,hx⟩:∃x,L[4]?.getD 0=x:=⟨_,rfl⟩
 rw [hx] at c4 ⊢
 clear hx;go_enter Tryz.func185,Tryz.ntmps185;go_upto_region 3 with fail
 refine ag (fun w'=>w'.cell? ⟨g,4,none⟩=some (.int .u64 x)) 8 (by kernel_rfl) ?_;have hS:w.drew.cell? ⟨g,4,none⟩=some (.int .u64 x):=by simpa using c4
 have f4':w.drew.frozen? ⟨g,4,none⟩=false:=by simpa using f4
 refine gaA 0 _ hS ?_;simp only [zp];refine gaA 1 _ hS ?_;simp only [zp];refine gaA 2 _ hS ?_;simp only [zp];refine gaA 3 _ hS ?_;simp only [zp];refine gaA 6 _ hS ?_;simp only [zp];refine grA 4 _ hS ?_;simp only [zp];refine gaA 5 _ hS ?_;simp only [zp];refine gaA 7 _ hS ?_;simp only [zp];refine zw 8 fun K hK=>?_
 go_simp;refine hK.out _ _ zn ?_;clear hK K;refine ah (by kernel_rfl) ?_ _;go_wp2;go_ret;exact ⟨rfl,(h.drew).set 4 _,grown_set (grown_drew (World.grownBy.refl w _)) 4 _⟩
def carryK (L:List Int):Nat→List Int
 |0=>L
 |i+1=>((carryK L i).set (i+1) (((carryK L i)[i+1]?.getD 0+(carryK L i)[i]?.getD 0 / 67108864) % 18446744073709551616)).set i (bits .and .u64 ((carryK L i)[i]?.getD 0) 67108863)
theorem carryK_length (L:List Int) (i:Nat):(carryK L i).length=L.length:=by
 induction i with
 |zero=>rfl
 |succ i ih=>simp [carryK,ih]
theorem j6 (g:Nat) (t:TypeId) (L:List Int) (w:World) (h:aa w g .u64 t L) (hl:5≤L.length):
    Calls Tryz.prog 176 #[.pointer (some ⟨g,0,none⟩)] w fun e w'=>(∃r,e=.returned r)∧aa w' g .u64 t (carryK L 4)∧w.grownBy w' (some g):=by
 go_enter Tryz.func176,Tryz.ntmps176
 go_wp2_with fail
 go_loopw [3] (fun i wr=>∃k:Nat,k≤4∧i=.int .i64 k∧aa wr g .u64 t (carryK L k)∧w.grownBy wr (some g)) (fun i _=>4 - (intOf i).toNat)
 case atStart=>exact ⟨0,by omega,rfl,h,World.grownBy.refl _ _⟩
 case round=>
  obtain ⟨k,hk,rfl,hH,hG⟩:=hrel
  by_cases hlt:k<4
  · have hKl:=carryK_length L k
    have HS:ac (carryK L (k+1)=((carryK L k).set (k+1) (((carryK L k)[k+1]?.getD 0+(carryK L k)[k]?.getD 0 / 67108864) % 18446744073709551616)).set k (bits .and .u64 ((carryK L k)[k]?.getD 0) 67108863)):=⟨rfl⟩
    obtain ⟨M,hM⟩:∃M,carryK L k=M:=⟨_,rfl⟩
    rw [hM] at hH hKl HS
    have c1:=hH.cell k (by omega);have c2:=hH.cell (k+1) (by omega);have f1:=hH.frozen k;have f2:=hH.frozen (k+1);obtain ⟨x,hx⟩:∃x,M[k]?.getD 0=x:=⟨_,rfl⟩
    obtain ⟨y,hy⟩:∃y,M[k+1]?.getD 0=y:=⟨_,rfl⟩
    rw [hx] at c1 HS
    rw [hy] at c2 HS
    have hk0:(0:Int)≤(k:Int):=by omega
    have hk1:(k:Int)<4:=by omega
    have hk2:(k:Int)+1<5:=by omega
    have hk5:(k:Int)<5:=by omega
    have hw:IntKind.i64.wrap ((k:Int)+1)=(k:Int)+1:=by rw [IntKind.wrap_i64];omega
    have hk01:(0:Int)≤(k:Int)+1:=by omega
    have htn:((k:Int)+1).toNat=k+1:=by omega
    have HX:ac (M[k]?.getD 0=x):=⟨hx⟩
    clear hM hx hy;go_upto_region 3 with fail
    refine ag (fun w'=>w'.cell? ⟨g,k,none⟩=some (.int .u64 x)∧w'.cell? ⟨g,k+1,none⟩=some (.int .u64 y)) 15 (by kernel_rfl) ?_;have hH1:=hH.drew;have hS:wr.drew.cell? ⟨g,k,none⟩=some (.int .u64 x)∧wr.drew.cell? ⟨g,k+1,none⟩=some (.int .u64 y):=⟨by simpa using c1,by simpa using c2⟩
    have f2':=hH1.frozen (k+1);have c2':=hS.2;refine gaA 0 _ hS ?_;simp only [zp];refine gaA 1 _ hS ?_;simp only [zp];refine gaA 2 _ hS ?_;simp only [zp];refine gaA 3 _ hS ?_;simp only [zp];refine gaA 4 _ hS ?_;simp only [zp];refine gaA 6 _ hS ?_;simp only [zp];refine gaA 7 _ hS ?_;simp only [zp];refine gaA 8 _ hS ?_;simp only [zp];refine gaA 9 _ hS ?_;simp only [zp];refine gaA 13 _ hS ?_;simp only [zp];refine grA 5 _ hS ?_;simp only [zp];refine grA 10 _ hS ?_;simp only [zp];refine gaA 11 _ hS ?_;simp only [zp];refine gaA 12 _ hS ?_;simp only [zp];refine gaA 14 _ hS ?_;simp only [zp];refine zw 15 fun K hK=>?_
    go_simp;refine hK.out _ _ zn ?_;clear hK K;refine ah (by kernel_rfl) ?_ _;go_upto_region 4 with fail
    refine ae (p:=fun y=>Code.wp _ _ _ _ y) (fun W1=>aa W1 g .u64 t (M.set (k+1) ((y+x / 67108864) % 18446744073709551616))∧w.grownBy W1 (some g)) ⟨hH1.set (k+1) _,grown_set (grown_drew hG) _ _⟩ ?_;clear hS f2' c2' hH1 c1 c2 f1 f2 hH hG;rintro W1 ⟨hH,hG⟩;obtain ⟨M1,hM1⟩:∃q,M.set (k+1) ((y+x / 67108864) % 18446744073709551616)=q:=⟨_,rfl⟩
    have hx1:M1[k]?.getD 0=x:=by rw [←hM1,List.getElem?_set_ne (by omega)];exact HX.out
    have hM1l:M1.length=L.length:=by rw [←hM1,List.length_set];exact hKl
    rw [hM1] at hH HS
    clear hM1;have hH1:=hH.drew;have c1:=hH1.cell k (by omega);have f1:=hH1.frozen k;rw [hx1] at c1
    refine ag (fun w'=>w'.cell? ⟨g,k,none⟩=some (.int .u64 x)) 8 (by kernel_rfl) ?_;have hS:W1.drew.cell? ⟨g,k,none⟩=some (.int .u64 x):=c1;refine gaA 0 _ hS ?_;simp only [zp];refine gaA 1 _ hS ?_;simp only [zp];refine gaA 2 _ hS ?_;simp only [zp];refine gaA 3 _ hS ?_;simp only [zp];refine gaA 6 _ hS ?_;simp only [zp];refine grA 4 _ hS ?_;simp only [zp];refine gaA 5 _ hS ?_;simp only [zp];refine gaA 7 _ hS ?_;simp only [zp];refine zw 8 fun K hK=>?_
    go_simp;refine hK.out _ _ zn ?_;clear hK K;refine ah (by kernel_rfl) ?_ _;go_wp2;go_roundw
    case rel=>exact ⟨k+1,by omega,by go_num,by rw [HS.out];exact hH1.set k _,grown_set (grown_drew hG) _ _⟩
    case measure=>simp [intOf];omega
  · obtain rfl:k=4:=by omega
    go_wp2
    go_end0
    exact ⟨⟨_,rfl⟩,hH,hG⟩
def ik (L:List Int):List Int:=
 let C:=(carryK L 4).set 4 (bits .and .u64 ((carryK L 4)[4]?.getD 0) 67108863)
 let C2:=C.set 0 ((C[0]?.getD 0+5*((carryK L 4)[4]?.getD 0 / 67108864) % 18446744073709551616) % 18446744073709551616)
 let C3:=C2.set 1 ((C2[1]?.getD 0+C2[0]?.getD 0 / 67108864) % 18446744073709551616)
 C3.set 0 (bits .and .u64 (C3[0]?.getD 0) 67108863)
theorem vR (g:Nat) (t:TypeId) (L:List Int) (w:World) (h:aa w g .u64 t L) (hl:5≤L.length):
    Calls Tryz.prog 184 #[.pointer (some ⟨g,0,none⟩)] w fun e w'=>(∃r,e=.returned r)∧aa w' g .u64 t (ik L)∧w.grownBy w' (some g):=by
 have hca:=j6 g t L w h hl;have hcl:=carryK_length L 4;have hF:∃F,ik L=F:=⟨_,rfl⟩
 obtain ⟨F,hF⟩:=hF;have HF:ac (ik L=F):=⟨hF⟩
 rw [hF];unfold ik at hF
 obtain ⟨C0,hC0⟩:∃q,carryK L 4=q:=⟨_,rfl⟩
 rw [hC0] at hca hcl hF
 have hcu:=fun wx (hx:aa wx g .u64 t C0)=>sp g t C0 wx hx (by omega)
 obtain ⟨ov,hov⟩:∃q,C0[4]?.getD 0 / 67108864=q:=⟨_,rfl⟩
 rw [hov] at hcu hF
 obtain ⟨C,hC⟩:∃q,C0.set 4 (bits .and .u64 (C0[4]?.getD 0) 67108863)=q:=⟨_,rfl⟩
 have hCl:C.length=L.length:=by rw [←hC,List.length_set,hcl]
 rw [hC] at hcu hF
 dsimp only at hF
 obtain ⟨x0,hx0⟩:∃q,C[0]?.getD 0=q:=⟨_,rfl⟩
 rw [hx0] at hF
 obtain ⟨C2,hC2⟩:∃q,C.set 0 ((x0+5*ov % 18446744073709551616) % 18446744073709551616)=q:=⟨_,rfl⟩
 have hC2l:C2.length=L.length:=by rw [←hC2,List.length_set,hCl]
 rw [hC2] at hF
 obtain ⟨y0,hy0⟩:∃q,C2[0]?.getD 0=q:=⟨_,rfl⟩
 obtain ⟨y1,hy1⟩:∃q,C2[1]?.getD 0=q:=⟨_,rfl⟩
 rw [hy0,hy1] at hF
 obtain ⟨C3,hC3⟩:∃q,C2.set 1 ((y1+y0 / 67108864) % 18446744073709551616)=q:=⟨_,rfl⟩
 have hC3l:C3.length=L.length:=by rw [←hC3,List.length_set,hC2l]
 rw [hC3] at hF
 obtain ⟨z0,hz0⟩:∃q,C3[0]?.getD 0=q:=⟨_,rfl⟩
 rw [hz0] at hF
 have HF1:ac (C3.set 0 (bits .and .u64 z0 67108863)=F):=⟨hF⟩
 have HC2:ac (C.set 0 ((x0+5*ov % 18446744073709551616) % 18446744073709551616)=C2):=⟨hC2⟩
 have HC3:ac (C2.set 1 ((y1+y0 / 67108864) % 18446744073709551616)=C3):=⟨hC3⟩
 clear hF hC2 hC3 hC hC0 hov;go_enter Tryz.func184,Tryz.ntmps184;go_upto_region 2 with (first
  |(go_at_call 176;refine hca.mono ?_;rintro e w1 ⟨⟨r,rfl⟩,h1,g1⟩)
  |(go_at_call 185;refine (hcu _ h1).mono ?_;rintro e w2 ⟨rfl,h2,g2⟩))
 have g12:=g1.trans g2;clear hca hcu g1 g2 h1;have h3:=h2.drew;have c1:=h3.cell 0 (by omega);have f1:=h3.frozen 0;rw [hx0] at c1
 refine ag (fun w'=>w'.cell? ⟨g,0,none⟩=some (.int .u64 x0)) 9 (by kernel_rfl) ?_;have hS:w2.drew.cell? ⟨g,0,none⟩=some (.int .u64 x0):=c1;refine gaA 0 _ hS ?_;simp only [zp];refine gaA 1 _ hS ?_;simp only [zp];refine gaA 2 _ hS ?_;simp only [zp];refine gaA 4 _ hS ?_;simp only [zp];refine gaA 5 _ hS ?_;simp only [zp];refine gaA 7 _ hS ?_;simp only [zp];refine grA 3 _ hS ?_;simp only [zp];refine gaA 6 _ hS ?_;simp only [zp];refine gaA 8 _ hS ?_;simp only [zp];refine zw 9 fun K hK=>?_
 go_simp;refine hK.out _ _ zn ?_;clear hK K;refine ah (by kernel_rfl) ?_ _;go_upto_region 3 with fail
 refine ae (p:=fun y=>Code.wp _ _ _ _ y) (fun W1=>aa W1 g .u64 t C2∧w.grownBy W1 (some g)) ⟨by rw [←HC2.out];exact h3.set 0 _,grown_set (grown_drew g12) _ _⟩ ?_;clear hS c1 f1 h3 h2 g12;rintro W1 ⟨h2,g2⟩;have h3:=h2.drew;have c1:=h3.cell 0 (by omega);have c2:=h3.cell 1 (by omega);have f2:=h3.frozen 1;rw [hy0] at c1
 rw [hy1] at c2
 refine ag (fun w'=>w'.cell? ⟨g,0,none⟩=some (.int .u64 y0)∧w'.cell? ⟨g,1,none⟩=some (.int .u64 y1)) 12 (by kernel_rfl) ?_;have hS:=And.intro c1 c2;refine gaA 0 _ hS ?_;simp only [zp];refine gaA 1 _ hS ?_;simp only [zp];refine gaA 2 _ hS ?_;simp only [zp];refine gaA 4 _ hS ?_;simp only [zp];refine gaA 5 _ hS ?_;simp only [zp];refine gaA 6 _ hS ?_;simp only [zp];refine gaA 10 _ hS ?_;simp only [zp];refine grA 3 _ hS ?_;simp only [zp];refine grA 7 _ hS ?_;simp only [zp];refine gaA 8 _ hS ?_;simp only [zp];refine gaA 9 _ hS ?_;simp only [zp];refine gaA 11 _ hS ?_;simp only [zp];refine zw 12 fun K hK=>?_
 go_simp;refine hK.out _ _ zn ?_;clear hK K;refine ah (by kernel_rfl) ?_ _;go_upto_region 4 with fail
 refine ae (p:=fun y=>Code.wp _ _ _ _ y) (fun W1=>aa W1 g .u64 t C3∧w.grownBy W1 (some g)) ⟨by rw [←HC3.out];exact h3.set 1 _,grown_set (grown_drew g2) _ _⟩ ?_;clear hS c1 c2 f2 h3 h2 g2;rintro W2 ⟨h2,g2⟩;have h3:=h2.drew;have c1:=h3.cell 0 (by omega);have f1:=h3.frozen 0;rw [hz0] at c1
 refine ag (fun w'=>w'.cell? ⟨g,0,none⟩=some (.int .u64 z0)) 7 (by kernel_rfl) ?_;have hS:W2.drew.cell? ⟨g,0,none⟩=some (.int .u64 z0):=c1;refine gaA 0 _ hS ?_;simp only [zp];refine gaA 1 _ hS ?_;simp only [zp];refine gaA 2 _ hS ?_;simp only [zp];refine gaA 5 _ hS ?_;simp only [zp];refine grA 3 _ hS ?_;simp only [zp];refine gaA 4 _ hS ?_;simp only [zp];refine gaA 6 _ hS ?_;simp only [zp];refine zw 7 fun K hK=>?_
 go_simp;refine hK.out _ _ zn ?_;clear hK K;refine ah (by kernel_rfl) ?_ _;go_wp2
 go_end0
 exact ⟨⟨_,rfl⟩,by rw [←HF1.out];exact h3.set 0 _,grown_set (grown_drew g2) _ _⟩
def addK (L m:List Int):Nat→List Int
 |0=>L
 |i+1=>(addK L m i).set i (((addK L m i)[i]?.getD 0+m[i]?.getD 0) % 18446744073709551616)
theorem addK_length (L m:List Int) (i:Nat):(addK L m i).length=L.length:=by
 induction i with
 |zero=>rfl
 |succ i ih=>simp [addK,ih]
theorem sF (g:Nat) (t:TypeId) (L m:List Int) (w:World) (h:aa w g .u64 t L) (hl:5≤L.length) (hm:m.length=5):
    Calls Tryz.prog 173 #[.pointer (some ⟨g,0,none⟩),.agg (row .u64 m)] w fun e w'=>(∃r,e=.returned r)∧aa w' g .u64 t (addK L m 5)∧w.grownBy w' (some g):=by
 have hgl:=h.lt;go_enter Tryz.func173,Tryz.ntmps173
 go_wp2_with fail
 go_loopw [5] (fun i wr=>∃k:Nat,k≤5∧i=.int .i64 k∧aa wr g .u64 t (addK L m k)∧aa wr w.heap.size .u64 190 m∧w.grownBy wr (some g)) (fun i _=>5 - (intOf i).toNat)
 case atStart=>exact ⟨0,by omega,rfl,h.alloc _,aa.new w .u64 190 m,World.grownBy_alloc _ _ _⟩
 case round=>
  obtain ⟨k,hk,rfl,hH,hM,hG⟩:=hrel
  by_cases hlt:k<5
  · have hKl:=addK_length L m k
    have HS:ac (addK L m (k+1)=(addK L m k).set k (((addK L m k)[k]?.getD 0+m[k]?.getD 0) % 18446744073709551616)):=⟨rfl⟩
    obtain ⟨A,hA⟩:∃M,addK L m k=M:=⟨_,rfl⟩
    rw [hA] at hH hKl HS
    have hH1:=hH.drew;have hM1:=hM.drew;have c1:=hH1.cell k (by omega);have c2:=hM1.cell k (by omega);have f1:=hH1.frozen k;obtain ⟨x,hx⟩:∃x,A[k]?.getD 0=x:=⟨_,rfl⟩
    obtain ⟨y,hy⟩:∃y,m[k]?.getD 0=y:=⟨_,rfl⟩
    rw [hx] at c1 HS
    rw [hy] at c2 HS
    have hk0:(0:Int)≤(k:Int):=by omega
    have hk5:(k:Int)<5:=by omega
    clear hA hx hy;go_upto_region 4 with fail
    refine ag (fun w'=>w'.cell? ⟨g,k,none⟩=some (.int .u64 x)∧w'.cell? ⟨w.heap.size,k,none⟩=some (.int .u64 y)) 11 (by kernel_rfl) ?_;have hS:=And.intro c1 c2;refine gaA 0 _ hS ?_;simp only [zp];refine gaA 1 _ hS ?_;simp only [zp];refine gaA 2 _ hS ?_;simp only [zp];refine gaA 3 _ hS ?_;simp only [zp];refine gaA 5 _ hS ?_;simp only [zp];refine gaA 6 _ hS ?_;simp only [zp];refine gaA 9 _ hS ?_;simp only [zp];refine grA 4 _ hS ?_;simp only [zp];refine grA 7 _ hS ?_;simp only [zp];refine gaA 8 _ hS ?_;simp only [zp];refine gaA 10 _ hS ?_;simp only [zp];refine zw 11 fun K hK=>?_
    go_simp;refine hK.out _ _ zn ?_;clear hK K;refine ah (by kernel_rfl) ?_ _;go_wp2;go_roundw
    case rel=>exact ⟨k+1,by omega,by go_num,by rw [HS.out];exact hH1.set k _,hM1.setOther _ _ (by simp;omega),grown_set (grown_drew hG) _ _⟩
    case measure=>simp [intOf];omega
  · obtain rfl:k=5:=by omega
    go_wp2
    go_end0
    exact ⟨⟨_,rfl⟩,hH,hG⟩
def dY (z:List Int):Nat→Int
 |0=>0
 |i+1=>bits .or .u64 (dY z i) (z[i]?.getD 0 % 18446744073709551616*2 ^ (8*i) % 18446744073709551616)
theorem pM (b off cap:Nat) (z:List Int) (w:World) (hc:∀j,j<8→w.cell? ⟨b,off+j,none⟩=some (.int .u8 (z[j]?.getD 0))):
    Calls Tryz.prog 171 #[.slice (some ⟨b,off,none⟩) 8 cap] w fun e w'=>e=.returned (.int .u64 (dY z 8))∧w'=w:=by
 go_enter Tryz.func171,Tryz.ntmps171;go_wp2
 go_loop [3,5] (fun x i=>∃k:Nat,k≤8∧i=.int .i64 k∧x=.int .u64 (dY z k)) (fun _ i=>8 - (intOf i).toNat)
 case atStart=>exact ⟨0,by omega,rfl,rfl⟩
 case round=>
  obtain ⟨k,hk,rfl,rfl⟩:=hrel
  by_cases hlt:k<8
  · have c:=hc k hlt
    have HS:ac (dY z (k+1)=bits .or .u64 (dY z k) (z[k]?.getD 0 % 18446744073709551616*2 ^ (8*k) % 18446744073709551616)):=⟨rfl⟩
    obtain ⟨p,hp⟩:∃p,z[k]?.getD 0=p:=⟨_,rfl⟩
    obtain ⟨X,hX⟩:∃p,dY z k=p:=⟨_,rfl⟩
    rw [hp] at c HS
    rw [hX] at HS ⊢
    clear hp hX;have hkc:k=0∨k=1∨k=2∨k=3∨k=4∨k=5∨k=6∨k=7:=by omega
    clear hlt hk hc
    rcases hkc with rfl|rfl|rfl|rfl|rfl|rfl|rfl|rfl
    all_goals
     try rw [Nat.add_zero] at c
     go_wp2
     go_round
     case rel=>exact ⟨_,by decide,rfl,by rw [HS.out];simp [IntKind.wrap_u64]⟩
     case measure=>simp [intOf]
  · obtain rfl:k=8:=by omega
    go_wp2;go_ret;exact ⟨rfl,rfl⟩
theorem jh:(Tryz.prog.info? 193).map (·.size)=some 17:=by kernel_rfl
theorem pu:(Tryz.prog.info? 190).map (·.size)=some 5:=by kernel_rfl
theorem dV:(Tryz.prog.info? 119).map (·.size)=some 16:=by kernel_rfl
theorem qw (z:List Int) (i j:Nat):(z.drop i)[j]?.getD 0=z[i+j]?.getD 0:=by rw [List.getElem?_drop]
def gO (z:List Int):List Int:=
 let low:=dY z 8
 let high:=dY (z.drop 8) 8
 let top:=z[16]?.getD 0 % 18446744073709551616
 [bits .and .u64 low 67108863,bits .and .u64 (low / 67108864) 67108863,bits .and .u64 (bits .or .u64 (low / 4503599627370496) (high*4096 % 18446744073709551616)) 67108863,bits .and .u64 (high / 16384) 67108863,bits .or .u64 (high / 1099511627776) (top*16777216 % 18446744073709551616)]
theorem gJ (z:List Int) (w:World) (hz:z.length=17):
    Calls Tryz.prog 153 #[.agg (row .u8 z)] w fun e w'=>e=.returned (.agg (row .u64 (gO z)))∧Below w.heap.size w w':=by
 have h0:aa (w.alloc (.cells (row .u8 z) 193)) w.heap.size .u8 193 z:=aa.new w .u8 _ z;have hN:∃l,gO z=l:=⟨_,rfl⟩
 obtain ⟨l,hN⟩:=hN;rw [hN];unfold gO at hN
 have h1:=fun (wx:World) (hx:aa wx w.heap.size .u8 193 z)=>pM w.heap.size 0 17 z wx (fun j hj=>by rw [Nat.zero_add];exact hx.cell j (by omega))
 have h2:=fun (wx:World) (hx:aa wx w.heap.size .u8 193 z)=>pM w.heap.size 8 9 (z.drop 8) wx (fun j hj=>by rw [qw];exact hx.cell (8+j) (by omega))
 obtain ⟨A,hA⟩:∃q,dY z 8=q:=⟨_,rfl⟩
 obtain ⟨B,hB⟩:∃q,dY (z.drop 8) 8=q:=⟨_,rfl⟩
 obtain ⟨T,hT⟩:∃q,z[16]?.getD 0=q:=⟨_,rfl⟩
 rw [hA] at h1 hN
 rw [hB] at h2 hN
 rw [hT] at hN
 dsimp only at hN
 have HN:ac (l=[bits .and .u64 A 67108863,bits .and .u64 (A / 67108864) 67108863,bits .and .u64 (bits .or .u64 (A / 4503599627370496) (IntKind.u64.wrap (B*4096))) 67108863,bits .and .u64 (B / 16384) 67108863,bits .or .u64 (B / 1099511627776) (IntKind.u64.wrap (IntKind.u64.wrap T*16777216))]):=⟨by rw [←hN];simp only [IntKind.wrap_u64]⟩
 have hll:l.length=5:=by rw [HN.out];rfl
 clear hN hA hB;go_enter Tryz.func153,Tryz.ntmps153;go_upto_region 1 with fail
 refine ae (p:=fun y=>Code.wp _ _ _ _ y) (fun W0=>Below w.heap.size w W0∧W0.heap.size=w.heap.size+2∧aa W0 w.heap.size .u8 193 z∧aa W0 (w.heap.size+1) .u64 190 (List.replicate 5 0)) ⟨((Below.refl _ _).alloc (Nat.le_refl _) _).alloc (by simp) _,by simp,h0.alloc _,?_⟩ ?_
 · have:=aa.new (w.alloc (.cells (row .u8 z) 193)) .u64 190 (List.replicate 5 0)
   rw [World.size_alloc] at this
   exact this
 clear h0;rintro W0 ⟨hB0,hs0,hz0,hR0⟩;have hz1:=hz0.drew;have c16:=hz1.cell 16 (by omega);rw [hT] at c16
 refine ag (fun w'=>w'.cell? ⟨w.heap.size,16,none⟩=some (.int .u8 T)) 9 (by kernel_rfl) ?_;have hS:W0.drew.cell? ⟨w.heap.size,16,none⟩=some (.int .u8 T):=c16;refine gaA 0 _ hS ?_;simp only [zp];refine gaA 2 _ hS ?_;simp only [zp];refine gaA 4 _ hS ?_;simp only [zp];refine grA 5 _ hS ?_;simp only [zp];refine gaA 6 _ hS ?_;simp only [zp];refine zw 1 fun K hK=>?_
 go_wp2_with (go_at_call 171;refine (h1 _ hz1).mono ?_;rintro e w1 ⟨rfl,rfl⟩)
 refine hK.out _ _ (fun _=>hS) ?_;clear hK K;refine zw 3 fun K hK=>?_
 go_wp2_with (go_at_call 171;refine (h2 _ hz1).mono ?_;rintro e w1 ⟨rfl,rfl⟩)
 refine hK.out _ _ (fun _=>hS) ?_;clear hK K;refine gaA 7 _ hS ?_;simp only [zp];refine gaA 8 _ hS ?_;simp only [zp];refine zw 9 fun K hK=>?_
 go_simp;refine hK.out _ _ zn ?_;clear hK K;refine ah (by kernel_rfl) ?_ _;have hR1:=hR0.drew
 go_wp2_with (refine aj rfl 190 _ _ rfl _ rfl (k:=.u64) (l:=l) (by rw [HN.out];rfl) hR1 (by rw [hll];exact pu) (by simp [hll]) ?_)
 refine bodyPost_ret (ak (Tryz.results153) _ rfl (hR1.setRow _) Tryz.underlying190 pu hll) rfl ⟨rfl,?_⟩;exact below_setRow (hB0.drew) (by omega) _
theorem pY (z:List Int) (w:World) (hz:z.length=16):
    Calls Tryz.prog 154 #[.agg (row .u8 z)] w fun e w'=>e=.returned (.agg (row .u8 (z++ [0])))∧Below w.heap.size w w':=by
 have h0:aa (w.alloc (.cells (row .u8 z) 119)) w.heap.size .u8 119 z:=aa.new w .u8 _ z;have hl:(z++ [0]).length=17:=by simp [hz]
 have HZ:ac (z++List.replicate (17 - z.length) 0=z++ [0]):=⟨by rw [hz];rfl⟩
 go_enter Tryz.func154,Tryz.ntmps154;go_upto_region 2 with fail
 refine ae (p:=fun y=>Code.wp _ _ _ _ y) (fun W0=>Below w.heap.size w W0∧aa W0 w.heap.size .u8 119 z∧aa W0 (w.heap.size+1) .u8 193 (List.replicate 17 0)∧aa W0 (w.heap.size+1+1) .u8 193 (List.replicate 17 0)) ⟨(((Below.refl _ _).alloc (Nat.le_refl _) _).alloc (by simp) _).alloc (by simp;omega) _,(h0.alloc _).alloc _,?_,?_⟩ ?_
 · have:=aa.new (w.alloc (.cells (row .u8 z) 119)) .u8 193 (List.replicate 17 0)
   rw [World.size_alloc] at this
   exact this.alloc _
 · have:=aa.new ((w.alloc (.cells (row .u8 z) 119)).alloc (.cells (row .u8 (List.replicate 17 0)) 193)) .u8 193 (List.replicate 17 0)
   rw [World.size_alloc,World.size_alloc] at this
   exact this
 clear h0;rintro W0 ⟨hB0,hz0,hR0,hA0⟩;have hcp:=dg W0.drew (w.heap.size+1+1) 17 (some ⟨w.heap.size,0,none⟩) 16 16 z (hz0.drew.bytes hz.symm (by omega)) hA0.drew (by omega);rw [HZ.out] at hcp
 refine ag (fun _=>True) 2 (by kernel_rfl) ?_;have hS:True:=trivial;refine gaA 0 _ hS ?_;simp only [zp];refine gaA 1 _ hS ?_;simp only [zp];refine zw 2 fun K hK=>?_
 go_simp;refine hK.out _ _ zn ?_;clear hK K;refine ah (by kernel_rfl) ?_ _;go_upto_region 3 with fail
 refine ae (p:=fun y=>Code.wp _ _ _ _ y) (fun W1=>Below w.heap.size w W1∧aa W1 (w.heap.size+1) .u8 193 (List.replicate 17 0)∧aa W1 (w.heap.size+1+1) .u8 193 (z++ [0])) ⟨below_setRow hB0.drew (by omega) _,hR0.drew.setRowOther _ (by omega),hA0.drew.setRow _⟩ ?_;clear hcp hA0 hR0 hz0 hB0 hS HZ;rintro W1 ⟨hB,hR,hA⟩
 go_wp2_with (first
  |(refine am rfl 193 _ rfl _ rfl hA Tryz.underlying193 jh hl ?_)
  |(refine aj rfl 193 _ _ rfl _ rfl rfl hR (by rw [hl];exact jh) (by simp [hl]) ?_))
 refine bodyPost_ret (ak (Tryz.results154) _ rfl (hR.setRow _) Tryz.underlying193 jh hl) rfl ⟨rfl,?_⟩;exact below_setRow hB (by omega) _
end Go.Proofs.YtbdhfbglagdiaaaGreatDoor
