/- Re3 Wr5 -/
import Derived.Test.YtbdhfbglagdiaaaGreatDoorJ02
import Derived.Test.YtbdhfbglagdiaaaGreatDoorJ04
namespace Go.Proofs.YtbdhfbglagdiaaaGreatDoor
open Go.RowKit
set_option maxRecDepth 20000
set_option maxHeartbeats 8000000
set_option linter.unusedSimpArgs false
def kM (z:List Int):List Int:=(List.range 8).map fun j=>at4 z (5+4*j)
def oy (z:List Int):Ev:=⟨at1 z 0,at4 z 1,kM z,at1 z 37,at1 z 38,at4 z 39,at1 z 43==1,at1 z 44,at1 z 45,at1 z 46⟩
def qD (z:List Int):Prop:=58≤z.length∧at1 z 43≤1∧∀j,j<11→at1 z (47+j)=0
theorem gF (z:List Int):(kM z).length=8:=by simp [kM]
theorem tV (z:List Int) (j:Nat) (hj:j<8):(kM z)[j]?.getD 0=at4 z (5+4*j):=by
 unfold kM;rw [List.getElem?_map,List.getElem?_range hj];rfl
theorem u0 (P:List Int) (hP:P.length=8) (j:Nat) (hj:j<8):(P.take j++List.replicate (8 - j) 0).set j (P[j]?.getD 0)=P.take (j+1)++List.replicate (8 - (j+1)) 0:=by
 have hl:(P.take j).length=j:=by rw [List.length_take];omega
 obtain ⟨m,hm⟩:∃m,8 - j=m+1:=⟨8 - j - 1,by omega⟩
 have hm2:8 - (j+1)=m:=by omega
 rw [hm,hm2];have:=bx (P.take j) m (P[j]?.getD 0);rw [hl] at this
 rw [this,bK P j (by omega)]
def evZ:Ev:=⟨0,0,List.replicate 8 0,0,0,0,false,0,0,0⟩
theorem dd (e:Ev):e.cells=(dotC e.da e.ds++e.past.map (Value.int .u32))++([.int .u8 e.kind]++dotC e.pa e.ps++ [.bool e.right,.int .u8 e.char,.int .u8 e.who,.int .u8 e.role]):=rfl
theorem gD (e:Ev) (h:e.past.length=8):(dotC e.da e.ds++e.past.map (Value.int .u32)).length=10:=by simp [dotC,h]
theorem ev_len (e:Ev) (h:e.past.length=8):e.cells.length=17:=by rw [dd,List.length_append,gD e h];simp [dotC]
theorem fE (e:Ev) (h:e.past.length=8) (j:Nat) (hj:10≤j):e.cells[j]?=([.int .u8 e.kind]++dotC e.pa e.ps++ [.bool e.right,.int .u8 e.char,.int .u8 e.who,.int .u8 e.role]:List Value)[j - 10]?:=by rw [dd,List.getElem?_append_right (by rw [gD e h];exact hj),gD e h]
theorem mc (e:Ev) (h:e.past.length=8) (j:Nat) (hj:10≤j) (v:Value):e.cells.set j v=(dotC e.da e.ds++e.past.map (Value.int .u32))++([.int .u8 e.kind]++dotC e.pa e.ps++ [.bool e.right,.int .u8 e.char,.int .u8 e.who,.int .u8 e.role]:List Value).set (j - 10) v:=by rw [dd,List.set_append_right _ _ (by rw [gD e h];exact hj),gD e h]
theorem qF (e:Ev) (h:e.past.length=8) (j:Nat) (hj:j<8) (v:Int):e.cells.set (2+j) (.int .u32 v)=({e with past:=e.past.set j v}:Ev).cells:=by
 rw [dd,dd,List.set_append_left _ _ (by rw [gD e h];omega),List.set_append_right _ _ (by simp [dotC])]
 congr 2
 rw [List.map_set]
 congr 1
 simp [dotC]
theorem mW (e:Ev) (h:e.past.length=8) (a s:Int):e.cells.take 11++dotC a s++e.cells.drop (11+(dotC a s).length)=({e with pa:=a,ps:=s}:Ev).cells:=by
 have hp:=gD e h;have e1:e.cells.take 11=(dotC e.da e.ds++e.past.map (Value.int .u32))++ [.int .u8 e.kind]:=by
  rw [dd,show 11=10+1 from rfl,List.take_add,List.take_left' hp,List.drop_left' hp];rfl
 have e2:e.cells.drop (11+(dotC a s).length)=[.bool e.right,.int .u8 e.char,.int .u8 e.who,.int .u8 e.role]:=by
  rw [show 11+(dotC a s).length=10+3 from rfl,←List.drop_drop,dd,List.drop_left' hp];rfl
 rw [e1,e2,dd];simp only [List.append_assoc]
theorem qg (e:Ev) (h:e.past.length=8) (j:Nat) (hj:j<8):e.cells[2+j]?=some (.int .u32 (e.past[j]?.getD 0)):=by
 rw [dd,List.getElem?_append_left (by rw [gD e h];omega),List.getElem?_append_right (by simp [dotC])];have e1:2+j - (dotC e.da e.ds).length=j:=by simp [dotC]
 rw [e1,List.getElem?_map,List.getElem?_eq_getElem (by omega)];rfl
theorem fD (e:Ev):∀v∈e.cells,v.oneCell'=true:=by
 intro v hv;rw [dd] at hv
 simp only [dotC,List.mem_append,List.mem_cons,List.not_mem_nil,or_false,List.mem_map] at hv
 rcases hv with ((rfl|rfl)|⟨_,_,rfl⟩)|((rfl|(rfl|rfl))|(rfl|rfl|rfl|rfl))<;>rfl
theorem ph:(Tryz.prog.info? 33).map (·.size)=some 17:=by kernel_rfl
theorem rC (R base:Nat) (z:List Int) (w:World) (hR:Rd w R base z) (hz:∀v∈z,b8 v):
    Calls Tryz.prog 97 #[.pointer (some ⟨R,0,none⟩)] w fun e w'=>
     (qD z∧e=.returned (.agg (oy z).cells.toArray)∧Rd w' R base (z.drop 58)∧aY w w' R base)∨(¬qD z∧e=.panicked [dq]∧aY w w' R base):=by
 have hlt:=hR.lt;have hsz:=hR.size;have hd0:=fun wx (h:Rd wx R base (z.drop 0))=>sR R base z 0 wx h hz
 have hf:=fun (j:Nat) wx (h:Rd wx R base (z.drop (5+4*j)))=>pT R base z (5+4*j) wx h hz
 have ho37:=fun wx (h:Rd wx R base (z.drop 37))=>iR R base z 37 wx h
 have hd38:=fun wx (h:Rd wx R base (z.drop 38))=>sR R base z 38 wx h hz
 have ht43:=fun wx (h:Rd wx R base (z.drop 43))=>ua R base z 43 wx h
 have ho44:=fun wx (h:Rd wx R base (z.drop 44))=>iR R base z 44 wx h
 have ho45:=fun wx (h:Rd wx R base (z.drop 45))=>iR R base z 45 wx h
 have ho46:=fun wx (h:Rd wx R base (z.drop 46))=>iR R base z 46 wx h
 have hzr:=fun wx (h:Rd wx R base (z.drop 47))=>lU R base (z.drop 47) 11 wx h (by omega)
 have HEV:ac (oy z=⟨at1 z 0,at4 z 1,kM z,at1 z 37,at1 z 38,at4 z 39,at1 z 43==1,at1 z 44,at1 z 45,at1 z 46⟩):=⟨rfl⟩
 have HOK:ac (qD z↔(58≤z.length∧at1 z 43≤1∧∀j,j<11→at1 z (47+j)=0)):=⟨Iff.rfl⟩
 have HPG:ac (∀j,j<8→(kM z)[j]?.getD 0=at4 z (5+4*j)):=⟨tV z⟩
 have hPL:=gF z;obtain ⟨EV,hEV⟩:∃q,oy z=q:=⟨_,rfl⟩
 obtain ⟨OK,hOK⟩:∃q,qD z=q:=⟨_,rfl⟩
 rw [hEV] at HEV ⊢
 rw [hOK] at HOK ⊢
 obtain ⟨P,hP⟩:∃q,kM z=q:=⟨_,rfl⟩
 rw [hP] at HEV HPG hPL
 have HPS:ac (∀j,j<8→(P.take j++List.replicate (8 - j) 0).set j (P[j]?.getD 0)=P.take (j+1)++List.replicate (8 - (j+1)) 0):=⟨fun j hj=>u0 P hPL j hj⟩
 have HPL:ac (∀j,j≤8→(P.take j++List.replicate (8 - j) 0).length=8):=⟨fun j hj=>by rw [List.length_append,List.length_take,List.length_replicate];omega⟩
 have HPL8:ac (P.length=8):=⟨hPL⟩
 obtain ⟨a0,ha0⟩:∃q,at1 z 0=q:=⟨_,rfl⟩
 obtain ⟨s0,hs0⟩:∃q,at4 z 1=q:=⟨_,rfl⟩
 obtain ⟨a1,ha1⟩:∃q,at1 z 37=q:=⟨_,rfl⟩
 obtain ⟨a2,ha2⟩:∃q,at1 z 38=q:=⟨_,rfl⟩
 obtain ⟨s2,hs2⟩:∃q,at4 z 39=q:=⟨_,rfl⟩
 obtain ⟨a3,ha3⟩:∃q,at1 z 43=q:=⟨_,rfl⟩
 obtain ⟨a4,ha4⟩:∃q,at1 z 44=q:=⟨_,rfl⟩
 obtain ⟨a5,ha5⟩:∃q,at1 z 45=q:=⟨_,rfl⟩
 obtain ⟨a6,ha6⟩:∃q,at1 z 46=q:=⟨_,rfl⟩
 have ed0:at4 z (0+1)=s0:=hs0;have ed38:at4 z (38+1)=s2:=hs2;rw [ha0,ed0] at hd0
 rw [ha2,ed38] at hd38
 rw [ha1] at ho37
 rw [ha3] at ht43
 rw [ha4] at ho44
 rw [ha5] at ho45
 rw [ha6] at ho46
 rw [ha0,hs0,ha1,ha2,hs2,ha3,ha4,ha5,ha6] at HEV
 rw [ha3] at HOK
 have hG0:=(CellsAt.new w 33 evZ.cells).alloc (.cells evZ.cells.toArray 33);have hG1:CellsAt ((w.alloc (.cells evZ.cells.toArray 33)).alloc (.cells evZ.cells.toArray 33)) (w.heap.size+1) 33 evZ.cells:=by
  have:=CellsAt.new (w.alloc (.cells evZ.cells.toArray 33)) 33 evZ.cells;rw [World.size_alloc] at this
  exact this
 have hR0:=(hR.alloc (.cells evZ.cells.toArray 33)).alloc (.cells evZ.cells.toArray 33);have hT0:aY w ((w.alloc (.cells evZ.cells.toArray 33)).alloc (.cells evZ.cells.toArray 33)) R base:=(aY.alloc hsz _).trans (aY.alloc (by simp;omega) _);have r1:base≤w.heap.size+1:=by omega
 have r2:R≠w.heap.size+1:=by omega
 have r3:R≠w.heap.size:=by omega
 clear ha0 hs0 ha1 ha2 hs2 ha3 ha4 ha5 ha6 ed0 ed38 hR hz hEV hOK hP;go_enter Tryz.func97,Tryz.ntmps97;go_upto_region 2 with fail
 refine af (p:=fun y=>Code.wp _ _ _ _ y) (fun W=>Rd W R base (z.drop 0)∧aY w W R base∧CellsAt W w.heap.size 33 evZ.cells∧CellsAt W (w.heap.size+1) 33 evZ.cells) ⟨hR0,hT0,hG0,hG1⟩ ?_;clear hR0 hT0 hG0 hG1;rintro W ⟨hR0,hT0,hG0,hG1⟩;have h1W:=hd0 W hR0;clear hd0
 by_cases k0:5≤z.length
 rotate_left
 · go_upto_region 3 with (go_at_call 133;refine h1W.mono ?_;rintro e wB (⟨hx,_⟩|⟨_,rfl,htB⟩);(exfalso;omega))
   exact ak (.inr ⟨fun h=>by have:=HOK.out.1 h;omega,rfl,hT0.trans htB⟩)
 go_upto_region 3 with (first
  |(go_at_call 133;refine h1W.mono ?_;rintro e w1 (⟨_,rfl,hR1,ht1⟩|⟨hx,_⟩);rotate_left;(exfalso;omega);have hH1:=hG1.took ht1 (by omega))
  |(refine gk rfl 26 _ _ rfl _ 0 rfl rfl hH1 sizeDot (by show 0+2≤17;omega) (od a0 s0) ?_))
 have hH0:=hG0.took ht1 (by omega);refine af (p:=fun y=>Code.wp _ _ _ _ y) (fun W=>Rd W R base (z.drop (5+4*0))∧aY w W R base∧CellsAt W w.heap.size 33 evZ.cells∧CellsAt W (w.heap.size+1) 33 (⟨a0,s0,List.replicate 8 0,0,0,0,false,0,0,0⟩:Ev).cells) ⟨hR1.setRowO _ r1 r2,(hT0.trans ht1).setRowO _ (by omega) r1,hH0.setRowOther2 _ (by omega),hH1.setRow _⟩ ?_;clear h1W hR0 hT0 hG0 hG1 hH1 hH0 hR1 ht1 W;rintro W ⟨hR0,hT0,hG0,hG1⟩
 go_wp2_with fail
 go_loopw [8] (fun q wr=>∃j:Nat,j≤8∧q=.int .i64 j∧5+4*j≤z.length∧Rd wr R base (z.drop (5+4*j))∧aY w wr R base∧CellsAt wr w.heap.size 33 evZ.cells∧CellsAt wr (w.heap.size+1) 33 (⟨a0,s0,P.take j++List.replicate (8 - j) 0,0,0,0,false,0,0,0⟩:Ev).cells) (fun q _=>8 - (intOf q).toNat)
 case atStart=>exact ⟨0,by omega,rfl,by omega,hR0,hT0,hG0,hG1⟩
 case round=>
  clear hR0 hT0 hG0 hG1 W;obtain ⟨j,hj,rfl,hzl,hR0,hT0,hG0,hG1⟩:=hrel
  by_cases hlt8:j<8
  · have h1W:=hf j wr hR0
    have hst:=HPS.out j hlt8;have hlen:=HPL.out j (by omega);rw [HPG.out j hlt8] at hst
    obtain ⟨V,hV⟩:∃q,at4 z (5+4*j)=q:=⟨_,rfl⟩
    rw [hV] at h1W hst
    have hj0:(0:Int)≤(j:Int):=by omega
    have hj8:(j:Int)<8:=by omega
    obtain ⟨Q,hQ⟩:∃q,P.take j++List.replicate (8 - j) 0=q:=⟨_,rfl⟩
    rw [hQ] at hst hlen hG1
    have HST:ac (Q.set j V=P.take (j+1)++List.replicate (8 - (j+1)) 0):=⟨hst⟩
    have HQL:ac (Q.length=8):=⟨hlen⟩
    clear hV hst hQ hlen
    by_cases k1:5+4*(j+1)≤z.length
    · go_wp2_with (go_at_call 134;refine h1W.mono ?_;rintro e w1 (⟨_,rfl,hR1,ht1⟩|⟨hx,_⟩);rotate_left;(exfalso;omega);have hH1:=hG1.took ht1 (by omega);have cj:=hH1.cell (2+j);rw [qg _ HQL.out j hlt8] at cj;have fj:=hH1.frozen2 (2+j))
      have hH0:=hG0.took ht1 (by omega);have hH2:=hH1.set2 (2+j) (.int .u32 V);rw [qF _ HQL.out j hlt8 V] at hH2
      have e5:5+4*j+4=5+4*(j+1):=by omega
      rw [e5] at hR1
      clear e5;go_roundw
      case rel=>exact ⟨j+1,by omega,by go_num,k1,hR1.setCellO _ _ r1 r2,(hT0.trans ht1).setCellO _ _ (by show w.heap.size≤w.heap.size+1;omega) r1,hH0.setOther2 _ _ (by show w.heap.size≠w.heap.size+1;omega),by rw [←HST.out];exact hH2⟩
      case measure=>simp [intOf];omega
    · go_wp2_with (go_at_call 134;refine h1W.mono ?_;rintro e wB (⟨hx,_⟩|⟨_,rfl,htB⟩);(exfalso;omega))
      exact ak (.inr ⟨fun h=>by have:=(HOK.out.1 h).1;omega,rfl,hT0.trans htB⟩)
  · obtain rfl:j=8:=by omega
    have hP8:P.take 8++List.replicate (8 - 8) 0=P:=by rw [Nat.sub_self,List.replicate_zero,List.append_nil,List.take_of_length_le (by have:=HPL8.out;omega)]
    rw [hP8] at hG1
    clear hP8 HPS HPL HPG hf;obtain ⟨W,hWW⟩:∃q,wr=q:=⟨_,rfl⟩
    rw [hWW] at hR0 hT0 hG0 hG1 ⊢
    clear hWW;have h1W:=ho37 W hR0
    by_cases k9:38≤z.length
    rotate_left
    · go_upto_region 9 with (go_at_call 135;refine h1W.mono ?_;rintro e wB (⟨hx,_⟩|⟨_,rfl,htB⟩);(exfalso;omega))
      exact ak (.inr ⟨fun h=>by have:=(HOK.out.1 h).1;omega,rfl,hT0.trans htB⟩)
    go_upto_region 9 with (go_at_call 135;refine h1W.mono ?_;rintro e w1 (⟨_,rfl,hR1,ht1⟩|⟨hx,_⟩);rotate_left;(exfalso;omega);have hH1:=hG1.took ht1 (by omega);have cj:=hH1.cell 10;rw [fE _ HPL8.out 10 (by decide)] at cj;have fj:=hH1.frozen2 10)
    have hH0:=hG0.took ht1 (by omega);have hH2:=hH1.set2 10 (.int .u8 a1);rw [mc _ HPL8.out 10 (by decide)] at hH2
    refine af (p:=fun y=>Code.wp _ _ _ _ y) (fun W=>Rd W R base (z.drop 38)∧aY w W R base∧CellsAt W w.heap.size 33 evZ.cells∧CellsAt W (w.heap.size+1) 33 (⟨a0,s0,P,a1,0,0,false,0,0,0⟩:Ev).cells) ⟨hR1.setCellO _ _ r1 r2,(hT0.trans ht1).setCellO _ _ (by show w.heap.size≤w.heap.size+1;omega) r1,hH0.setOther2 _ _ (by show w.heap.size≠w.heap.size+1;omega),hH2⟩ ?_;clear h1W ho37 hR0 hT0 hG0 hG1 hH1 hH0 hH2 hR1 ht1 cj fj W;rintro W ⟨hR0,hT0,hG0,hG1⟩;have h1W:=hd38 W hR0
    by_cases k10:43≤z.length
    rotate_left
    · go_upto_region 10 with (go_at_call 133;refine h1W.mono ?_;rintro e wB (⟨hx,_⟩|⟨_,rfl,htB⟩);(exfalso;omega))
      exact ak (.inr ⟨fun h=>by have:=(HOK.out.1 h).1;omega,rfl,hT0.trans htB⟩)
    go_upto_region 10 with (first
     |(go_at_call 133;refine h1W.mono ?_;rintro e w1 (⟨_,rfl,hR1,ht1⟩|⟨hx,_⟩);rotate_left;(exfalso;omega);have hH1:=hG1.took ht1 (by omega))
     |(refine gk rfl 26 _ _ rfl _ 11 rfl rfl hH1 sizeDot (by rw [ev_len _ HPL8.out];show 11+2≤17;omega) (od a2 s2) ?_))
    have hH0:=hG0.took ht1 (by omega);have hH2:=hH1.setRow ((⟨a0,s0,P,a1,0,0,false,0,0,0⟩:Ev).cells.take 11++dotC a2 s2++(⟨a0,s0,P,a1,0,0,false,0,0,0⟩:Ev).cells.drop (11+(dotC a2 s2).length));have hH3:=hH2;rw [mW _ HPL8.out a2 s2] at hH3
    refine af (p:=fun y=>Code.wp _ _ _ _ y) (fun W=>Rd W R base (z.drop 43)∧aY w W R base∧CellsAt W w.heap.size 33 evZ.cells∧CellsAt W (w.heap.size+1) 33 (⟨a0,s0,P,a1,a2,s2,false,0,0,0⟩:Ev).cells) ⟨hR1.setRowO _ r1 r2,(hT0.trans ht1).setRowO _ (by omega) r1,hH0.setRowOther2 _ (by omega),by first|exact hH3|(rw [mW _ HPL8.out a2 s2];exact hH3)⟩ ?_;clear h1W hd38 hR0 hT0 hG0 hG1 hH1 hH0 hH2 hH3 hR1 ht1 W;rintro W ⟨hR0,hT0,hG0,hG1⟩;have h1W:=ht43 W hR0
    by_cases k11:44≤z.length∧a3≤1
    rotate_left
    · go_upto_region 11 with (go_at_call 136;refine h1W.mono ?_;rintro e wB (⟨hx,_⟩|⟨_,rfl,htB⟩);(exact absurd hx k11))
      exact ak (.inr ⟨fun h=>k11 ⟨by have:=(HOK.out.1 h).1;omega,(HOK.out.1 h).2.1⟩,rfl,hT0.trans htB⟩)
    go_upto_region 11 with (go_at_call 136;refine h1W.mono ?_;rintro e w1 (⟨_,rfl,hR1,ht1⟩|⟨hx,_⟩);rotate_left;(exact absurd k11 hx);have hH1:=hG1.took ht1 (by omega);have cj:=hH1.cell 13;rw [fE _ HPL8.out 13 (by decide)] at cj;have fj:=hH1.frozen2 13)
    have hH0:=hG0.took ht1 (by omega);have hH2:=hH1.set2 13 (.bool (a3==1));rw [mc _ HPL8.out 13 (by decide)] at hH2
    refine af (p:=fun y=>Code.wp _ _ _ _ y) (fun W=>Rd W R base (z.drop 44)∧aY w W R base∧CellsAt W w.heap.size 33 evZ.cells∧CellsAt W (w.heap.size+1) 33 (⟨a0,s0,P,a1,a2,s2,a3==1,0,0,0⟩:Ev).cells) ⟨hR1.setCellO _ _ r1 r2,(hT0.trans ht1).setCellO _ _ (by show w.heap.size≤w.heap.size+1;omega) r1,hH0.setOther2 _ _ (by show w.heap.size≠w.heap.size+1;omega),hH2⟩ ?_;clear h1W ht43 hR0 hT0 hG0 hG1 hH1 hH0 hH2 hR1 ht1 cj fj W;rintro W ⟨hR0,hT0,hG0,hG1⟩;have h1W:=ho44 W hR0
    by_cases k12:45≤z.length
    rotate_left
    · go_upto_region 12 with (go_at_call 135;refine h1W.mono ?_;rintro e wB (⟨hx,_⟩|⟨_,rfl,htB⟩);(exfalso;omega))
      exact ak (.inr ⟨fun h=>by have:=(HOK.out.1 h).1;omega,rfl,hT0.trans htB⟩)
    go_upto_region 12 with (go_at_call 135;refine h1W.mono ?_;rintro e w1 (⟨_,rfl,hR1,ht1⟩|⟨hx,_⟩);rotate_left;(exfalso;omega);have hH1:=hG1.took ht1 (by omega);have cj:=hH1.cell 14;rw [fE _ HPL8.out 14 (by decide)] at cj;have fj:=hH1.frozen2 14)
    have hH0:=hG0.took ht1 (by omega);have hH2:=hH1.set2 14 (.int .u8 a4);rw [mc _ HPL8.out 14 (by decide)] at hH2
    refine af (p:=fun y=>Code.wp _ _ _ _ y) (fun W=>Rd W R base (z.drop 45)∧aY w W R base∧CellsAt W w.heap.size 33 evZ.cells∧CellsAt W (w.heap.size+1) 33 (⟨a0,s0,P,a1,a2,s2,a3==1,a4,0,0⟩:Ev).cells) ⟨hR1.setCellO _ _ r1 r2,(hT0.trans ht1).setCellO _ _ (by show w.heap.size≤w.heap.size+1;omega) r1,hH0.setOther2 _ _ (by show w.heap.size≠w.heap.size+1;omega),hH2⟩ ?_;clear h1W ho44 hR0 hT0 hG0 hG1 hH1 hH0 hH2 hR1 ht1 cj fj W;rintro W ⟨hR0,hT0,hG0,hG1⟩;have h1W:=ho45 W hR0
    by_cases k13:46≤z.length
    rotate_left
    · go_upto_region 13 with (go_at_call 135;refine h1W.mono ?_;rintro e wB (⟨hx,_⟩|⟨_,rfl,htB⟩);(exfalso;omega))
      exact ak (.inr ⟨fun h=>by have:=(HOK.out.1 h).1;omega,rfl,hT0.trans htB⟩)
    go_upto_region 13 with (go_at_call 135;refine h1W.mono ?_;rintro e w1 (⟨_,rfl,hR1,ht1⟩|⟨hx,_⟩);rotate_left;(exfalso;omega);have hH1:=hG1.took ht1 (by omega);have cj:=hH1.cell 15;rw [fE _ HPL8.out 15 (by decide)] at cj;have fj:=hH1.frozen2 15)
    have hH0:=hG0.took ht1 (by omega);have hH2:=hH1.set2 15 (.int .u8 a5);rw [mc _ HPL8.out 15 (by decide)] at hH2
    refine af (p:=fun y=>Code.wp _ _ _ _ y) (fun W=>Rd W R base (z.drop 46)∧aY w W R base∧CellsAt W w.heap.size 33 evZ.cells∧CellsAt W (w.heap.size+1) 33 (⟨a0,s0,P,a1,a2,s2,a3==1,a4,a5,0⟩:Ev).cells) ⟨hR1.setCellO _ _ r1 r2,(hT0.trans ht1).setCellO _ _ (by show w.heap.size≤w.heap.size+1;omega) r1,hH0.setOther2 _ _ (by show w.heap.size≠w.heap.size+1;omega),hH2⟩ ?_;clear h1W ho45 hR0 hT0 hG0 hG1 hH1 hH0 hH2 hR1 ht1 cj fj W;rintro W ⟨hR0,hT0,hG0,hG1⟩;have h1W:=ho46 W hR0
    by_cases k14:47≤z.length
    rotate_left
    · go_upto_region 14 with (go_at_call 135;refine h1W.mono ?_;rintro e wB (⟨hx,_⟩|⟨_,rfl,htB⟩);(exfalso;omega))
      exact ak (.inr ⟨fun h=>by have:=(HOK.out.1 h).1;omega,rfl,hT0.trans htB⟩)
    go_upto_region 14 with (go_at_call 135;refine h1W.mono ?_;rintro e w1 (⟨_,rfl,hR1,ht1⟩|⟨hx,_⟩);rotate_left;(exfalso;omega);have hH1:=hG1.took ht1 (by omega);have cj:=hH1.cell 16;rw [fE _ HPL8.out 16 (by decide)] at cj;have fj:=hH1.frozen2 16)
    have hH0:=hG0.took ht1 (by omega);have hH2:=hH1.set2 16 (.int .u8 a6);rw [mc _ HPL8.out 16 (by decide)] at hH2
    refine af (p:=fun y=>Code.wp _ _ _ _ y) (fun W=>Rd W R base (z.drop 47)∧aY w W R base∧CellsAt W w.heap.size 33 evZ.cells∧CellsAt W (w.heap.size+1) 33 (⟨a0,s0,P,a1,a2,s2,a3==1,a4,a5,a6⟩:Ev).cells) ⟨hR1.setCellO _ _ r1 r2,(hT0.trans ht1).setCellO _ _ (by show w.heap.size≤w.heap.size+1;omega) r1,hH0.setOther2 _ _ (by show w.heap.size≠w.heap.size+1;omega),hH2⟩ ?_;clear h1W ho46 hR0 hT0 hG0 hG1 hH1 hH0 hH2 hR1 ht1 cj fj W;rintro W ⟨hR0,hT0,hG0,hG1⟩;have h1W:=hzr W hR0
    by_cases kz:58≤z.length∧∀j,j<11→at1 z (47+j)=0
    · have hzc:11≤(z.drop 47).length∧∀j,j<11→(z.drop 47)[j]?.getD 0=0:=⟨by rw [List.length_drop];omega,fun j hj=>by rw [lr];exact kz.2 j hj⟩
      have HZ:ac (11≤(z.drop 47).length∧∀j,j<11→(z.drop 47)[j]?.getD 0=0):=⟨hzc⟩
      have HKZ:ac (58≤z.length∧∀j,j<11→at1 z (47+j)=0):=⟨kz⟩
      clear hzc kz;go_upto_region 15 with (go_at_call 137;refine h1W.mono ?_;rintro e w1 (⟨_,⟨r1',rfl⟩,hR1,ht1⟩|⟨hx,_⟩);rotate_left;(exact absurd HZ.out hx))
      have hH1:=hG1.took ht1 (by omega);have hH0:=hG0.took ht1 (by omega);rw [←HEV.out] at hH1
      have hT1:=hT0.trans ht1;have hel:EV.cells.length=17:=by rw [HEV.out];exact ev_len _ HPL8.out
      have hiE:(Tryz.prog.info? 33).map (·.size)=some EV.cells.length:=by rw [hel];exact ph
      have hlE:evZ.cells.length=EV.cells.length:=by rw [hel];rfl
      have h1E:=fD EV;rw [List.drop_drop] at hR1
      have rE:=hH1.whole2;clear h1W hzr hR0 hT0 hG0 hG1 ht1 hel
      go_wp2_with (first
       |(refine ae rfl 33 _ rfl _ _ rfl EV.cells rE Tryz.underlying33 rfl hiE ?_)
       |(refine aw rfl 33 _ _ rfl _ rfl rfl hH0 hiE hlE h1E ?_))
      refine bodyPost_ret (results_cell_row (Tryz.results97) _ _ _ _ _ (0,0) _ rfl (hH0.setRow EV.cells) Tryz.underlying33 rfl (by rw [hiE];simp)) rfl ?_;exact .inl ⟨HOK.out.2 ⟨HKZ.out.1,k11.2,HKZ.out.2⟩,rfl,hR1.setRowO _ hsz r3,hT1.setRowO _ (Nat.le_refl _) hsz⟩
    · have hzc:¬(11≤(z.drop 47).length∧∀j,j<11→(z.drop 47)[j]?.getD 0=0):=fun h=>kz ⟨by have:=h.1;rw [List.length_drop] at this;omega,fun j hj=>by have:=h.2 j hj;rw [lr] at this;exact this⟩
      have HZ:ac (¬(11≤(z.drop 47).length∧∀j,j<11→(z.drop 47)[j]?.getD 0=0)):=⟨hzc⟩
      have HKZ:ac (¬(58≤z.length∧∀j,j<11→at1 z (47+j)=0)):=⟨kz⟩
      clear hzc kz;go_upto_region 15 with (go_at_call 137;refine h1W.mono ?_;rintro e wB (⟨hx,_⟩|⟨_,rfl,htB⟩);(exact absurd hx HZ.out))
      exact ak (.inr ⟨fun h=>HKZ.out ⟨(HOK.out.1 h).1,(HOK.out.1 h).2.2⟩,rfl,hT0.trans htB⟩)
theorem fe {w:World} {g o:Nat} {l:List Int} {n:Nat} (h:w.rangeAt g o (l.map (Value.int .u8))) (hn:n=l.length) (hl:l.length≤4000000):Bytes w (some ⟨g,o,none⟩) n n l:=by
 subst hn;exact ⟨rfl,Nat.le_refl _,by omega,(fun h=>by cases h),.inr ⟨g,o,rfl,fun j hj=>h j _ (by rw [List.getElem?_map,List.getElem?_eq_getElem hj];rfl)⟩⟩
theorem Wr.setRow {w:World} {H base g:Nat} {L:List Int} {t:TypeId} {old:List Value} (h:Wr w H base L) (hc:CellsAt w g t old) (ht:t≠5) (hne:H≠g) (cs:Array Value):Wr (w.setRow g cs) H base L:=by
 obtain ⟨v,hb,ho⟩:=h.has;refine ⟨h.ge,v,?_,ho.1,?_⟩
 · unfold Box at hb ⊢
   rw [setRow_other w g H cs hne];exact hb
 · rcases ho.2 with h'|⟨g',cap,cur,h1,h2,h3,h4⟩
   · exact .inl h'
   · refine .inr ⟨g',cap,cur,h1,h2,?_,h4⟩
     rw [setRow_other w g g' cs (fun e=>by
      subst e;unfold CellsAt at hc
      rw [h3] at hc
      simp at hc
      exact ht hc.2.symm)]
     exact h3
def dZ:List Value:=[.int .u8 0]++dotC 0 0++(List.replicate 48 0).map (Value.int .u8)
theorem lS (H base:Nat) (L:List Int) (F:Fr) (xw:Option Addr) (lw cw:Nat) (ws:List Wp) (w:World) (hW:Wr w H base L) (hp:F.prev.length=32) (hm:F.mac.length=32) (hfw:F.wraps=.slice xw lw cw) (hws:∀wx,Below base w wx→WrapsAt wx xw lw cw ws) (hl:lw≤255) (hln:L.length≤1000000):
    Calls Tryz.prog 80 #[.pointer (some ⟨H,0,none⟩),.agg F.cells.toArray] w fun e w'=>(∃r,e=.returned r)∧Wr w' H base (L++aP F ws)∧ct w w' H base:=by
 have hsz:=hW.size;have hlt:H<w.heap.size:=by obtain ⟨v,h1,_⟩:=hW.has;exact h1.lt
 have hD0:=CellsAt.new w 43 F.cells;have hgo:=ct.alloc (H:=H) hsz (.cells F.cells.toArray 43);have hW0:=hW.alloc (.cells F.cells.toArray 43);have HP:ac (F.cells.length=70∧F.cells[0]?=some (.int .u8 F.author)∧F.cells[1]?=some (.int .u32 F.number)∧(F.cells.drop 2).take 2=dotC F.ea F.es∧(F.cells.drop 4).take 32=F.prev.map (Value.int .u8)∧F.cells[36]?=some F.wraps∧F.cells[37]?=some F.body∧(F.cells.drop 38).take 32=F.mac.map (Value.int .u8)):=⟨aH F hp hm⟩
 have HPL:ac (F.prev.length=32):=⟨hp⟩
 have HWS:ac (∀wx,Below base w wx→WrapsAt wx xw lw cw ws):=⟨hws⟩
 have HFW:ac (F.wraps=.slice xw lw cw):=⟨hfw⟩
 have hw0:=hws w (Below.refl _ _);have HLW:ac (lw=ws.length):=⟨hw0.len_eq⟩
 have HOK:ac (∀e∈ws,e.data.length=48):=⟨hw0.ok⟩
 have hcw:=hw0.le;have htw:=hw0.top;clear hW hp hm hfw hws hw0;go_enter Tryz.func80,Tryz.ntmps80;go_upto_region 1 with fail
 refine af (p:=fun y=>Code.wp _ _ _ _ y) (fun W0=>ct w W0 H base∧Wr W0 H base L∧CellsAt W0 w.heap.size 43 F.cells) ⟨hgo,hW0,hD0⟩ ?_;clear hgo hW0 hD0;rintro W0 ⟨hg0,hW0,hD0⟩;have hs0:=hW0.size;have c0:W0.cell? ⟨w.heap.size,0,none⟩=some (.int .u8 F.author):=by rw [hD0.cell];exact HP.out.2.1
 have hp0:=cz H base L (some ⟨W0.heap.size,0,none⟩) 3 3 [69,83,F.author] (W0.alloc (.cells (row .u8 [69,83,F.author]) 5)) (hW0.alloc _) (br W0 [69,83,F.author] (by simp)) (by omega);have hgo:=ct.alloc (H:=H) hs0 (.cells (row .u8 [69,83,F.author]) 5);go_upto_region 2 with (go_at_call 72;refine hp0.mono ?_;rintro e w1 ⟨⟨r1,rfl⟩,hW1,hg1⟩)
 have hD1:=(hD0.went hgo (by omega) (by decide)).went hg1 (by omega) (by decide);have hg01:=hg0.trans (hgo.trans hg1);have hl1:(L++ [69,83,F.author]).length≤1000003:=by rw [List.length_append];simp;omega
 obtain ⟨L1,hL1⟩:∃q,L++ [69,83,F.author]=q:=⟨_,rfl⟩
 have HL1:ac (L++ [69,83,F.author]=L1):=⟨hL1⟩
 rw [hL1] at hW1 hl1
 have c1:w1.cell? ⟨w.heap.size,1,none⟩=some (.int .u32 F.number):=by rw [hD1.cell];exact HP.out.2.2.1
 have hf1:=ms H base L1 F.number w1 hW1 (by omega);clear hp0 c0 hgo hg0 hg1 hD0 hW0 hL1;go_upto_region 3 with (go_at_call 118;refine hf1.mono ?_;rintro e w2 ⟨⟨r2,rfl⟩,hW2,hg2⟩)
 have hD2:=hD1.went hg2 (by omega) (by decide);have hg02:=hg01.trans hg2;have hl2:(L1++be4 F.number).length≤1000007:=by rw [List.length_append,dE];omega
 obtain ⟨L2,hL2⟩:∃q,L1++be4 F.number=q:=⟨_,rfl⟩
 have HL2:ac (L1++be4 F.number=L2):=⟨hL2⟩
 rw [hL2] at hW2 hl2
 have hdt:=lq H base L2 F.ea F.es w2 hW2 (by omega);have rD:w2.rangeAt w.heap.size 2 (dotC F.ea F.es):=by
  have:=hD2.range 2 2;rw [HP.out.2.2.2.1] at this
  exact this
 clear hf1 c1 hg01 hg2 hD1 hW1 hL2;go_upto_region 4 with (first
  |(refine ae rfl 26 _ rfl _ _ rfl (dotC F.ea F.es) rD Tryz.underlying26 rfl sizeDot ?_)
  |(go_at_call 117;refine hdt.mono ?_;rintro e w3 ⟨⟨r3,rfl⟩,hW3,hg3⟩))
 have hD3:=hD2.went hg3 (by omega) (by decide);have hg03:=hg02.trans hg3;have hl3:(L2++ei F.ea F.es).length≤1000020:=by rw [List.length_append,bI];omega
 obtain ⟨L3,hL3⟩:∃q,L2++ei F.ea F.es=q:=⟨_,rfl⟩
 have HL3:ac (L2++ei F.ea F.es=L3):=⟨hL3⟩
 rw [hL3] at hW3 hl3
 have rP:w3.rangeAt w.heap.size 4 (F.prev.map (Value.int .u8)):=by
  have:=hD3.range 4 32;rw [HP.out.2.2.2.2.1] at this
  exact this
 have hpP:=cz H base L3 (some ⟨w.heap.size,4,none⟩) 32 32 F.prev w3 hW3 (fe rP HPL.out.symm (by rw [HPL.out];omega)) (by omega);clear hdt rD hg02 hg3 hD2 hW2 hL3;go_upto_region 5 with (go_at_call 72;refine hpP.mono ?_;rintro e w4 ⟨⟨r4,rfl⟩,hW4,hg4⟩)
 have hD4:=hD3.went hg4 (by omega) (by decide);have hg04:=hg03.trans hg4;have hl4:(L3++F.prev).length≤1000100:=by rw [List.length_append,HPL.out];omega
 obtain ⟨L4,hL4⟩:∃q,L3++F.prev=q:=⟨_,rfl⟩
 have HL4:ac (L3++F.prev=L4):=⟨hL4⟩
 rw [hL4] at hW4 hl4
 have c36:w4.cell? ⟨w.heap.size,36,none⟩=some (.slice xw lw cw):=by rw [hD4.cell,←HFW.out];exact HP.out.2.2.2.2.2.1
 have hs4:=hW4.size;have hwr:IntKind.u8.wrap (lw:Int)=(lw:Int):=by rw [IntKind.wrap_u8];omega
 have hp5:=cz H base L4 (some ⟨w4.heap.size,0,none⟩) 1 1 [(lw:Int)] (w4.alloc (.cells (row .u8 [(lw:Int)]) 5)) (hW4.alloc _) (br w4 [(lw:Int)] (by simp)) (by omega);have hgo:=ct.alloc (H:=H) hs4 (.cells (row .u8 [(lw:Int)]) 5);clear hpP rP hg03 hg4 hD3 hW3 hL4;go_upto_region 6 with (go_at_call 72;refine hp5.mono ?_;rintro e w5 ⟨⟨r5,rfl⟩,hW5,hg5⟩)
 have hD5:=(hD4.went hgo (by omega) (by decide)).went hg5 (by omega) (by decide);have hg05:=hg04.trans (hgo.trans hg5);have hl5:(L4++ [(lw:Int)]).length≤1000101:=by rw [List.length_append];simp;omega
 obtain ⟨L5,hL5⟩:∃q,L4++ [(lw:Int)]=q:=⟨_,rfl⟩
 have HL5:ac (L4++ [(lw:Int)]=L5):=⟨hL5⟩
 rw [hL5] at hW5 hl5
 have c36:w5.cell? ⟨w.heap.size,36,none⟩=some (.slice xw lw cw):=by rw [hD5.cell,←HFW.out];exact HP.out.2.2.2.2.2.1
 clear hp5 hgo hg04 hg5 hD4 hW4 hL5 hwr
 go_wp2_with fail
 go_loopw [33] (fun q wr=>∃j:Nat,j≤lw∧q=.int .i64 j∧Wr wr H base (L5++bR (ws.take j))∧ct w wr H base) (fun q _=>lw - (intOf q).toNat)
 case atStart=>exact ⟨0,by omega,rfl,by simpa [bR] using hW5,hg05⟩
 case round=>
  clear hW5 hg05 hD5 c36;obtain ⟨j,hj,rfl,hW1,hg1⟩:=hrel;have hlen:(bR (ws.take j)).length≤54*255:=by
   rw [kf _ (fun e he=>HOK.out e (List.mem_of_mem_take he)),List.length_take];omega
  by_cases hlt:j<lw
  · have hjw:j<ws.length:=by have:=HLW.out;omega
    obtain ⟨b,off,hx,hrg⟩:∃b off,xw=some ⟨b,off,none⟩∧∀j (hj:j<ws.length),wr.rangeAt b (off+j*51) (ws[j]).cells:=by
     rcases (HWS.out wr hg1.below).at_ with h0|h
     · omega
     · exact h
    subst hx;have hr:=hrg j hjw;have hts:=ky ws j hjw;have hok:=HOK.out ws[j] (List.getElem_mem hjw);obtain ⟨E,hE⟩:∃q,ws[j]=q:=⟨_,rfl⟩
    rw [hE] at hr hts hok
    have HTS:ac (L5++bR (ws.take j)++jF E=L5++bR (ws.take (j+1))):=⟨by rw [hts,List.append_assoc]⟩
    obtain ⟨q1,q2,q3,q4,q5⟩:=wp_parts E hok;have HQ:ac (E.cells[0]?=some (.int .u8 E.too)∧(E.cells.drop 1).take 2=dotC E.ea E.es∧(E.cells.drop 3).take 48=E.data.map (Value.int .u8)):=⟨q2,q3,q4⟩
    have HOKE:ac (E.data.length=48):=⟨hok⟩
    have hsW:=hg1.below.size;have hsz1:=hW1.size;have hl6:(L5++bR (ws.take j)).length≤1100000:=by rw [List.length_append];omega
    obtain ⟨A,hA⟩:∃q,L5++bR (ws.take j)=q:=⟨_,rfl⟩
    rw [hA] at hW1 HTS hl6
    have hltw:H<wr.heap.size:=by obtain ⟨v,h1,_⟩:=hW1.has;exact h1.lt
    have hZ0:CellsAt (wr.alloc (.cells dZ.toArray 68)) wr.heap.size 68 dZ:=CellsAt.new wr 68 dZ;have hWZ:=hW1.alloc (.cells dZ.toArray 68);have hgZ:=hg1.trans (ct.alloc (H:=H) hsz1 (.cells dZ.toArray 68));have hj0:(0:Int)≤(j:Int):=by omega
    have hjl:(j:Int)<(lw:Int):=by omega
    have hiW:(Tryz.prog.info? 68).map (·.size)=some E.cells.length:=by rw [q1];exact jP
    have hzl:dZ.length=E.cells.length:=by rw [q1];rfl
    clear hrg hts hE hA q1 q2 q3 q4 hlen hjw hok;go_upto_region 9 with (first
     |(refine ae rfl 68 _ rfl _ _ rfl E.cells hr Tryz.underlying68 rfl hiW ?_)
     |(refine aw rfl 68 _ _ rfl _ rfl rfl hZ0 hiW hzl q5 ?_))
    refine af (p:=fun y=>Code.wp _ _ _ _ y) (fun W1=>ct w W1 H base∧Wr W1 H base A∧CellsAt W1 wr.heap.size 68 E.cells) ⟨ct.setRow (by omega) w (by omega) hgZ _,hWZ.setRow hZ0 (by decide) (by omega) _,hZ0.setRow _⟩ ?_;obtain ⟨G,hG⟩:∃q,wr.heap.size=q:=⟨_,rfl⟩
    rw [hG] at hltw hsW ⊢
    clear hZ0 hWZ hgZ hr hiW hzl q5 hG hW1 hg1 hsz1;rintro W1 ⟨hg1,hW1,hD1⟩;have hs1:=hW1.size;have c0:W1.cell? ⟨G,0,none⟩=some (.int .u8 E.too):=by rw [hD1.cell];exact HQ.out.1
    have hp1:=cz H base A (some ⟨W1.heap.size,0,none⟩) 1 1 [E.too] (W1.alloc (.cells (row .u8 [E.too]) 5)) (hW1.alloc _) (br W1 [E.too] (by simp)) (by omega);have hgo:=ct.alloc (H:=H) hs1 (.cells (row .u8 [E.too]) 5);go_upto_region 10 with (go_at_call 72;refine hp1.mono ?_;rintro e w2 ⟨⟨r2,rfl⟩,hW2,hg2⟩)
    have hD2:=(hD1.went hgo (by omega) (by decide)).went hg2 (by omega) (by decide);have hg02:=hg1.trans (hgo.trans hg2);have hdt:=lq H base (A++ [E.too]) E.ea E.es w2 hW2 (by rw [List.length_append];simp;omega);have rD:w2.rangeAt G 1 (dotC E.ea E.es):=by
     have:=hD2.range 1 2;rw [HQ.out.2.1] at this
     exact this
    clear hp1 c0 hgo hg1 hg2 hD1 hW1;go_upto_region 11 with (first
     |(refine ae rfl 26 _ rfl _ _ rfl (dotC E.ea E.es) rD Tryz.underlying26 rfl sizeDot ?_)
     |(go_at_call 117;refine hdt.mono ?_;rintro e w3 ⟨⟨r3,rfl⟩,hW3,hg3⟩))
    have hD3:=hD2.went hg3 (by omega) (by decide);have hg03:=hg02.trans hg3;have rP:w3.rangeAt G 3 (E.data.map (Value.int .u8)):=by
     have:=hD3.range 3 48;rw [HQ.out.2.2] at this
     exact this
    have hpP:=cz H base (A++ [E.too]++ei E.ea E.es) (some ⟨G,3,none⟩) 48 48 E.data w3 hW3 (fe rP HOKE.out.symm (by rw [HOKE.out];omega)) (by rw [List.length_append,List.length_append,bI];simp;omega);clear hdt rD hg02 hg3 hD2 hW2
    go_wp2_with (go_at_call 72;refine hpP.mono ?_;rintro e w4 ⟨⟨r4,rfl⟩,hW4,hg4⟩)
    have hW4':Wr w4 H base (L5++bR (ws.take (j+1))):=by
     rw [←HTS.out];unfold jF;simp only [List.append_assoc] at hW4 ⊢
     exact hW4
    clear hW4;go_roundw
    case rel=>exact ⟨j+1,by omega,by go_num,hW4',hg03.trans hg4⟩
    case measure=>simp [intOf];omega
  · obtain rfl:j=lw:=by omega
    have HA:ac (ws.take j=ws):=⟨List.take_of_length_le (by have:=HLW.out;omega)⟩
    rw [HA.out] at hW1
    go_wp2
    go_end0
    refine ⟨⟨_,rfl⟩,?_,hg1⟩;rw [←HL5.out,←HL4.out,←HL3.out,←HL2.out,←HL1.out,HLW.out] at hW1
    unfold aP;simp only [List.append_assoc] at hW1 ⊢
    exact hW1
end Go.Proofs.YtbdhfbglagdiaaaGreatDoor
