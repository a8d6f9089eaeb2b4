/- Cp Cr -/
import Derived.Test.YtbdhfbglagdiaaaGreatDoorG17
import Derived.Test.YtbdhfbglagdiaaaGreatDoorG25
namespace Go.Proofs.YtbdhfbglagdiaaaGreatDoor
open Go.RowKit
def whL:List Int:=[0,4,8,12,1,5,9,13,2,6,10,14,3,7,11,15,0,5,10,15,1,6,11,12,2,7,8,13,3,4,9,14]
def pl (i j:Nat):Nat:=(whL[4*(i % 8)+j]?.getD 0).toNat
def qN (s:List Int):Nat→List Int
 |0=>s
 |i+1=>qAt (qN s i) (pl i 0) (pl i 1) (pl i 2) (pl i 3)
theorem tA (s:List Int) (i:Nat):(qN s i).length=s.length:=by
 induction i with
 |zero=>rfl
 |succ i ih=>simp only [qN,cW,ih]
theorem gT (i r j:Nat) (h:i % 8=r):pl i j=(whL[4*r+j]?.getD 0).toNat:=by unfold pl;rw [h]
theorem uC (s:List Int) (j:Nat):qN s (8*(j+1))=jV (mY (qN s (8*j))):=by
 have e:8*(j+1)=8*j+1+1+1+1+1+1+1+1:=by omega
 rw [e];simp only [qN];simp only [gT (8*j) 0 _ (by omega),gT (8*j+1) 1 _ (by omega),gT (8*j+1+1) 2 _ (by omega),gT (8*j+1+1+1) 3 _ (by omega),
  gT (8*j+1+1+1+1) 4 _ (by omega),gT (8*j+1+1+1+1+1) 5 _ (by omega),gT (8*j+1+1+1+1+1+1) 6 _ (by omega),gT (8*j+1+1+1+1+1+1+1) 7 _ (by omega)]
 rfl
theorem tr (s:List Int) (j:Nat):qN s (8*j)=cD s j:=by
 induction j with
 |zero=>rfl
 |succ j ih=>rw [uC,ih];rfl
theorem places (i:Nat):∃a b c d:Nat,pl i 0=a∧pl i 1=b∧pl i 2=c∧pl i 3=d∧a<16∧b<16∧c<16∧d<16∧a≠b∧a≠c∧a≠d∧b≠c∧b≠d∧c≠d∧
    whL[4*(i % 8)]?.getD 0=(a:Int)∧whL[4*(i % 8)+1]?.getD 0=(b:Int)∧whL[4*(i % 8)+2]?.getD 0=(c:Int)∧whL[4*(i % 8)+3]?.getD 0=(d:Int):=by
 have h:i % 8=0∨i % 8=1∨i % 8=2∨i % 8=3∨i % 8=4∨i % 8=5∨i % 8=6∨i % 8=7:=by omega
 unfold pl
 rcases h with h|h|h|h|h|h|h|h<;>rw [h]<;>exact ⟨_,_,_,_,rfl,rfl,rfl,rfl,by decide⟩
theorem uf (s:List Int) (k i:Nat) (h:i<4*k):(joinK s k)[i]?.getD 0=at' s (i / 4) / 2 ^ (8*(i % 4)) % 256:=by
 induction k with
 |zero=>omega
 |succ k ih=>
  simp only [joinK]
  by_cases hlt:i<4*k
  · rw [List.getElem?_append_left (by rw [aJ];exact hlt)];exact ih hlt
  · rw [List.getElem?_append_right (by rw [aJ];omega),aJ]
    have hq:i / 4=k:=by omega
    have:i - 4*k=0∨i - 4*k=1∨i - 4*k=2∨i - 4*k=3:=by omega
    rw [hq]
    rcases this with h0|h0|h0|h0
    · have hr:i % 4=0:=by omega
      rw [h0,hr];simp [lO]
    · have hr:i % 4=1:=by omega
      rw [h0,hr];rfl
    · have hr:i % 4=2:=by omega
      rw [h0,hr];rfl
    · have hr:i % 4=3:=by omega
      rw [h0,hr];rfl
def ki (l:List Int) (i:Nat):List Int:=l.take i++List.replicate (l.length - i) 0
theorem pw (l:List Int) (i:Nat) (h:i≤l.length):(ki l i).length=l.length:=by simp [ki];omega
theorem tG (l:List Int):ki l 0=List.replicate l.length 0:=by simp [ki]
theorem ww (l:List Int):ki l l.length=l:=by simp [ki]
theorem uZ (l:List Int) (i:Nat) (h:i<l.length):(ki l i).set i (l[i]?.getD 0)=ki l (i+1):=by
 have hl:(l.take i).length=i:=by rw [List.length_take];omega
 have:=br (l.take i) (l.length - (i+1)) (l[i]?.getD 0);rw [hl] at this
 unfold ki;rw [show l.length - i=l.length - (i+1)+1 by omega,this,bG l i h]
set_option maxRecDepth 20000
set_option maxHeartbeats 4000000
set_option linter.unusedSimpArgs false
theorem go {P:Program} {ops:Array Oper} {rest:List Oper} {o:Oper} {a:Act} {w:World} {Q:Exit→Act→World→Prop} (hgd:o.guard=none) (t:TypeId) (parts:Array (Nat×Operand)) (ho:o.op=.build t parts) (v:Value)
    (hrun:∀wx,(Instr.build t (parts.map fun (i,x)=>(i,a.eval x))).run P wx=.ok v wx) (h:wpList P ops Q rest (a.put o.dst v) w):wpList P ops Q (o::rest) a w:=
 wpList_plain hgd fun _ hK=>by
  unfold Oper.wp execOp;simp only [ho,Sem.run_bind,Sem.run_pure,Result.andThen_ok,hrun];exact hK _ _ h
theorem xG:(Tryz.prog.info? 210).map (·.size)=some 32:=by kernel_rfl
theorem sA:(Tryz.prog.info? 181).map (·.size)=some 16:=by kernel_rfl
theorem jw (k n:List Int) (c:Int) (w:World) (hk:k.length=32) (hn:n.length=12):
    Calls Tryz.prog 125 #[.agg (row .u8 k),.agg (row .u8 n),.int .u32 c] w fun e w'=>e=.returned (.agg (row .u8 (cu k n c)))∧Below w.heap.size w w':=by
 have hBl:=fI k n c;have hbe:=qg k n c;obtain ⟨B,hBe⟩:∃B,gK k n c=B:=⟨_,rfl⟩
 have HB:ac (cu k n c=joinK (fH B) 16):=⟨by unfold cu;rw [hBe]⟩
 rw [hBe] at hBl hbe
 have HBE:ac (bS ((bS constL k 4 8).set 12 c) n 13 3=B):=⟨hbe⟩
 clear hBe hbe;go_enter Tryz.func125,Tryz.ntmps125;go_upto_region 2 with fail
 refine ae (p:=fun y=>Code.wp _ _ _ _ y) (fun W0=>Below w.heap.size w W0∧W0.heap.size=w.heap.size+1+1+1+1∧aa W0 w.heap.size .u8 23 k∧aa W0 (w.heap.size+1) .u8 79 n∧aa W0 (w.heap.size+1+1) .u8 157 (List.replicate 64 0)∧aa W0 (w.heap.size+1+1+1) .u32 181 constL) ⟨?_,by simp,?_,?_,?_,?_⟩ ?_
 · exact ((((Below.refl _ _).alloc (Nat.le_refl _) _).alloc (by simp) _).alloc (by simp;omega) _).alloc (by simp;omega) _
 · exact (((aa.new w .u8 23 k).alloc _).alloc _).alloc _
 · have:=(aa.new (w.alloc (.cells (row .u8 k) 23)) .u8 79 n)
   rw [World.size_alloc] at this
   exact (this.alloc _).alloc _
 · have:=(aa.new ((w.alloc (.cells (row .u8 k) 23)).alloc (.cells (row .u8 n) 79)) .u8 157 (List.replicate 64 0))
   rw [World.size_alloc,World.size_alloc] at this
   exact this.alloc _
 · have:=(aa.new (((w.alloc (.cells (row .u8 k) 23)).alloc (.cells (row .u8 n) 79)).alloc (.cells (row .u8 (List.replicate 64 0)) 157)) .u32 181 constL)
   rw [World.size_alloc,World.size_alloc,World.size_alloc] at this
   exact this
 rintro W0 ⟨hB0,hs0,hK0,hN0,hR0,hS0⟩
 go_wp2_with fail
 go_loopw [8] (fun i wr=>∃j:Nat,j≤8∧i=.int .i64 j∧Below w.heap.size w wr∧wr.heap.size=w.heap.size+1+1+1+1∧aa wr w.heap.size .u8 23 k∧aa wr (w.heap.size+1) .u8 79 n∧aa wr (w.heap.size+1+1) .u8 157 (List.replicate 64 0)∧aa wr (w.heap.size+1+1+1) .u32 181 (bS constL k 4 j))
  (fun i _=>8 - (intOf i).toNat)
 case atStart=>exact ⟨0,by omega,rfl,hB0,hs0,hK0,hN0,hR0,by rw [jk];exact hS0⟩
 case round=>
  clear hB0 hs0 hK0 hN0 hR0 hS0 W0;obtain ⟨j,hj,rfl,hB,hs,hK,hN,hR,hSt⟩:=hrel
  by_cases hlt:j<8
  · obtain ⟨I,hI⟩:∃I,4*j=I:=⟨_,rfl⟩
    have hw:=fun cap=>kN w.heap.size I cap (k[4*j]?.getD 0) (k[4*j+1]?.getD 0) (k[4*j+2]?.getD 0) (k[4*j+3]?.getD 0) wr (by rw [←hI];exact hK.cell _ (by omega)) (by rw [←hI];exact hK.cell _ (by omega)) (by rw [←hI];exact hK.cell _ (by omega)) (by rw [←hI];exact hK.cell _ (by omega))
    have HW:ac (wlAt k j=wl (k[4*j]?.getD 0) (k[4*j+1]?.getD 0) (k[4*j+2]?.getD 0) (k[4*j+3]?.getD 0)):=⟨rfl⟩
    have hfl:(bS constL k 4 j).length=16:=by rw [fillK_length _ _ _ _ (by simp [constL];omega)];rfl
    have cS:=hSt.cell (4+j) (by omega);have fS:=hSt.frozen (4+j);have HF:ac ((bS constL k 4 j).set (4+j) (wlAt k j)=bS constL k 4 (j+1)):=⟨jW _ _ _ _ (by simp [constL];omega)⟩
    obtain ⟨V,hV⟩:∃V,wl (k[4*j]?.getD 0) (k[4*j+1]?.getD 0) (k[4*j+2]?.getD 0) (k[4*j+3]?.getD 0)=V:=⟨_,rfl⟩
    rw [hV] at hw HW
    rw [HW.out] at HF
    have HI:ac (4*j=I):=⟨hI⟩
    have i1:(4:Int)*(j:Int)=(I:Int):=by omega
    have i2:IntKind.i64.wrap (I:Int)=(I:Int):=by rw [IntKind.wrap_i64];omega
    have i3:IntKind.i64.wrap ((I:Int)+4)=(I:Int)+4:=by rw [IntKind.wrap_i64];omega
    have i4:((I:Int)+4).toNat=I+4:=by omega
    have i5:(I:Int)+4≤32:=by omega
    have i6:(0:Int)≤(I:Int)+4:=by omega
    have i7:¬(32=I):=by omega
    have i8:(I:Int)≤(I:Int)+4:=by omega
    have l1:IntKind.i64.wrap (4+(j:Int))=4+(j:Int):=by rw [IntKind.wrap_i64];omega
    have l2:(0:Int)≤4+(j:Int):=by omega
    have l3:4+(j:Int)<16:=by omega
    have l4:(4+(j:Int)).toNat=4+j:=by omega
    have hji:(j:Int)<8:=by omega
    clear hV hI HW hfl
    go_wp2_with (go_at_call 165;refine (hw _).mono ?_;rintro e w' ⟨rfl,q,rfl⟩)
    go_roundw
    case rel=>
     refine ⟨j+1,by omega,by go_num,(aD hB _).setCell (by simp;omega) _,by simpa using hs,(hK.drewN _).setOther _ _ (by simp;omega),(hN.drewN _).setOther _ _ (by simp),(hR.drewN _).setOther _ _ (by simp),?_⟩;rw [←HF.out];exact (hSt.drewN _).set (4+j) _
    case measure=>simp [intOf];omega
  · obtain rfl:j=8:=by omega
    have e8:((8:Nat):Int)=8:=rfl;rw [e8];clear e8;have hfl:(bS constL k 4 8).length=16:=by rw [fillK_length _ _ _ _ (by decide)];rfl
    have c12:=hSt.cell 12 (by omega);have f12:=hSt.frozen 12;obtain ⟨L,hL⟩:∃L,(bS constL k 4 8).set 12 c=L:=⟨_,rfl⟩
    have hLl:L.length=16:=by rw [←hL,List.length_set,hfl]
    rw [hL] at HBE
    have HL:ac ((bS constL k 4 8).set 12 c=L):=⟨hL⟩
    clear hL;go_upto_region 7 with fail
    refine ae (p:=fun y=>Code.wp _ _ _ _ y) (fun W1=>Below w.heap.size w W1∧W1.heap.size=w.heap.size+1+1+1+1∧aa W1 (w.heap.size+1) .u8 79 n∧aa W1 (w.heap.size+1+1) .u8 157 (List.replicate 64 0)∧aa W1 (w.heap.size+1+1+1) .u32 181 L) ⟨hB.setCell (by simp;omega) _,by simpa using hs,hN.setOther _ _ (by simp),hR.setOther _ _ (by simp),by rw [←HL.out];exact hSt.set 12 c⟩ ?_;clear c12 f12 hB hs hK hN hR hSt hfl;rintro W1 ⟨hB1,hs1,hN1,hR1,hS1⟩
    go_wp2_with fail
    go_loopw [9] (fun i wr=>∃j:Nat,j≤3∧i=.int .i64 j∧Below w.heap.size w wr∧wr.heap.size=w.heap.size+1+1+1+1∧aa wr (w.heap.size+1) .u8 79 n∧aa wr (w.heap.size+1+1) .u8 157 (List.replicate 64 0)∧aa wr (w.heap.size+1+1+1) .u32 181 (bS L n 13 j))
     (fun i _=>3 - (intOf i).toNat)
    case atStart=>exact ⟨0,by omega,rfl,hB1,hs1,hN1,hR1,by rw [jk];exact hS1⟩
    case round=>
     clear hB1 hs1 hN1 hR1 hS1 W1;obtain ⟨j,hj2,rfl,hB,hs,hN,hR,hSt⟩:=hrel
     by_cases hlt2:j<3
     · obtain ⟨I,hI⟩:∃I,4*j=I:=⟨_,rfl⟩
       have hw:=fun cap=>kN (w.heap.size+1) I cap (n[4*j]?.getD 0) (n[4*j+1]?.getD 0) (n[4*j+2]?.getD 0) (n[4*j+3]?.getD 0) wr (by rw [←hI];exact hN.cell _ (by omega)) (by rw [←hI];exact hN.cell _ (by omega)) (by rw [←hI];exact hN.cell _ (by omega)) (by rw [←hI];exact hN.cell _ (by omega))
       have HW:ac (wlAt n j=wl (n[4*j]?.getD 0) (n[4*j+1]?.getD 0) (n[4*j+2]?.getD 0) (n[4*j+3]?.getD 0)):=⟨rfl⟩
       have hfl:(bS L n 13 j).length=16:=by rw [fillK_length _ _ _ _ (by omega)];exact hLl
       have cS:=hSt.cell (13+j) (by omega);have fS:=hSt.frozen (13+j);have HF:ac ((bS L n 13 j).set (13+j) (wlAt n j)=bS L n 13 (j+1)):=⟨jW _ _ _ _ (by omega)⟩
       obtain ⟨V,hV⟩:∃V,wl (n[4*j]?.getD 0) (n[4*j+1]?.getD 0) (n[4*j+2]?.getD 0) (n[4*j+3]?.getD 0)=V:=⟨_,rfl⟩
       rw [hV] at hw HW
       rw [HW.out] at HF
       have HI:ac (4*j=I):=⟨hI⟩
       have i1:(4:Int)*(j:Int)=(I:Int):=by omega
       have i2:IntKind.i64.wrap (I:Int)=(I:Int):=by rw [IntKind.wrap_i64];omega
       have i3:IntKind.i64.wrap ((I:Int)+4)=(I:Int)+4:=by rw [IntKind.wrap_i64];omega
       have i4:((I:Int)+4).toNat=I+4:=by omega
       have i5:(I:Int)+4≤12:=by omega
       have i6:(0:Int)≤(I:Int)+4:=by omega
       have i7:¬(12=I):=by omega
       have i8:(I:Int)≤(I:Int)+4:=by omega
       have l1:IntKind.i64.wrap (13+(j:Int))=13+(j:Int):=by rw [IntKind.wrap_i64];omega
       have l2:(0:Int)≤13+(j:Int):=by omega
       have l3:13+(j:Int)<16:=by omega
       have l4:(13+(j:Int)).toNat=13+j:=by omega
       have hji:(j:Int)<3:=by omega
       clear hV hI HW hfl
       go_wp2_with (go_at_call 165;refine (hw _).mono ?_;rintro e w' ⟨rfl,q,rfl⟩)
       go_roundw
       case rel=>
        refine ⟨j+1,by omega,by go_num,(aD hB _).setCell (by simp;omega) _,by simpa using hs,(hN.drewN _).setOther _ _ (by simp),(hR.drewN _).setOther _ _ (by simp),?_⟩;rw [←HF.out];exact (hSt.drewN _).set (13+j) _
       case measure=>simp [intOf];omega
     · obtain rfl:j=3:=by omega
       have e3:((3:Nat):Int)=3:=rfl;rw [e3];clear e3;rw [HBE.out] at hSt
       have hX0:=aa.new wr .u32 181 (List.replicate 16 0);rw [hs] at hX0
       clear hN HBE HL hLl;go_upto_region 12 with (first
        |(refine am rfl 181 _ rfl _ rfl hSt Tryz.underlying181 sA hBl ?_)
        |(refine aj rfl 181 _ _ rfl _ rfl rfl hX0 (by rw [hBl];exact sA) (by simp [hBl]) ?_))
       refine ae (p:=fun y=>Code.wp _ _ _ _ y) (fun W2=>Below w.heap.size w W2∧W2.heap.size=w.heap.size+1+1+1+1+1∧aa W2 (w.heap.size+1+1) .u8 157 (List.replicate 64 0)∧aa W2 (w.heap.size+1+1+1) .u32 181 B∧aa W2 (w.heap.size+1+1+1+1) .u32 181 B) ⟨below_setRow (hB.alloc (by omega) _) (by omega) _,by simpa using hs,(hR.alloc _).setRowOther _ (by omega),(hSt.alloc _).setRowOther _ (by omega),hX0.setRow B⟩ ?_;clear hX0 hB hs hR hSt;rintro W2 ⟨hB2,hs2,hR2,hS2,hX2⟩;simp only [Act.put];have hT0:=aa.new W2 .i64 210 (List.replicate 32 0);rw [hs2] at hT0
       go_upto_region 13 with (first
        |(refine go rfl 210 _ rfl (.agg (row .i64 whL)) (fun _=>by kernel_rfl) ?_)
        |(refine aj rfl 210 _ _ rfl _ rfl rfl hT0 xG (by simp [whL]) ?_))
       refine ae (p:=fun y=>Code.wp _ _ _ _ y) (fun W3=>Below w.heap.size w W3∧w.heap.size+1+1+1+1+1+1≤W3.heap.size∧aa W3 (w.heap.size+1+1) .u8 157 (List.replicate 64 0)∧aa W3 (w.heap.size+1+1+1) .u32 181 B∧aa W3 (w.heap.size+1+1+1+1) .u32 181 B∧aa W3 (w.heap.size+1+1+1+1+1) .i64 210 whL) ⟨below_setRow (hB2.alloc (by omega) _) (by omega) _,by simp [hs2],(hR2.alloc _).setRowOther _ (by omega),(hS2.alloc _).setRowOther _ (by omega),(hX2.alloc _).setRowOther _ (by omega),hT0.setRow whL⟩ ?_;clear hT0 hB2 hR2 hS2 hX2 hs2;rintro W3 ⟨hB3,hs3,hR3,hS3,hX3,hT3⟩;simp only [Act.put]
       go_wp2_with fail
       go_loopw [12] (fun v wr=>∃i:Nat,i≤80∧v=.int .i64 i∧Below w.heap.size w wr∧w.heap.size+1+1+1+1+1+1≤wr.heap.size∧aa wr (w.heap.size+1+1) .u8 157 (List.replicate 64 0)∧aa wr (w.heap.size+1+1+1) .u32 181 B∧aa wr (w.heap.size+1+1+1+1) .u32 181 (qN B i)∧aa wr (w.heap.size+1+1+1+1+1) .i64 210 whL)
        (fun v _=>80 - (intOf v).toNat)
       case atStart=>exact ⟨0,by omega,rfl,hB3,hs3,hR3,hS3,hX3,hT3⟩
       case round=>
        clear hB3 hs3 hR3 hS3 hX3 hT3;obtain ⟨i,hi,rfl,hB,hs,hR,hSt,hX,hT⟩:=hrel
        by_cases hlt3:i<80
        · obtain ⟨a,b,c',d,pa,pb,pc,pd,ha,hb,hc,hd,nab,nac,nad,nbc,nbd,ncd,ta,tb,tc,td⟩:=places i
          have HQ:ac (qN B (i+1)=qAt (qN B i) a b c' d):=⟨by show qAt (qN B i) (pl i 0) (pl i 1) (pl i 2) (pl i 3)=_;rw [pa,pb,pc,pd]⟩
          have hql:(qN B i).length=16:=by rw [tA,hBl]
          obtain ⟨r,hr⟩:∃r,i % 8=r:=⟨_,rfl⟩
          have hr8:r<8:=by omega
          have hri:(i:Int) % 8=(r:Int):=by omega
          have hwl:whL.length=32:=rfl;rw [hr] at ta tb tc td
          obtain ⟨U,hU⟩:∃U,4*r=U:=⟨_,rfl⟩
          have hU4:r*4=U:=by omega
          have hU32:U+4≤32:=by omega
          rw [hU] at ta tb tc td
          have t0:=hT.cell U (by omega);have t1:=hT.cell (U+1) (by omega);have t2:=hT.cell (U+2) (by omega);have t3:=hT.cell (U+3) (by omega);rw [ta] at t0
          rw [tb] at t1
          rw [tc] at t2
          rw [td] at t3
          obtain ⟨S,hSe⟩:∃S,qN B i=S:=⟨_,rfl⟩
          rw [hSe] at HQ hql hX
          clear pa pb pc pd ta tb tc td hSe hr hU hwl;have hr8i:(r:Int)<8:=by omega
          have hii:(i:Int)<80:=by omega
          go_upto_region 17 with fail
          have hG0:=aa.new wr .i64 209 [(a:Int),(b:Int),(c':Int),(d:Int)];refine ae (p:=fun y=>Code.wp _ _ _ _ y) (fun W4=>Below w.heap.size w W4∧wr.heap.size+1≤W4.heap.size∧aa W4 (w.heap.size+1+1) .u8 157 (List.replicate 64 0)∧aa W4 (w.heap.size+1+1+1) .u32 181 B∧aa W4 (w.heap.size+1+1+1+1) .u32 181 S∧aa W4 (w.heap.size+1+1+1+1+1) .i64 210 whL∧aa W4 wr.heap.size .i64 209 [(a:Int),(b:Int),(c':Int),(d:Int)]) ⟨hB.alloc hB.size _,by simp,hR.alloc _,hSt.alloc _,hX.alloc _,hT.alloc _,hG0⟩ ?_;clear hG0 t0 t1 t2 t3 hB hR hSt hX hT;rintro W4 ⟨hB4,hs4,hR4,hS4,hX4,hT4,hG4⟩;have g0:W4.cell? ⟨wr.heap.size,0,none⟩=some (.int .i64 (a:Int)):=hG4.cell 0 (by simp);have g1:W4.cell? ⟨wr.heap.size,1,none⟩=some (.int .i64 (b:Int)):=hG4.cell 1 (by simp);have g2:W4.cell? ⟨wr.heap.size,2,none⟩=some (.int .i64 (c':Int)):=hG4.cell 2 (by simp);have g3:W4.cell? ⟨wr.heap.size,3,none⟩=some (.int .i64 (d:Int)):=hG4.cell 3 (by simp);have x0:=hX4.at a (by omega)
          have x1:=hX4.at b (by omega)
          have x2:=hX4.at c' (by omega)
          have x3:=hX4.at d (by omega)
          have xf:=hX4.frozen;have ai:(a:Int)<16:=by omega
          have bi:(b:Int)<16:=by omega
          have ci:(c':Int)<16:=by omega
          have di:(d:Int)<16:=by omega
          have nba:¬b=a:=fun h=>nab h.symm
          have nca:¬c'=a:=fun h=>nac h.symm
          have nda:¬d=a:=fun h=>nad h.symm
          have ncb:¬c'=b:=fun h=>nbc h.symm
          have ndb:¬d=b:=fun h=>nbd h.symm
          have ndc:¬d=c':=fun h=>ncd h.symm
          have hGX:wr.heap.size≠w.heap.size+1+1+1+1:=by omega
          have kT:∀w':World,w'.heap[wr.heap.size]?=W4.heap[wr.heap.size]? →(w'.cell? ⟨wr.heap.size,0,none⟩=some (.int .i64 (a:Int))∧w'.cell? ⟨wr.heap.size,1,none⟩=some (.int .i64 (b:Int))∧w'.cell? ⟨wr.heap.size,2,none⟩=some (.int .i64 (c':Int))∧w'.cell? ⟨wr.heap.size,3,none⟩=some (.int .i64 (d:Int))):=fun w' h=>by
           have e:∀o,w'.cell? ⟨wr.heap.size,o,none⟩=W4.cell? ⟨wr.heap.size,o,none⟩:=fun o=>World.cell?_of_block (a:=⟨wr.heap.size,o,none⟩) h
           exact ⟨(e _).trans g0,(e _).trans g1,(e _).trans g2,(e _).trans g3⟩
          have kS:∀w':World,w'.heap[w.heap.size+1+1+1+1]?=W4.heap[w.heap.size+1+1+1+1]? →(w'.cell? ⟨w.heap.size+1+1+1+1,a,none⟩=some (.int .u32 (at' S a))∧w'.cell? ⟨w.heap.size+1+1+1+1,b,none⟩=some (.int .u32 (at' S b))∧w'.cell? ⟨w.heap.size+1+1+1+1,c',none⟩=some (.int .u32 (at' S c'))∧w'.cell? ⟨w.heap.size+1+1+1+1,d,none⟩=some (.int .u32 (at' S d))):=fun w' h=>by
           have e:∀o,w'.cell? ⟨w.heap.size+1+1+1+1,o,none⟩=W4.cell? ⟨w.heap.size+1+1+1+1,o,none⟩:=fun o=>World.cell?_of_block (a:=⟨w.heap.size+1+1+1+1,o,none⟩) h
           exact ⟨(e _).trans x0,(e _).trans x1,(e _).trans x2,(e _).trans x3⟩
          refine ay (fun w'=>w'.cell? ⟨wr.heap.size,0,none⟩=some (.int .i64 (a:Int))∧w'.cell? ⟨wr.heap.size,1,none⟩=some (.int .i64 (b:Int))∧w'.cell? ⟨wr.heap.size,2,none⟩=some (.int .i64 (c':Int))∧w'.cell? ⟨wr.heap.size,3,none⟩=some (.int .i64 (d:Int)))
           (fun w'=>w'.cell? ⟨w.heap.size+1+1+1+1,a,none⟩=some (.int .u32 (at' S a))∧w'.cell? ⟨w.heap.size+1+1+1+1,b,none⟩=some (.int .u32 (at' S b))∧w'.cell? ⟨w.heap.size+1+1+1+1,c',none⟩=some (.int .u32 (at' S c'))∧w'.cell? ⟨w.heap.size+1+1+1+1,d,none⟩=some (.int .u32 (at' S d))) 31 (by kernel_rfl) ?_
          have hS:=kS W4.drew rfl;have hT:=kT W4.drew rfl;refine ghA 0 _ hT hS ?_;simp only [zp];refine ghA 1 _ hT hS ?_;simp only [zp];refine ghA 2 _ hT hS ?_;simp only [zp];refine ghA 3 _ hT hS ?_;simp only [zp];refine ghA 4 _ hT hS ?_;simp only [zp];refine ghA 5 _ hT hS ?_;simp only [zp];refine ghA 6 _ hT hS ?_;simp only [zp];refine ghA 7 _ hT hS ?_;simp only [zp];refine ghA 8 _ hT hS ?_;simp only [zp];refine ghA 9 _ hT hS ?_;simp only [zp];refine ghA 10 _ hT hS ?_;simp only [zp];refine fu (i:=11) (v:=?_) rfl (by kernel_rfl) (by kernel_rfl) (by kernel_rfl) (fun _ _ _ h=>h) (by kernel_rfl) (by kernel_rfl) (by kernel_rfl) hT hS (by kernel_rfl) ?_ ?_;rotate_left
          · intro wx hSw;go_split_ands;go_simp;try with_reducible rfl
          simp only [zp];refine ghA 12 _ hT hS ?_;simp only [zp];refine ghA 13 _ hT hS ?_;simp only [zp];refine ghA 14 _ hT hS ?_;simp only [zp];refine fu (i:=15) (v:=?_) rfl (by kernel_rfl) (by kernel_rfl) (by kernel_rfl) (fun _ _ _ h=>h) (by kernel_rfl) (by kernel_rfl) (by kernel_rfl) hT hS (by kernel_rfl) ?_ ?_;rotate_left
          · intro wx hSw;go_split_ands;go_simp;try with_reducible rfl
          simp only [zp];refine ghA 16 _ hT hS ?_;simp only [zp];refine ghA 17 _ hT hS ?_;simp only [zp];refine ghA 18 _ hT hS ?_;simp only [zp];refine fu (i:=19) (v:=?_) rfl (by kernel_rfl) (by kernel_rfl) (by kernel_rfl) (fun _ _ _ h=>h) (by kernel_rfl) (by kernel_rfl) (by kernel_rfl) hT hS (by kernel_rfl) ?_ ?_;rotate_left
          · intro wx hSw;go_split_ands;go_simp;try with_reducible rfl
          simp only [zp];refine ghA 20 _ hT hS ?_;simp only [zp];refine ghA 21 _ hT hS ?_;simp only [zp];refine ghA 22 _ hT hS ?_;simp only [zp];refine fu (i:=23) (v:=?_) rfl (by kernel_rfl) (by kernel_rfl) (by kernel_rfl) (fun _ _ _ h=>h) (by kernel_rfl) (by kernel_rfl) (by kernel_rfl) hT hS (by kernel_rfl) ?_ ?_;rotate_left
          · intro wx hSw;go_split_ands;go_simp;try with_reducible rfl
          simp only [zp];refine zm 24 fun K hK=>?_
          go_wp2_with (go_at_call 166;refine (lV (at' S a) (at' S b) (at' S c') (at' S d) _).mono ?_;rintro e w5 ⟨rfl,q,rfl⟩)
          replace hS:=kS (W4.drewN (1+q)) (by simp);replace hT:=kT (W4.drewN (1+q)) (by simp);refine hK.out _ _ hT (fun _=>hS) ?_;clear hK K;refine ghA 25 _ hT hS ?_;simp only [zp];refine ghA 26 _ hT hS ?_;simp only [zp];refine ghA 27 _ hT hS ?_;simp only [zp];refine ghA 28 _ hT hS ?_;simp only [zp];refine ghA 29 _ hT hS ?_;simp only [zp];refine ghA 30 _ hT hS ?_;simp only [zp];refine zm 31 fun K hK=>?_
          go_simp;replace hT:=kT ((W4.drewN (1+q)).setCell ⟨w.heap.size+1+1+1+1,a,none⟩ (.int .u32 (qr (at' S a) (at' S b) (at' S c') (at' S d)).1)) (by simp [heap_setCell_other,hGX]);refine hK.out _ _ hT zn ?_;clear hK K;refine cQ (i:=32) (v:=?_) rfl (by kernel_rfl) (by kernel_rfl) (by kernel_rfl) (fun _ _ _ h=>h) (by kernel_rfl) hT zn (by kernel_rfl) ?_ ?_;rotate_left
          · intro wx hSw;go_split_ands;go_simp;try with_reducible rfl
          simp only [zp];refine zm 33 fun K hK=>?_
          go_simp;replace hT:=kT (((W4.drewN (1+q)).setCell ⟨w.heap.size+1+1+1+1,a,none⟩ (.int .u32 (qr (at' S a) (at' S b) (at' S c') (at' S d)).1)).setCell ⟨w.heap.size+1+1+1+1,b,none⟩ (.int .u32 (qr (at' S a) (at' S b) (at' S c') (at' S d)).2.1)) (by simp [heap_setCell_other,hGX]);refine hK.out _ _ hT zn ?_;clear hK K;refine cQ (i:=34) (v:=?_) rfl (by kernel_rfl) (by kernel_rfl) (by kernel_rfl) (fun _ _ _ h=>h) (by kernel_rfl) hT zn (by kernel_rfl) ?_ ?_;rotate_left
          · intro wx hSw;go_split_ands;go_simp;try with_reducible rfl
          simp only [zp];refine zm 35 fun K hK=>?_
          go_simp;replace hT:=kT ((((W4.drewN (1+q)).setCell ⟨w.heap.size+1+1+1+1,a,none⟩ (.int .u32 (qr (at' S a) (at' S b) (at' S c') (at' S d)).1)).setCell ⟨w.heap.size+1+1+1+1,b,none⟩ (.int .u32 (qr (at' S a) (at' S b) (at' S c') (at' S d)).2.1)).setCell ⟨w.heap.size+1+1+1+1,c',none⟩ (.int .u32 (qr (at' S a) (at' S b) (at' S c') (at' S d)).2.2.1)) (by simp [heap_setCell_other,hGX]);refine hK.out _ _ hT zn ?_;clear hK K;refine cQ (i:=36) (v:=?_) rfl (by kernel_rfl) (by kernel_rfl) (by kernel_rfl) (fun _ _ _ h=>h) (by kernel_rfl) hT zn (by kernel_rfl) ?_ ?_;rotate_left
          · intro wx hSw;go_split_ands;go_simp;try with_reducible rfl
          simp only [zp];refine zm 37 fun K hK=>?_
          go_simp;replace hT:=kT (((((W4.drewN (1+q)).setCell ⟨w.heap.size+1+1+1+1,a,none⟩ (.int .u32 (qr (at' S a) (at' S b) (at' S c') (at' S d)).1)).setCell ⟨w.heap.size+1+1+1+1,b,none⟩ (.int .u32 (qr (at' S a) (at' S b) (at' S c') (at' S d)).2.1)).setCell ⟨w.heap.size+1+1+1+1,c',none⟩ (.int .u32 (qr (at' S a) (at' S b) (at' S c') (at' S d)).2.2.1)).setCell ⟨w.heap.size+1+1+1+1,d,none⟩ (.int .u32 (qr (at' S a) (at' S b) (at' S c') (at' S d)).2.2.2)) (by simp [heap_setCell_other,hGX]);refine hK.out _ _ hT zn ?_;clear hK K;refine aB (by kernel_rfl) ?_ _;clear hT hS kT kS g0 g1 g2 g3 x0 x1 x2 x3 xf;go_wp2;go_roundw
          case rel=>
           refine ⟨i+1,by omega,by go_num,gn (aD hB4 _) (by omega) _ _ _ _ _ _ _ _,by simp;omega,((((hR4.drewN _).setOther _ _ (by simp)).setOther _ _ (by simp)).setOther _ _ (by simp)).setOther _ _ (by simp),((((hS4.drewN _).setOther _ _ (by simp)).setOther _ _ (by simp)).setOther _ _ (by simp)).setOther _ _ (by simp),?_,((((hT4.drewN _).setOther _ _ (by simp)).setOther _ _ (by simp)).setOther _ _ (by simp)).setOther _ _ (by simp)⟩;rw [HQ.out];exact (hX4.drewN _).qAt a b c' d
          case measure=>simp [intOf];omega
        · obtain rfl:i=80:=by omega
          have e80:((80:Nat):Int)=80:=rfl;rw [e80];clear e80;have hq80:qN B 80=cD B 10:=tr B 10;rw [hq80] at hX
          clear hq80 hT;have hrl:(cD B 10).length=16:=by rw [fk,hBl]
          have HZ:ac (∀p,p<64→(joinK (fH B) 16)[p]?.getD 0=((at' (cD B 10) (p / 4)+at' B (p / 4)) % 4294967296) / 2 ^ (8*(p % 4)) % 256):=⟨fun p hp=>by
           rw [uf _ 16 p (by omega)];unfold fH;rw [nM _ _ _ _ (by omega),if_pos (by omega)]⟩
          have hZl:=aJ (fH B) 16;obtain ⟨Z,hZe⟩:∃Z,joinK (fH B) 16=Z:=⟨_,rfl⟩
          obtain ⟨Y,hYe⟩:∃Y,cD B 10=Y:=⟨_,rfl⟩
          rw [hZe] at HZ hZl HB
          rw [hYe] at HZ hrl hX
          clear hZe hYe;go_upto_region 19 with fail
          have hO0:=aa.new wr .u8 157 (List.replicate 64 0);refine ae (p:=fun y=>Code.wp _ _ _ _ y) (fun W5=>Below w.heap.size w W5∧aa W5 (w.heap.size+1+1) .u8 157 (List.replicate 64 0)∧aa W5 (w.heap.size+1+1+1) .u32 181 B∧aa W5 (w.heap.size+1+1+1+1) .u32 181 Y∧aa W5 wr.heap.size .u8 157 (ki Z 0)) ⟨hB.alloc hB.size _,hR.alloc _,hSt.alloc _,hX.alloc _,by rw [tG,hZl];exact hO0⟩ ?_;clear hO0 hB hR hSt hX;rintro W5 ⟨hB5,hR5,hS5,hX5,hO5⟩;obtain ⟨O,hOe⟩:∃O,wr.heap.size=O:=⟨_,rfl⟩
          rw [hOe] at hO5 hs ⊢
          clear hOe
          go_wp2_with fail
          go_loopw [15] (fun v wx=>∃p:Nat,p≤64∧v=.int .i64 p∧Below w.heap.size w wx∧aa wx (w.heap.size+1+1) .u8 157 (List.replicate 64 0)∧aa wx (w.heap.size+1+1+1) .u32 181 B∧aa wx (w.heap.size+1+1+1+1) .u32 181 Y∧aa wx O .u8 157 (ki Z p))
           (fun v _=>64 - (intOf v).toNat)
          case atStart=>exact ⟨0,by omega,rfl,hB5,hR5,hS5,hX5,hO5⟩
          case round=>
           clear hB5 hR5 hS5 hX5 hO5;obtain ⟨p,hp,rfl,hB,hR,hSt,hX,hO⟩:=hrel
           by_cases hlt4:p<64
           · obtain ⟨q,hqe⟩:∃q,p / 4=q:=⟨_,rfl⟩
             obtain ⟨m,hme⟩:∃m,8*(p % 4)=m:=⟨_,rfl⟩
             obtain ⟨r,hre⟩:∃r,p % 4=r:=⟨_,rfl⟩
             have cX:=hX.at q (by omega)
             have cS:=hSt.at q (by omega)
             have cO:=hO.cell p (by rw [pw _ _ (by omega)];omega);have fO:=hO.frozen p;have HU:ac ((ki Z p).set p (((at' Y (p / 4)+at' B (p / 4)) % 4294967296) / 2 ^ (8*(p % 4)) % 256)=ki Z (p+1)):=⟨by
              rw [←HZ.out p hlt4];exact uZ Z p (by omega)⟩
             rw [hqe,hme] at HU
             obtain ⟨yv,hyv⟩:∃v,at' Y q=v:=⟨_,rfl⟩
             obtain ⟨bv,hbv⟩:∃v,at' B q=v:=⟨_,rfl⟩
             rw [hyv,hbv] at HU
             have q1:(p:Int) / 4=(q:Int):=by omega
             have q2:(q:Int)<16:=by omega
             have r1:(p:Int) % 4=(r:Int):=by omega
             have r2:(8:Int)*(r:Int)=(m:Int):=by omega
             have r3:IntKind.i64.wrap (m:Int)=(m:Int):=by rw [IntKind.wrap_i64];omega
             have r4:(m:Int)<32:=by omega
             have r5:(p:Int).tmod 4=(r:Int):=by rw [Int.tmod_eq_emod_of_nonneg (by omega)];exact r1
             have r6:IntKind.i64.wrap (q:Int)=(q:Int):=by rw [IntKind.wrap_i64];omega
             have r7:IntKind.u32.wrap (yv+bv)=(yv+bv) % 4294967296:=by simp [IntKind.wrap,IntKind.bits,IntKind.signed]
             have r8:IntKind.u8.wrap ((yv+bv) % 4294967296 / 2 ^ m)=(yv+bv) % 4294967296 / 2 ^ m % 256:=by simp [IntKind.wrap,IntKind.bits,IntKind.signed]
             rw [hyv] at cX
             rw [hbv] at cS
             have pi:(p:Int)<64:=by omega
             have nO1:¬O=w.heap.size+1+1+1:=by omega
             have nO2:¬O=w.heap.size+1+1+1+1:=by omega
             clear hyv hbv hqe hme hre;go_upto_region 22 with fail
             refine ag (fun w'=>w'.cell? ⟨w.heap.size+1+1+1+1,q,none⟩=some (.int .u32 yv)∧w'.cell? ⟨w.heap.size+1+1+1,q,none⟩=some (.int .u32 bv)) 16 (by kernel_rfl) ?_;have hS:(fun w':World=>w'.cell? ⟨w.heap.size+1+1+1+1,q,none⟩=some (.int .u32 yv)∧w'.cell? ⟨w.heap.size+1+1+1,q,none⟩=some (.int .u32 bv)) wr.drew:=⟨cX,cS⟩
             refine gaA 0 _ hS ?_;simp only [zp];refine gaA 1 _ hS ?_;simp only [zp];refine ga 2 (.int .i64 (q:Int)) hS ?_ ?_
             · intro _;go_simp
             simp only [zp];refine gaA 3 _ hS ?_;simp only [zp];refine grA 4 _ hS ?_;simp only [zp];refine gaA 5 _ hS ?_;simp only [zp];refine ga 6 (.int .i64 (q:Int)) hS ?_ ?_
             · intro _;go_simp
             simp only [zp];refine gaA 7 _ hS ?_;simp only [zp];refine grA 8 _ hS ?_;simp only [zp];refine ga 9 (.int .u32 ((yv+bv) % 4294967296)) hS ?_ ?_
             · intro _;go_simp
             simp only [zp];refine gaA 10 _ hS ?_;simp only [zp];refine ga 11 (.int .i64 (r:Int)) hS ?_ ?_
             · intro _;go_simp
             simp only [zp];refine ga 12 (.int .i64 (m:Int)) hS ?_ ?_
             · intro _;go_simp
             simp only [zp];refine ga 13 (.int .u32 ((yv+bv) % 4294967296 / 2 ^ m)) hS ?_ ?_
             · intro _;go_simp
             simp only [zp];refine ga 14 (.int .u8 ((yv+bv) % 4294967296 / 2 ^ m % 256)) hS ?_ ?_
             · intro _;go_simp
             simp only [zp];refine gaA 15 _ hS ?_;simp only [zp];refine zw 16 fun K hK=>?_
             go_simp;refine hK.out _ _ zn ?_;clear hK K;refine ah (by kernel_rfl) ?_ _;go_wp2;go_roundw
             case rel=>
              refine ⟨p+1,by omega,by go_num,(hB.setCell (by simp;omega) _).drew,(hR.setOther _ _ (by simp;omega)).drew,(hSt.setOther _ _ (by simp;omega)).drew,(hX.setOther _ _ (by simp;omega)).drew,?_⟩;rw [←HU.out];exact (hO.set p _).drew
             case measure=>simp [intOf];omega
           · obtain rfl:p=64:=by omega
             have hO':aa wr O .u8 157 Z:=by
              have:=ww Z;rw [hZl] at this
              rw [←this];exact hO
             clear hO
             go_wp2_with (first
              |(refine am rfl 157 _ rfl _ rfl hO' Tryz.underlying157 dS hZl ?_)
              |(refine aj rfl 157 _ _ rfl _ rfl rfl hR (by rw [hZl];exact dS) (by simp [hZl]) ?_))
             refine bodyPost_ret (ak (Tryz.results125) _ rfl (hR.setRow _) Tryz.underlying157 dS hZl) rfl ⟨by rw [HB.out],?_⟩;exact below_setRow hB (by omega) _
end Go.Proofs.YtbdhfbglagdiaaaGreatDoor
