/- Pc Pd Pv -/
import Derived.Test.YtbdhfbglagdiaaaGreatDoorG10
namespace Go.Proofs.YtbdhfbglagdiaaaGreatDoor
open Go.RowKit
set_option maxRecDepth 20000
set_option maxHeartbeats 4000000
set_option linter.unusedSimpArgs false
theorem vB:(Tryz.prog.info? 165).map (·.size)=some 1:=by kernel_rfl
theorem vv {l:List Int} (h:l.length=5):∃a b c d e,l=[a,b,c,d,e]:=by
 match l,h with
 |[a,b,c,d,e],_=>exact ⟨a,b,c,d,e,rfl⟩
theorem pW {l:List Int} (h:5≤l.length):∃a b c d e r,l=a::b::c::d::e::r:=by
 match l,h with
 |a::b::c::d::e::r,_=>exact ⟨a,b,c,d,e,r,rfl⟩
def jz (p:List Int) (x y:Int) (i j:Nat):List Int:=
 if i+j<5 then p.set (i+j) ((p[i+j]?.getD 0+x*y % 18446744073709551616) % 18446744073709551616)
 else p.set (i+j - 5) ((p[i+j - 5]?.getD 0+5*x % 18446744073709551616*y % 18446744073709551616) % 18446744073709551616)
theorem nX (p:List Int) (x y:Int) (i j:Nat):(jz p x y i j).length=p.length:=by unfold jz;split<;>simp
def eN (x:Int) (m:List Int) (i:Nat) (p:List Int):Nat→List Int
 |0=>p
 |j+1=>jz (eN x m i p j) x (m[j]?.getD 0) i j
theorem jc (x:Int) (m:List Int) (i:Nat) (p:List Int) (j:Nat):(eN x m i p j).length=p.length:=by
 induction j with
 |zero=>rfl
 |succ j ih=>simp only [eN,nX,ih]
def eP (L m:List Int):Nat→List Int
 |0=>List.replicate 5 0
 |i+1=>eN (L[i]?.getD 0) m i (eP L m i) 5
theorem fT (L m:List Int) (i:Nat):(eP L m i).length=5:=by
 induction i with
 |zero=>rfl
 |succ i ih=>simp only [eP,jc,ih]
def fK (L m:List Int):List Int:=ik (eP L m 5++L.drop 5)
theorem uv (g:Nat) (t:TypeId) (L m:List Int) (w:World) (h:aa w g .u64 t L) (hl:5≤L.length) (hm:m.length=5):
    Calls Tryz.prog 174 #[.pointer (some ⟨g,0,none⟩),.agg (row .u64 m)] w fun e w'=>(∃r,e=.returned r)∧aa w' g .u64 t (fK L m)∧w.grownBy w' (some g):=by
 have hgl:=h.lt;have hix:∀(j:Nat),j<5→∀wx,(Instr.index 190 (.agg (row .u64 m)) (.int .i64 j)).run Tryz.prog wx=.ok (.int .u64 (m[j]?.getD 0)) wx:=fun j hj wx=>ce wx 190 165 5 .u64 m j Tryz.underlying190 Tryz.underlying165 vB hm hj
 go_enter Tryz.func174,Tryz.ntmps174;go_upto_region 2 with fail
 refine ae (p:=fun y=>Code.wp _ _ _ _ y) (fun W0=>w.grownBy W0 (some g)∧aa W0 g .u64 t L∧aa W0 w.heap.size .u64 190 m∧aa W0 (w.heap.size+1) .u64 190 (List.replicate 5 0)) ⟨(World.grownBy_alloc _ _ _).trans (World.grownBy_alloc _ _ _),(h.alloc _).alloc _,(aa.new w .u64 _ m).alloc _,?_⟩ ?_
 · have:=aa.new (w.alloc (.cells (row .u64 m) 190)) .u64 190 (List.replicate 5 0)
   rw [World.size_alloc] at this
   exact this
 rintro W0 ⟨hG0,hL0,hM0,hP0⟩
 go_wp2_with fail
 go_loopw [11] (fun q wr=>∃i:Nat,i≤5∧q=.int .i64 i∧w.grownBy wr (some g)∧aa wr g .u64 t L∧aa wr w.heap.size .u64 190 m∧aa wr (w.heap.size+1) .u64 190 (eP L m i)) (fun q _=>5 - (intOf q).toNat)
 case atStart=>exact ⟨0,by omega,rfl,hG0,hL0,hM0,hP0⟩
 case round=>
  clear hG0 hL0 hM0 hP0;obtain ⟨i,hi,rfl,hG,hL,hM,hP⟩:=hrel
  by_cases hlt:i<5
  · have HO:ac (eP L m (i+1)=eN (L[i]?.getD 0) m i (eP L m i) 5):=⟨rfl⟩
    have hPl:=fT L m i;obtain ⟨P,hPe⟩:∃q,eP L m i=q:=⟨_,rfl⟩
    rw [hPe] at hP HO hPl
    have hL1:=hL.drew;have c1:=hL1.cell i (by omega);obtain ⟨x,hx⟩:∃q,L[i]?.getD 0=q:=⟨_,rfl⟩
    rw [hx] at c1 HO
    have hi0:(0:Int)≤(i:Int):=by omega
    have hi5:(i:Int)<5:=by omega
    clear hPe hx;go_upto_region 4 with fail
    refine ag (fun w'=>w'.cell? ⟨g,i,none⟩=some (.int .u64 x)) 5 (by kernel_rfl) ?_;have hS:wr.drew.cell? ⟨g,i,none⟩=some (.int .u64 x):=c1;refine gaA 0 _ hS ?_;simp only [zp];refine gaA 1 _ hS ?_;simp only [zp];refine gaA 2 _ hS ?_;simp only [zp];refine grA 3 _ hS ?_;simp only [zp];refine gaA 4 _ hS ?_;simp only [zp];refine zw 5 fun K hK=>?_
    go_simp;refine hK.out _ _ zn ?_;clear hK K;refine ah (by kernel_rfl) ?_ _;have hM1:=hM.drew;have hP1:=hP.drew;have hG1:=grown_drew hG;clear hS c1 hL hM hP hG
    go_wp2_with (refine am rfl 190 _ rfl _ rfl hM1 Tryz.underlying190 pu hm ?_)
    go_loopw [18] (fun q wq=>∃j:Nat,j≤5∧q=.int .i64 j∧w.grownBy wq (some g)∧aa wq g .u64 t L∧aa wq w.heap.size .u64 190 m∧aa wq (w.heap.size+1) .u64 190 (eN x m i P j)) (fun q _=>5 - (intOf q).toNat)
    case atStart=>exact ⟨0,by omega,rfl,hG1,hL1,hM1,hP1⟩
    case round=>
     clear hL1 hM1 hP1 hG1;obtain ⟨j,hj,rfl,hG,hL,hM,hP⟩:=hrel
     by_cases hjl:j<5
     · have hixj:=hix j hjl
       have HI:ac (eN x m i P (j+1)=jz (eN x m i P j) x (m[j]?.getD 0) i j):=⟨rfl⟩
       have hIl:=jc x m i P j;obtain ⟨I,hIe⟩:∃q,eN x m i P j=q:=⟨_,rfl⟩
       rw [hIe] at hP HI hIl
       obtain ⟨y,hy⟩:∃q,m[j]?.getD 0=q:=⟨_,rfl⟩
       rw [hy] at hixj HI
       have hj0:(0:Int)≤(j:Int):=by omega
       have hj5:(j:Int)<5:=by omega
       clear hIe hy hix
       by_cases hij:i+j<5
       · have hs:jz I x y i j=I.set (i+j) ((I[i+j]?.getD 0+x*y % 18446744073709551616) % 18446744073709551616):=by unfold jz;rw [if_pos hij]
         have c2:=hP.cell (i+j) (by omega);have f2:=hP.frozen (i+j);obtain ⟨q,hq⟩:∃q,I[i+j]?.getD 0=q:=⟨_,rfl⟩
         rw [hq] at c2 hs
         have HS:ac (eN x m i P (j+1)=I.set (i+j) ((q+x*y % 18446744073709551616) % 18446744073709551616)):=⟨by rw [HI.out,hs]⟩
         have ha0:(0:Int)≤(i:Int)+(j:Int):=by omega
         have ha5:(i:Int)+(j:Int)<5:=by omega
         have htn:((i:Int)+(j:Int)).toNat=i+j:=by omega
         clear hq hs HI;go_wp2;go_roundw
         case rel=>exact ⟨j+1,by omega,by go_num,gp hG (by omega) _ _,hL.setOther _ _ (by simp;omega),hM.setOther _ _ (by simp),by rw [HS.out];exact hP.set (i+j) _⟩
         case measure=>simp [intOf];omega
       · have hs:jz I x y i j=I.set (i+j - 5) ((I[i+j - 5]?.getD 0+5*x % 18446744073709551616*y % 18446744073709551616) % 18446744073709551616):=by unfold jz;rw [if_neg hij]
         have c2:=hP.cell (i+j - 5) (by omega);have f2:=hP.frozen (i+j - 5);obtain ⟨q,hq⟩:∃q,I[i+j - 5]?.getD 0=q:=⟨_,rfl⟩
         rw [hq] at c2 hs
         have HS:ac (eN x m i P (j+1)=I.set (i+j - 5) ((q+5*x % 18446744073709551616*y % 18446744073709551616) % 18446744073709551616)):=⟨by rw [HI.out,hs]⟩
         have ha5:¬((i:Int)+(j:Int)<5):=by omega
         obtain ⟨a,ha⟩:∃a,i+j - 5=a:=⟨_,rfl⟩
         rw [ha] at c2 f2 HS
         have hai:(i:Int)+(j:Int) - 5=(a:Int):=by omega
         have ha6:(a:Int)<5:=by omega
         clear hq hs HI ha;go_wp2;go_roundw
         case rel=>exact ⟨j+1,by omega,by go_num,gp hG (by omega) _ _,hL.setOther _ _ (by simp;omega),hM.setOther _ _ (by simp),by rw [HS.out];exact hP.set a _⟩
         case measure=>simp [intOf];omega
     · obtain rfl:j=5:=by omega
       go_wp2;go_roundw
       case rel=>exact ⟨i+1,by omega,by go_num,hG,hL,hM,by rw [HO.out];exact hP⟩
       case measure=>simp [intOf];omega
  · obtain rfl:i=5:=by omega
    have hPl:=fT L m 5;have HT:ac (fK L m=ik (eP L m 5++L.drop 5)):=⟨rfl⟩
    obtain ⟨p0,p1,p2,p3,p4,hp⟩:=vv hPl;rw [hp] at hP HT
    clear hp hPl hix hM;obtain ⟨l0,l1,l2,l3,l4,R,rfl⟩:=pW hl;have a0:=hP.cell 0 (by simp);have a1:=hP.cell 1 (by simp);have a2:=hP.cell 2 (by simp);have a3:=hP.cell 3 (by simp);have a4:=hP.cell 4 (by simp);have b0:=hL.cell 0 (by simp);have b1:=hL.cell 1 (by simp);have b2:=hL.cell 2 (by simp);have b3:=hL.cell 3 (by simp);have b4:=hL.cell 4 (by simp);have ff:=hL.frozen;simp only [List.getElem?_cons_zero,List.getElem?_cons_succ,Option.getD_some] at a0 a1 a2 a3 a4 b0 b1 b2 b3 b4
    have hfin:=((((hL.set 0 p0).set 1 p1).set 2 p2).set 3 p3).set 4 p4;simp only [sZ,sS] at hfin
    have hfo:=vR g t _ _ hfin (by simp);have HT2:ac (fK (l0::l1::l2::l3::l4::R) m=ik (p0::p1::p2::p3::p4::R)):=⟨by rw [HT.out];rfl⟩
    clear HT
    go_wp2_with (go_at_call 184;refine hfo.mono ?_;rintro e w2 ⟨⟨r,rfl⟩,h2,g2⟩)
    go_end0
    exact ⟨⟨_,rfl⟩,by rw [HT2.out];exact h2,(grown_set (grown_set (grown_set (grown_set (grown_set hG _ _) _ _) _ _) _ _) _ _).trans g2⟩
def selK (L S:List Int) (ch:Int):Nat→List Int
 |0=>L
 |i+1=>(selK L S ch i).set i (bits .or .u64 (bits .andNot .u64 ((selK L S ch i)[i]?.getD 0) ch) (bits .and .u64 (S[i]?.getD 0) ch))
theorem kK (L S:List Int) (ch:Int) (i:Nat):(selK L S ch i).length=L.length:=by
 induction i with
 |zero=>rfl
 |succ i ih=>simp [selK,ih]
def lessL (L:List Int):List Int:=carryK ((L.take 5).set 0 ((L[0]?.getD 0+5) % 18446744073709551616)) 4
theorem ox (L:List Int) (h:5≤L.length):(lessL L).length=5:=by
 unfold lessL;rw [carryK_length,List.length_set,List.length_take];omega
def eF (L:List Int):List Int:=
 selK L ((lessL L).set 4 (bits .and .u64 ((lessL L)[4]?.getD 0) 67108863)) (IntKind.u64.wrap (-((lessL L)[4]?.getD 0 / 67108864))) 5
theorem qH (g:Nat) (t:TypeId) (L:List Int) (w:World) (h:aa w g .u64 t L) (hl:5≤L.length):
    Calls Tryz.prog 175 #[.pointer (some ⟨g,0,none⟩)] w fun e w'=>(∃r,e=.returned r)∧aa w' g .u64 t (eF L)∧w.grownBy w' (some g):=by
 have hgl:=h.lt;have hST:ac (eF L=selK L ((lessL L).set 4 (bits .and .u64 ((lessL L)[4]?.getD 0) 67108863)) (IntKind.u64.wrap (-((lessL L)[4]?.getD 0 / 67108864))) 5):=⟨rfl⟩
 have hLl:=ox L hl;have hLe:ac (lessL L=carryK ((L.take 5).set 0 ((L[0]?.getD 0+5) % 18446744073709551616)) 4):=⟨rfl⟩
 obtain ⟨l0,l1,l2,l3,l4,R,hLL⟩:=pW hl;have b0:=h.cell 0 (by omega);have b1:=h.cell 1 (by omega);have b2:=h.cell 2 (by omega);have b3:=h.cell 3 (by omega);have b4:=h.cell 4 (by omega);have e0:(L.take 5).set 0 ((L[0]?.getD 0+5) % 18446744073709551616)=[(l0+5) % 18446744073709551616,l1,l2,l3,l4]:=by rw [hLL];rfl
 rw [e0] at hLe
 rw [hLL] at b0 b1 b2 b3 b4
 simp only [List.getElem?_cons_zero,List.getElem?_cons_succ,Option.getD_some] at b0 b1 b2 b3 b4
 clear e0 hLL;have hN:=aa.new w .u64 190 (List.replicate 5 0);have hN2:aa ((w.alloc (.cells (row .u64 (List.replicate 5 0)) 190)).setRow w.heap.size (row .u64 [l0,l1,l2,l3,l4])) w.heap.size .u64 190 [l0,l1,l2,l3,l4]:=hN.setRow _;have hca:=fun (wx:World) (hx:aa wx w.heap.size .u64 190 [(l0+5) % 18446744073709551616,l1,l2,l3,l4])=>j6 w.heap.size 190 _ wx hx (by simp)
 rw [←hLe.out] at hca
 obtain ⟨S,hS⟩:∃q,lessL L=q:=⟨_,rfl⟩
 rw [hS] at hca hLl hST
 have hcu:=fun (wx:World) (hx:aa wx w.heap.size .u64 190 S)=>sp w.heap.size 190 S wx hx (by omega)
 obtain ⟨S2,hS2⟩:∃q,S.set 4 (bits .and .u64 (S[4]?.getD 0) 67108863)=q:=⟨_,rfl⟩
 have hS2l:S2.length=5:=by rw [←hS2,List.length_set,hLl]
 rw [hS2] at hcu hST
 obtain ⟨ov,hov⟩:∃q,S[4]?.getD 0 / 67108864=q:=⟨_,rfl⟩
 rw [hov] at hcu hST
 clear hS hLe hS2 hov;go_enter Tryz.func175,Tryz.ntmps175;go_upto_region 1 with (refine aj rfl 190 _ _ rfl _ rfl (k:=.u64) (l:=[l0,l1,l2,l3,l4]) rfl hN pu rfl ?_)
 refine ae (p:=fun y=>Code.wp _ _ _ _ y) (fun W0=>w.grownBy W0 (some g)∧aa W0 g .u64 t L∧aa W0 w.heap.size .u64 190 [l0,l1,l2,l3,l4]) ⟨?_,(h.alloc _).setRowOther _ (by omega),hN2⟩ ?_
 · exact ⟨rfl,rfl,rfl,by simp,fun k hk _=>by rw [setRow_other _ _ _ _ (by omega),Below.heap_alloc w _ k hk]⟩
 clear hN hN2 b0 b1 b2 b3 b4;rintro W0 ⟨hG0,hL0,hS0⟩;simp only [Act.put];have c0:=hS0.cell 0 (by simp);have f0:=hS0.frozen 0;simp only [List.getElem?_cons_zero,Option.getD_some] at c0
 go_upto_region 2 with fail
 refine ae (p:=fun y=>Code.wp _ _ _ _ y) (fun W1=>w.grownBy W1 (some g)∧aa W1 g .u64 t L∧aa W1 w.heap.size .u64 190 [(l0+5) % 18446744073709551616,l1,l2,l3,l4]) ⟨gp hG0 (Nat.le_refl _) _ _,hL0.setOther _ _ (by simp;omega),hS0.set 0 _⟩ ?_;clear c0 f0 hG0 hL0 hS0;rintro W1 ⟨hG1,hL1,hS1⟩;go_upto_region 4 with (first
  |(go_at_call 176;refine (hca _ hS1).mono ?_;rintro e w2 ⟨⟨r,rfl⟩,h2,g2⟩)
  |(go_at_call 185;refine (hcu _ h2).mono ?_;rintro e w3 ⟨rfl,h3,g3⟩))
 have hg23:=g2.trans g3;have hL3:aa w3 g .u64 t L:=by
  have hlt:=hL1.lt;unfold aa at hL1 ⊢
  rw [hg23.block g hlt (by simp;omega)];exact hL1
 have hG3:w.grownBy w3 (some g):=hG1.andThen hg23 (fun j hj=>by cases hj;exact .inl (Nat.le_refl _));clear hca hcu g2 g3 hg23 h2 hL1 hG1 hS1;have HST:ac (eF L=selK L S2 (IntKind.u64.wrap (-ov)) 5):=hST;clear hST;obtain ⟨ch,hch⟩:∃q,IntKind.u64.wrap (-ov)=q:=⟨_,rfl⟩
 rw [hch] at HST
 go_wp2_with fail
 rw [hch]
 go_loopw [15] (fun q wr=>∃k:Nat,k≤5∧q=.int .i64 k∧w.grownBy wr (some g)∧aa wr g .u64 t (selK L S2 ch k)∧aa wr w.heap.size .u64 190 S2) (fun q _=>5 - (intOf q).toNat)
 case atStart=>exact ⟨0,by omega,rfl,hG3,hL3,h3⟩
 case round=>
  clear hG3 hL3 h3;obtain ⟨k,hk,rfl,hG,hA,hB⟩:=hrel
  by_cases hlt:k<5
  · have HS:ac (selK L S2 ch (k+1)=(selK L S2 ch k).set k (bits .or .u64 (bits .andNot .u64 ((selK L S2 ch k)[k]?.getD 0) ch) (bits .and .u64 (S2[k]?.getD 0) ch))):=⟨rfl⟩
    have hAl:=kK L S2 ch k;obtain ⟨A,hAe⟩:∃q,selK L S2 ch k=q:=⟨_,rfl⟩
    rw [hAe] at hA HS hAl
    have hA1:=hA.drew;have hB1:=hB.drew;have c1:=hA1.cell k (by omega);have c2:=hB1.cell k (by omega);have f1:=hA1.frozen k;obtain ⟨x,hx⟩:∃q,A[k]?.getD 0=q:=⟨_,rfl⟩
    obtain ⟨y,hy⟩:∃q,S2[k]?.getD 0=q:=⟨_,rfl⟩
    rw [hx] at c1 HS
    rw [hy] at c2 HS
    have hk0:(0:Int)≤(k:Int):=by omega
    have hk5:(k:Int)<5:=by omega
    clear hAe hx hy hch;go_upto_region 7 with fail
    refine ag (fun w'=>w'.cell? ⟨g,k,none⟩=some (.int .u64 x)∧w'.cell? ⟨w.heap.size,k,none⟩=some (.int .u64 y)) 17 (by kernel_rfl) ?_;have hS:=And.intro c1 c2;refine gaA 0 _ hS ?_;simp only [zp];refine gaA 1 _ hS ?_;simp only [zp];refine gaA 2 _ hS ?_;simp only [zp];refine gaA 3 _ hS ?_;simp only [zp];refine gaA 4 _ hS ?_;simp only [zp];refine gaA 5 _ hS ?_;simp only [zp];refine gaA 7 _ hS ?_;simp only [zp];refine gaA 9 _ hS ?_;simp only [zp];refine gaA 10 _ hS ?_;simp only [zp];refine gaA 12 _ hS ?_;simp only [zp];refine gaA 15 _ hS ?_;simp only [zp];refine grA 6 _ hS ?_;simp only [zp];refine grA 11 _ hS ?_;simp only [zp];refine gaA 8 _ hS ?_;simp only [zp];refine gaA 13 _ hS ?_;simp only [zp];refine gaA 14 _ hS ?_;simp only [zp];refine gaA 16 _ hS ?_;simp only [zp];refine zw 17 fun K hK=>?_
    go_simp;refine hK.out _ _ zn ?_;clear hK K;refine ah (by kernel_rfl) ?_ _;go_wp2;go_roundw
    case rel=>exact ⟨k+1,by omega,by go_num,grown_set (grown_drew hG) _ _,by rw [HS.out];exact hA1.set k _,hB1.setOther _ _ (by simp;omega)⟩
    case measure=>simp [intOf];omega
  · obtain rfl:k=5:=by omega
    go_wp2
    go_end0
    exact ⟨⟨_,rfl⟩,by rw [HST.out];exact hA,hG⟩
def k7 (lo hi:Int):Nat→List Int
 |0=>List.replicate 16 0
 |i+1=>((k7 lo hi i).set i (lo / 2 ^ (8*i) % 256)).set (8+i) (hi / 2 ^ (8*i) % 256)
theorem kO (lo hi:Int) (i:Nat):(k7 lo hi i).length=16:=by
 induction i with
 |zero=>rfl
 |succ i ih=>simp [k7,ih]
def fF (L:List Int):List Int:=
 k7 (bits .or .u64 (bits .or .u64 (L[0]?.getD 0) (L[1]?.getD 0*67108864 % 18446744073709551616)) (L[2]?.getD 0*4503599627370496 % 18446744073709551616))
  (bits .or .u64 (bits .or .u64 (L[2]?.getD 0 / 4096) (L[3]?.getD 0*16384 % 18446744073709551616)) (L[4]?.getD 0*1099511627776 % 18446744073709551616)) 8
theorem gX (L:List Int):(fF L).length=16:=kO _ _ _
theorem eD:(Tryz.prog.info? 120).map (·.size)=some 16:=by kernel_rfl
theorem sa (g:Nat) (t:TypeId) (L:List Int) (w:World) (h:aa w g .u64 t L) (hl:5≤L.length):
    Calls Tryz.prog 177 #[.pointer (some ⟨g,0,none⟩)] w fun e w'=>e=.returned (.agg (row .u8 (fF L)))∧Below w.heap.size w w':=by
 have HL:ac (fF L=k7 (bits .or .u64 (bits .or .u64 (L[0]?.getD 0) (IntKind.u64.wrap (L[1]?.getD 0*67108864))) (IntKind.u64.wrap (L[2]?.getD 0*4503599627370496)))
  (bits .or .u64 (bits .or .u64 (L[2]?.getD 0 / 4096) (IntKind.u64.wrap (L[3]?.getD 0*16384))) (IntKind.u64.wrap (L[4]?.getD 0*1099511627776))) 8):=⟨by unfold fF;simp only [IntKind.wrap_u64]⟩
 have hll:=gX L;have b0:=(h.alloc (.cells (row .u8 (List.replicate 16 0)) 120)).cell 0 (by omega);have b1:=(h.alloc (.cells (row .u8 (List.replicate 16 0)) 120)).cell 1 (by omega);have b2:=(h.alloc (.cells (row .u8 (List.replicate 16 0)) 120)).cell 2 (by omega);have b3:=(h.alloc (.cells (row .u8 (List.replicate 16 0)) 120)).cell 3 (by omega);have b4:=(h.alloc (.cells (row .u8 (List.replicate 16 0)) 120)).cell 4 (by omega);obtain ⟨l0,h0⟩:∃q,L[0]?.getD 0=q:=⟨_,rfl⟩
 obtain ⟨l1,h1⟩:∃q,L[1]?.getD 0=q:=⟨_,rfl⟩
 obtain ⟨l2,h2⟩:∃q,L[2]?.getD 0=q:=⟨_,rfl⟩
 obtain ⟨l3,h3⟩:∃q,L[3]?.getD 0=q:=⟨_,rfl⟩
 obtain ⟨l4,h4⟩:∃q,L[4]?.getD 0=q:=⟨_,rfl⟩
 rw [h0] at b0 HL
 rw [h1] at b1 HL
 rw [h2] at b2 HL
 rw [h3] at b3 HL
 rw [h4] at b4 HL
 clear h0 h1 h2 h3 h4;go_enter Tryz.func177,Tryz.ntmps177;go_upto_region 1 with fail
 refine ae (p:=fun y=>Code.wp _ _ _ _ y) (fun W0=>Below w.heap.size w W0∧W0.heap.size=w.heap.size+1∧aa W0 w.heap.size .u8 120 (List.replicate 16 0)∧W0.cell? ⟨g,0,none⟩=some (.int .u64 l0)∧W0.cell? ⟨g,1,none⟩=some (.int .u64 l1)∧W0.cell? ⟨g,2,none⟩=some (.int .u64 l2)∧W0.cell? ⟨g,3,none⟩=some (.int .u64 l3)∧W0.cell? ⟨g,4,none⟩=some (.int .u64 l4)) ⟨(Below.refl _ _).alloc (Nat.le_refl _) _,by simp,aa.new w .u8 120 (List.replicate 16 0),b0,b1,b2,b3,b4⟩ ?_;clear b0 b1 b2 b3 b4;rintro W0 ⟨hB0,hs0,hR0,b0,b1,b2,b3,b4⟩
 go_quiet ((fail))
 go_upto_region 2 with fail
 refine ae (p:=fun y=>Code.wp _ _ _ _ y) (fun W1=>Below w.heap.size w W1∧W1.heap.size=w.heap.size+1∧aa W1 w.heap.size .u8 120 (List.replicate 16 0)∧W1.cell? ⟨g,2,none⟩=some (.int .u64 l2)∧W1.cell? ⟨g,3,none⟩=some (.int .u64 l3)∧W1.cell? ⟨g,4,none⟩=some (.int .u64 l4)) ⟨aD hB0 nq,by simpa using hs0,hR0.drewN nq,by simpa using b2,by simpa using b3,by simpa using b4⟩ ?_;clear b0 b1 b2 b3 b4 hB0 hs0 hR0;rintro W1 ⟨hB0,hs0,hR0,b2,b3,b4⟩
 go_quiet ((fail))
 obtain ⟨lo,hlo⟩:∃q,bits .or .u64 (bits .or .u64 l0 (IntKind.u64.wrap (l1*67108864))) (IntKind.u64.wrap (l2*4503599627370496))=q:=⟨_,rfl⟩
 obtain ⟨hi,hhi⟩:∃q,bits .or .u64 (bits .or .u64 (l2 / 4096) (IntKind.u64.wrap (l3*16384))) (IntKind.u64.wrap (l4*1099511627776))=q:=⟨_,rfl⟩
 rw [hlo,hhi] at HL
 go_upto_region 3 with fail
 rw [hlo,hhi];clear hlo hhi b2 b3 b4;have hN:aa ((W1.drewN nq).alloc (.cells (row .u8 (List.replicate 16 0)) 120)) (w.heap.size+1) .u8 120 (List.replicate 16 0):=by
  have:=aa.new (W1.drewN nq) .u8 120 (List.replicate 16 0);rw [l8,hs0] at this
  exact this
 go_upto_region 4 with fail
 refine ae (p:=fun y=>Code.wp _ _ _ _ y) (fun W2=>Below w.heap.size w W2∧aa W2 w.heap.size .u8 120 (List.replicate 16 0)∧aa W2 (w.heap.size+1) .u8 120 (List.replicate 16 0)) ⟨(aD hB0 nq).alloc (by simp;omega) _,(hR0.drewN nq).alloc _,hN⟩ ?_;clear hN hB0 hs0 hR0;rintro W2 ⟨hB2,hR2,hT2⟩
 go_wp2_with fail
 go_loopw [40] (fun q wr=>∃k:Nat,k≤8∧q=.int .i64 k∧Below w.heap.size w wr∧aa wr w.heap.size .u8 120 (List.replicate 16 0)∧aa wr (w.heap.size+1) .u8 120 (k7 lo hi k)) (fun q _=>8 - (intOf q).toNat)
 case atStart=>exact ⟨0,by omega,rfl,hB2,hR2,hT2⟩
 case round=>
  clear hB2 hR2 hT2;obtain ⟨k,hk,rfl,hB,hR,hT⟩:=hrel
  by_cases hlt:k<8
  · have HS:ac (k7 lo hi (k+1)=((k7 lo hi k).set k (lo / 2 ^ (8*k) % 256)).set (8+k) (hi / 2 ^ (8*k) % 256)):=⟨rfl⟩
    have hTl:=kO lo hi k;obtain ⟨A,hA⟩:∃q,k7 lo hi k=q:=⟨_,rfl⟩
    rw [hA] at hT HS hTl
    have hT1:=hT.drew;have c1:=hT1.cell k (by omega);have c2:=hT1.cell (8+k) (by omega);have f1:=hT1.frozen k;have f2:=hT1.frozen (8+k);have d1:=hT.cell k (by omega);have d2:=hT.cell (8+k) (by omega);have e1:=hT.frozen k;have e2:=hT.frozen (8+k);have hkc:k=0∨k=1∨k=2∨k=3∨k=4∨k=5∨k=6∨k=7:=by omega
    clear hA hlt hk;have wr0:IntKind.i64.wrap 0=0:=by decide
    have wr8:IntKind.i64.wrap 8=8:=by decide
    have wr9:IntKind.i64.wrap 9=9:=by decide
    have wr10:IntKind.i64.wrap 10=10:=by decide
    have wr11:IntKind.i64.wrap 11=11:=by decide
    have wr12:IntKind.i64.wrap 12=12:=by decide
    have wr13:IntKind.i64.wrap 13=13:=by decide
    have wr14:IntKind.i64.wrap 14=14:=by decide
    have wr15:IntKind.i64.wrap 15=15:=by decide
    have wr16:IntKind.i64.wrap 16=16:=by decide
    have wr24:IntKind.i64.wrap 24=24:=by decide
    have wr32:IntKind.i64.wrap 32=32:=by decide
    have wr40:IntKind.i64.wrap 40=40:=by decide
    have wr48:IntKind.i64.wrap 48=48:=by decide
    have wr56:IntKind.i64.wrap 56=56:=by decide
    rcases hkc with rfl|rfl|rfl|rfl|rfl|rfl|rfl|rfl
    all_goals
     try simp only [Nat.reduceAdd,Nat.add_zero] at c2 f2 d2 e2
     go_upto_region 7 with fail
     refine ag (fun _=>True) 14 (by kernel_rfl) ?_;have hS:True:=trivial;refine gaA 0 _ hS ?_;simp only [zp];refine gaA 1 _ hS ?_;simp only [zp];refine gaA 2 _ hS ?_;simp only [zp];refine gaA 3 _ hS ?_;simp only [zp];refine gaA 4 _ hS ?_;simp only [zp];refine gaA 5 _ hS ?_;simp only [zp];refine gaA 6 _ hS ?_;simp only [zp];refine gaA 7 _ hS ?_;simp only [zp];refine gaA 8 _ hS ?_;simp only [zp];refine gaA 9 _ hS ?_;simp only [zp];refine gaA 10 _ hS ?_;simp only [zp];refine gaA 11 _ hS ?_;simp only [zp];refine gaA 12 _ hS ?_;simp only [zp];refine gaA 13 _ hS ?_;simp only [zp];refine zw 14 fun K hK=>?_
     go_simp;refine hK.out _ _ zn ?_;clear hK K;refine aw (i:=15) (v:=?_) rfl (by kernel_rfl) (by kernel_rfl) (by kernel_rfl) (fun _ _ _ h=>h) (by kernel_rfl) zn (by kernel_rfl) ?_ ?_;rotate_left
     · intro _;go_simp;try with_reducible rfl
     simp only [zp];refine zw 16 fun K hK=>?_
     go_simp;refine hK.out _ _ zn ?_;clear hK K;refine ah (by kernel_rfl) ?_ _;go_wp2;go_roundw
     case rel=>
      refine ⟨_,?_,rfl,(hB.drew.setCell (by simp) _).setCell (by simp) _,(hR.drew.setOther _ _ (by simp)).setOther _ _ (by simp),?_⟩;rotate_left
      · rw [HS.out];simpa [IntKind.wrap_u8] using ((hT.set _ _).set _ _).drew
      · decide
     case measure=>simp [intOf]
  · obtain rfl:k=8:=by omega
    rw [←HL.out] at hT
    go_wp2_with (first
     |(refine am rfl 120 _ rfl _ rfl hT Tryz.underlying120 eD hll ?_)
     |(refine aj rfl 120 _ _ rfl _ rfl rfl hR (by rw [hll];exact eD) (by simp [hll]) ?_))
    refine bodyPost_ret (ak (Tryz.results177) _ rfl (hR.setRow _) Tryz.underlying120 eD hll) rfl ⟨rfl,?_⟩;exact below_setRow hB (Nat.le_refl _) _
open Go
def V5 (a b c d e:Int):Int:=a+b*67108864+c*4503599627370496+d*302231454903657293676544+e*20282409603651670423947251286016
theorem iL (n:Int) (h₀:0≤n) (h₁:n<2 ^ 64):IntKind.u64.wrap n=n:=by rw [IntKind.wrap_u64];omega
theorem ic (x:Int) (h0:0≤x) (h1:x<18446744073709551616):bits .and .u64 x 67108863=x % 67108864:=bits_mask .u64 64 (by decide) iL 26 (by omega) x h0 (by omega)
theorem qz (a b c d e:Int) (R:List Int) (ha:0≤a∧a<4611686018427387904) (hb:0≤b∧b<4611686018427387904) (hc:0≤c∧c<4611686018427387904) (hd:0≤d∧d<4611686018427387904) (he:0≤e∧e<4611686018427387904):
    ∃x0 x1 x2 x3 x4,carryK (a::b::c::d::e::R) 4=x0::x1::x2::x3::x4::R∧(0≤x0∧x0<67108864)∧(0≤x1∧x1<67108864)∧(0≤x2∧x2<67108864)∧(0≤x3∧x3<67108864)∧(0≤x4∧x4≤e+137438953472)∧V5 x0 x1 x2 x3 x4=V5 a b c d e:=by
 have h:carryK (a::b::c::d::e::R) 4=bits .and .u64 a 67108863::bits .and .u64 ((b+a / 67108864) % 18446744073709551616) 67108863::bits .and .u64 ((c+(b+a / 67108864) % 18446744073709551616 / 67108864) % 18446744073709551616) 67108863::bits .and .u64 ((d+(c+(b+a / 67108864) % 18446744073709551616 / 67108864) % 18446744073709551616 / 67108864) % 18446744073709551616) 67108863::((e+(d+(c+(b+a / 67108864) % 18446744073709551616 / 67108864) % 18446744073709551616 / 67108864) % 18446744073709551616 / 67108864) % 18446744073709551616)::R:=rfl;rw [h];obtain ⟨y1,h1⟩:∃q,(b+a / 67108864) % 18446744073709551616=q:=⟨_,rfl⟩
 rw [h1];obtain ⟨y2,h2⟩:∃q,(c+y1 / 67108864) % 18446744073709551616=q:=⟨_,rfl⟩
 rw [h2];obtain ⟨y3,h3⟩:∃q,(d+y2 / 67108864) % 18446744073709551616=q:=⟨_,rfl⟩
 rw [h3];obtain ⟨y4,h4⟩:∃q,(e+y3 / 67108864) % 18446744073709551616=q:=⟨_,rfl⟩
 rw [h4];have e1:y1=b+a / 67108864:=by omega
 have b1:0≤y1∧y1<4611686155866341376:=by omega
 have e2:y2=c+y1 / 67108864:=by omega
 have b2:0≤y2∧y2<4611686155866341376:=by omega
 have e3:y3=d+y2 / 67108864:=by omega
 have b3:0≤y3∧y3<4611686155866341376:=by omega
 have e4:y4=e+y3 / 67108864:=by omega
 refine ⟨_,_,_,_,_,rfl,?_⟩;rw [ic a (by omega) (by omega),ic y1 (by omega) (by omega),ic y2 (by omega) (by omega),ic y3 (by omega) (by omega)];clear h h1 h2 h3 h4;refine ⟨by omega,by omega,by omega,by omega,by omega,?_⟩;unfold V5;omega
theorem yr (a b c d e:Int) (R:List Int) (ha:0≤a∧a<1152921504606846976) (hb:0≤b∧b<1152921504606846976) (hc:0≤c∧c<1152921504606846976) (hd:0≤d∧d<1152921504606846976) (he:0≤e∧e<1152921504606846976):
    ∃r0 r1 r2 r3 r4 q,ik (a::b::c::d::e::R)=r0::r1::r2::r3::r4::R∧(0≤r0∧r0<67108864)∧(0≤r1∧r1<67112960)∧(0≤r2∧r2<67108864)∧(0≤r3∧r3<67108864)∧(0≤r4∧r4<67108864)∧V5 a b c d e=V5 r0 r1 r2 r3 r4+q*1361129467683753853853498429727072845819:=by
 obtain ⟨x0,x1,x2,x3,x4,hx,b0,b1,b2,b3,b4,hv⟩:=qz a b c d e R (by omega) (by omega) (by omega) (by omega) (by omega);unfold ik;rw [hx];simp only [sZ,sS,List.getElem?_cons_zero,List.getElem?_cons_succ,Option.getD_some];obtain ⟨ov,hov⟩:∃q,x4 / 67108864=q:=⟨_,rfl⟩
 rw [hov];have bo:0≤ov∧ov<17179873280:=by omega
 obtain ⟨y0,hy0⟩:∃q,(x0+5*ov % 18446744073709551616) % 18446744073709551616=q:=⟨_,rfl⟩
 rw [hy0];have e0:y0=x0+5*ov:=by omega
 obtain ⟨y1,hy1⟩:∃q,(x1+y0 / 67108864) % 18446744073709551616=q:=⟨_,rfl⟩
 rw [hy1];have e1:y1=x1+y0 / 67108864:=by omega
 refine ⟨_,_,_,_,_,ov,rfl,?_⟩;rw [ic y0 (by omega) (by omega),ic x4 (by omega) (by omega)];clear hy0 hy1 hx;refine ⟨by omega,by omega,by omega,by omega,by omega,?_⟩;rw [←hv];unfold V5;omega
theorem yp (x0 x1 x2 x3 x4 y0 y1 y2 y3 y4:Int):
    V5 x0 x1 x2 x3 x4*V5 y0 y1 y2 y3 y4=V5 (x0*y0+5*x1*y4+5*x2*y3+5*x3*y2+5*x4*y1) (x0*y1+x1*y0+5*x2*y4+5*x3*y3+5*x4*y2) (x0*y2+x1*y1+x2*y0+5*x3*y4+5*x4*y3) (x0*y3+x1*y2+x2*y1+x3*y0+5*x4*y4) (x0*y4+x1*y3+x2*y2+x3*y1+x4*y0)
     +((x1*y4+x2*y3+x3*y2+x4*y1)+(x2*y4+x3*y3+x4*y2)*67108864+(x3*y4+x4*y3)*4503599627370496+302231454903657293676544*(x4*y4))*1361129467683753853853498429727072845819:=by
 unfold V5
 grind
theorem bH (x y X Y:Int) (hx:0≤x∧x<X) (hy:0≤y∧y<Y):0≤x*y∧x*y≤X*Y:=by
 refine ⟨Int.mul_nonneg hx.1 hy.1,?_⟩;exact Int.mul_le_mul (by omega) (by omega) hy.1 (by omega)
set_option maxRecDepth 20000 in
theorem xY (x0 x1 x2 x3 x4 y0 y1 y2 y3 y4:Int) (R:List Int):
    eP (x0::x1::x2::x3::x4::R) [y0,y1,y2,y3,y4] 5=[(x0*y0+5*x1*y4+5*x2*y3+5*x3*y2+5*x4*y1) % 18446744073709551616,(x0*y1+x1*y0+5*x2*y4+5*x3*y3+5*x4*y2) % 18446744073709551616,(x0*y2+x1*y1+x2*y0+5*x3*y4+5*x4*y3) % 18446744073709551616,(x0*y3+x1*y2+x2*y1+x3*y0+5*x4*y4) % 18446744073709551616,(x0*y4+x1*y3+x2*y2+x3*y1+x4*y0) % 18446744073709551616]:=by
 have hm:∀x y:Int,(5*x % 18446744073709551616*y) % 18446744073709551616=(5*x*y) % 18446744073709551616:=fun x y=>by
  rw [Int.mul_emod,Int.emod_emod_of_dvd _ (Int.dvd_refl _),←Int.mul_emod]
 simp [eP,eN,jz,hm,Int.emod_add_emod,Int.add_emod_emod]
end Go.Proofs.YtbdhfbglagdiaaaGreatDoor
