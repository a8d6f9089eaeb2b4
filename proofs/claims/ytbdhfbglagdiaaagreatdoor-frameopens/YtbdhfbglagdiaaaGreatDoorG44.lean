/- Pk Rf -/
import Derived.Test.YtbdhfbglagdiaaaGreatDoorG14
import Derived.Laws.BitsLemmas
import Derived.Test.YtbdhfbglagdiaaaGreatDoorG43
namespace Go.Proofs.YtbdhfbglagdiaaaGreatDoor
open Go.RowKit
set_option maxRecDepth 100000
set_option maxHeartbeats 4000000
set_option linter.unusedSimpArgs false
def refG (i:Nat) (v:Int):Int:=if i % 4=3 then v % 16 else if i % 4=0∧0<i then v / 4*4 else v
def lZ (k:List Int):Nat→List Int
 |0=>List.replicate 16 0
 |i+1=>(lZ k i).set i (refG i (k[i]?.getD 0))
theorem oV (k:List Int) (i:Nat):(lZ k i).length=16:=by
 induction i with
 |zero=>rfl
 |succ i ih=>simp [lZ,ih]
theorem bk (k:List Int) (i:Nat) (h:i<16):k[i]?.getD 0=(k.take 16)[i]?.getD 0:=by rw [List.getElem?_take_of_lt h]
theorem wZ (k:List Int) (hk:k.length=32) (hu:∀v∈k,0≤v∧v≤255):lZ k 16=bL k:=by
 have hl:(k.take 16).length=16:=by rw [List.length_take];omega
 have hu':∀v∈k.take 16,0≤v∧v≤255:=fun v hv=>hu v (List.mem_of_mem_take hv)
 obtain ⟨a0,a1,a2,a3,a4,a5,a6,a7,a8,a9,b0,b1,b2,b3,b4,b5,h⟩:=ju hl;rw [h] at hu'
 rw [np h,kI a3 (hu' _ (by simp)).1 (hu' _ (by simp)).2,kI a7 (hu' _ (by simp)).1 (hu' _ (by simp)).2,kI b1 (hu' _ (by simp)).1 (hu' _ (by simp)).2,kI b5 (hu' _ (by simp)).1 (hu' _ (by simp)).2,ka a4 (hu' _ (by simp)).1 (hu' _ (by simp)).2,ka a8 (hu' _ (by simp)).1 (hu' _ (by simp)).2,ka b2 (hu' _ (by simp)).1 (hu' _ (by simp)).2];simp only [lZ];rw [bk k 0 (by omega),bk k 1 (by omega),bk k 2 (by omega),bk k 3 (by omega),bk k 4 (by omega),bk k 5 (by omega),bk k 6 (by omega),bk k 7 (by omega),bk k 8 (by omega),bk k 9 (by omega),bk k 10 (by omega),bk k 11 (by omega),bk k 12 (by omega),bk k 13 (by omega),bk k 14 (by omega),bk k 15 (by omega),h]
 rfl
theorem oJ (k:List Int) (w:World) (hk:k.length=32) (hu:∀v∈k,0≤v∧v≤255):
    Calls Tryz.prog 126 #[.agg (row .u8 k)] w fun e w'=>e=.returned (.agg (row .u8 (bL k)))∧Below w.heap.size w w':=by
 have hcl:=dw k hk;have HC:ac (bL k=lZ k 16):=⟨(wZ k hk hu).symm⟩
 have hub:ac (∀i:Nat,(0:Int)≤k[i]?.getD (0:Int)∧k[i]?.getD (0:Int)≤255):=⟨fun i=>by
  by_cases hi:i<k.length
  · rw [List.getElem?_eq_getElem hi];exact hu _ (List.getElem_mem hi)
  · rw [List.getElem?_eq_none (by omega)];simp⟩
 clear hu;go_enter Tryz.func126,Tryz.ntmps126;go_upto_region 2 with fail
 refine ae (p:=fun y=>Code.wp _ _ _ _ y) (fun W0=>Below w.heap.size w W0∧aa W0 w.heap.size .u8 23 k∧aa W0 (w.heap.size+1) .u8 119 (List.replicate 16 0)∧aa W0 (w.heap.size+1+1) .u8 119 (List.replicate 16 0)) ⟨(((Below.refl _ _).alloc (Nat.le_refl _) _).alloc (by simp) _).alloc (by simp;omega) _,((aa.new w .u8 _ k).alloc _).alloc _,?_,?_⟩ ?_
 · have:=aa.new (w.alloc (.cells (row .u8 k) 23)) .u8 119 (List.replicate 16 0)
   rw [World.size_alloc] at this
   exact this.alloc _
 · have:=aa.new ((w.alloc (.cells (row .u8 k) 23)).alloc (.cells (row .u8 (List.replicate 16 0)) 119)) .u8 119 (List.replicate 16 0)
   rw [World.size_alloc,World.size_alloc] at this
   exact this
 rintro W0 ⟨hB0,hK0,hR0,hA0⟩
 go_wp2_with fail
 go_loopw [4] (fun q wr=>∃i:Nat,i≤16∧q=.int .i64 i∧Below w.heap.size w wr∧aa wr w.heap.size .u8 23 k∧aa wr (w.heap.size+1) .u8 119 (List.replicate 16 0)∧aa wr (w.heap.size+1+1) .u8 119 (lZ k i)) (fun q _=>16 - (intOf q).toNat)
 case atStart=>exact ⟨0,by omega,rfl,hB0,hK0,hR0,hA0⟩
 case round=>
  clear hB0 hK0 hR0 hA0;obtain ⟨i,hi,rfl,hB,hK,hR,hA⟩:=hrel
  by_cases hlt:i<16
  · have HS:ac (lZ k (i+1)=(lZ k i).set i (refG i (k[i]?.getD 0))):=⟨rfl⟩
    have hAl:=oV k i;obtain ⟨A,hAe⟩:∃q,lZ k i=q:=⟨_,rfl⟩
    rw [hAe] at hA HS hAl
    have c1:=hK.cell i (by omega);have c2:=hA.cell i (by omega);have f2:=hA.frozen i;have hv:=hub.out i;obtain ⟨v,hve⟩:∃q,k[i]?.getD 0=q:=⟨_,rfl⟩
    rw [hve] at c1 HS hv
    obtain ⟨hv0,hv1⟩:=hv;have HS2:ac (lZ k (i+1)=(A.set i v).set i (refG i v)):=⟨by rw [HS.out,List.set_set]⟩
    clear hAe hve;have hic:i=0∨i=1∨i=2∨i=3∨i=4∨i=5∨i=6∨i=7∨i=8∨i=9∨i=10∨i=11∨i=12∨i=13∨i=14∨i=15:=by omega
    clear hi hlt
    rcases hic with rfl|rfl|rfl|rfl|rfl|rfl|rfl|rfl|rfl|rfl|rfl|rfl|rfl|rfl|rfl|rfl
    all_goals
     go_wp2;go_roundw
     case rel=>
      first
       |exact ⟨_,by decide,rfl,hB.setCell (by simp;omega) _,hK.setOther _ _ (by simp;omega),hR.setOther _ _ (by simp),by rw [HS.out];exact hA.set _ _⟩
       |(refine ⟨_,by decide,rfl,(hB.setCell (by simp;omega) _).setCell (by simp;omega) _,(hK.setOther _ _ (by simp;omega)).setOther _ _ (by simp;omega),(hR.setOther _ _ (by simp)).setOther _ _ (by simp),?_⟩
         rw [HS2.out];exact (hA.set _ _).set _ _)
     case measure=>simp [intOf]
  · obtain rfl:i=16:=by omega
    rw [←HC.out] at hA
    go_wp2_with (first
     |(refine am rfl 119 _ rfl _ rfl hA Tryz.underlying119 dV hcl ?_)
     |(refine aj rfl 119 _ _ rfl _ rfl rfl hR (by rw [hcl];exact dV) (by simp [hcl]) ?_))
    refine bodyPost_ret (ak (Tryz.results126) _ rfl (hR.setRow _) Tryz.underlying119 dV hcl) rfl ⟨rfl,?_⟩;exact below_setRow hB (by omega) _
set_option maxRecDepth 20000
set_option maxHeartbeats 8000000
theorem tC (n:Nat):madeCells #[.int .i64 0] n=row .i64 (List.replicate n 0):=by
 apply Array.ext_getElem?;intro i
 by_cases h:i<n<;>simp [madeCells,row,h,Nat.mod_one]
theorem bt.made (w:World) (base n:Nat) (hb:base≤w.heap.size) (hn:n≤1000000):bt (w.alloc (.cells (row .i64 (List.replicate n 0)) 3)) base (.slice (some ⟨w.heap.size,0,none⟩) n n) (List.replicate n 0):=
 bt.cast (n:=n) (xs:=(List.replicate n 0).map (Value.int .i64)) ⟨by simp,.inr ⟨_,n,_,rfl,hb,World.alloc_heap_new w _,Nat.le_refl _,by simp [maxLen];omega,by simp [row],by simp [row]⟩⟩ (by simp) rfl
theorem uw (w:World):fJ w none 0 0 []:=⟨rfl,by omega,by omega,fun _=>rfl,.inl rfl⟩
theorem wv (S:List Int) (j n:Nat) (hj:j<n) (hl:n≤S.length):(S.take j++List.replicate (n - j) 0).set j (S[j]?.getD 0)=S.take (j+1)++List.replicate (n - (j+1)) 0:=by
 have h:=br (S.take j) (n - (j+1)) (S[j]?.getD 0);rw [List.length_take,Nat.min_eq_left (by omega),←bG S j (by omega),show n - (j+1)+1=n - j by omega] at h
 exact h
theorem refSum_any (k:List Int) (x:Option Addr) (len cap:Nat) (z:List Int) (w:World) (hk:k.length=32) (hu:∀v∈k,isB v) (hz:Bytes w x len cap z) (huz:∀v∈z,isB v) (hln:len≤1000000):
    Calls Tryz.prog 90 #[.agg (row .u8 k),.slice x len cap] w fun e w'=>e=.returned (.agg (row .u8 (fw k z)))∧Below w.heap.size w w':=by
 have hcl:=dw k hk;have hle:=hz.le;have htop:=hz.top;have HCI:ac (∀v∈bL k,isB v):=⟨nB k hk hu⟩
 have hclamp:∀wx,Calls Tryz.prog 126 #[.agg (row .u8 k)] wx fun e w'=>e=.returned (.agg (row .u8 (bL k)))∧Below wx.heap.size wx w':=fun wx=>oJ k wx hk hu
 have HD:ac (∀(A:List Int) (N:Nat),(∀v∈A,isB v)→leN A=kQ (leN (bL k)) z ((len+15) / 16)→17≤N→cK (xK A (k.drop 16) 17) N=0→fw k z=(oK (xK A (k.drop 16) 17) N).take 16):=⟨fun A N hA hv hN hc=>vT k z A hk hu huz hA (by rw [←hz.len_eq];exact hv) N hN hc⟩
 have HZ:ac (Bytes w x len cap z):=⟨hz⟩
 have HG:ac (∀i j n,n=min 16 (len - 16*i)→j<17→(c9 z i)[j]?.getD 0=if j<n then z[16*i+j]?.getD 0 else if j=n then 1 else 0):=⟨fun i j n hn hj=>uA z i j n (by rw [←hz.len_eq];exact hn) hj⟩
 have HUB:ac (∀i:Nat,(0:Int)≤z[i]?.getD (0:Int)∧z[i]?.getD (0:Int)≤255):=⟨mp (by omega) huz⟩
 have HKB:ac (∀i:Nat,(0:Int)≤k[i]?.getD (0:Int)∧k[i]?.getD (0:Int)≤255):=⟨mp (by omega) hu⟩
 have HBI:ac (∀i,∀v∈c9 z i,isB v):=⟨pH z huz⟩
 have HDI:ac (∀v∈k.drop 16,isB v):=⟨fun v hv=>hu v (List.mem_of_mem_drop hv)⟩
 obtain ⟨R,hR⟩:∃q,bL k=q:=⟨_,rfl⟩
 rw [hR] at hcl HCI hclamp HD
 obtain ⟨T,hT⟩:∃q,fw k z=q:=⟨_,rfl⟩
 rw [hT] at HD ⊢
 have hK0:=(aa.new w .u8 23 k).alloc (.cells (row .u8 (List.replicate 16 0)) 120);have hT0:=aa.new (w.alloc (.cells (row .u8 k) 23)) .u8 120 (List.replicate 16 0);rw [World.size_alloc] at hT0
 have hB0:Below w.heap.size w ((w.alloc (.cells (row .u8 k) 23)).alloc (.cells (row .u8 (List.replicate 16 0)) 120)):=((Below.refl _ _).alloc (Nat.le_refl _) _).alloc (by simp) _;clear hu hz huz hR hT;go_enter Tryz.func90,Tryz.ntmps90;go_upto_region 1 with fail
 refine ae (p:=fun y=>Code.wp _ _ _ _ y) (fun W0=>Below w.heap.size w W0∧aa W0 w.heap.size .u8 23 k∧aa W0 (w.heap.size+1) .u8 120 (List.replicate 16 0)) ⟨hB0,hK0,hT0⟩ ?_;clear hK0 hT0 hB0;rintro W0 ⟨hB0,hK0,hT0⟩;go_upto_region 2 with (first
  |(refine am rfl 23 _ rfl _ rfl hK0 Tryz.underlying23 qu hk ?_)
  |(go_at_call 126;refine (hclamp _).mono ?_;rintro e w1 ⟨rfl,hb1⟩;have hN1:=aa.new w1 .u8 119 (List.replicate 16 0))
  |(refine aj rfl 119 _ _ rfl _ rfl rfl hN1 (by rw [hcl];exact dV) (by simp [hcl]) ?_))
 have hs1:=hT0.lt;have hz1:=hb1.size;refine ae (p:=fun y=>Code.wp _ _ _ _ y) (fun W2=>Below w.heap.size w W2∧aa W2 w.heap.size .u8 23 k∧aa W2 (w.heap.size+1) .u8 120 (List.replicate 16 0)∧aa W2 w1.heap.size .u8 119 R) ⟨below_setRow ((hB0.trans (hb1.mono hB0.size)).alloc (hB0.trans (hb1.mono hB0.size)).size _) (by omega) _,((hK0.below hb1 hK0.lt).alloc _).setRowOther _ (by omega),((hT0.below hb1 hT0.lt).alloc _).setRowOther _ (by omega),hN1.setRow _⟩ ?_;have hG1:w.heap.size+1<w1.heap.size:=by omega
 obtain ⟨G,hGe⟩:∃q,w1.heap.size=q:=⟨_,rfl⟩
 rw [hGe] at hG1 ⊢
 clear hK0 hT0 hB0 hb1 hN1 hs1 hz1 hclamp hGe;rintro W2 ⟨hB2,hK2,hT2,hR2⟩
 go_wp2_with fail
 go_loopw [6,7] (fun av iv wr=>∃(i:Nat) (y:Option Addr) (ly cy:Nat) (A:List Int),iv=.int .i64 ((16*i:Nat):Int)∧16*i≤len+15∧av=.slice y ly cy∧ly≤40∧ac (fJ wr y ly cy A∧(∀v∈A,isB v)∧leN A=kQ (leN R) z i)∧Below w.heap.size w wr∧aa wr w.heap.size .u8 23 k∧aa wr (w.heap.size+1) .u8 120 (List.replicate 16 0)∧aa wr G .u8 119 R) (fun _ iv _=>len+16 - (intOf iv).toNat)
 case atStart=>exact ⟨0,none,0,0,[],rfl,by omega,rfl,by omega,⟨uw _,(fun v h=>by cases h),by rw [accK_zero];rfl⟩,hB2,hK2,hT2,hR2⟩
 case round=>
  clear hB2 hK2 hT2 hR2;obtain ⟨i,y,ly,cy,A,rfl,hi,rfl,hly,HA,hB,hK,hTg,hRr⟩:=hrel
  by_cases hlt:16*i<len
  ·
   obtain ⟨W,rfl⟩:∃W,W=wr:=⟨_,rfl⟩
   obtain ⟨b0,off,hx0,hc0⟩:∃b off,x=some ⟨b,off,none⟩∧∀j,j<len→W.cell? ⟨b,off+j,none⟩=some (.int .u8 (z[j]?.getD 0)):=by
    rcases (HZ.out.below hB).at_ with h0|h
    · omega
    · exact h
   subst hx0;have HC:ac (∀wq,Below W.heap.size W wq→∀j,j<len→wq.cell? ⟨b0,off+j,none⟩=some (.int .u8 (z[j]?.getD 0))):=⟨fun wq hb j hj=>(hb.cell (p:=⟨b0,off+j,none⟩) (block_lt_of_cell (hc0 j hj))).trans (hc0 j hj)⟩
   have hat:∀(j:Nat) (wq:World),j≤1000→Below W.heap.size W wq→Calls Tryz.prog 127 #[.slice y ly cy,.int .i64 j] wq fun e w'=>e=.returned (.int .i64 (A[j]?.getD 0))∧wq=w':=fun j wq hj hb=>lN _ _ _ A j wq (HA.out.1.below hb) (by omega)
   have HAB:ac (∀i:Nat,(0:Int)≤A[i]?.getD (0:Int)∧A[i]?.getD (0:Int)≤255):=⟨mp (by omega) HA.out.2.1⟩
   obtain ⟨n,hn⟩:∃n,n=min 16 (len - 16*i):=⟨_,rfl⟩
   have HGn:ac (∀j,j<17→(c9 z i)[j]?.getD 0=if j<n then z[16*i+j]?.getD 0 else if j=n then 1 else 0):=⟨fun j hj=>HG.out i j n hn hj⟩
   have hn1:n≤16:=by omega
   have hn2:16*i+n≤len:=by omega
   have hn0:0<n:=by omega
   have HXS:ac (∀j,xK A (c9 z i) (j+1)=xK A (c9 z i) j++ [A[j]?.getD 0+(c9 z i)[j]?.getD 0]):=⟨oL A (c9 z i)⟩
   have HXL:ac (∀j,(xK A (c9 z i) j).length=j):=⟨iR A (c9 z i)⟩
   have HXA:ac (∀v∈xK A (c9 z i) 17,0≤v∧v≤2000000):=⟨vL A _ HA.out.2.1 (HBI.out i) 17⟩
   have HXV:ac (∀N,17≤N→cK (xK A (c9 z i) 17) N=0→leN (oK (xK A (c9 z i) 17) N)=leN A+leN (c9 z i)):=⟨fun N hN hc=>xy A _ HA.out.2.1 (by rw [HA.out.2.2];exact (sO _ _ _).2) (by rw [fv];omega) N hN hc⟩
   obtain ⟨P,hP⟩:∃q,c9 z i=q:=⟨_,rfl⟩
   have HPE:ac (c9 z i=P):=⟨hP⟩
   rw [hP] at HGn HXS HXL HXA HXV
   obtain ⟨I,hI⟩:∃q,16*i=q:=⟨_,rfl⟩
   have HI:ac (16*i=I):=⟨hI⟩
   rw [hI] at hi hlt hn hn2 HGn ⊢
   have hlt':(I:Int)<(len:Int):=by omega
   clear hc0 hP hI;have hcase:((len:Int) - (I:Int)>16∧n=16)∨(¬(len:Int) - (I:Int)>16∧(len:Int) - (I:Int)=(n:Int)):=by omega
   clear hn;have hall:∃D:Int,IntKind.i64.wrap ((len:Int) - (I:Int))=D∧((D>16∧n=16)∨(¬D>16∧D=(n:Int))):=⟨_,by rw [IntKind.wrap_i64];omega,hcase⟩
   clear hcase;obtain ⟨D,hsub,⟨h16,hn16⟩|⟨h16,hn16⟩⟩:=hall
   case' inl=>have HN:ac (n=16):=⟨hn16⟩;clear hn16
   case' inr=>have HN:ac True:=⟨trivial⟩;subst hn16
   all_goals
    go_wp2_with fail
    go_loopw [9,10] (fun v jv wq=>∃j:Nat,j≤17∧jv=.int .i64 j∧bt wq W.heap.size v (xK A P j)∧Below W.heap.size W wq) (fun _ jv _=>17 - (intOf jv).toNat)
    case atStart=>exact ⟨0,by omega,rfl,bt.nil _ _,Below.refl _ _⟩
    case round=>
     obtain ⟨j,hj,rfl,ho,hBq⟩:=hrel
     by_cases hj7:j<17
     ·
      have ha:=hat j wr (by omega) hBq;have av:=HAB.out j;have hxs:=HXS.out j;have hgn:=HGn.out j hj7;have hxl:=HXL.out j;obtain ⟨a,hae⟩:∃q,A[j]?.getD 0=q:=⟨_,rfl⟩
      obtain ⟨O,hOe⟩:∃q,xK A P j=q:=⟨_,rfl⟩
      rw [hae] at ha av hxs
      rw [hOe] at hxs ho hxl
      have hj17:(j:Int)<17:=by omega
      by_cases h1:j<n
      ·
       have c1:=HC.out wr hBq (I+j) (by omega);have ub:=HUB.out (I+j);rw [if_pos h1] at hgn
       obtain ⟨u,hu⟩:∃q,z[I+j]?.getD 0=q:=⟨_,rfl⟩
       rw [hu] at hgn c1 ub
       rw [hgn] at hxs
       have HX1:ac (xK A P (j+1)=O++ [a+u]):=⟨hxs⟩
       have hw1:IntKind.i64.wrap ((I:Int)+(j:Int))=(I:Int)+(j:Int):=by rw [IntKind.wrap_i64];omega
       have hx0:(0:Int)≤(I:Int)+(j:Int):=by omega
       have hx1:(I:Int)+(j:Int)<(len:Int):=by omega
       have hxt:((I:Int)+(j:Int)).toNat=I+j:=by omega
       have hw2:IntKind.i64.wrap (a+u)=a+u:=by rw [IntKind.wrap_i64];omega
       have hjn:(j:Int)<(n:Int):=by omega
       have hjne:¬(j:Int)=(n:Int):=by omega
       have hjA:(j:Int)<16:=by omega
       have hjB:¬(j:Int)=16:=by omega
       clear hxs hgn hu hae hOe
       go_wp2_with (first
        |(go_at_call 127;refine ha.mono ?_;rintro e w' ⟨rfl,rfl⟩)
        |(at_builtin;refine bD rfl _ _ rfl W.heap.size _ O rfl (a+u) (ho.alloc _) rfl (by omega) hBq.size ?_;intro v3 w3 ho3 hg3))
       go_roundw
       case rel=>exact ⟨j+1,by omega,by go_num,by rw [HX1.out];exact ho3,bC (hBq.alloc hBq.size _) (ho.alloc _) hg3 (by have:=hBq.size;simp;omega)⟩
       case measure=>simp [intOf];omega
      · rw [if_neg h1] at hgn
        have hjn:¬(j:Int)<(n:Int):=by omega
        try (have hjA:¬(j:Int)<16:=by have:=HN.out;omega)
        by_cases h2:j=n
        · rw [if_pos h2] at hgn
          rw [hgn] at hxs
          obtain ⟨J1,hJ1⟩:∃q,q=j+1:=⟨_,rfl⟩
          rw [←hJ1] at hxs
          have HX1:ac (xK A P J1=O++ [a+1]):=⟨hxs⟩
          have HJ1:ac (((J1:Nat):Int)=(j:Int)+1∧J1≤17∧17 - J1<17 - j):=⟨by omega⟩
          have hw2:IntKind.i64.wrap (a+1)=a+1:=by rw [IntKind.wrap_i64];omega
          have hol:O.length≤100:=by omega
          clear hxs hgn hae hOe hJ1 hjn hxl h1 hj7 hj17
          try clear hjA
          have hj17:(j:Int)<17:=by omega
          first
           |(have h3:j=16:=by have:=HN.out;omega
             have hq1:((j:Int)==16)=true:=by rw [beq_iff_eq];omega
             have hq2:decide ((j:Int)=16)=true:=by rw [decide_eq_true_eq];omega
             clear h3 h2;have hjA:¬(j:Int)<16:=by rw [beq_iff_eq] at hq1;omega)
           |subst h2
          go_wp2_with (first
           |(go_at_call 127;refine ha.mono ?_;rintro e w' ⟨rfl,rfl⟩)
           |(at_builtin;refine bD rfl _ _ rfl W.heap.size _ O rfl (a+1) (ho.alloc _) rfl (by omega) hBq.size ?_;intro v3 w3 ho3 hg3))
          go_roundw
          case rel=>exact ⟨J1,HJ1.out.2.1,by first|(rw [HJ1.out.1];done)|(rw [HJ1.out.1];go_num),by rw [HX1.out];exact ho3,bC (hBq.alloc hBq.size _) (ho.alloc _) hg3 (by have:=hBq.size;simp;omega)⟩
          case measure=>have:=HJ1.out;simp [intOf];omega
        · first
          |(exfalso;have:=HN.out;omega)
          |(rw [if_neg h2] at hgn
            rw [hgn,Int.add_zero] at hxs
            have HX1:ac (xK A P (j+1)=O++ [a]):=⟨hxs⟩
            have hjne:¬(j:Int)=(n:Int):=by omega
            try (have hjB:¬(j:Int)=16:=by have:=HN.out;omega)
            clear hxs hgn hae hOe
            go_wp2_with (first
             |(go_at_call 127;refine ha.mono ?_;rintro e w' ⟨rfl,rfl⟩)
             |(at_builtin;refine bD rfl _ _ rfl W.heap.size _ O rfl a (ho.alloc _) rfl (by omega) hBq.size ?_;intro v3 w3 ho3 hg3))
            go_roundw
            case rel=>exact ⟨j+1,by omega,by go_num,by rw [HX1.out];exact ho3,bC (hBq.alloc hBq.size _) (ho.alloc _) hg3 (by have:=hBq.size;simp;omega)⟩
            case measure=>simp [intOf];omega)
     ·
      obtain rfl:j=17:=by omega
      rw [show ((17:Nat):Int)=17 from rfl];have hl7:=HXL.out 17;obtain ⟨g,cp,hv,hg,hcp,hcl7,-⟩:=ho.opened (by omega);rw [hl7] at hv hcl7
      have hi7:fJ wr (some ⟨g,0,none⟩) 17 cp (xK A P 17):=by
       obtain ⟨x',n',c',e,hi⟩:=ho.ints;rw [hv] at e
       cases e;exact hi
      have hcar:=f9 (some ⟨g,0,none⟩) 17 cp (xK A P 17) wr hi7 (by omega) HXA.out;have HXV2:=HXV;subst hv;clear hi7 hl7 ho HXS HXL HXA HGn HXV hat HAB;go_upto_region 20 with (go_at_call 128;refine hcar.mono ?_;rintro e w5 ⟨v5,N,rfl,hN1,hN2,hN3,ho5,hb5⟩)
      have hOl5:=dm (xK A P 17) N;have HXb:ac (∀v∈oK (xK A P 17) N,isB v):=⟨jo (xK A P 17) N⟩
      have HXn:ac (leN (oK (xK A P 17) N)=leN A+leN P):=⟨HXV2.out N hN1 hN3⟩
      obtain ⟨X,hX⟩:∃q,oK (xK A P 17) N=q:=⟨_,rfl⟩
      rw [hX] at ho5 hOl5 HXb HXn
      obtain ⟨g5,cp5,hv5,hg5,hcp5,hcl5,hcell,-⟩:=ho5.opened (by omega);rw [hOl5] at hv5 hcl5 hcell
      subst hv5;have hB5:Below W.heap.size W w5:=hBq.trans (hb5.mono hBq.size);have hK5:=hK.below hB5 hK.lt;have hT5:=hTg.below hB5 hTg.lt;have hR5:=hRr.below hB5 hRr.lt;have hBw:Below w.heap.size w w5:=hB.trans (hB5.mono hB.size);have hmk:∀wx:World,(Instr.makeSlice 162 (.int .i64 ((N:Int)+16)) (.int .i64 ((N:Int)+16))).run Tryz.prog wx=.ok (.slice (some ⟨wx.heap.size,0,none⟩) (N+16) (N+16)) (wx.alloc (.cells (row .i64 (List.replicate (N+16) 0)) 3)):=fun wx=>by
       have:=run_make_row' (P:=Tryz.prog) 162 3 (.int .i64 0) 8 Tryz.underlying162 xx rfl .i64 .i64 (N+16) (by omega) (by omega) wx;rw [tC] at this
       exact this
      have hwN:IntKind.i64.wrap ((N:Int)+16)=(N:Int)+16:=by rw [IntKind.wrap_i64];omega
      have hsz5:=hB5.size;have hGl:=hRr.lt;have HCX:ac (∀wq,Below w5.heap.size w5 wq→∀j,j<N→wq.cell? ⟨g5,j,none⟩=some (.int .i64 (X[j]?.getD 0))):=⟨fun wq hb j hj=>(hb.cell (p:=⟨g5,j,none⟩) (block_lt_of_cell (hcell j hj))).trans (hcell j hj)⟩
      have HXB:ac (∀i:Nat,(0:Int)≤X[i]?.getD (0:Int)∧X[i]?.getD (0:Int)≤255):=⟨mp (by omega) HXb.out⟩
      have HRB:ac (∀i:Nat,(0:Int)≤R[i]?.getD (0:Int)∧R[i]?.getD (0:Int)≤255):=⟨mp (by omega) HCI.out⟩
      have hM:=bt.made w5 w5.heap.size (N+16) (Nat.le_refl _) (by omega);have hBM:Below w5.heap.size w5 (w5.alloc (.cells (row .i64 (List.replicate (N+16) 0)) 3)):=(Below.refl _ _).alloc (Nat.le_refl _) _;have HP0:ac (dt X R 0 0 (List.replicate (N+16) 0)):=⟨by have:=dt.start X R;rw [hOl5] at this;exact this⟩
      clear hcar ho5 hX hcell hb5 HXV2 hBq hB5 hg5 hg hK hTg hRr hB;go_upto_region 21 with fail
      refine ae (p:=fun y=>Code.wp _ _ _ _ y) (fun W6=>bt W6 w5.heap.size (.slice (some ⟨w5.heap.size,0,none⟩) (N+16) (N+16)) (List.replicate (N+16) 0)∧Below w5.heap.size w5 W6) ⟨hM,hBM⟩ ?_;clear hM hBM hmk;rintro W6 ⟨hM,hBM⟩
      go_wp2_with fail
      go_loopw [13] (fun jv wq=>∃(j:Nat) (p:List Int),j≤N∧jv=.int .i64 j∧ac (dt X R j 0 p)∧bt wq w5.heap.size (.slice (some ⟨w5.heap.size,0,none⟩) (N+16) (N+16)) p∧Below w5.heap.size w5 wq) (fun jv _=>N - (intOf jv).toNat)
      case atStart=>exact ⟨0,_,by omega,rfl,HP0,hM,hBM⟩
      case round=>
       clear hM hBM HP0;obtain ⟨j,p,hjN,rfl,HP,ho,hBq⟩:=hrel
       by_cases hjl:j<N
       · have hjl':(j:Int)<(N:Int):=by omega
         go_wp2_with fail
         go_loopw [14] (fun mv wq=>∃(m:Nat) (p:List Int),m≤16∧mv=.int .i64 m∧ac (dt X R j m p)∧bt wq w5.heap.size (.slice (some ⟨w5.heap.size,0,none⟩) (N+16) (N+16)) p∧Below w5.heap.size w5 wq) (fun mv _=>16 - (intOf mv).toNat)
         case atStart=>exact ⟨0,p,by omega,rfl,HP,ho,hBq⟩
         case round=>
          clear HP ho hBq;obtain ⟨m,p,hm,rfl,HP,ho,hBq⟩:=hrel
          by_cases hml:m<16
          · have hpl:=HP.out.len
            rw [hOl5] at hpl
            have hstep:=HP.out.step HXb.out HCI.out (by omega) hml;have plo:=HP.out.low (j+m);have pto:=HP.out.top (j+m);rw [if_neg (by omega)] at pto
            have hod:bt wr.drew w5.heap.size (.slice (some ⟨w5.heap.size,0,none⟩) (N+16) (N+16)) p:=World.ownsRow.drew ho;obtain ⟨g7,cp7,hv7,hg7,hcp7,hcl7',hcell,hfr,hset⟩:=hod.opened (by omega);rw [hpl] at hv7 hcell hset
            cases hv7;have cp:=hcell (j+m) (by omega);have fp:=hfr (j+m);have cx:=HCX.out wr.drew hBq.drew j (by omega);have hR7:=hR5.below hBq.drew hR5.lt;have cr:=hR7.cell m (by omega);have xb:=HXB.out j;have rb:=HRB.out m;obtain ⟨pv,hpv⟩:∃q,p[j+m]?.getD 0=q:=⟨_,rfl⟩
            obtain ⟨xv,hxv⟩:∃q,X[j]?.getD 0=q:=⟨_,rfl⟩
            obtain ⟨rv,hrv⟩:∃q,R[m]?.getD 0=q:=⟨_,rfl⟩
            rw [hpv] at cp plo pto hstep
            rw [hxv] at cx xb hstep
            rw [hrv] at cr rb hstep
            have HST:ac (dt X R j (m+1) (p.set (j+m) (pv+xv*rv))):=⟨hstep⟩
            have HSE:ac (bt (wr.drew.setCell ⟨w5.heap.size,j+m,none⟩ (.int .i64 (pv+xv*rv))) w5.heap.size (.slice (some ⟨w5.heap.size,0,none⟩) (N+16) (N+16)) (p.set (j+m) (pv+xv*rv))):=⟨hset (j+m) (by omega) _⟩
            have hm5:=sn xb.1 xb.2 rb.1 rb.2;have hwr:IntKind.i64.wrap rv=rv:=by rw [IntKind.wrap_i64];omega
            have hwa:IntKind.i64.wrap ((j:Int)+(m:Int))=(j:Int)+(m:Int):=by rw [IntKind.wrap_i64];omega
            have hx0:(0:Int)≤(j:Int)+(m:Int):=by omega
            have hx1:(j:Int)+(m:Int)<((N+16:Nat):Int):=by omega
            have hx2:(j:Int)+(m:Int)<(N:Int)+16:=by omega
            have hxt:((j:Int)+(m:Int)).toNat=j+m:=by omega
            have hm0:(0:Int)≤(m:Int):=by omega
            have hm16:(m:Int)<16:=by omega
            have hj0:(0:Int)≤(j:Int):=by omega
            have hwm:IntKind.i64.wrap (xv*rv)=xv*rv:=by
             generalize xv*rv=q at hm5
             rw [IntKind.wrap_i64];omega
            have hwp:IntKind.i64.wrap (pv+xv*rv)=pv+xv*rv:=by
             generalize xv*rv=q at hm5
             rw [IntKind.wrap_i64];omega
            clear hcell hfr hset hpv hxv hrv hstep hod hR7 ho hm5;go_upto_region 27 with fail
            refine ag (fun w'=>w'.cell? ⟨w5.heap.size,j+m,none⟩=some (.int .i64 pv)∧w'.cell? ⟨g5,j,none⟩=some (.int .i64 xv)∧w'.cell? ⟨G,m,none⟩=some (.int .u8 rv)) 17 (by kernel_rfl) ?_;have hS:(fun w':World=>w'.cell? ⟨w5.heap.size,j+m,none⟩=some (.int .i64 pv)∧w'.cell? ⟨g5,j,none⟩=some (.int .i64 xv)∧w'.cell? ⟨G,m,none⟩=some (.int .u8 rv)) wr.drew:=⟨cp,cx,cr⟩
            refine gaA 0 _ hS ?_;simp only [zp];refine gaA 1 _ hS ?_;simp only [zp];refine gaA 2 _ hS ?_;simp only [zp];refine ga 3 (.int .i64 ((j:Int)+(m:Int))) hS ?_ ?_
            · intro _;go_simp
            simp only [zp];refine gaA 4 _ hS ?_;simp only [zp];refine grA 5 _ hS ?_;simp only [zp];refine gaA 6 _ hS ?_;simp only [zp];refine gaA 7 _ hS ?_;simp only [zp];refine gaA 8 _ hS ?_;simp only [zp];refine grA 9 _ hS ?_;simp only [zp];refine gaA 10 _ hS ?_;simp only [zp];refine gaA 11 _ hS ?_;simp only [zp];refine grA 12 _ hS ?_;simp only [zp];refine gaA 13 _ hS ?_;simp only [zp];refine ga 14 (.int .i64 (xv*rv)) hS ?_ ?_
            · intro _;go_simp
            simp only [zp];refine ga 15 (.int .i64 (pv+xv*rv)) hS ?_ ?_
            · intro _;go_simp
            simp only [zp];refine gaA 16 _ hS ?_;simp only [zp];refine zw 17 fun K hK=>?_
            go_simp;refine hK.out _ _ zn ?_;clear hK K;refine ah (by kernel_rfl) ?_ _;go_wp2;go_roundw
            case rel=>exact ⟨m+1,_,by omega,by go_num,HST,HSE.out,hBq.drew.setCell (by show w5.heap.size≤w5.heap.size;exact Nat.le_refl _) _⟩
            case measure=>simp [intOf];omega
          · obtain rfl:m=16:=by omega
            have hnx:ac (dt X R (j+1) 0 p):=⟨HP.out.next hcl⟩
            rw [show ((16:Nat):Int)=16 from rfl];go_wp2;go_roundw
            case rel=>exact ⟨j+1,p,by omega,by go_num,hnx,ho,hBq⟩
            case measure=>simp [intOf];omega
       · have hjn:N=j:=by omega
         subst hjn;have hpl:=HP.out.len;rw [hOl5] at hpl
         have hdn:leN p=leN X*leN R∧∀v∈p,0≤v∧v≤2000000:=by
          have h1:=HP.out;rw [←hOl5] at h1
          exact h1.done (by omega)
         have hiP:fJ wr (some ⟨w5.heap.size,0,none⟩) (N+16) (N+16) p:=by
          obtain ⟨x',n',c',e,hi⟩:=ho.ints;cases e;exact hi
         have hcar:=f9 (some ⟨w5.heap.size,0,none⟩) (N+16) (N+16) p wr hiP (by omega) hdn.2;have HV:ac (∀M,N+16≤M→cK p M=0→leN (oK p M) % 1361129467683753853853498429727072845819=kQ (leN R) z (i+1)):=⟨fun M hM hc=>by
          rw [lg p M (by omega) hc,hdn.1,HXn.out,HA.out.2.2,nC,HPE.out]⟩
         have hwI:IntKind.i64.wrap ((I:Int)+16)=(I:Int)+16:=by rw [IntKind.wrap_i64];omega
         clear hdn hiP HP ho HCX HXB HRB HXn HXb
         go_wp2_with (first
          |(go_at_call 128;refine hcar.mono ?_;rintro e w7 ⟨v7,M,rfl,hM1,hM2,hM3,ho7,hb7⟩;obtain ⟨x7,n7,c7,rfl,hI7⟩:=ho7.ints;have hn7:n7=M:=(by rw [hI7.len_eq,dm]);have hred:=o8 x7 n7 c7 (oK p M) w7 hI7 (by omega) (by omega) (jo p M);clear hI7 ho7 hn7)
          |(go_at_call 129;refine hred.mono ?_;rintro e w8 ⟨v8,A8,rfl,HV8,hb8⟩))
         obtain ⟨y8,ly8,cy8,hv8,hI8,h17,h40,hab8,hval8⟩:=HV8.out;subst hv8;rw [HV.out M hM1 hM3] at hval8
         have hB8:Below w5.heap.size w5 w8:=(hBq.trans (hb7.mono hBq.size)).trans (hb8.mono (hBq.trans (hb7.mono hBq.size)).size);have HE:ac (fJ w8 y8 ly8 cy8 A8∧(∀v∈A8,isB v)∧leN A8=kQ (leN R) z (i+1)):=⟨hI8,hab8,hval8⟩
         clear hI8 hab8 hval8 HV8 hcar hred;go_roundw
         case rel=>exact ⟨i+1,y8,ly8,cy8,A8,by have:=HI.out;congr 1;omega,by have:=HI.out;omega,rfl,h40,HE,hBw.trans (hB8.mono hBw.size),hK5.below hB8 hK5.lt,hT5.below hB8 hT5.lt,hR5.below hB8 hR5.lt⟩
         case measure=>simp [intOf];omega
  ·
   have hie:i=(len+15) / 16:=by omega
   have HV0:ac (leN A=kQ (leN R) z ((len+15) / 16)):=⟨by rw [←hie];exact HA.out.2.2⟩
   have hlt':¬((16*i:Nat):Int)<(len:Int):=by omega
   have hlt2:¬16*(i:Int)<(len:Int):=by omega
   obtain ⟨W,rfl⟩:∃W,W=wr:=⟨_,rfl⟩
   have hat:∀(j:Nat) (wq:World),j≤1000→Below W.heap.size W wq→Calls Tryz.prog 127 #[.slice y ly cy,.int .i64 j] wq fun e w'=>e=.returned (.int .i64 (A[j]?.getD 0))∧wq=w':=fun j wq hj hb=>lN _ _ _ A j wq (HA.out.1.below hb) (by omega)
   have HAB:ac (∀i:Nat,(0:Int)≤A[i]?.getD (0:Int)∧A[i]?.getD (0:Int)≤255):=⟨mp (by omega) HA.out.2.1⟩
   have HKG:ac (∀j:Nat,(k.drop 16)[j]?.getD (0:Int)=k[16+j]?.getD (0:Int)):=⟨fun j=>by rw [List.getElem?_drop]⟩
   have HXS:ac (∀j,xK A (k.drop 16) (j+1)=xK A (k.drop 16) j++ [A[j]?.getD 0+(k.drop 16)[j]?.getD 0]):=⟨oL A (k.drop 16)⟩
   have HXL:ac (∀j,(xK A (k.drop 16) j).length=j):=⟨iR A (k.drop 16)⟩
   have HXA:ac (∀v∈xK A (k.drop 16) 17,0≤v∧v≤2000000):=⟨vL A _ HA.out.2.1 HDI.out 17⟩
   have HFI:ac (∀N,17≤N→cK (xK A (k.drop 16) 17) N=0→T=(oK (xK A (k.drop 16) 17) N).take 16):=⟨fun N hN hc=>HD.out A N HA.out.2.1 HV0.out hN hc⟩
   have hkl:k.length=32:=hk;obtain ⟨P,hP⟩:∃q,k.drop 16=q:=⟨_,rfl⟩
   rw [hP] at HKG HXS HXL HXA HFI
   clear hP HG HUB HBI HDI HD HZ HV0 hie
   go_wp2_with fail
   go_loopw [15,16] (fun v jv wq=>∃j:Nat,j≤17∧jv=.int .i64 j∧bt wq W.heap.size v (xK A P j)∧Below W.heap.size W wq) (fun _ jv _=>17 - (intOf jv).toNat)
   case atStart=>exact ⟨0,by omega,rfl,bt.nil _ _,Below.refl _ _⟩
   case round=>
    obtain ⟨j,hj,rfl,ho,hBq⟩:=hrel
    by_cases hj7:j<17
    · have ha:=hat j wr (by omega) hBq
      have av:=HAB.out j;have hxs:=HXS.out j;have hgn:=HKG.out j;have hxl:=HXL.out j;have kb:=HKB.out (16+j);obtain ⟨a,hae⟩:∃q,A[j]?.getD 0=q:=⟨_,rfl⟩
      obtain ⟨O,hOe⟩:∃q,xK A P j=q:=⟨_,rfl⟩
      rw [hae] at ha av hxs
      rw [hOe] at hxs ho hxl
      have hj17:(j:Int)<17:=by omega
      by_cases h1:j<16
      · have c1:=(hK.below hBq hK.lt).cell (16+j) (by omega)
        obtain ⟨u,hu⟩:∃q,k[16+j]?.getD 0=q:=⟨_,rfl⟩
        rw [hu] at hgn c1 kb
        rw [hgn] at hxs
        have HX1:ac (xK A P (j+1)=O++ [a+u]):=⟨hxs⟩
        have hw1:IntKind.i64.wrap (16+(j:Int))=16+(j:Int):=by rw [IntKind.wrap_i64];omega
        have hx0:(0:Int)≤16+(j:Int):=by omega
        have hx1:16+(j:Int)<32:=by omega
        have hxt:(16+(j:Int)).toNat=16+j:=by omega
        have hw2:IntKind.i64.wrap (a+u)=a+u:=by rw [IntKind.wrap_i64];omega
        have hwu:IntKind.i64.wrap u=u:=by rw [IntKind.wrap_i64];omega
        have hjn:(j:Int)<16:=by omega
        clear hxs hgn hu hae hOe
        go_wp2_with (first
         |(go_at_call 127;refine ha.mono ?_;rintro e w' ⟨rfl,rfl⟩)
         |(at_builtin;refine bD rfl _ _ rfl W.heap.size _ O rfl (a+u) (ho.alloc _) rfl (by omega) hBq.size ?_;intro v3 w3 ho3 hg3))
        go_roundw
        case rel=>exact ⟨j+1,by omega,by go_num,by rw [HX1.out];exact ho3,bC (hBq.alloc hBq.size _) (ho.alloc _) hg3 (by have:=hBq.size;simp;omega)⟩
        case measure=>simp [intOf];omega
      · have hg0:k[16+j]?.getD 0=0:=by rw [List.getElem?_eq_none (by omega)];rfl
        rw [hgn,hg0,Int.add_zero] at hxs
        have HX1:ac (xK A P (j+1)=O++ [a]):=⟨hxs⟩
        have hjn:¬(j:Int)<16:=by omega
        clear hxs hgn hae hOe hg0
        go_wp2_with (first
         |(go_at_call 127;refine ha.mono ?_;rintro e w' ⟨rfl,rfl⟩)
         |(at_builtin;refine bD rfl _ _ rfl W.heap.size _ O rfl a (ho.alloc _) rfl (by omega) hBq.size ?_;intro v3 w3 ho3 hg3))
        go_roundw
        case rel=>exact ⟨j+1,by omega,by go_num,by rw [HX1.out];exact ho3,bC (hBq.alloc hBq.size _) (ho.alloc _) hg3 (by have:=hBq.size;simp;omega)⟩
        case measure=>simp [intOf];omega
    · obtain rfl:j=17:=by omega
      rw [show ((17:Nat):Int)=17 from rfl];have hl7:=HXL.out 17;obtain ⟨g,cp,hv,hg,hcp,hcl7,-⟩:=ho.opened (by omega);rw [hl7] at hv hcl7
      have hi7:fJ wr (some ⟨g,0,none⟩) 17 cp (xK A P 17):=by
       obtain ⟨x',n',c',e,hi⟩:=ho.ints;rw [hv] at e
       cases e;exact hi
      have hcar:=f9 (some ⟨g,0,none⟩) 17 cp (xK A P 17) wr hi7 (by omega) HXA.out;subst hv;clear hi7 hl7 ho HXS HXL HXA hat HAB HKG;go_upto_region 38 with (go_at_call 128;refine hcar.mono ?_;rintro e w5 ⟨v5,N,rfl,hN1,hN2,hN3,ho5,hb5⟩)
      have hOl5:=dm (xK A P 17) N;have hfin:=HFI.out N hN1 hN3;have HSb:ac (∀i:Nat,(0:Int)≤(oK (xK A P 17) N)[i]?.getD (0:Int)∧(oK (xK A P 17) N)[i]?.getD (0:Int)≤255):=⟨mp (by omega) (jo (xK A P 17) N)⟩
      obtain ⟨S,hS⟩:∃q,oK (xK A P 17) N=q:=⟨_,rfl⟩
      rw [hS] at ho5 hOl5 hfin HSb
      obtain ⟨g5,cp5,hv5,hg5,hcp5,hcl5,hcell,-⟩:=ho5.opened (by omega);rw [hOl5] at hv5 hcl5 hcell
      subst hv5;have hB5:Below W.heap.size W w5:=hBq.trans (hb5.mono hBq.size);have hT5:=hTg.below hB5 hTg.lt;have hBw:Below w.heap.size w w5:=hB.trans (hB5.mono hB.size);have HFS:ac (∀j,j<16→(S.take j++List.replicate (16 - j) 0).set j (S[j]?.getD 0)=S.take (j+1)++List.replicate (16 - (j+1)) 0):=⟨fun j hj=>wv S j 16 hj (by omega)⟩
      have HCX:ac (∀wq,Below w5.heap.size w5 wq→∀j,j<N→wq.cell? ⟨g5,j,none⟩=some (.int .i64 (S[j]?.getD 0))):=⟨fun wq hb j hj=>(hb.cell (p:=⟨g5,j,none⟩) (block_lt_of_cell (hcell j hj))).trans (hcell j hj)⟩
      have hTl:T.length=16:=by rw [hfin,List.length_take];omega
      have HFin:ac (S.take 16=T):=⟨hfin.symm⟩
      have hA0:=aa.new w5 .u8 120 (List.replicate 16 0);have hBA:Below w5.heap.size w5 (w5.alloc (.cells (row .u8 (List.replicate 16 0)) 120)):=(Below.refl _ _).alloc (Nat.le_refl _) _;clear hcar ho5 hS hcell hb5 HFI hBq hB5 hg5 hg hK hTg hRr hB hfin;go_upto_region 39 with fail
      refine ae (p:=fun y=>Code.wp _ _ _ _ y) (fun W6=>aa W6 w5.heap.size .u8 120 (List.replicate 16 0)∧Below w5.heap.size w5 W6) ⟨hA0,hBA⟩ ?_;clear hA0 hBA;rintro W6 ⟨hA0,hBA⟩
      go_wp2_with fail
      go_loopw [19] (fun jv wq=>∃j:Nat,j≤16∧jv=.int .i64 j∧aa wq w5.heap.size .u8 120 (S.take j++List.replicate (16 - j) 0)∧Below w5.heap.size w5 wq) (fun jv _=>16 - (intOf jv).toNat)
      case atStart=>exact ⟨0,by omega,rfl,hA0,hBA⟩
      case round=>
       clear hA0 hBA;obtain ⟨j,hj,rfl,hA,hBq⟩:=hrel
       by_cases hjl:j<16
       · have hst:=HFS.out j hjl
         have cs:=HCX.out wr hBq j (by omega);have sb:=HSb.out j;have hAl:(S.take j++List.replicate (16 - j) 0).length=16:=by rw [List.length_append,List.length_take,List.length_replicate];omega
         obtain ⟨u,hu⟩:∃q,S[j]?.getD 0=q:=⟨_,rfl⟩
         rw [hu] at hst cs sb
         obtain ⟨Z,hZ⟩:∃q,S.take j++List.replicate (16 - j) 0=q:=⟨_,rfl⟩
         rw [hZ] at hst hA hAl
         have HST:ac (Z.set j u=S.take (j+1)++List.replicate (16 - (j+1)) 0):=⟨hst⟩
         have ca:=hA.cell j (by omega);have fa:=hA.frozen j;have hj0:(0:Int)≤(j:Int):=by omega
         have hj16:(j:Int)<16:=by omega
         have hjN:(j:Int)<(N:Int):=by omega
         have hw8:IntKind.u8.wrap u=u:=by rw [IntKind.wrap_u8];omega
         clear hst hu hZ;go_wp2;go_roundw
         case rel=>exact ⟨j+1,by omega,by go_num,by rw [←HST.out];exact hA.set j _,hBq.setCell (by show w5.heap.size≤w5.heap.size;exact Nat.le_refl _) _⟩
         case measure=>simp [intOf];omega
       · obtain rfl:j=16:=by omega
         rw [HFin.out,Nat.sub_self,List.replicate_zero,List.append_nil] at hA
         have hT6:=hT5.below hBq hT5.lt;have h5w:=hBw.size
         go_wp2_with (first
          |(refine am rfl 120 _ rfl _ rfl hA Tryz.underlying120 eD hTl ?_)
          |(refine aj rfl 120 _ _ rfl _ rfl rfl hT6 (by rw [hTl];exact eD) (by simp [hTl]) ?_))
         refine bodyPost_ret (ak (Tryz.results90) _ rfl (hT6.setRow _) Tryz.underlying120 eD hTl) rfl ⟨rfl,?_⟩;exact below_setRow (hBw.trans (hBq.mono h5w)) (by omega) _
end Go.Proofs.YtbdhfbglagdiaaaGreatDoor
