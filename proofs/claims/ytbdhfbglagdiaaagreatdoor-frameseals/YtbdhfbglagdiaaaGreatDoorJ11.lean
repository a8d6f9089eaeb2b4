/- Pa Pb Pc -/
import Derived.Test.YtbdhfbglagdiaaaGreatDoorJ02
import Derived.OwnWalk
import Derived.Laws.BitsLemmas
import Derived.Laws.Bits64
import Derived.Laws.Bits64b
namespace Go.Proofs.YtbdhfbglagdiaaaGreatDoor
open Go.RowKit
set_option maxRecDepth 20000
set_option maxHeartbeats 1000000
set_option linter.unusedSimpArgs false
theorem grown_set {w w':World} {g:Nat} (h:w.grownBy w' (some g)) (j:Nat) (v:Value):w.grownBy (w'.setCell ⟨g,j,none⟩ v) (some g):=
 h.trans ⟨rfl,rfl,rfl,by simp [World.setCell],fun k _ hk=>heap_setCell_other w' _ k _ (fun e=>hk (by rw [e]))⟩
theorem grown_drew {w w':World} {r:Option Nat} (h:w.grownBy w' r):w.grownBy w'.drew r:=⟨h.os,h.tape,h.output,by simpa using h.size,fun k a b=>by rw [heap_drew];exact h.block k a b⟩
theorem gt {w w':World} {g b:Nat} (h:w.grownBy w' (some g)) (hb:w.heap.size≤b) (j:Nat) (v:Value):w.grownBy (w'.setCell ⟨b,j,none⟩ v) (some g):=
 ⟨h.os,h.tape,h.output,by simpa [World.setCell] using h.size,fun k hk hne=>by rw [heap_setCell_other w' _ k _ (by show k≠b;omega)];exact h.block k hk hne⟩
theorem sO (g:Nat) (t:TypeId) (L:List Int) (w:World) (h:aa w g .u64 t L) (hl:5≤L.length):
    Calls Tryz.prog 185 #[.pointer (some ⟨g,0,none⟩)] w fun e w'=>e=.returned (.int .u64 (L[4]?.getD 0 / 67108864))∧aa w' g .u64 t (L.set 4 (bits .and .u64 (L[4]?.getD 0) 67108863))∧w.grownBy w' (some g):=by
 have c4:=h.cell 4 (by omega);have f4:=h.frozen 4;obtain ⟨x,hx⟩:∃x,L[4]?.getD 0=x:=⟨_,rfl⟩
 rw [hx] at c4 ⊢
 clear hx;go_enter Tryz.func185,Tryz.ntmps185;go_upto_region 3 with fail
 refine ag (fun w'=>w'.cell? ⟨g,4,none⟩=some (.int .u64 x)) 8 (by kernel_rfl) ?_;have hS:w.drew.cell? ⟨g,4,none⟩=some (.int .u64 x):=by simpa using c4
 have f4':w.drew.frozen? ⟨g,4,none⟩=false:=by simpa using f4
 refine gaA 0 _ hS ?_;simp only [zp];refine gaA 1 _ hS ?_;simp only [zp];refine gaA 2 _ hS ?_;simp only [zp];refine gaA 3 _ hS ?_;simp only [zp];refine gaA 6 _ hS ?_;simp only [zp];refine grA 4 _ hS ?_;simp only [zp];refine gaA 5 _ hS ?_;simp only [zp];refine gaA 7 _ hS ?_;simp only [zp];refine zw 8 fun K hK=>?_
 go_simp;refine hK.out _ _ zn ?_;clear hK K;refine al (by kernel_rfl) ?_ _;go_wp2;go_ret;exact ⟨rfl,(h.drew).set 4 _,grown_set (grown_drew (World.grownBy.refl w _)) 4 _⟩
def carryK (L:List Int):Nat→List Int
 |0=>L
 |i+1=>((carryK L i).set (i+1) (((carryK L i)[i+1]?.getD 0+(carryK L i)[i]?.getD 0 / 67108864) % 18446744073709551616)).set i (bits .and .u64 ((carryK L i)[i]?.getD 0) 67108863)
theorem carryK_length (L:List Int) (i:Nat):(carryK L i).length=L.length:=by
 induction i with
 |zero=>rfl
 |succ i ih=>simp [carryK,ih]
theorem ko (g:Nat) (t:TypeId) (L:List Int) (w:World) (h:aa w g .u64 t L) (hl:5≤L.length):
    Calls Tryz.prog 176 #[.pointer (some ⟨g,0,none⟩)] w fun e w'=>(∃r,e=.returned r)∧aa w' g .u64 t (carryK L 4)∧w.grownBy w' (some g):=by
 go_enter Tryz.func176,Tryz.ntmps176
 go_wp2_with fail
 go_loopw [3] (fun i wr=>∃k:Nat,k≤4∧i=.int .i64 k∧aa wr g .u64 t (carryK L k)∧w.grownBy wr (some g)) (fun i _=>4 - (intOf i).toNat)
 case atStart=>exact ⟨0,by omega,rfl,h,World.grownBy.refl _ _⟩
 case round=>
  obtain ⟨k,hk,rfl,hH,hG⟩:=hrel
  by_cases hlt:k<4
  · have hKl:=carryK_length L k
    have HS:ac (carryK L (k+1)=((carryK L k).set (k+1) (((carryK L k)[k+1]?.getD 0+(carryK L k)[k]?.getD 0 / 67108864) % 18446744073709551616)).set k (bits .and .u64 ((carryK L k)[k]?.getD 0) 67108863)):=⟨rfl⟩
    obtain ⟨M,hM⟩:∃M,carryK L k=M:=⟨_,rfl⟩
    rw [hM] at hH hKl HS
    have c1:=hH.cell k (by omega);have c2:=hH.cell (k+1) (by omega);have f1:=hH.frozen k;have f2:=hH.frozen (k+1);obtain ⟨x,hx⟩:∃x,M[k]?.getD 0=x:=⟨_,rfl⟩
    obtain ⟨y,hy⟩:∃y,M[k+1]?.getD 0=y:=⟨_,rfl⟩
    rw [hx] at c1 HS
    rw [hy] at c2 HS
    have hk0:(0:Int)≤(k:Int):=by omega
    have hk1:(k:Int)<4:=by omega
    have hk2:(k:Int)+1<5:=by omega
    have hk5:(k:Int)<5:=by omega
    have hw:IntKind.i64.wrap ((k:Int)+1)=(k:Int)+1:=by rw [IntKind.wrap_i64];omega
    have hk01:(0:Int)≤(k:Int)+1:=by omega
    have htn:((k:Int)+1).toNat=k+1:=by omega
    have HX:ac (M[k]?.getD 0=x):=⟨hx⟩
    clear hM hx hy;go_upto_region 3 with fail
    refine ag (fun w'=>w'.cell? ⟨g,k,none⟩=some (.int .u64 x)∧w'.cell? ⟨g,k+1,none⟩=some (.int .u64 y)) 15 (by kernel_rfl) ?_;have hH1:=hH.drew;have hS:wr.drew.cell? ⟨g,k,none⟩=some (.int .u64 x)∧wr.drew.cell? ⟨g,k+1,none⟩=some (.int .u64 y):=⟨by simpa using c1,by simpa using c2⟩
    have f2':=hH1.frozen (k+1);have c2':=hS.2;refine gaA 0 _ hS ?_;simp only [zp];refine gaA 1 _ hS ?_;simp only [zp];refine gaA 2 _ hS ?_;simp only [zp];refine gaA 3 _ hS ?_;simp only [zp];refine gaA 4 _ hS ?_;simp only [zp];refine gaA 6 _ hS ?_;simp only [zp];refine gaA 7 _ hS ?_;simp only [zp];refine gaA 8 _ hS ?_;simp only [zp];refine gaA 9 _ hS ?_;simp only [zp];refine gaA 13 _ hS ?_;simp only [zp];refine grA 5 _ hS ?_;simp only [zp];refine grA 10 _ hS ?_;simp only [zp];refine gaA 11 _ hS ?_;simp only [zp];refine gaA 12 _ hS ?_;simp only [zp];refine gaA 14 _ hS ?_;simp only [zp];refine zw 15 fun K hK=>?_
    go_simp;refine hK.out _ _ zn ?_;clear hK K;refine al (by kernel_rfl) ?_ _;go_upto_region 4 with fail
    refine af (p:=fun y=>Code.wp _ _ _ _ y) (fun W1=>aa W1 g .u64 t (M.set (k+1) ((y+x / 67108864) % 18446744073709551616))∧w.grownBy W1 (some g)) ⟨hH1.set (k+1) _,grown_set (grown_drew hG) _ _⟩ ?_;clear hS f2' c2' hH1 c1 c2 f1 f2 hH hG;rintro W1 ⟨hH,hG⟩;obtain ⟨M1,hM1⟩:∃q,M.set (k+1) ((y+x / 67108864) % 18446744073709551616)=q:=⟨_,rfl⟩
    have hx1:M1[k]?.getD 0=x:=by rw [←hM1,List.getElem?_set_ne (by omega)];exact HX.out
    have hM1l:M1.length=L.length:=by rw [←hM1,List.length_set];exact hKl
    rw [hM1] at hH HS
    clear hM1;have hH1:=hH.drew;have c1:=hH1.cell k (by omega);have f1:=hH1.frozen k;rw [hx1] at c1
    refine ag (fun w'=>w'.cell? ⟨g,k,none⟩=some (.int .u64 x)) 8 (by kernel_rfl) ?_;have hS:W1.drew.cell? ⟨g,k,none⟩=some (.int .u64 x):=c1;refine gaA 0 _ hS ?_;simp only [zp];refine gaA 1 _ hS ?_;simp only [zp];refine gaA 2 _ hS ?_;simp only [zp];refine gaA 3 _ hS ?_;simp only [zp];refine gaA 6 _ hS ?_;simp only [zp];refine grA 4 _ hS ?_;simp only [zp];refine gaA 5 _ hS ?_;simp only [zp];refine gaA 7 _ hS ?_;simp only [zp];refine zw 8 fun K hK=>?_
    go_simp;refine hK.out _ _ zn ?_;clear hK K;refine al (by kernel_rfl) ?_ _;go_wp2;go_roundw
    case rel=>exact ⟨k+1,by omega,by go_num,by rw [HS.out];exact hH1.set k _,grown_set (grown_drew hG) _ _⟩
    case measure=>simp [intOf];omega
  · obtain rfl:k=4:=by omega
    go_wp2
    go_end0
    exact ⟨⟨_,rfl⟩,hH,hG⟩
def ic (L:List Int):List Int:=
 let C:=(carryK L 4).set 4 (bits .and .u64 ((carryK L 4)[4]?.getD 0) 67108863)
 let C2:=C.set 0 ((C[0]?.getD 0+5*((carryK L 4)[4]?.getD 0 / 67108864) % 18446744073709551616) % 18446744073709551616)
 let C3:=C2.set 1 ((C2[1]?.getD 0+C2[0]?.getD 0 / 67108864) % 18446744073709551616)
 C3.set 0 (bits .and .u64 (C3[0]?.getD 0) 67108863)
theorem wi (g:Nat) (t:TypeId) (L:List Int) (w:World) (h:aa w g .u64 t L) (hl:5≤L.length):
    Calls Tryz.prog 184 #[.pointer (some ⟨g,0,none⟩)] w fun e w'=>(∃r,e=.returned r)∧aa w' g .u64 t (ic L)∧w.grownBy w' (some g):=by
 have hca:=ko g t L w h hl;have hcl:=carryK_length L 4;have hF:∃F,ic L=F:=⟨_,rfl⟩
 obtain ⟨F,hF⟩:=hF;have HF:ac (ic L=F):=⟨hF⟩
 rw [hF];unfold ic at hF
 obtain ⟨C0,hC0⟩:∃q,carryK L 4=q:=⟨_,rfl⟩
 rw [hC0] at hca hcl hF
 have hcu:=fun wx (hx:aa wx g .u64 t C0)=>sO g t C0 wx hx (by omega)
 obtain ⟨ov,hov⟩:∃q,C0[4]?.getD 0 / 67108864=q:=⟨_,rfl⟩
 rw [hov] at hcu hF
 obtain ⟨C,hC⟩:∃q,C0.set 4 (bits .and .u64 (C0[4]?.getD 0) 67108863)=q:=⟨_,rfl⟩
 have hCl:C.length=L.length:=by rw [←hC,List.length_set,hcl]
 rw [hC] at hcu hF
 dsimp only at hF
 obtain ⟨x0,hx0⟩:∃q,C[0]?.getD 0=q:=⟨_,rfl⟩
 rw [hx0] at hF
 obtain ⟨C2,hC2⟩:∃q,C.set 0 ((x0+5*ov % 18446744073709551616) % 18446744073709551616)=q:=⟨_,rfl⟩
 have hC2l:C2.length=L.length:=by rw [←hC2,List.length_set,hCl]
 rw [hC2] at hF
 obtain ⟨y0,hy0⟩:∃q,C2[0]?.getD 0=q:=⟨_,rfl⟩
 obtain ⟨y1,hy1⟩:∃q,C2[1]?.getD 0=q:=⟨_,rfl⟩
 rw [hy0,hy1] at hF
 obtain ⟨C3,hC3⟩:∃q,C2.set 1 ((y1+y0 / 67108864) % 18446744073709551616)=q:=⟨_,rfl⟩
 have hC3l:C3.length=L.length:=by rw [←hC3,List.length_set,hC2l]
 rw [hC3] at hF
 obtain ⟨z0,hz0⟩:∃q,C3[0]?.getD 0=q:=⟨_,rfl⟩
 rw [hz0] at hF
 have HF1:ac (C3.set 0 (bits .and .u64 z0 67108863)=F):=⟨hF⟩
 have HC2:ac (C.set 0 ((x0+5*ov % 18446744073709551616) % 18446744073709551616)=C2):=⟨hC2⟩
 have HC3:ac (C2.set 1 ((y1+y0 / 67108864) % 18446744073709551616)=C3):=⟨hC3⟩
 clear hF hC2 hC3 hC hC0 hov;go_enter Tryz.func184,Tryz.ntmps184;go_upto_region 2 with (first
  |(go_at_call 176;refine hca.mono ?_;rintro e w1 ⟨⟨r,rfl⟩,h1,g1⟩)
  |(go_at_call 185;refine (hcu _ h1).mono ?_;rintro e w2 ⟨rfl,h2,g2⟩))
 have g12:=g1.trans g2;clear hca hcu g1 g2 h1;have h3:=h2.drew;have c1:=h3.cell 0 (by omega);have f1:=h3.frozen 0;rw [hx0] at c1
 refine ag (fun w'=>w'.cell? ⟨g,0,none⟩=some (.int .u64 x0)) 9 (by kernel_rfl) ?_;have hS:w2.drew.cell? ⟨g,0,none⟩=some (.int .u64 x0):=c1;refine gaA 0 _ hS ?_;simp only [zp];refine gaA 1 _ hS ?_;simp only [zp];refine gaA 2 _ hS ?_;simp only [zp];refine gaA 4 _ hS ?_;simp only [zp];refine gaA 5 _ hS ?_;simp only [zp];refine gaA 7 _ hS ?_;simp only [zp];refine grA 3 _ hS ?_;simp only [zp];refine gaA 6 _ hS ?_;simp only [zp];refine gaA 8 _ hS ?_;simp only [zp];refine zw 9 fun K hK=>?_
 go_simp;refine hK.out _ _ zn ?_;clear hK K;refine al (by kernel_rfl) ?_ _;go_upto_region 3 with fail
 refine af (p:=fun y=>Code.wp _ _ _ _ y) (fun W1=>aa W1 g .u64 t C2∧w.grownBy W1 (some g)) ⟨by rw [←HC2.out];exact h3.set 0 _,grown_set (grown_drew g12) _ _⟩ ?_;clear hS c1 f1 h3 h2 g12;rintro W1 ⟨h2,g2⟩;have h3:=h2.drew;have c1:=h3.cell 0 (by omega);have c2:=h3.cell 1 (by omega);have f2:=h3.frozen 1;rw [hy0] at c1
 rw [hy1] at c2
 refine ag (fun w'=>w'.cell? ⟨g,0,none⟩=some (.int .u64 y0)∧w'.cell? ⟨g,1,none⟩=some (.int .u64 y1)) 12 (by kernel_rfl) ?_;have hS:=And.intro c1 c2;refine gaA 0 _ hS ?_;simp only [zp];refine gaA 1 _ hS ?_;simp only [zp];refine gaA 2 _ hS ?_;simp only [zp];refine gaA 4 _ hS ?_;simp only [zp];refine gaA 5 _ hS ?_;simp only [zp];refine gaA 6 _ hS ?_;simp only [zp];refine gaA 10 _ hS ?_;simp only [zp];refine grA 3 _ hS ?_;simp only [zp];refine grA 7 _ hS ?_;simp only [zp];refine gaA 8 _ hS ?_;simp only [zp];refine gaA 9 _ hS ?_;simp only [zp];refine gaA 11 _ hS ?_;simp only [zp];refine zw 12 fun K hK=>?_
 go_simp;refine hK.out _ _ zn ?_;clear hK K;refine al (by kernel_rfl) ?_ _;go_upto_region 4 with fail
 refine af (p:=fun y=>Code.wp _ _ _ _ y) (fun W1=>aa W1 g .u64 t C3∧w.grownBy W1 (some g)) ⟨by rw [←HC3.out];exact h3.set 1 _,grown_set (grown_drew g2) _ _⟩ ?_;clear hS c1 c2 f2 h3 h2 g2;rintro W2 ⟨h2,g2⟩;have h3:=h2.drew;have c1:=h3.cell 0 (by omega);have f1:=h3.frozen 0;rw [hz0] at c1
 refine ag (fun w'=>w'.cell? ⟨g,0,none⟩=some (.int .u64 z0)) 7 (by kernel_rfl) ?_;have hS:W2.drew.cell? ⟨g,0,none⟩=some (.int .u64 z0):=c1;refine gaA 0 _ hS ?_;simp only [zp];refine gaA 1 _ hS ?_;simp only [zp];refine gaA 2 _ hS ?_;simp only [zp];refine gaA 5 _ hS ?_;simp only [zp];refine grA 3 _ hS ?_;simp only [zp];refine gaA 4 _ hS ?_;simp only [zp];refine gaA 6 _ hS ?_;simp only [zp];refine zw 7 fun K hK=>?_
 go_simp;refine hK.out _ _ zn ?_;clear hK K;refine al (by kernel_rfl) ?_ _;go_wp2
 go_end0
 exact ⟨⟨_,rfl⟩,by rw [←HF1.out];exact h3.set 0 _,grown_set (grown_drew g2) _ _⟩
def addK (L m:List Int):Nat→List Int
 |0=>L
 |i+1=>(addK L m i).set i (((addK L m i)[i]?.getD 0+m[i]?.getD 0) % 18446744073709551616)
theorem addK_length (L m:List Int) (i:Nat):(addK L m i).length=L.length:=by
 induction i with
 |zero=>rfl
 |succ i ih=>simp [addK,ih]
theorem sj (g:Nat) (t:TypeId) (L m:List Int) (w:World) (h:aa w g .u64 t L) (hl:5≤L.length) (hm:m.length=5):
    Calls Tryz.prog 173 #[.pointer (some ⟨g,0,none⟩),.agg (row .u64 m)] w fun e w'=>(∃r,e=.returned r)∧aa w' g .u64 t (addK L m 5)∧w.grownBy w' (some g):=by
 have hgl:=h.lt;go_enter Tryz.func173,Tryz.ntmps173
 go_wp2_with fail
 go_loopw [5] (fun i wr=>∃k:Nat,k≤5∧i=.int .i64 k∧aa wr g .u64 t (addK L m k)∧aa wr w.heap.size .u64 190 m∧w.grownBy wr (some g)) (fun i _=>5 - (intOf i).toNat)
 case atStart=>exact ⟨0,by omega,rfl,h.alloc _,aa.new w .u64 190 m,World.grownBy_alloc _ _ _⟩
 case round=>
  obtain ⟨k,hk,rfl,hH,hM,hG⟩:=hrel
  by_cases hlt:k<5
  · have hKl:=addK_length L m k
    have HS:ac (addK L m (k+1)=(addK L m k).set k (((addK L m k)[k]?.getD 0+m[k]?.getD 0) % 18446744073709551616)):=⟨rfl⟩
    obtain ⟨A,hA⟩:∃M,addK L m k=M:=⟨_,rfl⟩
    rw [hA] at hH hKl HS
    have hH1:=hH.drew;have hM1:=hM.drew;have c1:=hH1.cell k (by omega);have c2:=hM1.cell k (by omega);have f1:=hH1.frozen k;obtain ⟨x,hx⟩:∃x,A[k]?.getD 0=x:=⟨_,rfl⟩
    obtain ⟨y,hy⟩:∃y,m[k]?.getD 0=y:=⟨_,rfl⟩
    rw [hx] at c1 HS
    rw [hy] at c2 HS
    have hk0:(0:Int)≤(k:Int):=by omega
    have hk5:(k:Int)<5:=by omega
    clear hA hx hy;go_upto_region 4 with fail
    refine ag (fun w'=>w'.cell? ⟨g,k,none⟩=some (.int .u64 x)∧w'.cell? ⟨w.heap.size,k,none⟩=some (.int .u64 y)) 11 (by kernel_rfl) ?_;have hS:=And.intro c1 c2;refine gaA 0 _ hS ?_;simp only [zp];refine gaA 1 _ hS ?_;simp only [zp];refine gaA 2 _ hS ?_;simp only [zp];refine gaA 3 _ hS ?_;simp only [zp];refine gaA 5 _ hS ?_;simp only [zp];refine gaA 6 _ hS ?_;simp only [zp];refine gaA 9 _ hS ?_;simp only [zp];refine grA 4 _ hS ?_;simp only [zp];refine grA 7 _ hS ?_;simp only [zp];refine gaA 8 _ hS ?_;simp only [zp];refine gaA 10 _ hS ?_;simp only [zp];refine zw 11 fun K hK=>?_
    go_simp;refine hK.out _ _ zn ?_;clear hK K;refine al (by kernel_rfl) ?_ _;go_wp2;go_roundw
    case rel=>exact ⟨k+1,by omega,by go_num,by rw [HS.out];exact hH1.set k _,hM1.setOther _ _ (by simp;omega),grown_set (grown_drew hG) _ _⟩
    case measure=>simp [intOf];omega
  · obtain rfl:k=5:=by omega
    go_wp2
    go_end0
    exact ⟨⟨_,rfl⟩,hH,hG⟩
def dN (z:List Int):Nat→Int
 |0=>0
 |i+1=>bits .or .u64 (dN z i) (z[i]?.getD 0 % 18446744073709551616*2 ^ (8*i) % 18446744073709551616)
theorem pt (b off cap:Nat) (z:List Int) (w:World) (hc:∀j,j<8→w.cell? ⟨b,off+j,none⟩=some (.int .u8 (z[j]?.getD 0))):
    Calls Tryz.prog 171 #[.slice (some ⟨b,off,none⟩) 8 cap] w fun e w'=>e=.returned (.int .u64 (dN z 8))∧w'=w:=by
 go_enter Tryz.func171,Tryz.ntmps171;go_wp2
 go_loop [3,5] (fun x i=>∃k:Nat,k≤8∧i=.int .i64 k∧x=.int .u64 (dN z k)) (fun _ i=>8 - (intOf i).toNat)
 case atStart=>exact ⟨0,by omega,rfl,rfl⟩
 case round=>
  obtain ⟨k,hk,rfl,rfl⟩:=hrel
  by_cases hlt:k<8
  · have c:=hc k hlt
    have HS:ac (dN z (k+1)=bits .or .u64 (dN z k) (z[k]?.getD 0 % 18446744073709551616*2 ^ (8*k) % 18446744073709551616)):=⟨rfl⟩
    obtain ⟨p,hp⟩:∃p,z[k]?.getD 0=p:=⟨_,rfl⟩
    obtain ⟨X,hX⟩:∃p,dN z k=p:=⟨_,rfl⟩
    rw [hp] at c HS
    rw [hX] at HS ⊢
    clear hp hX;have hkc:k=0∨k=1∨k=2∨k=3∨k=4∨k=5∨k=6∨k=7:=by omega
    clear hlt hk hc
    rcases hkc with rfl|rfl|rfl|rfl|rfl|rfl|rfl|rfl
    all_goals
     try rw [Nat.add_zero] at c
     go_wp2
     go_round
     case rel=>exact ⟨_,by decide,rfl,by rw [HS.out];simp [IntKind.wrap_u64]⟩
     case measure=>simp [intOf]
  · obtain rfl:k=8:=by omega
    go_wp2;go_ret;exact ⟨rfl,rfl⟩
theorem jn:(Tryz.prog.info? 193).map (·.size)=some 17:=by kernel_rfl
theorem oL:(Tryz.prog.info? 190).map (·.size)=some 5:=by kernel_rfl
theorem ej:(Tryz.prog.info? 119).map (·.size)=some 16:=by kernel_rfl
theorem oI (z:List Int) (i j:Nat):(z.drop i)[j]?.getD 0=z[i+j]?.getD 0:=by rw [List.getElem?_drop]
def gQ (z:List Int):List Int:=
 let low:=dN z 8
 let high:=dN (z.drop 8) 8
 let top:=z[16]?.getD 0 % 18446744073709551616
 [bits .and .u64 low 67108863,bits .and .u64 (low / 67108864) 67108863,bits .and .u64 (bits .or .u64 (low / 4503599627370496) (high*4096 % 18446744073709551616)) 67108863,bits .and .u64 (high / 16384) 67108863,bits .or .u64 (high / 1099511627776) (top*16777216 % 18446744073709551616)]
theorem gJ (z:List Int) (w:World) (hz:z.length=17):
    Calls Tryz.prog 153 #[.agg (row .u8 z)] w fun e w'=>e=.returned (.agg (row .u64 (gQ z)))∧Below w.heap.size w w':=by
 have h0:aa (w.alloc (.cells (row .u8 z) 193)) w.heap.size .u8 193 z:=aa.new w .u8 _ z;have hN:∃l,gQ z=l:=⟨_,rfl⟩
 obtain ⟨l,hN⟩:=hN;rw [hN];unfold gQ at hN
 have h1:=fun (wx:World) (hx:aa wx w.heap.size .u8 193 z)=>pt w.heap.size 0 17 z wx (fun j hj=>by rw [Nat.zero_add];exact hx.cell j (by omega))
 have h2:=fun (wx:World) (hx:aa wx w.heap.size .u8 193 z)=>pt w.heap.size 8 9 (z.drop 8) wx (fun j hj=>by rw [oI];exact hx.cell (8+j) (by omega))
 obtain ⟨A,hA⟩:∃q,dN z 8=q:=⟨_,rfl⟩
 obtain ⟨B,hB⟩:∃q,dN (z.drop 8) 8=q:=⟨_,rfl⟩
 obtain ⟨T,hT⟩:∃q,z[16]?.getD 0=q:=⟨_,rfl⟩
 rw [hA] at h1 hN
 rw [hB] at h2 hN
 rw [hT] at hN
 dsimp only at hN
 have HN:ac (l=[bits .and .u64 A 67108863,bits .and .u64 (A / 67108864) 67108863,bits .and .u64 (bits .or .u64 (A / 4503599627370496) (IntKind.u64.wrap (B*4096))) 67108863,bits .and .u64 (B / 16384) 67108863,bits .or .u64 (B / 1099511627776) (IntKind.u64.wrap (IntKind.u64.wrap T*16777216))]):=⟨by rw [←hN];simp only [IntKind.wrap_u64]⟩
 have hll:l.length=5:=by rw [HN.out];rfl
 clear hN hA hB;go_enter Tryz.func153,Tryz.ntmps153;go_upto_region 1 with fail
 refine af (p:=fun y=>Code.wp _ _ _ _ y) (fun W0=>Below w.heap.size w W0∧W0.heap.size=w.heap.size+2∧aa W0 w.heap.size .u8 193 z∧aa W0 (w.heap.size+1) .u64 190 (List.replicate 5 0)) ⟨((Below.refl _ _).alloc (Nat.le_refl _) _).alloc (by simp) _,by simp,h0.alloc _,?_⟩ ?_
 · have:=aa.new (w.alloc (.cells (row .u8 z) 193)) .u64 190 (List.replicate 5 0)
   rw [World.size_alloc] at this
   exact this
 clear h0;rintro W0 ⟨hB0,hs0,hz0,hR0⟩;have hz1:=hz0.drew;have c16:=hz1.cell 16 (by omega);rw [hT] at c16
 refine ag (fun w'=>w'.cell? ⟨w.heap.size,16,none⟩=some (.int .u8 T)) 9 (by kernel_rfl) ?_;have hS:W0.drew.cell? ⟨w.heap.size,16,none⟩=some (.int .u8 T):=c16;refine gaA 0 _ hS ?_;simp only [zp];refine gaA 2 _ hS ?_;simp only [zp];refine gaA 4 _ hS ?_;simp only [zp];refine grA 5 _ hS ?_;simp only [zp];refine gaA 6 _ hS ?_;simp only [zp];refine zw 1 fun K hK=>?_
 go_wp2_with (go_at_call 171;refine (h1 _ hz1).mono ?_;rintro e w1 ⟨rfl,rfl⟩)
 refine hK.out _ _ (fun _=>hS) ?_;clear hK K;refine zw 3 fun K hK=>?_
 go_wp2_with (go_at_call 171;refine (h2 _ hz1).mono ?_;rintro e w1 ⟨rfl,rfl⟩)
 refine hK.out _ _ (fun _=>hS) ?_;clear hK K;refine gaA 7 _ hS ?_;simp only [zp];refine gaA 8 _ hS ?_;simp only [zp];refine zw 9 fun K hK=>?_
 go_simp;refine hK.out _ _ zn ?_;clear hK K;refine al (by kernel_rfl) ?_ _;have hR1:=hR0.drew
 go_wp2_with (refine ah rfl 190 _ _ rfl _ rfl (k:=.u64) (l:=l) (by rw [HN.out];rfl) hR1 (by rw [hll];exact oL) (by simp [hll]) ?_)
 refine bodyPost_ret (aj (Tryz.results153) _ rfl (hR1.setRow _) Tryz.underlying190 oL hll) rfl ⟨rfl,?_⟩;exact below_setRow (hB0.drew) (by omega) _
theorem o5 (z:List Int) (w:World) (hz:z.length=16):
    Calls Tryz.prog 154 #[.agg (row .u8 z)] w fun e w'=>e=.returned (.agg (row .u8 (z++ [0])))∧Below w.heap.size w w':=by
 have h0:aa (w.alloc (.cells (row .u8 z) 119)) w.heap.size .u8 119 z:=aa.new w .u8 _ z;have hl:(z++ [0]).length=17:=by simp [hz]
 have HZ:ac (z++List.replicate (17 - z.length) 0=z++ [0]):=⟨by rw [hz];rfl⟩
 go_enter Tryz.func154,Tryz.ntmps154;go_upto_region 2 with fail
 refine af (p:=fun y=>Code.wp _ _ _ _ y) (fun W0=>Below w.heap.size w W0∧aa W0 w.heap.size .u8 119 z∧aa W0 (w.heap.size+1) .u8 193 (List.replicate 17 0)∧aa W0 (w.heap.size+1+1) .u8 193 (List.replicate 17 0)) ⟨(((Below.refl _ _).alloc (Nat.le_refl _) _).alloc (by simp) _).alloc (by simp;omega) _,(h0.alloc _).alloc _,?_,?_⟩ ?_
 · have:=aa.new (w.alloc (.cells (row .u8 z) 119)) .u8 193 (List.replicate 17 0)
   rw [World.size_alloc] at this
   exact this.alloc _
 · have:=aa.new ((w.alloc (.cells (row .u8 z) 119)).alloc (.cells (row .u8 (List.replicate 17 0)) 193)) .u8 193 (List.replicate 17 0)
   rw [World.size_alloc,World.size_alloc] at this
   exact this
 clear h0;rintro W0 ⟨hB0,hz0,hR0,hA0⟩;have hcp:=dc W0.drew (w.heap.size+1+1) 17 (some ⟨w.heap.size,0,none⟩) 16 16 z (hz0.drew.bytes hz.symm (by omega)) hA0.drew (by omega);rw [HZ.out] at hcp
 refine ag (fun _=>True) 2 (by kernel_rfl) ?_;have hS:True:=trivial;refine gaA 0 _ hS ?_;simp only [zp];refine gaA 1 _ hS ?_;simp only [zp];refine zw 2 fun K hK=>?_
 go_simp;refine hK.out _ _ zn ?_;clear hK K;refine al (by kernel_rfl) ?_ _;go_upto_region 3 with fail
 refine af (p:=fun y=>Code.wp _ _ _ _ y) (fun W1=>Below w.heap.size w W1∧aa W1 (w.heap.size+1) .u8 193 (List.replicate 17 0)∧aa W1 (w.heap.size+1+1) .u8 193 (z++ [0])) ⟨below_setRow hB0.drew (by omega) _,hR0.drew.setRowOther _ (by omega),hA0.drew.setRow _⟩ ?_;clear hcp hA0 hR0 hz0 hB0 hS HZ;rintro W1 ⟨hB,hR,hA⟩
 go_wp2_with (first
  |(refine am rfl 193 _ rfl _ rfl hA Tryz.underlying193 jn hl ?_)
  |(refine ah rfl 193 _ _ rfl _ rfl rfl hR (by rw [hl];exact jn) (by simp [hl]) ?_))
 refine bodyPost_ret (aj (Tryz.results154) _ rfl (hR.setRow _) Tryz.underlying193 jn hl) rfl ⟨rfl,?_⟩;exact below_setRow hB (by omega) _
set_option maxHeartbeats 4000000
theorem wG:(Tryz.prog.info? 165).map (·.size)=some 1:=by kernel_rfl
theorem vx {l:List Int} (h:l.length=5):∃a b c d e,l=[a,b,c,d,e]:=by
 match l,h with
 |[a,b,c,d,e],_=>exact ⟨a,b,c,d,e,rfl⟩
theorem pn {l:List Int} (h:5≤l.length):∃a b c d e r,l=a::b::c::d::e::r:=by
 match l,h with
 |a::b::c::d::e::r,_=>exact ⟨a,b,c,d,e,r,rfl⟩
def jw (p:List Int) (x y:Int) (i j:Nat):List Int:=
 if i+j<5 then p.set (i+j) ((p[i+j]?.getD 0+x*y % 18446744073709551616) % 18446744073709551616)
 else p.set (i+j - 5) ((p[i+j - 5]?.getD 0+5*x % 18446744073709551616*y % 18446744073709551616) % 18446744073709551616)
theorem nQ (p:List Int) (x y:Int) (i j:Nat):(jw p x y i j).length=p.length:=by unfold jw;split<;>simp
def eK (x:Int) (m:List Int) (i:Nat) (p:List Int):Nat→List Int
 |0=>p
 |j+1=>jw (eK x m i p j) x (m[j]?.getD 0) i j
theorem jc (x:Int) (m:List Int) (i:Nat) (p:List Int) (j:Nat):(eK x m i p j).length=p.length:=by
 induction j with
 |zero=>rfl
 |succ j ih=>simp only [eK,nQ,ih]
def eM (L m:List Int):Nat→List Int
 |0=>List.replicate 5 0
 |i+1=>eK (L[i]?.getD 0) m i (eM L m i) 5
theorem fP (L m:List Int) (i:Nat):(eM L m i).length=5:=by
 induction i with
 |zero=>rfl
 |succ i ih=>simp only [eM,jc,ih]
def fQ (L m:List Int):List Int:=ic (eM L m 5++L.drop 5)
theorem tF (g:Nat) (t:TypeId) (L m:List Int) (w:World) (h:aa w g .u64 t L) (hl:5≤L.length) (hm:m.length=5):
    Calls Tryz.prog 174 #[.pointer (some ⟨g,0,none⟩),.agg (row .u64 m)] w fun e w'=>(∃r,e=.returned r)∧aa w' g .u64 t (fQ L m)∧w.grownBy w' (some g):=by
 have hgl:=h.lt;have hix:∀(j:Nat),j<5→∀wx,(Instr.index 190 (.agg (row .u64 m)) (.int .i64 j)).run Tryz.prog wx=.ok (.int .u64 (m[j]?.getD 0)) wx:=fun j hj wx=>ce wx 190 165 5 .u64 m j Tryz.underlying190 Tryz.underlying165 wG hm hj
 go_enter Tryz.func174,Tryz.ntmps174;go_upto_region 2 with fail
 refine af (p:=fun y=>Code.wp _ _ _ _ y) (fun W0=>w.grownBy W0 (some g)∧aa W0 g .u64 t L∧aa W0 w.heap.size .u64 190 m∧aa W0 (w.heap.size+1) .u64 190 (List.replicate 5 0)) ⟨(World.grownBy_alloc _ _ _).trans (World.grownBy_alloc _ _ _),(h.alloc _).alloc _,(aa.new w .u64 _ m).alloc _,?_⟩ ?_
 · have:=aa.new (w.alloc (.cells (row .u64 m) 190)) .u64 190 (List.replicate 5 0)
   rw [World.size_alloc] at this
   exact this
 rintro W0 ⟨hG0,hL0,hM0,hP0⟩
 go_wp2_with fail
 go_loopw [11] (fun q wr=>∃i:Nat,i≤5∧q=.int .i64 i∧w.grownBy wr (some g)∧aa wr g .u64 t L∧aa wr w.heap.size .u64 190 m∧aa wr (w.heap.size+1) .u64 190 (eM L m i)) (fun q _=>5 - (intOf q).toNat)
 case atStart=>exact ⟨0,by omega,rfl,hG0,hL0,hM0,hP0⟩
 case round=>
  clear hG0 hL0 hM0 hP0;obtain ⟨i,hi,rfl,hG,hL,hM,hP⟩:=hrel
  by_cases hlt:i<5
  · have HO:ac (eM L m (i+1)=eK (L[i]?.getD 0) m i (eM L m i) 5):=⟨rfl⟩
    have hPl:=fP L m i;obtain ⟨P,hPe⟩:∃q,eM L m i=q:=⟨_,rfl⟩
    rw [hPe] at hP HO hPl
    have hL1:=hL.drew;have c1:=hL1.cell i (by omega);obtain ⟨x,hx⟩:∃q,L[i]?.getD 0=q:=⟨_,rfl⟩
    rw [hx] at c1 HO
    have hi0:(0:Int)≤(i:Int):=by omega
    have hi5:(i:Int)<5:=by omega
    clear hPe hx;go_upto_region 4 with fail
    refine ag (fun w'=>w'.cell? ⟨g,i,none⟩=some (.int .u64 x)) 5 (by kernel_rfl) ?_;have hS:wr.drew.cell? ⟨g,i,none⟩=some (.int .u64 x):=c1;refine gaA 0 _ hS ?_;simp only [zp];refine gaA 1 _ hS ?_;simp only [zp];refine gaA 2 _ hS ?_;simp only [zp];refine grA 3 _ hS ?_;simp only [zp];refine gaA 4 _ hS ?_;simp only [zp];refine zw 5 fun K hK=>?_
    go_simp;refine hK.out _ _ zn ?_;clear hK K;refine al (by kernel_rfl) ?_ _;have hM1:=hM.drew;have hP1:=hP.drew;have hG1:=grown_drew hG;clear hS c1 hL hM hP hG
    go_wp2_with (refine am rfl 190 _ rfl _ rfl hM1 Tryz.underlying190 oL hm ?_)
    go_loopw [18] (fun q wq=>∃j:Nat,j≤5∧q=.int .i64 j∧w.grownBy wq (some g)∧aa wq g .u64 t L∧aa wq w.heap.size .u64 190 m∧aa wq (w.heap.size+1) .u64 190 (eK x m i P j)) (fun q _=>5 - (intOf q).toNat)
    case atStart=>exact ⟨0,by omega,rfl,hG1,hL1,hM1,hP1⟩
    case round=>
     clear hL1 hM1 hP1 hG1;obtain ⟨j,hj,rfl,hG,hL,hM,hP⟩:=hrel
     by_cases hjl:j<5
     · have hixj:=hix j hjl
       have HI:ac (eK x m i P (j+1)=jw (eK x m i P j) x (m[j]?.getD 0) i j):=⟨rfl⟩
       have hIl:=jc x m i P j;obtain ⟨I,hIe⟩:∃q,eK x m i P j=q:=⟨_,rfl⟩
       rw [hIe] at hP HI hIl
       obtain ⟨y,hy⟩:∃q,m[j]?.getD 0=q:=⟨_,rfl⟩
       rw [hy] at hixj HI
       have hj0:(0:Int)≤(j:Int):=by omega
       have hj5:(j:Int)<5:=by omega
       clear hIe hy hix
       by_cases hij:i+j<5
       · have hs:jw I x y i j=I.set (i+j) ((I[i+j]?.getD 0+x*y % 18446744073709551616) % 18446744073709551616):=by unfold jw;rw [if_pos hij]
         have c2:=hP.cell (i+j) (by omega);have f2:=hP.frozen (i+j);obtain ⟨q,hq⟩:∃q,I[i+j]?.getD 0=q:=⟨_,rfl⟩
         rw [hq] at c2 hs
         have HS:ac (eK x m i P (j+1)=I.set (i+j) ((q+x*y % 18446744073709551616) % 18446744073709551616)):=⟨by rw [HI.out,hs]⟩
         have ha0:(0:Int)≤(i:Int)+(j:Int):=by omega
         have ha5:(i:Int)+(j:Int)<5:=by omega
         have htn:((i:Int)+(j:Int)).toNat=i+j:=by omega
         clear hq hs HI;go_wp2;go_roundw
         case rel=>exact ⟨j+1,by omega,by go_num,gt hG (by omega) _ _,hL.setOther _ _ (by simp;omega),hM.setOther _ _ (by simp),by rw [HS.out];exact hP.set (i+j) _⟩
         case measure=>simp [intOf];omega
       · have hs:jw I x y i j=I.set (i+j - 5) ((I[i+j - 5]?.getD 0+5*x % 18446744073709551616*y % 18446744073709551616) % 18446744073709551616):=by unfold jw;rw [if_neg hij]
         have c2:=hP.cell (i+j - 5) (by omega);have f2:=hP.frozen (i+j - 5);obtain ⟨q,hq⟩:∃q,I[i+j - 5]?.getD 0=q:=⟨_,rfl⟩
         rw [hq] at c2 hs
         have HS:ac (eK x m i P (j+1)=I.set (i+j - 5) ((q+5*x % 18446744073709551616*y % 18446744073709551616) % 18446744073709551616)):=⟨by rw [HI.out,hs]⟩
         have ha5:¬((i:Int)+(j:Int)<5):=by omega
         obtain ⟨a,ha⟩:∃a,i+j - 5=a:=⟨_,rfl⟩
         rw [ha] at c2 f2 HS
         have hai:(i:Int)+(j:Int) - 5=(a:Int):=by omega
         have ha6:(a:Int)<5:=by omega
         clear hq hs HI ha;go_wp2;go_roundw
         case rel=>exact ⟨j+1,by omega,by go_num,gt hG (by omega) _ _,hL.setOther _ _ (by simp;omega),hM.setOther _ _ (by simp),by rw [HS.out];exact hP.set a _⟩
         case measure=>simp [intOf];omega
     · obtain rfl:j=5:=by omega
       go_wp2;go_roundw
       case rel=>exact ⟨i+1,by omega,by go_num,hG,hL,hM,by rw [HO.out];exact hP⟩
       case measure=>simp [intOf];omega
  · obtain rfl:i=5:=by omega
    have hPl:=fP L m 5;have HT:ac (fQ L m=ic (eM L m 5++L.drop 5)):=⟨rfl⟩
    obtain ⟨p0,p1,p2,p3,p4,hp⟩:=vx hPl;rw [hp] at hP HT
    clear hp hPl hix hM;obtain ⟨l0,l1,l2,l3,l4,R,rfl⟩:=pn hl;have a0:=hP.cell 0 (by simp);have a1:=hP.cell 1 (by simp);have a2:=hP.cell 2 (by simp);have a3:=hP.cell 3 (by simp);have a4:=hP.cell 4 (by simp);have b0:=hL.cell 0 (by simp);have b1:=hL.cell 1 (by simp);have b2:=hL.cell 2 (by simp);have b3:=hL.cell 3 (by simp);have b4:=hL.cell 4 (by simp);have ff:=hL.frozen;simp only [List.getElem?_cons_zero,List.getElem?_cons_succ,Option.getD_some] at a0 a1 a2 a3 a4 b0 b1 b2 b3 b4
    have hfin:=((((hL.set 0 p0).set 1 p1).set 2 p2).set 3 p3).set 4 p4;simp only [sZ,sS] at hfin
    have hfo:=wi g t _ _ hfin (by simp);have HT2:ac (fQ (l0::l1::l2::l3::l4::R) m=ic (p0::p1::p2::p3::p4::R)):=⟨by rw [HT.out];rfl⟩
    clear HT
    go_wp2_with (go_at_call 184;refine hfo.mono ?_;rintro e w2 ⟨⟨r,rfl⟩,h2,g2⟩)
    go_end0
    exact ⟨⟨_,rfl⟩,by rw [HT2.out];exact h2,(grown_set (grown_set (grown_set (grown_set (grown_set hG _ _) _ _) _ _) _ _) _ _).trans g2⟩
end Go.Proofs.YtbdhfbglagdiaaaGreatDoor
