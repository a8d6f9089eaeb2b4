/- Rc Rq Rs -/
import Derived.Test.YtbdhfbglagdiaaaGreatDoorJ40
namespace Go.Proofs.YtbdhfbglagdiaaaGreatDoor
open Go.RowKit
set_option maxRecDepth 20000
set_option maxHeartbeats 2000000
set_option linter.unusedSimpArgs false
theorem lJ {z:List Int} {B:Int} (hB:0≤B) (h:∀v∈z,0≤v∧v≤B) (k:Nat):(0:Int)≤z[k]?.getD (0:Int)∧z[k]?.getD (0:Int)≤B:=by
 by_cases hk:k<z.length
 · rw [List.getElem?_eq_getElem hk];exact h _ (List.getElem_mem hk)
 · rw [List.getElem?_eq_none (by omega)];exact ⟨Int.le_refl _,hB⟩
theorem vt (l:List Int) (h:∀v∈l,0≤v∧v≤2000000) (i:Nat):0≤cK l i∧cK l i≤10000:=by
 induction i with
 |zero=>simp [cK]
 |succ i ih=>
  have hv:=lJ (by omega) h i;simp only [cK];omega
theorem x9 (l:List Int) (h:∀v∈l,0≤v∧v≤2000000):cK l (l.length+2)=0:=by
 have h0:=vt l h l.length;have e1:cK l (l.length+2)=(cK l (l.length+1)+l[l.length+1]?.getD 0) / 256:=rfl;have e2:cK l (l.length+1)=(cK l l.length+l[l.length]?.getD 0) / 256:=rfl;rw [e1,e2,List.getElem?_eq_none (by omega),List.getElem?_eq_none (by omega)];simp only [Option.getD_none];omega
theorem lZ (x:Option Addr) (len cap:Nat) (l:List Int) (i:Nat) (w:World) (h:fK w x len cap l) (hi:i≤1000000):
    Calls Tryz.prog 127 #[.slice x len cap,.int .i64 i] w fun e w'=>e=.returned (.int .i64 (l[i]?.getD 0))∧w=w':=by
 have hll:=h.len_eq
 by_cases hlt:i<len
 · obtain ⟨b,rfl,hc⟩:∃b,x=some ⟨b,0,none⟩∧∀j,j<len→w.cell? ⟨b,j,none⟩=some (.int .i64 (l[j]?.getD 0)):=by
    rcases h.at_ with h0|h
    · omega
    · exact h
   have c1:=hc i hlt;obtain ⟨v,hv⟩:∃q,l[i]?.getD 0=q:=⟨_,rfl⟩
   rw [hv] at c1 ⊢
   have hi0:(0:Int)≤(i:Int):=by omega
   have hil:(i:Int)<(len:Int):=by omega
   clear hc hv hll h;go_enter Tryz.func127,Tryz.ntmps127;go_wp2;go_ret;exact ⟨rfl,rfl⟩
 · rw [List.getElem?_eq_none (by omega)]
   have hil:¬((i:Int)<(len:Int)):=by omega
   clear hll h;go_enter Tryz.func127,Tryz.ntmps127;go_wp2;go_ret;exact ⟨rfl,rfl⟩
theorem f9 (x:Option Addr) (len cap:Nat) (l:List Int) (w:World) (h:fK w x len cap l) (hln:len≤1000) (hb:∀v∈l,0≤v∧v≤2000000):
    Calls Tryz.prog 128 #[.slice x len cap] w fun e w'=>∃v N,e=.returned v∧len≤N∧N≤len+2∧cK l N=0∧bz w' w.heap.size v (oK l N)∧Below w.heap.size w w':=by
 have HB:ac (∀i:Nat,(0:Int)≤l[i]?.getD (0:Int)∧l[i]?.getD (0:Int)≤2000000):=⟨lJ (by omega) hb⟩
 have HT:ac (∀i,0≤cK l i∧cK l i≤10000):=⟨vt l hb⟩
 have HE:ac (cK l (len+2)=0):=⟨by rw [h.len_eq];exact x9 l hb⟩
 have HN:ac (∀i,len≤i→l[i]?.getD 0=0):=⟨fun i hi=>by rw [List.getElem?_eq_none (by have:=h.len_eq;omega)];rfl⟩
 have HC:ac (∀i,cK l (i+1)=(cK l i+l[i]?.getD 0) / 256∧oK l (i+1)=oK l i++ [(cK l i+l[i]?.getD 0) % 256]):=⟨fun _=>⟨rfl,rfl⟩⟩
 have HL:ac (∀i,(oK l i).length=i):=⟨dk l⟩
 have HI:ac (fK w x len cap l):=⟨h⟩
 clear h hb;go_enter Tryz.func128,Tryz.ntmps128
 go_wp2_with fail
 go_loopw [3,4,5] (fun v c i wr=>∃j:Nat,j≤len+2∧i=.int .i64 j∧c=.int .i64 (cK l j)∧bz wr w.heap.size v (oK l j)∧Below w.heap.size w wr) (fun _ _ i _=>len+3 - (intOf i).toNat)
 case atStart=>exact ⟨0,by omega,rfl,rfl,bz.nil _ _,Below.refl _ _⟩
 case round=>
  obtain ⟨j,hj,rfl,rfl,ho,hB⟩:=hrel;have hcv:=HT.out j;have hlv:=HB.out j;have hL:=HL.out j;have HJ:ac (cK l (j+1)=(cK l j+l[j]?.getD 0) / 256∧oK l (j+1)=oK l j++ [(cK l j+l[j]?.getD 0) % 256]):=⟨HC.out j⟩
  by_cases hlt:j<len
  · obtain ⟨b,rfl,hc⟩:∃b,x=some ⟨b,0,none⟩∧∀j,j<len→wr.cell? ⟨b,j,none⟩=some (.int .i64 (l[j]?.getD 0)):=by
     rcases (HI.out.below hB).at_ with h0|h
     · omega
     · exact h
    have c1:=hc j hlt;obtain ⟨u,hu⟩:∃q,l[j]?.getD 0=q:=⟨_,rfl⟩
    obtain ⟨c,hce⟩:∃q,cK l j=q:=⟨_,rfl⟩
    obtain ⟨O,hOe⟩:∃q,oK l j=q:=⟨_,rfl⟩
    rw [hu] at c1 hlv HJ
    rw [hce] at hcv HJ ⊢
    rw [hOe] at ho hL HJ
    have hi0:(0:Int)≤(j:Int):=by omega
    have hil:(j:Int)<(len:Int):=by omega
    have hq:(c+u).tdiv 256=(c+u) / 256:=Int.tdiv_eq_ediv_of_nonneg (by omega);have hr:(c+u).tmod 256=(c+u) % 256:=Int.tmod_eq_emod_of_nonneg (by omega);clear hc hu hce hOe
    go_wp2_with (at_builtin;refine bF rfl _ _ rfl w.heap.size _ O rfl ((c+u) % 256) (ho.alloc _) rfl (by omega) hB.size ?_;intro v3 w3 ho3 hg3)
    go_roundw
    case rel=>exact ⟨j+1,by omega,by go_num,by rw [HJ.out.1],by rw [HJ.out.2];exact ho3,bE (hB.alloc hB.size _) (ho.alloc _) hg3 (by have:=hB.size;simp;omega)⟩
    case measure=>simp [intOf];omega
  · have hn0:=HN.out j (by omega)
    rw [hn0,Int.add_zero] at HJ
    have hil:¬((j:Int)<(len:Int)):=by omega
    by_cases hz:cK l j=0
    · rw [hz]
      go_wp2;go_ret;exact ⟨_,rfl,j,by omega,by omega,hz,ho,hB⟩
    · have hj2:j<len+2:=by
       rcases Nat.lt_or_ge j (len+2) with h|h
       · exact h
       · exfalso
         obtain rfl:j=len+2:=by omega
         exact hz HE.out
      obtain ⟨c,hce⟩:∃q,cK l j=q:=⟨_,rfl⟩
      obtain ⟨O,hOe⟩:∃q,oK l j=q:=⟨_,rfl⟩
      rw [hce] at hcv HJ hz ⊢
      rw [hOe] at ho hL HJ
      have hcp:c>0:=by omega
      have hq:c.tdiv 256=c / 256:=Int.tdiv_eq_ediv_of_nonneg (by omega);have hr:c.tmod 256=c % 256:=Int.tmod_eq_emod_of_nonneg (by omega);clear hce hOe hn0
      go_wp2_with (at_builtin;refine bF rfl _ _ rfl w.heap.size _ O rfl (c % 256) (ho.alloc _) rfl (by omega) hB.size ?_;intro v3 w3 ho3 hg3)
      go_roundw
      case rel=>exact ⟨j+1,by omega,by go_num,by rw [HJ.out.1],by rw [HJ.out.2];exact ho3,bE (hB.alloc hB.size _) (ho.alloc _) hg3 (by have:=hB.size;simp;omega)⟩
      case measure=>simp [intOf];omega
theorem li:∀(l:List Int) (i:Nat) (v:Int),i<l.length→leN (l.set i v)=leN l+256 ^ i*(v - l[i]?.getD 0)
 |[],i,v,h=>by simp at h
 |a::l,0,v,_=>by simp only [sZ,leN,List.getElem?_cons_zero,Option.getD_some];omega
 |a::l,i+1,v,h=>by
  have ih:=li l i v (by simpa using h);rw [sS,leN,leN,ih,List.getElem?_cons_succ,Int.pow_succ];generalize (256:Int) ^ i=p;generalize v - l[i]?.getD (0:Int)=d
  grind
theorem mY (m:Nat):leN (List.replicate m 0)=0:=by
 induction m with
 |zero=>rfl
 |succ m ih=>rw [List.replicate_succ,leN,ih];rfl
theorem leN_pad (l:List Int) (m:Nat):leN (l++List.replicate m 0)=leN l:=by rw [jg,mY];simp
theorem rO (l:List Int) (h:∀v∈l,0≤v):0≤leN l:=by
 induction l with
 |nil=>simp [leN]
 |cons a l ih=>
  have h1:=ih (fun v hv=>h v (List.mem_cons_of_mem _ hv));have h2:=h a (by simp);rw [leN];omega
theorem wM (l:List Int) (h:∀v∈l,0≤v):0<leN l↔∃j,j<l.length∧0<l[j]?.getD 0:=by
 induction l with
 |nil=>simp [leN]
 |cons a l ih=>
  have h1:=ih (fun v hv=>h v (List.mem_cons_of_mem _ hv));have h2:=h a (by simp);have h3:=rO l (fun v hv=>h v (List.mem_cons_of_mem _ hv));rw [leN]
  constructor
  · intro hp
    by_cases ha:0<a
    · exact ⟨0,by simp,by simpa using ha⟩
    · obtain ⟨j,hj,hv⟩:=h1.1 (by omega)
      exact ⟨j+1,by simpa using hj,by simpa using hv⟩
  · rintro ⟨j,hj,hv⟩
    cases j with
    |zero=>simp at hv;omega
    |succ j=>
     have:=h1.2 ⟨j,by simpa using hj,by simpa using hv⟩;omega
theorem sg:∀(j:Nat) (l:List Int),(∀v∈l,isB v)→j≤l.length→leB j (leN l)=l.take j
 |0,l,_,_=>by simp [leB]
 |j+1,[],_,h=>by simp at h
 |j+1,a::l,hb,h=>by
  have ih:=sg j l (fun v hv=>hb v (List.mem_cons_of_mem _ hv)) (by simpa using h);have ha:=hb a (by simp);unfold isB at ha
  simp only [leB,leN,List.take_succ_cons];rw [show (a+256*leN l) % 256=a by omega,show (a+256*leN l) / 256=leN l by omega,ih]
def fq (L:List Int) (i:Nat):Prop:=∃j,16≤j∧j<i∧0<L[j]?.getD (0:Int)∧(16<j∨3<L[j]?.getD (0:Int))
theorem rt (L:List Int) (i:Nat) (hi:16≤i):fq L (i+1)↔fq L i∨(0<L[i]?.getD (0:Int)∧(16<i∨3<L[i]?.getD (0:Int))):=by
 unfold fq
 constructor
 · rintro ⟨j,h1,h2,h3,h4⟩
   by_cases hji:j=i
   · subst hji;exact .inr ⟨h3,h4⟩
   · exact .inl ⟨j,h1,by omega,h3,h4⟩
 · rintro (⟨j,h1,h2,h3,h4⟩|⟨h3,h4⟩)
   · exact ⟨j,h1,by omega,h3,h4⟩
   · exact ⟨i,hi,by omega,h3,h4⟩
theorem nV (L:List Int) (hL:∀v∈L,isB v) (hn:17≤L.length):∃(lo:List Int) (a:Int) (u:List Int),L=lo++a::u∧lo.length=16∧L.take 16=lo∧L.drop 16=a::u∧L[16]?.getD 0=a∧isB a∧(∀v∈u,isB v)∧0≤leN lo∧leN lo<340282366920938463463374607431768211456∧leN L=leN lo+340282366920938463463374607431768211456*(a+256*leN u)∧0≤leN u:=by
 have e:L=L.take 16++L[16]::L.drop 17:=by
  rw [←List.drop_eq_getElem_cons (by omega),List.take_append_drop]
 have hl:(L.take 16).length=16:=by rw [List.length_take];omega
 have hlt:=kj (L.take 16) (fun v hv=>hL v (List.mem_of_mem_take hv));rw [hl] at hlt
 have hu:∀v∈L.drop 17,isB v:=fun v hv=>hL v (List.mem_of_mem_drop hv)
 refine ⟨L.take 16,L[16],L.drop 17,e,hl,rfl,List.drop_eq_getElem_cons (by omega),by rw [List.getElem?_eq_getElem (by omega)];rfl,hL _ (List.getElem_mem _),hu,hlt.1,hlt.2,?_,(kj _ hu).1⟩;have h:=ki L 16 (by omega);rw [List.drop_eq_getElem_cons (i:=16) (by omega),leN] at h
 exact h
theorem nc (L:List Int) (hL:∀v∈L,isB v) (hn:17≤L.length):fq L L.length↔1361129467683753853853498429727072845824≤leN L:=by
 obtain ⟨lo,a,u,e,hlo,ht,hd,ha,hab,hub,h0,h1,hv,hu0⟩:=nV L hL hn;have hpos:=wM u (fun v hv=>(hub v hv).1);have hget:∀j,L[17+j]?.getD 0=u[j]?.getD 0:=fun j=>by
  rw [e,List.getElem?_append_right (by omega),hlo,show 17+j - 16=j+1 by omega,List.getElem?_cons_succ]
 have hlen:L.length=17+u.length:=by rw [e,List.length_append,List.length_cons,hlo];omega
 unfold isB at hab
 constructor
 · rintro ⟨j,j1,j2,j3,j4⟩
   by_cases hj:j=16
   · subst hj
     rw [ha] at j3 j4
     have:3<a:=by omega
     omega
   · obtain ⟨i,rfl⟩:∃i,j=17+i:=⟨j - 17,by omega⟩
     rw [hget] at j3
     have:=hpos.2 ⟨i,by omega,j3⟩;omega
 · intro hbig
   by_cases hz:0<leN u
   · obtain ⟨j,hj,hjv⟩:=hpos.1 hz
     exact ⟨17+j,by omega,by omega,by rw [hget];exact hjv,.inl (by omega)⟩
   · have:3<a:=by omega
     exact ⟨16,by omega,by omega,by rw [ha];omega,.inr (by rw [ha];exact this)⟩
def vD (L:List Int):List Int:=L.take 16++ [L[16]?.getD 0 % 4]
def lowR (L:List Int):Nat→List Int
 |0=>vD L
 |j+1=>(lowR L j++List.replicate (j+1 - (lowR L j).length) 0).set j ((lowR L j)[j]?.getD 0+5*(highs (L.drop 16))[j]?.getD 0)
theorem vq (L:List Int) (j:Nat):leN (lowR L j)=leN (vD L)+5*leN ((highs (L.drop 16)).take j):=by
 induction j with
 |zero=>simp [lowR,leN]
 |succ j ih=>
  simp only [lowR];rw [li _ _ _ (by rw [List.length_append,List.length_replicate];omega),leN_pad,ih,takeN_val];have e:(lowR L j++List.replicate (j+1 - (lowR L j).length) 0)[j]?.getD (0:Int)=(lowR L j)[j]?.getD 0:=by
   by_cases hj:j<(lowR L j).length
   · rw [List.getElem?_append_left hj]
   · rw [List.getElem?_append_right (by omega),List.getElem?_replicate,List.getElem?_eq_none (by omega)]
     split<;>rfl
  rw [e];generalize (256:Int) ^ j=p;generalize (highs (L.drop 16))[j]?.getD (0:Int)=h;generalize (lowR L j)[j]?.getD (0:Int)=q
  grind
theorem gL:∀u:List Int,(highs u).length=u.length
 |[]=>rfl
 |a::u=>by simp [highs,gL u]
theorem wP (L:List Int) (hL:∀v∈L,isB v) (hn:17≤L.length):leN (lowR L (L.length - 16))=leN L % 1361129467683753853853498429727072845824+5*(leN L / 1361129467683753853853498429727072845824):=by
 obtain ⟨lo,a,u,e,hlo,ht,hd,ha,hab,hub,h0,h1,hv,hu0⟩:=nV L hL hn;rw [vq,List.take_of_length_le (by rw [gL,List.length_drop];omega),vX,hd];unfold vD;rw [ht,ha,jV,hlo,hv,leN];have e16:(256:Int) ^ 16=340282366920938463463374607431768211456:=by decide
 rw [e16];have h4:(a+256*leN u) % 4=a % 4:=by omega
 rw [←h4];clear hv h4;generalize leN lo=x at*
 generalize a+256*leN u=t at*
 omega
theorem pU (L:List Int) (hn:17≤L.length) (j:Nat):(lowR L j).length=max 17 j:=by
 induction j with
 |zero=>simp only [lowR,vD,List.length_append,List.length_take,List.length_cons,List.length_nil];omega
 |succ j ih=>simp only [lowR,List.length_set,List.length_append,List.length_replicate,ih];omega
theorem pA (L:List Int) (j:Nat) (hj:16+j<L.length):(highs (L.drop 16))[j]?.getD 0=L[16+j]?.getD 0 / 4+L[16+j+1]?.getD 0 % 4*64:=by
 rw [nC _ _ (by rw [List.length_drop];omega),List.getElem?_drop,List.getElem?_drop,Nat.add_assoc]
theorem mG {z:List Int} {B:Int} (hB:0≤B) (h:∀v∈z,0≤v∧v≤B) (k:Nat):(0:Int)≤z[k]?.getD (0:Int)∧z[k]?.getD (0:Int)≤B:=by
 by_cases hk:k<z.length
 · rw [List.getElem?_eq_getElem hk];exact h _ (List.getElem_mem hk)
 · rw [List.getElem?_eq_none (by omega)];exact ⟨Int.le_refl _,hB⟩
theorem xp (L:List Int) (hL:∀v∈L,isB v) (j:Nat):0≤(highs (L.drop 16))[j]?.getD 0∧(highs (L.drop 16))[j]?.getD 0≤255:=by
 by_cases hj:16+j<L.length
 · rw [pA L j hj]
   have h1:=mG (B:=255) (by omega) hL (16+j);have h2:=mG (B:=255) (by omega) hL (16+j+1);omega
 · rw [List.getElem?_eq_none (by rw [gL,List.length_drop];omega)]
   simp
theorem sl (L:List Int) (hL:∀v∈L,isB v) (j p:Nat):0≤(lowR L j)[p]?.getD 0∧(lowR L j)[p]?.getD 0≤if p<j then 1530 else 255:=by
 induction j generalizing p with
 |zero=>
  rw [if_neg (by omega)];simp only [lowR,vD];refine mG (by omega) (fun v hv=>?_) p
  rcases List.mem_append.1 hv with h|h
  · exact hL v (List.mem_of_mem_take h)
  · have h1:=mG (B:=255) (by omega) hL 16
    rw [List.mem_singleton.1 h];omega
 |succ j ih=>
  have hh:=xp L hL j;have ih1:=ih p;have ih2:=ih j;rw [if_neg (by omega)] at ih2
  simp only [lowR]
  by_cases hp:j=p
  · subst hp
    rw [List.getElem?_set_self (by rw [List.length_append,List.length_replicate];omega),if_pos (by omega)];simp only [Option.getD_some];omega
  · rw [List.getElem?_set_ne hp]
    have e:(lowR L j++List.replicate (j+1 - (lowR L j).length) 0)[p]?.getD (0:Int)=(lowR L j)[p]?.getD 0:=by
     by_cases hj:p<(lowR L j).length
     · rw [List.getElem?_append_left hj]
     · rw [List.getElem?_append_right (by omega),List.getElem?_replicate,List.getElem?_eq_none (by omega)]
       split<;>rfl
    rw [e]
    split at ih1<;>split<;>omega
theorem vn (L:List Int) (hL:∀v∈L,isB v) (j:Nat):∀v∈lowR L j,0≤v∧v≤2000000:=fun v hv=>by
 obtain ⟨i,hi,rfl⟩:=List.getElem_of_mem hv;have h:=sl L hL j i;rw [List.getElem?_eq_getElem hi] at h
 simp only [Option.getD_some] at h
 split at h<;>omega
theorem wX (L:List Int) (hL:∀v∈L,isB v) (hn:17≤L.length) (ha:fq L L.length) (N:Nat) (hN:(lowR L (L.length - 16)).length≤N) (hc:cK (lowR L (L.length - 16)) N=0):
    leN (oK (lowR L (L.length - 16)) N) % 1361129467683753853853498429727072845819=leN L % 1361129467683753853853498429727072845819∧0≤leN (oK (lowR L (L.length - 16)) N)∧leN (oK (lowR L (L.length - 16)) N)<leN L:=by
 rw [lh _ N hN hc,wP L hL hn];have hb:=(nc L hL hn).1 ha;generalize leN L=x at*
 have e:x=(x % 1361129467683753853853498429727072845824+5*(x / 1361129467683753853853498429727072845824))+x / 1361129467683753853853498429727072845824*1361129467683753853853498429727072845819:=by omega
 refine ⟨?_,by omega,by omega⟩
 conv=>rhs;rw [e]
 rw [Int.add_mul_emod_self_right]
def fiveK (R:List Int):Nat→List Int
 |0=>[5]
 |j+1=>(5+R[0]?.getD 0)::(R.drop 1).take j
theorem gK (R:List Int) (hn:17≤R.length) (j:Nat) (hj:j<17):(fiveK R (j+1)).length=j+1:=by
 simp only [fiveK,List.length_cons,List.length_take,List.length_drop];omega
theorem qV (R:List Int) (hn:17≤R.length) (j:Nat) (hj:j+1<17):fiveK R (j+1+1)=fiveK R (j+1)++ [R[j+1]?.getD 0]:=by
 simp only [fiveK];rw [bK (R.drop 1) j (by rw [List.length_drop];omega),List.getElem?_drop,List.cons_append,Nat.add_comm 1 j]
theorem ti (R:List Int) (hR:∀v∈R,isB v) (j:Nat):∀v∈fiveK R j,0≤v∧v≤2000000:=by
 intro v hv;cases j with
 |zero=>simp [fiveK] at hv;omega
 |succ j=>
  rcases List.mem_cons.1 hv with rfl|h
  · have:=mG (B:=255) (by omega) hR 0
    omega
  · have:=hR v (List.mem_of_mem_drop (List.mem_of_mem_take h))
    unfold isB at this
    omega
theorem xa (R:List Int) (hR:∀v∈R,isB v) (hn:17≤R.length) (ha:¬fq R R.length) (N:Nat) (hN:17≤N) (hc:cK (fiveK R 17) N=0):
    ((4:Int)≤(oK (fiveK R 17) N)[16]?.getD (0:Int)→leN ((oK (fiveK R 17) N).set 16 ((oK (fiveK R 17) N)[16]?.getD (0:Int) - 4))=leN R % 1361129467683753853853498429727072845819)∧
    (¬(4:Int)≤(oK (fiveK R 17) N)[16]?.getD (0:Int)→leN R=leN R % 1361129467683753853853498429727072845819):=by
 have hlt:leN R<1361129467683753853853498429727072845824:=by
  exact Int.lt_of_not_ge (fun h=>ha ((nc R hR hn).2 h))
 have h17:=ki R 17 hn;have hd0:=(kj (R.drop 17) (fun v hv=>hR v (List.mem_of_mem_drop hv))).1;have ht0:=(kj (R.take 17) (fun v hv=>hR v (List.mem_of_mem_take hv))).1;have e17:(256:Int) ^ 17=87112285931760246646623899502532662132736:=by decide
 rw [e17] at h17
 have hv:leN (fiveK R 17)=5+leN (R.take 17):=by
  have e:R.take 17=R[0]?.getD 0::(R.drop 1).take 16:=by
   cases R with
   |nil=>simp at hn
   |cons a R=>simp
  rw [e];simp only [fiveK,leN];omega
 have hF:=lh (fiveK R 17) N (by rw [gK R hn 16 (by omega)];omega) hc;have hFb:=jr (fiveK R 17) N;have hFl:=dk (fiveK R 17) N;rw [hv] at hF
 obtain ⟨F,hFe⟩:∃q,oK (fiveK R 17) N=q:=⟨_,rfl⟩
 rw [hFe] at hF hFb hFl ⊢
 obtain ⟨lo,a,u,e,hlo,ht,hd,hae,hab,hub,h0,h1,hsp,hu0⟩:=nV F hFb (by omega);unfold isB at hab
 have e16:(256:Int) ^ 16=340282366920938463463374607431768211456:=by decide
 constructor
 · intro h4
   rw [li F 16 _ (by omega),hae,e16];rw [hae] at h4
   have:leN R % 1361129467683753853853498429727072845819=leN R - 1361129467683753853853498429727072845819:=by omega
   omega
 · intro h4
   rw [hae] at h4
   omega
theorem bz.opened {w:World} {base:Nat} {v:Value} {z:List Int} (h:bz w base v z) (hz:0<z.length):∃g cap,v=.slice (some ⟨g,0,none⟩) z.length cap∧base≤g∧cap≤9223372036854775807∧z.length≤cap∧(∀j,j<z.length→w.cell? ⟨g,j,none⟩=some (.int .i64 (z[j]?.getD 0)))∧(∀j,w.frozen? ⟨g,j,none⟩=false)∧∀j,j<z.length→∀u,bz (w.setCell ⟨g,j,none⟩ (.int .i64 u)) base (.slice (some ⟨g,0,none⟩) z.length cap) (z.set j u):=by
 obtain ⟨g',cap',e1,e2,e3,e4,e5⟩:=h.slice hz
 rcases h.2 with ⟨_,h0⟩|⟨g,cap,cur,hv,hb,hg,hc,hm,hs,ht⟩
 · omega
 · rw [e1] at hv
   cases hv;refine ⟨g',cap',e1,e2,e3,e4,e5,fun j=>frozen_of_row w g' j _ _ hg,fun j hj u=>?_⟩;refine ⟨by simp,.inr ⟨g',cap',_,by rw [List.length_set],hb,heap_setCell_same w g' j _ _ _ hg,by rw [List.length_set];exact hc,hm,by simpa using hs,?_⟩⟩;rw [List.length_set,List.map_set,←ht];simp [List.take_set]
def sA (w:World):Value→List Int
 | .slice (some a) n _=>(List.range n).map fun j=>match w.cell? ⟨a.block,j,none⟩ with
  |some (.int _ u)=>u
  |_=>0
 |_=>[]
theorem qa {w:World} {x:Option Addr} {len cap:Nat} {z:List Int} (h:fK w x len cap z) (hl:0<len):sA w (.slice x len cap)=z:=by
 rcases h.at_ with h0|⟨b,rfl,hc⟩
 · omega
 · have hz:=h.len_eq
   refine List.ext_getElem (by simp [sA,hz]) fun i h1 h2=>?_
   simp only [sA,List.getElem_map,List.getElem_range];rw [hc i (by omega),List.getElem?_eq_getElem h2]
   rfl
end Go.Proofs.YtbdhfbglagdiaaaGreatDoor
