/- An1 An2 Ky1 Own Mac1 Mac2 -/
import Derived.Test.YtbdhfbglagdiaaaGreatDoorJ18
import Derived.Test.YtbdhfbglagdiaaaGreatDoorJ02
import Derived.Test.YtbdhfbglagdiaaaGreatDoorJ01
import Derived.Test.YtbdhfbglagdiaaaGreatDoorJ09
import Derived.Maps.AppendAt
import Derived.Laws.AppendOwnNone
import Derived.RangeFuncBox
import Derived.Test.YtbdhfbglagdiaaaGreatDoorJ10
import Derived.Deep.RegionWith
namespace Go.Proofs.YtbdhfbglagdiaaaGreatDoor
open Go.RowKit
set_option maxRecDepth 20000
set_option maxHeartbeats 1000000
set_option linter.unusedSimpArgs false
theorem dg (n:Nat):bP n<16:=by unfold bP;omega
theorem nx (x:Option Addr) (len cap:Nat) (z:List Int) (w:World) (h:Bytes w x len cap z):
    Calls Tryz.prog 160 #[.slice x len cap] w fun e w'=>e=.returned (.slice (some ⟨w.heap.size,0,none⟩) (bP len) (bP len))∧aa w' w.heap.size .u8 5 (aR (bP len))∧Below w.heap.size w w':=by
 have htop:=h.top;have hle:=h.le;obtain ⟨F,hF⟩:∃q,bP len=q:=⟨_,rfl⟩
 have hF16:F<16:=by rw [←hF];exact dg len
 have hmk:∀wx:World,(Instr.makeSlice 41 (.int .i64 (F:Int)) (.int .i64 (F:Int))).run Tryz.prog wx=.ok (.slice (some ⟨wx.heap.size,0,none⟩) F F) (wx.alloc (.cells (row .u8 (List.replicate F 0)) 5)):=fun wx=>by
  have:=run_make_row' (P:=Tryz.prog) 41 5 (.int .u8 0) 1 Tryz.underlying41 dp rfl .i64 .i64 F (by omega) (by omega) wx;rw [iq] at this
  exact this
 obtain ⟨r,hr⟩:∃r:Nat,len % 16=r:=⟨_,rfl⟩
 obtain ⟨s,hs⟩:∃s:Nat,16 - r=s:=⟨_,rfl⟩
 have h1:(len:Int).tmod 16=(r:Int):=by rw [Int.tmod_eq_emod_of_nonneg (by omega)];omega
 have h2:IntKind.i64.wrap (16 - (r:Int))=(s:Int):=by rw [IntKind.wrap_i64];omega
 have h3:(s:Int).tmod 16=(F:Int):=by
  rw [Int.tmod_eq_emod_of_nonneg (by omega)];unfold bP at hF
  omega
 rw [hF];unfold aR;clear hF hr hs;go_enter Tryz.func160,Tryz.ntmps160;go_wp2;go_ret;exact ⟨rfl,aa.new w .u8 5 _,(Below.refl _ _).alloc (Nat.le_refl _) _⟩
theorem nH (n i:Nat) (hi:i<8):(le8 n)[i]?.getD 0=(n:Int) / 2 ^ (8*i) % 256:=by
 have hic:i=0∨i=1∨i=2∨i=3∨i=4∨i=5∨i=6∨i=7:=by omega
 unfold le8
 rcases hic with rfl|rfl|rfl|rfl|rfl|rfl|rfl|rfl
 all_goals
  simp only [leB,List.getElem?_cons_zero,List.getElem?_cons_succ,Option.getD_some];omega
theorem mQ (S:List Int) (j n:Nat) (hj:j<n) (hl:n≤S.length):(S.take j++List.replicate (n - j) 0).set j (S[j]?.getD 0)=S.take (j+1)++List.replicate (n - (j+1)) 0:=by
 have h:=bx (S.take j) (n - (j+1)) (S[j]?.getD 0);rw [List.length_take,Nat.min_eq_left (by omega),←bK S j (by omega),show n - (j+1)+1=n - j by omega] at h
 exact h
theorem lC:(Tryz.prog.info? 202).map (·.size)=some 8:=by kernel_rfl
theorem jS (x:Option Addr) (len cap:Nat) (z:List Int) (w:World) (h:Bytes w x len cap z):
    Calls Tryz.prog 159 #[.slice x len cap] w fun e w'=>e=.returned (.agg (row .u8 (le8 len)))∧Below w.heap.size w w':=by
 have htop:=h.top;have hle:=h.le;have HG:ac (∀i,i<8→(le8 len)[i]?.getD 0=(len:Int) / 2 ^ (8*i) % 256):=⟨nH len⟩
 have HF:ac (∀j,j<8→((le8 len).take j++List.replicate (8 - j) 0).set j ((le8 len)[j]?.getD 0)=(le8 len).take (j+1)++List.replicate (8 - (j+1)) 0):=⟨fun j hj=>mQ _ j 8 hj (by rw [le8_length];omega)⟩
 have hL:=le8_length len;obtain ⟨S,hS⟩:∃q,le8 len=q:=⟨_,rfl⟩
 rw [hS] at HG HF hL ⊢
 have HFin:ac (S.take 8=S):=⟨List.take_of_length_le (by omega)⟩
 have h64:IntKind.u64.wrap (len:Int)=(len:Int):=by simp [IntKind.wrap,IntKind.bits,IntKind.signed];omega
 clear hS h;have hR0:=(aa.new w .u8 202 (List.replicate 8 0)).alloc (.cells (row .u8 (List.replicate 8 0)) 202);have hA0:=aa.new (w.alloc (.cells (row .u8 (List.replicate 8 0)) 202)) .u8 202 (List.replicate 8 0);rw [World.size_alloc] at hA0
 have hB0:Below w.heap.size w ((w.alloc (.cells (row .u8 (List.replicate 8 0)) 202)).alloc (.cells (row .u8 (List.replicate 8 0)) 202)):=((Below.refl _ _).alloc (Nat.le_refl _) _).alloc (by simp) _;go_enter Tryz.func159,Tryz.ntmps159;go_upto_region 2 with fail
 refine af (p:=fun y=>Code.wp _ _ _ _ y) (fun W0=>Below w.heap.size w W0∧aa W0 w.heap.size .u8 202 (List.replicate 8 0)∧aa W0 (w.heap.size+1) .u8 202 (List.replicate 8 0)) ⟨hB0,hR0,hA0⟩ ?_;clear hB0 hR0 hA0;rintro W0 ⟨hB0,hR0,hA0⟩
 go_wp2_with fail
 go_loopw [5] (fun q wr=>∃j:Nat,j≤8∧q=.int .i64 j∧Below w.heap.size w wr∧aa wr w.heap.size .u8 202 (List.replicate 8 0)∧aa wr (w.heap.size+1) .u8 202 (S.take j++List.replicate (8 - j) 0)) (fun q _=>8 - (intOf q).toNat)
 case atStart=>exact ⟨0,by omega,rfl,hB0,hR0,hA0⟩
 case round=>
  clear hB0 hR0 hA0;obtain ⟨j,hj,rfl,hB,hR,hA⟩:=hrel
  by_cases hlt:j<8
  · have hst:=HF.out j hlt
    have hAl:(S.take j++List.replicate (8 - j) 0).length=8:=by rw [List.length_append,List.length_take,List.length_replicate];omega
    rw [HG.out j hlt] at hst
    obtain ⟨Z,hZ⟩:∃q,S.take j++List.replicate (8 - j) 0=q:=⟨_,rfl⟩
    rw [hZ] at hst hA hAl
    obtain ⟨m,hm⟩:∃m:Nat,8*j=m:=⟨_,rfl⟩
    rw [hm] at hst
    have HST:ac (Z.set j ((len:Int) / 2 ^ m % 256)=S.take (j+1)++List.replicate (8 - (j+1)) 0):=⟨hst⟩
    have ca:=hA.cell j (by omega);have fa:=hA.frozen j;have hj0:(0:Int)≤(j:Int):=by omega
    have hj8:(j:Int)<8:=by omega
    have r2:(8:Int)*(j:Int)=(m:Int):=by omega
    have r3:IntKind.i64.wrap (m:Int)=(m:Int):=by rw [IntKind.wrap_i64];omega
    have r4:(m:Int)<64:=by omega
    have r8:IntKind.u8.wrap ((len:Int) / 2 ^ m)=(len:Int) / 2 ^ m % 256:=by simp [IntKind.wrap,IntKind.bits,IntKind.signed]
    clear hst hZ hm;go_wp2;go_roundw
    case rel=>exact ⟨j+1,by omega,by go_num,hB.setCell (by simp) _,hR.setOther _ _ (by simp),by rw [←HST.out];exact hA.set j _⟩
    case measure=>simp [intOf];omega
  · obtain rfl:j=8:=by omega
    rw [HFin.out,Nat.sub_self,List.replicate_zero,List.append_nil] at hA
    go_wp2_with (first
     |(refine am rfl 202 _ rfl _ rfl hA Tryz.underlying202 lC hL ?_)
     |(refine ah rfl 202 _ _ rfl _ rfl rfl hR (by rw [hL];exact lC) (by simp [hL]) ?_))
    refine bodyPost_ret (aj (Tryz.results159) _ rfl (hR.setRow _) Tryz.underlying202 lC hL) rfl ⟨rfl,?_⟩;exact below_setRow hB (by omega) _
set_option maxHeartbeats 2000000
structure dr where
 x:Option Addr
 len:Nat
 cap:Nat
 z:List Int
def dr.val (p:dr):Value:=.slice p.x p.len p.cap
def cD (ps:List dr):List Int:=(ps.map (·.z)).flatten
def nO (ps:List dr):Nat:=(cD ps).length
theorem kH (a b:List dr):cD (a++b)=cD a++cD b:=by simp [cD]
theorem kl (ps:List dr) (j:Nat) (hj:j<ps.length):cD (ps.take (j+1))=cD (ps.take j)++(ps[j]).z:=by
 rw [List.take_succ_eq_append_getElem hj,kH];simp [cD]
theorem ss (ps:List dr) (j:Nat):(cD (ps.take j)).length≤(cD ps).length:=by
 have h:cD (ps.take j)++cD (ps.drop j)=cD ps:=by rw [←kH,List.take_append_drop]
 have:=congrArg List.length h;rw [List.length_append] at this
 omega
structure aQ (w:World) (g:Nat) (ps:List dr):Prop where
 cell:∀j (hj:j<ps.length),w.cell? ⟨g,j,none⟩=some (ps[j]).val
 has:∀j (hj:j<ps.length),Bytes w (ps[j]).x (ps[j]).len (ps[j]).cap (ps[j]).z
theorem aQ.below {w w':World} {g:Nat} {ps:List dr} (h:aQ w g ps) (hb:Below w.heap.size w w'):aQ w' g ps:=
 ⟨fun j hj=>(hb.cell (p:=⟨g,j,none⟩) (block_lt_of_cell (h.cell j hj))).trans (h.cell j hj),fun j hj=>(h.has j hj).below hb⟩
theorem lf {w w':World} (hg:w.grownBy w' none):Below w.heap.size w w':=(Below.refl _ _).grown hg (Nat.le_refl _) (fun k hk=>by cases hk)
theorem gd (g n:Nat) (ps:List dr) (w:World) (h:aQ w g ps) (hn:n=ps.length) (hn1:n≤1000) (hs:nO ps≤1000000):
    Calls Tryz.prog 77 #[.slice (some ⟨g,0,none⟩) n n] w fun e w'=>∃v,e=.returned v∧aq w' w.heap.size v (cD ps)∧Below w.heap.size w w':=by
 obtain ⟨i0,hi0,hz0,hz1,hz2⟩:=info_parts dp;have HP:ac (aQ w g ps):=⟨h⟩
 have HN:ac (n=ps.length):=⟨hn⟩
 have HS:ac (∀j,(cD (ps.take j)).length≤1000000):=⟨fun j=>by have:=ss ps j;unfold nO at hs;omega⟩
 clear h hn hs;go_enter Tryz.func77,Tryz.ntmps77
 go_wp2_with fail
 go_loopw [3,11] (fun sv jv wr=>∃j:Nat,j≤n∧jv=.int .i64 j∧sv=.int .i64 ((cD (ps.take j)).length:Int)∧wr=w) (fun _ jv _=>n - (intOf jv).toNat)
 case atStart=>exact ⟨0,by omega,rfl,rfl,rfl⟩
 case round=>
  obtain ⟨j,hj,rfl,rfl,rfl⟩:=hrel
  by_cases hlt:j<n
  · have hl:=HN.out
    have hc:=HP.out.cell j (by omega);have hb:=HP.out.has j (by omega);have ht:=kl ps j (by omega);have hs1:=HS.out (j+1);rw [ht,List.length_append] at hs1
    have HT:ac (((cD (ps.take (j+1))).length:Int)=((cD (ps.take j)).length:Int)+((ps[j]'(by omega)).z.length:Int)):=⟨by rw [ht,List.length_append];omega⟩
    have hzl:=hb.len_eq;obtain ⟨p,hp⟩:∃q,ps[j]'(by omega)=q:=⟨_,rfl⟩
    rw [hp] at hc HT hzl hs1
    obtain ⟨px,pl,pc,pz⟩:=p;simp only [dr.val] at hc
    simp only at hzl HT hs1
    rw [←hzl] at HT hs1
    obtain ⟨A,hA⟩:∃q,(cD (ps.take j)).length=q:=⟨_,rfl⟩
    rw [hA] at HT hs1 ⊢
    have hw:IntKind.i64.wrap ((A:Int)+(pl:Int))=(A:Int)+(pl:Int):=by rw [IntKind.wrap_i64];omega
    have hj0:(0:Int)≤(j:Int):=by omega
    have hjn:(j:Int)<(n:Int):=by omega
    clear hl hb ht hzl hp hA hs1;go_wp2;go_roundw
    case rel=>exact ⟨j+1,by omega,by go_num,by rw [HT.out],trivial⟩
    case measure=>simp [intOf];omega
  · obtain rfl:j=n:=by omega
    have hs1:=HS.out j;have HTK:ac (ps.take j=ps):=⟨List.take_of_length_le (by have:=HN.out;omega)⟩
    obtain ⟨A,hA⟩:∃q,(cD (ps.take j)).length=q:=⟨_,rfl⟩
    rw [hA] at hs1 ⊢
    clear hA
    go_wp2_with (at_make;refine wpList_make_own _ rfl _ _ 41 rfl wr.heap.size 5 i0 (.int .u8 0) 1 Tryz.underlying41 hi0 hz0 hz1 .i64 .i64 _ A rfl rfl rfl (by rw [hz2];omega) (by simp [maxLen];omega) (by omega) ?_;intro w1 ho1 hg1)
    have hB1:Below wr.heap.size wr w1:=lf hg1;have ho1':aq w1 wr.heap.size (.slice (some ⟨wr.heap.size,0,none⟩) 0 A) []:=aq.cast ho1 rfl rfl;clear ho1 hg1;obtain ⟨W,rfl⟩:∃W,W=wr:=⟨_,rfl⟩
    go_loopw [6,24] (fun v jv wr=>∃i:Nat,i≤j∧jv=.int .i64 i∧aq wr W.heap.size v (cD (ps.take i))∧Below W.heap.size W wr) (fun _ jv _=>j - (intOf jv).toNat)
    case atStart=>exact ⟨0,by omega,rfl,ho1',hB1⟩
    case round=>
     clear ho1' hB1;obtain ⟨i,hi,rfl,ho,hB⟩:=hrel
     by_cases hlt:i<j
     · have hl:=HN.out
       have hc:=(HP.out.below hB).cell i (by omega);have hb:=(HP.out.below hB).has i (by omega);have ht:=kl ps i (by omega);have hs1:=HS.out (i+1);rw [ht,List.length_append] at hs1
       have hzl:=hb.len_eq;have HT:ac (cD (ps.take (i+1))=cD (ps.take i)++(ps[i]'(by omega)).z):=⟨ht⟩
       obtain ⟨p,hp⟩:∃q,ps[i]'(by omega)=q:=⟨_,rfl⟩
       rw [hp] at hc HT hzl hs1 hb
       obtain ⟨px,pl,pc,pz⟩:=p;simp only [dr.val] at hc
       simp only at hzl HT hs1 hb
       obtain ⟨A,hA⟩:∃q,cD (ps.take i)=q:=⟨_,rfl⟩
       rw [hA] at HT hs1 ho
       have hlen:A.length+pl≤4000000:=by omega
       have hj0:(0:Int)≤(i:Int):=by omega
       have hjn:(i:Int)<(j:Int):=by omega
       clear hl ht hzl hp hA hs1
       go_wp2_with (at_builtin;refine aF rfl _ _ rfl W.heap.size _ A rfl ho px pl pc pz rfl hb hlen hB.size ?_;intro v3 w3 ho3 hg3)
       go_roundw
       case rel=>exact ⟨i+1,by omega,by go_num,by rw [HT.out];exact ho3,below_grown hB ho hg3 hB.size⟩
       case measure=>simp [intOf];omega
     · obtain rfl:i=j:=by omega
       rw [HTK.out] at ho
       go_wp2;go_ret;exact ⟨_,rfl,ho,hB⟩
def bE4 (n:Int):List Int:=[n / 16777216 % 256,n / 65536 % 256,n / 256 % 256,n % 256]
theorem ib (g n:Nat) (ps:List dr) (w:World) (h:aQ w g ps) (hn:n=ps.length) (hn1:n≤1000) (hs:nO ps≤1000000):
    Calls Tryz.prog 78 #[.slice (some ⟨g,0,none⟩) n n] w fun e w'=>∃v,e=.returned v∧aq w' w.heap.size v (cD ps)∧Below w.heap.size w w':=by
 have HP:ac (aQ w g ps):=⟨h⟩
 have HN:ac (n=ps.length):=⟨hn⟩
 have HS:ac (∀j,(cD (ps.take j)).length≤1000000):=⟨fun j=>by have:=ss ps j;unfold nO at hs;omega⟩
 have HTK:ac (ps.take n=ps):=⟨List.take_of_length_le (by omega)⟩
 clear h hn hs;go_enter Tryz.func78,Tryz.ntmps78
 go_wp2_with fail
 go_loopw [3,8] (fun v jv wr=>∃i:Nat,i≤n∧jv=.int .i64 i∧aq wr w.heap.size v (cD (ps.take i))∧Below w.heap.size w wr) (fun _ jv _=>n - (intOf jv).toNat)
 case atStart=>exact ⟨0,by omega,rfl,aq.nil _ _,Below.refl _ _⟩
 case round=>
  obtain ⟨i,hi,rfl,ho,hB⟩:=hrel
  by_cases hlt:i<n
  · have hl:=HN.out
    have hc:=(HP.out.below hB).cell i (by omega);have hb:=(HP.out.below hB).has i (by omega);have ht:=kl ps i (by omega);have hs1:=HS.out (i+1);rw [ht,List.length_append] at hs1
    have hzl:=hb.len_eq;have HT:ac (cD (ps.take (i+1))=cD (ps.take i)++(ps[i]'(by omega)).z):=⟨ht⟩
    obtain ⟨p,hp⟩:∃q,ps[i]'(by omega)=q:=⟨_,rfl⟩
    rw [hp] at hc HT hzl hs1 hb
    obtain ⟨px,pl,pc,pz⟩:=p;simp only [dr.val] at hc
    simp only at hzl HT hs1 hb
    obtain ⟨A,hA⟩:∃q,cD (ps.take i)=q:=⟨_,rfl⟩
    rw [hA] at HT hs1 ho
    have hlen:A.length+pl≤4000000:=by omega
    have hj0:(0:Int)≤(i:Int):=by omega
    have hjn:(i:Int)<(n:Int):=by omega
    clear hl ht hzl hp hA hs1
    go_wp2_with (at_builtin;refine aF rfl _ _ rfl w.heap.size _ A rfl ho px pl pc pz rfl hb hlen hB.size ?_;intro v3 w3 ho3 hg3)
    go_roundw
    case rel=>exact ⟨i+1,by omega,by go_num,by rw [HT.out];exact ho3,below_grown hB ho hg3 hB.size⟩
    case measure=>simp [intOf];omega
  · obtain rfl:i=n:=by omega
    rw [HTK.out] at ho
    go_wp2;go_ret;exact ⟨_,rfl,ho,hB⟩
theorem m8 (n:Int) (w:World):
    Calls Tryz.prog 79 #[.int .u32 n] w fun e w'=>e=.returned (.slice (some ⟨w.heap.size,0,none⟩) 4 4)∧w'=w.alloc (.cells (row .u8 (bE4 n)) 5):=by
 have e1:IntKind.u8.wrap (n / 16777216)=n / 16777216 % 256:=by simp [IntKind.wrap,IntKind.bits,IntKind.signed]
 have e2:IntKind.u8.wrap (n / 65536)=n / 65536 % 256:=by simp [IntKind.wrap,IntKind.bits,IntKind.signed]
 have e3:IntKind.u8.wrap (n / 256)=n / 256 % 256:=by simp [IntKind.wrap,IntKind.bits,IntKind.signed]
 have e4:IntKind.u8.wrap n=n % 256:=by simp [IntKind.wrap,IntKind.bits,IntKind.signed]
 go_enter Tryz.func79,Tryz.ntmps79;go_wp2;go_ret;exact ⟨rfl,rfl⟩
end Go.Proofs.YtbdhfbglagdiaaaGreatDoor
namespace Go.Proofs.YtbdhfbglagdiaaaGreatDoor.S
open Go.RowKit
def lenOf:Value→Nat| .slice _ n _=>n|_=>0
def aq (w:World) (base:Nat) (v:Value) (z:List Int):Prop:=w.ownsRow base 5 1 v z.length (z.map (Value.int .u8))
theorem aq.cast {w:World} {base n:Nat} {v:Value} {z:List Int} {xs:List Value} (h:w.ownsRow base 5 1 v n xs) (hn:n=z.length) (hx:xs=z.map (Value.int .u8)):aq w base v z:=by
 subst hn hx;exact h
theorem aF {w:World} {ops:Array Oper} {rest:List Oper} {o:Oper} {a:Act} {Q:Exit→Act→World→Prop} (hgd:o.guard=none) (s x:Operand)
    (ho:o.op=.call {callee:=.builtin .append,args:= #[s,x],argTypes:= #[41,41]}) (base:Nat) (v:Value) (zs:List Int) (hs:a.eval s=v) (hown:aq w base v zs)
    (y:Option Addr) (len cap:Nat) (z:List Int) (hx:a.eval x=.slice y len cap) (hb:Bytes w y len cap z) (hln:zs.length+len≤4000000) (hbase:base≤w.heap.size)
    (h:∀v' w',aq w' base v' (zs++z)→w.grownBy w' v.ownBlock→wpList Tryz.prog ops Q rest (a.put o.dst v') w'):wpList Tryz.prog ops Q (o::rest) a w:=by
 obtain ⟨i0,hi,hz0,hz1,hz2⟩:=info_parts dp;have hzl:=hb.len_eq;have hcase:∀ad:Addr,y=some ad→(∀j u,(z.map (Value.int .u8))[j]?=some u→w.cell? (ad.add j)=some u)→wpList Tryz.prog ops Q (o::rest) a w:=fun ad hy hsrc=>by
  subst hy;refine wpList_append_own w hgd s x 41 ho base 5 i0 (.int .u8 0) 1 1 Tryz.underlying41 hi hz0 hz1 hz2 rfl (by decide) v zs.length (zs.map (Value.int .u8)) hs hown ad len cap (z.map (Value.int .u8)) hx (by simp [hzl]) hsrc (by simp [Value.oneCell']) (by simp [maxLen];omega) (by omega) hbase ?_;intro v' w' h1 h2 _;exact h v' w' (aq.cast h1 (by simp [hzl]) (by simp)) h2
 rcases hb.at_ with h0|⟨b,off,hy,hc⟩
 · have hz0':z=[]:=List.length_eq_zero_iff.1 (by omega)
   cases y with
   |none=>
    have hc0:=hb.nil rfl;subst h0 hc0 hz0';refine wpList_append_own_none hgd s x 41 ho base 5 i0 1 Tryz.underlying41 hi v zs.length (zs.map (Value.int .u8)) hs hown hx ?_;exact h v w (by rw [List.append_nil];exact hown) ⟨rfl,rfl,rfl,Nat.le_refl _,fun _ _ _=>rfl⟩
   |some ad=>exact hcase ad rfl (fun j u hu=>by subst hz0';simp at hu)
 · exact hcase _ hy (fun j u hu=>by
    have hj:j<len:=by have:=(List.getElem?_eq_some_iff.1 hu).1;simpa [hzl] using this
    rw [Addr.add_mid',hc j hj,←hu,List.getElem?_map,List.getElem?_eq_getElem (by omega)];rfl)
theorem bG {w:World} {ops:Array Oper} {rest:List Oper} {o:Oper} {a:Act} {Q:Exit→Act→World→Prop} (hgd:o.guard=none) (s x:Operand)
    (ho:o.op=.call {callee:=.builtin .append,args:= #[s,x],argTypes:= #[41,41]}) (base:Nat) (v:Value) (zs:List Int) (hs:a.eval s=v) (c:Int) (hown:aq (w.alloc (.cells #[.int .u8 c] 5)) base v zs)
    (hx:a.eval x=.slice (some ⟨w.heap.size,0,none⟩) 1 1) (hln:zs.length≤4000000) (hbase:base≤w.heap.size)
    (h:∀v' w',aq w' base v' (zs++ [c])→(w.alloc (.cells #[.int .u8 c] 5)).grownBy w' v.ownBlock→wpList Tryz.prog ops Q rest (a.put o.dst v') w'):wpList Tryz.prog ops Q (o::rest) a (w.alloc (.cells #[.int .u8 c] 5)):=by
 obtain ⟨i0,hi,hz0,hz1,hz2⟩:=info_parts dp;refine wpList_append_own (w.alloc (.cells #[.int .u8 c] 5)) hgd s x 41 ho base 5 i0 (.int .u8 0) 1 1 Tryz.underlying41 hi hz0 hz1 hz2 rfl (by decide) v zs.length (zs.map (Value.int .u8)) hs hown ⟨w.heap.size,0,none⟩ 1 1 [.int .u8 c] hx rfl (cell_one_new _ _ _) (by simp [Value.oneCell']) (by simp [maxLen];omega) (by omega) (by simp;omega) ?_;intro v' w' h1 h2 _;exact h v' w' (aq.cast h1 (by simp) (by simp)) h2
theorem aq.nil (w:World) (base:Nat):aq w base (.slice none 0 0) []:=World.ownsRow_nil w base 5 1
theorem aq.alloc {w:World} {base:Nat} {v:Value} {z:List Int} (h:aq w base v z) (o:Obj):aq (w.alloc o) base v z:=World.ownsRow.alloc h o
theorem aq.slice {w:World} {base:Nat} {v:Value} {z:List Int} (h:aq w base v z) (hz:0<z.length):∃g cap,v=.slice (some ⟨g,0,none⟩) z.length cap∧base≤g:=by
 rcases h.2 with ⟨_,h0⟩|⟨g,cap,cur,rfl,hb,_⟩
 · omega
 · exact ⟨g,cap,rfl,hb⟩
theorem below_grown {base:Nat} {w0 w w':World} {v:Value} {z:List Int} (hb:Below base w0 w) (hown:aq w base v z) (hg:w.grownBy w' v.ownBlock) (hbase:base≤w.heap.size):Below base w0 w':=
 hb.grown hg hbase (fun k hk=>by
  rcases hown.2 with ⟨rfl,_⟩|⟨g,cap,cur,rfl,hb,_⟩
  · cases hk
  · simp [Value.ownBlock] at hk;omega)
theorem aa.bytes {w:World} {g:Nat} {t:TypeId} {l:List Int} {n:Nat} (h:aa w g .u8 t l) (hn:n=l.length) (hl:l.length≤4000000):Bytes w (some ⟨g,0,none⟩) n n l:=by
 subst hn;exact ⟨rfl,Nat.le_refl _,by omega,(fun h=>by cases h),.inr ⟨g,0,rfl,fun j hj=>by rw [Nat.zero_add];exact h.cell j hj⟩⟩
theorem aq.bytes {w:World} {base:Nat} {x:Option Addr} {n cap:Nat} {z:List Int} (h:aq w base (.slice x n cap) z):n=z.length∧Bytes w x n cap z:=by
 rcases h.2 with ⟨h1,h0⟩|⟨g,cap',cur,h1,_,hg,hc,hm,hs,ht⟩
 · have hz:z=[]:=List.length_eq_zero_iff.1 h0
   cases h1;subst hz;exact ⟨rfl,cY w⟩
 · cases h1
   refine ⟨rfl,rfl,hc,by simpa [maxLen] using hm,(fun h=>by cases h),.inr ⟨g,0,rfl,fun j hj=>?_⟩⟩;rw [Nat.zero_add,cell_of_row w g j _ _ _ hg,←Array.getElem?_toList];have e:(cur.toList.take (z.length*1))[j]?=(z.map (Value.int .u8))[j]?:=by rw [ht]
   rw [Nat.mul_one,List.getElem?_take_of_lt hj,List.getElem?_map,List.getElem?_eq_getElem hj] at e
   rw [e,List.getElem?_eq_getElem hj];rfl
theorem aq.isSlice {w:World} {base:Nat} {v:Value} {z:List Int} (h:aq w base v z):∃x n c,v=.slice x n c∧n=z.length:=by
 rcases h.2 with ⟨rfl,h0⟩|⟨g,cap,cur,rfl,_⟩
 · exact ⟨none,0,0,rfl,h0.symm⟩
 · exact ⟨_,_,_,rfl,rfl⟩
set_option maxRecDepth 20000
def Box (w:World) (H:Nat) (t:TypeId) (v:Value):Prop:=w.heap[H]?=some (.cells #[v] t (0,0))
theorem Box.cell {w:World} {H:Nat} {t:TypeId} {v:Value} (h:Box w H t v):w.cell? ⟨H,0,none⟩=some v:=(cell_of_row w H 0 _ t _ h).trans rfl
theorem Box.frozen {w:World} {H:Nat} {t:TypeId} {v:Value} (h:Box w H t v):w.frozen? ⟨H,0,none⟩=false:=frozen_of_row w H 0 _ t h
theorem Box.lt {w:World} {H:Nat} {t:TypeId} {v:Value} (h:Box w H t v):H<w.heap.size:=(Array.getElem?_eq_some_iff.1 h).1
theorem Box.set {w:World} {H:Nat} {t:TypeId} {v:Value} (h:Box w H t v) (v':Value):Box (w.setCell ⟨H,0,none⟩ v') H t v':=by
 unfold Box at h ⊢
 rw [heap_setCell_same w H 0 _ t _ h];rfl
theorem aq.ne_box {w:World} {base H:Nat} {t:TypeId} {v u:Value} {z:List Int} (h:aq w base v z) (hb:Box w H t u) (ht:t≠5):v.ownBlock=none∨v.ownBlock≠some H:=by
 rcases h.2 with ⟨rfl,_⟩|⟨g,cap,cur,rfl,_,hg,_⟩
 · exact .inl rfl
 · refine .inr fun e=>?_
   simp [Value.ownBlock] at e
   subst e;unfold Box at hb
   rw [hg] at hb
   simp at hb
   exact ht hb.2.symm
theorem Box.grown {w w':World} {base H:Nat} {t:TypeId} {v u:Value} {z:List Int} (hb:Box w H t u) (h:aq w base v z) (hg:w.grownBy w' v.ownBlock) (ht:t≠5):Box w' H t u:=by
 have hl:=hb.lt;have hne:=h.ne_box hb ht;unfold Box at hb ⊢
 rw [hg.block H hl (fun e=>by rcases hne with h0|h0<;>rw [←e] at h0<;>simp at h0)];exact hb
theorem aq.setBox {w:World} {base H:Nat} {t:TypeId} {v u:Value} {z:List Int} (h:aq w base v z) (hb:Box w H t u) (ht:t≠5) (u':Value):aq (w.setCell ⟨H,0,none⟩ u') base v z:=by
 have hne:=h.ne_box hb ht;exact World.ownsRow.kept h (row:=some H) ⟨rfl,rfl,rfl,by simp [World.setCell],fun k _ hk=>heap_setCell_other w _ k _ (fun e=>hk (by rw [e]))⟩ hne
theorem eI (H base:Nat) (v:Value) (zs:List Int) (x:Option Addr) (len cap:Nat) (z:List Int) (w:World) (hbox:Box w H 227 v) (hown:aq w base v zs) (hb:Bytes w x len cap z) (hln:zs.length+len≤4000000) (hH:base≤H):
    Calls Tryz.prog 179 #[.pointer (some ⟨H,0,none⟩),.slice x len cap] w fun e w'=>(∃r,e=.returned r)∧∃v',Box w' H 227 v'∧aq w' base v' (zs++z)∧Below base w w':=by
 have hbase:base≤w.heap.size:=by have:=hbox.lt;omega
 have hc:=hbox.cell;go_enter Tryz.func179,Tryz.ntmps179
 go_wp2_with (at_builtin;refine aF rfl _ _ rfl base _ zs rfl hown x len cap z rfl hb hln hbase ?_;intro v1 w1 ho1 hg1;have hb1:=hbox.grown hown hg1 (by decide);have hc1:=hb1.cell;have hf1:=hb1.frozen;obtain ⟨x1,n1,c1,hv1,hn1⟩:=ho1.isSlice;subst hv1;clear hn1)
 go_end0
 exact ⟨⟨_,rfl⟩,_,hb1.set _,ho1.setBox hb1 (by decide) _,(below_grown (Below.refl _ _) hown hg1 hbase).setCell hH _⟩
theorem kx (H base:Nat) (v:Value) (z:List Int) (w:World) (hbox:Box w H 227 v) (hown:aq w base v z) (hbytes:∀x n c,v=.slice x n c→Bytes w x n c z) (hln:z.length≤1000000) (hk:KTab w):
    Calls Tryz.prog 180 #[.pointer (some ⟨H,0,none⟩)] w fun e w'=>e=.returned (.agg (row .u8 (sumL z)))∧Below w.heap.size w w':=by
 obtain ⟨x1,n1,c1,hv1,hn1⟩:=hown.isSlice;subst hv1;have hln:n1≤1000000:=by omega
 clear hn1;have hy:=hbytes _ _ _ rfl;have hc:∀o,(w.alloc o).cell? ⟨H,0,none⟩=some (.slice x1 n1 c1):=fun o=>(cell_of_row _ H 0 _ _ (0,0) ((Below.heap_alloc w o H hbox.lt).trans hbox)).trans rfl
 have hN:=aa.new w .u8 23 (List.replicate 32 0);have hs:∀wx,Below w.heap.size w wx→Calls Tryz.prog 59 #[.slice x1 n1 c1] wx fun e w'=>e=.returned (.agg (row .u8 (sumL z)))∧Below wx.heap.size wx w':=fun wx hx=>sN x1 n1 c1 z wx (hy.below hx) hln (hk.below hx)
 have hdl:=aW z;obtain ⟨D,hD⟩:∃D,sumL z=D:=⟨_,rfl⟩
 rw [hD] at hs hdl ⊢
 clear hD hy hbytes;go_enter Tryz.func180,Tryz.ntmps180
 go_wp2_with (first
  |(go_at_call 59;refine (hs _ ((Below.refl _ _).alloc (Nat.le_refl _) _)).mono ?_;rintro e w1 ⟨rfl,hb1⟩;have hN1:=hN.below hb1 (by simp))
  |(refine ah rfl 23 _ _ rfl _ rfl rfl hN1 (by rw [hdl];exact aI) (by simp [hdl]) ?_))
 refine bodyPost_ret (aj (Tryz.results180) _ rfl (hN1.setRow _) Tryz.underlying23 aI hdl) rfl ⟨rfl,?_⟩;exact below_setRow (((Below.refl _ _).alloc (Nat.le_refl _) _).trans (hb1.mono (by simp))) (Nat.le_refl _) _
theorem ez:(Tryz.prog.info? 204).map (·.size)=some 64:=by kernel_rfl
def ld (f:Int→Int) (k:List Int) (j:Nat):List Int:=(k.take j).map f++k.drop j
theorem pH (f:Int→Int) (k:List Int) (j:Nat):(ld f k j).length=k.length:=by simp [ld];omega
theorem wh (f:Int→Int) (k:List Int) (j:Nat) (h:j<k.length):(ld f k j)[j]?.getD 0=k[j]?.getD 0:=by
 unfold ld;rw [List.getElem?_append_right (by simp;omega)];simp only [List.length_map,List.length_take,List.getElem?_drop];rw [show j+(j - min j k.length)=j by omega]
theorem wE (f:Int→Int) (k:List Int) (j:Nat) (h:j<k.length):(ld f k j).set j (f (k[j]?.getD 0))=ld f k (j+1):=by
 unfold ld;rw [List.drop_eq_getElem_cons h,List.set_append_right _ _ (by simp;omega),List.take_succ_eq_append_getElem h,List.getElem?_eq_getElem h];simp only [List.length_map,List.length_take,Option.getD_some,List.map_append,List.map_cons,List.map_nil,List.append_assoc,List.cons_append,List.nil_append];rw [show j - min j k.length=0 by omega]
 rfl
def aU (t:Int) (k:List Int):List Int:=k.map fun c=>bits .xor .u8 c t
theorem dQ (t:Int) (k:List Int):(aU t k).length=k.length:=by simp [aU]
theorem iU (k:List Int) (t:Int) (w:World) (hk:k.length=64):
    Calls Tryz.prog 181 #[.agg (row .u8 k),.int .u8 t] w fun e w'=>∃H v,e=.returned (.pointer (some ⟨H,0,none⟩))∧w.heap.size≤H∧Box w' H 227 v∧aq w' w.heap.size v (aU t k)∧Below w.heap.size w w':=by
 go_enter Tryz.func181,Tryz.ntmps181;go_wp2
 go_loopw [7] (fun i wr=>∃j:Nat,j≤64∧i=.int .i64 j∧Below w.heap.size w wr∧aa wr w.heap.size .u8 204 (ld (fun c=>bits .xor .u8 c t) k j)) (fun i _=>64 - (intOf i).toNat)
 case atStart=>exact ⟨0,by omega,rfl,(Below.refl _ _).alloc (Nat.le_refl _) _,aa.new w .u8 204 k⟩
 case round=>
  obtain ⟨j,hj,rfl,hB,hH⟩:=hrel
  by_cases hlt:j<64
  · have c1:=hH.cell j (by rw [pH];omega)
    rw [wh _ _ _ (by omega)] at c1
    have f1:=hH.frozen j;have hst:=wE (fun c=>bits .xor .u8 c t) k j (by omega);obtain ⟨V,hV⟩:∃V,k[j]?.getD 0=V:=⟨_,rfl⟩
    rw [hV] at c1 hst
    have HST:Hid ((ld (fun c=>bits .xor .u8 c t) k j).set j (bits .xor .u8 V t)=ld (fun c=>bits .xor .u8 c t) k (j+1)):=hst;clear hst hV;go_wp2;go_roundw
    case rel=>exact ⟨j+1,by omega,by go_num,hB.setCell (Nat.le_refl _) _,by rw [←HST.out];exact hH.set j _⟩
    case measure=>simp [intOf];omega
  · obtain rfl:j=64:=by omega
    have hm:ld (fun c=>bits .xor .u8 c t) k 64=aU t k:=by
     unfold ld aU;rw [List.take_of_length_le (by omega),List.drop_of_length_le (by omega),List.append_nil]
    rw [hm] at hH
    have hl:(aU t k).length=64:=by rw [dQ,hk]
    have hy:=hH.bytes (n:=64) hl.symm (by omega);have hB5:Below wr.heap.size wr (wr.alloc (.cells #[.slice none 0 0] 227)).drew:=((Below.refl _ _).alloc (Nat.le_refl _) _).drew;have tk:=eI wr.heap.size w.heap.size (.slice none 0 0) [] (some ⟨w.heap.size,0,none⟩) 64 64 (aU t k) (wr.alloc (.cells #[.slice none 0 0] 227)).drew (World.alloc_heap_new wr _) (aq.nil _ _) (hy.below hB5) (by simp) hB.size;have hBw:Below w.heap.size w (wr.alloc (.cells #[.slice none 0 0] 227)).drew:=(hB.alloc hB.size _).drew;have hsz:=hB.size;go_upto_region 7 with fail
    go_region_with (go_at_call 179;refine tk.mono ?_;rintro e w4 ⟨⟨r,rfl⟩,v4,hb4,ho4,hB4⟩)
    go_wp2;go_ret;exact ⟨_,v4,rfl,hsz,hb4,ho4,hBw.trans hB4⟩
theorem tu (k:List Int) (w:World) (hk:k.length=64):
    Calls Tryz.prog 163 #[.agg (row .u8 k)] w fun e w'=>∃H v,e=.returned (.pointer (some ⟨H,0,none⟩))∧w.heap.size<H∧Box w' H 227 v∧aq w' (w.heap.size+1) v (aU 54 k)∧Below w.heap.size w w':=by
 have h0:aa (w.alloc (.cells (row .u8 k) 204)) w.heap.size .u8 204 k:=aa.new w .u8 204 k;go_enter Tryz.func163,Tryz.ntmps163
 go_wp2_with (first
  |(refine am rfl 204 _ rfl _ rfl h0 Tryz.underlying204 ez hk ?_)
  |(go_at_call 181;refine (iU k 54 _ hk).mono ?_;rintro e w1 ⟨H,v,rfl,h1,h2,h3,h4⟩))
 go_ret;exact ⟨H,v,rfl,by simp at h1;omega,h2,by simpa using h3,((Below.refl _ _).alloc (Nat.le_refl _) _).trans (h4.mono (by simp))⟩
theorem ur (k:List Int) (w:World) (hk:k.length=64):
    Calls Tryz.prog 164 #[.agg (row .u8 k)] w fun e w'=>∃H v,e=.returned (.pointer (some ⟨H,0,none⟩))∧w.heap.size<H∧Box w' H 227 v∧aq w' (w.heap.size+1) v (aU 92 k)∧Below w.heap.size w w':=by
 have h0:aa (w.alloc (.cells (row .u8 k) 204)) w.heap.size .u8 204 k:=aa.new w .u8 204 k;go_enter Tryz.func164,Tryz.ntmps164
 go_wp2_with (first
  |(refine am rfl 204 _ rfl _ rfl h0 Tryz.underlying204 ez hk ?_)
  |(go_at_call 181;refine (iU k 92 _ hk).mono ?_;rintro e w1 ⟨H,v,rfl,h1,h2,h3,h4⟩))
 go_ret;exact ⟨H,v,rfl,by simp at h1;omega,h2,by simpa using h3,((Below.refl _ _).alloc (Nat.le_refl _) _).trans (h4.mono (by simp))⟩
end Go.Proofs.YtbdhfbglagdiaaaGreatDoor.S
