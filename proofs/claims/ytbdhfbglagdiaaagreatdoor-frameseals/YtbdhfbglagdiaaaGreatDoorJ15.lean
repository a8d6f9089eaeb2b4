/- Px Pk0 Py Pl Pz Pz2 Cq Cu Cf -/
import Derived.Test.YtbdhfbglagdiaaaGreatDoorJ14
import Derived.Test.YtbdhfbglagdiaaaGreatDoorJ13
import Derived.Laws.BitsLemmas
import Derived.Lib.SlBytesConst
import Derived.Test.YtbdhfbglagdiaaaGreatDoorJ01
import Derived.Test.YtbdhfbglagdiaaaGreatDoorJ02
import Derived.Deep.RegionWith
namespace Go.Proofs.YtbdhfbglagdiaaaGreatDoor
open Go
theorem yE (x:Int) (h0:0≤x) (h1:x<18446744073709551616):∃n:Nat,x=n∧n<18446744073709551616:=by
 obtain ⟨n,rfl⟩:=Int.eq_ofNat_of_zero_le h0;exact ⟨n,rfl,by omega⟩
theorem eZ (x:Int) (h0:0≤x) (h1:x<18446744073709551616):bits .or .u64 x 0=x:=by
 have:=cU 0 x 64 (by omega) (by omega) (by omega) h0 (by omega) h1;rw [this];omega
theorem f5 (x:Int) (h0:0≤x) (h1:x<18446744073709551616):bits .or .u64 0 x=x:=by rw [eU];exact eZ x h0 h1
theorem fg (x:Int) (h0:0≤x) (h1:x<18446744073709551616):bits .and .u64 x 0=0:=by
 have:=bits_mask .u64 64 (by decide) iX 0 (by omega) x h0 (by omega);simp at this
 simpa using this
theorem f7 (x:Int) (h0:0≤x) (h1:x<18446744073709551616):bits .and .u64 x 18446744073709551615=x:=by
 have:=bits_mask .u64 64 (by decide) iX 64 (by omega) x h0 (by omega);have e:((2:Int) ^ 64 - 1)=18446744073709551615:=by decide
 rw [e] at this
 rw [this];omega
theorem dt (x:Int) (h0:0≤x) (h1:x<18446744073709551616):bits .andNot .u64 x 0=x:=by
 obtain ⟨n,rfl,hn⟩:=yE x h0 h1;have h1:(BitVec.ofInt 64 (n:Int)).toNat=n:=by rw [BitVec.ofInt_natCast,BitVec.toNat_ofNat];exact Nat.mod_eq_of_lt (by omega)
 have h2:BitVec.ofInt 64 (n:Int)&&&~~~ (BitVec.ofInt 64 0)=BitVec.ofInt 64 (n:Int):=by
  have: ~~~ (BitVec.ofInt 64 0)=BitVec.allOnes 64:=by decide
  rw [this,BitVec.and_allOnes]
 show IntKind.u64.wrap ((BitVec.ofInt 64 (n:Int)&&&~~~ (BitVec.ofInt 64 0)).toNat:Int)=_;rw [h2,h1,IntKind.wrap_u64];omega
theorem d9 (x:Int):bits .andNot .u64 x 18446744073709551615=0:=by
 have h2:BitVec.ofInt 64 x&&&~~~ (BitVec.ofInt 64 18446744073709551615)=0#64:=by
  have: ~~~ (BitVec.ofInt 64 18446744073709551615)=0#64:=by decide
  rw [this,BitVec.and_zero]
 show IntKind.u64.wrap ((BitVec.ofInt 64 x&&&~~~ (BitVec.ofInt 64 18446744073709551615)).toNat:Int)=_;rw [h2];decide
theorem qt (x0 x1 x2 x3 x4:Int) (R:List Int) (hx:gN x0 x1 x2 x3 x4):
    ∃s0 s1 s2 s3 s4,eC (x0::x1::x2::x3::x4::R)=s0::s1::s2::s3::s4::R∧gN s0 s1 s2 s3 s4∧V5 s0 s1 s2 s3 s4=V5 x0 x1 x2 x3 x4 % 1361129467683753853853498429727072845819:=by
 have hx':=hx;unfold gN at hx'
 have h5:(x0+5) % 18446744073709551616=x0+5:=by omega
 obtain ⟨c0,c1,c2,c3,c4,hc,b0,b1,b2,b3,b4,hv⟩:=rQ (x0+5) x1 x2 x3 x4 [] (by omega) (by omega) (by omega) (by omega) (by omega);have hl:lessL (x0::x1::x2::x3::x4::R)=[c0,c1,c2,c3,c4]:=by
  have e:lessL (x0::x1::x2::x3::x4::R)=carryK [(x0+5) % 18446744073709551616,x1,x2,x3,x4] 4:=rfl;rw [e,h5];exact hc
 have hv2:V5 c0 c1 c2 c3 c4=V5 x0 x1 x2 x3 x4+5:=by rw [hv];unfold V5;omega
 have hs:eC (x0::x1::x2::x3::x4::R)=selK (x0::x1::x2::x3::x4::R) [c0,c1,c2,c3,bits .and .u64 c4 67108863] (IntKind.u64.wrap (-(c4 / 67108864))) 5:=by
  unfold eC;rw [hl];rfl
 have hc4:c4<134217728:=by unfold V5 at hv2;omega
 rw [hs,iu c4 (by omega) (by omega)]
 by_cases ho:c4<67108864
 · have hz:c4 / 67108864=0:=by omega
   have hw:IntKind.u64.wrap (-(0:Int))=0:=by decide
   rw [hz,hw];refine ⟨x0,x1,x2,x3,x4,?_,hx,?_⟩
   · have e:selK (x0::x1::x2::x3::x4::R) [c0,c1,c2,c3,c4 % 67108864] 0 5=bits .or .u64 (bits .andNot .u64 x0 0) (bits .and .u64 c0 0)::bits .or .u64 (bits .andNot .u64 x1 0) (bits .and .u64 c1 0)::bits .or .u64 (bits .andNot .u64 x2 0) (bits .and .u64 c2 0)::bits .or .u64 (bits .andNot .u64 x3 0) (bits .and .u64 c3 0)::bits .or .u64 (bits .andNot .u64 x4 0) (bits .and .u64 (c4 % 67108864) 0)::R:=rfl
     rw [e,dt x0 (by omega) (by omega),dt x1 (by omega) (by omega),dt x2 (by omega) (by omega),dt x3 (by omega) (by omega),dt x4 (by omega) (by omega),fg c0 (by omega) (by omega),fg c1 (by omega) (by omega),fg c2 (by omega) (by omega),fg c3 (by omega) (by omega),fg _ (by omega) (by omega),eZ x0 (by omega) (by omega),eZ x1 (by omega) (by omega),eZ x2 (by omega) (by omega),eZ x3 (by omega) (by omega),eZ x4 (by omega) (by omega)]
   · symm
     apply Int.emod_eq_of_lt
     · unfold V5;omega
     · unfold V5 at hv2 ⊢;omega
 · have hz:c4 / 67108864=1:=by omega
   have hw:IntKind.u64.wrap (-(1:Int))=18446744073709551615:=by decide
   rw [hz,hw];refine ⟨c0,c1,c2,c3,c4 % 67108864,?_,⟨b0,by omega,b2,b3,by omega⟩,?_⟩
   · have e:selK (x0::x1::x2::x3::x4::R) [c0,c1,c2,c3,c4 % 67108864] 18446744073709551615 5=bits .or .u64 (bits .andNot .u64 x0 18446744073709551615) (bits .and .u64 c0 18446744073709551615)::bits .or .u64 (bits .andNot .u64 x1 18446744073709551615) (bits .and .u64 c1 18446744073709551615)::bits .or .u64 (bits .andNot .u64 x2 18446744073709551615) (bits .and .u64 c2 18446744073709551615)::bits .or .u64 (bits .andNot .u64 x3 18446744073709551615) (bits .and .u64 c3 18446744073709551615)::bits .or .u64 (bits .andNot .u64 x4 18446744073709551615) (bits .and .u64 (c4 % 67108864) 18446744073709551615)::R:=rfl
     rw [e,d9,d9,d9,d9,d9,f7 c0 (by omega) (by omega),f7 c1 (by omega) (by omega),f7 c2 (by omega) (by omega),f7 c3 (by omega) (by omega),f7 _ (by omega) (by omega),f5 c0 (by omega) (by omega),f5 c1 (by omega) (by omega),f5 c2 (by omega) (by omega),f5 c3 (by omega) (by omega),f5 _ (by omega) (by omega)]
   · have hV:V5 c0 c1 c2 c3 (c4 % 67108864)=V5 x0 x1 x2 x3 x4 - 1361129467683753853853498429727072845819:=by
      unfold V5 at hv2 ⊢;omega
     rw [hV];have h1:0≤V5 x0 x1 x2 x3 x4 - 1361129467683753853853498429727072845819:=by rw [←hV];unfold V5;omega
     have h2:V5 x0 x1 x2 x3 x4 - 1361129467683753853853498429727072845819<1361129467683753853853498429727072845819:=by unfold V5;omega
     omega
def o8 (n:Int):List Int:=[n % 256,n / 256 % 256,n / 65536 % 256,n / 16777216 % 256,n / 4294967296 % 256,n / 1099511627776 % 256,n / 281474976710656 % 256,n / 72057594037927936 % 256,n / 18446744073709551616 % 256,n / 4722366482869645213696 % 256,n / 1208925819614629174706176 % 256,n / 309485009821345068724781056 % 256,n / 79228162514264337593543950336 % 256,n / 20282409603651670423947251286016 % 256,n / 5192296858534827628530496329220096 % 256,n / 1329227995784915872903807060280344576 % 256]
theorem qz (c0 c1 c2 c3 c4:Int) (R:List Int) (h0:0≤c0∧c0<67108864) (h1:0≤c1∧c1<67108864) (h2:0≤c2∧c2<67108864) (h3:0≤c3∧c3<67108864) (_h4:0≤c4∧c4<1152921504606846976):
    fu (c0::c1::c2::c3::c4::R)=o8 (V5 c0 c1 c2 c3 c4):=by
 have e:fu (c0::c1::c2::c3::c4::R)=k7 (bits .or .u64 (bits .or .u64 c0 (c1*67108864 % 18446744073709551616)) (c2*4503599627370496 % 18446744073709551616)) (bits .or .u64 (bits .or .u64 (c2 / 4096) (c3*16384 % 18446744073709551616)) (c4*1099511627776 % 18446744073709551616)) 8:=rfl;have m1:c1*67108864 % 18446744073709551616=c1*67108864:=by omega
 have m2:c2*4503599627370496 % 18446744073709551616=c2 % 4096*4503599627370496:=by omega
 have m3:c3*16384 % 18446744073709551616=c3*16384:=by omega
 have m4:c4*1099511627776 % 18446744073709551616=c4 % 16777216*1099511627776:=by omega
 rw [e,m1,m2,m3,m4,cU (c1*67108864) c0 26 (by omega) (by omega) (by omega) (by omega) (by omega) (by omega),cU (c2 % 4096*4503599627370496) _ 52 (by omega) (by omega) (by omega) (by omega) (by omega) (by omega),cU (c3*16384) (c2 / 4096) 14 (by omega) (by omega) (by omega) (by omega) (by omega) (by omega),cU (c4 % 16777216*1099511627776) _ 40 (by omega) (by omega) (by omega) (by omega) (by omega) (by omega)];have hN:∃q,V5 c0 c1 c2 c3 c4=(c2 % 4096*4503599627370496+(c1*67108864+c0))+(c4 % 16777216*1099511627776+(c3*16384+c2 / 4096))*18446744073709551616+q*340282366920938463463374607431768211456:=⟨c4 / 16777216,by unfold V5;omega⟩
 obtain ⟨q,hN⟩:=hN;have bl:0≤c2 % 4096*4503599627370496+(c1*67108864+c0)∧c2 % 4096*4503599627370496+(c1*67108864+c0)<18446744073709551616:=by omega
 have bh:0≤c4 % 16777216*1099511627776+(c3*16384+c2 / 4096)∧c4 % 16777216*1099511627776+(c3*16384+c2 / 4096)<18446744073709551616:=by omega
 rw [hN];generalize c2 % 4096*4503599627370496+(c1*67108864+c0)=lo at*
 generalize c4 % 16777216*1099511627776+(c3*16384+c2 / 4096)=hi at*
 have eL:k7 lo hi 8=[lo % 256,lo / 256 % 256,lo / 65536 % 256,lo / 16777216 % 256,lo / 4294967296 % 256,lo / 1099511627776 % 256,lo / 281474976710656 % 256,lo / 72057594037927936 % 256,hi % 256,hi / 256 % 256,hi / 65536 % 256,hi / 16777216 % 256,hi / 4294967296 % 256,hi / 1099511627776 % 256,hi / 281474976710656 % 256,hi / 72057594037927936 % 256]:=by
  simp [k7]
 rw [eL];unfold o8;clear e m1 m2 m3 m4 hN eL h0 h1 h2 h3;simp only [List.cons.injEq,and_true];refine ⟨by omega,by omega,by omega,by omega,by omega,by omega,by omega,by omega,by omega,by omega,by omega,by omega,by omega,by omega,by omega,by omega⟩
theorem wQ (x0 x1 x2 x3 x4:Int) (R:List Int) (z0 z1 z2 z3 z4 z5 z6 z7 y0 y1 y2 y3 y4 y5 y6 y7:Int) (hx:gN x0 x1 x2 x3 x4) (h0:isB z0) (h1:isB z1) (h2:isB z2) (h3:isB z3) (h4:isB z4) (h5:isB z5) (h6:isB z6) (h7:isB z7)
    (g0:isB y0) (g1:isB y1) (g2:isB y2) (g3:isB y3) (g4:isB y4) (g5:isB y5) (g6:isB y6) (g7:isB y7):
    ie (x0::x1::x2::x3::x4::R) [z0,z1,z2,z3,z4,z5,z6,z7,y0,y1,y2,y3,y4,y5,y6,y7]=o8 (V5 x0 x1 x2 x3 x4 % 1361129467683753853853498429727072845819+N16 z0 z1 z2 z3 z4 z5 z6 z7 y0 y1 y2 y3 y4 y5 y6 y7):=by
 obtain ⟨s0,s1,s2,s3,s4,hs,hsf,hsv⟩:=qt x0 x1 x2 x3 x4 R hx;obtain ⟨m0,m1,m2,m3,m4,hn,hm,hv⟩:=oo z0 z1 z2 z3 z4 z5 z6 z7 y0 y1 y2 y3 y4 y5 y6 y7 0 h0 h1 h2 h3 h4 h5 h6 h7 g0 g1 g2 g3 g4 g5 g6 g7 (by omega);have hm':=hm;have hs':=hsf;unfold mP at hm'
 unfold gN at hs'
 have ha:addK (s0::s1::s2::s3::s4::R) [m0,m1,m2,m3,m4] 5=(s0+m0)::(s1+m1)::(s2+m2)::(s3+m3)::(s4+m4)::R:=by
  rw [sm];rw [Int.emod_eq_of_lt (a:=s0+m0) (by omega) (by omega),Int.emod_eq_of_lt (a:=s1+m1) (by omega) (by omega),Int.emod_eq_of_lt (a:=s2+m2) (by omega) (by omega),Int.emod_eq_of_lt (a:=s3+m3) (by omega) (by omega),Int.emod_eq_of_lt (a:=s4+m4) (by omega) (by omega)]
 obtain ⟨c0,c1,c2,c3,c4,hc,b0,b1,b2,b3,b4,hcv⟩:=rQ (s0+m0) (s1+m1) (s2+m2) (s3+m3) (s4+m4) R (by omega) (by omega) (by omega) (by omega) (by omega);have hap:[z0,z1,z2,z3,z4,z5,z6,z7,y0,y1,y2,y3,y4,y5,y6,y7]++ [(0:Int)]=[z0,z1,z2,z3,z4,z5,z6,z7,y0,y1,y2,y3,y4,y5,y6,y7,0]:=rfl;unfold ie;rw [hs,hap,hn,ha,hc,qz c0 c1 c2 c3 c4 R b0 b1 b2 b3 (by omega),hcv];have hsum:V5 (s0+m0) (s1+m1) (s2+m2) (s3+m3) (s4+m4)=V5 s0 s1 s2 s3 s4+V5 m0 m1 m2 m3 m4:=by unfold V5;omega
 rw [hsum,hsv,hv,Int.zero_mul,Int.add_zero]
open Go.RowKit
set_option maxRecDepth 100000
set_option linter.unusedSimpArgs false
theorem jU {l:List Int} (h:l.length=16):∃a0 a1 a2 a3 a4 a5 a6 a7 a8 a9 b0 b1 b2 b3 b4 b5,l=[a0,a1,a2,a3,a4,a5,a6,a7,a8,a9,b0,b1,b2,b3,b4,b5]:=by
 match l,h with
 |[a0,a1,a2,a3,a4,a5,a6,a7,a8,a9,b0,b1,b2,b3,b4,b5],_=>exact ⟨a0,a1,a2,a3,a4,a5,a6,a7,a8,a9,b0,b1,b2,b3,b4,b5,rfl⟩
theorem mO {k:List Int} {a0 a1 a2 a3 a4 a5 a6 a7 a8 a9 b0 b1 b2 b3 b4 b5:Int} (h:k.take 16=[a0,a1,a2,a3,a4,a5,a6,a7,a8,a9,b0,b1,b2,b3,b4,b5]):
    bM k=[a0,a1,a2,bits .and .u8 a3 15,bits .and .u8 a4 252,a5,a6,bits .and .u8 a7 15,bits .and .u8 a8 252,a9,b0,bits .and .u8 b1 15,bits .and .u8 b2 252,b3,b4,bits .and .u8 b5 15]:=by
 unfold bM;rw [h];rfl
theorem kQ (v:Int) (h0:0≤v) (h1:v≤255):bits .and .u8 v 15=v % 16:=bits_mask .u8 8 (by decide) wraps_u8 4 (by omega) v h0 (by omega)
theorem kn (v:Int) (h0:0≤v) (h1:v≤255):bits .and .u8 v 252=v / 4*4:=by
 obtain ⟨n,rfl⟩:=Int.eq_ofNat_of_zero_le h0;have hn:n<256:=by omega
 have key:∀m:Fin 256,bits .and .u8 (m.1:Int) 252=(m.1:Int) / 4*4:=by decide+kernel
 exact key ⟨n,hn⟩
theorem nw (k:List Int) (hk:k.length=32) (hu:∀v∈k,0≤v∧v≤255):∀v∈bM k,0≤v∧v≤255:=by
 have hl:(k.take 16).length=16:=by rw [List.length_take];omega
 have hu':∀v∈k.take 16,0≤v∧v≤255:=fun v hv=>hu v (List.mem_of_mem_take hv)
 obtain ⟨a0,a1,a2,a3,a4,a5,a6,a7,a8,a9,b0,b1,b2,b3,b4,b5,h⟩:=jU hl;rw [h] at hu'
 rw [mO h,kQ a3 (hu' _ (by simp)).1 (hu' _ (by simp)).2,kQ a7 (hu' _ (by simp)).1 (hu' _ (by simp)).2,kQ b1 (hu' _ (by simp)).1 (hu' _ (by simp)).2,kQ b5 (hu' _ (by simp)).1 (hu' _ (by simp)).2,kn a4 (hu' _ (by simp)).1 (hu' _ (by simp)).2,kn a8 (hu' _ (by simp)).1 (hu' _ (by simp)).2,kn b2 (hu' _ (by simp)).1 (hu' _ (by simp)).2];intro v hv;simp only [List.mem_cons,List.not_mem_nil,or_false] at hv hu'
 have q:=fun x hx=>hu' x hx
 rcases hv with rfl|rfl|rfl|rfl|rfl|rfl|rfl|rfl|rfl|rfl|rfl|rfl|rfl|rfl|rfl|rfl
 all_goals first
  |exact hu' _ (by simp)
  |(have h3:=hu' a3 (by simp);have h4:=hu' a4 (by simp);have h7:=hu' a7 (by simp);have h8:=hu' a8 (by simp);have h11:=hu' b1 (by simp);have h12:=hu' b2 (by simp);have h15:=hu' b5 (by simp);omega)
def leN:List Int→Int
 |[]=>0
 |a::l=>a+256*leN l
def xC (r:Int) (bs:List Int):Int:=bs.foldl (fun a b=>(a+b)*r % 1361129467683753853853498429727072845819) 0
theorem uo {l:List Int} (h:l.length=17):∃a0 a1 a2 a3 a4 a5 a6 a7 a8 a9 b0 b1 b2 b3 b4 b5 t,l=[a0,a1,a2,a3,a4,a5,a6,a7,a8,a9,b0,b1,b2,b3,b4,b5,t]:=by
 match l,h with
 |[a0,a1,a2,a3,a4,a5,a6,a7,a8,a9,b0,b1,b2,b3,b4,b5,t],_=>exact ⟨a0,a1,a2,a3,a4,a5,a6,a7,a8,a9,b0,b1,b2,b3,b4,b5,t,rfl⟩
theorem yp (a0 a1 a2 a3 a4 a5 a6 a7 a8 a9 b0 b1 b2 b3 b4 b5 t:Int):leN [a0,a1,a2,a3,a4,a5,a6,a7,a8,a9,b0,b1,b2,b3,b4,b5,t]=N16 a0 a1 a2 a3 a4 a5 a6 a7 a8 a9 b0 b1 b2 b3 b4 b5+t*340282366920938463463374607431768211456:=by
 simp only [leN];unfold N16;omega
theorem xF (a0 a1 a2 a3 a4 a5 a6 a7 a8 a9 b0 b1 b2 b3 b4 b5:Int):leN [a0,a1,a2,a3,a4,a5,a6,a7,a8,a9,b0,b1,b2,b3,b4,b5]=N16 a0 a1 a2 a3 a4 a5 a6 a7 a8 a9 b0 b1 b2 b3 b4 b5:=by
 simp only [leN];unfold N16;omega
theorem pO (z:List Int) (hz:∀v∈z,isB v) (i:Nat):∀v∈cV z i,isB v:=by
 intro v hv;unfold cV at hv
 rcases List.mem_or_eq_of_mem_set hv with h|rfl
 · rcases List.mem_append.1 h with h|h
   · exact hz v (List.mem_of_mem_drop (List.mem_of_mem_take h))
   · have:=(List.mem_replicate.1 h).2
     subst this;exact ⟨by omega,by omega⟩
 · exact ⟨by omega,by omega⟩
theorem ww (z:List Int) (i:Nat):(0:Int)≤(cV z i)[16]?.getD (0:Int)∧(cV z i)[16]?.getD (0:Int)≤1:=by
 unfold cV;have hl:((z.drop (16*i)).take 16).length≤16:=by rw [List.length_take];omega
 generalize (z.drop (16*i)).take 16=c at hl
 by_cases h:c.length=16
 · rw [List.getElem?_set,h]
   simp [h]
 · rw [List.getElem?_set_ne (by omega),List.getElem?_append_right (by omega),List.getElem?_replicate]
   split<;>simp
theorem wz (X A n r X' q:Int) (hA:X % 1361129467683753853853498429727072845819=A) (h:(X+n)*r=X'+q*1361129467683753853853498429727072845819):X' % 1361129467683753853853498429727072845819=(A+n)*r % 1361129467683753853853498429727072845819:=by
 have e:X'=(A+n)*r+(X / 1361129467683753853853498429727072845819*r - q)*1361129467683753853853498429727072845819:=by
  have hX:=Int.emod_add_mul_ediv X 1361129467683753853853498429727072845819;rw [hA] at hX
  have h2:X'=(X+n)*r - q*1361129467683753853853498429727072845819:=by omega
  rw [h2];generalize X / 1361129467683753853853498429727072845819=p at hX ⊢
  rw [←hX]
  grind
 rw [e,Int.add_mul_emod_self_right]
theorem oZ (z:List Int) (hz:∀v∈z,isB v) (r0 r1 r2 r3 r4:Int) (hr:mP r0 r1 r2 r3 r4):∀(is:List Nat) (x0 x1 x2 x3 x4 A:Int),gN x0 x1 x2 x3 x4→V5 x0 x1 x2 x3 x4 % 1361129467683753853853498429727072845819=A→
    ∃a b c d e,eS z is [x0,x1,x2,x3,x4,r0,r1,r2,r3,r4]=[a,b,c,d,e,r0,r1,r2,r3,r4]∧gN a b c d e∧V5 a b c d e % 1361129467683753853853498429727072845819=(is.map fun i=>leN (cV z i)).foldl (fun a b=>(a+b)*V5 r0 r1 r2 r3 r4 % 1361129467683753853853498429727072845819) A
 |[],x0,x1,x2,x3,x4,A,hx,hA=>⟨x0,x1,x2,x3,x4,rfl,hx,hA⟩
 |i::is,x0,x1,x2,x3,x4,A,hx,hA=>by
  have hl:=fv z i;have hb:=pO z hz i;have ht:=ww z i;obtain ⟨z0,z1,z2,z3,z4,z5,z6,z7,y0,y1,y2,y3,y4,y5,y6,y7,t,hB⟩:=uo hl;rw [hB] at hb ht
  obtain ⟨a,b,c,d,e,q,hT,hf,hv⟩:=vL x0 x1 x2 x3 x4 r0 r1 r2 r3 r4 z0 z1 z2 z3 z4 z5 z6 z7 y0 y1 y2 y3 y4 y5 y6 y7 t hx hr (hb _ (by simp)) (hb _ (by simp)) (hb _ (by simp)) (hb _ (by simp)) (hb _ (by simp)) (hb _ (by simp)) (hb _ (by simp)) (hb _ (by simp)) (hb _ (by simp)) (hb _ (by simp)) (hb _ (by simp)) (hb _ (by simp)) (hb _ (by simp)) (hb _ (by simp)) (hb _ (by simp)) (hb _ (by simp)) ht;rw [←yp] at hv
  obtain ⟨a',b',c',d',e',h1,h2,h3⟩:=oZ z hz r0 r1 r2 r3 r4 hr is a b c d e _ hf (wz _ A _ _ _ q hA hv);refine ⟨a',b',c',d',e',?_,h2,?_⟩
  · unfold eS at h1 ⊢
    rw [List.foldl_cons,hB,hT];exact h1
  · rw [h3,List.map_cons,List.foldl_cons,hB]
theorem oP (k z:List Int) (hk:k.length=32) (hu:∀v∈k,isB v) (hz:∀v∈z,isB v):
    fk k z=o8 (xC (leN (bM k)) ((List.range ((z.length+15) / 16)).map fun i=>leN (cV z i))+leN (k.drop 16)):=by
 have hcl:=dx k hk;have hci:=nw k hk hu;obtain ⟨a0,a1,a2,a3,a4,a5,a6,a7,a8,a9,b0,b1,b2,b3,b4,b5,hC⟩:=jU hcl;rw [hC] at hci
 obtain ⟨r0,r1,r2,r3,r4,hn,hr,hv⟩:=oo a0 a1 a2 a3 a4 a5 a6 a7 a8 a9 b0 b1 b2 b3 b4 b5 0 (hci _ (by simp)) (hci _ (by simp)) (hci _ (by simp)) (hci _ (by simp)) (hci _ (by simp)) (hci _ (by simp)) (hci _ (by simp)) (hci _ (by simp)) (hci _ (by simp)) (hci _ (by simp)) (hci _ (by simp)) (hci _ (by simp)) (hci _ (by simp)) (hci _ (by simp)) (hci _ (by simp)) (hci _ (by simp)) (by omega);have hA:cM k=[0,0,0,0,0,r0,r1,r2,r3,r4]:=by
  unfold cM;have hap:[a0,a1,a2,a3,a4,a5,a6,a7,a8,a9,b0,b1,b2,b3,b4,b5]++ [(0:Int)]=[a0,a1,a2,a3,a4,a5,a6,a7,a8,a9,b0,b1,b2,b3,b4,b5,0]:=rfl;rw [hC,hap,hn];rfl
 obtain ⟨a,b,c,d,e,h1,h2,h3⟩:=oZ z hz r0 r1 r2 r3 r4 hr (List.range ((z.length+15) / 16)) 0 0 0 0 0 0 (by unfold gN;omega) (by unfold V5;omega);have hdl:(k.drop 16).length=16:=by rw [List.length_drop];omega
 have hdi:∀v∈k.drop 16,isB v:=fun v hv=>hu v (List.mem_of_mem_drop hv)
 obtain ⟨s0,s1,s2,s3,s4,s5,s6,s7,s8,s9,t0,t1,t2,t3,t4,t5,hS⟩:=jU hdl;rw [hS] at hdi
 unfold fk;rw [hA,h1,hS,wQ a b c d e [r0,r1,r2,r3,r4] s0 s1 s2 s3 s4 s5 s6 s7 s8 s9 t0 t1 t2 t3 t4 t5 h2 (hdi _ (by simp)) (hdi _ (by simp)) (hdi _ (by simp)) (hdi _ (by simp)) (hdi _ (by simp)) (hdi _ (by simp)) (hdi _ (by simp)) (hdi _ (by simp)) (hdi _ (by simp)) (hdi _ (by simp)) (hdi _ (by simp)) (hdi _ (by simp)) (hdi _ (by simp)) (hdi _ (by simp)) (hdi _ (by simp)) (hdi _ (by simp)),h3,xF];unfold xC;rw [hC,xF,hv,Int.zero_mul,Int.add_zero]
set_option maxRecDepth 20000
def leB:Nat→Int→List Int
 |0,_=>[]
 |j+1,n=>n % 256::leB j (n / 256)
theorem vS (n:Int):o8 n=leB 16 n:=by
 simp only [leB,o8];simp only [List.cons.injEq,and_true,true_and];refine ⟨by omega,by omega,by omega,by omega,by omega,by omega,by omega,by omega,by omega,by omega,by omega,by omega,by omega,by omega⟩
theorem wL (n:Int):∀v∈o8 n,isB v:=by
 intro v hv;unfold o8 at hv
 simp only [List.mem_cons,List.not_mem_nil,or_false] at hv
 unfold isB;omega
theorem jW {a b:Int} (h:a=b):Ending.returned (.int .u32 a)=.returned (.int .u32 b):=by rw [h]
def rl (n:Nat) (x:Int):Int:=bits .or .u32 (x*2 ^ n % 4294967296) (x / 2 ^ (32 - n))
def mD (n:Int):Prop:=n=16∨n=12∨n=8∨n=7
theorem lm (x n:Int) (w:World) (hn:mD n):
    Calls Tryz.prog 183 #[.int .u32 x,.int .i64 n] w fun e w'=>e=.returned (.int .u32 (rl n.toNat x))∧w'=w:=by
 have h16:bits BinOp.and IntKind.u64 16 31=16:=by decide
 have h12:bits BinOp.and IntKind.u64 12 31=12:=by decide
 have h8:bits BinOp.and IntKind.u64 8 31=8:=by decide
 have h7:bits BinOp.and IntKind.u64 7 31=7:=by decide
 rcases hn with rfl|rfl|rfl|rfl
 all_goals
  go_enter Tryz.func183,Tryz.ntmps183;go_wp2;go_ret;exact ⟨jW rfl,rfl⟩
def yF (n:Int):Prop:=n=16∨n=12∨n=8∨n=7∨n=20∨n=24∨n=25
theorem fs (x n:Int) (w:World) (hn:yF n):
    Calls Tryz.prog 182 #[.int .u32 x,.int .i64 n] w fun e w'=>e=.returned (.int .u32 (rl n.toNat x))∧∃q,w'=w.drewN q:=by
 rcases hn with rfl|rfl|rfl|rfl|rfl|rfl|rfl
 all_goals
  go_enter Tryz.func182,Tryz.ntmps182;go_wp2
  go_quiet ((fail))
  go_wp2;go_ret;exact ⟨jW rfl,_,rfl⟩
def qd1 (a b d:Int):Int:=rl 16 (bits .xor .u32 d ((a+b) % 4294967296))
def qc1 (a b c d:Int):Int:=(c+qd1 a b d) % 4294967296
def qb1 (a b c d:Int):Int:=rl 12 (bits .xor .u32 b (qc1 a b c d))
def qa2 (a b c d:Int):Int:=(a+b+qb1 a b c d) % 4294967296
def qd2 (a b c d:Int):Int:=rl 8 (bits .xor .u32 (qd1 a b d) (qa2 a b c d))
def qc2 (a b c d:Int):Int:=(c+qd1 a b d+qd2 a b c d) % 4294967296
def qb2 (a b c d:Int):Int:=rl 7 (bits .xor .u32 (qb1 a b c d) (qc2 a b c d))
def qr (a b c d:Int):Int×Int×Int×Int:=(qa2 a b c d,qb2 a b c d,qc2 a b c d,qd2 a b c d)
theorem jD {fn:Func} {t u v x:Tmp} (h:fn.results= #[.tmp t,.tmp u,.tmp v,.tmp x]) (tmps:Array Value) (P:Program) (w:World):
    (results fn tmps).run P w=.ok (.tuple #[tmps.getD t undef,tmps.getD u undef,tmps.getD v undef,tmps.getD x undef]) w:=by
 simp [results,h,go_sem]
theorem cI (a b c d:Int) (w:World):
    Calls Tryz.prog 170 #[.int .u32 a,.int .u32 b,.int .u32 c,.int .u32 d] w fun e w'=>e=.returned (.tuple #[.int .u32 (qr a b c d).1,.int .u32 (qr a b c d).2.1,.int .u32 (qr a b c d).2.2.1,.int .u32 (qr a b c d).2.2.2])∧w'=w:=by
 have r16:=fun x wx=>lm x 16 wx (.inl rfl)
 have r12:=fun x wx=>lm x 12 wx (.inr (.inl rfl))
 have r8:=fun x wx=>lm x 8 wx (.inr (.inr (.inl rfl)))
 have r7:=fun x wx=>lm x 7 wx (.inr (.inr (.inr rfl)))
 go_enter Tryz.func170,Tryz.ntmps170
 go_wp2_with (go_at_call 183;first|(with_reducible refine (r16 _ _).mono ?_;rintro e w' ⟨rfl,rfl⟩)|(with_reducible refine (r12 _ _).mono ?_;rintro e w' ⟨rfl,rfl⟩)|(with_reducible refine (r8 _ _).mono ?_;rintro e w' ⟨rfl,rfl⟩)|(with_reducible refine (r7 _ _).mono ?_;rintro e w' ⟨rfl,rfl⟩))
 refine bodyPost_ret (jD Tryz.results170 _ _ _) rfl ?_;exact ⟨rfl,rfl⟩
theorem lA (a b c d:Int) (w:World):
    Calls Tryz.prog 166 #[.int .u32 a,.int .u32 b,.int .u32 c,.int .u32 d] w fun e w'=>e=.returned (.tuple #[.int .u32 (qr a b c d).1,.int .u32 (qr a b c d).2.1,.int .u32 (qr a b c d).2.2.1,.int .u32 (qr a b c d).2.2.2])∧∃q,w'=w.drewN q:=by
 have r16:=fun x wx=>fs x 16 wx (.inl rfl)
 have r12:=fun x wx=>fs x 12 wx (.inr (.inl rfl))
 have r8:=fun x wx=>fs x 8 wx (.inr (.inr (.inl rfl)))
 have r7:=fun x wx=>fs x 7 wx (.inr (.inr (.inr (.inl rfl))))
 go_enter Tryz.func166,Tryz.ntmps166
 go_wp2_with (go_at_call 182;first|(with_reducible refine (r16 _ _).mono ?_;rintro e w' ⟨rfl,q1,rfl⟩)|(with_reducible refine (r12 _ _).mono ?_;rintro e w' ⟨rfl,q2,rfl⟩)|(with_reducible refine (r8 _ _).mono ?_;rintro e w' ⟨rfl,q3,rfl⟩)|(with_reducible refine (r7 _ _).mono ?_;rintro e w' ⟨rfl,q4,rfl⟩))
 refine bodyPost_ret (jD Tryz.results166 _ _ _) rfl ?_;exact ⟨rfl,_,rfl⟩
def U32 (x:Int):Prop:=0≤x∧x≤4294967295
theorem U32.nat {x:Int} (h:U32 x):∃n:Nat,n<4294967296∧x=n:=⟨x.toNat,by have:=h.1;have:=h.2;omega,by have:=h.1;omega⟩
theorem xm {l:List Int} (h:l.length=4):∃a b c d,l=[a,b,c,d]:=by
 match l,h with
 |[a,b,c,d],_=>exact ⟨a,b,c,d,rfl⟩
set_option maxHeartbeats 1000000
def wl (a b c d:Int):Int:=
 bits .or .u32 (bits .or .u32 (bits .or .u32 (a % 4294967296) (b % 4294967296*256 % 4294967296)) (c % 4294967296*65536 % 4294967296)) (d % 4294967296*16777216 % 4294967296)
def wlAt (z:List Int) (i:Nat):Int:=wl (z[4*i]?.getD 0) (z[4*i+1]?.getD 0) (z[4*i+2]?.getD 0) (z[4*i+3]?.getD 0)
def wlL (z:List Int) (k:Nat):List Int:=(List.range k).map (wlAt z)
theorem gI (z:List Int) (k:Nat):(wlL z k).length=k:=by simp [wlL]
theorem uL (z:List Int) (k:Nat):wlL z (k+1)=wlL z k++ [wlAt z k]:=by simp [wlL,List.range_succ]
theorem kJ (b off cap:Nat) (z0 z1 z2 z3:Int) (w:World)
    (h0:w.cell? ⟨b,off,none⟩=some (.int .u8 z0)) (h1:w.cell? ⟨b,off+1,none⟩=some (.int .u8 z1))
    (h2:w.cell? ⟨b,off+2,none⟩=some (.int .u8 z2)) (h3:w.cell? ⟨b,off+3,none⟩=some (.int .u8 z3)):
    Calls Tryz.prog 165 #[.slice (some ⟨b,off,none⟩) 4 cap] w fun e w'=>e=.returned (.int .u32 (wl z0 z1 z2 z3))∧∃n,w'=w.drewN n:=by
 go_enter Tryz.func165,Tryz.ntmps165;go_wp2
 go_quiet ((fail))
 go_wp2;go_ret;exact ⟨rfl,_,rfl⟩
def bT (l z:List Int) (o k:Nat):List Int:=l.take o++wlL z k++l.drop (o+k)
theorem fillK_length (l z:List Int) (o k:Nat) (h:o+k≤l.length):(bT l z o k).length=l.length:=by
 simp [bT,gI];omega
theorem ji (l z:List Int) (o:Nat):bT l z o 0=l:=by simp [bT,wlL]
theorem kr (l z:List Int) (o k:Nat) (h:o+k<l.length):(bT l z o k).set (o+k) (wlAt z k)=bT l z o (k+1):=by
 have e:l.drop (o+k)=l[o+k]::l.drop (o+k+1):=List.drop_eq_getElem_cons h;have hl:(l.take o++wlL z k).length=o+k:=by simp [gI];omega
 unfold bT;rw [e,List.set_append_right _ _ (by omega),hl,Nat.sub_self,sZ,uL];simp [Nat.add_assoc]
theorem jz (g o m cap bb bn bcap:Nat) (z l:List Int) (t:TypeId) (w:World) (hg:aa w g .u32 t l) (hom:o+m≤l.length) (hm:m≤16) (hcap:m≤cap) (hcap2:cap≤1000)
    (hne:bb<g) (hbn:bn=4*m) (hbc:bn≤bcap) (hbc2:bcap≤1000) (hcell:∀j,j<bn→w.cell? ⟨bb,j,none⟩=some (.int .u8 (z[j]?.getD 0))):
    Calls Tryz.prog 169 #[.slice (some ⟨g,o,none⟩) m cap,.slice (some ⟨bb,0,none⟩) bn bcap] w fun e w'=>(∃v,e=.returned v)∧Below g w w'∧w'.heap.size=w.heap.size∧aa w' g .u32 t (bT l z o m):=by
 have HBN:Hid (bn=4*m):=hbn;clear hbn;go_enter Tryz.func169,Tryz.ntmps169;go_wp2
 go_loopw [8] (fun i wr=>∃k:Nat,k≤m∧i=.int .i64 k∧Below g w wr∧wr.heap.size=w.heap.size∧aa wr g .u32 t (bT l z o k))
  (fun i _=>m - (intOf i).toNat)
 case atStart=>exact ⟨0,by omega,rfl,Below.refl _ _,rfl,by rw [ji];exact hg⟩
 case round=>
  obtain ⟨k,hk,rfl,hB,hsz,hH⟩:=hrel
  by_cases hlt:k<m
  · obtain ⟨I,hI⟩:∃I:Nat,4*k=I:=⟨_,rfl⟩
    have hbn:=HBN.out;have c:∀j,j<bn→wr.cell? ⟨bb,j,none⟩=some (.int .u8 (z[j]?.getD 0)):=fun j hj=>(hB.cell (p:=⟨bb,j,none⟩) hne).trans (hcell j hj)
    have c0:wr.cell? ⟨bb,I,none⟩=some (.int .u8 (z[4*k]?.getD 0)):=by rw [hI];exact c I (by omega)
    have c1:wr.cell? ⟨bb,I+1,none⟩=some (.int .u8 (z[4*k+1]?.getD 0)):=by rw [hI];exact c (I+1) (by omega)
    have c2:wr.cell? ⟨bb,I+2,none⟩=some (.int .u8 (z[4*k+2]?.getD 0)):=by rw [hI];exact c (I+2) (by omega)
    have c3:wr.cell? ⟨bb,I+3,none⟩=some (.int .u8 (z[4*k+3]?.getD 0)):=by rw [hI];exact c (I+3) (by omega)
    have hcc:=hH.cell (o+k) (by rw [fillK_length _ _ _ _ (by omega)];omega);have hff:=hH.frozen (o+k);have hnb:¬g=bb:=by omega
    have hI':(k:Int)*4=(I:Int):=by omega
    have i4:(I:Int)+3<(bn:Int):=by omega
    have i3:(I:Int)+2<(bn:Int):=by omega
    have i2:(I:Int)+1<(bn:Int):=by omega
    have i1:(I:Int)<(bn:Int):=by omega
    have j1:IntKind.i64.wrap ((I:Int)+1)=(I:Int)+1:=by rw [IntKind.wrap_i64];omega
    have j2:IntKind.i64.wrap ((I:Int)+2)=(I:Int)+2:=by rw [IntKind.wrap_i64];omega
    have j3:IntKind.i64.wrap ((I:Int)+3)=(I:Int)+3:=by rw [IntKind.wrap_i64];omega
    have n1:(0:Int)≤(I:Int)+1:=by omega
    have n2:(0:Int)≤(I:Int)+2:=by omega
    have n3:(0:Int)≤(I:Int)+3:=by omega
    have t1:((I:Int)+1).toNat=I+1:=by omega
    have t2:((I:Int)+2).toNat=I+2:=by omega
    have t3:((I:Int)+3).toNat=I+3:=by omega
    have hki:(k:Int)<(m:Int):=by omega
    clear c hcell hbn;go_upto_region 4 with fail
    have HI:Hid (4*k=I):=hI;clear hI hI';obtain ⟨Z0,hZ0⟩:∃x,z[4*k]?.getD 0=x:=⟨_,rfl⟩
    obtain ⟨Z1,hZ1⟩:∃x,z[4*k+1]?.getD 0=x:=⟨_,rfl⟩
    obtain ⟨Z2,hZ2⟩:∃x,z[4*k+2]?.getD 0=x:=⟨_,rfl⟩
    obtain ⟨Z3,hZ3⟩:∃x,z[4*k+3]?.getD 0=x:=⟨_,rfl⟩
    rw [hZ0] at c0
    rw [hZ1] at c1
    rw [hZ2] at c2
    rw [hZ3] at c3
    have HZ:Hid (wlAt z k=wl Z0 Z1 Z2 Z3):=by show wlAt z k=_;unfold wlAt;rw [hZ0,hZ1,hZ2,hZ3]
    clear hZ0 hZ1 hZ2 hZ3
    go_region_held3 (fun w'=>w'.cell? ⟨bb,I,none⟩=some (.int .u8 Z0)∧w'.cell? ⟨bb,I+1,none⟩=some (.int .u8 Z1)∧w'.cell? ⟨bb,I+2,none⟩=some (.int .u8 Z2)∧w'.cell? ⟨bb,I+3,none⟩=some (.int .u8 Z3))
     (go_keep) (fail)
    go_wp2;go_roundw
    case rel=>
     refine ⟨k+1,by omega,by go_num,(hB.setCell (p:=⟨g,o+k,none⟩) (Nat.le_refl _) _).drew,by simp [hsz],?_⟩;have:=(hH.set (o+k) (wlAt z k)).drew;rw [kr _ _ _ _ (by omega)] at this
     rw [HZ.out] at this
     exact this
    case measure=>simp [intOf];omega
  · obtain rfl:k=m:=by omega
    go_wp2
    go_end0
    exact ⟨⟨_,rfl⟩,hB,hsz,hH⟩
end Go.Proofs.YtbdhfbglagdiaaaGreatDoor
