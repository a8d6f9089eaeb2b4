/- Eqp An5 An6 Eqd -/
import Derived.Test.YtbdhfbglagdiaaaGreatDoorG02
import Derived.Laws.BitsLemmas
import Derived.Laws.Closers25b
import Derived.Test.YtbdhfbglagdiaaaGreatDoorG23
import Derived.Lib.SlBytesConst
import Derived.Test.YtbdhfbglagdiaaaGreatDoorG01
import Derived.Laws.StructEq
namespace Go.Proofs.YtbdhfbglagdiaaaGreatDoor
open Go.RowKit
set_option maxRecDepth 20000
set_option maxHeartbeats 1000000
theorem eM (a b:Nat) (ha:a<256) (hb:b<256):
    bits .xor .u8 (a:Int) (b:Int)=((a ^^^ b:Nat):Int):=by
 have hx:a ^^^ b<2 ^ 8:=Nat.xor_lt_two_pow (by omega) (by omega);have h1:(BitVec.ofInt 8 (a:Int)).toNat=a:=by
  rw [BitVec.ofInt_natCast,BitVec.toNat_ofNat];exact Nat.mod_eq_of_lt (by omega)
 have h2:(BitVec.ofInt 8 (b:Int)).toNat=b:=by
  rw [BitVec.ofInt_natCast,BitVec.toNat_ofNat];exact Nat.mod_eq_of_lt (by omega)
 show IntKind.u8.wrap ((BitVec.ofInt 8 (a:Int) ^^^ BitVec.ofInt 8 (b:Int)).toNat:Int)=_;rw [BitVec.toNat_xor,h1,h2,IntKind.wrap_u8];omega
theorem lH (u p q:Int) (hu:0≤u∧u≤255) (hp:0≤p∧p≤255) (hq:0≤q∧q≤255):bits .or .u8 u (bits .xor .u8 p q)=0↔u=0∧p=q:=by
 obtain ⟨a,rfl⟩:=Int.eq_ofNat_of_zero_le hu.1;obtain ⟨b,rfl⟩:=Int.eq_ofNat_of_zero_le hp.1;obtain ⟨c,rfl⟩:=Int.eq_ofNat_of_zero_le hq.1;have hx:b ^^^ c<2 ^ 8:=Nat.xor_lt_two_pow (by omega) (by omega);rw [eM b c (by omega) (by omega),(bits_nat .u8 8 (by decide) wraps_u8 a (b ^^^ c) (by omega) hx).2]
 constructor
 · intro h
   have h':a|||(b ^^^ c)=0:=by exact_mod_cast h
   have h2:=Nat.or_eq_zero_iff.1 h';have h3:b ^^^ (b ^^^ c)=c:=by rw [←Nat.xor_assoc,Nat.xor_self,Nat.zero_xor]
   rw [h2.2,Nat.xor_zero] at h3
   exact ⟨by omega,by omega⟩
 · rintro ⟨h1,h2⟩
   have:b=c:=by omega
   subst this;have:a=0:=by omega
   subst this;simp
def orx (z b:List Int):Nat→Int
 |0=>0
 |k+1=>bits .or .u8 (orx z b k) (bits .xor .u8 (z[k]?.getD 0) (b[k]?.getD 0))
theorem ji (z b:List Int) (k:Nat):0≤orx z b k∧orx z b k≤255:=by
 cases k with
 |zero=>exact ⟨by simp [orx],by simp [orx]⟩
 |succ k=>exact ⟨bits_lo_u8 _ _ _,bits_hi_u8 _ _ _⟩
theorem fW {z:List Int} (h:∀v∈z,0≤v∧v≤255) (k:Nat):0≤z[k]?.getD 0∧z[k]?.getD 0≤255:=by
 by_cases hk:k<z.length
 · rw [List.getElem?_eq_getElem hk];exact h _ (List.getElem_mem hk)
 · rw [List.getElem?_eq_none (by omega)];simp
theorem lz (z b:List Int) (hz:∀v∈z,0≤v∧v≤255) (hb:∀v∈b,0≤v∧v≤255) (k:Nat):orx z b k=0↔∀i,i<k→z[i]?.getD 0=b[i]?.getD 0:=by
 induction k with
 |zero=>simp [orx]
 |succ k ih=>
  simp only [orx];rw [lH _ _ _ (ji z b k) (fW hz k) (fW hb k),ih]
  constructor
  · rintro ⟨h1,h2⟩ i hi
    by_cases h:i=k
    · subst h;exact h2
    · exact h1 i (by omega)
  · intro h
    exact ⟨fun i hi=>h i (by omega),h k (by omega)⟩
theorem qY (z b:List Int) (hz:∀v∈z,0≤v∧v≤255) (hb:∀v∈b,0≤v∧v≤255) (hl:z.length=b.length):(orx z b z.length==0)=(z==b):=by
 rw [Bool.eq_iff_iff];simp only [beq_iff_eq];rw [lz z b hz hb]
 constructor
 · intro h
   apply List.ext_getElem hl;intro i h1 h2;have:=h i h1
   simpa [h1,h2] using this
 · rintro rfl i _;rfl
structure qt (p:Prop):Prop where
 out:p
theorem u4 {a b:Bool} (h:a=b):Ending.returned (.bool a)=.returned (.bool b):=by rw [h]
theorem mw (z b:List Int) (k:Nat) (p q:Int) (hp:z[k]?.getD 0=p) (hq:b[k]?.getD 0=q):orx z b (k+1)=bits .or .u8 (orx z b k) (bits .xor .u8 p q):=by subst hp hq;rfl
theorem equal_any (x:Option Addr) (len cap:Nat) (z:List Int) (y:Option Addr) (lb cb:Nat) (b:List Int) (w:World) (hx:Bytes w x len cap z) (hy:Bytes w y lb cb b) (hz:∀v∈z,0≤v∧v≤255) (hb:∀v∈b,0≤v∧v≤255):
    Calls Tryz.prog 58 #[.slice x len cap,.slice y lb cb] w fun e w'=>e=.returned (.bool (z==b))∧∃n,w'=w.drewN n:=by
 have hxl:=hx.len_eq;have hyl:=hy.len_eq;have hle:=hx.le;have htop:=hx.top
 by_cases hl:len=lb
 · have HE:qt ((orx z b len==0)=(z==b)):=⟨by rw [hxl];exact qY z b hz hb (by omega)⟩
   subst hl;clear hz hb hxl hyl;go_enter Tryz.func58,Tryz.ntmps58;go_wp2
   go_loopw [5,14] (fun u i wr=>∃k:Nat,k≤len∧i=.int .i64 k∧u=.int .u8 (orx z b k)∧∃n,wr=w.drewN n) (fun _ i _=>len - (intOf i).toNat)
   case atStart=>exact ⟨0,by omega,rfl,rfl,0,rfl⟩
   case round=>
    obtain ⟨k,hk,rfl,rfl,n,rfl⟩:=hrel
    by_cases hlt:k<len
    · obtain ⟨b1,o1,hx1,hc1⟩:∃b off,x=some ⟨b,off,none⟩∧∀j,j<len→w.cell? ⟨b,off+j,none⟩=some (.int .u8 (z[j]?.getD 0)):=by
       rcases hx.at_ with h0|h
       · omega
       · exact h
      obtain ⟨b2,o2,hx2,hc2⟩:∃b' off,y=some ⟨b',off,none⟩∧∀j,j<len→w.cell? ⟨b',off+j,none⟩=some (.int .u8 (b[j]?.getD 0)):=by
       rcases hy.at_ with h0|h
       · omega
       · exact h
      subst hx1 hx2;have c1:=hc1 k hlt;have c2:=hc2 k hlt;obtain ⟨p,hp⟩:∃p,z[k]?.getD 0=p:=⟨_,rfl⟩
      obtain ⟨q,hq⟩:∃q,b[k]?.getD 0=q:=⟨_,rfl⟩
      have HS:qt (orx z b (k+1)=bits .or .u8 (orx z b k) (bits .xor .u8 p q)):=⟨mw z b k p q hp hq⟩
      rw [hp] at c1
      rw [hq] at c2
      obtain ⟨U,hU⟩:∃q,orx z b k=q:=⟨_,rfl⟩
      rw [hU] at HS ⊢
      have hki:(0:Int)≤(k:Int):=by omega
      have hkl:(k:Int)<(len:Int):=by omega
      clear hc1 hc2 hp hq hU hx hy HE;go_wp2
      go_quiet ((fail))
      go_wp2;go_roundw
      case rel=>exact ⟨k+1,by omega,by go_num,by rw [HS.out],n+nq,by simp⟩
      case measure=>simp [intOf];omega
    · obtain rfl:k=len:=by omega
      go_wp2;go_ret;exact ⟨u4 HE.out,n,rfl⟩
 · have hne:(z==b)=false:=by
    rw [beq_eq_false_iff_ne];intro h;exact hl (by rw [hxl,hyl,h])
   have hli:¬((len:Int)=(lb:Int)):=by omega
   rw [hne];clear hxl hyl;go_enter Tryz.func58,Tryz.ntmps58;go_wp2;go_ret;exact ⟨rfl,0,rfl⟩
set_option maxHeartbeats 2000000
set_option linter.unusedSimpArgs false
theorem jF (k n o h:List Int) (ho:∀v∈o,isB v) (hh:∀v∈h,isB v):∀v∈tagL k n o h,isB v:=by
 unfold tagL;rw [pS (ej k n) (aR o h) (dR k n) (fun v hv=>lA _ 16 v (List.mem_of_mem_take hv)) (mf o h ho hh)];exact xu _
theorem ld (k n:List Int) (c:Int) (z:List Int) (hz:∀v∈z,isB v):∀v∈dk k n c z,isB v:=by
 intro v hv;obtain ⟨i,hi,rfl⟩:=List.getElem_of_mem hv;have h:=jQ k n c z i (by rw [aZ] at hi;exact hi);rw [List.getElem?_eq_getElem hi,Option.getD_some] at h
 rw [h];exact xL (ol hz i) (sG k n c i)
theorem Bytes.rangeCut {w:World} {b off len cap:Nat} {z:List Int} (h:Bytes w (some ⟨b,off,none⟩) len cap z) (l:Nat):w.rangeAt b (off+l) ((z.drop l).map (Value.int .u8)):=fun j v hv=>by
 rw [List.getElem?_map,List.getElem?_drop] at hv
 have hlt:l+j<z.length:=by
  by_cases hl:l+j<z.length
  · exact hl
  · rw [List.getElem?_eq_none (by omega)] at hv;simp at hv
 rcases h.at_ with h0|⟨b',off',hx,hc⟩
 · have:=h.len_eq;omega
 · cases hx
   rw [Nat.add_assoc,hc (l+j) (by rw [h.len_eq];exact hlt)];rw [List.getElem?_eq_getElem hlt] at hv ⊢
   simpa using hv
theorem qy (k n:List Int) (x:Option Addr) (len cap:Nat) (y:Option Addr) (lb cb:Nat) (w:World) (hl:lb<16):
    Calls Tryz.prog 49 #[.agg (row .u8 k),.agg (row .u8 n),.slice x len cap,.slice y lb cb] w fun e w'=>e=.returned (.tuple #[.slice none 0 0,.int .i64 3])∧Below w.heap.size w w':=by
 obtain ⟨D,hD⟩:∃D:Int,IntKind.i64.wrap ((lb:Int) - 16)=D:=⟨_,rfl⟩
 have hD0:D<0:=by rw [←hD,IntKind.wrap_i64];omega
 have hB0:Below w.heap.size w ((w.alloc (.cells (row .u8 k) 23)).alloc (.cells (row .u8 n) 79)):=((Below.refl _ _).alloc (Nat.le_refl _) _).alloc (by simp) _;go_enter Tryz.func49,Tryz.ntmps49;go_wp2
 go_ret2
 exact ⟨rfl,hB0⟩
theorem wT (k n:List Int) (x:Option Addr) (len cap:Nat) (o:List Int) (y:Option Addr) (lb cb:Nat) (z:List Int) (w:World) (hk:k.length=32) (hn:n.length=12) (hx:Bytes w x len cap o) (hy:Bytes w y lb cb z) (hl1:len≤100000) (hl2:lb≤100000) (hl:16≤lb) (huo:∀v∈o,isB v) (huz:∀v∈z,isB v)
    (he:tagL k n o (z.take (lb - 16))=z.drop (lb - 16)):
    Calls Tryz.prog 49 #[.agg (row .u8 k),.agg (row .u8 n),.slice x len cap,.slice y lb cb] w fun e w'=>∃g,e=.returned (.tuple #[.slice (some ⟨g,0,none⟩) (lb - 16) (lb - 16),.int .i64 0])∧w.heap.size≤g∧aa w' g .u8 5 (dk k n 1 (z.take (lb - 16)))∧Below w.heap.size w w':=by
 obtain ⟨M,hM⟩:∃M,lb - 16=M:=⟨_,rfl⟩
 rw [hM] at he
 try rw [hM]
 have hzl:=hy.len_eq;have hcb:=hy.le;have htop:=hy.top;have hwM:IntKind.i64.wrap ((lb:Int) - 16)=(M:Int):=by rw [IntKind.wrap_i64];omega
 have hM0:¬(M:Int)<0:=by omega
 obtain ⟨b,off,hyb⟩:∃b off,y=some ⟨b,off,none⟩:=by
  rcases hy.at_ with h0|⟨b,off,h,_⟩
  · omega
  · exact ⟨b,off,h⟩
 subst hyb;have hcutL:∀wx,(Instr.slice 41 (.slice (some ⟨b,off,none⟩) lb cb) none (some (.int .i64 (M:Int))) none).run Tryz.prog wx=.ok (.slice (bN (some ⟨b,off,none⟩) cb 0) M cb) wx:=fun wx=>iH wx _ lb cb M (by omega)
 have hcutR:∀wx,(Instr.slice 41 (.slice (some ⟨b,off,none⟩) lb cb) (some (.int .i64 (M:Int))) none none).run Tryz.prog wx=.ok (.slice (some ⟨b,off+M,none⟩) 16 (cb - M)) wx:=fun wx=>by
  have:=f8 wx (some ⟨b,off,none⟩) lb cb M (by omega);rw [show bN (some ⟨b,off,none⟩) cb M=some ⟨b,off+M,none⟩ by unfold bN;rw [if_neg (by omega),Option.map_some,Addr.add_mid',Nat.mul_one],show lb - M=16 by omega] at this
  exact this
 have hat:∀(b off cap:Nat) (wx:World),(Instr.arrayAt 120 (.slice (some ⟨b,off,none⟩) 16 cap)).run Tryz.prog wx=.ok (.pointer (some ⟨b,off,none⟩)) wx:=fun b off cap wx=>run_arrayAt wx 120 _ 16 _ 16 cap Tryz.underlying120 (by omega)
 have hhid:=fun wx (hb:Below w.heap.size w wx)=>(hy.below hb).cut 0 M (by omega) (by omega)
 rw [List.drop_zero,Nat.sub_zero,Nat.sub_zero] at hhid
 have hrng:=fun wx (hb:Below w.heap.size w wx)=>(hy.below hb).rangeCut M
 have hHu:∀v∈z.take M,isB v:=fun v hv=>huz v (List.mem_of_mem_take hv)
 have hDu:∀v∈z.drop M,isB v:=fun v hv=>huz v (List.mem_of_mem_drop hv)
 have hDl:(z.drop M).length=16:=by rw [List.length_drop];omega
 have hTl:(tagL k n o (z.take M)).length=16:=bU _ _;have hTu:=jF k n o (z.take M) huo hHu;obtain ⟨H,hH⟩:∃q,z.take M=q:=⟨_,rfl⟩
 obtain ⟨T,hT⟩:∃q,z.drop M=q:=⟨_,rfl⟩
 obtain ⟨Y1,hY1⟩:∃q,bN (some ⟨b,off,none⟩) cb 0=q:=⟨_,rfl⟩
 rw [hH] at he hhid hHu hTl hTu
 try rw [hH]
 rw [hT] at he hrng hDu hDl
 rw [hY1] at hcutL hhid
 have htag:=fun wx (hb:Below w.heap.size w wx)=>kg k n x len cap o Y1 M cb H wx hk hn (hx.below hb) (hhid wx hb) hl1 (by omega)
 have hxor:=fun wx (hb:Below w.heap.size w wx)=>nQ k n 1 Y1 M cb H wx hk hn ⟨by decide,by decide⟩ (hhid wx hb) (by omega)
 have HE:ac (tagL k n o H=T):=⟨he⟩
 obtain ⟨TG,hTG⟩:∃q,tagL k n o H=q:=⟨_,rfl⟩
 rw [hTG] at htag hTl hTu HE
 have iT:(Tryz.prog.info? 120).map (·.size)=some (T.map (Value.int .u8)).length:=by rw [List.length_map,hDl];exact eG
 have uT:=Tryz.underlying120;have hK0:=(aa.new w .u8 23 k).alloc (.cells (row .u8 n) 79);have hN0:=aa.new (w.alloc (.cells (row .u8 k) 23)) .u8 79 n;have hB0:Below w.heap.size w ((w.alloc (.cells (row .u8 k) 23)).alloc (.cells (row .u8 n) 79)):=((Below.refl _ _).alloc (Nat.le_refl _) _).alloc (by simp) _;rw [World.size_alloc] at hN0
 clear hH hT hY1 hTG hx hy he huo huz hzl hM;go_enter Tryz.func49,Tryz.ntmps49;go_upto_region 4 with fail
 refine ae (p:=fun y=>Code.wp _ _ _ _ y) (fun W0=>Below w.heap.size w W0∧aa W0 w.heap.size .u8 23 k∧aa W0 (w.heap.size+1) .u8 79 n) ⟨hB0,hK0,hN0⟩ ?_;clear hK0 hN0 hB0;rintro W0 ⟨hB0,hK0,hN0⟩;have hA1:=(aa.new W0 .u8 120 (List.replicate 16 0)).drew;have hBd:=hB0.drew;refine ag (fun w'=>w'.rangeAt b (off+M) (T.map (Value.int .u8))) 10 (by kernel_rfl) ?_;have hS:=hrng _ hBd;refine gaA 0 _ hS ?_;simp only [zp];refine gaA 1 _ hS ?_;simp only [zp];refine gaA 2 _ hS ?_;simp only [zp];refine gaA 3 _ hS ?_;simp only [zp];refine gaA 4 _ hS ?_;simp only [zp];refine gaA 5 _ hS ?_;simp only [zp];refine gaA 6 _ hS ?_;simp only [zp];refine zg 7 26 120 25 b ((off+M)) (T.map (Value.int .u8)) hS (fun _ h=>h) uT iT ?_;simp only [zp];refine zw 8 fun K hK=>?_
 go_simp;replace hS:=hrng _ (hB0.alloc hB0.size (.cells (row .u8 (List.replicate 16 0)) 120)).drew;refine hK.out _ _ (fun _=>hS) ?_;clear hK K;refine gaA 9 _ hS ?_;simp only [zp];refine zw 10 fun K hK=>?_
 refine dI 120 _ _ rfl _ rfl rfl hA1 (by rw [hDl];exact eG) (by simp [hDl]) ?_;refine hK.out _ _ zn ?_;clear hK K;refine ah (by kernel_rfl) ?_ _;have hsz:=hB0.size;refine ae (p:=fun y=>Exit.then _ _ _ _ y) (fun W1=>Below w.heap.size w W1∧Below W0.heap.size W0 W1∧aa W1 W0.heap.size .u8 120 T) ⟨below_setRow (hB0.alloc hB0.size _).drew hB0.size _,below_setRow ((Below.refl _ _).alloc (Nat.le_refl _) _).drew (Nat.le_refl _) _,hA1.setRow _⟩ ?_;rintro W1 ⟨hB1,hb01,hT1⟩;have hK1:=hK0.below hb01 hK0.lt;have hN1:=hN0.below hb01 hN0.lt;have hlt1:=hT1.lt;obtain ⟨G1,hG1⟩:∃q,W0.heap.size=q:=⟨_,rfl⟩
 rw [hG1] at hT1 hsz hlt1 ⊢
 clear hG1 hA1 hBd hK0 hN0 hB0 hb01 hS hrng hcutL hcutR hat;have htg:=htag W1 hB1;simp only [zp];go_upto_region 6 with (first
  |(refine am rfl 23 _ rfl _ rfl hK1 Tryz.underlying23 eX hk ?_)
  |(refine am rfl 79 _ rfl _ rfl hN1 Tryz.underlying79 iX hn ?_)
  |(go_at_call 76;refine htg.mono ?_;rintro e w2 ⟨rfl,hb2⟩;have hA2:=aa.new w2 .u8 120 (List.replicate 16 0))
  |(refine aj rfl 120 _ _ rfl _ rfl rfl hA2 (by rw [hTl];exact eG) (by simp [hTl]) ?_))
 have hB2:Below w.heap.size w w2:=hB1.trans (hb2.mono hB1.size);have hb12:Below W1.heap.size W1 ((w2.alloc (.cells (row .u8 (List.replicate 16 0)) 120)).setRow w2.heap.size (row .u8 TG)):=below_setRow (hb2.alloc hb2.size _) hb2.size _;have hB3:=below_setRow (g:=w2.heap.size) (hB2.alloc hB2.size (.cells (row .u8 (List.replicate 16 0)) 120)) hB2.size (row .u8 TG);refine ae (p:=fun y=>Code.wp _ _ _ _ y) (fun W3=>Below w.heap.size w W3∧aa W3 w2.heap.size .u8 120 TG∧aa W3 G1 .u8 120 T∧aa W3 w.heap.size .u8 23 k∧aa W3 (w.heap.size+1) .u8 79 n) ⟨hB3,hA2.setRow _,hT1.below hb12 hT1.lt,hK1.below hb12 hK1.lt,hN1.below hb12 hN1.lt⟩ ?_;obtain ⟨G2,hG2⟩:∃q,w2.heap.size=q:=⟨_,rfl⟩
 rw [hG2];clear hB2 hb12 hB3 hA2 hb2 htg htag hB1 hK1 hN1 hT1 hG2 hlt1;rintro W3 ⟨hB3,hTG3,hT3,hK3,hN3⟩;have heq0:=equal_any (some ⟨G2,0,none⟩) 16 16 TG (some ⟨G1,0,none⟩) 16 16 T W3.drew (hTG3.drew.bytes hTl.symm (by omega)) (hT3.drew.bytes hDl.symm (by omega)) hTu hDu;rw [show (TG==T)=true by rw [beq_iff_eq];exact HE.out] at heq0
 have heq:=heq0.mono (R':=fun e w'=>e=.returned (.bool true)∧Below W3.heap.size W3 w') fun e w' ⟨h1,m,h2⟩=>⟨h1,by rw [h2];exact aD (Below.refl _ _).drew m⟩
 clear heq0;refine ag (fun _=>True) 3 (by kernel_rfl) ?_;have hS:(fun _:World=>True) W3.drew:=trivial;refine gaA 0 _ hS ?_;simp only [zp];refine gaA 1 _ hS ?_;simp only [zp];refine zw 2 fun K hK=>?_
 go_wp2_with (go_at_call 58;refine heq.mono ?_;rintro e w4 ⟨rfl,hb4⟩)
 refine hK.out _ _ (fun _=>hS) ?_;clear hK K;refine zw 3 fun K hK=>?_
 go_simp;refine hK.out _ _ zn ?_;clear hK K;refine ah (by kernel_rfl) ?_ _;have hK4:=hK3.below hb4 hK3.lt;have hN4:=hN3.below hb4 hN3.lt;have hB4:Below w.heap.size w w4:=hB3.trans (hb4.mono hB3.size);have hxr:=hxor w4 hB4;clear hxor hK3 hN3 heq
 go_wp2_with (first
  |(refine am rfl 23 _ rfl _ rfl hK4 Tryz.underlying23 eX hk ?_)
  |(refine am rfl 79 _ rfl _ rfl hN4 Tryz.underlying79 iX hn ?_)
  |(go_at_call 75;refine hxr.mono ?_;rintro e w5 ⟨g5,rfl,hg5,hH5,hb5⟩))
 go_ret2
 exact ⟨g5,rfl,by have:=hB4.size;omega,hH5,hB4.trans (hb5.mono hB4.size)⟩
theorem wu (k n:List Int) (x:Option Addr) (len cap:Nat) (o:List Int) (y:Option Addr) (lb cb:Nat) (z:List Int) (w:World) (hk:k.length=32) (hn:n.length=12) (hx:Bytes w x len cap o) (hy:Bytes w y lb cb z) (hl1:len≤100000) (hl2:lb≤100000) (hl:16≤lb) (huo:∀v∈o,isB v) (huz:∀v∈z,isB v)
    (he:¬tagL k n o (z.take (lb - 16))=z.drop (lb - 16)):
    Calls Tryz.prog 49 #[.agg (row .u8 k),.agg (row .u8 n),.slice x len cap,.slice y lb cb] w fun e w'=>e=.returned (.tuple #[.slice none 0 0,.int .i64 4])∧Below w.heap.size w w':=by
 obtain ⟨M,hM⟩:∃M,lb - 16=M:=⟨_,rfl⟩
 rw [hM] at he
 try rw [hM]
 have hzl:=hy.len_eq;have hcb:=hy.le;have htop:=hy.top;have hwM:IntKind.i64.wrap ((lb:Int) - 16)=(M:Int):=by rw [IntKind.wrap_i64];omega
 have hM0:¬(M:Int)<0:=by omega
 obtain ⟨b,off,hyb⟩:∃b off,y=some ⟨b,off,none⟩:=by
  rcases hy.at_ with h0|⟨b,off,h,_⟩
  · omega
  · exact ⟨b,off,h⟩
 subst hyb;have hcutL:∀wx,(Instr.slice 41 (.slice (some ⟨b,off,none⟩) lb cb) none (some (.int .i64 (M:Int))) none).run Tryz.prog wx=.ok (.slice (bN (some ⟨b,off,none⟩) cb 0) M cb) wx:=fun wx=>iH wx _ lb cb M (by omega)
 have hcutR:∀wx,(Instr.slice 41 (.slice (some ⟨b,off,none⟩) lb cb) (some (.int .i64 (M:Int))) none none).run Tryz.prog wx=.ok (.slice (some ⟨b,off+M,none⟩) 16 (cb - M)) wx:=fun wx=>by
  have:=f8 wx (some ⟨b,off,none⟩) lb cb M (by omega);rw [show bN (some ⟨b,off,none⟩) cb M=some ⟨b,off+M,none⟩ by unfold bN;rw [if_neg (by omega),Option.map_some,Addr.add_mid',Nat.mul_one],show lb - M=16 by omega] at this
  exact this
 have hat:∀(b off cap:Nat) (wx:World),(Instr.arrayAt 120 (.slice (some ⟨b,off,none⟩) 16 cap)).run Tryz.prog wx=.ok (.pointer (some ⟨b,off,none⟩)) wx:=fun b off cap wx=>run_arrayAt wx 120 _ 16 _ 16 cap Tryz.underlying120 (by omega)
 have hhid:=fun wx (hb:Below w.heap.size w wx)=>(hy.below hb).cut 0 M (by omega) (by omega)
 rw [List.drop_zero,Nat.sub_zero,Nat.sub_zero] at hhid
 have hrng:=fun wx (hb:Below w.heap.size w wx)=>(hy.below hb).rangeCut M
 have hHu:∀v∈z.take M,isB v:=fun v hv=>huz v (List.mem_of_mem_take hv)
 have hDu:∀v∈z.drop M,isB v:=fun v hv=>huz v (List.mem_of_mem_drop hv)
 have hDl:(z.drop M).length=16:=by rw [List.length_drop];omega
 have hTl:(tagL k n o (z.take M)).length=16:=bU _ _;have hTu:=jF k n o (z.take M) huo hHu;obtain ⟨H,hH⟩:∃q,z.take M=q:=⟨_,rfl⟩
 obtain ⟨T,hT⟩:∃q,z.drop M=q:=⟨_,rfl⟩
 obtain ⟨Y1,hY1⟩:∃q,bN (some ⟨b,off,none⟩) cb 0=q:=⟨_,rfl⟩
 rw [hH] at he hhid hHu hTl hTu
 try rw [hH]
 rw [hT] at he hrng hDu hDl
 rw [hY1] at hcutL hhid
 have htag:=fun wx (hb:Below w.heap.size w wx)=>kg k n x len cap o Y1 M cb H wx hk hn (hx.below hb) (hhid wx hb) hl1 (by omega)
 have hxor:=fun wx (hb:Below w.heap.size w wx)=>nQ k n 1 Y1 M cb H wx hk hn ⟨by decide,by decide⟩ (hhid wx hb) (by omega)
 have HE:ac (¬tagL k n o H=T):=⟨he⟩
 obtain ⟨TG,hTG⟩:∃q,tagL k n o H=q:=⟨_,rfl⟩
 rw [hTG] at htag hTl hTu HE
 have iT:(Tryz.prog.info? 120).map (·.size)=some (T.map (Value.int .u8)).length:=by rw [List.length_map,hDl];exact eG
 have uT:=Tryz.underlying120;have hK0:=(aa.new w .u8 23 k).alloc (.cells (row .u8 n) 79);have hN0:=aa.new (w.alloc (.cells (row .u8 k) 23)) .u8 79 n;have hB0:Below w.heap.size w ((w.alloc (.cells (row .u8 k) 23)).alloc (.cells (row .u8 n) 79)):=((Below.refl _ _).alloc (Nat.le_refl _) _).alloc (by simp) _;rw [World.size_alloc] at hN0
 clear hH hT hY1 hTG hx hy he huo huz hzl hM;go_enter Tryz.func49,Tryz.ntmps49;go_upto_region 4 with fail
 refine ae (p:=fun y=>Code.wp _ _ _ _ y) (fun W0=>Below w.heap.size w W0∧aa W0 w.heap.size .u8 23 k∧aa W0 (w.heap.size+1) .u8 79 n) ⟨hB0,hK0,hN0⟩ ?_;clear hK0 hN0 hB0;rintro W0 ⟨hB0,hK0,hN0⟩;have hA1:=(aa.new W0 .u8 120 (List.replicate 16 0)).drew;have hBd:=hB0.drew;refine ag (fun w'=>w'.rangeAt b (off+M) (T.map (Value.int .u8))) 10 (by kernel_rfl) ?_;have hS:=hrng _ hBd;refine gaA 0 _ hS ?_;simp only [zp];refine gaA 1 _ hS ?_;simp only [zp];refine gaA 2 _ hS ?_;simp only [zp];refine gaA 3 _ hS ?_;simp only [zp];refine gaA 4 _ hS ?_;simp only [zp];refine gaA 5 _ hS ?_;simp only [zp];refine gaA 6 _ hS ?_;simp only [zp];refine zg 7 26 120 25 b ((off+M)) (T.map (Value.int .u8)) hS (fun _ h=>h) uT iT ?_;simp only [zp];refine zw 8 fun K hK=>?_
 go_simp;replace hS:=hrng _ (hB0.alloc hB0.size (.cells (row .u8 (List.replicate 16 0)) 120)).drew;refine hK.out _ _ (fun _=>hS) ?_;clear hK K;refine gaA 9 _ hS ?_;simp only [zp];refine zw 10 fun K hK=>?_
 refine dI 120 _ _ rfl _ rfl rfl hA1 (by rw [hDl];exact eG) (by simp [hDl]) ?_;refine hK.out _ _ zn ?_;clear hK K;refine ah (by kernel_rfl) ?_ _;have hsz:=hB0.size;refine ae (p:=fun y=>Exit.then _ _ _ _ y) (fun W1=>Below w.heap.size w W1∧Below W0.heap.size W0 W1∧aa W1 W0.heap.size .u8 120 T) ⟨below_setRow (hB0.alloc hB0.size _).drew hB0.size _,below_setRow ((Below.refl _ _).alloc (Nat.le_refl _) _).drew (Nat.le_refl _) _,hA1.setRow _⟩ ?_;rintro W1 ⟨hB1,hb01,hT1⟩;have hK1:=hK0.below hb01 hK0.lt;have hN1:=hN0.below hb01 hN0.lt;have hlt1:=hT1.lt;obtain ⟨G1,hG1⟩:∃q,W0.heap.size=q:=⟨_,rfl⟩
 rw [hG1] at hT1 hsz hlt1 ⊢
 clear hG1 hA1 hBd hK0 hN0 hB0 hb01 hS hrng hcutL hcutR hat;have htg:=htag W1 hB1;simp only [zp];go_upto_region 6 with (first
  |(refine am rfl 23 _ rfl _ rfl hK1 Tryz.underlying23 eX hk ?_)
  |(refine am rfl 79 _ rfl _ rfl hN1 Tryz.underlying79 iX hn ?_)
  |(go_at_call 76;refine htg.mono ?_;rintro e w2 ⟨rfl,hb2⟩;have hA2:=aa.new w2 .u8 120 (List.replicate 16 0))
  |(refine aj rfl 120 _ _ rfl _ rfl rfl hA2 (by rw [hTl];exact eG) (by simp [hTl]) ?_))
 have hB2:Below w.heap.size w w2:=hB1.trans (hb2.mono hB1.size);have hb12:Below W1.heap.size W1 ((w2.alloc (.cells (row .u8 (List.replicate 16 0)) 120)).setRow w2.heap.size (row .u8 TG)):=below_setRow (hb2.alloc hb2.size _) hb2.size _;have hB3:=below_setRow (g:=w2.heap.size) (hB2.alloc hB2.size (.cells (row .u8 (List.replicate 16 0)) 120)) hB2.size (row .u8 TG);refine ae (p:=fun y=>Code.wp _ _ _ _ y) (fun W3=>Below w.heap.size w W3∧aa W3 w2.heap.size .u8 120 TG∧aa W3 G1 .u8 120 T∧aa W3 w.heap.size .u8 23 k∧aa W3 (w.heap.size+1) .u8 79 n) ⟨hB3,hA2.setRow _,hT1.below hb12 hT1.lt,hK1.below hb12 hK1.lt,hN1.below hb12 hN1.lt⟩ ?_;obtain ⟨G2,hG2⟩:∃q,w2.heap.size=q:=⟨_,rfl⟩
 rw [hG2];clear hB2 hb12 hB3 hA2 hb2 htg htag hB1 hK1 hN1 hT1 hG2 hlt1;rintro W3 ⟨hB3,hTG3,hT3,hK3,hN3⟩;have heq0:=equal_any (some ⟨G2,0,none⟩) 16 16 TG (some ⟨G1,0,none⟩) 16 16 T W3.drew (hTG3.drew.bytes hTl.symm (by omega)) (hT3.drew.bytes hDl.symm (by omega)) hTu hDu;rw [show (TG==T)=false by rw [beq_eq_false_iff_ne];exact HE.out] at heq0
 have heq:=heq0.mono (R':=fun e w'=>e=.returned (.bool false)∧Below W3.heap.size W3 w') fun e w' ⟨h1,m,h2⟩=>⟨h1,by rw [h2];exact aD (Below.refl _ _).drew m⟩
 clear heq0;refine ag (fun _=>True) 3 (by kernel_rfl) ?_;have hS:(fun _:World=>True) W3.drew:=trivial;refine gaA 0 _ hS ?_;simp only [zp];refine gaA 1 _ hS ?_;simp only [zp];refine zw 2 fun K hK=>?_
 go_wp2_with (go_at_call 58;refine heq.mono ?_;rintro e w4 ⟨rfl,hb4⟩)
 refine hK.out _ _ (fun _=>hS) ?_;clear hK K;refine zw 3 fun K hK=>?_
 go_simp;refine hK.out _ _ zn ?_;clear hK K;refine ah (by kernel_rfl) ?_ _;have hB4:Below w.heap.size w w4:=hB3.trans (hb4.mono hB3.size);clear hxor hK3 hN3 heq;go_wp2
 go_ret2
 exact ⟨rfl,hB4⟩
theorem nO (k n o b:List Int):(eS k n o b).length=b.length+16:=by
 unfold eS;rw [List.length_append,aZ,show (tagL k n o (dk k n 1 b)).length=16 from bU _ _]
theorem nh (k n o b:List Int) (m:Nat) (hm:m=b.length):(eS k n o b).take m=dk k n 1 b:=by
 unfold eS;rw [List.take_left' (by rw [aZ,hm])]
theorem tT (k n o b:List Int) (m:Nat) (hm:m=b.length):(eS k n o b).drop m=tagL k n o (dk k n 1 b):=by
 unfold eS;rw [List.drop_left' (by rw [aZ,hm])]
theorem u0 (k n o b:List Int) (ho:∀v∈o,isB v) (hb:∀v∈b,isB v):∀v∈eS k n o b,isB v:=by
 intro v hv;unfold eS at hv
 rcases List.mem_append.1 hv with h|h
 · exact ld k n 1 b hb v h
 · exact jF k n o _ ho (ld k n 1 b hb) v h
theorem part_one {P : Program} (w : World) (t : TypeId) (k : IntKind) (cs : List Value) (off : Nat) (v : Value) (hu : P.underlying t = some (.int k)) (hv : cs[off]? = some v) : (part t cs.toArray off).run P w = .ok v w := by
 simp [part, isAgg, run_underlying hu, hv]
theorem eqFields_2 {P : Program} (w : World) (d : Nat) (xs ys : Array Value) (t1 t2 : TypeId) (o1 o2 : Nat) (a1 b1 a2 b2 : Value) (r1 r2 : Bool) (h1 : (part t1 xs o1).run P w = .ok a1 w) (k1 : (part t1 ys o1).run P w = .ok b1 w) (h2 : (part t2 xs o2).run P w = .ok a2 w) (k2 : (part t2 ys o2).run P w = .ok b2 w)
    (e1 : (Op.equalIn d t1 a1 b1).run P w = .ok r1 w) (e2 : (Op.equalIn d t2 a2 b2).run P w = .ok r2 w) : ∀ L : List Field, L.map (fun f => (f.name != "_", f.type, f.offset)) = [(true, t1, o1), (true, t2, o2)] → (Op.eqFields d xs ys L).run P w = .ok (r1 && r2) w
 | [], hf => by simp at hf
 | [_], hf => by simp at hf
 | _ :: _ :: _ :: _, hf => by simp at hf
 | [f, g], hf => by
  simp only [List.map_cons, List.map_nil, List.cons.injEq, Prod.mk.injEq, and_true, bne_iff_ne, ne_eq] at hf
  obtain ⟨⟨q1, q2, q3⟩, p1, p2, p3⟩ := hf
  cases r1 <;> cases r2 <;> simp only [Op.eqFields, q1, q2, q3, p1, p2, p3, ne_eq, not_false_eq_true, if_true, Sem.run_bind, h1, h2, k1, k2, e1, e2, Result.andThen_ok, Bool.not_true, Bool.not_false, Bool.false_eq_true, if_false, Sem.run_pure, Bool.and_true, Bool.and_false]
theorem dot_fields : (Tryz.prog.fieldsOf 26).toList.map (fun f => (f.name != "_", f.type, f.offset)) = [(true, 5, 0), (true, 24, 1)] := by kernel_rfl
theorem dot_under : Tryz.prog.underlying 26 = some (.struct (Tryz.prog.fieldsOf 26)) := by kernel_rfl
theorem dot_held : Tryz.prog.stoodInHeld 26 = false := by kernel_rfl
theorem dot_eqIn (d : Nat) (a s a' s' : Int) (wx : World) : (Op.equalIn (d + 1 + 1) 26 (.agg (dotC a s).toArray) (.agg (dotC a' s').toArray)).run Tryz.prog wx = .ok ((a == a') && (s == s')) wx := by
 rw [run_equalIn_struct wx _ 26 _ _ dot_under dot_held]
 exact eqFields_2 wx _ _ _ _ _ _ _ (.int .u8 a) (.int .u8 a') (.int .u32 s) (.int .u32 s') _ _ (part_one wx _ _ (dotC a s) 0 _ Tryz.underlying5 rfl) (part_one wx _ _ (dotC a' s') 0 _ Tryz.underlying5 rfl) (part_one wx _ _ (dotC a s) 1 _ Tryz.underlying24 rfl) (part_one wx _ _ (dotC a' s') 1 _ Tryz.underlying24 rfl)
  (run_equalIn_int wx d 5 .u8 .u8 a a' Tryz.underlying5) (run_equalIn_int wx d 24 .u32 .u32 s s' Tryz.underlying24) _ dot_fields
theorem dot_eql (a s a' s' : Int) (wx : World) : (binOp BinOp.eql 26 (.agg (dotC a s).toArray) (.agg (dotC a' s').toArray)).run Tryz.prog wx = .ok (.bool ((a == a') && (s == s'))) wx := by
 rw [run_eql_struct, dot_eqIn 9998]; rfl
theorem cells8 : Tryz.prog.cellsOf 5 = 1 := by kernel_rfl
theorem info8 : (Tryz.prog.info? 5).isSome = true := by kernel_rfl
theorem key_eqIn (d : Nat) (l m : List Int) (hl : l.length = 32) (hm : m.length = 32) (wx : World) : (Op.equalIn (d + 1 + 1) 23 (.agg (l.map (Value.int .u8)).toArray) (.agg (m.map (Value.int .u8)).toArray)).run Tryz.prog wx = .ok (l == m) wx :=
 run_equalIn_rows wx d .u8 l m Tryz.underlying23 Tryz.underlying5 cells8 info8 hl hm
theorem key_eql (l m : List Int) (hl : l.length = 32) (hm : m.length = 32) (wx : World) : (binOp BinOp.eql 23 (.agg (l.map (Value.int .u8)).toArray) (.agg (m.map (Value.int .u8)).toArray)).run Tryz.prog wx = .ok (.bool (l == m)) wx := by
 rw [run_eql_struct, key_eqIn 9998 l m hl hm]; rfl
theorem key_neq (l m : List Int) (hl : l.length = 32) (hm : m.length = 32) (wx : World) : (binOp BinOp.neq 23 (.agg (l.map (Value.int .u8)).toArray) (.agg (m.map (Value.int .u8)).toArray)).run Tryz.prog wx = .ok (.bool (!(l == m))) wx := by
 rw [run_neq_struct, key_eqIn 9998 l m hl hm]; rfl
end Go.Proofs.YtbdhfbglagdiaaaGreatDoor
