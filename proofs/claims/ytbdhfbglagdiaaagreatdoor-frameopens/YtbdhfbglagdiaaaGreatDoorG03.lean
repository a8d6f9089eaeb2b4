/- Gd Rd1 Rd2 Rd3 Wr2 Wr3 -/
import Derived.Test.YtbdhfbglagdiaaaGreatDoorG02
import Derived.Defers
import Derived.Recover
import Derived.WalkLawsBesides
import Derived.Test.YtbdhfbglagdiaaaGreatDoorG01
import Derived.Deep.MidRow
namespace Go.Proofs.YtbdhfbglagdiaaaGreatDoor
open Go.RowKit
set_option maxRecDepth 20000
set_option linter.unusedSimpArgs false
section
variable {P:Program} {ops:Array Oper} {Q:Exit→Act→World→Prop} {md:Region.Mode} {S:World→Prop} {D:Nat}
end
theorem fc {w:World} {o:Oper} {a:Act} {K:Act→World→Prop} {Q:Exit→Act→World→Prop} (s x:Operand)
    (ho:o.op=.call {callee:=.builtin .append,args:= #[s,x],argTypes:= #[41,41]}) (base:Nat) (v:Value) (zs:List Int) (hs:a.eval s=v) (hown:ao w base v zs)
    (y:Option Addr) (len cap:Nat) (z:List Int) (hx:a.eval x=.slice y len cap) (hb:Bytes w y len cap z) (hln:zs.length+len≤4000000) (hbase:base≤w.heap.size)
    (h:∀v' w',ao w' base v' (zs++z)→w.grownBy w' v.ownBlock→K (a.put o.dst v') w'):o.wp Tryz.prog a w K Q:=by
 obtain ⟨i0,hi,hz0,hz1,hz2⟩:=info_parts dH;have hzl:=hb.len_eq;have hcase:∀ad:Addr,y=some ad→(∀j u,(z.map (Value.int .u8))[j]?=some u→w.cell? (ad.add j)=some u)→o.wp Tryz.prog a w K Q:=fun ad hy hsrc=>by
  subst hy;refine wp_append_own w s x 41 ho base 5 i0 (.int .u8 0) 1 1 Tryz.underlying41 hi hz0 hz1 hz2 rfl (by decide) v zs.length (zs.map (Value.int .u8)) hs hown ad len cap (z.map (Value.int .u8)) hx (by simp [hzl]) hsrc (by simp [Value.oneCell']) (by simp [maxLen];omega) (by omega) hbase ?_;intro v' w' h1 h2 _;exact h v' w' (ao.cast h1 (by simp [hzl]) (by simp)) h2
 rcases hb.at_ with h0|⟨b,off,hy,hc⟩
 · have hz0':z=[]:=List.length_eq_zero_iff.1 (by omega)
   cases y with
   |none=>
    have hc0:=hb.nil rfl;subst h0 hc0 hz0';have hrun:=run_append_owned_none (P:=Tryz.prog) (w:=w) base 41 o.type 5 i0 1 Tryz.underlying41 hi v zs.length (zs.map (Value.int .u8)) hown;unfold Oper.wp;simp [execOp,ho,resolve,invoke,builtin,hs,hx,hrun,Result.andThen];exact h v w (by rw [List.append_nil];exact hown) ⟨rfl,rfl,rfl,Nat.le_refl _,fun _ _ _=>rfl⟩
   |some ad=>exact hcase ad rfl (fun j u hu=>by subst hz0';simp at hu)
 · exact hcase _ hy (fun j u hu=>by
    have hj:j<len:=by have:=(List.getElem?_eq_some_iff.1 hu).1;simpa [hzl] using this
    rw [Addr.add_mid',hc j hj,←hu,List.getElem?_map,List.getElem?_eq_getElem (by omega)];rfl)
theorem ao.keep {w w':World} {base:Nat} {v:Value} {z:List Int} (h:ao w base v z) (hk:∀g,base≤g→g<w.heap.size→w'.heap[g]?=w.heap[g]?):ao w' base v z:=by
 refine ⟨h.1,?_⟩
 rcases h.2 with h'|⟨g,cap,cur,h1,h2,h3,h4⟩
 · exact .inl h'
 · refine .inr ⟨g,cap,cur,h1,h2,?_,h4⟩
   rw [hk g h2 (Array.getElem?_eq_some_iff.1 h3).1];exact h3
theorem ao.afarW {w w':World} {base:Nat} {v:Value} {z:List Int} (h:ao w base v z) (hb:Below w.heap.size w w'):ao w' base v z:=h.keep (fun g _ hg=>hb.block g hg)
set_option maxHeartbeats 2000000
theorem al {P:Program} {fn:Func} {R:Ending→World→Prop} {ch:List PanicEntry} {t:Array Value} {w:World} (h:R (.panicked ch) w):bodyPost P fn R (.panic ch) ⟨t,[]⟩ w:=⟨rfl,h⟩
def dq:PanicEntry:={v:=.iface 168 (.agg #[]),recovered:=false}
theorem iU (w:World):Calls Tryz.prog 132 #[.bool true] w fun e w'=>(∃r,e=.returned r)∧w=w':=by
 go_enter Tryz.func132,Tryz.ntmps132;go_wp2
 go_end0
 exact ⟨⟨_,rfl⟩,rfl⟩
theorem ib (w:World):Calls Tryz.prog 132 #[.bool false] w fun e w'=>e=.panicked [dq]∧w=w':=by
 go_enter Tryz.func132,Tryz.ntmps132;go_wp2;exact al ⟨rfl,rfl⟩
theorem Bytes.cut3 {w:World} {x:Option Addr} {len cap:Nat} {z:List Int} (hb:Bytes w x len cap z) (k:Nat) (hk:k≤len):Bytes w (bN x k 0) k k (z.take k):=by
 have hz:=hb.len_eq;have hle:=hb.le;refine ⟨by rw [List.length_take];omega,Nat.le_refl _,by have:=hb.top;omega,?_,?_⟩
 · unfold bN
   split
   · intro _;omega
   · intro hn
     cases x with
     |none=>have:=hb.nil rfl;omega
     |some a=>simp at hn
 · by_cases h0:k=0
   · exact .inl h0
   · rcases hb.at_ with h00|⟨b,off,hx,hc⟩
     · omega
     · refine .inr ⟨b,off,?_,fun j hj=>?_⟩
       · unfold bN
         rw [if_neg (by omega),hx,Option.map_some,Addr.add_mid',Nat.zero_mul,Nat.add_zero]
       · rw [List.getElem?_take_of_lt hj];exact hc j (by omega)
theorem ru (w:World) (x:Option Addr) (len cap k:Nat) (hk:k≤cap):(Instr.slice 41 (.slice x len cap) none (some (.int .i64 (k:Int))) (some (.int .i64 (k:Int)))).run Tryz.prog w=.ok (.slice (bN x k 0) k k) w:=by
 rw [run_slice_hm w 41 x len cap nH .i64 .i64 (k:Int) (k:Int) (by omega) (by omega) (by omega),kl];simp [sliced,bN,Result.andThen]
structure Rd (w:World) (R base:Nat) (z:List Int):Prop where
 ge:base≤R
 has:∃x n c,Box w R 172 (.slice x n c)∧∀wx,Below base w wx→Bytes wx x n c z
structure aW (w w':World) (R base:Nat):Prop where
 below:Below base w w'
 more:w.heap.size≤w'.heap.size
 kept:∀g,g<w.heap.size→g≠R→w'.heap[g]?=w.heap[g]?
theorem aW.refl (w:World) (R base:Nat):aW w w R base:=⟨Below.refl _ _,Nat.le_refl _,fun _ _ _=>rfl⟩
theorem aW.trans {w w' w'':World} {R base:Nat} (h:aW w w' R base) (h':aW w' w'' R base):aW w w'' R base:=⟨h.below.trans h'.below,Nat.le_trans h.more h'.more,fun g h1 h2=>by rw [h'.kept g (Nat.lt_of_lt_of_le h1 h.more) h2,h.kept g h1 h2]⟩
theorem aW.alloc {w:World} {R base:Nat} (hb:base≤w.heap.size) (o:Obj):aW w (w.alloc o) R base:=⟨(Below.refl _ _).alloc hb _,by simp,fun g h1 _=>Below.heap_alloc w o g h1⟩
theorem aW.afar {w w':World} {R base:Nat} (hb:base≤w.heap.size) (h:Below w.heap.size w w'):aW w w' R base:=⟨h.mono hb,h.size,fun g h1 _=>h.block g h1⟩
theorem Rd.size {w:World} {R base:Nat} {z:List Int} (h:Rd w R base z):base≤w.heap.size:=by
 obtain ⟨x,n,c,hb,_⟩:=h.has;have:=hb.lt;have:=h.ge;omega
theorem Rd.lt {w:World} {R base:Nat} {z:List Int} (h:Rd w R base z):R<w.heap.size:=by
 obtain ⟨x,n,c,hb,_⟩:=h.has;exact hb.lt
theorem Rd.afar {w w':World} {R base:Nat} {z:List Int} (h:Rd w R base z) (hb:Below w.heap.size w w'):Rd w' R base z:=by
 have hs:=h.size;obtain ⟨x,n,c,h1,h2⟩:=h.has;refine ⟨h.ge,x,n,c,?_,fun wx hx=>h2 wx ((hb.mono hs).trans hx)⟩;unfold Box at h1 ⊢
 rw [hb.block R (Array.getElem?_eq_some_iff.1 h1).1];exact h1
theorem Rd.alloc {w:World} {R base:Nat} {z:List Int} (h:Rd w R base z) (o:Obj):Rd (w.alloc o) R base z:=h.afar ((Below.refl _ _).alloc (Nat.le_refl _) _)
theorem eI (R base:Nat) (z:List Int) (k:Nat) (w:World) (hR:Rd w R base z):
    Calls Tryz.prog 141 #[.pointer (some ⟨R,0,none⟩),.int .i64 k] w fun e w'=>
     (k≤z.length∧∃x,e=.returned (.slice x k k)∧(∀wx,Below base w' wx→Bytes wx x k k (z.take k))∧Rd w' R base (z.drop k)∧aW w w' R base)∨(z.length<k∧e=.panicked [dq]∧aW w w' R base):=by
 have hge:=hR.ge;obtain ⟨x,n,c,hbx,hby⟩:=hR.has;have hb0:=hby w (Below.refl _ _);have hn:=hb0.len_eq;have hle:=hb0.le;have htop:=hb0.top;have hc:=hbx.cell;have hf:=hbx.frozen
 by_cases h:k≤n
 · have hki:(k:Int)≤(n:Int):=by omega
   have hc3:=fun wx=>ru wx x n c k (by omega)
   have hcl:=fun wx=>f8 wx x n c k h
   have hnd:=iU w;have HB:ac (∀wx,Below base w wx→Bytes wx x n c z):=⟨hby⟩
   have HN:ac (n=z.length):=⟨hn⟩
   clear hR hb0 hby hn;go_enter Tryz.func141,Tryz.ntmps141
   go_wp2_with (go_at_call 132;refine hnd.mono ?_;rintro e w1 ⟨⟨r1,rfl⟩,rfl⟩)
   go_ret;have hBs:Below base w (w.setCell ⟨R,0,none⟩ (.slice (bN x c k) (n - k) (c - k))):=(Below.refl _ _).setCell hge _;refine .inl ⟨by rw [←HN.out];exact h,_,rfl,fun wx hx=>(HB.out wx (hBs.trans hx)).cut3 k h,⟨hge,_,_,_,hbx.set _,fun wx hx=>?_⟩,⟨hBs,by simp [World.setCell],fun g h1 h2=>heap_setCell_other _ _ g _ h2⟩⟩;have:=(HB.out wx (hBs.trans hx)).cut k n h (Nat.le_refl _);rw [List.take_of_length_le (by rw [List.length_drop,HN.out];exact Nat.le_refl _)] at this
   exact this
 · have hki:¬(k:Int)≤(n:Int):=by omega
   have hnd:=ib w;have HN:ac (n=z.length):=⟨hn⟩
   clear hR hb0 hby hn;go_enter Tryz.func141,Tryz.ntmps141
   go_wp2_with (go_at_call 132;refine hnd.mono ?_;rintro e w1 ⟨rfl,rfl⟩)
   exact al (.inr ⟨by rw [←HN.out];omega,rfl,aW.refl _ _ _⟩)
abbrev b8 (x:Int):Prop:=0≤x∧x≤255
theorem xR (a b:Nat) (ha:a<65536) (hb:b<256):bits .or .i64 ((a*256:Nat):Int) (b:Int)=((a*256+b:Nat):Int):=by
 have h1:(BitVec.ofInt 64 ((a*256:Nat):Int)).toNat=a*256:=by
  rw [BitVec.ofInt_natCast,BitVec.toNat_ofNat];exact Nat.mod_eq_of_lt (by omega)
 have h2:(BitVec.ofInt 64 (b:Int)).toNat=b:=by
  rw [BitVec.ofInt_natCast,BitVec.toNat_ofNat];exact Nat.mod_eq_of_lt (by omega)
 have h3:a*256|||b=a*256+b:=by
  have:=Nat.two_pow_add_eq_or_of_lt (i:=8) (b:=b) (by omega) a;rw [Nat.mul_comm] at this
  exact this.symm
 show IntKind.i64.wrap ((BitVec.ofInt 64 ((a*256:Nat):Int)|||BitVec.ofInt 64 (b:Int)).toNat:Int)=_;rw [BitVec.toNat_or,h1,h2,h3,IntKind.wrap_i64];omega
theorem r9 (a b i m:Nat) (hm:2 ^ i=m) (ha:a*m<4294967296) (hi:m≤4294967296) (hb:b<m):bits .or .u32 ((a*m:Nat):Int) (b:Int)=((a*m+b:Nat):Int):=by
 have h3:a*m|||b=a*m+b:=by
  have:=Nat.two_pow_add_eq_or_of_lt (i:=i) (b:=b) (by omega) a;rw [hm,Nat.mul_comm] at this
  exact this.symm
 have hx:a*m|||b<2 ^ 32:=Nat.or_lt_two_pow (by omega) (by omega)
 have h1:(BitVec.ofInt 32 ((a*m:Nat):Int)).toNat=a*m:=by
  rw [BitVec.ofInt_natCast,BitVec.toNat_ofNat];exact Nat.mod_eq_of_lt (by omega)
 have h2:(BitVec.ofInt 32 (b:Int)).toNat=b:=by
  rw [BitVec.ofInt_natCast,BitVec.toNat_ofNat];exact Nat.mod_eq_of_lt (by omega)
 show IntKind.u32.wrap ((BitVec.ofInt 32 ((a*m:Nat):Int)|||BitVec.ofInt 32 (b:Int)).toNat:Int)=_;rw [BitVec.toNat_or,h1,h2];rw [h3] at hx ⊢
 rw [IntKind.wrap_u32];omega
def oC (a b:Int):Int:=a*256+b
def iW (a b c d:Int):Int:=a*16777216+b*65536+c*256+d
theorem sx (a b:Int) (ha:b8 a) (hb:b8 b):bits .or .i64 (a*256) b=oC a b:=by
 have:=xR a.toNat b.toNat (by omega) (by omega);have e1:((a.toNat*256:Nat):Int)=a*256:=by omega
 have e2:(b.toNat:Int)=b:=by omega
 rw [e1,e2] at this
 rw [this];unfold oC;omega
theorem xe (p q:Nat):p*16777216+q*65536=(p*256+q)*65536:=by rw [Nat.add_mul,Nat.mul_assoc]
theorem wX (p q r:Nat):(p*256+q)*65536+r*256=((p*256+q)*256+r)*256:=by rw [Nat.add_mul _ r,Nat.mul_assoc]
theorem sC (a b c d:Int) (ha:b8 a) (hb:b8 b) (hc:b8 c) (hd:b8 d):bits .or .u32 (bits .or .u32 (bits .or .u32 (a*16777216) (b*65536)) (c*256)) d=iW a b c d:=by
 obtain ⟨p,rfl⟩:∃n:Nat,a=n:=⟨a.toNat,by omega⟩
 obtain ⟨q,rfl⟩:∃n:Nat,b=n:=⟨b.toNat,by omega⟩
 obtain ⟨r,rfl⟩:∃n:Nat,c=n:=⟨c.toNat,by omega⟩
 obtain ⟨t,rfl⟩:∃n:Nat,d=n:=⟨d.toNat,by omega⟩
 have hp:p<256:=by omega
 have hq:q<256:=by omega
 have hr:r<256:=by omega
 have ht:t<256:=by omega
 clear ha hb hc hd;have e1:(p:Int)*16777216=((p*16777216:Nat):Int):=by rw [Int.natCast_mul];rfl
 have e2:(q:Int)*65536=((q*65536:Nat):Int):=by rw [Int.natCast_mul];rfl
 have e3:(r:Int)*256=((r*256:Nat):Int):=by rw [Int.natCast_mul];rfl
 rw [e1,e2,e3,r9 p (q*65536) 24 16777216 (by decide+kernel) (by omega) (by omega) (by omega),xe,r9 (p*256+q) (r*256) 16 65536 (by decide+kernel) (by omega) (by omega) (by omega),wX,r9 ((p*256+q)*256+r) t 8 256 (by decide+kernel) (by omega) (by omega) (by omega)];unfold iW;omega
theorem fy {w:World} {x:Option Addr} {k:Nat} {z:List Int} (h:Bytes w x k k (z.take k)) (h0:0<k):∃b off,x=some ⟨b,off,none⟩∧∀j,j<k→w.cell? ⟨b,off+j,none⟩=some (.int .u8 (z[j]?.getD 0)):=by
 rcases h.at_ with h1|⟨b,off,hx,hc⟩
 · omega
 · refine ⟨b,off,hx,fun j hj=>?_⟩
   have:=hc j hj;rw [List.getElem?_take_of_lt hj] at this
   exact this
theorem dP {z:List Int} (hz:∀v∈z,b8 v) (j:Nat):b8 (z[j]?.getD 0):=by
 by_cases h:j<z.length
 · rw [List.getElem?_eq_getElem h];exact hz _ (List.getElem_mem h)
 · rw [List.getElem?_eq_none (by omega)];exact ⟨by decide,by decide⟩
theorem vF (R base:Nat) (z:List Int) (w:World) (hR:Rd w R base z) (hz:∀v∈z,b8 v):
    Calls Tryz.prog 139 #[.pointer (some ⟨R,0,none⟩)] w fun e w'=>
     (2≤z.length∧e=.returned (.int .i64 (oC (z[0]?.getD 0) (z[1]?.getD 0)))∧Rd w' R base (z.drop 2)∧aW w w' R base)∨(z.length<2∧e=.panicked [dq]∧aW w w' R base):=by
 have ht:=eI R base z 2 w hR;have ha:=dP hz 0;have hb:=dP hz 1;have HV:ac (bits .or .i64 ((z[0]?.getD 0)*256) (z[1]?.getD 0)=oC (z[0]?.getD 0) (z[1]?.getD 0)):=⟨sx _ _ ha hb⟩
 have HF:ac (∀(w':World) (x:Option Addr),2≤z.length→Bytes w' x 2 2 (z.take 2)→∃b off,x=some ⟨b,off,none⟩∧∀j,j<2→w'.cell? ⟨b,off+j,none⟩=some (.int .u8 (z[j]?.getD 0))):=⟨fun w' x _ h'=>fy h' (by omega)⟩
 clear hz;obtain ⟨A,hA⟩:∃q,z[0]?.getD 0=q:=⟨_,rfl⟩
 obtain ⟨B,hB⟩:∃q,z[1]?.getD 0=q:=⟨_,rfl⟩
 have HA:ac (z[0]?.getD 0=A∧z[1]?.getD 0=B):=⟨hA,hB⟩
 rw [hA,hB] at HV ⊢
 rw [hA] at ha
 rw [hB] at hb
 have e1:IntKind.i64.wrap A=A:=by rw [IntKind.wrap_i64];omega
 have e2:IntKind.i64.wrap B=B:=by rw [IntKind.wrap_i64];omega
 have e3:IntKind.i64.wrap (A*256)=A*256:=by rw [IntKind.wrap_i64];omega
 clear hA hB hR;go_enter Tryz.func139,Tryz.ntmps139;go_upto_region 2 with (go_at_call 141;refine ht.mono ?_;rintro e w1 (⟨hk,x1,rfl,hy1,hR1,ht1⟩|⟨hk,rfl,ht1⟩))
 rotate_left
 · exact al (.inr ⟨hk,rfl,ht1⟩)
 obtain ⟨b,off,rfl,hc⟩:=HF.out w1 x1 hk (hy1 w1 (Below.refl _ _));have c0:w1.cell? ⟨b,off,none⟩=some (.int .u8 A):=by have:=hc 0 (by omega);rw [HA.out.1] at this;exact this
 have c1:w1.cell? ⟨b,off+1,none⟩=some (.int .u8 B):=by have:=hc 1 (by omega);rw [HA.out.2] at this;exact this
 clear hc hy1 ht;refine ag (fun w'=>w'.cell? ⟨b,off,none⟩=some (.int .u8 A)∧w'.cell? ⟨b,off+1,none⟩=some (.int .u8 B)) 10 (by kernel_rfl) ?_;have hS:w1.drew.cell? ⟨b,off,none⟩=some (.int .u8 A)∧w1.drew.cell? ⟨b,off+1,none⟩=some (.int .u8 B):=⟨c0,c1⟩
 refine gaA 0 _ hS ?_;simp only [zp];refine gaA 1 _ hS ?_;simp only [zp];refine grA 2 _ hS ?_;simp only [zp];refine gaA 3 _ hS ?_;simp only [zp];refine gaA 4 _ hS ?_;simp only [zp];refine gaA 5 _ hS ?_;simp only [zp];refine gaA 6 _ hS ?_;simp only [zp];refine grA 7 _ hS ?_;simp only [zp];refine gaA 8 _ hS ?_;simp only [zp];refine gaA 9 _ hS ?_;simp only [zp];refine zw 10 fun K hK=>?_
 go_simp;refine hK.out _ _ zn ?_;clear hK K;refine ah (by kernel_rfl) ?_ _;go_wp2;go_ret;refine .inl ⟨hk,?_,hR1.afar ((Below.refl _ _).drew),ht1.trans (aW.afar hR1.size ((Below.refl _ _).drew))⟩;rw [←HV.out]
 rfl
theorem lX (R base:Nat) (z:List Int) (n:Nat) (w:World) (hR:Rd w R base z) (hn:n≤1000000):
    Calls Tryz.prog 137 #[.pointer (some ⟨R,0,none⟩),.int .i64 n] w fun e w'=>
     ((n≤z.length∧∀j,j<n→z[j]?.getD 0=0)∧(∃r,e=.returned r)∧Rd w' R base (z.drop n)∧aW w w' R base)∨(¬(n≤z.length∧∀j,j<n→z[j]?.getD 0=0)∧e=.panicked [dq]∧aW w w' R base):=by
 have ht:=eI R base z n w hR;have hok:=fun wx=>iU wx
 have hbad:=fun wx=>ib wx
 clear hR;go_enter Tryz.func137,Tryz.ntmps137;go_upto_region 1 with (go_at_call 141;refine ht.mono ?_;rintro e w1 (⟨hk,x1,rfl,hy1,hR1,ht1⟩|⟨hk,rfl,ht1⟩))
 rotate_left
 · exact al (.inr ⟨fun h=>by omega,rfl,ht1⟩)
 have hb1:=hy1 w1 (Below.refl _ _);have hle:=hb1.le;clear ht hy1
 go_wp2_with fail
 go_loopw [12] (fun q wr=>∃i:Nat,i≤n∧q=.int .i64 i∧ac (∀j,j<i→z[j]?.getD 0=0)∧w1=wr) (fun q _=>n - (intOf q).toNat)
 case atStart=>exact ⟨0,by omega,rfl,⟨fun j hj=>by omega⟩,rfl⟩
 case round=>
  obtain ⟨i,hi,rfl,HJ,rfl⟩:=hrel
  by_cases hlt:i<n
  · obtain ⟨b,off,rfl,hc⟩:=fy hb1 (by omega)
    have ci:=hc i hlt;clear hc
    by_cases h0:z[i]?.getD 0=0
    · rw [h0] at ci
      have HJ2:ac (∀j,j<i+1→z[j]?.getD 0=0):=⟨fun j hj=>by
       by_cases h:j=i
       · rw [h];exact h0
       · exact HJ.out j (by omega)⟩
      have hi0:(0:Int)≤(i:Int):=by omega
      have hin:(i:Int)<(n:Int):=by omega
      clear h0 hbad HJ
      go_wp2_with (go_at_call 132;refine (hok _).mono ?_;rintro e w2 ⟨⟨r2,rfl⟩,rfl⟩)
      go_roundw
      case rel=>exact ⟨i+1,by omega,by go_num,HJ2,trivial⟩
      case measure=>simp [intOf];omega
    · obtain ⟨q,hq⟩:∃q,z[i]?.getD 0=q:=⟨_,rfl⟩
      have HQ:ac (∃j,j<n∧¬z[j]?.getD 0=0):=⟨i,hlt,h0⟩
      rw [hq] at h0 ci
      have hi0:(0:Int)≤(i:Int):=by omega
      have hin:(i:Int)<(n:Int):=by omega
      have hqb:(q==0)=false:=by simp [h0]
      clear hq hok
      go_wp2_with (go_at_call 132;refine (hbad _).mono ?_;rintro e w2 ⟨rfl,rfl⟩)
      exact al (.inr ⟨fun h=>by obtain ⟨j,h1,h2⟩:=HQ.out;exact h2 (h.2 j h1),rfl,ht1⟩)
  · obtain rfl:i=n:=by omega
    go_wp2
    go_end0
    exact .inl ⟨⟨hk,HJ.out⟩,⟨_,rfl⟩,hR1,ht1⟩
theorem ao.took {w w':World} {base R:Nat} {v u:Value} {z:List Int} (h:ao w base v z) (hb:Box w R 172 u) (ht:aW w w' R base):ao w' base v z:=by
 have hne:=h.apartT hb (by decide);refine ⟨h.1,?_⟩
 rcases h.2 with h'|⟨g,cap,cur,h1,h2,h3,h4⟩
 · exact .inl h'
 · refine .inr ⟨g,cap,cur,h1,h2,?_,h4⟩
   subst h1;rw [ht.kept g (Array.getElem?_eq_some_iff.1 h3).1 (fun e=>by
    rcases hne with h0|h0
    · simp [Value.ownBlock] at h0
    · simp [Value.ownBlock] at h0;exact h0 e)]
   exact h3
theorem tB (x:Option Addr) (n c:Nat) (z:List Int) (w:World) (hb:Bytes w x n c z) (hn:n≤1000000):
    Calls Tryz.prog 140 #[.slice x n c] w fun e w'=>∃v,e=.returned v∧ao w' w.heap.size v z∧Below w.heap.size w w':=by
 cases x with
 |none=>
  have hc:=hb.nil rfl;have hle:=hb.le;have hz:=hb.len_eq;obtain rfl:c=0:=hc;obtain rfl:n=0:=by omega
  have hz':z=[]:=List.length_eq_zero_iff.1 hz.symm;subst hz';have hnil:∀wx:World,(binOp BinOp.eql 41 (.slice none 0 0) (.slice none 0 0)).run Tryz.prog wx=.ok (.bool true) wx:=fun _=>by kernel_rfl
  clear hb hz hle hn;go_enter Tryz.func140,Tryz.ntmps140;go_wp2;go_ret;exact ⟨_,rfl,ao.nil _ _,Below.refl _ _⟩
 |some a=>
  have hE0:ao (w.alloc (.cells #[] 5)) w.heap.size (.slice (some ⟨w.heap.size,0,none⟩) 0 0) []:=ao.ofHolds (aa.new w .u8 5 []) (Nat.le_refl _) (by simp);have hy:Bytes (w.alloc (.cells #[] 5)) (some a) n c z:=hb.below ((Below.refl _ _).alloc (Nat.le_refl _) _);have hnil:∀wx:World,(binOp BinOp.eql 41 (.slice (some a) n c) (.slice none 0 0)).run Tryz.prog wx=.ok (.bool false) wx:=fun _=>by kernel_rfl
  clear hb;go_enter Tryz.func140,Tryz.ntmps140
  go_wp2_with (at_builtin;refine aG rfl _ _ rfl w.heap.size _ [] rfl hE0 (some a) n c z rfl hy (by simp;omega) (by simp) ?_;intro v1 w1 ho1 hg1)
  go_ret;rw [List.nil_append] at ho1
  exact ⟨_,rfl,ho1,below_grown ((Below.refl _ _).alloc (Nat.le_refl _) _) hE0 hg1 (by simp)⟩
set_option maxHeartbeats 1000000
theorem CellsAt.went {w w':World} {g H base:Nat} {t:TypeId} {cs:List Value} (h:CellsAt w g t cs) (hg:cz w w' H base) (hne:g≠H) (ht:t≠5):CellsAt w' g t cs:=hg.kept g _ t _ hne ht h
def g8 (b:Bool):Int:=if b then 1 else 0
theorem t9 (H base:Nat) (L:List Int) (b:Bool) (w:World) (hW:Wr w H base L) (hln:L.length≤3000000):
    Calls Tryz.prog 119 #[.pointer (some ⟨H,0,none⟩),.bool b] w fun e w'=>(∃r,e=.returned r)∧Wr w' H base (L++ [g8 b])∧cz w w' H base:=by
 have hsz:=hW.size;cases b with
 |true=>
  have hp:=cC H base L (some ⟨w.heap.size,0,none⟩) 1 1 [1] (w.alloc (.cells (row .u8 [1]) 5)) (hW.alloc _) (bu w [1] (by simp)) (by omega);have hgo:=cz.alloc (H:=H) hsz (.cells (row .u8 [1]) 5);clear hW;go_enter Tryz.func119,Tryz.ntmps119
  go_wp2_with (go_at_call 72;refine hp.mono ?_;rintro e w1 ⟨⟨r,rfl⟩,hW1,hg1⟩)
  go_end0
  exact ⟨⟨_,rfl⟩,hW1,hgo.trans hg1⟩
 |false=>
  have hp:=cC H base L (some ⟨w.heap.size,0,none⟩) 1 1 [0] (w.alloc (.cells (row .u8 [0]) 5)) (hW.alloc _) (bu w [0] (by simp)) (by omega);have hgo:=cz.alloc (H:=H) hsz (.cells (row .u8 [0]) 5);clear hW;go_enter Tryz.func119,Tryz.ntmps119
  go_wp2_with (go_at_call 72;refine hp.mono ?_;rintro e w1 ⟨⟨r,rfl⟩,hW1,hg1⟩)
  go_end0
  exact ⟨⟨_,rfl⟩,hW1,hgo.trans hg1⟩
theorem lJ (H base:Nat) (L:List Int) (n:Nat) (w:World) (hW:Wr w H base L) (hn:n≤100000) (hln:L.length≤3000000):
    Calls Tryz.prog 73 #[.pointer (some ⟨H,0,none⟩),.int .i64 n] w fun e w'=>(∃r,e=.returned r)∧Wr w' H base (L++List.replicate n 0)∧cz w w' H base:=by
 have hsz:=hW.size;have hmk:∀wx:World,(Instr.makeSlice 41 (.int .i64 (n:Int)) (.int .i64 (n:Int))).run Tryz.prog wx=.ok (.slice (some ⟨wx.heap.size,0,none⟩) n n) (wx.alloc (.cells (row .u8 (List.replicate n 0)) 5)):=fun wx=>by
  have:=run_make_row' (P:=Tryz.prog) 41 5 (.int .u8 0) 1 Tryz.underlying41 dH rfl .i64 .i64 n (by omega) (by omega) wx;rw [ir] at this
  exact this
 have hp:=cC H base L (some ⟨w.heap.size,0,none⟩) n n (List.replicate n 0) (w.alloc (.cells (row .u8 (List.replicate n 0)) 5)) (hW.alloc _) (by
  have:=bu w (List.replicate n 0) (by simp;omega);rw [List.length_replicate] at this
  exact this) (by omega)
 have hgo:=cz.alloc (H:=H) hsz (.cells (row .u8 (List.replicate n 0)) 5);clear hW;go_enter Tryz.func73,Tryz.ntmps73
 go_wp2_with (go_at_call 72;refine hp.mono ?_;rintro e w1 ⟨⟨r,rfl⟩,hW1,hg1⟩)
 go_end0
 exact ⟨⟨_,rfl⟩,hW1,hgo.trans hg1⟩
def eR (a s:Int):List Int:=a::be4 s
theorem ln (H base:Nat) (L:List Int) (a s:Int) (w:World) (hW:Wr w H base L) (hln:L.length≤2000000):
    Calls Tryz.prog 117 #[.pointer (some ⟨H,0,none⟩),.agg (dotC a s).toArray] w fun e w'=>(∃r,e=.returned r)∧Wr w' H base (L++eR a s)∧cz w w' H base:=by
 have hsz:=hW.size;have hlt:H<w.heap.size:=by obtain ⟨v,h1,_⟩:=hW.has;exact h1.lt
 have hD0:=CellsAt.new w 26 (dotC a s);have hgo:=cz.alloc (H:=H) hsz (.cells (dotC a s).toArray 26);have hW0:=hW.alloc (.cells (dotC a s).toArray 26);clear hW;go_enter Tryz.func117,Tryz.ntmps117;go_upto_region 1 with fail
 refine ae (p:=fun y=>Code.wp _ _ _ _ y) (fun W0=>cz w W0 H base∧Wr W0 H base L∧CellsAt W0 w.heap.size 26 (dotC a s)) ⟨hgo,hW0,hD0⟩ ?_;clear hgo hW0 hD0;rintro W0 ⟨hg0,hW0,hD0⟩;have hs0:=hW0.size;have c0:W0.cell? ⟨w.heap.size,0,none⟩=some (.int .u8 a):=hD0.cell 0;have hp:=cC H base L (some ⟨W0.heap.size,0,none⟩) 1 1 [a] (W0.alloc (.cells (row .u8 [a]) 5)) (hW0.alloc _) (bu W0 [a] (by simp)) (by omega);have hgo:=cz.alloc (H:=H) hs0 (.cells (row .u8 [a]) 5);go_upto_region 2 with (go_at_call 72;refine hp.mono ?_;rintro e w1 ⟨⟨r,rfl⟩,hW1,hg1⟩)
 have hD1:=(hD0.went hgo (by omega) (by decide)).went hg1 (by omega) (by decide);have c1:w1.cell? ⟨w.heap.size,1,none⟩=some (.int .u32 s):=hD1.cell 1;have hf:=mm H base (L++ [a]) s w1 hW1 (by rw [List.length_append];simp;omega);have hg01:=hg0.trans (hgo.trans hg1);clear hp hD0 hD1 hW0 hW1 hgo hg1 hg0 c0
 go_wp2_with (go_at_call 118;refine hf.mono ?_;rintro e w2 ⟨⟨r2,rfl⟩,hW2,hg2⟩)
 go_end0
 refine ⟨⟨_,rfl⟩,?_,hg01.trans hg2⟩;rw [List.append_assoc] at hW2
 exact hW2
set_option maxHeartbeats 4000000
def ek (l:List Int):List Int:=(l.map be4).flatten
def bq (e:Ev):List Int:=eR e.da e.ds++ek e.past++ [e.kind]++eR e.pa e.ps++ [g8 e.right]++ [e.char,e.who,e.role]++List.replicate 11 0
theorem fo (n:Int):(be4 n).length=4:=rfl
theorem bX (a s:Int):(eR a s).length=5:=rfl
theorem gB:∀l:List Int,(ek l).length=4*l.length
 |[]=>rfl
 |a::l=>by
  have:=gB l;unfold ek at this ⊢
  rw [List.map_cons,List.flatten_cons,List.length_append,fo,this,List.length_cons];omega
theorem qS (l:List Int) (j:Nat) (hj:j<l.length):ek (l.take (j+1))=ek (l.take j)++be4 (l[j]?.getD 0):=by
 rw [bG l j hj];simp [ek]
theorem iZ (e:Ev) (hp:e.past.length=8):(bq e).length=58:=by
 unfold bq;simp only [List.length_append,bX,gB,hp,List.length_cons,List.length_nil,List.length_replicate]
theorem ti (H base:Nat) (L:List Int) (E:Ev) (w:World) (hW:Wr w H base L) (hp:E.past.length=8) (hln:L.length≤1000000):
    Calls Tryz.prog 74 #[.pointer (some ⟨H,0,none⟩),.agg E.cells.toArray] w fun e w'=>(∃r,e=.returned r)∧Wr w' H base (L++bq E)∧cz w w' H base:=by
 have hsz:=hW.size;have hlt:H<w.heap.size:=by obtain ⟨v,h1,_⟩:=hW.has;exact h1.lt
 have hD0:=CellsAt.new w 33 E.cells;have hgo:=cz.alloc (H:=H) hsz (.cells E.cells.toArray 33);have hW0:=hW.alloc (.cells E.cells.toArray 33);obtain ⟨p1,p2,p3,p4,p5,p6,p7,p8⟩:=fZ E hp;have HP:ac ((E.cells.drop 0).take 2=dotC E.da E.ds∧(E.cells.drop 2).take 8=E.past.map (Value.int .u32)∧E.cells[10]?=some (.int .u8 E.kind)∧(E.cells.drop 11).take 2=dotC E.pa E.ps∧E.cells[13]?=some (.bool E.right)∧E.cells[14]?=some (.int .u8 E.char)∧E.cells[15]?=some (.int .u8 E.who)∧E.cells[16]?=some (.int .u8 E.role)):=⟨p1,p2,p3,p4,p5,p6,p7,p8⟩
 have HL:ac (∀n,(ek (E.past.take n)).length≤32):=⟨fun n=>by rw [gB,List.length_take];omega⟩
 have HT:ac (∀j,j<8→ek (E.past.take (j+1))=ek (E.past.take j)++be4 (E.past[j]?.getD 0)):=⟨fun j hj=>qS _ j (by omega)⟩
 have HX:ac (∀j wx,j<8→(Instr.index 29 (.agg (List.map (Value.int .u32) E.past).toArray) (.int .i64 (j:Nat))).run Tryz.prog wx=.ok (.int .u32 (E.past[j]?.getD 0)) wx):=⟨fun j wx hj=>ce wx 29 24 8 .u32 E.past j Tryz.underlying29 Tryz.underlying24 wi hp hj⟩
 have HA:ac (E.past.take 8=E.past):=⟨List.take_of_length_le (by omega)⟩
 have HPL:ac (E.past.length=8):=⟨hp⟩
 clear hW p1 p2 p3 p4 p5 p6 p7 p8 hp;go_enter Tryz.func74,Tryz.ntmps74;go_upto_region 1 with fail
 refine ae (p:=fun y=>Code.wp _ _ _ _ y) (fun W0=>cz w W0 H base∧Wr W0 H base L∧CellsAt W0 w.heap.size 33 E.cells) ⟨hgo,hW0,hD0⟩ ?_;clear hgo hW0 hD0;rintro W0 ⟨hg0,hW0,hD0⟩;have hdt:=ln H base L E.da E.ds W0 hW0 (by omega);have rD:W0.rangeAt w.heap.size 0 (dotC E.da E.ds):=by
  have:=hD0.range 0 2;rw [HP.out.1] at this
  exact this
 go_upto_region 2 with (first
  |(refine af rfl 26 _ rfl _ _ rfl (dotC E.da E.ds) rD Tryz.underlying26 rfl aH ?_)
  |(go_at_call 117;refine hdt.mono ?_;rintro e w1 ⟨⟨r,rfl⟩,hW1,hg1⟩))
 have hD1:=hD0.went hg1 (by omega) (by decide);have hg01:=hg0.trans hg1;clear hdt rD hW0 hD0 hg0 hg1;have rV:w1.rangeAt w.heap.size 2 (E.past.map (Value.int .u32)):=by
  have:=hD1.range 2 8;rw [HP.out.2.1] at this
  exact this
 have hLd:(L++eR E.da E.ds).length≤1000005:=by rw [List.length_append,bX];omega
 obtain ⟨L1,hL1⟩:∃q,L++eR E.da E.ds=q:=⟨_,rfl⟩
 have HL1:ac (L++eR E.da E.ds=L1):=⟨hL1⟩
 rw [hL1] at hW1 hLd
 clear hL1
 go_wp2_with (refine af rfl 29 _ rfl _ _ rfl (E.past.map (Value.int .u32)) rV Tryz.underlying29 rfl (by rw [List.length_map,HPL.out];exact xn) ?_)
 go_loopw [12] (fun q wr=>∃j:Nat,j≤8∧q=.int .i64 j∧Wr wr H base (L1++ek (E.past.take j))∧CellsAt wr w.heap.size 33 E.cells∧cz w wr H base) (fun q _=>8 - (intOf q).toNat)
 case atStart=>exact ⟨0,by omega,rfl,by simpa [ek] using hW1,hD1,hg01⟩
 case round=>
  clear hW1 hD1 hg01 rV;obtain ⟨j,hj,rfl,hW1,hD1,hg01⟩:=hrel;have hll:=HL.out j
  by_cases hlt:j<8
  · have hx:=fun wx=>HX.out j wx hlt
    have hts:=HT.out j hlt;obtain ⟨u,hu⟩:∃q,E.past[j]?.getD 0=q:=⟨_,rfl⟩
    rw [hu] at hx hts
    have hfo:=mm H base (L1++ek (E.past.take j)) u wr hW1 (by rw [List.length_append];omega);have HTS:ac (L1++ek (E.past.take j)++be4 u=L1++ek (E.past.take (j+1))):=⟨by rw [hts,List.append_assoc]⟩
    have hj8:(j:Int)<8:=by omega
    clear hts hu hW1
    go_wp2_with (go_at_call 118;refine hfo.mono ?_;rintro e w2 ⟨⟨r2,rfl⟩,hW2,hg2⟩)
    have hD2:=hD1.went hg2 (by omega) (by decide);rw [HTS.out] at hW2
    go_roundw
    case rel=>exact ⟨j+1,by omega,by go_num,hW2,hD2,hg01.trans hg2⟩
    case measure=>simp [intOf];omega
  · obtain rfl:j=8:=by omega
    rw [HA.out] at hW1 hll
    rw [show ((8:Nat):Int)=8 from rfl];obtain ⟨L2,hL2⟩:∃q,L1++ek E.past=q:=⟨_,rfl⟩
    have HL2:ac (L1++ek E.past=L2):=⟨hL2⟩
    have hl2:L2.length≤1000050:=by rw [←hL2,List.length_append];omega
    rw [hL2] at hW1
    have hs1:=hW1.size;have c10:wr.cell? ⟨w.heap.size,10,none⟩=some (.int .u8 E.kind):=by rw [hD1.cell];exact HP.out.2.2.1
    have hp1:=cC H base L2 (some ⟨wr.heap.size,0,none⟩) 1 1 [E.kind] (wr.alloc (.cells (row .u8 [E.kind]) 5)) (hW1.alloc _) (bu wr [E.kind] (by simp)) (by omega);have hgo:=cz.alloc (H:=H) hs1 (.cells (row .u8 [E.kind]) 5);clear hL2 hll HX HT;go_upto_region 8 with (go_at_call 72;refine hp1.mono ?_;rintro e w2 ⟨⟨r2,rfl⟩,hW2,hg2⟩)
    have hD2:=(hD1.went hgo (by omega) (by decide)).went hg2 (by omega) (by decide);have hg02:=hg01.trans (hgo.trans hg2);have hl3:(L2++ [E.kind]).length≤1000060:=by rw [List.length_append];simp;omega
    obtain ⟨L3,hL3⟩:∃q,L2++ [E.kind]=q:=⟨_,rfl⟩
    have HL3:ac (L2++ [E.kind]=L3):=⟨hL3⟩
    rw [hL3] at hW2 hl3
    have hdt:=ln H base L3 E.pa E.ps w2 hW2 (by omega);have rD:w2.rangeAt w.heap.size 11 (dotC E.pa E.ps):=by
     have:=hD2.range 11 2;rw [HP.out.2.2.2.1] at this
     exact this
    clear c10 hp1 hgo hg2 hD1 hg01 hW1 hL3;go_upto_region 9 with (first
     |(refine af rfl 26 _ rfl _ _ rfl (dotC E.pa E.ps) rD Tryz.underlying26 rfl aH ?_)
     |(go_at_call 117;refine hdt.mono ?_;rintro e w3 ⟨⟨r3,rfl⟩,hW3,hg3⟩))
    have hD3:=hD2.went hg3 (by omega) (by decide);have hg03:=hg02.trans hg3;have hl4:(L3++eR E.pa E.ps).length≤1000070:=by rw [List.length_append,bX];omega
    obtain ⟨L4,hL4⟩:∃q,L3++eR E.pa E.ps=q:=⟨_,rfl⟩
    have HL4:ac (L3++eR E.pa E.ps=L4):=⟨hL4⟩
    rw [hL4] at hW3 hl4
    have c13:w3.cell? ⟨w.heap.size,13,none⟩=some (.bool E.right):=by rw [hD3.cell];exact HP.out.2.2.2.2.1
    have htr:=t9 H base L4 E.right w3 hW3 (by omega);clear hdt rD hg3 hD2 hg02 hW2 hL4;go_upto_region 10 with (go_at_call 119;refine htr.mono ?_;rintro e w4 ⟨⟨r4,rfl⟩,hW4,hg4⟩)
    have hD4:=hD3.went hg4 (by omega) (by decide);have hg04:=hg03.trans hg4;have hl5:(L4++ [g8 E.right]).length≤1000080:=by rw [List.length_append];simp;omega
    obtain ⟨L5,hL5⟩:∃q,L4++ [g8 E.right]=q:=⟨_,rfl⟩
    have HL5:ac (L4++ [g8 E.right]=L5):=⟨hL5⟩
    rw [hL5] at hW4 hl5
    have c14:w4.cell? ⟨w.heap.size,14,none⟩=some (.int .u8 E.char):=by rw [hD4.cell];exact HP.out.2.2.2.2.2.1
    have c15:w4.cell? ⟨w.heap.size,15,none⟩=some (.int .u8 E.who):=by rw [hD4.cell];exact HP.out.2.2.2.2.2.2.1
    have c16:w4.cell? ⟨w.heap.size,16,none⟩=some (.int .u8 E.role):=by rw [hD4.cell];exact HP.out.2.2.2.2.2.2.2
    have hs4:=hW4.size;have hp4:=cC H base L5 (some ⟨w4.heap.size,0,none⟩) 3 3 [E.char,E.who,E.role] (w4.alloc (.cells (row .u8 [E.char,E.who,E.role]) 5)) (hW4.alloc _) (bu w4 [E.char,E.who,E.role] (by simp)) (by omega);have hgo:=cz.alloc (H:=H) hs4 (.cells (row .u8 [E.char,E.who,E.role]) 5);clear htr c13 hD3 hg03 hW3 hg4 hL5;go_upto_region 11 with (go_at_call 72;refine hp4.mono ?_;rintro e w5 ⟨⟨r5,rfl⟩,hW5,hg5⟩)
    have hg05:=hg04.trans (hgo.trans hg5);have hz:=lJ H base (L5++ [E.char,E.who,E.role]) 11 w5 hW5 (by omega) (by rw [List.length_append];simp;omega);clear hp4 c14 c15 c16 hD4 hg04 hgo hg5 hW5
    go_wp2_with (go_at_call 73;refine hz.mono ?_;rintro e w6 ⟨⟨r6,rfl⟩,hW6,hg6⟩)
    go_end0
    refine ⟨⟨_,rfl⟩,?_,hg05.trans hg6⟩;rw [←HL5.out,←HL4.out,←HL3.out,←HL2.out,←HL1.out] at hW6
    unfold bq;simp only [List.append_assoc] at hW6 ⊢
    exact hW6
theorem um (E:Ev) (w:World) (hp:E.past.length=8):
    Calls Tryz.prog 32 #[.agg E.cells.toArray] w fun e w'=>∃v,e=.returned v∧ao w' w.heap.size v (bq E)∧Below w.heap.size w w':=by
 have hsz:E.cells.length=17:=by unfold Ev.cells;simp [dotC,hp]
 have hD0:=(CellsAt.new w 33 E.cells).alloc (.cells #[.slice none 0 0] 114);have hbx:Box ((w.alloc (.cells E.cells.toArray 33)).alloc (.cells #[.slice none 0 0] 114)) (w.heap.size+1) 114 (.slice none 0 0):=by
  have:Box ((w.alloc (.cells E.cells.toArray 33)).alloc (.cells #[.slice none 0 0] 114)) (w.alloc (.cells E.cells.toArray 33)).heap.size 114 (.slice none 0 0):=heap_alloc_new _ _;rw [World.size_alloc] at this
  exact this
 have hW0:Wr ((w.alloc (.cells E.cells.toArray 33)).alloc (.cells #[.slice none 0 0] 114)) (w.heap.size+1) w.heap.size []:=⟨by omega,_,hbx,ao.nil _ _⟩
 have hB0:Below w.heap.size w ((w.alloc (.cells E.cells.toArray 33)).alloc (.cells #[.slice none 0 0] 114)):=((Below.refl _ _).alloc (Nat.le_refl _) _).alloc (by simp) _;have hiE:(Tryz.prog.info? 33).map (·.size)=some E.cells.length:=by rw [hsz];kernel_rfl
 have hev:=fun wx (h:Wr wx (w.heap.size+1) w.heap.size [])=>ti (w.heap.size+1) w.heap.size [] E wx h hp (by simp)
 clear hbx hsz hp;go_enter Tryz.func32,Tryz.ntmps32;go_upto_region 2 with fail
 refine ae (p:=fun y=>Code.wp _ _ _ _ y) (fun W0=>Below w.heap.size w W0∧Wr W0 (w.heap.size+1) w.heap.size []∧CellsAt W0 w.heap.size 33 E.cells) ⟨hB0,hW0,hD0⟩ ?_;clear hB0 hW0 hD0;rintro W0 ⟨hB0,hW0,hD0⟩;have rE:W0.rangeAt w.heap.size 0 E.cells:=fun j v hv=>by rw [Nat.zero_add,hD0.cell];exact hv
 have hev0:=hev W0 hW0;clear hev hW0 hD0;go_upto_region 3 with (first
  |(refine af rfl 33 _ rfl _ _ rfl E.cells rE Tryz.underlying33 rfl hiE ?_)
  |(go_at_call 74;refine hev0.mono ?_;rintro e w1 ⟨⟨r,rfl⟩,hW1,hg1⟩))
 obtain ⟨v,hb1,ho1⟩:=hW1.has;have c0:=hb1.cell;rw [List.nil_append] at ho1
 have hB1:Below w.heap.size w w1:=hB0.trans hg1.below;obtain ⟨x1,n1,c1,rfl,hn1⟩:=ho1.isSlice;clear hn1 hev0 rE hW1 hb1 hg1;go_wp2;go_ret;exact ⟨_,rfl,ho1,hB1⟩
end Go.Proofs.YtbdhfbglagdiaaaGreatDoor
