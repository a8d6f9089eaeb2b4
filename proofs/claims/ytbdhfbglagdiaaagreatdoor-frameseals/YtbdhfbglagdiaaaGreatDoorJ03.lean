/- Gate5 Gd Rd1 Rd2 Rd3 Wr2 -/
import Derived.Test.YtbdhfbglagdiaaaGreatDoorJ01
import Derived.Test.YtbdhfbglagdiaaaGreatDoorJ02
import Derived.Defers
import Derived.Recover
import Derived.WalkLawsBesides
import Derived.Deep.MidRow
namespace Go.Proofs.YtbdhfbglagdiaaaGreatDoor
open Go Go.RowKit
section
variable {P:Program} {ops:Array Oper} {Q:Exit→Act→World→Prop} {md:Region.Mode} {S:World→Prop} {D:Nat}
theorem lV {i j:Nat} {oi oj:Oper} {fuel:Nat} {listed:Array Bool} {a:Act} {w:World} (hi:ops[i]?=some oi) (hj:ops[j]?=some oj) (hr:Region.ready md ops listed=[i,j])
    (hwi:Region.wanted oi (yielded ops a.tmps)=true) (hwj:Region.wanted oj (yielded ops a.tmps)=true)
    (h1:∀K':Act→World→Prop,Shut (∀a w,((listed.setIfInBounds i true).getD D true=false→S w)→aE P md ops Q S D fuel (listed.setIfInBounds i true) a w→K' a w)→Oper.wp P oi a w K' Q)
    (h2:∀K':Act→World→Prop,Shut (∀a w,((listed.setIfInBounds j true).getD D true=false→S w)→aE P md ops Q S D fuel (listed.setIfInBounds j true) a w→K' a w)→Oper.wp P oj a w K' Q):aE P md ops Q S D (fuel+1) listed a w:=
 ⟨fun h0=>(by rw [hr] at h0;cases h0),fun q hq=>by
  rw [hr] at hq
  rcases List.mem_cons.1 hq with rfl|hq
  · refine wpOp_step hi (fun K' hK=>?_)
    rw [if_pos hwi];exact h1 K' (fun a w h1 h2=>hK a w ⟨h1,h2⟩)
  · obtain rfl:q=j:=by simpa using hq
    refine wpOp_step hj (fun K' hK=>?_);rw [if_pos hwj];exact h2 K' (fun a w h1 h2=>hK a w ⟨h1,h2⟩)⟩
end
theorem xZ {α:Prop} (R:Nat→Value→World→Prop) (C:Nat→Value→World→Prop) (use:ac (∀g v w,R g v w→C g v w)→α) (prove:∀g v w,R g v w→C g v w):α:=use ⟨prove⟩
open Go.RowKit
set_option maxRecDepth 20000
set_option linter.unusedSimpArgs false
section
variable {P:Program} {ops:Array Oper} {Q:Exit→Act→World→Prop} {md:Region.Mode} {S:World→Prop} {D:Nat}
end
theorem dV {w:World} {o:Oper} {a:Act} {K:Act→World→Prop} {Q:Exit→Act→World→Prop} (s x:Operand)
    (ho:o.op=.call {callee:=.builtin .append,args:= #[s,x],argTypes:= #[41,41]}) (base:Nat) (v:Value) (zs:List Int) (hs:a.eval s=v) (hown:aq w base v zs)
    (y:Option Addr) (len cap:Nat) (z:List Int) (hx:a.eval x=.slice y len cap) (hb:Bytes w y len cap z) (hln:zs.length+len≤4000000) (hbase:base≤w.heap.size)
    (h:∀v' w',aq w' base v' (zs++z)→w.grownBy w' v.ownBlock→K (a.put o.dst v') w'):o.wp Tryz.prog a w K Q:=by
 obtain ⟨i0,hi,hz0,hz1,hz2⟩:=info_parts dp;have hzl:=hb.len_eq;have hcase:∀ad:Addr,y=some ad→(∀j u,(z.map (Value.int .u8))[j]?=some u→w.cell? (ad.add j)=some u)→o.wp Tryz.prog a w K Q:=fun ad hy hsrc=>by
  subst hy;refine wp_append_own w s x 41 ho base 5 i0 (.int .u8 0) 1 1 Tryz.underlying41 hi hz0 hz1 hz2 rfl (by decide) v zs.length (zs.map (Value.int .u8)) hs hown ad len cap (z.map (Value.int .u8)) hx (by simp [hzl]) hsrc (by simp [Value.oneCell']) (by simp [maxLen];omega) (by omega) hbase ?_;intro v' w' h1 h2 _;exact h v' w' (aq.cast h1 (by simp [hzl]) (by simp)) h2
 rcases hb.at_ with h0|⟨b,off,hy,hc⟩
 · have hz0':z=[]:=List.length_eq_zero_iff.1 (by omega)
   cases y with
   |none=>
    have hc0:=hb.nil rfl;subst h0 hc0 hz0';have hrun:=run_append_owned_none (P:=Tryz.prog) (w:=w) base 41 o.type 5 i0 1 Tryz.underlying41 hi v zs.length (zs.map (Value.int .u8)) hown;unfold Oper.wp;simp [execOp,ho,resolve,invoke,builtin,hs,hx,hrun,Result.andThen];exact h v w (by rw [List.append_nil];exact hown) ⟨rfl,rfl,rfl,Nat.le_refl _,fun _ _ _=>rfl⟩
   |some ad=>exact hcase ad rfl (fun j u hu=>by subst hz0';simp at hu)
 · exact hcase _ hy (fun j u hu=>by
    have hj:j<len:=by have:=(List.getElem?_eq_some_iff.1 hu).1;simpa [hzl] using this
    rw [Addr.add_mid',hc j hj,←hu,List.getElem?_map,List.getElem?_eq_getElem (by omega)];rfl)
theorem aq.keep {w w':World} {base:Nat} {v:Value} {z:List Int} (h:aq w base v z) (hk:∀g,base≤g→g<w.heap.size→w'.heap[g]?=w.heap[g]?):aq w' base v z:=by
 refine ⟨h.1,?_⟩
 rcases h.2 with h'|⟨g,cap,cur,h1,h2,h3,h4⟩
 · exact .inl h'
 · refine .inr ⟨g,cap,cur,h1,h2,?_,h4⟩
   rw [hk g h2 (Array.getElem?_eq_some_iff.1 h3).1];exact h3
theorem aq.afarW {w w':World} {base:Nat} {v:Value} {z:List Int} (h:aq w base v z) (hb:Below w.heap.size w w'):aq w' base v z:=h.keep (fun g _ hg=>hb.block g hg)
set_option maxHeartbeats 2000000
theorem ak {P:Program} {fn:Func} {R:Ending→World→Prop} {ch:List PanicEntry} {t:Array Value} {w:World} (h:R (.panicked ch) w):bodyPost P fn R (.panic ch) ⟨t,[]⟩ w:=⟨rfl,h⟩
def dq:PanicEntry:={v:=.iface 168 (.agg #[]),recovered:=false}
theorem iL (w:World):Calls Tryz.prog 132 #[.bool true] w fun e w'=>(∃r,e=.returned r)∧w=w':=by
 go_enter Tryz.func132,Tryz.ntmps132;go_wp2
 go_end0
 exact ⟨⟨_,rfl⟩,rfl⟩
theorem ij (w:World):Calls Tryz.prog 132 #[.bool false] w fun e w'=>e=.panicked [dq]∧w=w':=by
 go_enter Tryz.func132,Tryz.ntmps132;go_wp2;exact ak ⟨rfl,rfl⟩
theorem Bytes.cut3 {w:World} {x:Option Addr} {len cap:Nat} {z:List Int} (hb:Bytes w x len cap z) (k:Nat) (hk:k≤len):Bytes w (fI x k 0) k k (z.take k):=by
 have hz:=hb.len_eq;have hle:=hb.le;refine ⟨by rw [List.length_take];omega,Nat.le_refl _,by have:=hb.top;omega,?_,?_⟩
 · unfold fI
   split
   · intro _;omega
   · intro hn
     cases x with
     |none=>have:=hb.nil rfl;omega
     |some a=>simp at hn
 · by_cases h0:k=0
   · exact .inl h0
   · rcases hb.at_ with h00|⟨b,off,hx,hc⟩
     · omega
     · refine .inr ⟨b,off,?_,fun j hj=>?_⟩
       · unfold fI
         rw [if_neg (by omega),hx,Option.map_some,Addr.add_mid',Nat.zero_mul,Nat.add_zero]
       · rw [List.getElem?_take_of_lt hj];exact hc j (by omega)
theorem qY (w:World) (x:Option Addr) (len cap k:Nat) (hk:k≤cap):(Instr.slice 41 (.slice x len cap) none (some (.int .i64 (k:Int))) (some (.int .i64 (k:Int)))).run Tryz.prog w=.ok (.slice (fI x k 0) k k) w:=by
 rw [run_slice_hm w 41 x len cap wF .i64 .i64 (k:Int) (k:Int) (by omega) (by omega) (by omega),rT];simp [sliced,fI,Result.andThen]
structure Rd (w:World) (R base:Nat) (z:List Int):Prop where
 ge:base≤R
 has:∃x n c,Box w R 172 (.slice x n c)∧∀wx,Below base w wx→Bytes wx x n c z
structure aY (w w':World) (R base:Nat):Prop where
 below:Below base w w'
 more:w.heap.size≤w'.heap.size
 kept:∀g,g<w.heap.size→g≠R→w'.heap[g]?=w.heap[g]?
theorem aY.refl (w:World) (R base:Nat):aY w w R base:=⟨Below.refl _ _,Nat.le_refl _,fun _ _ _=>rfl⟩
theorem aY.trans {w w' w'':World} {R base:Nat} (h:aY w w' R base) (h':aY w' w'' R base):aY w w'' R base:=⟨h.below.trans h'.below,Nat.le_trans h.more h'.more,fun g h1 h2=>by rw [h'.kept g (Nat.lt_of_lt_of_le h1 h.more) h2,h.kept g h1 h2]⟩
theorem aY.alloc {w:World} {R base:Nat} (hb:base≤w.heap.size) (o:Obj):aY w (w.alloc o) R base:=⟨(Below.refl _ _).alloc hb _,by simp,fun g h1 _=>Below.heap_alloc w o g h1⟩
theorem aY.afar {w w':World} {R base:Nat} (hb:base≤w.heap.size) (h:Below w.heap.size w w'):aY w w' R base:=⟨h.mono hb,h.size,fun g h1 _=>h.block g h1⟩
theorem Rd.size {w:World} {R base:Nat} {z:List Int} (h:Rd w R base z):base≤w.heap.size:=by
 obtain ⟨x,n,c,hb,_⟩:=h.has;have:=hb.lt;have:=h.ge;omega
theorem Rd.lt {w:World} {R base:Nat} {z:List Int} (h:Rd w R base z):R<w.heap.size:=by
 obtain ⟨x,n,c,hb,_⟩:=h.has;exact hb.lt
theorem Rd.afar {w w':World} {R base:Nat} {z:List Int} (h:Rd w R base z) (hb:Below w.heap.size w w'):Rd w' R base z:=by
 have hs:=h.size;obtain ⟨x,n,c,h1,h2⟩:=h.has;refine ⟨h.ge,x,n,c,?_,fun wx hx=>h2 wx ((hb.mono hs).trans hx)⟩;unfold Box at h1 ⊢
 rw [hb.block R (Array.getElem?_eq_some_iff.1 h1).1];exact h1
theorem Rd.alloc {w:World} {R base:Nat} {z:List Int} (h:Rd w R base z) (o:Obj):Rd (w.alloc o) R base z:=h.afar ((Below.refl _ _).alloc (Nat.le_refl _) _)
theorem eI (R base:Nat) (z:List Int) (k:Nat) (w:World) (hR:Rd w R base z):
    Calls Tryz.prog 141 #[.pointer (some ⟨R,0,none⟩),.int .i64 k] w fun e w'=>
     (k≤z.length∧∃x,e=.returned (.slice x k k)∧(∀wx,Below base w' wx→Bytes wx x k k (z.take k))∧Rd w' R base (z.drop k)∧aY w w' R base)∨(z.length<k∧e=.panicked [dq]∧aY w w' R base):=by
 have hge:=hR.ge;obtain ⟨x,n,c,hbx,hby⟩:=hR.has;have hb0:=hby w (Below.refl _ _);have hn:=hb0.len_eq;have hle:=hb0.le;have htop:=hb0.top;have hc:=hbx.cell;have hf:=hbx.frozen
 by_cases h:k≤n
 · have hki:(k:Int)≤(n:Int):=by omega
   have hc3:=fun wx=>qY wx x n c k (by omega)
   have hcl:=fun wx=>kh wx x n c k h
   have hnd:=iL w;have HB:ac (∀wx,Below base w wx→Bytes wx x n c z):=⟨hby⟩
   have HN:ac (n=z.length):=⟨hn⟩
   clear hR hb0 hby hn;go_enter Tryz.func141,Tryz.ntmps141
   go_wp2_with (go_at_call 132;refine hnd.mono ?_;rintro e w1 ⟨⟨r1,rfl⟩,rfl⟩)
   go_ret;have hBs:Below base w (w.setCell ⟨R,0,none⟩ (.slice (fI x c k) (n - k) (c - k))):=(Below.refl _ _).setCell hge _;refine .inl ⟨by rw [←HN.out];exact h,_,rfl,fun wx hx=>(HB.out wx (hBs.trans hx)).cut3 k h,⟨hge,_,_,_,hbx.set _,fun wx hx=>?_⟩,⟨hBs,by simp [World.setCell],fun g h1 h2=>heap_setCell_other _ _ g _ h2⟩⟩;have:=(HB.out wx (hBs.trans hx)).cut k n h (Nat.le_refl _);rw [List.take_of_length_le (by rw [List.length_drop,HN.out];exact Nat.le_refl _)] at this
   exact this
 · have hki:¬(k:Int)≤(n:Int):=by omega
   have hnd:=ij w;have HN:ac (n=z.length):=⟨hn⟩
   clear hR hb0 hby hn;go_enter Tryz.func141,Tryz.ntmps141
   go_wp2_with (go_at_call 132;refine hnd.mono ?_;rintro e w1 ⟨rfl,rfl⟩)
   exact ak (.inr ⟨by rw [←HN.out];omega,rfl,aY.refl _ _ _⟩)
abbrev b8 (x:Int):Prop:=0≤x∧x≤255
theorem yh (a b:Nat) (ha:a<65536) (hb:b<256):bits .or .i64 ((a*256:Nat):Int) (b:Int)=((a*256+b:Nat):Int):=by
 have h1:(BitVec.ofInt 64 ((a*256:Nat):Int)).toNat=a*256:=by
  rw [BitVec.ofInt_natCast,BitVec.toNat_ofNat];exact Nat.mod_eq_of_lt (by omega)
 have h2:(BitVec.ofInt 64 (b:Int)).toNat=b:=by
  rw [BitVec.ofInt_natCast,BitVec.toNat_ofNat];exact Nat.mod_eq_of_lt (by omega)
 have h3:a*256|||b=a*256+b:=by
  have:=Nat.two_pow_add_eq_or_of_lt (i:=8) (b:=b) (by omega) a;rw [Nat.mul_comm] at this
  exact this.symm
 show IntKind.i64.wrap ((BitVec.ofInt 64 ((a*256:Nat):Int)|||BitVec.ofInt 64 (b:Int)).toNat:Int)=_;rw [BitVec.toNat_or,h1,h2,h3,IntKind.wrap_i64];omega
theorem sc (a b i m:Nat) (hm:2 ^ i=m) (ha:a*m<4294967296) (hi:m≤4294967296) (hb:b<m):bits .or .u32 ((a*m:Nat):Int) (b:Int)=((a*m+b:Nat):Int):=by
 have h3:a*m|||b=a*m+b:=by
  have:=Nat.two_pow_add_eq_or_of_lt (i:=i) (b:=b) (by omega) a;rw [hm,Nat.mul_comm] at this
  exact this.symm
 have hx:a*m|||b<2 ^ 32:=Nat.or_lt_two_pow (by omega) (by omega)
 have h1:(BitVec.ofInt 32 ((a*m:Nat):Int)).toNat=a*m:=by
  rw [BitVec.ofInt_natCast,BitVec.toNat_ofNat];exact Nat.mod_eq_of_lt (by omega)
 have h2:(BitVec.ofInt 32 (b:Int)).toNat=b:=by
  rw [BitVec.ofInt_natCast,BitVec.toNat_ofNat];exact Nat.mod_eq_of_lt (by omega)
 show IntKind.u32.wrap ((BitVec.ofInt 32 ((a*m:Nat):Int)|||BitVec.ofInt 32 (b:Int)).toNat:Int)=_;rw [BitVec.toNat_or,h1,h2];rw [h3] at hx ⊢
 rw [IntKind.wrap_u32];omega
def oB (a b:Int):Int:=a*256+b
def iY (a b c d:Int):Int:=a*16777216+b*65536+c*256+d
theorem xn (a b:Int) (ha:b8 a) (hb:b8 b):bits .or .i64 (a*256) b=oB a b:=by
 have:=yh a.toNat b.toNat (by omega) (by omega);have e1:((a.toNat*256:Nat):Int)=a*256:=by omega
 have e2:(b.toNat:Int)=b:=by omega
 rw [e1,e2] at this
 rw [this];unfold oB;omega
theorem wO (p q:Nat):p*16777216+q*65536=(p*256+q)*65536:=by rw [Nat.add_mul,Nat.mul_assoc]
theorem xl (p q r:Nat):(p*256+q)*65536+r*256=((p*256+q)*256+r)*256:=by rw [Nat.add_mul _ r,Nat.mul_assoc]
theorem xj (a b c d:Int) (ha:b8 a) (hb:b8 b) (hc:b8 c) (hd:b8 d):bits .or .u32 (bits .or .u32 (bits .or .u32 (a*16777216) (b*65536)) (c*256)) d=iY a b c d:=by
 obtain ⟨p,rfl⟩:∃n:Nat,a=n:=⟨a.toNat,by omega⟩
 obtain ⟨q,rfl⟩:∃n:Nat,b=n:=⟨b.toNat,by omega⟩
 obtain ⟨r,rfl⟩:∃n:Nat,c=n:=⟨c.toNat,by omega⟩
 obtain ⟨t,rfl⟩:∃n:Nat,d=n:=⟨d.toNat,by omega⟩
 have hp:p<256:=by omega
 have hq:q<256:=by omega
 have hr:r<256:=by omega
 have ht:t<256:=by omega
 clear ha hb hc hd;have e1:(p:Int)*16777216=((p*16777216:Nat):Int):=by rw [Int.natCast_mul];rfl
 have e2:(q:Int)*65536=((q*65536:Nat):Int):=by rw [Int.natCast_mul];rfl
 have e3:(r:Int)*256=((r*256:Nat):Int):=by rw [Int.natCast_mul];rfl
 rw [e1,e2,e3,sc p (q*65536) 24 16777216 (by decide+kernel) (by omega) (by omega) (by omega),wO,sc (p*256+q) (r*256) 16 65536 (by decide+kernel) (by omega) (by omega) (by omega),xl,sc ((p*256+q)*256+r) t 8 256 (by decide+kernel) (by omega) (by omega) (by omega)];unfold iY;omega
theorem fy {w:World} {x:Option Addr} {k:Nat} {z:List Int} (h:Bytes w x k k (z.take k)) (h0:0<k):∃b off,x=some ⟨b,off,none⟩∧∀j,j<k→w.cell? ⟨b,off+j,none⟩=some (.int .u8 (z[j]?.getD 0)):=by
 rcases h.at_ with h1|⟨b,off,hx,hc⟩
 · omega
 · refine ⟨b,off,hx,fun j hj=>?_⟩
   have:=hc j hj;rw [List.getElem?_take_of_lt hj] at this
   exact this
theorem iy {z:List Int} (hz:∀v∈z,b8 v) (j:Nat):b8 (z[j]?.getD 0):=by
 by_cases h:j<z.length
 · rw [List.getElem?_eq_getElem h];exact hz _ (List.getElem_mem h)
 · rw [List.getElem?_eq_none (by omega)];exact ⟨by decide,by decide⟩
theorem uz (R base:Nat) (z:List Int) (w:World) (hR:Rd w R base z) (hz:∀v∈z,b8 v):
    Calls Tryz.prog 139 #[.pointer (some ⟨R,0,none⟩)] w fun e w'=>
     (2≤z.length∧e=.returned (.int .i64 (oB (z[0]?.getD 0) (z[1]?.getD 0)))∧Rd w' R base (z.drop 2)∧aY w w' R base)∨(z.length<2∧e=.panicked [dq]∧aY w w' R base):=by
 have ht:=eI R base z 2 w hR;have ha:=iy hz 0;have hb:=iy hz 1;have HV:ac (bits .or .i64 ((z[0]?.getD 0)*256) (z[1]?.getD 0)=oB (z[0]?.getD 0) (z[1]?.getD 0)):=⟨xn _ _ ha hb⟩
 have HF:ac (∀(w':World) (x:Option Addr),2≤z.length→Bytes w' x 2 2 (z.take 2)→∃b off,x=some ⟨b,off,none⟩∧∀j,j<2→w'.cell? ⟨b,off+j,none⟩=some (.int .u8 (z[j]?.getD 0))):=⟨fun w' x _ h'=>fy h' (by omega)⟩
 clear hz;obtain ⟨A,hA⟩:∃q,z[0]?.getD 0=q:=⟨_,rfl⟩
 obtain ⟨B,hB⟩:∃q,z[1]?.getD 0=q:=⟨_,rfl⟩
 have HA:ac (z[0]?.getD 0=A∧z[1]?.getD 0=B):=⟨hA,hB⟩
 rw [hA,hB] at HV ⊢
 rw [hA] at ha
 rw [hB] at hb
 have e1:IntKind.i64.wrap A=A:=by rw [IntKind.wrap_i64];omega
 have e2:IntKind.i64.wrap B=B:=by rw [IntKind.wrap_i64];omega
 have e3:IntKind.i64.wrap (A*256)=A*256:=by rw [IntKind.wrap_i64];omega
 clear hA hB hR;go_enter Tryz.func139,Tryz.ntmps139;go_upto_region 2 with (go_at_call 141;refine ht.mono ?_;rintro e w1 (⟨hk,x1,rfl,hy1,hR1,ht1⟩|⟨hk,rfl,ht1⟩))
 rotate_left
 · exact ak (.inr ⟨hk,rfl,ht1⟩)
 obtain ⟨b,off,rfl,hc⟩:=HF.out w1 x1 hk (hy1 w1 (Below.refl _ _));have c0:w1.cell? ⟨b,off,none⟩=some (.int .u8 A):=by have:=hc 0 (by omega);rw [HA.out.1] at this;exact this
 have c1:w1.cell? ⟨b,off+1,none⟩=some (.int .u8 B):=by have:=hc 1 (by omega);rw [HA.out.2] at this;exact this
 clear hc hy1 ht;refine ag (fun w'=>w'.cell? ⟨b,off,none⟩=some (.int .u8 A)∧w'.cell? ⟨b,off+1,none⟩=some (.int .u8 B)) 10 (by kernel_rfl) ?_;have hS:w1.drew.cell? ⟨b,off,none⟩=some (.int .u8 A)∧w1.drew.cell? ⟨b,off+1,none⟩=some (.int .u8 B):=⟨c0,c1⟩
 refine gaA 0 _ hS ?_;simp only [zp];refine gaA 1 _ hS ?_;simp only [zp];refine grA 2 _ hS ?_;simp only [zp];refine gaA 3 _ hS ?_;simp only [zp];refine gaA 4 _ hS ?_;simp only [zp];refine gaA 5 _ hS ?_;simp only [zp];refine gaA 6 _ hS ?_;simp only [zp];refine grA 7 _ hS ?_;simp only [zp];refine gaA 8 _ hS ?_;simp only [zp];refine gaA 9 _ hS ?_;simp only [zp];refine zw 10 fun K hK=>?_
 go_simp;refine hK.out _ _ zn ?_;clear hK K;refine al (by kernel_rfl) ?_ _;go_wp2;go_ret;refine .inl ⟨hk,?_,hR1.afar ((Below.refl _ _).drew),ht1.trans (aY.afar hR1.size ((Below.refl _ _).drew))⟩;rw [←HV.out]
 rfl
theorem lU (R base:Nat) (z:List Int) (n:Nat) (w:World) (hR:Rd w R base z) (hn:n≤1000000):
    Calls Tryz.prog 137 #[.pointer (some ⟨R,0,none⟩),.int .i64 n] w fun e w'=>
     ((n≤z.length∧∀j,j<n→z[j]?.getD 0=0)∧(∃r,e=.returned r)∧Rd w' R base (z.drop n)∧aY w w' R base)∨(¬(n≤z.length∧∀j,j<n→z[j]?.getD 0=0)∧e=.panicked [dq]∧aY w w' R base):=by
 have ht:=eI R base z n w hR;have hok:=fun wx=>iL wx
 have hbad:=fun wx=>ij wx
 clear hR;go_enter Tryz.func137,Tryz.ntmps137;go_upto_region 1 with (go_at_call 141;refine ht.mono ?_;rintro e w1 (⟨hk,x1,rfl,hy1,hR1,ht1⟩|⟨hk,rfl,ht1⟩))
 rotate_left
 · exact ak (.inr ⟨fun h=>by omega,rfl,ht1⟩)
 have hb1:=hy1 w1 (Below.refl _ _);have hle:=hb1.le;clear ht hy1
 go_wp2_with fail
 go_loopw [12] (fun q wr=>∃i:Nat,i≤n∧q=.int .i64 i∧ac (∀j,j<i→z[j]?.getD 0=0)∧w1=wr) (fun q _=>n - (intOf q).toNat)
 case atStart=>exact ⟨0,by omega,rfl,⟨fun j hj=>by omega⟩,rfl⟩
 case round=>
  obtain ⟨i,hi,rfl,HJ,rfl⟩:=hrel
  by_cases hlt:i<n
  · obtain ⟨b,off,rfl,hc⟩:=fy hb1 (by omega)
    have ci:=hc i hlt;clear hc
    by_cases h0:z[i]?.getD 0=0
    · rw [h0] at ci
      have HJ2:ac (∀j,j<i+1→z[j]?.getD 0=0):=⟨fun j hj=>by
       by_cases h:j=i
       · rw [h];exact h0
       · exact HJ.out j (by omega)⟩
      have hi0:(0:Int)≤(i:Int):=by omega
      have hin:(i:Int)<(n:Int):=by omega
      clear h0 hbad HJ
      go_wp2_with (go_at_call 132;refine (hok _).mono ?_;rintro e w2 ⟨⟨r2,rfl⟩,rfl⟩)
      go_roundw
      case rel=>exact ⟨i+1,by omega,by go_num,HJ2,trivial⟩
      case measure=>simp [intOf];omega
    · obtain ⟨q,hq⟩:∃q,z[i]?.getD 0=q:=⟨_,rfl⟩
      have HQ:ac (∃j,j<n∧¬z[j]?.getD 0=0):=⟨i,hlt,h0⟩
      rw [hq] at h0 ci
      have hi0:(0:Int)≤(i:Int):=by omega
      have hin:(i:Int)<(n:Int):=by omega
      have hqb:(q==0)=false:=by simp [h0]
      clear hq hok
      go_wp2_with (go_at_call 132;refine (hbad _).mono ?_;rintro e w2 ⟨rfl,rfl⟩)
      exact ak (.inr ⟨fun h=>by obtain ⟨j,h1,h2⟩:=HQ.out;exact h2 (h.2 j h1),rfl,ht1⟩)
  · obtain rfl:i=n:=by omega
    go_wp2
    go_end0
    exact .inl ⟨⟨hk,HJ.out⟩,⟨_,rfl⟩,hR1,ht1⟩
theorem aq.took {w w':World} {base R:Nat} {v u:Value} {z:List Int} (h:aq w base v z) (hb:Box w R 172 u) (ht:aY w w' R base):aq w' base v z:=by
 have hne:=h.apartT hb (by decide);refine ⟨h.1,?_⟩
 rcases h.2 with h'|⟨g,cap,cur,h1,h2,h3,h4⟩
 · exact .inl h'
 · refine .inr ⟨g,cap,cur,h1,h2,?_,h4⟩
   subst h1;rw [ht.kept g (Array.getElem?_eq_some_iff.1 h3).1 (fun e=>by
    rcases hne with h0|h0
    · simp [Value.ownBlock] at h0
    · simp [Value.ownBlock] at h0;exact h0 e)]
   exact h3
theorem tE (x:Option Addr) (n c:Nat) (z:List Int) (w:World) (hb:Bytes w x n c z) (hn:n≤1000000):
    Calls Tryz.prog 140 #[.slice x n c] w fun e w'=>∃v,e=.returned v∧aq w' w.heap.size v z∧Below w.heap.size w w':=by
 cases x with
 |none=>
  have hc:=hb.nil rfl;have hle:=hb.le;have hz:=hb.len_eq;obtain rfl:c=0:=hc;obtain rfl:n=0:=by omega
  have hz':z=[]:=List.length_eq_zero_iff.1 hz.symm;subst hz';have hnil:∀wx:World,(binOp BinOp.eql 41 (.slice none 0 0) (.slice none 0 0)).run Tryz.prog wx=.ok (.bool true) wx:=fun _=>by kernel_rfl
  clear hb hz hle hn;go_enter Tryz.func140,Tryz.ntmps140;go_wp2;go_ret;exact ⟨_,rfl,aq.nil _ _,Below.refl _ _⟩
 |some a=>
  have hE0:aq (w.alloc (.cells #[] 5)) w.heap.size (.slice (some ⟨w.heap.size,0,none⟩) 0 0) []:=aq.ofHolds (aa.new w .u8 5 []) (Nat.le_refl _) (by simp);have hy:Bytes (w.alloc (.cells #[] 5)) (some a) n c z:=hb.below ((Below.refl _ _).alloc (Nat.le_refl _) _);have hnil:∀wx:World,(binOp BinOp.eql 41 (.slice (some a) n c) (.slice none 0 0)).run Tryz.prog wx=.ok (.bool false) wx:=fun _=>by kernel_rfl
  clear hb;go_enter Tryz.func140,Tryz.ntmps140
  go_wp2_with (at_builtin;refine aF rfl _ _ rfl w.heap.size _ [] rfl hE0 (some a) n c z rfl hy (by simp;omega) (by simp) ?_;intro v1 w1 ho1 hg1)
  go_ret;rw [List.nil_append] at ho1
  exact ⟨_,rfl,ho1,below_grown ((Below.refl _ _).alloc (Nat.le_refl _) _) hE0 hg1 (by simp)⟩
set_option maxHeartbeats 1000000
theorem CellsAt.went {w w':World} {g H base:Nat} {t:TypeId} {cs:List Value} (h:CellsAt w g t cs) (hg:ct w w' H base) (hne:g≠H) (ht:t≠5):CellsAt w' g t cs:=hg.kept g _ t _ hne ht h
def dU (b:Bool):Int:=if b then 1 else 0
theorem tX (H base:Nat) (L:List Int) (b:Bool) (w:World) (hW:Wr w H base L) (hln:L.length≤3000000):
    Calls Tryz.prog 119 #[.pointer (some ⟨H,0,none⟩),.bool b] w fun e w'=>(∃r,e=.returned r)∧Wr w' H base (L++ [dU b])∧ct w w' H base:=by
 have hsz:=hW.size;cases b with
 |true=>
  have hp:=cz H base L (some ⟨w.heap.size,0,none⟩) 1 1 [1] (w.alloc (.cells (row .u8 [1]) 5)) (hW.alloc _) (br w [1] (by simp)) (by omega);have hgo:=ct.alloc (H:=H) hsz (.cells (row .u8 [1]) 5);clear hW;go_enter Tryz.func119,Tryz.ntmps119
  go_wp2_with (go_at_call 72;refine hp.mono ?_;rintro e w1 ⟨⟨r,rfl⟩,hW1,hg1⟩)
  go_end0
  exact ⟨⟨_,rfl⟩,hW1,hgo.trans hg1⟩
 |false=>
  have hp:=cz H base L (some ⟨w.heap.size,0,none⟩) 1 1 [0] (w.alloc (.cells (row .u8 [0]) 5)) (hW.alloc _) (br w [0] (by simp)) (by omega);have hgo:=ct.alloc (H:=H) hsz (.cells (row .u8 [0]) 5);clear hW;go_enter Tryz.func119,Tryz.ntmps119
  go_wp2_with (go_at_call 72;refine hp.mono ?_;rintro e w1 ⟨⟨r,rfl⟩,hW1,hg1⟩)
  go_end0
  exact ⟨⟨_,rfl⟩,hW1,hgo.trans hg1⟩
theorem mj (H base:Nat) (L:List Int) (n:Nat) (w:World) (hW:Wr w H base L) (hn:n≤100000) (hln:L.length≤3000000):
    Calls Tryz.prog 73 #[.pointer (some ⟨H,0,none⟩),.int .i64 n] w fun e w'=>(∃r,e=.returned r)∧Wr w' H base (L++List.replicate n 0)∧ct w w' H base:=by
 have hsz:=hW.size;have hmk:∀wx:World,(Instr.makeSlice 41 (.int .i64 (n:Int)) (.int .i64 (n:Int))).run Tryz.prog wx=.ok (.slice (some ⟨wx.heap.size,0,none⟩) n n) (wx.alloc (.cells (row .u8 (List.replicate n 0)) 5)):=fun wx=>by
  have:=run_make_row' (P:=Tryz.prog) 41 5 (.int .u8 0) 1 Tryz.underlying41 dp rfl .i64 .i64 n (by omega) (by omega) wx;rw [iq] at this
  exact this
 have hp:=cz H base L (some ⟨w.heap.size,0,none⟩) n n (List.replicate n 0) (w.alloc (.cells (row .u8 (List.replicate n 0)) 5)) (hW.alloc _) (by
  have:=br w (List.replicate n 0) (by simp;omega);rw [List.length_replicate] at this
  exact this) (by omega)
 have hgo:=ct.alloc (H:=H) hsz (.cells (row .u8 (List.replicate n 0)) 5);clear hW;go_enter Tryz.func73,Tryz.ntmps73
 go_wp2_with (go_at_call 72;refine hp.mono ?_;rintro e w1 ⟨⟨r,rfl⟩,hW1,hg1⟩)
 go_end0
 exact ⟨⟨_,rfl⟩,hW1,hgo.trans hg1⟩
def ei (a s:Int):List Int:=a::be4 s
theorem lq (H base:Nat) (L:List Int) (a s:Int) (w:World) (hW:Wr w H base L) (hln:L.length≤2000000):
    Calls Tryz.prog 117 #[.pointer (some ⟨H,0,none⟩),.agg (dotC a s).toArray] w fun e w'=>(∃r,e=.returned r)∧Wr w' H base (L++ei a s)∧ct w w' H base:=by
 have hsz:=hW.size;have hlt:H<w.heap.size:=by obtain ⟨v,h1,_⟩:=hW.has;exact h1.lt
 have hD0:=CellsAt.new w 26 (dotC a s);have hgo:=ct.alloc (H:=H) hsz (.cells (dotC a s).toArray 26);have hW0:=hW.alloc (.cells (dotC a s).toArray 26);clear hW;go_enter Tryz.func117,Tryz.ntmps117;go_upto_region 1 with fail
 refine af (p:=fun y=>Code.wp _ _ _ _ y) (fun W0=>ct w W0 H base∧Wr W0 H base L∧CellsAt W0 w.heap.size 26 (dotC a s)) ⟨hgo,hW0,hD0⟩ ?_;clear hgo hW0 hD0;rintro W0 ⟨hg0,hW0,hD0⟩;have hs0:=hW0.size;have c0:W0.cell? ⟨w.heap.size,0,none⟩=some (.int .u8 a):=hD0.cell 0;have hp:=cz H base L (some ⟨W0.heap.size,0,none⟩) 1 1 [a] (W0.alloc (.cells (row .u8 [a]) 5)) (hW0.alloc _) (br W0 [a] (by simp)) (by omega);have hgo:=ct.alloc (H:=H) hs0 (.cells (row .u8 [a]) 5);go_upto_region 2 with (go_at_call 72;refine hp.mono ?_;rintro e w1 ⟨⟨r,rfl⟩,hW1,hg1⟩)
 have hD1:=(hD0.went hgo (by omega) (by decide)).went hg1 (by omega) (by decide);have c1:w1.cell? ⟨w.heap.size,1,none⟩=some (.int .u32 s):=hD1.cell 1;have hf:=ms H base (L++ [a]) s w1 hW1 (by rw [List.length_append];simp;omega);have hg01:=hg0.trans (hgo.trans hg1);clear hp hD0 hD1 hW0 hW1 hgo hg1 hg0 c0
 go_wp2_with (go_at_call 118;refine hf.mono ?_;rintro e w2 ⟨⟨r2,rfl⟩,hW2,hg2⟩)
 go_end0
 refine ⟨⟨_,rfl⟩,?_,hg01.trans hg2⟩;rw [List.append_assoc] at hW2
 exact hW2
end Go.Proofs.YtbdhfbglagdiaaaGreatDoor
