/- Mac6 Mac7 OwnK MacEq FewS Mac8 -/
import Derived.Test.YtbdhfbglagdiaaaGreatDoorJ20
import Derived.Test.YtbdhfbglagdiaaaGreatDoorJ19
import Derived.Laws.BitsLemmas
import Derived.Laws.Closers25b
import Derived.OwnWalk
namespace Go.Proofs.YtbdhfbglagdiaaaGreatDoor.S
open Go.RowKit
set_option maxRecDepth 20000
set_option maxHeartbeats 2000000
set_option linter.unusedSimpArgs false
theorem yn {P:Program} {o:Oper} {a:Act} {w:World} {K:Act→World→Prop} {Q:Exit→Act→World→Prop} (ty:TypeId) (x y:Operand) (ho:o.op=.store ty x y)
    (g:Nat) (hx:a.eval x=.pointer (some ⟨g,0,none⟩)) {k:IntKind} {t:TypeId} {old l:List Int} (hy:a.eval y=.agg (row k l)) (hg:aa w g k t old)
    (hi:(P.info? ty).map (·.size)=some l.length) (hl:old.length=l.length)
    (h:K (a.put o.dst undef) (w.setRow g (row k l))):o.wp P a w K Q:=by
 unfold Oper.wp execOp;simp only [ho,hx,hy,Instr.storeAt,Instr.sureAddr,Sem.run_bind,Sem.run_pure,Result.andThen_ok,bC w g ty t k old l hg hl hi];exact h
theorem aa.rangeM {w:World} {g:Nat} {k:IntKind} {t:TypeId} {l:List Int} (h:aa w g k t l):w.rangeAt g 0 (l.map (Value.int k)):=fun j v hv=>by
 have hj:j<l.length:=by have:=(List.getElem?_eq_some_iff.1 hv).1;simpa using this
 rw [Nat.zero_add,h.cell j hj,←hv,List.getElem?_map,List.getElem?_eq_getElem hj];rfl
theorem pX {w:World} {base pb:Nat} {t:TypeId} {x:Option Addr} {len cap:Nat} {z:List Int} (hbox:w.heap[pb]?=some (.cells #[.slice x len cap] t (0,0))) (hpb:pb<base) (_hbase:base≤w.heap.size) (hb:Bytes w x len cap z) (hlt:∀b off,x=some ⟨b,off,none⟩→0<len→b<base):aQ w base pb [⟨x,len,cap,z⟩]:=by
 intro w' hB j hj;simp only [List.length_cons,List.length_nil] at hj
 obtain rfl:j=0:=by omega
 refine ⟨?_,hb.len_eq,hb.le,hb.top,hb.nil,?_⟩
 · rw [hB.cell (p:=⟨pb,0,none⟩) hpb];exact (cell_of_row w pb 0 _ t _ hbox).trans rfl
 · rcases hb.at_ with h0|⟨b,off,hx,hc⟩
   · exact .inl h0
   · by_cases hl:len=0
     · exact .inl hl
     · exact .inr ⟨b,off,hx,fun j hj=>(hB.cell (p:=⟨b,off+j,none⟩) (hlt b off hx (by omega))).trans (hc j hj)⟩
def tagL (z a:List Int):List Int:=sumL (aU 92 (bt z)++sumL (aU 54 (bt z)++a))
theorem tagL_length (z a:List Int):(tagL z a).length=32:=aW _
theorem lj (x:Option Addr) (len cap:Nat) (z:List Int) (pb n cp:Nat) (ps:List dr) (w:World) (hb:Bytes w x len cap z) (hln:len≤1000000) (hps:aQ w w.heap.size pb ps) (hn:n=ps.length) (hn2:n≤1000)
    (hlen:∀j,j≤ps.length→64+(aZ (ps.take j)).length≤1000000) (hlen2:∀p∈ps,p.len≤1000000) (hKT:KTab w):
    Calls Tryz.prog 124 #[.slice x len cap,.slice (some ⟨pb,0,none⟩) n cp] w fun e w'=>e=.returned (.agg (row .u8 (tagL z (aZ ps))))∧Below w.heap.size w w':=by
 have hfl:=eW z;have hfi:=fun wx (hx:Below w.heap.size w wx)=>jz x len cap z wx (hb.below hx) hln (hKT.below hx)
 have hTl:=tagL_length z (aZ ps);have HT:dl (tagL z (aZ ps)=sumL (aU 92 (bt z)++sumL (aU 54 (bt z)++aZ ps))):=⟨rfl⟩
 obtain ⟨TG,hTG⟩:∃q,tagL z (aZ ps)=q:=⟨_,rfl⟩
 rw [hTG] at HT hTl ⊢
 obtain ⟨FL,hFL⟩:∃q,bt z=q:=⟨_,rfl⟩
 rw [hFL] at hfl hfi HT
 have hpi:=fun wx (hx:Below w.heap.size w wx)=>rR FL pb n cp ps wx hfl (fun w' hb'=>hps w' (hx.trans (hb'.mono hx.size))) hn hn2 hlen hlen2 (hKT.below hx)
 have hDl:=aW (aU 54 FL++aZ ps);obtain ⟨D1,hD1⟩:∃q,sumL (aU 54 FL++aZ ps)=q:=⟨_,rfl⟩
 rw [hD1] at hpi hDl HT
 have hpo:∀(pb' F:Nat) (wx:World),aQ wx wx.heap.size pb' [⟨some ⟨F,0,none⟩,32,32,D1⟩]→KTab wx→Calls Tryz.prog 162 #[.agg (List.map (Value.int .u8) FL).toArray,.func (.func 164) #[] #[],.slice (some ⟨pb',0,none⟩) 1 1] wx fun e w'=>e=.returned (.agg (row .u8 TG))∧Below wx.heap.size wx w':=fun pb' F wx h1 h2=>by
  have:=oG FL pb' 1 1 [⟨some ⟨F,0,none⟩,32,32,D1⟩] wx hfl h1 rfl (by omega) (fun j hj=>by
   have:(aZ (List.take j [(⟨some ⟨F,0,none⟩,32,32,D1⟩:dr)])).length≤32:=by
    match j with
    |0=>simp [aZ]
    |j+1=>simp [aZ,hDl]
   omega) (fun p hp=>by simp at hp;subst hp;simp) h2
  have e:aZ [(⟨some ⟨F,0,none⟩,32,32,D1⟩:dr)]=D1:=by simp [aZ]
  rw [e,←HT.out] at this
  exact this
 have uF:=Tryz.underlying204;have iF:(Tryz.prog.info? 204).map (·.size)=some (FL.map (Value.int .u8)).length:=by rw [List.length_map,hfl];exact ez
 clear hTG hFL hD1 HT hps hn hlen hlen2;go_enter Tryz.func124,Tryz.ntmps124;go_upto_region 1 with fail
 refine af (p:=fun y=>Code.wp _ _ _ _ y) (fun W0=>Below w.heap.size w W0∧W0.heap.size=w.heap.size+1∧aa W0 w.heap.size .u8 23 (List.replicate 32 0)) ⟨(Below.refl _ _).alloc (Nat.le_refl _) _,by simp,aa.new w .u8 23 (List.replicate 32 0)⟩ ?_;rintro W0 ⟨hB0,hs0,hR0⟩;have hfi0:=hfi W0 hB0;clear hfi hb;go_upto_region 2 with (first
  |(go_at_call 161;refine hfi0.mono ?_;rintro e w1 ⟨rfl,hb1⟩;have hN1:=aa.new w1 .u8 204 (List.replicate 64 0))
  |(refine ah rfl 204 _ _ rfl _ rfl rfl hN1 (by rw [hfl];exact ez) (by simp [hfl]) ?_))
 have hs1:=hb1.size;refine af (p:=fun y=>Code.wp _ _ _ _ y) (fun W2=>Below w.heap.size w W2∧W2.heap.size=w1.heap.size+1∧aa W2 w.heap.size .u8 23 (List.replicate 32 0)∧aa W2 w1.heap.size .u8 204 FL) ⟨below_setRow ((hB0.trans (hb1.mono hB0.size)).alloc (by omega) _) (by omega) _,by simp,((hR0.below hb1 (by omega)).alloc _).setRowOther _ (by omega),hN1.setRow _⟩ ?_;clear hN1 hB0 hR0 hb1 hfi0;rintro W2 ⟨hB2,hs2,hR2,hQ2⟩;obtain ⟨Qb,hQb⟩:∃q,w1.heap.size=q:=⟨_,rfl⟩
 rw [hQb] at hs1 hs2 hQ2 ⊢
 have hQw:w.heap.size<Qb:=by omega
 clear hQb hs1 hs0;have hpi2:=hpi W2 hB2;clear hpi;simp only [Act.put];go_upto_region 3 with (first
  |(refine am rfl 204 _ rfl _ rfl hQ2 Tryz.underlying204 ez hfl ?_)
  |(go_at_call 162;refine hpi2.mono ?_;rintro e w3 ⟨rfl,hb3⟩;have hN3:=aa.new w3 .u8 23 (List.replicate 32 0))
  |(refine ah rfl 23 _ _ rfl _ rfl rfl hN3 (by rw [hDl];exact aI) (by simp [hDl]) ?_))
 have hs3:=hb3.size;refine af (p:=fun y=>Code.wp _ _ _ _ y) (fun W4=>Below w.heap.size w W4∧W4.heap.size=w3.heap.size+1∧aa W4 w.heap.size .u8 23 (List.replicate 32 0)∧aa W4 Qb .u8 204 FL∧aa W4 w3.heap.size .u8 23 D1) ⟨below_setRow ((hB2.trans (hb3.mono hB2.size)).alloc (by omega) _) (by omega) _,by simp,((hR2.below hb3 (by omega)).alloc _).setRowOther _ (by omega),((hQ2.below hb3 (by omega)).alloc _).setRowOther _ (by omega),hN3.setRow _⟩ ?_;clear hN3 hB2 hR2 hQ2 hb3 hpi2;rintro W4 ⟨hB4,hs4,hR4,hQ4,hF4⟩;obtain ⟨Fb,hFb⟩:∃q,w3.heap.size=q:=⟨_,rfl⟩
 rw [hFb] at hs3 hs4 hF4 ⊢
 have hFw:Qb<Fb:=by omega
 clear hFb hs3 hs2;simp only [Act.put];refine ag (fun w'=>w'.rangeAt Qb 0 (FL.map (Value.int .u8))) 4 (by kernel_rfl) ?_;have hS:=hQ4.drew.rangeM;refine zg 0 12 204 5 Qb 0 (FL.map (Value.int .u8)) hS (fun _ h=>h) uF iF ?_;simp only [Act.put,List.setIfInBounds_toArray,List.set_cons_zero,List.set_cons_succ];refine ay (i:=1) (v:=.slice (some ⟨Fb,0,none⟩) 32 32) rfl (by kernel_rfl) (by kernel_rfl) (by kernel_rfl) (fun _ _ _ h=>h) (by kernel_rfl) (fun _=>hS) (by kernel_rfl) ?_ ?_
 · intro _;go_simp
 simp only [Act.put,List.setIfInBounds_toArray,List.set_cons_zero,List.set_cons_succ];refine zw 2 fun K hK=>?_
 go_simp;have hB5:Below W4.heap.size W4 (W4.alloc (.cells #[.slice (some ⟨Fb,0,none⟩) 32 32] 41)).drew:=((Below.refl _ _).alloc (Nat.le_refl _) _).drew;replace hS:=(hQ4.below hB5 hQ4.lt).rangeM;have hp5:aQ (W4.alloc (.cells #[.slice (some ⟨Fb,0,none⟩) 32 32] 41)).drew (W4.alloc (.cells #[.slice (some ⟨Fb,0,none⟩) 32 32] 41)).drew.heap.size (Fb+1) [⟨some ⟨Fb,0,none⟩,32,32,D1⟩]:=
  pX (t:=41) (by have:=heap_alloc_new W4 (.cells #[.slice (some ⟨Fb,0,none⟩) 32 32] 41);rw [hs4] at this;exact this) (by simp [hs4]) (Nat.le_refl _) ((hF4.bytes hDl.symm (by omega)).below hB5) (fun b off h _=>by cases h;simp [hs4];omega)
 refine hK.out _ _ (fun _=>hS) ?_;clear hK K;refine zw 3 fun K hK=>?_
 go_wp2_with (go_at_call 162;refine (hpo (Fb+1) Fb _ hp5 (hKT.below (hB4.trans (hB5.mono hB4.size)))).mono ?_;rintro e w6 ⟨rfl,hb6⟩)
 have hB6:Below W4.heap.size W4 w6:=hB5.trans (hb6.mono hB5.size);replace hS:=(hQ4.below hB6 hQ4.lt).rangeM;have hR6:=hR4.below hB6 hR4.lt;refine hK.out _ _ (fun _=>hS) ?_;clear hK K;refine zw 4 fun K hK=>?_
 refine yn 23 (.tmp 4) (.tmp 15) (by kernel_rfl) w.heap.size (by kernel_rfl) (l:=TG) (k:=.u8) (by kernel_rfl) hR6 (by rw [hTl];exact aI) (by simp [hTl]) ?_;refine hK.out _ _ (fun h=>absurd (show true=false from h) (by decide)) ?_;clear hK K;refine al (by kernel_rfl) ?_ _;simp only [Act.put]
 go_wp2_with fail
 refine bodyPost_ret (aj (Tryz.results124) _ rfl (hR6.setRow _) Tryz.underlying23 aI hTl) rfl ⟨rfl,?_⟩;exact below_setRow (hB4.trans (hB6.mono hB4.size)) (Nat.le_refl _) _
set_option maxHeartbeats 1000000
theorem hmac_any (x:Option Addr) (len cap:Nat) (z:List Int) (y:Option Addr) (lb cb:Nat) (b:List Int) (w:World) (hx:Bytes w x len cap z) (hln:len≤1000000) (hy:Bytes w y lb cb b) (hlb:lb≤900000) (hKT:KTab w):
    Calls Tryz.prog 82 #[.slice x len cap,.slice y lb cb] w fun e w'=>e=.returned (.agg (row .u8 (tagL z b)))∧Below w.heap.size w w':=by
 have hTl:=tagL_length z b;have hyl:=hy.len_eq;have htg:∀(pb:Nat) (wx:World),Below w.heap.size w wx→aQ wx wx.heap.size pb [⟨y,lb,cb,b⟩]→Calls Tryz.prog 124 #[.slice x len cap,.slice (some ⟨pb,0,none⟩) 1 1] wx fun e w'=>e=.returned (.agg (row .u8 (tagL z b)))∧Below wx.heap.size wx w':=fun pb wx h1 h2=>by
  have:=lj x len cap z pb 1 1 [⟨y,lb,cb,b⟩] wx (hx.below h1) hln h2 rfl (by omega) (fun j hj=>by
   have:(aZ (List.take j [(⟨y,lb,cb,b⟩:dr)])).length≤900000:=by
    match j with
    |0=>simp [aZ]
    |j+1=>simp [aZ];omega
   omega) (fun p hp=>by simp at hp;subst hp;show lb≤1000000;omega) (hKT.below h1)
  have e:aZ [(⟨y,lb,cb,b⟩:dr)]=b:=by simp [aZ]
  rw [e] at this
  exact this
 obtain ⟨TG,hTG⟩:∃q,tagL z b=q:=⟨_,rfl⟩
 rw [hTG] at hTl htg ⊢
 clear hTG hx hyl;go_enter Tryz.func82,Tryz.ntmps82;go_upto_region 1 with fail
 refine af (p:=fun y=>Code.wp _ _ _ _ y) (fun W0=>Below w.heap.size w W0∧W0.heap.size=w.heap.size+1∧aa W0 w.heap.size .u8 23 (List.replicate 32 0)) ⟨(Below.refl _ _).alloc (Nat.le_refl _) _,by simp,aa.new w .u8 23 (List.replicate 32 0)⟩ ?_;rintro W0 ⟨hB0,hs0,hR0⟩;have hB1:Below W0.heap.size W0 (W0.alloc (.cells #[.slice y lb cb] 41)):=(Below.refl _ _).alloc (Nat.le_refl _) _;have hBw:Below w.heap.size w (W0.alloc (.cells #[.slice y lb cb] 41)):=hB0.trans (hB1.mono hB0.size);have hp1:aQ (W0.alloc (.cells #[.slice y lb cb] 41)) (W0.alloc (.cells #[.slice y lb cb] 41)).heap.size (w.heap.size+1) [⟨y,lb,cb,b⟩]:=
  pX (t:=41) (by have:=heap_alloc_new W0 (.cells #[.slice y lb cb] 41);rw [hs0] at this;exact this) (by simp [hs0]) (Nat.le_refl _) (hy.below hBw) (fun bb off h hl=>by
   rcases hy.at_ with h0|⟨b',off',hx',hc⟩
   · omega
   · have e:bb=b':=by
      rw [h] at hx'
      injection hx' with h1
      injection h1
     have hlt:b'<w.heap.size:=block_lt_of_cell (hc 0 hl);rw [e,World.size_alloc,hs0];omega)
 have ht1:=htg _ _ hBw hp1;have hR1:=hR0.below hB1 hR0.lt;clear htg hp1 hy hR0
 go_wp2_with (first
  |(go_at_call 124;refine ht1.mono ?_;rintro e w2 ⟨rfl,hb2⟩;have hR2:=hR1.below hb2 hR1.lt)
  |(refine ah rfl 23 _ _ rfl _ rfl rfl hR2 (by rw [hTl];exact aI) (by simp [hTl]) ?_))
 refine bodyPost_ret (aj (Tryz.results82) _ rfl (hR2.setRow _) Tryz.underlying23 aI hTl) rfl ⟨rfl,?_⟩;exact below_setRow (hBw.trans (hb2.mono hBw.size)) (Nat.le_refl _) _
theorem aq.belowM {w w':World} {base:Nat} {v:Value} {z:List Int} (h:aq w base v z) (hb:Below w.heap.size w w'):aq w' base v z:=by
 refine ⟨h.1,?_⟩
 rcases h.2 with h'|⟨g,cap,cur,h1,h2,h3,h4⟩
 · exact .inl h'
 · refine .inr ⟨g,cap,cur,h1,h2,?_,h4⟩
   rw [hb.block g (Array.getElem?_eq_some_iff.1 h3).1];exact h3
theorem aq.keepM {w w':World} {base:Nat} {v:Value} {z:List Int} (h:aq w base v z) (hk:∀g,base≤g→g<w.heap.size→w'.heap[g]?=w.heap[g]? ∨∃cs t fr,w.heap[g]?=some (.cells cs t fr)∧t≠5):aq w' base v z:=by
 refine ⟨h.1,?_⟩
 rcases h.2 with h'|⟨g,cap,cur,h1,h2,h3,h4⟩
 · exact .inl h'
 · refine .inr ⟨g,cap,cur,h1,h2,?_,h4⟩
   rcases hk g h2 (Array.getElem?_eq_some_iff.1 h3).1 with h|⟨cs,t,fr,h5,h6⟩
   · rw [h];exact h3
   · rw [h3] at h5
     simp at h5
     exact absurd h5.2.1.symm h6
theorem ku {w w':World} {g base:Nat} {t:TypeId} {l z:List Int} {v:Value} (h:aa w g .u8 t l) (hv:aq w base v z) (hg:w.grownBy w' v.ownBlock) (ht:t≠5):aa w' g .u8 t l:=by
 have hl:=h.lt;unfold aa at h ⊢
 rw [hg.block g hl (fun e=>by
  rcases hv.2 with ⟨rfl,_⟩|⟨g',cap,cur,rfl,_,h3,_⟩
  · cases e
  · simp [Value.ownBlock] at e
    subst e;rw [h] at h3
    simp at h3
    exact ht h3.2)]
 exact h
theorem eJ (a b:Nat) (ha:a<256) (hb:b<256):
    bits .xor .u8 (a:Int) (b:Int)=((a ^^^ b:Nat):Int):=by
 have hx:a ^^^ b<2 ^ 8:=Nat.xor_lt_two_pow (by omega) (by omega);have h1:(BitVec.ofInt 8 (a:Int)).toNat=a:=by
  rw [BitVec.ofInt_natCast,BitVec.toNat_ofNat];exact Nat.mod_eq_of_lt (by omega)
 have h2:(BitVec.ofInt 8 (b:Int)).toNat=b:=by
  rw [BitVec.ofInt_natCast,BitVec.toNat_ofNat];exact Nat.mod_eq_of_lt (by omega)
 show IntKind.u8.wrap ((BitVec.ofInt 8 (a:Int) ^^^ BitVec.ofInt 8 (b:Int)).toNat:Int)=_;rw [BitVec.toNat_xor,h1,h2,IntKind.wrap_u8];omega
theorem lX (u p q:Int) (hu:0≤u∧u≤255) (hp:0≤p∧p≤255) (hq:0≤q∧q≤255):bits .or .u8 u (bits .xor .u8 p q)=0↔u=0∧p=q:=by
 obtain ⟨a,rfl⟩:=Int.eq_ofNat_of_zero_le hu.1;obtain ⟨b,rfl⟩:=Int.eq_ofNat_of_zero_le hp.1;obtain ⟨c,rfl⟩:=Int.eq_ofNat_of_zero_le hq.1;have hx:b ^^^ c<2 ^ 8:=Nat.xor_lt_two_pow (by omega) (by omega);rw [eJ b c (by omega) (by omega),(bits_nat .u8 8 (by decide) wraps_u8 a (b ^^^ c) (by omega) hx).2]
 constructor
 · intro h
   have h':a|||(b ^^^ c)=0:=by exact_mod_cast h
   have h2:=Nat.or_eq_zero_iff.1 h';have h3:b ^^^ (b ^^^ c)=c:=by rw [←Nat.xor_assoc,Nat.xor_self,Nat.zero_xor]
   rw [h2.2,Nat.xor_zero] at h3
   exact ⟨by omega,by omega⟩
 · rintro ⟨h1,h2⟩
   have:b=c:=by omega
   subst this;have:a=0:=by omega
   subst this;simp
def orx (z b:List Int):Nat→Int
 |0=>0
 |k+1=>bits .or .u8 (orx z b k) (bits .xor .u8 (z[k]?.getD 0) (b[k]?.getD 0))
theorem jo (z b:List Int) (k:Nat):0≤orx z b k∧orx z b k≤255:=by
 cases k with
 |zero=>exact ⟨by simp [orx],by simp [orx]⟩
 |succ k=>exact ⟨bits_lo_u8 _ _ _,bits_hi_u8 _ _ _⟩
theorem fX {z:List Int} (h:∀v∈z,0≤v∧v≤255) (k:Nat):0≤z[k]?.getD 0∧z[k]?.getD 0≤255:=by
 by_cases hk:k<z.length
 · rw [List.getElem?_eq_getElem hk];exact h _ (List.getElem_mem hk)
 · rw [List.getElem?_eq_none (by omega)];simp
theorem mh (z b:List Int) (hz:∀v∈z,0≤v∧v≤255) (hb:∀v∈b,0≤v∧v≤255) (k:Nat):orx z b k=0↔∀i,i<k→z[i]?.getD 0=b[i]?.getD 0:=by
 induction k with
 |zero=>simp [orx]
 |succ k ih=>
  simp only [orx];rw [lX _ _ _ (jo z b k) (fX hz k) (fX hb k),ih]
  constructor
  · rintro ⟨h1,h2⟩ i hi
    by_cases h:i=k
    · subst h;exact h2
    · exact h1 i (by omega)
  · intro h
    exact ⟨fun i hi=>h i (by omega),h k (by omega)⟩
theorem qk (z b:List Int) (hz:∀v∈z,0≤v∧v≤255) (hb:∀v∈b,0≤v∧v≤255) (hl:z.length=b.length):(orx z b z.length==0)=(z==b):=by
 rw [Bool.eq_iff_iff];simp only [beq_iff_eq];rw [mh z b hz hb]
 constructor
 · intro h
   apply List.ext_getElem hl;intro i h1 h2;have:=h i h1
   simpa [h1,h2] using this
 · rintro rfl i _;rfl
structure pJ (p:Prop):Prop where
 out:p
theorem uN {a b:Bool} (h:a=b):Ending.returned (.bool a)=.returned (.bool b):=by rw [h]
theorem mn (z b:List Int) (k:Nat) (p q:Int) (hp:z[k]?.getD 0=p) (hq:b[k]?.getD 0=q):orx z b (k+1)=bits .or .u8 (orx z b k) (bits .xor .u8 p q):=by subst hp hq;rfl
theorem equal_any (x:Option Addr) (len cap:Nat) (z:List Int) (y:Option Addr) (lb cb:Nat) (b:List Int) (w:World) (hx:Bytes w x len cap z) (hy:Bytes w y lb cb b) (hz:∀v∈z,0≤v∧v≤255) (hb:∀v∈b,0≤v∧v≤255):
    Calls Tryz.prog 58 #[.slice x len cap,.slice y lb cb] w fun e w'=>e=.returned (.bool (z==b))∧∃n,w'=w.drewN n:=by
 have hxl:=hx.len_eq;have hyl:=hy.len_eq;have hle:=hx.le;have htop:=hx.top
 by_cases hl:len=lb
 · have HE:pJ ((orx z b len==0)=(z==b)):=⟨by rw [hxl];exact qk z b hz hb (by omega)⟩
   subst hl;clear hz hb hxl hyl;go_enter Tryz.func58,Tryz.ntmps58;go_wp2
   go_loopw [5,14] (fun u i wr=>∃k:Nat,k≤len∧i=.int .i64 k∧u=.int .u8 (orx z b k)∧∃n,wr=w.drewN n) (fun _ i _=>len - (intOf i).toNat)
   case atStart=>exact ⟨0,by omega,rfl,rfl,0,rfl⟩
   case round=>
    obtain ⟨k,hk,rfl,rfl,n,rfl⟩:=hrel
    by_cases hlt:k<len
    · obtain ⟨b1,o1,hx1,hc1⟩:∃b off,x=some ⟨b,off,none⟩∧∀j,j<len→w.cell? ⟨b,off+j,none⟩=some (.int .u8 (z[j]?.getD 0)):=by
       rcases hx.at_ with h0|h
       · omega
       · exact h
      obtain ⟨b2,o2,hx2,hc2⟩:∃b' off,y=some ⟨b',off,none⟩∧∀j,j<len→w.cell? ⟨b',off+j,none⟩=some (.int .u8 (b[j]?.getD 0)):=by
       rcases hy.at_ with h0|h
       · omega
       · exact h
      subst hx1 hx2;have c1:=hc1 k hlt;have c2:=hc2 k hlt;obtain ⟨p,hp⟩:∃p,z[k]?.getD 0=p:=⟨_,rfl⟩
      obtain ⟨q,hq⟩:∃q,b[k]?.getD 0=q:=⟨_,rfl⟩
      have HS:pJ (orx z b (k+1)=bits .or .u8 (orx z b k) (bits .xor .u8 p q)):=⟨mn z b k p q hp hq⟩
      rw [hp] at c1
      rw [hq] at c2
      obtain ⟨U,hU⟩:∃q,orx z b k=q:=⟨_,rfl⟩
      rw [hU] at HS ⊢
      have hki:(0:Int)≤(k:Int):=by omega
      have hkl:(k:Int)<(len:Int):=by omega
      clear hc1 hc2 hp hq hU hx hy HE;go_wp2
      go_quiet ((fail))
      go_wp2;go_roundw
      case rel=>exact ⟨k+1,by omega,by go_num,by rw [HS.out],n+nq,by simp⟩
      case measure=>simp [intOf];omega
    · obtain rfl:k=len:=by omega
      go_wp2;go_ret;exact ⟨uN HE.out,n,rfl⟩
 · have hne:(z==b)=false:=by
    rw [beq_eq_false_iff_ne];intro h;exact hl (by rw [hxl,hyl,h])
   have hli:¬((len:Int)=(lb:Int)):=by omega
   rw [hne];clear hxl hyl;go_enter Tryz.func58,Tryz.ntmps58;go_wp2;go_ret;exact ⟨rfl,0,rfl⟩
theorem Bytes.fewM {w:World} {x:Option Addr} {len cap:Nat} {z:List Int} (h:Bytes w x len cap z) (n:Nat):Bytes w x (min len n) cap (z.take n):=by
 have hz:=h.len_eq;refine ⟨by rw [List.length_take];omega,by have:=h.le;omega,h.top,h.nil,?_⟩
 rcases h.at_ with h0|⟨b,off,hx,hc⟩
 · exact .inl (by omega)
 · exact .inr ⟨b,off,hx,fun j hj=>by rw [List.getElem?_take_of_lt (by omega)];exact hc j (by omega)⟩
theorem vI {w:World} {pb:Nat} {t:TypeId} (ps:List dr) (hbox:w.heap[pb]?=some (.cells (ps.map fun p=>Value.slice p.x p.len p.cap).toArray t (0,0))) (hb:∀p∈ps,Bytes w p.x p.len p.cap p.z):aQ w w.heap.size pb ps:=by
 intro w' hB j hj;have hlt:pb<w.heap.size:=(Array.getElem?_eq_some_iff.1 hbox).1;refine ⟨?_,(hb _ (List.getElem_mem hj)).below hB⟩;rw [hB.cell (p:=⟨pb,j,none⟩) hlt,cell_of_row w pb j _ t _ hbox];simp [hj]
def tK (k b:List Int):Nat→List Int
 |0=>[]
 |i+1=>tagL k (tK k b i++(b++ [((i+1:Nat):Int)]))
def outK (k b:List Int):Nat→List Int
 |0=>[]
 |i+1=>outK k b i++tK k b (i+1)
theorem iJ (k b:List Int) (i:Nat):(tK k b (i+1)).length=32:=tagL_length _ _
theorem vr (k b:List Int) (i:Nat):(tK k b i).length≤32:=by
 cases i with
 |zero=>simp [tK]
 |succ i=>rw [iJ];omega
theorem dI (k b:List Int) (j:Nat):(outK k b j).length=32*j:=by
 induction j with
 |zero=>rfl
 |succ j ih=>simp only [outK,List.length_append,ih,iJ];omega
def expL (k b:List Int) (n:Nat):List Int:=(outK k b ((n+31) / 32)).take n
theorem expL_length (k b:List Int) (n:Nat):(expL k b n).length=n:=by
 unfold expL;rw [List.length_take,dI];omega
theorem uZ (k b:List Int) (j n:Nat):(outK k b j).take n++(tK k b (j+1)).take (n - 32*j)=(outK k b (j+1)).take n:=by
 simp only [outK];rw [List.take_append,dI]
theorem aq.mono {w:World} {base base':Nat} {v:Value} {z:List Int} (h:aq w base v z) (hb:base'≤base):aq w base' v z:=by
 refine ⟨h.1,?_⟩
 rcases h.2 with h'|⟨g,cap,cur,h1,h2,h3⟩
 · exact .inl h'
 · exact .inr ⟨g,cap,cur,h1,by omega,h3⟩
def nT (w:World) (v:Value) (t:List Int):Prop:=(v=.slice none 0 0∧t=[])∨∃tb,v=.slice (some ⟨tb,0,none⟩) 32 32∧aa w tb .u8 23 t∧t.length=32
theorem nT.bytes {w:World} {v:Value} {t:List Int} (h:nT w v t):∃x n c,v=.slice x n c∧Bytes w x n c t∧n≤32:=by
 rcases h with ⟨rfl,rfl⟩|⟨tb,rfl,h1,h2⟩
 · exact ⟨_,_,_,rfl,cY w,by omega⟩
 · exact ⟨_,_,_,rfl,h1.bytes h2.symm (by omega),by omega⟩
theorem l9 {w w':World} (hg:w.grownBy w' none):Below w.heap.size w w':=
 (Below.refl w.heap.size w).grown hg (Nat.le_refl _) (fun _ hk=>by cases hk)
theorem expand_any (k:List Int) (y:Option Addr) (lb cb:Nat) (b:List Int) (n:Nat) (w:World) (hk:k.length=32) (hy:Bytes w y lb cb b) (hlb:lb≤100000) (hn:n≤8160) (hKT:KTab w):
    Calls Tryz.prog 110 #[.agg (row .u8 k),.slice y lb cb,.int .i64 n] w fun e w'=>∃v,e=.returned (.tuple #[v,.int .i64 0])∧aq w' w.heap.size v (expL k b n)∧Below w.heap.size w w':=by
 obtain ⟨i0,hi0,hz0,hz1,hz2⟩:=info_parts dp;have hni:¬((n:Int)<0):=by omega
 have hnj:¬((8160:Int)<(n:Int)):=by omega
 go_enter Tryz.func110,Tryz.ntmps110;go_upto_region 1 with fail
 refine af (p:=fun y=>Code.wp _ _ _ _ y) (fun W0=>Below w.heap.size w W0∧W0.heap.size=w.heap.size+1∧aa W0 w.heap.size .u8 23 k) ⟨(Below.refl _ _).alloc (Nat.le_refl _) _,by simp,aa.new w .u8 23 k⟩ ?_;rintro W0 ⟨hB0,hs0,hk0⟩;have hB0':=hB0.size
 go_wp2_with (at_make;refine wpList_make_own _ rfl _ _ 41 rfl (w.heap.size+1) 5 i0 (.int .u8 0) 1 Tryz.underlying41 hi0 hz0 hz1 .i64 .i64 _ n rfl rfl rfl (by rw [hz2];omega) (by simp [maxLen];omega) (by omega) ?_;intro w1 ho1 hg1)
 have hB1:Below (w.heap.size+1) W0 w1:=by rw [←hs0];exact l9 hg1
 have ho1':aq w1 (w.heap.size+1) (.slice (some ⟨w.heap.size+1,0,none⟩) 0 n) []:=by rw [hs0] at ho1;exact aq.cast ho1 rfl rfl
 clear ho1 hg1
 go_loopw [8,9,10] (fun v l i wr=>∃j:Nat,32*j<n+32∧i=.int .i64 ((j+1:Nat):Int)∧aq wr (w.heap.size+1) v ((outK k b j).take n)∧nT wr l (tK k b j)∧Below (w.heap.size+1) W0 wr) (fun v _ _ _=>n - lenOf v)
 case atStart=>exact ⟨0,by omega,rfl,by simpa [outK] using ho1',.inl ⟨rfl,rfl⟩,hB1⟩
 case round=>
  clear ho1' hB1;obtain ⟨j,hj,rfl,ho,hl,hB⟩:=hrel;obtain ⟨xv,nv,cv,hv,hnv⟩:=ho.isSlice;rw [List.length_take,dI] at hnv
  obtain ⟨lx,ll,lc,hlv,hlb2,hll⟩:=hl.bytes;have hBw:Below w.heap.size w wr:=hB0.trans (hB.mono (by omega))
  by_cases hlt:32*j<n
  · subst hv hlv
    have HNV:dl (nv=32*j):=⟨by omega⟩
    have hnvi:(nv:Int)<(n:Int):=by omega
    have hjj:(j:Int)+1≤255:=by omega
    have hk1:=hk0.below hB (by omega);have hyr:=hy.below hBw;have hcast:(((j+1:Nat):Int))=(j:Int)+1:=by omega
    obtain ⟨C,hC⟩:∃C:Int,(j:Int)+1=C:=⟨_,rfl⟩
    have hps:aQ ((wr.alloc (.cells #[.int .u8 C] 5)).alloc (.cells #[.slice lx ll lc,.slice y lb cb,.slice (some ⟨wr.heap.size,0,none⟩) 1 1] 41)) ((wr.alloc (.cells #[.int .u8 C] 5)).alloc (.cells #[.slice lx ll lc,.slice y lb cb,.slice (some ⟨wr.heap.size,0,none⟩) 1 1] 41)).heap.size (wr.heap.size+1) [⟨lx,ll,lc,tK k b j⟩,⟨y,lb,cb,b⟩,⟨some ⟨wr.heap.size,0,none⟩,1,1,[C]⟩]:=by
     have hb3:Below wr.heap.size wr ((wr.alloc (.cells #[.int .u8 C] 5)).alloc (.cells #[.slice lx ll lc,.slice y lb cb,.slice (some ⟨wr.heap.size,0,none⟩) 1 1] 41)):=((Below.refl _ _).alloc (Nat.le_refl _) _).alloc (by simp) _;refine vI (t:=41) _ ?_ ?_
     · have:=heap_alloc_new (wr.alloc (.cells #[.int .u8 C] 5)) (.cells #[.slice lx ll lc,.slice y lb cb,.slice (some ⟨wr.heap.size,0,none⟩) 1 1] 41)
       rw [World.size_alloc] at this
       exact this
     · intro p hp
       simp only [List.mem_cons,List.not_mem_nil,or_false] at hp
       rcases hp with rfl|rfl|rfl
       · exact hlb2.below hb3
       · exact hyr.below hb3
       · exact ((aa.new wr .u8 5 [C]).alloc _).bytes rfl (by simp)
    have hTl:=iJ k b j;have hkb:Bytes ((wr.alloc (.cells #[.int .u8 C] 5)).alloc (.cells #[.slice lx ll lc,.slice y lb cb,.slice (some ⟨wr.heap.size,0,none⟩) 1 1] 41)) (some ⟨w.heap.size,0,none⟩) 32 32 k:=((hk1.alloc _).alloc _).bytes hk.symm (by omega);have htg:=lj (some ⟨w.heap.size,0,none⟩) 32 32 k (wr.heap.size+1) 3 3 _ _ hkb (by omega) hps rfl (by omega) (fun q hq=>by
        have h1:=vr k b j;have h2:=hy.len_eq
        match q with
        |0=>simp [aZ]
        |1=>simp [aZ];omega
        |2=>simp [aZ];omega
        |q+3=>simp [aZ];omega) (fun p hp=>by
        simp only [List.mem_cons,List.not_mem_nil,or_false] at hp
        rcases hp with rfl|rfl|rfl
        · show ll≤1000000;omega
        · show lb≤1000000;omega
        · show 1≤1000000;omega) (hKT.below (hBw.trans ((((Below.refl _ _).alloc (Nat.le_refl _) _).alloc (by simp) _).mono hBw.size)))
    have eT:tagL k (aZ [⟨lx,ll,lc,tK k b j⟩,⟨y,lb,cb,b⟩,⟨some ⟨wr.heap.size,0,none⟩,1,1,[C]⟩])=tK k b (j+1):=by
     simp only [tK,aZ,List.flatMap_cons,List.flatMap_nil,List.append_nil];rw [hcast,hC]
    rw [eT] at htg
    have HST:dl ((outK k b j).take n++(tK k b (j+1)).take (n - nv)=(outK k b (j+1)).take n):=⟨by rw [HNV.out];exact uZ k b j n⟩
    have HLA:dl (nT wr (.slice lx ll lc) (tK k b j)):=⟨hl⟩
    obtain ⟨T,hT⟩:∃T,tK k b (j+1)=T:=⟨_,rfl⟩
    rw [hT] at htg hTl HST
    have HT:dl (tK k b (j+1)=T):=⟨hT⟩
    obtain ⟨Z,hZ⟩:∃Z,(outK k b j).take n=Z:=⟨_,rfl⟩
    rw [hZ] at ho HST
    have hZl:Z.length=nv:=by rw [←hZ,List.length_take,dI];have:=HNV.out;omega
    rw [hcast,hC];have HC:dl ((j:Int)+1=C):=⟨hC⟩
    have hC0:0≤C:=by omega
    have hC1:C≤255:=by omega
    have hC2:C % 256=C:=by omega
    clear hps hkb eT hT hZ hl hlb2 hyr hcast hC hnv hjj;go_upto_region 9 with (first
     |(go_at_call 124;refine htg.mono ?_;rintro e w2 ⟨rfl,hb2⟩;have hN2:=aa.new w2 .u8 23 (List.replicate 32 0))
     |(refine ah rfl 23 _ _ rfl _ rfl rfl hN2 (by rw [hTl];exact aI) (by simp [hTl]) ?_))
    have hs2:=hb2.size;rw [World.size_alloc,World.size_alloc] at hs2
    have hB3:Below wr.heap.size wr ((wr.alloc (.cells #[.int .u8 C] 5)).alloc (.cells #[.slice lx ll lc,.slice y lb cb,.slice (some ⟨wr.heap.size,0,none⟩) 1 1] 41)):=((Below.refl _ _).alloc (Nat.le_refl _) _).alloc (by simp) _;have hB2:Below wr.heap.size wr w2:=hB3.trans (hb2.mono (by simp;omega));have hsr:=hB.size;have hsw:w.heap.size+1≤wr.heap.size:=by omega
    refine af (p:=fun y=>Code.wp _ _ _ _ y) (fun W3=>Below (w.heap.size+1) W0 W3∧aq W3 (w.heap.size+1) (.slice xv nv cv) Z∧aa W3 w2.heap.size .u8 23 T) ⟨below_setRow ((hB.trans (hB2.mono hsw)).alloc (by omega) _) (by omega) _,?_,hN2.setRow _⟩ ?_
    · refine ((ho.belowM hB2).alloc (.cells (row .u8 (List.replicate 32 0)) 23)).keepM (fun g h1 h2=>?_)
      by_cases hgg:g=w2.heap.size
      · exact .inr (by rw [hgg];exact ⟨_,_,_,hN2,by decide⟩)
      · exact .inl (setRow_other _ _ _ _ hgg)
    clear hN2 hb2 hB3 hB2 htg hk1 ho;rintro W3 ⟨hB3,ho3,hT3⟩;obtain ⟨tb,htb⟩:∃q,w2.heap.size=q:=⟨_,rfl⟩
    rw [htb] at hT3 hs2 ⊢
    clear htb hs2;simp only [Act.put];have hlen3:=hB3.size
    by_cases h32:32≤n - nv
    · have hm1:(32:Int)≤(n:Int) - (nv:Int):=by omega
      have hy3:=hT3.bytes (n:=32) hTl.symm (by omega);have HS2:dl (Z++T=(outK k b (j+1)).take n):=⟨by rw [←HST.out,List.take_of_length_le (l:=T) (by omega)]⟩
      go_wp2_with (at_builtin;refine aF rfl _ _ rfl (w.heap.size+1) _ Z rfl ho3 _ 32 32 T rfl hy3 (by omega) (by omega) ?_;intro v4 w4 ho4 hg4)
      refine ⟨⟨j+1,by omega,?_,by rw [←HS2.out];exact ho4,.inr ⟨tb,rfl,by rw [HT.out];exact ku hT3 ho3 hg4 (by decide),by rw [HT.out];exact hTl⟩,below_grown hB3 ho3 hg4 (by omega)⟩,?_⟩
      · rw [←HC.out];go_num
      · obtain ⟨x4,n4,c4,rfl,hn4⟩:=ho4.isSlice
        rw [List.length_append] at hn4
        simp only [lenOf];omega
    · obtain ⟨m,hm⟩:∃m,n - nv=m:=⟨_,rfl⟩
      have hmi:(n:Int) - (nv:Int)=(m:Int):=by omega
      have hm1:(m:Int)<32:=by omega
      have hm0:0<m:=by omega
      have hy3:Bytes W3 (some ⟨tb,0,none⟩) m 32 (T.take m):=by
       have:=(hT3.bytes (n:=32) hTl.symm (by omega)).fewM m;rw [Nat.min_eq_right (by omega)] at this
       exact this
      have hTm:(T.take m).length=m:=by rw [List.length_take];omega
      rw [hm] at HST
      clear hm h32
      go_wp2_with (at_builtin;refine aF rfl _ _ rfl (w.heap.size+1) _ Z rfl ho3 _ m 32 (T.take m) rfl hy3 (by omega) (by omega) ?_;intro v4 w4 ho4 hg4)
      refine ⟨⟨j+1,by omega,?_,by rw [←HST.out];exact ho4,.inr ⟨tb,rfl,by rw [HT.out];exact ku hT3 ho3 hg4 (by decide),by rw [HT.out];exact hTl⟩,below_grown hB3 ho3 hg4 (by omega)⟩,?_⟩
      · rw [←HC.out];go_num
      · obtain ⟨x4,n4,c4,rfl,hn4⟩:=ho4.isSlice
        rw [List.length_append] at hn4
        simp only [lenOf];omega
  · subst hv hlv
    have hnn:nv=n:=by omega
    subst hnn;have hje:j=(nv+31) / 32:=by omega
    have HE:dl ((outK k b j).take nv=expL k b nv):=⟨by unfold expL;rw [←hje]⟩
    have HJ:dl (j=(nv+31) / 32):=⟨hje⟩
    clear hje hnv hl hlb2;go_wp2
    go_ret2
    refine ⟨_,rfl,?_,hBw⟩;rw [←HE.out];exact ho.mono (by omega)
end Go.Proofs.YtbdhfbglagdiaaaGreatDoor.S
