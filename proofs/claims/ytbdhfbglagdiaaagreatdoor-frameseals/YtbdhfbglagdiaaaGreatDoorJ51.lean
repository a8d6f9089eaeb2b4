/- Kr7 Kr8 Kr9 Kb0 Ft5 Ft6 FrameSealsW -/
import Derived.Test.YtbdhfbglagdiaaaGreatDoorJ38
import Derived.Test.YtbdhfbglagdiaaaGreatDoorJ44
import Derived.Test.YtbdhfbglagdiaaaGreatDoorJ24
import Derived.Test.YtbdhfbglagdiaaaGreatDoorJ49
import Derived.Test.YtbdhfbglagdiaaaGreatDoorJ48
import Derived.Test.YtbdhfbglagdiaaaGreatDoorJ50
import Derived.Test.YtbdhfbglagdiaaaGreatDoorJ26
import Derived.Test.YtbdhfbglagdiaaaGreatDoorJ22
namespace Go.Proofs.YtbdhfbglagdiaaaGreatDoor
open Go.RowKit
set_option maxRecDepth 20000
set_option linter.unusedSimpArgs false
section
variable (base O:Nat) (own:Int) (seed:List Int) (v:Value) (L:List Ep) (w:World)
end
section
variable (base O:Nat) (own:Int) (seed:List Int) (v:Value) (L:List Ep) (w:World)
end
section
variable (base O:Nat) (own:Int) (seed:List Int) (v:Value) (L:List Ep) (w:World)
end
structure kv (M:Int→Int→Option (List Int)) (D:List (Int×Int)) (L:List Ep):Prop where
 key:∀a s,M a s=keyE L a s
 dots:D=L.map (·.1)
 bytes:∀e∈L,∀x∈e.2,isB x
theorem kg (a s:Int) (k:List Int) (a' s':Int):∀L:List Ep,keyE (L++ [((a,s),k)]) a' s'=match keyE L a' s' with|some q=>some q|none=>if a=a'∧s=s' then some k else none
 |[]=>rfl
 |e::L=>by
  have ih:=kg a s k a' s' L;have e1:keyE (e::L++ [((a,s),k)]) a' s'=if e.1.1=a'∧e.1.2=s' then some e.2 else keyE (L++ [((a,s),k)]) a' s':=rfl
  have e2:keyE (e::L) a' s'=if e.1.1=a'∧e.1.2=s' then some e.2 else keyE L a' s':=rfl
  rw [e1,e2]
  by_cases h:e.1.1=a'∧e.1.2=s'
  · rw [if_pos h,if_pos h]
  · rw [if_neg h,if_neg h]
    exact ih
theorem kv.len {M:Int→Int→Option (List Int)} {D:List (Int×Int)} {L:List Ep} (h:kv M D L):D.length=L.length:=by rw [h.dots,List.length_map]
theorem kv.put {M:Int→Int→Option (List Int)} {D:List (Int×Int)} {L:List Ep} (h:kv M D L) (a s:Int) (k:List Int) (hm:keyE L a s=none) (hk:∀x∈k,isB x):kv (gT M a s k) (D++ [(a,s)]) (L++ [((a,s),k)]):=by
 refine ⟨fun a' s'=>?_,by rw [h.dots];simp,fun e he x hx=>?_⟩
 · rw [kg]
   unfold gT
   by_cases hc:a'=a∧s'=s
   · obtain ⟨rfl,rfl⟩:=hc
     simp [hm]
   · rw [if_neg hc,h.key]
     cases hq:keyE L a' s' with
     |some q=>rfl
     |none=>
      show none=if a=a'∧s=s' then some k else none
      rw [if_neg (fun e=>hc ⟨e.1.symm,e.2.symm⟩)]
 · rcases List.mem_append.1 he with h'|h'
   · exact h.bytes e h' x hx
   · rw [List.mem_singleton.1 h'] at hx;exact hk x hx
theorem kv.new (own:Int) (seed:List Int):kv (eh own seed) (iC own) (dP own seed):=by
 unfold eh iC dP
 by_cases h:own=0
 · rw [if_pos h,if_pos h,if_pos h]
   refine ⟨fun a s=>?_,rfl,fun e he x hx=>?_⟩
   · unfold gT keyE keyE
     by_cases hc:a=0∧s=0
     · rw [if_pos hc,if_pos ⟨hc.1.symm,hc.2.symm⟩]
     · rw [if_neg hc,if_neg (fun e=>hc ⟨e.1.symm,e.2.symm⟩)]
   · rw [List.mem_singleton.1 he] at hx
     exact wT _ _ x hx
 · rw [if_neg h,if_neg h,if_neg h]
   exact ⟨fun _ _=>rfl,rfl,fun e he=>by cases he⟩
structure yH (w:World) (base H O:Nat) (own:Int) (seed:List Int) (b:Nat) (M:Int→Int→Option (List Int)) (v:Value) (D:List (Int×Int)) (u:Value) (L:List Ep):Prop where
 ring:aB w base H own seed b M v D
 ref:bw w base O own seed u L
 link:kv M D L
 apart:∀g,dC H b v g→¬rrB O u g
section
variable (base H:Nat) (own:Int) (seed:List Int) (b:Nat) (M:Int→Int→Option (List Int)) (v:Value) (D:List (Int×Int)) (L:List Ep) (w:World)
end
theorem uJ (own:Int) (seed:List Int) (a s:Int):keyE (dP own seed) a s=eh own seed a s:=by
 unfold dP eh
 by_cases h:own=0
 · rw [if_pos h,if_pos h]
   unfold gT keyE keyE
   by_cases q:(0:Int)=a∧(0:Int)=s
   · rw [if_pos q,if_pos ⟨q.1.symm,q.2.symm⟩]
   · rw [if_neg q,if_neg (fun p=>q ⟨p.1.symm,p.2.symm⟩)]
 · rw [if_neg h,if_neg h];rfl
theorem tZ (own:Int) (seed:List Int) (ea es:Int):keyE (jC own seed ea es) ea es=fi own seed ea es ea es:=by
 unfold jC fi;have hn:=uJ own seed ea es
 by_cases h2:es % 2=0
 · rw [if_pos h2]
   cases hm:eh own seed ea es with
   |none=>
    rw [hm] at hn
    have hl:¬16≤(dP own seed).length:=by unfold dP;split<;>simp
    rw [if_pos ⟨h2,rfl⟩];unfold mC;rw [if_neg (by rw [hn];simp;omega),kg,hn];unfold gT;simp
   |some k=>
    rw [hm] at hn
    rw [if_neg (fun q=>by have:=q.2;cases this)];unfold mC;rw [if_pos (Or.inl (by rw [hn];rfl)),hn,hm]
 · rw [if_neg h2,if_neg (fun q=>h2 q.1),hn]
theorem qE (base O:Nat) (own:Int) (seed:List Int) (vo:Value) (LE:List Ep) (W:World) (q:Aq) (xw:Option Addr) (lw cw:Nat) (ws:List Wp) (pv:List Int) (m:Option (List Int)) (hm:keyE LE q.ea q.es=m) (hpv:pv.length=32) (hpi:∀x∈pv,0≤x∧x≤255) (hq:AqIn W q xw lw cw ws) (hR:bw W base O own seed vo LE) (hown:0≤own∧own≤255):
    Calls Tryz.prog 8 #[.pointer (some ⟨O,0,none⟩),.int .u32 q.num,.agg (pv.map (Value.int .u8)).toArray,.agg (dotC q.ea q.es).toArray,.slice xw lw cw,.agg q.E.cells.toArray] W fun e w'=>∃F:Fr,e=.returned (.tuple #[.agg F.cells.toArray,.int .i64 (ba q.num lw q.E own m)])∧F.cells.length=70∧(∀v∈F.cells,v.oneCell'=true)∧gg w' (ba q.num lw q.E own m) own seed m q.num ws q.E q.ea q.es pv F∧Below W.heap.size W w':=by
 subst hm;refine (qG base O own seed vo LE W q.num xw lw cw ws q.ea q.es pv q.E hR hq.hw hq.inW hpv hpi hq.num hq.E ⟨hq.ea,hq.es⟩ hown).mono ?_;rintro e w' ⟨hs|hs,hb'⟩
 · exact ⟨dM,hs.2,rfl,by decide,⟨none,0,0,[],none,0,0,[],⟨rfl,rfl,rfl,rfl,jk w',cY w'⟩,.inr ⟨hs.1,rfl,rfl,rfl⟩⟩,hb'⟩
 · obtain ⟨h0,F,k,hk,he,hf,fa,fn,fea,fes,fp,fm⟩:=hs
   obtain ⟨yw,dw,yb,db,hqq⟩:=hf.at_;have hq0:=hqq w' (fun _ _ _=>rfl);rw [h0];exact ⟨F,he,(aH F hq0.prev hq0.mac).1,si F hq0.wraps hq0.body_,⟨yw,lw,dw,ws,yb,144,db,_,hq0,.inl ⟨rfl,k,hk,rfl,fa,fn,fea,fes,fp,rfl,fm⟩⟩,hb'⟩
set_option maxHeartbeats 16000000
theorem frameSeals_walk (q0:Aq) (xw:Option Addr) (lw0 cw:Nat) (ws0:List Wp) (w:World) (hq0:AqIn w q0 xw lw0 cw ws0) (hKT:S.KTab w) (hBT:BTab w):
    Calls Tryz.prog 3 #[.agg q0.cells.toArray] w fun e w'=>e=.returned (.bool true)∧Below w.heap.size w w':=by
 have hA:=CellsAt.new w 35 q0.cells;have hb0:Below w.heap.size w (w.alloc (.cells q0.cells.toArray 35)):=(Below.refl _ _).alloc (Nat.le_refl _) _;have HFW:ac (∀W,Below w.heap.size w W→Calls Tryz.prog 5 #[.agg q0.cells.toArray] W fun e w'=>∃(q:Aq) (lw:Nat) (ws:List Wp),e=.returned (.agg q.cells.toArray)∧AqIn w q xw lw cw ws∧q.cells.length=86∧(∀v∈q.cells,v.oneCell'=true)∧Below W.heap.size W w'):=⟨fun W hb=>by
  refine (vY q0 xw lw0 cw ws0 W (hq0.below hb)).mono ?_;rintro e w' ⟨q,lw,ws,he,hq,-,hb'⟩;have hq:=hq w hq0;exact ⟨q,lw,ws,he,hq,(aq_parts q hq.seed hq.prev hq.E.plen).1,vy q hq.wraps,hb'⟩⟩
 have h86:=(aq_parts q0 hq0.seed hq0.prev hq0.E.plen).1;have iA0:(Tryz.prog.info? 35).map (·.size)=some q0.cells.length:=by rw [h86];exact qJ
 have HKT:ac (∀W,Below w.heap.size w W→S.KTab W∧BTab W):=⟨fun W hb=>⟨hKT.below hb,hBT.below hb⟩⟩
 have HLV:ac (∀W,Below w.heap.size w W→Calls Tryz.prog 9 #[] W fun e w'=>e=.returned (.bool true)∧Below W.heap.size W w'):=⟨fun W hb=>tP W (hKT.below hb) (hBT.below hb)⟩
 have uA:=Tryz.underlying35;have uF:=Tryz.underlying43;have uE:=Tryz.underlying33;have uK:=Tryz.underlying23;have uD:=Tryz.underlying26;clear hq0 hKT hBT;generalize q0.cells=QC at hA hb0 HFW h86 iA0 ⊢
 go_enter Tryz.func3,Tryz.ntmps3;go_upto_region 1 with fail
 refine af (p:=fun y=>Code.wp _ _ _ _ y) (fun W=>Below w.heap.size w W∧CellsAt W w.heap.size 35 QC) ⟨hb0,hA⟩ ?_;clear hb0 hA;rintro W ⟨hb,hA⟩;have rA:=hA.wholeM;have hfw:=HFW.out W hb;go_upto_region 2 with (first
  |(refine ae rfl 35 _ rfl _ _ rfl QC rA uA rfl iA0 ?_)
  |(go_at_call 5;refine hfw.mono ?_;rintro e w1 ⟨q,lw,ws,rfl,hq,q86,q1,hb1⟩;have hA1:=hA.farM hb1;have iA:(Tryz.prog.info? 35).map (·.size)=some q.cells.length:=(by rw [q86];exact qJ);clear hfw)
  |(refine aw rfl 35 _ _ rfl _ rfl rfl hA1 iA (by rw [h86,q86]) q1 ?_))
 have hB1:=hb.trans (hb1.mono hb.size);refine af (p:=fun y=>Code.wp _ _ _ _ y) (fun V=>Below w.heap.size w V∧CellsAt V w.heap.size 35 q.cells) ⟨below_setRow hB1 (Nat.le_refl _) _,hA1.setRow _⟩ ?_;clear hB1 hA1 hb1 iA q1 q86 rA hA hb iA0 h86 HFW;clear w1 W;obtain ⟨_,q0',q1,q33,q34,q66,q68,q69⟩:=aq_parts q hq.seed hq.prev hq.E.plen;rw [hq.wraps] at q68
 obtain ⟨m,hm,hm5⟩:∃m:Nat,q.own=(m:Int)∧m≤255:=⟨q.own.toNat,by have:=hq.own.1;omega,by have:=hq.own.1;have:=hq.own.2;omega⟩
 rw [hm] at q0'
 have HQ:ac (∀W,CellsAt W w.heap.size 35 q.cells→W.cell? ⟨w.heap.size,0,none⟩=some (.int .u8 (m:Int))∧W.rangeAt w.heap.size 1 (q.seed.map (Value.int .u8))∧W.cell? ⟨w.heap.size,33,none⟩=some (.int .u32 q.num)∧W.rangeAt w.heap.size 34 (q.prev.map (Value.int .u8))∧W.rangeAt w.heap.size 66 (dotC q.ea q.es)∧W.cell? ⟨w.heap.size,68,none⟩=some (.slice xw lw cw)∧W.rangeAt w.heap.size 69 q.E.cells):=⟨fun W h=>by
  refine ⟨(h.cell 0).trans q0',?_,(h.cell 33).trans q33,?_,?_,(h.cell 68).trans q68,?_⟩
  · have:=h.range 1 32;rw [q1] at this;exact this
  · have:=h.range 34 32;rw [q34] at this;exact this
  · have:=h.range 66 2;rw [q66] at this;exact this
  · have:=h.range 69 17;rw [q69] at this;exact this⟩
 have HRG:ac (∀W,Below w.heap.size w W→Calls Tryz.prog 6 #[.int .u8 (m:Int),.agg (q.seed.map (Value.int .u8)).toArray,.agg (dotC q.ea q.es).toArray] W fun e w'=>∃H O b v L vo,e=.returned (.tuple #[.pointer (some ⟨H,0,none⟩),.pointer (some ⟨O,0,none⟩)])∧sG W w' H O ((m % 8:Nat):Int) q.seed q.ea q.es b v L vo):=⟨fun W hb=>tR m hm5 q.seed hq.seed q.ea q.es ⟨hq.ea,hq.es⟩ W (HKT.out W hb).1⟩
 obtain ⟨NN,hNN⟩:∃x,ba q.num lw q.E ((m % 8:Nat):Int) (fi ((m % 8:Nat):Int) q.seed q.ea q.es q.ea q.es)=x:=⟨_,rfl⟩
 obtain ⟨AG,hAG⟩:∃A:World→List Int→Fr→Prop,A=fun w' pv F=>gg w' NN ((m % 8:Nat):Int) q.seed (fi ((m % 8:Nat):Int) q.seed q.ea q.es q.ea q.es) q.num ws q.E q.ea q.es pv F:=⟨_,rfl⟩
 have HSL:ac (∀W base H b v L pv,Below w.heap.size w W→aB W base H ((m % 8:Nat):Int) q.seed b (fi ((m % 8:Nat):Int) q.seed q.ea q.es) v L→pv.length=32→Calls Tryz.prog 7 #[.pointer (some ⟨H,0,none⟩),.int .u32 q.num,.agg (pv.map (Value.int .u8)).toArray,.agg (dotC q.ea q.es).toArray,.slice xw lw cw,.agg q.E.cells.toArray] W fun e w'=>∃F:Fr,e=.returned (.tuple #[.agg F.cells.toArray,.int .i64 NN])∧F.cells.length=70∧(∀v∈F.cells,v.oneCell'=true)∧AG w' pv F∧Below W.heap.size W w'):=⟨fun W base H b v L pv hb hR hp=>by
  have:=uh base H _ _ b _ v L W q xw lw cw ws pv hp (hq.below hb) hR (HKT.out W hb).1 (HKT.out W hb).2 (by omega);rw [hNN] at this
  rw [hAG];exact this⟩
 have HAF:ac (∀V V' pv F,AG V pv F→Below V.heap.size V V'→AG V' pv F):=⟨fun V V' pv F h hb=>by rw [hAG] at h ⊢;exact gg.below h hb⟩
 have HSM:ac (∀V pv pw F G,AG V pv F→AG V pw G→(NN=0∨pv=pw)→Calls Tryz.prog 10 #[.agg F.cells.toArray,.agg G.cells.toArray] V fun e w'=>e=.returned (.bool (pv==pw))∧Below V.heap.size V w'):=⟨fun V pv pw F G h1 h2 h=>by rw [hAG] at h1 h2;exact vO h1 h2 h⟩
 have HSR:ac (∀W base O vo,Below w.heap.size w W→bw W base O ((m % 8:Nat):Int) q.seed vo (jC ((m % 8:Nat):Int) q.seed q.ea q.es)→Calls Tryz.prog 8 #[.pointer (some ⟨O,0,none⟩),.int .u32 q.num,.agg (q.prev.map (Value.int .u8)).toArray,.agg (dotC q.ea q.es).toArray,.slice xw lw cw,.agg q.E.cells.toArray] W fun e w'=>∃F:Fr,e=.returned (.tuple #[.agg F.cells.toArray,.int .i64 NN])∧F.cells.length=70∧(∀v∈F.cells,v.oneCell'=true)∧AG w' q.prev F∧Below W.heap.size W w'):=⟨fun W base O vo hb hR=>by
  have:=qE base O _ _ vo _ W q xw lw cw ws q.prev _ (tZ ((m % 8:Nat):Int) q.seed q.ea q.es) hq.prev hq.prevI (hq.below hb) hR (by omega);rw [hNN] at this
  rw [hAG];exact this⟩
 obtain ⟨pr,hpr⟩:∃x,q.prev=x:=⟨_,rfl⟩
 have HPR:ac (pr.length=32):=⟨by rw [←hpr];exact hq.prev⟩
 have iS:(Tryz.prog.info? 23).map (·.size)=some (q.seed.map (Value.int .u8)).length:=by rw [List.length_map,hq.seed];exact ap
 have iP:(Tryz.prog.info? 23).map (·.size)=some (q.prev.map (Value.int .u8)).length:=by rw [List.length_map,hq.prev];exact ap
 have iD:(Tryz.prog.info? 26).map (·.size)=some (dotC q.ea q.es).length:=sizeDot;have iE:=cZ q.E hq.E.plen;obtain ⟨M,hM⟩:∃M,fi ((m % 8:Nat):Int) q.seed q.ea q.es=M:=⟨_,rfl⟩
 obtain ⟨LE,hLE⟩:∃x,jC ((m % 8:Nat):Int) q.seed q.ea q.es=x:=⟨_,rfl⟩
 have HRG2:ac (∀W w' H O b v L vo,sG W w' H O ((m % 8:Nat):Int) q.seed q.ea q.es b v L vo→aB w' W.heap.size H ((m % 8:Nat):Int) q.seed b M v L∧bw w' W.heap.size O ((m % 8:Nat):Int) q.seed vo LE∧Below W.heap.size W w'):=⟨fun W w' H O b v L vo h=>⟨by rw [←hM];exact h.ring,by rw [←hLE];exact h.rring,h.below⟩⟩
 rw [hM] at HSL
 rw [hLE] at HSR
 rw [hpr] at HQ iP HSR
 obtain ⟨PV,hPV⟩:∃x,pr.map (Value.int .u8)=x:=⟨_,rfl⟩
 rw [hPV] at HQ iP HSR
 have HPV:=ac.mk hPV;clear hPV hpr hNN hAG hM hLE hq hm q0' q1 q33 q34 q66 q68 q69;generalize q.num=QN at HQ HSL HSR
 generalize hSD:q.seed=SD at HQ HSL HSR HRG HRG2 iS
 generalize SD.map (Value.int .u8)=SV at HQ HRG iS
 generalize hea:q.ea=EA at HQ HSL HSR HRG HRG2 iD
 generalize hes:q.es=ES at HQ HSL HSR HRG HRG2 iD
 generalize q.E.cells=EV at HQ HSL HSR iE
 generalize q.cells=QC2 at HQ ⊢
 clear hSD hea hes;rintro W ⟨hb,hA⟩;obtain ⟨c0,r1,-,-,r66,-,-⟩:=HQ.out W hA;have hrg:=HRG.out W hb;go_upto_region 3 with (first
  |(refine ae rfl 23 _ rfl _ _ rfl SV r1 uK rfl iS ?_)
  |(refine ae rfl 26 _ rfl _ _ rfl (dotC EA ES) r66 uD rfl iD ?_)
  |(go_at_call 6;refine hrg.mono ?_;rintro e w1 ⟨H,O,b,v,L,vo,rfl,hR1⟩;clear hrg))
 obtain ⟨hRr,hRo,hb1⟩:=HRG2.out _ _ _ _ _ _ _ _ hR1;refine af (p:=fun y=>Code.wp _ _ _ _ y) (fun V=>Below w.heap.size w V∧CellsAt V w.heap.size 35 QC2∧aB V W.heap.size H ((m % 8:Nat):Int) SD b M v L∧bw V W.heap.size O ((m % 8:Nat):Int) SD vo LE) ⟨hb.trans (hb1.mono hb.size),hA.farM hb1,hRr,hRo⟩ ?_;clear hRr hRo hb1 hR1 HRG HRG2 c0 r1 r66 hA hb iS;obtain ⟨BS,hBS⟩:∃q,W.heap.size=q:=⟨_,rfl⟩
 rw [hBS];clear hBS;clear w1 W;rintro W ⟨hb,hA,hR,hRo⟩;obtain ⟨Z,hzv,hz1,hZ⟩:∃Z:List Value,(∀wx,(zeroValue 43).run Tryz.prog wx=.ok (.agg Z.toArray) wx)∧¬Z.toArray= #[]∧Z.length=70:=⟨dM.cells,fun wx=>by kernel_rfl,by decide,rfl⟩
 obtain ⟨DV,hDV⟩:∃x,dotC EA ES=x:=⟨_,rfl⟩
 rw [hDV] at HQ HSL HSR iD
 clear hDV;have HSP:ac (∀W b0 v L,Below w.heap.size w W→aB W BS H ((m % 8:Nat):Int) SD b0 M v L→Calls Tryz.prog 7 #[.pointer (some ⟨H,0,none⟩),.int .u32 QN,.agg PV.toArray,.agg DV.toArray,.slice xw lw cw,.agg EV.toArray] W fun e w'=>∃F:Fr,e=.returned (.tuple #[.agg F.cells.toArray,.int .i64 NN])∧F.cells.length=70∧(∀v∈F.cells,v.oneCell'=true)∧AG w' pr F∧Below W.heap.size W w'):=⟨fun W b0 v L hb hR=>by
     have:=HSL.out W BS H b0 v L pr hb hR HPR.out;rw [HPV.out] at this
     exact this⟩
 clear HSL HPR HPV;obtain ⟨-,-,c33,r34,r66,c68,r69⟩:=HQ.out W hA;have hsl:=HSP.out W b v L hb hR;go_upto_region 4 with (first
  |(refine ae rfl 23 _ rfl _ _ rfl PV r34 uK rfl iP ?_)
  |(refine ae rfl 26 _ rfl _ _ rfl DV r66 uD rfl iD ?_)
  |(refine ae rfl 33 _ rfl _ _ rfl EV r69 uE rfl iE ?_)
  |(go_at_call 7;refine hsl.mono ?_;rintro e w1 ⟨F,rfl,h70F,h1F,hN,hb1⟩;have hG1:=CellsAt.new w1 43 Z;have iF:(Tryz.prog.info? 43).map (·.size)=some F.cells.length:=(by rw [h70F];exact bU);clear hsl)
  |(refine aw rfl 43 _ _ rfl _ rfl rfl hG1 iF (by rw [hZ,h70F]) h1F ?_))
 have hb2:Below w1.heap.size w1 ((w1.alloc (.cells Z.toArray 43)).setRow w1.heap.size F.cells.toArray):=below_setRow ((Below.refl _ _).alloc (Nat.le_refl _) _) (Nat.le_refl _) _;have hb12:=hb1.trans (hb2.mono hb1.size);refine af (p:=fun y=>Code.wp _ _ _ _ y) (fun V=>Below w.heap.size w V∧CellsAt V w.heap.size 35 QC2∧bw V BS O ((m % 8:Nat):Int) SD vo LE∧CellsAt V w1.heap.size 43 F.cells∧AG V pr F) ⟨hb.trans (hb12.mono hb.size),hA.farM hb12,hRo.far hb12,hG1.setRow _,HAF.out _ _ _ _ hN hb2⟩ ?_;clear hb12 hb2 hG1 hb hA hR hRo c33 r34 r66 c68 r69 hb1 hN h1F HSP;obtain ⟨g1,hg⟩:∃x,w1.heap.size=x:=⟨_,rfl⟩
 rw [hg];clear hg;clear w1 W;rintro W ⟨hb,hA,hRo,hGF,hAF⟩;obtain ⟨-,-,c33,r34,r66,c68,r69⟩:=HQ.out W hA;have hsl:=HSR.out W BS O vo hb hRo;go_upto_region 5 with (first
  |(refine ae rfl 23 _ rfl _ _ rfl PV r34 uK rfl iP ?_)
  |(refine ae rfl 26 _ rfl _ _ rfl DV r66 uD rfl iD ?_)
  |(refine ae rfl 33 _ rfl _ _ rfl EV r69 uE rfl iE ?_)
  |(go_at_call 8;refine hsl.mono ?_;rintro e w1 ⟨G,rfl,h70G,h1F,hN,hb1⟩;have hG1:=CellsAt.new w1 43 Z;have iG:(Tryz.prog.info? 43).map (·.size)=some G.cells.length:=(by rw [h70G];exact bU);clear hsl)
  |(refine aw rfl 43 _ _ rfl _ rfl rfl hG1 iG (by rw [hZ,h70G]) h1F ?_))
 have hb2:Below w1.heap.size w1 ((w1.alloc (.cells Z.toArray 43)).setRow w1.heap.size G.cells.toArray):=below_setRow ((Below.refl _ _).alloc (Nat.le_refl _) _) (Nat.le_refl _) _;have hb12:=hb1.trans (hb2.mono hb1.size);refine af (p:=fun y=>Code.wp _ _ _ _ y) (fun V=>Below w.heap.size w V∧CellsAt V g1 43 F.cells∧AG V pr F∧CellsAt V w1.heap.size 43 G.cells∧AG V pr G) ⟨hb.trans (hb12.mono hb.size),hGF.farM hb12,HAF.out _ _ _ _ hAF hb12,hG1.setRow _,HAF.out _ _ _ _ hN hb2⟩ ?_;clear hb12 hb2 hG1 hb hA hRo c33 r34 r66 c68 r69 hb1 hN h1F hGF hAF HSR HQ;obtain ⟨g2,hg⟩:∃x,w1.heap.size=x:=⟨_,rfl⟩
 rw [hg];clear hg;clear w1 W;rintro W ⟨hb,hGF,hAF,hGG,hAG⟩;have hNN:(NN==NN)=true:=by simp
 have HFAR:ac (∀V,Below W.heap.size W V→Below w.heap.size w V∧V.rangeAt g1 0 F.cells∧V.rangeAt g2 0 G.cells∧Calls Tryz.prog 10 #[.agg F.cells.toArray,.agg G.cells.toArray] V fun e w'=>e=.returned (.bool true)∧Below V.heap.size V w'):=⟨fun V h=>⟨hb.trans (h.mono hb.size),(hGF.farM h).wholeM,(hGG.farM h).wholeM,by
  have:=HSM.out V pr pr F G (HAF.out _ _ _ _ hAF h) (HAF.out _ _ _ _ hAG h) (.inr rfl);rw [show (pr==pr)=true by simp] at this
  exact this⟩⟩
 have hlv:=HLV.out W hb;clear hb hGF hAF hGG hAG HSM HAF HLV HKT;generalize F.cells=FC at HFAR iF
 generalize G.cells=GC at HFAR iG
 go_wp2_with (first
  |(go_at_call 9;refine hlv.mono ?_;rintro e w2 ⟨rfl,hb2⟩;obtain ⟨-,rF,rG,hsm⟩:=HFAR.out w2 hb2;clear hlv)
  |(refine ao (by kernel_rfl) 43 (.tmp 5) rfl g1 0 rfl FC rF uF rfl iF ?_;clear rF)
  |(refine ao (by kernel_rfl) 43 (.tmp 7) rfl g2 0 rfl GC rG uF rfl iG ?_;clear rG)
  |(go_at_call 10;refine hsm.mono ?_;rintro e w3 ⟨rfl,hb3⟩;obtain ⟨hB3,-⟩:=HFAR.out w3 (hb2.trans (hb3.mono hb2.size));clear hsm))
 go_ret;exact ⟨rfl,hB3⟩
end Go.Proofs.YtbdhfbglagdiaaaGreatDoor
