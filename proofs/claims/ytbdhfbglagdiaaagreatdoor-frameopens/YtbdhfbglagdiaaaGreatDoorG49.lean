/- Fm10 -/
import Derived.Test.YtbdhfbglagdiaaaGreatDoorG37
namespace Go.Proofs.YtbdhfbglagdiaaaGreatDoor
open Go.RowKit
set_option maxRecDepth 20000
set_option maxHeartbeats 16000000
set_option linter.unusedSimpArgs false
section
variable (base H:Nat) (own:Int) (seed:List Int) (b:Nat) (M:Int→Int→Option (List Int)) (v:Value) (L:List (Int×Int)) (w:World)
variable (b0 b1:Nat) (F:Fr) (xw:Option Addr) (lw cw:Nat) (ws:List Wp) (xb:Option Addr) (lb cb:Nat) (body:List Int)
theorem mO (c0:w.cell? ⟨b0,0,none⟩=some (.pointer (some ⟨H,0,none⟩))) (r1:w.rangeAt b1 0 F.cells) (hR:aA w base H own seed b M v L) (hKT:S.KTab w) (hBT:BTab w) (hF:j7 w F xw lw cw ws xb lb cb body) (hIn:F.In) (hWi:∀e∈ws,e.In) (hBi:∀x∈body,isB x):
    Calls Tryz.prog 47 #[.pointer (some ⟨b0,0,none⟩),.pointer (some ⟨b1,0,none⟩)] w fun e w'=>((openE seed (M F.ea F.es) F lw ws lb body≠0∧e=.panicked [eU (openE seed (M F.ea F.es) F lw ws lb body)])∨(openE seed (M F.ea F.es) F lw ws lb body=0∧∃k,M F.ea F.es=some k∧e=.returned (.agg (ee k F lb body).cells.toArray)))∧Below w.heap.size w w':=by
 obtain ⟨f70,f0,f1,f2,_,_,f37,_⟩:=aL F hF.prev hF.mac;rw [hF.body_] at f37
 have iF:(Tryz.prog.info? 43).map (·.size)=some F.cells.length:=by rw [f70];exact bw
 have hb0:Below w.heap.size w (w.alloc (.cells evZ.cells.toArray 33)):=(Below.refl _ _).alloc (Nat.le_refl _) _;have hRS0:=CellsAt.new w 33 evZ.cells;have HS:ac (∀W,Below w.heap.size w W→W.cell? ⟨b0,0,none⟩=some (.pointer (some ⟨H,0,none⟩))∧W.rangeAt b1 0 F.cells∧W.cell? ⟨b1,0,none⟩=some (.int .u8 F.author)∧W.cell? ⟨b1,1,none⟩=some (.int .u32 F.number)∧W.rangeAt b1 2 (dotC F.ea F.es)∧W.cell? ⟨b1,37,none⟩=some (.slice xb lb cb)):=⟨fun W hb=>by
  have r:=bg r1 hb;refine ⟨dj c0 hb,r,?_,?_,fun j u hu=>?_,?_⟩
  · have:=r 0 _ f0;simpa using this
  · have:=r 1 _ f1;simpa using this
  · rw [←f2] at hu
    have hj:j<2:=by
     have:=(List.getElem?_eq_some_iff.1 hu).1;rw [List.length_take] at this;omega
    rw [List.getElem?_take_of_lt hj,List.getElem?_drop] at hu
    have:=r (2+j) u hu;rw [Nat.zero_add] at this
    exact this
  · have:=r 37 _ f37;simpa using this⟩
 have HR:=ac.mk (fun W (hb:Below w.heap.size w W)=>hR.far hb);have HKT:ac (∀W,Below w.heap.size w W→S.KTab W∧BTab W):=⟨fun W hb=>⟨hKT.below hb,hBT.below hb⟩⟩
 have HF:=ac.mk (fun W (hb:Below w.heap.size w W)=>hF.below hb);have HPRE:=ac.mk (And.intro hIn (And.intro hWi hBi));have HOE:ac (openE seed (M F.ea F.es) F lw ws lb body=if checkE seed F lw ws lb body=0 then (match M F.ea F.es with|none=>9|some k=>eV k F ws lb body) else checkE seed F lw ws lb body):=⟨rfl⟩
 generalize openE seed (M F.ea F.es) F lw ws lb body=OE at HOE ⊢
 have HCK:ac (∀W,Below w.heap.size w W→Calls Tryz.prog 13 #[.pointer (some ⟨H,0,none⟩),.agg F.cells.toArray] W fun e w'=>e=.returned (.int .i64 (checkE seed F lw ws lb body))∧Below W.heap.size W w'):=⟨fun W hb=>nk base H own seed b M v L W F xw lw cw ws xb lb cb body (HR.out W hb) (HKT.out W hb).1 (HF.out W hb) HPRE.out.1.mac⟩
 have HPR:=ac.mk (And.intro hF.prev hF.mac);have HLB:ac (lb=body.length):=⟨hF.hb.len_eq⟩
 have HFW:=ac.mk hF.wraps;clear c0 r1 hR hKT hBT hF hIn hWi hBi f70 f0 f1 f2 f37;have uF:=Tryz.underlying43;have uD:=Tryz.underlying26;have uK:=Tryz.underlying23;have uE:=Tryz.underlying33;have iD:(Tryz.prog.info? 26).map (·.size)=some (dotC F.ea F.es).length:=aH;go_enter Tryz.func47,Tryz.ntmps47;go_upto_region 1 with fail
 refine ae (p:=fun y=>Code.wp _ _ _ _ y) (fun W=>Below w.heap.size w W∧CellsAt W w.heap.size 33 evZ.cells) ⟨hb0,hRS0⟩ ?_;clear hb0 hRS0;rintro W ⟨hb,hRS⟩;obtain ⟨c0,rF,-,-,-,-⟩:=HS.out W hb;have hck:=HCK.out W hb
 by_cases hc:checkE seed F lw ws lb body=0
 rotate_left
 · have HE:ac (OE=checkE seed F lw ws lb body∧checkE seed F lw ws lb body≠0):=⟨by rw [HOE.out,if_neg hc],hc⟩
   have HPB:=ac.mk (fun W=>iJ (checkE seed F lw ws lb body) hc W);generalize checkE seed F lw ws lb body=CE at hck HE HPB
   clear hc HOE
   go_wp2_with (first
    |(refine af rfl 43 _ rfl _ _ rfl F.cells rF uF rfl iF ?_)
    |(go_at_call 13;refine hck.mono ?_;rintro e w1 ⟨rfl,hb1⟩;have hpb:=HPB.out w1;clear hck)
    |(go_at_call 48;refine hpb.mono ?_;rintro e w2 ⟨rfl,rfl⟩))
   refine al ?_;exact ⟨Or.inl ⟨by rw [HE.out.1];exact HE.out.2,by rw [HE.out.1]⟩,hb.trans (hb1.mono hb.size)⟩
 obtain ⟨h8,hmy,hl,hlb,-⟩:=o5 hc;have HOE1:ac (OE=(match M F.ea F.es with|none=>9|some k=>eV k F ws lb body)):=⟨by rw [HOE.out,if_pos hc]⟩
 rw [hc] at hck
 have HPK:=ac.mk jP;clear hc HOE hmy HCK;go_upto_region 2 with (first
  |(refine af rfl 43 _ rfl _ _ rfl F.cells rF uF rfl iF ?_)
  |(go_at_call 13;refine hck.mono ?_;rintro e w1 ⟨rfl,hb1⟩;have hpk:=HPK.out w1;clear hck)
  |(go_at_call 48;refine hpk.mono ?_;rintro e w2 ⟨⟨q1,rfl⟩,rfl⟩;clear hpk))
 refine ae (p:=fun y=>Code.wp _ _ _ _ y) (fun V=>Below w.heap.size w V∧CellsAt V w.heap.size 33 evZ.cells) ⟨hb.trans (hb1.mono hb.size),hRS.farM hb1⟩ ?_;clear hb1 hb hRS c0 rF;clear w1 W;rintro W ⟨hb,hRS⟩;obtain ⟨c0,-,cA,-,rD,-⟩:=HS.out W hb;have hok:okD F.ea F.es:=⟨⟨HPRE.out.1.ea.1,HPRE.out.1.ea.2⟩,HPRE.out.1.es.1,HPRE.out.1.es.2⟩
 cases hm:M F.ea F.es with
 |none=>
  have HE:ac (OE=9):=⟨by rw [HOE1.out,hm]⟩
  have hfk:=po _ _ _ _ _ _ _ _ W F.ea F.es F.author hok h8 (HR.out W hb) hm;have HGB:=ac.mk (fun W=>lu z32 9 (by decide) W);clear h8 hm HOE1
  go_wp2_with (first
   |(refine af rfl 26 _ rfl _ _ rfl (dotC F.ea F.es) rD uD rfl iD ?_)
   |(go_at_call 29;refine hfk.mono ?_;rintro e w1 ⟨rfl,hb1⟩;have hgb:=HGB.out w1;clear hfk)
   |(go_at_call 28;refine hgb.mono ?_;rintro e w2 ⟨rfl,hb2⟩))
  refine al ?_;have hb1':=hb.trans (hb1.mono hb.size);exact ⟨Or.inl ⟨by rw [HE.out];decide,by rw [HE.out]⟩,hb1'.trans (hb2.mono hb1'.size)⟩
 |some k=>
  have HOE2:ac (OE=eV k F ws lb body):=⟨by rw [HOE1.out,hm]⟩
  have HKM:=ac.mk hm;have hfk:=xz _ _ _ _ _ _ _ _ W F.ea F.es F.author k hok h8 (HR.out W hb) hm (HKT.out W hb).1;obtain ⟨FK,hFK⟩:∃q,eo k F.author=q:=⟨_,rfl⟩
  have hFl:FK.length=32:=by rw [←hFK];exact aU _ _
  have HFK:=ac.mk hFK;rw [hFK] at hfk
  have HGK:=ac.mk (fun W=>sE FK hFl W);obtain ⟨ZK,hZKl,hZK⟩:∃Z:List Int,Z.length=32∧Z=List.replicate 32 0:=⟨_,rfl,rfl⟩
  have hzv:∀wx,(zeroValue 23).run Tryz.prog wx=.ok (.agg (row .u8 ZK)) wx:=fun wx=>by rw [hZK];kernel_rfl
  have hz1:¬(row .u8 ZK)= #[]:=by intro h;have:=congrArg Array.size h;rw [bc] at this;simp at this;rw [this] at hZKl;simp at hZKl
  clear hZK hFK h8 hm HOE1;go_upto_region 3 with (first
   |(refine af rfl 26 _ rfl _ _ rfl (dotC F.ea F.es) rD uD rfl iD ?_)
   |(go_at_call 29;refine hfk.mono ?_;rintro e w1 ⟨rfl,hb1⟩;have hgk:=HGK.out w1;clear hfk)
   |(go_at_call 28;refine hgk.mono ?_;rintro e w2 ⟨rfl,hb2⟩;have hk2:=aa.new w2 .u8 23 ZK;clear hgk)
   |(refine aj rfl 23 _ _ rfl _ rfl rfl hk2 (by rw [hFl];exact ap) (by rw [hZKl,hFl]) ?_))
  have hb3:Below w2.heap.size w2 ((w2.alloc (.cells (row .u8 ZK) 23)).setRow w2.heap.size (row .u8 FK)):=below_setRow ((Below.refl _ _).alloc (Nat.le_refl _) _) (Nat.le_refl _) _;have hb12:=hb1.trans (hb2.mono hb1.size);have hb13:=hb12.trans (hb3.mono hb12.size);refine ae (p:=fun y=>Code.wp _ _ _ _ y) (fun V=>Below w.heap.size w V∧CellsAt V w.heap.size 33 evZ.cells∧aa V w2.heap.size .u8 23 FK) ⟨hb.trans (hb13.mono hb.size),hRS.farM hb13,hk2.setRow _⟩ ?_;clear hb13 hb12 hb3 hk2 hb1 hb2 hb hRS c0 cA rD hzv hz1 HGK;obtain ⟨KB,hKB⟩:∃q,w2.heap.size=q:=⟨_,rfl⟩
  rw [hKB];clear hKB;clear w2 w1 W;rintro W ⟨hb,hRS,hQ⟩;have hOi:∀v∈aN F ws,isB v:=j5 F ws HPRE.out.1 HPRE.out.2.1 (by have:=(HF.out W hb).hw.len_eq;omega);have HOI:=ac.mk hOi;have HOP:ac (∀V,Below w.heap.size w V→Calls Tryz.prog 35 #[.agg F.cells.toArray] V fun e w'=>∃x4 n4 c4,e=.returned (.slice x4 n4 c4)∧n4≤4000∧Bytes w' x4 n4 c4 (aN F ws)∧Below V.heap.size V w'):=⟨fun V h=>by
   refine (me F xw lw cw ws V HPR.out.1 HPR.out.2 HFW.out (HF.out V h).hw hl).mono ?_;rintro e w' ⟨v',he,ho,hb'⟩;obtain ⟨x4,n4,c4,rfl,hn4⟩:=ho.isSlice;refine ⟨x4,n4,c4,he,?_,ho.bytes.2,hb'⟩;rw [hn4,b9 F ws HPR.out.1 (HF.out V h).hw.ok];have:=(HF.out V h).hw.len_eq;omega⟩
  have iFK:(Tryz.prog.info? 23).map (·.size)=some (FK.map (Value.int .u8)).length:=by rw [List.length_map,hFl];exact ap
  have HTT:∀V,Below w.heap.size w V→aa V KB .u8 23 FK→(fun w':World=>w'.rangeAt KB 0 (FK.map (Value.int .u8))∧w'.cell? ⟨b1,1,none⟩=some (.int .u32 F.number)∧w'.rangeAt b1 0 F.cells∧w'.cell? ⟨b1,37,none⟩=some (.slice xb lb cb)) V:=fun V h1 h2=>by
   obtain ⟨_,q2,_,q4,_,q6⟩:=HS.out V h1;exact ⟨h2.cellsAt.wholeM,q4,q2,q6⟩
  clear hOi hok;have HAO:ac ((lb<16∨(16≤lb∧¬tagL FK (aV F.number) (aN F ws) (body.take (lb - 16))=body.drop (lb - 16)))∨(16≤lb∧tagL FK (aV F.number) (aN F ws) (body.take (lb - 16))=body.drop (lb - 16))):=⟨by
   by_cases q:lb<16
   · exact .inl (.inl q)
   · by_cases q2:tagL FK (aV F.number) (aN F ws) (body.take (lb - 16))=body.drop (lb - 16)
     · exact .inr ⟨by omega,q2⟩
     · exact .inl (.inr ⟨by omega,q2⟩)⟩
  rcases HAO.out with hbad|⟨h16,htag⟩
  · have HAE:ac (∃n:Int,n≠0∧OE=n∧∀V x4 n4 c4,Below w.heap.size w V→Bytes V x4 n4 c4 (aN F ws)→n4≤4000→Calls Tryz.prog 49 #[.agg (row .u8 FK),.agg (row .u8 (aV F.number)),.slice x4 n4 c4,.slice xb lb cb] V fun e w'=>e=.returned (.tuple #[.slice none 0 0,.int .i64 n])∧Below V.heap.size V w'):=⟨by
     rcases hbad with q|⟨q1,q2⟩
     · exact ⟨3,by decide,by rw [HOE2.out];unfold eV;rw [if_pos q],fun V x4 n4 c4 hV hy hn=>qy FK (aV F.number) x4 n4 c4 xb lb cb V q⟩
     · refine ⟨4,by decide,?_,fun V x4 n4 c4 hV hy hn=>wu FK (aV F.number) x4 n4 c4 (aN F ws) xb lb cb body V hFl rfl hy (HF.out V hV).hb (by omega) (by omega) q1 HOI.out HPRE.out.2.2 q2⟩
       rw [HOE2.out];unfold eV;rw [if_neg (by omega),HFK.out,if_neg q2]⟩
    obtain ⟨n,hn0,hOE,hAE⟩:=HAE.out;have HN:=ac.mk (And.intro hn0 hOE);have HGB:=ac.mk (fun V=>lB (.slice none 0 0) n hn0 V);clear hbad HAO HAE hn0 hOE;refine ay (fun w'=>w'.rangeAt KB 0 (FK.map (Value.int .u8))∧w'.cell? ⟨b1,1,none⟩=some (.int .u32 F.number)∧w'.rangeAt b1 0 F.cells∧w'.cell? ⟨b1,37,none⟩=some (.slice xb lb cb)) (fun _=>True) 99 (by kernel_rfl) ?_;refine ae (p:=fun y=>aM _ _ _ _ _ _ _ _ _ _ y) (fun V=>Below w.heap.size w V∧aa V KB .u8 23 FK) ⟨hb.drew,hQ.below (Below.refl W.heap.size W).drew hQ.lt⟩ ?_;clear hb hRS hQ;clear W;rintro V ⟨hB,hQ⟩;have hT:=HTT V hB hQ;have hS:=trivial;refine zh 0 19 23 3 KB 0 (FK.map (Value.int .u8)) hT hS (fun _ h=>h.1) uK iFK ?_;simp only [zp];refine ghA 1 _ hT hS ?_;simp only [zp];refine ghA 2 _ hT hS ?_;simp only [zp];refine ghA 6 _ hT hS ?_;simp only [zp];refine ghA 7 _ hT hS ?_;simp only [zp];refine zh 4 23 43 1 b1 0 F.cells hT hS (fun _ h=>h.2.2.1) uF iF ?_;simp only [zp];refine zm 3 fun K hK=>?_
    refine aC _ _ (by kernel_rfl) ((kj F.number V).mono ?_);rintro e w2 ⟨rfl,hb2⟩;refine ⟨_,rfl,?_⟩;have hB2:=hB.trans (hb2.mono hB.size);have hQ2:=hQ.below hb2 hQ.lt;replace hT:=HTT w2 hB2 hQ2;refine hK.out _ _ hT (fun _=>hS) ?_;clear hK K
    try simp only [zp]
    refine zm 5 fun K hK=>?_
    refine aC _ _ (by kernel_rfl) ((HOP.out w2 hB2).mono ?_);rintro e w3 ⟨x4,n4,c4,rfl,hn4,hy4,hb3⟩;refine ⟨_,rfl,?_⟩;have hB3:=hB2.trans (hb3.mono hB2.size);have hQ3:=hQ2.below hb3 hQ2.lt;replace hT:=HTT w3 hB3 hQ3;refine hK.out _ _ hT (fun _=>hS) ?_;clear hK K
    try simp only [zp]
    refine zm 8 fun K hK=>?_
    refine aC _ _ (by kernel_rfl) ((hAE w3 x4 n4 c4 hB3 hy4 hn4).mono ?_);rintro e w4 ⟨rfl,hb4⟩;refine ⟨_,rfl,?_⟩;have hB4:=hB3.trans (hb4.mono hB3.size);have hQ4:=hQ3.below hb4 hQ3.lt;replace hT:=HTT w4 hB4 hQ4;refine hK.out _ _ hT (fun _=>hS) ?_;clear hK K
    try simp only [zp]
    refine ghA 9 _ hT hS ?_;simp only [zp];refine ghA 10 _ hT hS ?_;simp only [zp];refine zm 11 fun K hK=>?_
    have hgb:=HGB.out w4;refine qd _ _ (by kernel_rfl) (hgb.mono ?_);rintro e w5 ⟨rfl,rfl⟩;refine ⟨_,rfl,?_⟩;simp only [Exit.then];refine al ?_;exact ⟨Or.inl ⟨by rw [HN.out.2];exact HN.out.1,by rw [HN.out.2]⟩,hB4⟩
  obtain ⟨PT,hPT⟩:∃q,openP k F lb body=q:=⟨_,rfl⟩
  have hPe:dk FK (aV F.number) 1 (body.take (lb - 16))=PT:=by rw [←hPT,←HFK.out];rfl
  have hPl:PT.length=lb - 16:=by rw [←hPe,aZ,List.length_take];have:=HLB.out;omega
  have HPI:ac (∀v∈PT,b8 v):=⟨by
   rw [←hPe];exact ld _ _ _ _ (fun v hv=>HPRE.out.2.2 v (List.mem_of_mem_take hv))⟩
  have HAE:ac (∀V x4 n4 c4,Below w.heap.size w V→Bytes V x4 n4 c4 (aN F ws)→n4≤4000→Calls Tryz.prog 49 #[.agg (row .u8 FK),.agg (row .u8 (aV F.number)),.slice x4 n4 c4,.slice xb lb cb] V fun e w'=>∃g,e=.returned (.tuple #[.slice (some ⟨g,0,none⟩) (lb - 16) (lb - 16),.int .i64 0])∧Bytes w' (some ⟨g,0,none⟩) (lb - 16) (lb - 16) PT∧Below V.heap.size V w'):=⟨fun V x4 n4 c4 hV hy hn=>by
   refine (wT FK (aV F.number) x4 n4 c4 (aN F ws) xb lb cb body V hFl rfl hy (HF.out V hV).hb (by omega) (by omega) h16 HOI.out HPRE.out.2.2 htag).mono ?_;rintro e w' ⟨g,he,hg,hh,hb'⟩;rw [hPe] at hh
   exact ⟨g,he,hh.bytes hPl.symm (by rw [hPl];omega),hb'⟩⟩
  have HOE3:ac (OE=if et PT=0 then (if ec (unpB PT)=0 then (if fitsB (revB (unpB PT)) F=true then 0 else 3) else 3) else 3):=⟨by
   rw [HOE2.out];unfold eV ee;rw [if_neg (by omega),HFK.out,if_pos htag,hPT]⟩
  have HVE:ac (ee k F lb body=revB (unpB PT)):=⟨by unfold ee;rw [hPT]⟩
  have HPL:ac (PT.length≤1000000):=⟨by rw [hPl];omega⟩
  clear hPe hPT htag HAO HOE2 hPl;obtain ⟨LP,hLP⟩:∃q,lb - 16=q:=⟨_,rfl⟩
  rw [hLP] at HAE
  clear hLP h16;refine ay (fun w'=>w'.rangeAt KB 0 (FK.map (Value.int .u8))∧w'.cell? ⟨b1,1,none⟩=some (.int .u32 F.number)∧w'.rangeAt b1 0 F.cells∧w'.cell? ⟨b1,37,none⟩=some (.slice xb lb cb)) (fun _=>True) 99 (by kernel_rfl) ?_;refine ae (p:=fun y=>aM _ _ _ _ _ _ _ _ _ _ y) (fun V=>Below w.heap.size w V∧CellsAt V w.heap.size 33 evZ.cells∧aa V KB .u8 23 FK) ⟨hb.drew,hRS.congr rfl,hQ.below (Below.refl W.heap.size W).drew hQ.lt⟩ ?_;clear hb hRS hQ;clear W;rintro V ⟨hB,hRS,hQ⟩;have hT:=HTT V hB hQ;have hS:=trivial;refine zh 0 19 23 3 KB 0 (FK.map (Value.int .u8)) hT hS (fun _ h=>h.1) uK iFK ?_;simp only [zp];refine ghA 1 _ hT hS ?_;simp only [zp];refine ghA 2 _ hT hS ?_;simp only [zp];refine ghA 6 _ hT hS ?_;simp only [zp];refine ghA 7 _ hT hS ?_;simp only [zp];refine zh 4 23 43 1 b1 0 F.cells hT hS (fun _ h=>h.2.2.1) uF iF ?_;simp only [zp];refine zm 3 fun K hK=>?_
  refine aC _ _ (by kernel_rfl) ((kj F.number V).mono ?_);rintro e w2 ⟨rfl,hb2⟩;refine ⟨_,rfl,?_⟩;have hB2:=hB.trans (hb2.mono hB.size);have hQ2:=hQ.below hb2 hQ.lt;replace hT:=HTT w2 hB2 hQ2;refine hK.out _ _ hT (fun _=>hS) ?_;clear hK K
  try simp only [zp]
  refine zm 5 fun K hK=>?_
  refine aC _ _ (by kernel_rfl) ((HOP.out w2 hB2).mono ?_);rintro e w3 ⟨x4,n4,c4,rfl,hn4,hy4,hb3⟩;refine ⟨_,rfl,?_⟩;have hB3:=hB2.trans (hb3.mono hB2.size);have hQ3:=hQ2.below hb3 hQ2.lt;replace hT:=HTT w3 hB3 hQ3;refine hK.out _ _ hT (fun _=>hS) ?_;clear hK K
  try simp only [zp]
  refine zm 8 fun K hK=>?_
  refine aC _ _ (by kernel_rfl) ((HAE.out w3 x4 n4 c4 hB3 hy4 hn4).mono ?_);rintro e w4 ⟨g,rfl,hyg,hb4⟩;refine ⟨_,rfl,?_⟩;have hB4:=hB3.trans (hb4.mono hB3.size);have hQ4:=hQ3.below hb4 hQ3.lt;replace hT:=HTT w4 hB4 hQ4;refine hK.out _ _ hT (fun _=>hS) ?_;clear hK K
  try simp only [zp]
  refine ghA 9 _ hT hS ?_;simp only [zp];refine ghA 10 _ hT hS ?_;simp only [zp];refine zm 11 fun K hK=>?_
  have hgb:=li (.slice (some ⟨g,0,none⟩) LP LP) w4;refine aC _ _ (by kernel_rfl) (hgb.mono ?_);rintro e w5 ⟨rfl,rfl⟩;refine ⟨_,rfl,?_⟩;refine hK.out _ _ hT (fun _=>hS) ?_;clear hK K
  try simp only [zp]
  refine ghA 12 _ hT hS ?_;simp only [zp];refine aB (by kernel_rfl) ?_ _;have hRS4:=((hRS.farM hb2).farM hb3).farM hb4;refine ae (p:=fun y=>Exit.then _ _ _ _ y) (fun V=>Below w.heap.size w V∧CellsAt V w.heap.size 33 evZ.cells∧Bytes V (some ⟨g,0,none⟩) LP LP PT) ⟨hB4,hRS4,hyg⟩ ?_;clear hT hS hgb hRS4 hB4 hQ4 hb4 hyg hB3 hQ3 hb3 hy4 hB2 hQ2 hb2 hB hRS hQ HTT HAE HOP;clear w4 w3 w2 V;rintro W ⟨hb,hRS,hY⟩;have hup:=ur (some ⟨g,0,none⟩) LP LP PT W (HKT.out W hb).2 hY HPI.out HPL.out;have HUI:ac (∀v∈unpB PT,b8 v):=⟨qx PT HPI.out⟩
  by_cases hu:et PT=0
  rotate_left
  · have hu3:et PT=3:=by unfold et at hu ⊢;split<;>simp_all
    have HE:ac (OE=3):=⟨by rw [HOE3.out,if_neg hu]⟩
    rw [hu3] at hup
    have HGB:=ac.mk (fun (v:Value) V=>lB v 3 (by decide) V);clear hu hu3
    go_wp2_with (first
     |(go_at_call 52;refine hup.mono ?_;rintro e w1 ⟨x1,n1,c1,rfl,-,hb1⟩;have hgb:=HGB.out (.slice x1 n1 c1) w1;clear hup)
     |(go_at_call 30;refine hgb.mono ?_;rintro e w2 ⟨rfl,rfl⟩))
    refine al ?_;exact ⟨Or.inl ⟨by rw [HE.out];decide,by rw [HE.out]⟩,hb.trans (hb1.mono hb.size)⟩
  rw [hu] at hup
  have HOE4:ac (OE=if ec (unpB PT)=0 then (if fitsB (revB (unpB PT)) F=true then 0 else 3) else 3):=⟨by rw [HOE3.out,if_pos hu]⟩
  obtain ⟨UB,hUB⟩:∃q,unpB PT=q:=⟨_,rfl⟩
  rw [hUB] at hup HOE4 HVE HUI
  clear hu hUB HOE3;have HRE:ac (∀V x n c,Bytes V x n c UB→Calls Tryz.prog 51 #[.slice x n c] V fun e w'=>e=.returned (.tuple #[.agg (revB UB).cells.toArray,.int .i64 (ec UB)])∧Below V.heap.size V w'):=⟨fun V x n c hy=>mN x n c UB V hy HUI.out⟩
  have HGB:=ac.mk li
  by_cases hr:ec UB=0
  rotate_left
  · have hr3:ec UB=3:=by unfold ec at hr ⊢;split<;>simp_all
    have HE:ac (OE=3):=⟨by rw [HOE4.out,if_neg hr]⟩
    rw [hr3] at HRE
    have HGE:=ac.mk (fun V=>vW (revB UB) 3 (by decide) V);clear hr hr3;generalize (revB UB).cells=RC at HRE HGE
    go_wp2_with (first
     |(go_at_call 52;refine hup.mono ?_;rintro e w1 ⟨x1,n1,c1,rfl,hy1,hb1⟩;have hgb:=HGB.out (.slice x1 n1 c1) w1;have hre:=HRE.out w1 x1 n1 c1 hy1;clear hup)
     |(go_at_call 30;refine hgb.mono ?_;rintro e w2 ⟨rfl,rfl⟩;clear hgb)
     |(go_at_call 51;refine hre.mono ?_;rintro e w3 ⟨rfl,hb3⟩;have hge:=HGE.out w3;clear hre)
     |(go_at_call 50;refine hge.mono ?_;rintro e w4 ⟨rfl,hb4⟩))
    refine al ?_;have q1:=hb.trans (hb1.mono hb.size);have q2:=q1.trans (hb3.mono q1.size);exact ⟨Or.inl ⟨by rw [HE.out];decide,by rw [HE.out]⟩,q2.trans (hb4.mono q2.size)⟩
  rw [hr] at HRE
  have HOE5:ac (OE=if fitsB (revB UB) F=true then 0 else 3):=⟨by rw [HOE4.out,if_pos hr]⟩
  have HEI:=ac.mk (pX UB HUI.out);have HGE:=ac.mk (fun V=>xh (revB UB) HEI.out.plen V);have iE:=bQ (revB UB) HEI.out.plen;have h1E:=dh (revB UB);have hlE:evZ.cells.length=(revB UB).cells.length:=by rw [eO _ HEI.out.plen];rfl
  have HFT:ac (∀V,Calls Tryz.prog 27 #[.agg (revB UB).cells.toArray,.agg F.cells.toArray] V fun e w'=>e=.returned (.bool (fitsB (revB UB) F))∧Below V.heap.size V w'):=⟨fun V=>qf (revB UB) F HEI.out HPR.out.1 HPR.out.2 V⟩
  generalize fitsB (revB UB) F=FB at HFT HOE5
  obtain ⟨EV,hEV⟩:∃q,revB UB=q:=⟨_,rfl⟩
  rw [hEV] at HRE HEI HGE iE h1E hlE HFT HVE
  clear hEV hr HOE4;go_upto_region 5 with (first
   |(go_at_call 52;refine hup.mono ?_;rintro e w1 ⟨x1,n1,c1,rfl,hy1,hb1⟩;have hgb:=HGB.out (.slice x1 n1 c1) w1;have hre:=HRE.out w1 x1 n1 c1 hy1;clear hup)
   |(go_at_call 30;refine hgb.mono ?_;rintro e w2 ⟨rfl,rfl⟩;clear hgb)
   |(go_at_call 51;refine hre.mono ?_;rintro e w3 ⟨rfl,hb3⟩;have hge:=HGE.out w3;clear hre)
   |(go_at_call 50;refine hge.mono ?_;rintro e w4 ⟨rfl,hb4⟩;have hA4:=CellsAt.new w4 33 evZ.cells;clear hge)
   |(refine aq rfl 33 _ _ rfl _ rfl rfl hA4 iE hlE h1E ?_))
  have hb5:Below w4.heap.size w4 ((w4.alloc (.cells evZ.cells.toArray 33)).setRow w4.heap.size EV.cells.toArray):=below_setRow ((Below.refl _ _).alloc (Nat.le_refl _) _) (Nat.le_refl _) _;have q1:=hb1.trans (hb3.mono hb1.size);have q2:=q1.trans (hb4.mono q1.size);have q3:=q2.trans (hb5.mono q2.size);refine ae (p:=fun y=>Code.wp _ _ _ _ y) (fun V=>Below w.heap.size w V∧CellsAt V w.heap.size 33 evZ.cells∧CellsAt V w4.heap.size 33 EV.cells) ⟨hb.trans (q3.mono hb.size),hRS.farM q3,hA4.setRow _⟩ ?_;have hlt:w.heap.size<w4.heap.size:=(hRS.farM q2).lt;clear q3 q2 q1 hb5 hA4 hb4 hb3 hb1 hy1 hb hRS hY HRE HGE HGB;obtain ⟨EB,hEB⟩:∃q,w4.heap.size=q:=⟨_,rfl⟩
  rw [hEB] at hlt ⊢
  clear hEB;clear w4 w3 w1 W;rintro W ⟨hb,hRS,hEv⟩;obtain ⟨-,rF,-,-,-,-⟩:=HS.out W hb;have rE:=hEv.wholeM;have hft:=HFT.out W;cases FB with
  |false=>
   have HE:ac (OE=3):=⟨by rw [HOE5.out];rfl⟩
   have HNB:=ac.mk iC
   go_wp2_with (first
    |(refine af rfl 33 _ rfl EB 0 rfl EV.cells rE uE rfl iE ?_)
    |(refine af rfl 43 _ rfl b1 0 rfl F.cells rF uF rfl iF ?_)
    |(go_at_call 27;refine hft.mono ?_;rintro e w1 ⟨rfl,hb1⟩;have hn:=HNB.out 3 w1;clear hft)
    |(go_at_call 23;refine hn.mono ?_;rintro e w2 ⟨rfl,rfl⟩))
   refine al ?_;exact ⟨Or.inl ⟨by rw [HE.out];decide,by rw [HE.out]⟩,hb.trans (hb1.mono hb.size)⟩
  |true=>
   have HE:ac (OE=0):=⟨by rw [HOE5.out];rfl⟩
   have HND:=ac.mk jC;have HFAR:ac (∀w1,Below W.heap.size W w1→Below w.heap.size w w1∧CellsAt w1 w.heap.size 33 evZ.cells∧w1.rangeAt EB 0 EV.cells):=⟨fun w1 h=>⟨hb.trans (h.mono hb.size),hRS.farM h,(hEv.farM h).wholeM⟩⟩
   clear hRS hEv hb
   go_wp2_with (first
    |(refine af rfl 33 _ rfl EB 0 rfl EV.cells rE1 uE rfl iE ?_)
    |(refine af rfl 33 _ rfl EB 0 rfl EV.cells rE uE rfl iE ?_)
    |(refine af rfl 43 _ rfl b1 0 rfl F.cells rF uF rfl iF ?_)
    |(go_at_call 27;refine hft.mono ?_;rintro e w1 ⟨rfl,hb1⟩;have hn:=HND.out 3 w1;obtain ⟨hB1,hRS1,rE1⟩:=HFAR.out w1 hb1;clear hft rE)
    |(go_at_call 23;refine hn.mono ?_;rintro e w2 ⟨⟨q2,rfl⟩,rfl⟩;clear hn)
    |(refine aq rfl 33 _ _ rfl _ rfl rfl hRS1 iE hlE h1E ?_))
   refine bodyPost_ret (eE (Tryz.results47) _ rfl (hRS1.setRow EV.cells) Tryz.underlying33 rfl iE) rfl ⟨Or.inr ⟨HE.out,k,HKM.out,by rw [HVE.out]⟩,below_setRow hB1 (Nat.le_refl _) _⟩
def nT (e:Ending):Prop:=
 (openE seed (M F.ea F.es) F lw ws lb body≠0∧e=.returned (.tuple #[.agg evZ.cells.toArray,.int .i64 (openE seed (M F.ea F.es) F lw ws lb body)]))∨(openE seed (M F.ea F.es) F lw ws lb body=0∧∃k,M F.ea F.es=some k∧e=.returned (.tuple #[.agg (ee k F lb body).cells.toArray,.int .i64 0]))
theorem ni (hR:aA w base H own seed b M v L) (hKT:S.KTab w) (hBT:BTab w) (hF:j7 w F xw lw cw ws xb lb cb body) (hIn:F.In) (hWi:∀e∈ws,e.In) (hBi:∀x∈body,isB x):
    Calls Tryz.prog 11 #[.pointer (some ⟨H,0,none⟩),.agg F.cells.toArray] w fun e w'=>nT seed M F lw ws lb body e∧Below w.heap.size w w':=by
 have a0:=((CellsAt.new w 37 [.pointer (some ⟨H,0,none⟩)]).alloc (.cells F.cells.toArray 43)).alloc (.cells evZ.cells.toArray 33);have a1:=(CellsAt.new (w.alloc (.cells #[.pointer (some ⟨H,0,none⟩)] 37)) 43 F.cells).alloc (.cells evZ.cells.toArray 33);have a2:=CellsAt.new ((w.alloc (.cells #[.pointer (some ⟨H,0,none⟩)] 37)).alloc (.cells F.cells.toArray 43)) 33 evZ.cells;simp only [World.size_alloc] at a1 a2
 have hB:Below w.heap.size w (((w.alloc (.cells #[.pointer (some ⟨H,0,none⟩)] 37)).alloc (.cells F.cells.toArray 43)).alloc (.cells evZ.cells.toArray 33)):=(((Below.refl _ _).alloc (Nat.le_refl _) _).alloc (by simp) _).alloc (by simp;omega) _;have HST:=fun V (hb:Below w.heap.size w V) (c0:V.cell? ⟨w.heap.size,0,none⟩=some (.pointer (some ⟨H,0,none⟩))) (r1:V.rangeAt (w.heap.size+1) 0 F.cells)=>mO base H own seed b M v L V w.heap.size (w.heap.size+1) F xw lw cw ws xb lb cb body c0 r1 (hR.far hb) (hKT.below hb) (hBT.below hb) (hF.below hb) hIn hWi hBi
 have HPI:ac (∀k,(ee k F lb body).past.length=8):=⟨fun k=>iG _⟩
 have HTR:ac (∀W,Below w.heap.size w W→CellsAt W w.heap.size 37 [.pointer (some ⟨H,0,none⟩)]→CellsAt W (w.heap.size+1) 43 F.cells→Calls Tryz.prog 46 #[.func (.func 47) #[] #[.pointer (some ⟨w.heap.size,0,none⟩),.pointer (some ⟨w.heap.size+1,0,none⟩)]] W fun e w'=>∃(E:Ev) (n:Int),e=.returned (.tuple #[.agg E.cells.toArray,.int .i64 n])∧E.past.length=8∧nT seed M F lw ws lb body (.returned (.tuple #[.agg E.cells.toArray,.int .i64 n]))∧Below W.heap.size W w'):=⟨fun W hbW h0 h1=>by
  by_cases q:openE seed (M F.ea F.es) F lw ws lb body=0
  · refine (tg _ _ (fun cs _=>∃k,M F.ea F.es=some k∧cs=(ee k F lb body).cells) W (fun V hb _=>(HST V (hbW.trans (hb.mono hbW.size)) (dj (h0.cell 0) hb) (bg h1.wholeM hb)).mono ?_) ?_).mono ?_
    · rintro e w' ⟨h|h,hb'⟩
      · exact absurd q h.1
      · obtain ⟨_,k,hk,he⟩:=h
        exact ⟨_,he,⟨k,hk,rfl⟩,hb'⟩
    · rintro cs w' ⟨k,hk,rfl⟩
      exact ⟨by rw [eO _ (HPI.out k)];rfl,dh _⟩
    · rintro e w' ⟨cs,w1,he,⟨k,hk,rfl⟩,_,_,_,hb'⟩
      exact ⟨ee k F lb body,0,he,HPI.out k,Or.inr ⟨q,k,hk,rfl⟩,hb'⟩
  · refine (rm _ _ (openE seed (M F.ea F.es) F lw ws lb body) W (fun V hb _=>(HST V (hbW.trans (hb.mono hbW.size)) (dj (h0.cell 0) hb) (bg h1.wholeM hb)).mono ?_)).mono ?_
    · rintro e w' ⟨h|h,hb'⟩
      · exact ⟨h.2,hb'⟩
      · exact absurd h.1 q
    · rintro e w' ⟨he,hb'⟩
      exact ⟨evZ,_,he,rfl,Or.inl ⟨q,rfl⟩,hb'⟩⟩
 have hmf:=cG;have HIE:ac (∀E:Ev,E.past.length=8→(Tryz.prog.info? 33).map (·.size)=some E.cells.length∧evZ.cells.length=E.cells.length):=⟨fun E hE=>⟨bQ E hE,by rw [eO E hE];rfl⟩⟩
 clear hR hKT hBT hF hIn hWi hBi HST;generalize F.cells=FC at a0 a1 a2 hB HTR ⊢
 go_enter Tryz.func11,Tryz.ntmps11;go_upto_region 1 with fail
 refine ae (p:=fun y=>Code.wp _ _ _ _ y) (fun W=>Below w.heap.size w W∧CellsAt W w.heap.size 37 [.pointer (some ⟨H,0,none⟩)]∧CellsAt W (w.heap.size+1) 43 FC∧CellsAt W (w.heap.size+1+1) 33 evZ.cells) ⟨hB,a0,a1,a2⟩ ?_;clear hB a0 a1 a2;rintro W ⟨hB,a0,a1,a2⟩;have htr:=HTR.out W hB a0 a1;clear HTR
 go_wp2_with (first
  |(go_at_call 46;refine htr.mono ?_;rintro e w1 ⟨E1,n1,rfl,hp1,ho1,hb1⟩;have hO1:=a2.farM hb1;obtain ⟨iE,hlE⟩:=HIE.out E1 hp1;have h1E:=dh E1;have HO1:=ac.mk ho1;clear htr ho1)
  |(refine aq rfl 33 _ _ rfl _ rfl rfl hO1 iE hlE h1E ?_))
 refine bodyPost_ret (aI (Tryz.results11) _ rfl rfl (hO1.setRow E1.cells) Tryz.underlying33 rfl iE) rfl ⟨HO1.out,?_⟩;exact below_setRow (hB.trans (hb1.mono hB.size)) (by omega) _
end
end Go.Proofs.YtbdhfbglagdiaaaGreatDoor
