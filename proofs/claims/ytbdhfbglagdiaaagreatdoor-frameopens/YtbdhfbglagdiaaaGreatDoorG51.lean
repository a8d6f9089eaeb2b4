/- Flv Evs FrameOpensW -/
import Derived.Test.YtbdhfbglagdiaaaGreatDoorG50
import Derived.Test.YtbdhfbglagdiaaaGreatDoorG07
import Derived.Test.YtbdhfbglagdiaaaGreatDoorG26
import Derived.Laws.StructEq
import Derived.Test.YtbdhfbglagdiaaaGreatDoorG47
import Derived.Test.YtbdhfbglagdiaaaGreatDoorG48
import Derived.Test.YtbdhfbglagdiaaaGreatDoorG49
import Derived.Test.YtbdhfbglagdiaaaGreatDoorG10
import Derived.Test.YtbdhfbglagdiaaaGreatDoorG02
import Derived.Test.YtbdhfbglagdiaaaGreatDoorG25
import Derived.Test.YtbdhfbglagdiaaaGreatDoorG21
namespace Go.Proofs.YtbdhfbglagdiaaaGreatDoor
open Go.RowKit
set_option maxRecDepth 20000
set_option maxHeartbeats 16000000
set_option linter.unusedSimpArgs false
def evL:Ev:=⟨0,1,[0,0,0,0,0,0,0,0],3,0,0,false,0,1,1⟩
def seed1:List Int:=1::List.replicate 31 0
theorem qL:evL.In:=⟨⟨by decide,by decide⟩,⟨by decide,by decide⟩,rfl,fun x hx=>by
 have:x∈([0,0,0,0,0,0,0,0]:List Int):=hx;simp only [List.mem_cons,List.not_mem_nil,or_false,or_self] at this
 rw [this];exact ⟨by decide,by decide⟩,⟨by decide,by decide⟩,⟨by decide,by decide⟩,⟨by decide,by decide⟩,⟨by decide,by decide⟩,⟨by decide,by decide⟩,⟨by decide,by decide⟩⟩
theorem rh (W:World):WrapsAt W none 0 0 []:=⟨rfl,by omega,by omega,fun _=>rfl,by simp,.inl rfl⟩
theorem uh (w:World) (hKT:S.KTab w) (hBT:BTab w):
    Calls Tryz.prog 9 #[] w fun e w'=>e=.returned (.bool true)∧Below w.heap.size w w':=by
 obtain ⟨Z,hzv,hz1,hZ⟩:∃Z:List Value,(∀wx,(zeroValue 43).run Tryz.prog wx=.ok (.agg Z.toArray) wx)∧¬Z.toArray= #[]∧Z=fq.cells:=⟨fq.cells,fun wx=>by kernel_rfl,by decide,rfl⟩
 have hZl:Z.length=70:=by rw [hZ];rfl
 clear hZ;have hnew:=sM 0 seed1 w (by decide) rfl hKT;have HB1:ac (∀wx,(Instr.build 23 #[(0,.int .u8 1)]).run Tryz.prog wx=.ok (.agg (row .u8 seed1)) wx):=⟨fun wx=>run_build wx _ _ _ (by kernel_rfl)⟩
 have HB2:ac (∀wx,(Instr.build 23 #[]).run Tryz.prog wx=.ok (.agg (row .u8 (List.replicate 32 0))) wx):=⟨fun wx=>run_build wx _ _ _ (by kernel_rfl)⟩
 have HB3:ac (∀wx,(Instr.build 26 #[]).run Tryz.prog wx=.ok (.agg (dotC 0 0).toArray) wx):=⟨fun wx=>run_build wx _ _ _ (by kernel_rfl)⟩
 have HB4:ac (∀wx,(Instr.build 26 #[(1,.int .u32 1)]).run Tryz.prog wx=.ok (.agg (dotC 0 1).toArray) wx):=⟨fun wx=>run_build wx _ _ _ (by kernel_rfl)⟩
 have HB5:ac (∀wx,(Instr.build 33 #[(0,.agg (dotC 0 1).toArray),(2,.int .u8 3),(6,.int .u8 1),(7,.int .u8 1)]).run Tryz.prog wx=.ok (.agg evL.cells.toArray) wx):=⟨fun wx=>run_build wx _ _ _ (by kernel_rfl)⟩
 obtain ⟨k0,hk0⟩:∃k,eh 0 seed1 0 0=some k:=⟨dG seed1,by unfold eh;rw [if_pos rfl];unfold gP;simp⟩
 have h0:cZ 1 0 evL 0 (eh 0 seed1 0 0)=0:=by
  rw [hk0];exact wY (by decide) (by decide) (by decide) rfl rfl (by decide)
 have HKT:ac (∀W,Below w.heap.size w W→S.KTab W∧BTab W):=⟨fun W hb=>⟨hKT.below hb,hBT.below hb⟩⟩
 have HSL:ac (∀W H b v,Below w.heap.size w W→aA W w.heap.size H 0 seed1 b (eh 0 seed1) v (ig 0)→Calls Tryz.prog 7 #[.pointer (some ⟨H,0,none⟩),.int .u32 1,.agg (row .u8 (List.replicate 32 0)),.agg (dotC 0 0).toArray,.slice none 0 0,.agg evL.cells.toArray] W fun e w'=>∃(F:Fr) (xb:Option Addr) (cb:Nat),e=.returned (.tuple #[.agg F.cells.toArray,.int .i64 0])∧F.cells.length=70∧(∀v∈F.cells,v.oneCell'=true)∧F.cells[37]?=some (.slice xb 144 cb)∧(∀V,Below w'.heap.size w' V→aA V w.heap.size H 0 seed1 b (eh 0 seed1) v (ig 0)→Calls Tryz.prog 11 #[.pointer (some ⟨H,0,none⟩),.agg F.cells.toArray] V fun e w''=>e=.returned (.tuple #[.agg evL.cells.toArray,.int .i64 0])∧Below V.heap.size V w'')∧Below W.heap.size W w'):=⟨fun W H b v hbW hR=>by
  refine (vr w.heap.size H 0 seed1 b (eh 0 seed1) v (ig 0) W 1 none 0 0 [] 0 0 (List.replicate 32 0) evL hR (HKT.out W hbW).1 (HKT.out W hbW).2 (rh W) rfl qL ⟨⟨by omega,by omega⟩,by omega,by omega⟩ ⟨by omega,by omega⟩).mono ?_;rintro e w' ⟨hs|hs,hb'⟩
  · exact absurd h0 hs.1
  · obtain ⟨_,F,k,hk,he,hf,fa,fn,fea,fes,fp,fm⟩:=hs
    obtain ⟨xw,cw,xb,cb,hq⟩:=hf.at_;have hq0:=hq w' (fun _ _ _=>rfl);obtain ⟨f70,_,_,_,_,_,f37,_⟩:=aL F hq0.prev hq0.mac;rw [hq0.body_] at f37
    have hIn:F.In:=⟨by rw [fa];exact ⟨by decide,by decide⟩,by rw [fn];exact ⟨by decide,by decide⟩,by rw [fea];exact ⟨by decide,by decide⟩,by rw [fes];exact ⟨by decide,by decide⟩,fun x hx=>by
     rw [fp] at hx
     rw [(List.mem_replicate.1 hx).2];exact ⟨by decide,by decide⟩,fun x hx=>by
     rw [fm] at hx
     exact ph _ _ _ _ x hx⟩
    have hkk:eh 0 seed1 F.ea F.es=some k:=by rw [fea,fes];exact hk
    rw [hk] at h0
    obtain ⟨o1,o2,o3⟩:=oo (ws:=[]) qL h0 fa fn fm;refine ⟨F,xb,cb,he,f70,fun v hv=>?_,f37,fun V hbV hRV=>?_,hb'⟩
    · simp only [Fr.cells,dotC,List.mem_append,List.mem_cons,List.not_mem_nil,or_false,List.mem_map,hq0.wraps,hq0.body_] at hv
      rcases hv with ((((rfl|rfl)|rfl|rfl)|⟨x,_,rfl⟩)|rfl|rfl)|⟨x,_,rfl⟩<;>rfl
    · have hwV:Below w.heap.size w V:=(hbW.trans (hb'.mono hbW.size)).trans (hbV.mono (hbW.trans (hb'.mono hbW.size)).size)
      refine (ni w.heap.size H 0 seed1 b (eh 0 seed1) v (ig 0) V F xw 0 cw [] xb 144 cb (cJ k F [] evL) hRV (HKT.out V hwV).1 (HKT.out V hwV).2 (hq0.below hbV) hIn (by simp) (tM hIn (by simp) (by decide) qL)).mono ?_;rintro e2 w2 ⟨ho|ho,hb2⟩
      · exfalso
        refine ho.1 ?_;unfold openE;rw [if_pos o1,hkk];exact o2
      · obtain ⟨_,k2,hk2,he2⟩:=ho
        rw [hkk] at hk2
        obtain rfl:=Option.some.inj hk2;rw [o3] at he2
        exact ⟨he2,hb2⟩⟩
 have iF70:(Tryz.prog.info? 43).map (·.size)=some 70:=bw;have iE:=bQ evL rfl;have h1E:=dh evL;have uF:=Tryz.underlying43;have HEC:ac (∀W g,CellsAt W g 33 evL.cells→W.cell? ⟨g,15,none⟩=some (.int .u8 1)):=⟨fun W g h=>(h.cell 15).trans rfl⟩
 have hlE:evZ.cells.length=evL.cells.length:=rfl;generalize evL.cells=EL at HB5 HSL iE h1E HEC hlE
 generalize row .u8 seed1=SD at hnew HB1
 generalize row .u8 (List.replicate 32 0)=PZ at HB2 HSL
 clear hKT hBT hk0 h0 HKT;go_enter Tryz.func9,Tryz.ntmps9;go_upto_region 2 with (first
  |(refine aF rfl 23 #[(0,.const (.int .u8 1))] rfl #[(0,.int .u8 1)] (by first|rfl|kernel_rfl) _ (HB1.out _) ?_)
  |(go_at_call 17;refine hnew.mono ?_;rintro e w1 ⟨H,b,v,rfl,hR1,hb1⟩;clear hnew))
 have hsl:=HSL.out w1 H b v hb1 hR1;have HFAR:ac (∀V,Below w1.heap.size w1 V→Below w.heap.size w V∧aA V w.heap.size H 0 seed1 b (eh 0 seed1) v (ig 0)):=⟨fun V h=>⟨hb1.trans (h.mono hb1.size),hR1.far h⟩⟩
 clear HSL hR1 hb1;go_upto_region 3 with (first
  |(refine aF rfl 23 #[] rfl #[] (by first|rfl|kernel_rfl) _ (HB2.out _) ?_)
  |(refine aF rfl 26 #[] rfl #[] (by first|rfl|kernel_rfl) _ (HB3.out _) ?_)
  |(refine aF rfl 26 #[(1,.const (.int .u32 1))] rfl #[(1,.int .u32 1)] (by first|rfl|kernel_rfl) _ (HB4.out _) ?_)
  |(refine aF rfl 33 _ rfl #[(0,.agg (dotC 0 1).toArray),(2,.int .u8 3),(6,.int .u8 1),(7,.int .u8 1)] (by first|rfl|kernel_rfl) _ (HB5.out _) ?_)
  |(go_at_call 7;refine hsl.mono ?_;rintro e w2 ⟨F,xb,cb,rfl,hFl,h1F,h37,hop,hb2⟩;have hG2:=CellsAt.new w2 43 Z;have HOP:=ac.mk hop;have H37:=ac.mk h37;clear hsl hop h37)
  |(refine aq rfl 43 _ _ rfl _ rfl rfl hG2 (by rw [hFl];exact iF70) (by rw [hZl,hFl]) h1F ?_))
 have hb3:Below w2.heap.size w2 ((w2.alloc (.cells Z.toArray 43)).setRow w2.heap.size F.cells.toArray):=below_setRow ((Below.refl _ _).alloc (Nat.le_refl _) _) (Nat.le_refl _) _;have hb13:=hb2.trans (hb3.mono hb2.size);refine ae (p:=fun y=>Code.wp _ _ _ _ y) (fun W=>Below w2.heap.size w2 W∧Below w1.heap.size w1 W∧CellsAt W w2.heap.size 43 F.cells) ⟨hb3,hb13,hG2.setRow _⟩ ?_;have hs2:=hb2.size;clear hb3 hb13 hG2 hb2 hzv hz1;obtain ⟨G,hGe⟩:∃q,w2.heap.size=q:=⟨_,rfl⟩
 rw [hGe];have HGE:=ac.mk hGe;clear hGe;rintro W ⟨hbG,hbW,hG⟩;obtain ⟨hwW,hRW⟩:=HFAR.out W hbW;have hop:=HOP.out W (by rw [HGE.out];exact hbG) hRW;have rG:=hG.wholeM;have iF:(Tryz.prog.info? 43).map (·.size)=some F.cells.length:=by rw [hFl];exact iF70
 clear HOP hRW;go_upto_region 4 with (first
  |(refine af rfl 43 _ rfl _ _ rfl F.cells rG uF rfl iF ?_)
  |(go_at_call 11;refine hop.mono ?_;rintro e w4 ⟨rfl,hb4⟩;have hA4:=CellsAt.new w4 33 evZ.cells;clear hop)
  |(refine aq rfl 33 _ _ rfl _ rfl rfl hA4 iE hlE h1E ?_))
 have hb5:Below w4.heap.size w4 ((w4.alloc (.cells evZ.cells.toArray 33)).setRow w4.heap.size EL.toArray):=below_setRow ((Below.refl _ _).alloc (Nat.le_refl _) _) (Nat.le_refl _) _;have hb45:=hb4.trans (hb5.mono hb4.size);refine ae (p:=fun y=>Code.wp _ _ _ _ y) (fun V=>Below w.heap.size w V∧CellsAt V G 43 F.cells∧CellsAt V w4.heap.size 33 EL) ⟨hwW.trans (hb45.mono hwW.size),hG.farM hb45,hA4.setRow _⟩ ?_;clear hb45 hb5 hA4 hb4 hwW hbW hbG hG rG;rintro V ⟨hb,hG,hE⟩;have c15:=HEC.out V _ hE;have c37:V.cell? ⟨G,37,none⟩=some (.slice xb 144 cb):=by rw [hG.cell,H37.out]
 go_wp2;go_ret;exact ⟨rfl,hb⟩
theorem pq (E:Ev) (h:E.past.length=8) (wx:World):(binOp BinOp.eql 33 (.agg E.cells.toArray) (.agg E.cells.toArray)).run Tryz.prog wx=.ok (.bool true) wx:=by
 obtain ⟨da,ds,past,kind,pa,ps,right,char,who,role⟩:=E;obtain ⟨p0,p1,p2,p3,p4,p5,p6,p7,rfl⟩:=xC past h;have hr:(Op.equalIn 9999 29 (.agg (row .u32 [p0,p1,p2,p3,p4,p5,p6,p7])) (.agg (row .u32 [p0,p1,p2,p3,p4,p5,p6,p7]))).run Tryz.prog wx=.ok true wx:=by
  have:=run_equalIn_rows (P:=Tryz.prog) wx 9997 .u32 [p0,p1,p2,p3,p4,p5,p6,p7] [p0,p1,p2,p3,p4,p5,p6,p7] Tryz.underlying29 Tryz.underlying24 (by kernel_rfl) (by kernel_rfl) rfl rfl;rw [this,beq_self_eq_true]
 simp only [row,List.map_cons,List.map_nil] at hr
 rw [run_eql_struct];simp [Ev.cells,dotC,go_sem,hr]
theorem uu (w:World) (b o len cap:Nat) (hh:70≤cap):(Instr.slice 27 (.slice (some ⟨b,o,none⟩) len cap) none (some (.int .i64 70)) none).run Tryz.prog w=.ok (.slice (some ⟨b,o,none⟩) 70 cap) w:=by
 rw [run_slice_h w 27 (some ⟨b,o,none⟩) len cap (by kernel_rfl:Tryz.prog.underlying 27=some (.slice (Tryz.prog.elem 27))) .i64 70 (by omega) (by omega),(by kernel_rfl:(sizeOf (Tryz.prog.elem 27)).run Tryz.prog w=.ok 51 w)];simp [sliced,Result.andThen,Addr.add_mid']
theorem t8 (w:World) (b o len cap:Nat) (hh:4200≤cap):(Instr.slice 41 (.slice (some ⟨b,o,none⟩) len cap) none (some (.int .i64 4200)) none).run Tryz.prog w=.ok (.slice (some ⟨b,o,none⟩) 4200 cap) w:=by
 rw [run_slice_h w 41 (some ⟨b,o,none⟩) len cap (by kernel_rfl:Tryz.prog.underlying 41=some (.slice (Tryz.prog.elem 41))) .i64 4200 (by omega) (by omega),(by kernel_rfl:(sizeOf (Tryz.prog.elem 41)).run Tryz.prog w=.ok 1 w)];simp [sliced,Result.andThen,Addr.add_mid']
theorem uG (F:Fr) (v:Value) (hp:F.prev.length=32):F.cells.set 36 v=({F with wraps:=v}:Fr).cells:=by
 have e0:∀G:Fr,G.cells=([.int .u8 G.author,.int .u32 G.number]++dotC G.ea G.es++G.prev.map (Value.int .u8))++([G.wraps,G.body]++G.mac.map (Value.int .u8)):=fun G=>by unfold Fr.cells;simp only [List.append_assoc]
 have hl:(([.int .u8 F.author,.int .u32 F.number]:List Value)++dotC F.ea F.es++F.prev.map (Value.int .u8)).length=36:=by simp [dotC,hp]
 rw [e0 F,e0 _,List.set_append_right _ _ (by omega),hl];rfl
theorem gm.cutW8 {W:World} {F:Fr} {xw:Option Addr} {lw cw:Nat} {ws:List Wp} {xb:Option Addr} {lb cb:Nat} {body:List Int} (h:gm W F xw lw cw ws xb lb cb body) (n:Nat) (hn:n≤lw):gm W {F with wraps:=.slice xw n cw} xw n cw (ws.take n) xb lb cb body:=by
 have hl:=h.hw.len_eq;refine ⟨h.prev,h.mac,rfl,h.body_,⟨by rw [List.length_take];omega,by have:=h.hw.le;omega,h.hw.top,h.hw.nil,fun e he=>h.hw.ok e (List.mem_of_mem_take he),?_⟩,h.hb,⟨h.inF.author,h.inF.number,h.inF.ea,h.inF.es,h.inF.prev,h.inF.mac⟩,fun x hx=>h.inW x (List.mem_of_mem_take hx),h.inB⟩
 rcases h.hw.at_ with h0|⟨b,off,hx,hc⟩
 · exact .inl (by omega)
 · exact .inr ⟨b,off,hx,fun j hj=>by rw [List.getElem_take];exact hc j (by rw [List.length_take] at hj;omega)⟩
theorem gm.cutB8 {W:World} {F:Fr} {xw:Option Addr} {lw cw:Nat} {ws:List Wp} {xb:Option Addr} {lb cb:Nat} {body:List Int} (h:gm W F xw lw cw ws xb lb cb body) (n:Nat) (hn:n≤lb):gm W {F with body:=.slice xb n cb} xw lw cw ws xb n cb (body.take n):=by
 have hl:=h.hb.len_eq;refine ⟨h.prev,h.mac,h.wraps,rfl,h.hw,⟨by rw [List.length_take];omega,by have:=h.hb.le;omega,h.hb.top,h.hb.nil,?_⟩,⟨h.inF.author,h.inF.number,h.inF.ea,h.inF.es,h.inF.prev,h.inF.mac⟩,h.inW,fun x hx=>h.inB x (List.mem_of_mem_take hx)⟩
 rcases h.hb.at_ with h0|⟨b,off,hx,hc⟩
 · exact .inl (by omega)
 · refine .inr ⟨b,off,hx,fun j hj=>?_⟩
   rw [List.getElem?_take_of_lt hj];exact hc j (by omega)
theorem gm.ok8 {W:World} {F:Fr} {xw:Option Addr} {lw cw:Nat} {ws:List Wp} {xb:Option Addr} {lb cb:Nat} {body:List Int} (h:gm W F xw lw cw ws xb lb cb body):j7 W F xw lw cw ws xb lb cb body:=⟨h.prev,h.mac,h.wraps,h.body_,h.hw,h.hb⟩
theorem tz {seed:List Int} {m:Option (List Int)} {F:Fr} {lw:Nat} {ws:List Wp} {lb:Nat} {body:List Int} {E E':Ev} {n n':Int} (h:dc seed m F lw ws lb body E n) (h':dc seed m F lw ws lb body E' n'):E'=E∧n'=n:=by
 have hn:n'=n:=h'.1.trans h.1.symm;refine ⟨?_,hn⟩
 rcases h.2 with ⟨a,b⟩|⟨a,k,hk,b⟩
 · rcases h'.2 with ⟨a',b'⟩|⟨a',_⟩
   · rw [b,b']
   · exact absurd (hn▸a') a
 · rcases h'.2 with ⟨a',_⟩|⟨a',k',hk',b'⟩
   · exact absurd (hn▸a) a'
   · rw [hk] at hk'
     cases hk';rw [b,b']
theorem xi {seed:List Int} {M:Int→Int→Option (List Int)} {F:Fr} {lw:Nat} {ws:List Wp} {lb:Nat} {body:List Int} {e:Ending} (h:nT seed M F lw ws lb body e):∃(E:Ev) (n:Int),e=.returned (.tuple #[.agg E.cells.toArray,.int .i64 n])∧E.past.length=8∧dc seed (M F.ea F.es) F lw ws lb body E n:=by
 rcases h with ⟨h0,he⟩|⟨h0,k,hk,he⟩
 · exact ⟨evZ,_,he,rfl,rfl,.inl ⟨h0,rfl⟩⟩
 · exact ⟨ee k F lb body,0,he,iG _,h0.symm,.inr ⟨rfl,k,hk,rfl⟩⟩
theorem k8 (m:Nat) (hm:m≤255) (seed:List Int) (hs:seed.length=32) (F0:Fr) (xw:Option Addr) (lw0 cw:Nat) (ws0:List Wp) (xb0:Option Addr) (lb0 cb:Nat) (body0:List Int) (w:World) (hF0:gm w F0 xw lw0 cw ws0 xb0 lb0 cb body0) (hKT:S.KTab w) (hBT:BTab w):
    Calls Tryz.prog 4 #[.int .u8 (m:Int),.agg (row .u8 seed),.agg F0.cells.toArray] w fun e w'=>e=.returned (.bool true)∧Below w.heap.size w w':=by
 have hA:=(CellsAt.new w 23 (seed.map (Value.int .u8))).alloc (.cells F0.cells.toArray 43);have hB:=CellsAt.new (w.alloc (.cells (row .u8 seed) 23)) 43 F0.cells;rw [World.size_alloc] at hB
 have hb0:Below w.heap.size w ((w.alloc (.cells (row .u8 seed) 23)).alloc (.cells F0.cells.toArray 43)):=((Below.refl _ _).alloc (Nat.le_refl _) _).alloc (by simp) _;have HLV:ac (∀W,Below w.heap.size w W→Calls Tryz.prog 9 #[] W fun e w'=>e=.returned (.bool true)∧Below W.heap.size W w'):=⟨fun W hb=>uh W (hKT.below hb) (hBT.below hb)⟩
 have HKT:ac (∀W,Below w.heap.size w W→S.KTab W∧BTab W):=⟨fun W hb=>⟨hKT.below hb,hBT.below hb⟩⟩
 have iS:(Tryz.prog.info? 23).map (·.size)=some (seed.map (Value.int .u8)).length:=by rw [List.length_map,hs];exact ap
 have uF:=Tryz.underlying43;have uK:=Tryz.underlying23;have uD:=Tryz.underlying26;have uE:=Tryz.underlying33;have hrow:(row .u8 seed)=(seed.map (Value.int .u8)).toArray:=rfl;rw [hrow] at hB hb0 ⊢
 have HF0:=ac.mk hF0;obtain ⟨_,_,_,_,_,f36,f37,_⟩:=aL F0 hF0.prev hF0.mac;rw [hF0.wraps] at f36
 rw [hF0.body_] at f37
 have HS:=ac.mk hs;generalize hSV:seed.map (Value.int .u8)=SV at hA hB hb0 iS ⊢
 have HSV:=ac.mk hSV;clear hrow hs hKT hBT hF0 hSV;go_enter Tryz.func4,Tryz.ntmps4;go_upto_region 1 with fail
 refine ae (p:=fun y=>Code.wp _ _ _ _ y) (fun W=>Below w.heap.size w W∧CellsAt W w.heap.size 23 SV∧CellsAt W (w.heap.size+1) 43 F0.cells) ⟨hb0,hA,hB⟩ ?_;clear hb0 hA hB;rintro W ⟨hb,hA,hB⟩;have c36:W.cell? ⟨w.heap.size+1,36,none⟩=some (.slice xw lw0 cw):=(hB.cell 36).trans f36;have g36:=hB.frozen 36;have HSET:ac (∀W j (u:Value),Below w.heap.size w W→CellsAt W w.heap.size 23 SV→Below w.heap.size w (W.setCell ⟨w.heap.size+1,j,none⟩ u)∧CellsAt (W.setCell ⟨w.heap.size+1,j,none⟩ u) w.heap.size 23 SV):=⟨fun W j u h1 h2=>⟨h1.setCell (by show w.heap.size≤w.heap.size+1;omega) _,h2.congr (Below.heap_setCell _ _ _ _ (by show w.heap.size≠w.heap.size+1;omega))⟩⟩
 clear f36 f37;rename_i K1 hK1 K0 hK0;have REST:ac (∀(AC:Act) (W:World),(∃u:Nat→Value,AC=⟨#[.int .u8 (m:Int),u 1,u 2,u 3,.pointer (some ⟨w.heap.size,0,none⟩),.pointer (some ⟨w.heap.size+1,0,none⟩),u 6,u 7,u 8,u 9,u 10,u 11,u 12,u 13,u 14,u 15,u 16,u 17,u 18,u 19,u 20,u 21,u 22,u 23,u 24,u 25,u 26,u 27,u 28,u 29,u 30,u 31,u 32,u 33,u 34,u 35,u 36,u 37,u 38,u 39,u 40,u 41,u 42,u 43,u 44,u 45,u 46,u 47,u 48,u 49,u 50,u 51,u 52,u 53,u 54,u 55,u 56,u 57,u 58,u 59,u 60,u 61,u 62,u 63,u 64,u 65,u 66,u 67,u 68,u 69,u 70,u 71,u 72,u 73,u 74,u 75],[]⟩∧Below w.heap.size w W∧CellsAt W w.heap.size 23 SV∧∃F lw ws,gm w F xw lw cw ws xb0 lb0 cb body0∧CellsAt W (w.heap.size+1) 43 F.cells)→K1 AC W):=⟨by
  clear hK0 HF0 c36 g36 hA hB hb;clear K0 W;rintro AC W ⟨u,rfl,hb,hA,F1,lw,ws,hF1,hB⟩;apply hK1;clear hK1;clear K1;dsimp only;obtain ⟨_,_,_,_,_,_,f37,_⟩:=aL F1 hF1.prev hF1.mac;rw [hF1.body_] at f37
  have c37:W.cell? ⟨w.heap.size+1,37,none⟩=some (.slice xb0 lb0 cb):=(hB.cell 37).trans f37;have g37:=hB.frozen 37;have HF1:=ac.mk hF1;clear f37 hF1;go_upto_region 3 with fail
  rename_i K2 hK2 K0 hK0;have REST:ac (∀(AC:Act) (W:World),(∃u:Nat→Value,AC=⟨#[.int .u8 (m:Int),u 1,u 2,u 3,.pointer (some ⟨w.heap.size,0,none⟩),.pointer (some ⟨w.heap.size+1,0,none⟩),u 6,u 7,u 8,u 9,u 10,u 11,u 12,u 13,u 14,u 15,u 16,u 17,u 18,u 19,u 20,u 21,u 22,u 23,u 24,u 25,u 26,u 27,u 28,u 29,u 30,u 31,u 32,u 33,u 34,u 35,u 36,u 37,u 38,u 39,u 40,u 41,u 42,u 43,u 44,u 45,u 46,u 47,u 48,u 49,u 50,u 51,u 52,u 53,u 54,u 55,u 56,u 57,u 58,u 59,u 60,u 61,u 62,u 63,u 64,u 65,u 66,u 67,u 68,u 69,u 70,u 71,u 72,u 73,u 74,u 75],[]⟩∧Below w.heap.size w W∧CellsAt W w.heap.size 23 SV∧∃F lw ws xb lb body,gm w F xw lw cw ws xb lb cb body∧CellsAt W (w.heap.size+1) 43 F.cells)→K2 AC W):=⟨by
   clear hK0 HF1 c37 g37 hA hB hb HSET;clear K0 u W lw ws;rintro AC W ⟨u,rfl,hb,hA,F,lw,ws,xb,lb,body,hF,hB⟩;apply hK2;clear hK2;clear K2;dsimp only;obtain ⟨f70,_,_,f2,_,_,_,_⟩:=aL F hF.prev hF.mac;have HFC:ac (∀W,CellsAt W (w.heap.size+1) 43 F.cells→W.rangeAt (w.heap.size+1) 2 (dotC F.ea F.es)∧W.rangeAt (w.heap.size+1) 0 F.cells):=⟨fun W h=>⟨by have:=h.range 2 2;rw [f2] at this;exact this,h.wholeM⟩⟩
   have iF:(Tryz.prog.info? 43).map (·.size)=some F.cells.length:=by rw [f70];exact bw
   have iD:(Tryz.prog.info? 26).map (·.size)=some (dotC F.ea F.es).length:=aH;have hkm:=th ((m % 8:Nat):Int) seed F.ea F.es;obtain ⟨M,hM⟩:∃q,gL ((m % 8:Nat):Int) seed F.ea F.es=q:=⟨_,rfl⟩
   obtain ⟨LE,hLE⟩:∃q,kr ((m % 8:Nat):Int) seed F.ea F.es=q:=⟨_,rfl⟩
   have HRG:ac (∀W,Below w.heap.size w W→Calls Tryz.prog 6 #[.int .u8 (m:Int),.agg SV.toArray,.agg (dotC F.ea F.es).toArray] W fun e w'=>∃H O b v L vo,e=.returned (.tuple #[.pointer (some ⟨H,0,none⟩),.pointer (some ⟨O,0,none⟩)])∧aA w' W.heap.size H ((m % 8:Nat):Int) seed b M v L∧bm w' W.heap.size O ((m % 8:Nat):Int) seed vo LE∧Below W.heap.size W w'):=⟨fun W hb=>by
    rw [←HSV.out];refine (tX m hm seed HS.out F.ea F.es ⟨hF.inF.ea,hF.inF.es⟩ W (HKT.out W hb).1).mono ?_;rintro e w' ⟨H,O,b,v,L,vo,he,hr⟩;exact ⟨H,O,b,v,L,vo,he,by rw [←hM];exact hr.ring,by rw [←hLE];exact hr.rring,hr.below⟩⟩
   rw [hM,hLE] at hkm
   obtain ⟨OR,hOR⟩:∃q:Ev→Int→Prop,q=fun E n=>dc seed (M F.ea F.es) F lw ws lb body E n:=⟨_,rfl⟩
   have HDET:ac (∀E n E' n',OR E n→OR E' n'→E'=E∧n'=n):=⟨fun E n E' n' h h'=>by rw [hOR] at h h';exact tz h h'⟩
   have HOP:ac (∀W base H b v L,Below w.heap.size w W→aA W base H ((m % 8:Nat):Int) seed b M v L→Calls Tryz.prog 11 #[.pointer (some ⟨H,0,none⟩),.agg F.cells.toArray] W fun e w'=>∃(E:Ev) (n:Int),e=.returned (.tuple #[.agg E.cells.toArray,.int .i64 n])∧E.past.length=8∧OR E n∧Below W.heap.size W w'):=⟨fun W base H b v L hb hR=>by
    refine (ni base H _ seed b M v L W F xw lw cw ws xb lb cb body hR (HKT.out W hb).1 (HKT.out W hb).2 (hF.below hb).ok8 hF.inF hF.inW hF.inB).mono ?_;rintro e w' ⟨ho,hb'⟩;obtain ⟨E,n,he,hp,hr⟩:=xi ho;exact ⟨E,n,he,hp,by rw [hOR];exact hr,hb'⟩⟩
   have HRO:ac (∀W base O vo,Below w.heap.size w W→bm W base O ((m % 8:Nat):Int) seed vo LE→Calls Tryz.prog 12 #[.pointer (some ⟨O,0,none⟩),.agg F.cells.toArray] W fun e w'=>∃(E:Ev) (n:Int),e=.returned (.tuple #[.agg E.cells.toArray,.int .i64 n])∧E.past.length=8∧OR E n∧Below W.heap.size W w'):=⟨fun W base O vo hb hR=>by
    refine (qI base O _ seed vo LE W F xw lw cw ws xb lb cb body hR (hF.below hb).ok8 hF.inF hF.inW hF.inB).mono ?_;rintro e w' ⟨⟨E,n,he,hp,hr⟩,hb'⟩;rw [hkm] at hr
    exact ⟨E,n,he,hp,by rw [hOR];exact hr,hb'⟩⟩
   obtain ⟨CE,hCE⟩:∃q,checkE seed F lw ws lb body=q:=⟨_,rfl⟩
   have HCK:ac (∀W base H b v L,Below w.heap.size w W→aA W base H ((m % 8:Nat):Int) seed b M v L→Calls Tryz.prog 13 #[.pointer (some ⟨H,0,none⟩),.agg F.cells.toArray] W fun e w'=>e=.returned (.int .i64 CE)∧Below W.heap.size W w'):=⟨fun W base H b v L hb hR=>by
    have:=nk base H _ seed b M v L W F xw lw cw ws xb lb cb body hR (HKT.out W hb).1 (hF.below hb).ok8 hF.inF.mac;rw [hCE] at this
    exact this⟩
   have HRK:ac (∀W base O vo,Below w.heap.size w W→bm W base O ((m % 8:Nat):Int) seed vo LE→Calls Tryz.prog 14 #[.pointer (some ⟨O,0,none⟩),.agg F.cells.toArray] W fun e w'=>e=.returned (.int .i64 CE)∧Below W.heap.size W w'):=⟨fun W base O vo hb hR=>by
    have:=kp base O _ seed vo LE W F xw lw cw ws xb lb cb body hR (hF.below hb).ok8 hF.inF.number.1;rw [hCE] at this
    exact this⟩
   obtain ⟨SM,hSM⟩:∃q,la F lw lb ws body=q:=⟨_,rfl⟩
   have HSM:ac (∀W,Below w.heap.size w W→(Calls Tryz.prog 15 #[.agg F.cells.toArray] W fun e w'=>e=.returned (.agg (row .u8 SM))∧Below W.heap.size W w')∧(Calls Tryz.prog 16 #[.agg F.cells.toArray] W fun e w'=>e=.returned (.agg (row .u8 SM))∧Below W.heap.size W w')):=⟨fun W hb=>by
    have h1:=vm F xw lw cw ws xb lb cb body W (hF.below hb) (HKT.out W hb).1;have h2:=tI F xw lw cw ws xb lb cb body W (hF.below hb);rw [hSM] at h1 h2
    exact ⟨h1,h2⟩⟩
   have hSl:SM.length=32:=by
    rw [←hSM];unfold la
    split
    · exact S.sumL_length _
    · simp
   have HKQ:ac (∀wx,(binOp BinOp.eql 23 (.agg (row .u8 SM)) (.agg (row .u8 SM))).run Tryz.prog wx=.ok (.bool true) wx):=⟨fun wx=>by
    have:=key_eql SM SM hSl hSl wx;rw [show (SM==SM)=true by simp] at this
    exact this⟩
   clear hSM hSl hCE hOR hkm hM hLE hF f70 f2;generalize dotC F.ea F.es=DV at HFC HRG iD
   generalize F.cells=FC at hB HFC HOP HRO HCK HRK HSM iF
   obtain ⟨r2,rF⟩:=HFC.out W hB;have rA:=hA.wholeM;have hrg:=HRG.out W hb;go_upto_region 6 with (first
    |(refine af rfl 23 _ rfl _ _ rfl SV rA uK rfl iS ?_)
    |(refine af rfl 26 _ rfl _ _ rfl DV r2 uD rfl iD ?_)
    |(go_at_call 6;refine hrg.mono ?_;rintro e w1 ⟨H,O,b,v,L,vo,rfl,hR1,hO1,hb1⟩;clear hrg))
   refine ae (p:=fun y=>Code.wp _ _ _ _ y) (fun V=>Below w.heap.size w V∧CellsAt V (w.heap.size+1) 43 FC∧aA V W.heap.size H ((m % 8:Nat):Int) seed b M v L∧bm V W.heap.size O ((m % 8:Nat):Int) seed vo LE) ⟨hb.trans (hb1.mono hb.size),hB.farM hb1,hR1,hO1⟩ ?_;clear hb1 hR1 hO1 HRG r2 rF rA hA hB hb;obtain ⟨BS,hBS⟩:∃q,W.heap.size=q:=⟨_,rfl⟩
   rw [hBS];clear hBS;clear w1 W;rintro W ⟨hb,hB,hR,hO⟩;obtain ⟨-,rF⟩:=HFC.out W hB;have hop:=HOP.out W BS H b v L hb hR;obtain ⟨EZ,hEZ⟩:∃q,evZ.cells=q:=⟨_,rfl⟩
   have hz17:EZ.length=17:=by rw [←hEZ];rfl
   have hzE:∀wx,(zeroValue 33).run Tryz.prog wx=.ok (.agg EZ.toArray) wx:=fun wx=>by rw [←hEZ];kernel_rfl
   have hz1:¬EZ.toArray= #[]:=by rw [←hEZ];decide
   clear hEZ HOP;go_upto_region 7 with (first
    |(refine af rfl 43 _ rfl _ _ rfl FC rF uF rfl iF ?_)
    |(go_at_call 11;refine hop.mono ?_;rintro e w4 ⟨E,n,rfl,hEp,hor,hb4⟩;have hE1:=CellsAt.new w4 33 EZ;have iE:=bQ E hEp;have hE17:=(fX E hEp).2.2.2.2;have HEP:=ac.mk hEp;have HOR:=ac.mk hor;clear hop hEp hor)
    |(refine aq rfl 33 _ _ rfl _ rfl rfl hE1 iE (by rw [hz17,hE17]) (dh E) ?_))
   have hb5:Below w4.heap.size w4 ((w4.alloc (.cells EZ.toArray 33)).setRow w4.heap.size E.cells.toArray):=below_setRow ((Below.refl _ _).alloc (Nat.le_refl _) _) (Nat.le_refl _) _;have hb45:=hb4.trans (hb5.mono hb4.size);refine ae (p:=fun y=>Code.wp _ _ _ _ y) (fun V=>Below w.heap.size w V∧CellsAt V (w.heap.size+1) 43 FC∧aA V BS H ((m % 8:Nat):Int) seed b M v L∧bm V BS O ((m % 8:Nat):Int) seed vo LE∧CellsAt V w4.heap.size 33 E.cells) ⟨hb.trans (hb45.mono hb.size),hB.farM hb45,hR.far hb45,hO.far hb45,hE1.setRow _⟩ ?_;clear hb45 hb5 hb4 hE1 hb hB hR hO rF;obtain ⟨X,hX⟩:∃q,w4.heap.size=q:=⟨_,rfl⟩
   rw [hX];clear hX;clear w4 W;rintro W ⟨hb,hB,hR,hO,hX⟩;obtain ⟨-,rF⟩:=HFC.out W hB;have hop:Calls Tryz.prog 12 #[.pointer (some ⟨O,0,none⟩),.agg FC.toArray] W fun e w'=>e=.returned (.tuple #[.agg E.cells.toArray,.int .i64 n])∧Below W.heap.size W w':=(HRO.out W BS O vo hb hO).mono fun e w' ⟨E',n',he,_,hr,hb'⟩=>by
    obtain ⟨rfl,rfl⟩:=HDET.out _ _ _ _ HOR.out hr;exact ⟨he,hb'⟩
   clear HRO;go_upto_region 8 with (first
    |(refine af rfl 43 _ rfl _ _ rfl FC rF uF rfl iF ?_)
    |(go_at_call 12;refine hop.mono ?_;rintro e w4 ⟨rfl,hb4⟩;have hE1:=CellsAt.new w4 33 EZ;clear hop)
    |(refine aq rfl 33 _ _ rfl _ rfl rfl hE1 iE (by rw [hz17,hE17]) (dh E) ?_))
   have hb5:Below w4.heap.size w4 ((w4.alloc (.cells EZ.toArray 33)).setRow w4.heap.size E.cells.toArray):=below_setRow ((Below.refl _ _).alloc (Nat.le_refl _) _) (Nat.le_refl _) _;have hb45:=hb4.trans (hb5.mono hb4.size);refine ay (fun w'=>w'.rangeAt X 0 E.cells∧w'.rangeAt w4.heap.size 0 E.cells∧w'.rangeAt (w.heap.size+1) 0 FC) (fun _=>True) 99 (by kernel_rfl) ?_;refine ae (p:=fun y=>aM _ _ _ _ _ _ _ _ _ _ y) (fun V=>Below w.heap.size w V∧CellsAt V (w.heap.size+1) 43 FC∧aA V BS H ((m % 8:Nat):Int) seed b M v L∧bm V BS O ((m % 8:Nat):Int) seed vo LE∧CellsAt V X 33 E.cells∧CellsAt V w4.heap.size 33 E.cells) ⟨(hb.trans (hb45.mono hb.size)).drew,(hB.farM hb45).congr rfl,(hR.far hb45).far (Below.refl _ _).drew,(hO.far hb45).far (Below.refl _ _).drew,(hX.farM hb45).congr rfl,(hE1.setRow E.cells).congr rfl⟩ ?_;clear hb45 hb5 hb4 hE1 hb hB hR hO hX rF hzE hz1;obtain ⟨Y,hY⟩:∃q,w4.heap.size=q:=⟨_,rfl⟩
   rw [hY];clear hY;clear w4 W;rintro V0 ⟨hb,hB,hR,hO,hX,hY⟩;have heqE:=fun wx=>pq E HEP.out wx
   have HFAR:ac (∀V,Below V0.heap.size V0 V→Below w.heap.size w V∧aA V BS H ((m % 8:Nat):Int) seed b M v L∧bm V BS O ((m % 8:Nat):Int) seed vo LE∧(fun w':World=>w'.rangeAt X 0 E.cells∧w'.rangeAt Y 0 E.cells∧w'.rangeAt (w.heap.size+1) 0 FC) V):=⟨fun V h=>⟨hb.trans (h.mono hb.size),hR.far h,hO.far h,(hX.farM h).wholeM,(hY.farM h).wholeM,(hB.farM h).wholeM⟩⟩
   have hnn:(n==n)=true:=by simp
   have hcc:(CE==CE)=true:=by simp
   have heqK:=HKQ.out;clear hb hB hR hO hX hY HEP HOR HKQ HDET hz17 hE17;generalize E.cells=EC at iE heqE HFAR ⊢
   obtain ⟨hbw,-,-,hT⟩:=HFAR.out V0 (Below.refl _ _);have hS:=trivial;have hlv:=HLV.out V0 hbw;refine zm 0 fun K hK=>?_
   refine aC _ _ (by kernel_rfl) (hlv.mono ?_);rintro e V1 ⟨rfl,hb1⟩;refine ⟨_,rfl,?_⟩;obtain ⟨hbw1,hR1,hO1,hT1⟩:=HFAR.out V1 hb1;replace hT:=hT1;have hck:=HCK.out V1 BS H b v L hbw1 hR1;clear hT1 hbw hlv hR1 hO1 hbw1;refine hK.out _ _ hT (fun _=>hS) ?_;clear hK K
   try simp only [zp]
   refine ghA 1 _ hT hS ?_;simp only [zp];refine zh 2 51 33 9 X 0 EC hT hS (fun _ h=>h.1) uE iE ?_;simp only [zp];refine zh 3 52 33 11 Y 0 EC hT hS (fun _ h=>h.2.1) uE iE ?_;simp only [zp];refine ghA 4 (.bool true) hT hS ?_;simp only [zp];refine ghA 5 _ hT hS ?_;simp only [zp];refine ghA 6 _ hT hS ?_;simp only [zp];refine ghA 7 _ hT hS ?_;simp only [zp];refine ghA 8 _ hT hS ?_;simp only [zp];refine ghA 9 (.bool true) hT hS ?_;simp only [zp];refine ghA 10 _ hT hS ?_;simp only [zp];refine ghA 11 _ hT hS ?_;simp only [zp];refine ghA 12 _ hT hS ?_;simp only [zp];refine zh 13 62 43 5 (w.heap.size+1) 0 FC hT hS (fun _ h=>h.2.2) uF iF ?_;simp only [zp];refine ghA 15 _ hT hS ?_;simp only [zp];refine zh 16 65 43 5 (w.heap.size+1) 0 FC hT hS (fun _ h=>h.2.2) uF iF ?_;simp only [zp];refine zm 14 fun K hK=>?_
   refine aC _ _ (by kernel_rfl) (hck.mono ?_);rintro e V2 ⟨rfl,hb2⟩;refine ⟨_,rfl,?_⟩;have hb12:=hb1.trans (hb2.mono hb1.size);obtain ⟨hbw1,hR1,hO1,hT1⟩:=HFAR.out V2 hb12;replace hT:=hT1;have hrk:=HRK.out V2 BS O vo hbw1 hO1;clear hT1 hck hR1 hO1 hbw1 hb1 hb2;refine hK.out _ _ hT (fun _=>hS) ?_;clear hK K
   try simp only [zp]
   refine zm 17 fun K hK=>?_
   refine aC _ _ (by kernel_rfl) (hrk.mono ?_);rintro e V3 ⟨rfl,hb3⟩;refine ⟨_,rfl,?_⟩;have hb13:=hb12.trans (hb3.mono hb12.size);obtain ⟨hbw1,-,-,hT1⟩:=HFAR.out V3 hb13;replace hT:=hT1;have hsm:=(HSM.out V3 hbw1).1;clear hT1 hrk hbw1 hb12 hb3;refine hK.out _ _ hT (fun _=>hS) ?_;clear hK K
   try simp only [zp]
   refine ghA 18 (.bool true) hT hS ?_;simp only [zp];refine ghA 19 _ hT hS ?_;simp only [zp];refine ghA 20 _ hT hS ?_;simp only [zp];refine zh 21 70 43 5 (w.heap.size+1) 0 FC hT hS (fun _ h=>h.2.2) uF iF ?_;simp only [zp];refine zh 23 72 43 5 (w.heap.size+1) 0 FC hT hS (fun _ h=>h.2.2) uF iF ?_;simp only [zp];refine zm 22 fun K hK=>?_
   refine aC _ _ (by kernel_rfl) (hsm.mono ?_);rintro e V4 ⟨rfl,hb4⟩;refine ⟨_,rfl,?_⟩;have hb14:=hb13.trans (hb4.mono hb13.size);obtain ⟨hbw1,-,-,hT1⟩:=HFAR.out V4 hb14;replace hT:=hT1;have hsm2:=(HSM.out V4 hbw1).2;clear hT1 hsm hbw1 hb13 hb4;refine hK.out _ _ hT (fun _=>hS) ?_;clear hK K
   try simp only [zp]
   refine zm 24 fun K hK=>?_
   refine aC _ _ (by kernel_rfl) (hsm2.mono ?_);rintro e V5 ⟨rfl,hb5⟩;refine ⟨_,rfl,?_⟩;have hb15:=hb14.trans (hb5.mono hb14.size);obtain ⟨hbw1,-,-,hT1⟩:=HFAR.out V5 hb15;replace hT:=hT1;clear hT1 hsm2 hb14 hb5 hb15;refine hK.out _ _ hT (fun _=>hS) ?_;clear hK K
   try simp only [zp]
   refine ghA 25 (.bool true) hT hS ?_;simp only [zp];refine ghA 26 _ hT hS ?_;simp only [zp];refine ghA 27 _ hT hS ?_;simp only [zp];refine aB (by kernel_rfl) ?_ _;clear hT hS heqE heqK;go_wp2;go_ret;exact ⟨rfl,hbw1⟩⟩
  clear hK2
  by_cases hl:4200<lb0
  · obtain ⟨b3,o3,rfl⟩:∃b o,xb0=some ⟨b,o,none⟩:=by
     rcases HF1.out.hb.at_ with h0|⟨b,o,hx,_⟩
     · omega
     · exact ⟨b,o,hx⟩
    have hcut:=fun wx=>t8 wx b3 o3 lb0 cb (by have:=HF1.out.hb.le;omega)
    have hl':(lb0:Int)>4200:=by omega
    have HX:=ac.mk (HSET.out W 37 (.slice (some ⟨b3,o3,none⟩) 4200 cb) hb hA);have HY:ac (CellsAt (W.setCell ⟨w.heap.size+1,37,none⟩ (.slice (some ⟨b3,o3,none⟩) 4200 cb)) (w.heap.size+1) 43 ({F1 with body:=.slice (some ⟨b3,o3,none⟩) 4200 cb}:Fr).cells):=⟨by rw [←o9 F1 _ HF1.out.prev];exact hB.set 37 _⟩
    clear hb hA hB;go_wp2;exact REST.out _ _ (lF (by kernel_rfl) ⟨HX.out.1,HX.out.2,_,_,_,_,_,_,HF1.out.cutB8 4200 (by omega),HY.out⟩)
  · have hl':¬(lb0:Int)>4200:=by omega
    go_wp2;exact REST.out _ _ (lF (by kernel_rfl) ⟨hb,hA,_,_,_,_,_,_,HF1.out,hB⟩)⟩
 clear hK1
 by_cases hl:70<lw0
 · obtain ⟨b3,o3,rfl⟩:∃b o,xw=some ⟨b,o,none⟩:=by
    rcases HF0.out.hw.at_ with h0|⟨b,o,hx,_⟩
    · omega
    · exact ⟨b,o,hx⟩
   have hcut:=fun wx=>uu wx b3 o3 lw0 cw (by have:=HF0.out.hw.le;omega)
   have hl':(lw0:Int)>70:=by omega
   have HX:=ac.mk (HSET.out W 36 (.slice (some ⟨b3,o3,none⟩) 70 cw) hb hA);have HY:ac (CellsAt (W.setCell ⟨w.heap.size+1,36,none⟩ (.slice (some ⟨b3,o3,none⟩) 70 cw)) (w.heap.size+1) 43 ({F0 with wraps:=.slice (some ⟨b3,o3,none⟩) 70 cw}:Fr).cells):=⟨by rw [←uG F0 _ HF0.out.prev];exact hB.set 36 _⟩
   clear hb hA hB;go_wp2;exact REST.out _ _ (lF (by kernel_rfl) ⟨HX.out.1,HX.out.2,_,_,_,HF0.out.cutW8 70 (by omega),HY.out⟩)
 · have hl':¬(lw0:Int)>70:=by omega
   go_wp2;exact REST.out _ _ (lF (by kernel_rfl) ⟨hb,hA,_,_,_,HF0.out,hB⟩)
theorem frameOpens_walkI (n:Int) (hn:0≤n∧n≤255) (seed:List Int) (hs:seed.length=32) (F:Fr) (xw:Option Addr) (lw cw:Nat) (ws:List Wp) (xb:Option Addr) (lb cb:Nat) (body:List Int) (w:World) (hF:gm w F xw lw cw ws xb lb cb body) (hKT:S.KTab w) (hBT:BTab w):
    Calls Tryz.prog 4 #[.int .u8 n,.agg (row .u8 seed),.agg F.cells.toArray] w fun e w'=>e=.returned (.bool true)∧Below w.heap.size w w':=by
 obtain ⟨m,rfl⟩:=Int.eq_ofNat_of_zero_le hn.1;exact k8 m (by have:=hn.2;omega) seed hs F xw lw cw ws xb lb cb body w hF hKT hBT
end Go.Proofs.YtbdhfbglagdiaaaGreatDoor
