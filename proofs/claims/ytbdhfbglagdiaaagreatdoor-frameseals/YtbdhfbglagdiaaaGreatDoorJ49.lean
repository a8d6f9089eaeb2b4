/- Few7 Frg Flv -/
import Derived.Test.YtbdhfbglagdiaaaGreatDoorJ10
import Derived.Test.YtbdhfbglagdiaaaGreatDoorJ02
import Derived.Test.YtbdhfbglagdiaaaGreatDoorJ33
import Derived.Test.YtbdhfbglagdiaaaGreatDoorJ26
import Derived.Test.YtbdhfbglagdiaaaGreatDoorJ47
namespace Go.Proofs.YtbdhfbglagdiaaaGreatDoor
open Go.RowKit
set_option maxRecDepth 20000
set_option maxHeartbeats 8000000
set_option linter.unusedSimpArgs false
theorem wV (q:Aq) (v:Value) (hs:q.seed.length=32) (hp:q.prev.length=32):q.cells.set 68 v=({q with wraps:=v}:Aq).cells:=by
 have e0:∀r:Aq,r.cells=([Value.int .u8 r.own]++r.seed.map (Value.int .u8)++ [Value.int .u32 r.num]++r.prev.map (Value.int .u8)++dotC r.ea r.es)++([r.wraps]++r.E.cells):=fun r=>by unfold Aq.cells;simp only [List.append_assoc]
 have hl:(([Value.int .u8 q.own]:List Value)++q.seed.map (Value.int .u8)++ [Value.int .u32 q.num]++q.prev.map (Value.int .u8)++dotC q.ea q.es).length=68:=by simp [dotC,hs,hp]
 rw [e0 q,e0 _,List.set_append_right _ _ (by omega),hl];rfl
theorem vy (q:Aq) {x:Option Addr} {n c:Nat} (hw:q.wraps=.slice x n c):∀v∈q.cells,v.oneCell'=true:=by
 intro v hv;unfold Aq.cells dotC at hv
 simp only [List.mem_append,List.mem_cons,List.not_mem_nil,or_false,List.mem_map,hw] at hv
 rcases hv with (((((rfl|⟨x,_,rfl⟩)|rfl)|⟨x,_,rfl⟩)|rfl|rfl)|rfl)|h
 all_goals first|rfl|exact fD q.E v h
theorem uy (w:World) (b o len cap:Nat) (hh:70≤cap):(Instr.slice 27 (.slice (some ⟨b,o,none⟩) len cap) none (some (.int .i64 70)) none).run Tryz.prog w=.ok (.slice (some ⟨b,o,none⟩) 70 cap) w:=by
 rw [run_slice_h w 27 (some ⟨b,o,none⟩) len cap (by kernel_rfl:Tryz.prog.underlying 27=some (.slice (Tryz.prog.elem 27))) .i64 70 (by omega) (by omega),(by kernel_rfl:(sizeOf (Tryz.prog.elem 27)).run Tryz.prog w=.ok 51 w)];simp [sliced,Result.andThen,Addr.add_mid']
theorem AqIn.cut {W:World} {q:Aq} {xw:Option Addr} {lw cw:Nat} {ws:List Wp} (h:AqIn W q xw lw cw ws) (n:Nat) (hn:n≤lw):AqIn W {q with wraps:=.slice xw n cw} xw n cw (ws.take n):=by
 have hl:=h.hw.len_eq;refine ⟨h.own,h.seed,h.seedI,h.num,h.prev,h.prevI,h.ea,h.es,rfl,⟨by rw [List.length_take];omega,by have:=h.hw.le;omega,h.hw.top,h.hw.nil,fun e he=>h.hw.ok e (List.mem_of_mem_take he),?_⟩,fun x hx=>h.inW x (List.mem_of_mem_take hx),h.E⟩
 rcases h.hw.at_ with h0|⟨b,off,hx,hc⟩
 · exact .inl (by omega)
 · exact .inr ⟨b,off,hx,fun j hj=>by rw [List.getElem_take];exact hc j (by rw [List.length_take] at hj;omega)⟩
theorem AqIn.below {W W':World} {q:Aq} {xw:Option Addr} {lw cw:Nat} {ws:List Wp} (h:AqIn W q xw lw cw ws) (hb:Below W.heap.size W W'):AqIn W' q xw lw cw ws:=⟨h.own,h.seed,h.seedI,h.num,h.prev,h.prevI,h.ea,h.es,h.wraps,h.hw.below hb,h.inW,h.E⟩
theorem qJ:(Tryz.prog.info? 35).map (·.size)=some 86:=by kernel_rfl
theorem vY (q:Aq) (xw:Option Addr) (lw cw:Nat) (ws:List Wp) (w:World) (h:AqIn w q xw lw cw ws):
    Calls Tryz.prog 5 #[.agg q.cells.toArray] w fun e w'=>∃(q':Aq) (n:Nat) (vs:List Wp),e=.returned (.agg q'.cells.toArray)∧(∀w0,AqIn w0 q xw lw cw ws→AqIn w0 q' xw n cw vs)∧(n≤70∧q'.own=q.own∧q'.seed=q.seed∧q'.num=q.num∧q'.prev=q.prev∧q'.ea=q.ea∧q'.es=q.es∧q'.E=q.E)∧Below w.heap.size w w':=by
 obtain ⟨q86,_,_,_,_,_,q68,_⟩:=aq_parts q h.seed h.prev h.E.plen;rw [h.wraps] at q68
 obtain ⟨Z,hzv,hz1,hZ⟩:∃Z:List Value,(∀wx,(zeroValue 35).run Tryz.prog wx=.ok (.agg Z.toArray) wx)∧¬Z.toArray= #[]∧Z.length=86:=⟨aqZ.cells,fun wx=>by kernel_rfl,by decide,rfl⟩
 have hA:=(CellsAt.new w 35 q.cells).alloc (.cells Z.toArray 35);have hR:=CellsAt.new (w.alloc (.cells q.cells.toArray 35)) 35 Z;rw [World.size_alloc] at hR
 have hb0:Below w.heap.size w ((w.alloc (.cells q.cells.toArray 35)).alloc (.cells Z.toArray 35)):=((Below.refl _ _).alloc (Nat.le_refl _) _).alloc (by simp) _;have HQ:=ac.mk h;have HP86:ac (∀(q':Aq) n vs,AqIn w q' xw n cw vs→q'.cells.length=86∧∀v∈q'.cells,v.oneCell'=true):=⟨fun q' n vs h'=>⟨(aq_parts q' h'.seed h'.prev h'.E.plen).1,vy q' h'.wraps⟩⟩
 clear h;have uA:=Tryz.underlying35;go_enter Tryz.func5,Tryz.ntmps5;go_upto_region 1 with fail
 refine af (p:=fun y=>Code.wp _ _ _ _ y) (fun W=>Below w.heap.size w W∧CellsAt W w.heap.size 35 q.cells∧CellsAt W (w.heap.size+1) 35 Z) ⟨hb0,hA,hR⟩ ?_;clear hb0 hA hR hzv hz1;rintro W ⟨hb,hA,hR⟩;have c68:W.cell? ⟨w.heap.size,68,none⟩=some (.slice xw lw cw):=(hA.cell 68).trans q68;have g68:=hA.frozen 68
 by_cases hl:70<lw
 focus
  obtain ⟨b3,o3,rfl⟩:∃b o,xw=some ⟨b,o,none⟩:=by
   rcases HQ.out.hw.at_ with h0|⟨b,o,hx,_⟩
   · omega
   · exact ⟨b,o,hx⟩
  have hcb:=HQ.out.hw.le;have hcut:=fun wx=>uy wx b3 o3 lw cw (by omega)
  have hl':(lw:Int)>70:=by omega
  go_upto_region 3 with fail
  have hX:∃(q':Aq) (n:Nat) (vs:List Wp),(∀w0,AqIn w0 q (some ⟨b3,o3,none⟩) lw cw ws→AqIn w0 q' (some ⟨b3,o3,none⟩) n cw vs)∧(n≤70∧q'.own=q.own∧q'.seed=q.seed∧q'.num=q.num∧q'.prev=q.prev∧q'.ea=q.ea∧q'.es=q.es∧q'.E=q.E)∧CellsAt (W.setCell ⟨w.heap.size,68,none⟩ (.slice (some ⟨b3,o3,none⟩) 70 cw)) w.heap.size 35 q'.cells:=⟨_,_,_,fun w0 h0=>h0.cut 70 (by omega),⟨by omega,rfl,rfl,rfl,rfl,rfl,rfl,rfl⟩,by rw [←wV q _ HQ.out.seed HQ.out.prev];exact hA.set 68 _⟩
  refine af (p:=fun y=>Code.wp _ _ _ _ y) (fun W=>Below w.heap.size w W∧CellsAt W (w.heap.size+1) 35 Z∧∃(q':Aq) (n:Nat) (vs:List Wp),(∀w0,AqIn w0 q (some ⟨b3,o3,none⟩) lw cw ws→AqIn w0 q' (some ⟨b3,o3,none⟩) n cw vs)∧(n≤70∧q'.own=q.own∧q'.seed=q.seed∧q'.num=q.num∧q'.prev=q.prev∧q'.ea=q.ea∧q'.es=q.es∧q'.E=q.E)∧CellsAt W w.heap.size 35 q'.cells) ⟨hb.setCell (Nat.le_refl _) _,hR.congr (Below.heap_setCell _ _ _ _ (by show w.heap.size+1≠w.heap.size;omega)),hX⟩ ?_;clear hcut hl hl' hcb hb hA hR c68 g68 hX;clear W
 rotate_left
 focus
  have hl':¬(lw:Int)>70:=by omega
  go_upto_region 3 with fail
  have hX:∃(q':Aq) (n:Nat) (vs:List Wp),(∀w0,AqIn w0 q xw lw cw ws→AqIn w0 q' xw n cw vs)∧(n≤70∧q'.own=q.own∧q'.seed=q.seed∧q'.num=q.num∧q'.prev=q.prev∧q'.ea=q.ea∧q'.es=q.es∧q'.E=q.E)∧CellsAt W w.heap.size 35 q'.cells:=⟨q,lw,ws,fun _ h0=>h0,⟨by omega,rfl,rfl,rfl,rfl,rfl,rfl,rfl⟩,hA⟩
  refine af (p:=fun y=>Code.wp _ _ _ _ y) (fun W=>Below w.heap.size w W∧CellsAt W (w.heap.size+1) 35 Z∧∃(q':Aq) (n:Nat) (vs:List Wp),(∀w0,AqIn w0 q xw lw cw ws→AqIn w0 q' xw n cw vs)∧(n≤70∧q'.own=q.own∧q'.seed=q.seed∧q'.num=q.num∧q'.prev=q.prev∧q'.ea=q.ea∧q'.es=q.es∧q'.E=q.E)∧CellsAt W w.heap.size 35 q'.cells) ⟨hb,hR,hX⟩ ?_;clear hl hl' hb hA hR c68 g68 hX;clear W
 all_goals (
  rintro W ⟨hb,hR,q',n,vs,hq,hrest,hA⟩;obtain ⟨h86,h1⟩:=HP86.out q' n vs (hq w HQ.out);have iA:(Tryz.prog.info? 35).map (·.size)=some q'.cells.length:=by rw [h86];exact qJ
  have rA:=hA.wholeM;have HREST:=ac.mk (And.intro hq hrest);clear hq hrest
  go_wp2_with (first
   |(refine ae rfl 35 _ rfl _ _ rfl q'.cells rA uA rfl iA ?_)
   |(refine aw rfl 35 _ _ rfl _ rfl rfl hR iA (by rw [hZ,h86]) h1 ?_))
  refine bodyPost_ret (dy (Tryz.results5) _ rfl (hR.setRow q'.cells) Tryz.underlying35 rfl iA) rfl ⟨q',n,vs,rfl,HREST.out.1,HREST.out.2,below_setRow hb (by omega) _⟩)
def fi (own:Int) (seed:List Int) (ea es:Int):Int→Int→Option (List Int):=if es % 2=0∧eh own seed ea es=none then gT (eh own seed) ea es seed else eh own seed
def jC (own:Int) (seed:List Int) (ea es:Int):List Ep:=if es % 2=0 then mC (dP own seed) ea es seed else dP own seed
structure sG (w w':World) (H O:Nat) (own:Int) (seed:List Int) (ea es:Int) (b:Nat) (v:Value) (L:List (Int×Int)) (vo:Value):Prop where
 ring:aB w' w.heap.size H own seed b (fi own seed ea es) v L
 rring:bw w' w.heap.size O own seed vo (jC own seed ea es)
 below:Below w.heap.size w w'
theorem aB.lessB {w:World} {base base' H:Nat} {own:Int} {seed:List Int} {b:Nat} {M:Int→Int→Option (List Int)} {v:Value} {L:List (Int×Int)} (h:aB w base H own seed b M v L) (hb:base'≤base):aB w base' H own seed b M v L:=
 ⟨h.box,h.map,⟨h.added.1,by
  rcases h.added.2 with q|⟨g,cap,cur,h1,h2,h3⟩
  · exact .inl q
  · exact .inr ⟨g,cap,cur,h1,by omega,h3⟩⟩,h.seed32,h.is32,h.lenL,by have:=h.baseH;omega,by have:=h.baseB;omega⟩
theorem bw.lessB {w:World} {base base' O:Nat} {own:Int} {seed:List Int} {v:Value} {L:List Ep} (h:bw w base O own seed v L) (hb:base'≤base):bw w base' O own seed v L:=⟨h.box,h.own.less hb,h.seed32,h.k32,h.lenL,by have:=h.baseO;omega⟩
theorem tR (m:Nat) (hm:m≤255) (seed:List Int) (hs:seed.length=32) (ea es:Int) (ho:okD ea es) (w:World) (hKT:S.KTab w):
    Calls Tryz.prog 6 #[.int .u8 (m:Int),.agg (row .u8 seed),.agg (dotC ea es).toArray] w fun e w'=>∃H O b v L vo,e=.returned (.tuple #[.pointer (some ⟨H,0,none⟩),.pointer (some ⟨O,0,none⟩)])∧sG w w' H O ((m % 8:Nat):Int) seed ea es b v L vo:=by
 have hS:=CellsAt.new w 23 (seed.map (Value.int .u8));have hS0:=hS.alloc (.cells (dotC ea es).toArray 26);have hD0:=CellsAt.new (w.alloc (.cells (row .u8 seed) 23)) 26 (dotC ea es);rw [World.size_alloc] at hD0
 have hb0:Below w.heap.size w ((w.alloc (.cells (row .u8 seed) 23)).alloc (.cells (dotC ea es).toArray 26)):=((Below.refl _ _).alloc (Nat.le_refl _) _).alloc (by simp) _;obtain ⟨o,hoe⟩:∃q:Nat,m % 8=q:=⟨_,rfl⟩
 have ho8:(o:Int)<8:=by omega
 have hrem:(m:Int).tmod 8=(o:Int):=by rw [Int.tmod_eq_emod_of_nonneg (by omega),←hoe];rfl
 have hm0:(0:Int)≤(m:Int):=by omega
 have hm5:(m:Int)≤255:=by omega
 rw [hoe];clear hoe;have HKT:ac (∀W,Below w.heap.size w W→S.KTab W):=⟨fun W hb=>hKT.below hb⟩
 have HN:ac (∀W,Below w.heap.size w W→Calls Tryz.prog 17 #[.int .u8 (o:Int),.agg (row .u8 seed)] W fun e w'=>∃H b v,e=.returned (.pointer (some ⟨H,0,none⟩))∧aB w' W.heap.size H (o:Int) seed b (eh (o:Int) seed) v (iC (o:Int))∧Below W.heap.size W w'):=⟨fun W hb=>sp (o:Int) seed W ho8 hs (HKT.out W hb)⟩
 have HRN:ac (∀W,Calls Tryz.prog 18 #[.int .u8 (o:Int),.agg (row .u8 seed)] W fun e w'=>∃O v,e=.returned (.pointer (some ⟨O,0,none⟩))∧bw w' W.heap.size O (o:Int) seed v (dP (o:Int) seed)∧Below W.heap.size W w'):=⟨fun W=>by
  refine (wC (o:Int) seed W ho8 hs).mono ?_;rintro e w' ⟨O,v,he,hx,hE,hO,hb⟩;refine ⟨O,v,he,bw.ofNew hx hE hs (fun e he=>?_) ?_ hO,hb⟩
  · unfold dP at he
    split at he
    · rw [List.mem_singleton.1 he];exact aV _ _
    · cases he
  · unfold dP;split<;>simp⟩
 have iS:(Tryz.prog.info? 23).map (·.size)=some (seed.map (Value.int .u8)).length:=by rw [List.length_map,hs];exact ap
 have iD:(Tryz.prog.info? 26).map (·.size)=some (dotC ea es).length:=sizeDot;have uK:=Tryz.underlying23;have uD:=Tryz.underlying26;clear hKT hS;go_enter Tryz.func6,Tryz.ntmps6;go_upto_region 1 with fail
 refine au (fun w'=>w'.rangeAt w.heap.size 0 (seed.map (Value.int .u8))) (fun _=>True) 99 (by kernel_rfl) ?_;refine af (p:=fun y=>aO _ _ _ _ _ _ _ _ _ _ y) (fun V=>Below w.heap.size w V∧CellsAt V w.heap.size 23 (seed.map (Value.int .u8))∧CellsAt V (w.heap.size+1) 26 (dotC ea es)) ⟨hb0.drew,hS0.congr rfl,hD0.congr rfl⟩ ?_;clear hb0 hS0 hD0;rintro V ⟨hb,hSd,hDd⟩;have hT:(fun w':World=>w'.rangeAt w.heap.size 0 (seed.map (Value.int .u8))) V:=hSd.wholeM;have hS:=trivial;refine ghA 0 _ hT hS ?_;simp only [zp];refine ghA 1 _ hT hS ?_;simp only [zp];refine ghA 4 _ hT hS ?_;simp only [zp];refine ghA 5 _ hT hS ?_;simp only [zp];refine zh 2 12 23 4 w.heap.size 0 (seed.map (Value.int .u8)) hT hS (fun _ h=>h) uK iS ?_;simp only [zp];refine zh 6 16 23 4 w.heap.size 0 (seed.map (Value.int .u8)) hT hS (fun _ h=>h) uK iS ?_;simp only [zp];refine zm 3 fun K hK=>?_
 refine aC _ _ (by kernel_rfl) ((HN.out V hb).mono ?_);rintro e w1 ⟨H,b,v,rfl,hR1,hb1⟩;refine ⟨_,rfl,?_⟩;have hS1:=hSd.farM hb1;have hB1:=hb.trans (hb1.mono hb.size);replace hT:(fun w':World=>w'.rangeAt w.heap.size 0 (seed.map (Value.int .u8))) w1:=hS1.wholeM;refine hK.out _ _ hT (fun _=>hS) ?_;clear hK K
 try simp only [zp]
 refine zm 7 fun K hK=>?_
 refine aC _ _ (by kernel_rfl) ((HRN.out w1).mono ?_);rintro e w2 ⟨O,vo,rfl,hO2,hb2⟩;refine ⟨_,rfl,?_⟩;have hS2:=hS1.farM hb2;have hD2:=(hDd.farM hb1).farM hb2;have hB2:=hB1.trans (hb2.mono hB1.size);replace hT:(fun w':World=>w'.rangeAt w.heap.size 0 (seed.map (Value.int .u8))) w2:=hS2.wholeM;refine hK.out _ _ hT (fun _=>hS) ?_;clear hK K
 try simp only [zp]
 refine ghA 8 _ hT hS ?_;simp only [zp];refine ghA 9 _ hT hS ?_;simp only [zp];refine az (by kernel_rfl) ?_ _;have HSEP:ac (∀g,dC H b v g→¬rrB O vo g):=⟨fun g h1 h2=>by
  have q1:=(hR1.inside g h1).1;have q2:=(hO2.inside g h2).2;omega⟩
 refine af (p:=fun y=>Exit.then _ _ _ _ y) (fun W=>Below w.heap.size w W∧CellsAt W w.heap.size 23 (seed.map (Value.int .u8))∧CellsAt W (w.heap.size+1) 26 (dotC ea es)∧aB W V.heap.size H (o:Int) seed b (eh (o:Int) seed) v (iC (o:Int))∧bw W w1.heap.size O (o:Int) seed vo (dP (o:Int) seed)) ⟨hB2,hS2,hD2,hR1.far hb2,hO2⟩ ?_;have hV2:w.heap.size+2≤V.heap.size:=hDd.lt;have h1V:=hb1.size;clear hT hS hB2 hS2 hD2 hb2 hO2 hS1 hB1 hb1 hR1 hb hSd hDd HRN HN;obtain ⟨s1,hs1⟩:∃q,V.heap.size=q:=⟨_,rfl⟩
 obtain ⟨s2,hs2⟩:∃q,w1.heap.size=q:=⟨_,rfl⟩
 rw [hs1,hs2] at h1V
 rw [hs1] at hV2
 rw [hs1,hs2];clear hs1 hs2;clear w2 w1 V;rintro W ⟨hb,hSd,hDd,hR,hO⟩;have c1:W.cell? ⟨w.heap.size+1,1,none⟩=some (.int .u32 es):=hDd.cell 1;have hes0:=ho.2.1;have HR:=ac.mk hR;have HO:=ac.mk hO;clear hR hO;obtain ⟨rr,hrr⟩:∃q,es.tmod 2=q:=⟨_,rfl⟩
 by_cases h2:es % 2=0
 rotate_left
 · have hrm:(rr==0)=false:=by rw [←hrr,Int.tmod_eq_emod_of_nonneg hes0];simpa using h2
   have HM:ac (fi (o:Int) seed ea es=eh (o:Int) seed∧jC (o:Int) seed ea es=dP (o:Int) seed):=⟨by unfold fi;rw [if_neg (fun q=>h2 q.1)],by unfold jC;rw [if_neg h2]⟩
   clear h2;go_wp2
   go_ret2
   exact ⟨_,_,b,v,_,vo,rfl,⟨by rw [HM.out.1];exact HR.out.lessB (by omega),by rw [HM.out.2];exact HO.out.lessB (by omega),hb⟩⟩
 have hrm:(rr==0)=true:=by rw [←hrr,Int.tmod_eq_emod_of_nonneg hes0];simpa using h2
 have rS:=hSd.wholeM;have rD:=hDd.wholeM;have HSP:ac (∀g,g<s1→¬dC H b v g∧¬rrB O vo g):=⟨fun g hg=>⟨fun q=>by have:=(HR.out.inside g q).2;omega,fun q=>by have:=(HO.out.inside g q).2;omega⟩⟩
 have hAdd:Calls Tryz.prog 19 #[.pointer (some ⟨H,0,none⟩),.agg (dotC ea es).toArray,.agg (seed.map (Value.int .u8)).toArray] W fun e w'=>∃n v' L',e=.returned (.int .i64 n)∧aB w' s1 H (o:Int) seed b (fi (o:Int) seed ea es) v' L'∧bZ (dC H b v) W w'∧(∀g,dC H b v' g→dC H b v g∨W.heap.size≤g):=by
  by_cases hk:((eh (o:Int) seed) ea es).isSome=true
  · refine (sU s1 H (o:Int) seed b (eh (o:Int) seed) v (iC (o:Int)) W ea es seed ho HR.out hk).mono ?_
    rintro e w' ⟨he,hb'⟩;refine ⟨5,v,iC (o:Int),he,?_,bZ.of_below hb',fun g hg=>.inl hg⟩;have:fi (o:Int) seed ea es=eh (o:Int) seed:=by
     unfold fi;rw [if_neg];rintro ⟨_,q⟩;rw [q] at hk
     cases hk
    rw [this];exact HR.out.far hb'
  · have hkf:((eh (o:Int) seed) ea es).isSome=false:=by simpa using hk
    refine (xO s1 H (o:Int) seed b (eh (o:Int) seed) v (iC (o:Int)) W ea es seed ho hs HR.out hkf (by unfold iC;split<;>simp) (by have:=hb.size;have:=(HR.out.inside H (.inl rfl));omega)).mono ?_;rintro e w' ⟨he,v',hR',hT',hv'⟩;refine ⟨0,v',iC (o:Int)++ [(ea,es)],he,?_,hT',fun g hg=>?_⟩
    · have:fi (o:Int) seed ea es=gT (eh (o:Int) seed) ea es seed:=by
       unfold fi;rw [if_pos ⟨h2,by simpa using hkf⟩]
      rw [this];exact hR'
    · rcases hg with q|q|q
      · exact .inl (.inl q)
      · exact .inl (.inr (.inl q))
      · rcases hv' with e|⟨g',e,hge⟩
        · rw [e] at q;exact .inl (.inr (.inr q))
        · rw [e] at q;cases q;exact .inr hge
 have HME:ac (jC (o:Int) seed ea es=mC (dP (o:Int) seed) ea es seed):=⟨by unfold jC;rw [if_pos h2]⟩
 have HNX:ac (∀w3 v3 L3,aB w3 s1 H (o:Int) seed b (fi (o:Int) seed ea es) v3 L3→bZ (dC H b v) W w3→(∀g,dC H b v3 g→dC H b v g∨W.heap.size≤g)→w3.rangeAt w.heap.size 0 (seed.map (Value.int .u8))∧w3.rangeAt (w.heap.size+1) 0 (dotC ea es)∧Calls Tryz.prog 20 #[.pointer (some ⟨O,0,none⟩),.agg (dotC ea es).toArray,.agg (seed.map (Value.int .u8)).toArray] w3 fun e w'=>∃n vo',e=.returned (.int .i64 n)∧sG w w' H O (o:Int) seed ea es b v3 L3 vo'):=⟨fun w3 v3 L3 hR3 hT3 hv3=>by
  have hO3:bw w3 s2 O (o:Int) seed vo (dP (o:Int) seed):=HO.out.congr fun g hg=>hT3.block g (HO.out.inside g hg).1 (fun q=>HSEP.out g q hg)
  refine ⟨(hSd.congr (hT3.block _ hSd.lt (HSP.out _ (by omega)).1)).wholeM,(hDd.congr (hT3.block _ hDd.lt (HSP.out _ (by omega)).1)).wholeM,?_⟩;refine (ut s2 O (o:Int) seed vo (dP (o:Int) seed) w3 ea es seed hs hO3 (by have:=(hO3.inside O (.inl rfl));omega)).mono ?_;rintro e w4 ⟨n,vo',he,hto⟩;have hW3:Below w.heap.size w w3:=hb.trans (hT3.below hb.size (fun k hk=>by have:=(HR.out.inside k hk).2;omega));refine ⟨n,vo',he,⟨?_,?_,?_⟩⟩
  · refine (hR3.turn hto.turn fun g hg hq=>?_).lessB (by omega)
    rcases hv3 g hg with q|q
    · exact HSEP.out g q hq
    · have:=(HO.out.inside g hq).1
      omega
  · rw [HME.out]
    exact hto.at_.lessB (by omega)
  · exact hW3.trans (hto.turn.below hW3.size (fun k hk=>by have:=(hO3.inside k hk).2;omega))⟩
 clear h2;go_upto_region 4 with (first
  |(refine ae rfl 26 _ rfl _ _ rfl (dotC ea es) rD uD rfl iD ?_)
  |(refine ae rfl 23 _ rfl _ _ rfl (seed.map (Value.int .u8)) rS uK rfl iS ?_)
  |(go_at_call 19;refine hAdd.mono ?_;rintro e w3 ⟨n3,v3,L3,rfl,hR3,hT3,hv3⟩;clear hAdd))
 obtain ⟨rS3,rD3,hra⟩:=HNX.out w3 v3 L3 hR3 hT3 hv3;clear HNX hR3 hT3 hv3 rS rD hSd hDd hb c1
 go_wp2_with (first
  |(refine ae rfl 26 _ rfl _ _ rfl (dotC ea es) rD3 uD rfl iD ?_)
  |(refine ae rfl 23 _ rfl _ _ rfl (seed.map (Value.int .u8)) rS3 uK rfl iS ?_)
  |(go_at_call 20;refine hra.mono ?_;rintro e w4 ⟨n4,vo4,rfl,hrg⟩;clear hra))
 go_ret2
 exact ⟨_,_,b,v3,L3,vo4,rfl,hrg⟩
set_option maxHeartbeats 16000000
def evL:Ev:=⟨0,1,[0,0,0,0,0,0,0,0],3,0,0,false,0,1,1⟩
def seed1:List Int:=1::List.replicate 31 0
theorem rY:evL.In:=⟨⟨by decide,by decide⟩,⟨by decide,by decide⟩,rfl,fun x hx=>by
 have:x∈([0,0,0,0,0,0,0,0]:List Int):=hx;simp only [List.mem_cons,List.not_mem_nil,or_false,or_self] at this
 rw [this];exact ⟨by decide,by decide⟩,⟨by decide,by decide⟩,⟨by decide,by decide⟩,⟨by decide,by decide⟩,⟨by decide,by decide⟩,⟨by decide,by decide⟩,⟨by decide,by decide⟩⟩
theorem jk (W:World):WrapsAt W none 0 0 []:=⟨rfl,by omega,by omega,fun _=>rfl,by simp,.inl rfl⟩
theorem tP (w:World) (hKT:S.KTab w) (hBT:BTab w):
    Calls Tryz.prog 9 #[] w fun e w'=>e=.returned (.bool true)∧Below w.heap.size w w':=by
 obtain ⟨Z,hzv,hz1,hZ⟩:∃Z:List Value,(∀wx,(zeroValue 43).run Tryz.prog wx=.ok (.agg Z.toArray) wx)∧¬Z.toArray= #[]∧Z=dM.cells:=⟨dM.cells,fun wx=>by kernel_rfl,by decide,rfl⟩
 have hZl:Z.length=70:=by rw [hZ];rfl
 clear hZ;have hnew:=sp 0 seed1 w (by decide) rfl hKT;have HB1:ac (∀wx,(Instr.build 23 #[(0,.int .u8 1)]).run Tryz.prog wx=.ok (.agg (row .u8 seed1)) wx):=⟨fun wx=>run_build wx _ _ _ (by kernel_rfl)⟩
 have HB2:ac (∀wx,(Instr.build 23 #[]).run Tryz.prog wx=.ok (.agg (row .u8 (List.replicate 32 0))) wx):=⟨fun wx=>run_build wx _ _ _ (by kernel_rfl)⟩
 have HB3:ac (∀wx,(Instr.build 26 #[]).run Tryz.prog wx=.ok (.agg (dotC 0 0).toArray) wx):=⟨fun wx=>run_build wx _ _ _ (by kernel_rfl)⟩
 have HB4:ac (∀wx,(Instr.build 26 #[(1,.int .u32 1)]).run Tryz.prog wx=.ok (.agg (dotC 0 1).toArray) wx):=⟨fun wx=>run_build wx _ _ _ (by kernel_rfl)⟩
 have HB5:ac (∀wx,(Instr.build 33 #[(0,.agg (dotC 0 1).toArray),(2,.int .u8 3),(6,.int .u8 1),(7,.int .u8 1)]).run Tryz.prog wx=.ok (.agg evL.cells.toArray) wx):=⟨fun wx=>run_build wx _ _ _ (by kernel_rfl)⟩
 obtain ⟨k0,hk0⟩:∃k,eh 0 seed1 0 0=some k:=⟨dF seed1,by unfold eh;rw [if_pos rfl];unfold gT;simp⟩
 have h0:ba 1 0 evL 0 (eh 0 seed1 0 0)=0:=by
  rw [hk0];exact xg (by decide) (by decide) (by decide) rfl rfl (by decide)
 have HKT:ac (∀W,Below w.heap.size w W→S.KTab W∧BTab W):=⟨fun W hb=>⟨hKT.below hb,hBT.below hb⟩⟩
 have HSL:ac (∀W H b v,Below w.heap.size w W→aB W w.heap.size H 0 seed1 b (eh 0 seed1) v (iC 0)→Calls Tryz.prog 7 #[.pointer (some ⟨H,0,none⟩),.int .u32 1,.agg (row .u8 (List.replicate 32 0)),.agg (dotC 0 0).toArray,.slice none 0 0,.agg evL.cells.toArray] W fun e w'=>∃(F:Fr) (xb:Option Addr) (cb:Nat),e=.returned (.tuple #[.agg F.cells.toArray,.int .i64 0])∧F.cells.length=70∧(∀v∈F.cells,v.oneCell'=true)∧F.cells[37]?=some (.slice xb 144 cb)∧(∀V,Below w'.heap.size w' V→aB V w.heap.size H 0 seed1 b (eh 0 seed1) v (iC 0)→Calls Tryz.prog 11 #[.pointer (some ⟨H,0,none⟩),.agg F.cells.toArray] V fun e w''=>e=.returned (.tuple #[.agg evL.cells.toArray,.int .i64 0])∧Below V.heap.size V w'')∧Below W.heap.size W w'):=⟨fun W H b v hbW hR=>by
  refine (oT w.heap.size H 0 seed1 b (eh 0 seed1) v (iC 0) W 1 none 0 0 [] 0 0 (List.replicate 32 0) evL hR (HKT.out W hbW).1 (HKT.out W hbW).2 (jk W) rfl rY ⟨⟨by omega,by omega⟩,by omega,by omega⟩ ⟨by omega,by omega⟩).mono ?_;rintro e w' ⟨hs|hs,hb'⟩
  · exact absurd h0 hs.1
  · obtain ⟨_,F,k,hk,he,hf,fa,fn,fea,fes,fp,fm⟩:=hs
    obtain ⟨xw,cw,xb,cb,hq⟩:=hf.at_;have hq0:=hq w' (fun _ _ _=>rfl);obtain ⟨f70,_,_,_,_,_,f37,_⟩:=aH F hq0.prev hq0.mac;rw [hq0.body_] at f37
    have hIn:F.In:=⟨by rw [fa];exact ⟨by decide,by decide⟩,by rw [fn];exact ⟨by decide,by decide⟩,by rw [fea];exact ⟨by decide,by decide⟩,by rw [fes];exact ⟨by decide,by decide⟩,fun x hx=>by
     rw [fp] at hx
     rw [(List.mem_replicate.1 hx).2];exact ⟨by decide,by decide⟩,fun x hx=>by
     rw [fm] at hx
     exact pS _ _ _ _ x hx⟩
    have hkk:eh 0 seed1 F.ea F.es=some k:=by rw [fea,fes];exact hk
    rw [hk] at h0
    obtain ⟨o1,o2,o3⟩:=om (ws:=[]) rY h0 fa fn fm;refine ⟨F,xb,cb,he,f70,fun v hv=>?_,f37,fun V hbV hRV=>?_,hb'⟩
    · simp only [Fr.cells,dotC,List.mem_append,List.mem_cons,List.not_mem_nil,or_false,List.mem_map,hq0.wraps,hq0.body_] at hv
      rcases hv with ((((rfl|rfl)|rfl|rfl)|⟨x,_,rfl⟩)|rfl|rfl)|⟨x,_,rfl⟩<;>rfl
    · have hwV:Below w.heap.size w V:=(hbW.trans (hb'.mono hbW.size)).trans (hbV.mono (hbW.trans (hb'.mono hbW.size)).size)
      refine (tD w.heap.size H 0 seed1 b (eh 0 seed1) v (iC 0) V F xw 0 cw [] xb 144 cb (bJ k F [] evL) hRV (HKT.out V hwV).1 (HKT.out V hwV).2 (hq0.below hbV) hIn (by simp) (sY hIn (by simp) (by decide) rY)).mono ?_;rintro e2 w2 ⟨ho|ho,hb2⟩
      · exfalso
        refine ho.1 ?_;unfold openE;rw [if_pos o1,hkk];exact o2
      · obtain ⟨_,k2,hk2,he2⟩:=ho
        rw [hkk] at hk2
        obtain rfl:=Option.some.inj hk2;rw [o3] at he2
        exact ⟨he2,hb2⟩⟩
 have iF70:(Tryz.prog.info? 43).map (·.size)=some 70:=bU;have iE:=cZ evL rfl;have h1E:=fD evL;have uF:=Tryz.underlying43;have HEC:ac (∀W g,CellsAt W g 33 evL.cells→W.cell? ⟨g,15,none⟩=some (.int .u8 1)):=⟨fun W g h=>(h.cell 15).trans rfl⟩
 have hlE:evZ.cells.length=evL.cells.length:=rfl;generalize evL.cells=EL at HB5 HSL iE h1E HEC hlE
 generalize row .u8 seed1=SD at hnew HB1
 generalize row .u8 (List.replicate 32 0)=PZ at HB2 HSL
 clear hKT hBT hk0 h0 HKT;go_enter Tryz.func9,Tryz.ntmps9;go_upto_region 2 with (first
  |(refine aG rfl 23 #[(0,.const (.int .u8 1))] rfl #[(0,.int .u8 1)] (by first|rfl|kernel_rfl) _ (HB1.out _) ?_)
  |(go_at_call 17;refine hnew.mono ?_;rintro e w1 ⟨H,b,v,rfl,hR1,hb1⟩;clear hnew))
 have hsl:=HSL.out w1 H b v hb1 hR1;have HFAR:ac (∀V,Below w1.heap.size w1 V→Below w.heap.size w V∧aB V w.heap.size H 0 seed1 b (eh 0 seed1) v (iC 0)):=⟨fun V h=>⟨hb1.trans (h.mono hb1.size),hR1.far h⟩⟩
 clear HSL hR1 hb1;go_upto_region 3 with (first
  |(refine aG rfl 23 #[] rfl #[] (by first|rfl|kernel_rfl) _ (HB2.out _) ?_)
  |(refine aG rfl 26 #[] rfl #[] (by first|rfl|kernel_rfl) _ (HB3.out _) ?_)
  |(refine aG rfl 26 #[(1,.const (.int .u32 1))] rfl #[(1,.int .u32 1)] (by first|rfl|kernel_rfl) _ (HB4.out _) ?_)
  |(refine aG rfl 33 _ rfl #[(0,.agg (dotC 0 1).toArray),(2,.int .u8 3),(6,.int .u8 1),(7,.int .u8 1)] (by first|rfl|kernel_rfl) _ (HB5.out _) ?_)
  |(go_at_call 7;refine hsl.mono ?_;rintro e w2 ⟨F,xb,cb,rfl,hFl,h1F,h37,hop,hb2⟩;have hG2:=CellsAt.new w2 43 Z;have HOP:=ac.mk hop;have H37:=ac.mk h37;clear hsl hop h37)
  |(refine aw rfl 43 _ _ rfl _ rfl rfl hG2 (by rw [hFl];exact iF70) (by rw [hZl,hFl]) h1F ?_))
 have hb3:Below w2.heap.size w2 ((w2.alloc (.cells Z.toArray 43)).setRow w2.heap.size F.cells.toArray):=below_setRow ((Below.refl _ _).alloc (Nat.le_refl _) _) (Nat.le_refl _) _;have hb13:=hb2.trans (hb3.mono hb2.size);refine af (p:=fun y=>Code.wp _ _ _ _ y) (fun W=>Below w2.heap.size w2 W∧Below w1.heap.size w1 W∧CellsAt W w2.heap.size 43 F.cells) ⟨hb3,hb13,hG2.setRow _⟩ ?_;have hs2:=hb2.size;clear hb3 hb13 hG2 hb2 hzv hz1;obtain ⟨G,hGe⟩:∃q,w2.heap.size=q:=⟨_,rfl⟩
 rw [hGe];have HGE:=ac.mk hGe;clear hGe;rintro W ⟨hbG,hbW,hG⟩;obtain ⟨hwW,hRW⟩:=HFAR.out W hbW;have hop:=HOP.out W (by rw [HGE.out];exact hbG) hRW;have rG:=hG.wholeM;have iF:(Tryz.prog.info? 43).map (·.size)=some F.cells.length:=by rw [hFl];exact iF70
 clear HOP hRW;go_upto_region 4 with (first
  |(refine ae rfl 43 _ rfl _ _ rfl F.cells rG uF rfl iF ?_)
  |(go_at_call 11;refine hop.mono ?_;rintro e w4 ⟨rfl,hb4⟩;have hA4:=CellsAt.new w4 33 evZ.cells;clear hop)
  |(refine aw rfl 33 _ _ rfl _ rfl rfl hA4 iE hlE h1E ?_))
 have hb5:Below w4.heap.size w4 ((w4.alloc (.cells evZ.cells.toArray 33)).setRow w4.heap.size EL.toArray):=below_setRow ((Below.refl _ _).alloc (Nat.le_refl _) _) (Nat.le_refl _) _;have hb45:=hb4.trans (hb5.mono hb4.size);refine af (p:=fun y=>Code.wp _ _ _ _ y) (fun V=>Below w.heap.size w V∧CellsAt V G 43 F.cells∧CellsAt V w4.heap.size 33 EL) ⟨hwW.trans (hb45.mono hwW.size),hG.farM hb45,hA4.setRow _⟩ ?_;clear hb45 hb5 hA4 hb4 hwW hbW hbG hG rG;rintro V ⟨hb,hG,hE⟩;have c15:=HEC.out V _ hE;have c37:V.cell? ⟨G,37,none⟩=some (.slice xb 144 cb):=by rw [hG.cell,H37.out]
 go_wp2;go_ret;exact ⟨rfl,hb⟩
end Go.Proofs.YtbdhfbglagdiaaaGreatDoor
