/- Fm5 Gate6 Fm6 -/
import Derived.Test.YtbdhfbglagdiaaaGreatDoorJ35
import Derived.Test.YtbdhfbglagdiaaaGreatDoorJ32
import Derived.Test.YtbdhfbglagdiaaaGreatDoorJ26
import Derived.Test.YtbdhfbglagdiaaaGreatDoorJ06
namespace Go.Proofs.YtbdhfbglagdiaaaGreatDoor
open Go.RowKit
set_option maxRecDepth 20000
set_option maxHeartbeats 4000000
set_option linter.unusedSimpArgs false
theorem nA:(Tryz.prog.info? 68).map (fun i=>(i.zero,i.size,i.bytes))=some (some (.agg (Wp.cells ⟨0,0,0,List.replicate 48 0⟩).toArray),51,60):=by kernel_rfl
theorem nf {w:World} {b off:Nat} {ws:List Wp} (hok:∀e∈ws,e.data.length=48) (h:∀j (hj:j<ws.length),w.rangeAt b (off+j*51) (ws[j]).cells):
    ∀j u,(ws.map Wp.cells).flatten[j]?=some u→w.cell? ((⟨b,off,none⟩:Addr).add j)=some u:=by
 intro j u hu;have hall:∀c∈ws.map Wp.cells,c.length=51:=fun c hc=>by
  obtain ⟨e,he,rfl⟩:=List.mem_map.1 hc;exact (wp_parts e (hok e he)).1
 have hlt:=(List.getElem?_eq_some_iff.1 hu).1;rw [jE _ hall,List.length_map] at hlt
 have hq:j / 51<ws.length:=by omega
 have hg:=pR (ws.map Wp.cells) hall (j / 51) (by rw [List.length_map];exact hq);rw [List.getElem_map] at hg
 have hr:=h (j / 51) hq (j % 51) u (by
  rw [←hg,List.getElem?_take_of_lt (by omega),List.getElem?_drop,show j / 51*51+j % 51=j by omega];exact hu)
 rw [Addr.add_mid'];rw [show off+j / 51*51+j % 51=off+j by omega] at hr
 exact hr
theorem qX (x:Option Addr) (n c:Nat) (ws:List Wp) (w:World) (h:WrapsAt w x n c ws) (hl:n≤1000):
    Calls Tryz.prog 26 #[.slice x n c] w fun e w'=>∃x' c',e=.returned (.slice x' n c')∧(∀w2:World,(∀k,w.heap.size≤k→k<w'.heap.size→w2.heap[k]?=w'.heap[k]?)→WrapsAt w2 x' n c' ws)∧Below w.heap.size w w':=by
 have hn:=h.len_eq;cases x with
 |none=>
  have hc:=h.nil rfl;have hle:=h.le;obtain rfl:n=0:=by omega
  subst hc;have hnil:∀wx:World,(binOp BinOp.eql 27 (.slice none 0 0) (.slice none 0 0)).run Tryz.prog wx=.ok (.bool true) wx:=fun _=>by kernel_rfl
  have HW:ac (∀w2:World,WrapsAt w2 none 0 0 ws):=⟨fun w2=>⟨hn,by omega,by omega,fun _=>rfl,h.ok,.inl rfl⟩⟩
  clear h hn hle hl;go_enter Tryz.func26,Tryz.ntmps26;go_wp2;go_ret;exact ⟨none,0,rfl,fun w2 _=>HW.out w2,Below.refl _ _⟩
 |some ad=>
  obtain ⟨i0,hi,hz0,hz1,hz2⟩:=info_parts nA;have hE:=dL.empty w 68 51;have hb0:Below w.heap.size w (w.alloc (.cells #[] 68)):=(Below.refl _ _).alloc (Nat.le_refl _) _;have hnil:∀wx:World,(binOp BinOp.eql 27 (.slice (some ad) n c) (.slice none 0 0)).run Tryz.prog wx=.ok (.bool false) wx:=fun _=>by kernel_rfl
  have hall:∀c∈ws.map Wp.cells,c.length=51:=fun c hc=>by
   obtain ⟨e,he,rfl⟩:=List.mem_map.1 hc;exact (wp_parts e (h.ok e he)).1
  have hsrc:∀j u,(ws.map Wp.cells).flatten[j]?=some u→(w.alloc (.cells #[] 68)).cell? (ad.add j)=some u:=by
   rcases (h.below hb0).at_ with h0|⟨b,off,hx,hc⟩
   · have:ws=[]:=List.length_eq_zero_iff.1 (by omega)
     subst this;intro j u hu;simp at hu
   · cases hx
     exact nf h.ok hc
  have hone:∀u∈(ws.map Wp.cells).flatten,u.oneCell'=true:=fun u hu=>by
   obtain ⟨l,hl,hu⟩:=List.mem_flatten.1 hu;obtain ⟨e,he,rfl⟩:=List.mem_map.1 hl;exact (wp_parts e (h.ok e he)).2.2.2.2 u hu
  obtain ⟨v1,w1,hr1,h2,h3,_,_⟩:=run_append_own_at (P:=Tryz.prog) (w.alloc (.cells #[] 68)) w.heap.size 27 27 68 i0 _ 51 60 Tryz.underlying27 hi hz0 hz1 hz2 (by rfl) (by decide) (.slice (some ⟨w.heap.size,0,none⟩) 0 0) 0 [] hE.own ad n c (ws.map Wp.cells).flatten (by rw [jE _ hall,List.length_map,hn]) hsrc hone (by simp [maxLen];omega) (by omega) (by simp);have hb1:Below w.heap.size w w1:=hb0.grown h3 (by simp) (fun k hk=>by cases hk;exact Nat.le_refl _);have hown:dL w1 w.heap.size 68 51 v1 (ws.map Wp.cells):=⟨by rw [List.length_map,←hn];simpa using h2,hall⟩
  have HW:ac (∃x' c',v1=.slice x' n c'∧∀w2:World,(∀k,w.heap.size≤k→k<w1.heap.size→w2.heap[k]?=w1.heap[k]?)→WrapsAt w2 x' n c' ws):=⟨by
   have hok:=h.ok
   rcases hown.own.2 with ⟨rfl,h0⟩|⟨g,cap',cur,hv,_,hg,hc,hm,hs,ht⟩
   · rw [List.length_map] at h0
     exact ⟨none,0,by rw [show n=0 by omega],fun w2 _=>⟨by omega,by omega,by omega,fun _=>rfl,hok,.inl (by omega)⟩⟩
   · rw [List.length_map,←hn] at hv hc
     refine ⟨some ⟨g,0,none⟩,cap',hv,fun w2 hk2=>⟨hn,hc,(by unfold maxLen at hm;omega),(fun h=>by cases h),hok,?_⟩⟩;refine .inr ⟨g,0,rfl,fun j hj=>?_⟩;rw [hv] at hown
     obtain ⟨g',hx',_,hr'⟩:=(hown.congr (w':=w2) fun q hq=>hk2 q (hown.blockLt q hq).2.1 (hown.blockLt q hq).1).at_ j (by rw [List.length_map];exact hj);cases hx';rw [List.getElem_map] at hr'
     rw [Nat.zero_add];exact hr'⟩
  have HR:=ac.mk (And.intro hr1 hb1);clear h hE hb0 hall hsrc hone hr1 h2 h3 hb1 hown hi hz0 hz1 hz2 hn hl;go_enter Tryz.func26,Tryz.ntmps26
  go_wp2_with (at_builtin;refine kE rfl _ _ 27 27 rfl _ _ _ _ rfl rfl HR.out.1 ?_)
  go_ret;obtain ⟨x',c',hv,hw⟩:=HW.out;exact ⟨x',c',by rw [←hv];rfl,hw,HR.out.2⟩
open Go Go.RowKit
section
variable {P:Program} {ops:Array Oper} {Q:Exit→Act→World→Prop} {md:Region.Mode} {T S:World→Prop} {D:Nat}
theorem fc {i j:Nat} {oi oj:Oper} {fuel:Nat} {listed:Array Bool} {a:Act} {w:World} (hi:ops[i]?=some oi) (hj:ops[j]?=some oj) (hr:Region.ready md ops listed=[i,j])
    (hwi:Region.wanted oi (yielded ops a.tmps)=true) (hwj:Region.wanted oj (yielded ops a.tmps)=true)
    (h1:∀K':Act→World→Prop,Shut (∀a w,T w→((listed.setIfInBounds i true).getD D true=false→S w)→aO P md ops Q T S D fuel (listed.setIfInBounds i true) a w→K' a w)→Oper.wp P oi a w K' Q)
    (h2:∀K':Act→World→Prop,Shut (∀a w,T w→((listed.setIfInBounds j true).getD D true=false→S w)→aO P md ops Q T S D fuel (listed.setIfInBounds j true) a w→K' a w)→Oper.wp P oj a w K' Q):aO P md ops Q T S D (fuel+1) listed a w:=
 ⟨fun h0=>(by rw [hr] at h0;cases h0),fun q hq=>by
  rw [hr] at hq
  rcases List.mem_cons.1 hq with rfl|hq
  · refine wpOp_step hi (fun K' hK=>?_)
    rw [if_pos hwi];exact h1 K' (fun a w h0 h1 h2=>hK a w ⟨⟨h0,h1⟩,h2⟩)
  · obtain rfl:q=j:=by simpa using hq
    refine wpOp_step hj (fun K' hK=>?_);rw [if_pos hwj];exact h2 K' (fun a w h0 h1 h2=>hK a w ⟨⟨h0,h1⟩,h2⟩)⟩
end
set_option maxHeartbeats 16000000
theorem kN {a:Act} {F:(Nat→Value)→Act} {P:Prop} (h:a=F (fun i=>a.tmps.getD i undef)) (hp:P):∃u,a=F u∧P:=⟨_,h,hp⟩
theorem de {w w':World} {g o:Nat} {v:Value} (h:w.cell? ⟨g,o,none⟩=some v) (hb:Below w.heap.size w w'):w'.cell? ⟨g,o,none⟩=some v:=by
 rw [hb.cell (p:=⟨g,o,none⟩) (block_lt_of_cell h)];exact h
structure fM (W:World) (b0 b1 b2 b3 b4 b5:Nat) (p:Value) (n:Int) (xw:Option Addr) (lw cw:Nat) (ea es:Int) (prev:List Int) (E:Ev):Prop where
 c0:W.cell? ⟨b0,0,none⟩=some p
 c1:W.cell? ⟨b1,0,none⟩=some (.int .u32 n)
 c2:W.cell? ⟨b2,0,none⟩=some (.slice xw lw cw)
 r3:W.rangeAt b3 0 (dotC ea es)
 r4:W.rangeAt b4 0 (prev.map (Value.int .u8))
 r5:W.rangeAt b5 0 E.cells
theorem fM.far {W W':World} {b0 b1 b2 b3 b4 b5:Nat} {p:Value} {n:Int} {xw:Option Addr} {lw cw:Nat} {ea es:Int} {prev:List Int} {E:Ev} (h:fM W b0 b1 b2 b3 b4 b5 p n xw lw cw ea es prev E) (hb:Below W.heap.size W W'):fM W' b0 b1 b2 b3 b4 b5 p n xw lw cw ea es prev E:=
 ⟨de h.c0 hb,de h.c1 hb,de h.c2 hb,aN h.r3 hb,aN h.r4 hb,aN h.r5 hb⟩
def ba (n:Int) (lw:Nat) (E:Ev) (own:Int) (m:Option (List Int)):Int:=
 if fU n=true∧lw≤64 then (if (rightB E&&((E.da==own)&&(E.ds==n)))=true then (if own<8 then (match m with|none=>9|some _=>0) else 2) else 3) else 2
def fr0 (own n ea es:Int) (prev:List Int) (v:Value):Fr:=⟨own,n,ea,es,prev,v,.slice none 0 0,List.replicate 32 0⟩
def bJ (k:List Int) (F:Fr) (ws:List Wp) (E:Ev):List Int:=dK (et k F.author) (bm F.number) (aP F ws) (bu (aL E) 128)
theorem tH (own n ea es:Int) (prev:List Int) (hp:prev.length=32) (x:Option Addr) (l c:Nat) (wx:World):(Instr.build 43 #[(0,.int .u8 own),(1,.int .u32 n),(2,.agg (dotC ea es).toArray),(3,.agg (prev.map (Value.int .u8)).toArray),(4,.slice x l c)]).run Tryz.prog wx=.ok (.agg (fr0 own n ea es prev (.slice x l c)).cells.toArray) wx:=by
 match prev,hp with
 |[a0,a1,a2,a3,a4,a5,a6,a7,a8,a9,a10,a11,a12,a13,a14,a15,a16,a17,a18,a19,a20,a21,a22,a23,a24,a25,a26,a27,a28,a29,a30,a31],_=>exact run_build wx _ _ _ (by kernel_rfl)
theorem oY (F:Fr) (v:Value) (hp:F.prev.length=32):F.cells.set 37 v=({F with body:=v}:Fr).cells:=by
 have e0:∀G:Fr,G.cells=([.int .u8 G.author,.int .u32 G.number]++dotC G.ea G.es++G.prev.map (Value.int .u8))++([G.wraps,G.body]++G.mac.map (Value.int .u8)):=fun G=>by unfold Fr.cells;simp only [List.append_assoc]
 have hl:(([.int .u8 F.author,.int .u32 F.number]:List Value)++dotC F.ea F.es++F.prev.map (Value.int .u8)).length=36:=by simp [dotC,hp]
 rw [e0 F,e0 _,List.set_append_right _ _ (by omega),hl];rfl
theorem pL (F:Fr) (k:List Int) (hp:F.prev.length=32) (hm:F.mac.length=32):F.cells.take 38++k.map (Value.int .u8)++F.cells.drop 70=({F with mac:=k}:Fr).cells:=by
 have e0:F.cells=([.int .u8 F.author,.int .u32 F.number]++dotC F.ea F.es++F.prev.map (Value.int .u8)++ [F.wraps,F.body])++F.mac.map (Value.int .u8):=by unfold Fr.cells;simp only [List.append_assoc]
 have hl:(([.int .u8 F.author,.int .u32 F.number]:List Value)++dotC F.ea F.es++F.prev.map (Value.int .u8)++ [F.wraps,F.body]).length=38:=by simp [dotC,hp]
 rw [e0,List.take_left' hl,List.drop_of_length_le (by rw [List.length_append,hl,List.length_map,hm];omega),List.append_nil];unfold Fr.cells;simp only [List.append_assoc]
structure aM (w V:World) (RS G:Nat) (Z FC:List Value) (x':Option Addr) (lw c':Nat) (ws:List Wp):Prop where
 b:Below w.heap.size w V
 rs:CellsAt V RS 43 Z
 g:CellsAt V G 43 FC
 lt:RS<G
 wk:∀w2:World,(∀k,RS<k→k≠G→k<V.heap.size→w2.heap[k]?=V.heap[k]?)→WrapsAt w2 x' lw c' ws
section
variable {w V V':World} {RS G:Nat} {Z FC FC':List Value} {x':Option Addr} {lw c':Nat} {ws:List Wp}
theorem aM.far (h:aM w V RS G Z FC x' lw c' ws) (hb:Below V.heap.size V V'):aM w V' RS G Z FC x' lw c' ws:=
 ⟨h.b.trans (hb.mono h.b.size),h.rs.farM hb,h.g.farM hb,h.lt,fun w2 hk=>h.wk w2 fun k h1 h2 h3=>by
  rw [hk k h1 h2 (by have:=hb.size;omega),hb.block k h3]⟩
theorem aM.setG (h:aM w V RS G Z FC x' lw c' ws) (hb:Below w.heap.size w V') (hc:CellsAt V' G 43 FC') (hs:V'.heap.size=V.heap.size) (hk:∀k,k≠G→V'.heap[k]?=V.heap[k]?):aM w V' RS G Z FC' x' lw c' ws:=
 ⟨hb,h.rs.congr (hk RS (by have:=h.lt;omega)),hc,h.lt,fun w2 hq=>h.wk w2 fun k h1 h2 h3=>by rw [hq k h1 h2 (by omega),hk k h2]⟩
end
structure il (W:World) (base:Nat) (F:Fr) (lw:Nat) (ws:List Wp) (lb:Nat) (body:List Int):Prop where
 at_:∃xw cw xb cb,∀w2:World,(∀k,base≤k→k<W.heap.size→w2.heap[k]?=W.heap[k]?)→lg w2 F xw lw cw ws xb lb cb body
section
variable (base H:Nat) (own:Int) (seed:List Int) (b:Nat) (M:Int→Int→Option (List Int)) (v:Value) (L:List (Int×Int)) (w:World)
variable (b0 b1 b2 b3 b4 b5:Nat) (n:Int) (xw:Option Addr) (lw cw:Nat) (ws:List Wp) (ea es:Int) (prev:List Int) (E:Ev)
def sK (w:World) (e:Ending) (w':World):Prop:=
 (ba n lw E own (M ea es)≠0∧e=.panicked [eN (ba n lw E own (M ea es))])∨(ba n lw E own (M ea es)=0∧∃(F:Fr) (k:List Int),M ea es=some k∧e=.returned (.agg F.cells.toArray)∧il w' w.heap.size F lw ws 144 (bJ k F ws E)∧F.author=own∧F.number=n∧F.ea=ea∧F.es=es∧F.prev=prev∧F.mac=ftagL seed F ws (bJ k F ws E))
theorem mH (h:fM w b0 b1 b2 b3 b4 b5 (.pointer (some ⟨H,0,none⟩)) n xw lw cw ea es prev E) (hR:aB w base H own seed b M v L) (hKT:S.KTab w) (hBT:BTab w) (hws:WrapsAt w xw lw cw ws) (hp:prev.length=32) (hE:E.In) (ho:okD ea es) (hown:0≤own∧own≤255):
    Calls Tryz.prog 22 #[.pointer (some ⟨b0,0,none⟩),.pointer (some ⟨b1,0,none⟩),.pointer (some ⟨b2,0,none⟩),.pointer (some ⟨b3,0,none⟩),.pointer (some ⟨b4,0,none⟩),.pointer (some ⟨b5,0,none⟩)] w fun e w'=>sK own seed M n lw ws ea es prev E w e w'∧Below w.heap.size w w':=by
 obtain ⟨Z,hzv,hz1,hZ⟩:∃Z:List Value,(∀wx,(zeroValue 43).run Tryz.prog wx=.ok (.agg Z.toArray) wx)∧¬Z.toArray= #[]∧Z=dM.cells:=⟨dM.cells,fun wx=>by kernel_rfl,by decide,rfl⟩
 have hZl:Z.length=70:=by rw [hZ];rfl
 clear hZ;have hb0:Below w.heap.size w (w.alloc (.cells Z.toArray 43)):=(Below.refl _ _).alloc (Nat.le_refl _) _;have hRS0:=CellsAt.new w 43 Z;have HS:=ac.mk (fun W (hb:Below w.heap.size w W)=>h.far hb);have HR:=ac.mk (fun W (hb:Below w.heap.size w W)=>hR.far hb);have HKT:ac (∀W,Below w.heap.size w W→S.KTab W∧BTab W):=⟨fun W hb=>⟨hKT.below hb,hBT.below hb⟩⟩
 have HWS:=ac.mk (fun W (hb:Below w.heap.size w W)=>hws.below hb);have HPRE:=ac.mk (And.intro hp (And.intro hE (And.intro ho hown)));have HND:=ac.mk jt;have HNB:=ac.mk iI;have HMN:=ac.mk (lB n);have hlw:=hws.len_eq;have HLW:=ac.mk hlw;clear h hR hKT hBT hws hp hE ho hown hlw;go_enter Tryz.func22,Tryz.ntmps22;go_upto_region 1 with fail
 refine af (p:=fun y=>Code.wp _ _ _ _ y) (fun W=>Below w.heap.size w W∧CellsAt W w.heap.size 43 Z) ⟨hb0,hRS0⟩ ?_;clear hb0 hRS0;obtain ⟨RS,hRSe⟩:∃q,w.heap.size=q:=⟨_,rfl⟩
 have HRS:=ac.mk hRSe;have HBR:ac (∀W,Below RS w W→Below w.heap.size w W):=⟨fun W h=>by rw [hRSe];exact h⟩
 rw [hRSe];clear hRSe;rintro W ⟨hb',hRS⟩;have hb:=HBR.out W hb';clear hb';have c0:=(HS.out W hb).c0;have hn1:=HND.out 1 W;go_upto_region 2 with (go_at_call 23;refine hn1.mono ?_;rintro e w1 ⟨⟨r1,rfl⟩,rfl⟩;clear hn1)
 have c1:=(HS.out W hb).c1;have c2:=(HS.out W hb).c2;have hmn:=HMN.out W
 by_cases hmay:fU n=true
 rotate_left
 · have hmf:fU n=false:=by simpa using hmay
   have HSE:ac (ba n lw E own (M ea es)=2):=⟨by unfold ba;rw [if_neg (fun q=>hmay q.1)]⟩
   rw [hmf] at hmn
   clear hmay hmf;have hn2:=HNB.out 2 W
   go_wp2_with (first
    |(go_at_call 24;refine hmn.mono ?_;rintro e w1 ⟨rfl,rfl⟩;clear hmn)
    |(go_at_call 23;refine hn2.mono ?_;rintro e w1 ⟨rfl,rfl⟩))
   refine ak ?_;exact ⟨Or.inl ⟨by rw [HSE.out];decide,by rw [HSE.out]⟩,hb⟩
 rw [hmay] at hmn
 by_cases hl:lw≤64
 rotate_left
 · have hli:¬(lw:Int)≤64:=by omega
   have HSE:ac (ba n lw E own (M ea es)=2):=⟨by unfold ba;rw [if_neg (fun q=>hl q.2)]⟩
   clear hmay;have hn2:Calls Tryz.prog 23 #[.bool (decide ((lw:Int)≤64)),.int .i64 2] W fun e w'=>e=.panicked [eN 2]∧W=w':=by
    rw [show decide ((lw:Int)≤64)=false by simp;omega];exact HNB.out 2 W
   clear hli hl
   go_wp2_with (first
    |(go_at_call 24;refine hmn.mono ?_;rintro e w1 ⟨rfl,rfl⟩;clear hmn)
    |(go_at_call 23;refine hn2.mono ?_;rintro e w1 ⟨rfl,rfl⟩))
   refine ak ?_;exact ⟨Or.inl ⟨by rw [HSE.out];decide,by rw [HSE.out]⟩,hb⟩
 have hli:(lw:Int)≤64:=by omega
 have HSE1:ac (ba n lw E own (M ea es)=(if (rightB E&&((E.da==own)&&(E.ds==n)))=true then (if own<8 then (match M ea es with|none=>9|some _=>0) else 2) else 3)):=⟨by unfold ba;rw [if_pos ⟨hmay,hl⟩]⟩
 clear hmay;have hn2:=HND.out 2 W;go_upto_region 3 with (first
  |(go_at_call 24;refine hmn.mono ?_;rintro e w1 ⟨rfl,rfl⟩;clear hmn)
  |(go_at_call 23;refine hn2.mono ?_;rintro e w1 ⟨⟨r2,rfl⟩,rfl⟩;clear hn2))
 clear c0 c1 c2 hli;have HF0:ac (∀x c,(fr0 own n ea es prev (.slice x lw c)).cells.length=70∧(∀v∈(fr0 own n ea es prev (.slice x lw c)).cells,v.oneCell'=true)∧∀wx,(Instr.build 43 #[(0,.int .u8 own),(1,.int .u32 n),(2,.agg (dotC ea es).toArray),(3,.agg (prev.map (Value.int .u8)).toArray),(4,.slice x lw c)]).run Tryz.prog wx=.ok (.agg (fr0 own n ea es prev (.slice x lw c)).cells.toArray) wx):=⟨fun x c=>⟨(aH (fr0 own n ea es prev (.slice x lw c)) HPRE.out.1 rfl).1,fun v hv=>by
     simp only [fr0,Fr.cells,dotC,List.mem_append,List.mem_cons,List.not_mem_nil,or_false,List.mem_map] at hv
     rcases hv with ((((rfl|rfl)|rfl|rfl)|⟨x,_,rfl⟩)|rfl|rfl)|⟨x,_,rfl⟩<;>rfl,fun wx=>tH own n ea es prev HPRE.out.1 x lw c wx⟩⟩
 have iF70:(Tryz.prog.info? 43).map (·.size)=some 70:=bU;have HOW:ac (∀V,Below w.heap.size w V→Calls Tryz.prog 25 #[.pointer (some ⟨H,0,none⟩)] V fun e w'=>e=.returned (.int .u8 own)∧w'=V):=⟨fun V hb=>u6 _ _ _ _ _ _ _ _ V (HR.out V hb)⟩
 have HCL:ac (∀V,Below w.heap.size w V→Calls Tryz.prog 26 #[.slice xw lw cw] V fun e w'=>∃x' c',e=.returned (.slice x' lw c')∧(∀w2:World,(∀k,V.heap.size≤k→k<w'.heap.size→w2.heap[k]?=w'.heap[k]?)→WrapsAt w2 x' lw c' ws)∧Below V.heap.size V w'):=⟨fun V hb=>qX xw lw cw ws V (HWS.out V hb) (by omega)⟩
 have iD:(Tryz.prog.info? 26).map (·.size)=some (dotC ea es).length:=sizeDot;have iK:(Tryz.prog.info? 23).map (·.size)=some (prev.map (Value.int .u8)).length:=by rw [List.length_map,HPRE.out.1];exact ap
 have uD:=Tryz.underlying26;have uK:=Tryz.underlying23;have HTT:∀V,Below w.heap.size w V→(fun w':World=>w'.cell? ⟨b0,0,none⟩=some (.pointer (some ⟨H,0,none⟩))∧w'.cell? ⟨b1,0,none⟩=some (.int .u32 n)∧w'.cell? ⟨b2,0,none⟩=some (.slice xw lw cw)∧w'.rangeAt b3 0 (dotC ea es)∧w'.rangeAt b4 0 (prev.map (Value.int .u8))) V:=fun V hb=>by
  have q:=HS.out V hb;exact ⟨q.c0,q.c1,q.c2,q.r3,q.r4⟩
 have HWW:ac (∀V,Below w.heap.size w V→RS≤V.heap.size):=⟨fun V hb=>by have:=hb.size;have:=HRS.out;omega⟩
 refine lP (fun AC V=>∃(G:Nat) (x':Option Addr) (c':Nat) (u:Nat→Value),AC=⟨#[.pointer (some ⟨b0,0,none⟩),.pointer (some ⟨b1,0,none⟩),.pointer (some ⟨b2,0,none⟩),.pointer (some ⟨b3,0,none⟩),.pointer (some ⟨b4,0,none⟩),.pointer (some ⟨b5,0,none⟩),.pointer (some ⟨RS,0,none⟩),.pointer (some ⟨G,0,none⟩),u 8,u 9,u 10,u 11,u 12,u 13,u 14,u 15,u 16,u 17,u 18,u 19,u 20,u 21,u 22,u 23,u 24,u 25,u 26,u 27,u 28,u 29,u 30,u 31,u 32,u 33,u 34,u 35,u 36,u 37,u 38,u 39,u 40,u 41,u 42,u 43,u 44,u 45,u 46,u 47,u 48,u 49,u 50,u 51,u 52,u 53,u 54,u 55,u 56,u 57,u 58,u 59],[]⟩∧Below w.heap.size w V∧CellsAt V RS 43 Z∧CellsAt V G 43 (fr0 own n ea es prev (.slice x' lw c')).cells∧RS<G∧∀w2:World,(∀k,RS<k→k≠G→k<V.heap.size→w2.heap[k]?=V.heap[k]?)→WrapsAt w2 x' lw c' ws) ?_ ?_
 · refine au (fun w'=>w'.cell? ⟨b0,0,none⟩=some (.pointer (some ⟨H,0,none⟩))∧w'.cell? ⟨b1,0,none⟩=some (.int .u32 n)∧w'.cell? ⟨b2,0,none⟩=some (.slice xw lw cw)∧w'.rangeAt b3 0 (dotC ea es)∧w'.rangeAt b4 0 (prev.map (Value.int .u8))) (fun _=>True) 99 (by kernel_rfl) ?_
   refine af (p:=fun y=>aO _ _ _ _ _ _ _ _ _ _ y) (fun V=>Below w.heap.size w V∧CellsAt V RS 43 Z) ⟨hb.drew,hRS.congr rfl⟩ ?_;clear hb hRS;clear W;rintro V0 ⟨hB0,hRS0⟩;have hT:=HTT V0 hB0;have hS:=trivial;have hlt0:=hRS0.lt;refine ghA 0 _ hT hS ?_;simp only [zp];refine ghA 2 _ hT hS ?_;simp only [zp];refine ghA 5 _ hT hS ?_;simp only [zp];refine zh 3 24 26 3 b3 0 (dotC ea es) hT hS (fun _ h=>h.2.2.2.1) uD iD ?_;simp only [zp];refine zh 4 25 23 4 b4 0 (prev.map (Value.int .u8)) hT hS (fun _ h=>h.2.2.2.2) uK iK ?_;simp only [zp];refine fc (i:=1) (j:=8) rfl rfl (by kernel_rfl) (by kernel_rfl) (by kernel_rfl) (fun K hK=>?_) (fun K hK=>?_)
   · refine aC _ _ (by kernel_rfl) ((HOW.out V0 hB0).mono ?_)
     rintro e w1 ⟨rfl,rfl⟩;refine ⟨_,rfl,?_⟩;refine hK.out _ _ hT (fun _=>hS) ?_;clear hK K
     try simp only [zp]
     refine fc (i:=6) (j:=8) rfl rfl (by kernel_rfl) (by kernel_rfl) (by kernel_rfl) (fun K hK=>?_) (fun K hK=>?_)
     · refine aC _ _ (by kernel_rfl) ((HCL.out w1 hB0).mono ?_)
       rintro e w2 ⟨x2,c2,rfl,hw2,hb2⟩;refine ⟨_,rfl,?_⟩;have hB2:=hB0.trans (hb2.mono hB0.size);obtain ⟨hFl,h1F,hbd⟩:=HF0.out x2 c2;replace hT:=HTT w2 hB2;refine hK.out _ _ hT (fun _=>hS) ?_;clear hK K
       try simp only [zp]
       refine bO (i:=7) (v:=(.agg (fr0 own n ea es prev (.slice x2 lw c2)).cells.toArray)) rfl (by kernel_rfl) (by kernel_rfl) (by kernel_rfl) (fun _ _ _ h=>h) (by kernel_rfl) hT (fun _=>hS) (by kernel_rfl) (fun wx h=>eu 43 _ rfl #[(0,.int .u8 own),(1,.int .u32 n),(2,.agg (dotC ea es).toArray),(3,.agg (prev.map (Value.int .u8)).toArray),(4,.slice x2 lw c2)] (by kernel_rfl) (hbd wx)) ?_;simp only [zp];refine zm 8 fun K hK=>?_
       go_simp;have hB3:=hB2.alloc hB2.size (.cells Z.toArray 43);replace hT:=HTT _ hB3;refine hK.out _ _ hT (fun _=>hS) ?_;clear hK K
       try simp only [zp]
       refine zm 9 fun K hK=>?_
       refine jx 43 _ _ rfl _ rfl rfl (CellsAt.new w2 43 Z) (by rw [hFl];exact iF70) (by rw [hZl,hFl]) h1F ?_;have hB4:Below w.heap.size w ((w2.alloc (.cells Z.toArray 43)).setRow w2.heap.size (fr0 own n ea es prev (.slice x2 lw c2)).cells.toArray):=below_setRow hB3 hB2.size _;have hs2:=hb2.size;replace hT:=HTT _ hB4;refine hK.out _ _ hT (fun _=>hS) ?_;clear hK K
       try simp only [zp]
       refine az (by kernel_rfl) ?_ _;refine ⟨w2.heap.size,x2,c2,kN (by kernel_rfl) ⟨hB4,((hRS0.farM hb2).alloc _).setRowM _ (by omega),(CellsAt.new w2 43 Z).setRow _,by omega,fun w3 hk3=>hw2 w3 (fun k h1 h2=>?_)⟩⟩;rw [hk3 k (by omega) (by omega) (by simp [World.setRow];omega),setRow_other _ _ _ _ (by omega)];exact Below.heap_alloc w2 _ k h2
     · go_simp
       have hB2:=hB0.alloc hB0.size (.cells Z.toArray 43);replace hT:=HTT _ hB2;refine hK.out _ _ hT (fun _=>hS) ?_;clear hK K
       try simp only [zp]
       refine zm 6 fun K hK=>?_
       refine aC _ _ (by kernel_rfl) ((HCL.out _ hB2).mono ?_);rintro e w2 ⟨x2,c2,rfl,hw2,hb2⟩;refine ⟨_,rfl,?_⟩;have hB3:=hB2.trans (hb2.mono hB2.size);obtain ⟨hFl,h1F,hbd⟩:=HF0.out x2 c2;have hG:=(CellsAt.new w1 43 Z).farM hb2;have hs2:=hb2.size;rw [World.size_alloc] at hs2
       replace hT:=HTT w2 hB3;refine hK.out _ _ hT (fun _=>hS) ?_;clear hK K
       try simp only [zp]
       refine bO (i:=7) (v:=(.agg (fr0 own n ea es prev (.slice x2 lw c2)).cells.toArray)) rfl (by kernel_rfl) (by kernel_rfl) (by kernel_rfl) (fun _ _ _ h=>h) (by kernel_rfl) hT (fun _=>hS) (by kernel_rfl) (fun wx h=>eu 43 _ rfl #[(0,.int .u8 own),(1,.int .u32 n),(2,.agg (dotC ea es).toArray),(3,.agg (prev.map (Value.int .u8)).toArray),(4,.slice x2 lw c2)] (by kernel_rfl) (hbd wx)) ?_;simp only [zp];refine zm 9 fun K hK=>?_
       refine jx 43 _ _ rfl _ rfl rfl hG (by rw [hFl];exact iF70) (by rw [hZl,hFl]) h1F ?_;have hB4:Below w.heap.size w (w2.setRow w1.heap.size (fr0 own n ea es prev (.slice x2 lw c2)).cells.toArray):=below_setRow hB3 hB0.size _;replace hT:=HTT _ hB4;refine hK.out _ _ hT (fun _=>hS) ?_;clear hK K
       try simp only [zp]
       refine az (by kernel_rfl) ?_ _;refine ⟨w1.heap.size,x2,c2,kN (by kernel_rfl) ⟨hB4,((hRS0.alloc _).farM hb2).setRowM _ (by omega),hG.setRow _,by omega,fun w3 hk3=>hw2 w3 (fun k h1 h2=>?_)⟩⟩;rw [World.size_alloc] at h1
       rw [hk3 k (by omega) (by omega) (by simp [World.setRow];omega),setRow_other _ _ _ _ (by omega)]
   · go_simp
     have hB1:=hB0.alloc hB0.size (.cells Z.toArray 43);replace hT:=HTT _ hB1;refine hK.out _ _ hT (fun _=>hS) ?_;clear hK K
     try simp only [zp]
     refine zm 1 fun K hK=>?_
     refine aC _ _ (by kernel_rfl) ((HOW.out _ hB1).mono ?_);rintro e w1 ⟨rfl,rfl⟩;refine ⟨_,rfl,?_⟩;replace hT:=HTT _ hB1;refine hK.out _ _ hT (fun _=>hS) ?_;clear hK K
     try simp only [zp]
     refine zm 6 fun K hK=>?_
     refine aC _ _ (by kernel_rfl) ((HCL.out _ hB1).mono ?_);rintro e w2 ⟨x2,c2,rfl,hw2,hb2⟩;refine ⟨_,rfl,?_⟩;have hB3:=hB1.trans (hb2.mono hB1.size);obtain ⟨hFl,h1F,hbd⟩:=HF0.out x2 c2;have hG:=(CellsAt.new V0 43 Z).farM hb2;have hs2:=hb2.size;rw [World.size_alloc] at hs2
     replace hT:=HTT w2 hB3;refine hK.out _ _ hT (fun _=>hS) ?_;clear hK K
     try simp only [zp]
     refine bO (i:=7) (v:=(.agg (fr0 own n ea es prev (.slice x2 lw c2)).cells.toArray)) rfl (by kernel_rfl) (by kernel_rfl) (by kernel_rfl) (fun _ _ _ h=>h) (by kernel_rfl) hT (fun _=>hS) (by kernel_rfl) (fun wx h=>eu 43 _ rfl #[(0,.int .u8 own),(1,.int .u32 n),(2,.agg (dotC ea es).toArray),(3,.agg (prev.map (Value.int .u8)).toArray),(4,.slice x2 lw c2)] (by kernel_rfl) (hbd wx)) ?_;simp only [zp];refine zm 9 fun K hK=>?_
     refine jx 43 _ _ rfl _ rfl rfl hG (by rw [hFl];exact iF70) (by rw [hZl,hFl]) h1F ?_;have hB4:Below w.heap.size w (w2.setRow V0.heap.size (fr0 own n ea es prev (.slice x2 lw c2)).cells.toArray):=below_setRow hB3 hB0.size _;replace hT:=HTT _ hB4;refine hK.out _ _ hT (fun _=>hS) ?_;clear hK K
     try simp only [zp]
     refine az (by kernel_rfl) ?_ _;refine ⟨V0.heap.size,x2,c2,kN (by kernel_rfl) ⟨hB4,((hRS0.alloc _).farM hb2).setRowM _ (by omega),hG.setRow _,by omega,fun w3 hk3=>hw2 w3 (fun k h1 h2=>?_)⟩⟩;rw [World.size_alloc] at h1
     rw [hk3 k (by omega) (by omega) (by simp [World.setRow];omega),setRow_other _ _ _ _ (by omega)]
 rintro AC V ⟨G,x',c',u,rfl,hB,hRSV,hG,hRG,hW'⟩;dsimp only;have hM:aM w V RS G Z (fr0 own n ea es prev (.slice x' lw c')).cells x' lw c' ws:=⟨hB,hRSV,hG,hRG,hW'⟩
 obtain ⟨F0,hF0⟩:∃q,fr0 own n ea es prev (.slice x' lw c')=q:=⟨_,rfl⟩
 rw [hF0] at hM
 have HF:ac (F0.author=own∧F0.number=n∧F0.ea=ea∧F0.es=es∧F0.prev=prev∧F0.wraps=.slice x' lw c'∧F0.prev.length=32∧F0.mac.length=32):=⟨by rw [←hF0];exact ⟨rfl,rfl,rfl,rfl,rfl,rfl,HPRE.out.1,rfl⟩⟩
 have HFP:ac (F0.cells.length=70∧F0.cells[0]?=some (.int .u8 own)∧∀v∈F0.cells,v.oneCell'=true):=⟨by
  rw [←hF0];obtain ⟨q0,q1,_⟩:=HF0.out x' c';exact ⟨q0,rfl,q1⟩⟩
 clear hF0 HF0 hB hRSV hG hRG hW' HCL HOW HTT HMN hzv hz1 hb hRS;clear W;have iF:(Tryz.prog.info? 43).map (·.size)=some F0.cells.length:=by rw [HFP.out.1];exact iF70
 have iE:=cZ E HPRE.out.2.1.plen;have uE:=Tryz.underlying33;have uF:=Tryz.underlying43;have HFT:ac (∀V,Calls Tryz.prog 27 #[.agg E.cells.toArray,.agg F0.cells.toArray] V fun e w'=>e=.returned (.bool (rightB E&&((E.da==own)&&(E.ds==n))))∧Below V.heap.size V w'):=⟨fun V=>by
  have:=pZ E F0 HPRE.out.2.1 HF.out.2.2.2.2.2.2.1 HF.out.2.2.2.2.2.2.2 V;unfold fitsB at this
  rw [HF.out.1,HF.out.2.1] at this
  exact this⟩
 have r5:=(HS.out V hM.b).r5;have rG:=hM.g.wholeM;have hft:=HFT.out V
 by_cases hfit:(rightB E&&((E.da==own)&&(E.ds==n)))=true
 rotate_left
 · have hff:(rightB E&&((E.da==own)&&(E.ds==n)))=false:=by simpa using hfit
   have HSE:ac (ba n lw E own (M ea es)=3):=⟨by rw [HSE1.out,if_neg hfit]⟩
   rw [hff] at hft
   clear hfit hff HFT
   go_wp2_with (first
    |(refine ae rfl 33 _ rfl _ _ rfl E.cells r5 uE rfl iE ?_)
    |(refine ae rfl 43 _ rfl _ _ rfl F0.cells rG uF rfl iF ?_)
    |(go_at_call 27;refine hft.mono ?_;rintro e w1 ⟨rfl,hb1⟩;have hn3:=HNB.out 3 w1;clear hft)
    |(go_at_call 23;refine hn3.mono ?_;rintro e w2 ⟨rfl,rfl⟩))
   refine ak ?_;exact ⟨Or.inl ⟨by rw [HSE.out];decide,by rw [HSE.out]⟩,(hM.far hb1).b⟩
 have HSE2:ac (ba n lw E own (M ea es)=(if own<8 then (match M ea es with|none=>9|some _=>0) else 2)):=⟨by rw [HSE1.out,if_pos hfit]⟩
 rw [hfit] at hft
 clear hfit HFT HSE1;go_upto_region 5 with (first
  |(refine ae rfl 33 _ rfl _ _ rfl E.cells r5 uE rfl iE ?_)
  |(refine ae rfl 43 _ rfl _ _ rfl F0.cells rG uF rfl iF ?_)
  |(go_at_call 27;refine hft.mono ?_;rintro e w1 ⟨rfl,hb1⟩;have hn3:=HND.out 3 w1;clear hft)
  |(go_at_call 23;refine hn3.mono ?_;rintro e w2 ⟨⟨r3,rfl⟩,rfl⟩;clear hn3))
 refine af (p:=fun y=>Code.wp _ _ _ _ y) (fun V=>aM w V RS G Z F0.cells x' lw c' ws) (hM.far hb1) ?_;clear hb1 hM r5 rG;clear w1 V;rintro V hM;have c0:=(HS.out V hM.b).c0;have r3':=(HS.out V hM.b).r3;have cG0:V.cell? ⟨G,0,none⟩=some (.int .u8 own):=by rw [hM.g.cell,HFP.out.2.1]
 by_cases h8:own<8
 rotate_left
 · have HSE:ac (ba n lw E own (M ea es)=2):=⟨by rw [HSE2.out,if_neg h8]⟩
   have hfk:=vA H V ea es own (by omega);have HGB:=ac.mk (fun W=>lH z32 2 (by decide) W);clear h8
   go_wp2_with (first
    |(refine ae rfl 26 _ rfl _ _ rfl (dotC ea es) r3' uD rfl iD ?_)
    |(go_at_call 29;refine hfk.mono ?_;rintro e w1 ⟨rfl,hb1⟩;have hgb:=HGB.out w1;clear hfk)
    |(go_at_call 28;refine hgb.mono ?_;rintro e w2 ⟨rfl,hb2⟩))
   refine ak ?_;exact ⟨Or.inl ⟨by rw [HSE.out];decide,by rw [HSE.out]⟩,((hM.far hb1).far hb2).b⟩
 cases hm:M ea es with
 |none=>
  have HSE:ac (ba n lw E own (M ea es)=9):=⟨by rw [HSE2.out,if_pos h8,hm]⟩
  have hfk:=oU _ _ _ _ _ _ _ _ V ea es own HPRE.out.2.2.1 h8 (HR.out V hM.b) hm;have HGB:=ac.mk (fun W=>lH z32 9 (by decide) W);clear h8 hm HSE2
  go_wp2_with (first
   |(refine ae rfl 26 _ rfl _ _ rfl (dotC ea es) r3' uD rfl iD ?_)
   |(go_at_call 29;refine hfk.mono ?_;rintro e w1 ⟨rfl,hb1⟩;have hgb:=HGB.out w1;clear hfk)
   |(go_at_call 28;refine hgb.mono ?_;rintro e w2 ⟨rfl,hb2⟩))
  refine ak ?_;exact ⟨Or.inl ⟨by rw [HSE.out];decide,by rw [HSE.out]⟩,((hM.far hb1).far hb2).b⟩
 |some k=>
  have HSE:ac (ba n lw E own (M ea es)=0):=⟨by rw [HSE2.out,if_pos h8,hm]⟩
  have HKM:=ac.mk hm;have hfk:=xG _ _ _ _ _ _ _ _ V ea es own k HPRE.out.2.2.1 h8 (HR.out V hM.b) hm (HKT.out V hM.b).1;obtain ⟨FK,hFK⟩:∃q,et k own=q:=⟨_,rfl⟩
  have hFl:FK.length=32:=by rw [←hFK];exact aV _ _
  have HFK:=ac.mk hFK;rw [hFK] at hfk
  have HGK:=ac.mk (fun W=>sJ FK hFl W);obtain ⟨ZK,hZKl,hZK⟩:∃Z:List Int,Z.length=32∧Z=List.replicate 32 0:=⟨_,rfl,rfl⟩
  have hzv:∀wx,(zeroValue 23).run Tryz.prog wx=.ok (.agg (row .u8 ZK)) wx:=fun wx=>by rw [hZK];kernel_rfl
  have hz1:¬(row .u8 ZK)= #[]:=by intro h;have:=congrArg Array.size h;rw [bc] at this;simp at this;rw [this] at hZKl;simp at hZKl
  clear hZK hFK h8 hm HSE2;go_upto_region 6 with (first
   |(refine ae rfl 26 _ rfl _ _ rfl (dotC ea es) r3' uD rfl iD ?_)
   |(go_at_call 29;refine hfk.mono ?_;rintro e w1 ⟨rfl,hb1⟩;have hgk:=HGK.out w1;clear hfk)
   |(go_at_call 28;refine hgk.mono ?_;rintro e w2 ⟨rfl,hb2⟩;have hk2:=aa.new w2 .u8 23 ZK;clear hgk)
   |(refine ah rfl 23 _ _ rfl _ rfl rfl hk2 (by rw [hFl];exact ap) (by rw [hZKl,hFl]) ?_))
  have hb3:Below w2.heap.size w2 ((w2.alloc (.cells (row .u8 ZK) 23)).setRow w2.heap.size (row .u8 FK)):=below_setRow ((Below.refl _ _).alloc (Nat.le_refl _) _) (Nat.le_refl _) _;have hM2:=((hM.far hb1).far hb2)
  have hG2:=hM2.g.lt;refine af (p:=fun y=>Code.wp _ _ _ _ y) (fun V=>aM w V RS G Z F0.cells x' lw c' ws∧aa V w2.heap.size .u8 23 FK) ⟨hM2.far hb3,hk2.setRow _⟩ ?_;clear hb3 hM2 hk2 hb1 hb2 hM c0 r3' cG0 hzv hz1 HGK;obtain ⟨KB,hKB⟩:∃q,w2.heap.size=q:=⟨_,rfl⟩
  rw [hKB] at hG2 ⊢
  clear hKB;clear w2 w1 V;rintro V ⟨hM,hK⟩;have r5:=(HS.out V hM.b).r5;have hev:=ux E V HPRE.out.2.1.plen;have HEL:=ac.mk (fG E HPRE.out.2.1.plen);have HPD:ac (∀W x c,Below w.heap.size w W→Bytes W x 58 c (aL E)→Calls Tryz.prog 31 #[.slice x 58 c] W fun e w'=>∃x' c',e=.returned (.tuple #[.slice x' 128 c',.int .i64 0])∧Bytes w' x' 128 c' (bu (aL E) 128)∧Below W.heap.size W w'):=⟨fun W x c hb hby=>by
   refine (wW x 58 c (aL E) W (HKT.out W hb).2 hby 128 (by decide) (by omega) (by omega)).mono ?_;rintro e w' ⟨v',he,ho,hb'⟩;obtain ⟨x2,n2,c2,rfl,hn2⟩:=ho.isSlice;have hl:(bu (aL E) 128).length=128:=b9 _ _ (by rw [HEL.out];omega);rw [hl] at hn2
   subst hn2;exact ⟨x2,c2,he,ho.bytes.2,hb'⟩⟩
  have HG0:=ac.mk lk;have HFAR:ac (∀w1,Below V.heap.size V w1→Below w.heap.size w w1):=⟨fun w1 h=>(hM.far h).b⟩
  go_upto_region 7 with (first
   |(refine ae rfl 33 _ rfl _ _ rfl E.cells r5 uE rfl iE ?_)
   |(go_at_call 32;refine hev.mono ?_;rintro e w1 ⟨v1,rfl,ho1,hb1⟩;obtain ⟨x1,n1,c1,rfl,hn1⟩:=ho1.isSlice;rw [HEL.out] at hn1;subst hn1;have hpd:=HPD.out w1 x1 c1 (HFAR.out w1 hb1) ho1.bytes.2;clear hev)
   |(go_at_call 31;refine hpd.mono ?_;rintro e w2 ⟨x2,c2,rfl,hy2,hb2⟩;have hg0:=HG0.out (.slice x2 128 c2) w2;clear hpd)
   |(go_at_call 30;refine hg0.mono ?_;rintro e w3 ⟨rfl,rfl⟩;clear hg0))
  refine af (p:=fun y=>Code.wp _ _ _ _ y) (fun V=>aM w V RS G Z F0.cells x' lw c' ws∧aa V KB .u8 23 FK∧Bytes V x2 128 c2 (bu (aL E) 128)) ⟨(hM.far hb1).far hb2,(hK.below hb1 hK.lt).below hb2 (hK.below hb1 hK.lt).lt,hy2⟩ ?_;clear hM hK hb1 hb2 hy2 ho1 r5 HFAR HPD;clear w2 V;rintro V ⟨hM,hK,hP⟩;obtain ⟨BD,hBD⟩:∃q,dK FK (bm n) (aP F0 ws) (bu (aL E) 128)=q:=⟨_,rfl⟩
  have hBDl:BD.length=144:=by rw [←hBD,jK,b9 _ _ (by rw [HEL.out];omega)]
  have HBD:=ac.mk hBD;have hnl:(bm n).length=12:=rfl;have HOP:ac (∀W,aM w W RS G Z F0.cells x' lw c' ws→Calls Tryz.prog 35 #[.agg F0.cells.toArray] W fun e w'=>∃x4 n4 c4,e=.returned (.slice x4 n4 c4)∧n4≤4000∧Bytes w' x4 n4 c4 (aP F0 ws)∧Below W.heap.size W w'):=⟨fun W h=>by
   have hwa:=h.wk W (fun _ _ _ _=>rfl);refine (mf F0 x' lw c' ws W HF.out.2.2.2.2.2.2.1 HF.out.2.2.2.2.2.2.2 HF.out.2.2.2.2.2.1 hwa hl).mono ?_;rintro e w' ⟨v',he,ho,hb'⟩;obtain ⟨x4,n4,c4,rfl,hn4⟩:=ho.isSlice;refine ⟨x4,n4,c4,he,?_,ho.bytes.2,hb'⟩;rw [hn4,dj F0 ws HF.out.2.2.2.2.2.2.1 hwa.ok];have:=hwa.len_eq;omega⟩
  have HSL:ac (∀W x4 n4 c4,Bytes W x4 n4 c4 (aP F0 ws)→n4≤4000→Bytes W x2 128 c2 (bu (aL E) 128)→Calls Tryz.prog 33 #[.agg (row .u8 FK),.agg (row .u8 (bm n)),.slice x4 n4 c4,.slice x2 128 c2] W fun e w'=>∃x5 c5,e=.returned (.slice x5 144 c5)∧aq w' W.heap.size (.slice x5 144 c5) BD∧Below W.heap.size W w'):=⟨fun W x4 n4 c4 h1 h2 h3=>by
   refine (vR FK (bm n) x4 n4 c4 (aP F0 ws) x2 128 c2 (bu (aL E) 128) W hFl rfl h1 h3 (by omega) (by omega)).mono ?_;rintro e w' ⟨v',he,ho,hb'⟩;obtain ⟨x5,n5,c5,rfl,hn5⟩:=ho.isSlice;rw [hBD] at ho hn5
   rw [hBDl] at hn5
   subst hn5;exact ⟨x5,c5,he,ho,hb'⟩⟩
  have iFK:(Tryz.prog.info? 23).map (·.size)=some (FK.map (Value.int .u8)).length:=by rw [List.length_map,hFl];exact ap
  obtain ⟨F1,hF1⟩:∃q:Option Addr→Nat→Fr,q=fun x c=>({F0 with body:=.slice x 144 c}:Fr):=⟨_,rfl⟩
  have HF1:ac (∀x c,F0.cells.set 37 (.slice x 144 c)=(F1 x c).cells∧(F1 x c).author=own∧(F1 x c).number=n∧(F1 x c).ea=ea∧(F1 x c).es=es∧(F1 x c).prev=prev∧(F1 x c).wraps=.slice x' lw c'∧(F1 x c).body=.slice x 144 c∧(F1 x c).prev.length=32∧(F1 x c).mac.length=32∧aP (F1 x c) ws=aP F0 ws):=⟨fun x c=>by
   rw [hF1];exact ⟨oY F0 _ HF.out.2.2.2.2.2.2.1,HF.out.1,HF.out.2.1,HF.out.2.2.1,HF.out.2.2.2.1,HF.out.2.2.2.2.1,HF.out.2.2.2.2.2.1,rfl,HF.out.2.2.2.2.2.2.1,HF.out.2.2.2.2.2.2.2,rfl⟩⟩
  have HC37:ac (F0.cells[37]?=some F0.body):=⟨(aH F0 HF.out.2.2.2.2.2.2.1 HF.out.2.2.2.2.2.2.2).2.2.2.2.2.2.1⟩
  clear hBD hF1;have HSS:∀W,aM w W RS G Z F0.cells x' lw c' ws→aa W KB .u8 23 FK→(fun w':World=>w'.rangeAt KB 0 (FK.map (Value.int .u8))∧w'.cell? ⟨b1,0,none⟩=some (.int .u32 n)∧w'.rangeAt G 0 F0.cells) W:=fun W h1 h2=>⟨h2.cellsAt.wholeM,(HS.out W h1.b).c1,h1.g.wholeM⟩
  refine ag (fun w'=>w'.rangeAt KB 0 (FK.map (Value.int .u8))∧w'.cell? ⟨b1,0,none⟩=some (.int .u32 n)∧w'.rangeAt G 0 F0.cells) 8 (by kernel_rfl) ?_;refine af (p:=fun y=>aE _ _ _ _ _ _ _ _ _ y) (fun V=>aM w V RS G Z F0.cells x' lw c' ws∧aa V KB .u8 23 FK∧Bytes V x2 128 c2 (bu (aL E) 128)) ⟨hM.far (Below.refl _ _).drew,hK.below (Below.refl V.heap.size V).drew hK.lt,hP.below (Below.refl _ _).drew⟩ ?_;clear hM hK hP;clear V;rintro V ⟨hM,hQ,hP⟩;have hS:=HSS V hM hQ;refine gaA 5 _ hS ?_;simp only [zp];refine zg 0 47 23 8 KB 0 (FK.map (Value.int .u8)) hS (fun _ h=>h.1) uK iFK ?_;simp only [zp];refine grA 1 _ hS ?_;simp only [zp];refine zg 3 50 43 7 G 0 F0.cells hS (fun _ h=>h.2.2) uF iF ?_;simp only [zp];refine zw 2 fun K hK=>?_
  refine aC _ _ (by kernel_rfl) ((ka n V).mono ?_);rintro e w2 ⟨rfl,hb2⟩;refine ⟨_,rfl,?_⟩;have hM2:=hM.far hb2;have hQ2:=hQ.below hb2 hQ.lt;have hP2:=hP.below hb2;replace hS:=HSS w2 hM2 hQ2;refine hK.out _ _ (fun _=>hS) ?_;clear hK K
  try simp only [zp]
  refine zw 4 fun K hK=>?_
  refine aC _ _ (by kernel_rfl) ((HOP.out w2 hM2).mono ?_);rintro e w3 ⟨x4,n4,c4,rfl,hn4,hy4,hb3⟩;refine ⟨_,rfl,?_⟩;have hM3:=hM2.far hb3;have hQ3:=hQ2.below hb3 hQ2.lt;have hP3:=hP2.below hb3;replace hS:=HSS w3 hM3 hQ3;refine hK.out _ _ (fun _=>hS) ?_;clear hK K
  try simp only [zp]
  refine zw 6 fun K hK=>?_
  refine aC _ _ (by kernel_rfl) ((HSL.out w3 x4 n4 c4 hy4 hn4 hP3).mono ?_);rintro e w4 ⟨x5,c5,rfl,ho5,hb4⟩;refine ⟨_,rfl,?_⟩;have hM4:=hM3.far hb4;have hQ4:=hQ3.below hb4 hQ3.lt;replace hS:=HSS w4 hM4 hQ4;refine hK.out _ _ (fun _=>hS) ?_;clear hK K
  try simp only [zp]
  refine gaA 7 _ hS ?_;simp only [zp];refine zw 8 fun K hK=>?_
  have c37:w4.cell? ⟨G,37,none⟩=some F0.body:=by rw [hM4.g.cell,HC37.out]
  have g37:w4.frozen? ⟨G,37,none⟩=false:=hM4.g.frozen 37;have hG3:=hM3.g.lt;have HM5:ac (aM w (w4.setCell ⟨G,37,none⟩ (.slice x5 144 c5)) RS G Z (F1 x5 c5).cells x' lw c' ws):=⟨hM4.setG (hM4.b.setCell (by show w.heap.size≤G;have:=HRS.out;have:=hM4.lt;omega) _) (by rw [←(HF1.out x5 c5).1];exact hM4.g.set 37 _) (by simp [World.setCell]) (fun k hk=>Below.heap_setCell _ _ _ k hk)⟩
  have HB5:ac (∀w6:World,(∀k,RS<k→k≠G→k<(w4.setCell ⟨G,37,none⟩ (.slice x5 144 c5)).heap.size→w6.heap[k]?=(w4.setCell ⟨G,37,none⟩ (.slice x5 144 c5)).heap[k]?)→Bytes w6 x5 144 c5 BD):=⟨fun w6 hk=>(ho5.keep (fun g h1 h2=>by
   have hlt:=hM3.lt;rw [hk g (by omega) (by omega) (by simp [World.setCell];omega)];exact Below.heap_setCell _ _ _ g (by show g≠G;omega))).bytes.2⟩
  clear HSS hM4 hQ4 hM3 hQ3 hP3 hM2 hQ2 hP2 hM hQ hP ho5 hb4 hb3 hb2 hy4 hG3;go_simp;refine hK.out _ _ zn ?_;clear hK K
  try simp only [zp]
  refine al (by kernel_rfl) ?_ _;clear hS c37 g37;refine af (p:=fun y=>Exit.then _ _ _ _ y) (fun V=>aM w V RS G Z (F1 x5 c5).cells x' lw c' ws∧∀w6:World,(∀k,RS<k→k≠G→k<V.heap.size→w6.heap[k]?=V.heap[k]?)→Bytes w6 x5 144 c5 BD) ⟨HM5.out,HB5.out⟩ ?_;clear HM5 HB5 HOP HSL HC37;clear w4 w3 w2 V;rintro V ⟨hM,hY⟩;obtain ⟨f1c,f1a,f1n,f1ea,f1es,f1p,f1w,f1b,f1pl,f1ml,f1o⟩:=HF1.out x5 c5;generalize F1 x5 c5=FB at f1c f1a f1n f1ea f1es f1p f1w f1b f1pl f1ml f1o hM
  have HFB:=ac.mk (And.intro f1a (And.intro f1n (And.intro f1ea (And.intro f1es (And.intro f1p (And.intro f1w (And.intro f1b (And.intro f1pl (And.intro f1ml f1o)))))))));clear f1c f1a f1n f1ea f1es f1p f1w f1b f1pl f1ml f1o HF1;have h7B:FB.cells.length=70:=(aH FB HFB.out.2.2.2.2.2.2.2.1 HFB.out.2.2.2.2.2.2.2.2.1).1;have iB:(Tryz.prog.info? 43).map (·.size)=some FB.cells.length:=by rw [h7B];exact iF70
  obtain ⟨TG,hTG⟩:∃q,ftagL seed FB ws BD=q:=⟨_,rfl⟩
  have hTl:TG.length=32:=by rw [←hTG];exact dX _ _ _ _
  have HTG:=ac.mk hTG;have htg:Calls Tryz.prog 36 #[.pointer (some ⟨H,0,none⟩),.agg FB.cells.toArray] V fun e w'=>e=.returned (.agg (row .u8 TG))∧Below V.heap.size V w':=by
   have:=pp base H own seed b M v L V (HR.out V hM.b) (HKT.out V hM.b).1 FB x' lw c' ws x5 144 c5 BD ⟨HFB.out.2.2.2.2.2.2.2.1,HFB.out.2.2.2.2.2.2.2.2.1,HFB.out.2.2.2.2.2.1,HFB.out.2.2.2.2.2.2.1,hM.wk V (fun _ _ _ _=>rfl),hY V (fun _ _ _ _=>rfl)⟩ hl (by omega);rw [hTG] at this
   exact this
  clear hTG;have iT:(Tryz.prog.info? 23).map (·.size)=some (TG.map (Value.int .u8)).length:=by rw [List.length_map,hTl];exact ap
  have h1T:∀v∈TG.map (Value.int .u8),v.oneCell'=true:=fun v hv=>by obtain ⟨x,_,rfl⟩:=List.mem_map.1 hv;rfl
  obtain ⟨FS,hFS⟩:∃q:Fr,q=({FB with mac:=TG}:Fr):=⟨_,rfl⟩
  have HFSc:ac (FB.cells.take 38++TG.map (Value.int .u8)++FB.cells.drop 70=FS.cells):=⟨by rw [hFS];exact pL FB TG HFB.out.2.2.2.2.2.2.2.1 HFB.out.2.2.2.2.2.2.2.2.1⟩
  have HFS:=ac.mk hFS;have h7S:FS.cells.length=70:=by rw [hFS];exact (aH ({FB with mac:=TG}:Fr) HFB.out.2.2.2.2.2.2.2.1 hTl).1
  have iS:(Tryz.prog.info? 43).map (·.size)=some FS.cells.length:=by rw [h7S];exact iF70
  have h1S:∀v∈FS.cells,v.oneCell'=true:=fun v hv=>by
   rw [hFS] at hv
   simp only [Fr.cells,dotC,List.mem_append,List.mem_cons,List.not_mem_nil,or_false,List.mem_map,HFB.out.2.2.2.2.2.1,HFB.out.2.2.2.2.2.2.1] at hv
   rcases hv with ((((rfl|rfl)|rfl|rfl)|⟨x,_,rfl⟩)|rfl|rfl)|⟨x,_,rfl⟩<;>rfl
  clear hFS;have c0:=(HS.out V hM.b).c0;have rG:=hM.g.wholeM;have HSTEP:ac (∀w1,Below V.heap.size V w1→aM w w1 RS G Z FB.cells x' lw c' ws∧aM w (w1.setRow G FS.cells.toArray) RS G Z FS.cells x' lw c' ws∧∀w6:World,(∀k,RS<k→k≠G→k<(w1.setRow G FS.cells.toArray).heap.size→w6.heap[k]?=(w1.setRow G FS.cells.toArray).heap[k]?)→Bytes w6 x5 144 c5 BD):=⟨fun w1 hb1=>by
   have h1:=hM.far hb1;refine ⟨h1,h1.setG (below_setRow h1.b (by have:=HRS.out;have:=h1.lt;omega) _) (h1.g.setRow _) (by simp [World.setRow]) (fun k hk=>setRow_other _ _ k _ hk),fun w6 hk=>hY w6 fun k q1 q2 q3=>?_⟩;rw [hk k q1 q2 (by have:=hb1.size;simp [World.setRow];omega),setRow_other _ _ k _ q2,hb1.block k q3]⟩
  go_upto_region 9 with (first
   |(refine ae rfl 43 _ rfl _ _ rfl FB.cells rG uF rfl iB ?_)
   |(go_at_call 36;refine htg.mono ?_;rintro e w1 ⟨rfl,hb1⟩;obtain ⟨hM1,hM2,hY2⟩:=HSTEP.out w1 hb1;clear htg)
   |(refine gk rfl 23 _ _ rfl G 38 rfl (cs:=TG.map (Value.int .u8)) rfl hM1.g iT (by rw [List.length_map,hTl,h7B];omega) h1T ?_))
  rw [show 38+(TG.map (Value.int .u8)).length=70 by rw [List.length_map,hTl],HFSc.out];refine af (p:=fun y=>Code.wp _ _ _ _ y) (fun V=>aM w V RS G Z FS.cells x' lw c' ws∧∀w6:World,(∀k,RS<k→k≠G→k<V.heap.size→w6.heap[k]?=V.heap[k]?)→Bytes w6 x5 144 c5 BD) ⟨hM2,hY2⟩ ?_;clear hM2 hY2 hM1 hb1 HSTEP hM hY c0 rG;clear w1 V;rintro V ⟨hM,hY⟩;have rG:=hM.g.wholeM
  go_wp2_with (first
   |(refine ae rfl 43 _ rfl _ _ rfl FS.cells rG uF rfl iS ?_)
   |(refine aw rfl 43 _ _ rfl _ rfl rfl hM.rs iS (by rw [hZl,h7S]) h1S ?_))
  refine bodyPost_ret (dy (Tryz.results22) _ rfl (hM.rs.setRow FS.cells) Tryz.underlying43 rfl iS) rfl ⟨Or.inr ⟨HSE.out,FS,k,HKM.out,rfl,?_⟩,below_setRow hM.b (by have:=HRS.out;omega) _⟩;have eB:bJ k FS ws E=BD:=by
   rw [←HBD.out,←HFK.out];unfold bJ;rw [HFS.out];show dK (et k FB.author) (bm FB.number) (aP FB ws) _=_;rw [HFB.out.1,HFB.out.2.1,HFB.out.2.2.2.2.2.2.2.2.2]
  rw [eB];refine ⟨⟨x',c',x5,c5,fun w2 hk=>?_⟩,?_⟩
  · have hkk:∀j,RS<j→j≠G→j<V.heap.size→w2.heap[j]?=V.heap[j]?:=fun j h1 h2 h3=>by
     rw [hk j (by have:=HRS.out;omega) (by simp [World.setRow];omega),setRow_other _ _ j _ (by omega)]
    refine ⟨?_,?_,?_,?_,hM.wk w2 hkk,hY w2 hkk⟩
    · rw [HFS.out];exact HFB.out.2.2.2.2.2.2.2.1
    · rw [HFS.out];exact hTl
    · rw [HFS.out];exact HFB.out.2.2.2.2.2.1
    · rw [HFS.out];exact HFB.out.2.2.2.2.2.2.1
  · rw [HFS.out]
    exact ⟨HFB.out.1,HFB.out.2.1,HFB.out.2.2.1,HFB.out.2.2.2.1,HFB.out.2.2.2.2.1,HTG.out.symm⟩
end
end Go.Proofs.YtbdhfbglagdiaaaGreatDoor
