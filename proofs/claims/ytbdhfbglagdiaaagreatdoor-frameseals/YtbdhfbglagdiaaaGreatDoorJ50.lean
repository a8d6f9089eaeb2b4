/- Evs Ftg Fbk Eqw Sf0 Sf2 Fag -/
import Derived.Test.YtbdhfbglagdiaaaGreatDoorJ07
import Derived.Test.YtbdhfbglagdiaaaGreatDoorJ27
import Derived.Laws.StructEq
import Derived.Test.YtbdhfbglagdiaaaGreatDoorJ49
import Derived.Test.YtbdhfbglagdiaaaGreatDoorJ10
import Derived.Test.YtbdhfbglagdiaaaGreatDoorJ06
import Derived.Test.YtbdhfbglagdiaaaGreatDoorJ26
import Derived.Test.YtbdhfbglagdiaaaGreatDoorJ02
namespace Go.Proofs.YtbdhfbglagdiaaaGreatDoor
open Go.RowKit
set_option maxRecDepth 20000
set_option linter.unusedSimpArgs false
theorem si (F:Fr) {xw:Option Addr} {lw cw:Nat} {xb:Option Addr} {lb cb:Nat} (h1:F.wraps=.slice xw lw cw) (h2:F.body=.slice xb lb cb):∀v∈F.cells,v.oneCell'=true:=by
 intro v hv;simp only [Fr.cells,dotC,List.mem_append,List.mem_cons,List.not_mem_nil,or_false,List.mem_map,h1,h2] at hv
 rcases hv with ((((rfl|rfl)|rfl|rfl)|⟨x,_,rfl⟩)|rfl|rfl)|⟨x,_,rfl⟩<;>rfl
def wv (V:World) (base HS:Nat) (o:Int) (SD:List Int) (bS:Nat) (ea es:Int) (p:Option (List Int)) (c:Nat):Prop:=∃M v L,aB V base HS o SD bS M v L∧M ea es=p∧L.length≤c
theorem wv.far {V V':World} {base HS:Nat} {o:Int} {SD:List Int} {bS:Nat} {ea es:Int} {p:Option (List Int)} {c:Nat} (h:wv V base HS o SD bS ea es p c) (hb:Below V.heap.size V V'):wv V' base HS o SD bS ea es p c:=by
 obtain ⟨M,v,L,hR,hp,hl⟩:=h;exact ⟨M,v,L,hR.far hb,hp,hl⟩
structure ob (W:World) (seed:List Int) (own:Int) (k:List Int) (n:Int) (lw:Nat) (ws:List Wp) (E:Ev) (ea es:Int) (F:Fr):Prop where
 ok:∃yw dw yb db,lg W F yw lw dw ws yb 144 db (bJ k F ws E)
 zero:ba n lw E own (some k)=0
 a:F.author=own
 n_:F.number=n
 ea_:F.ea=ea
 es_:F.es=es
 m:F.mac=ftagL seed F ws (bJ k F ws E)
 E_:E.In
 In:F.In
 w_:∀e∈ws,e.In
 k_:k.length=32
theorem ob.below {W V:World} {seed:List Int} {own:Int} {k:List Int} {n:Int} {lw:Nat} {ws:List Wp} {E:Ev} {ea es:Int} {F:Fr} (h:ob W seed own k n lw ws E ea es F) (hb:Below W.heap.size W V):ob V seed own k n lw ws E ea es F:=by
 obtain ⟨yw,dw,yb,db,hq⟩:=h.ok;exact ⟨⟨yw,dw,yb,db,hq.below hb⟩,h.zero,h.a,h.n_,h.ea_,h.es_,h.m,h.E_,h.In,h.w_,h.k_⟩
noncomputable def wsB (a b:List Wp):Bool:=open Classical in decide (a=b)
theorem lR {a b:List Wp} (h:a=b):wsB a b=true:=by unfold wsB;simp [h]
theorem mZ {a b:List Wp} (h:a≠b):wsB a b=false:=by unfold wsB;simp [h]
theorem pg {a b:List Wp} {j:Nat} (h1:j<a.length) (h2:j<b.length) (h:a[j]≠b[j]):a≠b:=fun e=>by subst e;exact h rfl
theorem uc {a b:List Wp} {j:Nat} (h1:j<a.length) (h2:j<b.length) (h:a[j]=b[j]) (h0:a.take j=b.take j):a.take (j+1)=b.take (j+1):=by
 rw [List.take_succ_eq_append_getElem h1,List.take_succ_eq_append_getElem h2,h0,h]
noncomputable def kI (F:Fr) (ws:List Wp) (body:List Int) (G:Fr) (vs:List Wp) (bp:List Int):Bool:=
 (F.author==G.author)&&(F.number==G.number)&&((F.ea==G.ea)&&(F.es==G.es))&&(F.prev==G.prev)&&wsB ws vs&&((strOfNums body).toList==(strOfNums bp).toList)&&(F.mac==G.mac)
theorem rj (F:Fr) (ws:List Wp) (body:List Int):kI F ws body F ws body=true:=by unfold kI;simp [lR]
set_option maxHeartbeats 8000000
theorem pM (F:Fr) (xw:Option Addr) (lw cw:Nat) (ws:List Wp) (xb:Option Addr) (lb cb:Nat) (body:List Int) (G:Fr) (yw:Option Addr) (mw dw:Nat) (vs:List Wp) (yb:Option Addr) (mb db:Nat) (bp:List Int) (w:World)
    (hp:F.prev.length=32) (hm:F.mac.length=32) (hfw:F.wraps=.slice xw lw cw) (hws:WrapsAt w xw lw cw ws) (hfb:F.body=.slice xb lb cb) (hbo:Bytes w xb lb cb body)
    (kp:G.prev.length=32) (km:G.mac.length=32) (kfw:G.wraps=.slice yw mw dw) (kws:WrapsAt w yw mw dw vs) (kfb:G.body=.slice yb mb db) (kbo:Bytes w yb mb db bp):
    Calls Tryz.prog 10 #[.agg F.cells.toArray,.agg G.cells.toArray] w fun e w'=>e=.returned (.bool (kI F ws body G vs bp))∧Below w.heap.size w w':=by
 obtain ⟨_,q1,q2,q3,q4,q5,q6,q7⟩:=aH F hp hm;obtain ⟨_,p1,p2,p3,p4,p5,p6,p7⟩:=aH G kp km;rw [hfw] at q5
 rw [hfb] at q6
 rw [kfw] at p5
 rw [kfb] at p6
 have hdq:=fun wx=>dot_neq F.ea F.es G.ea G.es wx
 have hkq:=fun wx=>key_neq F.prev G.prev hp kp wx
 have hmq:=fun wx=>key_neq F.mac G.mac hm km wx
 have uD:=Tryz.underlying26;have iD:∀a s:Int,(Tryz.prog.info? 26).map (·.size)=some (dotC a s).length:=fun a s=>sizeDot
 have uK:=Tryz.underlying23;have iK:∀l:List Int,l.length=32→(Tryz.prog.info? 23).map (·.size)=some (l.map (Value.int .u8)).length:=fun l hl=>by rw [List.length_map,hl];exact yu
 have i1:=iK F.prev hp;have i2:=iK G.prev kp;have i3:=iK F.mac hm;have i4:=iK G.mac km;have j1:=iD F.ea F.es;have j2:=iD G.ea G.es;have HSAME:ac (kI F ws body G vs bp=((F.author==G.author)&&(F.number==G.number)&&((F.ea==G.ea)&&(F.es==G.es))&&(F.prev==G.prev)&&wsB ws vs&&((strOfNums body).toList==(strOfNums bp).toList)&&(F.mac==G.mac))):=⟨rfl⟩
 obtain ⟨SB,hSB⟩:∃q,kI F ws body G vs bp=q:=⟨_,rfl⟩
 rw [hSB] at HSAME ⊢
 obtain ⟨b1,h1⟩:∃q,(F.author==G.author)=q:=⟨_,rfl⟩
 obtain ⟨b2,h2⟩:∃q,(F.number==G.number)=q:=⟨_,rfl⟩
 obtain ⟨b3,h3⟩:∃q,((F.ea==G.ea)&&(F.es==G.es))=q:=⟨_,rfl⟩
 obtain ⟨b4,h4⟩:∃q,(F.prev==G.prev)=q:=⟨_,rfl⟩
 obtain ⟨b5,h5⟩:∃q,wsB ws vs=q:=⟨_,rfl⟩
 obtain ⟨b6,h6⟩:∃q,((strOfNums body).toList==(strOfNums bp).toList)=q:=⟨_,rfl⟩
 obtain ⟨b7,h7⟩:∃q,(F.mac==G.mac)=q:=⟨_,rfl⟩
 rw [h1,h2,h3,h4,h5,h6,h7] at HSAME
 rw [h3] at hdq
 rw [h4] at hkq
 rw [h7] at hmq
 have h1b:(F.author !=G.author)= !b1:=by rw [bne,h1]
 have h2b:(F.number !=G.number)= !b2:=by rw [bne,h2]
 have HXL:=ac.mk hws.len_eq;have HYL:=ac.mk kws.len_eq;have HOX:=ac.mk hws.ok;have HOY:=ac.mk kws.ok;have HX:ac (∀wx,Below w.heap.size w wx→WrapsAt wx xw lw cw ws):=⟨fun wx h=>hws.below h⟩
 have HY:ac (∀wx,Below w.heap.size w wx→WrapsAt wx yw mw dw vs):=⟨fun wx h=>kws.below h⟩
 have lex:=hws.le;have tpx:=hws.top;have ley:=kws.le;have tpy:=kws.top;have H5:ac (wsB ws vs=b5):=⟨h5⟩
 have hcva:∀wx,Below w.heap.size w wx→(convert 41 9 (.slice xb lb cb)).run Tryz.prog wx=.ok (.string (strOfNums body)) wx:=fun wx h=>l8 (hbo.below h)
 have hcvb:∀wx,Below w.heap.size w wx→(convert 41 9 (.slice yb mb db)).run Tryz.prog wx=.ok (.string (strOfNums bp)) wx:=fun wx h=>l8 (kbo.below h)
 obtain ⟨S1,hS1⟩:∃q,strOfNums body=q:=⟨_,rfl⟩
 obtain ⟨S2,hS2⟩:∃q,strOfNums bp=q:=⟨_,rfl⟩
 rw [hS1] at hcva h6
 rw [hS2] at hcvb h6
 have h6b:(S1.toList !=S2.toList)= !b6:=by rw [bne,h6]
 clear hS1 hS2;have hA0:CellsAt ((w.alloc (.cells F.cells.toArray 43)).alloc (.cells G.cells.toArray 43)) w.heap.size 43 F.cells:=(CellsAt.new w 43 F.cells).alloc _;have hG0:CellsAt ((w.alloc (.cells F.cells.toArray 43)).alloc (.cells G.cells.toArray 43)) (w.heap.size+1) 43 G.cells:=by
  have:=CellsAt.new (w.alloc (.cells F.cells.toArray 43)) 43 G.cells;rw [World.size_alloc] at this
  exact this
 have hB0:Below w.heap.size w ((w.alloc (.cells F.cells.toArray 43)).alloc (.cells G.cells.toArray 43)):=((Below.refl _ _).alloc (Nat.le_refl _) _).alloc (by simp) _;have KEEP:ac (∀W,CellsAt W w.heap.size 43 F.cells→CellsAt W (w.heap.size+1) 43 G.cells→(W.cell? ⟨w.heap.size,0,none⟩=some (.int .u8 F.author)∧W.cell? ⟨w.heap.size,1,none⟩=some (.int .u32 F.number)∧W.rangeAt w.heap.size 2 (dotC F.ea F.es)∧W.rangeAt w.heap.size 4 (F.prev.map (Value.int .u8))∧W.cell? ⟨w.heap.size,36,none⟩=some (.slice xw lw cw)∧W.cell? ⟨w.heap.size,37,none⟩=some (.slice xb lb cb)∧W.rangeAt w.heap.size 38 (F.mac.map (Value.int .u8)))∧
     (W.cell? ⟨w.heap.size+1,0,none⟩=some (.int .u8 G.author)∧W.cell? ⟨w.heap.size+1,1,none⟩=some (.int .u32 G.number)∧W.rangeAt (w.heap.size+1) 2 (dotC G.ea G.es)∧W.rangeAt (w.heap.size+1) 4 (G.prev.map (Value.int .u8))∧W.cell? ⟨w.heap.size+1,36,none⟩=some (.slice yw mw dw)∧W.cell? ⟨w.heap.size+1,37,none⟩=some (.slice yb mb db)∧W.rangeAt (w.heap.size+1) 38 (G.mac.map (Value.int .u8)))):=⟨fun W h k=>
  ⟨⟨by rw [h.cell];exact q1,by rw [h.cell];exact q2,by have:=h.range 2 2;rw [q3] at this;exact this,by have:=h.range 4 32;rw [q4] at this;exact this,by rw [h.cell];exact q5,by rw [h.cell];exact q6,by have:=h.range 38 32;rw [q7] at this;exact this⟩,
   ⟨by rw [k.cell];exact p1,by rw [k.cell];exact p2,by have:=k.range 2 2;rw [p3] at this;exact this,by have:=k.range 4 32;rw [p4] at this;exact this,by rw [k.cell];exact p5,by rw [k.cell];exact p6,by have:=k.range 38 32;rw [p7] at this;exact this⟩⟩⟩
 clear hSB hp hm hfw hws hfb hbo kp km kfw kws kfb kbo q1 q2 q3 q4 q5 q6 q7 p1 p2 p3 p4 p5 p6 p7 h3 h4 h5 h7 iK iD;go_enter Tryz.func10,Tryz.ntmps10;go_upto_region 1 with fail
 refine af (p:=fun y=>Code.wp _ _ _ _ y) (fun W=>Below w.heap.size w W∧CellsAt W w.heap.size 43 F.cells∧CellsAt W (w.heap.size+1) 43 G.cells) ⟨hB0,hA0,hG0⟩ ?_;clear hB0 hA0 hG0;rintro W ⟨hB0,hA0,hG0⟩;obtain ⟨GB,hGB⟩:∃q,w.heap.size+1=q:=⟨_,rfl⟩
 have HGB:ac (w.heap.size+1=GB):=⟨hGB⟩
 rw [hGB] at hG0 KEEP ⊢
 clear hGB;obtain ⟨⟨c0,c1,rD,rP,c36,c37,rM⟩,⟨k0,k1,sD,sP,k36,k37,sM⟩⟩:=KEEP.out W hA0 hG0;have cva:=hcva W hB0;have cvb:=hcvb W hB0;clear hcva hcvb;cases b1 with
 |false=>
  go_wp2_with fail
  go_ret;exact ⟨by rw [HSAME.out];first|rfl|(simp;rfl)|simp,hB0⟩
 |true=>
  cases b2 with
  |false=>
   go_wp2_with fail
   go_ret;exact ⟨by rw [HSAME.out];first|rfl|(simp;rfl)|simp,hB0⟩
  |true=>
   cases b3 with
   |false=>
    go_wp2_with (first
        |(refine ao (by kernel_rfl) _ _ rfl _ _ rfl _ (by assumption) (by assumption) (by rfl) (by assumption) ?_))
    go_ret;exact ⟨by rw [HSAME.out];first|rfl|(simp;rfl)|simp,hB0⟩
   |true=>
    cases b4 with
    |false=>
     go_wp2_with (first
         |(refine ao (by kernel_rfl) _ _ rfl _ _ rfl _ (by assumption) (by assumption) (by rfl) (by assumption) ?_))
     go_ret;exact ⟨by rw [HSAME.out];first|rfl|(simp;rfl)|simp,hB0⟩
    |true=>
     cases b7 with
     |false=>
      go_wp2_with (first
          |(refine ao (by kernel_rfl) _ _ rfl _ _ rfl _ (by assumption) (by assumption) (by rfl) (by assumption) ?_))
      go_ret;exact ⟨by rw [HSAME.out];first|rfl|(simp;rfl)|simp,hB0⟩
     |true=>
      by_cases hlm:lw=mw
      rotate_left
      · have hbl:((lw:Int)==(mw:Int))=false:=by simp;omega
        have HRf:ac (b5=false):=⟨by rw [←H5.out];exact mZ (fun e=>hlm (by rw [HXL.out,HYL.out,e]))⟩
        go_wp2_with (first
            |(refine ao (by kernel_rfl) _ _ rfl _ _ rfl _ (by assumption) (by assumption) (by rfl) (by assumption) ?_))
        go_ret;exact ⟨by rw [HSAME.out];rw [HRf.out];first|rfl|(simp;rfl)|simp,hB0⟩
      subst hlm;cases b6 with
      |false=>
       go_wp2_with (first
           |(refine ao (by kernel_rfl) _ _ rfl _ _ rfl _ (by assumption) (by assumption) (by rfl) (by assumption) ?_))
       go_ret;exact ⟨by rw [HSAME.out];first|rfl|(simp;rfl)|simp,hB0⟩
      |true=>
       go_upto_region 3 with (first
           |(refine ao (by kernel_rfl) _ _ rfl _ _ rfl _ (by assumption) (by assumption) (by rfl) (by assumption) ?_))
       clear rD sD rP sP rM sM c0 k0 c1 k1 c37 k37 cva cvb hdq hkq hmq h1 h2 h1b h2b h6 h6b;refine af (p:=fun y=>Code.wp _ _ _ _ y) (fun W=>Below w.heap.size w W∧CellsAt W w.heap.size 43 F.cells∧CellsAt W (GB) 43 G.cells) ⟨hB0,hA0,hG0⟩ ?_;clear hB0 hA0 hG0 c36 k36;rintro W ⟨hB0,hA0,hG0⟩
       go_wp2_with fail
       go_loopw [5] (fun q wr=>∃j:Nat,j≤lw∧q=.int .i64 j∧ac (ws.take j=vs.take j)∧Below w.heap.size w wr∧CellsAt wr w.heap.size 43 F.cells∧CellsAt wr (GB) 43 G.cells) (fun q _=>lw - (intOf q).toNat)
       case atStart=>exact ⟨0,by omega,rfl,⟨rfl⟩,hB0,hA0,hG0⟩
       case round=>
        clear hB0 hA0 hG0;obtain ⟨j,hj,rfl,HTK,hB0,hA0,hG0⟩:=hrel;obtain ⟨⟨_,_,_,_,c36,_,_⟩,⟨_,_,_,_,k36,_,_⟩⟩:=KEEP.out wr hA0 hG0
        by_cases hlt:j<lw
        · have h1:j<ws.length:=by have:=HXL.out;omega
          have h2:j<vs.length:=by have:=HYL.out;omega
          obtain ⟨b,off,hx,hrg⟩:∃b off,xw=some ⟨b,off,none⟩∧∀wx,Below w.heap.size w wx→wx.rangeAt b (off+j*51) (ws[j]).cells:=by
           rcases (HX.out wr hB0).at_ with h0|⟨b,off,hx,_⟩
           · omega
           · refine ⟨b,off,hx,fun wx hb=>?_⟩
             rcases (HX.out wx hb).at_ with h0|⟨b',off',hx',hr⟩
             · omega
             · rw [hx] at hx';cases hx';exact hr j h1
          obtain ⟨b2,off2,hy,hrg2⟩:∃b off,yw=some ⟨b,off,none⟩∧∀wx,Below w.heap.size w wx→wx.rangeAt b (off+j*51) (vs[j]).cells:=by
           rcases (HY.out wr hB0).at_ with h0|⟨b,off,hx,_⟩
           · omega
           · refine ⟨b,off,hx,fun wx hb=>?_⟩
             rcases (HY.out wx hb).at_ with h0|⟨b',off',hx',hr⟩
             · omega
             · rw [hx] at hx';cases hx';exact hr j h2
          subst hx hy;have o1:=HOX.out _ (List.getElem_mem h1);have o2:=HOY.out _ (List.getElem_mem h2);have hnq:=fun wx=>wrap_neq ws[j] vs[j] o1 o2 wx
          have HD:ac (wpEq ws[j] vs[j]=false→b5=false):=⟨fun h=>by
           rw [←H5.out];exact mZ (pg h1 h2 (fun e=>by rw [(wpEq_iff _ _).2 e] at h;cases h))⟩
          have HE:ac (wpEq ws[j] vs[j]=true→ws.take (j+1)=vs.take (j+1)):=⟨fun h=>uc h1 h2 ((wpEq_iff _ _).1 h) HTK.out⟩
          have i1:(Tryz.prog.info? 68).map (·.size)=some (ws[j]).cells.length:=by rw [(wp_parts _ o1).1];exact jP
          have i2:(Tryz.prog.info? 68).map (·.size)=some (vs[j]).cells.length:=by rw [(wp_parts _ o2).1];exact jP
          obtain ⟨C1,hC1⟩:∃q,(ws[j]).cells=q:=⟨_,rfl⟩
          obtain ⟨C2,hC2⟩:∃q,(vs[j]).cells=q:=⟨_,rfl⟩
          obtain ⟨r,hr⟩:∃q,wpEq ws[j] vs[j]=q:=⟨_,rfl⟩
          rw [hC1] at hrg hnq i1
          rw [hC2] at hrg2 hnq i2
          rw [hr] at hnq HD HE
          have hj0:(0:Int)≤(j:Int):=by omega
          have hjn:(j:Int)<(lw:Int):=by omega
          have uW:=Tryz.underlying68;clear o1 o2 hC1 hC2 hr h1 h2 HTK;go_upto_region 6 with fail
          refine au (fun w'=>(w'.cell? ⟨w.heap.size,36,none⟩=some (.slice (some ⟨b,off,none⟩) lw cw)∧w'.cell? ⟨GB,36,none⟩=some (.slice (some ⟨b2,off2,none⟩) lw dw))∧w'.rangeAt b (off+j*51) C1∧w'.rangeAt b2 (off2+j*51) C2) (fun _=>True) 10 (by kernel_rfl) ?_;obtain ⟨D0,hD0⟩:∃q,wr.drew=q:=⟨_,rfl⟩
          have hb1:Below wr.heap.size wr D0:=by rw [←hD0];exact (Below.refl _ _).drew
          rw [hD0];have hB2:=hB0.trans (hb1.mono hB0.size);have hA2:=hA0.afar hb1;have hG2:=hG0.afar hb1;clear hD0 hb1 hB0 hA0 hG0 c36 k36;obtain ⟨⟨_,_,_,_,c36,_,_⟩,⟨_,_,_,_,k36,_,_⟩⟩:=KEEP.out D0 hA2 hG2;have hT:(D0.cell? ⟨w.heap.size,36,none⟩=some (.slice (some ⟨b,off,none⟩) lw cw)∧D0.cell? ⟨GB,36,none⟩=some (.slice (some ⟨b2,off2,none⟩) lw dw))∧D0.rangeAt b (off+j*51) C1∧D0.rangeAt b2 (off2+j*51) C2:=⟨⟨c36,k36⟩,hrg _ hB2,hrg2 _ hB2⟩
          have hS:True:=trivial;clear hrg hrg2 c36 k36;refine ghA 0 _ hT hS ?_;simp only [zp];refine ghA 1 _ hT hS ?_;simp only [zp];refine ghA 2 _ hT hS ?_;simp only [zp];refine ghA 3 _ hT hS ?_;simp only [zp];refine zh 4 68 68 67 b (off+j*51) (C1) hT hS (fun _ h=>h.2.1) uW i1 ?_;simp only [zp];refine ghA 5 _ hT hS ?_;simp only [zp];refine ghA 6 _ hT hS ?_;simp only [zp];refine ghA 7 _ hT hS ?_;simp only [zp];refine ghA 8 _ hT hS ?_;simp only [zp];refine zh 9 73 68 72 b2 (off2+j*51) (C2) hT hS (fun _ h=>h.2.2) uW i2 ?_;simp only [zp];refine zm 10 fun K hK=>?_
          go_simp;refine hK.out _ _ hT zn ?_;clear hK K;refine az (by kernel_rfl) ?_ _;cases r with
          |false=>
           have HRf:ac (b5=false):=⟨HD.out rfl⟩
           go_wp2;go_ret;exact ⟨by rw [HSAME.out,HRf.out];rfl,hB2⟩
          |true=>
           have HE2:ac (ws.take (j+1)=vs.take (j+1)):=⟨HE.out rfl⟩
           clear HE hnq;go_wp2;go_roundw
           case rel=>exact ⟨j+1,by omega,by go_num,HE2,hB2,hA2,hG2⟩
           case measure=>simp [intOf];omega
        · obtain rfl:j=lw:=by omega
          have HRt:ac (b5=true):=⟨by
           rw [←H5.out];refine lR ?_;have:=HTK.out;rw [List.take_of_length_le (by have:=HXL.out;omega),List.take_of_length_le (by have:=HYL.out;omega)] at this
           exact this⟩
          clear hlt;have hnn:¬(j:Int)<(j:Int):=by omega
          go_wp2;go_ret;exact ⟨by rw [HSAME.out,HRt.out];rfl,hB0⟩
structure gg (V:World) (NN:Int) (own:Int) (seed:List Int) (m:Option (List Int)) (num:Int) (ws:List Wp) (E:Ev) (ea es:Int) (pv:List Int) (F:Fr):Prop where
 at_:∃yw l dw vs yb lb db body,lg V F yw l dw vs yb lb db body∧((NN=0∧∃k,m=some k∧vs=ws∧F.author=own∧F.number=num∧F.ea=ea∧F.es=es∧F.prev=pv∧body=bJ k F ws E∧F.mac=ftagL seed F ws body)∨(NN≠0∧F=dM∧vs=[]∧body=[]))
theorem gg.below {V V':World} {NN own:Int} {seed:List Int} {m:Option (List Int)} {num:Int} {ws:List Wp} {E:Ev} {ea es:Int} {pv:List Int} {F:Fr} (h:gg V NN own seed m num ws E ea es pv F) (hb:Below V.heap.size V V'):gg V' NN own seed m num ws E ea es pv F:=by
 obtain ⟨yw,l,dw,vs,yb,lb,db,body,h1,h2⟩:=h.at_;exact ⟨yw,l,dw,vs,yb,lb,db,body,h1.below hb,h2⟩
theorem vO {V:World} {NN own:Int} {seed:List Int} {m:Option (List Int)} {num:Int} {ws:List Wp} {E:Ev} {ea es:Int} {pv pw:List Int} {F G:Fr} (hF:gg V NN own seed m num ws E ea es pv F) (hG:gg V NN own seed m num ws E ea es pw G) (h:NN=0∨pv=pw):
    Calls Tryz.prog 10 #[.agg F.cells.toArray,.agg G.cells.toArray] V fun e w'=>e=.returned (.bool (pv==pw))∧Below V.heap.size V w':=by
 obtain ⟨yw,l,dw,vs,yb,lb,db,body,h1,h2⟩:=hF.at_;obtain ⟨zw,l',ew,us,zb,lb',eb,body',g1,g2⟩:=hG.at_;have:=pM F yw l dw vs yb lb db body G zw l' ew us zb lb' eb body' V h1.prev h1.mac h1.wraps h1.hw h1.body_ h1.hb g1.prev g1.mac g1.wraps g1.hw g1.body_ g1.hb;have e:kI F vs body G us body'=(pv==pw):=by
  rcases h2 with ⟨h0,k,hm,hv,fa,fn,fea,fes,fp,fb,fm⟩|⟨h0,rfl,rfl,rfl⟩
  · rcases g2 with ⟨-,k',hm',hv',ga,gn,gea,ges,gp,gb,gm⟩|⟨q,-⟩
    · have hkk:k'=k:=by rw [hm] at hm';exact (Option.some.inj hm').symm
      subst hkk
      by_cases hp:pv=pw
      · have eo:aP F ws=aP G ws:=by unfold aP;rw [fa,fn,fea,fes,fp,ga,gn,gea,ges,gp,hp]
        have eb:body=body':=by rw [fb,gb];unfold bJ;rw [eo,fa,fn,ga,gn]
        have em:F.mac=G.mac:=by rw [fm,gm];unfold ftagL;rw [eo,eb,fa,ga]
        unfold kI;rw [em,eb,fa,fn,fea,fes,fp,ga,gn,gea,ges,gp,hp,hv,hv',lR rfl];simp
      · unfold kI
        rw [fp,gp];have:(pv==pw)=false:=by simpa using hp
        rw [this];simp
    · exact absurd h0 q
  · rcases g2 with ⟨q,-⟩|⟨-,rfl,rfl,rfl⟩
    · exact absurd q h0
    · have hp:pv=pw:=by rcases h with q|q;exact absurd q h0;exact q
      rw [rj,hp];simp
 rw [e] at this
 exact this
theorem uh (base H:Nat) (own:Int) (seed:List Int) (b:Nat) (M:Int→Int→Option (List Int)) (v:Value) (L:List (Int×Int)) (W:World) (q:Aq) (xw:Option Addr) (lw cw:Nat) (ws:List Wp) (pv:List Int) (hpv:pv.length=32) (hq:AqIn W q xw lw cw ws) (hR:aB W base H own seed b M v L) (hKT:S.KTab W) (hBT:BTab W) (hown:0≤own∧own≤255):
    Calls Tryz.prog 7 #[.pointer (some ⟨H,0,none⟩),.int .u32 q.num,.agg (pv.map (Value.int .u8)).toArray,.agg (dotC q.ea q.es).toArray,.slice xw lw cw,.agg q.E.cells.toArray] W fun e w'=>∃F:Fr,e=.returned (.tuple #[.agg F.cells.toArray,.int .i64 (ba q.num lw q.E own (M q.ea q.es))])∧F.cells.length=70∧(∀v∈F.cells,v.oneCell'=true)∧gg w' (ba q.num lw q.E own (M q.ea q.es)) own seed (M q.ea q.es) q.num ws q.E q.ea q.es pv F∧Below W.heap.size W w':=by
 refine (oT base H own seed b M v L W q.num xw lw cw ws q.ea q.es pv q.E hR hKT hBT hq.hw hpv hq.E ⟨hq.ea,hq.es⟩ hown).mono ?_;rintro e w' ⟨hs|hs,hb'⟩
 · exact ⟨dM,hs.2,rfl,by decide,⟨none,0,0,[],none,0,0,[],⟨rfl,rfl,rfl,rfl,jk w',cY w'⟩,.inr ⟨hs.1,rfl,rfl,rfl⟩⟩,hb'⟩
 · obtain ⟨h0,F,k,hk,he,hf,fa,fn,fea,fes,fp,fm⟩:=hs
   obtain ⟨yw,dw,yb,db,hqq⟩:=hf.at_;have hq0:=hqq w' (fun _ _ _=>rfl);rw [h0];exact ⟨F,he,(aH F hq0.prev hq0.mac).1,si F hq0.wraps hq0.body_,⟨yw,lw,dw,ws,yb,144,db,_,hq0,.inl ⟨rfl,k,hk,rfl,fa,fn,fea,fes,fp,rfl,fm⟩⟩,hb'⟩
end Go.Proofs.YtbdhfbglagdiaaaGreatDoor
