/- Wr5 Wr6 Wb1 Wpad Rd4 -/
import Derived.Test.YtbdhfbglagdiaaaGreatDoorG04
import Derived.Test.YtbdhfbglagdiaaaGreatDoorG03
namespace Go.Proofs.YtbdhfbglagdiaaaGreatDoor
open Go.RowKit
set_option maxRecDepth 20000
set_option maxHeartbeats 8000000
set_option linter.unusedSimpArgs false
theorem ez {w:World} {g o:Nat} {l:List Int} {n:Nat} (h:w.rangeAt g o (l.map (Value.int .u8))) (hn:n=l.length) (hl:l.length≤4000000):Bytes w (some ⟨g,o,none⟩) n n l:=by
 subst hn;exact ⟨rfl,Nat.le_refl _,by omega,(fun h=>by cases h),.inr ⟨g,o,rfl,fun j hj=>h j _ (by rw [List.getElem?_map,List.getElem?_eq_getElem hj];rfl)⟩⟩
theorem Wr.setRow {w:World} {H base g:Nat} {L:List Int} {t:TypeId} {old:List Value} (h:Wr w H base L) (hc:CellsAt w g t old) (ht:t≠5) (hne:H≠g) (cs:Array Value):Wr (w.setRow g cs) H base L:=by
 obtain ⟨v,hb,ho⟩:=h.has;refine ⟨h.ge,v,?_,ho.1,?_⟩
 · unfold Box at hb ⊢
   rw [setRow_other w g H cs hne];exact hb
 · rcases ho.2 with h'|⟨g',cap,cur,h1,h2,h3,h4⟩
   · exact .inl h'
   · refine .inr ⟨g',cap,cur,h1,h2,?_,h4⟩
     rw [setRow_other w g g' cs (fun e=>by
      subst e;unfold CellsAt at hc
      rw [h3] at hc
      simp at hc
      exact ht hc.2.symm)]
     exact h3
def dX:List Value:=[.int .u8 0]++dotC 0 0++(List.replicate 48 0).map (Value.int .u8)
theorem mo (H base:Nat) (L:List Int) (F:Fr) (xw:Option Addr) (lw cw:Nat) (ws:List Wp) (w:World) (hW:Wr w H base L) (hp:F.prev.length=32) (hm:F.mac.length=32) (hfw:F.wraps=.slice xw lw cw) (hws:∀wx,Below base w wx→WrapsAt wx xw lw cw ws) (hl:lw≤255) (hln:L.length≤1000000):
    Calls Tryz.prog 80 #[.pointer (some ⟨H,0,none⟩),.agg F.cells.toArray] w fun e w'=>(∃r,e=.returned r)∧Wr w' H base (L++aN F ws)∧cz w w' H base:=by
 have hsz:=hW.size;have hlt:H<w.heap.size:=by obtain ⟨v,h1,_⟩:=hW.has;exact h1.lt
 have hD0:=CellsAt.new w 43 F.cells;have hgo:=cz.alloc (H:=H) hsz (.cells F.cells.toArray 43);have hW0:=hW.alloc (.cells F.cells.toArray 43);have HP:ac (F.cells.length=70∧F.cells[0]?=some (.int .u8 F.author)∧F.cells[1]?=some (.int .u32 F.number)∧(F.cells.drop 2).take 2=dotC F.ea F.es∧(F.cells.drop 4).take 32=F.prev.map (Value.int .u8)∧F.cells[36]?=some F.wraps∧F.cells[37]?=some F.body∧(F.cells.drop 38).take 32=F.mac.map (Value.int .u8)):=⟨aL F hp hm⟩
 have HPL:ac (F.prev.length=32):=⟨hp⟩
 have HWS:ac (∀wx,Below base w wx→WrapsAt wx xw lw cw ws):=⟨hws⟩
 have HFW:ac (F.wraps=.slice xw lw cw):=⟨hfw⟩
 have hw0:=hws w (Below.refl _ _);have HLW:ac (lw=ws.length):=⟨hw0.len_eq⟩
 have HOK:ac (∀e∈ws,e.data.length=48):=⟨hw0.ok⟩
 have hcw:=hw0.le;have htw:=hw0.top;clear hW hp hm hfw hws hw0;go_enter Tryz.func80,Tryz.ntmps80;go_upto_region 1 with fail
 refine ae (p:=fun y=>Code.wp _ _ _ _ y) (fun W0=>cz w W0 H base∧Wr W0 H base L∧CellsAt W0 w.heap.size 43 F.cells) ⟨hgo,hW0,hD0⟩ ?_;clear hgo hW0 hD0;rintro W0 ⟨hg0,hW0,hD0⟩;have hs0:=hW0.size;have c0:W0.cell? ⟨w.heap.size,0,none⟩=some (.int .u8 F.author):=by rw [hD0.cell];exact HP.out.2.1
 have hp0:=cC H base L (some ⟨W0.heap.size,0,none⟩) 3 3 [69,83,F.author] (W0.alloc (.cells (row .u8 [69,83,F.author]) 5)) (hW0.alloc _) (bu W0 [69,83,F.author] (by simp)) (by omega);have hgo:=cz.alloc (H:=H) hs0 (.cells (row .u8 [69,83,F.author]) 5);go_upto_region 2 with (go_at_call 72;refine hp0.mono ?_;rintro e w1 ⟨⟨r1,rfl⟩,hW1,hg1⟩)
 have hD1:=(hD0.went hgo (by omega) (by decide)).went hg1 (by omega) (by decide);have hg01:=hg0.trans (hgo.trans hg1);have hl1:(L++ [69,83,F.author]).length≤1000003:=by rw [List.length_append];simp;omega
 obtain ⟨L1,hL1⟩:∃q,L++ [69,83,F.author]=q:=⟨_,rfl⟩
 have HL1:ac (L++ [69,83,F.author]=L1):=⟨hL1⟩
 rw [hL1] at hW1 hl1
 have c1:w1.cell? ⟨w.heap.size,1,none⟩=some (.int .u32 F.number):=by rw [hD1.cell];exact HP.out.2.2.1
 have hf1:=mm H base L1 F.number w1 hW1 (by omega);clear hp0 c0 hgo hg0 hg1 hD0 hW0 hL1;go_upto_region 3 with (go_at_call 118;refine hf1.mono ?_;rintro e w2 ⟨⟨r2,rfl⟩,hW2,hg2⟩)
 have hD2:=hD1.went hg2 (by omega) (by decide);have hg02:=hg01.trans hg2;have hl2:(L1++be4 F.number).length≤1000007:=by rw [List.length_append,fo];omega
 obtain ⟨L2,hL2⟩:∃q,L1++be4 F.number=q:=⟨_,rfl⟩
 have HL2:ac (L1++be4 F.number=L2):=⟨hL2⟩
 rw [hL2] at hW2 hl2
 have hdt:=ln H base L2 F.ea F.es w2 hW2 (by omega);have rD:w2.rangeAt w.heap.size 2 (dotC F.ea F.es):=by
  have:=hD2.range 2 2;rw [HP.out.2.2.2.1] at this
  exact this
 clear hf1 c1 hg01 hg2 hD1 hW1 hL2;go_upto_region 4 with (first
  |(refine af rfl 26 _ rfl _ _ rfl (dotC F.ea F.es) rD Tryz.underlying26 rfl aH ?_)
  |(go_at_call 117;refine hdt.mono ?_;rintro e w3 ⟨⟨r3,rfl⟩,hW3,hg3⟩))
 have hD3:=hD2.went hg3 (by omega) (by decide);have hg03:=hg02.trans hg3;have hl3:(L2++eR F.ea F.es).length≤1000020:=by rw [List.length_append,bX];omega
 obtain ⟨L3,hL3⟩:∃q,L2++eR F.ea F.es=q:=⟨_,rfl⟩
 have HL3:ac (L2++eR F.ea F.es=L3):=⟨hL3⟩
 rw [hL3] at hW3 hl3
 have rP:w3.rangeAt w.heap.size 4 (F.prev.map (Value.int .u8)):=by
  have:=hD3.range 4 32;rw [HP.out.2.2.2.2.1] at this
  exact this
 have hpP:=cC H base L3 (some ⟨w.heap.size,4,none⟩) 32 32 F.prev w3 hW3 (ez rP HPL.out.symm (by rw [HPL.out];omega)) (by omega);clear hdt rD hg02 hg3 hD2 hW2 hL3;go_upto_region 5 with (go_at_call 72;refine hpP.mono ?_;rintro e w4 ⟨⟨r4,rfl⟩,hW4,hg4⟩)
 have hD4:=hD3.went hg4 (by omega) (by decide);have hg04:=hg03.trans hg4;have hl4:(L3++F.prev).length≤1000100:=by rw [List.length_append,HPL.out];omega
 obtain ⟨L4,hL4⟩:∃q,L3++F.prev=q:=⟨_,rfl⟩
 have HL4:ac (L3++F.prev=L4):=⟨hL4⟩
 rw [hL4] at hW4 hl4
 have c36:w4.cell? ⟨w.heap.size,36,none⟩=some (.slice xw lw cw):=by rw [hD4.cell,←HFW.out];exact HP.out.2.2.2.2.2.1
 have hs4:=hW4.size;have hwr:IntKind.u8.wrap (lw:Int)=(lw:Int):=by rw [IntKind.wrap_u8];omega
 have hp5:=cC H base L4 (some ⟨w4.heap.size,0,none⟩) 1 1 [(lw:Int)] (w4.alloc (.cells (row .u8 [(lw:Int)]) 5)) (hW4.alloc _) (bu w4 [(lw:Int)] (by simp)) (by omega);have hgo:=cz.alloc (H:=H) hs4 (.cells (row .u8 [(lw:Int)]) 5);clear hpP rP hg03 hg4 hD3 hW3 hL4;go_upto_region 6 with (go_at_call 72;refine hp5.mono ?_;rintro e w5 ⟨⟨r5,rfl⟩,hW5,hg5⟩)
 have hD5:=(hD4.went hgo (by omega) (by decide)).went hg5 (by omega) (by decide);have hg05:=hg04.trans (hgo.trans hg5);have hl5:(L4++ [(lw:Int)]).length≤1000101:=by rw [List.length_append];simp;omega
 obtain ⟨L5,hL5⟩:∃q,L4++ [(lw:Int)]=q:=⟨_,rfl⟩
 have HL5:ac (L4++ [(lw:Int)]=L5):=⟨hL5⟩
 rw [hL5] at hW5 hl5
 have c36:w5.cell? ⟨w.heap.size,36,none⟩=some (.slice xw lw cw):=by rw [hD5.cell,←HFW.out];exact HP.out.2.2.2.2.2.1
 clear hp5 hgo hg04 hg5 hD4 hW4 hL5 hwr
 go_wp2_with fail
 go_loopw [33] (fun q wr=>∃j:Nat,j≤lw∧q=.int .i64 j∧Wr wr H base (L5++bP (ws.take j))∧cz w wr H base) (fun q _=>lw - (intOf q).toNat)
 case atStart=>exact ⟨0,by omega,rfl,by simpa [bP] using hW5,hg05⟩
 case round=>
  clear hW5 hg05 hD5 c36;obtain ⟨j,hj,rfl,hW1,hg1⟩:=hrel;have hlen:(bP (ws.take j)).length≤54*255:=by
   rw [jY _ (fun e he=>HOK.out e (List.mem_of_mem_take he)),List.length_take];omega
  by_cases hlt:j<lw
  · have hjw:j<ws.length:=by have:=HLW.out;omega
    obtain ⟨b,off,hx,hrg⟩:∃b off,xw=some ⟨b,off,none⟩∧∀j (hj:j<ws.length),wr.rangeAt b (off+j*51) (ws[j]).cells:=by
     rcases (HWS.out wr hg1.below).at_ with h0|h
     · omega
     · exact h
    subst hx;have hr:=hrg j hjw;have hts:=kq ws j hjw;have hok:=HOK.out ws[j] (List.getElem_mem hjw);obtain ⟨E,hE⟩:∃q,ws[j]=q:=⟨_,rfl⟩
    rw [hE] at hr hts hok
    have HTS:ac (L5++bP (ws.take j)++jL E=L5++bP (ws.take (j+1))):=⟨by rw [hts,List.append_assoc]⟩
    obtain ⟨q1,q2,q3,q4,q5⟩:=ij E hok;have HQ:ac (E.cells[0]?=some (.int .u8 E.too)∧(E.cells.drop 1).take 2=dotC E.ea E.es∧(E.cells.drop 3).take 48=E.data.map (Value.int .u8)):=⟨q2,q3,q4⟩
    have HOKE:ac (E.data.length=48):=⟨hok⟩
    have hsW:=hg1.below.size;have hsz1:=hW1.size;have hl6:(L5++bP (ws.take j)).length≤1100000:=by rw [List.length_append];omega
    obtain ⟨A,hA⟩:∃q,L5++bP (ws.take j)=q:=⟨_,rfl⟩
    rw [hA] at hW1 HTS hl6
    have hltw:H<wr.heap.size:=by obtain ⟨v,h1,_⟩:=hW1.has;exact h1.lt
    have hZ0:CellsAt (wr.alloc (.cells dX.toArray 68)) wr.heap.size 68 dX:=CellsAt.new wr 68 dX;have hWZ:=hW1.alloc (.cells dX.toArray 68);have hgZ:=hg1.trans (cz.alloc (H:=H) hsz1 (.cells dX.toArray 68));have hj0:(0:Int)≤(j:Int):=by omega
    have hjl:(j:Int)<(lw:Int):=by omega
    have hiW:(Tryz.prog.info? 68).map (·.size)=some E.cells.length:=by rw [q1];exact pQ
    have hzl:dX.length=E.cells.length:=by rw [q1];rfl
    clear hrg hts hE hA q1 q2 q3 q4 hlen hjw hok;go_upto_region 9 with (first
     |(refine af rfl 68 _ rfl _ _ rfl E.cells hr Tryz.underlying68 rfl hiW ?_)
     |(refine aq rfl 68 _ _ rfl _ rfl rfl hZ0 hiW hzl q5 ?_))
    refine ae (p:=fun y=>Code.wp _ _ _ _ y) (fun W1=>cz w W1 H base∧Wr W1 H base A∧CellsAt W1 wr.heap.size 68 E.cells) ⟨cz.setRow (by omega) w (by omega) hgZ _,hWZ.setRow hZ0 (by decide) (by omega) _,hZ0.setRow _⟩ ?_;obtain ⟨G,hG⟩:∃q,wr.heap.size=q:=⟨_,rfl⟩
    rw [hG] at hltw hsW ⊢
    clear hZ0 hWZ hgZ hr hiW hzl q5 hG hW1 hg1 hsz1;rintro W1 ⟨hg1,hW1,hD1⟩;have hs1:=hW1.size;have c0:W1.cell? ⟨G,0,none⟩=some (.int .u8 E.too):=by rw [hD1.cell];exact HQ.out.1
    have hp1:=cC H base A (some ⟨W1.heap.size,0,none⟩) 1 1 [E.too] (W1.alloc (.cells (row .u8 [E.too]) 5)) (hW1.alloc _) (bu W1 [E.too] (by simp)) (by omega);have hgo:=cz.alloc (H:=H) hs1 (.cells (row .u8 [E.too]) 5);go_upto_region 10 with (go_at_call 72;refine hp1.mono ?_;rintro e w2 ⟨⟨r2,rfl⟩,hW2,hg2⟩)
    have hD2:=(hD1.went hgo (by omega) (by decide)).went hg2 (by omega) (by decide);have hg02:=hg1.trans (hgo.trans hg2);have hdt:=ln H base (A++ [E.too]) E.ea E.es w2 hW2 (by rw [List.length_append];simp;omega);have rD:w2.rangeAt G 1 (dotC E.ea E.es):=by
     have:=hD2.range 1 2;rw [HQ.out.2.1] at this
     exact this
    clear hp1 c0 hgo hg1 hg2 hD1 hW1;go_upto_region 11 with (first
     |(refine af rfl 26 _ rfl _ _ rfl (dotC E.ea E.es) rD Tryz.underlying26 rfl aH ?_)
     |(go_at_call 117;refine hdt.mono ?_;rintro e w3 ⟨⟨r3,rfl⟩,hW3,hg3⟩))
    have hD3:=hD2.went hg3 (by omega) (by decide);have hg03:=hg02.trans hg3;have rP:w3.rangeAt G 3 (E.data.map (Value.int .u8)):=by
     have:=hD3.range 3 48;rw [HQ.out.2.2] at this
     exact this
    have hpP:=cC H base (A++ [E.too]++eR E.ea E.es) (some ⟨G,3,none⟩) 48 48 E.data w3 hW3 (ez rP HOKE.out.symm (by rw [HOKE.out];omega)) (by rw [List.length_append,List.length_append,bX];simp;omega);clear hdt rD hg02 hg3 hD2 hW2
    go_wp2_with (go_at_call 72;refine hpP.mono ?_;rintro e w4 ⟨⟨r4,rfl⟩,hW4,hg4⟩)
    have hW4':Wr w4 H base (L5++bP (ws.take (j+1))):=by
     rw [←HTS.out];unfold jL;simp only [List.append_assoc] at hW4 ⊢
     exact hW4
    clear hW4;go_roundw
    case rel=>exact ⟨j+1,by omega,by go_num,hW4',hg03.trans hg4⟩
    case measure=>simp [intOf];omega
  · obtain rfl:j=lw:=by omega
    have HA:ac (ws.take j=ws):=⟨List.take_of_length_le (by have:=HLW.out;omega)⟩
    rw [HA.out] at hW1
    go_wp2
    go_end0
    refine ⟨⟨_,rfl⟩,?_,hg1⟩;rw [←HL5.out,←HL4.out,←HL3.out,←HL2.out,←HL1.out,HLW.out] at hW1
    unfold aN;simp only [List.append_assoc] at hW1 ⊢
    exact hW1
set_option maxHeartbeats 4000000
def frameL (f:Fr) (ws:List Wp) (body:List Int):List Int:=aN f ws++be2 body.length++body++f.mac
theorem b9 (f:Fr) (ws:List Wp) (hp:f.prev.length=32) (h:∀e∈ws,e.data.length=48):(aN f ws).length=45+54*ws.length:=by
 unfold aN;simp only [List.length_append,fo,bX,hp,jY ws h,List.length_cons,List.length_nil]
theorem bw:(Tryz.prog.info? 43).map (·.size)=some 70:=by kernel_rfl
theorem mj (F:Fr) (xw:Option Addr) (lw cw:Nat) (xb:Option Addr) (lb cb:Nat) (w:World) (hp:F.prev.length=32) (hm:F.mac.length=32) (hfw:F.wraps=.slice xw lw cw) (hfb:F.body=.slice xb lb cb) (hl:64<lw∨4112<lb):
    Calls Tryz.prog 57 #[.agg F.cells.toArray] w fun e w'=>e=.returned (.tuple #[.slice none 0 0,.int .i64 2])∧Below w.heap.size w w':=by
 obtain ⟨_,_,_,_,_,q6,q7,_⟩:=aL F hp hm;have hD0:=CellsAt.new w 43 F.cells;have hB0:Below w.heap.size w (w.alloc (.cells F.cells.toArray 43)):=(Below.refl _ _).alloc (Nat.le_refl _) _;have c36:=hD0.cell 36;have c37:=hD0.cell 37;rw [q6,hfw] at c36
 rw [q7,hfb] at c37
 clear q6 q7 hfw hfb hp hm hD0
 by_cases h1:64<lw
 · have h1':(lw:Int)>64:=by omega
   clear hl;go_enter Tryz.func57,Tryz.ntmps57;go_wp2
   go_ret2
   exact ⟨rfl,hB0⟩
 · have h1':¬(lw:Int)>64:=by omega
   have h2':(lb:Int)>4112:=by omega
   clear hl;go_enter Tryz.func57,Tryz.ntmps57;go_wp2
   go_ret2
   exact ⟨rfl,hB0⟩
theorem nJ (F:Fr) (xw:Option Addr) (lw cw:Nat) (ws:List Wp) (xb:Option Addr) (lb cb:Nat) (body:List Int) (w:World) (hp:F.prev.length=32) (hm:F.mac.length=32) (hfw:F.wraps=.slice xw lw cw) (hws:WrapsAt w xw lw cw ws) (hfb:F.body=.slice xb lb cb) (hbo:Bytes w xb lb cb body) (h1:lw≤64) (h2:lb≤4112):
    Calls Tryz.prog 57 #[.agg F.cells.toArray] w fun e w'=>∃v,e=.returned (.tuple #[v,.int .i64 0])∧ao w' w.heap.size v (frameL F ws body)∧Below w.heap.size w w':=by
 obtain ⟨q0,_,_,_,_,q6,q7,q8⟩:=aL F hp hm;have HQ:ac (F.cells[36]?=some (.slice xw lw cw)∧F.cells[37]?=some (.slice xb lb cb)∧(F.cells.drop 38).take 32=F.mac.map (Value.int .u8)):=⟨by rw [←hfw];exact q6,by rw [←hfb];exact q7,q8⟩
 have hiF:(Tryz.prog.info? 43).map (·.size)=some F.cells.length:=by rw [q0];exact bw
 have hol:=b9 F ws hp hws.ok;rw [←hws.len_eq] at hol
 have HBL:ac (body.length=lb):=⟨hbo.len_eq.symm⟩
 have HML:ac (F.mac.length=32):=⟨hm⟩
 have hbody:=fun wx (h:Below w.heap.size w wx)=>hbo.below h
 have hop:=fun wx (h0:Below w.heap.size w wx) (h:Wr wx (w.heap.size+1) w.heap.size [])=>mo (w.heap.size+1) w.heap.size [] F xw lw cw ws wx h hp hm hfw (fun wy hy=>hws.below (h0.trans hy)) (by omega) (by simp)
 have hD0:=CellsAt.new w 43 F.cells;have hB0:Below w.heap.size w (w.alloc (.cells F.cells.toArray 43)):=(Below.refl _ _).alloc (Nat.le_refl _) _;have h1':¬(lw:Int)>64:=by omega
 have h2':¬(lb:Int)>4112:=by omega
 have c36:=hD0.cell 36;have c37:=hD0.cell 37;rw [HQ.out.1] at c36
 rw [HQ.out.2.1] at c37
 have hcw:=hws.le;have htw:=hws.top;have hcb:=hbo.le;have htb:=hbo.top;clear q0 q6 q7 q8 hfw hfb hp hm hws hbo;go_enter Tryz.func57,Tryz.ntmps57;go_upto_region 3 with fail
 refine ae (p:=fun y=>Code.wp _ _ _ _ y) (fun W0=>Below w.heap.size w W0∧W0.heap.size=w.heap.size+1∧CellsAt W0 w.heap.size 43 F.cells) ⟨hB0,by simp,hD0⟩ ?_;clear hB0 hD0 c36 c37;rintro W0 ⟨hB0,hsz0,hD0⟩;have hbx:Box (W0.alloc (.cells #[.slice none 0 0] 114)) (w.heap.size+1) 114 (.slice none 0 0):=by
  have:Box (W0.alloc (.cells #[.slice none 0 0] 114)) W0.heap.size 114 (.slice none 0 0):=heap_alloc_new _ _;rw [hsz0] at this
  exact this
 have hW1:Wr (W0.alloc (.cells #[.slice none 0 0] 114)) (w.heap.size+1) w.heap.size []:=⟨by omega,_,hbx,ao.nil _ _⟩
 have hD1:=hD0.alloc (.cells #[.slice none 0 0] 114);have hB1:=hB0.alloc hB0.size (.cells #[.slice none 0 0] 114);go_upto_region 4 with fail
 refine ae (p:=fun y=>Code.wp _ _ _ _ y) (fun W1=>Below w.heap.size w W1∧Wr W1 (w.heap.size+1) w.heap.size []∧CellsAt W1 w.heap.size 43 F.cells) ⟨hB1,hW1,hD1⟩ ?_;clear hB1 hW1 hD1 hbx hB0 hD0 hsz0;rintro W1 ⟨hB1,hW1,hD1⟩;have rE:W1.rangeAt w.heap.size 0 F.cells:=fun j v hv=>by rw [Nat.zero_add,hD1.cell];exact hv
 have hop1:=hop W1 hB1 hW1;rw [List.nil_append] at hop1
 go_upto_region 5 with (first
  |(refine af rfl 43 _ rfl _ _ rfl F.cells rE Tryz.underlying43 rfl hiF ?_)
  |(go_at_call 80;refine hop1.mono ?_;rintro e w2 ⟨⟨r2,rfl⟩,hW2,hg2⟩))
 have hD2:=hD1.went hg2 (by omega) (by decide);have hB2:Below w.heap.size w w2:=hB1.trans hg2.below;obtain ⟨L1,hL1⟩:∃q,aN F ws=q:=⟨_,rfl⟩
 have HL1:ac (aN F ws=L1):=⟨hL1⟩
 rw [hL1] at hW2 hol
 have hl1:L1.length≤10000:=by omega
 have c37:w2.cell? ⟨w.heap.size,37,none⟩=some (.slice xb lb cb):=by rw [hD2.cell];exact HQ.out.2.1
 have htw2:=sk (w.heap.size+1) w.heap.size L1 lb w2 hW2 (by omega);clear hop hop1 rE hD1 hW1 hB1 hg2 hL1 hol;go_upto_region 6 with (go_at_call 71;refine htw2.mono ?_;rintro e w3 ⟨⟨r3,rfl⟩,hW3,hg3⟩)
 have hD3:=hD2.went hg3 (by omega) (by decide);have hB3:Below w.heap.size w w3:=hB2.trans hg3.below;have hl2:(L1++be2 lb).length≤10002:=by rw [List.length_append];simp [be2];omega
 have hp3:=cC (w.heap.size+1) w.heap.size (L1++be2 lb) xb lb cb body w3 hW3 (hbody w3 hB3) (by omega);have c37:w3.cell? ⟨w.heap.size,37,none⟩=some (.slice xb lb cb):=by rw [hD3.cell];exact HQ.out.2.1
 clear htw2 hD2 hW2 hB2 hg3;go_upto_region 7 with (go_at_call 72;refine hp3.mono ?_;rintro e w4 ⟨⟨r4,rfl⟩,hW4,hg4⟩)
 have hD4:=hD3.went hg4 (by omega) (by decide);have hB4:Below w.heap.size w w4:=hB3.trans hg4.below;have rM:w4.rangeAt w.heap.size 38 (F.mac.map (Value.int .u8)):=by
  have:=hD4.range 38 32;rw [HQ.out.2.2] at this
  exact this
 have hp4:=cC (w.heap.size+1) w.heap.size (L1++be2 lb++body) (some ⟨w.heap.size,38,none⟩) 32 32 F.mac w4 hW4 (ez rM HML.out.symm (by rw [HML.out];omega)) (by rw [List.length_append,HBL.out];omega);clear hp3 c37 hD3 hW3 hB3 hg4;go_upto_region 8 with (go_at_call 72;refine hp4.mono ?_;rintro e w5 ⟨⟨r5,rfl⟩,hW5,hg5⟩)
 obtain ⟨v,hb5,ho5⟩:=hW5.has;have c0:=hb5.cell;have hB5:Below w.heap.size w w5:=hB4.trans hg5.below;obtain ⟨x5,n5,c5,rfl,hn5⟩:=ho5.isSlice;clear hn5 hp4 rM hW5 hb5 hg5 hD4 hW4 hB4;go_wp2
 go_ret2
 refine ⟨_,rfl,?_,hB5⟩;unfold frameL;rw [HBL.out,HL1.out];exact ho5
set_option maxHeartbeats 2000000
def bTab:List Int:=[128,256,512,1024,2048,4096]
def BTab (w:World):Prop:=w.rangeAt 0 0 (bTab.map (Value.int .i64))
theorem BTab.below {w w':World} (h:BTab w) (hb:Below w.heap.size w w'):BTab w':=fun j v hv=>by
 have:=h j v hv;rw [hb.cell (p:=⟨0,0+j,none⟩) (block_lt_of_cell this)];exact this
def fQ (n:Int):List Int→Int
 |[]=>0
 |b::l=>if n≤b - 2 then b else fQ n l
def cd (n:Int):Int:=if n<0 then 0 else fQ n bTab
theorem pT (n:Int) (j:Nat) (hj:j<6):fQ n (bTab.drop j)=if n≤bTab[j]?.getD 0 - 2 then bTab[j]?.getD 0 else fQ n (bTab.drop (j+1)):=by
 have hj':j<bTab.length:=hj;rw [List.drop_eq_getElem_cons hj',List.getElem?_eq_getElem hj']
 rfl
theorem xj (j:Nat) (hj:j<6):128≤bTab[j]?.getD 0∧bTab[j]?.getD 0≤4096:=by
 have hic:j=0∨j=1∨j=2∨j=3∨j=4∨j=5:=by omega
 rcases hic with rfl|rfl|rfl|rfl|rfl|rfl<;>decide
theorem yj:(Tryz.prog.info? 152).map (·.size)=some (bTab.map (Value.int .i64)).length:=by kernel_rfl
theorem mi (n:Int) (w:World) (hT:BTab w):
    Calls Tryz.prog 70 #[.int .i64 n] w fun e w'=>e=.returned (.int .i64 (cd n))∧w=w':=by
 by_cases hn:n<0
 · have e0:cd n=0:=by unfold cd;rw [if_pos hn]
   rw [e0];clear e0 hT;go_enter Tryz.func70,Tryz.ntmps70;go_wp2;go_ret;exact ⟨rfl,rfl⟩
 · have e0:cd n=fQ n bTab:=by unfold cd;rw [if_neg hn]
   rw [e0];clear e0;obtain ⟨R,hR⟩:∃q,fQ n bTab=q:=⟨_,rfl⟩
   have HR:ac (fQ n (bTab.drop 0)=R):=⟨hR⟩
   rw [hR];clear hR;go_enter Tryz.func70,Tryz.ntmps70
   go_wp2_with (refine af rfl 152 _ rfl 0 0 rfl (bTab.map (Value.int .i64)) hT Tryz.underlying152 rfl yj ?_)
   go_loopw [8] (fun q wr=>∃j:Nat,j≤6∧q=.int .i64 j∧ac (fQ n (bTab.drop j)=R)∧wr=w) (fun q _=>6 - (intOf q).toNat)
   case atStart=>exact ⟨0,by omega,rfl,HR,rfl⟩
   case round=>
    clear HR;obtain ⟨j,hj,rfl,HJ,rfl⟩:=hrel
    by_cases hlt:j<6
    · have hix:∀wx,(Instr.index 152 (.agg (bTab.map (Value.int .i64)).toArray) (.int .i64 (j:Nat))).run Tryz.prog wx=.ok (.int .i64 (bTab[j]?.getD 0)) wx:=fun wx=>ce wx 152 3 6 .i64 bTab j Tryz.underlying152 Tryz.underlying3 (by kernel_rfl) rfl hlt
      have hst:=pT n j hlt;have hin:=xj j hlt;obtain ⟨B,hB⟩:∃q,bTab[j]?.getD 0=q:=⟨_,rfl⟩
      rw [hB] at hix hst hin
      have hwB:IntKind.i64.wrap (B - 2)=B - 2:=by rw [IntKind.wrap_i64];omega
      have hj6:(j:Int)<6:=by omega
      by_cases hnb:n≤B - 2
      · rw [if_pos hnb] at hst
        have hBR:B=R:=by rw [←hst];exact HJ.out
        subst hBR;clear hst hB HJ hin;go_wp2;go_ret;exact ⟨rfl,rfl⟩
      · rw [if_neg hnb] at hst
        have HJ2:ac (fQ n (bTab.drop (j+1))=R):=⟨by rw [←hst];exact HJ.out⟩
        clear hst hB HJ;go_wp2;go_roundw
        case rel=>exact ⟨j+1,by omega,by go_num,HJ2,trivial⟩
        case measure=>simp [intOf];omega
    · obtain rfl:j=6:=by omega
      have hR0:R=0:=by rw [←HJ.out];rfl
      subst hR0;rw [show ((6:Nat):Int)=6 from rfl];clear HJ;go_wp2;go_ret;exact ⟨rfl,rfl⟩
theorem bktL_in (n:Int):∀l:List Int,(∀b∈l,128≤b∧b≤4096)→fQ n l=0∨(n+2≤fQ n l∧128≤fQ n l∧fQ n l≤4096)
 |[],_=>.inl rfl
 |b::l,h=>by
  unfold fQ
  by_cases hb:n≤b - 2
  · rw [if_pos hb]
    have:=h b (by simp);exact .inr ⟨by omega,this.1,this.2⟩
  · rw [if_neg hb]
    exact bktL_in n l (fun x hx=>h x (List.mem_cons_of_mem _ hx))
theorem jl (n:Nat):∃s:Nat,cd n=(s:Int)∧(s=0∨(n+2≤s∧128≤s∧s≤4096)):=by
 have h:cd n=fQ n bTab:=by unfold cd;rw [if_neg (by omega)]
 rw [h]
 rcases bktL_in n bTab (by decide) with h0|h1
 · exact ⟨0,h0,.inl rfl⟩
 · exact ⟨(fQ n bTab).toNat,by omega,.inr ⟨by omega,by omega,by omega⟩⟩
def bI (z:List Int) (s:Nat):List Int:=be2 z.length++z++List.replicate (s - (z.length+2)) 0
theorem de (z:List Int) (s:Nat) (h:z.length+2≤s):(bI z s).length=s:=by
 unfold bI;simp [be2];omega
theorem wU (x:Option Addr) (len cap:Nat) (z:List Int) (w:World) (hT:BTab w) (hb:Bytes w x len cap z) (s:Nat) (hs:cd len=(s:Int)) (hs1:len+2≤s) (hs2:s≤4096):
    Calls Tryz.prog 31 #[.slice x len cap] w fun e w'=>∃v,e=.returned (.tuple #[v,.int .i64 0])∧ao w' w.heap.size v (bI z s)∧Below w.heap.size w w':=by
 have hbk:=mi len w hT;rw [hs] at hbk
 have hs0:¬(s:Int)=0:=by omega
 have hle:=hb.le;have htop:=hb.top;have HBL:ac (z.length=len):=⟨hb.len_eq.symm⟩
 have hbody:=fun wx (h:Below w.heap.size w wx)=>hb.below h
 have hbx:Box (w.alloc (.cells #[.slice none 0 0] 114)) w.heap.size 114 (.slice none 0 0):=heap_alloc_new _ _;have hW1:Wr (w.alloc (.cells #[.slice none 0 0] 114)) w.heap.size w.heap.size []:=⟨Nat.le_refl _,_,hbx,ao.nil _ _⟩
 have hB1:Below w.heap.size w (w.alloc (.cells #[.slice none 0 0] 114)):=(Below.refl _ _).alloc (Nat.le_refl _) _;clear hb hs hT hbx;go_enter Tryz.func31,Tryz.ntmps31;go_upto_region 5 with (go_at_call 70;refine hbk.mono ?_;rintro e w1 ⟨rfl,rfl⟩)
 refine ae (p:=fun y=>Code.wp _ _ _ _ y) (fun W1=>Below w.heap.size w W1∧Wr W1 w.heap.size w.heap.size []) ⟨hB1,hW1⟩ ?_;clear hB1 hW1 hbk;rintro W1 ⟨hB1,hW1⟩;have htw:=sk w.heap.size w.heap.size [] len W1 hW1 (by simp);rw [List.nil_append] at htw
 go_upto_region 6 with (go_at_call 71;refine htw.mono ?_;rintro e w2 ⟨⟨r2,rfl⟩,hW2,hg2⟩)
 have hB2:Below w.heap.size w w2:=hB1.trans hg2.below;have hpt:=cC w.heap.size w.heap.size (be2 len) x len cap z w2 hW2 (hbody w2 hB2) (by simp [be2];omega);clear htw hB1 hW1 hg2;go_upto_region 7 with (go_at_call 72;refine hpt.mono ?_;rintro e w3 ⟨⟨r3,rfl⟩,hW3,hg3⟩)
 have hB3:Below w.heap.size w w3:=hB2.trans hg3.below;have hl3:(be2 len++z).length=len+2:=by rw [List.length_append,HBL.out];simp [be2];omega
 have hzr:=lJ w.heap.size w.heap.size (be2 len++z) (s - (len+2)) w3 hW3 (by omega) (by omega);obtain ⟨v3,hb3,ho3⟩:=hW3.has;have c3:=hb3.cell;obtain ⟨x3,n3,k3,rfl,hn3⟩:=ho3.isSlice;rw [hl3] at hn3
 subst hn3;have hwr:IntKind.i64.wrap ((s:Int) - ((len+2:Nat):Int))=((s - (len+2):Nat):Int):=by rw [IntKind.wrap_i64];omega
 obtain ⟨d,hd⟩:∃q,s - (len+2)=q:=⟨_,rfl⟩
 have HD:ac (s - (len+2)=d):=⟨hd⟩
 rw [hd] at hzr hwr
 obtain ⟨m,hm⟩:∃q,len+2=q:=⟨_,rfl⟩
 rw [hm] at hwr c3
 have hm1:m≤4096:=by omega
 clear hpt hB2 hW2 hg3 hW3 hb3 ho3 hl3 hd hs1 hm;go_upto_region 8 with (go_at_call 73;refine hzr.mono ?_;rintro e w4 ⟨⟨r4,rfl⟩,hW4,hg4⟩)
 obtain ⟨v4,hb4,ho4⟩:=hW4.has;have c4:=hb4.cell;have hB4:Below w.heap.size w w4:=hB3.trans hg4.below;obtain ⟨x4,n4,k4,rfl,hn4⟩:=ho4.isSlice;clear hn4 hzr hW4 hb4 hg4 hB3 c3 hwr;go_wp2
 go_ret2
 refine ⟨_,rfl,?_,hB4⟩;unfold bI;rw [HBL.out,HD.out];exact ho4
def toldN (z:List Int):Nat:=(oC (z[0]?.getD 0) (z[1]?.getD 0)).toNat
def bK (z:List Int):Prop:=2≤z.length∧cd (toldN z)=(z.length:Int)∧∀j,j<z.length - (2+toldN z)→(z.drop (2+toldN z))[j]?.getD 0=0
def gI (z:List Int):List Int:=(z.drop 2).take (toldN z)
theorem ql (z:List Int) (hz:∀v∈z,b8 v):oC (z[0]?.getD 0) (z[1]?.getD 0)=(toldN z:Int)∧toldN z≤65535:=by
 have h0:=dP hz 0;have h1:=dP hz 1;unfold toldN oC;omega
theorem qG (R base:Nat) (z:List Int) (w:World) (hR:Rd w R base z) (hT:∀wx,Below base w wx→BTab wx) (hz:∀v∈z,b8 v) (hl:z.length≤1000000):
    Calls Tryz.prog 99 #[.pointer (some ⟨R,0,none⟩)] w fun e w'=>
     (bK z∧∃v,e=.returned v∧ao w' base v (gI z)∧Rd w' R base []∧aW w w' R base)∨(¬bK z∧e=.panicked [dq]∧aW w w' R base):=by
 obtain ⟨hv,hlt⟩:=ql z hz;obtain ⟨s,hs,hs'⟩:=jl (toldN z);have HOK:ac (bK z↔(2≤z.length∧s=z.length∧∀j,j<z.length - (2+toldN z)→(z.drop (2+toldN z))[j]?.getD 0=0)):=⟨by
  unfold bK;rw [hs];constructor
  · rintro ⟨h1,h2,h3⟩;exact ⟨h1,by omega,h3⟩
  · rintro ⟨h1,h2,h3⟩;exact ⟨h1,by omega,h3⟩⟩
 have h2:=vF R base z w hR hz;rw [hv] at h2
 have HU:ac (gI z=(z.drop 2).take (toldN z)):=⟨rfl⟩
 obtain ⟨U,hU⟩:∃q,gI z=q:=⟨_,rfl⟩
 rw [hU] at HU ⊢
 obtain ⟨OK,hOK⟩:∃q,bK z=q:=⟨_,rfl⟩
 rw [hOK] at HOK ⊢
 obtain ⟨L,hL⟩:∃q,toldN z=q:=⟨_,rfl⟩
 rw [hL] at h2 hs hs' HOK HU hlt
 have hbk:=fun wx (h:Below base w wx)=>mi (L:Int) wx (hT wx h)
 rw [hs] at hbk
 have hge:=hR.ge;obtain ⟨x,n,c,hbx,hby⟩:=hR.has;have hn:=(hby w (Below.refl _ _)).len_eq;have HN:ac (n=z.length):=⟨hn⟩
 have hcl:=hbx.cell;have hle:=(hby w (Below.refl _ _)).le;have htp:=(hby w (Below.refl _ _)).top;have hnl:n≤1000000:=by omega
 have hok:=fun wx=>iU wx
 have hbad:=fun wx=>ib wx
 clear hR hbx hby hn hU hOK hL hv hT hs hz;go_enter Tryz.func99,Tryz.ntmps99;go_upto_region 3 with (go_at_call 139;refine h2.mono ?_;rintro e w1 (⟨hk,rfl,hR1,ht1⟩|⟨hk,rfl,ht1⟩))
 rotate_left
 · exact al (.inr ⟨fun h=>by have:=(HOK.out.1 h).1;omega,rfl,ht1⟩)
 have hk1:=hbk w1 ht1.below;clear h2 hcl
 by_cases hsn:s=n
 · subst hsn
   have hLs:L+2≤s:=by have:=HN.out;omega
   go_upto_region 4 with (first
    |(go_at_call 70;refine hk1.mono ?_;rintro e w2 ⟨rfl,rfl⟩)
    |(go_at_call 132;refine (hok _).mono ?_;rintro e w2 ⟨⟨r2,rfl⟩,rfl⟩))
   have htk:=eI R base (z.drop 2) L w1 hR1;have hld:(z.drop 2).length=s - 2:=by rw [List.length_drop,HN.out]
   have HLD:ac ((z.drop 2).length=s - 2):=⟨hld⟩
   clear hk1 hR1 hld hbk hbad;go_upto_region 5 with (first
    |(go_at_call 141;refine htk.mono ?_;rintro e w2 (⟨hk2,x2,rfl,hy2,hR2,ht2⟩|⟨hk2,_⟩);rotate_left;(exfalso;have:=HLD.out;omega);have hcn:=tB x2 L L ((z.drop 2).take L) w2 (hy2 w2 (Below.refl _ _)) (by omega))
    |(go_at_call 140;refine hcn.mono ?_;rintro e w3 ⟨v3,rfl,ho3,hb3⟩))
   have hR3:=hR2.afar hb3;have ht3:=(ht1.trans ht2).trans (aW.afar hR2.size hb3);have hO3:=ho3.lessG (base':=base) hR2.size;rw [←HU.out] at hO3
   have hdd:(z.drop 2).drop L=z.drop (2+L):=by rw [List.drop_drop]
   rw [hdd] at hR3
   obtain ⟨x4,n4,c4,hbx4,hby4⟩:=hR3.has;have hcl4:=hbx4.cell;have hn4:=(hby4 w3 (Below.refl _ _)).len_eq;have hle4:=(hby4 w3 (Below.refl _ _)).le;have htp4:=(hby4 w3 (Below.refl _ _)).top;have hnn4:n4=s - (2+L):=by rw [hn4,List.length_drop,HN.out]
   have HN4:ac (n4=(z.drop (2+L)).length∧n4=s - (2+L)):=⟨hn4,hnn4⟩
   have hn4b:n4≤1000000:=by omega
   have hzr:=lX R base (z.drop (2+L)) n4 w3 hR3 hn4b;clear hn4 hnn4 hby4 hdd ho3 hR3 hR2 htk hy2 hb3;go_upto_region 6 with (go_at_call 137;refine hzr.mono ?_;rintro e w4 (⟨hk4,⟨r4,rfl⟩,hR4,ht4⟩|⟨hk4,rfl,ht4⟩))
   rotate_left
   · exact al (.inr ⟨fun h=>hk4 ⟨by rw [HN4.out.1];exact Nat.le_refl _,fun j hj=>(HOK.out.1 h).2.2 j (by have:=HN.out;have:=HN4.out.2;omega)⟩,rfl,ht3.trans ht4⟩)
   have hO4:=hO3.took hbx4 ht4;obtain ⟨xq,nq,cq,rfl,_⟩:=hO4.isSlice;rw [HN4.out.1,List.drop_of_length_le (Nat.le_refl _)] at hR4
   have HOK4:ac (∀j,j<s - (2+L)→(z.drop (2+L))[j]?.getD 0=0):=⟨fun j hj=>hk4.2 j (by rw [HN4.out.2];exact hj)⟩
   clear hzr hk4 hbx4 hcl4 hO3;go_wp2;go_ret;refine .inl ⟨HOK.out.2 ⟨hk,HN.out,fun j hj=>HOK4.out j (by have:=HN.out;omega)⟩,_,rfl,hO4,hR4,ht3.trans ht4⟩
 · have hsb:((s:Int)==(n:Int))=false:=by simp;omega
   go_upto_region 4 with (first
    |(go_at_call 70;refine hk1.mono ?_;rintro e w2 ⟨rfl,rfl⟩)
    |(go_at_call 132;refine (hbad _).mono ?_;rintro e w2 ⟨rfl,rfl⟩))
   exact al (.inr ⟨fun h=>hsn (by rw [(HOK.out.1 h).2.1,HN.out]),rfl,ht1⟩)
end Go.Proofs.YtbdhfbglagdiaaaGreatDoor
