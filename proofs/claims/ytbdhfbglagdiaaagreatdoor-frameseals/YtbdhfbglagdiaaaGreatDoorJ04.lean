/- Wr3 Wr4 Re1 Re2 -/
import Derived.Test.YtbdhfbglagdiaaaGreatDoorJ03
namespace Go.Proofs.YtbdhfbglagdiaaaGreatDoor
open Go.RowKit
set_option maxRecDepth 20000
set_option maxHeartbeats 4000000
set_option linter.unusedSimpArgs false
def bQ (l:List Int):List Int:=(l.map be4).flatten
def aL (e:Ev):List Int:=ei e.da e.ds++bQ e.past++ [e.kind]++ei e.pa e.ps++ [dU e.right]++ [e.char,e.who,e.role]++List.replicate 11 0
theorem dE (n:Int):(be4 n).length=4:=rfl
theorem bI (a s:Int):(ei a s).length=5:=rfl
theorem gi:∀l:List Int,(bQ l).length=4*l.length
 |[]=>rfl
 |a::l=>by
  have:=gi l;unfold bQ at this ⊢
  rw [List.map_cons,List.flatten_cons,List.length_append,dE,this,List.length_cons];omega
theorem rL (l:List Int) (j:Nat) (hj:j<l.length):bQ (l.take (j+1))=bQ (l.take j)++be4 (l[j]?.getD 0):=by
 rw [bK l j hj];simp [bQ]
theorem fG (e:Ev) (hp:e.past.length=8):(aL e).length=58:=by
 unfold aL;simp only [List.length_append,bI,gi,hp,List.length_cons,List.length_nil,List.length_replicate]
theorem um (H base:Nat) (L:List Int) (E:Ev) (w:World) (hW:Wr w H base L) (hp:E.past.length=8) (hln:L.length≤1000000):
    Calls Tryz.prog 74 #[.pointer (some ⟨H,0,none⟩),.agg E.cells.toArray] w fun e w'=>(∃r,e=.returned r)∧Wr w' H base (L++aL E)∧ct w w' H base:=by
 have hsz:=hW.size;have hlt:H<w.heap.size:=by obtain ⟨v,h1,_⟩:=hW.has;exact h1.lt
 have hD0:=CellsAt.new w 33 E.cells;have hgo:=ct.alloc (H:=H) hsz (.cells E.cells.toArray 33);have hW0:=hW.alloc (.cells E.cells.toArray 33);obtain ⟨p1,p2,p3,p4,p5,p6,p7,p8⟩:=f6 E hp;have HP:ac ((E.cells.drop 0).take 2=dotC E.da E.ds∧(E.cells.drop 2).take 8=E.past.map (Value.int .u32)∧E.cells[10]?=some (.int .u8 E.kind)∧(E.cells.drop 11).take 2=dotC E.pa E.ps∧E.cells[13]?=some (.bool E.right)∧E.cells[14]?=some (.int .u8 E.char)∧E.cells[15]?=some (.int .u8 E.who)∧E.cells[16]?=some (.int .u8 E.role)):=⟨p1,p2,p3,p4,p5,p6,p7,p8⟩
 have HL:ac (∀n,(bQ (E.past.take n)).length≤32):=⟨fun n=>by rw [gi,List.length_take];omega⟩
 have HT:ac (∀j,j<8→bQ (E.past.take (j+1))=bQ (E.past.take j)++be4 (E.past[j]?.getD 0)):=⟨fun j hj=>rL _ j (by omega)⟩
 have HX:ac (∀j wx,j<8→(Instr.index 29 (.agg (List.map (Value.int .u32) E.past).toArray) (.int .i64 (j:Nat))).run Tryz.prog wx=.ok (.int .u32 (E.past[j]?.getD 0)) wx):=⟨fun j wx hj=>ce wx 29 24 8 .u32 E.past j Tryz.underlying29 Tryz.underlying24 vF hp hj⟩
 have HA:ac (E.past.take 8=E.past):=⟨List.take_of_length_le (by omega)⟩
 have HPL:ac (E.past.length=8):=⟨hp⟩
 clear hW p1 p2 p3 p4 p5 p6 p7 p8 hp;go_enter Tryz.func74,Tryz.ntmps74;go_upto_region 1 with fail
 refine af (p:=fun y=>Code.wp _ _ _ _ y) (fun W0=>ct w W0 H base∧Wr W0 H base L∧CellsAt W0 w.heap.size 33 E.cells) ⟨hgo,hW0,hD0⟩ ?_;clear hgo hW0 hD0;rintro W0 ⟨hg0,hW0,hD0⟩;have hdt:=lq H base L E.da E.ds W0 hW0 (by omega);have rD:W0.rangeAt w.heap.size 0 (dotC E.da E.ds):=by
  have:=hD0.range 0 2;rw [HP.out.1] at this
  exact this
 go_upto_region 2 with (first
  |(refine ae rfl 26 _ rfl _ _ rfl (dotC E.da E.ds) rD Tryz.underlying26 rfl sizeDot ?_)
  |(go_at_call 117;refine hdt.mono ?_;rintro e w1 ⟨⟨r,rfl⟩,hW1,hg1⟩))
 have hD1:=hD0.went hg1 (by omega) (by decide);have hg01:=hg0.trans hg1;clear hdt rD hW0 hD0 hg0 hg1;have rV:w1.rangeAt w.heap.size 2 (E.past.map (Value.int .u32)):=by
  have:=hD1.range 2 8;rw [HP.out.2.1] at this
  exact this
 have hLd:(L++ei E.da E.ds).length≤1000005:=by rw [List.length_append,bI];omega
 obtain ⟨L1,hL1⟩:∃q,L++ei E.da E.ds=q:=⟨_,rfl⟩
 have HL1:ac (L++ei E.da E.ds=L1):=⟨hL1⟩
 rw [hL1] at hW1 hLd
 clear hL1
 go_wp2_with (refine ae rfl 29 _ rfl _ _ rfl (E.past.map (Value.int .u32)) rV Tryz.underlying29 rfl (by rw [List.length_map,HPL.out];exact wK) ?_)
 go_loopw [12] (fun q wr=>∃j:Nat,j≤8∧q=.int .i64 j∧Wr wr H base (L1++bQ (E.past.take j))∧CellsAt wr w.heap.size 33 E.cells∧ct w wr H base) (fun q _=>8 - (intOf q).toNat)
 case atStart=>exact ⟨0,by omega,rfl,by simpa [bQ] using hW1,hD1,hg01⟩
 case round=>
  clear hW1 hD1 hg01 rV;obtain ⟨j,hj,rfl,hW1,hD1,hg01⟩:=hrel;have hll:=HL.out j
  by_cases hlt:j<8
  · have hx:=fun wx=>HX.out j wx hlt
    have hts:=HT.out j hlt;obtain ⟨u,hu⟩:∃q,E.past[j]?.getD 0=q:=⟨_,rfl⟩
    rw [hu] at hx hts
    have hfo:=ms H base (L1++bQ (E.past.take j)) u wr hW1 (by rw [List.length_append];omega);have HTS:ac (L1++bQ (E.past.take j)++be4 u=L1++bQ (E.past.take (j+1))):=⟨by rw [hts,List.append_assoc]⟩
    have hj8:(j:Int)<8:=by omega
    clear hts hu hW1
    go_wp2_with (go_at_call 118;refine hfo.mono ?_;rintro e w2 ⟨⟨r2,rfl⟩,hW2,hg2⟩)
    have hD2:=hD1.went hg2 (by omega) (by decide);rw [HTS.out] at hW2
    go_roundw
    case rel=>exact ⟨j+1,by omega,by go_num,hW2,hD2,hg01.trans hg2⟩
    case measure=>simp [intOf];omega
  · obtain rfl:j=8:=by omega
    rw [HA.out] at hW1 hll
    rw [show ((8:Nat):Int)=8 from rfl];obtain ⟨L2,hL2⟩:∃q,L1++bQ E.past=q:=⟨_,rfl⟩
    have HL2:ac (L1++bQ E.past=L2):=⟨hL2⟩
    have hl2:L2.length≤1000050:=by rw [←hL2,List.length_append];omega
    rw [hL2] at hW1
    have hs1:=hW1.size;have c10:wr.cell? ⟨w.heap.size,10,none⟩=some (.int .u8 E.kind):=by rw [hD1.cell];exact HP.out.2.2.1
    have hp1:=cz H base L2 (some ⟨wr.heap.size,0,none⟩) 1 1 [E.kind] (wr.alloc (.cells (row .u8 [E.kind]) 5)) (hW1.alloc _) (br wr [E.kind] (by simp)) (by omega);have hgo:=ct.alloc (H:=H) hs1 (.cells (row .u8 [E.kind]) 5);clear hL2 hll HX HT;go_upto_region 8 with (go_at_call 72;refine hp1.mono ?_;rintro e w2 ⟨⟨r2,rfl⟩,hW2,hg2⟩)
    have hD2:=(hD1.went hgo (by omega) (by decide)).went hg2 (by omega) (by decide);have hg02:=hg01.trans (hgo.trans hg2);have hl3:(L2++ [E.kind]).length≤1000060:=by rw [List.length_append];simp;omega
    obtain ⟨L3,hL3⟩:∃q,L2++ [E.kind]=q:=⟨_,rfl⟩
    have HL3:ac (L2++ [E.kind]=L3):=⟨hL3⟩
    rw [hL3] at hW2 hl3
    have hdt:=lq H base L3 E.pa E.ps w2 hW2 (by omega);have rD:w2.rangeAt w.heap.size 11 (dotC E.pa E.ps):=by
     have:=hD2.range 11 2;rw [HP.out.2.2.2.1] at this
     exact this
    clear c10 hp1 hgo hg2 hD1 hg01 hW1 hL3;go_upto_region 9 with (first
     |(refine ae rfl 26 _ rfl _ _ rfl (dotC E.pa E.ps) rD Tryz.underlying26 rfl sizeDot ?_)
     |(go_at_call 117;refine hdt.mono ?_;rintro e w3 ⟨⟨r3,rfl⟩,hW3,hg3⟩))
    have hD3:=hD2.went hg3 (by omega) (by decide);have hg03:=hg02.trans hg3;have hl4:(L3++ei E.pa E.ps).length≤1000070:=by rw [List.length_append,bI];omega
    obtain ⟨L4,hL4⟩:∃q,L3++ei E.pa E.ps=q:=⟨_,rfl⟩
    have HL4:ac (L3++ei E.pa E.ps=L4):=⟨hL4⟩
    rw [hL4] at hW3 hl4
    have c13:w3.cell? ⟨w.heap.size,13,none⟩=some (.bool E.right):=by rw [hD3.cell];exact HP.out.2.2.2.2.1
    have htr:=tX H base L4 E.right w3 hW3 (by omega);clear hdt rD hg3 hD2 hg02 hW2 hL4;go_upto_region 10 with (go_at_call 119;refine htr.mono ?_;rintro e w4 ⟨⟨r4,rfl⟩,hW4,hg4⟩)
    have hD4:=hD3.went hg4 (by omega) (by decide);have hg04:=hg03.trans hg4;have hl5:(L4++ [dU E.right]).length≤1000080:=by rw [List.length_append];simp;omega
    obtain ⟨L5,hL5⟩:∃q,L4++ [dU E.right]=q:=⟨_,rfl⟩
    have HL5:ac (L4++ [dU E.right]=L5):=⟨hL5⟩
    rw [hL5] at hW4 hl5
    have c14:w4.cell? ⟨w.heap.size,14,none⟩=some (.int .u8 E.char):=by rw [hD4.cell];exact HP.out.2.2.2.2.2.1
    have c15:w4.cell? ⟨w.heap.size,15,none⟩=some (.int .u8 E.who):=by rw [hD4.cell];exact HP.out.2.2.2.2.2.2.1
    have c16:w4.cell? ⟨w.heap.size,16,none⟩=some (.int .u8 E.role):=by rw [hD4.cell];exact HP.out.2.2.2.2.2.2.2
    have hs4:=hW4.size;have hp4:=cz H base L5 (some ⟨w4.heap.size,0,none⟩) 3 3 [E.char,E.who,E.role] (w4.alloc (.cells (row .u8 [E.char,E.who,E.role]) 5)) (hW4.alloc _) (br w4 [E.char,E.who,E.role] (by simp)) (by omega);have hgo:=ct.alloc (H:=H) hs4 (.cells (row .u8 [E.char,E.who,E.role]) 5);clear htr c13 hD3 hg03 hW3 hg4 hL5;go_upto_region 11 with (go_at_call 72;refine hp4.mono ?_;rintro e w5 ⟨⟨r5,rfl⟩,hW5,hg5⟩)
    have hg05:=hg04.trans (hgo.trans hg5);have hz:=mj H base (L5++ [E.char,E.who,E.role]) 11 w5 hW5 (by omega) (by rw [List.length_append];simp;omega);clear hp4 c14 c15 c16 hD4 hg04 hgo hg5 hW5
    go_wp2_with (go_at_call 73;refine hz.mono ?_;rintro e w6 ⟨⟨r6,rfl⟩,hW6,hg6⟩)
    go_end0
    refine ⟨⟨_,rfl⟩,?_,hg05.trans hg6⟩;rw [←HL5.out,←HL4.out,←HL3.out,←HL2.out,←HL1.out] at hW6
    unfold aL;simp only [List.append_assoc] at hW6 ⊢
    exact hW6
theorem ux (E:Ev) (w:World) (hp:E.past.length=8):
    Calls Tryz.prog 32 #[.agg E.cells.toArray] w fun e w'=>∃v,e=.returned v∧aq w' w.heap.size v (aL E)∧Below w.heap.size w w':=by
 have hsz:E.cells.length=17:=by unfold Ev.cells;simp [dotC,hp]
 have hD0:=(CellsAt.new w 33 E.cells).alloc (.cells #[.slice none 0 0] 114);have hbx:Box ((w.alloc (.cells E.cells.toArray 33)).alloc (.cells #[.slice none 0 0] 114)) (w.heap.size+1) 114 (.slice none 0 0):=by
  have:Box ((w.alloc (.cells E.cells.toArray 33)).alloc (.cells #[.slice none 0 0] 114)) (w.alloc (.cells E.cells.toArray 33)).heap.size 114 (.slice none 0 0):=heap_alloc_new _ _;rw [World.size_alloc] at this
  exact this
 have hW0:Wr ((w.alloc (.cells E.cells.toArray 33)).alloc (.cells #[.slice none 0 0] 114)) (w.heap.size+1) w.heap.size []:=⟨by omega,_,hbx,aq.nil _ _⟩
 have hB0:Below w.heap.size w ((w.alloc (.cells E.cells.toArray 33)).alloc (.cells #[.slice none 0 0] 114)):=((Below.refl _ _).alloc (Nat.le_refl _) _).alloc (by simp) _;have hiE:(Tryz.prog.info? 33).map (·.size)=some E.cells.length:=by rw [hsz];kernel_rfl
 have hev:=fun wx (h:Wr wx (w.heap.size+1) w.heap.size [])=>um (w.heap.size+1) w.heap.size [] E wx h hp (by simp)
 clear hbx hsz hp;go_enter Tryz.func32,Tryz.ntmps32;go_upto_region 2 with fail
 refine af (p:=fun y=>Code.wp _ _ _ _ y) (fun W0=>Below w.heap.size w W0∧Wr W0 (w.heap.size+1) w.heap.size []∧CellsAt W0 w.heap.size 33 E.cells) ⟨hB0,hW0,hD0⟩ ?_;clear hB0 hW0 hD0;rintro W0 ⟨hB0,hW0,hD0⟩;have rE:W0.rangeAt w.heap.size 0 E.cells:=fun j v hv=>by rw [Nat.zero_add,hD0.cell];exact hv
 have hev0:=hev W0 hW0;clear hev hW0 hD0;go_upto_region 3 with (first
  |(refine ae rfl 33 _ rfl _ _ rfl E.cells rE Tryz.underlying33 rfl hiE ?_)
  |(go_at_call 74;refine hev0.mono ?_;rintro e w1 ⟨⟨r,rfl⟩,hW1,hg1⟩))
 obtain ⟨v,hb1,ho1⟩:=hW1.has;have c0:=hb1.cell;rw [List.nil_append] at ho1
 have hB1:Below w.heap.size w w1:=hB0.trans hg1.below;obtain ⟨x1,n1,c1,rfl,hn1⟩:=ho1.isSlice;clear hn1 hev0 rE hW1 hb1 hg1;go_wp2;go_ret;exact ⟨_,rfl,ho1,hB1⟩
theorem ct.setRow {w:World} {g H base:Nat} (hb:base≤g) (w0:World) (hlt:w0.heap.size≤g) (h0:ct w0 w H base) (cs':Array Value):ct w0 (w.setRow g cs') H base:=
 ⟨below_setRow h0.below hb _,fun g' cs t fr h1 h2 h3=>by
  have hl:g'<w0.heap.size:=(Array.getElem?_eq_some_iff.1 h3).1;rw [setRow_other w g g' cs' (by omega)];exact h0.kept g' cs t fr h1 h2 h3⟩
def jF (e:Wp):List Int:=[e.too]++ei e.ea e.es++e.data
structure Fr where
 author:Int
 number:Int
 ea:Int
 es:Int
 prev:List Int
 wraps:Value
 body:Value
 mac:List Int
def Fr.cells (f:Fr):List Value:=[.int .u8 f.author,.int .u32 f.number]++dotC f.ea f.es++f.prev.map (Value.int .u8)++ [f.wraps,f.body]++f.mac.map (Value.int .u8)
def bR (ws:List Wp):List Int:=(ws.map jF).flatten
def aP (f:Fr) (ws:List Wp):List Int:=[69,83,f.author]++be4 f.number++ei f.ea f.es++f.prev++ [(ws.length:Int)]++bR ws
theorem nU (e:Wp) (h:e.data.length=48):(jF e).length=54:=by unfold jF;simp [bI,h]
theorem ky (ws:List Wp) (j:Nat) (hj:j<ws.length):bR (ws.take (j+1))=bR (ws.take j)++jF ws[j]:=by
 unfold bR;rw [List.take_succ_eq_append_getElem hj,List.map_append,List.flatten_append];simp only [List.map_cons,List.map_nil,List.flatten_cons,List.flatten_nil,List.append_nil]
theorem kf (ws:List Wp) (h:∀e∈ws,e.data.length=48):(bR ws).length=54*ws.length:=by
 induction ws with
 |nil=>rfl
 |cons e ws ih=>
  have:=ih (fun x hx=>h x (List.mem_cons_of_mem _ hx));unfold bR at this ⊢
  rw [List.map_cons,List.flatten_cons,List.length_append,nU e (h e (by simp)),this,List.length_cons];omega
structure WrapsAt (w:World) (x:Option Addr) (len cap:Nat) (ws:List Wp):Prop where
 len_eq:len=ws.length
 le:len≤cap
 top:cap≤9223372036854775807
 nil:x=none→cap=0
 ok:∀e∈ws,e.data.length=48
 at_:len=0∨∃b off,x=some ⟨b,off,none⟩∧∀j (hj:j<ws.length),w.rangeAt b (off+j*51) (ws[j]).cells
theorem aN {w w':World} {b o:Nat} {cs:List Value} (h:w.rangeAt b o cs) (hb:Below w.heap.size w w'):w'.rangeAt b o cs:=fun j v hv=>by
 have:=h j v hv;rw [hb.cell (p:=⟨b,o+j,none⟩) (block_lt_of_cell this)];exact this
theorem WrapsAt.below {w w':World} {x:Option Addr} {len cap:Nat} {ws:List Wp} (h:WrapsAt w x len cap ws) (hb:Below w.heap.size w w'):WrapsAt w' x len cap ws:=
 ⟨h.len_eq,h.le,h.top,h.nil,h.ok,by
  rcases h.at_ with h0|⟨b,off,hx,hc⟩
  · exact .inl h0
  · exact .inr ⟨b,off,hx,fun j hj=>aN (hc j hj) hb⟩⟩
theorem aH (f:Fr) (hp:f.prev.length=32) (hm:f.mac.length=32):f.cells.length=70∧f.cells[0]?=some (.int .u8 f.author)∧f.cells[1]?=some (.int .u32 f.number)∧(f.cells.drop 2).take 2=dotC f.ea f.es∧(f.cells.drop 4).take 32=f.prev.map (Value.int .u8)∧f.cells[36]?=some f.wraps∧f.cells[37]?=some f.body∧(f.cells.drop 38).take 32=f.mac.map (Value.int .u8):=by
 have e1:∀X:List Value,(([.int .u8 f.author,.int .u32 f.number]:List Value)++dotC f.ea f.es++X).drop 4=X:=fun X=>rfl
 have hP:(f.prev.map (Value.int .u8)).length=32:=by rw [List.length_map,hp]
 have hM:(f.mac.map (Value.int .u8)).length=32:=by rw [List.length_map,hm]
 have e0:f.cells=([.int .u8 f.author,.int .u32 f.number]:List Value)++dotC f.ea f.es++(f.prev.map (Value.int .u8)++([f.wraps,f.body]++f.mac.map (Value.int .u8))):=by unfold Fr.cells;simp only [List.append_assoc]
 have e36:f.cells.drop 36=[f.wraps,f.body]++f.mac.map (Value.int .u8):=by
  rw [show 36=4+32 from rfl,←List.drop_drop,e0,e1,List.drop_left' hP]
 refine ⟨by rw [e0];simp [dotC,hp,hm],by rw [e0];rfl,by rw [e0];rfl,by rw [e0];rfl,by rw [e0,e1,List.take_left' hP],?_,?_,?_⟩
 · have:=congrArg (fun l=>l[0]?) e36
   simpa using this
 · have:=congrArg (fun l=>l[1]?) e36
   simpa using this
 · rw [show 38=36+2 from rfl,←List.drop_drop,e36]
   exact List.take_of_length_le (by simp [hm])
theorem jP:(Tryz.prog.info? 68).map (·.size)=some 51:=by kernel_rfl
theorem lr (z:List Int) (o j:Nat):(z.drop o)[j]?.getD 0=z[o+j]?.getD 0:=by rw [List.getElem?_drop]
def at1 (z:List Int) (o:Nat):Int:=z[o]?.getD 0
def at4 (z:List Int) (o:Nat):Int:=iY (at1 z o) (at1 z (o+1)) (at1 z (o+2)) (at1 z (o+3))
theorem CellsAt.took {w w':World} {R base g:Nat} {t:TypeId} {cs:List Value} (h:CellsAt w g t cs) (ht:aY w w' R base) (hne:g≠R):CellsAt w' g t cs:=by
 have hl:=h.lt;unfold CellsAt at h ⊢;rw [ht.kept g hl hne];exact h
theorem Rd.setCellO {w:World} {R base:Nat} {z:List Int} (h:Rd w R base z) (a:Addr) (v:Value) (h1:base≤a.block) (h2:R≠a.block):Rd (w.setCell a v) R base z:=by
 obtain ⟨x,n,c,hb,hy⟩:=h.has;refine ⟨h.ge,x,n,c,?_,fun wx hx=>hy wx (((Below.refl _ _).setCell h1 _).trans hx)⟩;unfold Box at hb ⊢
 rw [heap_setCell_other w a R v h2];exact hb
theorem aY.setCellO {w w':World} {R base:Nat} (h:aY w w' R base) (a:Addr) (v:Value) (h1:w.heap.size≤a.block) (h2:base≤a.block):aY w (w'.setCell a v) R base:=
 ⟨h.below.setCell h2 _,by have:=h.more;simpa [World.setCell] using this,fun g hg hne=>by rw [heap_setCell_other w' a g v (by omega)];exact h.kept g hg hne⟩
theorem Rd.setRowO {w:World} {R base g:Nat} {z:List Int} (h:Rd w R base z) (cs:Array Value) (h1:base≤g) (h2:R≠g):Rd (w.setRow g cs) R base z:=by
 obtain ⟨x,n,c,hb,hy⟩:=h.has;refine ⟨h.ge,x,n,c,?_,fun wx hx=>hy wx ((below_setRow (Below.refl _ _) h1 _).trans hx)⟩;unfold Box at hb ⊢
 rw [setRow_other w g R cs h2];exact hb
theorem aY.setRowO {w w':World} {R base g:Nat} (h:aY w w' R base) (cs:Array Value) (h1:w.heap.size≤g) (h2:base≤g):aY w (w'.setRow g cs) R base:=
 ⟨below_setRow h.below h2 _,by have:=h.more;simpa [World.setRow] using this,fun k hk hne=>by rw [setRow_other w' g k cs (by omega)];exact h.kept k hk hne⟩
theorem iR (R base:Nat) (z:List Int) (o:Nat) (w:World) (hR:Rd w R base (z.drop o)):
    Calls Tryz.prog 135 #[.pointer (some ⟨R,0,none⟩)] w fun e w'=>
     (o+1≤z.length∧e=.returned (.int .u8 (at1 z o))∧Rd w' R base (z.drop (o+1))∧aY w w' R base)∨(z.length<o+1∧e=.panicked [dq]∧aY w w' R base):=by
 have ht:=eI R base (z.drop o) 1 w hR;have HL:ac ((z.drop o).length=z.length - o):=⟨List.length_drop⟩
 have HD:ac ((z.drop o).drop 1=z.drop (o+1)):=⟨by rw [List.drop_drop]⟩
 have HF:ac (∀(w':World) (x:Option Addr),Bytes w' x 1 1 ((z.drop o).take 1)→∃b off,x=some ⟨b,off,none⟩∧w'.cell? ⟨b,off,none⟩=some (.int .u8 (at1 z o))):=⟨fun w' x h=>by
  obtain ⟨b,off,hx,hc⟩:=fy h (by omega);have:=hc 0 (by omega);rw [lr] at this
  exact ⟨b,off,hx,this⟩⟩
 obtain ⟨A,hA⟩:∃q,at1 z o=q:=⟨_,rfl⟩
 rw [hA] at HF ⊢
 clear hA hR;go_enter Tryz.func135,Tryz.ntmps135
 by_cases hk:o+1≤z.length
 · go_wp2_with (go_at_call 141;refine ht.mono ?_;rintro e w1 (⟨hk1,x1,rfl,hy1,hR1,ht1⟩|⟨hk1,_⟩);rotate_left;(exfalso;have:=HL.out;omega);obtain ⟨b,off,rfl,hc⟩:=HF.out w1 x1 (hy1 w1 (Below.refl _ _)))
   go_ret;rw [HD.out] at hR1
   exact .inl ⟨hk,rfl,hR1,ht1⟩
 · go_wp2_with (go_at_call 141;refine ht.mono ?_;rintro e w1 (⟨hk1,_⟩|⟨hk1,rfl,ht1⟩);(exfalso;have:=HL.out;omega))
   exact ak (.inr ⟨by omega,rfl,ht1⟩)
theorem pT (R base:Nat) (z:List Int) (o:Nat) (w:World) (hR:Rd w R base (z.drop o)) (hz:∀v∈z,b8 v):
    Calls Tryz.prog 134 #[.pointer (some ⟨R,0,none⟩)] w fun e w'=>
     (o+4≤z.length∧e=.returned (.int .u32 (at4 z o))∧Rd w' R base (z.drop (o+4))∧aY w w' R base)∨(z.length<o+4∧e=.panicked [dq]∧aY w w' R base):=by
 have ht:=eI R base (z.drop o) 4 w hR;have HL:ac ((z.drop o).length=z.length - o):=⟨List.length_drop⟩
 have HD:ac ((z.drop o).drop 4=z.drop (o+4)):=⟨by rw [List.drop_drop]⟩
 have ha:=iy hz o;have hb:=iy hz (o+1);have hc:=iy hz (o+2);have hd:=iy hz (o+3);have HV:ac (bits .or .u32 (bits .or .u32 (bits .or .u32 (z[o]?.getD 0*16777216) (z[o+1]?.getD 0*65536)) (z[o+2]?.getD 0*256)) (z[o+3]?.getD 0)=at4 z o):=⟨xj _ _ _ _ ha hb hc hd⟩
 have HF:ac (∀(w':World) (x:Option Addr),Bytes w' x 4 4 ((z.drop o).take 4)→∃b off,x=some ⟨b,off,none⟩∧∀j,j<4→w'.cell? ⟨b,off+j,none⟩=some (.int .u8 (z[o+j]?.getD 0))):=⟨fun w' x h=>by
  obtain ⟨b,off,hx,hc⟩:=fy h (by omega);refine ⟨b,off,hx,fun j hj=>?_⟩;have:=hc j hj;rw [lr] at this
  exact this⟩
 obtain ⟨V,hV⟩:∃q,at4 z o=q:=⟨_,rfl⟩
 rw [hV] at HV ⊢
 obtain ⟨A,hA⟩:∃q,z[o]?.getD 0=q:=⟨_,rfl⟩
 obtain ⟨B,hB⟩:∃q,z[o+1]?.getD 0=q:=⟨_,rfl⟩
 obtain ⟨C,hC⟩:∃q,z[o+2]?.getD 0=q:=⟨_,rfl⟩
 obtain ⟨D,hD⟩:∃q,z[o+3]?.getD 0=q:=⟨_,rfl⟩
 have HA:ac (z[o]?.getD 0=A∧z[o+1]?.getD 0=B∧z[o+2]?.getD 0=C∧z[o+3]?.getD 0=D):=⟨hA,hB,hC,hD⟩
 rw [hA,hB,hC,hD] at HV
 rw [hA] at ha
 rw [hB] at hb
 rw [hC] at hc
 rw [hD] at hd
 have e1:IntKind.u32.wrap A=A:=by rw [IntKind.wrap_u32];omega
 have e2:IntKind.u32.wrap B=B:=by rw [IntKind.wrap_u32];omega
 have e3:IntKind.u32.wrap C=C:=by rw [IntKind.wrap_u32];omega
 have e4:IntKind.u32.wrap D=D:=by rw [IntKind.wrap_u32];omega
 have e5:IntKind.u32.wrap (A*16777216)=A*16777216:=by rw [IntKind.wrap_u32];omega
 have e6:IntKind.u32.wrap (B*65536)=B*65536:=by rw [IntKind.wrap_u32];omega
 have e7:IntKind.u32.wrap (C*256)=C*256:=by rw [IntKind.wrap_u32];omega
 clear hA hB hC hD hV hR hz;go_enter Tryz.func134,Tryz.ntmps134
 by_cases hk:o+4≤z.length
 · go_upto_region 2 with (go_at_call 141;refine ht.mono ?_;rintro e w1 (⟨hk1,x1,rfl,hy1,hR1,ht1⟩|⟨hk1,_⟩);rotate_left;(exfalso;have:=HL.out;omega))
   obtain ⟨b,off,rfl,hc'⟩:=HF.out w1 x1 (hy1 w1 (Below.refl _ _));have c0:w1.cell? ⟨b,off,none⟩=some (.int .u8 A):=by have:=hc' 0 (by omega);simp only [Nat.add_zero] at this;rw [HA.out.1] at this;exact this
   have c1:w1.cell? ⟨b,off+1,none⟩=some (.int .u8 B):=by have:=hc' 1 (by omega);rw [HA.out.2.1] at this;exact this
   have c2:w1.cell? ⟨b,off+2,none⟩=some (.int .u8 C):=by have:=hc' 2 (by omega);rw [HA.out.2.2.1] at this;exact this
   have c3:w1.cell? ⟨b,off+3,none⟩=some (.int .u8 D):=by have:=hc' 3 (by omega);rw [HA.out.2.2.2] at this;exact this
   clear hc' hy1 ht;refine ag (fun w'=>w'.cell? ⟨b,off,none⟩=some (.int .u8 A)∧w'.cell? ⟨b,off+1,none⟩=some (.int .u8 B)∧w'.cell? ⟨b,off+2,none⟩=some (.int .u8 C)∧w'.cell? ⟨b,off+3,none⟩=some (.int .u8 D)) 22 (by kernel_rfl) ?_;have hS:w1.drew.cell? ⟨b,off,none⟩=some (.int .u8 A)∧w1.drew.cell? ⟨b,off+1,none⟩=some (.int .u8 B)∧w1.drew.cell? ⟨b,off+2,none⟩=some (.int .u8 C)∧w1.drew.cell? ⟨b,off+3,none⟩=some (.int .u8 D):=⟨c0,c1,c2,c3⟩
   refine gaA 0 _ hS ?_;simp only [zp];refine gaA 1 _ hS ?_;simp only [zp];refine grA 2 _ hS ?_;simp only [zp];refine gaA 3 _ hS ?_;simp only [zp];refine gaA 4 _ hS ?_;simp only [zp];refine gaA 5 _ hS ?_;simp only [zp];refine gaA 6 _ hS ?_;simp only [zp];refine grA 7 _ hS ?_;simp only [zp];refine gaA 8 _ hS ?_;simp only [zp];refine gaA 9 _ hS ?_;simp only [zp];refine gaA 10 _ hS ?_;simp only [zp];refine gaA 11 _ hS ?_;simp only [zp];refine gaA 12 _ hS ?_;simp only [zp];refine grA 13 _ hS ?_;simp only [zp];refine gaA 14 _ hS ?_;simp only [zp];refine gaA 15 _ hS ?_;simp only [zp];refine gaA 16 _ hS ?_;simp only [zp];refine gaA 17 _ hS ?_;simp only [zp];refine gaA 18 _ hS ?_;simp only [zp];refine grA 19 _ hS ?_;simp only [zp];refine gaA 20 _ hS ?_;simp only [zp];refine gaA 21 _ hS ?_;simp only [zp];refine zw 22 fun K hK=>?_
   go_simp;refine hK.out _ _ zn ?_;clear hK K;refine al (by kernel_rfl) ?_ _;go_wp2;go_ret;rw [HD.out] at hR1
   refine .inl ⟨hk,?_,hR1.afar ((Below.refl _ _).drew),ht1.trans (aY.afar hR1.size ((Below.refl _ _).drew))⟩;rw [←HV.out]
   rfl
 · go_upto_region 2 with (go_at_call 141;refine ht.mono ?_;rintro e w1 (⟨hk1,_⟩|⟨hk1,rfl,ht1⟩);(exfalso;have:=HL.out;omega))
   exact ak (.inr ⟨by omega,rfl,ht1⟩)
theorem ua (R base:Nat) (z:List Int) (o:Nat) (w:World) (hR:Rd w R base (z.drop o)):
    Calls Tryz.prog 136 #[.pointer (some ⟨R,0,none⟩)] w fun e w'=>
     ((o+1≤z.length∧at1 z o≤1)∧e=.returned (.bool (at1 z o==1))∧Rd w' R base (z.drop (o+1))∧aY w w' R base)∨(¬(o+1≤z.length∧at1 z o≤1)∧e=.panicked [dq]∧aY w w' R base):=by
 have h1:=iR R base z o w hR;have hok:=fun wx=>iL wx
 have hbad:=fun wx=>ij wx
 obtain ⟨A,hA⟩:∃q,at1 z o=q:=⟨_,rfl⟩
 rw [hA] at h1 ⊢
 clear hA hR
 by_cases hk:o+1≤z.length
 · by_cases ha:A≤1
   · clear hbad
     go_enter Tryz.func136,Tryz.ntmps136
     go_wp2_with (first
      |(go_at_call 135;refine h1.mono ?_;rintro e w1 (⟨hk1,rfl,hR1,ht1⟩|⟨hk1,_⟩);rotate_left;(exfalso;omega))
      |(go_at_call 132;refine (hok _).mono ?_;rintro e w2 ⟨⟨r2,rfl⟩,rfl⟩))
     go_ret;exact .inl ⟨⟨hk,ha⟩,rfl,hR1,ht1⟩
   · have ha':decide (A≤1)=false:=by simp;omega
     clear hok;go_enter Tryz.func136,Tryz.ntmps136
     go_wp2_with (first
      |(go_at_call 135;refine h1.mono ?_;rintro e w1 (⟨hk1,rfl,hR1,ht1⟩|⟨hk1,_⟩);rotate_left;(exfalso;omega))
      |(go_at_call 132;refine (hbad _).mono ?_;rintro e w2 ⟨rfl,rfl⟩))
     exact ak (.inr ⟨fun h=>by have:=h.2;omega,rfl,ht1⟩)
 · go_enter Tryz.func136,Tryz.ntmps136
   go_wp2_with (go_at_call 135;refine h1.mono ?_;rintro e w1 (⟨hk1,_⟩|⟨hk1,rfl,ht1⟩);(exfalso;omega))
   exact ak (.inr ⟨fun h=>hk h.1,rfl,ht1⟩)
theorem CellsAt.frozen2 {w:World} {g:Nat} {t:TypeId} {cs:List Value} (h:CellsAt w g t cs) (j:Nat):w.frozen? ⟨g,j,none⟩=false:=frozen_of_row w g j _ t h
theorem CellsAt.set2 {w:World} {g:Nat} {t:TypeId} {cs:List Value} (h:CellsAt w g t cs) (j:Nat) (v:Value):CellsAt (w.setCell ⟨g,j,none⟩ v) g t (cs.set j v):=by
 unfold CellsAt at h ⊢
 rw [heap_setCell_same w g j _ t _ h];simp
theorem CellsAt.setOther2 {w:World} {g:Nat} {t:TypeId} {cs:List Value} (h:CellsAt w g t cs) (a:Addr) (v:Value) (hne:g≠a.block):CellsAt (w.setCell a v) g t cs:=by
 unfold CellsAt at h ⊢
 rw [heap_setCell_other w a g v hne];exact h
theorem CellsAt.setRowOther2 {w:World} {g g':Nat} {t:TypeId} {cs:List Value} (h:CellsAt w g t cs) (cs':Array Value) (hne:g≠g'):CellsAt (w.setRow g' cs') g t cs:=by
 unfold CellsAt at h ⊢;rw [setRow_other w g' g cs' hne];exact h
theorem CellsAt.whole2 {w:World} {g:Nat} {t:TypeId} {cs:List Value} (h:CellsAt w g t cs):w.rangeAt g 0 cs:=fun j v hv=>by rw [Nat.zero_add,h.cell];exact hv
theorem od (a s:Int):∀v∈dotC a s,v.oneCell'=true:=by
 intro v hv;unfold dotC at hv
 simp only [List.mem_cons,List.not_mem_nil,or_false] at hv
 rcases hv with rfl|rfl<;>rfl
theorem sR (R base:Nat) (z:List Int) (o:Nat) (w:World) (hR:Rd w R base (z.drop o)) (hz:∀v∈z,b8 v):
    Calls Tryz.prog 133 #[.pointer (some ⟨R,0,none⟩)] w fun e w'=>
     (o+5≤z.length∧e=.returned (.agg (dotC (at1 z o) (at4 z (o+1))).toArray)∧Rd w' R base (z.drop (o+5))∧aY w w' R base)∨(z.length<o+5∧e=.panicked [dq]∧aY w w' R base):=by
 have hlt:=hR.lt;have hsz:=hR.size;have h1:=fun wx (h:Rd wx R base (z.drop o))=>iR R base z o wx h
 have h4:=fun wx (h:Rd wx R base (z.drop (o+1)))=>pT R base z (o+1) wx h hz
 obtain ⟨A,hA⟩:∃q,at1 z o=q:=⟨_,rfl⟩
 rw [hA] at h1 ⊢
 obtain ⟨S,hS⟩:∃q,at4 z (o+1)=q:=⟨_,rfl⟩
 rw [hS] at h4 ⊢
 have hG0:=(CellsAt.new w 26 (dotC 0 0)).alloc (.cells (dotC 0 0).toArray 26);have hG1:CellsAt ((w.alloc (.cells (dotC 0 0).toArray 26)).alloc (.cells (dotC 0 0).toArray 26)) (w.heap.size+1) 26 (dotC 0 0):=by
  have:=CellsAt.new (w.alloc (.cells (dotC 0 0).toArray 26)) 26 (dotC 0 0);rw [World.size_alloc] at this
  exact this
 have hR0:=(hR.alloc (.cells (dotC 0 0).toArray 26)).alloc (.cells (dotC 0 0).toArray 26);have hT0:aY w ((w.alloc (.cells (dotC 0 0).toArray 26)).alloc (.cells (dotC 0 0).toArray 26)) R base:=(aY.alloc hsz _).trans (aY.alloc (by simp;omega) _);clear hA hS hR hz;go_enter Tryz.func133,Tryz.ntmps133;go_upto_region 2 with fail
 refine af (p:=fun y=>Code.wp _ _ _ _ y) (fun W=>Rd W R base (z.drop o)∧aY w W R base∧CellsAt W w.heap.size 26 (dotC 0 0)∧CellsAt W (w.heap.size+1) 26 (dotC 0 0)) ⟨hR0,hT0,hG0,hG1⟩ ?_;clear hR0 hT0 hG0 hG1;rintro W ⟨hR0,hT0,hG0,hG1⟩;have h1W:=h1 W hR0
 by_cases hk1:o+1≤z.length
 · go_upto_region 3 with (go_at_call 135;refine h1W.mono ?_;rintro e w1 (⟨_,rfl,hR1,ht1⟩|⟨hx,_⟩);rotate_left;(exfalso;omega);have hH1:=hG1.took ht1 (by omega);have c0:=hH1.cell 0;have f0:=hH1.frozen2 0)
   have hH0:=hG0.took ht1 (by omega);refine af (p:=fun y=>Code.wp _ _ _ _ y) (fun W2=>Rd W2 R base (z.drop (o+1))∧aY w W2 R base∧CellsAt W2 w.heap.size 26 (dotC 0 0)∧CellsAt W2 (w.heap.size+1) 26 (dotC A 0)) ⟨hR1.setCellO _ _ (by show base≤w.heap.size+1;omega) (by show R≠w.heap.size+1;omega),(hT0.trans ht1).setCellO _ _ (by show w.heap.size≤w.heap.size+1;omega) (by show base≤w.heap.size+1;omega),hH0.setOther2 _ _ (by show w.heap.size≠w.heap.size+1;omega),hH1.set2 0 _⟩ ?_;clear h1W h1 hR0 hT0 hG0 hG1 c0 f0 hH1 hH0 hR1 ht1;rintro W2 ⟨hR2,hT2,hG0,hG1⟩;have h4W:=h4 W2 hR2
   by_cases hk4:o+5≤z.length
   · go_upto_region 4 with (go_at_call 134;refine h4W.mono ?_;rintro e w3 (⟨_,rfl,hR3,ht3⟩|⟨hx,_⟩);rotate_left;(exfalso;omega);have hH1:=hG1.took ht3 (by omega);have c1:=hH1.cell 1;have f1:=hH1.frozen2 1)
     have hH0:=hG0.took ht3 (by omega);refine af (p:=fun y=>Code.wp _ _ _ _ y) (fun W4=>Rd W4 R base (z.drop (o+5))∧aY w W4 R base∧CellsAt W4 w.heap.size 26 (dotC 0 0)∧CellsAt W4 (w.heap.size+1) 26 (dotC A S)) ⟨hR3.setCellO _ _ (by show base≤w.heap.size+1;omega) (by show R≠w.heap.size+1;omega),(hT2.trans ht3).setCellO _ _ (by show w.heap.size≤w.heap.size+1;omega) (by show base≤w.heap.size+1;omega),hH0.setOther2 _ _ (by show w.heap.size≠w.heap.size+1;omega),hH1.set2 1 _⟩ ?_;clear h4W h4 hR2 hT2 hG0 hG1 c1 f1 hH1 hH0 hR3 ht3;rintro W4 ⟨hR4,hT4,hG0,hG1⟩;have rE:=hG1.whole2
     go_wp2_with (first
      |(refine ae rfl 26 _ rfl _ _ rfl (dotC A S) rE Tryz.underlying26 rfl sizeDot ?_)
      |(refine aw rfl 26 _ _ rfl _ rfl rfl hG0 sizeDot rfl (od A S) ?_))
     refine bodyPost_ret (results_cell_row (Tryz.results133) _ _ _ _ _ (0,0) _ rfl (hG0.setRow (dotC A S)) Tryz.underlying26 rfl sizeDot) rfl ?_;exact .inl ⟨hk4,rfl,hR4.setRowO _ (by omega) (by omega),hT4.setRowO _ (by omega) (by omega)⟩
   · go_upto_region 4 with (go_at_call 134;refine h4W.mono ?_;rintro e w3 (⟨hx,_⟩|⟨_,rfl,ht3⟩);(exfalso;omega))
     exact ak (.inr ⟨by omega,rfl,hT2.trans ht3⟩)
 · go_upto_region 3 with (go_at_call 135;refine h1W.mono ?_;rintro e w1 (⟨hx,_⟩|⟨_,rfl,ht1⟩);(exfalso;omega))
   exact ak (.inr ⟨by omega,rfl,hT0.trans ht1⟩)
end Go.Proofs.YtbdhfbglagdiaaaGreatDoor
