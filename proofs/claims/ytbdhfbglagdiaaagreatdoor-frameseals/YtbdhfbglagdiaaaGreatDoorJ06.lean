/- Wr6 Wb1 Wpad Rd4 Rd5 -/
import Derived.Test.YtbdhfbglagdiaaaGreatDoorJ05
import Derived.Test.YtbdhfbglagdiaaaGreatDoorJ03
import Derived.Test.YtbdhfbglagdiaaaGreatDoorJ04
namespace Go.Proofs.YtbdhfbglagdiaaaGreatDoor
open Go.RowKit
set_option maxRecDepth 20000
set_option maxHeartbeats 4000000
set_option linter.unusedSimpArgs false
def wb (f:Fr) (ws:List Wp) (body:List Int):List Int:=aP f ws++be2 body.length++body++f.mac
theorem dj (f:Fr) (ws:List Wp) (hp:f.prev.length=32) (h:∀e∈ws,e.data.length=48):(aP f ws).length=45+54*ws.length:=by
 unfold aP;simp only [List.length_append,dE,bI,hp,kf ws h,List.length_cons,List.length_nil]
theorem bU:(Tryz.prog.info? 43).map (·.size)=some 70:=by kernel_rfl
theorem re (F:Fr) (xw:Option Addr) (lw cw:Nat) (xb:Option Addr) (lb cb:Nat) (w:World) (hp:F.prev.length=32) (hm:F.mac.length=32) (hfw:F.wraps=.slice xw lw cw) (hfb:F.body=.slice xb lb cb) (hl:64<lw∨4112<lb):
    Calls Tryz.prog 57 #[.agg F.cells.toArray] w fun e w'=>e=.returned (.tuple #[.slice none 0 0,.int .i64 2])∧Below w.heap.size w w':=by
 obtain ⟨_,_,_,_,_,q6,q7,_⟩:=aH F hp hm;have hD0:=CellsAt.new w 43 F.cells;have hB0:Below w.heap.size w (w.alloc (.cells F.cells.toArray 43)):=(Below.refl _ _).alloc (Nat.le_refl _) _;have c36:=hD0.cell 36;have c37:=hD0.cell 37;rw [q6,hfw] at c36
 rw [q7,hfb] at c37
 clear q6 q7 hfw hfb hp hm hD0
 by_cases h1:64<lw
 · have h1':(lw:Int)>64:=by omega
   clear hl;go_enter Tryz.func57,Tryz.ntmps57;go_wp2
   go_ret2
   exact ⟨rfl,hB0⟩
 · have h1':¬(lw:Int)>64:=by omega
   have h2':(lb:Int)>4112:=by omega
   clear hl;go_enter Tryz.func57,Tryz.ntmps57;go_wp2
   go_ret2
   exact ⟨rfl,hB0⟩
theorem tx (F:Fr) (xw:Option Addr) (lw cw:Nat) (ws:List Wp) (xb:Option Addr) (lb cb:Nat) (body:List Int) (w:World) (hp:F.prev.length=32) (hm:F.mac.length=32) (hfw:F.wraps=.slice xw lw cw) (hws:WrapsAt w xw lw cw ws) (hfb:F.body=.slice xb lb cb) (hbo:Bytes w xb lb cb body) (h1:lw≤64) (h2:lb≤4112):
    Calls Tryz.prog 57 #[.agg F.cells.toArray] w fun e w'=>∃v,e=.returned (.tuple #[v,.int .i64 0])∧aq w' w.heap.size v (wb F ws body)∧Below w.heap.size w w':=by
 obtain ⟨q0,_,_,_,_,q6,q7,q8⟩:=aH F hp hm;have HQ:ac (F.cells[36]?=some (.slice xw lw cw)∧F.cells[37]?=some (.slice xb lb cb)∧(F.cells.drop 38).take 32=F.mac.map (Value.int .u8)):=⟨by rw [←hfw];exact q6,by rw [←hfb];exact q7,q8⟩
 have hiF:(Tryz.prog.info? 43).map (·.size)=some F.cells.length:=by rw [q0];exact bU
 have hol:=dj F ws hp hws.ok;rw [←hws.len_eq] at hol
 have HBL:ac (body.length=lb):=⟨hbo.len_eq.symm⟩
 have HML:ac (F.mac.length=32):=⟨hm⟩
 have hbody:=fun wx (h:Below w.heap.size w wx)=>hbo.below h
 have hop:=fun wx (h0:Below w.heap.size w wx) (h:Wr wx (w.heap.size+1) w.heap.size [])=>lS (w.heap.size+1) w.heap.size [] F xw lw cw ws wx h hp hm hfw (fun wy hy=>hws.below (h0.trans hy)) (by omega) (by simp)
 have hD0:=CellsAt.new w 43 F.cells;have hB0:Below w.heap.size w (w.alloc (.cells F.cells.toArray 43)):=(Below.refl _ _).alloc (Nat.le_refl _) _;have h1':¬(lw:Int)>64:=by omega
 have h2':¬(lb:Int)>4112:=by omega
 have c36:=hD0.cell 36;have c37:=hD0.cell 37;rw [HQ.out.1] at c36
 rw [HQ.out.2.1] at c37
 have hcw:=hws.le;have htw:=hws.top;have hcb:=hbo.le;have htb:=hbo.top;clear q0 q6 q7 q8 hfw hfb hp hm hws hbo;go_enter Tryz.func57,Tryz.ntmps57;go_upto_region 3 with fail
 refine af (p:=fun y=>Code.wp _ _ _ _ y) (fun W0=>Below w.heap.size w W0∧W0.heap.size=w.heap.size+1∧CellsAt W0 w.heap.size 43 F.cells) ⟨hB0,by simp,hD0⟩ ?_;clear hB0 hD0 c36 c37;rintro W0 ⟨hB0,hsz0,hD0⟩;have hbx:Box (W0.alloc (.cells #[.slice none 0 0] 114)) (w.heap.size+1) 114 (.slice none 0 0):=by
  have:Box (W0.alloc (.cells #[.slice none 0 0] 114)) W0.heap.size 114 (.slice none 0 0):=heap_alloc_new _ _;rw [hsz0] at this
  exact this
 have hW1:Wr (W0.alloc (.cells #[.slice none 0 0] 114)) (w.heap.size+1) w.heap.size []:=⟨by omega,_,hbx,aq.nil _ _⟩
 have hD1:=hD0.alloc (.cells #[.slice none 0 0] 114);have hB1:=hB0.alloc hB0.size (.cells #[.slice none 0 0] 114);go_upto_region 4 with fail
 refine af (p:=fun y=>Code.wp _ _ _ _ y) (fun W1=>Below w.heap.size w W1∧Wr W1 (w.heap.size+1) w.heap.size []∧CellsAt W1 w.heap.size 43 F.cells) ⟨hB1,hW1,hD1⟩ ?_;clear hB1 hW1 hD1 hbx hB0 hD0 hsz0;rintro W1 ⟨hB1,hW1,hD1⟩;have rE:W1.rangeAt w.heap.size 0 F.cells:=fun j v hv=>by rw [Nat.zero_add,hD1.cell];exact hv
 have hop1:=hop W1 hB1 hW1;rw [List.nil_append] at hop1
 go_upto_region 5 with (first
  |(refine ae rfl 43 _ rfl _ _ rfl F.cells rE Tryz.underlying43 rfl hiF ?_)
  |(go_at_call 80;refine hop1.mono ?_;rintro e w2 ⟨⟨r2,rfl⟩,hW2,hg2⟩))
 have hD2:=hD1.went hg2 (by omega) (by decide);have hB2:Below w.heap.size w w2:=hB1.trans hg2.below;obtain ⟨L1,hL1⟩:∃q,aP F ws=q:=⟨_,rfl⟩
 have HL1:ac (aP F ws=L1):=⟨hL1⟩
 rw [hL1] at hW2 hol
 have hl1:L1.length≤10000:=by omega
 have c37:w2.cell? ⟨w.heap.size,37,none⟩=some (.slice xb lb cb):=by rw [hD2.cell];exact HQ.out.2.1
 have htw2:=sH (w.heap.size+1) w.heap.size L1 lb w2 hW2 (by omega);clear hop hop1 rE hD1 hW1 hB1 hg2 hL1 hol;go_upto_region 6 with (go_at_call 71;refine htw2.mono ?_;rintro e w3 ⟨⟨r3,rfl⟩,hW3,hg3⟩)
 have hD3:=hD2.went hg3 (by omega) (by decide);have hB3:Below w.heap.size w w3:=hB2.trans hg3.below;have hl2:(L1++be2 lb).length≤10002:=by rw [List.length_append];simp [be2];omega
 have hp3:=cz (w.heap.size+1) w.heap.size (L1++be2 lb) xb lb cb body w3 hW3 (hbody w3 hB3) (by omega);have c37:w3.cell? ⟨w.heap.size,37,none⟩=some (.slice xb lb cb):=by rw [hD3.cell];exact HQ.out.2.1
 clear htw2 hD2 hW2 hB2 hg3;go_upto_region 7 with (go_at_call 72;refine hp3.mono ?_;rintro e w4 ⟨⟨r4,rfl⟩,hW4,hg4⟩)
 have hD4:=hD3.went hg4 (by omega) (by decide);have hB4:Below w.heap.size w w4:=hB3.trans hg4.below;have rM:w4.rangeAt w.heap.size 38 (F.mac.map (Value.int .u8)):=by
  have:=hD4.range 38 32;rw [HQ.out.2.2] at this
  exact this
 have hp4:=cz (w.heap.size+1) w.heap.size (L1++be2 lb++body) (some ⟨w.heap.size,38,none⟩) 32 32 F.mac w4 hW4 (fe rM HML.out.symm (by rw [HML.out];omega)) (by rw [List.length_append,HBL.out];omega);clear hp3 c37 hD3 hW3 hB3 hg4;go_upto_region 8 with (go_at_call 72;refine hp4.mono ?_;rintro e w5 ⟨⟨r5,rfl⟩,hW5,hg5⟩)
 obtain ⟨v,hb5,ho5⟩:=hW5.has;have c0:=hb5.cell;have hB5:Below w.heap.size w w5:=hB4.trans hg5.below;obtain ⟨x5,n5,c5,rfl,hn5⟩:=ho5.isSlice;clear hn5 hp4 rM hW5 hb5 hg5 hD4 hW4 hB4;go_wp2
 go_ret2
 refine ⟨_,rfl,?_,hB5⟩;unfold wb;rw [HBL.out,HL1.out];exact ho5
set_option maxHeartbeats 2000000
def bTab:List Int:=[128,256,512,1024,2048,4096]
def BTab (w:World):Prop:=w.rangeAt 0 0 (bTab.map (Value.int .i64))
theorem BTab.below {w w':World} (h:BTab w) (hb:Below w.heap.size w w'):BTab w':=fun j v hv=>by
 have:=h j v hv;rw [hb.cell (p:=⟨0,0+j,none⟩) (block_lt_of_cell this)];exact this
def fJ (n:Int):List Int→Int
 |[]=>0
 |b::l=>if n≤b - 2 then b else fJ n l
def bW (n:Int):Int:=if n<0 then 0 else fJ n bTab
theorem pE (n:Int) (j:Nat) (hj:j<6):fJ n (bTab.drop j)=if n≤bTab[j]?.getD 0 - 2 then bTab[j]?.getD 0 else fJ n (bTab.drop (j+1)):=by
 have hj':j<bTab.length:=hj;rw [List.drop_eq_getElem_cons hj',List.getElem?_eq_getElem hj']
 rfl
theorem wR (j:Nat) (hj:j<6):128≤bTab[j]?.getD 0∧bTab[j]?.getD 0≤4096:=by
 have hic:j=0∨j=1∨j=2∨j=3∨j=4∨j=5:=by omega
 rcases hic with rfl|rfl|rfl|rfl|rfl|rfl<;>decide
theorem yr:(Tryz.prog.info? 152).map (·.size)=some (bTab.map (Value.int .i64)).length:=by kernel_rfl
theorem l6 (n:Int) (w:World) (hT:BTab w):
    Calls Tryz.prog 70 #[.int .i64 n] w fun e w'=>e=.returned (.int .i64 (bW n))∧w=w':=by
 by_cases hn:n<0
 · have e0:bW n=0:=by unfold bW;rw [if_pos hn]
   rw [e0];clear e0 hT;go_enter Tryz.func70,Tryz.ntmps70;go_wp2;go_ret;exact ⟨rfl,rfl⟩
 · have e0:bW n=fJ n bTab:=by unfold bW;rw [if_neg hn]
   rw [e0];clear e0;obtain ⟨R,hR⟩:∃q,fJ n bTab=q:=⟨_,rfl⟩
   have HR:ac (fJ n (bTab.drop 0)=R):=⟨hR⟩
   rw [hR];clear hR;go_enter Tryz.func70,Tryz.ntmps70
   go_wp2_with (refine ae rfl 152 _ rfl 0 0 rfl (bTab.map (Value.int .i64)) hT Tryz.underlying152 rfl yr ?_)
   go_loopw [8] (fun q wr=>∃j:Nat,j≤6∧q=.int .i64 j∧ac (fJ n (bTab.drop j)=R)∧wr=w) (fun q _=>6 - (intOf q).toNat)
   case atStart=>exact ⟨0,by omega,rfl,HR,rfl⟩
   case round=>
    clear HR;obtain ⟨j,hj,rfl,HJ,rfl⟩:=hrel
    by_cases hlt:j<6
    · have hix:∀wx,(Instr.index 152 (.agg (bTab.map (Value.int .i64)).toArray) (.int .i64 (j:Nat))).run Tryz.prog wx=.ok (.int .i64 (bTab[j]?.getD 0)) wx:=fun wx=>ce wx 152 3 6 .i64 bTab j Tryz.underlying152 Tryz.underlying3 (by kernel_rfl) rfl hlt
      have hst:=pE n j hlt;have hin:=wR j hlt;obtain ⟨B,hB⟩:∃q,bTab[j]?.getD 0=q:=⟨_,rfl⟩
      rw [hB] at hix hst hin
      have hwB:IntKind.i64.wrap (B - 2)=B - 2:=by rw [IntKind.wrap_i64];omega
      have hj6:(j:Int)<6:=by omega
      by_cases hnb:n≤B - 2
      · rw [if_pos hnb] at hst
        have hBR:B=R:=by rw [←hst];exact HJ.out
        subst hBR;clear hst hB HJ hin;go_wp2;go_ret;exact ⟨rfl,rfl⟩
      · rw [if_neg hnb] at hst
        have HJ2:ac (fJ n (bTab.drop (j+1))=R):=⟨by rw [←hst];exact HJ.out⟩
        clear hst hB HJ;go_wp2;go_roundw
        case rel=>exact ⟨j+1,by omega,by go_num,HJ2,trivial⟩
        case measure=>simp [intOf];omega
    · obtain rfl:j=6:=by omega
      have hR0:R=0:=by rw [←HJ.out];rfl
      subst hR0;rw [show ((6:Nat):Int)=6 from rfl];clear HJ;go_wp2;go_ret;exact ⟨rfl,rfl⟩
theorem bktL_in (n:Int):∀l:List Int,(∀b∈l,128≤b∧b≤4096)→fJ n l=0∨(n+2≤fJ n l∧128≤fJ n l∧fJ n l≤4096)
 |[],_=>.inl rfl
 |b::l,h=>by
  unfold fJ
  by_cases hb:n≤b - 2
  · rw [if_pos hb]
    have:=h b (by simp);exact .inr ⟨by omega,this.1,this.2⟩
  · rw [if_neg hb]
    exact bktL_in n l (fun x hx=>h x (List.mem_cons_of_mem _ hx))
theorem qy (n:Nat):∃s:Nat,bW n=(s:Int)∧(s=0∨(n+2≤s∧128≤s∧s≤4096)):=by
 have h:bW n=fJ n bTab:=by unfold bW;rw [if_neg (by omega)]
 rw [h]
 rcases bktL_in n bTab (by decide) with h0|h1
 · exact ⟨0,h0,.inl rfl⟩
 · exact ⟨(fJ n bTab).toNat,by omega,.inr ⟨by omega,by omega,by omega⟩⟩
def bu (z:List Int) (s:Nat):List Int:=be2 z.length++z++List.replicate (s - (z.length+2)) 0
theorem b9 (z:List Int) (s:Nat) (h:z.length+2≤s):(bu z s).length=s:=by
 unfold bu;simp [be2];omega
theorem wW (x:Option Addr) (len cap:Nat) (z:List Int) (w:World) (hT:BTab w) (hb:Bytes w x len cap z) (s:Nat) (hs:bW len=(s:Int)) (hs1:len+2≤s) (hs2:s≤4096):
    Calls Tryz.prog 31 #[.slice x len cap] w fun e w'=>∃v,e=.returned (.tuple #[v,.int .i64 0])∧aq w' w.heap.size v (bu z s)∧Below w.heap.size w w':=by
 have hbk:=l6 len w hT;rw [hs] at hbk
 have hs0:¬(s:Int)=0:=by omega
 have hle:=hb.le;have htop:=hb.top;have HBL:ac (z.length=len):=⟨hb.len_eq.symm⟩
 have hbody:=fun wx (h:Below w.heap.size w wx)=>hb.below h
 have hbx:Box (w.alloc (.cells #[.slice none 0 0] 114)) w.heap.size 114 (.slice none 0 0):=heap_alloc_new _ _;have hW1:Wr (w.alloc (.cells #[.slice none 0 0] 114)) w.heap.size w.heap.size []:=⟨Nat.le_refl _,_,hbx,aq.nil _ _⟩
 have hB1:Below w.heap.size w (w.alloc (.cells #[.slice none 0 0] 114)):=(Below.refl _ _).alloc (Nat.le_refl _) _;clear hb hs hT hbx;go_enter Tryz.func31,Tryz.ntmps31;go_upto_region 5 with (go_at_call 70;refine hbk.mono ?_;rintro e w1 ⟨rfl,rfl⟩)
 refine af (p:=fun y=>Code.wp _ _ _ _ y) (fun W1=>Below w.heap.size w W1∧Wr W1 w.heap.size w.heap.size []) ⟨hB1,hW1⟩ ?_;clear hB1 hW1 hbk;rintro W1 ⟨hB1,hW1⟩;have htw:=sH w.heap.size w.heap.size [] len W1 hW1 (by simp);rw [List.nil_append] at htw
 go_upto_region 6 with (go_at_call 71;refine htw.mono ?_;rintro e w2 ⟨⟨r2,rfl⟩,hW2,hg2⟩)
 have hB2:Below w.heap.size w w2:=hB1.trans hg2.below;have hpt:=cz w.heap.size w.heap.size (be2 len) x len cap z w2 hW2 (hbody w2 hB2) (by simp [be2];omega);clear htw hB1 hW1 hg2;go_upto_region 7 with (go_at_call 72;refine hpt.mono ?_;rintro e w3 ⟨⟨r3,rfl⟩,hW3,hg3⟩)
 have hB3:Below w.heap.size w w3:=hB2.trans hg3.below;have hl3:(be2 len++z).length=len+2:=by rw [List.length_append,HBL.out];simp [be2];omega
 have hzr:=mj w.heap.size w.heap.size (be2 len++z) (s - (len+2)) w3 hW3 (by omega) (by omega);obtain ⟨v3,hb3,ho3⟩:=hW3.has;have c3:=hb3.cell;obtain ⟨x3,n3,k3,rfl,hn3⟩:=ho3.isSlice;rw [hl3] at hn3
 subst hn3;have hwr:IntKind.i64.wrap ((s:Int) - ((len+2:Nat):Int))=((s - (len+2):Nat):Int):=by rw [IntKind.wrap_i64];omega
 obtain ⟨d,hd⟩:∃q,s - (len+2)=q:=⟨_,rfl⟩
 have HD:ac (s - (len+2)=d):=⟨hd⟩
 rw [hd] at hzr hwr
 obtain ⟨m,hm⟩:∃q,len+2=q:=⟨_,rfl⟩
 rw [hm] at hwr c3
 have hm1:m≤4096:=by omega
 clear hpt hB2 hW2 hg3 hW3 hb3 ho3 hl3 hd hs1 hm;go_upto_region 8 with (go_at_call 73;refine hzr.mono ?_;rintro e w4 ⟨⟨r4,rfl⟩,hW4,hg4⟩)
 obtain ⟨v4,hb4,ho4⟩:=hW4.has;have c4:=hb4.cell;have hB4:Below w.heap.size w w4:=hB3.trans hg4.below;obtain ⟨x4,n4,k4,rfl,hn4⟩:=ho4.isSlice;clear hn4 hzr hW4 hb4 hg4 hB3 c3 hwr;go_wp2
 go_ret2
 refine ⟨_,rfl,?_,hB4⟩;unfold bu;rw [HBL.out,HD.out];exact ho4
def toldN (z:List Int):Nat:=(oB (z[0]?.getD 0) (z[1]?.getD 0)).toNat
def dY (z:List Int):Prop:=2≤z.length∧bW (toldN z)=(z.length:Int)∧∀j,j<z.length - (2+toldN z)→(z.drop (2+toldN z))[j]?.getD 0=0
def gx (z:List Int):List Int:=(z.drop 2).take (toldN z)
theorem uX (z:List Int) (hz:∀v∈z,b8 v):oB (z[0]?.getD 0) (z[1]?.getD 0)=(toldN z:Int)∧toldN z≤65535:=by
 have h0:=iy hz 0;have h1:=iy hz 1;unfold toldN oB;omega
theorem qx (R base:Nat) (z:List Int) (w:World) (hR:Rd w R base z) (hT:∀wx,Below base w wx→BTab wx) (hz:∀v∈z,b8 v) (hl:z.length≤1000000):
    Calls Tryz.prog 99 #[.pointer (some ⟨R,0,none⟩)] w fun e w'=>
     (dY z∧∃v,e=.returned v∧aq w' base v (gx z)∧Rd w' R base []∧aY w w' R base)∨(¬dY z∧e=.panicked [dq]∧aY w w' R base):=by
 obtain ⟨hv,hlt⟩:=uX z hz;obtain ⟨s,hs,hs'⟩:=qy (toldN z);have HOK:ac (dY z↔(2≤z.length∧s=z.length∧∀j,j<z.length - (2+toldN z)→(z.drop (2+toldN z))[j]?.getD 0=0)):=⟨by
  unfold dY;rw [hs];constructor
  · rintro ⟨h1,h2,h3⟩;exact ⟨h1,by omega,h3⟩
  · rintro ⟨h1,h2,h3⟩;exact ⟨h1,by omega,h3⟩⟩
 have h2:=uz R base z w hR hz;rw [hv] at h2
 have HU:ac (gx z=(z.drop 2).take (toldN z)):=⟨rfl⟩
 obtain ⟨U,hU⟩:∃q,gx z=q:=⟨_,rfl⟩
 rw [hU] at HU ⊢
 obtain ⟨OK,hOK⟩:∃q,dY z=q:=⟨_,rfl⟩
 rw [hOK] at HOK ⊢
 obtain ⟨L,hL⟩:∃q,toldN z=q:=⟨_,rfl⟩
 rw [hL] at h2 hs hs' HOK HU hlt
 have hbk:=fun wx (h:Below base w wx)=>l6 (L:Int) wx (hT wx h)
 rw [hs] at hbk
 have hge:=hR.ge;obtain ⟨x,n,c,hbx,hby⟩:=hR.has;have hn:=(hby w (Below.refl _ _)).len_eq;have HN:ac (n=z.length):=⟨hn⟩
 have hcl:=hbx.cell;have hle:=(hby w (Below.refl _ _)).le;have htp:=(hby w (Below.refl _ _)).top;have hnl:n≤1000000:=by omega
 have hok:=fun wx=>iL wx
 have hbad:=fun wx=>ij wx
 clear hR hbx hby hn hU hOK hL hv hT hs hz;go_enter Tryz.func99,Tryz.ntmps99;go_upto_region 3 with (go_at_call 139;refine h2.mono ?_;rintro e w1 (⟨hk,rfl,hR1,ht1⟩|⟨hk,rfl,ht1⟩))
 rotate_left
 · exact ak (.inr ⟨fun h=>by have:=(HOK.out.1 h).1;omega,rfl,ht1⟩)
 have hk1:=hbk w1 ht1.below;clear h2 hcl
 by_cases hsn:s=n
 · subst hsn
   have hLs:L+2≤s:=by have:=HN.out;omega
   go_upto_region 4 with (first
    |(go_at_call 70;refine hk1.mono ?_;rintro e w2 ⟨rfl,rfl⟩)
    |(go_at_call 132;refine (hok _).mono ?_;rintro e w2 ⟨⟨r2,rfl⟩,rfl⟩))
   have htk:=eI R base (z.drop 2) L w1 hR1;have hld:(z.drop 2).length=s - 2:=by rw [List.length_drop,HN.out]
   have HLD:ac ((z.drop 2).length=s - 2):=⟨hld⟩
   clear hk1 hR1 hld hbk hbad;go_upto_region 5 with (first
    |(go_at_call 141;refine htk.mono ?_;rintro e w2 (⟨hk2,x2,rfl,hy2,hR2,ht2⟩|⟨hk2,_⟩);rotate_left;(exfalso;have:=HLD.out;omega);have hcn:=tE x2 L L ((z.drop 2).take L) w2 (hy2 w2 (Below.refl _ _)) (by omega))
    |(go_at_call 140;refine hcn.mono ?_;rintro e w3 ⟨v3,rfl,ho3,hb3⟩))
   have hR3:=hR2.afar hb3;have ht3:=(ht1.trans ht2).trans (aY.afar hR2.size hb3);have hO3:=ho3.lessG (base':=base) hR2.size;rw [←HU.out] at hO3
   have hdd:(z.drop 2).drop L=z.drop (2+L):=by rw [List.drop_drop]
   rw [hdd] at hR3
   obtain ⟨x4,n4,c4,hbx4,hby4⟩:=hR3.has;have hcl4:=hbx4.cell;have hn4:=(hby4 w3 (Below.refl _ _)).len_eq;have hle4:=(hby4 w3 (Below.refl _ _)).le;have htp4:=(hby4 w3 (Below.refl _ _)).top;have hnn4:n4=s - (2+L):=by rw [hn4,List.length_drop,HN.out]
   have HN4:ac (n4=(z.drop (2+L)).length∧n4=s - (2+L)):=⟨hn4,hnn4⟩
   have hn4b:n4≤1000000:=by omega
   have hzr:=lU R base (z.drop (2+L)) n4 w3 hR3 hn4b;clear hn4 hnn4 hby4 hdd ho3 hR3 hR2 htk hy2 hb3;go_upto_region 6 with (go_at_call 137;refine hzr.mono ?_;rintro e w4 (⟨hk4,⟨r4,rfl⟩,hR4,ht4⟩|⟨hk4,rfl,ht4⟩))
   rotate_left
   · exact ak (.inr ⟨fun h=>hk4 ⟨by rw [HN4.out.1];exact Nat.le_refl _,fun j hj=>(HOK.out.1 h).2.2 j (by have:=HN.out;have:=HN4.out.2;omega)⟩,rfl,ht3.trans ht4⟩)
   have hO4:=hO3.took hbx4 ht4;obtain ⟨xq,nq,cq,rfl,_⟩:=hO4.isSlice;rw [HN4.out.1,List.drop_of_length_le (Nat.le_refl _)] at hR4
   have HOK4:ac (∀j,j<s - (2+L)→(z.drop (2+L))[j]?.getD 0=0):=⟨fun j hj=>hk4.2 j (by rw [HN4.out.2];exact hj)⟩
   clear hzr hk4 hbx4 hcl4 hO3;go_wp2;go_ret;refine .inl ⟨HOK.out.2 ⟨hk,HN.out,fun j hj=>HOK4.out j (by have:=HN.out;omega)⟩,_,rfl,hO4,hR4,ht3.trans ht4⟩
 · have hsb:((s:Int)==(n:Int))=false:=by simp;omega
   go_upto_region 4 with (first
    |(go_at_call 70;refine hk1.mono ?_;rintro e w2 ⟨rfl,rfl⟩)
    |(go_at_call 132;refine (hbad _).mono ?_;rintro e w2 ⟨rfl,rfl⟩))
   exact ak (.inr ⟨fun h=>hsn (by rw [(HOK.out.1 h).2.1,HN.out]),rfl,ht1⟩)
theorem Box.other {w:World} {H:Nat} {t:TypeId} {v:Value} (h:Box w H t v) (a:Addr) (u:Value) (hne:H≠a.block):Box (w.setCell a u) H t v:=by
 unfold Box at h ⊢
 rw [heap_setCell_other w a H u hne];exact h
theorem gW (wx:World):(Instr.typeAssert (.iface 168 (.agg #[])) 20 168 true).run Tryz.prog wx=.ok (.tuple #[.agg #[],.bool true]) wx:=by kernel_rfl
theorem jH (wx:World) (g:Nat):(Instr.storeAt 168 (.pointer (some ⟨g,0,none⟩)) (.agg #[])).run Tryz.prog wx=.ok () wx:=by kernel_rfl
theorem j0 (A B:Nat) (u v:Value) (w:World) (hA:Box w A 41 u) (hB:Box w B 44 v) (hne:A≠B):
    CallsD Tryz.prog 138 #[.pointer (some ⟨A,0,none⟩),.pointer (some ⟨B,0,none⟩)] (.panicking [dq]) w fun e u' w'=>
     e=.returned (.tuple #[])∧u'=.panicking [{v:=.iface 168 (.agg #[]),recovered:=true}]∧w'=((w.alloc (.cells #[] 168)).setCell ⟨A,0,none⟩ (.slice none 0 0)).setCell ⟨B,0,none⟩ (.int .i64 3):=by
 have hta:=gW;have hst:=jH;have cA:=(hA.alloc (.cells #[] 168)).cell;have fA:=(hA.alloc (.cells #[] 168)).frozen;have hB2:Box ((w.alloc (.cells #[] 168)).setCell ⟨A,0,none⟩ (.slice none 0 0)) B 44 v:=by
  have:=hB.alloc (.cells #[] 168);unfold Box at this ⊢
  rw [heap_setCell_other _ _ B _ (by exact fun e=>hne e.symm)];exact this
 have cB:=hB2.cell;have fB:=hB2.frozen;clear hA hB hB2;refine callsD_of_wpS Tryz.func138 rfl fun c₀ cs hu=>?_
 apply wpS_seq;apply wpS_region;simp [wpOpsS,go_sem,recoverD,hu,dq,Tryz.ntmps138,Exit.thenS];refine wpS_of_wp ?_;change Code.wp _ _ _ {tmps:= #[.pointer (some ⟨A,0,none⟩),.pointer (some ⟨B,0,none⟩),undef,undef,undef,undef,.iface 168 (.agg #[]),undef,undef,undef,undef,undef,undef],defers:=[]} _;go_wp2;simp [bodyPostS,results,Tryz.results138]
theorem oJ (A B:Nat) (w:World):
    CallsD Tryz.prog 138 #[.pointer (some ⟨A,0,none⟩),.pointer (some ⟨B,0,none⟩)] .returning w fun e u' w'=>e=.returned (.tuple #[])∧u'=.returning∧w'=w:=by
 refine callsD_of_wpS Tryz.func138 rfl fun c₀ cs hu=>?_
 apply wpS_seq;apply wpS_region;simp [wpOpsS,go_sem,recoverD,hu,Tryz.ntmps138,Exit.thenS];refine wpS_of_wp ?_;change Code.wp _ _ _ {tmps:= #[.pointer (some ⟨A,0,none⟩),.pointer (some ⟨B,0,none⟩),undef,undef,undef,undef,.nilIface,undef,undef,undef,undef,undef,undef],defers:=[]} _;go_wp2;cases c₀
 simp_all [bodyPostS,results,Tryz.results138]
theorem kX (wx:World):(binOp BinOp.eql 20 .nilIface .nilIface).run Tryz.prog wx=.ok (.bool true) wx:=by kernel_rfl
theorem cC (fn:Fn) (first cap:Array Value) (w:World):(Instr.makeFunc fn first cap).run Tryz.prog w=.ok (.func fn first cap) w:=rfl
theorem tt (x:Option Addr) (n c:Nat) (z:List Int) (w:World) (hT:BTab w) (hb:Bytes w x n c z) (hz:∀v∈z,b8 v) (hl:z.length≤1000000):
    Calls Tryz.prog 98 #[.slice x n c,.func (.func 99) #[] #[]] w fun e w'=>
     (dY z∧∃x' n' c',e=.returned (.tuple #[.slice x' n' c',.int .i64 0])∧aq w' w.heap.size (.slice x' n' c') (gx z)∧Below w.heap.size w w')∨(¬dY z∧e=.returned (.tuple #[.slice none 0 0,.int .i64 3])∧Below w.heap.size w w'):=by
 have hmf:=cC;have hA0:Box ((w.alloc (.cells #[.slice none 0 0] 41)).alloc (.cells #[.int .i64 0] 44)) w.heap.size 41 (.slice none 0 0):=Box.alloc (heap_alloc_new _ _) _;have hB0:Box ((w.alloc (.cells #[.slice none 0 0] 41)).alloc (.cells #[.int .i64 0] 44)) (w.heap.size+1) 44 (.int .i64 0):=by
  have:Box ((w.alloc (.cells #[.slice none 0 0] 41)).alloc (.cells #[.int .i64 0] 44)) (w.alloc (.cells #[.slice none 0 0] 41)).heap.size 44 (.int .i64 0):=heap_alloc_new _ _;rw [World.size_alloc] at this
  exact this
 have hW0:Below w.heap.size w ((w.alloc (.cells #[.slice none 0 0] 41)).alloc (.cells #[.int .i64 0] 44)):=((Below.refl _ _).alloc (Nat.le_refl _) _).alloc (by simp) _;have hs0:((w.alloc (.cells #[.slice none 0 0] 41)).alloc (.cells #[.int .i64 0] 44)).heap.size=w.heap.size+2:=by simp
 have hpd:=fun W1 (hW1:Below w.heap.size w W1) (hR1:Rd W1 (w.heap.size+2) w.heap.size z)=>qx (w.heap.size+2) w.heap.size z W1 hR1 (fun wx hx=>hT.below (hW1.trans hx)) hz hl
 obtain ⟨U,hU⟩:∃q,gx z=q:=⟨_,rfl⟩
 rw [hU] at hpd ⊢
 obtain ⟨OK,hOK⟩:∃q,dY z=q:=⟨_,rfl⟩
 rw [hOK] at hpd ⊢
 clear hU hOK hT hz hl
 go_enter_defers Tryz.func98,Tryz.ntmps98
 go_upto_region 2 with fail
 refine af (p:=fun y=>Code.wp _ _ _ _ y) (fun W0=>Below w.heap.size w W0∧W0.heap.size=w.heap.size+2∧Box W0 w.heap.size 41 (.slice none 0 0)∧Box W0 (w.heap.size+1) 44 (.int .i64 0)) ⟨hW0,hs0,hA0,hB0⟩ ?_;clear hW0 hs0 hA0 hB0 hmf;rintro W0 ⟨hW0,hs0,hA0,hB0⟩;have hRx:Box (W0.alloc (.cells #[.slice x n c] 172)) (w.heap.size+2) 172 (.slice x n c):=by
  have:Box (W0.alloc (.cells #[.slice x n c] 172)) W0.heap.size 172 (.slice x n c):=heap_alloc_new _ _;rw [hs0] at this
  exact this
 have hR1:Rd (W0.alloc (.cells #[.slice x n c] 172)) (w.heap.size+2) w.heap.size z:=⟨by omega,x,n,c,hRx,fun wx hx=>hb.below ((hW0.alloc hW0.size _).trans hx)⟩
 have hA1:=hA0.alloc (.cells #[.slice x n c] 172);have hB1:=hB0.alloc (.cells #[.slice x n c] 172);have hW1:=hW0.alloc hW0.size (.cells #[.slice x n c] 172);go_upto_region 3 with fail
 refine af (p:=fun y=>Code.wp _ _ _ _ y) (fun W1=>Below w.heap.size w W1∧Rd W1 (w.heap.size+2) w.heap.size z∧Box W1 w.heap.size 41 (.slice none 0 0)∧Box W1 (w.heap.size+1) 44 (.int .i64 0)) ⟨hW1,hR1,hA1,hB1⟩ ?_;clear hW1 hR1 hA1 hB1 hRx hW0 hs0 hA0 hB0;rintro W1 ⟨hW1,hR1,hA1,hB1⟩;have hrd:=hpd W1 hW1 hR1;have keep:∀w',aY W1 w' (w.heap.size+2) w.heap.size→Box w' w.heap.size 41 (.slice none 0 0)∧Box w' (w.heap.size+1) 44 (.int .i64 0):=fun w' ht=>by
  have l1:=hA1.lt;have l2:=hB1.lt;unfold Box at hA1 hB1 ⊢
  exact ⟨by rw [ht.kept _ l1 (by omega)];exact hA1,by rw [ht.kept _ l2 (by omega)];exact hB1⟩
 clear hb hR1 hpd
 by_cases hO:OK
 · have h1:Calls Tryz.prog 99 #[.pointer (some ⟨w.heap.size+2,0,none⟩)] W1 fun e w'=>∃x' n' c',e=.returned (.slice x' n' c')∧aq w' w.heap.size (.slice x' n' c') U∧Rd w' (w.heap.size+2) w.heap.size []∧aY W1 w' (w.heap.size+2) w.heap.size:=hrd.mono fun e w' h=>by
    rcases h with ⟨_,v,h1,h2,h3,h4⟩|⟨h,_⟩
    · obtain ⟨x',n',c',rfl,_⟩:=h2.isSlice
      exact ⟨x',n',c',h1,h2,h3,h4⟩
    · exact absurd hO h
   have HO:ac OK:=⟨hO⟩
   clear hrd hO hA1 hB1;go_upto_region 4 with (go_at_call 99;refine h1.mono ?_;rintro e w2 ⟨x2,n2,c2,rfl,ho2,hR2,ht2⟩;have hk2:=keep _ ht2;have cA:=hk2.1.cell;have fA:=hk2.1.frozen)
   have hW2:=hW1.trans ht2.below;obtain ⟨xr,nr,cr,hbr,hyr⟩:=hR2.has;have hyr0:=hyr w2 (Below.refl _ _);obtain rfl:nr=0:=hyr0.len_eq;have hler:=hyr0.le;have htpr:=hyr0.top;have hA3:Box (w2.setCell ⟨w.heap.size,0,none⟩ (.slice x2 n2 c2)) w.heap.size 41 (.slice x2 n2 c2):=hk2.1.set _;have hB3:Box (w2.setCell ⟨w.heap.size,0,none⟩ (.slice x2 n2 c2)) (w.heap.size+1) 44 (.int .i64 0):=hk2.2.other _ _ (by show w.heap.size+1≠w.heap.size;omega);have hR3:Box (w2.setCell ⟨w.heap.size,0,none⟩ (.slice x2 n2 c2)) (w.heap.size+2) 172 (.slice xr 0 cr):=hbr.other _ _ (by show w.heap.size+2≠w.heap.size;omega);have hO3:=ho2.setBox hk2.1 (by decide) (.slice x2 n2 c2);refine af (p:=fun y=>Code.wp _ _ _ _ y) (fun W3=>Below w.heap.size w W3∧Box W3 w.heap.size 41 (.slice x2 n2 c2)∧Box W3 (w.heap.size+1) 44 (.int .i64 0)∧Box W3 (w.heap.size+2) 172 (.slice xr 0 cr)∧aq W3 w.heap.size (.slice x2 n2 c2) U) ⟨hW2.setCell (Nat.le_refl _) _,hA3,hB3,hR3,hO3⟩ ?_;clear hA3 hB3 hR3 hO3 hW2 hk2 cA fA ht2 hR2 ho2 hbr hyr hyr0 h1 keep hW1;rintro W3 ⟨hW3,hA3,hB3,hR3,hO3⟩;have cR:=hR3.cell;have cA:=hA3.cell;have fA:=hA3.frozen;have hnd:=iL W3;go_upto_region 5 with (go_at_call 132;refine hnd.mono ?_;rintro e w4 ⟨⟨r4,rfl⟩,rfl⟩)
   have hA4:=hA3.set (.slice x2 n2 c2);have hB4:=hB3.other ⟨w.heap.size,0,none⟩ (.slice x2 n2 c2) (by show w.heap.size+1≠w.heap.size;omega);have cB:=hB4.cell;have fB:=hB4.frozen;go_wp2;refine leaves_cons (f:=138) (args:= #[.pointer (some ⟨w.heap.size,0,none⟩),.pointer (some ⟨w.heap.size+1,0,none⟩)]) (by simp) (by simp [go_sem]) ?_;refine (oJ w.heap.size (w.heap.size+1) _).mono ?_;rintro e u' w'' ⟨rfl,rfl,rfl⟩;have hA5:=hA4.other ⟨w.heap.size+1,0,none⟩ (.int .i64 0) (by show w.heap.size≠w.heap.size+1;omega);have hB5:=hB4.set (.int .i64 0);have dA:=hA5.cell;have dB:=hB5.cell;have hO5:=(hO3.setBox hA3 (by decide) (.slice x2 n2 c2)).setBox hB4 (by decide) (.int .i64 0);have hW5:Below w.heap.size w ((W3.setCell ⟨w.heap.size,0,none⟩ (.slice x2 n2 c2)).setCell ⟨w.heap.size+1,0,none⟩ (.int .i64 0)):=(hW3.setCell (Nat.le_refl _) _).setCell (by show w.heap.size≤w.heap.size+1;omega) _;refine ⟨.tuple #[.slice x2 n2 c2,.int .i64 0],?_,.inl ⟨HO.out,x2,n2,c2,rfl,hO5,hW5⟩⟩;simp [results,Tryz.results98,go_sem,dA,dB]
 · have h1:Calls Tryz.prog 99 #[.pointer (some ⟨w.heap.size+2,0,none⟩)] W1 fun e w'=>e=.panicked [dq]∧aY W1 w' (w.heap.size+2) w.heap.size:=hrd.mono fun e w' h=>by
    rcases h with ⟨h,_⟩|⟨_,h1,h2⟩
    · exact absurd h hO
    · exact ⟨h1,h2⟩
   have HO:ac (¬OK):=⟨hO⟩
   clear hrd hO hA1 hB1;go_upto_region 4 with (go_at_call 99;refine h1.mono ?_;rintro e w2 ⟨rfl,ht2⟩)
   have hk2:=keep _ ht2;have hW2:=hW1.trans ht2.below;refine leaves_cons (f:=138) (args:= #[.pointer (some ⟨w.heap.size,0,none⟩),.pointer (some ⟨w.heap.size+1,0,none⟩)]) (by simp) (by simp [go_sem]) ?_;refine (j0 w.heap.size (w.heap.size+1) _ _ w2 hk2.1 hk2.2 (by omega)).mono ?_;rintro e u' w'' ⟨rfl,rfl,rfl⟩;have hA3:=(hk2.1.alloc (.cells #[] 168)).set (.slice none 0 0);have hB3:=(hk2.2.alloc (.cells #[] 168)).other ⟨w.heap.size,0,none⟩ (.slice none 0 0) (by show w.heap.size+1≠w.heap.size;omega);have dA:=(hA3.other ⟨w.heap.size+1,0,none⟩ (.int .i64 3) (by show w.heap.size≠w.heap.size+1;omega)).cell;have dB:=(hB3.set (.int .i64 3)).cell;have hW5:Below w.heap.size w (((w2.alloc (.cells #[] 168)).setCell ⟨w.heap.size,0,none⟩ (.slice none 0 0)).setCell ⟨w.heap.size+1,0,none⟩ (.int .i64 3)):=((hW2.alloc hW2.size _).setCell (Nat.le_refl _) _).setCell (by show w.heap.size≤w.heap.size+1;omega) _;refine ⟨.tuple #[.slice none 0 0,.int .i64 3],?_,.inr ⟨HO.out,rfl,hW5⟩⟩;simp [results,Tryz.results98,go_sem,dA,dB]
end Go.Proofs.YtbdhfbglagdiaaaGreatDoor
