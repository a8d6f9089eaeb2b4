/- Wo2 Cv1 Cv3 Evl Cv4 -/
import Derived.Test.YtbdhfbglagdiaaaGreatDoorJ03
import Derived.Test.YtbdhfbglagdiaaaGreatDoorJ06
import Derived.Test.YtbdhfbglagdiaaaGreatDoorJ01
import Derived.Test.YtbdhfbglagdiaaaGreatDoorJ26
namespace Go.Proofs.YtbdhfbglagdiaaaGreatDoor
open Go.RowKit
set_option maxRecDepth 20000
set_option maxHeartbeats 4000000
set_option linter.unusedSimpArgs false
theorem CellsAt.afar {w w':World} {g:Nat} {t:TypeId} {cs:List Value} (h:CellsAt w g t cs) (hb:Below w.heap.size w w'):CellsAt w' g t cs:=by
 have hl:=h.lt;unfold CellsAt at h ⊢;rw [hb.block g hl];exact h
theorem CellsAt.grown {w w':World} {base g:Nat} {v:Value} {z:List Int} {t:TypeId} {cs:List Value} (h:CellsAt w g t cs) (ho:aq w base v z) (hg:w.grownBy w' v.ownBlock) (ht:t≠5):CellsAt w' g t cs:=nZ ho hg h ht
theorem aq.keepT {w w':World} {base g0:Nat} {v:Value} {z:List Int} {t:TypeId} {cs:List Value} (h:aq w base v z) (hc:CellsAt w g0 t cs) (ht:t≠5) (hk:∀g,g≠g0→w'.heap[g]?=w.heap[g]?):aq w' base v z:=by
 refine ⟨h.1,?_⟩
 rcases h.2 with h'|⟨g,cap,cur,h1,h2,h3,h4⟩
 · exact .inl h'
 · refine .inr ⟨g,cap,cur,h1,h2,?_,h4⟩
   rw [hk g (fun e=>by
    subst e;unfold CellsAt at hc
    rw [h3] at hc
    simp at hc
    exact ht hc.2.symm)]
   exact h3
theorem mf (F:Fr) (xw:Option Addr) (lw cw:Nat) (ws:List Wp) (w:World) (hp:F.prev.length=32) (hm:F.mac.length=32) (hfw:F.wraps=.slice xw lw cw) (hws:WrapsAt w xw lw cw ws) (h1:lw≤64):
    Calls Tryz.prog 35 #[.agg F.cells.toArray] w fun e w'=>∃v,e=.returned v∧aq w' w.heap.size v (aP F ws)∧Below w.heap.size w w':=by
 obtain ⟨q0,_,_,_,_,q6,q7,q8⟩:=aH F hp hm;have HQ:ac (F.cells[36]?=some (.slice xw lw cw)):=⟨by rw [←hfw];exact q6⟩
 have hiF:(Tryz.prog.info? 43).map (·.size)=some F.cells.length:=by rw [q0];exact bU
 have hop:=fun wx (h0:Below w.heap.size w wx) (h:Wr wx (w.heap.size+1) w.heap.size [])=>lS (w.heap.size+1) w.heap.size [] F xw lw cw ws wx h hp hm hfw (fun wy hy=>hws.below (h0.trans hy)) (by omega) (by simp)
 have hD0:=CellsAt.new w 43 F.cells;have hB0:Below w.heap.size w (w.alloc (.cells F.cells.toArray 43)):=(Below.refl _ _).alloc (Nat.le_refl _) _;have h1':¬(lw:Int)>64:=by omega
 have c36:=hD0.cell 36;rw [HQ.out] at c36
 have hcw:=hws.le;have htw:=hws.top;clear q0 q6 q7 q8 hfw hp hm hws;go_enter Tryz.func35,Tryz.ntmps35;go_upto_region 3 with fail
 refine af (p:=fun y=>Code.wp _ _ _ _ y) (fun W0=>Below w.heap.size w W0∧W0.heap.size=w.heap.size+1∧CellsAt W0 w.heap.size 43 F.cells) ⟨hB0,by simp,hD0⟩ ?_;clear hB0 hD0 c36;rintro W0 ⟨hB0,hsz0,hD0⟩;have hbx:Box (W0.alloc (.cells #[.slice none 0 0] 114)) (w.heap.size+1) 114 (.slice none 0 0):=by
  have:Box (W0.alloc (.cells #[.slice none 0 0] 114)) W0.heap.size 114 (.slice none 0 0):=heap_alloc_new _ _;rw [hsz0] at this
  exact this
 have hW1:Wr (W0.alloc (.cells #[.slice none 0 0] 114)) (w.heap.size+1) w.heap.size []:=⟨by omega,_,hbx,aq.nil _ _⟩
 have hD1:=hD0.alloc (.cells #[.slice none 0 0] 114);have hB1:=hB0.alloc hB0.size (.cells #[.slice none 0 0] 114);go_upto_region 4 with fail
 refine af (p:=fun y=>Code.wp _ _ _ _ y) (fun W1=>Below w.heap.size w W1∧Wr W1 (w.heap.size+1) w.heap.size []∧CellsAt W1 w.heap.size 43 F.cells) ⟨hB1,hW1,hD1⟩ ?_;clear hB1 hW1 hD1 hbx hB0 hD0 hsz0;rintro W1 ⟨hB1,hW1,hD1⟩;have rE:W1.rangeAt w.heap.size 0 F.cells:=fun j v hv=>by rw [Nat.zero_add,hD1.cell];exact hv
 have hop1:=hop W1 hB1 hW1;rw [List.nil_append] at hop1
 go_upto_region 5 with (first
  |(refine ae rfl 43 _ rfl _ _ rfl F.cells rE Tryz.underlying43 rfl hiF ?_)
  |(go_at_call 80;refine hop1.mono ?_;rintro e w2 ⟨⟨r2,rfl⟩,hW2,hg2⟩))
 have hB2:Below w.heap.size w w2:=hB1.trans hg2.below;obtain ⟨v,hb5,ho5⟩:=hW2.has;have c0:=hb5.cell;obtain ⟨x5,n5,c5,rfl,hn5⟩:=ho5.isSlice;clear hn5 hop hop1 rE hD1 hW1 hB1 hg2 hb5 hW2;go_wp2;go_ret;exact ⟨_,rfl,ho5,hB2⟩
set_option maxHeartbeats 1000000
def hasB (v:List Int) (a s:Int):Bool:=decide (a<8)&&(!(s==0)&&decide (s≤v[a.toNat]?.getD 0))
theorem aA {a b:Bool} (h:a=b):Ending.returned (.bool a)=.returned (.bool b):=by rw [h]
theorem o0 (v:List Int) (a s:Int) (w:World) (hv:v.length=8) (ha:0≤a) (hs:0≤s):
    Calls Tryz.prog 115 #[.agg (row .u32 v),.agg (dotC a s).toArray] w fun e w'=>e=.returned (.bool (hasB v a s))∧Below w.heap.size w w':=by
 have hv0:=aa.new w .u32 29 v;have hd0:=CellsAt.new (w.alloc (.cells (row .u32 v) 29)) 26 (dotC a s);rw [World.size_alloc] at hd0
 have hv1:=hv0.alloc (.cells (dotC a s).toArray 26);have hB:Below w.heap.size w ((w.alloc (.cells (row .u32 v) 29)).alloc (.cells (dotC a s).toArray 26)):=((Below.refl _ _).alloc (Nat.le_refl _) _).alloc (by simp) _;have c0:=hd0.cell 0;have c1:=hd0.cell 1;rw [show (dotC a s)[0]?=some (.int .u8 a) from rfl] at c0
 rw [show (dotC a s)[1]?=some (.int .u32 s) from rfl] at c1
 by_cases ha8:a<8
 · have HH:ac (hasB v a s=(!(s==0)&&decide (s≤v[a.toNat]?.getD 0))):=⟨by simp [hasB,ha8]⟩
   have cv:=hv1.cell a.toNat (by omega);obtain ⟨q,hq⟩:∃q,v[a.toNat]?.getD 0=q:=⟨_,rfl⟩
   rw [hq] at cv HH
   obtain ⟨n,rfl⟩:=Int.eq_ofNat_of_zero_le ha;rw [Int.toNat_natCast] at cv
   by_cases h0:s=0
   · subst h0
     clear hq hv hs;go_enter Tryz.func115,Tryz.ntmps115
     go_wp2_with fail
     refine af (p:=fun y=>Code.wp _ _ _ _ y) (fun W=>Below w.heap.size w W∧W.cell? ⟨w.heap.size+1,0,none⟩=some (.int .u8 n)∧W.cell? ⟨w.heap.size+1,1,none⟩=some (.int .u32 0)) ⟨hB,c0,c1⟩ ?_;clear hB c0 c1 hd0 hv0 hv1 cv;rintro W ⟨hB,c0,c1⟩
     go_quiet ((fail))
     go_wp2;go_ret;exact ⟨by rw [HH.out];rfl,aD hB _⟩
   · have h1:(s==0)=false:=by simpa using h0
     have h2:0<s:=by omega
     rw [h1] at HH
     clear hq hv hs;go_enter Tryz.func115,Tryz.ntmps115
     go_wp2_with fail
     refine af (p:=fun y=>Code.wp _ _ _ _ y) (fun W=>Below w.heap.size w W∧W.cell? ⟨w.heap.size+1,0,none⟩=some (.int .u8 n)∧W.cell? ⟨w.heap.size+1,1,none⟩=some (.int .u32 s)∧W.cell? ⟨w.heap.size,n,none⟩=some (.int .u32 q)) ⟨hB,c0,c1,cv⟩ ?_;clear hB c0 c1 hd0 hv0 hv1 cv;rintro W ⟨hB,c0,c1,cv⟩
     go_quiet ((fail))
     go_wp2;go_ret;exact ⟨by rw [HH.out];exact aA (by simp [bne,h1]),aD hB _⟩
 · have HH:ac (hasB v a s=false):=⟨by simp [hasB,ha8]⟩
   have hd8:decide (a<8)=false:=by simp [ha8]
   clear hv hs ha;go_enter Tryz.func115,Tryz.ntmps115
   go_wp2_with fail
   refine af (p:=fun y=>Code.wp _ _ _ _ y) (fun W=>Below w.heap.size w W∧W.cell? ⟨w.heap.size+1,0,none⟩=some (.int .u8 a)) ⟨hB,c0⟩ ?_;clear hB c0 c1 hd0 hv0 hv1;rintro W ⟨hB,c0⟩
   go_quiet ((fail))
   go_wp2;go_ret;exact ⟨by rw [HH.out];rfl,aD hB _⟩
theorem wJ (v:List Int) (a s:Int) (w:World) (hv:v.length=8) (ha:0≤a) (hs:0≤s):
    Calls Tryz.prog 84 #[.agg (row .u32 v),.agg (dotC a s).toArray] w fun e w'=>e=.returned (.bool (hasB v a s))∧Below w.heap.size w w':=by
 have hv0:=aa.new w .u32 29 v;have hd0:=CellsAt.new (w.alloc (.cells (row .u32 v) 29)) 26 (dotC a s);rw [World.size_alloc] at hd0
 have hv1:=hv0.alloc (.cells (dotC a s).toArray 26);have hB:Below w.heap.size w ((w.alloc (.cells (row .u32 v) 29)).alloc (.cells (dotC a s).toArray 26)):=((Below.refl _ _).alloc (Nat.le_refl _) _).alloc (by simp) _;have c0:=hd0.cell 0;have c1:=hd0.cell 1;rw [show (dotC a s)[0]?=some (.int .u8 a) from rfl] at c0
 rw [show (dotC a s)[1]?=some (.int .u32 s) from rfl] at c1
 by_cases ha8:a<8
 · have HH:ac (hasB v a s=(!(s==0)&&decide (s≤v[a.toNat]?.getD 0))):=⟨by simp [hasB,ha8]⟩
   have cv:=hv1.cell a.toNat (by omega);obtain ⟨q,hq⟩:∃q,v[a.toNat]?.getD 0=q:=⟨_,rfl⟩
   rw [hq] at cv HH
   obtain ⟨n,rfl⟩:=Int.eq_ofNat_of_zero_le ha;rw [Int.toNat_natCast] at cv
   by_cases h0:s=0
   · subst h0
     clear hq hv hs;go_enter Tryz.func84,Tryz.ntmps84
     go_wp2_with fail
     refine af (p:=fun y=>Code.wp _ _ _ _ y) (fun W=>Below w.heap.size w W∧W.cell? ⟨w.heap.size+1,0,none⟩=some (.int .u8 n)∧W.cell? ⟨w.heap.size+1,1,none⟩=some (.int .u32 0)) ⟨hB,c0,c1⟩ ?_;clear hB c0 c1 hd0 hv0 hv1 cv;rintro W ⟨hB,c0,c1⟩
     go_quiet ((fail))
     go_wp2;go_ret;exact ⟨by rw [HH.out];rfl,aD hB _⟩
   · have h1:(s==0)=false:=by simpa using h0
     have h2:0<s:=by omega
     rw [h1] at HH
     clear hq hv hs;go_enter Tryz.func84,Tryz.ntmps84
     go_wp2_with fail
     refine af (p:=fun y=>Code.wp _ _ _ _ y) (fun W=>Below w.heap.size w W∧W.cell? ⟨w.heap.size+1,0,none⟩=some (.int .u8 n)∧W.cell? ⟨w.heap.size+1,1,none⟩=some (.int .u32 s)∧W.cell? ⟨w.heap.size,n,none⟩=some (.int .u32 q)) ⟨hB,c0,c1,cv⟩ ?_;clear hB c0 c1 hd0 hv0 hv1 cv;rintro W ⟨hB,c0,c1,cv⟩
     go_quiet ((fail))
     go_wp2;go_ret;exact ⟨by rw [HH.out];exact aA (by simp [bne,h1]),aD hB _⟩
 · have HH:ac (hasB v a s=false):=⟨by simp [hasB,ha8]⟩
   have hd8:decide (a<8)=false:=by simp [ha8]
   clear hv hs ha;go_enter Tryz.func84,Tryz.ntmps84
   go_wp2_with fail
   refine af (p:=fun y=>Code.wp _ _ _ _ y) (fun W=>Below w.heap.size w W∧W.cell? ⟨w.heap.size+1,0,none⟩=some (.int .u8 a)) ⟨hB,c0⟩ ?_;clear hB c0 c1 hd0 hv0 hv1;rintro W ⟨hB,c0⟩
   go_quiet ((fail))
   go_wp2;go_ret;exact ⟨by rw [HH.out];rfl,aD hB _⟩
set_option maxHeartbeats 2000000
def noMemB (e:Ev):Bool:=(e.who==0)&&(e.role==0)
def noTextB (e:Ev):Bool:=((e.pa==0)&&(e.ps==0))&&(!e.right&&(e.char==0))
theorem iH (e:Ev) (hp:e.past.length=8):e.cells[13]?=some (.bool e.right)∧e.cells[14]?=some (.int .u8 e.char)∧e.cells[15]?=some (.int .u8 e.who)∧e.cells[16]?=some (.int .u8 e.role)∧e.cells.length=17:=by
 obtain ⟨da,ds,past,kind,pa,ps,right,char,who,role⟩:=e
 match past,hp with
 |[_,_,_,_,_,_,_,_],_=>exact ⟨rfl,rfl,rfl,rfl,rfl⟩
theorem qm (e:Ev) (w:World) (hp:e.past.length=8):
    Calls Tryz.prog 114 #[.agg e.cells.toArray] w fun x w'=>x=.returned (.bool (noMemB e))∧Below w.heap.size w w':=by
 have h0:=CellsAt.new w 33 e.cells;have hB:Below w.heap.size w (w.alloc (.cells e.cells.toArray 33)):=(Below.refl _ _).alloc (Nat.le_refl _) _;obtain ⟨_,_,q15,q16,_⟩:=iH e hp;have c15:=(h0.cell 15).trans q15;have c16:=(h0.cell 16).trans q16;have HH:ac (noMemB e=((e.who==0)&&(e.role==0))):=⟨rfl⟩
 obtain ⟨wo,hwo⟩:∃q,e.who=q:=⟨_,rfl⟩
 obtain ⟨ro,hro⟩:∃q,e.role=q:=⟨_,rfl⟩
 rw [hwo] at c15 HH
 rw [hro] at c16 HH
 clear q15 q16 hwo hro h0
 by_cases k1:wo=0
 · subst k1
   go_enter Tryz.func114,Tryz.ntmps114;go_upto_region 1 with fail
   refine af (p:=fun y=>Code.wp _ _ _ _ y) (fun W=>Below w.heap.size w W∧W.cell? ⟨w.heap.size,15,none⟩=some (.int .u8 0)∧W.cell? ⟨w.heap.size,16,none⟩=some (.int .u8 ro)) ⟨hB,c15,c16⟩ ?_;clear hB c15 c16;rintro W ⟨hB,c15,c16⟩;go_wp2;go_ret;exact ⟨by rw [HH.out];rfl,hB⟩
 · have k1':(wo==0)=false:=by simpa using k1
   go_enter Tryz.func114,Tryz.ntmps114;go_upto_region 1 with fail
   refine af (p:=fun y=>Code.wp _ _ _ _ y) (fun W=>Below w.heap.size w W∧W.cell? ⟨w.heap.size,15,none⟩=some (.int .u8 wo)∧W.cell? ⟨w.heap.size,16,none⟩=some (.int .u8 ro)) ⟨hB,c15,c16⟩ ?_;clear hB c15 c16;rintro W ⟨hB,c15,c16⟩;go_wp2;go_ret;exact ⟨by rw [HH.out,k1'];rfl,hB⟩
theorem nF (e:Ev) (hp:e.past.length=8):(e.cells.drop 11).take 2=dotC e.pa e.ps:=(f6 e hp).2.2.2.1
theorem nW (e:Ev) (hp:e.past.length=8):(e.cells.drop 2).take 8=e.past.map (Value.int .u32):=(f6 e hp).2.1
theorem qh (e:Ev) (w:World) (hp:e.past.length=8):
    Calls Tryz.prog 116 #[.agg e.cells.toArray] w fun x w'=>x=.returned (.bool (noTextB e))∧Below w.heap.size w w':=by
 have h0:=CellsAt.new w 33 e.cells;have hB:Below w.heap.size w (w.alloc (.cells e.cells.toArray 33)):=(Below.refl _ _).alloc (Nat.le_refl _) _;obtain ⟨q13,q14,_,_,_⟩:=iH e hp;have c13:=(h0.cell 13).trans q13;have c14:=(h0.cell 14).trans q14;have rg:=h0.range 11 2;rw [nF e hp] at rg
 have heq:∀wx,(binOp BinOp.eql 26 (.agg (dotC e.pa e.ps).toArray) (.agg #[.int .u8 0,.int .u32 0])).run Tryz.prog wx=.ok (.bool ((e.pa==0)&&(e.ps==0))) wx:=fun wx=>dot_eql e.pa e.ps 0 0 wx
 have HH:ac (noTextB e=(((e.pa==0)&&(e.ps==0))&&(!e.right&&(e.char==0)))):=⟨rfl⟩
 obtain ⟨r,hr⟩:∃q,((e.pa==0)&&(e.ps==0))=q:=⟨_,rfl⟩
 simp only [hr] at heq
 rw [hr] at HH
 have hDl:(Tryz.prog.info? 26).map (·.size)=some (dotC e.pa e.ps).length:=sizeDot;obtain ⟨DP,hDP⟩:∃q,dotC e.pa e.ps=q:=⟨_,rfl⟩
 rw [hDP] at rg hDl
 simp only [hDP] at heq
 obtain ⟨ri,hri⟩:∃q,e.right=q:=⟨_,rfl⟩
 obtain ⟨ch,hch⟩:∃q,e.char=q:=⟨_,rfl⟩
 rw [hri] at c13 HH
 rw [hch] at c14 HH
 have uD:=Tryz.underlying26;clear q13 q14 hri hch h0 hDP hr;cases r<;>cases ri
 all_goals
  go_enter Tryz.func116,Tryz.ntmps116;go_upto_region 1 with fail
  refine af (p:=fun y=>Code.wp _ _ _ _ y) (fun W=>Below w.heap.size w W∧W.cell? ⟨w.heap.size,13,none⟩=some (.bool _)∧W.cell? ⟨w.heap.size,14,none⟩=some (.int .u8 ch)∧W.rangeAt w.heap.size 11 DP) ⟨hB,c13,c14,rg⟩ ?_;clear hB c13 c14 rg;rintro W ⟨hB,c13,c14,rg⟩
  go_wp2_with (refine ae rfl 26 _ rfl w.heap.size 11 rfl DP rg uD rfl hDl ?_)
  go_ret;exact ⟨by rw [HH.out];simp,hB⟩
theorem ao {P:Program} {ops:Array Oper} {rest:List Oper} {o:Oper} {a:Act} {w:World} {Q:Exit→Act→World→Prop} {d:TypeDesc} (hw:Region.wanted o (yielded ops a.tmps)=true) (ty:TypeId) (x:Operand) (ho:o.op=.load ty x)
    (g off:Nat) (hx:a.eval x=.pointer (some ⟨g,off,none⟩)) (cs:List Value) (hg:w.rangeAt g off cs)
    (hu:P.underlying ty=some d) (hd:d.isRow=true) (hi:(P.info? ty).map (·.size)=some cs.length)
    (h:wpList P ops Q rest (a.put o.dst (.agg cs.toArray)) w):wpList P ops Q (o::rest) a w:=
 wpList_step fun K hK=>by
  rw [if_pos hw];exact wp_load_mid ty x ho g off hx cs _ hg hu hd hi (hK _ _ h)
theorem yu:(Tryz.prog.info? 23).map (·.size)=some 32:=by kernel_rfl
set_option maxHeartbeats 8000000
def dG (l:List Int):Nat→Bool
 |0=>true
 |n+1=>dG l n&&decide (l[n]?.getD 0≤1048576)
theorem gC (l:List Int) (k:Nat):∀{n:Nat},k<n→¬l[k]?.getD 0≤1048576→dG l n=false
 |0,h,_=>absurd h (Nat.not_lt_zero _)
 |n+1,h,hl=>by
  unfold dG
  by_cases e:k=n
  · subst e;simp [hl]
  · rw [gC l k (n:=n) (by omega) hl];rfl
def rightDotB (e:Ev):Bool:=decide (e.da<8)&&(!(e.ds==0)&&(decide (e.ds≤1048576)&&((e.past[e.da.toNat]?.getD 0==e.ds - 1)&&dG e.past 8)))
def rightParB (e:Ev):Bool:=(((e.pa==0)&&(e.ps==0))&&e.right)||hasB e.past e.pa e.ps
def xo (e:Ev):Bool:=
 if e.kind=1 then ((decide (1≤e.char)&&decide (e.char≤127))&&rightParB e)&&noMemB e
 else if e.kind=2 then ((hasB e.past e.pa e.ps&&!e.right)&&(e.char==0))&&noMemB e
 else if e.kind=3 then ((decide (e.who<8)&&decide (1≤e.role))&&decide (e.role≤3))&&noTextB e
 else if e.kind=4 then (decide (e.who<8)&&(e.role==0))&&noTextB e
 else false
def rightB (e:Ev):Bool:=rightDotB e&&xo e
theorem CellsAt.setRowO7 {w:World} {g g':Nat} {t:TypeId} {cs:List Value} (h:CellsAt w g t cs) (cs':Array Value) (hne:g≠g'):CellsAt (w.setRow g' cs') g t cs:=by
 unfold CellsAt at h ⊢
 simp only [World.setRow,Array.getElem?_modify];rw [if_neg (fun e=>hne e.symm)];exact h
theorem vN (e:Ev) (hp:e.past.length=8):(e.cells.drop 0).take 2=dotC e.da e.ds:=(f6 e hp).1
theorem mS (e:Ev) (hp:e.past.length=8) (j:Nat) (hj:j<8):e.cells[2+j]?=some (.int .u32 (e.past[j]?.getD 0)):=by
 have h:=nW e hp;have hj':j<e.past.length:=by omega
 have h2:((e.cells.drop 2).take 8)[j]?=(e.past.map (Value.int .u32))[j]?:=by rw [h]
 rw [List.getElem?_take_of_lt hj,List.getElem?_drop,List.getElem?_map,List.getElem?_eq_getElem hj'] at h2
 rw [h2,List.getElem?_eq_getElem hj'];rfl
theorem r9 (l:List Int) (hl:l.length=8) (j:Nat) (hj:j<8) (w:World):(Instr.index 29 (.agg (l.map (Value.int .u32)).toArray) (.int .i64 (j:Int))).run Tryz.prog w=.ok (.int .u32 (l[j]?.getD 0)) w:=by
 obtain ⟨a,b,c,d,e,f,g,h,rfl⟩:∃p0 p1 p2 p3 p4 p5 p6 p7,l=[p0,p1,p2,p3,p4,p5,p6,p7]:=by
  match l,hl with
  |[a,b,c,d,e,f,g,i],_=>exact ⟨a,b,c,d,e,f,g,i,rfl⟩
 obtain rfl|rfl|rfl|rfl|rfl|rfl|rfl|rfl:j=0∨j=1∨j=2∨j=3∨j=4∨j=5∨j=6∨j=7:=by omega
 · kernel_rfl
 · kernel_rfl
 · kernel_rfl
 · kernel_rfl
 · kernel_rfl
 · kernel_rfl
 · kernel_rfl
 · kernel_rfl
theorem lp:(Tryz.prog.info? 29).map (·.size)=some 8:=by kernel_rfl
theorem mJ (e:Ev) (w:World) (hp:e.past.length=8) (ha:0≤e.da) (hs:0≤e.ds) (hs2:e.ds<4294967296):
    Calls Tryz.prog 112 #[.agg e.cells.toArray] w fun x w'=>x=.returned (.bool (rightDotB e))∧Below w.heap.size w w':=by
 have h0:=CellsAt.new w 33 e.cells;have rg:=h0.range 0 2;rw [vN e hp] at rg
 have hN1:=CellsAt.new (w.alloc (.cells e.cells.toArray 33)) 26 [.int .u8 0,.int .u32 0];have hD3:=hN1.setRow [.int .u8 e.da,.int .u32 e.ds];have hE3:=(h0.alloc (.cells [.int .u8 0,.int .u32 0].toArray 26)).setRowO7 (g':=w.heap.size+1) #[.int .u8 e.da,.int .u32 e.ds] (by omega);have hB3:Below w.heap.size w (((w.alloc (.cells e.cells.toArray 33)).alloc (.cells [.int .u8 0,.int .u32 0].toArray 26)).setRow (w.heap.size+1) #[.int .u8 e.da,.int .u32 e.ds]):=below_setRow (((Below.refl _ _).alloc (Nat.le_refl _) _).alloc (by simp) _) (by omega) _;rw [World.size_alloc] at hN1 hD3
 have hD1:∀v∈([.int .u8 e.da,.int .u32 e.ds]:List Value),v.oneCell'=true:=by intro v hv;simp at hv;rcases hv with rfl|rfl<;>rfl
 have HH:ac (rightDotB e=(decide (e.da<8)&&(!(e.ds==0)&&(decide (e.ds≤1048576)&&((e.past[e.da.toNat]?.getD 0==e.ds - 1)&&dG e.past 8))))):=⟨rfl⟩
 have HPA:ac (∀j,j<8→e.cells[2+j]?=some (.int .u32 (e.past[j]?.getD 0))):=⟨fun j hj=>mS e hp j hj⟩
 have HIX:ac (∀j:Nat,j<8→∀wx,(Instr.index 29 (.agg (e.past.map (Value.int .u32)).toArray) (.int .i64 (j:Int))).run Tryz.prog wx=.ok (.int .u32 (e.past[j]?.getD 0)) wx):=⟨fun j hj wx=>r9 e.past hp j hj wx⟩
 have hPL:=nW e hp;have uD:=Tryz.underlying26;have uV:=Tryz.underlying29;have HPL:ac (e.past.length=8):=⟨hp⟩
 obtain ⟨EC,hEC⟩:∃q,e.cells=q:=⟨_,rfl⟩
 obtain ⟨dn,hDA⟩:=Int.eq_ofNat_of_zero_le ha;obtain ⟨DS,hDS⟩:∃q,e.ds=q:=⟨_,rfl⟩
 obtain ⟨PA,hPA⟩:∃q,e.past=q:=⟨_,rfl⟩
 rw [hEC] at rg hN1 hD3 hE3 hB3 HPA hPL
 rw [hDA] at rg hD3 hE3 hB3 hD1 HH ha
 rw [hDS] at rg hD3 hE3 hB3 hD1 HH hs hs2
 rw [hPA] at HH HPA hPL HPL HIX
 rw [hEC];have HPS:=ac.mk hPL;clear h0 hEC hDA hDS hPA hp hPL;rw [Int.toNat_natCast] at HH
 by_cases k0:(dn:Int)<8
 rotate_left
 · have k0':(dn:Int)≥8:=by omega
   have k0d:decide ((dn:Int)<8)=false:=by simp [k0]
   clear k0 ha hs hs2 HIX HPA HPS HPL;go_enter Tryz.func112,Tryz.ntmps112;go_upto_region 2 with (first
    |(refine ae rfl 26 _ rfl w.heap.size 0 rfl _ rg uD rfl sizeDot ?_)
    |(refine aw rfl 26 _ _ rfl _ rfl rfl hN1 sizeDot rfl hD1 ?_))
   refine af (p:=fun y=>Code.wp _ _ _ _ y) (fun W=>Below w.heap.size w W∧CellsAt W w.heap.size 33 EC∧CellsAt W (w.heap.size+1) 26 [.int .u8 (dn:Int),.int .u32 DS]) ⟨hB3,hE3,hD3⟩ ?_;clear hB3 hE3 hD3 hN1 rg hD1;rintro W ⟨hB,hE,hD⟩;have d0:W.cell? ⟨w.heap.size+1,0,none⟩=some (.int .u8 (dn:Int)):=hD.cell 0;have d1:W.cell? ⟨w.heap.size+1,1,none⟩=some (.int .u32 DS):=hD.cell 1;refine au (fun w'=>w'.cell? ⟨w.heap.size+1,0,none⟩=some (.int .u8 (dn:Int))∧w'.cell? ⟨w.heap.size+1,1,none⟩=some (.int .u32 DS)) (fun _=>True) 99 (by kernel_rfl) ?_;have hT:(fun w':World=>w'.cell? ⟨w.heap.size+1,0,none⟩=some (.int .u8 (dn:Int))∧w'.cell? ⟨w.heap.size+1,1,none⟩=some (.int .u32 DS)) W.drew:=⟨d0,d1⟩
   have hS:=trivial;refine ghA 0 _ hT hS ?_;simp only [zp];refine ghA 1 _ hT hS ?_;simp only [zp];refine ghA 2 (.bool true) hT hS ?_;simp only [zp];refine ghA 3 _ hT hS ?_;simp only [zp];refine gs 4 hT hS ?_;simp only [zp];refine gs 5 hT hS ?_;simp only [zp];refine gs 6 hT hS ?_;simp only [zp];refine ghA 7 (.bool true) hT hS ?_;simp only [zp];refine ghA 8 _ hT hS ?_;simp only [zp];refine gs 9 hT hS ?_;simp only [zp];refine gs 10 hT hS ?_;simp only [zp];refine gs 11 hT hS ?_;simp only [zp];refine ghA 12 (.bool true) hT hS ?_;simp only [zp];refine ghA 13 _ hT hS ?_;simp only [zp];refine gs 14 hT hS ?_;simp only [zp];refine gs 15 hT hS ?_;simp only [zp];refine gs 16 hT hS ?_;simp only [zp];refine gs 17 hT hS ?_;simp only [zp];refine gs 18 hT hS ?_;simp only [zp];refine gs 19 hT hS ?_;simp only [zp];refine gs 20 hT hS ?_;simp only [zp];refine gs 21 hT hS ?_;simp only [zp];refine gs 22 hT hS ?_;simp only [zp];refine ghA 23 (.bool true) hT hS ?_;simp only [zp];refine az (by kernel_rfl) ?_ _;clear hT hS;clear d0 d1;go_wp2;go_ret;exact ⟨by rw [HH.out];exact aA (by simp [*]),hB.drew⟩
 have k0':¬(dn:Int)≥8:=by omega
 have hd8:dn<8:=by omega
 by_cases k1:DS=0
 · have k1':(DS==0)=true:=by simp [k1]
   clear k1 hs hs2 HIX HPA HPS HPL;go_enter Tryz.func112,Tryz.ntmps112;go_upto_region 2 with (first
    |(refine ae rfl 26 _ rfl w.heap.size 0 rfl _ rg uD rfl sizeDot ?_)
    |(refine aw rfl 26 _ _ rfl _ rfl rfl hN1 sizeDot rfl hD1 ?_))
   refine af (p:=fun y=>Code.wp _ _ _ _ y) (fun W=>Below w.heap.size w W∧CellsAt W w.heap.size 33 EC∧CellsAt W (w.heap.size+1) 26 [.int .u8 (dn:Int),.int .u32 DS]) ⟨hB3,hE3,hD3⟩ ?_;clear hB3 hE3 hD3 hN1 rg hD1;rintro W ⟨hB,hE,hD⟩;have d0:W.cell? ⟨w.heap.size+1,0,none⟩=some (.int .u8 (dn:Int)):=hD.cell 0;have d1:W.cell? ⟨w.heap.size+1,1,none⟩=some (.int .u32 DS):=hD.cell 1;refine au (fun w'=>w'.cell? ⟨w.heap.size+1,0,none⟩=some (.int .u8 (dn:Int))∧w'.cell? ⟨w.heap.size+1,1,none⟩=some (.int .u32 DS)) (fun _=>True) 99 (by kernel_rfl) ?_;have hT:(fun w':World=>w'.cell? ⟨w.heap.size+1,0,none⟩=some (.int .u8 (dn:Int))∧w'.cell? ⟨w.heap.size+1,1,none⟩=some (.int .u32 DS)) W.drew:=⟨d0,d1⟩
   have hS:=trivial;refine ghA 0 _ hT hS ?_;simp only [zp];refine ghA 1 _ hT hS ?_;simp only [zp];refine ghA 2 (.bool false) hT hS ?_;simp only [zp];refine ghA 3 _ hT hS ?_;simp only [zp];refine ghA 4 _ hT hS ?_;simp only [zp];refine ghA 5 _ hT hS ?_;simp only [zp];refine ghA 6 (.bool true) hT hS ?_;simp only [zp];refine ghA 7 (.bool true) hT hS ?_;simp only [zp];refine ghA 8 _ hT hS ?_;simp only [zp];refine gs 9 hT hS ?_;simp only [zp];refine gs 10 hT hS ?_;simp only [zp];refine gs 11 hT hS ?_;simp only [zp];refine ghA 12 (.bool true) hT hS ?_;simp only [zp];refine ghA 13 _ hT hS ?_;simp only [zp];refine gs 14 hT hS ?_;simp only [zp];refine gs 15 hT hS ?_;simp only [zp];refine gs 16 hT hS ?_;simp only [zp];refine gs 17 hT hS ?_;simp only [zp];refine gs 18 hT hS ?_;simp only [zp];refine gs 19 hT hS ?_;simp only [zp];refine gs 20 hT hS ?_;simp only [zp];refine gs 21 hT hS ?_;simp only [zp];refine gs 22 hT hS ?_;simp only [zp];refine ghA 23 (.bool true) hT hS ?_;simp only [zp];refine az (by kernel_rfl) ?_ _;clear hT hS;clear d0 d1;go_wp2;go_ret;exact ⟨by rw [HH.out];exact aA (by simp [*]),hB.drew⟩
 have k1':(DS==0)=false:=by simpa using k1
 by_cases k2:DS≤1048576
 rotate_left
 · have k2':DS>1048576:=by omega
   have k2d:decide (DS≤1048576)=false:=by simp [k2]
   clear k1 HIX HPA HPS HPL;go_enter Tryz.func112,Tryz.ntmps112;go_upto_region 2 with (first
    |(refine ae rfl 26 _ rfl w.heap.size 0 rfl _ rg uD rfl sizeDot ?_)
    |(refine aw rfl 26 _ _ rfl _ rfl rfl hN1 sizeDot rfl hD1 ?_))
   refine af (p:=fun y=>Code.wp _ _ _ _ y) (fun W=>Below w.heap.size w W∧CellsAt W w.heap.size 33 EC∧CellsAt W (w.heap.size+1) 26 [.int .u8 (dn:Int),.int .u32 DS]) ⟨hB3,hE3,hD3⟩ ?_;clear hB3 hE3 hD3 hN1 rg hD1;rintro W ⟨hB,hE,hD⟩;have d0:W.cell? ⟨w.heap.size+1,0,none⟩=some (.int .u8 (dn:Int)):=hD.cell 0;have d1:W.cell? ⟨w.heap.size+1,1,none⟩=some (.int .u32 DS):=hD.cell 1;refine au (fun w'=>w'.cell? ⟨w.heap.size+1,0,none⟩=some (.int .u8 (dn:Int))∧w'.cell? ⟨w.heap.size+1,1,none⟩=some (.int .u32 DS)) (fun _=>True) 99 (by kernel_rfl) ?_;have hT:(fun w':World=>w'.cell? ⟨w.heap.size+1,0,none⟩=some (.int .u8 (dn:Int))∧w'.cell? ⟨w.heap.size+1,1,none⟩=some (.int .u32 DS)) W.drew:=⟨d0,d1⟩
   have hS:=trivial;refine ghA 0 _ hT hS ?_;simp only [zp];refine ghA 1 _ hT hS ?_;simp only [zp];refine ghA 2 (.bool false) hT hS ?_;simp only [zp];refine ghA 3 _ hT hS ?_;simp only [zp];refine ghA 4 _ hT hS ?_;simp only [zp];refine ghA 5 _ hT hS ?_;simp only [zp];refine ghA 6 (.bool false) hT hS ?_;simp only [zp];refine ghA 7 (.bool false) hT hS ?_;simp only [zp];refine ghA 8 _ hT hS ?_;simp only [zp];refine ghA 9 _ hT hS ?_;simp only [zp];refine ghA 10 _ hT hS ?_;simp only [zp];refine ghA 11 (.bool true) hT hS ?_;simp only [zp];refine ghA 12 (.bool true) hT hS ?_;simp only [zp];refine ghA 13 _ hT hS ?_;simp only [zp];refine gs 14 hT hS ?_;simp only [zp];refine gs 15 hT hS ?_;simp only [zp];refine gs 16 hT hS ?_;simp only [zp];refine gs 17 hT hS ?_;simp only [zp];refine gs 18 hT hS ?_;simp only [zp];refine gs 19 hT hS ?_;simp only [zp];refine gs 20 hT hS ?_;simp only [zp];refine gs 21 hT hS ?_;simp only [zp];refine gs 22 hT hS ?_;simp only [zp];refine ghA 23 (.bool true) hT hS ?_;simp only [zp];refine az (by kernel_rfl) ?_ _;clear hT hS;clear d0 d1;go_wp2;go_ret;exact ⟨by rw [HH.out];exact aA (by simp [*]),hB.drew⟩
 have k2':¬DS>1048576:=by omega
 have ws:IntKind.u32.wrap (DS - 1)=DS - 1:=by rw [IntKind.wrap_u32];omega
 have k0d:decide ((dn:Int)<8)=true:=by simp [k0]
 have k2d:decide (DS≤1048576)=true:=by simp [k2]
 have cp:=HPA.out dn hd8;rw [k0d,k1',k2d] at HH
 obtain ⟨PP,hPP⟩:∃q,PA[dn]?.getD 0=q:=⟨_,rfl⟩
 rw [hPP] at cp HH
 clear hPP k0d k2d
 by_cases k3:PP=DS - 1
 rotate_left
 · have k3':(PP==DS - 1)=false:=by simpa using k3
   rw [k3'] at HH
   clear k3;go_enter Tryz.func112,Tryz.ntmps112;go_upto_region 2 with (first
    |(refine ae rfl 26 _ rfl w.heap.size 0 rfl _ rg uD rfl sizeDot ?_)
    |(refine aw rfl 26 _ _ rfl _ rfl rfl hN1 sizeDot rfl hD1 ?_))
   refine af (p:=fun y=>Code.wp _ _ _ _ y) (fun W=>Below w.heap.size w W∧CellsAt W w.heap.size 33 EC∧CellsAt W (w.heap.size+1) 26 [.int .u8 (dn:Int),.int .u32 DS]) ⟨hB3,hE3,hD3⟩ ?_;clear hB3 hE3 hD3 hN1 rg hD1;rintro W ⟨hB,hE,hD⟩;have d0:W.cell? ⟨w.heap.size+1,0,none⟩=some (.int .u8 (dn:Int)):=hD.cell 0;have d1:W.cell? ⟨w.heap.size+1,1,none⟩=some (.int .u32 DS):=hD.cell 1;have cE:=hE.cell (2+dn);rw [cp] at cE
   refine au (fun w'=>w'.cell? ⟨w.heap.size+1,0,none⟩=some (.int .u8 (dn:Int))∧w'.cell? ⟨w.heap.size+1,1,none⟩=some (.int .u32 DS)∧w'.cell? ⟨w.heap.size,2+dn,none⟩=some (.int .u32 PP)) (fun _=>True) 99 (by kernel_rfl) ?_;have hT:(fun w':World=>w'.cell? ⟨w.heap.size+1,0,none⟩=some (.int .u8 (dn:Int))∧w'.cell? ⟨w.heap.size+1,1,none⟩=some (.int .u32 DS)∧w'.cell? ⟨w.heap.size,2+dn,none⟩=some (.int .u32 PP)) W.drew:=⟨d0,d1,cE⟩
   have hS:=trivial;refine ghA 0 _ hT hS ?_;simp only [zp];refine ghA 1 _ hT hS ?_;simp only [zp];refine ghA 2 (.bool false) hT hS ?_;simp only [zp];refine ghA 3 _ hT hS ?_;simp only [zp];refine ghA 4 _ hT hS ?_;simp only [zp];refine ghA 5 _ hT hS ?_;simp only [zp];refine ghA 6 (.bool false) hT hS ?_;simp only [zp];refine ghA 7 (.bool false) hT hS ?_;simp only [zp];refine ghA 8 _ hT hS ?_;simp only [zp];refine ghA 9 _ hT hS ?_;simp only [zp];refine ghA 10 _ hT hS ?_;simp only [zp];refine ghA 11 (.bool false) hT hS ?_;simp only [zp];refine ghA 12 (.bool false) hT hS ?_;simp only [zp];refine ghA 13 _ hT hS ?_;simp only [zp];refine ghA 14 _ hT hS ?_;simp only [zp];refine ghA 15 _ hT hS ?_;simp only [zp];refine ghA 16 _ hT hS ?_;simp only [zp];refine ghA 17 _ hT hS ?_;simp only [zp];refine ghA 18 _ hT hS ?_;simp only [zp];refine ghA 19 _ hT hS ?_;simp only [zp];refine ghA 20 _ hT hS ?_;simp only [zp];refine ghA 21 _ hT hS ?_;simp only [zp];refine gh 22 (.bool true) hT hS ?_ ?_
   · intro wx hSw;go_split_ands;go_simp;simpa using k3'
   simp only [zp];refine ghA 23 (.bool true) hT hS ?_;simp only [zp];refine az (by kernel_rfl) ?_ _;clear hT hS;clear cE;clear d0 d1;go_wp2;go_ret;exact ⟨by rw [HH.out];exact aA (by simp [*]),hB.drew⟩
 have k3':(PP==DS - 1)=true:=by simpa using k3
 rw [k3'] at HH
 clear k3;go_enter Tryz.func112,Tryz.ntmps112;go_upto_region 2 with (first
  |(refine ae rfl 26 _ rfl w.heap.size 0 rfl _ rg uD rfl sizeDot ?_)
  |(refine aw rfl 26 _ _ rfl _ rfl rfl hN1 sizeDot rfl hD1 ?_))
 refine af (p:=fun y=>Code.wp _ _ _ _ y) (fun W=>Below w.heap.size w W∧CellsAt W w.heap.size 33 EC∧CellsAt W (w.heap.size+1) 26 [.int .u8 (dn:Int),.int .u32 DS]) ⟨hB3,hE3,hD3⟩ ?_;clear hB3 hE3 hD3 hN1 rg hD1;rintro W ⟨hB,hE,hD⟩;have d0:W.cell? ⟨w.heap.size+1,0,none⟩=some (.int .u8 (dn:Int)):=hD.cell 0;have d1:W.cell? ⟨w.heap.size+1,1,none⟩=some (.int .u32 DS):=hD.cell 1;have cE:=hE.cell (2+dn);rw [cp] at cE
 refine au (fun w'=>w'.cell? ⟨w.heap.size+1,0,none⟩=some (.int .u8 (dn:Int))∧w'.cell? ⟨w.heap.size+1,1,none⟩=some (.int .u32 DS)∧w'.cell? ⟨w.heap.size,2+dn,none⟩=some (.int .u32 PP)) (fun _=>True) 99 (by kernel_rfl) ?_;have hT:(fun w':World=>w'.cell? ⟨w.heap.size+1,0,none⟩=some (.int .u8 (dn:Int))∧w'.cell? ⟨w.heap.size+1,1,none⟩=some (.int .u32 DS)∧w'.cell? ⟨w.heap.size,2+dn,none⟩=some (.int .u32 PP)) W.drew:=⟨d0,d1,cE⟩
 have hS:=trivial;refine ghA 0 _ hT hS ?_;simp only [zp];refine ghA 1 _ hT hS ?_;simp only [zp];refine ghA 2 (.bool false) hT hS ?_;simp only [zp];refine ghA 3 _ hT hS ?_;simp only [zp];refine ghA 4 _ hT hS ?_;simp only [zp];refine ghA 5 _ hT hS ?_;simp only [zp];refine ghA 6 (.bool false) hT hS ?_;simp only [zp];refine ghA 7 (.bool false) hT hS ?_;simp only [zp];refine ghA 8 _ hT hS ?_;simp only [zp];refine ghA 9 _ hT hS ?_;simp only [zp];refine ghA 10 _ hT hS ?_;simp only [zp];refine ghA 11 (.bool false) hT hS ?_;simp only [zp];refine ghA 12 (.bool false) hT hS ?_;simp only [zp];refine ghA 13 _ hT hS ?_;simp only [zp];refine ghA 14 _ hT hS ?_;simp only [zp];refine ghA 15 _ hT hS ?_;simp only [zp];refine ghA 16 _ hT hS ?_;simp only [zp];refine ghA 17 _ hT hS ?_;simp only [zp];refine ghA 18 _ hT hS ?_;simp only [zp];refine ghA 19 _ hT hS ?_;simp only [zp];refine ghA 20 _ hT hS ?_;simp only [zp];refine ghA 21 _ hT hS ?_;simp only [zp];refine gh 22 (.bool false) hT hS ?_ ?_
 · intro wx hSw;go_split_ands;go_simp;simpa using k3'
 simp only [zp];refine ghA 23 (.bool false) hT hS ?_;simp only [zp];refine az (by kernel_rfl) ?_ _;clear hT hS;have rP:=hE.range 2 8;rw [HPS.out] at rP
 have iV:(Tryz.prog.info? 29).map (·.size)=some (PA.map (Value.int .u32)).length:=by rw [List.length_map,HPL.out];exact lp
 have HRP:ac (W.drew.rangeAt w.heap.size 2 (PA.map (Value.int .u32))):=⟨rP⟩
 have rP2:=HRP.out;obtain ⟨PV,hPV⟩:∃q,PA.map (Value.int .u32)=q:=⟨_,rfl⟩
 rw [hPV] at rP2 iV HIX
 clear d0 d1 cE rP HRP hPV k0 k0' ha hs hs2 k1 k1' k2 k2' k3' ws cp HPA HPS hE hD;have HBD:=ac.mk hB.drew;clear hB;refine af (p:=fun y=>Exit.then _ _ _ _ y) (fun W=>Below w.heap.size w W∧W.rangeAt w.heap.size 2 PV) ⟨HBD.out,rP2⟩ ?_;clear rP2 HBD;clear W;rintro W ⟨hB,rP⟩
 go_wp2_with (refine ae rfl 29 _ rfl w.heap.size 2 rfl PV rP uV rfl iV ?_)
 go_loopw [5,34] (fun _ q wr=>∃j:Nat,j≤8∧q=.int .i64 j∧Below w.heap.size w wr∧dG PA j=true) (fun _ q _=>8 - (intOf q).toNat)
 case atStart=>exact ⟨0,Nat.zero_le _,rfl,hB,rfl⟩
 case round=>
  clear hB rP;obtain ⟨j,hj,rfl,hB,hall⟩:=hrel;have HALL:=ac.mk hall;clear hall
  by_cases hj8:j<8
  · have hji:(j:Int)<8:=by omega
    have hj0:(0:Int)≤(j:Int):=by omega
    have hix:=HIX.out j hj8;have hw1:IntKind.i64.wrap ((j:Int)+1)=(j:Int)+1:=by rw [IntKind.wrap_i64];omega
    have HPF:ac (¬PA[j]?.getD 0≤1048576→dG PA 8=false):=⟨fun h=>gC PA j hj8 h⟩
    have HPT:ac (PA[j]?.getD 0≤1048576→dG PA (j+1)=true):=⟨fun h=>by unfold dG;rw [HALL.out];simp [h]⟩
    generalize PA[j]?.getD 0=PJ at hix HPF HPT
    by_cases hgt:PJ>1048576
    · go_wp2
      go_ret;exact ⟨by rw [HH.out,HPF.out (by omega)];rfl,hB⟩
    · go_wp2
      go_roundw
      case rel=>exact ⟨j+1,hj8,by push_cast;rfl,hB,HPT.out (by omega)⟩
      case measure=>simp [intOf];omega
  · obtain rfl:j=8:=by omega
    have hji:¬((8:Nat):Int)<8:=by omega
    go_wp2;go_ret;exact ⟨by rw [HH.out,HALL.out];rfl,hB⟩
theorem mI (e:Ev) (w:World) (hp:e.past.length=8) (ha:0≤e.pa) (hs:0≤e.ps):
    Calls Tryz.prog 113 #[.agg e.cells.toArray] w fun x w'=>x=.returned (.bool (rightParB e))∧Below w.heap.size w w':=by
 have h0:=CellsAt.new w 33 e.cells;have hB:Below w.heap.size w (w.alloc (.cells e.cells.toArray 33)):=(Below.refl _ _).alloc (Nat.le_refl _) _;obtain ⟨q13,_,_,_,_⟩:=iH e hp;have c13:=(h0.cell 13).trans q13;have rg:=h0.range 11 2;rw [nF e hp] at rg
 have rp:=h0.range 2 8;rw [nW e hp] at rp
 have heq:∀wx,(binOp BinOp.eql 26 (.agg (dotC e.pa e.ps).toArray) (.agg #[.int .u8 0,.int .u32 0])).run Tryz.prog wx=.ok (.bool ((e.pa==0)&&(e.ps==0))) wx:=fun wx=>dot_eql e.pa e.ps 0 0 wx
 have hch:∀W,Calls Tryz.prog 115 #[.agg (e.past.map (Value.int .u32)).toArray,.agg (dotC e.pa e.ps).toArray] W fun x w'=>x=.returned (.bool (hasB e.past e.pa e.ps))∧Below W.heap.size W w':=fun W=>o0 e.past e.pa e.ps W hp ha hs
 have HCH:=ac.mk hch;have HH:ac (rightParB e=((((e.pa==0)&&(e.ps==0))&&e.right)||hasB e.past e.pa e.ps)):=⟨rfl⟩
 have iV:(Tryz.prog.info? 29).map (·.size)=some (e.past.map (Value.int .u32)).length:=by rw [List.length_map,hp];exact lp
 have hDl:(Tryz.prog.info? 26).map (·.size)=some (dotC e.pa e.ps).length:=sizeDot;obtain ⟨r,hr⟩:∃q,((e.pa==0)&&(e.ps==0))=q:=⟨_,rfl⟩
 simp only [hr] at heq
 rw [hr] at HH
 obtain ⟨hb,hhb⟩:∃q,hasB e.past e.pa e.ps=q:=⟨_,rfl⟩
 rw [hhb] at HCH HH
 obtain ⟨DP,hDP⟩:∃q,dotC e.pa e.ps=q:=⟨_,rfl⟩
 rw [hDP] at rg hDl HCH
 simp only [hDP] at heq
 obtain ⟨PV,hPV⟩:∃q,e.past.map (Value.int .u32)=q:=⟨_,rfl⟩
 rw [hPV] at rp iV HCH
 obtain ⟨ri,hri⟩:∃q,e.right=q:=⟨_,rfl⟩
 rw [hri] at c13 HH
 have uD:=Tryz.underlying26;have uV:=Tryz.underlying29;clear q13 hri h0 hDP hr hPV hhb hch ha hs;cases r<;>cases ri
 all_goals
  go_enter Tryz.func113,Tryz.ntmps113;go_upto_region 1 with fail
  refine af (p:=fun y=>Code.wp _ _ _ _ y) (fun W=>Below w.heap.size w W∧W.cell? ⟨w.heap.size,13,none⟩=some (.bool _)∧W.rangeAt w.heap.size 11 DP∧W.rangeAt w.heap.size 2 PV) ⟨hB,c13,rg,rp⟩ ?_;clear hB c13 rg rp;rintro W ⟨hB,c13,rg,rp⟩;have hc:=HCH.out W;have HB:ac (∀w1,Below W.heap.size W w1→Below w.heap.size w w1):=⟨fun w1 h=>hB.trans (h.mono hB.size)⟩
  go_wp2_with (first
   |(refine ae rfl 26 _ rfl w.heap.size 11 rfl DP rg uD rfl hDl ?_)
   |(refine ao (by kernel_rfl) 29 _ rfl w.heap.size 2 rfl PV rp uV rfl iV ?_)
   |(refine ao (by kernel_rfl) 26 _ rfl w.heap.size 11 rfl DP rg uD rfl hDl ?_)
   |(go_at_call 115;refine hc.mono ?_;rintro e w1 ⟨rfl,hb1⟩;replace hB:=HB.out w1 hb1))
  go_ret;exact ⟨by rw [HH.out];cases hb<;>rfl,hB⟩
end Go.Proofs.YtbdhfbglagdiaaaGreatDoor
