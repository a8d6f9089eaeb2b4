/- Cv5 Fm1 Bt Fm2 -/
import Derived.Test.YtbdhfbglagdiaaaGreatDoorJ27
import Derived.Test.YtbdhfbglagdiaaaGreatDoorJ02
import Derived.Test.YtbdhfbglagdiaaaGreatDoorJ26
import Derived.Test.YtbdhfbglagdiaaaGreatDoorJ03
import Derived.Test.YtbdhfbglagdiaaaGreatDoorJ22
import Derived.Test.YtbdhfbglagdiaaaGreatDoorJ23
import Derived.Test.YtbdhfbglagdiaaaGreatDoorJ07
namespace Go.Proofs.YtbdhfbglagdiaaaGreatDoor
open Go.RowKit
set_option maxRecDepth 20000
set_option maxHeartbeats 16000000
set_option linter.unusedSimpArgs false
theorem rK (e:Ev) (w:World) (hp:e.past.length=8) (ha:0≤e.da) (hs:0≤e.ds) (hs2:e.ds<4294967296) (hpa:0≤e.pa) (hps:0≤e.ps):
    Calls Tryz.prog 68 #[.agg e.cells.toArray] w fun x w'=>x=.returned (.bool (rightB e))∧Below w.heap.size w w':=by
 have h0:=CellsAt.new w 33 e.cells;have hB0:Below w.heap.size w (w.alloc (.cells e.cells.toArray 33)):=(Below.refl _ _).alloc (Nat.le_refl _) _;have HRD:ac (∀W,Calls Tryz.prog 112 #[.agg e.cells.toArray] W fun x w'=>x=.returned (.bool (rightDotB e))∧Below W.heap.size W w'):=⟨fun W=>mJ e W hp ha hs hs2⟩
 have HRP:ac (∀W,Calls Tryz.prog 113 #[.agg e.cells.toArray] W fun x w'=>x=.returned (.bool (rightParB e))∧Below W.heap.size W w'):=⟨fun W=>mI e W hp hpa hps⟩
 have HNM:ac (∀W,Calls Tryz.prog 114 #[.agg e.cells.toArray] W fun x w'=>x=.returned (.bool (noMemB e))∧Below W.heap.size W w'):=⟨fun W=>qm e W hp⟩
 have HNT:ac (∀W,Calls Tryz.prog 116 #[.agg e.cells.toArray] W fun x w'=>x=.returned (.bool (noTextB e))∧Below W.heap.size W w'):=⟨fun W=>qh e W hp⟩
 have HCH:ac (∀W,Calls Tryz.prog 115 #[.agg (e.past.map (Value.int .u32)).toArray,.agg (dotC e.pa e.ps).toArray] W fun x w'=>x=.returned (.bool (hasB e.past e.pa e.ps))∧Below W.heap.size W w'):=⟨fun W=>o0 e.past e.pa e.ps W hp hpa hps⟩
 have HH:ac (rightB e=(rightDotB e&&(if e.kind=1 then ((decide (1≤e.char)&&decide (e.char≤127))&&rightParB e)&&noMemB e else if e.kind=2 then ((hasB e.past e.pa e.ps&&!e.right)&&(e.char==0))&&noMemB e else if e.kind=3 then ((decide (e.who<8)&&decide (1≤e.role))&&decide (e.role≤3))&&noTextB e else if e.kind=4 then (decide (e.who<8)&&(e.role==0))&&noTextB e else false))):=⟨rfl⟩
 have HF:ac (∀W,CellsAt W w.heap.size 33 e.cells→W.cell? ⟨w.heap.size,10,none⟩=some (.int .u8 e.kind)∧W.cell? ⟨w.heap.size,13,none⟩=some (.bool e.right)∧W.cell? ⟨w.heap.size,14,none⟩=some (.int .u8 e.char)∧W.cell? ⟨w.heap.size,15,none⟩=some (.int .u8 e.who)∧W.cell? ⟨w.heap.size,16,none⟩=some (.int .u8 e.role)∧W.rangeAt w.heap.size 11 (dotC e.pa e.ps)∧W.rangeAt w.heap.size 2 (e.past.map (Value.int .u32))∧W.rangeAt w.heap.size 0 e.cells):=⟨fun W h=>by
  obtain ⟨_,q2,q10,q11,q13,q14,q15,q16⟩:=f6 e hp;refine ⟨(h.cell 10).trans q10,(h.cell 13).trans q13,(h.cell 14).trans q14,(h.cell 15).trans q15,(h.cell 16).trans q16,?_,?_,h.wholeM⟩
  · have:=h.range 11 2;rw [q11] at this;exact this
  · have:=h.range 2 8;rw [q2] at this;exact this⟩
 have iE:(Tryz.prog.info? 33).map (·.size)=some e.cells.length:=by rw [(iH e hp).2.2.2.2];kernel_rfl
 have iV:(Tryz.prog.info? 29).map (·.size)=some (e.past.map (Value.int .u32)).length:=by rw [List.length_map,hp];exact lp
 have iD:(Tryz.prog.info? 26).map (·.size)=some (dotC e.pa e.ps).length:=sizeDot;have uD:=Tryz.underlying26;have uV:=Tryz.underlying29;have uE:=Tryz.underlying33;clear hp ha hs hs2 hpa hps;generalize rightB e=RB at HH ⊢
 generalize rightDotB e=rd at HRD HH
 generalize rightParB e=rp at HRP HH
 generalize noMemB e=nm at HNM HH
 generalize noTextB e=nt at HNT HH
 generalize hasB e.past e.pa e.ps=hb at HCH HH
 generalize dotC e.pa e.ps=DP at HCH HF iD
 generalize e.past.map (Value.int .u32)=PV at HCH HF iV
 generalize e.cells=EC at h0 hB0 HRD HRP HNM HNT HF iE ⊢
 generalize e.kind=KD at HF HH
 generalize e.right=ri at HF HH
 generalize e.char=CH at HF HH
 generalize e.who=WO at HF HH
 generalize e.role=RO at HF HH
 have r0:=h0.wholeM;have hrd:=HRD.out (w.alloc (.cells EC.toArray 33));clear HRD;have HB:ac (∀W w1,Below w.heap.size w W→Below W.heap.size W w1→Below w.heap.size w w1):=⟨fun W w1 h h2=>h.trans (h2.mono h.size)⟩
 have H1:ac (∀w1,Below (w.alloc (.cells EC.toArray 33)).heap.size (w.alloc (.cells EC.toArray 33)) w1→Below w.heap.size w w1∧CellsAt w1 w.heap.size 33 EC):=⟨fun w1 h=>⟨hB0.trans (h.mono hB0.size),h0.farM h⟩⟩
 clear h0 hB0;cases rd
 · go_enter Tryz.func68,Tryz.ntmps68
   go_wp2_with (first
    |(refine ae rfl 33 _ rfl w.heap.size 0 rfl EC r0 uE rfl iE ?_)
    |(go_at_call 112;refine hrd.mono ?_;rintro e w1 ⟨rfl,hb1⟩))
   go_ret;exact ⟨by rw [HH.out];rfl,(H1.out w1 hb1).1⟩
 go_enter Tryz.func68,Tryz.ntmps68;go_upto_region 3 with (first
  |(refine ae rfl 33 _ rfl w.heap.size 0 rfl EC r0 uE rfl iE ?_)
  |(go_at_call 112;refine hrd.mono ?_;rintro e w1 ⟨rfl,hb1⟩))
 refine af (p:=fun y=>Code.wp _ _ _ _ y) (fun W=>Below w.heap.size w W∧CellsAt W w.heap.size 33 EC) (H1.out w1 hb1) ?_;clear hb1 hrd r0 H1;clear w1;rintro W ⟨hB,hE⟩;obtain ⟨c10,c13,c14,c15,c16,rD,rV,rE⟩:=HF.out W hE;have hh:=HCH.out W
 by_cases k1:KD=1
 · subst k1
   by_cases k2:CH≥1
   rotate_left
   · clear hh
     have HR:ac (RB=false):=⟨by rw [HH.out];have k2':¬1≤CH:=(by omega);simp [k2']⟩
     go_wp2;go_ret;exact ⟨aA HR.out.symm,hB⟩
   by_cases k3:CH≤127
   rotate_left
   · clear hh
     have HR:ac (RB=false):=⟨by rw [HH.out];simp [k3]⟩
     go_wp2;go_ret;exact ⟨aA HR.out.symm,hB⟩
   have hrp:=HRP.out W;have HR:ac (RB=(rp&&nm)):=⟨by rw [HH.out];have k2':1≤CH:=(by omega);simp [k2',k3]⟩
   clear hh;cases rp
   · go_wp2_with (first
      |(refine ao (by kernel_rfl) 33 _ rfl w.heap.size 0 rfl EC rE uE rfl iE ?_)
      |(go_at_call 113;refine hrp.mono ?_;rintro e w1 ⟨rfl,hb1⟩;replace hB:=HB.out W w1 hB hb1;clear hrp rE))
     go_ret;exact ⟨aA HR.out.symm,hB⟩
   · go_wp2_with (first
      |(refine ao (by kernel_rfl) 33 _ rfl w.heap.size 0 rfl EC rE1 uE rfl iE ?_)
      |(refine ao (by kernel_rfl) 33 _ rfl w.heap.size 0 rfl EC rE uE rfl iE ?_)
      |(go_at_call 113;refine hrp.mono ?_;rintro e w1 ⟨rfl,hb1⟩;have rE1:=(hE.farM hb1).wholeM;have hn:=HNM.out w1;replace hB:=HB.out W w1 hB hb1;clear hrp)
      |(go_at_call 114;refine hn.mono ?_;rintro e w2 ⟨rfl,hb2⟩;replace hB:=HB.out _ w2 hB hb2))
     go_ret;exact ⟨aA HR.out.symm,hB⟩
 have k1':(KD==1)=false:=by simpa using k1
 by_cases k2:KD=2
 · subst k2
   cases hb
   · have HR:ac (RB=false):=⟨by rw [HH.out];simp⟩
     go_wp2_with (first
      |(refine ae rfl 29 _ rfl w.heap.size 2 rfl PV rV uV rfl iV ?_)
      |(refine ae rfl 26 _ rfl w.heap.size 11 rfl DP rD uD rfl iD ?_)
      |(go_at_call 115;refine hh.mono ?_;rintro e w1 ⟨rfl,hb1⟩;obtain ⟨c10,c13,c14,c15,c16,rD1,rV1,rE1⟩:=HF.out w1 (hE.farM hb1);replace hB:=HB.out W w1 hB hb1;clear hh))
     go_ret;exact ⟨aA HR.out.symm,hB⟩
   cases ri;rotate_left
   · have HR:ac (RB=false):=⟨by rw [HH.out];simp⟩
     go_wp2_with (first
      |(refine ae rfl 29 _ rfl w.heap.size 2 rfl PV rV uV rfl iV ?_)
      |(refine ae rfl 26 _ rfl w.heap.size 11 rfl DP rD uD rfl iD ?_)
      |(go_at_call 115;refine hh.mono ?_;rintro e w1 ⟨rfl,hb1⟩;obtain ⟨c10,c13,c14,c15,c16,rD1,rV1,rE1⟩:=HF.out w1 (hE.farM hb1);replace hB:=HB.out W w1 hB hb1;clear hh))
     go_ret;exact ⟨aA HR.out.symm,hB⟩
   by_cases k3:CH=0
   · have k3':(CH==0)=true:=by simp [k3]
     clear k3;have HR:ac (RB=nm):=⟨by rw [HH.out,k3'];simp⟩
     go_wp2_with (first
      |(refine ae rfl 29 _ rfl w.heap.size 2 rfl PV rV uV rfl iV ?_)
      |(refine ae rfl 26 _ rfl w.heap.size 11 rfl DP rD uD rfl iD ?_)
      |(refine ao (by kernel_rfl) 33 _ rfl w.heap.size 0 rfl EC rE1 uE rfl iE ?_)
      |(go_at_call 115;refine hh.mono ?_;rintro e w1 ⟨rfl,hb1⟩;obtain ⟨c10,c13,c14,c15,c16,rD1,rV1,rE1⟩:=HF.out w1 (hE.farM hb1);have hn:=HNM.out w1;replace hB:=HB.out W w1 hB hb1;clear hh)
      |(go_at_call 114;refine hn.mono ?_;rintro e w2 ⟨rfl,hb2⟩;replace hB:=HB.out _ w2 hB hb2))
     go_ret;exact ⟨aA HR.out.symm,hB⟩
   · have k3':(CH==0)=false:=by simpa using k3
     clear k3;have HR:ac (RB=false):=⟨by rw [HH.out,k3'];simp⟩
     go_wp2_with (first
      |(refine ae rfl 29 _ rfl w.heap.size 2 rfl PV rV uV rfl iV ?_)
      |(refine ae rfl 26 _ rfl w.heap.size 11 rfl DP rD uD rfl iD ?_)
      |(go_at_call 115;refine hh.mono ?_;rintro e w1 ⟨rfl,hb1⟩;obtain ⟨c10,c13,c14,c15,c16,rD1,rV1,rE1⟩:=HF.out w1 (hE.farM hb1);have hn:=HNM.out w1;replace hB:=HB.out W w1 hB hb1;clear hh))
     go_ret;exact ⟨aA HR.out.symm,hB⟩
 have k2':(KD==2)=false:=by simpa using k2
 clear hh;have hnt:=HNT.out W
 by_cases k3:KD=3
 · subst k3
   by_cases k4:WO<8
   rotate_left
   · have HR:ac (RB=false):=⟨by rw [HH.out];simp [k4]⟩
     go_wp2;go_ret;exact ⟨aA HR.out.symm,hB⟩
   by_cases k5:RO≥1
   rotate_left
   · have HR:ac (RB=false):=⟨by rw [HH.out];have k5':¬1≤RO:=(by omega);simp [k5']⟩
     go_wp2;go_ret;exact ⟨aA HR.out.symm,hB⟩
   by_cases k6:RO≤3
   rotate_left
   · have HR:ac (RB=false):=⟨by rw [HH.out];simp [k6]⟩
     go_wp2;go_ret;exact ⟨aA HR.out.symm,hB⟩
   have HR:ac (RB=nt):=⟨by rw [HH.out];have k5':1≤RO:=(by omega);simp [k4,k5',k6]⟩
   go_wp2_with (first
    |(refine ao (by kernel_rfl) 33 _ rfl w.heap.size 0 rfl EC rE uE rfl iE ?_)
    |(go_at_call 116;refine hnt.mono ?_;rintro e w1 ⟨rfl,hb1⟩;replace hB:=HB.out W w1 hB hb1;clear hnt))
   go_ret;exact ⟨aA HR.out.symm,hB⟩
 have k3':(KD==3)=false:=by simpa using k3
 by_cases k4:KD=4
 · subst k4
   by_cases k5:WO<8
   rotate_left
   · have HR:ac (RB=false):=⟨by rw [HH.out];simp [k5]⟩
     go_wp2;go_ret;exact ⟨aA HR.out.symm,hB⟩
   by_cases k6:RO=0
   rotate_left
   · have k6':(RO==0)=false:=by simpa using k6
     clear k6;have HR:ac (RB=false):=⟨by rw [HH.out,k6'];simp⟩
     go_wp2;go_ret;exact ⟨aA HR.out.symm,hB⟩
   have k6':(RO==0)=true:=by simp [k6]
   clear k6;have HR:ac (RB=nt):=⟨by rw [HH.out,k6'];simp [k5]⟩
   go_wp2_with (first
    |(refine ao (by kernel_rfl) 33 _ rfl w.heap.size 0 rfl EC rE uE rfl iE ?_)
    |(go_at_call 116;refine hnt.mono ?_;rintro e w1 ⟨rfl,hb1⟩;replace hB:=HB.out W w1 hB hb1;clear hnt))
   go_ret;exact ⟨aA HR.out.symm,hB⟩
 have k4':(KD==4)=false:=by simpa using k4
 have HKF:ac (RB=false):=⟨by rw [HH.out,if_neg k1,if_neg k2,if_neg k3,if_neg k4];rfl⟩
 clear k1 k2 k3 k4;go_wp2;go_ret;exact ⟨aA HKF.out.symm,hB⟩
set_option maxHeartbeats 2000000
def eN (why:Int):PanicEntry:={v:=.iface 109 (.agg #[.int .i64 why]),recovered:=false}
theorem jt (n:Int) (w:World):Calls Tryz.prog 23 #[.bool true,.int .i64 n] w fun e w'=>(∃r,e=.returned r)∧w=w':=by
 go_enter Tryz.func23,Tryz.ntmps23;go_wp2
 go_end0
 exact ⟨⟨_,rfl⟩,rfl⟩
theorem rN (n:Int) (wx:World):(Instr.build 109 #[(0,.int .i64 n)]).run Tryz.prog wx=.ok (.agg #[.int .i64 n]) wx:=run_build wx _ _ _ (by kernel_rfl)
theorem iI (n:Int) (w:World):Calls Tryz.prog 23 #[.bool false,.int .i64 n] w fun e w'=>e=.panicked [eN n]∧w=w':=by
 go_enter Tryz.func23,Tryz.ntmps23
 go_wp2_with (refine aG rfl 109 _ rfl #[(0,.int .i64 n)] (by first|rfl|kernel_rfl) _ (rN n _) ?_)
 exact ak ⟨rfl,rfl⟩
theorem jQ (w:World):Calls Tryz.prog 48 #[.int .i64 0] w fun e w'=>(∃r,e=.returned r)∧w=w':=by
 have hn:=jt 0 w;go_enter Tryz.func48,Tryz.ntmps48
 go_wp2_with (go_at_call 23;refine hn.mono ?_;rintro e w1 ⟨⟨r,rfl⟩,rfl⟩)
 go_end0
 exact ⟨⟨_,rfl⟩,rfl⟩
theorem iW (n:Int) (hn0:n≠0) (w:World):Calls Tryz.prog 48 #[.int .i64 n] w fun e w'=>e=.panicked [eN n]∧w=w':=by
 have hn:=iI n w;have hne:(n==0)=false:=by simpa using hn0
 clear hn0;go_enter Tryz.func48,Tryz.ntmps48
 go_wp2_with (go_at_call 23;refine hn.mono ?_;rintro e w1 ⟨rfl,rfl⟩)
 exact ak ⟨rfl,rfl⟩
theorem lk (v:Value) (w:World):Calls Tryz.prog 30 #[v,.int .i64 0] w fun e w'=>e=.returned v∧w=w':=by
 have hn:=jQ w;go_enter Tryz.func30,Tryz.ntmps30
 go_wp2_with (go_at_call 48;refine hn.mono ?_;rintro e w1 ⟨⟨r,rfl⟩,rfl⟩)
 go_ret;exact ⟨rfl,rfl⟩
theorem lM (v:Value) (n:Int) (hn0:n≠0) (w:World):Calls Tryz.prog 30 #[v,.int .i64 n] w fun e w'=>e=.panicked [eN n]∧w=w':=by
 have hn:=iW n hn0 w;clear hn0;go_enter Tryz.func30,Tryz.ntmps30
 go_wp2_with (go_at_call 48;refine hn.mono ?_;rintro e w1 ⟨rfl,rfl⟩)
 exact ak ⟨rfl,rfl⟩
theorem sJ (k:List Int) (hk:k.length=32) (w:World):Calls Tryz.prog 28 #[.agg (row .u8 k),.int .i64 0] w fun e w'=>e=.returned (.agg (row .u8 k))∧Below w.heap.size w w':=by
 obtain ⟨Z,hZl,hZ⟩:∃Z:List Int,Z.length=32∧Z=List.replicate 32 0:=⟨_,rfl,rfl⟩
 have hzv:∀wx,(zeroValue 23).run Tryz.prog wx=.ok (.agg (row .u8 Z)) wx:=fun wx=>by rw [hZ];kernel_rfl
 have hk0:=(aa.new w .u8 23 k).alloc (.cells (row .u8 Z) 23);have hz0:=aa.new (w.alloc (.cells (row .u8 k) 23)) .u8 23 Z;rw [World.size_alloc] at hz0
 have hB0:Below w.heap.size w ((w.alloc (.cells (row .u8 k) 23)).alloc (.cells (row .u8 Z) 23)):=((Below.refl _ _).alloc (Nat.le_refl _) _).alloc (by simp) _;have HP:=ac.mk jQ;clear hZ;have hz1:¬(row .u8 Z)= #[]:=by intro h;have:=congrArg Array.size h;rw [bc] at this;simp at this;rw [this] at hZl;simp at hZl
 go_enter Tryz.func28,Tryz.ntmps28;go_upto_region 1 with fail
 refine af (p:=fun y=>Code.wp _ _ _ _ y) (fun W=>Below w.heap.size w W∧aa W w.heap.size .u8 23 k∧aa W (w.heap.size+1) .u8 23 Z) ⟨hB0,hk0,hz0⟩ ?_;clear hB0 hk0 hz0 hzv hz1;rintro W ⟨hB,hK,hZ⟩;have hn:=HP.out W
 go_wp2_with (first
  |(go_at_call 48;refine hn.mono ?_;rintro e w1 ⟨⟨r,rfl⟩,rfl⟩;clear hn)
  |(refine am rfl 23 _ rfl _ rfl hK Tryz.underlying23 ap hk ?_)
  |(refine ah rfl 23 _ _ rfl _ rfl rfl hZ (by rw [hk];exact ap) (by rw [hZl,hk]) ?_))
 refine bodyPost_ret (aj (Tryz.results28) _ rfl (hZ.setRow _) Tryz.underlying23 ap hk) rfl ⟨rfl,?_⟩;exact below_setRow hB (by omega) _
def xE (place:Nat→Option (Nat×Nat)):Nat→List (Nat×Value×List Value)→Prop
 |_,[]=>True
 |off,x::L=>place x.1=some (off,x.2.2.length)∧x.2.1.cells=x.2.2.toArray∧xE place (off+x.2.2.length) L
def jB (L:List (Nat×Value×List Value)):List Value:=(L.map (·.2.2)).flatten
theorem mu (x:Nat×Value×List Value) (L:List (Nat×Value×List Value)):jB (x::L)=x.2.2++jB L:=by simp [jB]
theorem np (place:Nat→Option (Nat×Nat)):∀(L:List (Nat×Value×List Value)) (done tail:List Value),xE place done.length L→tail.length=(jB L).length→
    Instr.fill place (done++tail).toArray (L.map fun x=>(x.1,x.2.1))=some (done++jB L).toArray
 |[],done,tail,_,hl=>by
  have:tail=[]:=List.length_eq_zero_iff.1 (by simpa [jB] using hl);rw [this];simp [Instr.fill,jB]
 |x::L,done,tail,hT,hl=>by
  obtain ⟨h1,h2,h3⟩:=hT;rw [mu,List.length_append] at hl
  rw [List.map_cons,dh place (done++tail) x.2.2 x.1 done.length x.2.2.length x.2.1 _ h1 h2 rfl (by rw [List.length_append];omega)];rw [List.take_left,List.drop_length_add_append,np place L (done++x.2.2) (tail.drop x.2.2.length) (by rw [List.length_append];exact h3) (by rw [List.length_drop];omega),mu,List.append_assoc]
theorem eu {P:Program} {o:Oper} {ev:Operand→Value} {w:World} {v:Value} (t:TypeId) (parts:Array (Nat×Operand)) (ho:o.op=.build t parts) (vs:Array (Nat×Value)) (hv:(parts.map fun (i,x)=>(i,ev x))=vs) (h:(Instr.build t vs).run P w=.ok v w):
    (execOp ev o).run P w=.ok (.value v) w:=by
 unfold execOp;simp only [ho,hv,Sem.run_bind,Sem.run_pure,Result.andThen_ok,h]
theorem oe {P:Program} {ops:Array Oper} {rest:List Oper} {o:Oper} {a:Act} {w:World} {Q:Exit→Act→World→Prop} (hw:Region.wanted o (yielded ops a.tmps)=true) (t:TypeId) (parts:Array (Nat×Operand)) (ho:o.op=.build t parts) (vals:Array (Nat×Value)) (hv:(parts.map fun (i,x)=>(i,a.eval x))=vals) (v:Value) (hrun:(Instr.build t vals).run P w=.ok v w)
    (h:wpList P ops Q rest (a.put o.dst v) w):wpList P ops Q (o::rest) a w:=
 wpList_step fun K hK=>by
  rw [if_pos hw];exact sL t parts ho vals hv v hrun (hK _ _ h)
set_option maxHeartbeats 4000000
theorem wZ (E:Ev) (hE:E.past.length=8) (w:World):Calls Tryz.prog 50 #[.agg E.cells.toArray,.int .i64 0] w fun e w'=>e=.returned (.agg E.cells.toArray)∧Below w.heap.size w w':=by
 have hk0:=(CellsAt.new w 33 E.cells).alloc (.cells evZ.cells.toArray 33);have hz0:=CellsAt.new (w.alloc (.cells E.cells.toArray 33)) 33 evZ.cells;rw [World.size_alloc] at hz0
 have hB0:Below w.heap.size w ((w.alloc (.cells E.cells.toArray 33)).alloc (.cells evZ.cells.toArray 33)):=((Below.refl _ _).alloc (Nat.le_refl _) _).alloc (by simp) _;have HP:=ac.mk jQ;have hiE:=cZ E hE;have h1E:=fD E;have hlE:evZ.cells.length=E.cells.length:=by rw [ev_len E hE];rfl
 have HE:=ac.mk hE;clear hE;generalize E.cells=EC at hk0 hz0 hB0 hiE h1E hlE ⊢
 go_enter Tryz.func50,Tryz.ntmps50;go_upto_region 1 with fail
 refine af (p:=fun y=>Code.wp _ _ _ _ y) (fun W=>Below w.heap.size w W∧CellsAt W w.heap.size 33 EC∧CellsAt W (w.heap.size+1) 33 evZ.cells) ⟨hB0,hk0,hz0⟩ ?_;clear hB0 hk0 hz0;rintro W ⟨hB,hK,hZ⟩;have hn:=HP.out W;have rE:=hK.wholeM
 go_wp2_with (first
  |(go_at_call 48;refine hn.mono ?_;rintro e w1 ⟨⟨r,rfl⟩,rfl⟩;clear hn)
  |(refine ae rfl 33 _ rfl _ _ rfl EC rE Tryz.underlying33 rfl hiE ?_)
  |(refine aw rfl 33 _ _ rfl _ rfl rfl hZ hiE hlE h1E ?_))
 refine bodyPost_ret (dy (Tryz.results50) _ rfl (hZ.setRow _) Tryz.underlying33 rfl hiE) rfl ⟨rfl,?_⟩;exact below_setRow hB (by omega) _
theorem u2 (E:Ev) (n:Int) (hn0:n≠0) (w:World):Calls Tryz.prog 50 #[.agg E.cells.toArray,.int .i64 n] w fun e w'=>e=.panicked [eN n]∧Below w.heap.size w w':=by
 have hB0:Below w.heap.size w ((w.alloc (.cells E.cells.toArray 33)).alloc (.cells evZ.cells.toArray 33)):=((Below.refl _ _).alloc (Nat.le_refl _) _).alloc (by simp) _;have HP:=ac.mk (iW n hn0);clear hn0;generalize E.cells=EC at hB0 ⊢
 go_enter Tryz.func50,Tryz.ntmps50;go_upto_region 1 with fail
 refine af (p:=fun y=>Code.wp _ _ _ _ y) (fun W=>Below w.heap.size w W) hB0 ?_;clear hB0;rintro W hB;have hn:=HP.out W
 go_wp2_with (go_at_call 48;refine hn.mono ?_;rintro e w1 ⟨rfl,rfl⟩)
 exact ak ⟨rfl,hB⟩
theorem lH (k:List Int) (n:Int) (hn0:n≠0) (w:World):Calls Tryz.prog 28 #[.agg (row .u8 k),.int .i64 n] w fun e w'=>e=.panicked [eN n]∧Below w.heap.size w w':=by
 obtain ⟨Z,hZl,hZ⟩:∃Z:List Int,Z.length=32∧Z=List.replicate 32 0:=⟨_,rfl,rfl⟩
 have hzv:∀wx,(zeroValue 23).run Tryz.prog wx=.ok (.agg (row .u8 Z)) wx:=fun wx=>by rw [hZ];kernel_rfl
 have hB0:Below w.heap.size w ((w.alloc (.cells (row .u8 k) 23)).alloc (.cells (row .u8 Z) 23)):=((Below.refl _ _).alloc (Nat.le_refl _) _).alloc (by simp) _;have HP:=ac.mk (iW n hn0);have hz1:¬(row .u8 Z)= #[]:=by intro h;have:=congrArg Array.size h;rw [bc] at this;simp at this;rw [this] at hZl;simp at hZl
 clear hZ hn0;go_enter Tryz.func28,Tryz.ntmps28;go_upto_region 1 with fail
 refine af (p:=fun y=>Code.wp _ _ _ _ y) (fun W=>Below w.heap.size w W) hB0 ?_;clear hB0 hzv hz1;rintro W hB;have hn:=HP.out W
 go_wp2_with (go_at_call 48;refine hn.mono ?_;rintro e w1 ⟨rfl,rfl⟩)
 exact ak ⟨rfl,hB⟩
def fU (n:Int):Bool:=decide (1≤n)&&decide (n≤256)
theorem lB (n:Int) (w:World):Calls Tryz.prog 24 #[.int .u32 n] w fun e w'=>e=.returned (.bool (fU n))∧w=w':=by
 by_cases h1:n≥1
 · by_cases h2:n≤256
   · have HR:ac (fU n=true):=⟨by unfold fU;have:1≤n:=h1;simp [this,h2]⟩
     go_enter Tryz.func24,Tryz.ntmps24;go_wp2;go_ret;exact ⟨aA HR.out.symm,rfl⟩
   · have HR:ac (fU n=false):=⟨by unfold fU;simp [h2]⟩
     go_enter Tryz.func24,Tryz.ntmps24;go_wp2;go_ret;exact ⟨aA HR.out.symm,rfl⟩
 · have HR:ac (fU n=false):=⟨by unfold fU;have:¬1≤n:=h1;simp [this]⟩
   go_enter Tryz.func24,Tryz.ntmps24;go_wp2;go_ret;exact ⟨aA HR.out.symm,rfl⟩
def fitsB (E:Ev) (F:Fr):Bool:=rightB E&&((E.da==F.author)&&(E.ds==F.number))
theorem ts (a n:Int) (wx:World):(Instr.build 26 #[(0,.int .u8 a),(1,.int .u32 n)]).run Tryz.prog wx=.ok (.agg (dotC a n).toArray) wx:=run_build wx _ _ _ (by kernel_rfl)
theorem pZ (E:Ev) (F:Fr) (hE:E.In) (hp:F.prev.length=32) (hm:F.mac.length=32) (w:World):
    Calls Tryz.prog 27 #[.agg E.cells.toArray,.agg F.cells.toArray] w fun e w'=>e=.returned (.bool (fitsB E F))∧Below w.heap.size w w':=by
 have hA0:=(CellsAt.new w 33 E.cells).alloc (.cells F.cells.toArray 43);have hF0:=CellsAt.new (w.alloc (.cells E.cells.toArray 33)) 43 F.cells;rw [World.size_alloc] at hF0
 have hB0:Below w.heap.size w ((w.alloc (.cells E.cells.toArray 33)).alloc (.cells F.cells.toArray 43)):=((Below.refl _ _).alloc (Nat.le_refl _) _).alloc (by simp) _;have HR:ac (∀W,Calls Tryz.prog 68 #[.agg E.cells.toArray] W fun x w'=>x=.returned (.bool (rightB E))∧Below W.heap.size W w'):=⟨fun W=>rK E W hE.plen hE.da.1 hE.ds.1 (by have:=hE.ds.2;omega) hE.pa.1 hE.ps.1⟩
 have hiE:=cZ E hE.plen;have HF:ac (∀W,CellsAt W w.heap.size 33 E.cells→CellsAt W (w.heap.size+1) 43 F.cells→W.rangeAt w.heap.size 0 (dotC E.da E.ds)∧W.cell? ⟨w.heap.size+1,0,none⟩=some (.int .u8 F.author)∧W.cell? ⟨w.heap.size+1,1,none⟩=some (.int .u32 F.number)):=⟨fun W h1 h2=>by
  obtain ⟨_,q0,q1,_⟩:=aH F hp hm;refine ⟨?_,(h2.cell 0).trans q0,(h2.cell 1).trans q1⟩;have:=h1.range 0 2;rw [vN E hE.plen] at this
  exact this⟩
 have HEQ:ac (∀wx,(binOp .eql 26 (.agg (dotC E.da E.ds).toArray) (.agg (dotC F.author F.number).toArray)).run Tryz.prog wx=.ok (.bool ((E.da==F.author)&&(E.ds==F.number))) wx):=⟨fun wx=>dot_eql E.da E.ds F.author F.number wx⟩
 have HBD:=ac.mk (ts F.author F.number);have HH:ac (fitsB E F=(rightB E&&((E.da==F.author)&&(E.ds==F.number)))):=⟨rfl⟩
 have iD:(Tryz.prog.info? 26).map (·.size)=some (dotC E.da E.ds).length:=sizeDot;clear hE hp hm;generalize fitsB E F=FB at HH ⊢
 generalize ((E.da==F.author)&&(E.ds==F.number))=eb at HEQ HH
 generalize rightB E=rb at HR HH
 generalize dotC E.da E.ds=DE at HF HEQ iD
 generalize dotC F.author F.number=DF at HEQ HBD
 generalize E.cells=EC at hA0 hF0 hB0 HR HF hiE ⊢
 generalize F.cells=FC at hA0 hF0 hB0 HF ⊢
 generalize F.author=FA at HF HBD
 generalize F.number=FN at HF HBD
 have uD:=Tryz.underlying26;have uE:=Tryz.underlying33;go_enter Tryz.func27,Tryz.ntmps27;go_upto_region 1 with fail
 refine af (p:=fun y=>Code.wp _ _ _ _ y) (fun W=>Below w.heap.size w W∧CellsAt W w.heap.size 33 EC∧CellsAt W (w.heap.size+1) 43 FC) ⟨hB0,hA0,hF0⟩ ?_;clear hB0 hA0 hF0;rintro W ⟨hB,hA,hF⟩;have hr:=HR.out W;have rE:=hA.wholeM;have heq:=HEQ.out;cases rb
 · clear heq
   go_wp2_with (first
    |(refine ae rfl 33 _ rfl _ _ rfl EC rE uE rfl hiE ?_)
    |(go_at_call 68;refine hr.mono ?_;rintro e w1 ⟨rfl,hb1⟩))
   go_ret;exact ⟨by rw [HH.out];rfl,hB.trans (hb1.mono hB.size)⟩
 · go_wp2_with (first
    |(refine ae rfl 33 _ rfl _ _ rfl EC rE uE rfl hiE ?_)
    |(go_at_call 68;refine hr.mono ?_;rintro e w1 ⟨rfl,hb1⟩;obtain ⟨rD,c0,c1⟩:=HF.out w1 (hA.farM hb1) (hF.farM hb1);clear rE)
    |(refine ao (by kernel_rfl) 26 _ rfl w.heap.size 0 rfl DE rD uD rfl iD ?_)
    |(refine oe (by kernel_rfl) 26 _ rfl #[(0,.int .u8 FA),(1,.int .u32 FN)] (by first|rfl|kernel_rfl) _ (HBD.out _) ?_))
   go_ret;exact ⟨by rw [HH.out];cases eb<;>rfl,hB.trans (hb1.mono hB.size)⟩
end Go.Proofs.YtbdhfbglagdiaaaGreatDoor
