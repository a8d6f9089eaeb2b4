/- Re4 Re5 Fd GoF GoW Re6 -/
import Derived.Test.YtbdhfbglagdiaaaGreatDoorJ05
import Derived.Test.YtbdhfbglagdiaaaGreatDoorJ06
import Derived.Test.YtbdhfbglagdiaaaGreatDoorJ04
import Derived.Test.YtbdhfbglagdiaaaGreatDoorRows
import Derived.ProofKit
import Derived.OpenShut
import Derived.ChangeOld
import Derived.ChangeSame
import Derived.Deep.DeepHandedRow
import Derived.Test.YtbdhfbglagdiaaaGreatDoorCards
import Derived.Test.YtbdhfbglagdiaaaGreatDoorTie
import Derived.Lib.LaidTab
namespace Go.Proofs.YtbdhfbglagdiaaaGreatDoor
open Go.RowKit
set_option maxRecDepth 20000
set_option maxHeartbeats 8000000
set_option linter.unusedSimpArgs false
theorem cZ (e:Ev) (h:e.past.length=8):(Tryz.prog.info? 33).map (·.size)=some e.cells.length:=by rw [ev_len e h];exact ph
theorem lu (A B:Nat) (v:Value) (E:Ev) (hE:E.past.length=8) (w:World) (hA:CellsAt w A 33 E.cells) (hB:Box w B 44 v) (hne:A≠B):
    CallsD Tryz.prog 131 #[.pointer (some ⟨A,0,none⟩),.pointer (some ⟨B,0,none⟩)] (.panicking [dq]) w fun e u' w'=>
     e=.returned (.tuple #[])∧u'=.panicking [{v:=.iface 168 (.agg #[]),recovered:=true}]∧CellsAt w' A 33 evZ.cells∧Box w' B 44 (.int .i64 3)∧∀base,base≤A→base≤B→base≤w.heap.size→Below base w w':=by
 have hta:=gW;have hst:=jH;have hA1:=(hA.alloc (.cells #[] 168)).alloc (.cells evZ.cells.toArray 33);have hN1:=CellsAt.new (w.alloc (.cells #[] 168)) 33 evZ.cells;rw [World.size_alloc] at hN1
 have hB1:=(hB.alloc (.cells #[] 168)).alloc (.cells evZ.cells.toArray 33);have hbl:∀base,base≤w.heap.size→Below base w ((w.alloc (.cells #[] 168)).alloc (.cells evZ.cells.toArray 33)):=fun base h=>((Below.refl _ _).alloc h _).alloc (by simp;omega) _
 have hiE:=cZ evZ rfl;have h1E:=fD evZ;have hlE:E.cells.length=evZ.cells.length:=by rw [ev_len E hE];rfl
 clear hA hB;refine callsD_of_wpS Tryz.func131 rfl fun c₀ cs hu=>?_
 apply wpS_seq;apply wpS_region;simp [wpOpsS,go_sem,recoverD,hu,dq,Tryz.ntmps131,Exit.thenS];refine wpS_of_wp ?_;change Code.wp _ _ _ {tmps:= #[.pointer (some ⟨A,0,none⟩),.pointer (some ⟨B,0,none⟩),undef,undef,undef,undef,.iface 168 (.agg #[]),undef,undef,undef,undef,undef,undef],defers:=[]} _;go_upto_region 8 with fail
 refine af (p:=fun y=>Code.wp _ _ _ _ y) (fun W=>CellsAt W A 33 E.cells∧CellsAt W (w.heap.size+1) 33 evZ.cells∧Box W B 44 v∧∀base,base≤w.heap.size→Below base w W) ⟨hA1,hN1,hB1,hbl⟩ ?_;clear hA1 hN1 hB1 hbl;rintro W ⟨hA1,hN1,hB1,hbl⟩;have rE:=hN1.whole2;have hB2:Box (W.setRow A evZ.cells.toArray) B 44 v:=by
  unfold Box at hB1 ⊢
  rw [setRow_other _ _ _ _ (fun e=>hne e.symm)];exact hB1
 have cB:=hB2.cell;have fB:=hB2.frozen
 go_wp2_with (first
  |(refine ae rfl 33 _ rfl _ _ rfl evZ.cells rE Tryz.underlying33 rfl hiE ?_)
  |(refine aw rfl 33 _ _ rfl _ rfl rfl hA1 hiE hlE h1E ?_))
 have q1:=(hA1.setRow evZ.cells).setOther2 ⟨B,0,none⟩ (.int .i64 3) (by exact hne);have q2:=hB2.set (.int .i64 3);have q3:∀base,base≤A→base≤B→base≤w.heap.size→Below base w ((W.setRow A evZ.cells.toArray).setCell ⟨B,0,none⟩ (.int .i64 3)):=fun base h1 h2 h3=>(below_setRow (hbl base h3) h1 _).setCell h2 _
 simp [bodyPostS,results,Tryz.results131];exact ⟨q1,q2,q3⟩
theorem pN (A B:Nat) (w:World):
    CallsD Tryz.prog 131 #[.pointer (some ⟨A,0,none⟩),.pointer (some ⟨B,0,none⟩)] .returning w fun e u' w'=>e=.returned (.tuple #[])∧u'=.returning∧w'=w:=by
 refine callsD_of_wpS Tryz.func131 rfl fun c₀ cs hu=>?_
 apply wpS_seq;apply wpS_region;simp [wpOpsS,go_sem,recoverD,hu,Tryz.ntmps131,Exit.thenS];refine wpS_of_wp ?_;change Code.wp _ _ _ {tmps:= #[.pointer (some ⟨A,0,none⟩),.pointer (some ⟨B,0,none⟩),undef,undef,undef,undef,.nilIface,undef,undef,undef,undef,undef,undef],defers:=[]} _;go_wp2;cases c₀
 simp_all [bodyPostS,results,Tryz.results131]
def kU (z:List Int):Prop:=z.length=58∧at1 z 43≤1∧∀j,j<11→at1 z (47+j)=0
theorem nh (z:List Int):(oy z).past.length=8:=gF z
theorem jj {fn:Func} {p q:Tmp} (h:fn.results= #[.cell p 33,.cell q 44]) (tmps:Array Value) {w:World} {A B:Nat} {e:Ev} {v:Int} (hp:tmps.getD p undef=.pointer (some ⟨A,0,none⟩)) (hq:tmps.getD q undef=.pointer (some ⟨B,0,none⟩)) (hA:CellsAt w A 33 e.cells) (hB:Box w B 44 (.int .i64 v)) (he:e.past.length=8):
    (results fn tmps).run Tryz.prog w=.ok (.tuple #[.agg e.cells.toArray,.int .i64 v]) w:=by
 have hp':tmps[p]?.getD undef=.pointer (some ⟨A,0,none⟩):=by simpa using hp
 have hq':tmps[q]?.getD undef=.pointer (some ⟨B,0,none⟩):=by simpa using hq
 have hc:=hB.cell;have hl:=run_loadVar_row w A 33 33 e.cells.toArray (0,0) _ hA Tryz.underlying33 rfl (by rw [cZ e he];simp);have hlB:(loadVar 44 ⟨B,0,none⟩).run Tryz.prog w=.ok (.int .i64 v) w:=by simp [go_sem,hc]
 simp [results,h,hp',hq',asAddr,hl,hlB]
theorem oQ {fn:Func} {p q:Tmp} (h:fn.results= #[.cell p 33,.tmp q]) (tmps:Array Value) {w:World} {A:Nat} {e:Ev} {v:Value} (hp:tmps.getD p undef=.pointer (some ⟨A,0,none⟩)) (hq:tmps.getD q undef=v) (hA:CellsAt w A 33 e.cells) (he:e.past.length=8):
    (results fn tmps).run Tryz.prog w=.ok (.tuple #[.agg e.cells.toArray,v]) w:=by
 have hp':tmps[p]?.getD undef=.pointer (some ⟨A,0,none⟩):=by simpa using hp
 have hq':tmps[q]?.getD undef=v:=by simpa using hq
 have hl:=run_loadVar_row w A 33 33 e.cells.toArray (0,0) _ hA Tryz.underlying33 rfl (by rw [cZ e he];simp);simp [results,h,hp',hq',asAddr,hl]
theorem tA (x:Option Addr) (n c:Nat) (z:List Int) (w:World) (hb:Bytes w x n c z) (hz:∀v∈z,b8 v):
    Calls Tryz.prog 96 #[.slice x n c,.func (.func 97) #[] #[]] w fun e w'=>
     (kU z∧e=.returned (.tuple #[.agg (oy z).cells.toArray,.int .i64 0])∧Below w.heap.size w w')∨(¬kU z∧e=.returned (.tuple #[.agg evZ.cells.toArray,.int .i64 3])∧Below w.heap.size w w'):=by
 have hmf:=cC;have hA0:CellsAt ((w.alloc (.cells evZ.cells.toArray 33)).alloc (.cells #[.int .i64 0] 44)) w.heap.size 33 evZ.cells:=(CellsAt.new w 33 evZ.cells).alloc _;have hB0:Box ((w.alloc (.cells evZ.cells.toArray 33)).alloc (.cells #[.int .i64 0] 44)) (w.heap.size+1) 44 (.int .i64 0):=by
  have:Box ((w.alloc (.cells evZ.cells.toArray 33)).alloc (.cells #[.int .i64 0] 44)) (w.alloc (.cells evZ.cells.toArray 33)).heap.size 44 (.int .i64 0):=heap_alloc_new _ _;rw [World.size_alloc] at this
  exact this
 have hW0:Below w.heap.size w ((w.alloc (.cells evZ.cells.toArray 33)).alloc (.cells #[.int .i64 0] 44)):=((Below.refl _ _).alloc (Nat.le_refl _) _).alloc (by simp) _;have hs0:((w.alloc (.cells evZ.cells.toArray 33)).alloc (.cells #[.int .i64 0] 44)).heap.size=w.heap.size+2:=by simp
 have hpd:=fun W1 (hR1:Rd W1 (w.heap.size+2) w.heap.size z)=>rC (w.heap.size+2) w.heap.size z W1 hR1 hz
 have hEP:=nh z;have HALL:ac (kU z↔qD z∧(z.drop 58).length=0):=⟨by
  unfold kU qD;rw [List.length_drop];constructor
  · rintro ⟨h1,h2,h3⟩;exact ⟨⟨by omega,h2,h3⟩,by omega⟩
  · rintro ⟨⟨h1,h2,h3⟩,h4⟩;exact ⟨by omega,h2,h3⟩⟩
 obtain ⟨U,hU⟩:∃q,oy z=q:=⟨_,rfl⟩
 rw [hU] at hpd hEP ⊢
 obtain ⟨OK,hOK⟩:∃q,qD z=q:=⟨_,rfl⟩
 rw [hOK] at hpd HALL
 obtain ⟨ALL,hALL⟩:∃q,kU z=q:=⟨_,rfl⟩
 rw [hALL] at HALL ⊢
 have hiU:=cZ U hEP;have h1U:=fD U;have hlU:evZ.cells.length=U.cells.length:=by rw [ev_len U hEP];rfl
 have HEP:ac (U.past.length=8):=⟨hEP⟩
 clear hU hOK hALL hz hEP
 go_enter_defers Tryz.func96,Tryz.ntmps96
 go_upto_region 2 with fail
 refine af (p:=fun y=>Code.wp _ _ _ _ y) (fun W0=>Below w.heap.size w W0∧W0.heap.size=w.heap.size+2∧CellsAt W0 w.heap.size 33 evZ.cells∧Box W0 (w.heap.size+1) 44 (.int .i64 0)) ⟨hW0,hs0,hA0,hB0⟩ ?_;clear hW0 hs0 hA0 hB0 hmf;rintro W0 ⟨hW0,hs0,hA0,hB0⟩;have hRx:Box (W0.alloc (.cells #[.slice x n c] 172)) (w.heap.size+2) 172 (.slice x n c):=by
  have:Box (W0.alloc (.cells #[.slice x n c] 172)) W0.heap.size 172 (.slice x n c):=heap_alloc_new _ _;rw [hs0] at this
  exact this
 have hR1:Rd (W0.alloc (.cells #[.slice x n c] 172)) (w.heap.size+2) w.heap.size z:=⟨by omega,x,n,c,hRx,fun wx hx=>hb.below ((hW0.alloc hW0.size _).trans hx)⟩
 have hA1:=hA0.alloc (.cells #[.slice x n c] 172);have hB1:=hB0.alloc (.cells #[.slice x n c] 172);have hW1:=hW0.alloc hW0.size (.cells #[.slice x n c] 172);go_upto_region 3 with fail
 refine af (p:=fun y=>Code.wp _ _ _ _ y) (fun W1=>Below w.heap.size w W1∧Rd W1 (w.heap.size+2) w.heap.size z∧CellsAt W1 w.heap.size 33 evZ.cells∧Box W1 (w.heap.size+1) 44 (.int .i64 0)) ⟨hW1,hR1,hA1,hB1⟩ ?_;clear hW1 hR1 hA1 hB1 hRx hW0 hs0 hA0 hB0;rintro W1 ⟨hW1,hR1,hA1,hB1⟩;have hrd:=hpd W1 hR1;have keep:∀w',aY W1 w' (w.heap.size+2) w.heap.size→CellsAt w' w.heap.size 33 evZ.cells∧Box w' (w.heap.size+1) 44 (.int .i64 0):=fun w' ht=>by
  have l2:=hB1.lt;refine ⟨hA1.took ht (by omega),?_⟩;unfold Box at hB1 ⊢
  rw [ht.kept _ l2 (by omega)];exact hB1
 clear hb hR1 hpd
 by_cases hO:OK
 · have h1:Calls Tryz.prog 97 #[.pointer (some ⟨w.heap.size+2,0,none⟩)] W1 fun e w'=>e=.returned (.agg U.cells.toArray)∧Rd w' (w.heap.size+2) w.heap.size (z.drop 58)∧aY W1 w' (w.heap.size+2) w.heap.size:=hrd.mono fun e w' h=>by
    rcases h with ⟨_,h1,h2,h3⟩|⟨h,_⟩
    · exact ⟨h1,h2,h3⟩
    · exact absurd hO h
   have HO:ac OK:=⟨hO⟩
   clear hrd hO hA1 hB1;go_upto_region 4 with (first
    |(go_at_call 97;refine h1.mono ?_;rintro e w2 ⟨rfl,hR2,ht2⟩;have hk2:=keep _ ht2;have hk21:=hk2.1)
    |(refine aw rfl 33 _ _ rfl _ rfl rfl hk21 hiU hlU h1U ?_))
   have hW2:=hW1.trans ht2.below;obtain ⟨xr,nr,cr,hbr,hyr⟩:=hR2.has;have hyr0:=hyr w2 (Below.refl _ _);have hnr:=hyr0.len_eq;have hler:=hyr0.le;have htpr:=hyr0.top;have HNR:ac (nr=(z.drop 58).length):=⟨hnr⟩
   have hA3:=hk2.1.setRow U.cells;have hB3:Box (w2.setRow w.heap.size U.cells.toArray) (w.heap.size+1) 44 (.int .i64 0):=by
    have:=hk2.2;unfold Box at this ⊢
    rw [setRow_other _ _ _ _ (by omega)];exact this
   have hR3:Box (w2.setRow w.heap.size U.cells.toArray) (w.heap.size+2) 172 (.slice xr nr cr):=by
    unfold Box at hbr ⊢
    rw [setRow_other _ _ _ _ (by omega)];exact hbr
   refine af (p:=fun y=>Code.wp _ _ _ _ y) (fun W3=>Below w.heap.size w W3∧CellsAt W3 w.heap.size 33 U.cells∧Box W3 (w.heap.size+1) 44 (.int .i64 0)∧Box W3 (w.heap.size+2) 172 (.slice xr nr cr)) ⟨below_setRow hW2 (Nat.le_refl _) _,hA3,hB3,hR3⟩ ?_;clear hA3 hB3 hR3 hW2 hk2 hk21 ht2 hR2 hbr hyr hyr0 h1 keep hW1 hnr hlU;rintro W3 ⟨hW3,hA3,hB3,hR3⟩;have cR:=hR3.cell
   by_cases h0:nr=0
   · have HALL1:ac ALL:=⟨HALL.out.2 ⟨HO.out,by rw [←HNR.out];exact h0⟩⟩
     subst h0;have hnd:=iL W3;have rU:=hA3.whole2;clear HNR;go_upto_region 5 with (go_at_call 132;refine hnd.mono ?_;rintro e w4 ⟨⟨r4,rfl⟩,rfl⟩)
     have hB4:Box (W3.setRow w.heap.size U.cells.toArray) (w.heap.size+1) 44 (.int .i64 0):=by
      unfold Box at hB3 ⊢
      rw [setRow_other _ _ _ _ (by omega)];exact hB3
     have hA4:=hA3.setRow U.cells;have cB:=hB4.cell;have fB:=hB4.frozen
     go_wp2_with (first
      |(refine ae rfl 33 _ rfl _ _ rfl U.cells rU Tryz.underlying33 rfl hiU ?_)
      |(refine aw rfl 33 _ _ rfl _ rfl rfl hA3 hiU rfl h1U ?_))
     refine leaves_cons (f:=131) (args:= #[.pointer (some ⟨w.heap.size,0,none⟩),.pointer (some ⟨w.heap.size+1,0,none⟩)]) (by simp) (by simp [go_sem]) ?_;refine (pN w.heap.size (w.heap.size+1) _).mono ?_;rintro e u' w'' ⟨rfl,rfl,rfl⟩;have hA5:=hA4.setOther2 ⟨w.heap.size+1,0,none⟩ (.int .i64 0) (by show w.heap.size≠w.heap.size+1;omega);have hB5:=hB4.set (.int .i64 0);have hW5:Below w.heap.size w ((W3.setRow w.heap.size U.cells.toArray).setCell ⟨w.heap.size+1,0,none⟩ (.int .i64 0)):=(below_setRow hW3 (Nat.le_refl _) _).setCell (by show w.heap.size≤w.heap.size+1;omega) _;exact ⟨_,jj Tryz.results96 _ rfl rfl hA5 hB5 HEP.out,.inl ⟨HALL1.out,rfl,hW5⟩⟩
   · have HALL1:ac (¬ALL):=⟨fun h=>h0 (by rw [HNR.out];exact (HALL.out.1 h).2)⟩
     have hnd:=ij W3;have hnb:((nr:Int)==0)=false:=by simp;omega
     clear HNR;go_upto_region 5 with (go_at_call 132;refine hnd.mono ?_;rintro e w4 ⟨rfl,rfl⟩)
     refine leaves_cons (f:=131) (args:= #[.pointer (some ⟨w.heap.size,0,none⟩),.pointer (some ⟨w.heap.size+1,0,none⟩)]) (by simp) (by simp [go_sem]) ?_;refine (lu w.heap.size (w.heap.size+1) _ U HEP.out W3 hA3 hB3 (by omega)).mono ?_;rintro e u' w'' ⟨rfl,rfl,hA5,hB5,hbl⟩;exact ⟨_,jj Tryz.results96 _ rfl rfl hA5 hB5 rfl,.inr ⟨HALL1.out,rfl,hW3.trans (hbl w.heap.size (Nat.le_refl _) (by omega) hW3.size)⟩⟩
 · have h1:Calls Tryz.prog 97 #[.pointer (some ⟨w.heap.size+2,0,none⟩)] W1 fun e w'=>e=.panicked [dq]∧aY W1 w' (w.heap.size+2) w.heap.size:=hrd.mono fun e w' h=>by
    rcases h with ⟨h,_⟩|⟨_,h1,h2⟩
    · exact absurd h hO
    · exact ⟨h1,h2⟩
   have HALL1:ac (¬ALL):=⟨fun h=>hO (HALL.out.1 h).1⟩
   clear hrd hO hA1 hB1;go_upto_region 4 with (go_at_call 97;refine h1.mono ?_;rintro e w2 ⟨rfl,ht2⟩)
   have hk2:=keep _ ht2;have hW2:=hW1.trans ht2.below;refine leaves_cons (f:=131) (args:= #[.pointer (some ⟨w.heap.size,0,none⟩),.pointer (some ⟨w.heap.size+1,0,none⟩)]) (by simp) (by simp [go_sem]) ?_;refine (lu w.heap.size (w.heap.size+1) _ evZ rfl w2 hk2.1 hk2.2 (by omega)).mono ?_;rintro e u' w'' ⟨rfl,rfl,hA5,hB5,hbl⟩;exact ⟨_,jj Tryz.results96 _ rfl rfl hA5 hB5 rfl,.inr ⟨HALL1.out,rfl,hW2.trans (hbl w.heap.size (Nat.le_refl _) (by omega) hW2.size)⟩⟩
set_option maxHeartbeats 4000000
noncomputable def revB (z:List Int):Ev:=open Classical in if kU z then oy z else evZ
noncomputable def j6 (z:List Int):Int:=open Classical in if kU z then 0 else 3
theorem nB (z:List Int):(revB z).past.length=8:=by
 unfold revB
 split
 · exact nh z
 · rfl
theorem mF (x:Option Addr) (n c:Nat) (z:List Int) (w:World) (hb:Bytes w x n c z) (hz:∀v∈z,b8 v):
    Calls Tryz.prog 51 #[.slice x n c] w fun e w'=>e=.returned (.tuple #[.agg (revB z).cells.toArray,.int .i64 (j6 z)])∧Below w.heap.size w w':=by
 have hrd:Calls Tryz.prog 96 #[.slice x n c,.func (.func 97) #[] #[]] (w.alloc (.cells evZ.cells.toArray 33)) fun e w'=>e=.returned (.tuple #[.agg (revB z).cells.toArray,.int .i64 (j6 z)])∧Below (w.heap.size+1) (w.alloc (.cells evZ.cells.toArray 33)) w':=(tA x n c z _ (hb.below ((Below.refl _ _).alloc (Nat.le_refl _) _)) hz).mono fun e w' h=>by
  rw [World.size_alloc] at h
  unfold revB j6
  rcases h with ⟨h0,h1,h2⟩|⟨h0,h1,h2⟩
  · rw [if_pos h0,if_pos h0];exact ⟨h1,h2⟩
  · rw [if_neg h0,if_neg h0];exact ⟨h1,h2⟩
 have hA0:=CellsAt.new w 33 evZ.cells;have hP:=nB z;obtain ⟨E,hE⟩:∃q,j6 z=q:=⟨_,rfl⟩
 obtain ⟨U,hU⟩:∃q,revB z=q:=⟨_,rfl⟩
 rw [hU] at hP
 rw [hE,hU] at hrd ⊢
 have hiU:=cZ U hP;have h1U:=fD U;have hlU:evZ.cells.length=U.cells.length:=by rw [ev_len U hP];rfl
 have HP:ac (U.past.length=8):=⟨hP⟩
 have hB0:Below w.heap.size w (w.alloc (.cells evZ.cells.toArray 33)):=(Below.refl _ _).alloc (Nat.le_refl _) _;clear hb hz hE hU hP;go_enter Tryz.func51,Tryz.ntmps51;go_upto_region 1 with fail
 refine af (p:=fun y=>Code.wp _ _ _ _ y) (fun W=>CellsAt W w.heap.size 33 evZ.cells∧Below w.heap.size w W∧Calls Tryz.prog 96 #[.slice x n c,.func (.func 97) #[] #[]] W fun e w'=>e=.returned (.tuple #[.agg U.cells.toArray,.int .i64 E])∧Below (w.heap.size+1) W w') ⟨hA0,hB0,hrd⟩ ?_;clear hA0 hB0 hrd;rintro W ⟨hA0,hB0,hrd⟩
 go_wp2_with (first
  |(go_at_call 96;refine hrd.mono ?_;rintro e w1 ⟨rfl,hb1⟩;have hA1:CellsAt w1 w.heap.size 33 evZ.cells:=(by unfold CellsAt at hA0 ⊢;rw [hb1.block _ (by omega)];exact hA0))
  |(refine aw rfl 33 _ _ rfl _ rfl rfl hA1 hiU hlU h1U ?_))
 have hA2:=hA1.setRow U.cells;refine bodyPost_ret (oQ Tryz.results51 _ rfl rfl hA2 HP.out) rfl ⟨rfl,?_⟩;exact below_setRow (hB0.trans (hb1.mono (by omega))) (Nat.le_refl _) _
abbrev in8 (x:Int):Prop:=0≤x∧x≤255
abbrev in32 (x:Int):Prop:=0≤x∧x≤4294967295
structure Wp.In (e:Wp):Prop where
 too:in8 e.too
 ea:in8 e.ea
 es:in32 e.es
 data:∀x∈e.data,in8 x
structure Fr.In (F:Fr):Prop where
 author:in8 F.author
 number:in32 F.number
 ea:in8 F.ea
 es:in32 F.es
 prev:∀x∈F.prev,in8 x
 mac:∀x∈F.mac,in8 x
structure yI (W:World) (F:Fr) (xw:Option Addr) (lw cw:Nat) (ws:List Wp) (xb:Option Addr) (lb cb:Nat) (body:List Int):Prop where
 prev:F.prev.length=32
 mac:F.mac.length=32
 wraps:F.wraps=.slice xw lw cw
 body_:F.body=.slice xb lb cb
 hw:WrapsAt W xw lw cw ws
 hb:Bytes W xb lb cb body
 inF:F.In
 inW:∀e∈ws,e.In
 inB:∀x∈body,in8 x
open Go.ChangeShapes Go.WideShapes Go.ChangeAt Go.RowKit
theorem row_of_trod5 {H:Type} {enc:TypeId×Value→H} {P:Program} {W:World} {n fuel:Nat} {t e:TypeId} {k:IntKind} {cs:List Value} {x:DataW H×List MemPlace} (hu:P.underlying t=some (.array n e)) (he:P.underlying e=some (.int k)) (hce:P.cellsOf e=1)
    (hsz:cs.length=n) (h:DataW.trod enc P W 0 (fun _=>true) true fuel t cs=some x):
    ∃l:List Int,l.length=n∧cs=l.map (Value.int k)∧∀x∈l,(Lit.int k x).wf=true:=by
 obtain ⟨xs,m,_,_,_,hlen,hel⟩:=DataW.trod_array hu h;simp only [hce,Nat.mul_one] at hel
 have key:∀i (hi:i<cs.length),cs[i]=.int k (intOf cs[i])∧(Lit.int k (intOf cs[i])).wf=true:=fun i hi=>by
  have h1:=hel i (by omega);rw [List.getElem?_eq_getElem (by omega)] at h1
  obtain ⟨a,ea,_,wa⟩:=DataW.trod_int he h1;have e1:(cs.drop i).take 1=[cs[i]]:=by
   rw [List.drop_eq_getElem_cons hi,List.take_succ_cons,List.take_zero]
  rw [e1] at ea
  have e2:cs[i]=.int k a:=by simpa using ea
  rw [e2];exact ⟨rfl,wa⟩
 refine ⟨cs.map intOf,by simp [hsz],?_,?_⟩
 · apply List.ext_getElem (by simp)
   intro i h1 h2;have:=(key i h1).1;simp only [List.map_map,List.getElem_map,Function.comp];exact this
 · intro x hx
   obtain ⟨c,hc,rfl⟩:=List.mem_map.1 hx;obtain ⟨i,hi,rfl⟩:=List.mem_iff_getElem.1 hc;exact (key i hi).2
theorem pe {α:Type} (n:Nat) (p:Nat→α→Prop) (h:∀i,i<n→∃a,p i a):∃l:List α,l.length=n∧∀i (hi:i<l.length),p i l[i]:=by
 induction n with
 |zero=>exact ⟨[],rfl,fun i hi=>by cases hi⟩
 |succ n ih=>
  obtain ⟨l,hl,hp⟩:=ih (fun i hi=>h i (by omega));obtain ⟨a,ha⟩:=h n (by omega);refine ⟨l++ [a],by simp [hl],fun i hi=>?_⟩
  by_cases hi':i<l.length
  · rw [List.getElem_append_left hi'];exact hp i hi'
  · have e:i=n:=by simp at hi;omega
    subst e;rw [List.getElem_append_right (by omega)]
    simpa [hl] using ha
section
variable {H:Type} {enc:TypeId×Value→H} {W:World} {fuel:Nat} {cs:List Value} {x:DataW H×List MemPlace}
theorem dot_of_trod (h:DataW.trod enc Tryz.prog W 0 (fun _=>true) true fuel 26 cs=some x):∃a s,cs=dotC a s∧in8 a∧in32 s:=by
 obtain ⟨xs,m,_,_,hl,hlen,hfd⟩:=DataW.trod_struct Tryz.underlying26 h;have hc:Tryz.prog.cellsOf 26=2:=by kernel_rfl
 have h8:Tryz.prog.cellsOf 5=1:=by kernel_rfl
 have h32:Tryz.prog.cellsOf 24=1:=by kernel_rfl
 rw [hc] at hl
 have g0:DataW.trod enc Tryz.prog W 0 (fun _=>true) true m 5 (List.take (Tryz.prog.cellsOf 5) (List.drop 0 cs))=xs[0]?:=hfd 0 _ rfl;have g1:DataW.trod enc Tryz.prog W 0 (fun _=>true) true m 24 (List.take (Tryz.prog.cellsOf 24) (List.drop 1 cs))=xs[1]?:=hfd 1 _ rfl;simp only [List.size_toArray,List.length_cons,List.length_nil,Nat.reduceAdd] at hlen
 rw [h8,List.getElem?_eq_getElem (by omega)] at g0
 rw [h32,List.getElem?_eq_getElem (by omega)] at g1
 obtain ⟨a,ea,_,wa⟩:=DataW.trod_int Tryz.underlying5 g0;obtain ⟨s,es,_,ws⟩:=DataW.trod_int Tryz.underlying24 g1
 match cs,hl with
 |[c,d],_=>
  simp at ea es
  subst ea es;exact ⟨a,s,rfl,bounds_u8 wa,bounds_u32 ws⟩
theorem ot (h:DataW.trod enc Tryz.prog W 0 (fun _=>true) true fuel 68 cs=some x):∃e:Wp,cs=e.cells∧e.data.length=48∧e.In:=by
 obtain ⟨xs,m,_,_,hl,hlen,hfd⟩:=DataW.trod_struct Tryz.underlying68 h;have hc:Tryz.prog.cellsOf 68=51:=by kernel_rfl
 have h8:Tryz.prog.cellsOf 5=1:=by kernel_rfl
 have hd:Tryz.prog.cellsOf 26=2:=by kernel_rfl
 have h48:Tryz.prog.cellsOf 66=48:=by kernel_rfl
 rw [hc] at hl
 have g0:DataW.trod enc Tryz.prog W 0 (fun _=>true) true m 5 (List.take (Tryz.prog.cellsOf 5) (List.drop 0 cs))=xs[0]?:=hfd 0 _ rfl;have g1:DataW.trod enc Tryz.prog W 0 (fun _=>true) true m 26 (List.take (Tryz.prog.cellsOf 26) (List.drop 1 cs))=xs[1]?:=hfd 1 _ rfl;have g2:DataW.trod enc Tryz.prog W 0 (fun _=>true) true m 66 (List.take (Tryz.prog.cellsOf 66) (List.drop 3 cs))=xs[2]?:=hfd 2 _ rfl;simp only [List.size_toArray,List.length_cons,List.length_nil,Nat.reduceAdd] at hlen
 rw [h8,List.getElem?_eq_getElem (by omega)] at g0
 rw [hd,List.getElem?_eq_getElem (by omega)] at g1
 rw [h48,List.getElem?_eq_getElem (by omega)] at g2
 obtain ⟨a,ea,_,wa⟩:=DataW.trod_int Tryz.underlying5 g0;obtain ⟨da,dsq,ed,wd⟩:=dot_of_trod g1;obtain ⟨l,hll,el,wl⟩:=row_of_trod5 Tryz.underlying66 Tryz.underlying5 (by kernel_rfl) (by simp [hl]) g2;refine ⟨⟨a,da,dsq,l⟩,?_,hll,⟨bounds_u8 wa,wd.1,wd.2,fun v hv=>bounds_u8 (wl v hv)⟩⟩;show cs=[.int .u8 a]++dotC da dsq++l.map (Value.int .u8);rw [←ea,←ed,←el,List.drop_zero];have h1:cs.take 1++(cs.drop 1).take 2=cs.take 3:=by rw [←List.take_add]
 rw [h1,List.take_of_length_le (l:=cs.drop 3) (by rw [List.length_drop,hl];decide),List.take_append_drop]
theorem wraps_of_trod (h:DataW.trod enc Tryz.prog W 0 (fun _=>true) true fuel 27 cs=some x):∃y len cap ws,cs=[.slice y len cap]∧WrapsAt W y len cap ws∧∀e∈ws,e.In:=by
 have hc:Tryz.prog.cellsOf 68=51:=by kernel_rfl
 rcases DataW.trod_slice Tryz.underlying27 h with ⟨hcs,_⟩|⟨a,len,cap,elems,rest,m,_,hcs,_,_,hl,hm,hlen,hel,_⟩
 · exact ⟨none,0,0,[],hcs,⟨rfl,by omega,by omega,fun _=>rfl,(fun e he=>by cases he),.inl rfl⟩,fun e he=>by cases he⟩
 · have each:∀i,i<len→∃e:Wp,(∀j v,e.cells[j]?=some v→W.cell? ((a.add (i*51)).add j)=some v)∧e.data.length=48∧e.In:=fun i hi=>by
    have h1:=hel i hi;rw [hc,List.getElem?_eq_getElem (by omega),Option.bind_eq_some_iff] at h1
    obtain ⟨ci,hci,hti⟩:=h1;obtain ⟨e,rfl,h48,hin⟩:=ot hti;have hs:=World.cells?_some hci;refine ⟨e,fun j v hv=>?_,h48,hin⟩;have hj:j<51:=by
     have:=(List.getElem?_eq_some_iff.1 hv).1;have:=hs.2.1;omega
    rw [hs.2.2 j hj];exact hv
   obtain ⟨ws,hwl,hws⟩:=pe len _ each;refine ⟨some a,len,cap,ws,hcs,⟨hwl.symm,hl,by simpa [maxLen] using hm,(fun h=>by cases h),fun e he=>?_,?_⟩,fun e he=>?_⟩
   · obtain ⟨i,hi,rfl⟩:=List.mem_iff_getElem.1 he
     exact (hws i hi).2.1
   · by_cases h0:len=0
     · exact .inl h0
     · obtain ⟨b,off,spot⟩:=a
       have h00:=(hws 0 (by omega)).1 0 (.int .u8 (ws[0]'(by omega)).too) rfl;have hspot:spot=none:=by
        have:=World.cell?_spot h00
        simpa [Addr.add] using this
       subst hspot;refine .inr ⟨b,off,rfl,fun j hj i v hv=>?_⟩;have:=(hws j hj).1 i v hv;rw [Addr.add_mid',Addr.add_mid'] at this
       exact this
   · obtain ⟨i,hi,rfl⟩:=List.mem_iff_getElem.1 he
     exact (hws i hi).2.2
end
theorem own : ownKnob Tryz.prog.godebug = none := by kernel_rfl
theorem laidOut : laidOutB Tryz.prog = true := by kernel_rfl
theorem gTab : Tryz.prog.globalNamed "escritoire/wire.buckets" = some 0 := by kernel_rfl
theorem gTabType : (Tryz.prog.globals[0]?).map (·.type) = some 152 := by kernel_rfl
theorem cells6 : Tryz.prog.cellsOf 152 = 6 := by kernel_rfl
theorem cellsI64 : Tryz.prog.cellsOf 3 = 1 := by kernel_rfl
theorem table {W : World} (h : laidMetH Tryz.prog [("escritoire/wire.buckets", Rows.laid_escritoire_wire_buckets)] W) : BTab W := fun j v hv => by
 have ht : Lib.TabIs Tryz.prog W "escritoire/wire.buckets" .i64 bTab := Lib.tabIs_of_head (rest := []) gTab gTabType Tryz.underlying152 Tryz.underlying3 cellsI64 cells6 h
 have hj : j < bTab.length := by have := (List.getElem?_eq_some_iff.1 hv).1; simpa using this
 have := ht.cell gTab j hj
 rw [Nat.zero_add, this, ← hv, List.getElem?_map, List.getD_eq_getElem?_getD, List.getElem?_eq_getElem hj]; rfl
structure Ev.In (e:Ev):Prop where
 da:in8 e.da
 ds:in32 e.ds
 plen:e.past.length=8
 past:∀x∈e.past,in32 x
 kind:in8 e.kind
 pa:in8 e.pa
 ps:in32 e.ps
 char:in8 e.char
 who:in8 e.who
 role:in8 e.role
theorem cW (n:Int) (h:in32 n):iY (n / 16777216 % 256) (n / 65536 % 256) (n / 256 % 256) (n % 256)=n:=by
 have h1:=h.1;have h2:=h.2;unfold iY;omega
theorem yz (l:List Int) (h:l.length=8):∃p0 p1 p2 p3 p4 p5 p6 p7,l=[p0,p1,p2,p3,p4,p5,p6,p7]:=by
 match l,h with
 |[a,b,c,d,e,f,g,i],_=>exact ⟨a,b,c,d,e,f,g,i,rfl⟩
theorem rI (e:Ev) (h:e.In):kU (aL e)∧oy (aL e)=e:=by
 obtain ⟨da,ds,past,kind,pa,ps,right,char,who,role⟩:=e;obtain ⟨p0,p1,p2,p3,p4,p5,p6,p7,rfl⟩:=yz past h.plen;have hp:=h.past;have hds:=cW ds h.ds;have hps:=cW ps h.ps;have h0:=cW p0 (hp p0 (by simp));have h1:=cW p1 (hp p1 (by simp));have h2:=cW p2 (hp p2 (by simp));have h3:=cW p3 (hp p3 (by simp));have h4:=cW p4 (hp p4 (by simp));have h5:=cW p5 (hp p5 (by simp));have h6:=cW p6 (hp p6 (by simp));have h7:=cW p7 (hp p7 (by simp));have ht:(dU right==1)=right:=by cases right<;>rfl
 constructor
 · refine ⟨rfl,?_,fun j hj=>?_⟩
   · show dU right≤1
     cases right<;>decide
   · have hic:j=0∨j=1∨j=2∨j=3∨j=4∨j=5∨j=6∨j=7∨j=8∨j=9∨j=10:=by omega
     rcases hic with rfl|rfl|rfl|rfl|rfl|rfl|rfl|rfl|rfl|rfl|rfl<;>rfl
 · show (⟨da,iY (ds / 16777216 % 256) (ds / 65536 % 256) (ds / 256 % 256) (ds % 256),[iY (p0 / 16777216 % 256) (p0 / 65536 % 256) (p0 / 256 % 256) (p0 % 256),iY (p1 / 16777216 % 256) (p1 / 65536 % 256) (p1 / 256 % 256) (p1 % 256),iY (p2 / 16777216 % 256) (p2 / 65536 % 256) (p2 / 256 % 256) (p2 % 256),iY (p3 / 16777216 % 256) (p3 / 65536 % 256) (p3 / 256 % 256) (p3 % 256),iY (p4 / 16777216 % 256) (p4 / 65536 % 256) (p4 / 256 % 256) (p4 % 256),iY (p5 / 16777216 % 256) (p5 / 65536 % 256) (p5 / 256 % 256) (p5 % 256),iY (p6 / 16777216 % 256) (p6 / 65536 % 256) (p6 / 256 % 256) (p6 % 256),iY (p7 / 16777216 % 256) (p7 / 65536 % 256) (p7 / 256 % 256) (p7 % 256)],kind,pa,iY (ps / 16777216 % 256) (ps / 65536 % 256) (ps / 256 % 256) (ps % 256),dU right==1,char,who,role⟩:Ev)=_
   rw [hds,hps,h0,h1,h2,h3,h4,h5,h6,h7,ht]
theorem lQ (e:Ev) (h:e.In):∀v∈aL e,b8 v:=by
 have q4:∀n:Int,∀v∈be4 n,b8 v:=fun n v hv=>by
  unfold be4 at hv
  simp only [List.mem_cons,List.not_mem_nil,or_false] at hv
  rcases hv with rfl|rfl|rfl|rfl<;>constructor<;>omega
 have qp:∀l:List Int,∀v∈bQ l,b8 v:=fun l v hv=>by
  unfold bQ at hv
  rw [List.mem_flatten] at hv
  obtain ⟨m,hm,hv⟩:=hv;obtain ⟨n,_,rfl⟩:=List.mem_map.1 hm;exact q4 n v hv
 intro v hv;unfold aL ei at hv
 simp only [List.mem_append,List.mem_cons,List.not_mem_nil,or_false,List.mem_replicate] at hv
 rcases hv with (((((((rfl|hv)|hv)|rfl)|(rfl|hv))|rfl)|(rfl|rfl|rfl))|⟨_,rfl⟩)
 · exact h.da
 · exact q4 _ v hv
 · exact qp _ v hv
 · exact h.kind
 · exact h.pa
 · exact q4 _ v hv
 · cases e.right<;>exact ⟨by decide,by decide⟩
 · exact h.char
 · exact h.who
 · exact h.role
 · exact ⟨by decide,by decide⟩
end Go.Proofs.YtbdhfbglagdiaaaGreatDoor
