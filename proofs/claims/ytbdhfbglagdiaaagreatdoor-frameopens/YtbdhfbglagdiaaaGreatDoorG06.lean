/- Rd5 Re4 Re5 Fd -/
import Derived.Test.YtbdhfbglagdiaaaGreatDoorG05
import Derived.Test.YtbdhfbglagdiaaaGreatDoorG04
namespace Go.Proofs.YtbdhfbglagdiaaaGreatDoor
open Go.RowKit
set_option maxRecDepth 20000
set_option maxHeartbeats 4000000
set_option linter.unusedSimpArgs false
theorem Box.other {w:World} {H:Nat} {t:TypeId} {v:Value} (h:Box w H t v) (a:Addr) (u:Value) (hne:H≠a.block):Box (w.setCell a u) H t v:=by
 unfold Box at h ⊢
 rw [heap_setCell_other w a H u hne];exact h
theorem ip (wx:World):(Instr.typeAssert (.iface 168 (.agg #[])) 20 168 true).run Tryz.prog wx=.ok (.tuple #[.agg #[],.bool true]) wx:=by kernel_rfl
theorem jR (wx:World) (g:Nat):(Instr.storeAt 168 (.pointer (some ⟨g,0,none⟩)) (.agg #[])).run Tryz.prog wx=.ok () wx:=by kernel_rfl
theorem jU (A B:Nat) (u v:Value) (w:World) (hA:Box w A 41 u) (hB:Box w B 44 v) (hne:A≠B):
    CallsD Tryz.prog 138 #[.pointer (some ⟨A,0,none⟩),.pointer (some ⟨B,0,none⟩)] (.panicking [dq]) w fun e u' w'=>
     e=.returned (.tuple #[])∧u'=.panicking [{v:=.iface 168 (.agg #[]),recovered:=true}]∧w'=((w.alloc (.cells #[] 168)).setCell ⟨A,0,none⟩ (.slice none 0 0)).setCell ⟨B,0,none⟩ (.int .i64 3):=by
 have hta:=ip;have hst:=jR;have cA:=(hA.alloc (.cells #[] 168)).cell;have fA:=(hA.alloc (.cells #[] 168)).frozen;have hB2:Box ((w.alloc (.cells #[] 168)).setCell ⟨A,0,none⟩ (.slice none 0 0)) B 44 v:=by
  have:=hB.alloc (.cells #[] 168);unfold Box at this ⊢
  rw [heap_setCell_other _ _ B _ (by exact fun e=>hne e.symm)];exact this
 have cB:=hB2.cell;have fB:=hB2.frozen;clear hA hB hB2;refine callsD_of_wpS Tryz.func138 rfl fun c₀ cs hu=>?_
 apply wpS_seq;apply wpS_region;simp [wpOpsS,go_sem,recoverD,hu,dq,Tryz.ntmps138,Exit.thenS];refine wpS_of_wp ?_;change Code.wp _ _ _ {tmps:= #[.pointer (some ⟨A,0,none⟩),.pointer (some ⟨B,0,none⟩),undef,undef,undef,undef,.iface 168 (.agg #[]),undef,undef,undef,undef,undef,undef],defers:=[]} _;go_wp2;simp [bodyPostS,results,Tryz.results138]
theorem qi (A B:Nat) (w:World):
    CallsD Tryz.prog 138 #[.pointer (some ⟨A,0,none⟩),.pointer (some ⟨B,0,none⟩)] .returning w fun e u' w'=>e=.returned (.tuple #[])∧u'=.returning∧w'=w:=by
 refine callsD_of_wpS Tryz.func138 rfl fun c₀ cs hu=>?_
 apply wpS_seq;apply wpS_region;simp [wpOpsS,go_sem,recoverD,hu,Tryz.ntmps138,Exit.thenS];refine wpS_of_wp ?_;change Code.wp _ _ _ {tmps:= #[.pointer (some ⟨A,0,none⟩),.pointer (some ⟨B,0,none⟩),undef,undef,undef,undef,.nilIface,undef,undef,undef,undef,undef,undef],defers:=[]} _;go_wp2;cases c₀
 simp_all [bodyPostS,results,Tryz.results138]
theorem kH (wx:World):(binOp BinOp.eql 20 .nilIface .nilIface).run Tryz.prog wx=.ok (.bool true) wx:=by kernel_rfl
theorem cG (fn:Fn) (first cap:Array Value) (w:World):(Instr.makeFunc fn first cap).run Tryz.prog w=.ok (.func fn first cap) w:=rfl
theorem ul (x:Option Addr) (n c:Nat) (z:List Int) (w:World) (hT:BTab w) (hb:Bytes w x n c z) (hz:∀v∈z,b8 v) (hl:z.length≤1000000):
    Calls Tryz.prog 98 #[.slice x n c,.func (.func 99) #[] #[]] w fun e w'=>
     (bK z∧∃x' n' c',e=.returned (.tuple #[.slice x' n' c',.int .i64 0])∧ao w' w.heap.size (.slice x' n' c') (gI z)∧Below w.heap.size w w')∨(¬bK z∧e=.returned (.tuple #[.slice none 0 0,.int .i64 3])∧Below w.heap.size w w'):=by
 have hmf:=cG;have hA0:Box ((w.alloc (.cells #[.slice none 0 0] 41)).alloc (.cells #[.int .i64 0] 44)) w.heap.size 41 (.slice none 0 0):=Box.alloc (heap_alloc_new _ _) _;have hB0:Box ((w.alloc (.cells #[.slice none 0 0] 41)).alloc (.cells #[.int .i64 0] 44)) (w.heap.size+1) 44 (.int .i64 0):=by
  have:Box ((w.alloc (.cells #[.slice none 0 0] 41)).alloc (.cells #[.int .i64 0] 44)) (w.alloc (.cells #[.slice none 0 0] 41)).heap.size 44 (.int .i64 0):=heap_alloc_new _ _;rw [World.size_alloc] at this
  exact this
 have hW0:Below w.heap.size w ((w.alloc (.cells #[.slice none 0 0] 41)).alloc (.cells #[.int .i64 0] 44)):=((Below.refl _ _).alloc (Nat.le_refl _) _).alloc (by simp) _;have hs0:((w.alloc (.cells #[.slice none 0 0] 41)).alloc (.cells #[.int .i64 0] 44)).heap.size=w.heap.size+2:=by simp
 have hpd:=fun W1 (hW1:Below w.heap.size w W1) (hR1:Rd W1 (w.heap.size+2) w.heap.size z)=>qG (w.heap.size+2) w.heap.size z W1 hR1 (fun wx hx=>hT.below (hW1.trans hx)) hz hl
 obtain ⟨U,hU⟩:∃q,gI z=q:=⟨_,rfl⟩
 rw [hU] at hpd ⊢
 obtain ⟨OK,hOK⟩:∃q,bK z=q:=⟨_,rfl⟩
 rw [hOK] at hpd ⊢
 clear hU hOK hT hz hl
 go_enter_defers Tryz.func98,Tryz.ntmps98
 go_upto_region 2 with fail
 refine ae (p:=fun y=>Code.wp _ _ _ _ y) (fun W0=>Below w.heap.size w W0∧W0.heap.size=w.heap.size+2∧Box W0 w.heap.size 41 (.slice none 0 0)∧Box W0 (w.heap.size+1) 44 (.int .i64 0)) ⟨hW0,hs0,hA0,hB0⟩ ?_;clear hW0 hs0 hA0 hB0 hmf;rintro W0 ⟨hW0,hs0,hA0,hB0⟩;have hRx:Box (W0.alloc (.cells #[.slice x n c] 172)) (w.heap.size+2) 172 (.slice x n c):=by
  have:Box (W0.alloc (.cells #[.slice x n c] 172)) W0.heap.size 172 (.slice x n c):=heap_alloc_new _ _;rw [hs0] at this
  exact this
 have hR1:Rd (W0.alloc (.cells #[.slice x n c] 172)) (w.heap.size+2) w.heap.size z:=⟨by omega,x,n,c,hRx,fun wx hx=>hb.below ((hW0.alloc hW0.size _).trans hx)⟩
 have hA1:=hA0.alloc (.cells #[.slice x n c] 172);have hB1:=hB0.alloc (.cells #[.slice x n c] 172);have hW1:=hW0.alloc hW0.size (.cells #[.slice x n c] 172);go_upto_region 3 with fail
 refine ae (p:=fun y=>Code.wp _ _ _ _ y) (fun W1=>Below w.heap.size w W1∧Rd W1 (w.heap.size+2) w.heap.size z∧Box W1 w.heap.size 41 (.slice none 0 0)∧Box W1 (w.heap.size+1) 44 (.int .i64 0)) ⟨hW1,hR1,hA1,hB1⟩ ?_;clear hW1 hR1 hA1 hB1 hRx hW0 hs0 hA0 hB0;rintro W1 ⟨hW1,hR1,hA1,hB1⟩;have hrd:=hpd W1 hW1 hR1;have keep:∀w',aW W1 w' (w.heap.size+2) w.heap.size→Box w' w.heap.size 41 (.slice none 0 0)∧Box w' (w.heap.size+1) 44 (.int .i64 0):=fun w' ht=>by
  have l1:=hA1.lt;have l2:=hB1.lt;unfold Box at hA1 hB1 ⊢
  exact ⟨by rw [ht.kept _ l1 (by omega)];exact hA1,by rw [ht.kept _ l2 (by omega)];exact hB1⟩
 clear hb hR1 hpd
 by_cases hO:OK
 · have h1:Calls Tryz.prog 99 #[.pointer (some ⟨w.heap.size+2,0,none⟩)] W1 fun e w'=>∃x' n' c',e=.returned (.slice x' n' c')∧ao w' w.heap.size (.slice x' n' c') U∧Rd w' (w.heap.size+2) w.heap.size []∧aW W1 w' (w.heap.size+2) w.heap.size:=hrd.mono fun e w' h=>by
    rcases h with ⟨_,v,h1,h2,h3,h4⟩|⟨h,_⟩
    · obtain ⟨x',n',c',rfl,_⟩:=h2.isSlice
      exact ⟨x',n',c',h1,h2,h3,h4⟩
    · exact absurd hO h
   have HO:ac OK:=⟨hO⟩
   clear hrd hO hA1 hB1;go_upto_region 4 with (go_at_call 99;refine h1.mono ?_;rintro e w2 ⟨x2,n2,c2,rfl,ho2,hR2,ht2⟩;have hk2:=keep _ ht2;have cA:=hk2.1.cell;have fA:=hk2.1.frozen)
   have hW2:=hW1.trans ht2.below;obtain ⟨xr,nr,cr,hbr,hyr⟩:=hR2.has;have hyr0:=hyr w2 (Below.refl _ _);obtain rfl:nr=0:=hyr0.len_eq;have hler:=hyr0.le;have htpr:=hyr0.top;have hA3:Box (w2.setCell ⟨w.heap.size,0,none⟩ (.slice x2 n2 c2)) w.heap.size 41 (.slice x2 n2 c2):=hk2.1.set _;have hB3:Box (w2.setCell ⟨w.heap.size,0,none⟩ (.slice x2 n2 c2)) (w.heap.size+1) 44 (.int .i64 0):=hk2.2.other _ _ (by show w.heap.size+1≠w.heap.size;omega);have hR3:Box (w2.setCell ⟨w.heap.size,0,none⟩ (.slice x2 n2 c2)) (w.heap.size+2) 172 (.slice xr 0 cr):=hbr.other _ _ (by show w.heap.size+2≠w.heap.size;omega);have hO3:=ho2.setBox hk2.1 (by decide) (.slice x2 n2 c2);refine ae (p:=fun y=>Code.wp _ _ _ _ y) (fun W3=>Below w.heap.size w W3∧Box W3 w.heap.size 41 (.slice x2 n2 c2)∧Box W3 (w.heap.size+1) 44 (.int .i64 0)∧Box W3 (w.heap.size+2) 172 (.slice xr 0 cr)∧ao W3 w.heap.size (.slice x2 n2 c2) U) ⟨hW2.setCell (Nat.le_refl _) _,hA3,hB3,hR3,hO3⟩ ?_;clear hA3 hB3 hR3 hO3 hW2 hk2 cA fA ht2 hR2 ho2 hbr hyr hyr0 h1 keep hW1;rintro W3 ⟨hW3,hA3,hB3,hR3,hO3⟩;have cR:=hR3.cell;have cA:=hA3.cell;have fA:=hA3.frozen;have hnd:=iU W3;go_upto_region 5 with (go_at_call 132;refine hnd.mono ?_;rintro e w4 ⟨⟨r4,rfl⟩,rfl⟩)
   have hA4:=hA3.set (.slice x2 n2 c2);have hB4:=hB3.other ⟨w.heap.size,0,none⟩ (.slice x2 n2 c2) (by show w.heap.size+1≠w.heap.size;omega);have cB:=hB4.cell;have fB:=hB4.frozen;go_wp2;refine leaves_cons (f:=138) (args:= #[.pointer (some ⟨w.heap.size,0,none⟩),.pointer (some ⟨w.heap.size+1,0,none⟩)]) (by simp) (by simp [go_sem]) ?_;refine (qi w.heap.size (w.heap.size+1) _).mono ?_;rintro e u' w'' ⟨rfl,rfl,rfl⟩;have hA5:=hA4.other ⟨w.heap.size+1,0,none⟩ (.int .i64 0) (by show w.heap.size≠w.heap.size+1;omega);have hB5:=hB4.set (.int .i64 0);have dA:=hA5.cell;have dB:=hB5.cell;have hO5:=(hO3.setBox hA3 (by decide) (.slice x2 n2 c2)).setBox hB4 (by decide) (.int .i64 0);have hW5:Below w.heap.size w ((W3.setCell ⟨w.heap.size,0,none⟩ (.slice x2 n2 c2)).setCell ⟨w.heap.size+1,0,none⟩ (.int .i64 0)):=(hW3.setCell (Nat.le_refl _) _).setCell (by show w.heap.size≤w.heap.size+1;omega) _;refine ⟨.tuple #[.slice x2 n2 c2,.int .i64 0],?_,.inl ⟨HO.out,x2,n2,c2,rfl,hO5,hW5⟩⟩;simp [results,Tryz.results98,go_sem,dA,dB]
 · have h1:Calls Tryz.prog 99 #[.pointer (some ⟨w.heap.size+2,0,none⟩)] W1 fun e w'=>e=.panicked [dq]∧aW W1 w' (w.heap.size+2) w.heap.size:=hrd.mono fun e w' h=>by
    rcases h with ⟨h,_⟩|⟨_,h1,h2⟩
    · exact absurd h hO
    · exact ⟨h1,h2⟩
   have HO:ac (¬OK):=⟨hO⟩
   clear hrd hO hA1 hB1;go_upto_region 4 with (go_at_call 99;refine h1.mono ?_;rintro e w2 ⟨rfl,ht2⟩)
   have hk2:=keep _ ht2;have hW2:=hW1.trans ht2.below;refine leaves_cons (f:=138) (args:= #[.pointer (some ⟨w.heap.size,0,none⟩),.pointer (some ⟨w.heap.size+1,0,none⟩)]) (by simp) (by simp [go_sem]) ?_;refine (jU w.heap.size (w.heap.size+1) _ _ w2 hk2.1 hk2.2 (by omega)).mono ?_;rintro e u' w'' ⟨rfl,rfl,rfl⟩;have hA3:=(hk2.1.alloc (.cells #[] 168)).set (.slice none 0 0);have hB3:=(hk2.2.alloc (.cells #[] 168)).other ⟨w.heap.size,0,none⟩ (.slice none 0 0) (by show w.heap.size+1≠w.heap.size;omega);have dA:=(hA3.other ⟨w.heap.size+1,0,none⟩ (.int .i64 3) (by show w.heap.size≠w.heap.size+1;omega)).cell;have dB:=(hB3.set (.int .i64 3)).cell;have hW5:Below w.heap.size w (((w2.alloc (.cells #[] 168)).setCell ⟨w.heap.size,0,none⟩ (.slice none 0 0)).setCell ⟨w.heap.size+1,0,none⟩ (.int .i64 3)):=((hW2.alloc hW2.size _).setCell (Nat.le_refl _) _).setCell (by show w.heap.size≤w.heap.size+1;omega) _;refine ⟨.tuple #[.slice none 0 0,.int .i64 3],?_,.inr ⟨HO.out,rfl,hW5⟩⟩;simp [results,Tryz.results98,go_sem,dA,dB]
set_option maxHeartbeats 8000000
theorem bQ (e:Ev) (h:e.past.length=8):(Tryz.prog.info? 33).map (·.size)=some e.cells.length:=by rw [eO e h];exact o0
theorem lI (A B:Nat) (v:Value) (E:Ev) (hE:E.past.length=8) (w:World) (hA:CellsAt w A 33 E.cells) (hB:Box w B 44 v) (hne:A≠B):
    CallsD Tryz.prog 131 #[.pointer (some ⟨A,0,none⟩),.pointer (some ⟨B,0,none⟩)] (.panicking [dq]) w fun e u' w'=>
     e=.returned (.tuple #[])∧u'=.panicking [{v:=.iface 168 (.agg #[]),recovered:=true}]∧CellsAt w' A 33 evZ.cells∧Box w' B 44 (.int .i64 3)∧∀base,base≤A→base≤B→base≤w.heap.size→Below base w w':=by
 have hta:=ip;have hst:=jR;have hA1:=(hA.alloc (.cells #[] 168)).alloc (.cells evZ.cells.toArray 33);have hN1:=CellsAt.new (w.alloc (.cells #[] 168)) 33 evZ.cells;rw [World.size_alloc] at hN1
 have hB1:=(hB.alloc (.cells #[] 168)).alloc (.cells evZ.cells.toArray 33);have hbl:∀base,base≤w.heap.size→Below base w ((w.alloc (.cells #[] 168)).alloc (.cells evZ.cells.toArray 33)):=fun base h=>((Below.refl _ _).alloc h _).alloc (by simp;omega) _
 have hiE:=bQ evZ rfl;have h1E:=dh evZ;have hlE:E.cells.length=evZ.cells.length:=by rw [eO E hE];rfl
 clear hA hB;refine callsD_of_wpS Tryz.func131 rfl fun c₀ cs hu=>?_
 apply wpS_seq;apply wpS_region;simp [wpOpsS,go_sem,recoverD,hu,dq,Tryz.ntmps131,Exit.thenS];refine wpS_of_wp ?_;change Code.wp _ _ _ {tmps:= #[.pointer (some ⟨A,0,none⟩),.pointer (some ⟨B,0,none⟩),undef,undef,undef,undef,.iface 168 (.agg #[]),undef,undef,undef,undef,undef,undef],defers:=[]} _;go_upto_region 8 with fail
 refine ae (p:=fun y=>Code.wp _ _ _ _ y) (fun W=>CellsAt W A 33 E.cells∧CellsAt W (w.heap.size+1) 33 evZ.cells∧Box W B 44 v∧∀base,base≤w.heap.size→Below base w W) ⟨hA1,hN1,hB1,hbl⟩ ?_;clear hA1 hN1 hB1 hbl;rintro W ⟨hA1,hN1,hB1,hbl⟩;have rE:=hN1.whole2;have hB2:Box (W.setRow A evZ.cells.toArray) B 44 v:=by
  unfold Box at hB1 ⊢
  rw [setRow_other _ _ _ _ (fun e=>hne e.symm)];exact hB1
 have cB:=hB2.cell;have fB:=hB2.frozen
 go_wp2_with (first
  |(refine af rfl 33 _ rfl _ _ rfl evZ.cells rE Tryz.underlying33 rfl hiE ?_)
  |(refine aq rfl 33 _ _ rfl _ rfl rfl hA1 hiE hlE h1E ?_))
 have q1:=(hA1.setRow evZ.cells).setOther2 ⟨B,0,none⟩ (.int .i64 3) (by exact hne);have q2:=hB2.set (.int .i64 3);have q3:∀base,base≤A→base≤B→base≤w.heap.size→Below base w ((W.setRow A evZ.cells.toArray).setCell ⟨B,0,none⟩ (.int .i64 3)):=fun base h1 h2 h3=>(below_setRow (hbl base h3) h1 _).setCell h2 _
 simp [bodyPostS,results,Tryz.results131];exact ⟨q1,q2,q3⟩
theorem pL (A B:Nat) (w:World):
    CallsD Tryz.prog 131 #[.pointer (some ⟨A,0,none⟩),.pointer (some ⟨B,0,none⟩)] .returning w fun e u' w'=>e=.returned (.tuple #[])∧u'=.returning∧w'=w:=by
 refine callsD_of_wpS Tryz.func131 rfl fun c₀ cs hu=>?_
 apply wpS_seq;apply wpS_region;simp [wpOpsS,go_sem,recoverD,hu,Tryz.ntmps131,Exit.thenS];refine wpS_of_wp ?_;change Code.wp _ _ _ {tmps:= #[.pointer (some ⟨A,0,none⟩),.pointer (some ⟨B,0,none⟩),undef,undef,undef,undef,.nilIface,undef,undef,undef,undef,undef,undef],defers:=[]} _;go_wp2;cases c₀
 simp_all [bodyPostS,results,Tryz.results131]
def ft (z:List Int):Prop:=z.length=58∧at1 z 43≤1∧∀j,j<11→at1 z (47+j)=0
theorem mZ (z:List Int):(kR z).past.length=8:=fd z
theorem jq {fn:Func} {p q:Tmp} (h:fn.results= #[.cell p 33,.cell q 44]) (tmps:Array Value) {w:World} {A B:Nat} {e:Ev} {v:Int} (hp:tmps.getD p undef=.pointer (some ⟨A,0,none⟩)) (hq:tmps.getD q undef=.pointer (some ⟨B,0,none⟩)) (hA:CellsAt w A 33 e.cells) (hB:Box w B 44 (.int .i64 v)) (he:e.past.length=8):
    (results fn tmps).run Tryz.prog w=.ok (.tuple #[.agg e.cells.toArray,.int .i64 v]) w:=by
 have hp':tmps[p]?.getD undef=.pointer (some ⟨A,0,none⟩):=by simpa using hp
 have hq':tmps[q]?.getD undef=.pointer (some ⟨B,0,none⟩):=by simpa using hq
 have hc:=hB.cell;have hl:=run_loadVar_row w A 33 33 e.cells.toArray (0,0) _ hA Tryz.underlying33 rfl (by rw [bQ e he];simp);have hlB:(loadVar 44 ⟨B,0,none⟩).run Tryz.prog w=.ok (.int .i64 v) w:=by simp [go_sem,hc]
 simp [results,h,hp',hq',asAddr,hl,hlB]
theorem eH {fn:Func} {p q:Tmp} (h:fn.results= #[.cell p 33,.tmp q]) (tmps:Array Value) {w:World} {A:Nat} {e:Ev} {v:Value} (hp:tmps.getD p undef=.pointer (some ⟨A,0,none⟩)) (hq:tmps.getD q undef=v) (hA:CellsAt w A 33 e.cells) (he:e.past.length=8):
    (results fn tmps).run Tryz.prog w=.ok (.tuple #[.agg e.cells.toArray,v]) w:=by
 have hp':tmps[p]?.getD undef=.pointer (some ⟨A,0,none⟩):=by simpa using hp
 have hq':tmps[q]?.getD undef=v:=by simpa using hq
 have hl:=run_loadVar_row w A 33 33 e.cells.toArray (0,0) _ hA Tryz.underlying33 rfl (by rw [bQ e he];simp);simp [results,h,hp',hq',asAddr,hl]
theorem uq (x:Option Addr) (n c:Nat) (z:List Int) (w:World) (hb:Bytes w x n c z) (hz:∀v∈z,b8 v):
    Calls Tryz.prog 96 #[.slice x n c,.func (.func 97) #[] #[]] w fun e w'=>
     (ft z∧e=.returned (.tuple #[.agg (kR z).cells.toArray,.int .i64 0])∧Below w.heap.size w w')∨(¬ft z∧e=.returned (.tuple #[.agg evZ.cells.toArray,.int .i64 3])∧Below w.heap.size w w'):=by
 have hmf:=cG;have hA0:CellsAt ((w.alloc (.cells evZ.cells.toArray 33)).alloc (.cells #[.int .i64 0] 44)) w.heap.size 33 evZ.cells:=(CellsAt.new w 33 evZ.cells).alloc _;have hB0:Box ((w.alloc (.cells evZ.cells.toArray 33)).alloc (.cells #[.int .i64 0] 44)) (w.heap.size+1) 44 (.int .i64 0):=by
  have:Box ((w.alloc (.cells evZ.cells.toArray 33)).alloc (.cells #[.int .i64 0] 44)) (w.alloc (.cells evZ.cells.toArray 33)).heap.size 44 (.int .i64 0):=heap_alloc_new _ _;rw [World.size_alloc] at this
  exact this
 have hW0:Below w.heap.size w ((w.alloc (.cells evZ.cells.toArray 33)).alloc (.cells #[.int .i64 0] 44)):=((Below.refl _ _).alloc (Nat.le_refl _) _).alloc (by simp) _;have hs0:((w.alloc (.cells evZ.cells.toArray 33)).alloc (.cells #[.int .i64 0] 44)).heap.size=w.heap.size+2:=by simp
 have hpd:=fun W1 (hR1:Rd W1 (w.heap.size+2) w.heap.size z)=>qA (w.heap.size+2) w.heap.size z W1 hR1 hz
 have hEP:=mZ z;have HALL:ac (ft z↔qJ z∧(z.drop 58).length=0):=⟨by
  unfold ft qJ;rw [List.length_drop];constructor
  · rintro ⟨h1,h2,h3⟩;exact ⟨⟨by omega,h2,h3⟩,by omega⟩
  · rintro ⟨⟨h1,h2,h3⟩,h4⟩;exact ⟨by omega,h2,h3⟩⟩
 obtain ⟨U,hU⟩:∃q,kR z=q:=⟨_,rfl⟩
 rw [hU] at hpd hEP ⊢
 obtain ⟨OK,hOK⟩:∃q,qJ z=q:=⟨_,rfl⟩
 rw [hOK] at hpd HALL
 obtain ⟨ALL,hALL⟩:∃q,ft z=q:=⟨_,rfl⟩
 rw [hALL] at HALL ⊢
 have hiU:=bQ U hEP;have h1U:=dh U;have hlU:evZ.cells.length=U.cells.length:=by rw [eO U hEP];rfl
 have HEP:ac (U.past.length=8):=⟨hEP⟩
 clear hU hOK hALL hz hEP
 go_enter_defers Tryz.func96,Tryz.ntmps96
 go_upto_region 2 with fail
 refine ae (p:=fun y=>Code.wp _ _ _ _ y) (fun W0=>Below w.heap.size w W0∧W0.heap.size=w.heap.size+2∧CellsAt W0 w.heap.size 33 evZ.cells∧Box W0 (w.heap.size+1) 44 (.int .i64 0)) ⟨hW0,hs0,hA0,hB0⟩ ?_;clear hW0 hs0 hA0 hB0 hmf;rintro W0 ⟨hW0,hs0,hA0,hB0⟩;have hRx:Box (W0.alloc (.cells #[.slice x n c] 172)) (w.heap.size+2) 172 (.slice x n c):=by
  have:Box (W0.alloc (.cells #[.slice x n c] 172)) W0.heap.size 172 (.slice x n c):=heap_alloc_new _ _;rw [hs0] at this
  exact this
 have hR1:Rd (W0.alloc (.cells #[.slice x n c] 172)) (w.heap.size+2) w.heap.size z:=⟨by omega,x,n,c,hRx,fun wx hx=>hb.below ((hW0.alloc hW0.size _).trans hx)⟩
 have hA1:=hA0.alloc (.cells #[.slice x n c] 172);have hB1:=hB0.alloc (.cells #[.slice x n c] 172);have hW1:=hW0.alloc hW0.size (.cells #[.slice x n c] 172);go_upto_region 3 with fail
 refine ae (p:=fun y=>Code.wp _ _ _ _ y) (fun W1=>Below w.heap.size w W1∧Rd W1 (w.heap.size+2) w.heap.size z∧CellsAt W1 w.heap.size 33 evZ.cells∧Box W1 (w.heap.size+1) 44 (.int .i64 0)) ⟨hW1,hR1,hA1,hB1⟩ ?_;clear hW1 hR1 hA1 hB1 hRx hW0 hs0 hA0 hB0;rintro W1 ⟨hW1,hR1,hA1,hB1⟩;have hrd:=hpd W1 hR1;have keep:∀w',aW W1 w' (w.heap.size+2) w.heap.size→CellsAt w' w.heap.size 33 evZ.cells∧Box w' (w.heap.size+1) 44 (.int .i64 0):=fun w' ht=>by
  have l2:=hB1.lt;refine ⟨hA1.took ht (by omega),?_⟩;unfold Box at hB1 ⊢
  rw [ht.kept _ l2 (by omega)];exact hB1
 clear hb hR1 hpd
 by_cases hO:OK
 · have h1:Calls Tryz.prog 97 #[.pointer (some ⟨w.heap.size+2,0,none⟩)] W1 fun e w'=>e=.returned (.agg U.cells.toArray)∧Rd w' (w.heap.size+2) w.heap.size (z.drop 58)∧aW W1 w' (w.heap.size+2) w.heap.size:=hrd.mono fun e w' h=>by
    rcases h with ⟨_,h1,h2,h3⟩|⟨h,_⟩
    · exact ⟨h1,h2,h3⟩
    · exact absurd hO h
   have HO:ac OK:=⟨hO⟩
   clear hrd hO hA1 hB1;go_upto_region 4 with (first
    |(go_at_call 97;refine h1.mono ?_;rintro e w2 ⟨rfl,hR2,ht2⟩;have hk2:=keep _ ht2;have hk21:=hk2.1)
    |(refine aq rfl 33 _ _ rfl _ rfl rfl hk21 hiU hlU h1U ?_))
   have hW2:=hW1.trans ht2.below;obtain ⟨xr,nr,cr,hbr,hyr⟩:=hR2.has;have hyr0:=hyr w2 (Below.refl _ _);have hnr:=hyr0.len_eq;have hler:=hyr0.le;have htpr:=hyr0.top;have HNR:ac (nr=(z.drop 58).length):=⟨hnr⟩
   have hA3:=hk2.1.setRow U.cells;have hB3:Box (w2.setRow w.heap.size U.cells.toArray) (w.heap.size+1) 44 (.int .i64 0):=by
    have:=hk2.2;unfold Box at this ⊢
    rw [setRow_other _ _ _ _ (by omega)];exact this
   have hR3:Box (w2.setRow w.heap.size U.cells.toArray) (w.heap.size+2) 172 (.slice xr nr cr):=by
    unfold Box at hbr ⊢
    rw [setRow_other _ _ _ _ (by omega)];exact hbr
   refine ae (p:=fun y=>Code.wp _ _ _ _ y) (fun W3=>Below w.heap.size w W3∧CellsAt W3 w.heap.size 33 U.cells∧Box W3 (w.heap.size+1) 44 (.int .i64 0)∧Box W3 (w.heap.size+2) 172 (.slice xr nr cr)) ⟨below_setRow hW2 (Nat.le_refl _) _,hA3,hB3,hR3⟩ ?_;clear hA3 hB3 hR3 hW2 hk2 hk21 ht2 hR2 hbr hyr hyr0 h1 keep hW1 hnr hlU;rintro W3 ⟨hW3,hA3,hB3,hR3⟩;have cR:=hR3.cell
   by_cases h0:nr=0
   · have HALL1:ac ALL:=⟨HALL.out.2 ⟨HO.out,by rw [←HNR.out];exact h0⟩⟩
     subst h0;have hnd:=iU W3;have rU:=hA3.whole2;clear HNR;go_upto_region 5 with (go_at_call 132;refine hnd.mono ?_;rintro e w4 ⟨⟨r4,rfl⟩,rfl⟩)
     have hB4:Box (W3.setRow w.heap.size U.cells.toArray) (w.heap.size+1) 44 (.int .i64 0):=by
      unfold Box at hB3 ⊢
      rw [setRow_other _ _ _ _ (by omega)];exact hB3
     have hA4:=hA3.setRow U.cells;have cB:=hB4.cell;have fB:=hB4.frozen
     go_wp2_with (first
      |(refine af rfl 33 _ rfl _ _ rfl U.cells rU Tryz.underlying33 rfl hiU ?_)
      |(refine aq rfl 33 _ _ rfl _ rfl rfl hA3 hiU rfl h1U ?_))
     refine leaves_cons (f:=131) (args:= #[.pointer (some ⟨w.heap.size,0,none⟩),.pointer (some ⟨w.heap.size+1,0,none⟩)]) (by simp) (by simp [go_sem]) ?_;refine (pL w.heap.size (w.heap.size+1) _).mono ?_;rintro e u' w'' ⟨rfl,rfl,rfl⟩;have hA5:=hA4.setOther2 ⟨w.heap.size+1,0,none⟩ (.int .i64 0) (by show w.heap.size≠w.heap.size+1;omega);have hB5:=hB4.set (.int .i64 0);have hW5:Below w.heap.size w ((W3.setRow w.heap.size U.cells.toArray).setCell ⟨w.heap.size+1,0,none⟩ (.int .i64 0)):=(below_setRow hW3 (Nat.le_refl _) _).setCell (by show w.heap.size≤w.heap.size+1;omega) _;exact ⟨_,jq Tryz.results96 _ rfl rfl hA5 hB5 HEP.out,.inl ⟨HALL1.out,rfl,hW5⟩⟩
   · have HALL1:ac (¬ALL):=⟨fun h=>h0 (by rw [HNR.out];exact (HALL.out.1 h).2)⟩
     have hnd:=ib W3;have hnb:((nr:Int)==0)=false:=by simp;omega
     clear HNR;go_upto_region 5 with (go_at_call 132;refine hnd.mono ?_;rintro e w4 ⟨rfl,rfl⟩)
     refine leaves_cons (f:=131) (args:= #[.pointer (some ⟨w.heap.size,0,none⟩),.pointer (some ⟨w.heap.size+1,0,none⟩)]) (by simp) (by simp [go_sem]) ?_;refine (lI w.heap.size (w.heap.size+1) _ U HEP.out W3 hA3 hB3 (by omega)).mono ?_;rintro e u' w'' ⟨rfl,rfl,hA5,hB5,hbl⟩;exact ⟨_,jq Tryz.results96 _ rfl rfl hA5 hB5 rfl,.inr ⟨HALL1.out,rfl,hW3.trans (hbl w.heap.size (Nat.le_refl _) (by omega) hW3.size)⟩⟩
 · have h1:Calls Tryz.prog 97 #[.pointer (some ⟨w.heap.size+2,0,none⟩)] W1 fun e w'=>e=.panicked [dq]∧aW W1 w' (w.heap.size+2) w.heap.size:=hrd.mono fun e w' h=>by
    rcases h with ⟨h,_⟩|⟨_,h1,h2⟩
    · exact absurd h hO
    · exact ⟨h1,h2⟩
   have HALL1:ac (¬ALL):=⟨fun h=>hO (HALL.out.1 h).1⟩
   clear hrd hO hA1 hB1;go_upto_region 4 with (go_at_call 97;refine h1.mono ?_;rintro e w2 ⟨rfl,ht2⟩)
   have hk2:=keep _ ht2;have hW2:=hW1.trans ht2.below;refine leaves_cons (f:=131) (args:= #[.pointer (some ⟨w.heap.size,0,none⟩),.pointer (some ⟨w.heap.size+1,0,none⟩)]) (by simp) (by simp [go_sem]) ?_;refine (lI w.heap.size (w.heap.size+1) _ evZ rfl w2 hk2.1 hk2.2 (by omega)).mono ?_;rintro e u' w'' ⟨rfl,rfl,hA5,hB5,hbl⟩;exact ⟨_,jq Tryz.results96 _ rfl rfl hA5 hB5 rfl,.inr ⟨HALL1.out,rfl,hW2.trans (hbl w.heap.size (Nat.le_refl _) (by omega) hW2.size)⟩⟩
noncomputable def revB (z:List Int):Ev:=open Classical in if ft z then kR z else evZ
noncomputable def ec (z:List Int):Int:=open Classical in if ft z then 0 else 3
theorem iG (z:List Int):(revB z).past.length=8:=by
 unfold revB
 split
 · exact mZ z
 · rfl
theorem mN (x:Option Addr) (n c:Nat) (z:List Int) (w:World) (hb:Bytes w x n c z) (hz:∀v∈z,b8 v):
    Calls Tryz.prog 51 #[.slice x n c] w fun e w'=>e=.returned (.tuple #[.agg (revB z).cells.toArray,.int .i64 (ec z)])∧Below w.heap.size w w':=by
 have hrd:Calls Tryz.prog 96 #[.slice x n c,.func (.func 97) #[] #[]] (w.alloc (.cells evZ.cells.toArray 33)) fun e w'=>e=.returned (.tuple #[.agg (revB z).cells.toArray,.int .i64 (ec z)])∧Below (w.heap.size+1) (w.alloc (.cells evZ.cells.toArray 33)) w':=(uq x n c z _ (hb.below ((Below.refl _ _).alloc (Nat.le_refl _) _)) hz).mono fun e w' h=>by
  rw [World.size_alloc] at h
  unfold revB ec
  rcases h with ⟨h0,h1,h2⟩|⟨h0,h1,h2⟩
  · rw [if_pos h0,if_pos h0];exact ⟨h1,h2⟩
  · rw [if_neg h0,if_neg h0];exact ⟨h1,h2⟩
 have hA0:=CellsAt.new w 33 evZ.cells;have hP:=iG z;obtain ⟨E,hE⟩:∃q,ec z=q:=⟨_,rfl⟩
 obtain ⟨U,hU⟩:∃q,revB z=q:=⟨_,rfl⟩
 rw [hU] at hP
 rw [hE,hU] at hrd ⊢
 have hiU:=bQ U hP;have h1U:=dh U;have hlU:evZ.cells.length=U.cells.length:=by rw [eO U hP];rfl
 have HP:ac (U.past.length=8):=⟨hP⟩
 have hB0:Below w.heap.size w (w.alloc (.cells evZ.cells.toArray 33)):=(Below.refl _ _).alloc (Nat.le_refl _) _;clear hb hz hE hU hP;go_enter Tryz.func51,Tryz.ntmps51;go_upto_region 1 with fail
 refine ae (p:=fun y=>Code.wp _ _ _ _ y) (fun W=>CellsAt W w.heap.size 33 evZ.cells∧Below w.heap.size w W∧Calls Tryz.prog 96 #[.slice x n c,.func (.func 97) #[] #[]] W fun e w'=>e=.returned (.tuple #[.agg U.cells.toArray,.int .i64 E])∧Below (w.heap.size+1) W w') ⟨hA0,hB0,hrd⟩ ?_;clear hA0 hB0 hrd;rintro W ⟨hA0,hB0,hrd⟩
 go_wp2_with (first
  |(go_at_call 96;refine hrd.mono ?_;rintro e w1 ⟨rfl,hb1⟩;have hA1:CellsAt w1 w.heap.size 33 evZ.cells:=(by unfold CellsAt at hA0 ⊢;rw [hb1.block _ (by omega)];exact hA0))
  |(refine aq rfl 33 _ _ rfl _ rfl rfl hA1 hiU hlU h1U ?_))
 have hA2:=hA1.setRow U.cells;refine bodyPost_ret (eH Tryz.results51 _ rfl rfl hA2 HP.out) rfl ⟨rfl,?_⟩;exact below_setRow (hB0.trans (hb1.mono (by omega))) (Nat.le_refl _) _
abbrev in8 (x:Int):Prop:=0≤x∧x≤255
abbrev in32 (x:Int):Prop:=0≤x∧x≤4294967295
structure Wp.In (e:Wp):Prop where
 too:in8 e.too
 ea:in8 e.ea
 es:in32 e.es
 data:∀x∈e.data,in8 x
structure Fr.In (F:Fr):Prop where
 author:in8 F.author
 number:in32 F.number
 ea:in8 F.ea
 es:in32 F.es
 prev:∀x∈F.prev,in8 x
 mac:∀x∈F.mac,in8 x
structure gm (W:World) (F:Fr) (xw:Option Addr) (lw cw:Nat) (ws:List Wp) (xb:Option Addr) (lb cb:Nat) (body:List Int):Prop where
 prev:F.prev.length=32
 mac:F.mac.length=32
 wraps:F.wraps=.slice xw lw cw
 body_:F.body=.slice xb lb cb
 hw:WrapsAt W xw lw cw ws
 hb:Bytes W xb lb cb body
 inF:F.In
 inW:∀e∈ws,e.In
 inB:∀x∈body,in8 x
end Go.Proofs.YtbdhfbglagdiaaaGreatDoor
