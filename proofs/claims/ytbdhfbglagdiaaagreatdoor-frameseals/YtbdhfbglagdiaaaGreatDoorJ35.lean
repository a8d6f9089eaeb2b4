/- Fm4 -/
import Derived.Test.YtbdhfbglagdiaaaGreatDoorJ29
import Derived.Test.YtbdhfbglagdiaaaGreatDoorJ06
namespace Go.Proofs.YtbdhfbglagdiaaaGreatDoor
open Go.RowKit
set_option maxRecDepth 20000
set_option maxHeartbeats 4000000
set_option linter.unusedSimpArgs false
def dM:Fr:=⟨0,0,0,0,List.replicate 32 0,.slice none 0 0,.slice none 0 0,List.replicate 32 0⟩
theorem ja (n:Int) (wx:World):(Instr.typeAssert (.iface 109 (.agg #[.int .i64 n])) 20 109 true).run Tryz.prog wx=.ok (.tuple #[.agg #[.int .i64 n],.bool true]) wx:=by kernel_rfl
theorem ma (B:Nat) (v:Value) (n:Int) (w:World) (hB:Box w B 44 v):
    CallsD Tryz.prog 67 #[.pointer (some ⟨B,0,none⟩)] (.panicking [eN n]) w fun e u' w'=>
     e=.returned (.tuple #[])∧u'=.panicking [{v:=.iface 109 (.agg #[.int .i64 n]),recovered:=true}]∧Box w' B 44 (.int .i64 n)∧(∀k,k<w.heap.size→k≠B→w'.heap[k]?=w.heap[k]?)∧∀base,base≤B→base≤w.heap.size→Below base w w':=by
 have hta:=ja n;have hN1:=CellsAt.new w 109 [.int .i64 0];have hB1:=hB.alloc (.cells #[.int .i64 0] 109);have hB2:Box ((w.alloc (.cells #[.int .i64 0] 109)).setRow w.heap.size #[.int .i64 n]) B 44 v:=by
  have:=hB.lt;unfold Box at hB1 ⊢
  rw [setRow_other _ _ _ _ (by omega)];exact hB1
 have hl:=hB.lt;have cN:((w.alloc (.cells #[.int .i64 0] 109)).setRow w.heap.size #[.int .i64 n]).cell? ⟨w.heap.size,0,none⟩=some (.int .i64 n):=(hN1.setRow [.int .i64 n]).cell 0;have cB:=hB2.cell;have fB:=hB2.frozen;have iS:(Tryz.prog.info? 109).map (·.size)=some ([.int .i64 n]:List Value).length:=by kernel_rfl
 have h1S:∀v∈([.int .i64 n]:List Value),v.oneCell'=true:=by intro v hv;rw [List.mem_singleton.1 hv];rfl
 have q2:=hB2.set (.int .i64 n);have q4:∀k,k<w.heap.size→k≠B→(((w.alloc (.cells #[.int .i64 0] 109)).setRow w.heap.size #[.int .i64 n]).setCell ⟨B,0,none⟩ (.int .i64 n)).heap[k]?=w.heap[k]?:=fun k hk hne=>by
  rw [heap_setCell_other _ ⟨B,0,none⟩ k _ hne,setRow_other _ _ _ _ (by omega)];exact Below.heap_alloc w _ k hk
 have q3:∀base,base≤B→base≤w.heap.size→Below base w (((w.alloc (.cells #[.int .i64 0] 109)).setRow w.heap.size #[.int .i64 n]).setCell ⟨B,0,none⟩ (.int .i64 n)):=fun base h1 h2=>(below_setRow ((Below.refl _ _).alloc h2 _) h2 _).setCell h1 _
 clear hB hB1 hB2 hl;refine callsD_of_wpS Tryz.func67 rfl fun c₀ cs hu=>?_
 apply wpS_seq;apply wpS_region;simp [wpOpsS,go_sem,recoverD,hu,eN,Tryz.ntmps67,Exit.thenS];refine wpS_of_wp ?_;change Code.wp _ _ _ {tmps:= #[.pointer (some ⟨B,0,none⟩),undef,undef,undef,.iface 109 (.agg #[.int .i64 n]),undef,undef,undef,undef,undef,undef,undef],defers:=[]} _
 go_wp2_with (refine aw rfl 109 _ _ rfl _ rfl rfl hN1 iS rfl h1S ?_)
 simp [bodyPostS,results,Tryz.results67];exact ⟨q2,q4,q3⟩
theorem kK (B:Nat) (w:World):
    CallsD Tryz.prog 67 #[.pointer (some ⟨B,0,none⟩)] .returning w fun e u' w'=>e=.returned (.tuple #[])∧u'=.returning∧w'=w:=by
 have hni:=kX;refine callsD_of_wpS Tryz.func67 rfl fun c₀ cs hu=>?_
 apply wpS_seq;apply wpS_region;simp [wpOpsS,go_sem,recoverD,hu,Tryz.ntmps67,Exit.thenS];refine wpS_of_wp ?_;change Code.wp _ _ _ {tmps:= #[.pointer (some ⟨B,0,none⟩),undef,undef,undef,.nilIface,undef,undef,undef,undef,undef,undef,undef],defers:=[]} _;go_wp2;cases c₀
 simp_all [bodyPostS,results,Tryz.results67]
theorem jO {fn:Func} {p q:Tmp} (h:fn.results= #[.cell p 43,.cell q 44]) (tmps:Array Value) {w:World} {A B:Nat} {cs:List Value} {v:Int} (hp:tmps.getD p undef=.pointer (some ⟨A,0,none⟩)) (hq:tmps.getD q undef=.pointer (some ⟨B,0,none⟩)) (hA:CellsAt w A 43 cs) (hB:Box w B 44 (.int .i64 v)) (hi:(Tryz.prog.info? 43).map (·.size)=some cs.length):
    (results fn tmps).run Tryz.prog w=.ok (.tuple #[.agg cs.toArray,.int .i64 v]) w:=by
 have hp':tmps[p]?.getD undef=.pointer (some ⟨A,0,none⟩):=by simpa using hp
 have hq':tmps[q]?.getD undef=.pointer (some ⟨B,0,none⟩):=by simpa using hq
 have hc:=hB.cell;have hl:=run_loadVar_row w A 43 43 cs.toArray (0,0) _ hA Tryz.underlying43 rfl (by rw [hi];simp);have hlB:(loadVar 44 ⟨B,0,none⟩).run Tryz.prog w=.ok (.int .i64 v) w:=by simp [go_sem,hc]
 simp [results,h,hp',hq',asAddr,hl,hlB]
theorem qO (B:Nat) (v:Value) (n:Int) (w:World) (hB:Box w B 44 v):
    CallsD Tryz.prog 95 #[.pointer (some ⟨B,0,none⟩)] (.panicking [eN n]) w fun e u' w'=>
     e=.returned (.tuple #[])∧u'=.panicking [{v:=.iface 109 (.agg #[.int .i64 n]),recovered:=true}]∧Box w' B 44 (.int .i64 n)∧(∀k,k<w.heap.size→k≠B→w'.heap[k]?=w.heap[k]?)∧∀base,base≤B→base≤w.heap.size→Below base w w':=by
 have hta:=ja n;have hN1:=CellsAt.new w 109 [.int .i64 0];have hB1:=hB.alloc (.cells #[.int .i64 0] 109);have hB2:Box ((w.alloc (.cells #[.int .i64 0] 109)).setRow w.heap.size #[.int .i64 n]) B 44 v:=by
  have:=hB.lt;unfold Box at hB1 ⊢
  rw [setRow_other _ _ _ _ (by omega)];exact hB1
 have hl:=hB.lt;have cN:((w.alloc (.cells #[.int .i64 0] 109)).setRow w.heap.size #[.int .i64 n]).cell? ⟨w.heap.size,0,none⟩=some (.int .i64 n):=(hN1.setRow [.int .i64 n]).cell 0;have cB:=hB2.cell;have fB:=hB2.frozen;have iS:(Tryz.prog.info? 109).map (·.size)=some ([.int .i64 n]:List Value).length:=by kernel_rfl
 have h1S:∀v∈([.int .i64 n]:List Value),v.oneCell'=true:=by intro v hv;rw [List.mem_singleton.1 hv];rfl
 have q2:=hB2.set (.int .i64 n);have q4:∀k,k<w.heap.size→k≠B→(((w.alloc (.cells #[.int .i64 0] 109)).setRow w.heap.size #[.int .i64 n]).setCell ⟨B,0,none⟩ (.int .i64 n)).heap[k]?=w.heap[k]?:=fun k hk hne=>by
  rw [heap_setCell_other _ ⟨B,0,none⟩ k _ hne,setRow_other _ _ _ _ (by omega)];exact Below.heap_alloc w _ k hk
 have q3:∀base,base≤B→base≤w.heap.size→Below base w (((w.alloc (.cells #[.int .i64 0] 109)).setRow w.heap.size #[.int .i64 n]).setCell ⟨B,0,none⟩ (.int .i64 n)):=fun base h1 h2=>(below_setRow ((Below.refl _ _).alloc h2 _) h2 _).setCell h1 _
 clear hB hB1 hB2 hl;refine callsD_of_wpS Tryz.func95 rfl fun c₀ cs hu=>?_
 apply wpS_seq;apply wpS_region;simp [wpOpsS,go_sem,recoverD,hu,eN,Tryz.ntmps95,Exit.thenS];refine wpS_of_wp ?_;change Code.wp _ _ _ {tmps:= #[.pointer (some ⟨B,0,none⟩),undef,undef,undef,.iface 109 (.agg #[.int .i64 n]),undef,undef,undef,undef,undef,undef,undef],defers:=[]} _
 go_wp2_with (refine aw rfl 109 _ _ rfl _ rfl rfl hN1 iS rfl h1S ?_)
 simp [bodyPostS,results,Tryz.results95];exact ⟨q2,q4,q3⟩
theorem qb (B:Nat) (w:World):
    CallsD Tryz.prog 95 #[.pointer (some ⟨B,0,none⟩)] .returning w fun e u' w'=>e=.returned (.tuple #[])∧u'=.returning∧w'=w:=by
 have hni:=kX;refine callsD_of_wpS Tryz.func95 rfl fun c₀ cs hu=>?_
 apply wpS_seq;apply wpS_region;simp [wpOpsS,go_sem,recoverD,hu,Tryz.ntmps95,Exit.thenS];refine wpS_of_wp ?_;change Code.wp _ _ _ {tmps:= #[.pointer (some ⟨B,0,none⟩),undef,undef,undef,.nilIface,undef,undef,undef,undef,undef,undef,undef],defers:=[]} _;go_wp2;cases c₀
 simp_all [bodyPostS,results,Tryz.results95]
theorem pP {fn:Func} {p q:Tmp} (h:fn.results= #[.cell p 33,.cell q 44]) (tmps:Array Value) {w:World} {A B:Nat} {cs:List Value} {v:Int} (hp:tmps.getD p undef=.pointer (some ⟨A,0,none⟩)) (hq:tmps.getD q undef=.pointer (some ⟨B,0,none⟩)) (hA:CellsAt w A 33 cs) (hB:Box w B 44 (.int .i64 v)) (hi:(Tryz.prog.info? 33).map (·.size)=some cs.length):
    (results fn tmps).run Tryz.prog w=.ok (.tuple #[.agg cs.toArray,.int .i64 v]) w:=by
 have hp':tmps[p]?.getD undef=.pointer (some ⟨A,0,none⟩):=by simpa using hp
 have hq':tmps[q]?.getD undef=.pointer (some ⟨B,0,none⟩):=by simpa using hq
 have hc:=hB.cell;have hl:=run_loadVar_row w A 33 33 cs.toArray (0,0) _ hA Tryz.underlying33 rfl (by rw [hi];simp);have hlB:(loadVar 44 ⟨B,0,none⟩).run Tryz.prog w=.ok (.int .i64 v) w:=by simp [go_sem,hc]
 simp [results,h,hp',hq',asAddr,hl,hlB]
theorem uw (c0 c1 c2 c3 c4 c5:Value) (R:List Value→World→Prop) (w:World)
    (hs:∀W,Below w.heap.size w W→W.heap.size=w.heap.size+2→Calls Tryz.prog 22 #[c0,c1,c2,c3,c4,c5] W fun e w'=>∃cs,e=.returned (.agg cs.toArray)∧R cs w'∧Below W.heap.size W w')
    (hR:∀cs w',R cs w'→cs.length=dM.cells.length∧∀v∈cs,v.oneCell'=true):
    Calls Tryz.prog 21 #[.func (.func 22) #[] #[c0,c1,c2,c3,c4,c5]] w fun e w'=>∃cs w1,e=.returned (.tuple #[.agg cs.toArray,.int .i64 0])∧R cs w1∧w.heap.size+2≤w1.heap.size∧w1.heap.size=w'.heap.size∧(∀k,k≠w.heap.size→k≠w.heap.size+1→w'.heap[k]?=w1.heap[k]?)∧Below w.heap.size w w':=by
 have hmf:=cC;obtain ⟨Z,hzv,hz1,hZ⟩:∃Z:List Value,(∀wx,(zeroValue 43).run Tryz.prog wx=.ok (.agg Z.toArray) wx)∧¬Z.toArray= #[]∧Z=dM.cells:=⟨dM.cells,fun wx=>by kernel_rfl,by decide,rfl⟩
 rw [←hZ] at hR
 have hZl:(Tryz.prog.info? 43).map (·.size)=some Z.length:=by rw [hZ];kernel_rfl
 clear hZ;have hA0:=(CellsAt.new w 43 Z).alloc (.cells #[.int .i64 0] 44);have hB0:Box ((w.alloc (.cells Z.toArray 43)).alloc (.cells #[.int .i64 0] 44)) (w.heap.size+1) 44 (.int .i64 0):=by
  have:Box ((w.alloc (.cells Z.toArray 43)).alloc (.cells #[.int .i64 0] 44)) (w.alloc (.cells Z.toArray 43)).heap.size 44 (.int .i64 0):=heap_alloc_new _ _;rw [World.size_alloc] at this
  exact this
 have hW0:Below w.heap.size w ((w.alloc (.cells Z.toArray 43)).alloc (.cells #[.int .i64 0] 44)):=((Below.refl _ _).alloc (Nat.le_refl _) _).alloc (by simp) _;have hs0:((w.alloc (.cells Z.toArray 43)).alloc (.cells #[.int .i64 0] 44)).heap.size=w.heap.size+2:=by simp
 have HS:=ac.mk hs;have HR:=ac.mk hR;clear hs hR
 go_enter_defers Tryz.func21,Tryz.ntmps21
 go_upto_region 2 with fail
 refine af (p:=fun y=>Code.wp _ _ _ _ y) (fun W0=>Below w.heap.size w W0∧W0.heap.size=w.heap.size+2∧CellsAt W0 w.heap.size 43 Z∧Box W0 (w.heap.size+1) 44 (.int .i64 0)) ⟨hW0,hs0,hA0,hB0⟩ ?_;clear hW0 hs0 hA0 hB0 hmf hzv hz1;rintro W0 ⟨hW0,hs0,hA0,hB0⟩;have h1:=HS.out W0 hW0 hs0;have HKP:ac (∀w1,Below W0.heap.size W0 w1→CellsAt w1 w.heap.size 43 Z∧Box w1 (w.heap.size+1) 44 (.int .i64 0)∧Below w.heap.size w w1∧w.heap.size+2≤w1.heap.size):=⟨fun w1 h=>⟨hA0.farM h,by unfold Box at hB0 ⊢;rw [h.block _ (by omega)];exact hB0,hW0.trans (h.mono hW0.size),by have:=h.size;omega⟩⟩
 have HSB:ac (∀(w1:World) (cs:List Value),Box w1 (w.heap.size+1) 44 (.int .i64 0)→Box (w1.setRow w.heap.size cs.toArray) (w.heap.size+1) 44 (.int .i64 0)):=⟨fun w1 cs h=>by unfold Box at h ⊢;rw [setRow_other _ _ _ _ (by omega)];exact h⟩
 have HIN:ac (∀cs:List Value,cs.length=Z.length→(Tryz.prog.info? 43).map (·.size)=some cs.length):=⟨fun cs h=>by rw [h];exact hZl⟩
 clear hs0 hA0 hB0 hW0 HS hZl
 go_wp2_with (first
  |(go_at_call 22;refine h1.mono ?_;rintro e w1 ⟨cs,rfl,hr1,hb1⟩;obtain ⟨hA1,hB1,hW1,hs1⟩:=HKP.out w1 hb1;obtain ⟨hcl,hc1⟩:=HR.out cs w1 hr1;have hiC:=HIN.out cs hcl;have hB2:=HSB.out w1 cs hB1;have cB:=hB2.cell;have fB:=hB2.frozen;have HR1:=ac.mk hr1;clear h1 HKP HSB HIN hr1 hB1 hb1)
  |(refine aw rfl 43 _ _ rfl _ rfl rfl hA1 hiC hcl.symm hc1 ?_))
 refine leaves_cons (f:=67) (args:= #[.pointer (some ⟨w.heap.size+1,0,none⟩)]) (by simp) (by simp [go_sem]) ?_;refine (kK (w.heap.size+1) _).mono ?_;rintro e u' w'' ⟨rfl,rfl,rfl⟩;have hA5:=(hA1.setRow cs).setOther2 ⟨w.heap.size+1,0,none⟩ (.int .i64 0) (by show w.heap.size≠w.heap.size+1;omega);have hB5:=hB2.set (.int .i64 0);have hW5:Below w.heap.size w ((w1.setRow w.heap.size cs.toArray).setCell ⟨w.heap.size+1,0,none⟩ (.int .i64 0)):=(below_setRow hW1 (Nat.le_refl _) _).setCell (by show w.heap.size≤w.heap.size+1;omega) _;exact ⟨_,jO Tryz.results21 _ rfl rfl hA5 hB5 hiC,cs,w1,rfl,HR1.out,hs1,by simp [World.setCell,World.setRow],fun k h1 h2=>by rw [heap_setCell_other _ ⟨w.heap.size+1,0,none⟩ k _ h2,setRow_other _ _ _ _ h1],hW5⟩
theorem rB (c0 c1 c2 c3 c4 c5:Value) (n:Int) (w:World)
    (hs:∀W,Below w.heap.size w W→W.heap.size=w.heap.size+2→Calls Tryz.prog 22 #[c0,c1,c2,c3,c4,c5] W fun e w'=>e=.panicked [eN n]∧Below W.heap.size W w'):
    Calls Tryz.prog 21 #[.func (.func 22) #[] #[c0,c1,c2,c3,c4,c5]] w fun e w'=>e=.returned (.tuple #[.agg dM.cells.toArray,.int .i64 n])∧Below w.heap.size w w':=by
 have hmf:=cC;obtain ⟨Z,hzv,hz1,hZ⟩:∃Z:List Value,(∀wx,(zeroValue 43).run Tryz.prog wx=.ok (.agg Z.toArray) wx)∧¬Z.toArray= #[]∧Z=dM.cells:=⟨dM.cells,fun wx=>by kernel_rfl,by decide,rfl⟩
 rw [←hZ];have hZl:(Tryz.prog.info? 43).map (·.size)=some Z.length:=by rw [hZ];kernel_rfl
 clear hZ;have hA0:=(CellsAt.new w 43 Z).alloc (.cells #[.int .i64 0] 44);have hB0:Box ((w.alloc (.cells Z.toArray 43)).alloc (.cells #[.int .i64 0] 44)) (w.heap.size+1) 44 (.int .i64 0):=by
  have:Box ((w.alloc (.cells Z.toArray 43)).alloc (.cells #[.int .i64 0] 44)) (w.alloc (.cells Z.toArray 43)).heap.size 44 (.int .i64 0):=heap_alloc_new _ _;rw [World.size_alloc] at this
  exact this
 have hW0:Below w.heap.size w ((w.alloc (.cells Z.toArray 43)).alloc (.cells #[.int .i64 0] 44)):=((Below.refl _ _).alloc (Nat.le_refl _) _).alloc (by simp) _;have hs0:((w.alloc (.cells Z.toArray 43)).alloc (.cells #[.int .i64 0] 44)).heap.size=w.heap.size+2:=by simp
 have HS:=ac.mk hs;clear hs
 go_enter_defers Tryz.func21,Tryz.ntmps21
 go_upto_region 2 with fail
 refine af (p:=fun y=>Code.wp _ _ _ _ y) (fun W0=>Below w.heap.size w W0∧W0.heap.size=w.heap.size+2∧CellsAt W0 w.heap.size 43 Z∧Box W0 (w.heap.size+1) 44 (.int .i64 0)) ⟨hW0,hs0,hA0,hB0⟩ ?_;clear hW0 hs0 hA0 hB0 hmf hzv hz1;rintro W0 ⟨hW0,hs0,hA0,hB0⟩;have h1:=HS.out W0 hW0 hs0;have HKP:ac (∀w1,Below W0.heap.size W0 w1→CellsAt w1 w.heap.size 43 Z∧Box w1 (w.heap.size+1) 44 (.int .i64 0)∧Below w.heap.size w w1∧w.heap.size+2≤w1.heap.size):=⟨fun w1 h=>⟨hA0.farM h,by unfold Box at hB0 ⊢;rw [h.block _ (by omega)];exact hB0,hW0.trans (h.mono hW0.size),by have:=h.size;omega⟩⟩
 clear hs0 hA0 hB0 hW0 HS
 go_wp2_with (go_at_call 22;refine h1.mono ?_;rintro e w1 ⟨rfl,hb1⟩)
 obtain ⟨hA1,hB1,hW1,hs1⟩:=HKP.out w1 hb1;refine leaves_cons (f:=67) (args:= #[.pointer (some ⟨w.heap.size+1,0,none⟩)]) (by simp) (by simp [go_sem]) ?_;refine (ma (w.heap.size+1) _ n w1 hB1).mono ?_;rintro e u' w'' ⟨rfl,rfl,hB5,hk5,hbl⟩;have hA5:CellsAt w'' w.heap.size 43 Z:=hA1.congr (hk5 _ (by omega) (by omega));exact ⟨_,jO Tryz.results21 _ rfl rfl hA5 hB5 hZl,rfl,hW1.trans (hbl w.heap.size (by omega) (by omega))⟩
theorem uj (c0 c1:Value) (R:List Value→World→Prop) (w:World)
    (hs:∀W,Below w.heap.size w W→W.heap.size=w.heap.size+2→Calls Tryz.prog 56 #[c0,c1] W fun e w'=>∃cs,e=.returned (.agg cs.toArray)∧R cs w'∧Below W.heap.size W w')
    (hR:∀cs w',R cs w'→cs.length=dM.cells.length∧∀v∈cs,v.oneCell'=true):
    Calls Tryz.prog 21 #[.func (.func 56) #[] #[c0,c1]] w fun e w'=>∃cs w1,e=.returned (.tuple #[.agg cs.toArray,.int .i64 0])∧R cs w1∧w.heap.size+2≤w1.heap.size∧w1.heap.size=w'.heap.size∧(∀k,k≠w.heap.size→k≠w.heap.size+1→w'.heap[k]?=w1.heap[k]?)∧Below w.heap.size w w':=by
 have hmf:=cC;obtain ⟨Z,hzv,hz1,hZ⟩:∃Z:List Value,(∀wx,(zeroValue 43).run Tryz.prog wx=.ok (.agg Z.toArray) wx)∧¬Z.toArray= #[]∧Z=dM.cells:=⟨dM.cells,fun wx=>by kernel_rfl,by decide,rfl⟩
 rw [←hZ] at hR
 have hZl:(Tryz.prog.info? 43).map (·.size)=some Z.length:=by rw [hZ];kernel_rfl
 clear hZ;have hA0:=(CellsAt.new w 43 Z).alloc (.cells #[.int .i64 0] 44);have hB0:Box ((w.alloc (.cells Z.toArray 43)).alloc (.cells #[.int .i64 0] 44)) (w.heap.size+1) 44 (.int .i64 0):=by
  have:Box ((w.alloc (.cells Z.toArray 43)).alloc (.cells #[.int .i64 0] 44)) (w.alloc (.cells Z.toArray 43)).heap.size 44 (.int .i64 0):=heap_alloc_new _ _;rw [World.size_alloc] at this
  exact this
 have hW0:Below w.heap.size w ((w.alloc (.cells Z.toArray 43)).alloc (.cells #[.int .i64 0] 44)):=((Below.refl _ _).alloc (Nat.le_refl _) _).alloc (by simp) _;have hs0:((w.alloc (.cells Z.toArray 43)).alloc (.cells #[.int .i64 0] 44)).heap.size=w.heap.size+2:=by simp
 have HS:=ac.mk hs;have HR:=ac.mk hR;clear hs hR
 go_enter_defers Tryz.func21,Tryz.ntmps21
 go_upto_region 2 with fail
 refine af (p:=fun y=>Code.wp _ _ _ _ y) (fun W0=>Below w.heap.size w W0∧W0.heap.size=w.heap.size+2∧CellsAt W0 w.heap.size 43 Z∧Box W0 (w.heap.size+1) 44 (.int .i64 0)) ⟨hW0,hs0,hA0,hB0⟩ ?_;clear hW0 hs0 hA0 hB0 hmf hzv hz1;rintro W0 ⟨hW0,hs0,hA0,hB0⟩;have h1:=HS.out W0 hW0 hs0;have HKP:ac (∀w1,Below W0.heap.size W0 w1→CellsAt w1 w.heap.size 43 Z∧Box w1 (w.heap.size+1) 44 (.int .i64 0)∧Below w.heap.size w w1∧w.heap.size+2≤w1.heap.size):=⟨fun w1 h=>⟨hA0.farM h,by unfold Box at hB0 ⊢;rw [h.block _ (by omega)];exact hB0,hW0.trans (h.mono hW0.size),by have:=h.size;omega⟩⟩
 have HSB:ac (∀(w1:World) (cs:List Value),Box w1 (w.heap.size+1) 44 (.int .i64 0)→Box (w1.setRow w.heap.size cs.toArray) (w.heap.size+1) 44 (.int .i64 0)):=⟨fun w1 cs h=>by unfold Box at h ⊢;rw [setRow_other _ _ _ _ (by omega)];exact h⟩
 have HIN:ac (∀cs:List Value,cs.length=Z.length→(Tryz.prog.info? 43).map (·.size)=some cs.length):=⟨fun cs h=>by rw [h];exact hZl⟩
 clear hs0 hA0 hB0 hW0 HS hZl
 go_wp2_with (first
  |(go_at_call 56;refine h1.mono ?_;rintro e w1 ⟨cs,rfl,hr1,hb1⟩;obtain ⟨hA1,hB1,hW1,hs1⟩:=HKP.out w1 hb1;obtain ⟨hcl,hc1⟩:=HR.out cs w1 hr1;have hiC:=HIN.out cs hcl;have hB2:=HSB.out w1 cs hB1;have cB:=hB2.cell;have fB:=hB2.frozen;have HR1:=ac.mk hr1;clear h1 HKP HSB HIN hr1 hB1 hb1)
  |(refine aw rfl 43 _ _ rfl _ rfl rfl hA1 hiC hcl.symm hc1 ?_))
 refine leaves_cons (f:=67) (args:= #[.pointer (some ⟨w.heap.size+1,0,none⟩)]) (by simp) (by simp [go_sem]) ?_;refine (kK (w.heap.size+1) _).mono ?_;rintro e u' w'' ⟨rfl,rfl,rfl⟩;have hA5:=(hA1.setRow cs).setOther2 ⟨w.heap.size+1,0,none⟩ (.int .i64 0) (by show w.heap.size≠w.heap.size+1;omega);have hB5:=hB2.set (.int .i64 0);have hW5:Below w.heap.size w ((w1.setRow w.heap.size cs.toArray).setCell ⟨w.heap.size+1,0,none⟩ (.int .i64 0)):=(below_setRow hW1 (Nat.le_refl _) _).setCell (by show w.heap.size≤w.heap.size+1;omega) _;exact ⟨_,jO Tryz.results21 _ rfl rfl hA5 hB5 hiC,cs,w1,rfl,HR1.out,hs1,by simp [World.setCell,World.setRow],fun k h1 h2=>by rw [heap_setCell_other _ ⟨w.heap.size+1,0,none⟩ k _ h2,setRow_other _ _ _ _ h1],hW5⟩
theorem rm (c0 c1:Value) (n:Int) (w:World)
    (hs:∀W,Below w.heap.size w W→W.heap.size=w.heap.size+2→Calls Tryz.prog 56 #[c0,c1] W fun e w'=>e=.panicked [eN n]∧Below W.heap.size W w'):
    Calls Tryz.prog 21 #[.func (.func 56) #[] #[c0,c1]] w fun e w'=>e=.returned (.tuple #[.agg dM.cells.toArray,.int .i64 n])∧Below w.heap.size w w':=by
 have hmf:=cC;obtain ⟨Z,hzv,hz1,hZ⟩:∃Z:List Value,(∀wx,(zeroValue 43).run Tryz.prog wx=.ok (.agg Z.toArray) wx)∧¬Z.toArray= #[]∧Z=dM.cells:=⟨dM.cells,fun wx=>by kernel_rfl,by decide,rfl⟩
 rw [←hZ];have hZl:(Tryz.prog.info? 43).map (·.size)=some Z.length:=by rw [hZ];kernel_rfl
 clear hZ;have hA0:=(CellsAt.new w 43 Z).alloc (.cells #[.int .i64 0] 44);have hB0:Box ((w.alloc (.cells Z.toArray 43)).alloc (.cells #[.int .i64 0] 44)) (w.heap.size+1) 44 (.int .i64 0):=by
  have:Box ((w.alloc (.cells Z.toArray 43)).alloc (.cells #[.int .i64 0] 44)) (w.alloc (.cells Z.toArray 43)).heap.size 44 (.int .i64 0):=heap_alloc_new _ _;rw [World.size_alloc] at this
  exact this
 have hW0:Below w.heap.size w ((w.alloc (.cells Z.toArray 43)).alloc (.cells #[.int .i64 0] 44)):=((Below.refl _ _).alloc (Nat.le_refl _) _).alloc (by simp) _;have hs0:((w.alloc (.cells Z.toArray 43)).alloc (.cells #[.int .i64 0] 44)).heap.size=w.heap.size+2:=by simp
 have HS:=ac.mk hs;clear hs
 go_enter_defers Tryz.func21,Tryz.ntmps21
 go_upto_region 2 with fail
 refine af (p:=fun y=>Code.wp _ _ _ _ y) (fun W0=>Below w.heap.size w W0∧W0.heap.size=w.heap.size+2∧CellsAt W0 w.heap.size 43 Z∧Box W0 (w.heap.size+1) 44 (.int .i64 0)) ⟨hW0,hs0,hA0,hB0⟩ ?_;clear hW0 hs0 hA0 hB0 hmf hzv hz1;rintro W0 ⟨hW0,hs0,hA0,hB0⟩;have h1:=HS.out W0 hW0 hs0;have HKP:ac (∀w1,Below W0.heap.size W0 w1→CellsAt w1 w.heap.size 43 Z∧Box w1 (w.heap.size+1) 44 (.int .i64 0)∧Below w.heap.size w w1∧w.heap.size+2≤w1.heap.size):=⟨fun w1 h=>⟨hA0.farM h,by unfold Box at hB0 ⊢;rw [h.block _ (by omega)];exact hB0,hW0.trans (h.mono hW0.size),by have:=h.size;omega⟩⟩
 clear hs0 hA0 hB0 hW0 HS
 go_wp2_with (go_at_call 56;refine h1.mono ?_;rintro e w1 ⟨rfl,hb1⟩)
 obtain ⟨hA1,hB1,hW1,hs1⟩:=HKP.out w1 hb1;refine leaves_cons (f:=67) (args:= #[.pointer (some ⟨w.heap.size+1,0,none⟩)]) (by simp) (by simp [go_sem]) ?_;refine (ma (w.heap.size+1) _ n w1 hB1).mono ?_;rintro e u' w'' ⟨rfl,rfl,hB5,hk5,hbl⟩;have hA5:CellsAt w'' w.heap.size 43 Z:=hA1.congr (hk5 _ (by omega) (by omega));exact ⟨_,jO Tryz.results21 _ rfl rfl hA5 hB5 hZl,rfl,hW1.trans (hbl w.heap.size (by omega) (by omega))⟩
theorem sX (c0 c1:Value) (R:List Value→World→Prop) (w:World)
    (hs:∀W,Below w.heap.size w W→W.heap.size=w.heap.size+2→Calls Tryz.prog 47 #[c0,c1] W fun e w'=>∃cs,e=.returned (.agg cs.toArray)∧R cs w'∧Below W.heap.size W w')
    (hR:∀cs w',R cs w'→cs.length=evZ.cells.length∧∀v∈cs,v.oneCell'=true):
    Calls Tryz.prog 46 #[.func (.func 47) #[] #[c0,c1]] w fun e w'=>∃cs w1,e=.returned (.tuple #[.agg cs.toArray,.int .i64 0])∧R cs w1∧w.heap.size+2≤w1.heap.size∧w1.heap.size=w'.heap.size∧(∀k,k≠w.heap.size→k≠w.heap.size+1→w'.heap[k]?=w1.heap[k]?)∧Below w.heap.size w w':=by
 have hmf:=cC;obtain ⟨Z,hzv,hz1,hZ⟩:∃Z:List Value,(∀wx,(zeroValue 33).run Tryz.prog wx=.ok (.agg Z.toArray) wx)∧¬Z.toArray= #[]∧Z=evZ.cells:=⟨evZ.cells,fun wx=>by kernel_rfl,by decide,rfl⟩
 rw [←hZ] at hR
 have hZl:(Tryz.prog.info? 33).map (·.size)=some Z.length:=by rw [hZ];kernel_rfl
 clear hZ;have hA0:=(CellsAt.new w 33 Z).alloc (.cells #[.int .i64 0] 44);have hB0:Box ((w.alloc (.cells Z.toArray 33)).alloc (.cells #[.int .i64 0] 44)) (w.heap.size+1) 44 (.int .i64 0):=by
  have:Box ((w.alloc (.cells Z.toArray 33)).alloc (.cells #[.int .i64 0] 44)) (w.alloc (.cells Z.toArray 33)).heap.size 44 (.int .i64 0):=heap_alloc_new _ _;rw [World.size_alloc] at this
  exact this
 have hW0:Below w.heap.size w ((w.alloc (.cells Z.toArray 33)).alloc (.cells #[.int .i64 0] 44)):=((Below.refl _ _).alloc (Nat.le_refl _) _).alloc (by simp) _;have hs0:((w.alloc (.cells Z.toArray 33)).alloc (.cells #[.int .i64 0] 44)).heap.size=w.heap.size+2:=by simp
 have HS:=ac.mk hs;have HR:=ac.mk hR;clear hs hR
 go_enter_defers Tryz.func46,Tryz.ntmps46
 go_upto_region 2 with fail
 refine af (p:=fun y=>Code.wp _ _ _ _ y) (fun W0=>Below w.heap.size w W0∧W0.heap.size=w.heap.size+2∧CellsAt W0 w.heap.size 33 Z∧Box W0 (w.heap.size+1) 44 (.int .i64 0)) ⟨hW0,hs0,hA0,hB0⟩ ?_;clear hW0 hs0 hA0 hB0 hmf hzv hz1;rintro W0 ⟨hW0,hs0,hA0,hB0⟩;have h1:=HS.out W0 hW0 hs0;have HKP:ac (∀w1,Below W0.heap.size W0 w1→CellsAt w1 w.heap.size 33 Z∧Box w1 (w.heap.size+1) 44 (.int .i64 0)∧Below w.heap.size w w1∧w.heap.size+2≤w1.heap.size):=⟨fun w1 h=>⟨hA0.farM h,by unfold Box at hB0 ⊢;rw [h.block _ (by omega)];exact hB0,hW0.trans (h.mono hW0.size),by have:=h.size;omega⟩⟩
 have HSB:ac (∀(w1:World) (cs:List Value),Box w1 (w.heap.size+1) 44 (.int .i64 0)→Box (w1.setRow w.heap.size cs.toArray) (w.heap.size+1) 44 (.int .i64 0)):=⟨fun w1 cs h=>by unfold Box at h ⊢;rw [setRow_other _ _ _ _ (by omega)];exact h⟩
 have HIN:ac (∀cs:List Value,cs.length=Z.length→(Tryz.prog.info? 33).map (·.size)=some cs.length):=⟨fun cs h=>by rw [h];exact hZl⟩
 clear hs0 hA0 hB0 hW0 HS hZl
 go_wp2_with (first
  |(go_at_call 47;refine h1.mono ?_;rintro e w1 ⟨cs,rfl,hr1,hb1⟩;obtain ⟨hA1,hB1,hW1,hs1⟩:=HKP.out w1 hb1;obtain ⟨hcl,hc1⟩:=HR.out cs w1 hr1;have hiC:=HIN.out cs hcl;have hB2:=HSB.out w1 cs hB1;have cB:=hB2.cell;have fB:=hB2.frozen;have HR1:=ac.mk hr1;clear h1 HKP HSB HIN hr1 hB1 hb1)
  |(refine aw rfl 33 _ _ rfl _ rfl rfl hA1 hiC hcl.symm hc1 ?_))
 refine leaves_cons (f:=95) (args:= #[.pointer (some ⟨w.heap.size+1,0,none⟩)]) (by simp) (by simp [go_sem]) ?_;refine (qb (w.heap.size+1) _).mono ?_;rintro e u' w'' ⟨rfl,rfl,rfl⟩;have hA5:=(hA1.setRow cs).setOther2 ⟨w.heap.size+1,0,none⟩ (.int .i64 0) (by show w.heap.size≠w.heap.size+1;omega);have hB5:=hB2.set (.int .i64 0);have hW5:Below w.heap.size w ((w1.setRow w.heap.size cs.toArray).setCell ⟨w.heap.size+1,0,none⟩ (.int .i64 0)):=(below_setRow hW1 (Nat.le_refl _) _).setCell (by show w.heap.size≤w.heap.size+1;omega) _;exact ⟨_,pP Tryz.results46 _ rfl rfl hA5 hB5 hiC,cs,w1,rfl,HR1.out,hs1,by simp [World.setCell,World.setRow],fun k h1 h2=>by rw [heap_setCell_other _ ⟨w.heap.size+1,0,none⟩ k _ h2,setRow_other _ _ _ _ h1],hW5⟩
theorem rH (c0 c1:Value) (n:Int) (w:World)
    (hs:∀W,Below w.heap.size w W→W.heap.size=w.heap.size+2→Calls Tryz.prog 47 #[c0,c1] W fun e w'=>e=.panicked [eN n]∧Below W.heap.size W w'):
    Calls Tryz.prog 46 #[.func (.func 47) #[] #[c0,c1]] w fun e w'=>e=.returned (.tuple #[.agg evZ.cells.toArray,.int .i64 n])∧Below w.heap.size w w':=by
 have hmf:=cC;obtain ⟨Z,hzv,hz1,hZ⟩:∃Z:List Value,(∀wx,(zeroValue 33).run Tryz.prog wx=.ok (.agg Z.toArray) wx)∧¬Z.toArray= #[]∧Z=evZ.cells:=⟨evZ.cells,fun wx=>by kernel_rfl,by decide,rfl⟩
 rw [←hZ];have hZl:(Tryz.prog.info? 33).map (·.size)=some Z.length:=by rw [hZ];kernel_rfl
 clear hZ;have hA0:=(CellsAt.new w 33 Z).alloc (.cells #[.int .i64 0] 44);have hB0:Box ((w.alloc (.cells Z.toArray 33)).alloc (.cells #[.int .i64 0] 44)) (w.heap.size+1) 44 (.int .i64 0):=by
  have:Box ((w.alloc (.cells Z.toArray 33)).alloc (.cells #[.int .i64 0] 44)) (w.alloc (.cells Z.toArray 33)).heap.size 44 (.int .i64 0):=heap_alloc_new _ _;rw [World.size_alloc] at this
  exact this
 have hW0:Below w.heap.size w ((w.alloc (.cells Z.toArray 33)).alloc (.cells #[.int .i64 0] 44)):=((Below.refl _ _).alloc (Nat.le_refl _) _).alloc (by simp) _;have hs0:((w.alloc (.cells Z.toArray 33)).alloc (.cells #[.int .i64 0] 44)).heap.size=w.heap.size+2:=by simp
 have HS:=ac.mk hs;clear hs
 go_enter_defers Tryz.func46,Tryz.ntmps46
 go_upto_region 2 with fail
 refine af (p:=fun y=>Code.wp _ _ _ _ y) (fun W0=>Below w.heap.size w W0∧W0.heap.size=w.heap.size+2∧CellsAt W0 w.heap.size 33 Z∧Box W0 (w.heap.size+1) 44 (.int .i64 0)) ⟨hW0,hs0,hA0,hB0⟩ ?_;clear hW0 hs0 hA0 hB0 hmf hzv hz1;rintro W0 ⟨hW0,hs0,hA0,hB0⟩;have h1:=HS.out W0 hW0 hs0;have HKP:ac (∀w1,Below W0.heap.size W0 w1→CellsAt w1 w.heap.size 33 Z∧Box w1 (w.heap.size+1) 44 (.int .i64 0)∧Below w.heap.size w w1∧w.heap.size+2≤w1.heap.size):=⟨fun w1 h=>⟨hA0.farM h,by unfold Box at hB0 ⊢;rw [h.block _ (by omega)];exact hB0,hW0.trans (h.mono hW0.size),by have:=h.size;omega⟩⟩
 clear hs0 hA0 hB0 hW0 HS
 go_wp2_with (go_at_call 47;refine h1.mono ?_;rintro e w1 ⟨rfl,hb1⟩)
 obtain ⟨hA1,hB1,hW1,hs1⟩:=HKP.out w1 hb1;refine leaves_cons (f:=95) (args:= #[.pointer (some ⟨w.heap.size+1,0,none⟩)]) (by simp) (by simp [go_sem]) ?_;refine (qO (w.heap.size+1) _ n w1 hB1).mono ?_;rintro e u' w'' ⟨rfl,rfl,hB5,hk5,hbl⟩;have hA5:CellsAt w'' w.heap.size 33 Z:=hA1.congr (hk5 _ (by omega) (by omega));exact ⟨_,pP Tryz.results46 _ rfl rfl hA5 hB5 hZl,rfl,hW1.trans (hbl w.heap.size (by omega) (by omega))⟩
end Go.Proofs.YtbdhfbglagdiaaaGreatDoor
