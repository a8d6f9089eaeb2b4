/- GoF GoW Re6 Pure Leaf -/
import Derived.Test.YtbdhfbglagdiaaaGreatDoorRows
import Derived.Test.YtbdhfbglagdiaaaGreatDoorG06
import Derived.ProofKit
import Derived.OpenShut
import Derived.ChangeOld
import Derived.ChangeSame
import Derived.Deep.DeepHandedRow
import Derived.Test.YtbdhfbglagdiaaaGreatDoorCards
import Derived.Test.YtbdhfbglagdiaaaGreatDoorTie
import Derived.Test.YtbdhfbglagdiaaaGreatDoorG05
import Derived.Lib.LaidTab
import Derived.Laws.Entries
import Derived.Test.YtbdhfbglagdiaaaGreatDoorProg
import Derived.WalkKit
import Derived.WalkSpells
import Derived.WalkLawsBesides
import Derived.Deep.QuietTactic
import Derived.BigQuiet
namespace Go.Proofs.YtbdhfbglagdiaaaGreatDoor
open Go.ChangeShapes Go.WideShapes Go.ChangeAt Go.RowKit
set_option maxRecDepth 20000
theorem cellsU8:Tryz.prog.cellsOf 5=1:=by kernel_rfl
theorem open_row {H:Type} {enc:TypeId×Value→H} {P:Program} {W:World} {r:Reach} {base n:Nat} {t e:TypeId} {k:IntKind} {v:Value} {d:DataW H} {p:List MemPlace} (hu:P.underlying t=some (.array n e)) (he:P.underlying e=some (.int k)) (hce:P.cellsOf e=1) (hct:P.cellsOf t=n)
    (hv:Value.okWide P W r base t v) (h:DataW.Trod enc P W 0 (fun _=>true) true t v d p):
    ∃l:List Int,l.length=n∧v=.agg (row k l)∧∀x∈l,(Lit.int k x).wf=true:=by
 simp only [Value.okWide,hu] at hv
 obtain ⟨cs,rfl,hsz,_⟩:=hv;rw [hct] at hsz
 obtain ⟨fuel,hf⟩:=h;obtain ⟨xs,m,_,_,_,hlen,hel⟩:=DataW.trod_array hu hf;simp only [Value.cells,hce,Nat.mul_one] at hel
 have key:∀i (hi:i<cs.size),cs[i]=.int k (intOf cs[i])∧(Lit.int k (intOf cs[i])).wf=true:=fun i hi=>by
  have h1:=hel i (by omega);rw [List.getElem?_eq_getElem (by omega)] at h1
  obtain ⟨a,ea,_,wa⟩:=DataW.trod_int he h1;have e1:(cs.toList.drop i).take 1=[cs[i]]:=by
   rw [List.drop_eq_getElem_cons (by simpa using hi)];simp
  rw [e1] at ea
  have e2:cs[i]=.int k a:=by simpa using ea
  rw [e2];exact ⟨rfl,wa⟩
 refine ⟨cs.toList.map intOf,by simp [hsz],?_,?_⟩
 · congr 1
   apply Array.ext (by simp [row]);intro i h1 h2;have:=(key i h1).1;simp only [row,List.map_map,gA,List.getElem_map,Function.comp,Array.getElem_toList];exact this
 · intro x hx
   obtain ⟨c,hc,rfl⟩:=List.mem_map.1 hx;obtain ⟨i,hi,rfl⟩:=List.mem_iff_getElem.1 hc;have:=(key i (by simpa using hi)).2
   simpa using this
theorem gz {H:Type} {enc:TypeId×Value→H} {P:Program} {W:World} {n fuel:Nat} {t e:TypeId} {k:IntKind} {cs:List Value} {x:DataW H×List MemPlace} (hu:P.underlying t=some (.array n e)) (he:P.underlying e=some (.int k)) (hce:P.cellsOf e=1)
    (hsz:cs.length=n) (h:DataW.trod enc P W 0 (fun _=>true) true fuel t cs=some x):
    ∃l:List Int,l.length=n∧cs=l.map (Value.int k)∧∀x∈l,(Lit.int k x).wf=true:=by
 obtain ⟨xs,m,_,_,_,hlen,hel⟩:=DataW.trod_array hu h;simp only [hce,Nat.mul_one] at hel
 have key:∀i (hi:i<cs.length),cs[i]=.int k (intOf cs[i])∧(Lit.int k (intOf cs[i])).wf=true:=fun i hi=>by
  have h1:=hel i (by omega);rw [List.getElem?_eq_getElem (by omega)] at h1
  obtain ⟨a,ea,_,wa⟩:=DataW.trod_int he h1;have e1:(cs.drop i).take 1=[cs[i]]:=by
   rw [List.drop_eq_getElem_cons hi,List.take_succ_cons,List.take_zero]
  rw [e1] at ea
  have e2:cs[i]=.int k a:=by simpa using ea
  rw [e2];exact ⟨rfl,wa⟩
 refine ⟨cs.map intOf,by simp [hsz],?_,?_⟩
 · apply List.ext_getElem (by simp)
   intro i h1 h2;have:=(key i h1).1;simp only [List.map_map,List.getElem_map,Function.comp];exact this
 · intro x hx
   obtain ⟨c,hc,rfl⟩:=List.mem_map.1 hx;obtain ⟨i,hi,rfl⟩:=List.mem_iff_getElem.1 hc;exact (key i hi).2
theorem mM {H:Type} {enc:TypeId×Value→H} {W:World} {fuel:Nat} {cs:List Value} {x:DataW H×List MemPlace} (h:DataW.trod enc Tryz.prog W 0 (fun _=>true) true fuel 41 cs=some x):
    ∃y len cap z,cs=[.slice y len cap]∧Bytes W y len cap z∧(∀v∈z,0≤v∧v≤255):=by
 rcases open_ints Tryz.underlying41 Tryz.underlying5 cellsU8 h with ⟨hcs,_⟩|⟨a,l,c,zs,hcs,_,hl,hm,hz,_,hcell,hwz⟩
 · exact ⟨none,0,0,[],hcs,bO W,by simp⟩
 · simp only [if_true] at hz
   refine ⟨some a,l,c,zs.take l,hcs,⟨by simp;omega,hl,by simpa [maxLen] using hm,(fun h=>by cases h),?_⟩,fun v hv=>bounds_u8 (hwz v (List.mem_of_mem_take hv))⟩
   by_cases h0:l=0
   · exact .inl h0
   · obtain ⟨b,off,rfl,hc⟩:=ints_at hcell (by omega)
     refine .inr ⟨b,off,rfl,fun j hj=>?_⟩;have:=hc j (by omega);rw [List.getElem?_take_of_lt hj];rw [List.getD_eq_getElem?_getD] at this
     exact this
theorem qq {α:Type} (n:Nat) (p:Nat→α→Prop) (h:∀i,i<n→∃a,p i a):∃l:List α,l.length=n∧∀i (hi:i<l.length),p i l[i]:=by
 induction n with
 |zero=>exact ⟨[],rfl,fun i hi=>by cases hi⟩
 |succ n ih=>
  obtain ⟨l,hl,hp⟩:=ih (fun i hi=>h i (by omega));obtain ⟨a,ha⟩:=h n (by omega);refine ⟨l++ [a],by simp [hl],fun i hi=>?_⟩
  by_cases hi':i<l.length
  · rw [List.getElem_append_left hi'];exact hp i hi'
  · have e:i=n:=by simp at hi;omega
    subst e;rw [List.getElem_append_right (by omega)]
    simpa [hl] using ha
section
variable {H:Type} {enc:TypeId×Value→H} {W:World} {fuel:Nat} {cs:List Value} {x:DataW H×List MemPlace}
theorem ku (h:DataW.trod enc Tryz.prog W 0 (fun _=>true) true fuel 26 cs=some x):∃a s,cs=dotC a s∧in8 a∧in32 s:=by
 obtain ⟨xs,m,_,_,hl,hlen,hfd⟩:=DataW.trod_struct Tryz.underlying26 h;have hc:Tryz.prog.cellsOf 26=2:=by kernel_rfl
 have h8:Tryz.prog.cellsOf 5=1:=by kernel_rfl
 have h32:Tryz.prog.cellsOf 24=1:=by kernel_rfl
 rw [hc] at hl
 have g0:DataW.trod enc Tryz.prog W 0 (fun _=>true) true m 5 (List.take (Tryz.prog.cellsOf 5) (List.drop 0 cs))=xs[0]?:=hfd 0 _ rfl;have g1:DataW.trod enc Tryz.prog W 0 (fun _=>true) true m 24 (List.take (Tryz.prog.cellsOf 24) (List.drop 1 cs))=xs[1]?:=hfd 1 _ rfl;simp only [List.size_toArray,List.length_cons,List.length_nil,Nat.reduceAdd] at hlen
 rw [h8,List.getElem?_eq_getElem (by omega)] at g0
 rw [h32,List.getElem?_eq_getElem (by omega)] at g1
 obtain ⟨a,ea,_,wa⟩:=DataW.trod_int Tryz.underlying5 g0;obtain ⟨s,es,_,ws⟩:=DataW.trod_int Tryz.underlying24 g1
 match cs,hl with
 |[c,d],_=>
  simp at ea es
  subst ea es;exact ⟨a,s,rfl,bounds_u8 wa,bounds_u32 ws⟩
theorem oy (h:DataW.trod enc Tryz.prog W 0 (fun _=>true) true fuel 68 cs=some x):∃e:Wp,cs=e.cells∧e.data.length=48∧e.In:=by
 obtain ⟨xs,m,_,_,hl,hlen,hfd⟩:=DataW.trod_struct Tryz.underlying68 h;have hc:Tryz.prog.cellsOf 68=51:=by kernel_rfl
 have h8:Tryz.prog.cellsOf 5=1:=by kernel_rfl
 have hd:Tryz.prog.cellsOf 26=2:=by kernel_rfl
 have h48:Tryz.prog.cellsOf 66=48:=by kernel_rfl
 rw [hc] at hl
 have g0:DataW.trod enc Tryz.prog W 0 (fun _=>true) true m 5 (List.take (Tryz.prog.cellsOf 5) (List.drop 0 cs))=xs[0]?:=hfd 0 _ rfl;have g1:DataW.trod enc Tryz.prog W 0 (fun _=>true) true m 26 (List.take (Tryz.prog.cellsOf 26) (List.drop 1 cs))=xs[1]?:=hfd 1 _ rfl;have g2:DataW.trod enc Tryz.prog W 0 (fun _=>true) true m 66 (List.take (Tryz.prog.cellsOf 66) (List.drop 3 cs))=xs[2]?:=hfd 2 _ rfl;simp only [List.size_toArray,List.length_cons,List.length_nil,Nat.reduceAdd] at hlen
 rw [h8,List.getElem?_eq_getElem (by omega)] at g0
 rw [hd,List.getElem?_eq_getElem (by omega)] at g1
 rw [h48,List.getElem?_eq_getElem (by omega)] at g2
 obtain ⟨a,ea,_,wa⟩:=DataW.trod_int Tryz.underlying5 g0;obtain ⟨da,dsq,ed,wd⟩:=ku g1;obtain ⟨l,hll,el,wl⟩:=gz Tryz.underlying66 Tryz.underlying5 (by kernel_rfl) (by simp [hl]) g2;refine ⟨⟨a,da,dsq,l⟩,?_,hll,⟨bounds_u8 wa,wd.1,wd.2,fun v hv=>bounds_u8 (wl v hv)⟩⟩;show cs=[.int .u8 a]++dotC da dsq++l.map (Value.int .u8);rw [←ea,←ed,←el,List.drop_zero];have h1:cs.take 1++(cs.drop 1).take 2=cs.take 3:=by rw [←List.take_add]
 rw [h1,List.take_of_length_le (l:=cs.drop 3) (by rw [List.length_drop,hl];decide),List.take_append_drop]
theorem mR (h:DataW.trod enc Tryz.prog W 0 (fun _=>true) true fuel 27 cs=some x):∃y len cap ws,cs=[.slice y len cap]∧WrapsAt W y len cap ws∧∀e∈ws,e.In:=by
 have hc:Tryz.prog.cellsOf 68=51:=by kernel_rfl
 rcases DataW.trod_slice Tryz.underlying27 h with ⟨hcs,_⟩|⟨a,len,cap,elems,rest,m,_,hcs,_,_,hl,hm,hlen,hel,_⟩
 · exact ⟨none,0,0,[],hcs,⟨rfl,by omega,by omega,fun _=>rfl,(fun e he=>by cases he),.inl rfl⟩,fun e he=>by cases he⟩
 · have each:∀i,i<len→∃e:Wp,(∀j v,e.cells[j]?=some v→W.cell? ((a.add (i*51)).add j)=some v)∧e.data.length=48∧e.In:=fun i hi=>by
    have h1:=hel i hi;rw [hc,List.getElem?_eq_getElem (by omega),Option.bind_eq_some_iff] at h1
    obtain ⟨ci,hci,hti⟩:=h1;obtain ⟨e,rfl,h48,hin⟩:=oy hti;have hs:=World.cells?_some hci;refine ⟨e,fun j v hv=>?_,h48,hin⟩;have hj:j<51:=by
     have:=(List.getElem?_eq_some_iff.1 hv).1;have:=hs.2.1;omega
    rw [hs.2.2 j hj];exact hv
   obtain ⟨ws,hwl,hws⟩:=qq len _ each;refine ⟨some a,len,cap,ws,hcs,⟨hwl.symm,hl,by simpa [maxLen] using hm,(fun h=>by cases h),fun e he=>?_,?_⟩,fun e he=>?_⟩
   · obtain ⟨i,hi,rfl⟩:=List.mem_iff_getElem.1 he
     exact (hws i hi).2.1
   · by_cases h0:len=0
     · exact .inl h0
     · obtain ⟨b,off,spot⟩:=a
       have h00:=(hws 0 (by omega)).1 0 (.int .u8 (ws[0]'(by omega)).too) rfl;have hspot:spot=none:=by
        have:=World.cell?_spot h00
        simpa [Addr.add] using this
       subst hspot;refine .inr ⟨b,off,rfl,fun j hj i v hv=>?_⟩;have:=(hws j hj).1 i v hv;rw [Addr.add_mid',Addr.add_mid'] at this
       exact this
   · obtain ⟨i,hi,rfl⟩:=List.mem_iff_getElem.1 he
     exact (hws i hi).2.2
theorem mA (h:DataW.trod enc Tryz.prog W 0 (fun _=>true) true fuel 43 cs=some x):
    ∃(F:Fr) (xw:Option Addr) (lw cw:Nat) (ws:List Wp) (xb:Option Addr) (lb cb:Nat) (body:List Int),cs=F.cells∧gm W F xw lw cw ws xb lb cb body:=by
 obtain ⟨xs,m,_,_,hl,hlen,hfd⟩:=DataW.trod_struct Tryz.underlying43 h;have hc:Tryz.prog.cellsOf 43=70:=by kernel_rfl
 have h8:Tryz.prog.cellsOf 5=1:=by kernel_rfl
 have h32:Tryz.prog.cellsOf 24=1:=by kernel_rfl
 have hd:Tryz.prog.cellsOf 26=2:=by kernel_rfl
 have hk:Tryz.prog.cellsOf 23=32:=by kernel_rfl
 have hw:Tryz.prog.cellsOf 27=1:=by kernel_rfl
 have hb:Tryz.prog.cellsOf 41=1:=by kernel_rfl
 rw [hc] at hl
 have g0:DataW.trod enc Tryz.prog W 0 (fun _=>true) true m 5 (List.take (Tryz.prog.cellsOf 5) (List.drop 0 cs))=xs[0]?:=hfd 0 _ rfl;have g1:DataW.trod enc Tryz.prog W 0 (fun _=>true) true m 24 (List.take (Tryz.prog.cellsOf 24) (List.drop 1 cs))=xs[1]?:=hfd 1 _ rfl;have g2:DataW.trod enc Tryz.prog W 0 (fun _=>true) true m 26 (List.take (Tryz.prog.cellsOf 26) (List.drop 2 cs))=xs[2]?:=hfd 2 _ rfl;have g3:DataW.trod enc Tryz.prog W 0 (fun _=>true) true m 23 (List.take (Tryz.prog.cellsOf 23) (List.drop 4 cs))=xs[3]?:=hfd 3 _ rfl;have g4:DataW.trod enc Tryz.prog W 0 (fun _=>true) true m 27 (List.take (Tryz.prog.cellsOf 27) (List.drop 36 cs))=xs[4]?:=hfd 4 _ rfl;have g5:DataW.trod enc Tryz.prog W 0 (fun _=>true) true m 41 (List.take (Tryz.prog.cellsOf 41) (List.drop 37 cs))=xs[5]?:=hfd 5 _ rfl;have g6:DataW.trod enc Tryz.prog W 0 (fun _=>true) true m 23 (List.take (Tryz.prog.cellsOf 23) (List.drop 38 cs))=xs[6]?:=hfd 6 _ rfl;simp only [List.size_toArray,List.length_cons,List.length_nil,Nat.reduceAdd] at hlen
 rw [h8,List.getElem?_eq_getElem (by omega)] at g0
 rw [h32,List.getElem?_eq_getElem (by omega)] at g1
 rw [hd,List.getElem?_eq_getElem (by omega)] at g2
 rw [hk,List.getElem?_eq_getElem (by omega)] at g3 g6
 rw [hw,List.getElem?_eq_getElem (by omega)] at g4
 rw [hb,List.getElem?_eq_getElem (by omega)] at g5
 obtain ⟨a,ea,_,wa⟩:=DataW.trod_int Tryz.underlying5 g0;obtain ⟨n,en,_,wn⟩:=DataW.trod_int Tryz.underlying24 g1;obtain ⟨da,dsq,ed,wd⟩:=ku g2;obtain ⟨pv,hpv,ep,wp⟩:=gz Tryz.underlying23 Tryz.underlying5 (by kernel_rfl) (by simp [hl]) g3;obtain ⟨yw,lw,cw,ws,ew,hWs,hWi⟩:=mR g4;obtain ⟨yb,lb,cb,body,eb,hBo,hBi⟩:=mM g5;obtain ⟨mc,hmc,em,wm⟩:=gz Tryz.underlying23 Tryz.underlying5 (by kernel_rfl) (by simp [hl]) g6;refine ⟨⟨a,n,da,dsq,pv,.slice yw lw cw,.slice yb lb cb,mc⟩,yw,lw,cw,ws,yb,lb,cb,body,?_,⟨hpv,hmc,rfl,rfl,hWs,hBo,⟨bounds_u8 wa,bounds_u32 wn,wd.1,wd.2,fun v hv=>bounds_u8 (wp v hv),fun v hv=>bounds_u8 (wm v hv)⟩,hWi,hBi⟩⟩;show cs=([.int .u8 a,.int .u32 n]:List Value)++dotC da dsq++pv.map (Value.int .u8)++ [.slice yw lw cw,.slice yb lb cb]++mc.map (Value.int .u8);have e1:([.int .u8 a,.int .u32 n]:List Value)=cs.take 2:=by
  rw [show ([.int .u8 a,.int .u32 n]:List Value)=[.int .u8 a]++ [.int .u32 n] from rfl,←ea,←en,List.drop_zero,←List.take_add]
 have e2:([.slice yw lw cw,.slice yb lb cb]:List Value)=(cs.drop 36).take 2:=by
  rw [show ([.slice yw lw cw,.slice yb lb cb]:List Value)=[.slice yw lw cw]++ [.slice yb lb cb] from rfl,←ew,←eb,show 37=36+1 from rfl,←List.drop_drop,←List.take_add]
 rw [e1,e2,←ed,←ep,←em];have f1:cs.take 2++(cs.drop 2).take 2=cs.take 4:=by rw [←List.take_add]
 have f2:cs.take 4++(cs.drop 4).take 32=cs.take 36:=by rw [←List.take_add]
 have f3:cs.take 36++(cs.drop 36).take 2=cs.take 38:=by rw [←List.take_add]
 rw [f1,f2,f3,List.take_of_length_le (l:=cs.drop 38) (by rw [List.length_drop,hl];decide),List.take_append_drop]
end
theorem open_frame {H:Type} {enc:TypeId×Value→H} {W:World} {r:Reach} {base:Nat} {v:Value} {d:DataW H} {p:List MemPlace} (hv:Value.okWide Tryz.prog W r base 43 v) (h:DataW.Trod enc Tryz.prog W 0 (fun _=>true) true 43 v d p):
    ∃(F:Fr) (xw:Option Addr) (lw cw:Nat) (ws:List Wp) (xb:Option Addr) (lb cb:Nat) (body:List Int),v=.agg F.cells.toArray∧gm W F xw lw cw ws xb lb cb body:=by
 simp only [Value.okWide,Tryz.underlying43] at hv
 obtain ⟨cs,rfl,hsz,_⟩:=hv;obtain ⟨fuel,hf⟩:=h;obtain ⟨F,xw,lw,cw,ws,xb,lb,cb,body,e,hF⟩:=mA hf;refine ⟨F,xw,lw,cw,ws,xb,lb,cb,body,?_,hF⟩;simp only [Value.cells] at e
 rw [←e]
theorem own : ownKnob Tryz.prog.godebug = none := by kernel_rfl
theorem laidOut : laidOutB Tryz.prog = true := by kernel_rfl
theorem gTab : Tryz.prog.globalNamed "escritoire/wire.buckets" = some 0 := by kernel_rfl
theorem gTabType : (Tryz.prog.globals[0]?).map (·.type) = some 152 := by kernel_rfl
theorem cells6 : Tryz.prog.cellsOf 152 = 6 := by kernel_rfl
theorem cellsI64 : Tryz.prog.cellsOf 3 = 1 := by kernel_rfl
theorem table {W : World} (h : laidMetH Tryz.prog [("escritoire/wire.buckets", Rows.laid_escritoire_wire_buckets)] W) : BTab W := fun j v hv => by
 have ht : Lib.TabIs Tryz.prog W "escritoire/wire.buckets" .i64 bTab := Lib.tabIs_of_head (rest := []) gTab gTabType Tryz.underlying152 Tryz.underlying3 cellsI64 cells6 h
 have hj : j < bTab.length := by have := (List.getElem?_eq_some_iff.1 hv).1; simpa using this
 have := ht.cell gTab j hj
 rw [Nat.zero_add, this, ← hv, List.getElem?_map, List.getD_eq_getElem?_getD, List.getElem?_eq_getElem hj]; rfl
set_option linter.unusedSimpArgs false
structure Ev.In (e:Ev):Prop where
 da:in8 e.da
 ds:in32 e.ds
 plen:e.past.length=8
 past:∀x∈e.past,in32 x
 kind:in8 e.kind
 pa:in8 e.pa
 ps:in32 e.ps
 char:in8 e.char
 who:in8 e.who
 role:in8 e.role
theorem db (n:Int) (h:in32 n):iW (n / 16777216 % 256) (n / 65536 % 256) (n / 256 % 256) (n % 256)=n:=by
 have h1:=h.1;have h2:=h.2;unfold iW;omega
theorem xC (l:List Int) (h:l.length=8):∃p0 p1 p2 p3 p4 p5 p6 p7,l=[p0,p1,p2,p3,p4,p5,p6,p7]:=by
 match l,h with
 |[a,b,c,d,e,f,g,i],_=>exact ⟨a,b,c,d,e,f,g,i,rfl⟩
theorem qX (e:Ev) (h:e.In):ft (bq e)∧kR (bq e)=e:=by
 obtain ⟨da,ds,past,kind,pa,ps,right,char,who,role⟩:=e;obtain ⟨p0,p1,p2,p3,p4,p5,p6,p7,rfl⟩:=xC past h.plen;have hp:=h.past;have hds:=db ds h.ds;have hps:=db ps h.ps;have h0:=db p0 (hp p0 (by simp));have h1:=db p1 (hp p1 (by simp));have h2:=db p2 (hp p2 (by simp));have h3:=db p3 (hp p3 (by simp));have h4:=db p4 (hp p4 (by simp));have h5:=db p5 (hp p5 (by simp));have h6:=db p6 (hp p6 (by simp));have h7:=db p7 (hp p7 (by simp));have ht:(g8 right==1)=right:=by cases right<;>rfl
 constructor
 · refine ⟨rfl,?_,fun j hj=>?_⟩
   · show g8 right≤1
     cases right<;>decide
   · have hic:j=0∨j=1∨j=2∨j=3∨j=4∨j=5∨j=6∨j=7∨j=8∨j=9∨j=10:=by omega
     rcases hic with rfl|rfl|rfl|rfl|rfl|rfl|rfl|rfl|rfl|rfl|rfl<;>rfl
 · show (⟨da,iW (ds / 16777216 % 256) (ds / 65536 % 256) (ds / 256 % 256) (ds % 256),[iW (p0 / 16777216 % 256) (p0 / 65536 % 256) (p0 / 256 % 256) (p0 % 256),iW (p1 / 16777216 % 256) (p1 / 65536 % 256) (p1 / 256 % 256) (p1 % 256),iW (p2 / 16777216 % 256) (p2 / 65536 % 256) (p2 / 256 % 256) (p2 % 256),iW (p3 / 16777216 % 256) (p3 / 65536 % 256) (p3 / 256 % 256) (p3 % 256),iW (p4 / 16777216 % 256) (p4 / 65536 % 256) (p4 / 256 % 256) (p4 % 256),iW (p5 / 16777216 % 256) (p5 / 65536 % 256) (p5 / 256 % 256) (p5 % 256),iW (p6 / 16777216 % 256) (p6 / 65536 % 256) (p6 / 256 % 256) (p6 % 256),iW (p7 / 16777216 % 256) (p7 / 65536 % 256) (p7 / 256 % 256) (p7 % 256)],kind,pa,iW (ps / 16777216 % 256) (ps / 65536 % 256) (ps / 256 % 256) (ps % 256),g8 right==1,char,who,role⟩:Ev)=_
   rw [hds,hps,h0,h1,h2,h3,h4,h5,h6,h7,ht]
theorem qv (e:Ev) (h:e.In):∀v∈bq e,b8 v:=by
 have q4:∀n:Int,∀v∈be4 n,b8 v:=fun n v hv=>by
  unfold be4 at hv
  simp only [List.mem_cons,List.not_mem_nil,or_false] at hv
  rcases hv with rfl|rfl|rfl|rfl<;>constructor<;>omega
 have qp:∀l:List Int,∀v∈ek l,b8 v:=fun l v hv=>by
  unfold ek at hv
  rw [List.mem_flatten] at hv
  obtain ⟨m,hm,hv⟩:=hv;obtain ⟨n,_,rfl⟩:=List.mem_map.1 hm;exact q4 n v hv
 intro v hv;unfold bq eR at hv
 simp only [List.mem_append,List.mem_cons,List.not_mem_nil,or_false,List.mem_replicate] at hv
 rcases hv with (((((((rfl|hv)|hv)|rfl)|(rfl|hv))|rfl)|(rfl|rfl|rfl))|⟨_,rfl⟩)
 · exact h.da
 · exact q4 _ v hv
 · exact qp _ v hv
 · exact h.kind
 · exact h.pa
 · exact q4 _ v hv
 · cases e.right<;>exact ⟨by decide,by decide⟩
 · exact h.char
 · exact h.who
 · exact h.role
 · exact ⟨by decide,by decide⟩
end Go.Proofs.YtbdhfbglagdiaaaGreatDoor
namespace Go.Proofs.YtbdhfbglagdiaaaGreatDoor.S
open Go
def row (k:IntKind) (l:List Int):Array Value:=(l.map (Value.int k)).toArray
theorem bc (k:IntKind) (l:List Int):(row k l).size=l.length:=by simp [row]
theorem row_get? (k:IntKind) (l:List Int) (i:Nat):(row k l)[i]?=l[i]?.map (Value.int k):=by simp [row]
theorem fe (k:IntKind) (l:List Int) (i:Nat) (h:i<l.length):(row k l)[i]?=some (Value.int k (l[i]?.getD 0)):=by
 rw [row_get?,List.getElem?_eq_getElem h];rfl
theorem ob (k:IntKind) (l:List Int) (i:Nat) (v:Int):(row k l).setIfInBounds i (Value.int k v)=row k (l.set i v):=by
 simp [row,List.map_set]
theorem gH (k:IntKind) (l:List Int):(row k l).all (·.oneCell')=true:=by
 simp [row,Value.oneCell']
theorem fb (k:IntKind) (x y:Int):bits .or k x y=bits .or k y x:=by
 simp only [bits];rw [BitVec.or_comm]
def rr (n:Int) (x:Int):Int:=bits .or .u32 (x / 2 ^ n.toNat) (x*2 ^ (32 - n.toNat) % 4294967296)
def wd (a b c d:Int):Int:=
 bits .or .u32 (bits .or .u32 (bits .or .u32 (a % 4294967296*16777216 % 4294967296) (b % 4294967296*65536 % 4294967296)) (c % 4294967296*256 % 4294967296)) (d % 4294967296)
def wdAt (z:List Int) (i:Nat):Int:=wd (z[4*i]?.getD 0) (z[4*i+1]?.getD 0) (z[4*i+2]?.getD 0) (z[4*i+3]?.getD 0)
def bd (z:List Int) (k:Nat):List Int:=(List.range k).map (wdAt z)
theorem bj (z:List Int) (k:Nat):(bd z k).length=k:=by simp [bd]
theorem kJ (z:List Int) (k:Nat):bd z (k+1)=bd z k++ [wdAt z k]:=by simp [bd,List.range_succ]
def xQ (x:Int):Int:=bits .xor .u32 (bits .xor .u32 (rr 17 x) (rr 19 x)) (x / 1024)
def far (y:Int):Int:=bits .xor .u32 (bits .xor .u32 (rr 7 y) (rr 18 y)) (y / 8)
def swdAt (ws:List Int) (n:Nat):Int:=(xQ (ws[n - 2]?.getD 0)+ws[n - 7]?.getD 0+far (ws[n - 15]?.getD 0)+ws[n - 16]?.getD 0) % 4294967296
def swd (ws:List Int):Int:=swdAt ws ws.length
def sched (first:List Int):Nat→List Int
 |0=>first
 |n+1=>sched first n++ [swd (sched first n)]
theorem bT (first:List Int) (n:Nat):(sched first n).length=first.length+n:=by
 induction n with
 |zero=>rfl
 |succ n ih=>simp only [sched,List.length_append,ih,List.length_cons,List.length_nil];omega
def kTab:List Int:=[1116352408,1899447441,3049323471,3921009573,961987163,1508970993,2453635748,2870763221,3624381080,310598401,607225278,1426881987,1925078388,2162078206,2614888103,3248222580,3835390401,4022224774,264347078,604807628,770255983,1249150122,1555081692,1996064986,2554220882,2821834349,2952996808,3210313671,3336571891,3584528711,113926993,338241895,666307205,773529912,1294757372,1396182291,1695183700,1986661051,2177026350,2456956037,2730485921,2820302411,3259730800,3345764771,3516065817,3600352804,4094571909,275423344,430227734,506948616,659060556,883997877,958139571,1322822218,1537002063,1747873779,1955562222,2024104815,2227730452,2361852424,2428436474,2756734187,3204031479,3329325298]
def tV (e:Int):Int:=bits .xor .u32 (bits .xor .u32 (rr 6 e) (rr 11 e)) (rr 25 e)
def yc (a:Int):Int:=bits .xor .u32 (bits .xor .u32 (rr 2 a) (rr 13 a)) (rr 22 a)
def chs (e f g:Int):Int:=bits .xor .u32 (bits .and .u32 e f) (bits .and .u32 (4294967295 - e) g)
def maj (a b c:Int):Int:=bits .xor .u32 (bits .xor .u32 (bits .and .u32 a b) (bits .and .u32 a c)) (bits .and .u32 b c)
def rnd (kw w:Int):List Int→List Int
 |[a,b,c,d,e,f,g,h]=>[(h+tV e+chs e f g+kw+w+(yc a+maj a b c)) % 4294967296,a,b,c,(d+(h+tV e+chs e f g+kw+w)) % 4294967296,e,f,g]
 |l=>l
theorem vZ {K W a b c d e f g h p q:Int} (hp:p=(h+tV e+chs e f g+K+W+(yc a+maj a b c)) % 4294967296) (hq:q=(d+(h+tV e+chs e f g+K+W)) % 4294967296):
    rnd K W [a,b,c,d,e,f,g,h]=[p,a,b,c,q,e,f,g]:=by rw [hp,hq];rfl
theorem xc (e:Int) (h0:0≤e) (h1:e≤4294967295):bits .xor .u32 (if IntKind.u32.signed=true then -1 else IntKind.u32.max) e=4294967295 - e:=by
 show IntKind.u32.wrap ((BitVec.ofInt 32 4294967295 ^^^ BitVec.ofInt 32 e).toNat:Int)=_;have h:BitVec.ofInt 32 4294967295=BitVec.allOnes 32:=by decide
 rw [h,BitVec.allOnes_xor,BitVec.toNat_not,BitVec.toNat_ofInt];simp [IntKind.wrap,IntKind.bits,IntKind.signed];omega
def ct (ws:List Int) (s:List Int):Nat→List Int
 |0=>s
 |n+1=>rnd (kTab[n]?.getD 0) (ws[n]?.getD 0) (ct ws s n)
theorem rJ (kw w:Int) (s:List Int) (h:s.length=8):(rnd kw w s).length=8:=by
 match s,h with
 |[a,b,c,d,e,f,g,i],_=>rfl
theorem fP (ws s:List Int) (n:Nat) (h:s.length=8):(ct ws s n).length=8:=by
 induction n with
 |zero=>exact h
 |succ n ih=>exact rJ _ _ _ ih
def InU (s:List Int):Prop:=∀x∈s,0≤x∧x≤4294967295
theorem yf (kw w:Int) (s:List Int) (h:s.length=8) (hs:InU s):InU (rnd kw w s):=by
 match s,h with
 |[a,b,c,d,e,f,g,i],_=>
  intro x hx;simp only [rnd,List.mem_cons,List.not_mem_nil,or_false] at hx
  rcases hx with rfl|rfl|rfl|rfl|rfl|rfl|rfl|rfl
  · omega
  · exact hs _ (by simp)
  · exact hs _ (by simp)
  · exact hs _ (by simp)
  · omega
  · exact hs _ (by simp)
  · exact hs _ (by simp)
  · exact hs _ (by simp)
theorem nF (ws s:List Int) (n:Nat) (h:s.length=8) (hs:InU s):InU (ct ws s n):=by
 induction n with
 |zero=>exact hs
 |succ n ih=>exact yf _ _ _ (fP ws s n h) ih
def lL (r s:List Int):List Int:=(List.range 8).map fun i=>(r[i]?.getD 0+s[i]?.getD 0) % 4294967296
def addK (r s:List Int) (k:Nat):List Int:=(List.range 8).map fun i=>if i<k then (r[i]?.getD 0+s[i]?.getD 0) % 4294967296 else r[i]?.getD 0
theorem addK_length (r s:List Int) (k:Nat):(addK r s k).length=8:=by simp [addK]
theorem mV (r s:List Int) (h:r.length=8):addK r s 0=r:=by
 obtain ⟨a,b,c,d,e,f,g,i,rfl⟩:∃a b c d e f g i,r=[a,b,c,d,e,f,g,i]:=by
  match r,h with
  |[a,b,c,d,e,f,g,i],_=>exact ⟨a,b,c,d,e,f,g,i,rfl⟩
 rfl
theorem o7 (r s:List Int) (k j:Nat) (h:j<8):(addK r s k)[j]?.getD 0=if j<k then (r[j]?.getD 0+s[j]?.getD 0) % 4294967296 else r[j]?.getD 0:=by
 simp [addK,h]
theorem mr (r s:List Int):addK r s 8=lL r s:=by
 unfold addK lL;apply List.map_congr_left;intro i hi;rw [if_pos (by simpa using hi)]
theorem qh (r s:List Int) (k:Nat):(addK r s k).set k ((r[k]?.getD 0+s[k]?.getD 0) % 4294967296)=addK r s (k+1):=by
 apply List.ext_getElem?;intro j
 by_cases hj:j<8
 · by_cases e:j=k
   · subst e;simp [addK,hj]
   · rw [List.getElem?_set_ne (by omega)]
     simp only [addK,List.getElem?_map,List.getElem?_range hj,Option.map_some]
     by_cases h1:j<k
     · rw [if_pos h1,if_pos (by omega)]
     · rw [if_neg h1,if_neg (by omega)]
 · rw [List.getElem?_eq_none (by rw [List.length_set,addK_length];omega),List.getElem?_eq_none (by rw [addK_length];omega)]
def f5 (s z:List Int):List Int:=lL (ct (sched (bd z 16) 48) s 64) s
theorem gF (s z:List Int):(f5 s z).length=8:=by simp [f5,lL]
theorem vY (s z:List Int):InU (f5 s z):=by
 intro x hx;simp only [f5,lL,List.mem_map] at hx
 obtain ⟨i,_,rfl⟩:=hx;omega
def bE:List Int:=[1779033703,3144134277,1013904242,2773480762,1359893119,2600822924,528734635,1541459225]
def bytes4 (v:Int):List Int:=[v / 16777216 % 256,v / 65536 % 256,v / 256 % 256,v % 256]
def joinK (s:List Int):Nat→List Int
 |0=>[]
 |k+1=>joinK s k++bytes4 (s[k]?.getD 0)
theorem aJ (s:List Int) (k:Nat):(joinK s k).length=4*k:=by
 induction k with
 |zero=>rfl
 |succ k ih=>simp only [joinK,bytes4,List.length_append,ih,List.length_cons,List.length_nil];omega
def joinL (s:List Int):List Int:=joinK s 8
theorem dQ (s:List Int):(joinL s).length=32:=aJ s 8
theorem br (l:List Int) (m:Nat) (v:Int):(l++List.replicate (m+1) 0).set l.length v=(l++ [v])++List.replicate m 0:=by
 rw [List.set_append_right _ _ (Nat.le_refl _)];simp [List.replicate_succ]
theorem lr (l:List Int) (m n:Nat) (a b c d:Int) (h:l.length=n):((((l++List.replicate (m+4) 0).set n a).set (n+1) b).set (n+2) c).set (n+3) d=l++ [a,b,c,d]++List.replicate m 0:=by
 subst h;rw [br l (m+3) a];have e1:=br (l++ [a]) (m+2) b;have e2:=br (l++ [a]++ [b]) (m+1) c;have e3:=br (l++ [a]++ [b]++ [c]) m d;simp only [List.length_append,List.length_cons,List.length_nil] at e1 e2 e3
 rw [show l.length+1=l.length+(0+1) by omega,e1,show l.length+2=l.length+(0+1)+(0+1) by omega,e2,show l.length+3=l.length+(0+1)+(0+1)+(0+1) by omega,e3];simp
theorem iA {l:List Int} (h:l.length=8):∃a b c d e f g i,l=[a,b,c,d,e,f,g,i]:=by
 match l,h with
 |[a,b,c,d,e,f,g,i],_=>exact ⟨a,b,c,d,e,f,g,i,rfl⟩
open Go.RowKit
theorem jB {a b:Int} (h:a=b):Ending.returned (.int .u32 a)=.returned (.int .u32 b):=by rw [h]
def mJ (n:Int):Prop:=n=2∨n=6∨n=7∨n=11∨n=13∨n=17∨n=18∨n=19∨n=22∨n=25
theorem j8 (x n:Int) (w:World) (hn:mJ n):
    Calls Tryz.prog 167 #[.int .u32 x,.int .i64 n] w fun e w'=>e=.returned (.int .u32 (rr n x))∧w'=w:=by
 have h2:bits BinOp.and IntKind.u64 (IntKind.u64.wrap (-2)) 31=30:=by decide
 have h6:bits BinOp.and IntKind.u64 (IntKind.u64.wrap (-6)) 31=26:=by decide
 have h7:bits BinOp.and IntKind.u64 (IntKind.u64.wrap (-7)) 31=25:=by decide
 have h11:bits BinOp.and IntKind.u64 (IntKind.u64.wrap (-11)) 31=21:=by decide
 have h13:bits BinOp.and IntKind.u64 (IntKind.u64.wrap (-13)) 31=19:=by decide
 have h17:bits BinOp.and IntKind.u64 (IntKind.u64.wrap (-17)) 31=15:=by decide
 have h18:bits BinOp.and IntKind.u64 (IntKind.u64.wrap (-18)) 31=14:=by decide
 have h19:bits BinOp.and IntKind.u64 (IntKind.u64.wrap (-19)) 31=13:=by decide
 have h22:bits BinOp.and IntKind.u64 (IntKind.u64.wrap (-22)) 31=10:=by decide
 have h25:bits BinOp.and IntKind.u64 (IntKind.u64.wrap (-25)) 31=7:=by decide
 rcases hn with rfl|rfl|rfl|rfl|rfl|rfl|rfl|rfl|rfl|rfl
 all_goals
  go_enter Tryz.func167,Tryz.ntmps167;go_wp2;go_ret;exact ⟨jB (by rw [fb];rfl),rfl⟩
theorem vz (b off cap:Nat) (z0 z1 z2 z3:Int) (w:World)
    (h0:w.cell? ⟨b,off,none⟩=some (.int .u8 z0)) (h1:w.cell? ⟨b,off+1,none⟩=some (.int .u8 z1))
    (h2:w.cell? ⟨b,off+2,none⟩=some (.int .u8 z2)) (h3:w.cell? ⟨b,off+3,none⟩=some (.int .u8 z3)):
    Calls Tryz.prog 168 #[.slice (some ⟨b,off,none⟩) 4 cap] w fun e w'=>e=.returned (.int .u32 (wd z0 z1 z2 z3))∧∃n,w'=w.drewN n:=by
 go_enter Tryz.func168,Tryz.ntmps168;go_wp2
 go_quiet ((fail))
 go_wp2;go_ret;exact ⟨rfl,_,rfl⟩
theorem tL (w:World):
    Calls Tryz.prog 102 #[] w fun e w'=>e=.returned (.agg (row .u32 bE))∧Below w.heap.size w w':=by
 go_enter Tryz.func102,Tryz.ntmps102;go_wp2;exact bodyPost_ret (v:=.agg (row .u32 bE)) (by simp [results,Tryz.results102,go_sem,row,bE]) rfl ⟨rfl,(Below.refl _ _).alloc (Nat.le_refl _) _⟩
end Go.Proofs.YtbdhfbglagdiaaaGreatDoor.S
