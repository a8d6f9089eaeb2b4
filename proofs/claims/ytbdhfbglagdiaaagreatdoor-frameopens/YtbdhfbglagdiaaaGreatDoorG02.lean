/- Gate2 Evm Gb Gc Wr1 Gate5 -/
import Derived.Test.YtbdhfbglagdiaaaGreatDoorG01
import Derived.Deep.MidRow
import Derived.Deep.OwnRows
import Derived.Maps.AppendAt
import Derived.Laws.AppendOwnNone
import Derived.RangeFuncBox
import Derived.Laws.BytesString
import Derived.Laws.BytesArg
namespace Go.Proofs.YtbdhfbglagdiaaaGreatDoor
open Go Go.RowKit
section
variable {P:Program} {ops:Array Oper} {Q:Exit→Act→World→Prop} {md:Region.Mode} {S:World→Prop} {D:Nat}
theorem jp {i:Nat} {oi:Oper} {v:Value} {fuel:Nat} {listed:Array Bool} {a:Act} {w:World} (hi:ops[i]?=some oi)
    (hs:Region.noSelect ops=true) (hf:Region.free md ops listed i=true) (hr:(Region.ready md ops listed).contains i=true)
    (hQ:∀c a w,Q (.panic c) (a.put oi.dst v) w→Q (.panic c) a w) (hD:(i==D)=false) (hwait:Region.waitsFor md ops D i=true) (hg:listed.getD D true=false) (hS:S w)
    (hy:YieldsIf P ops S oi v a)
    (h:aE P md ops Q S D fuel (listed.setIfInBounds i true) (a.put oi.dst v) w):aE P md ops Q S D (fuel+1) listed a w:=
 cU (T:=S) hi (Region.noSelect_spec hs) hQ (by simpa using hD) (.inr ⟨fun _ h=>h,by
  obtain ⟨oD,h1,e,h2,h3,h4⟩:=Region.waitsFor_spec hwait;exact ⟨oD,h1,e,h2,h3,h4⟩⟩) fuel listed a w (Region.free_spec hi hf) (by simpa using hr) (.inr hg) hy (fun _=>hS) h
theorem iy {i:Nat} {dst:Option Tmp} {ty:TypeId} {x:Operand} {b o:Nat} {cs:List Value} {d:TypeDesc} {fuel:Nat} {listed:Array Bool} {a:Act} {w:World}
    (hop:(ops[i]?).map (fun o=>(o.dst,o.op))=some (dst,.load ty x)) (hw:(ops[i]?).map (fun o=>Region.wanted o (yielded ops a.tmps))=some true)
    (hs:Region.noSelect ops=true) (hf:Region.free md ops listed i=true) (hr:(Region.ready md ops listed).contains i=true)
    (hQ:∀c a w,Q (.panic c) (a.put dst (.agg cs.toArray)) w→Q (.panic c) a w) (hD:(i==D)=false) (hwait:Region.waitsFor md ops D i=true) (hg:listed.getD D true=false) (hS:S w)
    (hx:a.eval x=.pointer (some ⟨b,o,none⟩)) (hc:∀w,S w→w.rangeAt b o cs) (hu:P.underlying ty=some d) (hd:d.isRow=true) (hi:(P.info? ty).map (·.size)=some cs.length)
    (h:aE P md ops Q S D fuel (listed.setIfInBounds i true) (a.put dst (.agg cs.toArray)) w):aE P md ops Q S D (fuel+1) listed a w:=by
 cases ho:ops[i]? with
 |none=>rw [ho] at hop;cases hop
 |some oi=>
  rw [ho] at hop hw
  simp only [Option.map_some,Option.some.injEq,Prod.mk.injEq] at hop hw
  obtain ⟨rfl,hop⟩:=hop;exact jp ho hs hf hr hQ hD hwait hg hS (yieldsIf_load_mid hw ty x hop b o hx cs d hc hu hd hi) h
theorem zg (i dst:Nat) (ty:TypeId) (x b o:Nat) (cs:List Value) {d:TypeDesc} {fuel:Nat} {listed:Array Bool} {a:Act} {w:World} (hS:S w)
    (hc:∀w,S w→w.rangeAt b o cs) (hu:P.underlying ty=some d) (hi:(P.info? ty).map (·.size)=some cs.length)
    (h:aE P md ops Q S D fuel (listed.setIfInBounds i true) (a.put (some dst) (.agg cs.toArray)) w)
    (hop:(ops[i]?).map (fun o=>(o.dst,o.op))=some (some dst,.load ty (.tmp x)):=by kernel_rfl) (hw:(ops[i]?).map (fun o=>Region.wanted o (yielded ops a.tmps))=some true:=by kernel_rfl)
    (hb:(Region.noSelect ops&&(Region.free md ops listed i&&((Region.ready md ops listed).contains i&&(!(i==D)&&(Region.waitsFor md ops D i&&!(listed.getD D true))))))=true:=by kernel_rfl)
    (hQ:∀c a w,Q (.panic c) (a.put (some dst) (.agg cs.toArray)) w→Q (.panic c) a w:=by exact fun _ _ _ h=>h) (hx:a.eval (.tmp x)=.pointer (some ⟨b,o,none⟩):=by kernel_rfl) (hd:d.isRow=true:=by rfl):aE P md ops Q S D (fuel+1) listed a w:=by
 rw [Bool.and_eq_true,Bool.and_eq_true,Bool.and_eq_true,Bool.and_eq_true,Bool.and_eq_true,Bool.not_eq_true',Bool.not_eq_true'] at hb
 exact iy hop hw hb.1 hb.2.1 hb.2.2.1 hQ hb.2.2.2.1 hb.2.2.2.2.1 hb.2.2.2.2.2 hS hx hc hu hd hi h
end
open Go.RowKit
set_option maxRecDepth 20000
theorem nU {P:Program} {o:Oper} {a:Act} {w:World} {K:Act→World→Prop} {Q:Exit→Act→World→Prop} (ty:TypeId) (x y:Operand) (ho:o.op=.store ty x y)
    (g:Nat) (hx:a.eval x=.pointer (some ⟨g,0,none⟩)) {t:TypeId} {old cs:List Value} (hy:a.eval y=.agg cs.toArray) (hg:CellsAt w g t old)
    (hi:(P.info? ty).map (·.size)=some cs.length) (hl:old.length=cs.length) (h1:∀v∈cs,v.oneCell'=true)
    (h:K (a.put o.dst undef) (w.setRow g cs.toArray)):o.wp P a w K Q:=by
 unfold Oper.wp execOp;simp only [ho,hx,hy,Instr.storeAt,Instr.sureAddr,Sem.run_bind,Sem.run_pure,Result.andThen_ok,dE w g ty t old cs hg hl hi h1];exact h
theorem vG {P:Program} {c:Code} {Q:Exit→Act→World→Prop} {a:Act} {w:World} (R:Act→World→Prop) (h1:Code.wp P c (fun ex a w=>match ex with| .normal=>R a w|_=>False) a w) (h2:∀a w,R a w→Q .normal a w):Code.wp P c Q a w:=
 Code.wp_mono (fun e a w q=>by cases e<;>first|exact h2 _ _ q|exact q.elim) h1
theorem ko {P:Program} (w:World) (g o:Nat) (ty t:TypeId) (old cs:List Value) (hg:CellsAt w g t old) (hl:o+cs.length≤old.length) (hi:(P.info? ty).map (·.size)=some cs.length) (h1:∀v∈cs,v.oneCell'=true):
    (storeVar ty ⟨g,o,none⟩ (.agg cs.toArray)).run P w=.ok () (w.setRow g (old.take o++cs++old.drop (o+cs.length)).toArray):=by
 have hst:=run_storeCells_at P g o t cs 0 old.toArray w hg (by simp;omega) h1;cases hq:P.info? ty with
 |none=>simp [hq] at hi
 |some i=>
  have hs:i.size=cs.length:=by simpa [hq] using hi
  have hsz:cs.toArray.size=i.size:=by simp [hs]
  simp only [Nat.add_zero] at hst
  simp [storeVar,sizeOf,typeInfo,hq,Value.cells,hs,hst]
theorem js {P:Program} {ops:Array Oper} {rest:List Oper} {o:Oper} {a:Act} {w:World} {Q:Exit→Act→World→Prop} (hgd:o.guard=none) (ty:TypeId) (x y:Operand) (ho:o.op=.store ty x y)
    (g off:Nat) (hx:a.eval x=.pointer (some ⟨g,off,none⟩)) {t:TypeId} {old cs:List Value} (hy:a.eval y=.agg cs.toArray) (hg:CellsAt w g t old)
    (hi:(P.info? ty).map (·.size)=some cs.length) (hl:off+cs.length≤old.length) (h1:∀v∈cs,v.oneCell'=true)
    (h:wpList P ops Q rest (a.put o.dst undef) (w.setRow g (old.take off++cs++old.drop (off+cs.length)).toArray)):wpList P ops Q (o::rest) a w:=
 wpList_plain hgd fun _ hK=>by
  unfold Oper.wp execOp;simp only [ho,hx,hy,Instr.storeAt,Instr.sureAddr,Sem.run_bind,Sem.run_pure,Result.andThen_ok,ko w g off ty t old cs hg hl hi h1];exact hK _ _ h
theorem eE {P:Program} {fn:Func} {p:Tmp} {ty t:TypeId} {d:TypeDesc} (h:fn.results= #[.cell p ty]) (tmps:Array Value) {w:World} {g:Nat} {cs:List Value} (hp:tmps.getD p undef=.pointer (some ⟨g,0,none⟩)) (hg:CellsAt w g t cs)
    (hu:P.underlying ty=some d) (hd:d.isRow=true) (hi:(P.info? ty).map (·.size)=some cs.length):(results fn tmps).run P w=.ok (.agg cs.toArray) w:=
 results_cell_row h tmps w g t cs.toArray (0,0) d hp hg hu (by cases d<;>first|rfl|(cases hd)) (by rw [hi];simp)
theorem CellsAt.farM {w w':World} {g:Nat} {t:TypeId} {cs:List Value} (h:CellsAt w g t cs) (hb:Below w.heap.size w w'):CellsAt w' g t cs:=h.congr (hb.block _ h.lt)
theorem CellsAt.wholeM {w:World} {g:Nat} {t:TypeId} {cs:List Value} (h:CellsAt w g t cs):w.rangeAt g 0 cs:=fun j v hv=>by rw [Nat.zero_add,h.cell];exact hv
theorem CellsAt.setRowM {w:World} {g g':Nat} {t:TypeId} {cs:List Value} (h:CellsAt w g t cs) (cs':Array Value) (hne:g≠g'):CellsAt (w.setRow g' cs') g t cs:=by
 unfold CellsAt at h ⊢;rw [setRow_other w g' g cs' hne];exact h
theorem Addr.add_mid' (b o j:Nat):(⟨b,o,none⟩:Addr).add j=⟨b,o+j,none⟩:=by unfold Addr.add;split<;>simp_all
structure Bytes (w:World) (x:Option Addr) (len cap:Nat) (z:List Int):Prop where
 len_eq:len=z.length
 le:len≤cap
 top:cap≤9223372036854775807
 nil:x=none→cap=0
 at_:len=0∨∃b off,x=some ⟨b,off,none⟩∧∀j,j<len→w.cell? ⟨b,off+j,none⟩=some (.int .u8 (z[j]?.getD 0))
theorem Bytes.below {w w':World} {x:Option Addr} {len cap:Nat} {z:List Int} (h:Bytes w x len cap z) (hb:Below w.heap.size w w'):Bytes w' x len cap z:=
 ⟨h.len_eq,h.le,h.top,h.nil,by
  rcases h.at_ with h0|⟨b,off,hx,hc⟩
  · exact .inl h0
  · by_cases hl:len=0
    · exact .inl hl
    · exact .inr ⟨b,off,hx,fun j hj=>(hb.cell (p:=⟨b,off+j,none⟩) (block_lt_of_cell (hc j hj))).trans (hc j hj)⟩⟩
theorem bO (w:World):Bytes w none 0 0 []:=⟨rfl,by omega,by omega,fun _=>rfl,.inl rfl⟩
theorem dH:(Tryz.prog.info? 5).map (fun i=>(i.zero,i.size,i.bytes))=some (some (.int .u8 0),1,1):=by kernel_rfl
theorem iI:(Tryz.prog.info? 5).map (·.size)=some 1:=by kernel_rfl
theorem ir (n:Nat):madeCells #[.int .u8 0] n=row .u8 (List.replicate n 0):=by
 apply Array.ext_getElem?;intro i
 by_cases h:i<n<;>simp [madeCells,row,h,Nat.mod_one]
theorem dg {t:TypeId} (w:World) (g m:Nat) (x:Option Addr) (len cap:Nat) (z:List Int) (hb:Bytes w x len cap z) (hg:aa w g .u8 t (List.replicate m 0)) (hm:len≤m):
    (Builtin.copy_ #[41,41] 3 #[.slice (some ⟨g,0,none⟩) m m,.slice x len cap]).run Tryz.prog w=.ok (.int .i64 len) (w.setRow g (row .u8 (z++List.replicate (m - z.length) 0))):=by
 have hz:z.length=len:=hb.len_eq.symm;have hcopy:∀(a:Addr),(∀j v,(row .u8 z).toList[j]?=some v→w.cell? (a.add j)=some v)→
     (Builtin.copy_ #[41,41] 3 #[.slice (some ⟨g,0,none⟩) m m,.slice (some a) len cap]).run Tryz.prog w=.ok (.int .i64 len) (w.setRow g (row .u8 (z++List.replicate (m - z.length) 0))):=fun a hsrc=>by
  have hlen:(row .u8 z).toList.length=len:=by simp [row,hz]
  have:=run_copy_row (P:=Tryz.prog) w 41 41 3 5 g 0 m m a len cap _ t (row .u8 z).toList Tryz.underlying41 iI hg
   (by rw [hlen];exact (Nat.min_eq_left hm).symm) hsrc (by rw [hlen,bc,List.length_replicate];omega) (fun v hv=>(Array.all_eq_true_iff_forall_mem.1 (gH .u8 z)) v (by simpa using hv))
  rw [this,hlen];have e:(List.take 0 (row .u8 (List.replicate m 0)).toList++(row .u8 z).toList++List.drop (0+len) (row .u8 (List.replicate m 0)).toList).toArray=row .u8 (z++List.replicate (m - z.length) 0):=by
   simp [row,hz]
  rw [e];rfl
 rcases hb.at_ with h0|⟨b,off,hx,hc⟩
 · have hz0:z=[]:=List.length_eq_zero_iff.1 (by omega)
   cases x with
   |none=>
    have hc0:=hb.nil rfl;subst h0 hc0 hz0;rw [run_copy_nil Tryz.prog w 41 41 3 5 ⟨g,0,none⟩ m m Tryz.underlying41 (by rw [iI];rfl)];simp only [List.nil_append,List.length_nil,Nat.sub_zero];rw [setRow_self w g _ t _ hg];rfl
   |some a=>exact hcopy a (fun j v hv=>by subst hz0;simp [row] at hv)
 · subst hx
   exact hcopy _ (fun j v hv=>by
    have hj:j<len:=by
     have:=(List.getElem?_eq_some_iff.1 hv).1
     simpa [row,hz] using this
    rw [Addr.add_mid',hc j hj];have:(row .u8 z).toList[j]?=some (.int .u8 (z[j]?.getD 0)):=by
     have h:=fe .u8 z j (by omega)
     simpa using h
    rw [←this];exact hv)
def lenOf:Value→Nat| .slice _ n _=>n|_=>0
def ao (w:World) (base:Nat) (v:Value) (z:List Int):Prop:=w.ownsRow base 5 1 v z.length (z.map (Value.int .u8))
theorem ao.cast {w:World} {base n:Nat} {v:Value} {z:List Int} {xs:List Value} (h:w.ownsRow base 5 1 v n xs) (hn:n=z.length) (hx:xs=z.map (Value.int .u8)):ao w base v z:=by
 subst hn hx;exact h
theorem aG {w:World} {ops:Array Oper} {rest:List Oper} {o:Oper} {a:Act} {Q:Exit→Act→World→Prop} (hgd:o.guard=none) (s x:Operand)
    (ho:o.op=.call {callee:=.builtin .append,args:= #[s,x],argTypes:= #[41,41]}) (base:Nat) (v:Value) (zs:List Int) (hs:a.eval s=v) (hown:ao w base v zs)
    (y:Option Addr) (len cap:Nat) (z:List Int) (hx:a.eval x=.slice y len cap) (hb:Bytes w y len cap z) (hln:zs.length+len≤4000000) (hbase:base≤w.heap.size)
    (h:∀v' w',ao w' base v' (zs++z)→w.grownBy w' v.ownBlock→wpList Tryz.prog ops Q rest (a.put o.dst v') w'):wpList Tryz.prog ops Q (o::rest) a w:=by
 obtain ⟨i0,hi,hz0,hz1,hz2⟩:=info_parts dH;have hzl:=hb.len_eq;have hcase:∀ad:Addr,y=some ad→(∀j u,(z.map (Value.int .u8))[j]?=some u→w.cell? (ad.add j)=some u)→wpList Tryz.prog ops Q (o::rest) a w:=fun ad hy hsrc=>by
  subst hy;refine wpList_append_own w hgd s x 41 ho base 5 i0 (.int .u8 0) 1 1 Tryz.underlying41 hi hz0 hz1 hz2 rfl (by decide) v zs.length (zs.map (Value.int .u8)) hs hown ad len cap (z.map (Value.int .u8)) hx (by simp [hzl]) hsrc (by simp [Value.oneCell']) (by simp [maxLen];omega) (by omega) hbase ?_;intro v' w' h1 h2 _;exact h v' w' (ao.cast h1 (by simp [hzl]) (by simp)) h2
 rcases hb.at_ with h0|⟨b,off,hy,hc⟩
 · have hz0':z=[]:=List.length_eq_zero_iff.1 (by omega)
   cases y with
   |none=>
    have hc0:=hb.nil rfl;subst h0 hc0 hz0';refine wpList_append_own_none hgd s x 41 ho base 5 i0 1 Tryz.underlying41 hi v zs.length (zs.map (Value.int .u8)) hs hown hx ?_;exact h v w (by rw [List.append_nil];exact hown) ⟨rfl,rfl,rfl,Nat.le_refl _,fun _ _ _=>rfl⟩
   |some ad=>exact hcase ad rfl (fun j u hu=>by subst hz0';simp at hu)
 · exact hcase _ hy (fun j u hu=>by
    have hj:j<len:=by have:=(List.getElem?_eq_some_iff.1 hu).1;simpa [hzl] using this
    rw [Addr.add_mid',hc j hj,←hu,List.getElem?_map,List.getElem?_eq_getElem (by omega)];rfl)
theorem bF {w:World} {ops:Array Oper} {rest:List Oper} {o:Oper} {a:Act} {Q:Exit→Act→World→Prop} (hgd:o.guard=none) (s x:Operand)
    (ho:o.op=.call {callee:=.builtin .append,args:= #[s,x],argTypes:= #[41,41]}) (base:Nat) (v:Value) (zs:List Int) (hs:a.eval s=v) (c:Int) (hown:ao (w.alloc (.cells #[.int .u8 c] 5)) base v zs)
    (hx:a.eval x=.slice (some ⟨w.heap.size,0,none⟩) 1 1) (hln:zs.length≤4000000) (hbase:base≤w.heap.size)
    (h:∀v' w',ao w' base v' (zs++ [c])→(w.alloc (.cells #[.int .u8 c] 5)).grownBy w' v.ownBlock→wpList Tryz.prog ops Q rest (a.put o.dst v') w'):wpList Tryz.prog ops Q (o::rest) a (w.alloc (.cells #[.int .u8 c] 5)):=by
 obtain ⟨i0,hi,hz0,hz1,hz2⟩:=info_parts dH;refine wpList_append_own (w.alloc (.cells #[.int .u8 c] 5)) hgd s x 41 ho base 5 i0 (.int .u8 0) 1 1 Tryz.underlying41 hi hz0 hz1 hz2 rfl (by decide) v zs.length (zs.map (Value.int .u8)) hs hown ⟨w.heap.size,0,none⟩ 1 1 [.int .u8 c] hx rfl (cell_one_new _ _ _) (by simp [Value.oneCell']) (by simp [maxLen];omega) (by omega) (by simp;omega) ?_;intro v' w' h1 h2 _;exact h v' w' (ao.cast h1 (by simp) (by simp)) h2
theorem ao.nil (w:World) (base:Nat):ao w base (.slice none 0 0) []:=World.ownsRow_nil w base 5 1
theorem ao.alloc {w:World} {base:Nat} {v:Value} {z:List Int} (h:ao w base v z) (o:Obj):ao (w.alloc o) base v z:=World.ownsRow.alloc h o
theorem ao.slice {w:World} {base:Nat} {v:Value} {z:List Int} (h:ao w base v z) (hz:0<z.length):∃g cap,v=.slice (some ⟨g,0,none⟩) z.length cap∧base≤g:=by
 rcases h.2 with ⟨_,h0⟩|⟨g,cap,cur,rfl,hb,_⟩
 · omega
 · exact ⟨g,cap,rfl,hb⟩
theorem below_grown {base:Nat} {w0 w w':World} {v:Value} {z:List Int} (hb:Below base w0 w) (hown:ao w base v z) (hg:w.grownBy w' v.ownBlock) (hbase:base≤w.heap.size):Below base w0 w':=
 hb.grown hg hbase (fun k hk=>by
  rcases hown.2 with ⟨rfl,_⟩|⟨g,cap,cur,rfl,hb,_⟩
  · cases hk
  · simp [Value.ownBlock] at hk;omega)
theorem aa.bytes {w:World} {g:Nat} {t:TypeId} {l:List Int} {n:Nat} (h:aa w g .u8 t l) (hn:n=l.length) (hl:l.length≤4000000):Bytes w (some ⟨g,0,none⟩) n n l:=by
 subst hn;exact ⟨rfl,Nat.le_refl _,by omega,(fun h=>by cases h),.inr ⟨g,0,rfl,fun j hj=>by rw [Nat.zero_add];exact h.cell j hj⟩⟩
theorem ao.bytes {w:World} {base:Nat} {x:Option Addr} {n cap:Nat} {z:List Int} (h:ao w base (.slice x n cap) z):n=z.length∧Bytes w x n cap z:=by
 rcases h.2 with ⟨h1,h0⟩|⟨g,cap',cur,h1,_,hg,hc,hm,hs,ht⟩
 · have hz:z=[]:=List.length_eq_zero_iff.1 h0
   cases h1;subst hz;exact ⟨rfl,bO w⟩
 · cases h1
   refine ⟨rfl,rfl,hc,by simpa [maxLen] using hm,(fun h=>by cases h),.inr ⟨g,0,rfl,fun j hj=>?_⟩⟩;rw [Nat.zero_add,cell_of_row w g j _ _ _ hg,←Array.getElem?_toList];have e:(cur.toList.take (z.length*1))[j]?=(z.map (Value.int .u8))[j]?:=by rw [ht]
   rw [Nat.mul_one,List.getElem?_take_of_lt hj,List.getElem?_map,List.getElem?_eq_getElem hj] at e
   rw [e,List.getElem?_eq_getElem hj];rfl
theorem ao.isSlice {w:World} {base:Nat} {v:Value} {z:List Int} (h:ao w base v z):∃x n c,v=.slice x n c∧n=z.length:=by
 rcases h.2 with ⟨rfl,h0⟩|⟨g,cap,cur,rfl,_⟩
 · exact ⟨none,0,0,rfl,h0.symm⟩
 · exact ⟨_,_,_,rfl,rfl⟩
theorem cn {w:World} {x:Option Addr} {len cap:Nat} {z:List Int} (h:Bytes w x len cap z):(convert 41 9 (.slice x len cap)).run Tryz.prog w=.ok (.string (strOfNums z)) w:=by
 rw [run_convert_bytes_string w 41 9 5 x len cap Tryz.underlying41 Tryz.underlying5 Tryz.underlying9];have hz:=h.len_eq;have hcase:∀a:Addr,x=some a→(∀j u,(z.map (Value.int .u8))[j]?=some u→w.cell? (a.add j)=some u)→(Conv.bytesToString (.slice x len cap)).run Tryz.prog w=.ok (.string (strOfNums z)) w:=fun a hx hsrc=>by
  subst hx;have hl:=run_loadCells_list (P:=Tryz.prog) w a (z.map (Value.int .u8)) hsrc;rw [List.length_map,←hz] at hl
  rw [run_bytesToString w a len cap z hl,foldl_push_bytes];simp [strOfNums]
 rcases h.at_ with h0|⟨b,off,hx,hc⟩
 · have hz0:z=[]:=List.length_eq_zero_iff.1 (by omega)
   cases x with
   |none=>
    subst hz0 h0;simp only [Conv.bytesToString,Sem.run_pure];rfl
   |some a=>exact hcase a rfl (fun j u hu=>by subst hz0;simp at hu)
 · exact hcase _ hx (fun j u hu=>by
    have hj:j<len:=by have:=(List.getElem?_eq_some_iff.1 hu).1;simpa [hz] using this
    rw [Addr.add_mid',hc j hj,←hu,List.getElem?_map,List.getElem?_eq_getElem (by omega)];rfl)
theorem Bytes.drewN {w:World} {x:Option Addr} {len cap:Nat} {z:List Int} (h:Bytes w x len cap z) (n:Nat):Bytes (w.drewN n) x len cap z:=h.below (aD (Below.refl _ _) n)
set_option linter.unusedSimpArgs false
def bN (x:Option Addr) (cap l:Nat):Option Addr:=if cap=l then x else x.map (·.add (l*1))
theorem Bytes.cut {w:World} {x:Option Addr} {len cap:Nat} {z:List Int} (hb:Bytes w x len cap z) (l h:Nat) (h1:l≤h) (h2:h≤len):Bytes w (bN x cap l) (h - l) (cap - l) ((z.drop l).take (h - l)):=by
 have hz:=hb.len_eq;have hle:=hb.le;refine ⟨by rw [List.length_take,List.length_drop];omega,by omega,by have:=hb.top;omega,?_,?_⟩
 · unfold bN
   split
   · intro _;omega
   · intro hn
     cases x with
     |none=>have:=hb.nil rfl;omega
     |some a=>simp at hn
 · by_cases h0:h - l=0
   · exact .inl h0
   · rcases hb.at_ with h00|⟨b,off,hx,hc⟩
     · omega
     · refine .inr ⟨b,off+l,?_,fun j hj=>?_⟩
       · unfold bN
         rw [if_neg (by omega),hx,Option.map_some,Addr.add_mid',Nat.mul_one]
       · rw [Nat.add_assoc,hc (l+j) (by omega),List.getElem?_take_of_lt hj,List.getElem?_drop]
theorem kl (w:World):(sizeOf (Tryz.prog.elem 41)).run Tryz.prog w=.ok 1 w:=by kernel_rfl
theorem nH:Tryz.prog.underlying 41=some (.slice (Tryz.prog.elem 41)):=by kernel_rfl
theorem iH (w:World) (x:Option Addr) (len cap h:Nat) (hh:h≤cap):(Instr.slice 41 (.slice x len cap) none (some (.int .i64 (h:Int))) none).run Tryz.prog w=.ok (.slice (bN x cap 0) h cap) w:=by
 rw [run_slice_h w 41 x len cap nH .i64 (h:Int) (by omega) (by omega),kl];simp [sliced,bN,Result.andThen]
theorem f8 (w:World) (x:Option Addr) (len cap l:Nat) (hl:l≤len):(Instr.slice 41 (.slice x len cap) (some (.int .i64 (l:Int))) none none).run Tryz.prog w=.ok (.slice (bN x cap l) (len - l) (cap - l)) w:=by
 rw [run_slice_l w 41 x len cap nH .i64 (l:Int) (by omega) (by omega),kl];simp [sliced,bN,Result.andThen]
theorem ao.ofHolds {w:World} {g base:Nat} {l:List Int} (h:aa w g .u8 5 l) (hb:base≤g) (hl:l.length≤4000000):ao w base (.slice (some ⟨g,0,none⟩) l.length l.length) l:=
 ⟨by simp,.inr ⟨g,l.length,row .u8 l,rfl,hb,h,Nat.le_refl _,by simp [maxLen];omega,by rw [bc];omega,by simp only [row,Nat.mul_one];exact List.take_of_length_le (by simp)⟩⟩
theorem dI {P:Program} {o:Oper} {a:Act} {w:World} {K:Act→World→Prop} {Q:Exit→Act→World→Prop} (ty:TypeId) (x y:Operand) (ho:o.op=.store ty x y)
    (g:Nat) (hx:a.eval x=.pointer (some ⟨g,0,none⟩)) {k:IntKind} {t:TypeId} {old l:List Int} (hy:a.eval y=.agg (row k l)) (hg:aa w g k t old)
    (hi:(P.info? ty).map (·.size)=some l.length) (hl:old.length=l.length)
    (h:K (a.put o.dst undef) (w.setRow g (row k l))):o.wp P a w K Q:=by
 unfold Oper.wp execOp;simp only [ho,hx,hy,Instr.storeAt,Instr.sureAddr,Sem.run_bind,Sem.run_pure,Result.andThen_ok,bx w g ty t k old l hg hl hi];exact h
theorem ao.lessG {w:World} {base base':Nat} {v:Value} {z:List Int} (h:ao w base v z) (hb:base'≤base):ao w base' v z:=by
 refine ⟨h.1,?_⟩
 rcases h.2 with h'|⟨g,cap,cur,h1,h2,h3⟩
 · exact .inl h'
 · exact .inr ⟨g,cap,cur,h1,by omega,h3⟩
set_option maxHeartbeats 1000000
def Box (w:World) (H:Nat) (t:TypeId) (v:Value):Prop:=w.heap[H]?=some (.cells #[v] t (0,0))
theorem Box.cell {w:World} {H:Nat} {t:TypeId} {v:Value} (h:Box w H t v):w.cell? ⟨H,0,none⟩=some v:=(cell_of_row w H 0 _ t _ h).trans rfl
theorem Box.frozen {w:World} {H:Nat} {t:TypeId} {v:Value} (h:Box w H t v):w.frozen? ⟨H,0,none⟩=false:=frozen_of_row w H 0 _ t h
theorem Box.lt {w:World} {H:Nat} {t:TypeId} {v:Value} (h:Box w H t v):H<w.heap.size:=(Array.getElem?_eq_some_iff.1 h).1
theorem Box.set {w:World} {H:Nat} {t:TypeId} {v:Value} (h:Box w H t v) (v':Value):Box (w.setCell ⟨H,0,none⟩ v') H t v':=by
 unfold Box at h ⊢
 rw [heap_setCell_same w H 0 _ t _ h];rfl
theorem Box.alloc {w:World} {H:Nat} {t:TypeId} {v:Value} (h:Box w H t v) (o:Obj):Box (w.alloc o) H t v:=by
 have hl:=h.lt;unfold Box at h ⊢;rw [Below.heap_alloc w o H hl];exact h
theorem ao.apartT {w:World} {base g:Nat} {v:Value} {z:List Int} {cs:Array Value} {t:TypeId} {fr:Nat×Nat} (h:ao w base v z) (hb:w.heap[g]?=some (.cells cs t fr)) (ht:t≠5):v.ownBlock=none∨v.ownBlock≠some g:=by
 rcases h.2 with ⟨rfl,_⟩|⟨g',cap,cur,rfl,_,hg,_⟩
 · exact .inl rfl
 · refine .inr fun e=>?_
   simp [Value.ownBlock] at e
   subst e;rw [hg] at hb
   simp at hb
   exact ht hb.2.1.symm
theorem rZ {w w':World} {base g:Nat} {v:Value} {z:List Int} {cs:Array Value} {t:TypeId} {fr:Nat×Nat} (h:ao w base v z) (hg:w.grownBy w' v.ownBlock) (hb:w.heap[g]?=some (.cells cs t fr)) (ht:t≠5):w'.heap[g]?=some (.cells cs t fr):=by
 have hl:g<w.heap.size:=(Array.getElem?_eq_some_iff.1 hb).1;have hne:=h.apartT hb ht;rw [hg.block g hl (fun e=>by rcases hne with h0|h0<;>rw [←e] at h0<;>simp at h0)];exact hb
theorem ao.setBox {w:World} {base H:Nat} {t:TypeId} {v u:Value} {z:List Int} (h:ao w base v z) (hb:Box w H t u) (ht:t≠5) (u':Value):ao (w.setCell ⟨H,0,none⟩ u') base v z:=by
 have hne:=h.apartT hb ht;exact World.ownsRow.kept h (row:=some H) ⟨rfl,rfl,rfl,by simp [World.setCell],fun k _ hk=>heap_setCell_other w _ k _ (fun e=>hk (by rw [e]))⟩ hne
structure Wr (w:World) (H base:Nat) (L:List Int):Prop where
 ge:base≤H
 has:∃v,Box w H 114 v∧ao w base v L
structure cz (w w':World) (H base:Nat):Prop where
 below:Below base w w'
 kept:∀(g:Nat) (cs:Array Value) (t:TypeId) (fr:Nat×Nat),g≠H→t≠5→w.heap[g]?=some (.cells cs t fr)→w'.heap[g]?=some (.cells cs t fr)
theorem cz.refl (w:World) (H base:Nat):cz w w H base:=⟨Below.refl _ _,fun _ _ _ _ _ _ h=>h⟩
theorem cz.trans {w w' w'':World} {H base:Nat} (h:cz w w' H base) (h':cz w' w'' H base):cz w w'' H base:=⟨h.below.trans h'.below,fun g cs t fr h1 h2 h3=>h'.kept g cs t fr h1 h2 (h.kept g cs t fr h1 h2 h3)⟩
theorem cz.alloc {w:World} {H base:Nat} (hb:base≤w.heap.size) (o:Obj):cz w (w.alloc o) H base:=⟨(Below.refl _ _).alloc hb _,fun g cs t fr _ _ h3=>by rw [Below.heap_alloc w o g (Array.getElem?_eq_some_iff.1 h3).1];exact h3⟩
theorem Wr.alloc {w:World} {H base:Nat} {L:List Int} (h:Wr w H base L) (o:Obj):Wr (w.alloc o) H base L:=by
 obtain ⟨v,h1,h2⟩:=h.has;exact ⟨h.ge,v,h1.alloc o,h2.alloc o⟩
theorem Wr.size {w:World} {H base:Nat} {L:List Int} (h:Wr w H base L):base≤w.heap.size:=by
 obtain ⟨v,h1,_⟩:=h.has;have:=h1.lt;have:=h.ge;omega
theorem cC (H base:Nat) (L:List Int) (x:Option Addr) (len cap:Nat) (z:List Int) (w:World) (hW:Wr w H base L) (hb:Bytes w x len cap z) (hln:L.length+len≤4000000):
    Calls Tryz.prog 72 #[.pointer (some ⟨H,0,none⟩),.slice x len cap] w fun e w'=>(∃r,e=.returned r)∧Wr w' H base (L++z)∧cz w w' H base:=by
 have hbase:=hW.size;have hH:=hW.ge;obtain ⟨v,hbox,hown⟩:=hW.has;have hc:=hbox.cell;clear hW;go_enter Tryz.func72,Tryz.ntmps72
 go_wp2_with (at_builtin;refine aG rfl _ _ rfl base _ L rfl hown x len cap z rfl hb hln hbase ?_;intro v1 w1 ho1 hg1;have hb1:Box w1 H 114 v:=rZ hown hg1 hbox (by decide);have hc1:=hb1.cell;have hf1:=hb1.frozen;obtain ⟨x1,n1,c1,rfl,hn1⟩:=ho1.isSlice;clear hn1)
 go_end0
 refine ⟨⟨_,rfl⟩,⟨hH,_,hb1.set _,ho1.setBox hb1 (by decide) _⟩,(below_grown (Below.refl _ _) hown hg1 hbase).setCell hH _,fun g cs t fr h1 h2 h3=>?_⟩;rw [heap_setCell_other _ _ g _ h1];exact rZ hown hg1 h3 h2
def be2 (n:Int):List Int:=[n / 256 % 256,n % 256]
def be4 (n:Int):List Int:=[n / 16777216 % 256,n / 65536 % 256,n / 256 % 256,n % 256]
theorem bu (w:World) (l:List Int) (hl:l.length≤4000000):Bytes (w.alloc (.cells (row .u8 l) 5)) (some ⟨w.heap.size,0,none⟩) l.length l.length l:=(aa.new w .u8 5 l).bytes rfl hl
theorem sk (H base:Nat) (L:List Int) (n:Nat) (w:World) (hW:Wr w H base L) (hln:L.length≤3000000):
    Calls Tryz.prog 71 #[.pointer (some ⟨H,0,none⟩),.int .i64 n] w fun e w'=>(∃r,e=.returned r)∧Wr w' H base (L++be2 n)∧cz w w' H base:=by
 have hsz:=hW.size;have hp:=cC H base L (some ⟨w.heap.size,0,none⟩) 2 2 (be2 n) (w.alloc (.cells (row .u8 (be2 n)) 5)) (hW.alloc _) (bu w (be2 n) (by simp [be2])) (by omega);have hgo:=cz.alloc (H:=H) hsz (.cells (row .u8 (be2 n)) 5);have e1:IntKind.u8.wrap ((n:Int) / 2 ^ 8)=(n:Int) / 256 % 256:=by simp [IntKind.wrap,IntKind.bits,IntKind.signed]
 have e2:IntKind.u8.wrap (n:Int)=(n:Int) % 256:=by simp [IntKind.wrap,IntKind.bits,IntKind.signed]
 have e3:IntKind.u8.wrap ((n:Int) / 256)=(n:Int) / 256 % 256:=by simp [IntKind.wrap,IntKind.bits,IntKind.signed]
 clear hW;go_enter Tryz.func71,Tryz.ntmps71
 go_wp2_with (go_at_call 72;refine hp.mono ?_;rintro e w1 ⟨⟨r,rfl⟩,hW1,hg1⟩)
 go_end0
 exact ⟨⟨_,rfl⟩,hW1,hgo.trans hg1⟩
theorem mm (H base:Nat) (L:List Int) (n:Int) (w:World) (hW:Wr w H base L) (hln:L.length≤3000000):
    Calls Tryz.prog 118 #[.pointer (some ⟨H,0,none⟩),.int .u32 n] w fun e w'=>(∃r,e=.returned r)∧Wr w' H base (L++be4 n)∧cz w w' H base:=by
 have hsz:=hW.size;have hp:=cC H base L (some ⟨w.heap.size,0,none⟩) 4 4 (be4 n) (w.alloc (.cells (row .u8 (be4 n)) 5)) (hW.alloc _) (bu w (be4 n) (by simp [be4])) (by omega);have hgo:=cz.alloc (H:=H) hsz (.cells (row .u8 (be4 n)) 5);have e1:IntKind.u8.wrap (n / 16777216)=n / 16777216 % 256:=by simp [IntKind.wrap,IntKind.bits,IntKind.signed]
 have e2:IntKind.u8.wrap (n / 65536)=n / 65536 % 256:=by simp [IntKind.wrap,IntKind.bits,IntKind.signed]
 have e3:IntKind.u8.wrap (n / 256)=n / 256 % 256:=by simp [IntKind.wrap,IntKind.bits,IntKind.signed]
 have e4:IntKind.u8.wrap n=n % 256:=by simp [IntKind.wrap,IntKind.bits,IntKind.signed]
 clear hW;go_enter Tryz.func118,Tryz.ntmps118
 go_wp2_with (go_at_call 72;refine hp.mono ?_;rintro e w1 ⟨⟨r,rfl⟩,hW1,hg1⟩)
 go_end0
 exact ⟨⟨_,rfl⟩,hW1,hgo.trans hg1⟩
section
variable {P:Program} {ops:Array Oper} {Q:Exit→Act→World→Prop} {md:Region.Mode} {S:World→Prop} {D:Nat}
theorem co {i j:Nat} {oi oj:Oper} {fuel:Nat} {listed:Array Bool} {a:Act} {w:World} (hi:ops[i]?=some oi) (hj:ops[j]?=some oj) (hr:Region.ready md ops listed=[i,j])
    (hwi:Region.wanted oi (yielded ops a.tmps)=true) (hwj:Region.wanted oj (yielded ops a.tmps)=true)
    (h1:∀K':Act→World→Prop,Shut (∀a w,((listed.setIfInBounds i true).getD D true=false→S w)→aE P md ops Q S D fuel (listed.setIfInBounds i true) a w→K' a w)→Oper.wp P oi a w K' Q)
    (h2:∀K':Act→World→Prop,Shut (∀a w,((listed.setIfInBounds j true).getD D true=false→S w)→aE P md ops Q S D fuel (listed.setIfInBounds j true) a w→K' a w)→Oper.wp P oj a w K' Q):aE P md ops Q S D (fuel+1) listed a w:=
 ⟨fun h0=>(by rw [hr] at h0;cases h0),fun q hq=>by
  rw [hr] at hq
  rcases List.mem_cons.1 hq with rfl|hq
  · refine wpOp_step hi (fun K' hK=>?_)
    rw [if_pos hwi];exact h1 K' (fun a w h1 h2=>hK a w ⟨h1,h2⟩)
  · obtain rfl:q=j:=by simpa using hq
    refine wpOp_step hj (fun K' hK=>?_);rw [if_pos hwj];exact h2 K' (fun a w h1 h2=>hK a w ⟨h1,h2⟩)⟩
end
theorem yi {α:Prop} (R:Nat→Value→World→Prop) (C:Nat→Value→World→Prop) (use:ac (∀g v w,R g v w→C g v w)→α) (prove:∀g v w,R g v w→C g v w):α:=use ⟨prove⟩
end Go.Proofs.YtbdhfbglagdiaaaGreatDoor
