/- Gk Ev0 Gate -/
import Derived.Test.YtbdhfbglagdiaaaGreatDoorProg
import Derived.Laws.Entries
import Derived.WalkKit
import Derived.WalkSpells
import Derived.WalkLawsBesides
import Derived.Deep.QuietTactic
import Derived.BigQuiet
import Derived.Laws.Rows
import Derived.Laws.CopyRow
import Derived.Laws.CopyOwn
import Derived.Deep.WholeRow
import Derived.ChangeKeysEq
import Derived.Deep.RegionHeld3
import Derived.Deep.DeepCutAuto
import Derived.Deep.MidRow
import Derived.OrdersHeld
import Derived.Deep.RegionHeld
import Derived.StillTail
namespace Go.Proofs.YtbdhfbglagdiaaaGreatDoor
open Go Go.RowKit
theorem zp:(∀(a:Act) (t:Tmp) (v:Value),a.put (some t) v={a with tmps:=a.tmps.setIfInBounds t v})∧(∀(a:Act) (v:Value),a.put none v=a)∧(∀(l:List Value) (i:Nat) (a:Value),l.toArray.setIfInBounds i a=(l.set i a).toArray)∧(∀(a b:Value) (l:List Value),(a::l).set 0 b=b::l)∧(∀(a b:Value) (l:List Value) (n:Nat),(a::l).set (n+1) b=a::l.set n b)∧(∀(l:List Bool) (i:Nat) (a:Bool),l.toArray.setIfInBounds i a=(l.set i a).toArray)∧(∀(a b:Bool) (l:List Bool),(a::l).set 0 b=b::l)∧(∀(a b:Bool) (l:List Bool) (n:Nat),(a::l).set (n+1) b=a::l.set n b)∧(∀(xs:List Oper) (i:Nat) (h:i<xs.toArray.size),xs.toArray[i]=xs[i]'(by simpa using h))∧(∀(a:Oper) (l:List Oper) (h:0<(a::l).length),(a::l)[0]=a)∧(∀(a:Oper) (l:List Oper) (i:Nat) (h:i+1<(a::l).length),(a::l)[i+1]=l[i]'(Nat.lt_of_succ_lt_succ h)):=⟨fun _ _ _=>rfl,fun _ _=>rfl,fun _ _ _=>List.setIfInBounds_toArray ..,fun _ _ _=>rfl,fun _ _ _ _=>rfl,fun _ _ _=>List.setIfInBounds_toArray ..,fun _ _ _=>rfl,fun _ _ _ _=>rfl,fun _ _ _=>rfl,fun _ _ _=>rfl,fun _ _ _ _=>rfl⟩
theorem zn {p:Prop} (h:true=false):p:=by cases h
theorem sI {α:Type _} (l:List α) (i:Nat) (a:α):l.toArray.setIfInBounds i a=(l.set i a).toArray:=List.setIfInBounds_toArray ..
theorem sZ {α:Type _} {a b:α} {l:List α}:(a::l).set 0 b=b::l:=rfl
theorem sS {α:Type _} {a b:α} {l:List α} {n:Nat}:(a::l).set (n+1) b=a::l.set n b:=rfl
theorem gZ {α:Type _} {a:α} {l:List α} (h:0<(a::l).length):(a::l)[0]=a:=rfl
theorem gS {α:Type _} {a:α} {l:List α} {i:Nat} (h:i+1<(a::l).length):(a::l)[i+1]=l[i]'(Nat.lt_of_succ_lt_succ h):=rfl
theorem gA {α:Type _} {xs:List α} {i:Nat} (h:i<xs.toArray.size):xs.toArray[i]=xs[i]'(by simpa using h):=rfl
structure ac (p:Prop):Prop where
 out:p
def row (k:IntKind) (l:List Int):Array Value:=(l.map (Value.int k)).toArray
theorem bc (k:IntKind) (l:List Int):(row k l).size=l.length:=by simp [row]
theorem row_get? (k:IntKind) (l:List Int) (i:Nat):(row k l)[i]?=l[i]?.map (Value.int k):=by simp [row]
theorem fe (k:IntKind) (l:List Int) (i:Nat) (h:i<l.length):(row k l)[i]?=some (Value.int k (l[i]?.getD 0)):=by
 rw [row_get?,List.getElem?_eq_getElem h];rfl
theorem ob (k:IntKind) (l:List Int) (i:Nat) (v:Int):(row k l).setIfInBounds i (Value.int k v)=row k (l.set i v):=by
 simp [row,List.map_set]
theorem gH (k:IntKind) (l:List Int):(row k l).all (·.oneCell')=true:=by
 simp [row,Value.oneCell']
theorem fb (k:IntKind) (x y:Int):bits .or k x y=bits .or k y x:=by
 simp only [bits];rw [BitVec.or_comm]
def InU (s:List Int):Prop:=∀x∈s,0≤x∧x≤4294967295
theorem br (l:List Int) (m:Nat) (v:Int):(l++List.replicate (m+1) 0).set l.length v=(l++ [v])++List.replicate m 0:=by
 rw [List.set_append_right _ _ (Nat.le_refl _)];simp [List.replicate_succ]
theorem lr (l:List Int) (m n:Nat) (a b c d:Int) (h:l.length=n):((((l++List.replicate (m+4) 0).set n a).set (n+1) b).set (n+2) c).set (n+3) d=l++ [a,b,c,d]++List.replicate m 0:=by
 subst h;rw [br l (m+3) a];have e1:=br (l++ [a]) (m+2) b;have e2:=br (l++ [a]++ [b]) (m+1) c;have e3:=br (l++ [a]++ [b]++ [c]) m d;simp only [List.length_append,List.length_cons,List.length_nil] at e1 e2 e3
 rw [show l.length+1=l.length+(0+1) by omega,e1,show l.length+2=l.length+(0+1)+(0+1) by omega,e2,show l.length+3=l.length+(0+1)+(0+1)+(0+1) by omega,e3];simp
theorem bG (l:List Int) (k:Nat) (h:k<l.length):l.take (k+1)=l.take k++ [l[k]?.getD 0]:=by
 rw [List.take_succ_eq_append_getElem h,List.getElem?_eq_getElem h];rfl
def aa (w:World) (g:Nat) (k:IntKind) (t:TypeId) (l:List Int):Prop:=w.heap[g]?=some (.cells (row k l) t (0,0))
theorem aa.lt {w:World} {g:Nat} {k:IntKind} {t:TypeId} {l:List Int} (h:aa w g k t l):g<w.heap.size:=by
 unfold aa at h
 exact (Array.getElem?_eq_some_iff.1 h).1
theorem aa.cell {w:World} {g:Nat} {k:IntKind} {t:TypeId} {l:List Int} (h:aa w g k t l) (j:Nat) (hj:j<l.length):w.cell? ⟨g,j,none⟩=some (.int k (l[j]?.getD 0)):=by
 rw [cell_of_row w g j _ t _ h,fe k l j hj]
theorem aa.frozen {w:World} {g:Nat} {k:IntKind} {t:TypeId} {l:List Int} (h:aa w g k t l) (j:Nat):w.frozen? ⟨g,j,none⟩=false:=frozen_of_row w g j _ t h
theorem aa.drewN {w:World} {g:Nat} {k:IntKind} {t:TypeId} {l:List Int} (h:aa w g k t l) (n:Nat):aa (w.drewN n) g k t l:=by
 unfold aa at h ⊢;simpa using h
theorem aa.drew {w:World} {g:Nat} {k:IntKind} {t:TypeId} {l:List Int} (h:aa w g k t l):aa w.drew g k t l:=by
 unfold aa at h ⊢;rw [heap_drew];exact h
theorem aa.alloc {w:World} {g:Nat} {k:IntKind} {t:TypeId} {l:List Int} (h:aa w g k t l) (o:Obj):aa (w.alloc o) g k t l:=by
 have hl:=h.lt;unfold aa at h ⊢;rw [Below.heap_alloc w o g hl];exact h
theorem aa.below {w w':World} {B g:Nat} {k:IntKind} {t:TypeId} {l:List Int} (h:aa w g k t l) (hb:Below B w w') (hg:g<B):aa w' g k t l:=by
 unfold aa at h ⊢;rw [hb.block g hg];exact h
theorem aa.set {w:World} {g:Nat} {k:IntKind} {t:TypeId} {l:List Int} (h:aa w g k t l) (j:Nat) (v:Int):aa (w.setCell ⟨g,j,none⟩ (.int k v)) g k t (l.set j v):=by
 unfold aa at h ⊢
 rw [heap_setCell_same w g j _ t _ h,ob]
theorem aa.setOther {w:World} {g:Nat} {k:IntKind} {t:TypeId} {l:List Int} (h:aa w g k t l) (a:Addr) (v:Value) (hne:g≠a.block):aa (w.setCell a v) g k t l:=by
 unfold aa at h ⊢
 rw [heap_setCell_other w a g v hne];exact h
theorem aa.new (w:World) (k:IntKind) (t:TypeId) (l:List Int):aa (w.alloc (.cells (row k l) t)) w.heap.size k t l:=heap_alloc_new w _
theorem aa.setRow {w:World} {g:Nat} {k:IntKind} {t:TypeId} {l:List Int} (h:aa w g k t l) (l':List Int):aa (w.setRow g (row k l')) g k t l':=by
 unfold aa at h ⊢;exact setRow_heap w g _ _ t _ h
theorem aa.setRowOther {w:World} {g g':Nat} {k:IntKind} {t:TypeId} {l:List Int} (h:aa w g k t l) (cs:Array Value) (hne:g≠g'):aa (w.setRow g' cs) g k t l:=by
 unfold aa at h ⊢;rw [setRow_other w g' g cs hne];exact h
theorem l8 (w:World) (n:Nat):(w.drewN n).heap.size=w.heap.size:=by simp
theorem aD {B:Nat} {a w:World} (h:Below B a w) (n:Nat):Below B a (w.drewN n):=by
 induction n with
 |zero=>exact h
 |succ n ih=>exact ih.drew
theorem ae {p:World→Prop} {W:World} (I:World→Prop) (hI:I W) (h:∀W0,I W0→p W0):p W:=h W hI
theorem qe {W w1:World} (hb:Below W.heap.size W w1):(∀b o,b<W.heap.size→w1.cell? ⟨b,o,none⟩=W.cell? ⟨b,o,none⟩)∧(∀b o,b<W.heap.size→w1.frozen? ⟨b,o,none⟩=W.frozen? ⟨b,o,none⟩):=
 ⟨fun b o h=>hb.cell (p:=⟨b,o,none⟩) h,fun b o h=>hb.frozen (p:=⟨b,o,none⟩) h⟩
section
variable {P:Program}
theorem am {ops:Array Oper} {rest:List Oper} {o:Oper} {a:Act} {w:World} {Q:Exit→Act→World→Prop} (hgd:o.guard=none) (ty:TypeId) (x:Operand) (ho:o.op=.load ty x)
    (g:Nat) (hx:a.eval x=.pointer (some ⟨g,0,none⟩)) {k:IntKind} {t:TypeId} {l:List Int} (hg:aa w g k t l) {n:Nat} {e:TypeId}
    (hu:P.underlying ty=some (.array n e)) (hi:(P.info? ty).map (·.size)=some n) (hl:l.length=n)
    (h:wpList P ops Q rest (a.put o.dst (.agg (row k l))) w):wpList P ops Q (o::rest) a w:=
 wpList_load_row hgd ty x ho g hx t (row k l) (0,0) _ hg hu rfl (by rw [hi,bc,hl]) h
theorem bx (w:World) (g:Nat) (ty t:TypeId) (k:IntKind) (old l:List Int) (hg:aa w g k t old) (hl:old.length=l.length) (hi:(P.info? ty).map (·.size)=some l.length):
    (storeVar ty ⟨g,0,none⟩ (.agg (row k l))).run P w=.ok () (w.setRow g (row k l)):=by
 have hst:=run_storeCells_at P g 0 t (row k l).toList 0 (row k old) w hg (by simp [row,hl]) (fun v hv=>by
  have:=gH k l;exact (Array.all_eq_true_iff_forall_mem.1 this) v (by simpa using hv))
 cases hq:P.info? ty with
 |none=>simp [hq] at hi
 |some i=>
  have hs:i.size=l.length:=by simpa [hq] using hi
  have hsz:(row k l).size=i.size:=by rw [bc,hs]
  have he:(List.take (0+0) (row k old).toList++(row k l).toList++List.drop (0+0+(row k l).toList.length) (row k old).toList).toArray=row k l:=by
   simp [row,hl]
  rw [he] at hst
  simp [storeVar,sizeOf,typeInfo,hq,Value.cells,hsz,hst]
theorem aj {ops:Array Oper} {rest:List Oper} {o:Oper} {a:Act} {w:World} {Q:Exit→Act→World→Prop} (hgd:o.guard=none) (ty:TypeId) (x y:Operand) (ho:o.op=.store ty x y)
    (g:Nat) (hx:a.eval x=.pointer (some ⟨g,0,none⟩)) {k:IntKind} {t:TypeId} {old l:List Int} (hy:a.eval y=.agg (row k l)) (hg:aa w g k t old)
    (hi:(P.info? ty).map (·.size)=some l.length) (hl:old.length=l.length)
    (h:wpList P ops Q rest (a.put o.dst undef) (w.setRow g (row k l))):wpList P ops Q (o::rest) a w:=
 wpList_plain hgd fun _ hK=>by
  unfold Oper.wp execOp;simp only [ho,hx,hy,Instr.storeAt,Instr.sureAddr,Sem.run_bind,Sem.run_pure,Result.andThen_ok,bx w g ty t k old l hg hl hi];exact hK _ _ h
theorem ak {fn:Func} {p:Tmp} {ty:TypeId} (h:fn.results= #[.cell p ty]) (tmps:Array Value) {w:World} {g:Nat} {k:IntKind} {t:TypeId} {l:List Int}
    (hp:tmps.getD p undef=.pointer (some ⟨g,0,none⟩)) (hg:aa w g k t l) {n:Nat} {e:TypeId}
    (hu:P.underlying ty=some (.array n e)) (hi:(P.info? ty).map (·.size)=some n) (hl:l.length=n):
    (results fn tmps).run P w=.ok (.agg (row k l)) w:=
 results_cell_row h tmps w g t (row k l) (0,0) _ hp hg hu rfl (by rw [hi,bc,hl])
theorem jN (w:World) (e:TypeId) (kd:IntKind) (l:List Int) (k:Nat) (hue:P.underlying e=some (.int kd)) (hk:k<l.length):
    (part e (row kd l) (k*1)).run P w=.ok (.int kd (l[k]?.getD 0)) w:=by
 have hg:=fe kd l k hk;simp [part,isAgg,run_underlying hue,hg]
theorem fU (w:World) (d:Nat) (e:TypeId) (kd:IntKind) (l m:List Int) (hue:P.underlying e=some (.int kd)):∀is:List Nat,(∀i∈is,i<l.length∧i<m.length)→
    (Op.eqItems (d+1) e 1 (row kd l) (row kd m) is).run P w=.ok (is.all fun i=>l[i]?.getD 0==m[i]?.getD 0) w
 |[],_=>by simp [Op.eqItems]
 |i::is,h=>by
  have h1:=(h i (by simp)).1;have h2:=(h i (by simp)).2;have ih:=fU w d e kd l m hue is (fun j hj=>h j (by simp [hj]));have he:=run_equalIn_int (P:=P) (w:=w) d e kd kd (l[i]?.getD 0) (m[i]?.getD 0) hue;simp only [Op.eqItems,Sem.run_bind,jN w e kd l i hue h1,jN w e kd m i hue h2,Result.andThen_ok,he,List.all_cons];cases hq:(l[i]?.getD 0==m[i]?.getD 0)
  · simp
  · simpa using ih
theorem xI (l m:List Int) (n:Nat) (hl:l.length=n) (hm:m.length=n):((List.range n).all fun i=>l[i]?.getD 0==m[i]?.getD 0)=(l==m):=by
 rw [Bool.eq_iff_iff];simp only [List.all_eq_true,List.mem_range,beq_iff_eq]
 constructor
 · intro h
   apply List.ext_getElem (by omega);intro i h1 h2;have:=h i (by omega)
   simpa [h1,h2] using this
 · rintro rfl i _;rfl
theorem run_equalIn_rows (w:World) (d:Nat) {t e:TypeId} {n:Nat} (kd:IntKind) (l m:List Int) (hu:P.underlying t=some (.array n e)) (hue:P.underlying e=some (.int kd)) (hc:P.cellsOf e=1) (hi:(P.info? e).isSome=true) (hl:l.length=n) (hm:m.length=n):
    (Op.equalIn (d+1+1) t (.agg (row kd l)) (.agg (row kd m))).run P w=.ok (l==m) w:=by
 obtain ⟨i,hi⟩:=Option.isSome_iff_exists.1 hi;rw [run_equalIn_array w (d+1) _ _ hu hi,hc,fU w d e kd l m hue _ (fun j hj=>by have:=List.mem_range.1 hj;omega),xI l m n hl hm]
end
theorem ce {P:Program} (w:World) (t e:TypeId) (n:Nat) (kd:IntKind) (l:List Int) (k:Nat) (hu:P.underlying t=some (.array n e)) (hue:P.underlying e=some (.int kd)) (hi:(P.info? e).map (·.size)=some 1) (hl:l.length=n) (hk:k<n):
    (Instr.index t (.agg (row kd l)) (.int .i64 k)).run P w=.ok (.int kd (l[k]?.getD 0)) w:=by
 cases hq:P.info? e with
 |none=>simp [hq] at hi
 |some i=>
  have hs:i.size=1:=by simpa [hq] using hi
  have hg:=fe kd l k (by omega);simp [Instr.index,asIntOf,run_underlying hu,sizeOf,typeInfo,hq,hs,hk,part,isAgg,run_underlying hue,hg]
open Go.RowKit
set_option maxRecDepth 20000
set_option linter.unusedSimpArgs false
theorem af {P:Program} {ops:Array Oper} {rest:List Oper} {o:Oper} {a:Act} {w:World} {Q:Exit→Act→World→Prop} {d:TypeDesc} (hgd:o.guard=none) (ty:TypeId) (x:Operand) (ho:o.op=.load ty x)
    (g off:Nat) (hx:a.eval x=.pointer (some ⟨g,off,none⟩)) (cs:List Value) (hg:w.rangeAt g off cs)
    (hu:P.underlying ty=some d) (hd:d.isRow=true) (hi:(P.info? ty).map (·.size)=some cs.length)
    (h:wpList P ops Q rest (a.put o.dst (.agg cs.toArray)) w):wpList P ops Q (o::rest) a w:=
 wpList_plain hgd fun _ hK=>wp_load_mid ty x ho g off hx cs _ hg hu hd hi (hK _ _ h)
def CellsAt (w:World) (g:Nat) (t:TypeId) (cs:List Value):Prop:=w.heap[g]?=some (.cells cs.toArray t (0,0))
theorem CellsAt.new (w:World) (t:TypeId) (cs:List Value):CellsAt (w.alloc (.cells cs.toArray t)) w.heap.size t cs:=heap_alloc_new w _
theorem CellsAt.lt {w:World} {g:Nat} {t:TypeId} {cs:List Value} (h:CellsAt w g t cs):g<w.heap.size:=(Array.getElem?_eq_some_iff.1 h).1
theorem CellsAt.cell {w:World} {g:Nat} {t:TypeId} {cs:List Value} (h:CellsAt w g t cs) (j:Nat):w.cell? ⟨g,j,none⟩=cs[j]?:=by
 rw [cell_of_row w g j _ _ _ h];simp
theorem CellsAt.alloc {w:World} {g:Nat} {t:TypeId} {cs:List Value} (h:CellsAt w g t cs) (o:Obj):CellsAt (w.alloc o) g t cs:=by
 have hl:=h.lt;unfold CellsAt at h ⊢;rw [Below.heap_alloc w o g hl];exact h
theorem CellsAt.range {w:World} {g:Nat} {t:TypeId} {cs:List Value} (h:CellsAt w g t cs) (o n:Nat):w.rangeAt g o ((cs.drop o).take n):=fun j v hv=>by
 rw [h.cell];rw [List.getElem?_take] at hv
 split at hv
 · rw [List.getElem?_drop] at hv;exact hv
 · simp at hv
theorem CellsAt.frozen {w:World} {g:Nat} {t:TypeId} {cs:List Value} (h:CellsAt w g t cs) (j:Nat):w.frozen? ⟨g,j,none⟩=false:=frozen_of_row w g j _ t h
theorem CellsAt.set {w:World} {g:Nat} {t:TypeId} {cs:List Value} (h:CellsAt w g t cs) (j:Nat) (v:Value):CellsAt (w.setCell ⟨g,j,none⟩ v) g t (cs.set j v):=by
 unfold CellsAt at h ⊢
 simp only [World.setCell,Array.getElem?_modify,h];simp
theorem CellsAt.congr {w w':World} {g:Nat} {t:TypeId} {cs:List Value} (h:CellsAt w g t cs) (he:w'.heap[g]?=w.heap[g]?):CellsAt w' g t cs:=he.trans h
def dotC (a s:Int):List Value:=[.int .u8 a,.int .u32 s]
structure Ev where
 da:Int
 ds:Int
 past:List Int
 kind:Int
 pa:Int
 ps:Int
 right:Bool
 char:Int
 who:Int
 role:Int
def Ev.cells (e:Ev):List Value:=dotC e.da e.ds++e.past.map (Value.int .u32)++([.int .u8 e.kind]++dotC e.pa e.ps++ [.bool e.right,.int .u8 e.char,.int .u8 e.who,.int .u8 e.role])
theorem fZ (e:Ev) (hp:e.past.length=8):(e.cells.drop 0).take 2=dotC e.da e.ds∧(e.cells.drop 2).take 8=e.past.map (Value.int .u32)∧e.cells[10]?=some (.int .u8 e.kind)∧(e.cells.drop 11).take 2=dotC e.pa e.ps∧e.cells[13]?=some (.bool e.right)∧e.cells[14]?=some (.int .u8 e.char)∧e.cells[15]?=some (.int .u8 e.who)∧e.cells[16]?=some (.int .u8 e.role):=by
 obtain ⟨da,ds,past,kind,pa,ps,right,char,who,role⟩:=e
 match past,hp with
 |[_,_,_,_,_,_,_,_],_=>exact ⟨rfl,rfl,rfl,rfl,rfl,rfl,rfl,rfl⟩
theorem aH:(Tryz.prog.info? 26).map (·.size)=some 2:=by kernel_rfl
theorem xn:(Tryz.prog.info? 29).map (·.size)=some 8:=by kernel_rfl
theorem wi:(Tryz.prog.info? 24).map (·.size)=some 1:=by kernel_rfl
theorem dE {P:Program} (w:World) (g:Nat) (ty t:TypeId) (old cs:List Value) (hg:CellsAt w g t old) (hl:old.length=cs.length) (hi:(P.info? ty).map (·.size)=some cs.length) (h1:∀v∈cs,v.oneCell'=true):
    (storeVar ty ⟨g,0,none⟩ (.agg cs.toArray)).run P w=.ok () (w.setRow g cs.toArray):=by
 have hst:=run_storeCells_at P g 0 t cs 0 old.toArray w hg (by simp [hl]) h1;cases hq:P.info? ty with
 |none=>simp [hq] at hi
 |some i=>
  have hs:i.size=cs.length:=by simpa [hq] using hi
  have hsz:cs.toArray.size=i.size:=by simp [hs]
  have he:(List.take (0+0) old.toArray.toList++cs++List.drop (0+0+cs.length) old.toArray.toList).toArray=cs.toArray:=by
   simp [←hl]
  rw [he] at hst
  simp [storeVar,sizeOf,typeInfo,hq,Value.cells,hs,hst]
theorem aq {P:Program} {ops:Array Oper} {rest:List Oper} {o:Oper} {a:Act} {w:World} {Q:Exit→Act→World→Prop} (hgd:o.guard=none) (ty:TypeId) (x y:Operand) (ho:o.op=.store ty x y)
    (g:Nat) (hx:a.eval x=.pointer (some ⟨g,0,none⟩)) {t:TypeId} {old cs:List Value} (hy:a.eval y=.agg cs.toArray) (hg:CellsAt w g t old)
    (hi:(P.info? ty).map (·.size)=some cs.length) (hl:old.length=cs.length) (h1:∀v∈cs,v.oneCell'=true)
    (h:wpList P ops Q rest (a.put o.dst undef) (w.setRow g cs.toArray)):wpList P ops Q (o::rest) a w:=
 wpList_plain hgd fun _ hK=>by
  unfold Oper.wp execOp;simp only [ho,hx,hy,Instr.storeAt,Instr.sureAddr,Sem.run_bind,Sem.run_pure,Result.andThen_ok,dE w g ty t old cs hg hl hi h1];exact hK _ _ h
theorem CellsAt.setRow {w:World} {g:Nat} {t:TypeId} {cs:List Value} (h:CellsAt w g t cs) (cs':List Value):CellsAt (w.setRow g cs'.toArray) g t cs':=by
 unfold CellsAt at h ⊢;exact setRow_heap w g _ _ t _ h
structure Wp where
 too:Int
 ea:Int
 es:Int
 data:List Int
def Wp.cells (e:Wp):List Value:=[.int .u8 e.too]++dotC e.ea e.es++e.data.map (Value.int .u8)
theorem ij (e:Wp) (h:e.data.length=48):e.cells.length=51∧e.cells[0]?=some (.int .u8 e.too)∧(e.cells.drop 1).take 2=dotC e.ea e.es∧(e.cells.drop 3).take 48=e.data.map (Value.int .u8)∧∀v∈e.cells,v.oneCell'=true:=by
 have hd:(e.data.map (Value.int .u8)).length=48:=by rw [List.length_map,h]
 refine ⟨by unfold Wp.cells;simp [dotC,h],rfl,rfl,?_,?_⟩
 · show (e.data.map (Value.int .u8)).take 48=_
   exact List.take_of_length_le (by omega)
 · intro v hv
   unfold Wp.cells dotC at hv
   simp only [List.mem_append,List.mem_cons,List.not_mem_nil,or_false,List.mem_map] at hv
   rcases hv with (rfl|rfl|rfl)|⟨x,_,rfl⟩<;>rfl
section
variable {P:Program} {ops:Array Oper} {Q:Exit→Act→World→Prop} {md:Region.Mode} {S:World→Prop} {D:Nat}
def aE (P:Program) (md:Region.Mode) (ops:Array Oper) (Q:Exit→Act→World→Prop) (S:World→Prop) (D:Nat):Nat→Array Bool→Act→World→Prop
 |0,listed,a,w=>Region.ready md ops listed=[]∧Q .normal a w
 |fuel+1,listed,a,w=>
  (Region.ready md ops listed=[]→Q .normal a w)∧
  ∀i∈Region.ready md ops listed,wpOp P ops Q i (fun a' w'=>((listed.setIfInBounds i true).getD D true=false→S w')∧aE P md ops Q S D fuel (listed.setIfInBounds i true) a' w') a w
theorem dx:∀(fuel:Nat) (listed:Array Bool) (a:Act) (w:World),aE P md ops Q S D fuel listed a w→wpAny P md ops Q fuel listed a w
 |0,_,_,_,h=>h
 |fuel+1,_,_,_,h=>⟨h.1,fun i hi=>wpOp_mono (fun a' w' h'=>dx fuel _ a' w' h'.2) (h.2 i hi)⟩
theorem cU {i:Nat} {oi:Oper} {v:Value} {T:World→Prop} (hi:ops[i]?=some oi) (hsel:∀(j:Nat) (o:Oper) cs b,ops[j]?=some o→o.op≠ .select cs b)
    (hQ:∀c a w,Q (.panic c) (a.put oi.dst v) w→Q (.panic c) a w) (hD:i≠D)
    (hT:(∀w,T w)∨((∀w,S w→T w)∧∃oD,ops[D]?=some oD∧∃e∈oD.after,Region.binds md e=true∧e.on=i)):
    ∀(fuel:Nat) (listed:Array Bool) (a:Act) (w:World),
     (∀j oj,ops[j]?=some oj→j≠i→listed.getD j true=false→(∀e∈oj.after,Region.binds md e=true→e.on≠i)→oi.apart ops oj=true)→
     i∈Region.ready md ops listed→((∀w,T w)∨listed.getD D true=false)→YieldsIf P ops T oi v a→(listed.getD D true=false→S w)→
     aE P md ops Q S D fuel (listed.setIfInBounds i true) (a.put oi.dst v) w→aE P md ops Q S D (fuel+1) listed a w:=by
 have hTw:∀(listed:Array Bool) w,((∀w,T w)∨listed.getD D true=false)→(listed.getD D true=false→S w)→T w:=fun listed w h1 h2=>by
  rcases h1 with h|h
  · exact h w
  · rcases hT with h'|⟨h',_⟩
    · exact h' w
    · exact h' w (h2 h)
 intro fuel
 induction fuel with
 |zero=>
  intro listed a w _ hr hg hy hS H;refine ⟨fun h=>(by rw [h] at hr;cases hr),fun j hj=>?_⟩
  by_cases hji:j=i
  · subst hji;exact hy.wpOp hi (hTw listed w hg hS) ⟨fun h=>hS (by rwa [getD_set_ne true hD] at h),H⟩
  · have:=ready_mono hj hji
    rw [H.1] at this
    cases this
 |succ fuel ih=>
  intro listed a w hfree hr hg hy hS H;refine ⟨fun h=>(by rw [h] at hr;cases hr),fun j hj=>?_⟩
  by_cases hji:j=i
  · subst hji;exact hy.wpOp hi (hTw listed w hg hS) ⟨fun h=>hS (by rwa [getD_set_ne true hD] at h),H⟩
  · have h1:=H.2 j (ready_mono hj hji)
    obtain ⟨hjun,oj,hoj,hall⟩:=mem_ready.1 hj;have hnot:∀e∈oj.after,Region.binds md e=true→e.on≠i:=fun e he hb heq=>by
     have h1:=hall e he hb;have h0:=(mem_ready.1 hr).1;rw [heq] at h1
     rcases Nat.lt_or_ge i listed.size with h'|h'
     · simp [h'] at h0 h1;rw [h0] at h1;cases h1
     · simp [Array.getElem?_eq_none h'] at h1
    have h2:=wpOp_putIf hoj (hfree j oj hoj hji hjun hnot) (fun cs b=>hsel i oi cs b hi) (fun cs b=>hsel j oj cs b hoj) hQ hy h1;have hfree':∀k ok,ops[k]?=some ok→k≠i→(listed.setIfInBounds j true).getD k true=false→
        (∀e∈ok.after,Region.binds md e=true→e.on≠i)→oi.apart ops ok=true:=fun k ok hk hki hun hno=>by
     refine hfree k ok hk hki ?_ hno
     by_cases hjk:j=k
     · subst hjk;exact hjun
     · rw [getD_set_ne true hjk] at hun;exact hun
    have hg':(∀w,T w)∨(listed.setIfInBounds j true).getD D true=false:=by
     rcases hT with h|⟨_,oD,hoD,e,he,hb,hon⟩
     · exact .inl h
     · rcases hg with h|h
       · exact .inl h
       · refine .inr ?_
         have hjD:j≠D:=fun e'=>by
          subst e';obtain rfl:oj=oD:=Option.some.inj (hoj.symm.trans hoD);exact hnot e he hb hon
         rw [getD_set_ne true hjD];exact h
    refine wpOp_mono (fun a' w' h3=>?_) h2;have hS':(listed.setIfInBounds j true).getD D true=false→S w':=fun h=>h3.2.1 (by rw [Array.setIfInBounds_comm _ _ (Ne.symm hji),getD_set_ne true hD];exact h)
    refine ⟨hS',ih (listed.setIfInBounds j true) a' w' hfree' (ready_mono hr (Ne.symm hji)) hg' h3.1 hS' ?_⟩;rw [Array.setIfInBounds_comm _ _ hji];exact h3.2.2
theorem aw {i:Nat} {oi:Oper} {v:Value} {fuel:Nat} {listed:Array Bool} {a:Act} {w:World} (hi:ops[i]?=some oi)
    (hs:Region.noSelect ops=true) (hf:Region.free md ops listed i=true) (hr:(Region.ready md ops listed).contains i=true)
    (hQ:∀c a w,Q (.panic c) (a.put oi.dst v) w→Q (.panic c) a w) (hD:(i==D)=false) (hS:listed.getD D true=false→S w) (hw:Region.wanted oi (yielded ops a.tmps)=true)
    (hy:∀w,(execOp a.eval oi).run P w=.ok (.value v) w)
    (h:aE P md ops Q S D fuel (listed.setIfInBounds i true) (a.put oi.dst v) w):aE P md ops Q S D (fuel+1) listed a w:=
 cU (T:=fun _=>True) hi (Region.noSelect_spec hs) hQ (by simpa using hD) (.inl fun _=>trivial) fuel listed a w (Region.free_spec hi hf) (by simpa using hr) (.inl fun _=>trivial) (.inl ⟨hw,fun w _=>hy w⟩) hS h
theorem gb (i:Nat) {oi:Oper} (v:Value) {fuel:Nat} {listed:Array Bool} {a:Act} {w:World} (hi:ops[i]?=some oi)
    (hb:(Region.noSelect ops&&(Region.free md ops listed i&&((Region.ready md ops listed).contains i&&!(i==D))))=true)
    (hQ:∀c a w,Q (.panic c) (a.put oi.dst v) w→Q (.panic c) a w) (hS:S w) (hw:Region.wanted oi (yielded ops a.tmps)=true)
    (hy:∀w,(execOp a.eval oi).run P w=.ok (.value v) w)
    (h:aE P md ops Q S D fuel (listed.setIfInBounds i true) (a.put oi.dst v) w):aE P md ops Q S D (fuel+1) listed a w:=by
 rw [Bool.and_eq_true,Bool.and_eq_true,Bool.and_eq_true,Bool.not_eq_true'] at hb
 exact aw hi hb.1 hb.2.1 hb.2.2.1 hQ hb.2.2.2 (fun _=>hS) hw hy h
theorem ga (i:Nat) {oi:Oper} (v:Value) {fuel:Nat} {listed:Array Bool} {a:Act} {w:World} (hS:S w)
    (hy:∀w,(execOp a.eval oi).run P w=.ok (.value v) w)
    (h:aE P md ops Q S D fuel (listed.setIfInBounds i true) (a.put oi.dst v) w) (hi:ops[i]?=some oi:=by exact rfl)
    (hb:(Region.noSelect ops&&(Region.free md ops listed i&&((Region.ready md ops listed).contains i&&(!(i==D)&&Region.wanted oi (yielded ops a.tmps)))))=true:=by kernel_rfl)
    (hQ:∀c a w,Q (.panic c) (a.put oi.dst v) w→Q (.panic c) a w:=by exact fun _ _ _ h=>h):aE P md ops Q S D (fuel+1) listed a w:=by
 rw [Bool.and_eq_true,Bool.and_eq_true,Bool.and_eq_true,Bool.and_eq_true,Bool.not_eq_true'] at hb
 exact aw hi hb.1 hb.2.1 hb.2.2.1 hQ hb.2.2.2.1 (fun _=>hS) hb.2.2.2.2 hy h
theorem gaA (i:Nat) {oi:Oper} (v:Value) {fuel:Nat} {listed:Array Bool} {a:Act} {w:World} (hS:S w)
    (h:aE P md ops Q S D fuel (listed.setIfInBounds i true) (a.put oi.dst v) w) (hi:ops[i]?=some oi:=by exact rfl)
    (hb:(Region.noSelect ops&&(Region.free md ops listed i&&((Region.ready md ops listed).contains i&&(!(i==D)&&Region.wanted oi (yielded ops a.tmps)))))=true:=by kernel_rfl)
    (hQ:∀c a w,Q (.panic c) (a.put oi.dst v) w→Q (.panic c) a w:=by exact fun _ _ _ h=>h)
    (hy:∀w,(execOp a.eval oi).run P w=.ok (.value v) w:=by intro _;go_simp;try with_reducible rfl):aE P md ops Q S D (fuel+1) listed a w:=by
 rw [Bool.and_eq_true,Bool.and_eq_true,Bool.and_eq_true,Bool.and_eq_true,Bool.not_eq_true'] at hb
 exact aw hi hb.1 hb.2.1 hb.2.2.1 hQ hb.2.2.2.1 (fun _=>hS) hb.2.2.2.2 hy h
theorem fs {i:Nat} {oi:Oper} {v:Value} {fuel:Nat} {listed:Array Bool} {a:Act} {w:World} (hi:ops[i]?=some oi)
    (hs:Region.noSelect ops=true) (hf:Region.free md ops listed i=true) (hr:(Region.ready md ops listed).contains i=true)
    (hQ:∀c a w,Q (.panic c) (a.put oi.dst v) w→Q (.panic c) a w) (hD:(i==D)=false) (hwait:Region.waitsFor md ops D i=true) (hg:listed.getD D true=false) (hS:S w) (hw:Region.wanted oi (yielded ops a.tmps)=true)
    (hy:∀w,S w→(execOp a.eval oi).run P w=.ok (.value v) w)
    (h:aE P md ops Q S D fuel (listed.setIfInBounds i true) (a.put oi.dst v) w):aE P md ops Q S D (fuel+1) listed a w:=
 cU (T:=S) hi (Region.noSelect_spec hs) hQ (by simpa using hD) (.inr ⟨fun _ h=>h,by
  obtain ⟨oD,h1,e,h2,h3,h4⟩:=Region.waitsFor_spec hwait;exact ⟨oD,h1,e,h2,h3,h4⟩⟩) fuel listed a w (Region.free_spec hi hf) (by simpa using hr) (.inr hg) (.inl ⟨hw,hy⟩) (fun _=>hS) h
theorem gq (i:Nat) {oi:Oper} (v:Value) {fuel:Nat} {listed:Array Bool} {a:Act} {w:World} (hi:ops[i]?=some oi)
    (hb:(Region.noSelect ops&&(Region.free md ops listed i&&((Region.ready md ops listed).contains i&&(!(i==D)&&(Region.waitsFor md ops D i&&!(listed.getD D true))))))=true)
    (hQ:∀c a w,Q (.panic c) (a.put oi.dst v) w→Q (.panic c) a w) (hS:S w) (hw:Region.wanted oi (yielded ops a.tmps)=true)
    (hy:∀w,S w→(execOp a.eval oi).run P w=.ok (.value v) w)
    (h:aE P md ops Q S D fuel (listed.setIfInBounds i true) (a.put oi.dst v) w):aE P md ops Q S D (fuel+1) listed a w:=by
 rw [Bool.and_eq_true,Bool.and_eq_true,Bool.and_eq_true,Bool.and_eq_true,Bool.and_eq_true,Bool.not_eq_true',Bool.not_eq_true'] at hb
 exact fs hi hb.1 hb.2.1 hb.2.2.1 hQ hb.2.2.2.1 hb.2.2.2.2.1 hb.2.2.2.2.2 hS hw hy h
theorem gr (i:Nat) {oi:Oper} (v:Value) {fuel:Nat} {listed:Array Bool} {a:Act} {w:World} (hS:S w)
    (hy:∀w,S w→(execOp a.eval oi).run P w=.ok (.value v) w)
    (h:aE P md ops Q S D fuel (listed.setIfInBounds i true) (a.put oi.dst v) w) (hi:ops[i]?=some oi:=by exact rfl)
    (hb:(Region.wanted oi (yielded ops a.tmps)&&(Region.noSelect ops&&(Region.free md ops listed i&&((Region.ready md ops listed).contains i&&(!(i==D)&&(Region.waitsFor md ops D i&&!(listed.getD D true)))))))=true:=by kernel_rfl)
    (hQ:∀c a w,Q (.panic c) (a.put oi.dst v) w→Q (.panic c) a w:=by exact fun _ _ _ h=>h):aE P md ops Q S D (fuel+1) listed a w:=by
 rw [Bool.and_eq_true] at hb
 exact gq i v hi hb.2 hQ hS hb.1 hy h
theorem grA (i:Nat) {oi:Oper} (v:Value) {fuel:Nat} {listed:Array Bool} {a:Act} {w:World} (hS:S w)
    (h:aE P md ops Q S D fuel (listed.setIfInBounds i true) (a.put oi.dst v) w) (hi:ops[i]?=some oi:=by exact rfl)
    (hb:(Region.wanted oi (yielded ops a.tmps)&&(Region.noSelect ops&&(Region.free md ops listed i&&((Region.ready md ops listed).contains i&&(!(i==D)&&(Region.waitsFor md ops D i&&!(listed.getD D true)))))))=true:=by kernel_rfl)
    (hQ:∀c a w,Q (.panic c) (a.put oi.dst v) w→Q (.panic c) a w:=by exact fun _ _ _ h=>h)
    (hy:∀w,S w→(execOp a.eval oi).run P w=.ok (.value v) w:=by intro wx hSw;go_split_ands;go_simp;try with_reducible rfl):aE P md ops Q S D (fuel+1) listed a w:=by
 rw [Bool.and_eq_true] at hb
 exact gq i v hi hb.2 hQ hS hb.1 hy h
theorem au {i:Nat} {o:Oper} {fuel:Nat} {listed:Array Bool} {a:Act} {w:World} (hi:ops[i]?=some o) (hr:Region.ready md ops listed=[i]) (hw:Region.wanted o (yielded ops a.tmps)=true)
    (h:∀K':Act→World→Prop,Shut (∀a w,((listed.setIfInBounds i true).getD D true=false→S w)→aE P md ops Q S D fuel (listed.setIfInBounds i true) a w→K' a w)→Oper.wp P o a w K' Q):aE P md ops Q S D (fuel+1) listed a w:=
 ⟨fun h0=>(by rw [hr] at h0;cases h0),fun j hj=>by
  rw [hr] at hj
  obtain rfl:j=i:=by simpa using hj
  refine wpOp_step hi (fun K' hK=>?_);rw [if_pos hw];exact h K' (fun a w h1 h2=>hK a w ⟨h1,h2⟩)⟩
theorem zw (i:Nat) {o:Oper} {fuel:Nat} {listed:Array Bool} {a:Act} {w:World}
    (h:∀K':Act→World→Prop,Shut (∀a w,((listed.setIfInBounds i true).getD D true=false→S w)→aE P md ops Q S D fuel (listed.setIfInBounds i true) a w→K' a w)→Oper.wp P o a w K' Q) (hi:ops[i]?=some o:=by exact rfl) (hr:Region.ready md ops listed=[i]:=by kernel_rfl) (hw:Region.wanted o (yielded ops a.tmps)=true:=by kernel_rfl):aE P md ops Q S D (fuel+1) listed a w:=au hi hr hw h
theorem ah {listed:Array Bool} {a:Act} {w:World} (hr:Region.ready md ops listed=[]) (h:Q .normal a w):
    ∀fuel,aE P md ops Q S D fuel listed a w
 |0=>⟨hr,h⟩
 |_+1=>⟨fun _=>h,by rw [hr];simp⟩
theorem ag {id:Nat} {a:Act} {w:World} (S:World→Prop) (D:Nat) (hm:P.follows .mixedOrders=true)
    (h:aE P .any ops Q S D ops.size (Array.replicate ops.size false) a w.drew):(Code.region id ops true).wp P Q a w:=
 wp_region_any hm (dx _ _ _ _ h)
end
end Go.Proofs.YtbdhfbglagdiaaaGreatDoor
