/- Pure Leaf Kit Words Spread Mixed -/
import Derived.Laws.Entries
import Derived.Test.YtbdhfbglagdiaaaGreatDoorProg
import Derived.WalkKit
import Derived.WalkSpells
import Derived.WalkLawsBesides
import Derived.Deep.QuietTactic
import Derived.BigQuiet
import Derived.Laws.Rows
import Derived.Laws.CopyRow
import Derived.Laws.CopyOwn
import Derived.Deep.WholeRow
namespace Go.Proofs.YtbdhfbglagdiaaaGreatDoor.S
open Go
def row (k:IntKind) (l:List Int):Array Value:=(l.map (Value.int k)).toArray
theorem bc (k:IntKind) (l:List Int):(row k l).size=l.length:=by simp [row]
theorem row_get? (k:IntKind) (l:List Int) (i:Nat):(row k l)[i]?=l[i]?.map (Value.int k):=by simp [row]
theorem eY (k:IntKind) (l:List Int) (i:Nat) (h:i<l.length):(row k l)[i]?=some (Value.int k (l[i]?.getD 0)):=by
 rw [row_get?,List.getElem?_eq_getElem h];rfl
theorem nN (k:IntKind) (l:List Int) (i:Nat) (v:Int):(row k l).setIfInBounds i (Value.int k v)=row k (l.set i v):=by
 simp [row,List.map_set]
theorem gE (k:IntKind) (l:List Int):(row k l).all (·.oneCell')=true:=by
 simp [row,Value.oneCell']
theorem eU (k:IntKind) (x y:Int):bits .or k x y=bits .or k y x:=by
 simp only [bits];rw [BitVec.or_comm]
def rr (n:Int) (x:Int):Int:=bits .or .u32 (x / 2 ^ n.toNat) (x*2 ^ (32 - n.toNat) % 4294967296)
def wd (a b c d:Int):Int:=
 bits .or .u32 (bits .or .u32 (bits .or .u32 (a % 4294967296*16777216 % 4294967296) (b % 4294967296*65536 % 4294967296)) (c % 4294967296*256 % 4294967296)) (d % 4294967296)
def wdAt (z:List Int) (i:Nat):Int:=wd (z[4*i]?.getD 0) (z[4*i+1]?.getD 0) (z[4*i+2]?.getD 0) (z[4*i+3]?.getD 0)
def bj (z:List Int) (k:Nat):List Int:=(List.range k).map (wdAt z)
theorem bk (z:List Int) (k:Nat):(bj z k).length=k:=by simp [bj]
theorem kO (z:List Int) (k:Nat):bj z (k+1)=bj z k++ [wdAt z k]:=by simp [bj,List.range_succ]
def xX (x:Int):Int:=bits .xor .u32 (bits .xor .u32 (rr 17 x) (rr 19 x)) (x / 1024)
def far (y:Int):Int:=bits .xor .u32 (bits .xor .u32 (rr 7 y) (rr 18 y)) (y / 8)
def swdAt (ws:List Int) (n:Nat):Int:=(xX (ws[n - 2]?.getD 0)+ws[n - 7]?.getD 0+far (ws[n - 15]?.getD 0)+ws[n - 16]?.getD 0) % 4294967296
def swd (ws:List Int):Int:=swdAt ws ws.length
def sched (first:List Int):Nat→List Int
 |0=>first
 |n+1=>sched first n++ [swd (sched first n)]
theorem bX (first:List Int) (n:Nat):(sched first n).length=first.length+n:=by
 induction n with
 |zero=>rfl
 |succ n ih=>simp only [sched,List.length_append,ih,List.length_cons,List.length_nil];omega
def kTab:List Int:=[1116352408,1899447441,3049323471,3921009573,961987163,1508970993,2453635748,2870763221,3624381080,310598401,607225278,1426881987,1925078388,2162078206,2614888103,3248222580,3835390401,4022224774,264347078,604807628,770255983,1249150122,1555081692,1996064986,2554220882,2821834349,2952996808,3210313671,3336571891,3584528711,113926993,338241895,666307205,773529912,1294757372,1396182291,1695183700,1986661051,2177026350,2456956037,2730485921,2820302411,3259730800,3345764771,3516065817,3600352804,4094571909,275423344,430227734,506948616,659060556,883997877,958139571,1322822218,1537002063,1747873779,1955562222,2024104815,2227730452,2361852424,2428436474,2756734187,3204031479,3329325298]
def sV (e:Int):Int:=bits .xor .u32 (bits .xor .u32 (rr 6 e) (rr 11 e)) (rr 25 e)
def xJ (a:Int):Int:=bits .xor .u32 (bits .xor .u32 (rr 2 a) (rr 13 a)) (rr 22 a)
def chs (e f g:Int):Int:=bits .xor .u32 (bits .and .u32 e f) (bits .and .u32 (4294967295 - e) g)
def maj (a b c:Int):Int:=bits .xor .u32 (bits .xor .u32 (bits .and .u32 a b) (bits .and .u32 a c)) (bits .and .u32 b c)
def rnd (kw w:Int):List Int→List Int
 |[a,b,c,d,e,f,g,h]=>[(h+sV e+chs e f g+kw+w+(xJ a+maj a b c)) % 4294967296,a,b,c,(d+(h+sV e+chs e f g+kw+w)) % 4294967296,e,f,g]
 |l=>l
theorem uH {K W a b c d e f g h p q:Int} (hp:p=(h+sV e+chs e f g+K+W+(xJ a+maj a b c)) % 4294967296) (hq:q=(d+(h+sV e+chs e f g+K+W)) % 4294967296):
    rnd K W [a,b,c,d,e,f,g,h]=[p,a,b,c,q,e,f,g]:=by rw [hp,hq];rfl
theorem wS (e:Int) (h0:0≤e) (h1:e≤4294967295):bits .xor .u32 (if IntKind.u32.signed=true then -1 else IntKind.u32.max) e=4294967295 - e:=by
 show IntKind.u32.wrap ((BitVec.ofInt 32 4294967295 ^^^ BitVec.ofInt 32 e).toNat:Int)=_;have h:BitVec.ofInt 32 4294967295=BitVec.allOnes 32:=by decide
 rw [h,BitVec.allOnes_xor,BitVec.toNat_not,BitVec.toNat_ofInt];simp [IntKind.wrap,IntKind.bits,IntKind.signed];omega
def cn (ws:List Int) (s:List Int):Nat→List Int
 |0=>s
 |n+1=>rnd (kTab[n]?.getD 0) (ws[n]?.getD 0) (cn ws s n)
theorem rZ (kw w:Int) (s:List Int) (h:s.length=8):(rnd kw w s).length=8:=by
 match s,h with
 |[a,b,c,d,e,f,g,i],_=>rfl
theorem fT (ws s:List Int) (n:Nat) (h:s.length=8):(cn ws s n).length=8:=by
 induction n with
 |zero=>exact h
 |succ n ih=>exact rZ _ _ _ ih
def InU (s:List Int):Prop:=∀x∈s,0≤x∧x≤4294967295
theorem xN (kw w:Int) (s:List Int) (h:s.length=8) (hs:InU s):InU (rnd kw w s):=by
 match s,h with
 |[a,b,c,d,e,f,g,i],_=>
  intro x hx;simp only [rnd,List.mem_cons,List.not_mem_nil,or_false] at hx
  rcases hx with rfl|rfl|rfl|rfl|rfl|rfl|rfl|rfl
  · omega
  · exact hs _ (by simp)
  · exact hs _ (by simp)
  · exact hs _ (by simp)
  · omega
  · exact hs _ (by simp)
  · exact hs _ (by simp)
  · exact hs _ (by simp)
theorem ns (ws s:List Int) (n:Nat) (h:s.length=8) (hs:InU s):InU (cn ws s n):=by
 induction n with
 |zero=>exact hs
 |succ n ih=>exact xN _ _ _ (fT ws s n h) ih
def lG (r s:List Int):List Int:=(List.range 8).map fun i=>(r[i]?.getD 0+s[i]?.getD 0) % 4294967296
def addK (r s:List Int) (k:Nat):List Int:=(List.range 8).map fun i=>if i<k then (r[i]?.getD 0+s[i]?.getD 0) % 4294967296 else r[i]?.getD 0
theorem addK_length (r s:List Int) (k:Nat):(addK r s k).length=8:=by simp [addK]
theorem nj (r s:List Int) (h:r.length=8):addK r s 0=r:=by
 obtain ⟨a,b,c,d,e,f,g,i,rfl⟩:∃a b c d e f g i,r=[a,b,c,d,e,f,g,i]:=by
  match r,h with
  |[a,b,c,d,e,f,g,i],_=>exact ⟨a,b,c,d,e,f,g,i,rfl⟩
 rfl
theorem pW (r s:List Int) (k j:Nat) (h:j<8):(addK r s k)[j]?.getD 0=if j<k then (r[j]?.getD 0+s[j]?.getD 0) % 4294967296 else r[j]?.getD 0:=by
 simp [addK,h]
theorem lD (r s:List Int):addK r s 8=lG r s:=by
 unfold addK lG;apply List.map_congr_left;intro i hi;rw [if_pos (by simpa using hi)]
theorem oO (r s:List Int) (k:Nat):(addK r s k).set k ((r[k]?.getD 0+s[k]?.getD 0) % 4294967296)=addK r s (k+1):=by
 apply List.ext_getElem?;intro j
 by_cases hj:j<8
 · by_cases e:j=k
   · subst e;simp [addK,hj]
   · rw [List.getElem?_set_ne (by omega)]
     simp only [addK,List.getElem?_map,List.getElem?_range hj,Option.map_some]
     by_cases h1:j<k
     · rw [if_pos h1,if_pos (by omega)]
     · rw [if_neg h1,if_neg (by omega)]
 · rw [List.getElem?_eq_none (by rw [List.length_set,addK_length];omega),List.getElem?_eq_none (by rw [addK_length];omega)]
def fZ (s z:List Int):List Int:=lG (cn (sched (bj z 16) 48) s 64) s
theorem go (s z:List Int):(fZ s z).length=8:=by simp [fZ,lG]
theorem vG (s z:List Int):InU (fZ s z):=by
 intro x hx;simp only [fZ,lG,List.mem_map] at hx
 obtain ⟨i,_,rfl⟩:=hx;omega
def bH:List Int:=[1779033703,3144134277,1013904242,2773480762,1359893119,2600822924,528734635,1541459225]
def bytes4 (v:Int):List Int:=[v / 16777216 % 256,v / 65536 % 256,v / 256 % 256,v % 256]
def joinK (s:List Int):Nat→List Int
 |0=>[]
 |k+1=>joinK s k++bytes4 (s[k]?.getD 0)
theorem aJ (s:List Int) (k:Nat):(joinK s k).length=4*k:=by
 induction k with
 |zero=>rfl
 |succ k ih=>simp only [joinK,bytes4,List.length_append,ih,List.length_cons,List.length_nil];omega
def joinL (s:List Int):List Int:=joinK s 8
theorem dW (s:List Int):(joinL s).length=32:=aJ s 8
theorem bx (l:List Int) (m:Nat) (v:Int):(l++List.replicate (m+1) 0).set l.length v=(l++ [v])++List.replicate m 0:=by
 rw [List.set_append_right _ _ (Nat.le_refl _)];simp [List.replicate_succ]
theorem lY (l:List Int) (m n:Nat) (a b c d:Int) (h:l.length=n):((((l++List.replicate (m+4) 0).set n a).set (n+1) b).set (n+2) c).set (n+3) d=l++ [a,b,c,d]++List.replicate m 0:=by
 subst h;rw [bx l (m+3) a];have e1:=bx (l++ [a]) (m+2) b;have e2:=bx (l++ [a]++ [b]) (m+1) c;have e3:=bx (l++ [a]++ [b]++ [c]) m d;simp only [List.length_append,List.length_cons,List.length_nil] at e1 e2 e3
 rw [show l.length+1=l.length+(0+1) by omega,e1,show l.length+2=l.length+(0+1)+(0+1) by omega,e2,show l.length+3=l.length+(0+1)+(0+1)+(0+1) by omega,e3];simp
theorem h9 {l:List Int} (h:l.length=8):∃a b c d e f g i,l=[a,b,c,d,e,f,g,i]:=by
 match l,h with
 |[a,b,c,d,e,f,g,i],_=>exact ⟨a,b,c,d,e,f,g,i,rfl⟩
open Go.RowKit
theorem jW {a b:Int} (h:a=b):Ending.returned (.int .u32 a)=.returned (.int .u32 b):=by rw [h]
def mD (n:Int):Prop:=n=2∨n=6∨n=7∨n=11∨n=13∨n=17∨n=18∨n=19∨n=22∨n=25
theorem jZ (x n:Int) (w:World) (hn:mD n):
    Calls Tryz.prog 167 #[.int .u32 x,.int .i64 n] w fun e w'=>e=.returned (.int .u32 (rr n x))∧w'=w:=by
 have h2:bits BinOp.and IntKind.u64 (IntKind.u64.wrap (-2)) 31=30:=by decide
 have h6:bits BinOp.and IntKind.u64 (IntKind.u64.wrap (-6)) 31=26:=by decide
 have h7:bits BinOp.and IntKind.u64 (IntKind.u64.wrap (-7)) 31=25:=by decide
 have h11:bits BinOp.and IntKind.u64 (IntKind.u64.wrap (-11)) 31=21:=by decide
 have h13:bits BinOp.and IntKind.u64 (IntKind.u64.wrap (-13)) 31=19:=by decide
 have h17:bits BinOp.and IntKind.u64 (IntKind.u64.wrap (-17)) 31=15:=by decide
 have h18:bits BinOp.and IntKind.u64 (IntKind.u64.wrap (-18)) 31=14:=by decide
 have h19:bits BinOp.and IntKind.u64 (IntKind.u64.wrap (-19)) 31=13:=by decide
 have h22:bits BinOp.and IntKind.u64 (IntKind.u64.wrap (-22)) 31=10:=by decide
 have h25:bits BinOp.and IntKind.u64 (IntKind.u64.wrap (-25)) 31=7:=by decide
 rcases hn with rfl|rfl|rfl|rfl|rfl|rfl|rfl|rfl|rfl|rfl
 all_goals
  go_enter Tryz.func167,Tryz.ntmps167;go_wp2;go_ret;exact ⟨jW (by rw [eU];rfl),rfl⟩
theorem uQ (b off cap:Nat) (z0 z1 z2 z3:Int) (w:World)
    (h0:w.cell? ⟨b,off,none⟩=some (.int .u8 z0)) (h1:w.cell? ⟨b,off+1,none⟩=some (.int .u8 z1))
    (h2:w.cell? ⟨b,off+2,none⟩=some (.int .u8 z2)) (h3:w.cell? ⟨b,off+3,none⟩=some (.int .u8 z3)):
    Calls Tryz.prog 168 #[.slice (some ⟨b,off,none⟩) 4 cap] w fun e w'=>e=.returned (.int .u32 (wd z0 z1 z2 z3))∧∃n,w'=w.drewN n:=by
 go_enter Tryz.func168,Tryz.ntmps168;go_wp2
 go_quiet ((fail))
 go_wp2;go_ret;exact ⟨rfl,_,rfl⟩
theorem tJ (w:World):
    Calls Tryz.prog 102 #[] w fun e w'=>e=.returned (.agg (row .u32 bH))∧Below w.heap.size w w':=by
 go_enter Tryz.func102,Tryz.ntmps102;go_wp2;exact bodyPost_ret (v:=.agg (row .u32 bH)) (by simp [results,Tryz.results102,go_sem,row,bH]) rfl ⟨rfl,(Below.refl _ _).alloc (Nat.le_refl _) _⟩
def aa (w:World) (g:Nat) (k:IntKind) (t:TypeId) (l:List Int):Prop:=w.heap[g]?=some (.cells (row k l) t (0,0))
theorem aa.lt {w:World} {g:Nat} {k:IntKind} {t:TypeId} {l:List Int} (h:aa w g k t l):g<w.heap.size:=by
 unfold aa at h
 exact (Array.getElem?_eq_some_iff.1 h).1
theorem aa.cell {w:World} {g:Nat} {k:IntKind} {t:TypeId} {l:List Int} (h:aa w g k t l) (j:Nat) (hj:j<l.length):w.cell? ⟨g,j,none⟩=some (.int k (l[j]?.getD 0)):=by
 rw [cell_of_row w g j _ t _ h,eY k l j hj]
theorem aa.frozen {w:World} {g:Nat} {k:IntKind} {t:TypeId} {l:List Int} (h:aa w g k t l) (j:Nat):w.frozen? ⟨g,j,none⟩=false:=frozen_of_row w g j _ t h
theorem aa.drewN {w:World} {g:Nat} {k:IntKind} {t:TypeId} {l:List Int} (h:aa w g k t l) (n:Nat):aa (w.drewN n) g k t l:=by
 unfold aa at h ⊢;simpa using h
theorem aa.drew {w:World} {g:Nat} {k:IntKind} {t:TypeId} {l:List Int} (h:aa w g k t l):aa w.drew g k t l:=by
 unfold aa at h ⊢;rw [heap_drew];exact h
theorem aa.alloc {w:World} {g:Nat} {k:IntKind} {t:TypeId} {l:List Int} (h:aa w g k t l) (o:Obj):aa (w.alloc o) g k t l:=by
 have hl:=h.lt;unfold aa at h ⊢;rw [Below.heap_alloc w o g hl];exact h
theorem aa.below {w w':World} {B g:Nat} {k:IntKind} {t:TypeId} {l:List Int} (h:aa w g k t l) (hb:Below B w w') (hg:g<B):aa w' g k t l:=by
 unfold aa at h ⊢;rw [hb.block g hg];exact h
theorem aa.set {w:World} {g:Nat} {k:IntKind} {t:TypeId} {l:List Int} (h:aa w g k t l) (j:Nat) (v:Int):aa (w.setCell ⟨g,j,none⟩ (.int k v)) g k t (l.set j v):=by
 unfold aa at h ⊢
 rw [heap_setCell_same w g j _ t _ h,nN]
theorem aa.setOther {w:World} {g:Nat} {k:IntKind} {t:TypeId} {l:List Int} (h:aa w g k t l) (a:Addr) (v:Value) (hne:g≠a.block):aa (w.setCell a v) g k t l:=by
 unfold aa at h ⊢
 rw [heap_setCell_other w a g v hne];exact h
theorem aa.new (w:World) (k:IntKind) (t:TypeId) (l:List Int):aa (w.alloc (.cells (row k l) t)) w.heap.size k t l:=heap_alloc_new w _
theorem aa.setRow {w:World} {g:Nat} {k:IntKind} {t:TypeId} {l:List Int} (h:aa w g k t l) (l':List Int):aa (w.setRow g (row k l')) g k t l':=by
 unfold aa at h ⊢;exact setRow_heap w g _ _ t _ h
theorem aa.setRowOther {w:World} {g g':Nat} {k:IntKind} {t:TypeId} {l:List Int} (h:aa w g k t l) (cs:Array Value) (hne:g≠g'):aa (w.setRow g' cs) g k t l:=by
 unfold aa at h ⊢;rw [setRow_other w g' g cs hne];exact h
theorem lI (w:World) (n:Nat):(w.drewN n).heap.size=w.heap.size:=by simp
theorem aD {B:Nat} {a w:World} (h:Below B a w) (n:Nat):Below B a (w.drewN n):=by
 induction n with
 |zero=>exact h
 |succ n ih=>exact ih.drew
section
variable {P:Program}
theorem am {ops:Array Oper} {rest:List Oper} {o:Oper} {a:Act} {w:World} {Q:Exit→Act→World→Prop} (hgd:o.guard=none) (ty:TypeId) (x:Operand) (ho:o.op=.load ty x)
    (g:Nat) (hx:a.eval x=.pointer (some ⟨g,0,none⟩)) {k:IntKind} {t:TypeId} {l:List Int} (hg:aa w g k t l) {n:Nat} {e:TypeId}
    (hu:P.underlying ty=some (.array n e)) (hi:(P.info? ty).map (·.size)=some n) (hl:l.length=n)
    (h:wpList P ops Q rest (a.put o.dst (.agg (row k l))) w):wpList P ops Q (o::rest) a w:=
 wpList_load_row hgd ty x ho g hx t (row k l) (0,0) _ hg hu rfl (by rw [hi,bc,hl]) h
theorem bC (w:World) (g:Nat) (ty t:TypeId) (k:IntKind) (old l:List Int) (hg:aa w g k t old) (hl:old.length=l.length) (hi:(P.info? ty).map (·.size)=some l.length):
    (storeVar ty ⟨g,0,none⟩ (.agg (row k l))).run P w=.ok () (w.setRow g (row k l)):=by
 have hst:=run_storeCells_at P g 0 t (row k l).toList 0 (row k old) w hg (by simp [row,hl]) (fun v hv=>by
  have:=gE k l;exact (Array.all_eq_true_iff_forall_mem.1 this) v (by simpa using hv))
 cases hq:P.info? ty with
 |none=>simp [hq] at hi
 |some i=>
  have hs:i.size=l.length:=by simpa [hq] using hi
  have hsz:(row k l).size=i.size:=by rw [bc,hs]
  have he:(List.take (0+0) (row k old).toList++(row k l).toList++List.drop (0+0+(row k l).toList.length) (row k old).toList).toArray=row k l:=by
   simp [row,hl]
  rw [he] at hst
  simp [storeVar,sizeOf,typeInfo,hq,Value.cells,hsz,hst]
theorem ah {ops:Array Oper} {rest:List Oper} {o:Oper} {a:Act} {w:World} {Q:Exit→Act→World→Prop} (hgd:o.guard=none) (ty:TypeId) (x y:Operand) (ho:o.op=.store ty x y)
    (g:Nat) (hx:a.eval x=.pointer (some ⟨g,0,none⟩)) {k:IntKind} {t:TypeId} {old l:List Int} (hy:a.eval y=.agg (row k l)) (hg:aa w g k t old)
    (hi:(P.info? ty).map (·.size)=some l.length) (hl:old.length=l.length)
    (h:wpList P ops Q rest (a.put o.dst undef) (w.setRow g (row k l))):wpList P ops Q (o::rest) a w:=
 wpList_plain hgd fun _ hK=>by
  unfold Oper.wp execOp;simp only [ho,hx,hy,Instr.storeAt,Instr.sureAddr,Sem.run_bind,Sem.run_pure,Result.andThen_ok,bC w g ty t k old l hg hl hi];exact hK _ _ h
theorem aj {fn:Func} {p:Tmp} {ty:TypeId} (h:fn.results= #[.cell p ty]) (tmps:Array Value) {w:World} {g:Nat} {k:IntKind} {t:TypeId} {l:List Int}
    (hp:tmps.getD p undef=.pointer (some ⟨g,0,none⟩)) (hg:aa w g k t l) {n:Nat} {e:TypeId}
    (hu:P.underlying ty=some (.array n e)) (hi:(P.info? ty).map (·.size)=some n) (hl:l.length=n):
    (results fn tmps).run P w=.ok (.agg (row k l)) w:=
 results_cell_row h tmps w g t (row k l) (0,0) _ hp hg hu rfl (by rw [hi,bc,hl])
end
theorem vB:(Tryz.prog.info? 28).map (·.size)=some 8:=by kernel_rfl
theorem j9:(Tryz.prog.info? 141).map (·.size)=some 8:=by kernel_rfl
theorem qK:(Tryz.prog.info? 181).map (·.size)=some 16:=by kernel_rfl
theorem ee:(Tryz.prog.info? 179).map (·.size)=some 64:=by kernel_rfl
theorem aI:(Tryz.prog.info? 23).map (·.size)=some 32:=by kernel_rfl
theorem tq (b off cap:Nat) (z:List Int) (w:World) (hcap:64≤cap) (hcap2:cap≤9223372036854775807)
    (hcell:∀j,j<64→w.cell? ⟨b,off+j,none⟩=some (.int .u8 (z[j]?.getD 0))):
    Calls Tryz.prog 146 #[.slice (some ⟨b,off,none⟩) 64 cap] w fun e w'=>e=.returned (.agg (row .u32 (bj z 16)))∧Below w.heap.size w w':=by
 have hb:b<w.heap.size:=block_lt_of_cell (hcell 0 (by omega));go_enter Tryz.func146,Tryz.ntmps146;go_wp2
 go_loopw [6] (fun i wr=>∃k:Nat,k≤16∧i=.int .i64 k∧Below w.heap.size w wr∧w.heap.size+2≤wr.heap.size
     ∧aa wr w.heap.size .u32 181 (List.replicate 16 0)
     ∧aa wr (w.heap.size+1) .u32 181 (bj z k++List.replicate (16 - k) 0))
  (fun i _=>16 - (intOf i).toNat)
 case atStart=>
  have hn:=aa.new (w.alloc (.cells (row .u32 (List.replicate 16 0)) 181)) .u32 181 (List.replicate 16 0);rw [World.size_alloc] at hn
  exact ⟨0,by omega,rfl,((Below.refl _ _).alloc (Nat.le_refl _) _).alloc (by simp) _,by simp,(aa.new w .u32 181 (List.replicate 16 0)).alloc _,hn⟩
 case round=>
  obtain ⟨k,hk,rfl,hB,hsz,h0,h1⟩:=hrel
  by_cases hlt:k<16
  · have c:∀j,j<64→wr.cell? ⟨b,off+j,none⟩=some (.int .u8 (z[j]?.getD 0)):=fun j hj=>(hB.cell (p:=⟨b,off+j,none⟩) hb).trans (hcell j hj)
    have c0:=c (4*k) (by omega);have c1:=c (4*k+1) (by omega);have c2:=c (4*k+2) (by omega);have c3:=c (4*k+3) (by omega);have hw:=uQ b (off+k*4) 4 (z[4*k]?.getD 0) (z[4*k+1]?.getD 0) (z[4*k+2]?.getD 0) (z[4*k+3]?.getD 0) wr (by rw [←c0];congr 2;omega) (by rw [←c1];congr 2;omega) (by rw [←c2];congr 2;omega) (by rw [←c3];congr 2;omega);have hcc:=h1.cell k (by rw [List.length_append,bk,List.length_replicate];omega);have hff:=h1.frozen k;clear c c0 c1 c2 c3 hcell
    go_wp2_with (go_at_call 168;refine hw.mono ?_;rintro e w' ⟨rfl,nd,rfl⟩)
    go_roundw
    case rel=>
     refine ⟨k+1,by omega,by go_num,(aD hB _).setCell (by simp) _,by simp;omega,(h0.drewN _).setOther _ _ (by simp),?_⟩;have:=(h1.drewN nd).set k (wdAt z k);rw [show 16 - k=(16 - (k+1))+1 by omega] at this
     have e:=bx (bj z k) (16 - (k+1)) (wdAt z k);rw [bk] at e
     rw [e,←kO] at this
     exact this
    case measure=>simp [intOf];omega
  · obtain rfl:k=16:=by omega
    have h1':aa wr (w.heap.size+1) .u32 181 (bj z 16):=by simpa using h1
    clear h1
    go_wp2_with (first|(refine am rfl 181 _ rfl _ rfl h1' Tryz.underlying181 qK (bk _ _) ?_)|(refine ah rfl 181 _ _ rfl _ rfl rfl h0 (by rw [bk];exact qK) (by simp [bk]) ?_))
    refine bodyPost_ret (aj (Tryz.results146) _ rfl (h0.setRow _) Tryz.underlying181 qK (bk _ _)) rfl ⟨rfl,?_⟩;exact below_setRow hB (Nat.le_refl _) _
theorem g9:(Tryz.prog.info? 24).map (·.size)=some 1:=by kernel_rfl
theorem af {p:World→Prop} {W:World} (I:World→Prop) (hI:I W) (h:∀W0,I W0→p W0):p W:=h W hI
theorem qv (f:List Int) (w:World) (hf:f.length=16):
    Calls Tryz.prog 145 #[.agg (row .u32 f)] w fun e w'=>e=.returned (.agg (row .u32 (sched f 48)))∧Below w.heap.size w w':=by
 go_enter Tryz.func145,Tryz.ntmps145;go_wp2;refine af (p:=fun x=>Code.wp _ _ _ _ x) (fun W0=>Below w.heap.size w W0∧W0.heap.size=w.heap.size+3∧aa W0 w.heap.size .u32 181 f∧aa W0 (w.heap.size+1) .u32 179 (List.replicate 64 0)∧aa W0 (w.heap.size+1+1) .u32 179 (List.replicate 64 0)) ⟨(((Below.refl _ _).alloc (Nat.le_refl _) _).alloc (by simp) _).alloc (by simp;omega) _,by simp,?_,?_,?_⟩ ?_
 · exact ((aa.new w .u32 181 f).alloc _).alloc _
 · have hn:=aa.new (w.alloc (.cells (row .u32 f) 181)) .u32 179 (List.replicate 64 0)
   rw [World.size_alloc] at hn
   exact hn.alloc _
 · have hn:=aa.new ((w.alloc (.cells (row .u32 f) 181)).alloc (.cells (row .u32 (List.replicate 64 0)) 179)) .u32 179 (List.replicate 64 0)
   rw [World.size_alloc,World.size_alloc] at hn
   exact hn
 rintro W0 ⟨hB,hsz,h0,h1,h2⟩;have hcp:∀wx:World,wx.heap=W0.heap→(Builtin.copy_ #[183,183] 3 #[.slice (some ⟨w.heap.size+1+1,0,none⟩) 64 64,.slice (some ⟨w.heap.size,0,none⟩) 16 16]).run Tryz.prog wx=
     .ok (.int .i64 16) (wx.setRow (w.heap.size+1+1) (row .u32 (f++List.replicate 48 0))):=fun wx hx=>by
  have hg:wx.heap[w.heap.size+1+1]?=some (.cells (row .u32 (List.replicate 64 0)) 179 (0,0)):=by rw [hx];exact h2
  have hs:wx.heap[w.heap.size]?=some (.cells (row .u32 f) 181 (0,0)):=by rw [hx];exact h0
  have:=run_copy_row (P:=Tryz.prog) wx 183 183 3 24 (w.heap.size+1+1) 0 64 64 ⟨w.heap.size,0,none⟩ 16 16 _ 179 (row .u32 f).toList Tryz.underlying183 g9 hg
   (by simp [row,hf]) (fun j v hv=>by
    have:(⟨w.heap.size,0,none⟩:Addr).add j=⟨w.heap.size,j,none⟩:=by unfold Addr.add;split<;>simp_all
    rw [this,cell_of_row wx _ j _ _ _ hs];simpa using hv) (by simp [row,hf]) (fun v hv=>(Array.all_eq_true_iff_forall_mem.1 (gE .u32 f)) v (by simpa using hv))
  rw [this];have e:(List.take 0 (row .u32 (List.replicate 64 0)).toList++(row .u32 f).toList++List.drop (0+(row .u32 f).toList.length) (row .u32 (List.replicate 64 0)).toList).toArray=row .u32 (f++List.replicate 48 0):=by
   simp [row,hf]
  rw [e];have e2:(row .u32 f).toList.length=16:=by simp [row,hf]
  rw [e2];rfl
 have hcp1:=hcp W0.drew rfl;clear hcp
 go_region
 go_wp2;refine af (p:=fun x=>Code.wp _ _ _ _ x) (fun W1=>Below w.heap.size w W1∧W1.heap.size=w.heap.size+3∧aa W1 (w.heap.size+1) .u32 179 (List.replicate 64 0)∧aa W1 (w.heap.size+1+1) .u32 179 (f++List.replicate 48 0)) ⟨below_setRow hB.drew (by omega) _,by simp [hsz],?_,?_⟩ ?_
 · exact (show aa W0.drew _ _ _ _ from h1).setRowOther _ (by omega)
 · exact (show aa W0.drew _ _ _ _ from h2).setRow _
 clear hcp1 h0 h1 h2 hB hsz;rintro W1 ⟨hB,hsz,h1,h2⟩
 go_loopw [4] (fun i wr=>∃m:Nat,m≤48∧i=.int .i64 ((16+m:Nat):Int)∧Below w.heap.size w wr∧wr.heap.size=w.heap.size+3
     ∧aa wr (w.heap.size+1) .u32 179 (List.replicate 64 0)
     ∧aa wr (w.heap.size+1+1) .u32 179 (sched f m++List.replicate (48 - m) 0))
  (fun i _=>64 - (intOf i).toNat)
 case atStart=>exact ⟨0,by omega,rfl,hB,hsz,h1,h2⟩
 case round=>
  clear hB hsz h1 h2 W1;obtain ⟨m,hm,rfl,hB,hsz,h1,h2⟩:=hrel
  by_cases hlt:m<48
  · have hln:(sched f m++List.replicate (48 - m) 0).length=64:=by rw [List.length_append,bX,hf,List.length_replicate];omega
    have ix:∀j,j<16+m→(sched f m++List.replicate (48 - m) 0)[j]?.getD 0=(sched f m)[j]?.getD 0:=fun j hj=>by rw [List.getElem?_append_left (by rw [bX,hf];omega)]
    have c2:=h2.cell (16+m - 2) (by omega);have c7:=h2.cell (16+m - 7) (by omega);have c15:=h2.cell (16+m - 15) (by omega);have c16:=h2.cell (16+m - 16) (by omega);rw [ix _ (by omega)] at c2 c7 c15 c16
    have cc:=h2.cell (16+m) (by omega);have cf:=h2.frozen (16+m);clear ix hln;obtain ⟨k,hk⟩:∃k,16+m=k:=⟨_,rfl⟩
    have hk1:16≤k:=by omega
    have hk2:k<64:=by omega
    have HK:Hid (16+m=k):=hk;rw [hk] at c2 c7 c15 c16 cc cf ⊢
    clear hk;go_wp2
    go_quiet ((fail))
    go_wp2_with (go_at_call 167;refine (jZ _ _ _ (by unfold mD;omega)).mono ?_;rintro e w' ⟨rfl,rfl⟩)
    go_region
    all_goals go_wp2
    all_goals go_roundw
    case rel=>
     refine ⟨m+1,by omega,?_,?_,?_,?_,?_⟩
     · have:=HK.out;subst this;go_num
     · exact (aD hB _).setCell (by simp;omega) _
     · simp [hsz]
     · exact (h1.drewN _).setOther _ _ (by simp)
     · have hk:=HK.out
       subst hk;have:=(h2.drewN (nq+1)).set (16+m) (swdAt (sched f m) (16+m));rw [show 48 - m=(48 - (m+1))+1 by omega] at this
       have e:=bx (sched f m) (48 - (m+1)) (swdAt (sched f m) (16+m));rw [bX,hf] at e
       rw [e] at this
       have e2:sched f (m+1)=sched f m++ [swdAt (sched f m) (16+m)]:=by rw [sched,swd,bX,hf]
       rw [e2];exact this
    case measure=>have:=HK.out;simp [intOf];omega
  · obtain rfl:m=48:=by omega
    have hl:(sched f 48).length=64:=by rw [bX,hf]
    have h2':aa wr (w.heap.size+1+1) .u32 179 (sched f 48):=by simpa using h2
    clear h2
    go_wp2_with (first|(refine am rfl 179 _ rfl _ rfl h2' Tryz.underlying179 ee hl ?_)|(refine ah rfl 179 _ _ rfl _ rfl rfl h1 (by rw [hl];exact ee) (by simp [hl]) ?_))
    refine bodyPost_ret (aj (Tryz.results145) _ rfl (h1.setRow _) Tryz.underlying179 ee hl) rfl ⟨rfl,?_⟩;exact below_setRow hB (by omega) _
def KTab (w:World):Prop:=∀j,j<64→w.cell? ⟨1,j,none⟩=some (.int .u32 (kTab[j]?.getD 0))
theorem KTab.lt {w:World} (h:KTab w):1<w.heap.size:=block_lt_of_cell (h 0 (by omega))
theorem KTab.below {w w':World} (h:KTab w) (hb:Below w.heap.size w w'):KTab w':=fun j hj=>(hb.cell (p:=⟨1,j,none⟩) h.lt).trans (h j hj)
set_option maxRecDepth 20000 in
theorem tn (s ws:List Int) (w:World) (hs:s.length=8) (hin:InU s) (hw:ws.length=64) (hk:KTab w):
    Calls Tryz.prog 144 #[.agg (row .u32 s),.agg (row .u32 ws)] w fun e w'=>e=.returned (.agg (row .u32 (cn ws s 64)))∧Below w.heap.size w w':=by
 go_enter Tryz.func144,Tryz.ntmps144;go_wp2;refine af (p:=fun x=>Code.wp _ _ _ _ x) (fun W0=>Below w.heap.size w W0∧W0.heap.size=w.heap.size+3∧aa W0 w.heap.size .u32 141 s∧aa W0 (w.heap.size+1) .u32 179 ws∧aa W0 (w.heap.size+1+1) .u32 141 (List.replicate 8 0)) ⟨(((Below.refl _ _).alloc (Nat.le_refl _) _).alloc (by simp) _).alloc (by simp;omega) _,by simp,?_,?_,?_⟩ ?_
 · exact ((aa.new w .u32 141 s).alloc _).alloc _
 · have hn:=aa.new (w.alloc (.cells (row .u32 s) 141)) .u32 179 ws
   rw [World.size_alloc] at hn
   exact hn.alloc _
 · have hn:=aa.new ((w.alloc (.cells (row .u32 s) 141)).alloc (.cells (row .u32 ws) 179)) .u32 141 (List.replicate 8 0)
   rw [World.size_alloc,World.size_alloc] at hn
   exact hn
 rintro W0 ⟨hB,hsz,h0,h1,h2⟩;obtain ⟨a,b,c,d,e,f,g,h,rfl⟩:=h9 hs;have c0:W0.cell? ⟨w.heap.size,0,none⟩=some (.int .u32 a):=h0.cell 0 (by simp);have c1:W0.cell? ⟨w.heap.size,1,none⟩=some (.int .u32 b):=h0.cell 1 (by simp);have c2:W0.cell? ⟨w.heap.size,2,none⟩=some (.int .u32 c):=h0.cell 2 (by simp);have c3:W0.cell? ⟨w.heap.size,3,none⟩=some (.int .u32 d):=h0.cell 3 (by simp);have c4:W0.cell? ⟨w.heap.size,4,none⟩=some (.int .u32 e):=h0.cell 4 (by simp);have c5:W0.cell? ⟨w.heap.size,5,none⟩=some (.int .u32 f):=h0.cell 5 (by simp);have c6:W0.cell? ⟨w.heap.size,6,none⟩=some (.int .u32 g):=h0.cell 6 (by simp);have c7:W0.cell? ⟨w.heap.size,7,none⟩=some (.int .u32 h):=h0.cell 7 (by simp)
 go_quiet ((fail))
 go_wp2;refine af (p:=fun x=>Code.wp _ _ _ _ x) (fun W1=>Below w.heap.size w W1∧W1.heap.size=w.heap.size+3∧aa W1 (w.heap.size+1) .u32 179 ws∧aa W1 (w.heap.size+1+1) .u32 141 (List.replicate 8 0)) ⟨aD hB _,by simp [hsz],h1.drewN _,h2.drewN _⟩ ?_;clear c0 c1 c2 c3 c4 c5 c6 c7 h0 h1 h2 hB hsz;rintro W1 ⟨hB,hsz,h1,h2⟩
 go_loopw [5,6,7,8,9,10,11,12,32] (fun va vb vc vd ve vf vg vh i wr=>∃(k:Nat) (a' b' c' d' e' f' g' h':Int),k≤64∧i=.int .i64 k∧cn ws [a,b,c,d,e,f,g,h] k=[a',b',c',d',e',f',g',h']∧
     va=.int .u32 a'∧vb=.int .u32 b'∧vc=.int .u32 c'∧vd=.int .u32 d'∧ve=.int .u32 e'∧vf=.int .u32 f'∧vg=.int .u32 g'∧vh=.int .u32 h'∧
     Below w.heap.size w wr∧wr.heap.size=w.heap.size+3∧aa wr (w.heap.size+1) .u32 179 ws∧aa wr (w.heap.size+1+1) .u32 141 (List.replicate 8 0))
  (fun _ _ _ _ _ _ _ _ i _=>64 - (intOf i).toNat)
 case atStart=>exact ⟨0,a,b,c,d,e,f,g,h,by omega,rfl,rfl,rfl,rfl,rfl,rfl,rfl,rfl,rfl,rfl,hB,hsz,h1,h2⟩
 case round=>
  clear hB hsz h1 h2 W1;obtain ⟨k,a',b',c',d',e',f',g',h',hk64,rfl,HR,rfl,rfl,rfl,rfl,rfl,rfl,rfl,rfl,hB,hsz,h1,h2⟩:=hrel;have HH:Hid (cn ws [a,b,c,d,e,f,g,h] k=[a',b',c',d',e',f',g',h']):=HR;have hin':=ns ws [a,b,c,d,e,f,g,h] k hs hin;rw [HR] at hin'
  have he:=hin' e' (by simp);obtain ⟨he0,he1⟩:=he;clear HR hin'
  by_cases hlt:k<64
  · have ck:wr.cell? ⟨1,k,none⟩=some (.int .u32 (kTab[k]?.getD 0)):=(hB.cell (p:=⟨1,k,none⟩) hk.lt).trans (hk k hlt)
    have cw:=h1.cell k (by omega);obtain ⟨K,hK⟩:∃K,kTab[k]?.getD 0=K:=⟨_,rfl⟩
    have HK:Hid (kTab[k]?.getD 0=K):=hK;rw [hK] at ck
    obtain ⟨V,hV⟩:∃V,ws[k]?.getD 0=V:=⟨_,rfl⟩
    have HV:Hid (ws[k]?.getD 0=V):=hV;rw [hV] at cw
    have HN:Hid (bits .xor .u32 (if IntKind.u32.signed=true then -1 else IntKind.u32.max) e'=4294967295 - e'):=wS e' he0 he1;clear hK hV;go_wp2
    go_quiet ((go_at_call 167;exact Calls.quiet_of_same (jZ _ _ _ (by unfold mD;omega))))
    go_wp2_with (go_at_call 167;refine (jZ _ _ _ (by unfold mD;omega)).mono ?_;rintro e w' ⟨rfl,rfl⟩)
    go_roundw
    case rel=>
     refine ⟨k+1,_,_,_,_,_,_,_,_,by omega,by go_num,?_,rfl,rfl,rfl,rfl,rfl,rfl,rfl,rfl,aD hB _,by simp [hsz],h1.drewN _,h2.drewN _⟩;show rnd (kTab[k]?.getD 0) (ws[k]?.getD 0) (cn ws [a,b,c,d,e,f,g,h] k)=_;rw [HH.out,HK.out,HV.out];refine uH ?_ ?_
     · unfold sV xJ chs maj;rw [HN.out];omega
     · unfold sV chs;rw [HN.out];omega
    case measure=>simp [intOf];omega
  · obtain rfl:k=64:=by omega
    have hr:cn ws [a,b,c,d,e,f,g,h] 64=[a',b',c',d',e',f',g',h']:=HH.out
    go_wp2_with (refine ah rfl 141 _ _ rfl _ rfl (l:=[a',b',c',d',e',f',g',h']) rfl h2 j9 (by simp) ?_)
    refine bodyPost_ret (aj (Tryz.results144) _ rfl (h2.setRow [a',b',c',d',e',f',g',h']) Tryz.underlying141 j9 rfl) rfl ⟨by rw [hr],?_⟩;exact below_setRow hB (by omega) _
end Go.Proofs.YtbdhfbglagdiaaaGreatDoor.S
