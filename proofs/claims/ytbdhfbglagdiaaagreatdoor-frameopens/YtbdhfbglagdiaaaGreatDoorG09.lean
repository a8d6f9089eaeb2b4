/- Join PureB Pad Sum -/
import Derived.Test.YtbdhfbglagdiaaaGreatDoorG08
import Derived.Test.YtbdhfbglagdiaaaGreatDoorG07
import Derived.Deep.OwnRows
import Derived.RangeFuncFrom
import Derived.RangeFuncCalls
import Derived.RangeFuncLeaves
import Derived.RangeFuncNested
import Derived.RangeFuncBound
import Derived.Shelf.Abstract
import Derived.Shelf.RegionOpen
import Derived.WalkKit
import Derived.OwnWalkIn
import Derived.TacticsInMore
import Derived.LoopNIn
import Derived.LoopIn
namespace Go.Proofs.YtbdhfbglagdiaaaGreatDoor.S
open Go.RowKit
theorem ce {P:Program} (w:World) (t e:TypeId) (n:Nat) (kd:IntKind) (l:List Int) (k:Nat) (hu:P.underlying t=some (.array n e)) (hue:P.underlying e=some (.int kd)) (hi:(P.info? e).map (·.size)=some 1) (hl:l.length=n) (hk:k<n):
    (Instr.index t (.agg (row kd l)) (.int .i64 k)).run P w=.ok (.int kd (l[k]?.getD 0)) w:=by
 cases hq:P.info? e with
 |none=>simp [hq] at hi
 |some i=>
  have hs:i.size=1:=by simpa [hq] using hi
  have hg:=fe kd l k (by omega);simp [Instr.index,asIntOf,run_underlying hu,sizeOf,typeInfo,hq,hs,hk,part,isAgg,run_underlying hue,hg]
theorem gE (s:List Int) (w:World) (hs:s.length=8):
    Calls Tryz.prog 106 #[.agg (row .u32 s)] w fun e w'=>e=.returned (.agg (row .u8 (joinL s)))∧Below w.heap.size w w':=by
 have hb0:∀o o',aa (((w.alloc (.cells (row .u32 s) 141)).alloc o).alloc o') w.heap.size .u32 141 s:=fun o o'=>((aa.new w .u32 141 s).alloc o).alloc o'
 go_enter Tryz.func106,Tryz.ntmps106
 go_wp2_with (refine am rfl 141 _ rfl _ rfl (hb0 _ _) Tryz.underlying141 j9 hs ?_)
 refine ae (p:=fun x=>Code.wp _ _ _ _ x) (fun W0=>Below w.heap.size w W0∧aa W0 (w.heap.size+1) .u8 23 (List.replicate 32 0)∧aa W0 (w.heap.size+1+1) .u8 23 (List.replicate 32 0)) ⟨(((Below.refl _ _).alloc (Nat.le_refl _) _).alloc (by simp) _).alloc (by simp;omega) _,?_,?_⟩ ?_
 · have hn:=aa.new (w.alloc (.cells (row .u32 s) 141)) .u8 23 (List.replicate 32 0)
   rw [World.size_alloc] at hn
   exact hn.alloc _
 · have hn:=aa.new ((w.alloc (.cells (row .u32 s) 141)).alloc (.cells (row .u8 (List.replicate 32 0)) 23)) .u8 23 (List.replicate 32 0)
   rw [World.size_alloc,World.size_alloc] at hn
   exact hn
 clear hb0;rintro W0 ⟨hB,h1,h2⟩
 go_loopw [8] (fun i wr=>∃k:Nat,k≤8∧i=.int .i64 k∧Below w.heap.size w wr∧aa wr (w.heap.size+1) .u8 23 (List.replicate 32 0)∧aa wr (w.heap.size+1+1) .u8 23 (joinK s k++List.replicate (32 - 4*k) 0))
  (fun i _=>8 - (intOf i).toNat)
 case atStart=>exact ⟨0,by omega,rfl,hB,h1,h2⟩
 case round=>
  clear hB h1 h2 W0;obtain ⟨k,hk,rfl,hB,h1,h2⟩:=hrel
  by_cases hlt:k<8
  · have hix:∀wx,(Instr.index 141 (.agg (row .u32 s)) (.int .i64 k)).run Tryz.prog wx=.ok (.int .u32 (s[k]?.getD 0)) wx:=fun wx=>ce wx 141 24 8 .u32 s k Tryz.underlying141 Tryz.underlying24 gQ hs hlt
    have hstep:joinK s (k+1)=joinK s k++bytes4 (s[k]?.getD 0):=rfl;obtain ⟨V,hV⟩:∃V,s[k]?.getD 0=V:=⟨_,rfl⟩
    rw [hV] at hix hstep
    have HS:Hid (joinK s (k+1)=joinK s k++bytes4 V):=hstep;have hln:(joinK s k++List.replicate (32 - 4*k) 0).length=32:=by rw [List.length_append,aJ,List.length_replicate];omega
    have c0:=h2.cell (k*4) (by omega);have c1:=h2.cell (k*4+1) (by omega);have c2:=h2.cell (k*4+2) (by omega);have c3:=h2.cell (k*4+3) (by omega);have hff:=h2.frozen;clear hV hstep hln;go_wp2;go_roundw
    case rel=>
     refine ⟨k+1,by omega,by go_num,(((hB.setCell (by simp;omega) _).setCell (by simp;omega) _).setCell (by simp;omega) _).setCell (by simp;omega) _,(((h1.setOther _ _ (by simp)).setOther _ _ (by simp)).setOther _ _ (by simp)).setOther _ _ (by simp),?_⟩;have:=(((h2.set (k*4) (V / 16777216 % 256)).set (k*4+1) (V / 65536 % 256)).set (k*4+2) (V / 256 % 256)).set (k*4+3) (V % 256);have e:=lr (joinK s k) (32 - 4*(k+1)) (k*4) (V / 16777216 % 256) (V / 65536 % 256) (V / 256 % 256) (V % 256) (by rw [aJ];omega);rw [show 32 - 4*k=32 - 4*(k+1)+4 by omega,e] at this
     rw [HS.out];exact this
    case measure=>simp [intOf];omega
  · obtain rfl:k=8:=by omega
    have h2':aa wr (w.heap.size+1+1) .u8 23 (joinL s):=by simpa [joinL] using h2
    clear h2
    go_wp2_with (first|(refine am rfl 23 _ rfl _ rfl h2' Tryz.underlying23 aK (dQ _) ?_)|(refine aj rfl 23 _ _ rfl _ rfl rfl h1 (by rw [dQ];exact aK) (by simp [dQ]) ?_))
    refine bodyPost_ret (ak (Tryz.results106) _ rfl (h1.setRow _) Tryz.underlying23 aK (dQ _)) rfl ⟨rfl,?_⟩;exact below_setRow hB (by omega) _
open Go
def padSize (n:Nat):Nat:=(n+8) / 64*64+64
def lenByte (n i:Nat):Int:=(n:Int)*8 / 2 ^ (8*i) % 256
def bW (n:Nat):Nat→List Int
 |0=>[]
 |k+1=>lenByte n k::bW n k
theorem ei (n k:Nat):(bW n k).length=k:=by
 induction k with
 |zero=>rfl
 |succ k ih=>simp [bW,ih]
def mb (z:List Int) (k:Nat):List Int:=(z++ [128]++List.replicate (padSize z.length - z.length - 9) 0)++List.replicate (8 - k) 0++bW z.length k
def bI (z:List Int):List Int:=mb z 8
theorem eA (n:Nat):n+9≤padSize n:=by unfold padSize;omega
theorem kG (z:List Int) (k:Nat) (h:k≤8):(mb z k).length=padSize z.length:=by
 have:=eA z.length;simp only [mb,List.length_append,List.length_replicate,ei,List.length_cons,List.length_nil];omega
theorem de (z:List Int):(bI z).length=padSize z.length:=kG z 8 (by omega)
theorem uY (p t:List Int) (r:Nat) (v:Int):(p++List.replicate (r+1) 0++t).set (p.length+r) v=p++List.replicate r 0++(v::t):=by
 rw [List.append_assoc,List.set_append_right _ _ (by omega),show p.length+r - p.length=r by omega,List.replicate_succ',List.append_assoc,List.set_append_right _ _ (by simp)];simp
theorem uy (z:List Int) (k:Nat) (h:k<8):(mb z k).set (padSize z.length - 1 - k) (lenByte z.length k)=mb z (k+1):=by
 have hg:=eA z.length;have e:=uY (z++ [128]++List.replicate (padSize z.length - z.length - 9) 0) (bW z.length k) (8 - (k+1)) (lenByte z.length k);simp only [List.length_append,List.length_replicate,List.length_cons,List.length_nil] at e
 unfold mb;rw [show 8 - k=8 - (k+1)+1 by omega,show padSize z.length - 1 - k=z.length+(0+1)+(padSize z.length - z.length - 9)+(8 - (k+1)) by omega,e]
 rfl
theorem tD (z:List Int):(z++List.replicate (padSize z.length - z.length) 0).set z.length 128=mb z 0:=by
 have hg:=eA z.length;rw [show padSize z.length - z.length=(padSize z.length - z.length - 1)+1 by omega,br];simp only [mb,bW,List.append_nil,List.append_assoc,List.replicate_append_replicate];rw [show padSize z.length - z.length - 9+(8 - 0)=padSize z.length - z.length - 1 by omega]
theorem oP (n m k:Nat) (h:k<m):(bW n m)[k]?.getD 0=lenByte n (m - 1 - k):=by
 induction m generalizing k with
 |zero=>omega
 |succ m ih=>
  cases k with
  |zero=>simp [bW]
  |succ k=>simp only [bW,List.getElem?_cons_succ];rw [ih k (by omega)];congr 1;omega
theorem bG (l:List Int) (k:Nat) (h:k<l.length):l.take (k+1)=l.take k++ [l[k]?.getD 0]:=by
 rw [List.take_succ_eq_append_getElem h,List.getElem?_eq_getElem h];rfl
def blk (p:List Int) (i:Nat):List Int:=(p.drop (64*i)).take 64
theorem sL (p:List Int) (i j:Nat) (h:j<64):(blk p i)[j]?.getD 0=p[64*i+j]?.getD 0:=by
 simp [blk,h]
def eY (p:List Int) (l:List Nat) (s:List Int):List Int:=l.foldl (fun s i=>f5 s (blk p i)) s
theorem l9 (p:List Int) (l:List Nat) (i:Nat) (s:List Int):eY p (l++ [i]) s=f5 (eY p l s) (blk p i):=by simp [eY]
theorem m8:InU bE:=by
 intro x hx;simp only [bE,List.mem_cons,List.not_mem_nil,or_false] at hx
 omega
theorem gk (p:List Int) (l:List Nat) (s:List Int) (h:s.length=8):(eY p l s).length=8:=by
 induction l generalizing s with
 |nil=>exact h
 |cons a l ih=>exact ih _ (gF _ _)
theorem pn (p:List Int) (l:List Nat) (s:List Int) (h:InU s):InU (eY p l s):=by
 induction l generalizing s with
 |nil=>exact h
 |cons a l ih=>exact ih _ (vY _ _)
def om (z:List Int):List Int:=eY (bI z) (List.range (padSize z.length / 64)) bE
def sumL (z:List Int):List Int:=joinL (om z)
theorem gY (z:List Int):(om z).length=8:=gk _ _ _ rfl
theorem sumL_length (z:List Int):(sumL z).length=32:=dQ _
theorem Addr.add_mid' (b o j:Nat):(⟨b,o,none⟩:Addr).add j=⟨b,o+j,none⟩:=by unfold Addr.add;split<;>simp_all
structure Bytes (w:World) (x:Option Addr) (len cap:Nat) (z:List Int):Prop where
 len_eq:len=z.length
 le:len≤cap
 top:cap≤9223372036854775807
 nil:x=none→cap=0
 at_:len=0∨∃b off,x=some ⟨b,off,none⟩∧∀j,j<len→w.cell? ⟨b,off+j,none⟩=some (.int .u8 (z[j]?.getD 0))
theorem Bytes.below {w w':World} {x:Option Addr} {len cap:Nat} {z:List Int} (h:Bytes w x len cap z) (hb:Below w.heap.size w w'):Bytes w' x len cap z:=
 ⟨h.len_eq,h.le,h.top,h.nil,by
  rcases h.at_ with h0|⟨b,off,hx,hc⟩
  · exact .inl h0
  · by_cases hl:len=0
    · exact .inl hl
    · exact .inr ⟨b,off,hx,fun j hj=>(hb.cell (p:=⟨b,off+j,none⟩) (block_lt_of_cell (hc j hj))).trans (hc j hj)⟩⟩
theorem bO (w:World):Bytes w none 0 0 []:=⟨rfl,by omega,by omega,fun _=>rfl,.inl rfl⟩
theorem dH:(Tryz.prog.info? 5).map (fun i=>(i.zero,i.size,i.bytes))=some (some (.int .u8 0),1,1):=by kernel_rfl
theorem iI:(Tryz.prog.info? 5).map (·.size)=some 1:=by kernel_rfl
theorem ir (n:Nat):madeCells #[.int .u8 0] n=row .u8 (List.replicate n 0):=by
 apply Array.ext_getElem?;intro i
 by_cases h:i<n<;>simp [madeCells,row,h,Nat.mod_one]
theorem dg {t:TypeId} (w:World) (g m:Nat) (x:Option Addr) (len cap:Nat) (z:List Int) (hb:Bytes w x len cap z) (hg:aa w g .u8 t (List.replicate m 0)) (hm:len≤m):
    (Builtin.copy_ #[41,41] 3 #[.slice (some ⟨g,0,none⟩) m m,.slice x len cap]).run Tryz.prog w=.ok (.int .i64 len) (w.setRow g (row .u8 (z++List.replicate (m - z.length) 0))):=by
 have hz:z.length=len:=hb.len_eq.symm;have hcopy:∀(a:Addr),(∀j v,(row .u8 z).toList[j]?=some v→w.cell? (a.add j)=some v)→
     (Builtin.copy_ #[41,41] 3 #[.slice (some ⟨g,0,none⟩) m m,.slice (some a) len cap]).run Tryz.prog w=.ok (.int .i64 len) (w.setRow g (row .u8 (z++List.replicate (m - z.length) 0))):=fun a hsrc=>by
  have hlen:(row .u8 z).toList.length=len:=by simp [row,hz]
  have:=run_copy_row (P:=Tryz.prog) w 41 41 3 5 g 0 m m a len cap _ t (row .u8 z).toList Tryz.underlying41 iI hg
   (by rw [hlen];exact (Nat.min_eq_left hm).symm) hsrc (by rw [hlen,bc,List.length_replicate];omega) (fun v hv=>(Array.all_eq_true_iff_forall_mem.1 (gH .u8 z)) v (by simpa using hv))
  rw [this,hlen];have e:(List.take 0 (row .u8 (List.replicate m 0)).toList++(row .u8 z).toList++List.drop (0+len) (row .u8 (List.replicate m 0)).toList).toArray=row .u8 (z++List.replicate (m - z.length) 0):=by
   simp [row,hz]
  rw [e];rfl
 rcases hb.at_ with h0|⟨b,off,hx,hc⟩
 · have hz0:z=[]:=List.length_eq_zero_iff.1 (by omega)
   cases x with
   |none=>
    have hc0:=hb.nil rfl;subst h0 hc0 hz0;rw [run_copy_nil Tryz.prog w 41 41 3 5 ⟨g,0,none⟩ m m Tryz.underlying41 (by rw [iI];rfl)];simp only [List.nil_append,List.length_nil,Nat.sub_zero];rw [setRow_self w g _ t _ hg];rfl
   |some a=>exact hcopy a (fun j v hv=>by subst hz0;simp [row] at hv)
 · subst hx
   exact hcopy _ (fun j v hv=>by
    have hj:j<len:=by
     have:=(List.getElem?_eq_some_iff.1 hv).1
     simpa [row,hz] using this
    rw [Addr.add_mid',hc j hj];have:(row .u8 z).toList[j]?=some (.int .u8 (z[j]?.getD 0)):=by
     have h:=fe .u8 z j (by omega)
     simpa using h
    rw [←this];exact hv)
theorem tF (len:Nat) (w:World) (h:len≤1000000):
    Calls Tryz.prog 143 #[.int .i64 len] w fun e w'=>e=.returned (.int .i64 (((len:Int)+8) / 64*64+64))∧w=w':=by
 go_enter Tryz.func143,Tryz.ntmps143;go_wp2;go_ret;exact ⟨rfl,rfl⟩
theorem wM (x:Option Addr) (len cap:Nat) (z:List Int) (w:World) (hbz:Bytes w x len cap z) (hln:len≤1000000):
    Calls Tryz.prog 104 #[.slice x len cap] w fun e w'=>∃g,e=.returned (.slice (some ⟨g,0,none⟩) (padSize z.length) (padSize z.length))∧w.heap.size≤g∧aa w' g .u8 5 (bI z)∧Below w.heap.size w w':=by
 have hz:=hbz.len_eq;have hg9:=eA len;have hsz:padSize len≤2000000:=by unfold padSize;omega
 have hsi:((padSize len:Nat):Int)=((len:Int)+8) / 64*64+64:=by unfold padSize;omega
 have hmk:∀wx:World,(Instr.makeSlice 41 (.int .i64 (((len:Int)+8) / 64*64+64)) (.int .i64 (((len:Int)+8) / 64*64+64))).run Tryz.prog wx=.ok (.slice (some ⟨wx.heap.size,0,none⟩) (padSize len) (padSize len)) (wx.alloc (.cells (row .u8 (List.replicate (padSize len) 0)) 5)):=fun wx=>by
  have:=run_make_row' (P:=Tryz.prog) 41 5 (.int .u8 0) 1 Tryz.underlying41 dH rfl .i64 .i64 (padSize len) (by omega) (by omega) wx;rw [hsi,ir] at this
  exact this
 obtain ⟨m,hm⟩:∃m,padSize len=m:=⟨_,rfl⟩
 have HM:Hid (padSize z.length=m):=by rw [←hz];exact hm
 rw [hm] at hmk hg9 hsz
 have hW1:aa (w.alloc (.cells (row .u8 (List.replicate m 0)) 5)) w.heap.size .u8 5 (List.replicate m 0):=aa.new w .u8 5 _;have hcp:=dg (w.alloc (.cells (row .u8 (List.replicate m 0)) 5)) w.heap.size m x len cap z (hbz.below ((Below.refl _ _).alloc (Nat.le_refl _) _)) hW1 (by omega);have HZ:Hid (len=z.length):=hz;clear hsi hm hbz hz;go_enter Tryz.func104,Tryz.ntmps104;go_upto_region 3 with (go_at_call 143;refine (tF _ _ hln).mono ?_;rintro e w' ⟨rfl,rfl⟩)
 refine ae (p:=fun y=>Code.wp _ _ _ _ y) (fun W0=>Below w.heap.size w W0∧aa W0 w.heap.size .u8 5 (z++List.replicate (m - z.length) 0)) ⟨below_setRow ((Below.refl _ _).alloc (Nat.le_refl _) _) (Nat.le_refl _) _,hW1.setRow _⟩ ?_;clear hcp hW1 hmk;rintro W0 ⟨hB,h0⟩;have c0:=h0.cell len (by have:=HZ.out;rw [List.length_append,List.length_replicate];omega);have f0:=h0.frozen len;go_wp2
 go_loopw [21] (fun i wr=>∃k:Nat,k≤8∧i=.int .i64 k∧Below w.heap.size w wr∧aa wr w.heap.size .u8 5 (mb z k)) (fun i _=>8 - (intOf i).toNat)
 case atStart=>
  refine ⟨0,by omega,rfl,hB.setCell (Nat.le_refl _) _,?_⟩;have:=h0.set len 128;rw [HZ.out,←HM.out,tD] at this
  rw [HZ.out];exact this
 case round=>
  clear hB h0 c0 f0 W0;obtain ⟨k,hk,rfl,hB,h0⟩:=hrel
  by_cases hlt:k<8
  · have c0:=h0.cell (m - 1 - k) (by rw [kG _ _ hk,HM.out];omega)
    have f0:=h0.frozen (m - 1 - k);go_wp2;go_roundw
    case rel=>
     refine ⟨k+1,by omega,by go_num,hB.setCell (Nat.le_refl _) _,?_⟩;have:=h0.set (padSize z.length - 1 - k) (lenByte z.length k);rw [uy z k hlt] at this
     rw [←HM.out,HZ.out];exact this
    case measure=>simp [intOf];omega
  · obtain rfl:k=8:=by omega
    go_wp2;go_ret;exact ⟨w.heap.size,by rw [HM.out];rfl,Nat.le_refl _,h0,hB⟩
open Go.RowKit Go.Shelf
attribute [local go_sem] Oper.semAt_some
theorem sd (x:Option Addr) (len cap:Nat) (w:World):
    Calls Tryz.prog 103 #[.slice x len cap] w fun e w'=>e=.returned (.func (.func 142) #[] #[.pointer (some ⟨w.heap.size,0,none⟩)])∧w'=w.alloc (.cells #[.slice x len cap] 41):=by
 go_enter Tryz.func103,Tryz.ntmps103;go_wp2;go_ret;exact ⟨rfl,rfl⟩
theorem vw (N k:Nat) (h:k<N):(List.finRange N).take (k+1)=(List.finRange N).take k++ [⟨k,h⟩]:=by
 rw [List.take_succ_eq_append_getElem (by simpa using h)];simp
theorem xk (F:Fence) (n:Nat) (h6:F.fn 142) (hro:F.round=none) (_hn:1≤n) (l Bn g N:Nat) (hN:64*N≤2000000) (J Jx:List (Fin N)→World→Prop)
    (hY:∀pre (x:Fin N) W,J pre W→pre.length<N→YieldAt F (n - 1) Tryz.prog l #[.slice (some ⟨g,64*x.1,none⟩) 64 64] W fun e W'=>
     (e=.returned (.bool true)∧J (pre++ [x]) W'∧W'.heap[Bn]?=W.heap[Bn]?)∨(e=.returned (.bool false)∧Jx (pre++ [x]) W'))
    (W:World) (hBn:W.cell? ⟨Bn,0,none⟩=some (.slice (some ⟨g,0,none⟩) (64*N) (64*N))) (h0:J [] W):
    CallsIn F n Tryz.prog 142 #[.func (.yield l) #[] #[],.pointer (some ⟨Bn,0,none⟩)] W fun e W'=>(∃v,e=.returned v)∧
     ((∃ys,ys=List.finRange N∧J ys W')∨(∃pre,pre<+:List.finRange N∧Jx pre W')):=by
 refine callsIn_of_wp Tryz.func142 rfl h6 ?_ hro;simp only [Tryz.ntmps142,List.size_toArray,List.length_cons,List.length_nil,Nat.reduceAdd,Nat.reduceSub,Array.replicate_succ,Array.replicate_zero,List.push_toArray,List.append_toArray,List.nil_append,List.cons_append]
 gi_wp2
 gi_loopw [3] (fun p wr=>∃k:Nat,k≤N∧p=.int .i64 ((64*k:Nat):Int)∧wr.cell? ⟨Bn,0,none⟩=some (.slice (some ⟨g,0,none⟩) (64*N) (64*N))∧J ((List.finRange N).take k) wr)
  (fun p _=>64*N - (intOf p).toNat)
 case atStart=>
  exact ⟨0,Nat.zero_le _,rfl,hBn,by simpa using h0⟩
 case round=>
  obtain ⟨k,hk,rfl,hc,hJs⟩:=hrel
  by_cases hlt:k<N
  · obtain ⟨fn,tmps,assign,body,hy,hR⟩:=hY _ ⟨k,hlt⟩ wr hJs (by simp;omega)
    dsimp only at hy
    rw [←vw N k hlt] at hR
    gi_wp2
    refine hR.mono ?_;rintro e W3 (⟨rfl,hJ3,hk3⟩|⟨rfl,hJx3⟩)
    · have hc3:W3.cell? ⟨Bn,0,none⟩=some (.slice (some ⟨g,0,none⟩) (64*N) (64*N)):=(World.cell?_of_block (a:=⟨Bn,0,none⟩) hk3).trans hc
      gi_wp2
      go_roundw
      case rel=>exact ⟨k+1,by omega,by go_num,hc3,hJ3⟩
      case measure=>simp [intOf];omega
    · gi_wp2
      refine bodyPost_ret (results_none rfl _ _ _) rfl ?_;exact ⟨⟨_,rfl⟩,.inr ⟨_,List.take_prefix _ _,hJx3⟩⟩
  · obtain rfl:k=N:=by omega
    gi_wp2
    go_end0
    exact ⟨⟨_,rfl⟩,.inl ⟨_,rfl,by rwa [List.take_of_length_le (by simp)] at hJs⟩⟩
theorem qQ (F:Fence) (n:Nat) (h6:F.fn 142) (hro:F.round=none) (hn:1≤n) (Bn g N:Nat) (hN:64*N≤2000000) (w:World) (hBn:Bn<w.heap.size)
    (hc:w.cell? ⟨Bn,0,none⟩=some (.slice (some ⟨g,0,none⟩) (64*N) (64*N))):
    SeqStopsK F n Tryz.prog 142 #[.pointer (some ⟨Bn,0,none⟩)] (fun x:Fin N=> #[.slice (some ⟨g,64*x.1,none⟩) 64 64]) (fun A B=>B.heap[Bn]?=A.heap[Bn]?) (fun ys=>ys=List.finRange N) (fun pre=>pre<+:List.finRange N) N w:=fun l J Jx W hW _ _ hY h0=>
 xk F n h6 hro hn l Bn g N hN J Jx hY W ((hW.cell (p:=⟨Bn,0,none⟩) hBn).trans hc) h0
theorem gw {W W':World} {row:Option Nat} {g:Nat} {k:IntKind} {t:TypeId} {l:List Int} (h:aa W g k t l) (hg:W.grownBy W' row) (hrow:∀r,row=some r→∃o:Obj,W.heap[r]?=some o∧o.isCells=false):aa W' g k t l:=by
 have hl:=h.lt;unfold aa at h ⊢
 rw [hg.block g hl (fun e=>by
  obtain ⟨o,ho,hc⟩:=hrow g e.symm;rw [h] at ho
  cases ho;cases hc)]
 exact h
theorem iu {W W':World} (h:Below W.heap.size W W'):KeepsOthers W W':=⟨h.size,fun k _ hk _=>(h.block k (Array.getElem?_eq_some_iff.1 hk).1).trans hk⟩
section
variable {P:Program} {F:Fence} {n:Nat}
theorem qa {ops:Array Oper} {rest:List Oper} {o:Oper} {a:Act} {w:World} {Q:Exit→Act→World→Prop} (hgd:o.guard=none) (ty:TypeId) (x y:Operand) (ho:o.op=.store ty x y)
    (g:Nat) (hx:a.eval x=.pointer (some ⟨g,0,none⟩)) {k:IntKind} {t:TypeId} {old l:List Int} (hy:a.eval y=.agg (row k l)) (hg:aa w g k t old)
    (hi:(P.info? ty).map (·.size)=some l.length) (hl:old.length=l.length)
    (h:wpListIn F n P ops Q rest (a.put o.dst undef) (w.setRow g (row k l))):wpListIn F n P ops Q (o::rest) a w:=by
 refine wpListIn_plain hgd fun K hK'=>?_
 unfold Oper.wpIn;refine ⟨?_,?_⟩
 · simp [Oper.about,ho]
 · rw [Oper.semAt_plain F _ _ (by rw [ho];intro c hc';cases hc')]
   simp only [execOp,ho,hx,hy,Instr.storeAt,Instr.sureAddr,Sem.run_bind,Sem.run_pure,Result.andThen_ok,bx w g ty t k old l hg hl hi];exact hK' _ _ h
end
theorem xH (w:World):
    Calls Tryz.prog 102 #[] w fun e w'=>e=.returned (.agg #[.int .u32 1779033703,.int .u32 3144134277,.int .u32 1013904242,.int .u32 2773480762,.int .u32 1359893119,.int .u32 2600822924,.int .u32 528734635,.int .u32 1541459225])∧Below w.heap.size w w':=tL w
theorem wH (w:World) (g:Nat) (v0 v1 v2 v3 v4 v5 v6 v7:Value):
    KeepsOthers w ((((((((w.setCell ⟨g,0,none⟩ v0).setCell ⟨g,1,none⟩ v1).setCell ⟨g,2,none⟩ v2).setCell ⟨g,3,none⟩ v3).setCell ⟨g,4,none⟩ v4).setCell ⟨g,5,none⟩ v5).setCell ⟨g,6,none⟩ v6).setCell ⟨g,7,none⟩ v7):=
 (((((((KeepsOthers.setCell _ _ _).trans (KeepsOthers.setCell _ _ _)).trans (KeepsOthers.setCell _ _ _)).trans (KeepsOthers.setCell _ _ _)).trans (KeepsOthers.setCell _ _ _)).trans (KeepsOthers.setCell _ _ _)).trans (KeepsOthers.setCell _ _ _)).trans (KeepsOthers.setCell _ _ _)
set_option maxRecDepth 100000 in
theorem xW (x:Option Addr) (len cap:Nat) (z:List Int) (w:World) (hbz:Bytes w x len cap z) (hln:len≤1000000) (hk:KTab w):
    CallsIn Fence.wide 3 Tryz.prog 59 #[.slice x len cap] w fun e w'=>e=.returned (.agg (row .u8 (sumL z)))∧Below w.heap.size w w':=by
 have hz:=hbz.len_eq;obtain ⟨N,hN⟩:∃N,padSize z.length=64*N:=⟨(z.length+8) / 64+1,by unfold padSize;omega⟩
 have hNN:padSize z.length / 64=N:=by omega
 have hN2:64*N≤2000000:=by rw [←hN];unfold padSize;omega
 have hpl:(bI z).length=64*N:=by rw [de,hN]
 have pB:∀wx,Below w.heap.size w wx→Calls Tryz.prog 104 #[.slice x len cap] wx fun e w'=>∃g,e=.returned (.slice (some ⟨g,0,none⟩) (64*N) (64*N))∧wx.heap.size≤g∧aa w' g .u8 5 (bI z)∧Below wx.heap.size wx w':=fun wx hx=>by
  have:=wM x len cap z wx (hbz.below hx) hln;rw [hN] at this
  exact this
 have HP:Hid (padSize z.length / 64=N):=hNN;have HL:Hid ((bI z).length=64*N):=hpl;clear hN hNN hz hpl;refine callsIn_of_wp_marks Tryz.func59 rfl trivial ?_ rfl;simp only [Tryz.ntmps59,List.size_toArray,List.length_cons,List.length_nil,Nat.reduceAdd,Nat.reduceSub,Array.replicate_succ,Array.replicate_zero,List.push_toArray,List.append_toArray,List.nil_append,List.cons_append]
 gi_wp2_with (first
  |(refine ⟨trivial,?_⟩;gi_at_call 102;refine (callsIn_wide.2 (xH _)).mono ?_;rintro e w1 ⟨rfl,hb1⟩;have hB1:Below w.heap.size w w1:=((Below.refl _ _).alloc (Nat.le_refl _) _).trans (hb1.mono (by simp));have hR1:aa w1 w.heap.size .u8 23 (List.replicate 32 0):=(aa.new w .u8 23 (List.replicate 32 0)).below hb1 (by simp);clear hb1)
  |(refine ⟨trivial,?_⟩;gi_at_call 104;refine (callsIn_wide.2 (pB _ (hB1.alloc hB1.size _))).mono ?_;rintro e w2 ⟨g,rfl,hg,hHg,hb2⟩)
  |(refine ⟨trivial,?_⟩;gi_at_call 103;refine (callsIn_wide.2 (sd _ _ _ _)).mono ?_;rintro e w3 ⟨rfl,rfl⟩))
 have hg1:w1.heap.size+1≤g:=by simpa using hg
 have hs1:w.heap.size+1≤w1.heap.size:=by have:=hR1.lt;omega
 have hz2:w1.heap.size+1≤w2.heap.size:=by have:=hb2.size;simpa using this
 have hgl:=hHg.lt;have hS2:aa w2 w1.heap.size .u32 141 bE:=(aa.new w1 .u32 141 bE).below hb2 (by simp);have hR2:aa w2 w.heap.size .u8 23 (List.replicate 32 0):=(hR1.alloc _).below hb2 (by simp;omega);have hB2:Below w.heap.size w w2:=(hB1.alloc hB1.size _).trans (hb2.mono (by simp;omega));have hC2:(w2.alloc (.cells #[.slice (some ⟨g,0,none⟩) (64*N) (64*N)] 41)).cell? ⟨w2.heap.size,0,none⟩=some (.slice (some ⟨g,0,none⟩) (64*N) (64*N)):=
  (cell_of_row _ w2.heap.size 0 _ 41 (0,0) (World.alloc_heap_new w2 _)).trans rfl
 clear hb2 hB1 hR1 hg pB;refine wpIn_rangeFunc_ownF rfl (by omega) (gf:=142) (lb:= #[.pointer (some ⟨w2.heap.size,0,none⟩)]) rfl trivial (enters_of Tryz.func142 (by kernel_rfl) rfl)
  (qQ Fence.wide (3 - 1) trivial rfl (by omega) w2.heap.size g N hN2 _ (by simp) hC2) (fun h k=>k.trans h) (fun W l o o' hl _ _ _=>World.putObj_heap_other (by simp at hl;omega)) (Below.refl _ _) (fun _=>rfl)
  (fun pre W=>(aa W w1.heap.size .u32 141 (eY (bI z) (pre.map (·.1)) bE)∧aa W g .u8 5 (bI z)∧aa W w.heap.size .u8 23 (List.replicate 32 0)∧w2.heap.size+1≤W.heap.size)∧Below w.heap.size w W)
  (fun _ _ _=>False)
  (OwnFrom.and (Own.from (fun s A B row hs hg hr=>⟨gw hs.1 hg hr,gw hs.2.1 hg hr,gw hs.2.2.1 hg hr,Nat.le_trans hs.2.2.2 hg.size⟩) _) (ownFrom_below (Nat.le_refl _) (by simp;omega)))
  (fun _ _ _ _ _ hs _ _=>hs)
  ⟨⟨hS2.alloc _,hHg.alloc _,hR2.alloc _,by simp⟩,hB2.alloc (by omega) _⟩
  (fun i=>{tmps:= #[.slice x len cap,undef,.pointer (some ⟨w.heap.size,0,none⟩),.pointer (some ⟨w1.heap.size,0,none⟩),.slice (some ⟨g,64*i.1,none⟩) 64 64,.agg #[.int .u32 1779033703,.int .u32 3144134277,.int .u32 1013904242,.int .u32 2773480762,.int .u32 1359893119,.int .u32 2600822924,.int .u32 528734635,.int .u32 1541459225],.slice x len cap,.slice (some ⟨g,0,none⟩) (64*N) (64*N),.func (.func 142) #[] #[.pointer (some ⟨w2.heap.size,0,none⟩)],.slice (some ⟨g,64*i.1,none⟩) 64 64,undef,undef,undef,undef,undef],defers:=[]}) ?assign ?body ?done ?stop
 case assign=>
  intro l i W K hK
  gi_wp2
  exact hK
 case body=>
  rintro l pre i W ⟨⟨hS,hG,hR,hW2⟩,hB⟩ _;have hlS:=gk (bI z) (pre.map (·.1)) bE rfl;have hiS:=pn (bI z) (pre.map (·.1)) bE m8;have hnew:eY (bI z) ((pre++ [i]).map (·.1)) bE=f5 (eY (bI z) (pre.map (·.1)) bE) (blk (bI z) i.1):=by rw [List.map_append];exact l9 _ _ _ _
  obtain ⟨s0,s1,s2,s3,s4,s5,s6,s7,hs8⟩:=iA hlS;rw [hs8] at hS hiS hnew
  obtain ⟨r0,r1,r2,r3,r4,r5,r6,r7,hr8⟩:=iA (gF [s0,s1,s2,s3,s4,s5,s6,s7] (blk (bI z) i.1));have hst:∀wx,Below W.heap.size W wx→Calls Tryz.prog 105 #[.agg #[.int .u32 s0,.int .u32 s1,.int .u32 s2,.int .u32 s3,.int .u32 s4,.int .u32 s5,.int .u32 s6,.int .u32 s7],.slice (some ⟨g,64*i.1,none⟩) 64 64] wx
      fun e w'=>e=.returned (.agg #[.int .u32 r0,.int .u32 r1,.int .u32 r2,.int .u32 r3,.int .u32 r4,.int .u32 r5,.int .u32 r6,.int .u32 r7])∧Below wx.heap.size wx w':=fun wx hx=>by
   have hGx:=hG.below hx hG.lt;have:=uO [s0,s1,s2,s3,s4,s5,s6,s7] (blk (bI z) i.1) g (64*i.1) 64 wx rfl hiS ((hk.below hB).below hx) (by omega) (by omega) (fun j hj=>by
    rw [sL _ _ _ hj];exact hGx.cell _ (by rw [HL.out];have:=i.2;omega))
   rw [hr8] at this
   exact this
  rw [hr8] at hnew
  have HNEW:Hid (eY (bI z) ((pre++ [i]).map (·.1)) bE=[r0,r1,r2,r3,r4,r5,r6,r7]):=hnew;obtain ⟨⟨c0,c1,c2,c3,c4,c5,c6,c7⟩,cf⟩:=fz hS;clear hs8 hr8 hnew hiS hlS
  gi_wp2_with (refine ⟨trivial,?_⟩;gi_at_call 105;refine (CallsIn.inRound l (callsIn_wide.2 (hst _ (Below.refl _ _)))).mono ?_;rintro e w4 ⟨rfl,hb4⟩;obtain ⟨⟨d0,d1,d2,d3,d4,d5,d6,d7⟩,df⟩:=fz (hS.below hb4 hS.lt))
  refine ⟨(iu hb4).trans (wH _ _ _ _ _ _ _ _ _ _),?_,⟨?_,?_,?_,?_⟩,?_⟩
  · exact (sR _ _ _ _ _ _ _ _ (by omega)).trans (hb4.block _ (by omega))
  · rw [HNEW.out];exact oc (hS.below hb4 hS.lt) _ _ _ _ _ _ _ _
  · exact eJ (hG.below hb4 hG.lt) _ _ _ _ _ _ _ _ (by omega)
  · exact eJ (hR.below hb4 hR.lt) _ _ _ _ _ _ _ _ (by omega)
  · have:=hb4.size;simp;omega
  · exact l5 (hB.trans (hb4.mono hB.size)) (by omega) _ _ _ _ _ _ _ _
 case done=>
  rintro D ys W hD rfl ⟨⟨hS,_,hR,hW2⟩,hB⟩ hK;have hmap:(List.finRange N).map (·.1)=List.range N:=by apply List.ext_getElem<;>simp
  have hfold:eY (bI z) ((List.finRange N).map (·.1)) bE=om z:=by rw [hmap,←HP.out];rfl
  rw [hfold] at hS
  have hj:=fun wx=>gE (om z) wx (gY z)
  obtain ⟨s0,s1,s2,s3,s4,s5,s6,s7,hs8⟩:=iA (gY z);have hjl:joinL [s0,s1,s2,s3,s4,s5,s6,s7]=sumL z:=by rw [←hs8];rfl
  rw [hs8] at hS hj
  rw [hjl] at hj
  have hj':∀wx,Calls Tryz.prog 106 #[.agg #[.int .u32 s0,.int .u32 s1,.int .u32 s2,.int .u32 s3,.int .u32 s4,.int .u32 s5,.int .u32 s6,.int .u32 s7]] wx fun e w'=>e=.returned (.agg (row .u8 (sumL z)))∧Below wx.heap.size wx w':=hj
  obtain ⟨⟨c0,c1,c2,c3,c4,c5,c6,c7⟩,cf⟩:=fz hS;have hDl:D<W.heap.size:=(Array.getElem?_eq_some_iff.1 hK).1;clear hs8 hjl hfold hj hmap
  gi_wp2_with (first
   |(refine ⟨trivial,?_⟩;gi_at_call 106;refine (callsIn_wide.2 (hj' _)).mono ?_;rintro e w5 ⟨rfl,hb5⟩;have hR5:aa w5 w.heap.size .u8 23 (List.replicate 32 0):=hR.below hb5 hR.lt)
   |(refine qa rfl 23 _ _ rfl _ rfl rfl hR5 (by rw [sumL_length];exact aK) (by simp [sumL_length]) ?_))
  have hK5:(w5.setRow w.heap.size (row .u8 (sumL z))).heap[D]?=some (.deferred (some [])):=by
   rw [setRow_other _ _ _ _ (by simp at hD;omega),hb5.block D hDl];exact hK
  have hB5:Below w.heap.size w (w5.setRow w.heap.size (row .u8 (sumL z))):=below_setRow (hB.trans (hb5.mono hB.size)) (Nat.le_refl _) _;refine ⟨by simp,.inl ⟨_,_,rfl,run_takeDeferred hK5,?_⟩⟩;have hF:=gw (hR5.setRow (sumL z)) (grownBy_putObj' _ D (.deferred none)) (fun r e=>by cases e;exact ⟨_,hK5,rfl⟩);exact ⟨_,ak (Tryz.results59) _ rfl hF Tryz.underlying23 aK (sumL_length z),rfl,hB5.trans (belowK_b (w:=w) (Nat.le_refl _) _ D _ _ (by simp at hD;omega) hK5 rfl rfl)⟩
 case stop=>
  rintro D c pre W _ _ h _;exact h.elim
theorem sum_any (x:Option Addr) (len cap:Nat) (z:List Int) (w:World) (hbz:Bytes w x len cap z) (hln:len≤1000000) (hk:KTab w):
    Calls Tryz.prog 59 #[.slice x len cap] w fun e w'=>e=.returned (.agg (row .u8 (sumL z)))∧Below w.heap.size w w':=callsIn_wide.1 (xW x len cap z w hbz hln hk)
end Go.Proofs.YtbdhfbglagdiaaaGreatDoor.S
