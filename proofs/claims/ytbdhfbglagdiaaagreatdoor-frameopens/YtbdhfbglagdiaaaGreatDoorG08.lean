/- Kit Words Spread Mixed Step -/
import Derived.Test.YtbdhfbglagdiaaaGreatDoorG07
import Derived.Laws.Rows
import Derived.Laws.CopyRow
import Derived.Laws.CopyOwn
import Derived.Deep.WholeRow
import Derived.Deep.RegionHeld3
import Derived.Deep.DeepCutAuto
namespace Go.Proofs.YtbdhfbglagdiaaaGreatDoor.S
open Go.RowKit
def aa (w:World) (g:Nat) (k:IntKind) (t:TypeId) (l:List Int):Prop:=w.heap[g]?=some (.cells (row k l) t (0,0))
theorem aa.lt {w:World} {g:Nat} {k:IntKind} {t:TypeId} {l:List Int} (h:aa w g k t l):g<w.heap.size:=by
 unfold aa at h
 exact (Array.getElem?_eq_some_iff.1 h).1
theorem aa.cell {w:World} {g:Nat} {k:IntKind} {t:TypeId} {l:List Int} (h:aa w g k t l) (j:Nat) (hj:j<l.length):w.cell? ⟨g,j,none⟩=some (.int k (l[j]?.getD 0)):=by
 rw [cell_of_row w g j _ t _ h,fe k l j hj]
theorem aa.frozen {w:World} {g:Nat} {k:IntKind} {t:TypeId} {l:List Int} (h:aa w g k t l) (j:Nat):w.frozen? ⟨g,j,none⟩=false:=frozen_of_row w g j _ t h
theorem aa.drewN {w:World} {g:Nat} {k:IntKind} {t:TypeId} {l:List Int} (h:aa w g k t l) (n:Nat):aa (w.drewN n) g k t l:=by
 unfold aa at h ⊢;simpa using h
theorem aa.drew {w:World} {g:Nat} {k:IntKind} {t:TypeId} {l:List Int} (h:aa w g k t l):aa w.drew g k t l:=by
 unfold aa at h ⊢;rw [heap_drew];exact h
theorem aa.alloc {w:World} {g:Nat} {k:IntKind} {t:TypeId} {l:List Int} (h:aa w g k t l) (o:Obj):aa (w.alloc o) g k t l:=by
 have hl:=h.lt;unfold aa at h ⊢;rw [Below.heap_alloc w o g hl];exact h
theorem aa.below {w w':World} {B g:Nat} {k:IntKind} {t:TypeId} {l:List Int} (h:aa w g k t l) (hb:Below B w w') (hg:g<B):aa w' g k t l:=by
 unfold aa at h ⊢;rw [hb.block g hg];exact h
theorem aa.set {w:World} {g:Nat} {k:IntKind} {t:TypeId} {l:List Int} (h:aa w g k t l) (j:Nat) (v:Int):aa (w.setCell ⟨g,j,none⟩ (.int k v)) g k t (l.set j v):=by
 unfold aa at h ⊢
 rw [heap_setCell_same w g j _ t _ h,ob]
theorem aa.setOther {w:World} {g:Nat} {k:IntKind} {t:TypeId} {l:List Int} (h:aa w g k t l) (a:Addr) (v:Value) (hne:g≠a.block):aa (w.setCell a v) g k t l:=by
 unfold aa at h ⊢
 rw [heap_setCell_other w a g v hne];exact h
theorem aa.new (w:World) (k:IntKind) (t:TypeId) (l:List Int):aa (w.alloc (.cells (row k l) t)) w.heap.size k t l:=heap_alloc_new w _
theorem aa.setRow {w:World} {g:Nat} {k:IntKind} {t:TypeId} {l:List Int} (h:aa w g k t l) (l':List Int):aa (w.setRow g (row k l')) g k t l':=by
 unfold aa at h ⊢;exact setRow_heap w g _ _ t _ h
theorem aa.setRowOther {w:World} {g g':Nat} {k:IntKind} {t:TypeId} {l:List Int} (h:aa w g k t l) (cs:Array Value) (hne:g≠g'):aa (w.setRow g' cs) g k t l:=by
 unfold aa at h ⊢;rw [setRow_other w g' g cs hne];exact h
theorem l8 (w:World) (n:Nat):(w.drewN n).heap.size=w.heap.size:=by simp
theorem aD {B:Nat} {a w:World} (h:Below B a w) (n:Nat):Below B a (w.drewN n):=by
 induction n with
 |zero=>exact h
 |succ n ih=>exact ih.drew
section
variable {P:Program}
theorem am {ops:Array Oper} {rest:List Oper} {o:Oper} {a:Act} {w:World} {Q:Exit→Act→World→Prop} (hgd:o.guard=none) (ty:TypeId) (x:Operand) (ho:o.op=.load ty x)
    (g:Nat) (hx:a.eval x=.pointer (some ⟨g,0,none⟩)) {k:IntKind} {t:TypeId} {l:List Int} (hg:aa w g k t l) {n:Nat} {e:TypeId}
    (hu:P.underlying ty=some (.array n e)) (hi:(P.info? ty).map (·.size)=some n) (hl:l.length=n)
    (h:wpList P ops Q rest (a.put o.dst (.agg (row k l))) w):wpList P ops Q (o::rest) a w:=
 wpList_load_row hgd ty x ho g hx t (row k l) (0,0) _ hg hu rfl (by rw [hi,bc,hl]) h
theorem bx (w:World) (g:Nat) (ty t:TypeId) (k:IntKind) (old l:List Int) (hg:aa w g k t old) (hl:old.length=l.length) (hi:(P.info? ty).map (·.size)=some l.length):
    (storeVar ty ⟨g,0,none⟩ (.agg (row k l))).run P w=.ok () (w.setRow g (row k l)):=by
 have hst:=run_storeCells_at P g 0 t (row k l).toList 0 (row k old) w hg (by simp [row,hl]) (fun v hv=>by
  have:=gH k l;exact (Array.all_eq_true_iff_forall_mem.1 this) v (by simpa using hv))
 cases hq:P.info? ty with
 |none=>simp [hq] at hi
 |some i=>
  have hs:i.size=l.length:=by simpa [hq] using hi
  have hsz:(row k l).size=i.size:=by rw [bc,hs]
  have he:(List.take (0+0) (row k old).toList++(row k l).toList++List.drop (0+0+(row k l).toList.length) (row k old).toList).toArray=row k l:=by
   simp [row,hl]
  rw [he] at hst
  simp [storeVar,sizeOf,typeInfo,hq,Value.cells,hsz,hst]
theorem aj {ops:Array Oper} {rest:List Oper} {o:Oper} {a:Act} {w:World} {Q:Exit→Act→World→Prop} (hgd:o.guard=none) (ty:TypeId) (x y:Operand) (ho:o.op=.store ty x y)
    (g:Nat) (hx:a.eval x=.pointer (some ⟨g,0,none⟩)) {k:IntKind} {t:TypeId} {old l:List Int} (hy:a.eval y=.agg (row k l)) (hg:aa w g k t old)
    (hi:(P.info? ty).map (·.size)=some l.length) (hl:old.length=l.length)
    (h:wpList P ops Q rest (a.put o.dst undef) (w.setRow g (row k l))):wpList P ops Q (o::rest) a w:=
 wpList_plain hgd fun _ hK=>by
  unfold Oper.wp execOp;simp only [ho,hx,hy,Instr.storeAt,Instr.sureAddr,Sem.run_bind,Sem.run_pure,Result.andThen_ok,bx w g ty t k old l hg hl hi];exact hK _ _ h
theorem ak {fn:Func} {p:Tmp} {ty:TypeId} (h:fn.results= #[.cell p ty]) (tmps:Array Value) {w:World} {g:Nat} {k:IntKind} {t:TypeId} {l:List Int}
    (hp:tmps.getD p undef=.pointer (some ⟨g,0,none⟩)) (hg:aa w g k t l) {n:Nat} {e:TypeId}
    (hu:P.underlying ty=some (.array n e)) (hi:(P.info? ty).map (·.size)=some n) (hl:l.length=n):
    (results fn tmps).run P w=.ok (.agg (row k l)) w:=
 results_cell_row h tmps w g t (row k l) (0,0) _ hp hg hu rfl (by rw [hi,bc,hl])
end
theorem vM:(Tryz.prog.info? 28).map (·.size)=some 8:=by kernel_rfl
theorem j9:(Tryz.prog.info? 141).map (·.size)=some 8:=by kernel_rfl
theorem rx:(Tryz.prog.info? 181).map (·.size)=some 16:=by kernel_rfl
theorem dS:(Tryz.prog.info? 179).map (·.size)=some 64:=by kernel_rfl
theorem aK:(Tryz.prog.info? 23).map (·.size)=some 32:=by kernel_rfl
theorem t6 (b off cap:Nat) (z:List Int) (w:World) (hcap:64≤cap) (hcap2:cap≤9223372036854775807)
    (hcell:∀j,j<64→w.cell? ⟨b,off+j,none⟩=some (.int .u8 (z[j]?.getD 0))):
    Calls Tryz.prog 146 #[.slice (some ⟨b,off,none⟩) 64 cap] w fun e w'=>e=.returned (.agg (row .u32 (bd z 16)))∧Below w.heap.size w w':=by
 have hb:b<w.heap.size:=block_lt_of_cell (hcell 0 (by omega));go_enter Tryz.func146,Tryz.ntmps146;go_wp2
 go_loopw [6] (fun i wr=>∃k:Nat,k≤16∧i=.int .i64 k∧Below w.heap.size w wr∧w.heap.size+2≤wr.heap.size
     ∧aa wr w.heap.size .u32 181 (List.replicate 16 0)
     ∧aa wr (w.heap.size+1) .u32 181 (bd z k++List.replicate (16 - k) 0))
  (fun i _=>16 - (intOf i).toNat)
 case atStart=>
  have hn:=aa.new (w.alloc (.cells (row .u32 (List.replicate 16 0)) 181)) .u32 181 (List.replicate 16 0);rw [World.size_alloc] at hn
  exact ⟨0,by omega,rfl,((Below.refl _ _).alloc (Nat.le_refl _) _).alloc (by simp) _,by simp,(aa.new w .u32 181 (List.replicate 16 0)).alloc _,hn⟩
 case round=>
  obtain ⟨k,hk,rfl,hB,hsz,h0,h1⟩:=hrel
  by_cases hlt:k<16
  · have c:∀j,j<64→wr.cell? ⟨b,off+j,none⟩=some (.int .u8 (z[j]?.getD 0)):=fun j hj=>(hB.cell (p:=⟨b,off+j,none⟩) hb).trans (hcell j hj)
    have c0:=c (4*k) (by omega);have c1:=c (4*k+1) (by omega);have c2:=c (4*k+2) (by omega);have c3:=c (4*k+3) (by omega);have hw:=vz b (off+k*4) 4 (z[4*k]?.getD 0) (z[4*k+1]?.getD 0) (z[4*k+2]?.getD 0) (z[4*k+3]?.getD 0) wr (by rw [←c0];congr 2;omega) (by rw [←c1];congr 2;omega) (by rw [←c2];congr 2;omega) (by rw [←c3];congr 2;omega);have hcc:=h1.cell k (by rw [List.length_append,bj,List.length_replicate];omega);have hff:=h1.frozen k;clear c c0 c1 c2 c3 hcell
    go_wp2_with (go_at_call 168;refine hw.mono ?_;rintro e w' ⟨rfl,nd,rfl⟩)
    go_roundw
    case rel=>
     refine ⟨k+1,by omega,by go_num,(aD hB _).setCell (by simp) _,by simp;omega,(h0.drewN _).setOther _ _ (by simp),?_⟩;have:=(h1.drewN nd).set k (wdAt z k);rw [show 16 - k=(16 - (k+1))+1 by omega] at this
     have e:=br (bd z k) (16 - (k+1)) (wdAt z k);rw [bj] at e
     rw [e,←kJ] at this
     exact this
    case measure=>simp [intOf];omega
  · obtain rfl:k=16:=by omega
    have h1':aa wr (w.heap.size+1) .u32 181 (bd z 16):=by simpa using h1
    clear h1
    go_wp2_with (first|(refine am rfl 181 _ rfl _ rfl h1' Tryz.underlying181 rx (bj _ _) ?_)|(refine aj rfl 181 _ _ rfl _ rfl rfl h0 (by rw [bj];exact rx) (by simp [bj]) ?_))
    refine bodyPost_ret (ak (Tryz.results146) _ rfl (h0.setRow _) Tryz.underlying181 rx (bj _ _)) rfl ⟨rfl,?_⟩;exact below_setRow hB (Nat.le_refl _) _
theorem gQ:(Tryz.prog.info? 24).map (·.size)=some 1:=by kernel_rfl
theorem ae {p:World→Prop} {W:World} (I:World→Prop) (hI:I W) (h:∀W0,I W0→p W0):p W:=h W hI
theorem rW (f:List Int) (w:World) (hf:f.length=16):
    Calls Tryz.prog 145 #[.agg (row .u32 f)] w fun e w'=>e=.returned (.agg (row .u32 (sched f 48)))∧Below w.heap.size w w':=by
 go_enter Tryz.func145,Tryz.ntmps145;go_wp2;refine ae (p:=fun x=>Code.wp _ _ _ _ x) (fun W0=>Below w.heap.size w W0∧W0.heap.size=w.heap.size+3∧aa W0 w.heap.size .u32 181 f∧aa W0 (w.heap.size+1) .u32 179 (List.replicate 64 0)∧aa W0 (w.heap.size+1+1) .u32 179 (List.replicate 64 0)) ⟨(((Below.refl _ _).alloc (Nat.le_refl _) _).alloc (by simp) _).alloc (by simp;omega) _,by simp,?_,?_,?_⟩ ?_
 · exact ((aa.new w .u32 181 f).alloc _).alloc _
 · have hn:=aa.new (w.alloc (.cells (row .u32 f) 181)) .u32 179 (List.replicate 64 0)
   rw [World.size_alloc] at hn
   exact hn.alloc _
 · have hn:=aa.new ((w.alloc (.cells (row .u32 f) 181)).alloc (.cells (row .u32 (List.replicate 64 0)) 179)) .u32 179 (List.replicate 64 0)
   rw [World.size_alloc,World.size_alloc] at hn
   exact hn
 rintro W0 ⟨hB,hsz,h0,h1,h2⟩;have hcp:∀wx:World,wx.heap=W0.heap→(Builtin.copy_ #[183,183] 3 #[.slice (some ⟨w.heap.size+1+1,0,none⟩) 64 64,.slice (some ⟨w.heap.size,0,none⟩) 16 16]).run Tryz.prog wx=
     .ok (.int .i64 16) (wx.setRow (w.heap.size+1+1) (row .u32 (f++List.replicate 48 0))):=fun wx hx=>by
  have hg:wx.heap[w.heap.size+1+1]?=some (.cells (row .u32 (List.replicate 64 0)) 179 (0,0)):=by rw [hx];exact h2
  have hs:wx.heap[w.heap.size]?=some (.cells (row .u32 f) 181 (0,0)):=by rw [hx];exact h0
  have:=run_copy_row (P:=Tryz.prog) wx 183 183 3 24 (w.heap.size+1+1) 0 64 64 ⟨w.heap.size,0,none⟩ 16 16 _ 179 (row .u32 f).toList Tryz.underlying183 gQ hg
   (by simp [row,hf]) (fun j v hv=>by
    have:(⟨w.heap.size,0,none⟩:Addr).add j=⟨w.heap.size,j,none⟩:=by unfold Addr.add;split<;>simp_all
    rw [this,cell_of_row wx _ j _ _ _ hs];simpa using hv) (by simp [row,hf]) (fun v hv=>(Array.all_eq_true_iff_forall_mem.1 (gH .u32 f)) v (by simpa using hv))
  rw [this];have e:(List.take 0 (row .u32 (List.replicate 64 0)).toList++(row .u32 f).toList++List.drop (0+(row .u32 f).toList.length) (row .u32 (List.replicate 64 0)).toList).toArray=row .u32 (f++List.replicate 48 0):=by
   simp [row,hf]
  rw [e];have e2:(row .u32 f).toList.length=16:=by simp [row,hf]
  rw [e2];rfl
 have hcp1:=hcp W0.drew rfl;clear hcp
 go_region
 go_wp2;refine ae (p:=fun x=>Code.wp _ _ _ _ x) (fun W1=>Below w.heap.size w W1∧W1.heap.size=w.heap.size+3∧aa W1 (w.heap.size+1) .u32 179 (List.replicate 64 0)∧aa W1 (w.heap.size+1+1) .u32 179 (f++List.replicate 48 0)) ⟨below_setRow hB.drew (by omega) _,by simp [hsz],?_,?_⟩ ?_
 · exact (show aa W0.drew _ _ _ _ from h1).setRowOther _ (by omega)
 · exact (show aa W0.drew _ _ _ _ from h2).setRow _
 clear hcp1 h0 h1 h2 hB hsz;rintro W1 ⟨hB,hsz,h1,h2⟩
 go_loopw [4] (fun i wr=>∃m:Nat,m≤48∧i=.int .i64 ((16+m:Nat):Int)∧Below w.heap.size w wr∧wr.heap.size=w.heap.size+3
     ∧aa wr (w.heap.size+1) .u32 179 (List.replicate 64 0)
     ∧aa wr (w.heap.size+1+1) .u32 179 (sched f m++List.replicate (48 - m) 0))
  (fun i _=>64 - (intOf i).toNat)
 case atStart=>exact ⟨0,by omega,rfl,hB,hsz,h1,h2⟩
 case round=>
  clear hB hsz h1 h2 W1;obtain ⟨m,hm,rfl,hB,hsz,h1,h2⟩:=hrel
  by_cases hlt:m<48
  · have hln:(sched f m++List.replicate (48 - m) 0).length=64:=by rw [List.length_append,bT,hf,List.length_replicate];omega
    have ix:∀j,j<16+m→(sched f m++List.replicate (48 - m) 0)[j]?.getD 0=(sched f m)[j]?.getD 0:=fun j hj=>by rw [List.getElem?_append_left (by rw [bT,hf];omega)]
    have c2:=h2.cell (16+m - 2) (by omega);have c7:=h2.cell (16+m - 7) (by omega);have c15:=h2.cell (16+m - 15) (by omega);have c16:=h2.cell (16+m - 16) (by omega);rw [ix _ (by omega)] at c2 c7 c15 c16
    have cc:=h2.cell (16+m) (by omega);have cf:=h2.frozen (16+m);clear ix hln;obtain ⟨k,hk⟩:∃k,16+m=k:=⟨_,rfl⟩
    have hk1:16≤k:=by omega
    have hk2:k<64:=by omega
    have HK:Hid (16+m=k):=hk;rw [hk] at c2 c7 c15 c16 cc cf ⊢
    clear hk;go_wp2
    go_quiet ((fail))
    go_wp2_with (go_at_call 167;refine (j8 _ _ _ (by unfold mJ;omega)).mono ?_;rintro e w' ⟨rfl,rfl⟩)
    go_region
    all_goals go_wp2
    all_goals go_roundw
    case rel=>
     refine ⟨m+1,by omega,?_,?_,?_,?_,?_⟩
     · have:=HK.out;subst this;go_num
     · exact (aD hB _).setCell (by simp;omega) _
     · simp [hsz]
     · exact (h1.drewN _).setOther _ _ (by simp)
     · have hk:=HK.out
       subst hk;have:=(h2.drewN (nq+1)).set (16+m) (swdAt (sched f m) (16+m));rw [show 48 - m=(48 - (m+1))+1 by omega] at this
       have e:=br (sched f m) (48 - (m+1)) (swdAt (sched f m) (16+m));rw [bT,hf] at e
       rw [e] at this
       have e2:sched f (m+1)=sched f m++ [swdAt (sched f m) (16+m)]:=by rw [sched,swd,bT,hf]
       rw [e2];exact this
    case measure=>have:=HK.out;simp [intOf];omega
  · obtain rfl:m=48:=by omega
    have hl:(sched f 48).length=64:=by rw [bT,hf]
    have h2':aa wr (w.heap.size+1+1) .u32 179 (sched f 48):=by simpa using h2
    clear h2
    go_wp2_with (first|(refine am rfl 179 _ rfl _ rfl h2' Tryz.underlying179 dS hl ?_)|(refine aj rfl 179 _ _ rfl _ rfl rfl h1 (by rw [hl];exact dS) (by simp [hl]) ?_))
    refine bodyPost_ret (ak (Tryz.results145) _ rfl (h1.setRow _) Tryz.underlying179 dS hl) rfl ⟨rfl,?_⟩;exact below_setRow hB (by omega) _
def KTab (w:World):Prop:=∀j,j<64→w.cell? ⟨1,j,none⟩=some (.int .u32 (kTab[j]?.getD 0))
theorem KTab.lt {w:World} (h:KTab w):1<w.heap.size:=block_lt_of_cell (h 0 (by omega))
theorem KTab.below {w w':World} (h:KTab w) (hb:Below w.heap.size w w'):KTab w':=fun j hj=>(hb.cell (p:=⟨1,j,none⟩) h.lt).trans (h j hj)
set_option maxRecDepth 20000 in
theorem ut (s ws:List Int) (w:World) (hs:s.length=8) (hin:InU s) (hw:ws.length=64) (hk:KTab w):
    Calls Tryz.prog 144 #[.agg (row .u32 s),.agg (row .u32 ws)] w fun e w'=>e=.returned (.agg (row .u32 (ct ws s 64)))∧Below w.heap.size w w':=by
 go_enter Tryz.func144,Tryz.ntmps144;go_wp2;refine ae (p:=fun x=>Code.wp _ _ _ _ x) (fun W0=>Below w.heap.size w W0∧W0.heap.size=w.heap.size+3∧aa W0 w.heap.size .u32 141 s∧aa W0 (w.heap.size+1) .u32 179 ws∧aa W0 (w.heap.size+1+1) .u32 141 (List.replicate 8 0)) ⟨(((Below.refl _ _).alloc (Nat.le_refl _) _).alloc (by simp) _).alloc (by simp;omega) _,by simp,?_,?_,?_⟩ ?_
 · exact ((aa.new w .u32 141 s).alloc _).alloc _
 · have hn:=aa.new (w.alloc (.cells (row .u32 s) 141)) .u32 179 ws
   rw [World.size_alloc] at hn
   exact hn.alloc _
 · have hn:=aa.new ((w.alloc (.cells (row .u32 s) 141)).alloc (.cells (row .u32 ws) 179)) .u32 141 (List.replicate 8 0)
   rw [World.size_alloc,World.size_alloc] at hn
   exact hn
 rintro W0 ⟨hB,hsz,h0,h1,h2⟩;obtain ⟨a,b,c,d,e,f,g,h,rfl⟩:=iA hs;have c0:W0.cell? ⟨w.heap.size,0,none⟩=some (.int .u32 a):=h0.cell 0 (by simp);have c1:W0.cell? ⟨w.heap.size,1,none⟩=some (.int .u32 b):=h0.cell 1 (by simp);have c2:W0.cell? ⟨w.heap.size,2,none⟩=some (.int .u32 c):=h0.cell 2 (by simp);have c3:W0.cell? ⟨w.heap.size,3,none⟩=some (.int .u32 d):=h0.cell 3 (by simp);have c4:W0.cell? ⟨w.heap.size,4,none⟩=some (.int .u32 e):=h0.cell 4 (by simp);have c5:W0.cell? ⟨w.heap.size,5,none⟩=some (.int .u32 f):=h0.cell 5 (by simp);have c6:W0.cell? ⟨w.heap.size,6,none⟩=some (.int .u32 g):=h0.cell 6 (by simp);have c7:W0.cell? ⟨w.heap.size,7,none⟩=some (.int .u32 h):=h0.cell 7 (by simp)
 go_quiet ((fail))
 go_wp2;refine ae (p:=fun x=>Code.wp _ _ _ _ x) (fun W1=>Below w.heap.size w W1∧W1.heap.size=w.heap.size+3∧aa W1 (w.heap.size+1) .u32 179 ws∧aa W1 (w.heap.size+1+1) .u32 141 (List.replicate 8 0)) ⟨aD hB _,by simp [hsz],h1.drewN _,h2.drewN _⟩ ?_;clear c0 c1 c2 c3 c4 c5 c6 c7 h0 h1 h2 hB hsz;rintro W1 ⟨hB,hsz,h1,h2⟩
 go_loopw [5,6,7,8,9,10,11,12,32] (fun va vb vc vd ve vf vg vh i wr=>∃(k:Nat) (a' b' c' d' e' f' g' h':Int),k≤64∧i=.int .i64 k∧ct ws [a,b,c,d,e,f,g,h] k=[a',b',c',d',e',f',g',h']∧
     va=.int .u32 a'∧vb=.int .u32 b'∧vc=.int .u32 c'∧vd=.int .u32 d'∧ve=.int .u32 e'∧vf=.int .u32 f'∧vg=.int .u32 g'∧vh=.int .u32 h'∧
     Below w.heap.size w wr∧wr.heap.size=w.heap.size+3∧aa wr (w.heap.size+1) .u32 179 ws∧aa wr (w.heap.size+1+1) .u32 141 (List.replicate 8 0))
  (fun _ _ _ _ _ _ _ _ i _=>64 - (intOf i).toNat)
 case atStart=>exact ⟨0,a,b,c,d,e,f,g,h,by omega,rfl,rfl,rfl,rfl,rfl,rfl,rfl,rfl,rfl,rfl,hB,hsz,h1,h2⟩
 case round=>
  clear hB hsz h1 h2 W1;obtain ⟨k,a',b',c',d',e',f',g',h',hk64,rfl,HR,rfl,rfl,rfl,rfl,rfl,rfl,rfl,rfl,hB,hsz,h1,h2⟩:=hrel;have HH:Hid (ct ws [a,b,c,d,e,f,g,h] k=[a',b',c',d',e',f',g',h']):=HR;have hin':=nF ws [a,b,c,d,e,f,g,h] k hs hin;rw [HR] at hin'
  have he:=hin' e' (by simp);obtain ⟨he0,he1⟩:=he;clear HR hin'
  by_cases hlt:k<64
  · have ck:wr.cell? ⟨1,k,none⟩=some (.int .u32 (kTab[k]?.getD 0)):=(hB.cell (p:=⟨1,k,none⟩) hk.lt).trans (hk k hlt)
    have cw:=h1.cell k (by omega);obtain ⟨K,hK⟩:∃K,kTab[k]?.getD 0=K:=⟨_,rfl⟩
    have HK:Hid (kTab[k]?.getD 0=K):=hK;rw [hK] at ck
    obtain ⟨V,hV⟩:∃V,ws[k]?.getD 0=V:=⟨_,rfl⟩
    have HV:Hid (ws[k]?.getD 0=V):=hV;rw [hV] at cw
    have HN:Hid (bits .xor .u32 (if IntKind.u32.signed=true then -1 else IntKind.u32.max) e'=4294967295 - e'):=xc e' he0 he1;clear hK hV;go_wp2
    go_quiet ((go_at_call 167;exact Calls.quiet_of_same (j8 _ _ _ (by unfold mJ;omega))))
    go_wp2_with (go_at_call 167;refine (j8 _ _ _ (by unfold mJ;omega)).mono ?_;rintro e w' ⟨rfl,rfl⟩)
    go_roundw
    case rel=>
     refine ⟨k+1,_,_,_,_,_,_,_,_,by omega,by go_num,?_,rfl,rfl,rfl,rfl,rfl,rfl,rfl,rfl,aD hB _,by simp [hsz],h1.drewN _,h2.drewN _⟩;show rnd (kTab[k]?.getD 0) (ws[k]?.getD 0) (ct ws [a,b,c,d,e,f,g,h] k)=_;rw [HH.out,HK.out,HV.out];refine vZ ?_ ?_
     · unfold tV yc chs maj;rw [HN.out];omega
     · unfold tV chs;rw [HN.out];omega
    case measure=>simp [intOf];omega
  · obtain rfl:k=64:=by omega
    have hr:ct ws [a,b,c,d,e,f,g,h] 64=[a',b',c',d',e',f',g',h']:=HH.out
    go_wp2_with (refine aj rfl 141 _ _ rfl _ rfl (l:=[a',b',c',d',e',f',g',h']) rfl h2 j9 (by simp) ?_)
    refine bodyPost_ret (ak (Tryz.results144) _ rfl (h2.setRow [a',b',c',d',e',f',g',h']) Tryz.underlying141 j9 rfl) rfl ⟨by rw [hr],?_⟩;exact below_setRow hB (by omega) _
theorem qe {W w1:World} (hb:Below W.heap.size W w1):(∀b o,b<W.heap.size→w1.cell? ⟨b,o,none⟩=W.cell? ⟨b,o,none⟩)∧(∀b o,b<W.heap.size→w1.frozen? ⟨b,o,none⟩=W.frozen? ⟨b,o,none⟩):=
 ⟨fun b o h=>hb.cell (p:=⟨b,o,none⟩) h,fun b o h=>hb.frozen (p:=⟨b,o,none⟩) h⟩
theorem wt {w:World} {g:Nat} {t:TypeId} (h:aa w g .u32 t (List.replicate 8 0)):
    (w.cell? ⟨g,0,none⟩=some (.int .u32 0)∧w.cell? ⟨g,1,none⟩=some (.int .u32 0)∧w.cell? ⟨g,2,none⟩=some (.int .u32 0)∧w.cell? ⟨g,3,none⟩=some (.int .u32 0)∧
     w.cell? ⟨g,4,none⟩=some (.int .u32 0)∧w.cell? ⟨g,5,none⟩=some (.int .u32 0)∧w.cell? ⟨g,6,none⟩=some (.int .u32 0)∧w.cell? ⟨g,7,none⟩=some (.int .u32 0))∧∀j,w.frozen? ⟨g,j,none⟩=false:=
 ⟨⟨h.cell 0 (by simp),h.cell 1 (by simp),h.cell 2 (by simp),h.cell 3 (by simp),h.cell 4 (by simp),h.cell 5 (by simp),h.cell 6 (by simp),h.cell 7 (by simp)⟩,h.frozen⟩
theorem l5 {B:Nat} {a w:World} (h:Below B a w) {g:Nat} (hg:B≤g) (v0 v1 v2 v3 v4 v5 v6 v7:Value):
    Below B a ((((((((w.setCell ⟨g,0,none⟩ v0).setCell ⟨g,1,none⟩ v1).setCell ⟨g,2,none⟩ v2).setCell ⟨g,3,none⟩ v3).setCell ⟨g,4,none⟩ v4).setCell ⟨g,5,none⟩ v5).setCell ⟨g,6,none⟩ v6).setCell ⟨g,7,none⟩ v7):=
 (((((((h.setCell (p:=⟨g,0,none⟩) hg _).setCell (p:=⟨g,1,none⟩) hg _).setCell (p:=⟨g,2,none⟩) hg _).setCell (p:=⟨g,3,none⟩) hg _).setCell (p:=⟨g,4,none⟩) hg _).setCell (p:=⟨g,5,none⟩) hg _).setCell (p:=⟨g,6,none⟩) hg _).setCell (p:=⟨g,7,none⟩) hg _
theorem yh {w:World} {g:Nat} {t:TypeId} (h:aa w g .u32 t (List.replicate 8 0)) (r0 r1 r2 r3 r4 r5 r6 r7:Int):
    aa ((((((((w.setCell ⟨g,0,none⟩ (.int .u32 r0)).setCell ⟨g,1,none⟩ (.int .u32 r1)).setCell ⟨g,2,none⟩ (.int .u32 r2)).setCell ⟨g,3,none⟩ (.int .u32 r3)).setCell ⟨g,4,none⟩ (.int .u32 r4)).setCell ⟨g,5,none⟩ (.int .u32 r5)).setCell ⟨g,6,none⟩ (.int .u32 r6)).setCell ⟨g,7,none⟩ (.int .u32 r7)) g .u32 t [r0,r1,r2,r3,r4,r5,r6,r7]:=
 (((((((h.set 0 r0).set 1 r1).set 2 r2).set 3 r3).set 4 r4).set 5 r5).set 6 r6).set 7 r7
set_option maxRecDepth 20000 in
theorem uO (s z:List Int) (b off cap:Nat) (w:World) (hs:s.length=8) (hin:InU s) (hk:KTab w) (hcap:64≤cap) (hcap2:cap≤9223372036854775807)
    (hcell:∀j,j<64→w.cell? ⟨b,off+j,none⟩=some (.int .u8 (z[j]?.getD 0))):
    Calls Tryz.prog 105 #[.agg (row .u32 s),.slice (some ⟨b,off,none⟩) 64 cap] w fun e w'=>e=.returned (.agg (row .u32 (f5 s z)))∧Below w.heap.size w w':=by
 have hb:b<w.heap.size:=block_lt_of_cell (hcell 0 (by omega));have hws:(sched (bd z 16) 48).length=64:=by rw [bT,bj]
 obtain ⟨r0,r1,r2,r3,r4,r5,r6,r7,hR⟩:=iA (fP (sched (bd z 16) 48) s 64 hs);have HR:Hid (ct (sched (bd z 16) 48) s 64=[r0,r1,r2,r3,r4,r5,r6,r7]):=hR;have mx:∀wx,KTab wx→Calls Tryz.prog 144 #[.agg (row .u32 s),.agg (row .u32 (sched (bd z 16) 48))] wx fun e w'=>e=.returned (.agg #[.int .u32 r0,.int .u32 r1,.int .u32 r2,.int .u32 r3,.int .u32 r4,.int .u32 r5,.int .u32 r6,.int .u32 r7])∧Below wx.heap.size wx w':=fun wx hx=>by
  have:=ut s (sched (bd z 16) 48) wx hs hin hws hx;rw [hR] at this
  exact this
 clear hR;go_enter Tryz.func105,Tryz.ntmps105;go_wp2;refine ae (p:=fun x=>Code.wp _ _ _ _ x) (fun W0=>Below w.heap.size w W0∧W0.heap.size=w.heap.size+2∧aa W0 w.heap.size .u32 141 s∧aa W0 (w.heap.size+1) .u32 141 (List.replicate 8 0)) ⟨((Below.refl _ _).alloc (Nat.le_refl _) _).alloc (by simp) _,by simp,?_,?_⟩ ?_
 · exact (aa.new w .u32 141 s).alloc _
 · have hn:=aa.new (w.alloc (.cells (row .u32 s) 141)) .u32 141 (List.replicate 8 0)
   rw [World.size_alloc] at hn
   exact hn
 rintro W0 ⟨hB,hsz,h0,h1⟩;obtain ⟨s0,s1,s2,s3,s4,s5,s6,s7,rfl⟩:=iA hs;have c0:W0.cell? ⟨w.heap.size,0,none⟩=some (.int .u32 s0):=h0.cell 0 (by simp);have c1:W0.cell? ⟨w.heap.size,1,none⟩=some (.int .u32 s1):=h0.cell 1 (by simp);have c2:W0.cell? ⟨w.heap.size,2,none⟩=some (.int .u32 s2):=h0.cell 2 (by simp);have c3:W0.cell? ⟨w.heap.size,3,none⟩=some (.int .u32 s3):=h0.cell 3 (by simp);have c4:W0.cell? ⟨w.heap.size,4,none⟩=some (.int .u32 s4):=h0.cell 4 (by simp);have c5:W0.cell? ⟨w.heap.size,5,none⟩=some (.int .u32 s5):=h0.cell 5 (by simp);have c6:W0.cell? ⟨w.heap.size,6,none⟩=some (.int .u32 s6):=h0.cell 6 (by simp);have c7:W0.cell? ⟨w.heap.size,7,none⟩=some (.int .u32 s7):=h0.cell 7 (by simp);have hkeep:∀w',Below W0.heap.size W0 w'→(w'.cell? ⟨w.heap.size,0,none⟩=some (.int .u32 s0)∧w'.cell? ⟨w.heap.size,1,none⟩=some (.int .u32 s1)∧w'.cell? ⟨w.heap.size,2,none⟩=some (.int .u32 s2)∧w'.cell? ⟨w.heap.size,3,none⟩=some (.int .u32 s3)∧
     w'.cell? ⟨w.heap.size,4,none⟩=some (.int .u32 s4)∧w'.cell? ⟨w.heap.size,5,none⟩=some (.int .u32 s5)∧w'.cell? ⟨w.heap.size,6,none⟩=some (.int .u32 s6)∧w'.cell? ⟨w.heap.size,7,none⟩=some (.int .u32 s7)):=fun w' hb'=>by
  have hc:=(qe hb').1;have hl:w.heap.size<W0.heap.size:=by omega
  exact ⟨(hc _ _ hl).trans c0,(hc _ _ hl).trans c1,(hc _ _ hl).trans c2,(hc _ _ hl).trans c3,(hc _ _ hl).trans c4,(hc _ _ hl).trans c5,(hc _ _ hl).trans c6,(hc _ _ hl).trans c7⟩
 clear c0 c1 c2 c3 c4 c5 c6 c7;have hk0:KTab W0:=hk.below hB;have wB:∀wx,Below W0.heap.size W0 wx→Calls Tryz.prog 146 #[.slice (some ⟨b,off,none⟩) 64 cap] wx fun e w'=>e=.returned (.agg (row .u32 (bd z 16)))∧Below W0.heap.size W0 w'∧Below wx.heap.size wx w':=fun wx hx=>
  (t6 b off cap z wx hcap hcap2 (fun j hj=>((hB.trans (hx.mono hB.size)).cell (p:=⟨b,off+j,none⟩) hb).trans (hcell j hj))).mono fun e w' ⟨h1,h2⟩=>⟨h1,hx.trans (h2.mono hx.size),h2⟩
 have sB:∀wx,Below W0.heap.size W0 wx→Calls Tryz.prog 145 #[.agg (row .u32 (bd z 16))] wx fun e w'=>e=.returned (.agg (row .u32 (sched (bd z 16) 48)))∧Below W0.heap.size W0 w'∧Below wx.heap.size wx w':=fun wx hx=>
  (rW (bd z 16) wx (bj _ _)).mono fun e w' ⟨h1,h2⟩=>⟨h1,hx.trans (h2.mono hx.size),h2⟩
 have mB:∀wx,Below W0.heap.size W0 wx→Calls Tryz.prog 144 #[.agg #[.int .u32 s0,.int .u32 s1,.int .u32 s2,.int .u32 s3,.int .u32 s4,.int .u32 s5,.int .u32 s6,.int .u32 s7],.agg (row .u32 (sched (bd z 16) 48))] wx fun e w'=>e=.returned (.agg #[.int .u32 r0,.int .u32 r1,.int .u32 r2,.int .u32 r3,.int .u32 r4,.int .u32 r5,.int .u32 r6,.int .u32 r7])∧Below W0.heap.size W0 w'∧Below wx.heap.size wx w':=fun wx hx=>
  (mx wx (hk0.below hx)).mono fun e w' ⟨h1,h2⟩=>⟨h1,hx.trans (h2.mono hx.size),h2⟩
 have hsl:w.heap.size+2≤W0.heap.size:=by omega
 clear hk mx hcell hsz hws
 go_cut [5] (fun v wx=>∃X,v=.pointer (some ⟨X,0,none⟩)∧W0.heap.size≤X∧Below W0.heap.size W0 wx∧aa wx X .u32 141 [r0,r1,r2,r3,r4,r5,r6,r7])
 case first=>
  go_region_held3 (fun w'=>w'.cell? ⟨w.heap.size,0,none⟩=some (.int .u32 s0)∧w'.cell? ⟨w.heap.size,1,none⟩=some (.int .u32 s1)∧w'.cell? ⟨w.heap.size,2,none⟩=some (.int .u32 s2)∧w'.cell? ⟨w.heap.size,3,none⟩=some (.int .u32 s3)∧
   w'.cell? ⟨w.heap.size,4,none⟩=some (.int .u32 s4)∧w'.cell? ⟨w.heap.size,5,none⟩=some (.int .u32 s5)∧w'.cell? ⟨w.heap.size,6,none⟩=some (.int .u32 s6)∧w'.cell? ⟨w.heap.size,7,none⟩=some (.int .u32 s7))
   ((refine hkeep _ ?_;first|with_reducible exact hbw1|with_reducible exact hbw2|with_reducible exact hbw3|with_reducible exact hbw1.alloc hbw1.size _|with_reducible exact hbw2.alloc hbw2.size _|with_reducible exact hbw3.alloc hbw3.size _|with_reducible exact l5 hbw3 hXg _ _ _ _ _ _ _ _|with_reducible exact (Below.refl _ _).drew|with_reducible exact ((Below.refl _ _).alloc (Nat.le_refl _) _).drew))
   (first
   |(go_at_call 146;with_reducible refine (wB (World.drew (World.alloc _ _)) ?_).mono ?_;exact ((Below.refl _ _).alloc (Nat.le_refl _) _).drew;rintro e w1 ⟨rfl,hbw1,hb1⟩;have HX:=(aa.new W0 .u32 141 (List.replicate 8 0)).drew.below hb1 (by simp);have hXg:W0.heap.size≤W0.heap.size:=Nat.le_refl _)
   |(go_at_call 146;refine (wB _ ?_).mono ?_;with_reducible exact (Below.refl _ _).drew;rintro e w1 ⟨rfl,hbw1,hb1⟩)
   |(go_at_call 145;with_reducible refine (sB (World.alloc _ _) ?_).mono ?_;exact hbw1.alloc hbw1.size _;rintro e w2 ⟨rfl,hbw2,hb2⟩;have HX:=(aa.new w1 .u32 141 (List.replicate 8 0)).below hb2 (by simp);have hXg:W0.heap.size≤w1.heap.size:=hbw1.size)
   |(go_at_call 145;with_reducible refine (sB _ ?_).mono ?_;exact hbw1;rintro e w2 ⟨rfl,hbw2,hb2⟩;try have HX:=HX.below hb2 HX.lt)
   |(go_at_call 144;with_reducible refine (mB (World.alloc _ _) ?_).mono ?_;exact hbw2.alloc hbw2.size _;rintro e w3 ⟨rfl,hbw3,hb3⟩;have HX:=(aa.new w2 .u32 141 (List.replicate 8 0)).below hb3 (by simp);have hXg:W0.heap.size≤w2.heap.size:=hbw2.size;obtain ⟨⟨x0,x1,x2,x3,x4,x5,x6,x7⟩,xf⟩:=wt HX)
   |(go_at_call 144;with_reducible refine (mB _ ?_).mono ?_;exact hbw2;rintro e w3 ⟨rfl,hbw3,hb3⟩;try (have HX:=HX.below hb3 HX.lt;obtain ⟨⟨x0,x1,x2,x3,x4,x5,x6,x7⟩,xf⟩:=wt HX)))
  all_goals go_wp2_with fail
  all_goals go_meet
  all_goals first
   |exact ⟨_,rfl,hbw3.size,hbw3.alloc hbw3.size _,aa.new w3 .u32 141 [r0,r1,r2,r3,r4,r5,r6,r7]⟩
   |exact ⟨_,rfl,hXg,l5 hbw3 hXg _ _ _ _ _ _ _ _,yh HX _ _ _ _ _ _ _ _⟩
 case rest=>
  obtain ⟨X,rfl,hX,hBx,hHx⟩:=hcut;have hs0:aa wc w.heap.size .u32 141 [s0,s1,s2,s3,s4,s5,s6,s7]:=h0.below hBx (by omega);have hs1:aa wc (w.heap.size+1) .u32 141 (List.replicate 8 0):=h1.below hBx (by omega);have hBw:Below w.heap.size w wc:=hB.trans (hBx.mono (by omega));have hXl:w.heap.size+2≤X:=by omega
  clear h0 h1 hBx hB wB sB mB hkeep hk0 hX hsl;go_wp2
  go_loopw [16] (fun i wr=>∃k:Nat,k≤8∧i=.int .i64 k∧Below w.heap.size w wr∧aa wr w.heap.size .u32 141 [s0,s1,s2,s3,s4,s5,s6,s7]∧aa wr (w.heap.size+1) .u32 141 (List.replicate 8 0)
      ∧aa wr X .u32 141 (addK [r0,r1,r2,r3,r4,r5,r6,r7] [s0,s1,s2,s3,s4,s5,s6,s7] k)) (fun i _=>8 - (intOf i).toNat)
  case atStart=>exact ⟨0,by omega,rfl,hBw,hs0,hs1,by rw [mV _ _ rfl];exact hHx⟩
  case round=>
   clear hs0 hs1 hBw hHx;obtain ⟨k,hk8,rfl,hBr,hs0,hs1,hHr⟩:=hrel
   by_cases hlt:k<8
   · have cx:=hHr.cell k (by rw [addK_length];exact hlt)
     rw [o7 _ _ _ _ hlt,if_neg (by omega)] at cx
     have cs:=hs0.cell k hlt;have fx:=hHr.frozen k;have hst:=qh [r0,r1,r2,r3,r4,r5,r6,r7] [s0,s1,s2,s3,s4,s5,s6,s7] k;obtain ⟨RK,hRK⟩:∃v,[r0,r1,r2,r3,r4,r5,r6,r7][k]?.getD 0=v:=⟨_,rfl⟩
     obtain ⟨SK,hSK⟩:∃v,[s0,s1,s2,s3,s4,s5,s6,s7][k]?.getD 0=v:=⟨_,rfl⟩
     rw [hRK] at cx hst
     rw [hSK] at cs hst
     have HST:Hid ((addK [r0,r1,r2,r3,r4,r5,r6,r7] [s0,s1,s2,s3,s4,s5,s6,s7] k).set k ((RK+SK) % 4294967296)=addK [r0,r1,r2,r3,r4,r5,r6,r7] [s0,s1,s2,s3,s4,s5,s6,s7] (k+1)):=hst;clear hRK hSK hst;go_wp2
     go_region
     all_goals go_wp2
     all_goals go_roundw
     case rel=>
      refine ⟨k+1,by omega,by go_num,(aD hBr 1).setCell (by simp;omega) _,(hs0.drew).setOther _ _ (by simp;omega),(hs1.drew).setOther _ _ (by simp;omega),?_⟩;have:=hHr.drew.set k ((RK+SK) % 4294967296);rw [HST.out] at this
      exact this
     case measure=>simp [intOf];omega
   · obtain rfl:k=8:=by omega
     rw [mr] at hHr
     have hl:(lL [r0,r1,r2,r3,r4,r5,r6,r7] [s0,s1,s2,s3,s4,s5,s6,s7]).length=8:=by simp [lL]
     go_wp2_with (first|(refine am rfl 141 _ rfl _ rfl hHr Tryz.underlying141 j9 hl ?_)|(refine aj rfl 141 _ _ rfl _ rfl rfl hs1 (by rw [hl];exact j9) (by simp [hl]) ?_))
     refine bodyPost_ret (ak (Tryz.results105) _ rfl (hs1.setRow _) Tryz.underlying141 j9 hl) rfl ⟨?_,?_⟩
     · unfold f5;rw [HR.out]
     · exact below_setRow hBr (by omega) _
theorem sR {w:World} {g b:Nat} (v0 v1 v2 v3 v4 v5 v6 v7:Value) (h:b≠g):
    ((((((((w.setCell ⟨g,0,none⟩ v0).setCell ⟨g,1,none⟩ v1).setCell ⟨g,2,none⟩ v2).setCell ⟨g,3,none⟩ v3).setCell ⟨g,4,none⟩ v4).setCell ⟨g,5,none⟩ v5).setCell ⟨g,6,none⟩ v6).setCell ⟨g,7,none⟩ v7).heap[b]?=w.heap[b]?:=by
 rw [heap_setCell_other _ _ _ _ h,heap_setCell_other _ _ _ _ h,heap_setCell_other _ _ _ _ h,heap_setCell_other _ _ _ _ h,heap_setCell_other _ _ _ _ h,heap_setCell_other _ _ _ _ h,heap_setCell_other _ _ _ _ h,heap_setCell_other _ _ _ _ h]
theorem oc {w:World} {g:Nat} {t:TypeId} {s0 s1 s2 s3 s4 s5 s6 s7:Int} (h:aa w g .u32 t [s0,s1,s2,s3,s4,s5,s6,s7]) (r0 r1 r2 r3 r4 r5 r6 r7:Int):
    aa ((((((((w.setCell ⟨g,0,none⟩ (.int .u32 r0)).setCell ⟨g,1,none⟩ (.int .u32 r1)).setCell ⟨g,2,none⟩ (.int .u32 r2)).setCell ⟨g,3,none⟩ (.int .u32 r3)).setCell ⟨g,4,none⟩ (.int .u32 r4)).setCell ⟨g,5,none⟩ (.int .u32 r5)).setCell ⟨g,6,none⟩ (.int .u32 r6)).setCell ⟨g,7,none⟩ (.int .u32 r7)) g .u32 t [r0,r1,r2,r3,r4,r5,r6,r7]:=
 (((((((h.set 0 r0).set 1 r1).set 2 r2).set 3 r3).set 4 r4).set 5 r5).set 6 r6).set 7 r7
theorem eJ {w:World} {g b:Nat} {k:IntKind} {t:TypeId} {l:List Int} (h:aa w b k t l) (v0 v1 v2 v3 v4 v5 v6 v7:Value) (hne:b≠g):
    aa ((((((((w.setCell ⟨g,0,none⟩ v0).setCell ⟨g,1,none⟩ v1).setCell ⟨g,2,none⟩ v2).setCell ⟨g,3,none⟩ v3).setCell ⟨g,4,none⟩ v4).setCell ⟨g,5,none⟩ v5).setCell ⟨g,6,none⟩ v6).setCell ⟨g,7,none⟩ v7) b k t l:=by
 unfold aa at h ⊢;rw [sR _ _ _ _ _ _ _ _ hne];exact h
theorem fz {w:World} {g:Nat} {t:TypeId} {s0 s1 s2 s3 s4 s5 s6 s7:Int} (h:aa w g .u32 t [s0,s1,s2,s3,s4,s5,s6,s7]):
    (w.cell? ⟨g,0,none⟩=some (.int .u32 s0)∧w.cell? ⟨g,1,none⟩=some (.int .u32 s1)∧w.cell? ⟨g,2,none⟩=some (.int .u32 s2)∧w.cell? ⟨g,3,none⟩=some (.int .u32 s3)∧
     w.cell? ⟨g,4,none⟩=some (.int .u32 s4)∧w.cell? ⟨g,5,none⟩=some (.int .u32 s5)∧w.cell? ⟨g,6,none⟩=some (.int .u32 s6)∧w.cell? ⟨g,7,none⟩=some (.int .u32 s7))∧∀j,w.frozen? ⟨g,j,none⟩=false:=
 ⟨⟨h.cell 0 (by simp),h.cell 1 (by simp),h.cell 2 (by simp),h.cell 3 (by simp),h.cell 4 (by simp),h.cell 5 (by simp),h.cell 6 (by simp),h.cell 7 (by simp)⟩,h.frozen⟩
end Go.Proofs.YtbdhfbglagdiaaaGreatDoor.S
