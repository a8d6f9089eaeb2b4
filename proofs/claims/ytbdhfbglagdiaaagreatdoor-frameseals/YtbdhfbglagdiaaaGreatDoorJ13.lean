/- Pf Pg Pr -/
import Derived.Test.YtbdhfbglagdiaaaGreatDoorJ12
import Derived.Laws.Cover3
import Derived.RangeFuncFrom
import Derived.RangeFuncCalls
import Derived.RangeFuncLeaves
import Derived.RangeFuncNested
import Derived.RangeFuncBound
import Derived.Shelf.Abstract
import Derived.Shelf.RegionOpen
import Derived.WalkKit
import Derived.OwnWalkIn
import Derived.TacticsInMore
import Derived.LoopNIn
import Derived.LoopIn
namespace Go.Proofs.YtbdhfbglagdiaaaGreatDoor
open Go.RowKit
set_option maxRecDepth 20000
set_option maxHeartbeats 2000000
set_option linter.unusedSimpArgs false
theorem mp (L:List Int):(eC L).length=L.length:=kB _ _ _ _
def ie (L s:List Int):List Int:=fu (carryK (addK (eC L) (gQ (s++ [0])) 5) 4)
theorem jd (L s:List Int):(ie L s).length=16:=ia _
theorem aa.rangeAll {w:World} {g:Nat} {k:IntKind} {t:TypeId} {l:List Int} (h:aa w g k t l):w.rangeAt g 0 (l.map (Value.int k)):=by
 have:=h.rangeM 0 l.length;rw [List.drop_zero,List.take_length] at this
 exact this
theorem lj (g:Nat) (L s:List Int) (w:World) (h:aa w g .u64 196 L) (hl:5≤L.length) (hs:s.length=16):
    Calls Tryz.prog 158 #[.pointer (some ⟨g,0,none⟩),.agg (row .u8 s)] w fun e w'=>e=.returned (.agg (row .u8 (ie L s)))∧w.grownBy w' (some g):=by
 have hgl:=h.lt;have hTl:=jd L s;have hT:ac (ie L s=fu (carryK (addK (eC L) (gQ (s++ [0])) 5) 4)):=⟨rfl⟩
 have hse:=fun (wx:World) (hx:aa wx g .u64 196 L)=>se g 196 L wx hx hl
 have hsl:=mp L;obtain ⟨S,hS0⟩:∃q,eC L=q:=⟨_,rfl⟩
 rw [hS0] at hse hsl hT
 have hba:∀wx,Calls Tryz.prog 154 #[.agg (List.map (Value.int .u8) s).toArray] wx fun e w'=>e=.returned (.agg (row .u8 (s++ [0])))∧Below wx.heap.size wx w':=fun wx=>o5 s wx hs
 have hnu:=fun wx=>gJ (s++ [0]) wx (by simp [hs])
 have hnl:=fl (s++ [0]);obtain ⟨m,hm⟩:∃q,gQ (s++ [0])=q:=⟨_,rfl⟩
 rw [hm] at hnu hnl hT
 have had:=fun (wx:World) (hx:aa wx g .u64 196 S)=>sj g 196 S m wx hx (by omega) hnl
 have hal:=addK_length S m 5;obtain ⟨A,hA⟩:∃q,addK S m 5=q:=⟨_,rfl⟩
 rw [hA] at had hal hT
 have hca:=fun (wx:World) (hx:aa wx g .u64 196 A)=>ko g 196 A wx hx (by omega)
 have hcl:=carryK_length A 4;obtain ⟨C,hC⟩:∃q,carryK A 4=q:=⟨_,rfl⟩
 rw [hC] at hca hcl hT
 have hlo:=fun (wx:World) (hx:aa wx g .u64 196 C)=>sa g 196 C wx hx (by omega)
 rw [←hT.out] at hlo
 obtain ⟨TG,hTG⟩:∃q,ie L s=q:=⟨_,rfl⟩
 rw [hTG] at hlo hTl ⊢
 clear hT hS0 hm hA hC hTG;go_enter Tryz.func158,Tryz.ntmps158;go_upto_region 1 with fail
 refine af (p:=fun y=>Code.wp _ _ _ _ y) (fun W0=>w.grownBy W0 (some g)∧aa W0 g .u64 196 L∧aa W0 w.heap.size .u8 119 s∧aa W0 (w.heap.size+1) .u8 120 (List.replicate 16 0)) ⟨(World.grownBy_alloc _ _ _).trans (World.grownBy_alloc _ _ _),(h.alloc _).alloc _,(aa.new w .u8 _ s).alloc _,?_⟩ ?_
 · have:=aa.new (w.alloc (.cells (row .u8 s) 119)) .u8 120 (List.replicate 16 0)
   rw [World.size_alloc] at this
   exact this
 rintro W0 ⟨hG0,hL0,hs0,hR0⟩;have keep:∀{a b:World} {g':Nat} {k:IntKind} {t:TypeId} {l:List Int},a.grownBy b (some g)→aa a g' k t l→g'≠g→aa b g' k t l:=fun {a b g' k t l} hg hh hne=>by
  have hlt:=hh.lt;unfold aa at hh ⊢
  rw [hg.block g' hlt (by simp [hne])];exact hh
 go_upto_region 2 with (go_at_call 175;refine (hse _ hL0).mono ?_;rintro e w1 ⟨⟨r,rfl⟩,h1,g1⟩)
 have hs1:=keep g1 hs0 (by omega);have hR1:=keep g1 hR0 (by omega);have hG1:=hG0.trans g1;clear g1 hs0 hR0 hG0 hL0 hse;have uB:=Tryz.underlying119;have iB:(Tryz.prog.info? 119).map (·.size)=some (s.map (Value.int .u8)).length:=by rw [List.length_map,hs];exact ej
 refine ag (fun w'=>w'.rangeAt w.heap.size 0 (s.map (Value.int .u8))) 4 (by kernel_rfl) ?_;have hS:=hs1.drew.rangeAll;refine gaA 0 _ hS ?_;simp only [zp];refine gaA 1 _ hS ?_;simp only [zp];refine gaA 2 _ hS ?_;simp only [zp];refine zg 3 12 119 3 w.heap.size 0 (s.map (Value.int .u8)) hS (fun _ h=>h) uB iB ?_;simp only [zp];refine zw 4 fun K hK=>?_
 go_wp2_with (go_at_call 154;refine (hba _).mono ?_;rintro e w2 ⟨rfl,hb2⟩)
 refine hK.out _ _ zn ?_;clear hK K;refine zw 5 fun K hK=>?_
 go_wp2_with (go_at_call 153;refine (hnu _).mono ?_;rintro e w3 ⟨rfl,hb3⟩)
 have hb23:Below w1.drew.heap.size w1.drew w3:=hb2.trans (hb3.mono hb2.size);have h3:=(h1.drew).below hb23 h1.drew.lt;have hR3:=(hR1.drew).below hb23 hR1.drew.lt;have hG3:w.grownBy w3 (some g):=(grown_drew hG1).trans ⟨hb23.os,hb23.tape,hb23.output,hb23.size,fun k hk _=>hb23.block k hk⟩;refine hK.out _ _ zn ?_;clear hK K;refine zw 6 fun K hK=>?_
 go_wp2_with (go_at_call 173;refine (had _ h3).mono ?_;rintro e w4 ⟨⟨r,rfl⟩,h4,g4⟩)
 refine hK.out _ _ zn ?_;clear hK K;refine al (by kernel_rfl) ?_ _;have hR4:=keep g4 hR3 (by omega);have hG4:=hG3.trans g4;clear hS hb2 hb3 hb23 h3 hR3 hG3 h1 hR1 hG1 hs1 had hnu hba g4
 go_wp2_with (first
  |(go_at_call 176;refine (hca _ h4).mono ?_;rintro e w5 ⟨⟨r,rfl⟩,h5,g5⟩;have hR5:=keep g5 hR4 (by omega))
  |(go_at_call 177;refine (hlo _ h5).mono ?_;rintro e w6 ⟨rfl,hb6⟩;have hR6:=hR5.below hb6 hR5.lt)
  |(refine ah rfl 120 _ _ rfl _ rfl rfl hR6 (by rw [hTl];exact eD) (by simp [hTl]) ?_))
 refine bodyPost_ret (aj (Tryz.results158) _ rfl (hR6.setRow _) Tryz.underlying120 eD hTl) rfl ⟨rfl,?_⟩;have hG6:w.grownBy w6 (some g):=(hG4.trans g5).trans ⟨hb6.os,hb6.tape,hb6.output,hb6.size,fun k hk _=>hb6.block k hk⟩;exact ⟨hG6.os,hG6.tape,hG6.output,by simpa using hG6.size,fun k hk hne=>by rw [setRow_other _ _ _ _ (by omega)];exact hG6.block k hk hne⟩
def fourK (a:Nat) (c:Int) (z:List Int):Nat→List Int
 |0=>z
 |i+1=>(fourK a c z i).set (a+4*i) (bits .and .u8 ((fourK a c z i)[a+4*i]?.getD 0) c)
theorem dR (a:Nat) (c:Int) (z:List Int) (i:Nat):(fourK a c z i).length=z.length:=by
 induction i with
 |zero=>rfl
 |succ i ih=>simp [fourK,ih]
def bM (k:List Int):List Int:=fourK 4 252 (fourK 3 15 (k.take 16) 4) 3
theorem dx (k:List Int) (hk:k.length=32):(bM k).length=16:=by
 unfold bM;rw [dR,dR,List.length_take];omega
theorem tI (k:List Int) (w:World) (hk:k.length=32):
    Calls Tryz.prog 155 #[.agg (row .u8 k)] w fun e w'=>e=.returned (.agg (row .u8 (bM k)))∧Below w.heap.size w w':=by
 have hcl:=dx k hk;have HC:ac (bM k=fourK 4 252 (fourK 3 15 (k.take 16) 4) 3):=⟨rfl⟩
 have hzl:(k.take 16).length=16:=by rw [List.length_take];omega
 have hrg:∀(wx:World),aa wx w.heap.size .u8 23 k→wx.rangeAt w.heap.size 0 ((k.take 16).map (Value.int .u8)):=fun wx hx=>by
  have:=hx.rangeM 0 16;rw [List.drop_zero] at this
  exact this
 obtain ⟨Z,hZ⟩:∃q,k.take 16=q:=⟨_,rfl⟩
 rw [hZ] at HC hzl hrg
 have iF:(Tryz.prog.info? 119).map (·.size)=some (Z.map (Value.int .u8)).length:=by rw [List.length_map,hzl];exact ej
 have hat:∀(b off cap:Nat) (wx:World),(Instr.arrayAt 119 (.slice (some ⟨b,off,none⟩) 16 cap)).run Tryz.prog wx=.ok (.pointer (some ⟨b,off,none⟩)) wx:=fun b off cap wx=>run_arrayAt wx 119 _ 16 _ 16 cap Tryz.underlying119 (by omega)
 clear hZ;go_enter Tryz.func155,Tryz.ntmps155;go_upto_region 1 with fail
 refine af (p:=fun y=>Code.wp _ _ _ _ y) (fun W0=>Below w.heap.size w W0∧W0.heap.size=w.heap.size+1+1∧W0.rangeAt w.heap.size 0 (Z.map (Value.int .u8))∧aa W0 (w.heap.size+1) .u8 119 (List.replicate 16 0)) ⟨((Below.refl _ _).alloc (Nat.le_refl _) _).alloc (by simp) _,by simp,hrg _ ((aa.new w .u8 23 k).alloc _),?_⟩ ?_
 · have:=aa.new (w.alloc (.cells (row .u8 k) 23)) .u8 119 (List.replicate 16 0)
   rw [World.size_alloc] at this
   exact this
 clear hrg;rintro W0 ⟨hB0,hs0,hz0,hR0⟩;have hN:=aa.new W0 .u8 119 (List.replicate 16 0);rw [hs0] at hN
 go_upto_region 2 with (first
  |(refine wpList_load_mid rfl 119 _ rfl w.heap.size 0 rfl (Z.map (Value.int .u8)) _ hz0 Tryz.underlying119 rfl iF ?_)
  |(refine ah rfl 119 _ _ rfl _ rfl (k:=.u8) (l:=Z) rfl hN (by rw [hzl];exact ej) (by simp [hzl]) ?_))
 refine af (p:=fun y=>Code.wp _ _ _ _ y) (fun W1=>Below w.heap.size w W1∧aa W1 (w.heap.size+1) .u8 119 (List.replicate 16 0)∧aa W1 (w.heap.size+1+1) .u8 119 Z) ⟨below_setRow (g:=w.heap.size+1+1) (hB0.alloc hB0.size _) (by omega) _,(hR0.alloc _).setRowOther _ (by omega),hN.setRow _⟩ ?_;clear hN hB0 hR0 hz0;rintro W1 ⟨hB1,hR1,hA1⟩;simp only [Act.put];clear hs0
 go_wp2_with fail
 go_loopw [4] (fun q wr=>∃i:Nat,i≤4∧q=.int .i64 ((3+4*i:Nat):Int)∧Below w.heap.size w wr∧aa wr (w.heap.size+1) .u8 119 (List.replicate 16 0)∧aa wr (w.heap.size+1+1) .u8 119 (fourK 3 15 Z i)) (fun q _=>20 - (intOf q).toNat)
 case atStart=>exact ⟨0,by omega,rfl,hB1,hR1,hA1⟩
 case round=>
  clear hB1 hR1 hA1;obtain ⟨i,hi,rfl,hB,hR,hA⟩:=hrel
  by_cases hlt:i<4
  · have HS:ac (fourK 3 15 Z (i+1)=(fourK 3 15 Z i).set (3+4*i) (bits .and .u8 ((fourK 3 15 Z i)[3+4*i]?.getD 0) 15)):=⟨rfl⟩
    have hAl:=dR 3 15 Z i;obtain ⟨A,hAe⟩:∃q,fourK 3 15 Z i=q:=⟨_,rfl⟩
    rw [hAe] at hA HS hAl
    obtain ⟨j,hj⟩:∃j,3+4*i=j:=⟨_,rfl⟩
    rw [hj] at HS ⊢
    have c1:=hA.cell j (by omega);have f1:=hA.frozen j;have hj6:(j:Int)<16:=by omega
    have hj0:(0:Int)≤(j:Int):=by omega
    obtain ⟨x,hx⟩:∃q,A[j]?.getD 0=q:=⟨_,rfl⟩
    rw [hx] at c1 HS
    have HJ:ac (3+4*i=j):=⟨hj⟩
    clear hAe hx hj;go_wp2;go_roundw
    case rel=>exact ⟨i+1,by omega,by have:=HJ.out;rw [show ((3+4*(i+1):Nat):Int)=(j:Int)+4 by omega],hB.setCell (by simp;omega) _,hR.setOther _ _ (by simp),by rw [HS.out];exact hA.set j _⟩
    case measure=>simp [intOf];omega
  · obtain rfl:i=4:=by omega
    have hF3:=dR 3 15 Z 4;obtain ⟨Y,hY⟩:∃q,fourK 3 15 Z 4=q:=⟨_,rfl⟩
    rw [hY] at hA HC hF3
    clear hY;rw [show ((3+4*4:Nat):Int)=19 from rfl]
    go_wp2_with fail
    go_loopw [5] (fun q wr=>∃i:Nat,i≤3∧q=.int .i64 ((4+4*i:Nat):Int)∧Below w.heap.size w wr∧aa wr (w.heap.size+1) .u8 119 (List.replicate 16 0)∧aa wr (w.heap.size+1+1) .u8 119 (fourK 4 252 Y i)) (fun q _=>20 - (intOf q).toNat)
    case atStart=>exact ⟨0,by omega,rfl,hB,hR,hA⟩
    case round=>
     clear hB hR hA;obtain ⟨i,hi,rfl,hB,hR,hA⟩:=hrel
     by_cases hlt:i<3
     · have HS:ac (fourK 4 252 Y (i+1)=(fourK 4 252 Y i).set (4+4*i) (bits .and .u8 ((fourK 4 252 Y i)[4+4*i]?.getD 0) 252)):=⟨rfl⟩
       have hAl:=dR 4 252 Y i;obtain ⟨A,hAe⟩:∃q,fourK 4 252 Y i=q:=⟨_,rfl⟩
       rw [hAe] at hA HS hAl
       obtain ⟨j,hj⟩:∃j,4+4*i=j:=⟨_,rfl⟩
       rw [hj] at HS ⊢
       have c1:=hA.cell j (by omega);have f1:=hA.frozen j;have hj6:(j:Int)<16:=by omega
       have hj0:(0:Int)≤(j:Int):=by omega
       obtain ⟨x,hx⟩:∃q,A[j]?.getD 0=q:=⟨_,rfl⟩
       rw [hx] at c1 HS
       have HJ:ac (4+4*i=j):=⟨hj⟩
       clear hAe hx hj;go_wp2;go_roundw
       case rel=>exact ⟨i+1,by omega,by have:=HJ.out;rw [show ((4+4*(i+1):Nat):Int)=(j:Int)+4 by omega],hB.setCell (by simp;omega) _,hR.setOther _ _ (by simp),by rw [HS.out];exact hA.set j _⟩
       case measure=>simp [intOf];omega
     · obtain rfl:i=3:=by omega
       rw [←HC.out] at hA
       rw [show ((4+4*3:Nat):Int)=16 from rfl]
       go_wp2_with (first
        |(refine am rfl 119 _ rfl _ rfl hA Tryz.underlying119 ej hcl ?_)
        |(refine ah rfl 119 _ _ rfl _ rfl rfl hR (by rw [hcl];exact ej) (by simp [hcl]) ?_))
       refine bodyPost_ret (aj (Tryz.results155) _ rfl (hR.setRow _) Tryz.underlying119 ej hcl) rfl ⟨rfl,?_⟩;exact below_setRow hB (by omega) _
open Go.RowKit Go.Shelf
attribute [local go_sem] Oper.semAt_some
def cV (z:List Int) (k:Nat):List Int:=
 (((z.drop (16*k)).take 16)++List.replicate (17 - ((z.drop (16*k)).take 16).length) 0).set ((z.drop (16*k)).take 16).length 1
theorem fv (z:List Int) (k:Nat):(cV z k).length=17:=by
 unfold cV;rw [List.length_set,List.length_append,List.length_replicate,List.length_take];omega
theorem pK (x:Option Addr) (len cap:Nat) (w:World):
    Calls Tryz.prog 156 #[.slice x len cap] w fun e w'=>e=.returned (.func (.func 172) #[] #[.pointer (some ⟨w.heap.size,0,none⟩)])∧w'=w.alloc (.cells #[.slice x len cap] 41):=by
 go_enter Tryz.func156,Tryz.ntmps156;go_wp2;go_ret;exact ⟨rfl,rfl⟩
theorem tS (N k:Nat) (h:k<N):(List.finRange N).take (k+1)=(List.finRange N).take k++ [⟨k,h⟩]:=by
 rw [List.take_succ_eq_append_getElem (by simpa using h)];simp
theorem ou {t:TypeId} (w:World) (g b off len cap:Nat) (z:List Int) (hb:Bytes w (some ⟨b,off,none⟩) len cap z) (hg:aa w g .u8 t (List.replicate 17 0)):
    (Builtin.copy_ #[41,41] 3 #[.slice (some ⟨g,0,none⟩) 16 17,.slice (some ⟨b,off,none⟩) len cap]).run Tryz.prog w=.ok (.int .i64 ((z.take 16).length:Nat)) (w.setRow g (row .u8 (z.take 16++List.replicate (17 - (z.take 16).length) 0))):=by
 have hz:z.length=len:=hb.len_eq.symm;have hlen:(row .u8 (z.take 16)).toList.length=(z.take 16).length:=by simp [row]
 have hsrc:∀j v,(row .u8 (z.take 16)).toList[j]?=some v→w.cell? ((⟨b,off,none⟩:Addr).add j)=some v:=fun j v hv=>by
  have hj:j<(z.take 16).length:=by have:=(List.getElem?_eq_some_iff.1 hv).1;simpa [row] using this
  have hj2:j<len:=by rw [List.length_take] at hj;omega
  rcases hb.at_ with h0|⟨b',off',hx,hc⟩
  · omega
  · cases hx
    rw [Addr.add_mid',hc j hj2];have:(row .u8 (z.take 16)).toList[j]?=some (.int .u8 ((z.take 16)[j]?.getD 0)):=by
     have h:=eY .u8 (z.take 16) j hj
     simpa using h
    rw [List.getElem?_take_of_lt (by rw [List.length_take] at hj;omega)] at this
    rw [←this];exact hv
 have:=run_copy_row (P:=Tryz.prog) w 41 41 3 5 g 0 16 17 ⟨b,off,none⟩ len cap _ t (row .u8 (z.take 16)).toList Tryz.underlying41 iQ hg
  (by rw [hlen,List.length_take,hz];exact Nat.min_comm _ _) hsrc (by rw [hlen,bc,List.length_replicate,List.length_take];omega) (fun v hv=>(Array.all_eq_true_iff_forall_mem.1 (gE .u8 _)) v (by simpa using hv))
 rw [this,hlen];have e:(List.take 0 (row .u8 (List.replicate 17 0)).toList++(row .u8 (z.take 16)).toList++List.drop (0+(z.take 16).length) (row .u8 (List.replicate 17 0)).toList).toArray=row .u8 (z.take 16++List.replicate (17 - (z.take 16).length) 0):=by
  have e0:(row .u8 (List.replicate 17 0)).toList=List.replicate 17 (Value.int .u8 0):=by unfold row;rw [List.map_replicate]
  rw [e0,List.take_zero,List.nil_append,List.drop_replicate,Nat.zero_add];simp only [row,List.map_append,List.map_replicate]
 rw [e];rfl
section
variable {P:Program} {F:Fence} {n:Nat}
theorem g8 {ops:Array Oper} {rest:List Oper} {o:Oper} {a:Act} {w:World} {Q:Exit→Act→World→Prop} (hgd:o.guard=none) (ty:TypeId) (x:Operand) (ho:o.op=.load ty x)
    (g:Nat) (hx:a.eval x=.pointer (some ⟨g,0,none⟩)) {k:IntKind} {t:TypeId} {l:List Int} (hg:aa w g k t l) {n':Nat} {e:TypeId}
    (hu:P.underlying ty=some (.array n' e)) (hi:(P.info? ty).map (·.size)=some n') (hl:l.length=n')
    (h:wpListIn F n P ops Q rest (a.put o.dst (.agg (row k l))) w):wpListIn F n P ops Q (o::rest) a w:=by
 refine wpListIn_plain hgd fun K hK'=>?_
 unfold Oper.wpIn;refine ⟨?_,?_⟩
 · simp [Oper.about,ho]
 · rw [Oper.semAt_plain F _ _ (by rw [ho];intro c hc';cases hc')]
   have hrun:=run_loadVar_mid (P:=P) w g 0 ty (l.map (Value.int k)) _ hg.rangeAll hu rfl (by rw [hi,List.length_map,hl]);simp only [execOp,ho,hx,Instr.loadAt,Instr.sureAddr,Sem.run_bind,Sem.run_pure,Result.andThen_ok,hrun];exact hK' _ _ h
theorem gv {ops:Array Oper} {rest:List Oper} {o:Oper} {a:Act} {w:World} {Q:Exit→Act→World→Prop} (hgd:o.guard=none) (ty:TypeId) (x y:Operand) (ho:o.op=.store ty x y)
    (g:Nat) (hx:a.eval x=.pointer (some ⟨g,0,none⟩)) {k:IntKind} {t:TypeId} {old l:List Int} (hy:a.eval y=.agg (row k l)) (hg:aa w g k t old)
    (hi:(P.info? ty).map (·.size)=some l.length) (hl:old.length=l.length)
    (h:wpListIn F n P ops Q rest (a.put o.dst undef) (w.setRow g (row k l))):wpListIn F n P ops Q (o::rest) a w:=by
 refine wpListIn_plain hgd fun K hK'=>?_
 unfold Oper.wpIn;refine ⟨?_,?_⟩
 · simp [Oper.about,ho]
 · rw [Oper.semAt_plain F _ _ (by rw [ho];intro c hc';cases hc')]
   simp only [execOp,ho,hx,hy,Instr.storeAt,Instr.sureAddr,Sem.run_bind,Sem.run_pure,Result.andThen_ok,bC w g ty t k old l hg hl hi];exact hK' _ _ h
end
def KpP (T Bn:Nat) (A B:World):Prop:=B.heap[Bn]?=A.heap[Bn]? ∧(∀k,k<T→B.heap[k]?=A.heap[k]?)∧A.heap.size≤B.heap.size
theorem xz (n:Nat) (_hn:1≤n) (l Bn T:Nat) (x:Option Addr) (len cap:Nat) (z:List Int) (N:Nat) (hN:N=(len+15) / 16) (hln:len≤1000000) (J Jx:List (Fin N)→World→Prop) (W:World)
    (hJa:∀s A B,J s A→A.grownBy B none→J s B)
    (hY:∀pre (i:Fin N) W,J pre W→pre.length<N→YieldAt Fence.wide (n - 1) Tryz.prog l #[.agg (row .u8 (cV z i.1))] W fun e W'=>
     (e=.returned (.bool true)∧J (pre++ [i]) W'∧KpP T Bn W W')∨(e=.returned (.bool false)∧Jx (pre++ [i]) W'))
    (hBn:W.cell? ⟨Bn,0,none⟩=some (.slice x len cap)) (hb:Bytes W x len cap z) (hT:∀b off,x=some ⟨b,off,none⟩→0<len→b<T) (hTW:T≤W.heap.size) (h0:J [] W):
    CallsIn Fence.wide n Tryz.prog 172 #[.func (.yield l) #[] #[],.pointer (some ⟨Bn,0,none⟩)] W fun e W'=>(∃v,e=.returned v)∧
     ((∃ys,ys=List.finRange N∧J ys W')∨(∃pre,pre<+:List.finRange N∧Jx pre W')):=by
 have hle:=hb.le;have htop:=hb.top;have HZ:ac (z.length=len):=⟨hb.len_eq.symm⟩
 have HN:ac (N=(len+15) / 16):=⟨hN⟩
 clear hN;refine callsIn_of_wp Tryz.func172 rfl trivial ?_ rfl;simp only [Tryz.ntmps172,List.size_toArray,List.length_cons,List.length_nil,Nat.reduceAdd,Nat.reduceSub,Array.replicate_succ,Array.replicate_zero,List.push_toArray,List.append_toArray,List.nil_append,List.cons_append]
 gi_wp2
 gi_loopw [3] (fun p wr=>∃k:Nat,k≤N∧p=.int .i64 ((16*k:Nat):Int)∧wr.cell? ⟨Bn,0,none⟩=some (.slice x len cap)∧(∀q,q<T→wr.heap[q]?=W.heap[q]?)∧T≤wr.heap.size∧J ((List.finRange N).take k) wr)
  (fun p _=>16*N - (intOf p).toNat)
 case atStart=>
  exact ⟨0,Nat.zero_le _,rfl,hBn,fun _ _=>rfl,hTW,by simpa using h0⟩
 case round=>
  obtain ⟨k,hk,rfl,hc,hq,hTle,hJs⟩:=hrel
  by_cases hlt:k<N
  · have hkl:16*k<len:=by have:=HN.out;omega
    obtain ⟨b,off,hx,hcs⟩:∃b off,x=some ⟨b,off,none⟩∧∀j,j<len→W.cell? ⟨b,off+j,none⟩=some (.int .u8 (z[j]?.getD 0)):=by
     rcases hb.at_ with h|h
     · omega
     · exact h
    have hbT:=hT b off hx (by omega);subst hx;have hZl:=HZ.out;have hBy:Bytes wr (some ⟨b,off+16*k,none⟩) (len - 16*k) (cap - 16*k) (z.drop (16*k)):=by
     refine ⟨by rw [List.length_drop];omega,by omega,by omega,(fun h=>by cases h),.inr ⟨b,off+16*k,rfl,fun j hj=>?_⟩⟩;rw [oI,←hcs (16*k+j) (by omega),Nat.add_assoc];simp only [World.cell?,hq b hbT]
    have hNw:=aa.new wr .u8 193 (List.replicate 17 0);have hcp:∀W1,aa W1 wr.heap.size .u8 193 (List.replicate 17 0)→Below wr.heap.size wr W1→(Builtin.copy_ #[41,41] 3 #[.slice (some ⟨wr.heap.size,0,none⟩) 16 17,.slice (some ⟨b,off+16*k,none⟩) (len - 16*k) (cap - 16*k)]).run Tryz.prog W1=.ok (.int .i64 (((z.drop (16*k)).take 16).length:Nat)) (W1.setRow wr.heap.size (row .u8 ((z.drop (16*k)).take 16++List.replicate (17 - ((z.drop (16*k)).take 16).length) 0))):=fun W1 h1 h2=>
     ou W1 wr.heap.size b (off+16*k) (len - 16*k) (cap - 16*k) (z.drop (16*k)) (hBy.below h2) h1
    have hBlt:Bn<wr.heap.size:=block_lt_of_cell hc;obtain ⟨nn,hnn⟩:∃q,((z.drop (16*k)).take 16).length=q:=⟨_,rfl⟩
    have hnn6:nn≤16:=by rw [←hnn,List.length_take];omega
    have HB:ac (cV z k=(((z.drop (16*k)).take 16)++List.replicate (17 - nn) 0).set nn 1):=⟨by unfold cV;rw [hnn]⟩
    rw [hnn] at hcp
    obtain ⟨c,hcE⟩:∃q,(z.drop (16*k)).take 16=q:=⟨_,rfl⟩
    rw [hcE] at hcp HB hnn
    have hcl:(c++List.replicate (17 - nn) 0).length=17:=by rw [List.length_append,List.length_replicate,hnn];omega
    clear hcE hBy hcs hb hT hnn hZl;have hk16:(0:Int)≤16*(k:Int):=by omega
    have hkl2:16*(k:Int)<(len:Int):=by omega
    have hkc:16*(k:Int)≤(cap:Int):=by omega
    have hkne:¬cap=16*k:=by omega
    have htn:(16*(k:Int)).toNat=16*k:=by omega
    gi_wp2
    refine af (p:=fun y=>Code.wpIn _ _ _ _ _ _ y) (fun W1=>wr.grownBy W1 none∧aa W1 wr.heap.size .u8 193 (List.replicate 17 0)∧Below wr.heap.size wr W1) ⟨World.grownBy_alloc _ _ _,hNw,(Below.refl _ _).alloc (Nat.le_refl _) _⟩ ?_;clear hNw;rintro W1 ⟨hG1,hN1,hB1⟩;have hc1:W1.cell? ⟨Bn,0,none⟩=some (.slice (some ⟨b,off,none⟩) len cap):=(hB1.cell (p:=⟨Bn,0,none⟩) hBlt).trans hc;have hcp1:=hcp W1.drew hN1.drew hB1.drew;clear hcp
    gi_region
    have hN2:=hN1.drew.setRow (c++List.replicate (17 - nn) 0);have c2:=hN2.cell nn (by omega);have f2:=hN2.frozen nn;have hN3:=hN2.set nn 1;rw [←HB.out] at hN3
    have hbl:=fv z k;have hG3:wr.grownBy ((W1.drew.setRow wr.heap.size (row .u8 (c++List.replicate (17 - nn) 0))).setCell ⟨wr.heap.size,nn,none⟩ (.int .u8 1)) none:=
     ⟨hG1.os,hG1.tape,hG1.output,by simpa [World.setCell] using hG1.size,fun q hq1 hne=>by
      rw [heap_setCell_other _ _ q _ (by show q≠wr.heap.size;omega),setRow_other _ _ _ _ (by omega),heap_drew];exact hG1.block q hq1 hne⟩
    have hJ3:=hJa _ _ _ hJs hG3;obtain ⟨fn,tmps,assign,body,hy,hR⟩:=hY _ ⟨k,hlt⟩ _ hJ3 (by simp;omega);dsimp only at hy hR
    rw [←tS N k hlt] at hR
    clear hY HB
    gi_wp2_with (refine g8 rfl 193 _ rfl _ rfl hN3 Tryz.underlying193 jn hbl ?_)
    refine hR.mono ?_;rintro e W3 (⟨rfl,hJ4,hk3⟩|⟨rfl,hJx3⟩)
    · have hh:((W1.drew.setRow wr.heap.size (row .u8 (c++List.replicate (17 - nn) 0))).setCell ⟨wr.heap.size,nn,none⟩ (.int .u8 1)).heap[Bn]?=wr.heap[Bn]?:=hG3.block Bn hBlt (by simp)
      have hc3:W3.cell? ⟨Bn,0,none⟩=some (.slice (some ⟨b,off,none⟩) len cap):=(World.cell?_of_block (a:=⟨Bn,0,none⟩) (hk3.1.trans hh)).trans hc;have hq3:∀q,q<T→W3.heap[q]?=W.heap[q]?:=fun q hqT=>by
       rw [hk3.2.1 q hqT,←hq q hqT]
       by_cases hqw:q<wr.heap.size
       · exact hG3.block q hqw (by simp)
       · exact absurd hqw (by have:=hTle;omega)
      gi_wp2
      go_roundw
      case rel=>exact ⟨k+1,by omega,by go_num,hc3,hq3,Nat.le_trans hTle (Nat.le_trans hG3.size hk3.2.2),hJ4⟩
      case measure=>simp [intOf];omega
    · gi_wp2
      refine bodyPost_ret (results_none rfl _ _ _) rfl ?_;exact ⟨⟨_,rfl⟩,.inr ⟨_,List.take_prefix _ _,hJx3⟩⟩
  · obtain rfl:k=N:=by omega
    have hkl:¬(16*(k:Int)<(len:Int)):=by have:=HN.out;omega
    gi_wp2
    go_end0
    exact ⟨⟨_,rfl⟩,.inl (by rwa [List.take_of_length_le (by simp)] at hJs)⟩
theorem qw (n:Nat) (hn:1≤n) (Bn T:Nat) (x:Option Addr) (len cap:Nat) (z:List Int) (N:Nat) (hN:N=(len+15) / 16) (hln:len≤1000000) (w:World) (hBn:Bn<w.heap.size)
    (hc:w.cell? ⟨Bn,0,none⟩=some (.slice x len cap)) (hb:Bytes w x len cap z) (hT:∀b off,x=some ⟨b,off,none⟩→0<len→b<T) (hTW:T≤w.heap.size):
    SeqStopsK Fence.wide n Tryz.prog 172 #[.pointer (some ⟨Bn,0,none⟩)] (fun i:Fin N=> #[.agg (row .u8 (cV z i.1))]) (KpP T Bn) (fun ys=>ys=List.finRange N) (fun pre=>pre<+:List.finRange N) N w:=fun l J Jx W hW hJ _ hY h0=>
 xz n hn l Bn T x len cap z N hN hln J Jx W (fun s A B h hg=>hJ s A B none h hg (fun r e=>by cases e)) hY ((hW.cell (p:=⟨Bn,0,none⟩) hBn).trans hc) (hb.below hW) hT (Nat.le_trans hTW hW.size) h0
open Go Go.RowKit
theorem la {α:Type} {n:Nat} {P:Program} {g:Operand} {ps:Array Tmp} {assign body:Code} {Q:Exit→Act→World→Prop} {a:Act} {w:World}
    (h1:1≤n) {gf:Nat} {lb:Array Value} (hg:a.eval g=.func (.func gf) #[] lb) (eg:∀args w,(callFunc gf args).run P w=.ok (.enter gf args) w)
    {encs:α→Array Value} {Kp:World→World→Prop} {S Sp:List α→Prop} {N:Nat} (hseq:SeqStopsK Fence.wide (n - 1) P gf lb encs Kp S Sp N w) (hps:∀x,(encs x).size=ps.size)
    (I:List α→World→Prop) (hI:OwnFrom w.heap.size I) (h0:I [] w)
    (hround:∀(l:Nat) (r:Loop) (pre:List α) (x:α) (W:World),w.heap.size≤l→I pre W→pre.length<N→W.heap[l]?=some (.loop r)→
     assign.wpIn (Fence.wide.inRound l) (n - 1 - 1) P (Exit.then (fun a' W'=>KeepsOthers W W'∧
      body.wpIn (Fence.wide.inRound l) (n - 1 - 1) P (fun e _ W3=>e=.normal∧KeepsOthers (W'.putObj l (.loop {r with state:=.busy})) W3∧(∀o,Kp W (W3.putObj l o))∧I (pre++ [x]) W3) a' (W'.putObj l (.loop {r with state:=.busy}))) (fun _ _ _=>False))
      {tmps:=(ps.zip (encs x)).foldl (fun t (p,v)=>t.setIfInBounds p v) a.tmps,defers:=[]} W)
    (hdone:∀(D:Nat) (xs:List α) (W:World),w.heap.size≤D→S xs→I xs W→W.heap[D]?=some (.deferred (some []))→Q .normal {a with defers:={target:=.collected D,args:= #[]}::a.defers} W):
    (Code.rangeFunc g ps assign body).wpIn Fence.wide n P Q a w:=by
 refine wpIn_rangeFunc fun fn hfn=>?_
 let rdy:Loop:={state:=.ready,pending:=none,fn,tmps:=a.tmps,params:=ps,assign,body,defers:=w.heap.size}
 have hA:((w.alloc (.deferred (some []))).alloc (.loop rdy)).heap[w.heap.size+1]?=some (.loop rdy):=by
  have:=World.alloc_heap_new (w.alloc (.deferred (some []))) (.loop rdy)
  rwa [World.size_alloc] at this
 have hB:((w.alloc (.deferred (some []))).alloc (.loop rdy)).heap[w.heap.size]?=some (.deferred (some [])):=(Below.heap_alloc _ _ _ (by simp)).trans (World.alloc_heap_new w _);have hw:Below w.heap.size w ((w.alloc (.deferred (some []))).alloc (.loop rdy)):=((Below.refl _ w).alloc (Nat.le_refl _) _).alloc (by simp) _;have hsz:((w.alloc (.deferred (some []))).alloc (.loop rdy)).heap.size=w.heap.size+1+1:=by simp
 refine ⟨w.heap.size+1,[{target:=.collected w.heap.size,args:= #[]}],(w.alloc (.deferred (some []))).alloc (.loop rdy),{target:=.fn (.func gf) lb,args:= #[.func (.yield (w.heap.size+1)) #[] #[]]},(w.alloc (.deferred (some []))).alloc (.loop rdy),gf,#[.func (.yield (w.heap.size+1)) #[] #[]]++lb,(w.alloc (.deferred (some []))).alloc (.loop rdy),run_enterLoop_outer _ _ _ _ _,?_,?_,?_,fun _=>h1,?_⟩
 · simp only [resolve,hg];simp [go_sem]
 · intro f' _;trivial
 · simp [invoke,go_sem,eg]
 refine (hseq (w.heap.size+1) (fun pre W=>I pre W∧W.heap[w.heap.size+1]?=some (.loop rdy)∧W.heap[w.heap.size]?=some (.deferred (some []))) (fun _ _=>False) _ hw
  (fun s A B row hs hg' hr=>?_) (fun _ _ _ _ hs _ _=>hs) ?_ ⟨hI.alloc _ (hI.alloc _ h0),hA,hB⟩).mono ?_
 · have hk:∀(k:Nat) (o:Obj),A.heap[k]?=some o→o.isWalk=false→B.heap[k]?=some o:=fun k o hko ho=>by
    rw [←hko];refine hg'.block k (Array.getElem?_eq_some_iff.1 hko).1 (fun e=>?_);obtain ⟨_,o',ho',hw'⟩:=hr k e.symm;rw [hko] at ho'
    cases ho';rw [ho] at hw'
    cases hw'
   exact ⟨hI s A B row hs.1 hg' (fun r e=>by obtain ⟨h1,o,h2,h3⟩:=hr r e;exact ⟨by rw [hsz] at h1;omega,o,h2,Obj.not_cells_of_walk h3⟩),hk _ _ hs.2.1 rfl,hk _ _ hs.2.2 rfl⟩
 · rintro pre x W ⟨hi,hl,hk⟩ hlen
   have hy:=run_yield (P:=P) (args:=encs x) hl (hps x);refine ⟨fn,_,assign,body,hy,roundIn_of_wpIn hfn (wpIn_mono (hround _ rdy pre x W (by omega) hi hlen hl) ?_)⟩;intro e a' W' he;cases e with
   |normal=>
    obtain ⟨hko,hbd⟩:=he;have hl':=hko.same _ _ hl rfl;have hk':=hko.same _ _ hk rfl;refine ⟨_,run_beginRound hl' rfl,wpIn_mono hbd ?_⟩;rintro e a3 W3 ⟨rfl,hk3,hkp,hi3⟩;have hlt:w.heap.size+1<W'.heap.size:=(Array.getElem?_eq_some_iff.1 hl').1;have hl3:=hk3.same _ _ (World.putObj_heap_same (o:=.loop {rdy with state:=.busy}) hlt) rfl;have hd3:=hk3.same _ _ ((World.putObj_heap_other (by omega)).trans hk') rfl;refine ⟨_,_,run_endRound none hl3,.inl ⟨rfl,⟨hI.putObj _ hi3 (by omega) hl3 rfl,?_,(World.putObj_heap_other (by omega)).trans hd3⟩,hkp _⟩⟩;exact World.putObj_heap_same (Array.getElem?_eq_some_iff.1 hl3).1
   |ret=>exact he.elim
   |exit id=>exact he.elim
   |goto t=>exact he.elim
   |panic ch=>exact he.elim
   |outgrown=>exact he.elim
 · rintro e W2 ⟨⟨v,rfl⟩,(⟨xs,hS,hi,hl,hk⟩|⟨pre,_,h⟩)⟩
   · exact ⟨none,_,run_endLoop hl (by simp [rdy]),hdone _ xs _ (Nat.le_refl _) hS (hI.putObj _ hi (by omega) hl rfl) ((World.putObj_heap_other (by omega)).trans hk)⟩
   · exact h.elim
end Go.Proofs.YtbdhfbglagdiaaaGreatDoor
