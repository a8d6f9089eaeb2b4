/- Sum GoZ -/
import Derived.RangeFuncFrom
import Derived.RangeFuncCalls
import Derived.RangeFuncLeaves
import Derived.RangeFuncNested
import Derived.RangeFuncBound
import Derived.Shelf.Abstract
import Derived.Shelf.RegionOpen
import Derived.WalkKit
import Derived.OwnWalkIn
import Derived.TacticsInMore
import Derived.LoopNIn
import Derived.LoopIn
import Derived.Test.YtbdhfbglagdiaaaGreatDoorJ09
import Derived.Test.YtbdhfbglagdiaaaGreatDoorJ07
namespace Go.Proofs.YtbdhfbglagdiaaaGreatDoor.S
open Go.RowKit Go.Shelf
attribute [local go_sem] Oper.semAt_some
theorem qW (x:Option Addr) (len cap:Nat) (w:World):
    Calls Tryz.prog 103 #[.slice x len cap] w fun e w'=>e=.returned (.func (.func 142) #[] #[.pointer (some ⟨w.heap.size,0,none⟩)])∧w'=w.alloc (.cells #[.slice x len cap] 41):=by
 go_enter Tryz.func103,Tryz.ntmps103;go_wp2;go_ret;exact ⟨rfl,rfl⟩
theorem vM (N k:Nat) (h:k<N):(List.finRange N).take (k+1)=(List.finRange N).take k++ [⟨k,h⟩]:=by
 rw [List.take_succ_eq_append_getElem (by simpa using h)];simp
theorem wY (F:Fence) (n:Nat) (h6:F.fn 142) (hro:F.round=none) (_hn:1≤n) (l Bn g N:Nat) (hN:64*N≤2000000) (J Jx:List (Fin N)→World→Prop)
    (hY:∀pre (x:Fin N) W,J pre W→pre.length<N→YieldAt F (n - 1) Tryz.prog l #[.slice (some ⟨g,64*x.1,none⟩) 64 64] W fun e W'=>
     (e=.returned (.bool true)∧J (pre++ [x]) W'∧W'.heap[Bn]?=W.heap[Bn]?)∨(e=.returned (.bool false)∧Jx (pre++ [x]) W'))
    (W:World) (hBn:W.cell? ⟨Bn,0,none⟩=some (.slice (some ⟨g,0,none⟩) (64*N) (64*N))) (h0:J [] W):
    CallsIn F n Tryz.prog 142 #[.func (.yield l) #[] #[],.pointer (some ⟨Bn,0,none⟩)] W fun e W'=>(∃v,e=.returned v)∧
     ((∃ys,ys=List.finRange N∧J ys W')∨(∃pre,pre<+:List.finRange N∧Jx pre W')):=by
 refine callsIn_of_wp Tryz.func142 rfl h6 ?_ hro;simp only [Tryz.ntmps142,List.size_toArray,List.length_cons,List.length_nil,Nat.reduceAdd,Nat.reduceSub,Array.replicate_succ,Array.replicate_zero,List.push_toArray,List.append_toArray,List.nil_append,List.cons_append]
 gi_wp2
 gi_loopw [3] (fun p wr=>∃k:Nat,k≤N∧p=.int .i64 ((64*k:Nat):Int)∧wr.cell? ⟨Bn,0,none⟩=some (.slice (some ⟨g,0,none⟩) (64*N) (64*N))∧J ((List.finRange N).take k) wr)
  (fun p _=>64*N - (intOf p).toNat)
 case atStart=>
  exact ⟨0,Nat.zero_le _,rfl,hBn,by simpa using h0⟩
 case round=>
  obtain ⟨k,hk,rfl,hc,hJs⟩:=hrel
  by_cases hlt:k<N
  · obtain ⟨fn,tmps,assign,body,hy,hR⟩:=hY _ ⟨k,hlt⟩ wr hJs (by simp;omega)
    dsimp only at hy
    rw [←vM N k hlt] at hR
    gi_wp2
    refine hR.mono ?_;rintro e W3 (⟨rfl,hJ3,hk3⟩|⟨rfl,hJx3⟩)
    · have hc3:W3.cell? ⟨Bn,0,none⟩=some (.slice (some ⟨g,0,none⟩) (64*N) (64*N)):=(World.cell?_of_block (a:=⟨Bn,0,none⟩) hk3).trans hc
      gi_wp2
      go_roundw
      case rel=>exact ⟨k+1,by omega,by go_num,hc3,hJ3⟩
      case measure=>simp [intOf];omega
    · gi_wp2
      refine bodyPost_ret (results_none rfl _ _ _) rfl ?_;exact ⟨⟨_,rfl⟩,.inr ⟨_,List.take_prefix _ _,hJx3⟩⟩
  · obtain rfl:k=N:=by omega
    gi_wp2
    go_end0
    exact ⟨⟨_,rfl⟩,.inl ⟨_,rfl,by rwa [List.take_of_length_le (by simp)] at hJs⟩⟩
theorem rz (F:Fence) (n:Nat) (h6:F.fn 142) (hro:F.round=none) (hn:1≤n) (Bn g N:Nat) (hN:64*N≤2000000) (w:World) (hBn:Bn<w.heap.size)
    (hc:w.cell? ⟨Bn,0,none⟩=some (.slice (some ⟨g,0,none⟩) (64*N) (64*N))):
    SeqStopsK F n Tryz.prog 142 #[.pointer (some ⟨Bn,0,none⟩)] (fun x:Fin N=> #[.slice (some ⟨g,64*x.1,none⟩) 64 64]) (fun A B=>B.heap[Bn]?=A.heap[Bn]?) (fun ys=>ys=List.finRange N) (fun pre=>pre<+:List.finRange N) N w:=fun l J Jx W hW _ _ hY h0=>
 wY F n h6 hro hn l Bn g N hN J Jx hY W ((hW.cell (p:=⟨Bn,0,none⟩) hBn).trans hc) h0
theorem gw {W W':World} {row:Option Nat} {g:Nat} {k:IntKind} {t:TypeId} {l:List Int} (h:aa W g k t l) (hg:W.grownBy W' row) (hrow:∀r,row=some r→∃o:Obj,W.heap[r]?=some o∧o.isCells=false):aa W' g k t l:=by
 have hl:=h.lt;unfold aa at h ⊢
 rw [hg.block g hl (fun e=>by
  obtain ⟨o,ho,hc⟩:=hrow g e.symm;rw [h] at ho
  cases ho;cases hc)]
 exact h
theorem iz {W W':World} (h:Below W.heap.size W W'):KeepsOthers W W':=⟨h.size,fun k _ hk _=>(h.block k (Array.getElem?_eq_some_iff.1 hk).1).trans hk⟩
section
variable {P:Program} {F:Fence} {n:Nat}
theorem oC {ops:Array Oper} {rest:List Oper} {o:Oper} {a:Act} {w:World} {Q:Exit→Act→World→Prop} (hgd:o.guard=none) (ty:TypeId) (x y:Operand) (ho:o.op=.store ty x y)
    (g:Nat) (hx:a.eval x=.pointer (some ⟨g,0,none⟩)) {k:IntKind} {t:TypeId} {old l:List Int} (hy:a.eval y=.agg (row k l)) (hg:aa w g k t old)
    (hi:(P.info? ty).map (·.size)=some l.length) (hl:old.length=l.length)
    (h:wpListIn F n P ops Q rest (a.put o.dst undef) (w.setRow g (row k l))):wpListIn F n P ops Q (o::rest) a w:=by
 refine wpListIn_plain hgd fun K hK'=>?_
 unfold Oper.wpIn;refine ⟨?_,?_⟩
 · simp [Oper.about,ho]
 · rw [Oper.semAt_plain F _ _ (by rw [ho];intro c hc';cases hc')]
   simp only [execOp,ho,hx,hy,Instr.storeAt,Instr.sureAddr,Sem.run_bind,Sem.run_pure,Result.andThen_ok,bC w g ty t k old l hg hl hi];exact hK' _ _ h
end
theorem xR (w:World):
    Calls Tryz.prog 102 #[] w fun e w'=>e=.returned (.agg #[.int .u32 1779033703,.int .u32 3144134277,.int .u32 1013904242,.int .u32 2773480762,.int .u32 1359893119,.int .u32 2600822924,.int .u32 528734635,.int .u32 1541459225])∧Below w.heap.size w w':=tJ w
theorem xt (w:World) (g:Nat) (v0 v1 v2 v3 v4 v5 v6 v7:Value):
    KeepsOthers w ((((((((w.setCell ⟨g,0,none⟩ v0).setCell ⟨g,1,none⟩ v1).setCell ⟨g,2,none⟩ v2).setCell ⟨g,3,none⟩ v3).setCell ⟨g,4,none⟩ v4).setCell ⟨g,5,none⟩ v5).setCell ⟨g,6,none⟩ v6).setCell ⟨g,7,none⟩ v7):=
 (((((((KeepsOthers.setCell _ _ _).trans (KeepsOthers.setCell _ _ _)).trans (KeepsOthers.setCell _ _ _)).trans (KeepsOthers.setCell _ _ _)).trans (KeepsOthers.setCell _ _ _)).trans (KeepsOthers.setCell _ _ _)).trans (KeepsOthers.setCell _ _ _)).trans (KeepsOthers.setCell _ _ _)
set_option maxRecDepth 100000 in
theorem xU (x:Option Addr) (len cap:Nat) (z:List Int) (w:World) (hbz:Bytes w x len cap z) (hln:len≤1000000) (hk:KTab w):
    CallsIn Fence.wide 3 Tryz.prog 59 #[.slice x len cap] w fun e w'=>e=.returned (.agg (row .u8 (sumL z)))∧Below w.heap.size w w':=by
 have hz:=hbz.len_eq;obtain ⟨N,hN⟩:∃N,padSize z.length=64*N:=⟨(z.length+8) / 64+1,by unfold padSize;omega⟩
 have hNN:padSize z.length / 64=N:=by omega
 have hN2:64*N≤2000000:=by rw [←hN];unfold padSize;omega
 have hpl:(bu z).length=64*N:=by rw [b9,hN]
 have pB:∀wx,Below w.heap.size w wx→Calls Tryz.prog 104 #[.slice x len cap] wx fun e w'=>∃g,e=.returned (.slice (some ⟨g,0,none⟩) (64*N) (64*N))∧wx.heap.size≤g∧aa w' g .u8 5 (bu z)∧Below wx.heap.size wx w':=fun wx hx=>by
  have:=wU x len cap z wx (hbz.below hx) hln;rw [hN] at this
  exact this
 have HP:Hid (padSize z.length / 64=N):=hNN;have HL:Hid ((bu z).length=64*N):=hpl;clear hN hNN hz hpl;refine callsIn_of_wp_marks Tryz.func59 rfl trivial ?_ rfl;simp only [Tryz.ntmps59,List.size_toArray,List.length_cons,List.length_nil,Nat.reduceAdd,Nat.reduceSub,Array.replicate_succ,Array.replicate_zero,List.push_toArray,List.append_toArray,List.nil_append,List.cons_append]
 gi_wp2_with (first
  |(refine ⟨trivial,?_⟩;gi_at_call 102;refine (callsIn_wide.2 (xR _)).mono ?_;rintro e w1 ⟨rfl,hb1⟩;have hB1:Below w.heap.size w w1:=((Below.refl _ _).alloc (Nat.le_refl _) _).trans (hb1.mono (by simp));have hR1:aa w1 w.heap.size .u8 23 (List.replicate 32 0):=(aa.new w .u8 23 (List.replicate 32 0)).below hb1 (by simp);clear hb1)
  |(refine ⟨trivial,?_⟩;gi_at_call 104;refine (callsIn_wide.2 (pB _ (hB1.alloc hB1.size _))).mono ?_;rintro e w2 ⟨g,rfl,hg,hHg,hb2⟩)
  |(refine ⟨trivial,?_⟩;gi_at_call 103;refine (callsIn_wide.2 (qW _ _ _ _)).mono ?_;rintro e w3 ⟨rfl,rfl⟩))
 have hg1:w1.heap.size+1≤g:=by simpa using hg
 have hs1:w.heap.size+1≤w1.heap.size:=by have:=hR1.lt;omega
 have hz2:w1.heap.size+1≤w2.heap.size:=by have:=hb2.size;simpa using this
 have hgl:=hHg.lt;have hS2:aa w2 w1.heap.size .u32 141 bH:=(aa.new w1 .u32 141 bH).below hb2 (by simp);have hR2:aa w2 w.heap.size .u8 23 (List.replicate 32 0):=(hR1.alloc _).below hb2 (by simp;omega);have hB2:Below w.heap.size w w2:=(hB1.alloc hB1.size _).trans (hb2.mono (by simp;omega));have hC2:(w2.alloc (.cells #[.slice (some ⟨g,0,none⟩) (64*N) (64*N)] 41)).cell? ⟨w2.heap.size,0,none⟩=some (.slice (some ⟨g,0,none⟩) (64*N) (64*N)):=
  (cell_of_row _ w2.heap.size 0 _ 41 (0,0) (World.alloc_heap_new w2 _)).trans rfl
 clear hb2 hB1 hR1 hg pB;refine wpIn_rangeFunc_ownF rfl (by omega) (gf:=142) (lb:= #[.pointer (some ⟨w2.heap.size,0,none⟩)]) rfl trivial (enters_of Tryz.func142 (by kernel_rfl) rfl)
  (rz Fence.wide (3 - 1) trivial rfl (by omega) w2.heap.size g N hN2 _ (by simp) hC2) (fun h k=>k.trans h) (fun W l o o' hl _ _ _=>World.putObj_heap_other (by simp at hl;omega)) (Below.refl _ _) (fun _=>rfl)
  (fun pre W=>(aa W w1.heap.size .u32 141 (eP (bu z) (pre.map (·.1)) bH)∧aa W g .u8 5 (bu z)∧aa W w.heap.size .u8 23 (List.replicate 32 0)∧w2.heap.size+1≤W.heap.size)∧Below w.heap.size w W)
  (fun _ _ _=>False)
  (OwnFrom.and (Own.from (fun s A B row hs hg hr=>⟨gw hs.1 hg hr,gw hs.2.1 hg hr,gw hs.2.2.1 hg hr,Nat.le_trans hs.2.2.2 hg.size⟩) _) (ownFrom_below (Nat.le_refl _) (by simp;omega)))
  (fun _ _ _ _ _ hs _ _=>hs)
  ⟨⟨hS2.alloc _,hHg.alloc _,hR2.alloc _,by simp⟩,hB2.alloc (by omega) _⟩
  (fun i=>{tmps:= #[.slice x len cap,undef,.pointer (some ⟨w.heap.size,0,none⟩),.pointer (some ⟨w1.heap.size,0,none⟩),.slice (some ⟨g,64*i.1,none⟩) 64 64,.agg #[.int .u32 1779033703,.int .u32 3144134277,.int .u32 1013904242,.int .u32 2773480762,.int .u32 1359893119,.int .u32 2600822924,.int .u32 528734635,.int .u32 1541459225],.slice x len cap,.slice (some ⟨g,0,none⟩) (64*N) (64*N),.func (.func 142) #[] #[.pointer (some ⟨w2.heap.size,0,none⟩)],.slice (some ⟨g,64*i.1,none⟩) 64 64,undef,undef,undef,undef,undef],defers:=[]}) ?assign ?body ?done ?stop
 case assign=>
  intro l i W K hK
  gi_wp2
  exact hK
 case body=>
  rintro l pre i W ⟨⟨hS,hG,hR,hW2⟩,hB⟩ _;have hlS:=gu (bu z) (pre.map (·.1)) bH rfl;have hiS:=pF (bu z) (pre.map (·.1)) bH nk;have hnew:eP (bu z) ((pre++ [i]).map (·.1)) bH=fZ (eP (bu z) (pre.map (·.1)) bH) (blk (bu z) i.1):=by rw [List.map_append];exact lL _ _ _ _
  obtain ⟨s0,s1,s2,s3,s4,s5,s6,s7,hs8⟩:=h9 hlS;rw [hs8] at hS hiS hnew
  obtain ⟨r0,r1,r2,r3,r4,r5,r6,r7,hr8⟩:=h9 (go [s0,s1,s2,s3,s4,s5,s6,s7] (blk (bu z) i.1));have hst:∀wx,Below W.heap.size W wx→Calls Tryz.prog 105 #[.agg #[.int .u32 s0,.int .u32 s1,.int .u32 s2,.int .u32 s3,.int .u32 s4,.int .u32 s5,.int .u32 s6,.int .u32 s7],.slice (some ⟨g,64*i.1,none⟩) 64 64] wx
      fun e w'=>e=.returned (.agg #[.int .u32 r0,.int .u32 r1,.int .u32 r2,.int .u32 r3,.int .u32 r4,.int .u32 r5,.int .u32 r6,.int .u32 r7])∧Below wx.heap.size wx w':=fun wx hx=>by
   have hGx:=hG.below hx hG.lt;have:=wt [s0,s1,s2,s3,s4,s5,s6,s7] (blk (bu z) i.1) g (64*i.1) 64 wx rfl hiS ((hk.below hB).below hx) (by omega) (by omega) (fun j hj=>by
    rw [sC _ _ _ hj];exact hGx.cell _ (by rw [HL.out];have:=i.2;omega))
   rw [hr8] at this
   exact this
  rw [hr8] at hnew
  have HNEW:Hid (eP (bu z) ((pre++ [i]).map (·.1)) bH=[r0,r1,r2,r3,r4,r5,r6,r7]):=hnew;obtain ⟨⟨c0,c1,c2,c3,c4,c5,c6,c7⟩,cf⟩:=fz hS;clear hs8 hr8 hnew hiS hlS
  gi_wp2_with (refine ⟨trivial,?_⟩;gi_at_call 105;refine (CallsIn.inRound l (callsIn_wide.2 (hst _ (Below.refl _ _)))).mono ?_;rintro e w4 ⟨rfl,hb4⟩;obtain ⟨⟨d0,d1,d2,d3,d4,d5,d6,d7⟩,df⟩:=fz (hS.below hb4 hS.lt))
  refine ⟨(iz hb4).trans (xt _ _ _ _ _ _ _ _ _ _),?_,⟨?_,?_,?_,?_⟩,?_⟩
  · exact (sh _ _ _ _ _ _ _ _ (by omega)).trans (hb4.block _ (by omega))
  · rw [HNEW.out];exact ol (hS.below hb4 hS.lt) _ _ _ _ _ _ _ _
  · exact eG (hG.below hb4 hG.lt) _ _ _ _ _ _ _ _ (by omega)
  · exact eG (hR.below hb4 hR.lt) _ _ _ _ _ _ _ _ (by omega)
  · have:=hb4.size;simp;omega
  · exact ml (hB.trans (hb4.mono hB.size)) (by omega) _ _ _ _ _ _ _ _
 case done=>
  rintro D ys W hD rfl ⟨⟨hS,_,hR,hW2⟩,hB⟩ hK;have hmap:(List.finRange N).map (·.1)=List.range N:=by apply List.ext_getElem<;>simp
  have hfold:eP (bu z) ((List.finRange N).map (·.1)) bH=og z:=by rw [hmap,←HP.out];rfl
  rw [hfold] at hS
  have hj:=fun wx=>gd (og z) wx (io z)
  obtain ⟨s0,s1,s2,s3,s4,s5,s6,s7,hs8⟩:=h9 (io z);have hjl:joinL [s0,s1,s2,s3,s4,s5,s6,s7]=sumL z:=by rw [←hs8];rfl
  rw [hs8] at hS hj
  rw [hjl] at hj
  have hj':∀wx,Calls Tryz.prog 106 #[.agg #[.int .u32 s0,.int .u32 s1,.int .u32 s2,.int .u32 s3,.int .u32 s4,.int .u32 s5,.int .u32 s6,.int .u32 s7]] wx fun e w'=>e=.returned (.agg (row .u8 (sumL z)))∧Below wx.heap.size wx w':=hj
  obtain ⟨⟨c0,c1,c2,c3,c4,c5,c6,c7⟩,cf⟩:=fz hS;have hDl:D<W.heap.size:=(Array.getElem?_eq_some_iff.1 hK).1;clear hs8 hjl hfold hj hmap
  gi_wp2_with (first
   |(refine ⟨trivial,?_⟩;gi_at_call 106;refine (callsIn_wide.2 (hj' _)).mono ?_;rintro e w5 ⟨rfl,hb5⟩;have hR5:aa w5 w.heap.size .u8 23 (List.replicate 32 0):=hR.below hb5 hR.lt)
   |(refine oC rfl 23 _ _ rfl _ rfl rfl hR5 (by rw [aW];exact aI) (by simp [aW]) ?_))
  have hK5:(w5.setRow w.heap.size (row .u8 (sumL z))).heap[D]?=some (.deferred (some [])):=by
   rw [setRow_other _ _ _ _ (by simp at hD;omega),hb5.block D hDl];exact hK
  have hB5:Below w.heap.size w (w5.setRow w.heap.size (row .u8 (sumL z))):=below_setRow (hB.trans (hb5.mono hB.size)) (Nat.le_refl _) _;refine ⟨by simp,.inl ⟨_,_,rfl,run_takeDeferred hK5,?_⟩⟩;have hF:=gw (hR5.setRow (sumL z)) (grownBy_putObj' _ D (.deferred none)) (fun r e=>by cases e;exact ⟨_,hK5,rfl⟩);exact ⟨_,aj (Tryz.results59) _ rfl hF Tryz.underlying23 aI (aW z),rfl,hB5.trans (belowK_b (w:=w) (Nat.le_refl _) _ D _ _ (by simp at hD;omega) hK5 rfl rfl)⟩
 case stop=>
  rintro D c pre W _ _ h _;exact h.elim
theorem sN (x:Option Addr) (len cap:Nat) (z:List Int) (w:World) (hbz:Bytes w x len cap z) (hln:len≤1000000) (hk:KTab w):
    Calls Tryz.prog 59 #[.slice x len cap] w fun e w'=>e=.returned (.agg (row .u8 (sumL z)))∧Below w.heap.size w w':=callsIn_wide.1 (xU x len cap z w hbz hln hk)
end Go.Proofs.YtbdhfbglagdiaaaGreatDoor.S
namespace Go.Proofs.YtbdhfbglagdiaaaGreatDoor
open Go.ChangeShapes Go.WideShapes Go.ChangeAt Go.RowKit
set_option maxRecDepth 20000
set_option linter.unusedSimpArgs false
theorem gTabK : Tryz.prog.globalNamed "escritoire/sha.roundWords" = some 1 := by kernel_rfl
theorem gTabKType : (Tryz.prog.globals[1]?).map (·.type) = some 179 := by kernel_rfl
theorem cellsK64 : Tryz.prog.cellsOf 179 = 64 := by kernel_rfl
theorem cellsKU32 : Tryz.prog.cellsOf 24 = 1 := by kernel_rfl
theorem tables2 {W : World} (h : laidMetH Tryz.prog [("escritoire/sha.roundWords", Rows.laid_escritoire_sha_roundWords), ("escritoire/wire.buckets", Rows.laid_escritoire_wire_buckets)] W) : S.KTab W ∧ BTab W := by
 have ht : Lib.TabIs Tryz.prog W "escritoire/sha.roundWords" .u32 S.kTab := Lib.tabIs_of_head (rest := [("escritoire/wire.buckets", Rows.laid_escritoire_wire_buckets)]) gTabK gTabKType Tryz.underlying179 Tryz.underlying24 cellsKU32 cellsK64 h
 have hb : Lib.TabIs Tryz.prog W "escritoire/wire.buckets" .i64 bTab := by
  obtain ⟨ps, ⟨_, _, _, _, _, _, _, _, _, _, hrest, _⟩, _⟩ := h
  obtain ⟨g', t', cs, fuel, p, q, hg', ht', hvar, hd, _, _⟩ := hrest
  obtain rfl := Option.some.inj (gTab.symm.trans hg')
  obtain rfl := Option.some.inj (gTabType.symm.trans ht')
  unfold Lib.TabIs
  rw [hvar, ← Lib.cells_of_tab Tryz.underlying152 Tryz.underlying3 cellsI64 cells6 hd]
 refine ⟨fun j hj => ?_, fun j v hv => ?_⟩
 · have := ht.cell gTabK j hj
   rw [List.getD_eq_getElem?_getD] at this
   exact this
 · have hj : j < bTab.length := by have := (List.getElem?_eq_some_iff.1 hv).1; simpa using this
   have := hb.cell gTab j hj
   rw [Nat.zero_add, this, ← hv, List.getElem?_map, List.getD_eq_getElem?_getD, List.getElem?_eq_getElem hj]; rfl
def layB : Obj → Obj
 | .cells _ t frozen => .cells (row .i64 bTab) t frozen
 | o => o
def layK : Obj → Obj
 | .cells _ t frozen => .cells (row .u32 S.kTab) t frozen
 | o => o
noncomputable def laidWorld2 (os : Os) : World :=
 { World.holding Tryz.prog os ⟨#[], #[], []⟩ with heap := ((World.holding Tryz.prog os ⟨#[], #[], []⟩).heap.modify 0 layB).modify 1 layK }
theorem event_of_trodZ {H : Type} {enc : TypeId × Value → H} {W : World} {fuel : Nat} {l : List Value} {x : DataW H × List MemPlace} (h : DataW.trod enc Tryz.prog W 0 (fun _ => true) true fuel 33 l = some x) : ∃ E : Ev, l = E.cells ∧ E.In := by
 obtain ⟨xs, m, _, _, hl, hlen, hfd⟩ := DataW.trod_struct Tryz.underlying33 h
 have hc : Tryz.prog.cellsOf 33 = 17 := by kernel_rfl
 have h8 : Tryz.prog.cellsOf 5 = 1 := by kernel_rfl
 have hk1 : Tryz.prog.cellsOf 30 = 1 := by kernel_rfl
 have hr1 : Tryz.prog.cellsOf 31 = 1 := by kernel_rfl
 have hb1 : Tryz.prog.cellsOf 4 = 1 := by kernel_rfl
 have hd : Tryz.prog.cellsOf 26 = 2 := by kernel_rfl
 have hp : Tryz.prog.cellsOf 29 = 8 := by kernel_rfl
 rw [hc] at hl
 have g0 : DataW.trod enc Tryz.prog W 0 (fun _ => true) true m 26 (List.take (Tryz.prog.cellsOf 26) (List.drop 0 l)) = xs[0]? := hfd 0 _ rfl
 have g1 : DataW.trod enc Tryz.prog W 0 (fun _ => true) true m 29 (List.take (Tryz.prog.cellsOf 29) (List.drop 2 l)) = xs[1]? := hfd 1 _ rfl
 have g2 : DataW.trod enc Tryz.prog W 0 (fun _ => true) true m 30 (List.take (Tryz.prog.cellsOf 30) (List.drop 10 l)) = xs[2]? := hfd 2 _ rfl
 have g3 : DataW.trod enc Tryz.prog W 0 (fun _ => true) true m 26 (List.take (Tryz.prog.cellsOf 26) (List.drop 11 l)) = xs[3]? := hfd 3 _ rfl
 have g4 : DataW.trod enc Tryz.prog W 0 (fun _ => true) true m 4 (List.take (Tryz.prog.cellsOf 4) (List.drop 13 l)) = xs[4]? := hfd 4 _ rfl
 have g5 : DataW.trod enc Tryz.prog W 0 (fun _ => true) true m 5 (List.take (Tryz.prog.cellsOf 5) (List.drop 14 l)) = xs[5]? := hfd 5 _ rfl
 have g6 : DataW.trod enc Tryz.prog W 0 (fun _ => true) true m 5 (List.take (Tryz.prog.cellsOf 5) (List.drop 15 l)) = xs[6]? := hfd 6 _ rfl
 have g7 : DataW.trod enc Tryz.prog W 0 (fun _ => true) true m 31 (List.take (Tryz.prog.cellsOf 31) (List.drop 16 l)) = xs[7]? := hfd 7 _ rfl
 simp only [List.size_toArray, List.length_cons, List.length_nil, Nat.reduceAdd] at hlen
 rw [hd, List.getElem?_eq_getElem (by omega)] at g0 g3
 rw [hp, List.getElem?_eq_getElem (by omega)] at g1
 rw [hk1, List.getElem?_eq_getElem (by omega)] at g2
 rw [hb1, List.getElem?_eq_getElem (by omega)] at g4
 rw [h8, List.getElem?_eq_getElem (by omega)] at g5 g6
 rw [hr1, List.getElem?_eq_getElem (by omega)] at g7
 obtain ⟨da, dsq, ed, wd⟩ := dot_of_trod g0
 obtain ⟨pv, hpv, ep, wp⟩ := row_of_trod5 Tryz.underlying29 Tryz.underlying24 (by kernel_rfl) (by simp [hl]) g1
 obtain ⟨k, ek, _, wk⟩ := DataW.trod_int Tryz.underlying30 g2
 obtain ⟨pa, psq, ea, wa⟩ := dot_of_trod g3
 obtain ⟨b, eb, _⟩ := DataW.trod_bool Tryz.underlying4 g4
 obtain ⟨c, ec, _, wc⟩ := DataW.trod_int Tryz.underlying5 g5
 obtain ⟨o, eo, _, wo⟩ := DataW.trod_int Tryz.underlying5 g6
 obtain ⟨ro, er, _, wr⟩ := DataW.trod_int Tryz.underlying31 g7
 refine ⟨⟨da, dsq, pv, k, pa, psq, b, c, o, ro⟩, ?_, ⟨wd.1, wd.2, hpv, fun x hx => bounds_u32 (wp x hx), bounds_u8 wk, wa.1, wa.2, bounds_u8 wc, bounds_u8 wo, bounds_u8 wr⟩⟩
 show l = dotC da dsq ++ pv.map (Value.int .u32) ++ ([.int .u8 k] ++ dotC pa psq ++ [.bool b, .int .u8 c, .int .u8 o, .int .u8 ro])
 have e4 : ([.bool b, .int .u8 c, .int .u8 o, .int .u8 ro] : List Value) = [.bool b] ++ [.int .u8 c] ++ [.int .u8 o] ++ [.int .u8 ro] := rfl
 rw [e4, ← ed, ← ep, ← ek, ← ea, ← eb, ← ec, ← eo, ← er, List.drop_zero]
 have s : ∀ a n m : Nat, a + n = m → l.take a ++ (l.drop a).take n = l.take m := fun a n m h => by rw [← h, List.take_add]
 simp only [← List.append_assoc]
 rw [s 2 8 10 rfl, s 10 1 11 rfl, s 11 2 13 rfl, s 13 1 14 rfl, s 14 1 15 rfl, s 15 1 16 rfl, s 16 1 17 rfl, List.take_of_length_le (by omega)]
structure Aq where
 own : Int
 seed : List Int
 num : Int
 prev : List Int
 ea : Int
 es : Int
 wraps : Value
 E : Ev
def Aq.cells (q : Aq) : List Value := [.int .u8 q.own] ++ q.seed.map (Value.int .u8) ++ [.int .u32 q.num] ++ q.prev.map (Value.int .u8) ++ dotC q.ea q.es ++ [q.wraps] ++ q.E.cells
structure AqIn (W : World) (q : Aq) (xw : Option Addr) (lw cw : Nat) (ws : List Wp) : Prop where
 own : in8 q.own
 seed : q.seed.length = 32
 seedI : ∀ x ∈ q.seed, in8 x
 num : in32 q.num
 prev : q.prev.length = 32
 prevI : ∀ x ∈ q.prev, in8 x
 ea : in8 q.ea
 es : in32 q.es
 wraps : q.wraps = .slice xw lw cw
 hw : WrapsAt W xw lw cw ws
 inW : ∀ e ∈ ws, e.In
 E : q.E.In
theorem open_ask {H : Type} {enc : TypeId × Value → H} {W : World} {r : Reach} {base : Nat} {v : Value} {d : DataW H} {p : List MemPlace} (hv : Value.okWide Tryz.prog W r base 35 v) (h : DataW.Trod enc Tryz.prog W 0 (fun _ => true) true 35 v d p) :
    ∃ (q : Aq) (xw : Option Addr) (lw cw : Nat) (ws : List Wp), v = .agg q.cells.toArray ∧ AqIn W q xw lw cw ws := by
 simp only [Value.okWide, Tryz.underlying35] at hv
 obtain ⟨cs0, rfl, hsz, _⟩ := hv
 obtain ⟨fuel, hf⟩ := h
 obtain ⟨xs, m, _, _, hl, hlen, hfd⟩ := DataW.trod_struct Tryz.underlying35 hf
 simp only [Value.cells] at hfd hl
 obtain ⟨cs⟩ := cs0
 simp only at hfd hl
 have hc : Tryz.prog.cellsOf 35 = 86 := by kernel_rfl
 have h8 : Tryz.prog.cellsOf 5 = 1 := by kernel_rfl
 have h32 : Tryz.prog.cellsOf 24 = 1 := by kernel_rfl
 have hd : Tryz.prog.cellsOf 26 = 2 := by kernel_rfl
 have hk : Tryz.prog.cellsOf 23 = 32 := by kernel_rfl
 have hw : Tryz.prog.cellsOf 27 = 1 := by kernel_rfl
 have he : Tryz.prog.cellsOf 33 = 17 := by kernel_rfl
 rw [hc] at hl
 have g0 : DataW.trod enc Tryz.prog W 0 (fun _ => true) true m 5 (List.take (Tryz.prog.cellsOf 5) (List.drop 0 cs)) = xs[0]? := hfd 0 _ rfl
 have g1 : DataW.trod enc Tryz.prog W 0 (fun _ => true) true m 23 (List.take (Tryz.prog.cellsOf 23) (List.drop 1 cs)) = xs[1]? := hfd 1 _ rfl
 have g2 : DataW.trod enc Tryz.prog W 0 (fun _ => true) true m 24 (List.take (Tryz.prog.cellsOf 24) (List.drop 33 cs)) = xs[2]? := hfd 2 _ rfl
 have g3 : DataW.trod enc Tryz.prog W 0 (fun _ => true) true m 23 (List.take (Tryz.prog.cellsOf 23) (List.drop 34 cs)) = xs[3]? := hfd 3 _ rfl
 have g4 : DataW.trod enc Tryz.prog W 0 (fun _ => true) true m 26 (List.take (Tryz.prog.cellsOf 26) (List.drop 66 cs)) = xs[4]? := hfd 4 _ rfl
 have g5 : DataW.trod enc Tryz.prog W 0 (fun _ => true) true m 27 (List.take (Tryz.prog.cellsOf 27) (List.drop 68 cs)) = xs[5]? := hfd 5 _ rfl
 have g6 : DataW.trod enc Tryz.prog W 0 (fun _ => true) true m 33 (List.take (Tryz.prog.cellsOf 33) (List.drop 69 cs)) = xs[6]? := hfd 6 _ rfl
 simp only [List.size_toArray, List.length_cons, List.length_nil, Nat.reduceAdd] at hlen
 rw [h8, List.getElem?_eq_getElem (by omega)] at g0
 rw [hk, List.getElem?_eq_getElem (by omega)] at g1 g3
 rw [h32, List.getElem?_eq_getElem (by omega)] at g2
 rw [hd, List.getElem?_eq_getElem (by omega)] at g4
 rw [hw, List.getElem?_eq_getElem (by omega)] at g5
 rw [he, List.getElem?_eq_getElem (by omega)] at g6
 obtain ⟨a, ea, _, wa⟩ := DataW.trod_int Tryz.underlying5 g0
 obtain ⟨sd, hsd, esd, wsd⟩ := row_of_trod5 Tryz.underlying23 Tryz.underlying5 (by kernel_rfl) (by simp [hl]) g1
 obtain ⟨n, en, _, wn⟩ := DataW.trod_int Tryz.underlying24 g2
 obtain ⟨pv, hpv, ep, wp⟩ := row_of_trod5 Tryz.underlying23 Tryz.underlying5 (by kernel_rfl) (by simp [hl]) g3
 obtain ⟨da, dsq, ed, wd⟩ := dot_of_trod g4
 obtain ⟨yw, lw, cw, ws, ew, hWs, hWi⟩ := wraps_of_trod g5
 obtain ⟨E, eE, hE⟩ := event_of_trodZ g6
 refine ⟨⟨a, sd, n, pv, da, dsq, .slice yw lw cw, E⟩, yw, lw, cw, ws, ?_, ⟨bounds_u8 wa, hsd, fun v hv => bounds_u8 (wsd v hv), bounds_u32 wn, hpv, fun v hv => bounds_u8 (wp v hv), wd.1, wd.2, rfl, hWs, hWi, hE⟩⟩
 congr 2
 show cs = ([.int .u8 a] : List Value) ++ sd.map (Value.int .u8) ++ [.int .u32 n] ++ pv.map (Value.int .u8) ++ dotC da dsq ++ [.slice yw lw cw] ++ E.cells
 rw [← ea, ← esd, ← en, ← ep, ← ed, ← ew, ← eE, List.drop_zero]
 have s : ∀ a n m : Nat, a + n = m → cs.take a ++ (cs.drop a).take n = cs.take m := fun a n m h => by rw [← h, List.take_add]
 rw [s 1 32 33 rfl, s 33 1 34 rfl, s 34 32 66 rfl, s 66 2 68 rfl, s 68 1 69 rfl, s 69 17 86 rfl, List.take_of_length_le (by omega)]
theorem aq_parts (q : Aq) (hs : q.seed.length = 32) (hp : q.prev.length = 32) (hE : q.E.past.length = 8) : q.cells.length = 86 ∧ q.cells[0]? = some (.int .u8 q.own) ∧ (q.cells.drop 1).take 32 = q.seed.map (Value.int .u8) ∧ q.cells[33]? = some (.int .u32 q.num) ∧ (q.cells.drop 34).take 32 = q.prev.map (Value.int .u8) ∧ (q.cells.drop 66).take 2 = dotC q.ea q.es ∧ q.cells[68]? = some q.wraps ∧ (q.cells.drop 69).take 17 = q.E.cells := by
 have hS : (q.seed.map (Value.int .u8)).length = 32 := by rw [List.length_map, hs]
 have hP : (q.prev.map (Value.int .u8)).length = 32 := by rw [List.length_map, hp]
 have hEl : q.E.cells.length = 17 := ev_len q.E hE
 have e1 : q.cells.drop 1 = q.seed.map (Value.int .u8) ++ ([.int .u32 q.num] ++ (q.prev.map (Value.int .u8) ++ (dotC q.ea q.es ++ ([q.wraps] ++ q.E.cells)))) := by unfold Aq.cells; simp
 have e33 : q.cells.drop 33 = [.int .u32 q.num] ++ (q.prev.map (Value.int .u8) ++ (dotC q.ea q.es ++ ([q.wraps] ++ q.E.cells))) := by
  rw [show 33 = 1 + 32 from rfl, ← List.drop_drop, e1, List.drop_left' hS]
 have e34 : q.cells.drop 34 = q.prev.map (Value.int .u8) ++ (dotC q.ea q.es ++ ([q.wraps] ++ q.E.cells)) := by
  rw [show 34 = 33 + 1 from rfl, ← List.drop_drop, e33]; rfl
 have e66 : q.cells.drop 66 = dotC q.ea q.es ++ ([q.wraps] ++ q.E.cells) := by
  rw [show 66 = 34 + 32 from rfl, ← List.drop_drop, e34, List.drop_left' hP]
 have e68 : q.cells.drop 68 = [q.wraps] ++ q.E.cells := by
  rw [show 68 = 66 + 2 from rfl, ← List.drop_drop, e66]; rfl
 have e69 : q.cells.drop 69 = q.E.cells := by
  rw [show 69 = 68 + 1 from rfl, ← List.drop_drop, e68]; rfl
 refine ⟨?_, rfl, ?_, ?_, ?_, ?_, ?_, ?_⟩
 · unfold Aq.cells; simp [hs, hp, hEl, dotC]
 · rw [e1, List.take_left' hS]
 · have := congrArg (·[0]?) e33
   simpa [List.getElem?_drop] using this
 · rw [e34, List.take_left' hP]
 · rw [e66]; rfl
 · have := congrArg (·[0]?) e68
   simpa [List.getElem?_drop] using this
 · rw [e69, List.take_of_length_le (by omega)]
def aqZ : Aq := ⟨0, List.replicate 32 0, 0, List.replicate 32 0, 0, 0, .slice none 0 0, evZ⟩
end Go.Proofs.YtbdhfbglagdiaaaGreatDoor
