/- Fq Gz Wl Gskip WireBackW Rv1 -/
import Derived.Test.YtbdhfbglagdiaaaGreatDoorJ46
import Derived.Test.YtbdhfbglagdiaaaGreatDoorJ03
import Derived.Test.YtbdhfbglagdiaaaGreatDoorJ06
import Derived.Test.YtbdhfbglagdiaaaGreatDoorJ02
import Derived.Test.YtbdhfbglagdiaaaGreatDoorJ07
import Derived.Laws.StructEq
import Derived.Test.YtbdhfbglagdiaaaGreatDoorJ33
namespace Go.Proofs.YtbdhfbglagdiaaaGreatDoor
open Go.RowKit
set_option maxRecDepth 20000
set_option linter.unusedSimpArgs false
theorem mm (z:List Int) (s:Nat) (hz:∀v∈z,b8 v):∀v∈bu z s,b8 v:=by
 intro v hv;unfold bu at hv
 rcases List.mem_append.1 hv with h|h
 · rcases List.mem_append.1 h with h|h
   · unfold be2 at h
     simp only [List.mem_cons,List.not_mem_nil,or_false] at h
     unfold b8
     rcases h with rfl|rfl<;>omega
   · exact hz v h
 · have:=(List.mem_replicate.1 h).2
   subst this;exact ⟨by omega,by omega⟩
theorem th {n:Int} {lw:Nat} {E:Ev} {own:Int} {m:Option (List Int)} (h:ba n lw E own m=0):fU n=true∧lw≤64∧rightB E=true∧E.da=own∧E.ds=n∧own<8∧m≠none:=by
 unfold ba at h
 split at h
 · rename_i h1
   split at h
   · rename_i h2
     split at h
     · rename_i h3
       simp only [Bool.and_eq_true,beq_iff_eq] at h2
       refine ⟨h1.1,h1.2,h2.1,h2.2.1,h2.2.2,h3,fun q=>?_⟩;rw [q] at h
       exact absurd h (by decide)
     · omega
   · omega
 · omega
theorem xg {n:Int} {lw:Nat} {E:Ev} {own:Int} {k:List Int} (h1:fU n=true) (h2:lw≤64) (h3:rightB E=true) (h4:E.da=own) (h5:E.ds=n) (h6:own<8):ba n lw E own (some k)=0:=by
 unfold ba;rw [if_pos ⟨h1,h2⟩,if_pos (by rw [h3,h4,h5];simp),if_pos h6]
theorem om {seed:List Int} {n:Int} {lw:Nat} {E:Ev} {own:Int} {k:List Int} {F:Fr} {ws:List Wp} (hE:E.In) (h:ba n lw E own (some k)=0) (ha:F.author=own) (hn:F.number=n) (hm:F.mac=ftagL seed F ws (bJ k F ws E)):
    checkE seed F lw ws 144 (bJ k F ws E)=0∧jT k F ws 144 (bJ k F ws E)=0∧gP k F 144 (bJ k F ws E)=E:=by
 obtain ⟨h1,h2,h3,h4,h5,h6,-⟩:=th h;have hel:=fG E hE.plen;have hpl:(bu (aL E) 128).length=128:=b9 _ _ (by rw [hel];omega);have hPi:∀v∈bu (aL E) 128,b8 v:=mm _ _ (lQ E hE);have hP:nD k F 144 (bJ k F ws E)=bu (aL E) 128:=by
  unfold nD bJ;rw [show 144 - 16=128 from rfl,m9 _ _ _ _ 128 hpl.symm];exact tf _ _ _ _ hPi
 have hu:=xd (aL E) 128 (by rw [hel];omega) (by rw [hel];omega) (by rw [hel];decide);have hU:k8 (bu (aL E) 128)=0∧gU (bu (aL E) 128)=aL E:=by
  unfold k8 gU;rw [if_pos hu.1,if_pos hu.1];exact ⟨rfl,hu.2⟩
 have he:=rI E hE;have hR:j6 (aL E)=0∧revB (aL E)=E:=by
  unfold j6 revB;rw [if_pos he.1,if_pos he.1];exact ⟨rfl,he.2⟩
 have hV:gP k F 144 (bJ k F ws E)=E:=by
  unfold gP;rw [hP,hU.2,hR.2]
 refine ⟨?_,?_,hV⟩
 · unfold checkE
   rw [ha,hn,if_pos ⟨h6,h1⟩,if_pos ⟨h2,by decide⟩,if_pos hm.symm]
 · unfold jT
   rw [if_neg (by decide),if_pos,hP,hU.1,if_pos rfl,hU.2,hR.1,if_pos rfl,hV,if_pos]
   · unfold fitsB
     rw [h3,ha,hn,h4,h5];simp
   · unfold bJ
     rw [show 144 - 16=128 from rfl,m9 _ _ _ _ 128 hpl.symm,uq _ _ _ _ 128 hpl.symm]
theorem sY {k:List Int} {F:Fr} {ws:List Wp} {E:Ev} (hF:F.In) (hi:∀e∈ws,e.In) (hw:ws.length≤64) (hE:E.In):∀v∈bJ k F ws E,isB v:=
 wj _ _ _ _ (j7 F ws hF hi hw) (mm _ _ (lQ E hE))
set_option maxHeartbeats 1000000
theorem uO:Builtin.zeroCells #[.int .u8 0] 11=row .u8 (List.replicate 11 0):=by kernel_rfl
theorem wA:IntKind.i64.wrap 11=11:=by rw [IntKind.wrap_i64];rfl
theorem xy (P:Program) (w:World):(asInt (.int .i64 11)).run P w=.ok 11 w:=by simp [asInt,asIntOf]
theorem mK (w:World) (base:Nat) (v:Value) (z:List Int) (ty:TypeId) (hown:aq w base v z) (h0:0<z.length) (hln:z.length≤4000000) (hbase:base≤w.heap.size):
    ∃v' w',(Builtin.append_ #[41,3] ty #[v,.int .i64 11]).run Tryz.prog w=.ok v' w'∧aq w' base v' (z++List.replicate 11 0)∧w.grownBy w' v.ownBlock:=by
 obtain ⟨i0,hi,hz0,hz1,hz2⟩:=info_parts dp;have hzc:(Value.int IntKind.u8 0).cells= #[.int .u8 0]:=rfl;have hai:=fun wx=>xy Tryz.prog wx
 rcases hown.2 with ⟨_,h⟩|⟨g,cap,cur,rfl,hbg,hg,hnc,hcm,hcs,htake⟩
 · omega
 · rw [Nat.mul_one] at hcs htake
   by_cases hroom:z.length+11≤cap
   · have hst:=run_storeCells_at Tryz.prog g z.length 5 ((List.replicate 11 (0:Int)).map (Value.int .u8)) 0 cur w hg (by simp;omega) (by simp [Value.oneCell'])
     simp only [Nat.add_zero] at hst
     obtain ⟨N,hN⟩:∃q,(List.replicate 11 (0:Int)).map (Value.int .u8)=q:=⟨_,rfl⟩
     have hz11:Builtin.zeroCells #[.int .u8 0] 11=N.toArray:=by rw [←hN];exact uO
     have hNl:N.length=11:=by rw [←hN];rfl
     rw [hN] at hst
     have hr:(Builtin.append_ #[41,3] ty #[.slice (some ⟨g,0,none⟩) z.length cap,.int .i64 11]).run Tryz.prog w=.ok (.slice (some ⟨g,0,none⟩) (z.length+11) cap) (w.setRow g (cur.toList.take z.length++N++cur.toList.drop (z.length+N.length)).toArray):=by
      simp [Builtin.append_,run_underlying Tryz.underlying41,run_underlying Tryz.underlying3,sizeOf,typeInfo,zeroValue,hi,hz0,hz1,hz2,hai,wA,hzc,hz11,hroom,Addr.add_lit,hst]
     refine ⟨_,_,hr,⟨by simp,.inr ⟨g,cap,_,by simp,hbg,setRow_heap w g cur _ 5 _ hg,by simpa using hroom,hcm,?_,?_⟩⟩,⟨rfl,rfl,rfl,by simp,fun k _ hk=>setRow_other w g k _ (fun e=>hk (by simp [Value.ownBlock,e]))⟩⟩
     · simp only [List.size_toArray,List.length_append,List.length_take,List.length_drop,Array.length_toList]
       omega
     · rw [htake,List.map_append,hN]
       have:(z.map (Value.int .u8)++N).length=(z++List.replicate 11 0).length*1:=by simp [hNl]
       rw [←this];exact List.take_left
   · have holds:∀j u,(z.map (Value.int .u8))[j]?=some u→w.cell? ((⟨g,0,none⟩:Addr).add j)=some u:=hown.cells (g:=g) rfl
     have hfo:=run_firstCells_some (P:=Tryz.prog) w.drew 1 z.length ⟨g,0,none⟩ z.length cap (z.map (Value.int .u8)) (by simp) (by simpa using holds);have h63':¬(9223372036854775807<((z.length:Int)+11)):=by omega
     have h63b:¬(9223372036854775807<((z.length:Int)+max 11 0)):=by omega
     have hfit:=growslice_fits (need:=z.length+11) (old:=cap) (bytes:=1) (by omega) (by omega);have h48':¬(281474976710656<Builtin.nextslicecap (z.length+11) cap):=by omega
     obtain ⟨N,hN⟩:∃q,(List.replicate 11 (0:Int)).map (Value.int .u8)=q:=⟨_,rfl⟩
     have hz11:Builtin.zeroCells #[.int .u8 0] 11=N.toArray:=by rw [←hN];exact uO
     have hr:(Builtin.append_ #[41,3] ty #[.slice (some ⟨g,0,none⟩) z.length cap,.int .i64 11]).run Tryz.prog w=.ok (.slice (some ⟨w.heap.size,0,none⟩) (z.length+11) (grownCap w (z.length+11) cap 5)) (w.drew.alloc (.cells ((z.map (Value.int .u8)).toArray++N.toArray++Builtin.zeroCells #[.int .u8 0] (grownCap w (z.length+11) cap 5 - (z.length+11))) 5)):=by
      simp [Builtin.append_,run_underlying Tryz.underlying41,run_underlying Tryz.underlying3,sizeOf,typeInfo,zeroValue,hi,hz0,hz1,hz2,hai,wA,hzc,hz11,hroom,h63',h63b,h48',Question.forced,hfo,newRow,grownCap]
      congr 2
      apply Array.ext';simp [List.append_assoc]
     have hge:=grownCap_ge w (z.length+11) cap 5;have hcm':grownCap w (z.length+11) cap 5≤maxLen:=grownCap_le_maxLen w (z.length+11) cap 5 (by simp only [maxLen];omega);have hNl:N.length=11:=by rw [←hN];rfl
     refine ⟨_,_,hr,⟨by simp,.inr ⟨w.heap.size,_,_,by simp,hbase,heap_alloc_new w.drew _,by simpa using hge,hcm',?_,?_⟩⟩,⟨rfl,rfl,rfl,by simp,fun k hk _=>Below.heap_alloc w.drew _ k hk⟩⟩
     · simp only [Array.size_append,List.size_toArray,size_zeroCells,List.length_map,hNl]
       simp;omega
     · simp only [Array.toList_append,List.append_assoc,List.map_append,hN]
       rw [←List.append_assoc];have:(z.map (Value.int .u8)++N).length=(z++List.replicate 11 0).length*1:=by simp [hNl]
       rw [←this];exact List.take_left
theorem kY {w:World} {ops:Array Oper} {rest:List Oper} {o:Oper} {a:Act} {Q:Exit→Act→World→Prop} (hgd:o.guard=none) (s x:Operand)
    (ho:o.op=.call {callee:=.builtin .append,args:= #[s,x],argTypes:= #[41,3]}) (base:Nat) (v:Value) (zs:List Int) (hs:a.eval s=v) (hown:aq w base v zs)
    (hx:a.eval x=.int .i64 11) (h0:0<zs.length) (hln:zs.length≤4000000) (hbase:base≤w.heap.size)
    (h:∀v' w',aq w' base v' (zs++List.replicate 11 0)→w.grownBy w' v.ownBlock→wpList Tryz.prog ops Q rest (a.put o.dst v') w'):wpList Tryz.prog ops Q (o::rest) a w:=
 wpList_plain hgd fun _ hK=>by
  obtain ⟨v',w',hr,h2,h3⟩:=mK w base v zs o.type hown h0 hln hbase;unfold Oper.wp execOp;simp only [ho,resolve,invoke,builtin,Sem.run_bind,Sem.run_pure,Result.andThen_ok,List.map_toArray,List.map_cons,List.map_nil,hs,hx,hr];exact hK _ _ (h v' w' h2 h3)
open Go Go.RowKit
section
variable {P:Program} {ops:Array Oper} {Q:Exit→Act→World→Prop} {md:Region.Mode} {S:World→Prop} {D:Nat}
end
theorem CellsAt.far2 {w w':World} {g:Nat} {t:TypeId} {cs:List Value} (h:CellsAt w g t cs) (hb:Below w.heap.size w w'):CellsAt w' g t cs:=by
 have hl:=h.lt;unfold CellsAt at h ⊢;rw [hb.block g hl];exact h
set_option maxHeartbeats 8000000
theorem CellsAt.grown2 {w w':World} {base g:Nat} {v:Value} {z:List Int} {t:TypeId} {cs:List Value} (h:CellsAt w g t cs) (ho:aq w base v z) (hg:w.grownBy w' v.ownBlock) (ht:t≠5):CellsAt w' g t cs:=nZ ho hg h ht
theorem o4 (P:List Int) (j:Nat) (hj:j<P.length):bQ (P.take (j+1))=bQ (P.take j)++be4 (P[j]?.getD 0):=by
 unfold bQ;rw [List.take_succ_eq_append_getElem hj,List.map_append,List.flatten_append,List.getElem?_eq_getElem hj];simp
theorem rn (l:List Int):(bQ l).length=4*l.length:=by
 induction l with
 |nil=>rfl
 |cons a l ih=>
  unfold bQ at ih ⊢
  rw [List.map_cons,List.flatten_cons,List.length_append,ih,dE,List.length_cons];omega
theorem xD (E:Ev):(E.cells.drop 0).take 2=dotC E.da E.ds:=rfl
theorem vv (E:Ev) (h:E.past.length=8):(E.cells.drop 11).take 2=dotC E.pa E.ps:=by
 rw [show 11=10+1 from rfl,←List.drop_drop,dd,List.drop_left' (gD E h)];rfl
theorem n9 (E:Ev) (w:World) (hE:E.past.length=8):
    Calls Tryz.prog 41 #[.agg E.cells.toArray] w fun e w'=>∃v,e=.returned v∧aq w' w.heap.size v (aL E)∧Below w.heap.size w w':=by
 have kD0:∀w',CellsAt w' w.heap.size 33 E.cells→w'.rangeAt w.heap.size 0 (dotC E.da E.ds):=fun w' h=>by
  have:=h.range 0 2;rw [xD] at this
  exact this
 have kD11:∀w',CellsAt w' w.heap.size 33 E.cells→w'.rangeAt w.heap.size 11 (dotC E.pa E.ps):=fun w' h=>by
  have:=h.range 11 2;rw [vv E hE] at this
  exact this
 have kC:∀w',CellsAt w' w.heap.size 33 E.cells→w'.cell? ⟨w.heap.size,10,none⟩=some (.int .u8 E.kind)∧w'.cell? ⟨w.heap.size,13,none⟩=some (.bool E.right)∧w'.cell? ⟨w.heap.size,14,none⟩=some (.int .u8 E.char)∧w'.cell? ⟨w.heap.size,15,none⟩=some (.int .u8 E.who)∧w'.cell? ⟨w.heap.size,16,none⟩=some (.int .u8 E.role):=fun w' h=>
  ⟨by rw [h.cell,fE E hE 10 (by decide)];rfl,by rw [h.cell,fE E hE 13 (by decide)];rfl,by rw [h.cell,fE E hE 14 (by decide)];rfl,by rw [h.cell,fE E hE 15 (by decide)];rfl,by rw [h.cell,fE E hE 16 (by decide)];rfl⟩
 have kP:∀w' (j:Nat),j<8→CellsAt w' w.heap.size 33 E.cells→w'.cell? ⟨w.heap.size,2+j,none⟩=some (.int .u32 (E.past[j]?.getD 0)):=fun w' j hj h=>by rw [h.cell,qg E hE j hj]
 have HE:ac (E.past.length=8):=⟨hE⟩
 have HD0:ac (∀w',CellsAt w' w.heap.size 33 E.cells→w'.rangeAt w.heap.size 0 (dotC E.da E.ds)):=⟨kD0⟩
 have HD11:ac (∀w',CellsAt w' w.heap.size 33 E.cells→w'.rangeAt w.heap.size 11 (dotC E.pa E.ps)):=⟨kD11⟩
 have HKC:ac (∀w',CellsAt w' w.heap.size 33 E.cells→w'.cell? ⟨w.heap.size,10,none⟩=some (.int .u8 E.kind)∧w'.cell? ⟨w.heap.size,13,none⟩=some (.bool E.right)∧w'.cell? ⟨w.heap.size,14,none⟩=some (.int .u8 E.char)∧w'.cell? ⟨w.heap.size,15,none⟩=some (.int .u8 E.who)∧w'.cell? ⟨w.heap.size,16,none⟩=some (.int .u8 E.role)):=⟨kC⟩
 have HKP:ac (∀w' (j:Nat),j<8→CellsAt w' w.heap.size 33 E.cells→w'.cell? ⟨w.heap.size,2+j,none⟩=some (.int .u32 (E.past[j]?.getD 0))):=⟨kP⟩
 clear kD0 kD11 kC kP;have uD:=Tryz.underlying26;have iD:=sizeDot;have hD0:=CellsAt.new w 33 E.cells;have hB0:Below w.heap.size w (w.alloc (.cells E.cells.toArray 33)):=(Below.refl _ _).alloc (Nat.le_refl _) _;clear hE;go_enter Tryz.func41,Tryz.ntmps41;go_upto_region 1 with fail
 refine af (p:=fun y=>Code.wp _ _ _ _ y) (fun W0=>Below w.heap.size w W0∧CellsAt W0 w.heap.size 33 E.cells) ⟨hB0,hD0⟩ ?_;clear hB0 hD0;rintro W0 ⟨hB0,hD0⟩;have rD:=HD0.out _ hD0;have hdt:=gB E.da E.ds W0;have hdl:=bI E.da E.ds;obtain ⟨DL,hDL⟩:∃q,ei E.da E.ds=q:=⟨_,rfl⟩
 have HDL:ac (ei E.da E.ds=DL):=⟨hDL⟩
 rw [hDL] at hdt hdl
 clear hDL;go_upto_region 2 with (first
  |(refine ae rfl 26 _ rfl _ _ rfl (dotC E.da E.ds) rD uD rfl iD ?_)
  |(go_at_call 87;refine hdt.mono ?_;rintro e w1 ⟨v1,rfl,ho1,hb1⟩))
 have hD1:=hD0.far2 hb1;have hB1:=hB0.trans (hb1.mono hB0.size);have hO1:=ho1.lessG (base':=w.heap.size) hB0.size;clear rD hdt hB0 hD0 ho1 hb1
 go_wp2_with fail
 go_loopw [3,4] (fun v q wr=>∃j:Nat,j≤8∧q=.int .i64 j∧aq wr w.heap.size v (DL++bQ (E.past.take j))∧CellsAt wr w.heap.size 33 E.cells∧Below w.heap.size w wr) (fun _ q _=>8 - (intOf q).toNat)
 case atStart=>exact ⟨0,by omega,rfl,by simpa [bQ] using hO1,hD1,hB1⟩
 case round=>
  clear hO1 hD1 hB1;obtain ⟨j,hj,rfl,hO1,hD1,hB1⟩:=hrel;obtain ⟨x1,n1,c1,hv1,hn1⟩:=hO1.isSlice;subst hv1;clear hn1;have hlen:(DL++bQ (E.past.take j)).length≤100:=by rw [List.length_append,rn,List.length_take,hdl];have:=HE.out;omega
  by_cases hlt:j<8
  · have cj:=HKP.out wr j hlt hD1
    have hts:=o4 E.past j (by have:=HE.out;omega);obtain ⟨V,hV⟩:∃q,E.past[j]?.getD 0=q:=⟨_,rfl⟩
    rw [hV] at cj hts
    have HTS:ac (DL++bQ (E.past.take j)++be4 V=DL++bQ (E.past.take (j+1))):=⟨by rw [hts,List.append_assoc]⟩
    have hf:=gX V wr;have hfl:=dE V;obtain ⟨N4,hN4⟩:∃q,be4 V=q:=⟨_,rfl⟩
    rw [hN4] at hf hfl HTS
    obtain ⟨A,hA⟩:∃q,DL++bQ (E.past.take j)=q:=⟨_,rfl⟩
    rw [hA] at hO1 hlen HTS
    have hj0:(0:Int)≤(j:Int):=by omega
    have hj8:(j:Int)<8:=by omega
    clear hts hV hN4 hA
    go_wp2_with (first
     |(go_at_call 88;refine hf.mono ?_;rintro e w2 ⟨v2,rfl,ho2,hb2⟩;obtain ⟨x2,n2,c2,rfl,hn2⟩:=ho2.isSlice;have hy2:=ho2.bytes.2;rw [hfl] at hn2;subst hn2;have hO2:=hO1.afarW hb2;have hB2:=hB1.trans (hb2.mono hB1.size))
     |(at_builtin;refine aF rfl _ _ rfl w.heap.size _ A rfl hO2 x2 4 c2 N4 rfl hy2 (by omega) hB2.size ?_;intro v3 w3 ho3 hg3))
    have hD3:=(hD1.far2 hb2).grown2 hO2 hg3 (by decide);have hB3:Below w.heap.size w w3:=below_grown hB2 hO2 hg3 hB2.size;rw [HTS.out] at ho3
    go_roundw
    case rel=>exact ⟨j+1,by omega,by go_num,ho3,hD3,hB3⟩
    case measure=>simp [intOf];omega
  · obtain rfl:j=8:=by omega
    have hP8:E.past.take 8=E.past:=List.take_of_length_le (by have:=HE.out;omega);rw [hP8] at hO1 hlen
    obtain ⟨A,hA⟩:∃q,DL++bQ E.past=q:=⟨_,rfl⟩
    have HA:ac (DL++bQ E.past=A):=⟨hA⟩
    rw [hA] at hO1 hlen
    clear hP8 hA;have hdt:=fun wx=>gB E.pa E.ps wx
    have hdl2:=bI E.pa E.ps;obtain ⟨DP,hDP⟩:∃q,ei E.pa E.ps=q:=⟨_,rfl⟩
    have HDP:ac (ei E.pa E.ps=DP):=⟨hDP⟩
    rw [hDP] at hdt hdl2
    clear hDP;go_upto_region 6 with fail
    refine ag (fun w'=>w'.cell? ⟨w.heap.size,10,none⟩=some (.int .u8 E.kind)∧w'.rangeAt w.heap.size 11 (dotC E.pa E.ps)) 9 (by kernel_rfl) ?_;obtain ⟨D0,hD0⟩:∃q,wr.drew=q:=⟨_,rfl⟩
    have hb0:Below wr.heap.size wr D0:=by rw [←hD0];exact (Below.refl _ _).drew
    rw [hD0];have hB2:=hB1.trans (hb0.mono hB1.size);have hD2:=hD1.far2 hb0;have hO2:=hO1.afarW hb0;clear hD0 hb0 hB1 hD1 hO1;have kS:∀w',CellsAt w' w.heap.size 33 E.cells→w'.cell? ⟨w.heap.size,10,none⟩=some (.int .u8 E.kind)∧w'.rangeAt w.heap.size 11 (dotC E.pa E.ps):=fun w' h=>⟨(HKC.out w' h).1,HD11.out w' h⟩
    have HKS:=ac.mk kS;have hS:=kS _ hD2;clear kS;refine gaA 0 _ hS ?_;simp only [zp];refine gaA 1 _ hS ?_;simp only [zp];refine grA 2 _ hS ?_;simp only [zp];refine gaA 5 _ hS ?_;simp only [zp];refine zg 6 26 26 25 w.heap.size 11 (dotC E.pa E.ps) hS (fun _ h=>h.2) uD iD ?_;simp only [zp];refine zw 3 fun K hK=>?_
    go_simp;have hO3:=hO2.alloc (.cells (row .u8 [E.kind]) 5);have hD3:=hD2.alloc (.cells (row .u8 [E.kind]) 5);have hB3:=hB2.alloc hB2.size (.cells (row .u8 [E.kind]) 5);have hy3:=br D0 [E.kind] (by simp);replace hS:=HKS.out _ hD3;refine hK.out _ _ (fun _=>hS) ?_;clear hK K;obtain ⟨G3,hG3⟩:∃q,D0.heap.size=q:=⟨_,rfl⟩
    obtain ⟨U3,hU3⟩:∃q,D0.alloc (.cells (row .u8 [E.kind]) 5)=q:=⟨_,rfl⟩
    have hc3:D0.alloc (.cells #[.int .u8 E.kind] 5)=U3:=hU3;rw [hU3] at hO3 hD3 hB3 hy3
    rw [hG3] at hy3
    rw [hc3,hG3];clear hU3 hc3 hG3 hO2 hD2 hB2;refine zw 4 fun K hK=>?_
    refine dV _ _ rfl w.heap.size _ A rfl hO3 (some ⟨G3,0,none⟩) 1 1 [E.kind] rfl hy3 (by omega) hB3.size ?_;intro v4 w4 ho4 hg4;have hD4:=hD3.grown2 hO3 hg4 (by decide);have hB4:Below w.heap.size w w4:=below_grown hB3 hO3 hg4 hB3.size;replace hS:=HKS.out _ hD4;clear hg4 hO3 hD3 hB3 hy3;refine hK.out _ _ (fun _=>hS) ?_;clear hK K;refine zw 7 fun K hK=>?_
    go_wp2_with (go_at_call 87;refine (hdt _).mono ?_;rintro e w5 ⟨v5,rfl,ho5,hb5⟩)
    obtain ⟨x5,n5,c5,rfl,hn5⟩:=ho5.isSlice;have hy5:=ho5.bytes.2;rw [hdl2] at hn5
    subst hn5;have hO5:=ho4.afarW hb5;have hD5:=hD4.far2 hb5;have hB5:=hB4.trans (hb5.mono hB4.size);clear ho4 hD4 hB4 hb5 ho5;replace hS:=HKS.out _ hD5;refine hK.out _ _ (fun _=>hS) ?_;clear hK K;refine zw 8 fun K hK=>?_
    refine dV _ _ rfl w.heap.size _ (A++ [E.kind]) rfl hO5 x5 5 c5 DP rfl hy5 (by rw [List.length_append];simp;omega) hB5.size ?_;intro v6 w6 ho6 hg6;have hD6:=hD5.grown2 hO5 hg6 (by decide);have hB6:Below w.heap.size w w6:=below_grown hB5 hO5 hg6 hB5.size;replace hS:=HKS.out _ hD6;clear hg6 hO5 hD5 hB5 hy5;refine hK.out _ _ (fun _=>hS) ?_;clear hK K;refine zw 9 fun K hK=>?_
    go_simp;refine hK.out _ _ zn ?_;clear hK K;refine al (by kernel_rfl) ?_ _;have hl6:(A++ [E.kind]++DP).length≤200:=by rw [List.length_append,List.length_append];simp;omega
    have h06:0<(A++ [E.kind]++DP).length:=by rw [List.length_append,List.length_append,hdl2];omega
    obtain ⟨A6,hA6⟩:∃q,A++ [E.kind]++DP=q:=⟨_,rfl⟩
    have HA6:ac (A++ [E.kind]++DP=A6):=⟨hA6⟩
    rw [hA6] at ho6 hl6 h06
    clear hA6 hS HKS hdt;obtain ⟨_,q13,q14,q15,q16⟩:=HKC.out _ hD6;have hy7:=br w6 [dU E.right,E.char,E.who,E.role] (by simp);have hO7:aq (w6.alloc (.cells (row .u8 [dU E.right,E.char,E.who,E.role]) 5)) w.heap.size v6 A6:=ho6.alloc _;have hB7:=hB6.alloc hB6.size (.cells (row .u8 [dU E.right,E.char,E.who,E.role]) 5);have HEND:ac (A6++ [dU E.right,E.char,E.who,E.role]++List.replicate 11 0=aL E):=⟨by
     rw [←HA6.out,←HA.out,←HDL.out,←HDP.out];unfold aL;simp only [List.append_assoc,List.cons_append,List.nil_append]⟩
    obtain ⟨x6,n6,c6,rfl,hn6⟩:=ho6.isSlice;clear hn6;cases hr:E.right with
    |true=>
     rw [hr] at q13 hy7 hO7 hB7 HEND
     clear hr;go_upto_region 11 with (at_builtin;refine aF rfl _ _ rfl w.heap.size _ A6 rfl hO7 (some ⟨w6.heap.size,0,none⟩) 4 4 [dU true,E.char,E.who,E.role] rfl hy7 (by omega) hB7.size ?_;intro v8 w8 ho8 hg8)
     have hB8:Below w.heap.size w w8:=below_grown hB7 hO7 hg8 hB7.size
     go_wp2_with (at_builtin;refine kY rfl _ _ rfl w.heap.size _ _ rfl ho8 rfl (by rw [List.length_append];omega) (by rw [List.length_append];simp;omega) hB8.size ?_;intro v9 w9 ho9 hg9)
     go_ret;rw [HEND.out] at ho9
     exact ⟨_,rfl,ho9,below_grown hB8 ho8 hg9 hB8.size⟩
    |false=>
     rw [hr] at q13 hy7 hO7 hB7 HEND
     clear hr;go_upto_region 11 with (at_builtin;refine aF rfl _ _ rfl w.heap.size _ A6 rfl hO7 (some ⟨w6.heap.size,0,none⟩) 4 4 [dU false,E.char,E.who,E.role] rfl hy7 (by omega) hB7.size ?_;intro v8 w8 ho8 hg8)
     have hB8:Below w.heap.size w w8:=below_grown hB7 hO7 hg8 hB7.size
     go_wp2_with (at_builtin;refine kY rfl _ _ rfl w.heap.size _ _ rfl ho8 rfl (by rw [List.length_append];omega) (by rw [List.length_append];simp;omega) hB8.size ?_;intro v9 w9 ho9 hg9)
     go_ret;rw [HEND.out] at ho9
     exact ⟨_,rfl,ho9,below_grown hB8 ho8 hg9 hB8.size⟩
end Go.Proofs.YtbdhfbglagdiaaaGreatDoor
