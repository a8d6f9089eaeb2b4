/- Ph Pw -/
import Derived.Test.YtbdhfbglagdiaaaGreatDoorJ13
import Derived.Test.YtbdhfbglagdiaaaGreatDoorJ12
namespace Go.Proofs.YtbdhfbglagdiaaaGreatDoor
open Go.RowKit Go.Shelf
set_option maxRecDepth 100000
set_option maxHeartbeats 4000000
set_option linter.unusedSimpArgs false
attribute [local go_sem] Oper.semAt_some
theorem pk:(Tryz.prog.info? 23).map (·.size)=some 32:=by kernel_rfl
theorem yf:(Tryz.prog.info? 196).map (·.size)=some 10:=by kernel_rfl
def cM (k:List Int):List Int:=List.replicate 5 0++gQ (bM k++ [0])
theorem mL (k:List Int):(cM k).length=10:=by unfold cM;rw [List.length_append,fl,List.length_replicate]
def eS (z:List Int) (is:List Nat) (L:List Int):List Int:=is.foldl (fun L i=>gO L (cV z i)) L
theorem oh (L:List Int):(ic L).length=L.length:=by
 unfold ic
 extract_lets C C2 C3
 rw [List.length_set,List.length_set,List.length_set,List.length_set,carryK_length]
theorem mA (L m:List Int) (h:5≤L.length):(fQ L m).length=L.length:=by
 have h1:=oh (eM L m 5++L.drop 5);rw [List.length_append,fP,List.length_drop] at h1
 have h2:(fQ L m).length=5+(L.length - 5):=h1;omega
theorem nR (L z:List Int) (h:5≤L.length):(gO L z).length=L.length:=by
 have h1:=addK_length L (gQ z) 5;have h2:(gO L z).length=(addK L (gQ z) 5).length:=mA (addK L (gQ z) 5) ((L.drop 5).take 5) (by rw [h1];exact h);rw [h2,h1]
theorem jL (z:List Int) (is:List Nat) (L:List Int) (h:L.length=10):(eS z is L).length=10:=by
 induction is generalizing L with
 |nil=>exact h
 |cons i is ih=>
  have h2:(gO L (cV z i)).length=10:=(nR L (cV z i) (by omega)).trans h;unfold eS at ih ⊢
  rw [List.foldl_cons];exact ih _ h2
theorem qS (z:List Int) (is:List Nat) (i:Nat) (L:List Int):eS z (is++ [i]) L=gO (eS z is L) (cV z i):=by simp [eS]
def fk (k z:List Int):List Int:=ie (eS z (List.range ((z.length+15) / 16)) (cM k)) (k.drop 16)
theorem cT (k z:List Int):(fk k z).length=16:=jd _ _
theorem cH {W W':World} {row:Option Nat} {g:Nat} {k:IntKind} {t:TypeId} {l:List Int} (h:aa W g k t l) (hg:W.grownBy W' row) (hrow:∀r,row=some r→∃o:Obj,W.heap[r]?=some o∧o.isCells=false):aa W' g k t l:=by
 have hl:=h.lt;unfold aa at h ⊢
 rw [hg.block g hl (fun e=>by
  obtain ⟨o,ho,hc⟩:=hrow g e.symm;rw [h] at ho
  cases ho;cases hc)]
 exact h
theorem jI {W W':World} {g:Nat} {cs:Array Value} {t:TypeId} {fr:Nat×Nat} (h:W.grownBy W' (some g)) (hg:W.heap[g]?=some (.cells cs t fr)):KeepsOthers W W':=
 ⟨h.size,fun k o hk ho=>by
  rw [←hk];refine h.block k (Array.getElem?_eq_some_iff.1 hk).1 (fun e=>?_);cases e;rw [hg] at hk
  cases hk;cases ho⟩
section
variable {P:Program} {F:Fence} {n:Nat}
theorem nI {ops:Array Oper} {rest:List Oper} {o:Oper} {a:Act} {w:World} {Q:Exit→Act→World→Prop} (hgd:o.guard=none) (ty:TypeId) (x:Operand) (ho:o.op=.load ty x)
    (b off:Nat) (hx:a.eval x=.pointer (some ⟨b,off,none⟩)) (cs:List Value) (d:TypeDesc) (hc:w.rangeAt b off cs) (hu:P.underlying ty=some d) (hd:d.isRow=true) (hi:(P.info? ty).map (·.size)=some cs.length)
    (h:wpListIn F n P ops Q rest (a.put o.dst (.agg cs.toArray)) w):wpListIn F n P ops Q (o::rest) a w:=by
 refine wpListIn_plain hgd fun K hK'=>?_
 unfold Oper.wpIn;refine ⟨?_,?_⟩
 · simp [Oper.about,ho]
 · rw [Oper.semAt_plain F _ _ (by rw [ho];intro c hc';cases hc')]
   simp only [execOp,ho,hx,Instr.loadAt,Instr.sureAddr,Sem.run_bind,Sem.run_pure,Result.andThen_ok,run_loadVar_mid (P:=P) w b off ty cs d hc hu hd hi];exact hK' _ _ h
end
theorem xi (k:List Int) (x:Option Addr) (len cap:Nat) (z:List Int) (w:World) (hk:k.length=32) (hbz:Bytes w x len cap z) (hln:len≤1000000):
    CallsIn Fence.wide 3 Tryz.prog 121 #[.agg (row .u8 k),.slice x len cap] w fun e w'=>e=.returned (.agg (row .u8 (fk k z)))∧Below w.heap.size w w':=by
 have HZ:ac (len=z.length):=⟨hbz.len_eq⟩
 have hcl:=dx k hk;have hcb:(bM k++ [0]).length=17:=by rw [List.length_append,hcl];rfl
 have hcm:=fun wx=>tI k wx hk
 have hba:=fun wx=>o5 (bM k) wx hcl
 have hnu:=fun wx=>gJ (bM k++ [0]) wx hcb
 have hnl:=fl (bM k++ [0]);have HA:ac (cM k=List.replicate 5 0++gQ (bM k++ [0])):=⟨rfl⟩
 have hA10:=mL k;obtain ⟨C0,hC0⟩:∃q,bM k=q:=⟨_,rfl⟩
 rw [hC0] at hcm hba hnu hnl HA hcl
 obtain ⟨M,hM⟩:∃q,gQ (C0++ [0])=q:=⟨_,rfl⟩
 rw [hM] at hnu hnl HA
 have h0:aa (w.alloc (.cells (row .u8 k) 23)) w.heap.size .u8 23 k:=aa.new w .u8 _ k;obtain ⟨m0,m1,m2,m3,m4,hM5⟩:=vx hnl;rw [hM5] at hnu HA
 have hnu':∀wx,Calls Tryz.prog 153 #[.agg (row .u8 (C0++ [0]))] wx fun e w'=>e=.returned (.agg #[.int .u64 m0,.int .u64 m1,.int .u64 m2,.int .u64 m3,.int .u64 m4])∧Below wx.heap.size wx w':=hnu
 have hA0:cM k=[0,0,0,0,0,m0,m1,m2,m3,m4]:=HA.out;have HP:ac (fk k z=ie (eS z (List.range ((len+15) / 16)) (cM k)) (k.drop 16)):=⟨by unfold fk;rw [HZ.out]⟩
 have hpl:=cT k z;have hsl:(k.drop 16).length=16:=by rw [List.length_drop];omega
 have hat:∀(b off cap:Nat) (wx:World),(Instr.arrayAt 119 (.slice (some ⟨b,off,none⟩) 16 cap)).run Tryz.prog wx=.ok (.pointer (some ⟨b,off,none⟩)) wx:=fun b off cap wx=>run_arrayAt wx 119 _ 16 _ 16 cap Tryz.underlying119 (by omega)
 clear hC0 hM hcb hM5 hnl hnu HA;refine callsIn_of_wp_marks Tryz.func121 rfl trivial ?_ rfl;simp only [Tryz.ntmps121,List.size_toArray,List.length_cons,List.length_nil,Nat.reduceAdd,Nat.reduceSub,Array.replicate_succ,Array.replicate_zero,List.push_toArray,List.append_toArray,List.nil_append,List.cons_append];have hHA0:ac (cM k=[0,0,0,0,0,m0,m1,m2,m3,m4]):=⟨hA0⟩
 clear hA0
 gi_wp2_with (first
  |(refine g8 rfl 23 _ rfl _ rfl (h0.alloc _) Tryz.underlying23 pk hk ?_)
  |(refine ⟨trivial,?_⟩;gi_at_call 155;refine (callsIn_wide.2 (hcm _)).mono ?_;rintro e w1 ⟨rfl,hb1⟩)
  |(refine ⟨trivial,?_⟩;gi_at_call 154;refine (callsIn_wide.2 (hba _)).mono ?_;rintro e w2 ⟨rfl,hb2⟩)
  |(refine ⟨trivial,?_⟩;gi_at_call 153;refine (callsIn_wide.2 (hnu' _)).mono ?_;rintro e w3 ⟨rfl,hb3⟩;have hN3:=aa.new w3 .u64 196 (List.replicate 10 0))
  |(refine gv rfl 196 _ _ rfl _ rfl (k:=.u64) (l:=[0,0,0,0,0,m0,m1,m2,m3,m4]) rfl hN3 yf rfl ?_)
  |(refine ⟨trivial,?_⟩;gi_at_call 156;refine (callsIn_wide.2 (pK _ _ _ _)).mono ?_;rintro e w4 ⟨rfl,rfl⟩))
 have hW0:Below w.heap.size w ((w.alloc (.cells (row .u8 k) 23)).alloc (.cells (row .u8 (List.replicate 16 0)) 120)):=((Below.refl _ _).alloc (Nat.le_refl _) _).alloc (by simp) _;have hR0:aa ((w.alloc (.cells (row .u8 k) 23)).alloc (.cells (row .u8 (List.replicate 16 0)) 120)) (w.heap.size+1) .u8 120 (List.replicate 16 0):=by
  have:=aa.new (w.alloc (.cells (row .u8 k) 23)) .u8 120 (List.replicate 16 0);rw [World.size_alloc] at this
  exact this
 have hK0:=h0.alloc (.cells (row .u8 (List.replicate 16 0)) 120);have hb13:Below ((w.alloc (.cells (row .u8 k) 23)).alloc (.cells (row .u8 (List.replicate 16 0)) 120)).heap.size ((w.alloc (.cells (row .u8 k) 23)).alloc (.cells (row .u8 (List.replicate 16 0)) 120)) w3:=hb1.trans ((hb2.trans (hb3.mono hb2.size)).mono hb1.size);have hR3:=hR0.below hb13 hR0.lt;have hK3:=hK0.below hb13 hK0.lt;have hB3:Below w.heap.size w w3:=hW0.trans (hb13.mono hW0.size);have hs3:w.heap.size+1<w3.heap.size:=hR3.lt;refine af (p:=fun y=>Code.wpIn _ _ _ _ _ _ y) (fun V=>Below w.heap.size w V∧aa V w3.heap.size .u64 196 (cM k)∧aa V (w.heap.size+1) .u8 120 (List.replicate 16 0)∧aa V w.heap.size .u8 23 k∧V.cell? ⟨w3.heap.size+1,0,none⟩=some (.slice x len cap)∧V.heap.size=w3.heap.size+1+1)
  ⟨(below_setRow (hB3.alloc hB3.size _) hB3.size _).alloc (by simp;omega) _,by rw [hHA0.out];exact (hN3.setRow _).alloc _,((hR3.alloc _).setRowOther _ (by omega)).alloc _,((hK3.alloc _).setRowOther _ (by omega)).alloc _,?_,by simp⟩ ?_
 · have hh:=World.alloc_heap_new ((w3.alloc (.cells (row .u64 (List.replicate 10 0)) 196)).setRow w3.heap.size (row .u64 [0,0,0,0,0,m0,m1,m2,m3,m4])) (.cells #[.slice x len cap] 41)
   have hsz:((w3.alloc (.cells (row .u64 (List.replicate 10 0)) 196)).setRow w3.heap.size (row .u64 [0,0,0,0,0,m0,m1,m2,m3,m4])).heap.size=w3.heap.size+1:=by simp
   rw [hsz] at hh
   exact (cell_of_row _ (w3.heap.size+1) 0 _ 41 (0,0) hh).trans rfl
 clear hW0 hR0 hK0 hb13 hR3 hK3 hB3 hb1 hb2 hb3 hN3 h0 hcm hba hnu';rintro V ⟨hBV,hAV,hRV,hKV,hcV,hsV⟩;obtain ⟨ab,hab⟩:∃q,w3.heap.size=q:=⟨_,rfl⟩
 rw [hab] at hAV hcV hsV hs3 ⊢
 clear hab;have hT:∀b off,x=some ⟨b,off,none⟩→0<len→b<w.heap.size:=fun b off hx hl=>by
  rcases hbz.at_ with h|⟨b',off',hx',hc⟩
  · omega
  · rw [hx] at hx'
    cases hx';exact block_lt_of_cell (hc 0 hl)
 refine la (by omega) (gf:=172) (lb:= #[.pointer (some ⟨ab+1,0,none⟩)]) rfl (enters_of Tryz.func172 (by kernel_rfl) rfl)
  (qw (3 - 1) (by omega) (ab+1) w.heap.size x len cap z ((len+15) / 16) rfl hln V (by omega) hcV (hbz.below hBV) hT hBV.size) (fun _=>rfl)
  (fun pre W=>(aa W ab .u64 196 (eS z (pre.map (·.1)) (cM k))∧aa W (w.heap.size+1) .u8 120 (List.replicate 16 0)∧aa W w.heap.size .u8 23 k∧ab+1+1≤W.heap.size)∧Below w.heap.size w W)
  (OwnFrom.and (Own.from (fun s A B row hs hg hr=>⟨cH hs.1 hg hr,cH hs.2.1 hg hr,cH hs.2.2.1 hg hr,Nat.le_trans hs.2.2.2 hg.size⟩) _) (ownFrom_below (Nat.le_refl _) hBV.size))
  ⟨⟨hAV,hRV,hKV,by omega⟩,hBV⟩ ?round ?done
 case round=>
  rintro l r pre i W hl ⟨⟨hA,hR,hK,hW⟩,hB⟩ _ hlr;have hbl:=fv z i.1;have hfl:=jL z (pre.map (·.1)) (cM k) hA10;have hsn:eS z (pre.map (·.1)++ [i.1]) (cM k)=gO (eS z (pre.map (·.1)) (cM k)) (cV z i.1):=qS _ _ _ _;obtain ⟨BL,hBL⟩:∃q,cV z i.1=q:=⟨_,rfl⟩
  rw [hBL] at hbl hsn ⊢
  obtain ⟨A,hAe⟩:∃q,eS z (pre.map (·.1)) (cM k)=q:=⟨_,rfl⟩
  rw [hAe] at hA hfl hsn
  have HSN:ac (eS z (pre.map (·.1)++ [i.1]) (cM k)=gO A BL):=⟨hsn⟩
  clear hsn hBL hAe;have hlW:l<W.heap.size:=(Array.getElem?_eq_some_iff.1 hlr).1;have hN:=aa.new W .u8 193 (List.replicate 17 0);have htk:=fun (wx:World) (hx:aa wx ab .u64 196 A)=>tp ab A BL wx hx hfl hbl
  dsimp only
  gi_wp2_with (refine gv rfl 193 _ _ rfl _ rfl (k:=.u8) (l:=BL) rfl hN (by rw [hbl];exact jn) (by simp [hbl]) ?_)
  refine ⟨⟨by simp,fun q o hq ho=>?_⟩,?_⟩
  · have hlt:=(Array.getElem?_eq_some_iff.1 hq).1
    rw [setRow_other _ _ _ _ (by omega),Below.heap_alloc W _ q hlt];exact hq
  have hl2:((W.alloc (.cells (row .u8 (List.replicate 17 0)) 193)).setRow W.heap.size (row .u8 BL)).heap[l]?=some (.loop r):=by
   rw [setRow_other _ _ _ _ (by omega),Below.heap_alloc W _ l hlW];exact hlr
  have hA2:aa ((W.alloc (.cells (row .u8 (List.replicate 17 0)) 193)).setRow W.heap.size (row .u8 BL)) ab .u64 196 A:=(hA.alloc _).setRowOther _ (by omega);have hR2:aa ((W.alloc (.cells (row .u8 (List.replicate 17 0)) 193)).setRow W.heap.size (row .u8 BL)) (w.heap.size+1) .u8 120 (List.replicate 16 0):=(hR.alloc _).setRowOther _ (by omega);have hK2:aa ((W.alloc (.cells (row .u8 (List.replicate 17 0)) 193)).setRow W.heap.size (row .u8 BL)) w.heap.size .u8 23 k:=(hK.alloc _).setRowOther _ (by omega);have hN2:=hN.setRow BL;have hB2:Below w.heap.size w ((W.alloc (.cells (row .u8 (List.replicate 17 0)) 193)).setRow W.heap.size (row .u8 BL)):=below_setRow (hB.alloc hB.size _) hB.size _;have hgY:=grownBy_putObj' ((W.alloc (.cells (row .u8 (List.replicate 17 0)) 193)).setRow W.heap.size (row .u8 BL)) l (.loop {r with state:=.busy});have hcY:∀q,(some l:Option Nat)=some q→∃o:Obj,((W.alloc (.cells (row .u8 (List.replicate 17 0)) 193)).setRow W.heap.size (row .u8 BL)).heap[q]?=some o∧o.isCells=false:=fun q e=>by cases e;exact ⟨_,hl2,rfl⟩
  have hAY:=cH hA2 hgY hcY;have hRY:=cH hR2 hgY hcY;have hKY:=cH hK2 hgY hcY;have hNY:=cH hN2 hgY hcY;have hBY:Below w.heap.size w (((W.alloc (.cells (row .u8 (List.replicate 17 0)) 193)).setRow W.heap.size (row .u8 BL)).putObj l (.loop {r with state:=.busy})):=hB2.grown hgY (by have:=hB.size;simp;omega) (fun q e=>by cases e;have:=hBV.size;omega);have hYW:∀q,q<W.heap.size→q≠l→(((W.alloc (.cells (row .u8 (List.replicate 17 0)) 193)).setRow W.heap.size (row .u8 BL)).putObj l (.loop {r with state:=.busy})).heap[q]?=W.heap[q]?:=fun q hq hne=>by
   rw [World.putObj_heap_other (by omega),setRow_other _ _ _ _ (by omega),Below.heap_alloc W _ q hq]
  have hYs:(((W.alloc (.cells (row .u8 (List.replicate 17 0)) 193)).setRow W.heap.size (row .u8 BL)).putObj l (.loop {r with state:=.busy})).heap.size=W.heap.size+1:=by simp
  obtain ⟨Y,hY⟩:∃Y,((W.alloc (.cells (row .u8 (List.replicate 17 0)) 193)).setRow W.heap.size (row .u8 BL)).putObj l (.loop {r with state:=.busy})=Y:=⟨_,rfl⟩
  rw [hY] at hAY hRY hKY hNY hBY hYW hYs
  change Code.wpIn _ _ _ _ _ _ _;rw [show ((W.alloc (.cells #[.int .u8 0,.int .u8 0,.int .u8 0,.int .u8 0,.int .u8 0,.int .u8 0,.int .u8 0,.int .u8 0,.int .u8 0,.int .u8 0,.int .u8 0,.int .u8 0,.int .u8 0,.int .u8 0,.int .u8 0,.int .u8 0,.int .u8 0] 193)).setRow W.heap.size (row .u8 BL)).putObj l (.loop {r with state:=.busy})=Y from hY];simp only [Act.put];clear hY hgY hcY hA2 hR2 hK2 hN2 hB2 hl2 hN
  gi_wp2_with (first
   |(refine g8 rfl 193 _ rfl _ rfl hNY Tryz.underlying193 jn hbl ?_)
   |(refine ⟨trivial,?_⟩;gi_at_call 157;refine (CallsIn.inRound l (callsIn_wide.2 (htk _ hAY))).mono ?_;rintro e w4 ⟨⟨r4,rfl⟩,h4,g4⟩))
  have keep:∀{g':Nat} {kk:IntKind} {t:TypeId} {L:List Int},aa Y g' kk t L→g'≠ab→aa w4 g' kk t L:=fun {g' kk t L} hh hne=>by
   have hlt:=hh.lt;unfold aa at hh ⊢
   rw [g4.block g' hlt (by simp [hne])];exact hh
  have hs4:=g4.size;have hbs:=hBV.size;refine ⟨jI g4 hAY,fun o=>⟨?_,fun q hq=>?_,?_⟩,⟨by rw [HSN.out];exact h4,keep hRY (by omega),keep hKY (by omega),by omega⟩,hBY.grown g4 (by omega) (fun q e=>by cases e;omega)⟩
  · rw [World.putObj_heap_other (by omega),g4.block (ab+1) (by omega) (by simp),hYW (ab+1) (by omega) (by omega)]
  · rw [World.putObj_heap_other (by omega),g4.block q (by omega) (by simp;omega),hYW q (by omega) (by omega)]
  · simp;omega
 case done=>
  rintro D ys W hD rfl ⟨⟨hA,hR,hK,hW⟩,hB⟩ hKD;have hmap:(List.finRange ((len+15) / 16)).map (·.1)=List.range ((len+15) / 16):=by apply List.ext_getElem<;>simp
  rw [hmap] at hA
  have hfl:=jL z (List.range ((len+15) / 16)) (cM k) hA10;have htg:=fun (wx:World) (hx:aa wx ab .u64 196 (eS z (List.range ((len+15) / 16)) (cM k)))=>lj ab _ (k.drop 16) wx hx (by omega) hsl
  rw [←HP.out] at htg
  obtain ⟨A,hAe⟩:∃q,eS z (List.range ((len+15) / 16)) (cM k)=q:=⟨_,rfl⟩
  rw [hAe] at hA htg
  obtain ⟨PL,hPL⟩:∃q,fk k z=q:=⟨_,rfl⟩
  rw [hPL] at htg hpl
  have HPL:ac (fk k z=PL):=⟨hPL⟩
  have hrg:W.rangeAt w.heap.size 16 ((k.drop 16).map (Value.int .u8)):=by
   have:=hK.rangeM 16 16;rw [List.take_of_length_le (by omega)] at this
   exact this
  obtain ⟨SS,hSS⟩:∃q,k.drop 16=q:=⟨_,rfl⟩
  rw [hSS] at hrg hsl htg
  have iS:(Tryz.prog.info? 119).map (·.size)=some (SS.map (Value.int .u8)).length:=by rw [List.length_map,hsl];exact ej
  have htg':∀(wx:World),aa wx ab .u64 196 A→Calls Tryz.prog 158 #[.pointer (some ⟨ab,0,none⟩),.agg (SS.map (Value.int .u8)).toArray] wx fun e w'=>e=.returned (.agg (row .u8 PL))∧wx.grownBy w' (some ab):=htg
  have hDl:D<W.heap.size:=(Array.getElem?_eq_some_iff.1 hKD).1;clear hmap hAe hPL htg hfl hSS
  gi_wp2_with (first
   |(refine nI rfl 119 _ rfl w.heap.size 16 rfl (SS.map (Value.int .u8)) _ hrg Tryz.underlying119 rfl iS ?_)
   |(refine ⟨trivial,?_⟩;gi_at_call 158;refine (callsIn_wide.2 (htg' _ hA)).mono ?_;rintro e w5 ⟨rfl,g5⟩;have hR5:aa w5 (w.heap.size+1) .u8 120 (List.replicate 16 0):=(by have hlt:=hR.lt;unfold aa at hR ⊢;rw [g5.block _ hlt (by simp;omega)];exact hR))
   |(refine gv rfl 120 _ _ rfl _ rfl rfl hR5 (by rw [hpl];exact eD) (by simp [hpl]) ?_))
  have hbs:=hBV.size;have hK5:(w5.setRow (w.heap.size+1) (row .u8 PL)).heap[D]?=some (.deferred (some [])):=by
   rw [setRow_other _ _ _ _ (by omega),g5.block D hDl (by simp;omega)];exact hKD
  have hB5:Below w.heap.size w (w5.setRow (w.heap.size+1) (row .u8 PL)):=below_setRow (hB.grown g5 (by omega) (fun q e=>by cases e;omega)) (by omega) _;refine ⟨by simp,.inl ⟨_,_,rfl,run_takeDeferred hK5,?_⟩⟩;have hF:=cH (hR5.setRow PL) (grownBy_putObj' _ D (.deferred none)) (fun q e=>by cases e;exact ⟨_,hK5,rfl⟩);exact ⟨_,aj (Tryz.results121) _ rfl hF Tryz.underlying120 eD hpl,by rw [HPL.out],hB5.trans (belowK_b (w:=w) (Nat.le_refl _) _ D _ _ (by omega) hK5 rfl rfl)⟩
theorem uS (k:List Int) (x:Option Addr) (len cap:Nat) (z:List Int) (w:World) (hk:k.length=32) (hbz:Bytes w x len cap z) (hln:len≤1000000):
    Calls Tryz.prog 121 #[.agg (row .u8 k),.slice x len cap] w fun e w'=>e=.returned (.agg (row .u8 (fk k z)))∧Below w.heap.size w w':=callsIn_wide.1 (xi k x len cap z w hk hbz hln)
open Go
def isB (v:Int):Prop:=0≤v∧v≤255
def gN (a b c d e:Int):Prop:=(0≤a∧a<67108864)∧(0≤b∧b<67112960)∧(0≤c∧c<67108864)∧(0≤d∧d<67108864)∧(0≤e∧e<67108864)
def mP (a b c d e:Int):Prop:=(0≤a∧a<67108864)∧(0≤b∧b<67108864)∧(0≤c∧c<67108864)∧(0≤d∧d<67108864)∧(0≤e∧e<67108864)
theorem ue (x0 x1 x2 x3 x4 y0 y1 y2 y3 y4:Int) (R:List Int) (hx:(0≤x0∧x0<268435456)∧(0≤x1∧x1<268435456)∧(0≤x2∧x2<268435456)∧(0≤x3∧x3<268435456)∧(0≤x4∧x4<268435456)) (hy:mP y0 y1 y2 y3 y4):
    ∃r0 r1 r2 r3 r4 q,fQ (x0::x1::x2::x3::x4::R) [y0,y1,y2,y3,y4]=r0::r1::r2::r3::r4::R∧gN r0 r1 r2 r3 r4∧V5 x0 x1 x2 x3 x4*V5 y0 y1 y2 y3 y4=V5 r0 r1 r2 r3 r4+q*1361129467683753853853498429727072845819:=by
 obtain ⟨hx0,hx1,hx2,hx3,hx4⟩:=hx;obtain ⟨hy0,hy1,hy2,hy3,hy4⟩:=hy;have hp:=yD x0 x1 x2 x3 x4 y0 y1 y2 y3 y4;have ho:=yg x0 x1 x2 x3 x4 y0 y1 y2 y3 y4 R;have m00:=bL x0 y0 _ _ hx0 hy0;have m01:=bL x0 y1 _ _ hx0 hy1;have m02:=bL x0 y2 _ _ hx0 hy2;have m03:=bL x0 y3 _ _ hx0 hy3;have m04:=bL x0 y4 _ _ hx0 hy4;have m10:=bL x1 y0 _ _ hx1 hy0;have m11:=bL x1 y1 _ _ hx1 hy1;have m12:=bL x1 y2 _ _ hx1 hy2;have m13:=bL x1 y3 _ _ hx1 hy3;have m14:=bL x1 y4 _ _ hx1 hy4;have m20:=bL x2 y0 _ _ hx2 hy0;have m21:=bL x2 y1 _ _ hx2 hy1;have m22:=bL x2 y2 _ _ hx2 hy2;have m23:=bL x2 y3 _ _ hx2 hy3;have m24:=bL x2 y4 _ _ hx2 hy4;have m30:=bL x3 y0 _ _ hx3 hy0;have m31:=bL x3 y1 _ _ hx3 hy1;have m32:=bL x3 y2 _ _ hx3 hy2;have m33:=bL x3 y3 _ _ hx3 hy3;have m34:=bL x3 y4 _ _ hx3 hy4;have m40:=bL x4 y0 _ _ hx4 hy0;have m41:=bL x4 y1 _ _ hx4 hy1;have m42:=bL x4 y2 _ _ hx4 hy2;have m43:=bL x4 y3 _ _ hx4 hy3;have m44:=bL x4 y4 _ _ hx4 hy4;simp only [Int.mul_assoc] at hp ho
 generalize x0*y0=a00 at*
 generalize x0*y1=a01 at*
 generalize x0*y2=a02 at*
 generalize x0*y3=a03 at*
 generalize x0*y4=a04 at*
 generalize x1*y0=a10 at*
 generalize x1*y1=a11 at*
 generalize x1*y2=a12 at*
 generalize x1*y3=a13 at*
 generalize x1*y4=a14 at*
 generalize x2*y0=a20 at*
 generalize x2*y1=a21 at*
 generalize x2*y2=a22 at*
 generalize x2*y3=a23 at*
 generalize x2*y4=a24 at*
 generalize x3*y0=a30 at*
 generalize x3*y1=a31 at*
 generalize x3*y2=a32 at*
 generalize x3*y3=a33 at*
 generalize x3*y4=a34 at*
 generalize x4*y0=a40 at*
 generalize x4*y1=a41 at*
 generalize x4*y2=a42 at*
 generalize x4*y3=a43 at*
 generalize x4*y4=a44 at*
 have e0:(a00+5*a14+5*a23+5*a32+5*a41) % 18446744073709551616=a00+5*a14+5*a23+5*a32+5*a41:=Int.emod_eq_of_lt (by omega) (by omega);have e1:(a01+a10+5*a24+5*a33+5*a42) % 18446744073709551616=a01+a10+5*a24+5*a33+5*a42:=Int.emod_eq_of_lt (by omega) (by omega);have e2:(a02+a11+a20+5*a34+5*a43) % 18446744073709551616=a02+a11+a20+5*a34+5*a43:=Int.emod_eq_of_lt (by omega) (by omega);have e3:(a03+a12+a21+a30+5*a44) % 18446744073709551616=a03+a12+a21+a30+5*a44:=Int.emod_eq_of_lt (by omega) (by omega);have e4:(a04+a13+a22+a31+a40) % 18446744073709551616=a04+a13+a22+a31+a40:=Int.emod_eq_of_lt (by omega) (by omega);rw [e0,e1,e2,e3,e4] at ho
 obtain ⟨r0,r1,r2,r3,r4,q,hf,b0,b1,b2,b3,b4,hv⟩:=yA (a00+5*a14+5*a23+5*a32+5*a41) (a01+a10+5*a24+5*a33+5*a42) (a02+a11+a20+5*a34+5*a43) (a03+a12+a21+a30+5*a44) (a04+a13+a22+a31+a40) R (by omega) (by omega) (by omega) (by omega) (by omega);refine ⟨r0,r1,r2,r3,r4,q+(a14+(a23+(a32+a41))+(a24+(a33+a42))*67108864+(a34+a43)*4503599627370496+a44*302231454903657293676544),?_,⟨b0,b1,b2,b3,b4⟩,?_⟩
 · unfold fQ
   rw [ho];exact hf
 · rw [hp,hv]
   clear hp hv ho hf e0 e1 e2 e3 e4 m00 m01 m02 m03 m04 m10 m11 m12 m13 m14 m20 m21 m22 m23 m24 m30 m31 m32 m33 m34 m40 m41 m42 m43 m44 b0 b1 b2 b3 b4;omega
theorem sm (x0 x1 x2 x3 x4 m0 m1 m2 m3 m4:Int) (R:List Int):addK (x0::x1::x2::x3::x4::R) [m0,m1,m2,m3,m4] 5=(x0+m0) % 18446744073709551616::(x1+m1) % 18446744073709551616::(x2+m2) % 18446744073709551616::(x3+m3) % 18446744073709551616::(x4+m4) % 18446744073709551616::R:=rfl
theorem cU (x y:Int) (i:Nat) (hx0:0≤x) (hx:x % 2 ^ i=0) (hx1:x<18446744073709551616) (hy0:0≤y) (hy:y<2 ^ i) (hy1:y<18446744073709551616):bits .or .u64 y x=x+y:=by
 rw [eU];exact bits_join .u64 64 (by decide) iX i x y hx0 hx (by omega) hy0 hy (by omega)
theorem qj (z0 z1 z2 z3 z4 z5 z6 z7:Int) (R:List Int) (h0:isB z0) (h1:isB z1) (h2:isB z2) (h3:isB z3) (h4:isB z4) (h5:isB z5) (h6:isB z6) (h7:isB z7):
    dN (z0::z1::z2::z3::z4::z5::z6::z7::R) 8=z0+z1*256+z2*65536+z3*16777216+z4*4294967296+z5*1099511627776+z6*281474976710656+z7*72057594037927936:=by
 unfold isB at*
 have e:dN (z0::z1::z2::z3::z4::z5::z6::z7::R) 8=bits .or .u64 (bits .or .u64 (bits .or .u64 (bits .or .u64 (bits .or .u64 (bits .or .u64 (bits .or .u64 (bits .or .u64 0 (z0 % 18446744073709551616*1 % 18446744073709551616)) (z1 % 18446744073709551616*256 % 18446744073709551616)) (z2 % 18446744073709551616*65536 % 18446744073709551616)) (z3 % 18446744073709551616*16777216 % 18446744073709551616)) (z4 % 18446744073709551616*4294967296 % 18446744073709551616)) (z5 % 18446744073709551616*1099511627776 % 18446744073709551616)) (z6 % 18446744073709551616*281474976710656 % 18446744073709551616)) (z7 % 18446744073709551616*72057594037927936 % 18446744073709551616):=by
  simp [dN]
 rw [e];have m0:z0 % 18446744073709551616*1 % 18446744073709551616=z0:=by omega
 have m1:z1 % 18446744073709551616*256 % 18446744073709551616=z1*256:=by omega
 have m2:z2 % 18446744073709551616*65536 % 18446744073709551616=z2*65536:=by omega
 have m3:z3 % 18446744073709551616*16777216 % 18446744073709551616=z3*16777216:=by omega
 have m4:z4 % 18446744073709551616*4294967296 % 18446744073709551616=z4*4294967296:=by omega
 have m5:z5 % 18446744073709551616*1099511627776 % 18446744073709551616=z5*1099511627776:=by omega
 have m6:z6 % 18446744073709551616*281474976710656 % 18446744073709551616=z6*281474976710656:=by omega
 have m7:z7 % 18446744073709551616*72057594037927936 % 18446744073709551616=z7*72057594037927936:=by omega
 rw [m0,m1,m2,m3,m4,m5,m6,m7];rw [cU z0 0 0 (by omega) (by omega) (by omega) (by omega) (by omega) (by omega)];rw [cU (z1*256) (z0+0) 8 (by omega) (by omega) (by omega) (by omega) (by omega) (by omega)];rw [cU (z2*65536) _ 16 (by omega) (by omega) (by omega) (by omega) (by omega) (by omega)];rw [cU (z3*16777216) _ 24 (by omega) (by omega) (by omega) (by omega) (by omega) (by omega)];rw [cU (z4*4294967296) _ 32 (by omega) (by omega) (by omega) (by omega) (by omega) (by omega)];rw [cU (z5*1099511627776) _ 40 (by omega) (by omega) (by omega) (by omega) (by omega) (by omega)];rw [cU (z6*281474976710656) _ 48 (by omega) (by omega) (by omega) (by omega) (by omega) (by omega)];rw [cU (z7*72057594037927936) _ 56 (by omega) (by omega) (by omega) (by omega) (by omega) (by omega)];omega
def N16 (z0 z1 z2 z3 z4 z5 z6 z7 y0 y1 y2 y3 y4 y5 y6 y7:Int):Int:=
 (z0+z1*256+z2*65536+z3*16777216+z4*4294967296+z5*1099511627776+z6*281474976710656+z7*72057594037927936)+(y0+y1*256+y2*65536+y3*16777216+y4*4294967296+y5*1099511627776+y6*281474976710656+y7*72057594037927936)*18446744073709551616
theorem oo (z0 z1 z2 z3 z4 z5 z6 z7 y0 y1 y2 y3 y4 y5 y6 y7 t:Int) (h0:isB z0) (h1:isB z1) (h2:isB z2) (h3:isB z3) (h4:isB z4) (h5:isB z5) (h6:isB z6) (h7:isB z7)
    (g0:isB y0) (g1:isB y1) (g2:isB y2) (g3:isB y3) (g4:isB y4) (g5:isB y5) (g6:isB y6) (g7:isB y7) (ht:0≤t∧t≤1):
    ∃a b c d e,gQ [z0,z1,z2,z3,z4,z5,z6,z7,y0,y1,y2,y3,y4,y5,y6,y7,t]=[a,b,c,d,e]∧mP a b c d e∧V5 a b c d e=N16 z0 z1 z2 z3 z4 z5 z6 z7 y0 y1 y2 y3 y4 y5 y6 y7+t*340282366920938463463374607431768211456:=by
 have hA:=qj z0 z1 z2 z3 z4 z5 z6 z7 [y0,y1,y2,y3,y4,y5,y6,y7,t] h0 h1 h2 h3 h4 h5 h6 h7;have hB:=qj y0 y1 y2 y3 y4 y5 y6 y7 [t] g0 g1 g2 g3 g4 g5 g6 g7;have e:gQ [z0,z1,z2,z3,z4,z5,z6,z7,y0,y1,y2,y3,y4,y5,y6,y7,t]=[bits .and .u64 (dN [z0,z1,z2,z3,z4,z5,z6,z7,y0,y1,y2,y3,y4,y5,y6,y7,t] 8) 67108863,bits .and .u64 (dN [z0,z1,z2,z3,z4,z5,z6,z7,y0,y1,y2,y3,y4,y5,y6,y7,t] 8 / 67108864) 67108863,bits .and .u64 (bits .or .u64 (dN [z0,z1,z2,z3,z4,z5,z6,z7,y0,y1,y2,y3,y4,y5,y6,y7,t] 8 / 4503599627370496) (dN [y0,y1,y2,y3,y4,y5,y6,y7,t] 8*4096 % 18446744073709551616)) 67108863,bits .and .u64 (dN [y0,y1,y2,y3,y4,y5,y6,y7,t] 8 / 16384) 67108863,bits .or .u64 (dN [y0,y1,y2,y3,y4,y5,y6,y7,t] 8 / 1099511627776) (t % 18446744073709551616*16777216 % 18446744073709551616)]:=rfl;rw [e,hA,hB];unfold N16;have bA:0≤(z0+z1*256+z2*65536+z3*16777216+z4*4294967296+z5*1099511627776+z6*281474976710656+z7*72057594037927936)∧(z0+z1*256+z2*65536+z3*16777216+z4*4294967296+z5*1099511627776+z6*281474976710656+z7*72057594037927936)<18446744073709551616:=by unfold isB at*;omega
 have bB:0≤(y0+y1*256+y2*65536+y3*16777216+y4*4294967296+y5*1099511627776+y6*281474976710656+y7*72057594037927936)∧(y0+y1*256+y2*65536+y3*16777216+y4*4294967296+y5*1099511627776+y6*281474976710656+y7*72057594037927936)<18446744073709551616:=by unfold isB at*;omega
 generalize (z0+z1*256+z2*65536+z3*16777216+z4*4294967296+z5*1099511627776+z6*281474976710656+z7*72057594037927936)=A at*
 generalize (y0+y1*256+y2*65536+y3*16777216+y4*4294967296+y5*1099511627776+y6*281474976710656+y7*72057594037927936)=B at*
 clear hA hB e h0 h1 h2 h3 h4 h5 h6 h7 g0 g1 g2 g3 g4 g5 g6 g7;have t1:t % 18446744073709551616*16777216 % 18446744073709551616=t*16777216:=by omega
 have B1:B*4096 % 18446744073709551616=B % 4503599627370496*4096:=by omega
 rw [t1,B1,cU (t*16777216) (B / 1099511627776) 24 (by omega) (by omega) (by omega) (by omega) (by omega) (by omega),cU (B % 4503599627370496*4096) (A / 4503599627370496) 12 (by omega) (by omega) (by omega) (by omega) (by omega) (by omega),iu A (by omega) (by omega),iu (A / 67108864) (by omega) (by omega),iu _ (by omega) (by omega),iu (B / 16384) (by omega) (by omega)];refine ⟨_,_,_,_,_,rfl,⟨by omega,by omega,by omega,by omega,by omega⟩,?_⟩;unfold V5;omega
theorem vL (x0 x1 x2 x3 x4 r0 r1 r2 r3 r4:Int) (z0 z1 z2 z3 z4 z5 z6 z7 y0 y1 y2 y3 y4 y5 y6 y7 t:Int) (hx:gN x0 x1 x2 x3 x4) (hr:mP r0 r1 r2 r3 r4) (h0:isB z0) (h1:isB z1) (h2:isB z2) (h3:isB z3) (h4:isB z4) (h5:isB z5) (h6:isB z6) (h7:isB z7)
    (g0:isB y0) (g1:isB y1) (g2:isB y2) (g3:isB y3) (g4:isB y4) (g5:isB y5) (g6:isB y6) (g7:isB y7) (ht:0≤t∧t≤1):
    ∃a b c d e q,gO [x0,x1,x2,x3,x4,r0,r1,r2,r3,r4] [z0,z1,z2,z3,z4,z5,z6,z7,y0,y1,y2,y3,y4,y5,y6,y7,t]=[a,b,c,d,e,r0,r1,r2,r3,r4]∧gN a b c d e∧
     (V5 x0 x1 x2 x3 x4+(N16 z0 z1 z2 z3 z4 z5 z6 z7 y0 y1 y2 y3 y4 y5 y6 y7+t*340282366920938463463374607431768211456))*V5 r0 r1 r2 r3 r4=V5 a b c d e+q*1361129467683753853853498429727072845819:=by
 obtain ⟨m0,m1,m2,m3,m4,hn,hm,hv⟩:=oo z0 z1 z2 z3 z4 z5 z6 z7 y0 y1 y2 y3 y4 y5 y6 y7 t h0 h1 h2 h3 h4 h5 h6 h7 g0 g1 g2 g3 g4 g5 g6 g7 ht;have hm':=hm;have hx':=hx;unfold mP at hm'
 unfold gN at hx'
 have ha:addK [x0,x1,x2,x3,x4,r0,r1,r2,r3,r4] [m0,m1,m2,m3,m4] 5=(x0+m0)::(x1+m1)::(x2+m2)::(x3+m3)::(x4+m4)::[r0,r1,r2,r3,r4]:=by
  rw [sm];rw [Int.emod_eq_of_lt (a:=x0+m0) (by omega) (by omega),Int.emod_eq_of_lt (a:=x1+m1) (by omega) (by omega),Int.emod_eq_of_lt (a:=x2+m2) (by omega) (by omega),Int.emod_eq_of_lt (a:=x3+m3) (by omega) (by omega),Int.emod_eq_of_lt (a:=x4+m4) (by omega) (by omega)]
 obtain ⟨a,b,c,d,e,q,ht',hf,hq⟩:=ue (x0+m0) (x1+m1) (x2+m2) (x3+m3) (x4+m4) r0 r1 r2 r3 r4 [r0,r1,r2,r3,r4] (by omega) hr;refine ⟨a,b,c,d,e,q,?_,hf,?_⟩
 · have hd:([x0,x1,x2,x3,x4,r0,r1,r2,r3,r4].drop 5).take 5=[r0,r1,r2,r3,r4]:=rfl
   unfold gO;rw [hd,hn,ha];exact ht'
 · have hs:V5 (x0+m0) (x1+m1) (x2+m2) (x3+m3) (x4+m4)=V5 x0 x1 x2 x3 x4+V5 m0 m1 m2 m3 m4:=by unfold V5;omega
   rw [←hq,hs,hv]
end Go.Proofs.YtbdhfbglagdiaaaGreatDoor
