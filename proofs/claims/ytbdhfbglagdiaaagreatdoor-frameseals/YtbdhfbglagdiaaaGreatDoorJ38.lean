/- Rd6 Fm9 Ky8 Ky9 Kz1 Kz2 Kz3 Kr6 KeysNoncesW Ru1 Ru2 Rv2 Rv3 -/
import Derived.Test.YtbdhfbglagdiaaaGreatDoorJ06
import Derived.Test.YtbdhfbglagdiaaaGreatDoorJ37
import Derived.Test.YtbdhfbglagdiaaaGreatDoorJ24
import Derived.Test.YtbdhfbglagdiaaaGreatDoorJ25
import Derived.Test.YtbdhfbglagdiaaaGreatDoorJ26
import Derived.Test.YtbdhfbglagdiaaaGreatDoorJ02
import Derived.Test.YtbdhfbglagdiaaaGreatDoorJ33
import Derived.Test.YtbdhfbglagdiaaaGreatDoorJ23
import Derived.Test.YtbdhfbglagdiaaaGreatDoorJ04
import Derived.Test.YtbdhfbglagdiaaaGreatDoorJ07
namespace Go.Proofs.YtbdhfbglagdiaaaGreatDoor
open Go.RowKit
set_option maxRecDepth 20000
set_option maxHeartbeats 2000000
set_option linter.unusedSimpArgs false
noncomputable def gU (z:List Int):List Int:=open Classical in if dY z then gx z else []
noncomputable def k8 (z:List Int):Int:=open Classical in if dY z then 0 else 3
theorem sW (x:Option Addr) (n c:Nat) (z:List Int) (w:World) (hT:BTab w) (hb:Bytes w x n c z) (hz:∀v∈z,b8 v) (hl:z.length≤1000000):
    Calls Tryz.prog 52 #[.slice x n c] w fun e w'=>∃x' n' c',e=.returned (.tuple #[.slice x' n' c',.int .i64 (k8 z)])∧Bytes w' x' n' c' (gU z)∧Below w.heap.size w w':=by
 have hrd:Calls Tryz.prog 98 #[.slice x n c,.func (.func 99) #[] #[]] w fun e w'=>∃x' n' c',e=.returned (.tuple #[.slice x' n' c',.int .i64 (k8 z)])∧Bytes w' x' n' c' (gU z)∧Below w.heap.size w w':=(tt x n c z w hT hb hz hl).mono fun e w' h=>by
  rcases h with ⟨h0,x',n',c',h1,h2,h3⟩|⟨h0,h1,h2⟩
  · unfold k8 gU
    rw [if_pos h0,if_pos h0];exact ⟨x',n',c',h1,h2.bytes.2,h3⟩
  · unfold k8 gU
    rw [if_neg h0,if_neg h0];exact ⟨none,0,0,h1,cY _,h2⟩
 obtain ⟨E,hE⟩:∃q,k8 z=q:=⟨_,rfl⟩
 obtain ⟨U,hU⟩:∃q,gU z=q:=⟨_,rfl⟩
 rw [hE,hU] at hrd ⊢
 clear hT hb hz hl hE hU;go_enter Tryz.func52,Tryz.ntmps52
 go_wp2_with (go_at_call 98;refine hrd.mono ?_;rintro e w1 ⟨x1,n1,c1,rfl,hy1,hb1⟩)
 go_ret2
 exact ⟨x1,n1,c1,rfl,hy1,hb1⟩
theorem vw (n:Nat) (hn:n≤65535) (r:List Int):toldN (be2 n++r)=n:=by
 show (oB ((n:Int) / 256 % 256) ((n:Int) % 256)).toNat=n;unfold oB;omega
theorem xd (z:List Int) (s:Nat) (h1:z.length≤65535) (h2:z.length+2≤s) (h3:bW z.length=(s:Int)):dY (bu z s)∧gx (bu z s)=z:=by
 have hl:=b9 z s h2;have e:bu z s=be2 z.length++(z++List.replicate (s - (z.length+2)) 0):=by unfold bu;rw [List.append_assoc]
 have ht:toldN (bu z s)=z.length:=by rw [e];exact vw z.length h1 _
 have hb:(be2 (z.length:Int)).length=2:=rfl;refine ⟨⟨by omega,by rw [ht,hl,h3],fun j hj=>?_⟩,?_⟩
 · have hd:(bu z s).drop (2+z.length)=List.replicate (s - (z.length+2)) 0:=by
    rw [e,←List.drop_drop,List.drop_left' hb,List.drop_left' rfl]
   rw [ht,hd]
   by_cases hj':j<s - (z.length+2)
   · rw [List.getElem?_replicate_of_lt hj'];rfl
   · rw [List.getElem?_eq_none (by simp;omega)];rfl
 · unfold gx
   rw [ht,e,List.drop_left' hb,List.take_left' rfl]
theorem oq (n:Int):∀v∈be4 n,b8 v:=fun v hv=>by
 unfold be4 at hv
 simp only [List.mem_cons,List.not_mem_nil,or_false] at hv
 rcases hv with rfl|rfl|rfl|rfl<;>constructor<;>omega
theorem j7 (F:Fr) (ws:List Wp) (hF:F.In) (hi:∀e∈ws,e.In) (hw:ws.length≤64):∀v∈aP F ws,isB v:=by
 intro v hv;unfold aP ei at hv
 simp only [List.mem_append,List.mem_cons,List.not_mem_nil,or_false] at hv
 rcases hv with ((((((rfl|rfl|rfl)|h1)|(rfl|h1))|h1)|rfl)|h1)
 · exact ⟨by decide,by decide⟩
 · exact ⟨by decide,by decide⟩
 · exact hF.author
 · exact oq _ v h1
 · exact hF.ea
 · exact oq _ v h1
 · exact hF.prev v h1
 · exact ⟨by omega,by omega⟩
 · unfold bR at h1
   obtain ⟨c,hc,hvc⟩:=List.mem_flatten.1 h1;obtain ⟨e,he,rfl⟩:=List.mem_map.1 hc;have h:=hi e he;unfold jF ei at hvc
   simp only [List.mem_append,List.mem_cons,List.not_mem_nil,or_false] at hvc
   rcases hvc with (rfl|(rfl|h1))|h1
   · exact h.too
   · exact h.ea
   · exact oq _ v h1
   · exact h.data v h1
theorem eF (z:List Int) (hz:∀v∈z,b8 v) (o:Nat):in8 (at1 z o):=by
 unfold at1;cases h:z[o]? with
 |none=>exact ⟨by decide,by decide⟩
 |some x=>exact hz x (List.mem_of_getElem? h)
theorem nJ (z:List Int) (hz:∀v∈z,b8 v) (o:Nat):in32 (at4 z o):=by
 have h0:=eF z hz o;have h1:=eF z hz (o+1);have h2:=eF z hz (o+2);have h3:=eF z hz (o+3);unfold at4 iY;exact ⟨by have:=h0.1;have:=h1.1;have:=h2.1;have:=h3.1;omega,by have:=h0.2;have:=h1.2;have:=h2.2;have:=h3.2;omega⟩
theorem wH (z:List Int) (hz:∀v∈z,b8 v):(oy z).In:=
 ⟨eF z hz _,nJ z hz _,gF z,fun x hx=>by
  obtain ⟨j,_,rfl⟩:=List.mem_map.1 hx;exact nJ z hz _,eF z hz _,eF z hz _,nJ z hz _,eF z hz _,eF z hz _,eF z hz _⟩
theorem xe:evZ.In:=⟨⟨by decide,by decide⟩,⟨by decide,by decide⟩,rfl,fun x hx=>by
 have:x∈([0,0,0,0,0,0,0,0]:List Int):=hx;simp only [List.mem_cons,List.not_mem_nil,or_false,or_self] at this
 rw [this];exact ⟨by decide,by decide⟩,⟨by decide,by decide⟩,⟨by decide,by decide⟩,⟨by decide,by decide⟩,⟨by decide,by decide⟩,⟨by decide,by decide⟩,⟨by decide,by decide⟩⟩
theorem wm (z:List Int) (hz:∀v∈z,b8 v):(revB z).In:=by
 unfold revB
 split
 · exact wH z hz
 · exact xe
theorem vm (z:List Int) (hz:∀v∈z,b8 v):∀v∈gU z,b8 v:=by
 intro v hv;unfold gU at hv
 split at hv
 · unfold gx at hv
   exact hz v (List.mem_of_mem_drop (List.mem_of_mem_take hv))
 · cases hv
noncomputable def nD (k:List Int) (F:Fr) (lb:Nat) (body:List Int):List Int:=cG (et k F.author) (bm F.number) 1 (body.take (lb - 16))
noncomputable def gP (k:List Int) (F:Fr) (lb:Nat) (body:List Int):Ev:=revB (gU (nD k F lb body))
noncomputable def jT (k:List Int) (F:Fr) (ws:List Wp) (lb:Nat) (body:List Int):Int:=
 if lb<16 then 3 else if tagL (et k F.author) (bm F.number) (aP F ws) (body.take (lb - 16))=body.drop (lb - 16) then (if k8 (nD k F lb body)=0 then (if j6 (gU (nD k F lb body))=0 then (if fitsB (gP k F lb body) F=true then 0 else 3) else 3) else 3) else 4
noncomputable def openE (seed:List Int) (m:Option (List Int)) (F:Fr) (lw:Nat) (ws:List Wp) (lb:Nat) (body:List Int):Int:=
 if checkE seed F lw ws lb body=0 then (match m with|none=>9|some k=>jT k F ws lb body) else checkE seed F lw ws lb body
theorem u3 {seed:List Int} {F:Fr} {lw:Nat} {ws:List Wp} {lb:Nat} {body:List Int} (h:checkE seed F lw ws lb body=0):F.author<8∧fU F.number=true∧lw≤64∧lb≤4112∧ftagL seed F ws body=F.mac:=by
 unfold checkE at h
 split at h
 · rename_i h1
   split at h
   · rename_i h2
     split at h
     · rename_i h3
       exact ⟨h1.1,h1.2,h2.1,h2.2,h3⟩
     · omega
   · omega
 · omega
section
variable (base H:Nat) (own:Int) (seed:List Int) (b:Nat) (M:Int→Int→Option (List Int)) (v:Value) (L:List (Int×Int)) (w:World)
end
section
variable (base H:Nat) (own:Int) (seed:List Int) (b:Nat) (M:Int→Int→Option (List Int)) (v:Value) (L:List (Int×Int)) (w:World)
end
section
variable (base H:Nat) (own:Int) (seed:List Int) (b:Nat) (M:Int→Int→Option (List Int)) (v:Value) (L:List (Int×Int)) (w:World)
end
theorem oM (s:List Int):∀k,∀v∈S.joinK s k,isB v
 |0,v,h=>by cases h
 |k+1,v,h=>by
  rw [S.joinK,List.mem_append] at h
  rcases h with h|h
  · exact oM s k v h
  · simp only [S.bytes4,List.mem_cons,List.not_mem_nil,or_false] at h
    unfold isB
    rcases h with rfl|rfl|rfl|rfl<;>omega
theorem yx (k b:List Int):∀i,∀v∈S.tK k b i,isB v
 |0,v,h=>by cases h
 |i+1,v,h=>oM _ 8 v h
theorem sq (k b:List Int):∀i,∀v∈S.outK k b i,isB v
 |0,v,h=>by cases h
 |i+1,v,h=>by
  rw [S.outK,List.mem_append] at h
  rcases h with h|h
  · exact sq k b i v h
  · exact yx k b (i+1) v h
theorem wT (k b:List Int):∀v∈ke k b,isB v:=fun v h=>sq k b _ v (List.mem_of_mem_take h)
section
variable (base H:Nat) (own:Int) (seed:List Int) (b:Nat) (M:Int→Int→Option (List Int)) (v:Value) (L:List (Int×Int)) (w:World)
end
set_option maxHeartbeats 4000000
section
variable (base O:Nat) (own:Int) (seed:List Int) (v:Value) (L:List Ep) (w:World)
def gR (L:List Ep) (a s p:Int):Int:=if 8≤p then 2 else if (keyE L a s).isSome=true then 0 else 9
def jM (L:List Ep) (a s p:Int):List Int:=if 8≤p then List.replicate 32 0 else match keyE L a s with|some k=>et k p|none=>List.replicate 32 0
theorem wD (a s p:Int) (hR:bw w base O own seed v L):
    Calls Tryz.prog 39 #[.pointer (some ⟨O,0,none⟩),.agg (dotC a s).toArray,.int .u8 p] w fun e w'=>e=.returned (.tuple #[.agg (row .u8 (jM L a s p)),.int .i64 (gR L a s p)])∧Below w.heap.size w w':=by
 obtain ⟨Z,hZl,hZ,hZb⟩:∃Z:List Int,Z.length=32∧z32=Z∧∀wx,(Instr.build 23 #[]).run Tryz.prog wx=.ok (.agg (row .u8 Z)) wx:=⟨_,rfl,rfl,jp⟩
 have HZb:=ac.mk hZb;have HZZ:ac (Z=List.replicate 32 0):=⟨by rw [←hZ];rfl⟩
 have hB:Below w.heap.size w ((w.alloc (.cells (dotC a s).toArray 26)).alloc (.cells (row .u8 z32) 23)):=((Below.refl _ _).alloc (Nat.le_refl _) _).alloc (by simp) _;have hd0:=(CellsAt.new w 26 (dotC a s)).alloc (.cells (row .u8 z32) 23);have hr0:=aa.new (w.alloc (.cells (dotC a s).toArray 26)) .u8 23 z32;rw [World.size_alloc] at hr0
 have HKK:ac (∀W,Below w.heap.size w W→Calls Tryz.prog 85 #[.pointer (some ⟨O,0,none⟩),.agg (dotC a s).toArray] W fun e w'=>∃k:List Int,k.length=32∧k=(keyE L a s).getD (List.replicate 32 0)∧e=.returned (.tuple #[.agg (row .u8 k),.bool (keyE L a s).isSome])∧Below W.heap.size W w'):=⟨fun W h=>mg base O own seed v L W a s (hR.far h)⟩
 clear hZb hR;go_enter Tryz.func39,Tryz.ntmps39;go_upto_region 1 with fail
 refine af (p:=fun y=>Code.wp _ _ _ _ y) (fun W=>Below w.heap.size w W∧aa W (w.heap.size+1) .u8 23 Z∧CellsAt W w.heap.size 26 (dotC a s)) ⟨hB,by rw [←hZ];exact hr0,hd0⟩ ?_;clear hB hr0 hd0 hZ;rintro W ⟨hB,hr0,hd0⟩;have rD:=hd0.wholeM;have hk:=HKK.out W hB;clear HKK;have iD:(Tryz.prog.info? 26).map (·.size)=some (dotC a s).length:=sizeDot;obtain ⟨KS,hKS⟩:∃q,(keyE L a s).isSome=q:=⟨_,rfl⟩
 rw [hKS] at hk
 have HKS:=ac.mk hKS;clear hKS;go_upto_region 2 with (first
  |(refine ae rfl 26 _ rfl _ _ rfl (dotC a s) rD Tryz.underlying26 rfl iD ?_)
  |(go_at_call 85;refine hk.mono ?_;rintro e W1 ⟨k1,hk1,hke,rfl,hb1⟩;have HKE:=ac.mk hke;clear hke;have hA1:=aa.new W1 .u8 23 (List.replicate 32 0))
  |(refine ah rfl 23 _ _ rfl _ rfl rfl hA1 (by rw [hk1];exact ap) (by rw [hk1];rfl) ?_))
 have hb2:Below W.heap.size W ((W1.alloc (.cells (row .u8 (List.replicate 32 0)) 23)).setRow W1.heap.size (row .u8 k1)):=hb1.trans ((below_setRow ((Below.refl _ _).alloc (Nat.le_refl _) _) (Nat.le_refl _) _).mono hb1.size);refine af (p:=fun y=>Code.wp _ _ _ _ y) (fun V=>Below w.heap.size w V∧aa V (w.heap.size+1) .u8 23 Z∧aa V W1.heap.size .u8 23 k1) ⟨hB.trans (hb2.mono hB.size),hr0.below hb2 hr0.lt,hA1.setRow _⟩ ?_;obtain ⟨G,hG⟩:∃q,W1.heap.size=q:=⟨_,rfl⟩
 rw [hG];clear hB hr0 hd0 rD hb2 hA1 hb1 hk hG;rintro V ⟨hB,hr0,hx⟩
 by_cases h8:8≤p
 · have HE:ac (jM L a s p=Z∧gR L a s p=2):=⟨by unfold jM;rw [if_pos h8,HZZ.out],by unfold gR;rw [if_pos h8]⟩
   have h7:p>7:=by omega
   go_wp2_with (first
    |(refine aG rfl 23 _ rfl #[] (by first|rfl|kernel_rfl) _ (HZb.out _) ?_)
    |(refine ah rfl 23 _ _ rfl _ rfl rfl hr0 (by rw [hZl];exact ap) rfl ?_))
   refine bodyPost_ret (aK (Tryz.results39) _ rfl rfl (hr0.setRow Z).cellsAt Tryz.underlying23 rfl (by rw [List.length_map,hZl];exact ap)) rfl ⟨?_,?_⟩
   · rw [HE.out.1,HE.out.2];rfl
   · exact below_setRow hB (by omega) _
 · have h7:¬p>7:=by omega
   cases KS with
   |false=>
    have HKN:ac (keyE L a s=none):=⟨by have:=HKS.out;cases hq:keyE L a s with|none=>rfl|some _=>rw [hq] at this;cases this⟩
    have HE:ac (jM L a s p=Z∧gR L a s p=9):=⟨by unfold jM;rw [if_neg h8,HKN.out,HZZ.out],by unfold gR;rw [if_neg h8,HKN.out];rfl⟩
    go_wp2_with (first
     |(refine aG rfl 23 _ rfl #[] (by first|rfl|kernel_rfl) _ (HZb.out _) ?_)
     |(refine ah rfl 23 _ _ rfl _ rfl rfl hr0 (by rw [hZl];exact ap) rfl ?_))
    refine bodyPost_ret (aK (Tryz.results39) _ rfl rfl (hr0.setRow Z).cellsAt Tryz.underlying23 rfl (by rw [List.length_map,hZl];exact ap)) rfl ⟨?_,?_⟩
    · rw [HE.out.1,HE.out.2];rfl
    · exact below_setRow hB (by omega) _
   |true=>
    have HKN:ac (keyE L a s=some k1):=⟨by have:=HKS.out;have h2:=HKE.out;cases hq:keyE L a s with|none=>rw [hq] at this;cases this|some z=>rw [hq] at h2;rw [h2];rfl⟩
    have HE:ac (jM L a s p=et k1 p∧gR L a s p=0):=⟨by unfold jM;rw [if_neg h8,HKN.out],by unfold gR;rw [if_neg h8,HKN.out];rfl⟩
    have HD:ac (∀W:World,Calls Tryz.prog 64 #[.agg (row .u8 k1),.string ⟨#[102,114,97,109,101]⟩,.slice (some ⟨W.heap.size,0,none⟩) 1 1] (W.alloc (.cells (row .u8 [p]) 5)) fun e w'=>e=.returned (.agg (row .u8 (et k1 p)))∧Below (W.alloc (.cells (row .u8 [p]) 5)).heap.size (W.alloc (.cells (row .u8 [p]) 5)) w'):=⟨fun W=>ir k1 ⟨#[102,114,97,109,101]⟩ _ 1 1 [p] _ hk1 (by decide) (pD W [p] 1 rfl (by simp)) (by omega)⟩
    have hPl:(et k1 p).length=32:=aV _ _;obtain ⟨PL,hPL⟩:∃z,et k1 p=z:=⟨_,rfl⟩
    rw [hPL] at HD hPl HE
    clear hPL;have hd:=HD.out V;have hB2:=hB.alloc hB.size (.cells (row .u8 [p]) 5);have hr2:=hr0.alloc (.cells (row .u8 [p]) 5)
    go_wp2_with (first
     |(refine am rfl 23 _ rfl _ rfl hx Tryz.underlying23 ap hk1 ?_)
     |(go_at_call 64;refine hd.mono ?_;rintro e w1 ⟨rfl,hb1⟩;have hr3:=hr2.below hb1 hr2.lt)
     |(refine ah rfl 23 _ _ rfl _ rfl rfl hr3 (by rw [hPl];exact ap) (by rw [hZl,hPl]) ?_))
    refine bodyPost_ret (aK (Tryz.results39) _ rfl rfl (hr3.setRow PL).cellsAt Tryz.underlying23 rfl (by rw [List.length_map,hPl];exact ap)) rfl ⟨?_,?_⟩
    · rw [HE.out.1,HE.out.2];rfl
    · exact below_setRow (hB2.trans (hb1.mono hB2.size)) (by omega) _
end
theorem rX (n:Int) (w:World):
    Calls Tryz.prog 43 #[.int .u32 n] w fun e w'=>e=.returned (.agg (row .u8 (bm n)))∧Below w.heap.size w w':=by
 have e1:IntKind.u8.wrap (n / 16777216)=n / 16777216 % 256:=by simp [IntKind.wrap,IntKind.bits,IntKind.signed]
 have e2:IntKind.u8.wrap (n / 65536)=n / 65536 % 256:=by simp [IntKind.wrap,IntKind.bits,IntKind.signed]
 have e3:IntKind.u8.wrap (n / 256)=n / 256 % 256:=by simp [IntKind.wrap,IntKind.bits,IntKind.signed]
 have e4:IntKind.u8.wrap n=n % 256:=by simp [IntKind.wrap,IntKind.bits,IntKind.signed]
 go_enter Tryz.func43,Tryz.ntmps43;go_wp2;refine bodyPost_ret (aj (Tryz.results43) _ rfl (aa.new w .u8 79 (bm n)) Tryz.underlying79 dD rfl) rfl ⟨rfl,(Below.refl _ _).alloc (Nat.le_refl _) _⟩
def bV (i:Nat):Int:=(bTab++ [8192])[i]?.getD 0
theorem xk (i:Nat) (hi:i<6):bV (i+1)=bV i*2:=by
 have hic:i=0∨i=1∨i=2∨i=3∨i=4∨i=5:=by omega
 rcases hic with rfl|rfl|rfl|rfl|rfl|rfl<;>decide
theorem yt (i:Nat) (hi:i<6):128≤bV i∧bV i≤4096:=by
 have hic:i=0∨i=1∨i=2∨i=3∨i=4∨i=5:=by omega
 rcases hic with rfl|rfl|rfl|rfl|rfl|rfl<;>decide
theorem xM (i:Nat) (hi:i<6):bTab[i]?.getD 0=bV i:=by
 have hic:i=0∨i=1∨i=2∨i=3∨i=4∨i=5:=by omega
 rcases hic with rfl|rfl|rfl|rfl|rfl|rfl<;>rfl
theorem mE (n:Int) (w:World):
    Calls Tryz.prog 86 #[.int .i64 n] w fun e w'=>e=.returned (.int .i64 (bW n))∧w=w':=by
 by_cases hn:n<0
 · have e0:bW n=0:=by unfold bW;rw [if_pos hn]
   rw [e0];clear e0;go_enter Tryz.func86,Tryz.ntmps86;go_wp2;go_ret;exact ⟨rfl,rfl⟩
 · have e0:bW n=fJ n bTab:=by unfold bW;rw [if_neg hn]
   rw [e0];clear e0;obtain ⟨R,hR⟩:∃q,fJ n bTab=q:=⟨_,rfl⟩
   have HR:ac (fJ n (bTab.drop 0)=R):=⟨hR⟩
   rw [hR];clear hR;go_enter Tryz.func86,Tryz.ntmps86
   go_wp2_with fail
   go_loopw [3] (fun q wr=>∃j:Nat,j≤6∧q=.int .i64 (bV j)∧ac (fJ n (bTab.drop j)=R)∧wr=w) (fun q _=>(8192 - intOf q).toNat)
   case atStart=>exact ⟨0,by omega,rfl,HR,rfl⟩
   case round=>
    clear HR;obtain ⟨j,hj,rfl,HJ,rfl⟩:=hrel
    by_cases hlt:j<6
    · have hst:=pE n j hlt
      have hin:=yt j hlt;have hnx:=xk j hlt;rw [xM j hlt] at hst
      obtain ⟨B,hB⟩:∃q,bV j=q:=⟨_,rfl⟩
      rw [hB] at hst hin hnx ⊢
      have hwB:IntKind.i64.wrap (B - 2)=B - 2:=by rw [IntKind.wrap_i64];omega
      have hwM:IntKind.i64.wrap (B*2)=B*2:=by rw [IntKind.wrap_i64];omega
      have hB4:B≤4096:=hin.2;have HN:ac (bV (j+1)=B*2):=⟨hnx⟩
      clear hnx
      by_cases hnb:n≤B - 2
      · rw [if_pos hnb] at hst
        have hBR:B=R:=by rw [←hst];exact HJ.out
        subst hBR;clear hst hB HJ hin;go_wp2;go_ret;exact ⟨rfl,rfl⟩
      · rw [if_neg hnb] at hst
        have HJ2:ac (fJ n (bTab.drop (j+1))=R):=⟨by rw [←hst];exact HJ.out⟩
        have hB1:128≤B:=hin.1;clear hst hB HJ hin;go_wp2;go_roundw
        case rel=>exact ⟨j+1,by omega,by rw [HN.out],HJ2,trivial⟩
        case measure=>simp [intOf];omega
    · obtain rfl:j=6:=by omega
      have hR0:R=0:=by rw [←HJ.out];rfl
      subst hR0;rw [show bV 6=8192 from rfl];clear HJ;go_wp2;go_ret;exact ⟨rfl,rfl⟩
theorem jq (x:Option Addr) (len cap:Nat) (z:List Int) (w:World) (hb:Bytes w x len cap z) (s:Nat) (hs:bW len=(s:Int)) (hs1:len+2≤s) (hs2:s≤4096):
    Calls Tryz.prog 40 #[.slice x len cap] w fun e w'=>∃v,e=.returned (.tuple #[v,.int .i64 0])∧aq w' w.heap.size v (bu z s)∧Below w.heap.size w w':=by
 have hbk:=mE len w;rw [hs] at hbk
 have hs0:¬(s:Int)=0:=by omega
 have hle:=hb.le;have htop:=hb.top;have HBL:ac (z.length=len):=⟨hb.len_eq.symm⟩
 have e1:IntKind.u8.wrap ((len:Int) / 2 ^ 8)=(len:Int) / 256 % 256:=by simp [IntKind.wrap,IntKind.bits,IntKind.signed]
 have e2:IntKind.u8.wrap (len:Int)=(len:Int) % 256:=by simp [IntKind.wrap,IntKind.bits,IntKind.signed]
 have e3:IntKind.u8.wrap ((len:Int) / 256)=(len:Int) / 256 % 256:=by simp [IntKind.wrap,IntKind.bits,IntKind.signed]
 have hO1:aq (w.alloc (.cells (row .u8 (be2 len)) 5)) w.heap.size (.slice (some ⟨w.heap.size,0,none⟩) 2 2) (be2 len):=aq.ofHolds (aa.new w .u8 5 (be2 len)) (Nat.le_refl _) (by simp [be2]);have hB1:Below w.heap.size w (w.alloc (.cells (row .u8 (be2 len)) 5)):=(Below.refl _ _).alloc (Nat.le_refl _) _;have hy1:=hb.below hB1;have HF:ac (s=(len+2)+(s - (len+2))):=⟨by omega⟩
 clear hb hs;go_enter Tryz.func40,Tryz.ntmps40;go_upto_region 5 with (go_at_call 86;refine hbk.mono ?_;rintro e w1 ⟨rfl,rfl⟩)
 go_upto_region 6 with (at_builtin;refine aF rfl _ _ rfl w.heap.size _ (be2 len) rfl hO1 x len cap z rfl hy1 (by simp [be2];omega) hB1.size ?_;intro v2 w2 ho2 hg2)
 have hB2:Below w.heap.size w w2:=below_grown hB1 hO1 hg2 hB1.size;have hl2:(be2 len++z).length=len+2:=by rw [List.length_append,HBL.out];simp [be2];omega
 have HL2:ac ((be2 len++z).length=len+2):=⟨hl2⟩
 obtain ⟨A,hA⟩:∃q,be2 len++z=q:=⟨_,rfl⟩
 have HA:ac (be2 len++z=A):=⟨hA⟩
 rw [hA] at ho2 HL2
 clear hO1 hB1 hy1 hg2 hbk e1 e2 e3 hl2 hA
 go_wp2_with fail
 go_loopw [5] (fun v wr=>∃j:Nat,j≤s - (len+2)∧aq wr w.heap.size v (A++List.replicate j 0)∧Below w.heap.size w wr) (fun v _=>s - lenOf v)
 case atStart=>exact ⟨0,by omega,by simpa using ho2,hB2⟩
 case round=>
  clear ho2 hB2;obtain ⟨j,hj,ho,hB⟩:=hrel;obtain ⟨x3,n3,c3,hv3,hn3⟩:=ho.isSlice;subst hv3;have hn3':n3=len+2+j:=by rw [hn3,List.length_append,HL2.out];simp
  have hle3:=ho.bytes.2.le;have htp3:=ho.bytes.2.top
  by_cases hlt:j<s - (len+2)
  · have hns:(n3:Int)<(s:Int):=by omega
    have HN3:ac (n3=len+2+j):=⟨hn3'⟩
    have hO4:aq (wr.alloc (.cells (row .u8 [0]) 5)) w.heap.size (.slice x3 n3 c3) (A++List.replicate j 0):=ho.alloc _;have hB4:=hB.alloc hB.size (.cells (row .u8 [0]) 5);have hy4:=br wr [0] (by simp);have hln:(A++List.replicate j 0).length≤3000000:=by rw [←hn3];omega
    clear hn3 hn3' ho
    go_wp2_with (at_builtin;refine aF rfl _ _ rfl w.heap.size _ (A++List.replicate j 0) rfl hO4 (some ⟨wr.heap.size,0,none⟩) 1 1 [0] rfl hy4 (by omega) hB4.size ?_;intro v5 w5 ho5 hg5)
    have hB5:Below w.heap.size w w5:=below_grown hB4 hO4 hg5 hB4.size;rw [List.append_assoc] at ho5
    have hrep:List.replicate j (0:Int)++ [0]=List.replicate (j+1) 0:=by rw [←List.replicate_succ']
    rw [hrep] at ho5
    obtain ⟨x5,n5,c5,hv5,hn5⟩:=ho5.isSlice;have hn5':n5=len+2+(j+1):=by rw [hn5,List.length_append,HL2.out];simp
    subst hv5;clear hn5;go_roundw
    case rel=>exact ⟨j+1,by omega,ho5,hB5⟩
    case measure=>
     have:=HN3.out;simp [lenOf];omega
  · have hns:¬(n3:Int)<(s:Int):=by omega
    obtain rfl:j=s - (len+2):=by omega
    clear hn3 hn3';go_wp2
    go_ret2
    refine ⟨_,rfl,?_,hB⟩;rw [←HA.out] at ho
    unfold bu;rw [HBL.out];exact ho
end Go.Proofs.YtbdhfbglagdiaaaGreatDoor
