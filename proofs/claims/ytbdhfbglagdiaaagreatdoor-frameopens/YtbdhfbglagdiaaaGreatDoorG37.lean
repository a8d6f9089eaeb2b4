/- Ft2 Rd6 Fm9 Ky8 Ky9 Kz1 Kz2 Kz3 Kr6 KeysNoncesW Ru1 -/
import Derived.Test.YtbdhfbglagdiaaaGreatDoorG33
import Derived.Test.YtbdhfbglagdiaaaGreatDoorG36
import Derived.Test.YtbdhfbglagdiaaaGreatDoorG24
import Derived.Test.YtbdhfbglagdiaaaGreatDoorG25
import Derived.Test.YtbdhfbglagdiaaaGreatDoorG06
import Derived.Test.YtbdhfbglagdiaaaGreatDoorG23
import Derived.Test.YtbdhfbglagdiaaaGreatDoorG02
import Derived.Test.YtbdhfbglagdiaaaGreatDoorG32
import Derived.Test.YtbdhfbglagdiaaaGreatDoorG22
import Derived.Test.YtbdhfbglagdiaaaGreatDoorG05
namespace Go.Proofs.YtbdhfbglagdiaaaGreatDoor
open Go.RowKit
set_option maxRecDepth 20000
set_option maxHeartbeats 8000000
set_option linter.unusedSimpArgs false
section
variable (base O:Nat) (own:Int) (seed:List Int) (v:Value) (L:List Ep) (w:World)
variable (F:Fr) (xw:Option Addr) (lw cw:Nat) (ws:List Wp) (xb:Option Addr) (lb cb:Nat) (body:List Int)
theorem kp (hR:bm w base O own seed v L) (hF:j7 w F xw lw cw ws xb lb cb body) (hn:0≤F.number):
    Calls Tryz.prog 14 #[.pointer (some ⟨O,0,none⟩),.agg F.cells.toArray] w fun e w'=>e=.returned (.int .i64 (checkE seed F lw ws lb body))∧Below w.heap.size w w':=by
 obtain ⟨f70,f0,f1,_,_,f36,f37,f38⟩:=aL F hF.prev hF.mac;rw [hF.wraps] at f36
 rw [hF.body_] at f37
 have iF:(Tryz.prog.info? 43).map (·.size)=some F.cells.length:=by rw [f70];exact bw
 have hA:=CellsAt.new w 43 F.cells;have hB0:Below w.heap.size w (w.alloc (.cells F.cells.toArray 43)):=(Below.refl _ _).alloc (Nat.le_refl _) _;have HTG:ac (lw≤64→lb≤4112→∀W,Below w.heap.size w W→Calls Tryz.prog 45 #[.pointer (some ⟨O,0,none⟩),.agg F.cells.toArray] W fun e w'=>e=.returned (.agg (row .u8 (ftagL seed F ws body)))∧Below W.heap.size W w'):=⟨fun h1 h2 W hb=>tp base O own seed v L W (hR.far hb) F xw lw cw ws xb lb cb body (hF.below hb) h1 (by omega)⟩
 have HE:ac (checkE seed F lw ws lb body=if F.author<8∧fV F.number=true then (if lw≤64∧lb≤4112 then (if ftagL seed F ws body=F.mac then 0 else 4) else 2) else 2):=⟨rfl⟩
 have hml:=hF.mac;have hTl:=d8 seed F ws body;have HMB:ac (fV F.number=true↔(F.number≠0∧F.number≤256)):=⟨by unfold fV;simp;omega⟩
 have HF0:ac (∀W,CellsAt W w.heap.size 43 F.cells→W.cell? ⟨w.heap.size,0,none⟩=some (.int .u8 F.author)∧W.cell? ⟨w.heap.size,1,none⟩=some (.int .u32 F.number)∧W.cell? ⟨w.heap.size,36,none⟩=some (.slice xw lw cw)∧W.cell? ⟨w.heap.size,37,none⟩=some (.slice xb lb cb)∧W.rangeAt w.heap.size 0 F.cells∧W.rangeAt w.heap.size 38 (F.mac.map (Value.int .u8))):=⟨fun W h=>⟨(h.cell 0).trans f0,(h.cell 1).trans f1,(h.cell 36).trans f36,(h.cell 37).trans f37,h.wholeM,by have:=h.range 38 32;rw [f38] at this;exact this⟩⟩
 obtain ⟨CE,hCE⟩:∃q,checkE seed F lw ws lb body=q:=⟨_,rfl⟩
 rw [hCE] at HE ⊢
 have iM:(Tryz.prog.info? 23).map (·.size)=some (F.mac.map (Value.int .u8)).length:=by rw [List.length_map,hml];exact ap
 have hne:=fun wx=>key_neq (ftagL seed F ws body) F.mac hTl hml wx
 obtain ⟨TG,hTG⟩:∃q,ftagL seed F ws body=q:=⟨_,rfl⟩
 rw [hTG] at HTG HE hne
 clear hn hCE hTG hF hR f70 f0 f1 f36 f37 f38 hTl hml;generalize F.author=FA at HE HF0
 generalize F.number=FN at HE HF0 HMB
 generalize F.cells=FC at hA hB0 HTG HF0 iF ⊢
 generalize F.mac=FM at HE HF0 iM hne
 have uF:=Tryz.underlying43;have uK:=Tryz.underlying23;go_enter Tryz.func14,Tryz.ntmps14;go_upto_region 1 with fail
 refine ae (p:=fun y=>Code.wp _ _ _ _ y) (fun W=>Below w.heap.size w W∧CellsAt W w.heap.size 43 FC) ⟨hB0,hA⟩ ?_;clear hB0 hA;rintro W ⟨hB,hA⟩;obtain ⟨c0,c1,c36,c37,-,-⟩:=HF0.out W hA
 by_cases h7:FA>7
 · have d7:decide (FA>7)=true:=decide_eq_true h7
   have HR:ac (CE=2):=⟨by rw [HE.out,if_neg (fun q=>by omega)]⟩
   go_wp2;go_ret;exact ⟨by rw [HR.out];rfl,hB⟩
 have d7:decide (FA>7)=false:=decide_eq_false h7
 by_cases hn0:FN=0
 · have HR:ac (CE=2):=⟨by rw [HE.out,if_neg (fun q=>(HMB.out.1 q.2).1 hn0)]⟩
   subst hn0;go_wp2;go_ret;exact ⟨by rw [HR.out];rfl,hB⟩
 have e0:(FN==0)=false:=by simpa using hn0
 by_cases h256:FN>256
 · have d256:decide (FN>256)=true:=decide_eq_true h256
   have HR:ac (CE=2):=⟨by rw [HE.out,if_neg (fun q=>by have:=(HMB.out.1 q.2).2;omega)]⟩
   go_wp2;go_ret;exact ⟨by rw [HR.out];rfl,hB⟩
 have d256:decide (FN>256)=false:=decide_eq_false h256;have HE2:ac (CE=if lw≤64∧lb≤4112 then (if TG=FM then 0 else 4) else 2):=⟨by rw [HE.out,if_pos ⟨by omega,HMB.out.2 ⟨hn0,by omega⟩⟩]⟩
 by_cases h64:lw≤64
 rotate_left
 · have l64:(64:Int)<(lw:Int):=by omega
   have d64:decide ((lw:Int)>64)=true:=by simp;omega
   have HR:ac (CE=2):=⟨by rw [HE2.out,if_neg (fun q=>h64 q.1)]⟩
   go_wp2;go_ret;exact ⟨by rw [HR.out];rfl,hB⟩
 have l64:¬(64:Int)<(lw:Int):=by omega
 have d64:decide ((lw:Int)>64)=false:=by simp;omega
 by_cases h41:lb≤4112
 rotate_left
 · have l41:(4112:Int)<(lb:Int):=by omega
   have d41:decide ((lb:Int)>4112)=true:=by simp;omega
   have HR:ac (CE=2):=⟨by rw [HE2.out,if_neg (fun q=>h41 q.2)]⟩
   go_wp2;go_ret;exact ⟨by rw [HR.out];rfl,hB⟩
 have l41:¬(4112:Int)<(lb:Int):=by omega
 have d41:decide ((lb:Int)>4112)=false:=by simp;omega
 have HR:ac (CE=if TG=FM then 0 else 4):=⟨by rw [HE2.out,if_pos ⟨h64,h41⟩]⟩
 go_upto_region 5 with fail
 clear c0 c1 c36 c37 HE HE2 HMB d7 e0 d256 l64 d64 l41 d41 h7 hn0 h256;have hBd:=hB.drew;have hAd:=hA.congr (w':=W.drew) rfl;refine ay (fun w'=>w'.rangeAt w.heap.size 0 FC∧w'.rangeAt w.heap.size 38 (FM.map (Value.int .u8))) (fun _=>True) 99 (by kernel_rfl) ?_;have hT:(fun w':World=>w'.rangeAt w.heap.size 0 FC∧w'.rangeAt w.heap.size 38 (FM.map (Value.int .u8))) W.drew:=(HF0.out _ hAd).2.2.2.2;have hS:=trivial;refine ghA 0 _ hT hS ?_;simp only [zp];refine ghA 3 _ hT hS ?_;simp only [zp];refine zh 1 36 43 3 w.heap.size 0 FC hT hS (fun _ h=>h.1) uF iF ?_;simp only [zp];refine zh 4 39 23 38 w.heap.size 38 (FM.map (Value.int .u8)) hT hS (fun _ h=>h.2) uK iM ?_;simp only [zp];refine zm 2 fun K hK=>?_
 refine aC _ _ (by kernel_rfl) ((HTG.out h64 h41 W.drew hBd).mono ?_);rintro e w2 ⟨rfl,hb2⟩;refine ⟨_,rfl,?_⟩;have hB2:=hBd.trans (hb2.mono hBd.size);have hA2:=hAd.farM hb2;replace hT:(fun w':World=>w'.rangeAt w.heap.size 0 FC∧w'.rangeAt w.heap.size 38 (FM.map (Value.int .u8))) w2:=(HF0.out _ hA2).2.2.2.2;clear hb2 hB hA hBd hAd;refine hK.out _ _ hT (fun _=>hS) ?_;clear hK K
 try simp only [zp]
 by_cases hq:TG=FM
 · have HR2:ac (CE=0):=⟨by rw [HR.out,if_pos hq]⟩
   have hne2:∀wx,(binOp BinOp.neq 23 (.agg (row .u8 TG)) (.agg (FM.map (Value.int .u8)).toArray)).run Tryz.prog wx=.ok (.bool false) wx:=fun wx=>by
    rw [show (Value.agg (row .u8 TG))=.agg (TG.map (Value.int .u8)).toArray from rfl,hne wx,hq];simp
   clear hq hne;refine ghA 5 (.bool false) hT hS ?_;simp only [zp];refine ghA 6 _ hT hS ?_;simp only [zp];refine aB (by kernel_rfl) ?_ _;go_wp2;go_ret;exact ⟨by rw [HR2.out];rfl,hB2⟩
 · have HR2:ac (CE=4):=⟨by rw [HR.out,if_neg hq]⟩
   have hne2:∀wx,(binOp BinOp.neq 23 (.agg (row .u8 TG)) (.agg (FM.map (Value.int .u8)).toArray)).run Tryz.prog wx=.ok (.bool true) wx:=fun wx=>by
    rw [show (Value.agg (row .u8 TG))=.agg (TG.map (Value.int .u8)).toArray from rfl,hne wx];simp [hq]
   clear hq hne;refine ghA 5 (.bool true) hT hS ?_;simp only [zp];refine ghA 6 _ hT hS ?_;simp only [zp];refine aB (by kernel_rfl) ?_ _;go_wp2;go_ret;exact ⟨by rw [HR2.out];rfl,hB2⟩
end
set_option maxHeartbeats 2000000
noncomputable def unpB (z:List Int):List Int:=open Classical in if bK z then gI z else []
noncomputable def et (z:List Int):Int:=open Classical in if bK z then 0 else 3
theorem ur (x:Option Addr) (n c:Nat) (z:List Int) (w:World) (hT:BTab w) (hb:Bytes w x n c z) (hz:∀v∈z,b8 v) (hl:z.length≤1000000):
    Calls Tryz.prog 52 #[.slice x n c] w fun e w'=>∃x' n' c',e=.returned (.tuple #[.slice x' n' c',.int .i64 (et z)])∧Bytes w' x' n' c' (unpB z)∧Below w.heap.size w w':=by
 have hrd:Calls Tryz.prog 98 #[.slice x n c,.func (.func 99) #[] #[]] w fun e w'=>∃x' n' c',e=.returned (.tuple #[.slice x' n' c',.int .i64 (et z)])∧Bytes w' x' n' c' (unpB z)∧Below w.heap.size w w':=(ul x n c z w hT hb hz hl).mono fun e w' h=>by
  rcases h with ⟨h0,x',n',c',h1,h2,h3⟩|⟨h0,h1,h2⟩
  · unfold et unpB
    rw [if_pos h0,if_pos h0];exact ⟨x',n',c',h1,h2.bytes.2,h3⟩
  · unfold et unpB
    rw [if_neg h0,if_neg h0];exact ⟨none,0,0,h1,bO _,h2⟩
 obtain ⟨E,hE⟩:∃q,et z=q:=⟨_,rfl⟩
 obtain ⟨U,hU⟩:∃q,unpB z=q:=⟨_,rfl⟩
 rw [hE,hU] at hrd ⊢
 clear hT hb hz hl hE hU;go_enter Tryz.func52,Tryz.ntmps52
 go_wp2_with (go_at_call 98;refine hrd.mono ?_;rintro e w1 ⟨x1,n1,c1,rfl,hy1,hb1⟩)
 go_ret2
 exact ⟨x1,n1,c1,rfl,hy1,hb1⟩
theorem uW (n:Nat) (hn:n≤65535) (r:List Int):toldN (be2 n++r)=n:=by
 show (oC ((n:Int) / 256 % 256) ((n:Int) % 256)).toNat=n;unfold oC;omega
theorem wO (z:List Int) (s:Nat) (h1:z.length≤65535) (h2:z.length+2≤s) (h3:cd z.length=(s:Int)):bK (bI z s)∧gI (bI z s)=z:=by
 have hl:=de z s h2;have e:bI z s=be2 z.length++(z++List.replicate (s - (z.length+2)) 0):=by unfold bI;rw [List.append_assoc]
 have ht:toldN (bI z s)=z.length:=by rw [e];exact uW z.length h1 _
 have hb:(be2 (z.length:Int)).length=2:=rfl;refine ⟨⟨by omega,by rw [ht,hl,h3],fun j hj=>?_⟩,?_⟩
 · have hd:(bI z s).drop (2+z.length)=List.replicate (s - (z.length+2)) 0:=by
    rw [e,←List.drop_drop,List.drop_left' hb,List.drop_left' rfl]
   rw [ht,hd]
   by_cases hj':j<s - (z.length+2)
   · rw [List.getElem?_replicate_of_lt hj'];rfl
   · rw [List.getElem?_eq_none (by simp;omega)];rfl
 · unfold gI
   rw [ht,e,List.drop_left' hb,List.take_left' rfl]
theorem od (n:Int):∀v∈be4 n,b8 v:=fun v hv=>by
 unfold be4 at hv
 simp only [List.mem_cons,List.not_mem_nil,or_false] at hv
 rcases hv with rfl|rfl|rfl|rfl<;>constructor<;>omega
theorem j5 (F:Fr) (ws:List Wp) (hF:F.In) (hi:∀e∈ws,e.In) (hw:ws.length≤64):∀v∈aN F ws,isB v:=by
 intro v hv;unfold aN eR at hv
 simp only [List.mem_append,List.mem_cons,List.not_mem_nil,or_false] at hv
 rcases hv with ((((((rfl|rfl|rfl)|h1)|(rfl|h1))|h1)|rfl)|h1)
 · exact ⟨by decide,by decide⟩
 · exact ⟨by decide,by decide⟩
 · exact hF.author
 · exact od _ v h1
 · exact hF.ea
 · exact od _ v h1
 · exact hF.prev v h1
 · exact ⟨by omega,by omega⟩
 · unfold bP at h1
   obtain ⟨c,hc,hvc⟩:=List.mem_flatten.1 h1;obtain ⟨e,he,rfl⟩:=List.mem_map.1 hc;have h:=hi e he;unfold jL eR at hvc
   simp only [List.mem_append,List.mem_cons,List.not_mem_nil,or_false] at hvc
   rcases hvc with (rfl|(rfl|h1))|h1
   · exact h.too
   · exact h.ea
   · exact od _ v h1
   · exact h.data v h1
theorem eC (z:List Int) (hz:∀v∈z,b8 v) (o:Nat):in8 (at1 z o):=by
 unfold at1;cases h:z[o]? with
 |none=>exact ⟨by decide,by decide⟩
 |some x=>exact hz x (List.mem_of_getElem? h)
theorem oH (z:List Int) (hz:∀v∈z,b8 v) (o:Nat):in32 (at4 z o):=by
 have h0:=eC z hz o;have h1:=eC z hz (o+1);have h2:=eC z hz (o+2);have h3:=eC z hz (o+3);unfold at4 iW;exact ⟨by have:=h0.1;have:=h1.1;have:=h2.1;have:=h3.1;omega,by have:=h0.2;have:=h1.2;have:=h2.2;have:=h3.2;omega⟩
theorem wE (z:List Int) (hz:∀v∈z,b8 v):(kR z).In:=
 ⟨eC z hz _,oH z hz _,fd z,fun x hx=>by
  obtain ⟨j,_,rfl⟩:=List.mem_map.1 hx;exact oH z hz _,eC z hz _,eC z hz _,oH z hz _,eC z hz _,eC z hz _,eC z hz _⟩
theorem xa:evZ.In:=⟨⟨by decide,by decide⟩,⟨by decide,by decide⟩,rfl,fun x hx=>by
 have:x∈([0,0,0,0,0,0,0,0]:List Int):=hx;simp only [List.mem_cons,List.not_mem_nil,or_false,or_self] at this
 rw [this];exact ⟨by decide,by decide⟩,⟨by decide,by decide⟩,⟨by decide,by decide⟩,⟨by decide,by decide⟩,⟨by decide,by decide⟩,⟨by decide,by decide⟩,⟨by decide,by decide⟩⟩
theorem pX (z:List Int) (hz:∀v∈z,b8 v):(revB z).In:=by
 unfold revB
 split
 · exact wE z hz
 · exact xa
theorem qx (z:List Int) (hz:∀v∈z,b8 v):∀v∈unpB z,b8 v:=by
 intro v hv;unfold unpB at hv
 split at hv
 · unfold gI at hv
   exact hz v (List.mem_of_mem_drop (List.mem_of_mem_take hv))
 · cases hv
noncomputable def openP (k:List Int) (F:Fr) (lb:Nat) (body:List Int):List Int:=dk (eo k F.author) (aV F.number) 1 (body.take (lb - 16))
noncomputable def ee (k:List Int) (F:Fr) (lb:Nat) (body:List Int):Ev:=revB (unpB (openP k F lb body))
noncomputable def eV (k:List Int) (F:Fr) (ws:List Wp) (lb:Nat) (body:List Int):Int:=
 if lb<16 then 3 else if tagL (eo k F.author) (aV F.number) (aN F ws) (body.take (lb - 16))=body.drop (lb - 16) then (if et (openP k F lb body)=0 then (if ec (unpB (openP k F lb body))=0 then (if fitsB (ee k F lb body) F=true then 0 else 3) else 3) else 3) else 4
noncomputable def openE (seed:List Int) (m:Option (List Int)) (F:Fr) (lw:Nat) (ws:List Wp) (lb:Nat) (body:List Int):Int:=
 if checkE seed F lw ws lb body=0 then (match m with|none=>9|some k=>eV k F ws lb body) else checkE seed F lw ws lb body
theorem o5 {seed:List Int} {F:Fr} {lw:Nat} {ws:List Wp} {lb:Nat} {body:List Int} (h:checkE seed F lw ws lb body=0):F.author<8∧fV F.number=true∧lw≤64∧lb≤4112∧ftagL seed F ws body=F.mac:=by
 unfold checkE at h
 split at h
 · rename_i h1
   split at h
   · rename_i h2
     split at h
     · rename_i h3
       exact ⟨h1.1,h1.2,h2.1,h2.2,h3⟩
     · omega
   · omega
 · omega
section
variable (base H:Nat) (own:Int) (seed:List Int) (b:Nat) (M:Int→Int→Option (List Int)) (v:Value) (L:List (Int×Int)) (w:World)
end
section
variable (base H:Nat) (own:Int) (seed:List Int) (b:Nat) (M:Int→Int→Option (List Int)) (v:Value) (L:List (Int×Int)) (w:World)
end
section
variable (base H:Nat) (own:Int) (seed:List Int) (b:Nat) (M:Int→Int→Option (List Int)) (v:Value) (L:List (Int×Int)) (w:World)
end
theorem qb (s:List Int):∀k,∀v∈S.joinK s k,isB v
 |0,v,h=>by cases h
 |k+1,v,h=>by
  rw [S.joinK,List.mem_append] at h
  rcases h with h|h
  · exact qb s k v h
  · simp only [S.bytes4,List.mem_cons,List.not_mem_nil,or_false] at h
    unfold isB
    rcases h with rfl|rfl|rfl|rfl<;>omega
theorem yx (k b:List Int):∀i,∀v∈S.tK k b i,isB v
 |0,v,h=>by cases h
 |i+1,v,h=>qb _ 8 v h
theorem ss (k b:List Int):∀i,∀v∈S.outK k b i,isB v
 |0,v,h=>by cases h
 |i+1,v,h=>by
  rw [S.outK,List.mem_append] at h
  rcases h with h|h
  · exact ss k b i v h
  · exact yx k b (i+1) v h
theorem wS (k b:List Int):∀v∈kf k b,isB v:=fun v h=>ss k b _ v (List.mem_of_mem_take h)
section
variable (base H:Nat) (own:Int) (seed:List Int) (b:Nat) (M:Int→Int→Option (List Int)) (v:Value) (L:List (Int×Int)) (w:World)
end
set_option maxHeartbeats 4000000
section
variable (base O:Nat) (own:Int) (seed:List Int) (v:Value) (L:List Ep) (w:World)
def kU (L:List Ep) (a s p:Int):Int:=if 8≤p then 2 else if (keyE L a s).isSome=true then 0 else 9
def kZ (L:List Ep) (a s p:Int):List Int:=if 8≤p then List.replicate 32 0 else match keyE L a s with|some k=>eo k p|none=>List.replicate 32 0
theorem vu (a s p:Int) (hR:bm w base O own seed v L):
    Calls Tryz.prog 39 #[.pointer (some ⟨O,0,none⟩),.agg (dotC a s).toArray,.int .u8 p] w fun e w'=>e=.returned (.tuple #[.agg (row .u8 (kZ L a s p)),.int .i64 (kU L a s p)])∧Below w.heap.size w w':=by
 obtain ⟨Z,hZl,hZ,hZb⟩:∃Z:List Int,Z.length=32∧z32=Z∧∀wx,(Instr.build 23 #[]).run Tryz.prog wx=.ok (.agg (row .u8 Z)) wx:=⟨_,rfl,rfl,jn⟩
 have HZb:=ac.mk hZb;have HZZ:ac (Z=List.replicate 32 0):=⟨by rw [←hZ];rfl⟩
 have hB:Below w.heap.size w ((w.alloc (.cells (dotC a s).toArray 26)).alloc (.cells (row .u8 z32) 23)):=((Below.refl _ _).alloc (Nat.le_refl _) _).alloc (by simp) _;have hd0:=(CellsAt.new w 26 (dotC a s)).alloc (.cells (row .u8 z32) 23);have hr0:=aa.new (w.alloc (.cells (dotC a s).toArray 26)) .u8 23 z32;rw [World.size_alloc] at hr0
 have HKK:ac (∀W,Below w.heap.size w W→Calls Tryz.prog 85 #[.pointer (some ⟨O,0,none⟩),.agg (dotC a s).toArray] W fun e w'=>∃k:List Int,k.length=32∧k=(keyE L a s).getD (List.replicate 32 0)∧e=.returned (.tuple #[.agg (row .u8 k),.bool (keyE L a s).isSome])∧Below W.heap.size W w'):=⟨fun W h=>mg base O own seed v L W a s (hR.far h)⟩
 clear hZb hR;go_enter Tryz.func39,Tryz.ntmps39;go_upto_region 1 with fail
 refine ae (p:=fun y=>Code.wp _ _ _ _ y) (fun W=>Below w.heap.size w W∧aa W (w.heap.size+1) .u8 23 Z∧CellsAt W w.heap.size 26 (dotC a s)) ⟨hB,by rw [←hZ];exact hr0,hd0⟩ ?_;clear hB hr0 hd0 hZ;rintro W ⟨hB,hr0,hd0⟩;have rD:=hd0.wholeM;have hk:=HKK.out W hB;clear HKK;have iD:(Tryz.prog.info? 26).map (·.size)=some (dotC a s).length:=aH;obtain ⟨KS,hKS⟩:∃q,(keyE L a s).isSome=q:=⟨_,rfl⟩
 rw [hKS] at hk
 have HKS:=ac.mk hKS;clear hKS;go_upto_region 2 with (first
  |(refine af rfl 26 _ rfl _ _ rfl (dotC a s) rD Tryz.underlying26 rfl iD ?_)
  |(go_at_call 85;refine hk.mono ?_;rintro e W1 ⟨k1,hk1,hke,rfl,hb1⟩;have HKE:=ac.mk hke;clear hke;have hA1:=aa.new W1 .u8 23 (List.replicate 32 0))
  |(refine aj rfl 23 _ _ rfl _ rfl rfl hA1 (by rw [hk1];exact ap) (by rw [hk1];rfl) ?_))
 have hb2:Below W.heap.size W ((W1.alloc (.cells (row .u8 (List.replicate 32 0)) 23)).setRow W1.heap.size (row .u8 k1)):=hb1.trans ((below_setRow ((Below.refl _ _).alloc (Nat.le_refl _) _) (Nat.le_refl _) _).mono hb1.size);refine ae (p:=fun y=>Code.wp _ _ _ _ y) (fun V=>Below w.heap.size w V∧aa V (w.heap.size+1) .u8 23 Z∧aa V W1.heap.size .u8 23 k1) ⟨hB.trans (hb2.mono hB.size),hr0.below hb2 hr0.lt,hA1.setRow _⟩ ?_;obtain ⟨G,hG⟩:∃q,W1.heap.size=q:=⟨_,rfl⟩
 rw [hG];clear hB hr0 hd0 rD hb2 hA1 hb1 hk hG;rintro V ⟨hB,hr0,hx⟩
 by_cases h8:8≤p
 · have HE:ac (kZ L a s p=Z∧kU L a s p=2):=⟨by unfold kZ;rw [if_pos h8,HZZ.out],by unfold kU;rw [if_pos h8]⟩
   have h7:p>7:=by omega
   go_wp2_with (first
    |(refine aF rfl 23 _ rfl #[] (by first|rfl|kernel_rfl) _ (HZb.out _) ?_)
    |(refine aj rfl 23 _ _ rfl _ rfl rfl hr0 (by rw [hZl];exact ap) rfl ?_))
   refine bodyPost_ret (aI (Tryz.results39) _ rfl rfl (hr0.setRow Z).cellsAt Tryz.underlying23 rfl (by rw [List.length_map,hZl];exact ap)) rfl ⟨?_,?_⟩
   · rw [HE.out.1,HE.out.2];rfl
   · exact below_setRow hB (by omega) _
 · have h7:¬p>7:=by omega
   cases KS with
   |false=>
    have HKN:ac (keyE L a s=none):=⟨by have:=HKS.out;cases hq:keyE L a s with|none=>rfl|some _=>rw [hq] at this;cases this⟩
    have HE:ac (kZ L a s p=Z∧kU L a s p=9):=⟨by unfold kZ;rw [if_neg h8,HKN.out,HZZ.out],by unfold kU;rw [if_neg h8,HKN.out];rfl⟩
    go_wp2_with (first
     |(refine aF rfl 23 _ rfl #[] (by first|rfl|kernel_rfl) _ (HZb.out _) ?_)
     |(refine aj rfl 23 _ _ rfl _ rfl rfl hr0 (by rw [hZl];exact ap) rfl ?_))
    refine bodyPost_ret (aI (Tryz.results39) _ rfl rfl (hr0.setRow Z).cellsAt Tryz.underlying23 rfl (by rw [List.length_map,hZl];exact ap)) rfl ⟨?_,?_⟩
    · rw [HE.out.1,HE.out.2];rfl
    · exact below_setRow hB (by omega) _
   |true=>
    have HKN:ac (keyE L a s=some k1):=⟨by have:=HKS.out;have h2:=HKE.out;cases hq:keyE L a s with|none=>rw [hq] at this;cases this|some z=>rw [hq] at h2;rw [h2];rfl⟩
    have HE:ac (kZ L a s p=eo k1 p∧kU L a s p=0):=⟨by unfold kZ;rw [if_neg h8,HKN.out],by unfold kU;rw [if_neg h8,HKN.out];rfl⟩
    have HD:ac (∀W:World,Calls Tryz.prog 64 #[.agg (row .u8 k1),.string ⟨#[102,114,97,109,101]⟩,.slice (some ⟨W.heap.size,0,none⟩) 1 1] (W.alloc (.cells (row .u8 [p]) 5)) fun e w'=>e=.returned (.agg (row .u8 (eo k1 p)))∧Below (W.alloc (.cells (row .u8 [p]) 5)).heap.size (W.alloc (.cells (row .u8 [p]) 5)) w'):=⟨fun W=>ie k1 ⟨#[102,114,97,109,101]⟩ _ 1 1 [p] _ hk1 (by decide) (qn W [p] 1 rfl (by simp)) (by omega)⟩
    have hPl:(eo k1 p).length=32:=aU _ _;obtain ⟨PL,hPL⟩:∃z,eo k1 p=z:=⟨_,rfl⟩
    rw [hPL] at HD hPl HE
    clear hPL;have hd:=HD.out V;have hB2:=hB.alloc hB.size (.cells (row .u8 [p]) 5);have hr2:=hr0.alloc (.cells (row .u8 [p]) 5)
    go_wp2_with (first
     |(refine am rfl 23 _ rfl _ rfl hx Tryz.underlying23 ap hk1 ?_)
     |(go_at_call 64;refine hd.mono ?_;rintro e w1 ⟨rfl,hb1⟩;have hr3:=hr2.below hb1 hr2.lt)
     |(refine aj rfl 23 _ _ rfl _ rfl rfl hr3 (by rw [hPl];exact ap) (by rw [hZl,hPl]) ?_))
    refine bodyPost_ret (aI (Tryz.results39) _ rfl rfl (hr3.setRow PL).cellsAt Tryz.underlying23 rfl (by rw [List.length_map,hPl];exact ap)) rfl ⟨?_,?_⟩
    · rw [HE.out.1,HE.out.2];rfl
    · exact below_setRow (hB2.trans (hb1.mono hB2.size)) (by omega) _
end
theorem rQ (n:Int) (w:World):
    Calls Tryz.prog 43 #[.int .u32 n] w fun e w'=>e=.returned (.agg (row .u8 (aV n)))∧Below w.heap.size w w':=by
 have e1:IntKind.u8.wrap (n / 16777216)=n / 16777216 % 256:=by simp [IntKind.wrap,IntKind.bits,IntKind.signed]
 have e2:IntKind.u8.wrap (n / 65536)=n / 65536 % 256:=by simp [IntKind.wrap,IntKind.bits,IntKind.signed]
 have e3:IntKind.u8.wrap (n / 256)=n / 256 % 256:=by simp [IntKind.wrap,IntKind.bits,IntKind.signed]
 have e4:IntKind.u8.wrap n=n % 256:=by simp [IntKind.wrap,IntKind.bits,IntKind.signed]
 go_enter Tryz.func43,Tryz.ntmps43;go_wp2;refine bodyPost_ret (ak (Tryz.results43) _ rfl (aa.new w .u8 79 (aV n)) Tryz.underlying79 dF rfl) rfl ⟨rfl,(Below.refl _ _).alloc (Nat.le_refl _) _⟩
def bV (i:Nat):Int:=(bTab++ [8192])[i]?.getD 0
theorem wQ (i:Nat) (hi:i<6):bV (i+1)=bV i*2:=by
 have hic:i=0∨i=1∨i=2∨i=3∨i=4∨i=5:=by omega
 rcases hic with rfl|rfl|rfl|rfl|rfl|rfl<;>decide
theorem yl (i:Nat) (hi:i<6):128≤bV i∧bV i≤4096:=by
 have hic:i=0∨i=1∨i=2∨i=3∨i=4∨i=5:=by omega
 rcases hic with rfl|rfl|rfl|rfl|rfl|rfl<;>decide
theorem xS (i:Nat) (hi:i<6):bTab[i]?.getD 0=bV i:=by
 have hic:i=0∨i=1∨i=2∨i=3∨i=4∨i=5:=by omega
 rcases hic with rfl|rfl|rfl|rfl|rfl|rfl<;>rfl
theorem ja (n:Int) (w:World):
    Calls Tryz.prog 86 #[.int .i64 n] w fun e w'=>e=.returned (.int .i64 (cd n))∧w=w':=by
 by_cases hn:n<0
 · have e0:cd n=0:=by unfold cd;rw [if_pos hn]
   rw [e0];clear e0;go_enter Tryz.func86,Tryz.ntmps86;go_wp2;go_ret;exact ⟨rfl,rfl⟩
 · have e0:cd n=fQ n bTab:=by unfold cd;rw [if_neg hn]
   rw [e0];clear e0;obtain ⟨R,hR⟩:∃q,fQ n bTab=q:=⟨_,rfl⟩
   have HR:ac (fQ n (bTab.drop 0)=R):=⟨hR⟩
   rw [hR];clear hR;go_enter Tryz.func86,Tryz.ntmps86
   go_wp2_with fail
   go_loopw [3] (fun q wr=>∃j:Nat,j≤6∧q=.int .i64 (bV j)∧ac (fQ n (bTab.drop j)=R)∧wr=w) (fun q _=>(8192 - intOf q).toNat)
   case atStart=>exact ⟨0,by omega,rfl,HR,rfl⟩
   case round=>
    clear HR;obtain ⟨j,hj,rfl,HJ,rfl⟩:=hrel
    by_cases hlt:j<6
    · have hst:=pT n j hlt
      have hin:=yl j hlt;have hnx:=wQ j hlt;rw [xS j hlt] at hst
      obtain ⟨B,hB⟩:∃q,bV j=q:=⟨_,rfl⟩
      rw [hB] at hst hin hnx ⊢
      have hwB:IntKind.i64.wrap (B - 2)=B - 2:=by rw [IntKind.wrap_i64];omega
      have hwM:IntKind.i64.wrap (B*2)=B*2:=by rw [IntKind.wrap_i64];omega
      have hB4:B≤4096:=hin.2;have HN:ac (bV (j+1)=B*2):=⟨hnx⟩
      clear hnx
      by_cases hnb:n≤B - 2
      · rw [if_pos hnb] at hst
        have hBR:B=R:=by rw [←hst];exact HJ.out
        subst hBR;clear hst hB HJ hin;go_wp2;go_ret;exact ⟨rfl,rfl⟩
      · rw [if_neg hnb] at hst
        have HJ2:ac (fQ n (bTab.drop (j+1))=R):=⟨by rw [←hst];exact HJ.out⟩
        have hB1:128≤B:=hin.1;clear hst hB HJ hin;go_wp2;go_roundw
        case rel=>exact ⟨j+1,by omega,by rw [HN.out],HJ2,trivial⟩
        case measure=>simp [intOf];omega
    · obtain rfl:j=6:=by omega
      have hR0:R=0:=by rw [←HJ.out];rfl
      subst hR0;rw [show bV 6=8192 from rfl];clear HJ;go_wp2;go_ret;exact ⟨rfl,rfl⟩
theorem mu (x:Option Addr) (len cap:Nat) (z:List Int) (w:World) (hb:Bytes w x len cap z) (s:Nat) (hs:cd len=(s:Int)) (hs1:len+2≤s) (hs2:s≤4096):
    Calls Tryz.prog 40 #[.slice x len cap] w fun e w'=>∃v,e=.returned (.tuple #[v,.int .i64 0])∧ao w' w.heap.size v (bI z s)∧Below w.heap.size w w':=by
 have hbk:=ja len w;rw [hs] at hbk
 have hs0:¬(s:Int)=0:=by omega
 have hle:=hb.le;have htop:=hb.top;have HBL:ac (z.length=len):=⟨hb.len_eq.symm⟩
 have e1:IntKind.u8.wrap ((len:Int) / 2 ^ 8)=(len:Int) / 256 % 256:=by simp [IntKind.wrap,IntKind.bits,IntKind.signed]
 have e2:IntKind.u8.wrap (len:Int)=(len:Int) % 256:=by simp [IntKind.wrap,IntKind.bits,IntKind.signed]
 have e3:IntKind.u8.wrap ((len:Int) / 256)=(len:Int) / 256 % 256:=by simp [IntKind.wrap,IntKind.bits,IntKind.signed]
 have hO1:ao (w.alloc (.cells (row .u8 (be2 len)) 5)) w.heap.size (.slice (some ⟨w.heap.size,0,none⟩) 2 2) (be2 len):=ao.ofHolds (aa.new w .u8 5 (be2 len)) (Nat.le_refl _) (by simp [be2]);have hB1:Below w.heap.size w (w.alloc (.cells (row .u8 (be2 len)) 5)):=(Below.refl _ _).alloc (Nat.le_refl _) _;have hy1:=hb.below hB1;have HF:ac (s=(len+2)+(s - (len+2))):=⟨by omega⟩
 clear hb hs;go_enter Tryz.func40,Tryz.ntmps40;go_upto_region 5 with (go_at_call 86;refine hbk.mono ?_;rintro e w1 ⟨rfl,rfl⟩)
 go_upto_region 6 with (at_builtin;refine aG rfl _ _ rfl w.heap.size _ (be2 len) rfl hO1 x len cap z rfl hy1 (by simp [be2];omega) hB1.size ?_;intro v2 w2 ho2 hg2)
 have hB2:Below w.heap.size w w2:=below_grown hB1 hO1 hg2 hB1.size;have hl2:(be2 len++z).length=len+2:=by rw [List.length_append,HBL.out];simp [be2];omega
 have HL2:ac ((be2 len++z).length=len+2):=⟨hl2⟩
 obtain ⟨A,hA⟩:∃q,be2 len++z=q:=⟨_,rfl⟩
 have HA:ac (be2 len++z=A):=⟨hA⟩
 rw [hA] at ho2 HL2
 clear hO1 hB1 hy1 hg2 hbk e1 e2 e3 hl2 hA
 go_wp2_with fail
 go_loopw [5] (fun v wr=>∃j:Nat,j≤s - (len+2)∧ao wr w.heap.size v (A++List.replicate j 0)∧Below w.heap.size w wr) (fun v _=>s - lenOf v)
 case atStart=>exact ⟨0,by omega,by simpa using ho2,hB2⟩
 case round=>
  clear ho2 hB2;obtain ⟨j,hj,ho,hB⟩:=hrel;obtain ⟨x3,n3,c3,hv3,hn3⟩:=ho.isSlice;subst hv3;have hn3':n3=len+2+j:=by rw [hn3,List.length_append,HL2.out];simp
  have hle3:=ho.bytes.2.le;have htp3:=ho.bytes.2.top
  by_cases hlt:j<s - (len+2)
  · have hns:(n3:Int)<(s:Int):=by omega
    have HN3:ac (n3=len+2+j):=⟨hn3'⟩
    have hO4:ao (wr.alloc (.cells (row .u8 [0]) 5)) w.heap.size (.slice x3 n3 c3) (A++List.replicate j 0):=ho.alloc _;have hB4:=hB.alloc hB.size (.cells (row .u8 [0]) 5);have hy4:=bu wr [0] (by simp);have hln:(A++List.replicate j 0).length≤3000000:=by rw [←hn3];omega
    clear hn3 hn3' ho
    go_wp2_with (at_builtin;refine aG rfl _ _ rfl w.heap.size _ (A++List.replicate j 0) rfl hO4 (some ⟨wr.heap.size,0,none⟩) 1 1 [0] rfl hy4 (by omega) hB4.size ?_;intro v5 w5 ho5 hg5)
    have hB5:Below w.heap.size w w5:=below_grown hB4 hO4 hg5 hB4.size;rw [List.append_assoc] at ho5
    have hrep:List.replicate j (0:Int)++ [0]=List.replicate (j+1) 0:=by rw [←List.replicate_succ']
    rw [hrep] at ho5
    obtain ⟨x5,n5,c5,hv5,hn5⟩:=ho5.isSlice;have hn5':n5=len+2+(j+1):=by rw [hn5,List.length_append,HL2.out];simp
    subst hv5;clear hn5;go_roundw
    case rel=>exact ⟨j+1,by omega,ho5,hB5⟩
    case measure=>
     have:=HN3.out;simp [lenOf];omega
  · have hns:¬(n3:Int)<(s:Int):=by omega
    obtain rfl:j=s - (len+2):=by omega
    clear hn3 hn3';go_wp2
    go_ret2
    refine ⟨_,rfl,?_,hB⟩;rw [←HA.out] at ho
    unfold bI;rw [HBL.out];exact ho
end Go.Proofs.YtbdhfbglagdiaaaGreatDoor
