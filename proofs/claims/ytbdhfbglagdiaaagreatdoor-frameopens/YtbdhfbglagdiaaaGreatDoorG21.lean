/- Od Mp Kh Kh2 Gx -/
import Derived.Test.YtbdhfbglagdiaaaGreatDoorG01
import Derived.Maps.AppendAt
import Derived.Maps.OwnSet
import Derived.DeepKeys3
import Derived.Test.YtbdhfbglagdiaaaGreatDoorG02
import Derived.Great.BuildSlice
namespace Go.Proofs.YtbdhfbglagdiaaaGreatDoor
open Go.RowKit
set_option maxRecDepth 20000
set_option linter.unusedSimpArgs false
def jK (L:List (Int×Int)):List Value:=(L.map fun d=>dotC d.1 d.2).flatten
def gc (w:World) (base:Nat) (v:Value) (L:List (Int×Int)):Prop:=w.ownsRow base 26 2 v L.length (jK L)
theorem gc.nil (w:World) (base:Nat):gc w base (.slice none 0 0) []:=World.ownsRow_nil w base 26 2
theorem gc.isSlice {w:World} {base:Nat} {v:Value} {L:List (Int×Int)} (h:gc w base v L):∃x c,v=.slice x L.length c:=by
 rcases h.2 with ⟨rfl,h0⟩|⟨g,cap,cur,rfl,_⟩
 · exact ⟨none,0,by rw [h0]⟩
 · exact ⟨_,_,rfl⟩
theorem gc.congr {w w':World} {base:Nat} {v:Value} {L:List (Int×Int)} (h:gc w base v L) (hk:∀g,v.ownBlock=some g→w'.heap[g]?=w.heap[g]?):gc w' base v L:=by
 refine ⟨h.1,?_⟩
 rcases h.2 with h'|⟨g,cap,cur,h1,h2,h3,h4⟩
 · exact .inl h'
 · exact .inr ⟨g,cap,cur,h1,h2,(hk g (by rw [h1];rfl)).trans h3,h4⟩
theorem gc.blockLt {w:World} {base:Nat} {v:Value} {L:List (Int×Int)} (h:gc w base v L) (g:Nat) (hg:v.ownBlock=some g):g<w.heap.size∧base≤g∧∃cur,w.heap[g]?=some (.cells cur 26 (0,0)):=by
 rcases h.2 with ⟨rfl,_⟩|⟨g',cap,cur,rfl,h2,h3,_⟩
 · cases hg
 · obtain rfl:g'=g:=by simpa [Value.ownBlock] using hg
   exact ⟨(Array.getElem?_eq_some_iff.1 h3).1,h2,cur,h3⟩
theorem tw (L:List (Int×Int)) (j:Nat) (hj:j<L.length):((jK L).drop (j*2)).take 2=dotC (L[j]).1 (L[j]).2:=by
 induction L generalizing j with
 |nil=>simp at hj
 |cons e L ih=>
  have hcons:jK (e::L)=dotC e.1 e.2++jK L:=by simp [jK]
  rw [hcons];cases j with
  |zero=>rfl
  |succ j=>
   have:=ih j (by simpa using hj);rw [show (j+1)*2=(dotC e.1 e.2).length+j*2 by simp [dotC];omega,List.drop_length_add_append,this]
   rfl
theorem gc.at_ {w:World} {base:Nat} {x:Option Addr} {n c:Nat} {L:List (Int×Int)} (h:gc w base (.slice x n c) L) (j:Nat) (hj:j<L.length):∃g,x=some ⟨g,0,none⟩∧n=L.length∧w.rangeAt g (j*2) (dotC (L[j]).1 (L[j]).2):=by
 rcases h.2 with ⟨h1,h0⟩|⟨g,cap',cur,h1,_,hg,hc,hm,hs,ht⟩
 · omega
 · cases h1
   refine ⟨g,rfl,rfl,fun i v hv=>?_⟩;have hi:i<2:=by have:=(List.getElem?_eq_some_iff.1 hv).1;simpa [dotC] using this
   rw [cell_of_row w g _ _ _ _ hg,←Array.getElem?_toList];have e:=tw L j hj;rw [←ht] at e
   have hlt:j*2+i<L.length*2:=by omega
   rw [←e,List.getElem?_take_of_lt hi,List.getElem?_drop,List.getElem?_take_of_lt hlt] at hv
   exact hv
theorem sq:(Tryz.prog.info? 26).map (fun i=>(i.zero,i.size,i.bytes))=some (some (.agg (dotC 0 0).toArray),2,8):=by kernel_rfl
theorem xo {w:World} {o:Oper} {a:Act} {K:Act→World→Prop} {Q:Exit→Act→World→Prop} (s x:Operand)
    (ho:o.op=.call {callee:=.builtin .append,args:= #[s,x],argTypes:= #[96,96]}) (base:Nat) (v:Value) (L:List (Int×Int)) (hs:a.eval s=v) (hown:gc w base v L) (d1 d2:Int)
    (g:Nat) (hx:a.eval x=.slice (some ⟨g,0,none⟩) 1 1) (hg:w.rangeAt g 0 (dotC d1 d2)) (hln:L.length≤1000000) (hbase:base≤w.heap.size)
    (h:∀v' w',gc w' base v' (L++ [(d1,d2)])→w.grownBy w' v.ownBlock→(v'.ownBlock=v.ownBlock∨v'.ownBlock=some w.heap.size)→K (a.put o.dst v') w'):o.wp Tryz.prog a w K Q:=by
 obtain ⟨i0,hi,hz0,hz1,hz2⟩:=info_parts sq;have h1:∀u∈dotC d1 d2,u.oneCell'=true:=by
  intro u hu;simp only [dotC,List.mem_cons,List.not_mem_nil,or_false] at hu
  rcases hu with rfl|rfl<;>rfl
 obtain ⟨v',w',hr,h2,h3,_,h5⟩:=run_append_own_at (P:=Tryz.prog) w base 96 o.type 26 i0 _ 2 8 Tryz.underlying96 hi hz0 hz1 hz2 rfl (by decide) v L.length (jK L) hown ⟨g,0,none⟩ 1 1 (dotC d1 d2) rfl (fun j u hu=>by rw [show (⟨g,0,none⟩:Addr).add j=⟨g,0+j,none⟩ by unfold Addr.add;split<;>simp_all];exact hg j u hu) h1 (by simp [maxLen];omega) (by omega) hbase;unfold Oper.wp execOp;simp only [ho,resolve,invoke,builtin,Sem.run_bind,Sem.run_pure,Result.andThen_ok,List.map_toArray,List.map_cons,List.map_nil,hs,hx,hr];refine h v' w' ?_ h3 h5;unfold gc;rw [List.length_append,show jK (L++ [(d1,d2)])=jK L++dotC d1 d2 by simp [jK]];exact h2
structure bZ (p:Nat→Prop) (w w':World):Prop where
 os:w'.os=w.os
 tape:w'.tape=w.tape
 output:w'.output=w.output
 size:w.heap.size≤w'.heap.size
 block:∀k,k<w.heap.size→¬p k→w'.heap[k]?=w.heap[k]?
theorem bZ.refl (p:Nat→Prop) (w:World):bZ p w w:=⟨rfl,rfl,rfl,Nat.le_refl _,fun _ _ _=>rfl⟩
theorem bZ.of_below {p:Nat→Prop} {w w':World} (h:Below w.heap.size w w'):bZ p w w':=⟨h.os,h.tape,h.output,h.size,fun k hk _=>h.block k hk⟩
theorem bZ.of_grown {p:Nat→Prop} {w w':World} {r:Option Nat} (h:w.grownBy w' r) (hp:∀k,r=some k→p k):bZ p w w':=⟨h.os,h.tape,h.output,h.size,fun k hk hn=>h.block k hk (fun e=>hn (hp k e.symm))⟩
theorem bZ.of_setCell {p:Nat→Prop} (w:World) {a:Addr} (ha:p a.block) (u:Value):bZ p w (w.setCell a u):=⟨rfl,rfl,rfl,by simp [World.setCell],fun k _ hn=>Below.heap_setCell w a u k (fun e=>hn (by rw [e];exact ha))⟩
theorem bZ.trans {p:Nat→Prop} {a b c:World} (h:bZ p a b) (k:bZ p b c):bZ p a c:=
 ⟨k.os.trans h.os,k.tape.trans h.tape,k.output.trans h.output,Nat.le_trans h.size k.size,fun i hi hn=>(k.block i (Nat.lt_of_lt_of_le hi h.size) hn).trans (h.block i hi hn)⟩
theorem bZ.mono {p q:Nat→Prop} {w w':World} (h:bZ p w w') (hq:∀k,k<w.heap.size→p k→q k):bZ q w w':=⟨h.os,h.tape,h.output,h.size,fun k hk hn=>h.block k hk (fun e=>hn (hq k hk e))⟩
theorem bZ.below {p:Nat→Prop} {w w':World} {B:Nat} (h:bZ p w w') (hB:B≤w.heap.size) (hp:∀k,p k→B≤k):Below B w w':=⟨h.os,h.tape,h.output,h.size,fun k hk=>h.block k (by omega) (fun e=>by have:=hp k e;omega)⟩
def nR (v:Value):Option (DataW Value×List MemPlace):=some (.held v,[])
theorem ls:Go.Maps.Keyed Tryz.prog 26:=Go.Maps.Keyed.of_law (deep_law (m:=3) (by omega) (by kernel_rfl) (by kernel_rfl) (by kernel_rfl))
def gt (a s:Int):Lit:=.string (keyBytes [.int .u8 a,.int .u32 s])
def okD (a s:Int):Prop:=(0≤a∧a≤255)∧0≤s∧s≤4294967295
theorem yo {a:Int} (h1:0≤a) (h2:a≤255):(Lit.int .u8 a).wf=true:=by
 show (decide ((0:Int)≤a)&&decide (a≤255))=true;simp;omega
theorem xX {a:Int} (h1:0≤a) (h2:a≤4294967295):(Lit.int .u32 a).wf=true:=by
 show (decide ((0:Int)≤a)&&decide (a≤4294967295))=true;simp;omega
theorem yg (d:Nat) (a:Int) (h1:0≤a) (h2:a≤255):Tryz.prog.keyLits (d+1) 5 [.int .u8 a]=some [.int .u8 a]:=by
 unfold Program.keyLits;simp [Tryz.underlying5,yo h1 h2]
theorem wW (d:Nat) (a:Int) (h1:0≤a) (h2:a≤4294967295):Tryz.prog.keyLits (d+1) 24 [.int .u32 a]=some [.int .u32 a]:=by
 unfold Program.keyLits;simp [Tryz.underlying24,xX h1 h2]
theorem pR:Tryz.prog.cellsOf 26=2∧Tryz.prog.cellsOf 5=1∧Tryz.prog.cellsOf 24=1:=⟨by kernel_rfl,by kernel_rfl,by kernel_rfl⟩
theorem nW (d:Nat) (a s:Int) (h:okD a s):Tryz.prog.keyLits (d+1+1) 26 (dotC a s)=some [.int .u8 a,.int .u32 s]:=by
 obtain ⟨⟨h1,h2⟩,h3,h4⟩:=h;obtain ⟨c1,c2,c3⟩:=pR;unfold Program.keyLits;simp [Tryz.underlying26,dotC,c1,c2,c3,yg d a h1 h2,wW d s h3 h4]
theorem uR:∃m,Tryz.prog.types.size=m+1:=by
 have h:Nat.ble 1 Tryz.prog.types.size=true:=by kernel_rfl
 exact ⟨Tryz.prog.types.size - 1,by have:=Nat.le_of_ble_eq_true h;omega⟩
theorem qZ (a s:Int) (h:okD a s):keyOf Tryz.prog 26 (.agg (dotC a s).toArray)=some (gt a s):=by
 obtain ⟨m,hm⟩:=uR;have hk:Tryz.prog.keyType 26=true:=by kernel_rfl
 have hf:Value.formed Tryz.prog 26 (.agg (dotC a s).toArray)=true:=by
  simp [Value.formed,Tryz.underlying26,pR.1,dotC]
 unfold keyOf;rw [Tryz.underlying26,hm];simp only [hk,hf,Bool.and_self,if_true,Value.cells];rw [nW m a s h]
 rfl
theorem lS {a s a' s':Int} (h:okD a s) (h':okD a' s') (e:gt a s=gt a' s'):a=a'∧s=s':=by
 unfold gt at e
 injection e with e
 have:=keyLits_inj (nW 0 a s h) (nW 0 a' s' h') e
 simpa using this
def bz (w:World) (b n:Nat) (M:Int→Int→Option Value):Prop:=
 ∃D:DataW Value,w.ownsMap Tryz.prog 26 nR b n D∧∀a s,okD a s→∀z,D.atKey (gt a s) z=(match M a s with|some v=>.held v|none=>z)
def tt (M:Int→Int→Option Value) (a s:Int) (v:Value):Int→Int→Option Value:=fun a' s'=>if a'=a∧s'=s then some v else M a' s'
def yk (M:Int→Int→Option Value) (a s:Int):Int→Int→Option Value:=fun a' s'=>if a'=a∧s'=s then none else M a' s'
theorem bz.made (w:World):bz (w.alloc (.map #[] 0)) w.heap.size 0 (fun _ _=>none):=⟨_,World.ownsMap_made w _ _ _,fun _ _ _ _=>rfl⟩
theorem bz.lt {w:World} {b n:Nat} {M:Int→Int→Option Value} (h:bz w b n M):b<w.heap.size:=by obtain ⟨D,h,_⟩:=h;exact h.lt
theorem bz.congr {w w':World} {b n:Nat} {M:Int→Int→Option Value} (h:bz w b n M) (he:w'.heap[b]?=w.heap[b]?):bz w' b n M:=by
 obtain ⟨D,⟨es,cl,hb,r⟩,hM⟩:=h;exact ⟨D,⟨es,cl,he.trans hb,r⟩,hM⟩
theorem bz.alloc {w:World} {b n:Nat} {M:Int→Int→Option Value} (h:bz w b n M) (o:Obj):bz (w.alloc o) b n M:=h.congr (Below.heap_alloc w o b h.lt)
theorem bz.below {w w':World} {b n B:Nat} {M:Int→Int→Option Value} (h:bz w b n M) (hb:Below B w w') (hl:b<B):bz w' b n M:=h.congr (hb.block b hl)
theorem bz.far {w w':World} {b n:Nat} {M:Int→Int→Option Value} (h:bz w b n M) (hb:Below w.heap.size w w'):bz w' b n M:=h.below hb h.lt
theorem bz.setCell {w:World} {b n:Nat} {M:Int→Int→Option Value} (h:bz w b n M) {a:Addr} (ha:b≠a.block) (u:Value):bz (w.setCell a u) b n M:=h.congr (Below.heap_setCell w a u b ha)
theorem bz.has {w:World} {b n:Nat} {M:Int→Int→Option Value} (h:bz w b n M):∃D:DataW Value,w.ownsMap Tryz.prog 26 nR b n D∧∀a s,okD a s→Maps.has D (gt a s)=(M a s).isSome∧∀z,D.atKey (gt a s) z=(match M a s with|some v=>.held v|none=>z):=by
 obtain ⟨D,h,hM⟩:=h;refine ⟨D,h,fun a s ho=>⟨?_,hM a s ho⟩⟩;cases hv:M a s with
 |none=>exact Maps.has_false_of_atKey fun z=>by rw [hM a s ho,hv]
 |some v=>exact Maps.has_true_of_atKey (y:=.held v) fun z=>by rw [hM a s ho,hv]
theorem bz.look {w:World} {b n:Nat} {M:Int→Int→Option Value} (h:bz w b n M) {t e:TypeId} (ht:Tryz.prog.underlying t=some (.map 26 e)) {z:Value} (hz:(zeroValue e).run Tryz.prog w=.ok z w) (a s:Int) (ho:okD a s):
    (Instr.lookup t (.map (some b)) (.agg (dotC a s).toArray) true).run Tryz.prog w=.ok (.tuple #[(M a s).getD z,.bool (M a s).isSome]) w:=by
 obtain ⟨D,hD,hM⟩:=h.has;obtain ⟨h1,h2⟩:=hM a s ho;obtain ⟨v,ps,hrun,hv⟩:=hD.look_ok ls ht hz (zd:=.held z) (zp:=[]) rfl (qZ a s ho);rw [hrun,h1];unfold nR at hv
 injection hv with hv
 injection hv with hv _
 rw [h2] at hv
 cases hm:M a s with
 |none=>rw [hm] at hv;injection hv with hv;rw [hv];rfl
 |some u=>rw [hm] at hv;injection hv with hv;rw [hv];rfl
theorem tU (a s:Int):Go.WideAt.IsKeyLit (gt a s):=by unfold gt;trivial
theorem bz.store {w:World} {b n:Nat} {M:Int→Int→Option Value} (h:bz w b n M) {t e:TypeId} (ht:Tryz.prog.underlying t=some (.map 26 e)) (hn:n<maxLen) (a s:Int) (ho:okD a s) (v:Value):
    ∃w',(Instr.mapUpdate t (.map (some b)) (.agg (dotC a s).toArray) v).run Tryz.prog w=.ok () w'∧bz w' b (n+1) (tt M a s v)∧w.grownBy w' (some b):=by
 obtain ⟨D,hD,hM⟩:=h;obtain ⟨w',hrun,hown,ht'⟩:=hD.store ls ht hn (qZ a s ho) (d:=.held v) (ps:=[]) rfl;refine ⟨w',hrun,⟨_,hown,fun a' s' ho' z=>?_⟩,ht'.grown⟩;unfold tt
 by_cases e:a'=a∧s'=s
 · obtain ⟨rfl,rfl⟩:=e
   rw [if_pos ⟨rfl,rfl⟩,Maps.atKey_put_same hD.isMap (tU _ _)]
 · rw [if_neg e,Maps.atKey_put_other (fun q=>e (lS ho' ho q)),hM a' s' ho']
theorem bz.drop {w:World} {b n:Nat} {M:Int→Int→Option Value} (h:bz w b n M) {t e:TypeId} (ht:Tryz.prog.underlying t=some (.map 26 e)) (ty:TypeId) (a s:Int) (ho:okD a s):
    ∃w',(Builtin.delete_ #[t,26] ty #[.map (some b),.agg (dotC a s).toArray]).run Tryz.prog w=.ok (.tuple #[]) w'∧bz w' b n (yk M a s)∧w.grownBy w' (some b):=by
 obtain ⟨D,hD,hM⟩:=h;obtain ⟨w',hrun,hown,ht'⟩:=hD.drop ls ht (qZ a s ho) ty;refine ⟨w',hrun,⟨_,hown,fun a' s' ho' z=>?_⟩,ht'.grown⟩;unfold yk
 by_cases e:a'=a∧s'=s
 · obtain ⟨rfl,rfl⟩:=e
   rw [if_pos ⟨rfl,rfl⟩,Maps.atKey_del_same]
 · rw [if_neg e,Maps.atKey_del_other (fun q=>e (lS ho' ho q)),hM a' s' ho']
def dJ (own:Int) (seed:List Int) (b:Nat) (v:Value):List Value:=[.int .u8 own]++seed.map (Value.int .u8)++ [.map (some b),v]
theorem tx (own:Int) (seed:List Int) (b:Nat) (v:Value):(dJ own seed b v)[0]?=some (.int .u8 own):=rfl
theorem qF (own:Int) (seed:List Int) (b:Nat) (v:Value) (hs:seed.length=32):((dJ own seed b v).drop 1).take 32=seed.map (Value.int .u8):=by
 show (seed.map (Value.int .u8)++ [.map (some b),v]).take 32=_;rw [List.take_left' (by simp [hs])]
theorem mU (own:Int) (seed:List Int) (b:Nat) (v:Value) (hs:seed.length=32):(dJ own seed b v)[33]?=some (.map (some b)):=by
 show (seed.map (Value.int .u8)++ [.map (some b),v])[32]?=_;rw [List.getElem?_append_right (by simp [hs])];simp [hs]
theorem fG (own:Int) (seed:List Int) (b:Nat) (v:Value) (hs:seed.length=32):(dJ own seed b v)[34]?=some v:=by
 show (seed.map (Value.int .u8)++ [.map (some b),v])[33]?=_;rw [List.getElem?_append_right (by simp [hs])];simp [hs]
theorem tf (own:Int) (seed:List Int) (b:Nat) (v v':Value) (hs:seed.length=32):(dJ own seed b v).set 34 v'=dJ own seed b v':=by
 show (([.int .u8 own]:List Value)++seed.map (Value.int .u8)++ [.map (some b),v]).set 34 v'=_;rw [List.set_append_right _ _ (by simp [hs])];simp [hs,dJ]
def jZ (M:Int→Int→Option (List Int)):Int→Int→Option Value:=fun a s=>(M a s).map fun k=>.agg (row .u8 k)
def gP (M:Int→Int→Option (List Int)) (a s:Int) (k:List Int):Int→Int→Option (List Int):=fun a' s'=>if a'=a∧s'=s then some k else M a' s'
theorem vq (M:Int→Int→Option (List Int)) (a s:Int) (k:List Int):jZ (gP M a s k)=tt (jZ M) a s (.agg (row .u8 k)):=by
 funext a' s'
 unfold jZ gP tt
 by_cases e:a'=a∧s'=s
 · rw [if_pos e,if_pos e];rfl
 · rw [if_neg e,if_neg e]
structure aA (w:World) (base H:Nat) (own:Int) (seed:List Int) (b:Nat) (M:Int→Int→Option (List Int)) (v:Value) (L:List (Int×Int)):Prop where
 box:CellsAt w H 98 (dJ own seed b v)
 map:bz w b L.length (jZ M)
 added:gc w base v L
 seed32:seed.length=32
 is32:∀a s k,M a s=some k→k.length=32
 lenL:L.length≤16
 baseH:base≤H
 baseB:base≤b
def dz (H b:Nat) (v:Value) (k:Nat):Prop:=k=H∨k=b∨v.ownBlock=some k
theorem aA.neHB {w:World} {base H:Nat} {own:Int} {seed:List Int} {b:Nat} {M:Int→Int→Option (List Int)} {v:Value} {L:List (Int×Int)} (h:aA w base H own seed b M v L):b≠H:=by
 intro e;subst e;obtain ⟨D,⟨es,cl,hb,_⟩,_⟩:=h.map;have:=h.box;unfold CellsAt at this
 rw [hb] at this
 cases this
theorem aA.neV {w:World} {base H:Nat} {own:Int} {seed:List Int} {b:Nat} {M:Int→Int→Option (List Int)} {v:Value} {L:List (Int×Int)} (h:aA w base H own seed b M v L) (g:Nat) (hg:v.ownBlock=some g):g≠H∧g≠b:=by
 obtain ⟨_,_,cur,hc⟩:=h.added.blockLt g hg;refine ⟨fun e=>?_,fun e=>?_⟩
 · subst e
   have:=h.box;unfold CellsAt at this
   rw [hc] at this
   injection this with this
   injection this with _ e2 _
   exact absurd e2 (by decide)
 · subst e
   obtain ⟨D,⟨es,cl,hb,_⟩,_⟩:=h.map;rw [hb] at hc
   cases hc
theorem aA.congr {w w':World} {base H:Nat} {own:Int} {seed:List Int} {b:Nat} {M:Int→Int→Option (List Int)} {v:Value} {L:List (Int×Int)} (h:aA w base H own seed b M v L) (hk:∀g,dz H b v g→w'.heap[g]?=w.heap[g]?):aA w' base H own seed b M v L:=
 ⟨h.box.congr (hk H (.inl rfl)),h.map.congr (hk b (.inr (.inl rfl))),h.added.congr fun g hg=>hk g (.inr (.inr hg)),h.seed32,h.is32,h.lenL,h.baseH,h.baseB⟩
theorem aA.inside {w:World} {base H:Nat} {own:Int} {seed:List Int} {b:Nat} {M:Int→Int→Option (List Int)} {v:Value} {L:List (Int×Int)} (h:aA w base H own seed b M v L) (g:Nat) (hg:dz H b v g):g<w.heap.size∧base≤g:=by
 rcases hg with rfl|rfl|hg
 · exact ⟨h.box.lt,h.baseH⟩
 · exact ⟨h.map.lt,h.baseB⟩
 · obtain ⟨h1,h2,_⟩:=h.added.blockLt g hg
   exact ⟨h1,h2⟩
theorem aA.far {w w':World} {base H:Nat} {own:Int} {seed:List Int} {b:Nat} {M:Int→Int→Option (List Int)} {v:Value} {L:List (Int×Int)} (h:aA w base H own seed b M v L) (hb:Below w.heap.size w w'):aA w' base H own seed b M v L:=h.congr fun g hg=>hb.block g (h.inside g hg).1
theorem aA.turn {w w':World} {base H:Nat} {own:Int} {seed:List Int} {b:Nat} {M:Int→Int→Option (List Int)} {v:Value} {L:List (Int×Int)} {p:Nat→Prop} (h:aA w base H own seed b M v L) (ht:bZ p w w') (hp:∀g,dz H b v g→¬p g):aA w' base H own seed b M v L:=h.congr fun g hg=>ht.block g (h.inside g hg).1 (hp g hg)
theorem nI:Tryz.prog.underlying 95=some (.map 26 23):=by kernel_rfl
theorem eK:(Tryz.prog.info? 26).map (·.size)=some 2:=by kernel_rfl
theorem vC:(Tryz.prog.info? 23).map (·.size)=some 32:=by kernel_rfl
set_option maxHeartbeats 4000000
theorem tE {P:Program} {o:Oper} {a:Act} {w w':World} {K:Act→World→Prop} {Q:Exit→Act→World→Prop} (t:TypeId) (m x y:Operand) (ho:o.op=.mapUpdate t m x y) (mv xv yv:Value) (hm:a.eval m=mv) (hx:a.eval x=xv) (hy:a.eval y=yv)
    (hrun:(Instr.mapUpdate t mv xv yv).run P w=.ok () w') (h:K (a.put o.dst undef) w'):o.wp P a w K Q:=by
 unfold Oper.wp;simp [execOp,ho,hm,hx,hy,hrun,Result.andThen];exact h
theorem aa.cellsAt {w:World} {g:Nat} {k:IntKind} {t:TypeId} {l:List Int} (h:aa w g k t l):CellsAt w g t (l.map (Value.int k)):=h
theorem pF (base H:Nat) (own:Int) (seed:List Int) (b:Nat) (M:Int→Int→Option (List Int)) (v:Value) (L:List (Int×Int)) (a s:Int) (k:List Int) (w:World) (hR:aA w base H own seed b M v L) (hl:L.length<16) (ho:okD a s) (hk:k.length=32) (hbase:base≤w.heap.size):
    Calls Tryz.prog 62 #[.pointer (some ⟨H,0,none⟩),.agg (dotC a s).toArray,.agg (row .u8 k)] w fun e w'=>(∃r,e=.returned r)∧∃v',aA w' base H own seed b (gP M a s k) v' (L++ [(a,s)])∧bZ (dz H b v) w w'∧(v'.ownBlock=v.ownBlock∨∃g,v'.ownBlock=some g∧w.heap.size≤g):=by
 have hs32:=hR.seed32;have hd0:=CellsAt.new w 26 (dotC a s);have hk0:=aa.new (w.alloc (.cells (dotC a s).toArray 26)) .u8 23 k;rw [World.size_alloc] at hk0
 have hd1:=hd0.alloc (.cells (row .u8 k) 23);have hB:Below w.heap.size w ((w.alloc (.cells (dotC a s).toArray 26)).alloc (.cells (row .u8 k) 23)):=((Below.refl _ _).alloc (Nat.le_refl _) _).alloc (by simp) _;have hR0:=hR.far hB;have hsz0:w.heap.size≤((w.alloc (.cells (dotC a s).toArray 26)).alloc (.cells (row .u8 k) 23)).heap.size:=hB.size;have hin:=hR.inside;have uD:Tryz.prog.underlying 26=_:=Tryz.underlying26;have uK:Tryz.prog.underlying 23=_:=Tryz.underlying23;have iD:(Tryz.prog.info? 26).map (·.size)=some (dotC a s).length:=eK;have iK:(Tryz.prog.info? 23).map (·.size)=some (k.map (Value.int .u8)).length:=by rw [List.length_map,hk];exact vC
 go_enter Tryz.func62,Tryz.ntmps62;go_upto_region 1 with fail
 refine ae (p:=fun y=>Code.wp _ _ _ _ y) (fun W=>Below w.heap.size w W∧aA W base H own seed b M v L∧CellsAt W w.heap.size 26 (dotC a s)∧aa W (w.heap.size+1) .u8 23 k) ⟨hB,hR0,hd1,hk0⟩ ?_;clear hB hR0 hd1 hk0 hd0 hsz0;rintro W ⟨hB,hR0,hd0,hk0⟩;have hkr:=hk0.cellsAt.range 0 32;rw [List.drop_zero,List.take_of_length_le (by simp [hk])] at hkr
 refine ag (fun w'=>w'.cell? ⟨H,33,none⟩=some (.map (some b))∧w'.rangeAt w.heap.size 0 (dotC a s)∧w'.rangeAt (w.heap.size+1) 0 (k.map (Value.int .u8))) 6 (by kernel_rfl) ?_;have hS:(fun w':World=>w'.cell? ⟨H,33,none⟩=some (.map (some b))∧w'.rangeAt w.heap.size 0 (dotC a s)∧w'.rangeAt (w.heap.size+1) 0 (k.map (Value.int .u8))) W.drew:=⟨by have:=hR0.box.cell 33;rw [mU _ _ _ _ hs32] at this;exact this,hd0.range 0 2,hkr⟩
 refine gaA 0 _ hS ?_;simp only [zp];refine gaA 1 _ hS ?_;simp only [zp];refine gaA 2 _ hS ?_;simp only [zp];refine grA 3 _ hS ?_;simp only [zp];refine zg 4 10 26 4 w.heap.size 0 (dotC a s) hS (fun _ h=>h.2.1) uD iD ?_;simp only [zp];refine zg 5 11 23 5 ((w.heap.size+1)) 0 (k.map (Value.int .u8)) hS (fun _ h=>h.2.2) uK iK ?_;simp only [zp];refine zw 6 fun K hK=>?_
 obtain ⟨W1,hrun,hM1,hg1⟩:=(hR0.map.congr (w':=W.drew) rfl).store nI (by simp [maxLen];omega) a s ho (.agg (row .u8 k));refine tE 95 _ _ _ rfl _ _ _ rfl rfl rfl hrun ?_;refine hK.out _ _ zn ?_;clear hK K
 try simp only [zp]
 refine ah (by kernel_rfl) ?_ _;have hbH:=hR0.neHB;have hlt:∀g,g<w.heap.size+2→g<W.drew.heap.size:=fun g hg=>Nat.lt_of_lt_of_le hg hk0.lt
 have hT1:bZ (dz H b v) w W1:=(bZ.of_below hB).trans ((bZ.of_below (w':=W.drew) (Below.refl _ _).drew).trans (bZ.of_grown hg1 fun k hk=>by cases hk;exact .inr (.inl rfl)));have hbx:b<w.heap.size:=(hin b (.inr (.inl rfl))).1;have hHx:H<w.heap.size:=(hin H (.inl rfl)).1;have hbox1:CellsAt W1 H 98 (dJ own seed b v):=hR0.box.congr (hg1.block H (hlt H (by omega)) (by simpa using fun e=>hbH e.symm));have hd1:CellsAt W1 w.heap.size 26 (dotC a s):=hd0.congr (hg1.block _ (hlt _ (by omega)) (by simp;omega));have hv1:gc W1 base v L:=hR0.added.congr fun g hg=>hg1.block g (hlt g (by have:=(hin g (.inr (.inr hg))).1;omega)) (by simp;intro e;exact (hR0.neV g hg).2 e)
 refine ae (p:=fun y=>Exit.then _ _ _ _ y) (fun W1=>bZ (dz H b v) w W1∧CellsAt W1 H 98 (dJ own seed b v)∧CellsAt W1 w.heap.size 26 (dotC a s)∧gc W1 base v L∧bz W1 b (L.length+1) (tt (jZ M) a s (.agg (row .u8 k)))) ⟨hT1,hbox1,hd1,hv1,hM1⟩ ?_;have HNV:ac (∀g,v.ownBlock=some g→g≠H∧g≠b∧g<w.heap.size):=⟨fun g hg=>⟨(hR0.neV g hg).1,(hR0.neV g hg).2,(hin g (.inr (.inr hg))).1⟩⟩
 clear hT1 hbox1 hd1 hv1 hM1 hg1 hrun hS hB hR0 hd0 hk0 hkr iK uK hlt;clear W1 W;rintro W ⟨hT1,hbox1,hd1,hv1,hM1⟩;go_upto_region 2 with fail
 have c34:=hbox1.cell 34;rw [fG _ _ _ _ hs32] at c34
 have hW0:w.heap.size≤W.heap.size:=hT1.size;have hWl:w.heap.size<W.heap.size:=hd1.lt;refine ag (fun w'=>w'.cell? ⟨H,34,none⟩=some v∧w'.rangeAt w.heap.size 0 (dotC a s)) 10 (by kernel_rfl) ?_;have hS:(fun w':World=>w'.cell? ⟨H,34,none⟩=some v∧w'.rangeAt w.heap.size 0 (dotC a s)) W.drew:=⟨c34,hd1.range 0 2⟩
 refine gaA 0 _ hS ?_;simp only [zp];refine gaA 1 _ hS ?_;simp only [zp];refine gaA 2 _ hS ?_;simp only [zp];refine gaA 3 _ hS ?_;simp only [zp];refine grA 4 _ hS ?_;simp only [zp];refine zg 5 17 26 4 w.heap.size 0 (dotC a s) hS (fun _ h=>h.2) uD iD ?_;simp only [zp];refine zw 6 fun K hK=>?_
 obtain ⟨iw,hiw,hwz,hws,hwb⟩:=info_parts sq;refine wp_buildSlice 96 26 1 _ rfl (dotC a s).toArray iw _ Tryz.underlying96 hiw hwz (by rw [hws];decide) (by rw [hws];decide) (by rw [hws];kernel_rfl) ?_;have hbx2:=hbox1.alloc (.cells (dotC a s).toArray 26);have hd2:=hd1.alloc (.cells (dotC a s).toArray 26);have hv2:gc (W.drew.alloc (.cells (dotC a s).toArray 26)) base v L:=hv1.congr fun g hg=>Below.heap_alloc W _ g (by have:=(HNV.out g hg).2.2;omega)
 have hM2:=hM1.alloc (.cells (dotC a s).toArray 26);have hn2:=CellsAt.new W 26 (dotC a s);have hT2:bZ (dz H b v) w (W.drew.alloc (.cells (dotC a s).toArray 26)):=hT1.trans (bZ.of_below ((Below.refl _ _).drew.alloc (Nat.le_refl _) _));have hsz2:(W.drew.alloc (.cells (dotC a s).toArray 26)).heap.size=W.heap.size+1:=by simp
 replace hS:(fun w':World=>w'.cell? ⟨H,34,none⟩=some v∧w'.rangeAt w.heap.size 0 (dotC a s)) (W.drew.alloc (.cells (dotC a s).toArray 26)):=⟨by have:=hbx2.cell 34;rw [fG _ _ _ _ hs32] at this;exact this,hd2.range 0 2⟩
 refine hK.out _ _ (fun _=>hS) ?_;clear hK K
 try simp only [zp]
 refine zw 7 fun K hK=>?_
 refine xo _ _ rfl base v L rfl hv2 a s W.heap.size rfl (hn2.range 0 2) (by omega) (by rw [hsz2];omega) ?_;intro v3 W3 hv3 hg3 hw3;rw [hsz2] at hw3
 have hk3:∀g,g<W.heap.size→v.ownBlock≠some g→W3.heap[g]?=W.heap[g]?:=fun g hg hn=>(hg3.block g (by rw [hsz2];omega) (fun e=>hn e.symm)).trans (Below.heap_alloc W _ g hg)
 have hbox3:CellsAt W3 H 98 (dJ own seed b v):=hbox1.congr (hk3 H (by omega) (fun e=>(HNV.out H e).1 rfl));have hd3:CellsAt W3 w.heap.size 26 (dotC a s):=hd1.congr (hk3 _ hWl (fun e=>by have:=(HNV.out _ e).2.2;omega));have hM3:bz W3 b (L.length+1) (tt (jZ M) a s (.agg (row .u8 k))):=hM1.congr (hk3 b (by omega) (fun e=>(HNV.out b e).2.1 rfl));have hT3:bZ (dz H b v) w W3:=hT2.trans (bZ.of_grown hg3 fun k hk=>.inr (.inr hk));replace hS:(fun w':World=>w'.cell? ⟨H,34,none⟩=some v∧w'.rangeAt w.heap.size 0 (dotC a s)) W3:=⟨by have:=hbox3.cell 34;rw [fG _ _ _ _ hs32] at this;exact this,hd3.range 0 2⟩
 refine hK.out _ _ (fun _=>hS) ?_;clear hK K
 try simp only [zp]
 refine gaA 8 _ hS ?_;simp only [zp];refine gaA 9 _ hS ?_;simp only [zp];refine zw 10 fun K hK=>?_
 have c3:=hS.1;have f3:=hbox3.frozen 34;have HV3:ac (gc W3 base v3 (L++ [(a,s)])):=⟨hv3⟩
 have HW3:ac (v3.ownBlock=v.ownBlock∨v3.ownBlock=some (W.heap.size+1)):=⟨hw3⟩
 obtain ⟨x3,q3,hx3⟩:=hv3.isSlice;clear hv3 hw3 hg3;subst hx3;go_simp;refine hK.out _ _ zn ?_;clear hK K
 try simp only [zp]
 refine ah (by kernel_rfl) ?_ _;go_wp2
 go_end0
 have hlen:(L++ [(a,s)]).length=L.length+1:=by simp
 rw [hlen] at HV3 HW3
 refine ⟨⟨_,rfl⟩,.slice x3 (L.length+1) q3,⟨?_,?_,?_,hs32,?_,by rw [hlen];omega,hR.baseH,hR.baseB⟩,?_,?_⟩
 · have:=hbox3.set 34 (.slice x3 (L.length+1) q3)
   rw [tf _ _ _ _ _ hs32] at this
   exact this
 · rw [hlen,vq];exact hM3.setCell (by simpa using hbH) _
 · refine HV3.out.congr fun g hg=>Below.heap_setCell W3 _ _ g ?_
   intro e;have e':g=H:=e;subst e'
   rcases HW3.out with h|h
   · rw [h] at hg;exact (HNV.out g hg).1 rfl
   · rw [h] at hg;cases hg;omega
 · intro a' s' k' h
   unfold gP at h
   split at h
   · injection h with h;rw [←h];exact hk
   · exact hR.is32 a' s' k' h
 · exact hT3.trans (bZ.of_setCell W3 (a:=⟨H,34,none⟩) (.inl rfl) _)
 · rcases HW3.out with h|h
   · exact .inl h
   · exact .inr ⟨_,h,by omega⟩
section
variable {P:Program} {o:Oper} {a:Act} {w:World} {K:Act→World→Prop} {Q:Exit→Act→World→Prop}
theorem aC (f:FuncId) (args:Array Value) (hrun:(execOp a.eval o).run P w=.ok (.enter f args) w)
    (hc:Calls P f args w fun e w'=>∃v,e=.returned v∧K (a.put o.dst v) w'):o.wp P a w K Q:=by
 unfold Oper.wp;rw [hrun,Oper.upon_enter];refine hc.mono fun e w'' hh=>?_
 obtain ⟨v,rfl,hk⟩:=hh;exact hk
theorem pj (src dst:TypeId) (x:Operand) (ho:o.op=.convert src dst x) (xv v:Value) (w':World) (hx:a.eval x=xv) (hrun:(convert src dst xv).run P w=.ok v w') (h:K (a.put o.dst v) w'):o.wp P a w K Q:=by
 unfold Oper.wp execOp;simp only [ho,hx,Sem.run_bind,hrun,Result.andThen_ok,Sem.run_pure];exact h
theorem sJ (t:TypeId) (x:Operand) (ho:o.op=.sliceToArrayPointer t x) (xv v:Value) (w':World) (hx:a.eval x=xv) (hrun:(Instr.arrayAt t xv).run P w=.ok v w') (h:K (a.put o.dst v) w'):o.wp P a w K Q:=by
 unfold Oper.wp execOp;simp only [ho,hx,Sem.run_bind,hrun,Result.andThen_ok,Sem.run_pure];exact h
theorem pk (t:TypeId) (l c:Operand) (ho:o.op=.makeSlice t l c) (lv cv v:Value) (w':World) (hl:a.eval l=lv) (hc:a.eval c=cv) (hrun:(Instr.makeSlice t lv cv).run P w=.ok v w') (h:K (a.put o.dst v) w'):o.wp P a w K Q:=by
 unfold Oper.wp execOp;simp only [ho,hl,hc,Sem.run_bind,hrun,Result.andThen_ok,Sem.run_pure];exact h
theorem oe (d s:Operand) (dT sT:TypeId) (ho:o.op=.call {callee:=.builtin .append,args:= #[d,s],argTypes:= #[dT,sT]}) (dv sv v:Value) (w':World) (hd:a.eval d=dv) (hs:a.eval s=sv) (hrun:(Builtin.append_ #[dT,sT] o.type #[dv,sv]).run P w=.ok v w') (h:K (a.put o.dst v) w'):o.wp P a w K Q:=by
 unfold Oper.wp execOp;simp only [ho,resolve,invoke,builtin,Sem.run_bind,Sem.run_pure,Result.andThen_ok,List.map_toArray,List.map_cons,List.map_nil,hd,hs,hrun];exact h
theorem sN (t:TypeId) (parts:Array (Nat×Operand)) (ho:o.op=.build t parts) (vals:Array (Nat×Value)) (hv:(parts.map fun (i,x)=>(i,a.eval x))=vals) (v:Value) (hrun:(Instr.build t vals).run P w=.ok v w) (h:K (a.put o.dst v) w):o.wp P a w K Q:=by
 unfold Oper.wp execOp;simp only [ho,hv,Sem.run_bind,hrun,Result.andThen_ok,Sem.run_pure];exact h
theorem aF {ops:Array Oper} {rest:List Oper} (hgd:o.guard=none) (t:TypeId) (parts:Array (Nat×Operand)) (ho:o.op=.build t parts) (vals:Array (Nat×Value)) (hv:(parts.map fun (i,x)=>(i,a.eval x))=vals) (v:Value) (hrun:(Instr.build t vals).run P w=.ok v w)
    (h:wpList P ops Q rest (a.put o.dst v) w):wpList P ops Q (o::rest) a w:=
 wpList_plain hgd fun _ hK=>sN t parts ho vals hv v hrun (hK _ _ h)
end
end Go.Proofs.YtbdhfbglagdiaaaGreatDoor
