/- Kr3 Kr4 Oi -/
import Derived.Test.YtbdhfbglagdiaaaGreatDoorJ31
import Derived.Test.YtbdhfbglagdiaaaGreatDoorJ01
import Derived.Maps.AppendAt
import Derived.Laws.AppendOwnNone
import Derived.Test.YtbdhfbglagdiaaaGreatDoorJ28
import Derived.Great.BuildSlice
namespace Go.Proofs.YtbdhfbglagdiaaaGreatDoor
open Go.RowKit
set_option maxRecDepth 20000
set_option maxHeartbeats 4000000
set_option linter.unusedSimpArgs false
def bN (own:Int) (seed:List Int) (v:Value):List Value:=[.int .u8 own]++seed.map (Value.int .u8)++ [v]
theorem qf (own:Int) (seed:List Int) (v:Value) (hs:seed.length=32):((bN own seed v).drop 1).take 32=seed.map (Value.int .u8):=by
 show (seed.map (Value.int .u8)++ [v]).take 32=_;rw [List.take_left' (by simp [hs])]
theorem pV (own:Int) (seed:List Int) (v:Value) (hs:seed.length=32):(bN own seed v)[33]?=some v:=by
 show (seed.map (Value.int .u8)++ [v])[32]?=_;rw [List.getElem?_append_right (by simp [hs])];simp [hs]
theorem qn (own:Int) (seed:List Int) (v v':Value) (hs:seed.length=32):(bN own seed v).set 33 v'=bN own seed v':=by
 show (([.int .u8 own]:List Value)++seed.map (Value.int .u8)++ [v]).set 33 v'=_;rw [List.set_append_right _ _ (by simp [hs])];simp [hs,bN]
section
variable (H:Nat) (own:Int) (seed:List Int) (v:Value) (w:World)
theorem qs (p:Int) (hR:CellsAt w H 103 (bN own seed v)) (hs32:seed.length=32):
    Calls Tryz.prog 93 #[.pointer (some ⟨H,0,none⟩),.int .u8 p] w fun e w'=>e=.returned (.agg (row .u8 (gH seed p)))∧Below w.heap.size w w':=by
 obtain ⟨Z,hZl,hZ⟩:∃Z:List Int,Z.length=32∧Z=List.replicate 32 0:=⟨_,rfl,rfl⟩
 have hB:Below w.heap.size w (w.alloc (.cells (row .u8 Z) 23)):=(Below.refl _ _).alloc (Nat.le_refl _) _;have hr0:=aa.new w .u8 23 Z;have hPl:(gH seed p).length=32:=aV _ _;have HD:ac (∀W:World,Calls Tryz.prog 64 #[.agg (row .u8 seed),.string ⟨#[109,97,99]⟩,.slice (some ⟨W.heap.size,0,none⟩) 1 1] (W.alloc (.cells (row .u8 [p]) 5)) fun e w'=>e=.returned (.agg (row .u8 (gH seed p)))∧Below (W.alloc (.cells (row .u8 [p]) 5)).heap.size (W.alloc (.cells (row .u8 [p]) 5)) w'):=⟨fun W=>ir seed ⟨#[109,97,99]⟩ _ 1 1 [p] _ hs32 (by decide) (pD W [p] 1 rfl (by simp)) (by omega)⟩
 obtain ⟨PL,hPL⟩:∃z,gH seed p=z:=⟨_,rfl⟩
 rw [hPL] at HD hPl
 have HPL:=ac.mk hPL;clear hPL;go_enter Tryz.func93,Tryz.ntmps93;go_upto_region 3 with fail
 refine af (p:=fun y=>Code.wp _ _ _ _ y) (fun W=>Below w.heap.size w W∧CellsAt W H 103 (bN own seed v)∧aa W w.heap.size .u8 23 Z) ⟨by rw [hZ] at hB;exact hB,by rw [hZ] at hB;exact hR.congr (hB.block _ hR.lt),by rw [hZ] at hr0 ⊢;exact hr0⟩ ?_;clear hB hr0 hZ;rintro W ⟨hB,hR0,hr0⟩;have rS:=hR0.range 1 32;rw [qf _ _ _ hs32] at rS
 have iK:(Tryz.prog.info? 23).map (·.size)=some (seed.map (Value.int .u8)).length:=by rw [List.length_map,hs32];exact ap
 have hd:=HD.out W;have hB2:=hB.alloc hB.size (.cells (row .u8 [p]) 5);have hr2:=hr0.alloc (.cells (row .u8 [p]) 5);clear hR0
 go_wp2_with (first
  |(refine ae rfl 23 _ rfl _ _ rfl (seed.map (Value.int .u8)) rS Tryz.underlying23 rfl iK ?_)
  |(go_at_call 64;refine hd.mono ?_;rintro e w1 ⟨rfl,hb1⟩;have hr3:=hr2.below hb1 hr2.lt)
  |(refine ah rfl 23 _ _ rfl _ rfl rfl hr3 (by rw [hPl];exact ap) (by rw [hZl,hPl]) ?_))
 refine bodyPost_ret (aj (Tryz.results93) _ rfl (hr3.setRow _) Tryz.underlying23 ap hPl) rfl ⟨?_,?_⟩
 · rw [HPL.out]
 · exact below_setRow (hB2.trans (hb1.mono hB2.size)) (Nat.le_refl _) _
end
def rh:List Value:=bN 0 (List.replicate 32 0) (.slice none 0 0)
theorem rx:(Tryz.prog.info? 103).map (·.zero)=some (some (.agg rh.toArray)):=by kernel_rfl
theorem qd (own:Int) (seed:List Int) (hs:seed.length=32) (w:World):(Instr.build 103 #[(0,.int .u8 own),(1,.agg (row .u8 seed))]).run Tryz.prog w=.ok (.agg (bN own seed (.slice none 0 0)).toArray) w:=by
 refine run_build w _ _ _ ?_;rw [me rx Tryz.underlying103 (by kernel_rfl) (places:=[(0,1),(1,32),(33,1)])];rw [dh _ _ [.int .u8 own] 0 0 1 _ _ rfl rfl rfl (by decide),show rh.take 0++ [.int .u8 own]++rh.drop (0+1)=[Value.int .u8 own]++(List.replicate 32 (0:Int)).map (Value.int .u8)++ [.slice none 0 0] from rfl];rw [dh _ _ (seed.map (Value.int .u8)) 1 1 32 _ _ rfl rfl (by simp [hs]) (Nat.le_of_ble_eq_true rfl),Instr.fill]
 rfl
theorem jl:(Tryz.prog.info? 106).map (fun i=>(i.zero,i.size,i.bytes))=some (some (.agg (dotC 0 0++(List.replicate 32 (0:Int)).map (Value.int .u8)).toArray),34,40):=by kernel_rfl
theorem rJ:(Tryz.prog.info? 106).map (·.zero)=some (some (.agg (dotC 0 0++(List.replicate 32 (0:Int)).map (Value.int .u8)).toArray)):=by kernel_rfl
def epC (a s:Int) (k:List Int):List Value:=dotC a s++k.map (Value.int .u8)
theorem kV (a s:Int) (k:List Int) (hk:k.length=32) (w:World):(Instr.build 106 #[(0,.agg (dotC a s).toArray),(1,.agg (row .u8 k))]).run Tryz.prog w=.ok (.agg (epC a s k).toArray) w:=by
 refine run_build w _ _ _ ?_;rw [me rJ Tryz.underlying106 (by kernel_rfl) (places:=[(0,2),(2,32)])];rw [dh _ _ (dotC a s) 0 0 2 _ _ rfl rfl rfl (Nat.le_of_ble_eq_true rfl),show (dotC 0 0++(List.replicate 32 (0:Int)).map (Value.int .u8)).take 0++dotC a s++(dotC 0 0++(List.replicate 32 (0:Int)).map (Value.int .u8)).drop (0+2)=dotC a s++(List.replicate 32 (0:Int)).map (Value.int .u8) from rfl];rw [dh _ _ (k.map (Value.int .u8)) 1 2 32 _ _ rfl rfl (by simp [hk]) (Nat.le_of_ble_eq_true rfl),Instr.fill];show some ((dotC a s++k.map (Value.int .u8))++ []).toArray=_;simp [epC]
def yl (L:List ((Int×Int)×List Int)):List Value:=(L.map fun e=>epC e.1.1 e.1.2 e.2).flatten
def yC (w:World) (base:Nat) (v:Value) (L:List ((Int×Int)×List Int)):Prop:=w.ownsRow base 106 34 v L.length (yl L)
def dP (own:Int) (seed:List Int):List ((Int×Int)×List Int):=if own=0 then [((0,0),dF seed)] else []
theorem jm (a s:Int) (k:List Int) (hk:k.length=32):(epC a s k).length=34:=by simp [epC,dotC,hk]
theorem wC (own:Int) (seed:List Int) (w:World) (h8:own<8) (hs:seed.length=32):
    Calls Tryz.prog 18 #[.int .u8 own,.agg (row .u8 seed)] w fun e w'=>∃H v,e=.returned (.pointer (some ⟨H,0,none⟩))∧CellsAt w' H 103 (bN own seed v)∧yC w' w.heap.size v (dP own seed)∧w.heap.size≤H∧Below w.heap.size w w':=by
 have HBU:ac (∀wx,(Instr.build 103 #[(0,.int .u8 own),(1,.agg (row .u8 seed))]).run Tryz.prog wx=.ok (.agg (bN own seed (.slice none 0 0)).toArray) wx):=⟨fun wx=>qd own seed hs wx⟩
 have hk0:=aa.new w .u8 23 seed;have hB:Below w.heap.size w (w.alloc (.cells (row .u8 seed) 23)):=(Below.refl _ _).alloc (Nat.le_refl _) _;have hn7:¬7<own:=by omega
 go_enter Tryz.func18,Tryz.ntmps18;go_upto_region 3 with fail
 refine af (p:=fun y=>Code.wp _ _ _ _ y) (fun W=>Below w.heap.size w W∧aa W w.heap.size .u8 23 seed) ⟨hB,hk0⟩ ?_;clear hB hk0;rintro W ⟨hB,hk0⟩;go_upto_region 4 with (first
  |(refine am rfl 23 _ rfl _ rfl hk0 Tryz.underlying23 ap hs ?_)
  |(refine aG rfl 103 _ rfl #[(0,.int .u8 own),(1,.agg (row .u8 seed))] (by first|rfl|kernel_rfl) _ (HBU.out _) ?_))
 have hx1:=CellsAt.new W 103 (bN own seed (.slice none 0 0));have hB1:=hB.alloc hB.size (.cells (bN own seed (.slice none 0 0)).toArray 103);have hk1:=hk0.alloc (.cells (bN own seed (.slice none 0 0)).toArray 103);refine af (p:=fun y=>Code.wp _ _ _ _ y) (fun V=>Below w.heap.size w V∧aa V w.heap.size .u8 23 seed∧CellsAt V W.heap.size 103 (bN own seed (.slice none 0 0))) ⟨hB1,hk1,hx1⟩ ?_;have hWl:w.heap.size<W.heap.size:=hk0.lt;clear hx1 hB1 hk1 hB hk0 HBU;obtain ⟨G,hG⟩:∃q,W.heap.size=q:=⟨_,rfl⟩
 rw [hG] at hWl ⊢
 clear hG;clear W;rintro W ⟨hB,hk0,hx⟩
 by_cases h0:own=0
 · subst h0
   have hd:=ir seed ⟨#[101,112,111,99,104]⟩ none 0 0 [] W hs (by decide) (cY W) (by omega);have hdl:(dF seed).length=32:=aV _ _;rw [show ke seed (cJ ⟨#[101,112,111,99,104]⟩++ [])=dF seed from rfl] at hd
   have HEB:ac (∀wx,(Instr.build 106 #[(0,.agg (dotC 0 0).toArray),(1,.agg (row .u8 (dF seed)))]).run Tryz.prog wx=.ok (.agg (epC 0 0 (dF seed)).toArray) wx):=⟨fun wx=>kV 0 0 _ hdl wx⟩
   have hEl:=jm 0 0 _ hdl;have HN:ac (dP 0 seed=[((0,0),dF seed)]∧yl [((0,0),dF seed)]=epC 0 0 (dF seed)):=⟨if_pos rfl,by simp [yl]⟩
   obtain ⟨iw,hiw,hwz,hws,hwb⟩:=info_parts jl;obtain ⟨EL,hEL⟩:∃q,dF seed=q:=⟨_,rfl⟩
   rw [hEL] at hd hdl HN HEB hEl
   obtain ⟨EC,hEC⟩:∃q,epC 0 0 EL=q:=⟨_,rfl⟩
   rw [hEC] at HEB hEl HN
   clear hEL hEC;have HFILL:∀(vs:List Value),vs.length=34→Instr.fill (fun i=>some (i*34,34)) ((Array.range (1*34)).map ((Value.agg (dotC 0 0++(List.replicate 32 (0:Int)).map (Value.int .u8)).toArray).cells[· % (Value.agg (dotC 0 0++(List.replicate 32 (0:Int)).map (Value.int .u8)).toArray).cells.size]!)) [(0,.agg vs.toArray)]=some vs.toArray:=fun vs hv=>by
    have hz:((Array.range (1*34)).map ((Value.agg (dotC 0 0++(List.replicate 32 (0:Int)).map (Value.int .u8)).toArray).cells[· % (Value.agg (dotC 0 0++(List.replicate 32 (0:Int)).map (Value.int .u8)).toArray).cells.size]!))=(dotC 0 0++(List.replicate 32 (0:Int)).map (Value.int .u8)).toArray:=by kernel_rfl
    rw [hz,dh _ _ vs 0 0 34 _ _ rfl rfl hv (Nat.le_of_ble_eq_true rfl),Instr.fill];simp [dotC]
   have HF:ac (Instr.fill (fun i=>some (i*34,34)) ((Array.range (1*34)).map ((Value.agg (dotC 0 0++(List.replicate 32 (0:Int)).map (Value.int .u8)).toArray).cells[· % (Value.agg (dotC 0 0++(List.replicate 32 (0:Int)).map (Value.int .u8)).toArray).cells.size]!)) [(0,.agg EC.toArray)]=some EC.toArray):=⟨HFILL EC hEl⟩
   have HC33:ac (∀W1,Below W.heap.size W W1→CellsAt (W1.alloc (.cells EC.toArray 106)) G 103 (bN 0 seed (.slice none 0 0))):=⟨fun W1 hb=>(hx.congr (hb.block _ hx.lt)).alloc _⟩
   clear HFILL
   go_wp2_with (first
    |(refine am rfl 23 _ rfl _ rfl hk0 Tryz.underlying23 ap hs ?_)
    |(go_at_call 64;refine hd.mono ?_;rintro e w1 ⟨rfl,hb1⟩;have hx1:=HC33.out w1 hb1;have c33:=hx1.cell 33;rw [pV _ _ _ hs] at c33;have f33:=hx1.frozen 33)
    |(refine aG rfl 106 _ rfl #[(0,.agg (dotC 0 0).toArray),(1,.agg (row .u8 EL))] (by first|rfl|kernel_rfl) _ (HEB.out _) ?_)
    |(refine wpList_buildSlice rfl 101 106 1 _ rfl EC.toArray iw _ Tryz.underlying101 hiw hwz (by rw [hws];decide) (by rw [hws];decide) (by rw [hws];refine Eq.trans (congrArg (Instr.fill _ _) (show _=[(0,Value.agg EC.toArray)] by first|rfl|kernel_rfl)) HF.out) ?_))
   go_ret;have hB1:=hB.trans (hb1.mono hB.size);have hgl:G<w1.heap.size:=Nat.lt_of_lt_of_le hx.lt hb1.size;have hset:=hx1.set 33 (.slice (some ⟨w1.heap.size,0,none⟩) 1 1);rw [qn _ _ _ _ hs] at hset
   refine ⟨G,.slice (some ⟨w1.heap.size,0,none⟩) 1 1,rfl,hset,?_,by omega,(hB1.alloc hB1.size _).setCell (by show w.heap.size≤G;omega) _⟩;rw [HN.out.1];refine ⟨by rw [HN.out.2,hEl];rfl,.inr ⟨w1.heap.size,1,EC.toArray,rfl,hB1.size,?_,Nat.le_refl 1,by simp [maxLen],by simp [hEl],?_⟩⟩
   · rw [Below.heap_setCell _ _ _ _ (by show w1.heap.size≠G;omega)];exact heap_alloc_new w1 _
   · rw [HN.out.2];show List.take (1*34) EC=EC;exact List.take_of_length_le (by omega)
 · have HN:ac (dP own seed=[]):=⟨if_neg h0⟩
   have h0':(own==0)=false:=by simpa using h0
   go_wp2;go_ret;refine ⟨G,rfl,.slice none 0 0,hx,?_,by omega,hB⟩;rw [HN.out];exact World.ownsRow_nil _ _ _ _
structure dL (w:World) (base:Nat) (t:TypeId) (k:Nat) (v:Value) (L:List (List Value)):Prop where
 own:w.ownsRow base t k v L.length L.flatten
 each:∀c∈L,c.length=k
theorem jE {k:Nat}:∀L:List (List Value),(∀c∈L,c.length=k)→L.flatten.length=L.length*k
 |[],_=>by simp
 |c::L,h=>by
  rw [List.flatten_cons,List.length_append,jE L (fun x hx=>h x (by simp [hx])),h c (by simp),List.length_cons,Nat.add_mul];omega
theorem pR {k:Nat} (L:List (List Value)) (hL:∀c∈L,c.length=k) (j:Nat) (hj:j<L.length):(L.flatten.drop (j*k)).take k=L[j]:=by
 induction L generalizing j with
 |nil=>simp at hj
 |cons e L ih=>
  have he:e.length=k:=hL e (by simp);rw [List.flatten_cons];cases j with
  |zero=>rw [Nat.zero_mul,List.drop_zero];exact List.take_left' he
  |succ j=>
   have:=ih (fun x hx=>hL x (by simp [hx])) j (by simpa using hj);rw [show (j+1)*k=e.length+j*k by rw [he,Nat.add_mul];omega,List.drop_length_add_append,this]
   rfl
theorem dL.nil (w:World) (base:Nat) (t:TypeId) (k:Nat):dL w base t k (.slice none 0 0) []:=⟨World.ownsRow_nil w base t k,by simp⟩
theorem dL.isSlice {w:World} {base:Nat} {t:TypeId} {k:Nat} {v:Value} {L:List (List Value)} (h:dL w base t k v L):∃x c,v=.slice x L.length c:=by
 rcases h.own.2 with ⟨rfl,h0⟩|⟨g,cap,cur,rfl,_⟩
 · exact ⟨none,0,by rw [h0]⟩
 · exact ⟨_,_,rfl⟩
theorem dL.congr {w w':World} {base:Nat} {t:TypeId} {k:Nat} {v:Value} {L:List (List Value)} (h:dL w base t k v L) (hk:∀g,v.ownBlock=some g→w'.heap[g]?=w.heap[g]?):dL w' base t k v L:=by
 refine ⟨⟨h.own.1,?_⟩,h.each⟩
 rcases h.own.2 with h'|⟨g,cap,cur,h1,h2,h3,h4⟩
 · exact .inl h'
 · exact .inr ⟨g,cap,cur,h1,h2,(hk g (by rw [h1];rfl)).trans h3,h4⟩
theorem dL.blockLt {w:World} {base:Nat} {t:TypeId} {k:Nat} {v:Value} {L:List (List Value)} (h:dL w base t k v L) (g:Nat) (hg:v.ownBlock=some g):g<w.heap.size∧base≤g∧∃cur,w.heap[g]?=some (.cells cur t (0,0)):=by
 rcases h.own.2 with ⟨rfl,_⟩|⟨g',cap,cur,rfl,h2,h3,_⟩
 · cases hg
 · obtain rfl:g'=g:=by simpa [Value.ownBlock] using hg
   exact ⟨(Array.getElem?_eq_some_iff.1 h3).1,h2,cur,h3⟩
theorem dL.far {w w':World} {base:Nat} {t:TypeId} {k:Nat} {v:Value} {L:List (List Value)} (h:dL w base t k v L) (hb:Below w.heap.size w w'):dL w' base t k v L:=h.congr fun g hg=>hb.block g (h.blockLt g hg).1
theorem dL.less {w:World} {base base':Nat} {t:TypeId} {k:Nat} {v:Value} {L:List (List Value)} (h:dL w base t k v L) (hb:base'≤base):dL w base' t k v L:=by
 refine ⟨⟨h.own.1,?_⟩,h.each⟩
 rcases h.own.2 with h'|⟨g,cap,cur,h1,h2,h3⟩
 · exact .inl h'
 · exact .inr ⟨g,cap,cur,h1,by omega,h3⟩
theorem dL.at_ {w:World} {base:Nat} {t:TypeId} {k:Nat} {x:Option Addr} {n c:Nat} {L:List (List Value)} (h:dL w base t k (.slice x n c) L) (j:Nat) (hj:j<L.length):∃g,x=some ⟨g,0,none⟩∧n=L.length∧w.rangeAt g (j*k) L[j]:=by
 rcases h.own.2 with ⟨h1,h0⟩|⟨g,cap',cur,h1,_,hg,hc,hm,hs,ht⟩
 · omega
 · cases h1
   refine ⟨g,rfl,rfl,fun i v hv=>?_⟩;have hi:i<k:=by have:=(List.getElem?_eq_some_iff.1 hv).1;rw [h.each _ (List.getElem_mem hj)] at this;exact this
   rw [cell_of_row w g _ _ _ _ hg,←Array.getElem?_toList];have e:=pR L h.each j hj;rw [←ht] at e
   have hlt:j*k+i<L.length*k:=by
    have:=Nat.mul_le_mul_right k (show j+1≤L.length from hj);rw [Nat.add_mul] at this;omega
   rw [←e,List.getElem?_take_of_lt hi,List.getElem?_drop,List.getElem?_take_of_lt hlt] at hv
   exact hv
theorem dL.src {w:World} {base:Nat} {t:TypeId} {k:Nat} {g n c:Nat} {L:List (List Value)} (h:dL w base t k (.slice (some ⟨g,0,none⟩) n c) L):n=L.length∧∀j u,L.flatten[j]?=some u→w.cell? ((⟨g,0,none⟩:Addr).add j)=some u:=by
 rcases h.own.2 with ⟨h1,h0⟩|⟨g',cap',cur,h1,_,hg,hc,hm,hs,ht⟩
 · cases h1
 · cases h1
   refine ⟨rfl,fun j u hu=>?_⟩;rw [show (⟨g,0,none⟩:Addr).add j=⟨g,0+j,none⟩ by unfold Addr.add;split<;>simp_all,cell_of_row w g _ _ _ _ hg,←Array.getElem?_toList,Nat.zero_add];rw [←ht,List.getElem?_take] at hu
   split at hu
   · exact hu
   · cases hu
section
variable {P:Program}
theorem dL.app {w:World} {base:Nat} {t:TypeId} {k:Nat} {v:Value} {L:List (List Value)} (h:dL w base t k v L) (st ty:TypeId) {z:Value} {by_:Nat} (hst:P.underlying st=some (.slice t)) (hi:(P.info? t).map (fun i=>(i.zero,i.size,i.bytes))=some (some z,k,by_)) (hz:z.cells.size=k) (hk:0<k)
    (c:List Value) (hc:c.length=k) (h1:∀u∈c,u.oneCell'=true) (g:Nat) (hg:w.rangeAt g 0 c) (hln:L.length≤1000000) (hby:by_≤1000) (hbase:base≤w.heap.size):
    ∃v' w',(Builtin.append_ #[st,st] ty #[v,.slice (some ⟨g,0,none⟩) 1 1]).run P w=.ok v' w'∧dL w' base t k v' (L++ [c])∧w.grownBy w' v.ownBlock∧(v'.ownBlock=v.ownBlock∨v'.ownBlock=some w.heap.size):=by
 obtain ⟨i0,hi,hz0,hz1,hz2⟩:=info_parts hi;obtain ⟨v',w',hr,h2,h3,_,h5⟩:=run_append_own_at (P:=P) w base st ty t i0 _ k by_ hst hi hz0 hz1 hz2 hz hk v L.length L.flatten h.own ⟨g,0,none⟩ 1 1 c (by omega) (fun j u hu=>by rw [show (⟨g,0,none⟩:Addr).add j=⟨g,0+j,none⟩ by unfold Addr.add;split<;>simp_all];exact hg j u hu) h1 (by simp [maxLen];omega)
  (by have:=Nat.mul_le_mul (show L.length+1≤1000001 by omega) hby;omega) hbase
 refine ⟨v',w',hr,⟨?_,fun x hx=>?_⟩,h3,h5⟩
 · rw [List.length_append,show (L++ [c]).flatten=L.flatten++c by simp]
   exact h2
 · rcases List.mem_append.1 hx with h'|h'
   · exact h.each x h'
   · rw [List.mem_singleton.1 h'];exact hc
theorem kE {ops:Array Oper} {rest:List Oper} {o:Oper} {a:Act} {w:World} {Q:Exit→Act→World→Prop} (hgd:o.guard=none) (d s:Operand) (dT sT:TypeId) (ho:o.op=.call {callee:=.builtin .append,args:= #[d,s],argTypes:= #[dT,sT]}) (dv sv v:Value) (w':World) (hd:a.eval d=dv) (hs:a.eval s=sv) (hrun:(Builtin.append_ #[dT,sT] o.type #[dv,sv]).run P w=.ok v w')
    (h:wpList P ops Q rest (a.put o.dst v) w'):wpList P ops Q (o::rest) a w:=
 wpList_plain hgd fun _ hK=>nS d s dT sT ho dv sv v w' hd hs hrun (hK _ _ h)
theorem uG {k:Nat} (f:Nat→Value) (cs:List Value) (hc:cs.length=k):Instr.fill (fun i=>some (i*k,k)) ((Array.range (1*k)).map f) [(0,.agg cs.toArray)]=some cs.toArray:=by
 have e:(Array.range (1*k)).map f=(([]:List Value)++(List.range (1*k)).map f).toArray:=by simp [←List.toArray_range]
 rw [e];have:=np (fun i=>some (i*k,k)) [(0,.agg cs.toArray,cs)] [] ((List.range (1*k)).map f) ⟨by simp [hc],rfl,trivial⟩ (by simp [jB,hc])
 simpa [jB] using this
theorem yk {o:Oper} {a:Act} {w:World} {K:Act→World→Prop} {Q:Exit→Act→World→Prop} (t e:TypeId) (x:Operand) (ho:o.op=.buildSlice t 1 #[(0,x)]) (cs:List Value) (hx:a.eval x=.agg cs.toArray) {z:Value} {k by_:Nat}
    (hu:P.underlying t=some (.slice e)) (hi:(P.info? e).map (fun i=>(i.zero,i.size,i.bytes))=some (some z,k,by_)) (hk:0<k) (hk2:k≤1000) (hc:cs.length=k)
    (h:K (a.put o.dst (.slice (some ⟨w.heap.size,0,none⟩) 1 1)) (w.alloc (.cells cs.toArray e))):o.wp P a w K Q:=by
 obtain ⟨i0,hi,hz0,hz1,hz2⟩:=info_parts hi;refine wp_buildSlice t e 1 _ ho cs.toArray i0 z hu hi hz0 (by rw [hz1];omega) (by rw [hz1];omega) ?_ h;rw [hz1];simp only [List.map_toArray,List.map_cons,List.map_nil,hx];exact uG _ cs hc
theorem dL.one (w:World) (t:TypeId) (k:Nat) (c:List Value) (hc:c.length=k):dL (w.alloc (.cells c.toArray t)) w.heap.size t k (.slice (some ⟨w.heap.size,0,none⟩) 1 1) [c]:=⟨⟨by simp [hc],.inr ⟨_,_,_,rfl,Nat.le_refl _,heap_alloc_new w _,by simp,by simp [maxLen],by simp [hc],by simp [←hc]⟩⟩,by simpa using hc⟩
theorem dL.empty (w:World) (t:TypeId) (k:Nat):dL (w.alloc (.cells #[] t)) w.heap.size t k (.slice (some ⟨w.heap.size,0,none⟩) 0 0) []:=⟨⟨by simp,.inr ⟨_,_,_,rfl,Nat.le_refl _,heap_alloc_new w _,by simp,by simp [maxLen],by simp,by simp⟩⟩,by simp⟩
end
end Go.Proofs.YtbdhfbglagdiaaaGreatDoor
