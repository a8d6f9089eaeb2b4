/- Kr5 Wo1 -/
import Derived.Test.YtbdhfbglagdiaaaGreatDoorJ32
import Derived.Test.YtbdhfbglagdiaaaGreatDoorJ02
import Derived.Test.YtbdhfbglagdiaaaGreatDoorJ26
import Derived.Test.YtbdhfbglagdiaaaGreatDoorJ03
import Derived.Test.YtbdhfbglagdiaaaGreatDoorJ06
namespace Go.Proofs.YtbdhfbglagdiaaaGreatDoor
open Go.RowKit
set_option maxRecDepth 20000
set_option maxHeartbeats 8000000
set_option linter.unusedSimpArgs false
abbrev Ep:=(Int×Int)×List Int
def epD (e:Ep):List Value:=epC e.1.1 e.1.2 e.2
structure bw (w:World) (base O:Nat) (own:Int) (seed:List Int) (v:Value) (L:List Ep):Prop where
 box:CellsAt w O 103 (bN own seed v)
 own:dL w base 106 34 v (L.map epD)
 seed32:seed.length=32
 k32:∀e∈L,e.2.length=32
 lenL:L.length≤16
 baseO:base≤O
def rrB (O:Nat) (v:Value) (k:Nat):Prop:=k=O∨v.ownBlock=some k
section
variable {w w':World} {base O:Nat} {own:Int} {seed:List Int} {v:Value} {L:List Ep}
theorem bw.congr (h:bw w base O own seed v L) (hk:∀g,rrB O v g→w'.heap[g]?=w.heap[g]?):bw w' base O own seed v L:=⟨h.box.congr (hk _ (.inl rfl)),h.own.congr fun g hg=>hk g (.inr hg),h.seed32,h.k32,h.lenL,h.baseO⟩
theorem bw.inside (h:bw w base O own seed v L) (g:Nat) (hg:rrB O v g):g<w.heap.size∧base≤g:=by
 rcases hg with rfl|hg
 · exact ⟨h.box.lt,h.baseO⟩
 · exact ⟨(h.own.blockLt g hg).1,(h.own.blockLt g hg).2.1⟩
theorem bw.far (h:bw w base O own seed v L) (hb:Below w.heap.size w w'):bw w' base O own seed v L:=h.congr fun g hg=>hb.block g (h.inside g hg).1
theorem bw.cell33 (h:bw w base O own seed v L):w.cell? ⟨O,33,none⟩=some v:=by
 have hl:([Value.int .u8 own]++seed.map (Value.int .u8)).length=33:=by simp [h.seed32]
 rw [h.box.cell];unfold bN;rw [List.getElem?_append_right (by omega),hl];rfl
theorem bw.ofNew (hb:CellsAt w O 103 (bN own seed v)) (ho:yC w base v L) (hs:seed.length=32) (hk:∀e∈L,e.2.length=32) (hl:L.length≤16) (hO:base≤O):bw w base O own seed v L:=
 ⟨hb,⟨by rw [List.length_map];exact ho,fun c hc=>by
  obtain ⟨e,he,rfl⟩:=List.mem_map.1 hc;exact jm _ _ _ (hk e he)⟩,hs,hk,hl,hO⟩
end
def keyE:List Ep→Int→Int→Option (List Int)
 |[],_,_=>none
 |e::L,a,s=>if e.1.1=a∧e.1.2=s then some e.2 else keyE L a s
theorem sx (a s:Int):∀(L:List Ep) (j:Nat) (hj:j<L.length),(∀i (hi:i<j),¬(L[i].1.1=a∧L[i].1.2=s))→(L[j].1.1=a∧L[j].1.2=s)→keyE L a s=some L[j].2
 |e::L,0,_,_,h=>by
  unfold keyE;rw [if_pos (show e.1.1=a∧e.1.2=s from h)];rfl
 |e::L,j+1,hj,hn,h=>by
  unfold keyE;rw [if_neg (show ¬(e.1.1=a∧e.1.2=s) from hn 0 (by omega))];exact sx a s L j (by simpa using hj) (fun i hi=>hn (i+1) (by omega)) h
theorem ni (a s:Int):∀(L:List Ep),(∀i (hi:i<L.length),¬(L[i].1.1=a∧L[i].1.2=s))→keyE L a s=none
 |[],_=>rfl
 |e::L,hn=>by
  unfold keyE;rw [if_neg (show ¬(e.1.1=a∧e.1.2=s) from hn 0 (by simp))];exact ni a s L (fun i hi=>hn (i+1) (by simpa using hi))
section
variable (base O:Nat) (own:Int) (seed:List Int) (v:Value) (L:List Ep) (w:World)
theorem mg (a s:Int) (hR:bw w base O own seed v L):
    Calls Tryz.prog 85 #[.pointer (some ⟨O,0,none⟩),.agg (dotC a s).toArray] w fun e w'=>∃k:List Int,k.length=32∧k=(keyE L a s).getD (List.replicate 32 0)∧e=.returned (.tuple #[.agg (row .u8 k),.bool (keyE L a s).isSome])∧Below w.heap.size w w':=by
 obtain ⟨Z,hZl,hZ⟩:∃Z:List Int,Z.length=32∧Z=List.replicate 32 0:=⟨_,rfl,rfl⟩
 have hzv:∀wx,(zeroValue 23).run Tryz.prog wx=.ok (.agg (row .u8 Z)) wx:=fun wx=>by rw [hZ];kernel_rfl
 have hz1:¬(row .u8 Z)= #[]:=by intro h;have:=congrArg Array.size h;rw [bc] at this;simp at this;rw [this] at hZl;simp at hZl
 have HBZ:ac (∀wx,(Instr.build 23 #[]).run Tryz.prog wx=.ok (.agg (row .u8 Z)) wx):=⟨fun wx=>by rw [hZ];exact run_build wx _ _ _ (by kernel_rfl)⟩
 have hD:=(CellsAt.new w 26 (dotC a s)).alloc (.cells (row .u8 Z) 23);have hK:=aa.new (w.alloc (.cells (dotC a s).toArray 26)) .u8 23 Z;rw [World.size_alloc] at hK
 have hb0:Below w.heap.size w ((w.alloc (.cells (dotC a s).toArray 26)).alloc (.cells (row .u8 Z) 23)):=((Below.refl _ _).alloc (Nat.le_refl _) _).alloc (by simp) _;have HR:=ac.mk (fun W (hb:Below w.heap.size w W)=>hR.far hb);have HK32:=ac.mk hR.k32;have hl16:=hR.lenL;obtain ⟨x,c,hv⟩:=hR.own.isSlice;rw [List.length_map] at hv
 obtain ⟨n,hn⟩:∃q,L.length=q:=⟨_,rfl⟩
 rw [hn] at hv hl16
 subst hv;have HN:=ac.mk hn;have HZ:=ac.mk hZ;clear hZ hR hn;have uD:=Tryz.underlying26;have uK:=Tryz.underlying23;have iD:(Tryz.prog.info? 26).map (·.size)=some (dotC a s).length:=sizeDot;go_enter Tryz.func85,Tryz.ntmps85;go_upto_region 1 with fail
 refine af (p:=fun y=>Code.wp _ _ _ _ y) (fun W=>Below w.heap.size w W∧CellsAt W w.heap.size 26 (dotC a s)∧aa W (w.heap.size+1) .u8 23 Z) ⟨hb0,hD,hK⟩ ?_;clear hb0 hD hK hzv hz1;rintro W ⟨hb,hD,hK⟩;go_wp2
 go_loopw [6] (fun q wr=>∃j:Nat,j≤n∧q=.int .i64 j∧Below w.heap.size w wr∧CellsAt wr w.heap.size 26 (dotC a s)∧aa wr (w.heap.size+1) .u8 23 Z∧∀i (hi:i<L.length),i<j→¬(L[i].1.1=a∧L[i].1.2=s)) (fun q _=>n - (intOf q).toNat)
 case atStart=>exact ⟨0,Nat.zero_le _,rfl,hb,hD,hK,fun i _ h=>absurd h (Nat.not_lt_zero _)⟩
 case round=>
  clear hb hD hK;obtain ⟨j,hj,rfl,hb,hD,hK,hno⟩:=hrel;have HNO:=ac.mk hno;clear hno;have hRR:=HR.out wr hb;have c33:=hRR.cell33
  by_cases hjn:j<n
  · have hji:(j:Int)<(n:Int):=by omega
    have hj0:(0:Int)≤(j:Int):=by omega
    have hjL:j<L.length:=by rw [HN.out];exact hjn
    obtain ⟨g,hxg,_,hr⟩:=hRR.own.at_ j (by rw [List.length_map];exact hjL);subst hxg;rw [List.getElem_map] at hr
    have hkl:=HK32.out L[j] (List.getElem_mem hjL);have HRG:ac (wr.rangeAt g (j*34) (dotC L[j].1.1 L[j].1.2)∧wr.rangeAt g (j*34+2) (L[j].2.map (Value.int .u8))):=⟨fun i u hu=>by
     have hi:=(List.getElem?_eq_some_iff.1 hu).1;exact hr i u (by unfold epD epC;rw [List.getElem?_append_left hi];exact hu),fun i u hu=>by
     have:=hr (i+2) u (by unfold epD epC;rw [List.getElem?_append_right (by simp [dotC])];exact hu);rw [show j*34+(i+2)=j*34+2+i by omega] at this
     exact this⟩
    obtain ⟨r1,r2⟩:=HRG.out;have HEQ:ac (∀wx,(binOp .eql 26 (.agg (dotC L[j].1.1 L[j].1.2).toArray) (.agg (dotC a s).toArray)).run Tryz.prog wx=.ok (.bool ((L[j].1.1==a)&&(L[j].1.2==s))) wx):=⟨fun wx=>dot_eql _ _ _ _ wx⟩
    have iDj:(Tryz.prog.info? 26).map (·.size)=some (dotC L[j].1.1 L[j].1.2).length:=sizeDot;have HKE:ac ((L[j].1.1=a∧L[j].1.2=s)→keyE L a s=some L[j].2):=⟨fun h=>sx a s L j hjL (fun i hi=>HNO.out i (by omega) hi) h⟩
    have HNX:ac (¬(L[j].1.1=a∧L[j].1.2=s)→∀i (hi:i<L.length),i<j+1→¬(L[i].1.1=a∧L[i].1.2=s)):=⟨fun h i hi hlt=>by
     by_cases e:i=j
     · subst e;exact h
     · exact HNO.out i hi (by omega)⟩
    have rD:=hD.wholeM;have hkl2:L[j].2.length=32:=hkl;have iKj:(Tryz.prog.info? 23).map (·.size)=some (L[j].2.map (Value.int .u8)).length:=by rw [List.length_map,hkl2];exact ap
    have HEB:ac (((L[j].1.1==a)&&(L[j].1.2==s))=true↔(L[j].1.1=a∧L[j].1.2=s)):=⟨by simp⟩
    clear hr hRR;generalize dotC L[j].1.1 L[j].1.2=DJ at r1 HEQ iDj
    obtain ⟨KJ,hKJ⟩:∃q,L[j].2=q:=⟨_,rfl⟩
    rw [hKJ] at r2 HKE hkl2 iKj
    generalize hbb:((L[j].1.1==a)&&(L[j].1.2==s))=BB at HEQ HEB
    clear hbb hKJ hkl;have hw1:IntKind.i64.wrap ((j:Int)+1)=(j:Int)+1:=by rw [IntKind.wrap_i64];omega
    have heq:=HEQ.out;generalize hDV:dotC a s=DV at rD heq iD hD
    have HDV:=ac.mk hDV;clear hDV;cases BB with
    |true=>
     have HKS:ac (keyE L a s=some KJ):=⟨HKE.out (HEB.out.1 rfl)⟩
     go_upto_region 4 with fail
     refine au (fun w'=>w'.cell? ⟨O,33,none⟩=some (.slice (some ⟨g,0,none⟩) n c)∧w'.rangeAt g (j*34) DJ∧w'.rangeAt w.heap.size 0 DV) (fun _=>True) 99 (by kernel_rfl) ?_;have hT:(fun w':World=>w'.cell? ⟨O,33,none⟩=some (.slice (some ⟨g,0,none⟩) n c)∧w'.rangeAt g (j*34) DJ∧w'.rangeAt w.heap.size 0 DV) wr.drew:=⟨c33,r1,rD⟩
     have hS:=trivial;refine ghA 0 _ hT hS ?_;simp only [zp];refine ghA 1 _ hT hS ?_;simp only [zp];refine ghA 2 _ hT hS ?_;simp only [zp];refine ghA 3 _ hT hS ?_;simp only [zp];refine ghA 4 _ hT hS ?_;simp only [zp];refine ghA 5 _ hT hS ?_;simp only [zp];refine ghA 6 _ hT hS ?_;simp only [zp];refine zh 7 27 26 26 g (j*34) DJ hT hS (fun _ h=>h.2.1) uD iDj ?_;simp only [zp];refine zh 8 28 26 3 w.heap.size 0 DV hT hS (fun _ h=>h.2.2) uD iD ?_;simp only [zp];refine ghA 9 (.bool true) hT hS ?_;simp only [zp];refine az (by kernel_rfl) ?_ _;clear hT hS heq r1 rD;have hKd:=hK.below (Below.refl wr.heap.size wr).drew hK.lt;have HBD:=ac.mk hb.drew;have r2d:wr.drew.rangeAt g (j*34+2) (KJ.map (Value.int .u8)):=r2;have c33d:wr.drew.cell? ⟨O,33,none⟩=some (.slice (some ⟨g,0,none⟩) n c):=c33;clear r2 c33 hK hb hD
     go_wp2_with (first
      |(refine ae rfl 23 _ rfl _ _ rfl (KJ.map (Value.int .u8)) r2d uK rfl iKj ?_)
      |(refine ah rfl 23 _ _ rfl _ rfl rfl hKd (by rw [hkl2];exact ap) (by rw [hZl,hkl2]) ?_))
     refine bodyPost_ret (aK (Tryz.results85) _ rfl rfl (hKd.setRow KJ).cellsAt Tryz.underlying23 rfl iKj) rfl ⟨KJ,hkl2,by rw [HKS.out];rfl,by rw [HKS.out];rfl,below_setRow HBD.out (by omega) _⟩
    |false=>
     have HNX2:=ac.mk (HNX.out (fun h=>absurd (HEB.out.2 h) (by decide)));clear HNX HKE HEB;go_upto_region 4 with fail
     refine au (fun w'=>w'.cell? ⟨O,33,none⟩=some (.slice (some ⟨g,0,none⟩) n c)∧w'.rangeAt g (j*34) DJ∧w'.rangeAt w.heap.size 0 DV) (fun _=>True) 99 (by kernel_rfl) ?_;have hT:(fun w':World=>w'.cell? ⟨O,33,none⟩=some (.slice (some ⟨g,0,none⟩) n c)∧w'.rangeAt g (j*34) DJ∧w'.rangeAt w.heap.size 0 DV) wr.drew:=⟨c33,r1,rD⟩
     have hS:=trivial;refine ghA 0 _ hT hS ?_;simp only [zp];refine ghA 1 _ hT hS ?_;simp only [zp];refine ghA 2 _ hT hS ?_;simp only [zp];refine ghA 3 _ hT hS ?_;simp only [zp];refine ghA 4 _ hT hS ?_;simp only [zp];refine ghA 5 _ hT hS ?_;simp only [zp];refine ghA 6 _ hT hS ?_;simp only [zp];refine zh 7 27 26 26 g (j*34) DJ hT hS (fun _ h=>h.2.1) uD iDj ?_;simp only [zp];refine zh 8 28 26 3 w.heap.size 0 DV hT hS (fun _ h=>h.2.2) uD iD ?_;simp only [zp];refine ghA 9 (.bool false) hT hS ?_;simp only [zp];refine az (by kernel_rfl) ?_ _;clear hT hS heq r1 rD r2 c33;go_wp2;go_roundw
     case rel=>exact ⟨j+1,hjn,by push_cast;rfl,hb.drew,hD.congr rfl,hK.below (Below.refl wr.heap.size wr).drew hK.lt,HNX2.out⟩
     case measure=>simp [intOf];omega
  · have hji:¬(j:Int)<(n:Int):=by omega
    have HKN:ac (keyE L a s=none):=⟨ni a s L (fun i hi=>HNO.out i hi (by have:=HN.out;omega))⟩
    clear hRR
    go_wp2_with (first
     |(refine aG rfl 23 #[] rfl #[] (by first|rfl|kernel_rfl) _ (HBZ.out _) ?_)
     |(refine ah rfl 23 _ _ rfl _ rfl rfl hK (by rw [hZl];exact ap) rfl ?_))
    refine bodyPost_ret (aK (Tryz.results85) _ rfl rfl (hK.setRow Z).cellsAt Tryz.underlying23 rfl (by rw [List.length_map,hZl];exact ap)) rfl ⟨Z,hZl,by rw [HKN.out];exact HZ.out,by rw [HKN.out];rfl,below_setRow hb (by omega) _⟩
theorem tY (a s:Int) (hR:bw w base O own seed v L):
    Calls Tryz.prog 85 #[.pointer (some ⟨O,0,none⟩),.agg (dotC a s).toArray] w fun e w'=>∃k:List Int,k.length=32∧(keyE L a s).getD k=k∧e=.returned (.tuple #[.agg (row .u8 k),.bool (keyE L a s).isSome])∧Below w.heap.size w w':=
 (mg base O own seed v L w a s hR).mono fun e w' ⟨k,h1,h2,h3,h4⟩=>⟨k,h1,by rw [h2];cases keyE L a s<;>rfl,h3,h4⟩
theorem ul (a s:Int) (hR:bw w base O own seed v L):
    Calls Tryz.prog 66 #[.pointer (some ⟨O,0,none⟩),.agg (dotC a s).toArray] w fun e w'=>e=.returned (.bool (keyE L a s).isSome)∧Below w.heap.size w w':=by
 obtain ⟨Z,hZl,hZ⟩:∃Z:List Int,Z.length=32∧Z=List.replicate 32 0:=⟨_,rfl,rfl⟩
 have hzv:∀wx,(zeroValue 23).run Tryz.prog wx=.ok (.agg (row .u8 Z)) wx:=fun wx=>by rw [hZ];kernel_rfl
 have hz1:¬(row .u8 Z)= #[]:=by intro h;have:=congrArg Array.size h;rw [bc] at this;simp at this;rw [this] at hZl;simp at hZl
 have hD:=CellsAt.new w 26 (dotC a s);have hb0:Below w.heap.size w (w.alloc (.cells (dotC a s).toArray 26)):=(Below.refl _ _).alloc (Nat.le_refl _) _;have hkk:=tY base O own seed v L _ a s (hR.far hb0);have rD:=hD.wholeM;have iD:(Tryz.prog.info? 26).map (·.size)=some (dotC a s).length:=sizeDot;generalize (keyE L a s).isSome=KS at hkk ⊢
 clear hZ hR;go_enter Tryz.func66,Tryz.ntmps66
 go_wp2_with (first
  |(refine ae rfl 26 _ rfl _ _ rfl (dotC a s) rD Tryz.underlying26 rfl iD ?_)
  |(go_at_call 85;refine hkk.mono ?_;rintro e w1 ⟨k1,hk1,-,rfl,hb1⟩;have hN1:=aa.new w1 .u8 23 Z;clear hkk)
  |(refine ah rfl 23 _ _ rfl _ rfl rfl hN1 (by rw [hk1];exact ap) (by rw [hZl,hk1]) ?_))
 go_ret;have q:=hb0.trans (hb1.mono hb0.size);exact ⟨rfl,below_setRow (q.alloc q.size _) q.size _⟩
structure yq (w w':World) (base O:Nat) (own:Int) (seed:List Int) (v v':Value) (L':List Ep):Prop where
 at_:bw w' base O own seed v' L'
 turn:bZ (rrB O v) w w'
 own:v'.ownBlock=v.ownBlock∨∃g,v'.ownBlock=some g∧w.heap.size≤g
def mC (L:List Ep) (a s:Int) (k:List Int):List Ep:=if (keyE L a s).isSome=true∨16≤L.length then L else L++ [((a,s),k)]
def we (L:List Ep) (a s:Int):Int:=if (keyE L a s).isSome=true then 5 else if 16≤L.length then 10 else 0
theorem qZ (a s:Int) (k:List Int) (hk:k.length=32) (hR:bw w base O own seed v L) (hbase:base≤w.heap.size):
    Calls Tryz.prog 20 #[.pointer (some ⟨O,0,none⟩),.agg (dotC a s).toArray,.agg (row .u8 k)] w fun e w'=>∃v',e=.returned (.int .i64 (we L a s))∧yq w w' base O own seed v v' (mC L a s k):=by
 have hD:=(CellsAt.new w 26 (dotC a s)).alloc (.cells (row .u8 k) 23);have hK:=CellsAt.new (w.alloc (.cells (dotC a s).toArray 26)) 23 (k.map (Value.int .u8));rw [World.size_alloc] at hK
 have hb0:Below w.heap.size w ((w.alloc (.cells (dotC a s).toArray 26)).alloc (.cells (row .u8 k) 23)):=((Below.refl _ _).alloc (Nat.le_refl _) _).alloc (by simp) _;have HR:=ac.mk (fun W (hb:Below w.heap.size w W)=>hR.far hb);have HHS:ac (∀W,Below w.heap.size w W→Calls Tryz.prog 66 #[.pointer (some ⟨O,0,none⟩),.agg (dotC a s).toArray] W fun e w'=>e=.returned (.bool (keyE L a s).isSome)∧Below W.heap.size W w'):=⟨fun W hb=>ul base O own seed v L W a s (hR.far hb)⟩
 have HAE:ac (mC L a s k=if (keyE L a s).isSome=true∨16≤L.length then L else L++ [((a,s),k)]):=⟨rfl⟩
 have HAN:ac (we L a s=if (keyE L a s).isSome=true then 5 else if 16≤L.length then 10 else 0):=⟨rfl⟩
 have iD:(Tryz.prog.info? 26).map (·.size)=some (dotC a s).length:=sizeDot;have iK:(Tryz.prog.info? 23).map (·.size)=some (k.map (Value.int .u8)).length:=by rw [List.length_map,hk];exact ap
 have HEB:ac (∀wx,(Instr.build 106 #[(0,.agg (dotC a s).toArray),(1,.agg (k.map (Value.int .u8)).toArray)]).run Tryz.prog wx=.ok (.agg (epC a s k).toArray) wx):=⟨fun wx=>kV a s k hk wx⟩
 have hEl:=jm a s k hk;have h1E:∀u∈epC a s k,u.oneCell'=true:=fun u hu=>by
  unfold epC dotC at hu
  simp only [List.mem_append,List.mem_cons,List.not_mem_nil,or_false,List.mem_map] at hu
  rcases hu with (rfl|rfl)|⟨x,_,rfl⟩<;>rfl
 have HINS:ac (∀g,rrB O v g→g<w.heap.size):=⟨fun g hg=>(hR.inside g hg).1⟩
 have HK:=ac.mk (And.intro hR.seed32 (And.intro hR.k32 (And.intro hR.lenL hk)));have HBO:ac (base≤O):=⟨hR.baseO⟩
 obtain ⟨x,c,hv⟩:=hR.own.isSlice;rw [List.length_map] at hv
 have uD:=Tryz.underlying26;have uK:=Tryz.underlying23;have hAl:(row .u8 k)=(k.map (Value.int .u8)).toArray:=rfl;rw [hAl] at hD hb0 ⊢
 clear hAl;generalize hKV:k.map (Value.int .u8)=KV at hD hK hb0 iK HEB ⊢
 clear hKV hR;obtain ⟨n,hn⟩:∃q,L.length=q:=⟨_,rfl⟩
 have HN:=ac.mk hn;rw [hn] at hv HAE HAN
 subst hv;clear hn;go_enter Tryz.func20,Tryz.ntmps20;go_upto_region 3 with fail
 refine af (p:=fun y=>Code.wp _ _ _ _ y) (fun W=>Below w.heap.size w W∧CellsAt W w.heap.size 26 (dotC a s)∧CellsAt W (w.heap.size+1) 23 KV) ⟨hb0,hD,hK⟩ ?_;clear hb0 hD hK;rintro W ⟨hb,hD,hK⟩;have rD:=hD.wholeM;have hhs:=HHS.out W hb;clear HHS;cases hks:(keyE L a s).isSome with
 |true=>
  have HE:ac (mC L a s k=L):=⟨by rw [HAE.out,if_pos (.inl hks)]⟩
  have HN5:ac (we L a s=5):=⟨by rw [HAN.out,if_pos hks]⟩
  rw [hks] at hhs
  clear hks
  go_wp2_with (first
   |(refine ae rfl 26 _ rfl _ _ rfl (dotC a s) rD uD rfl iD ?_)
   |(go_at_call 66;refine hhs.mono ?_;rintro e w1 ⟨rfl,hb1⟩))
  go_ret;have q:=hb.trans (hb1.mono hb.size);exact ⟨_,by rw [HN5.out];rfl,⟨by rw [HE.out];exact HR.out _ q,bZ.of_below q,.inl rfl⟩⟩
 |false=>
  rw [hks] at hhs
  by_cases h16:16≤n
  · have HE:ac (mC L a s k=L):=⟨by rw [HAE.out,if_pos (.inr h16)]⟩
    have HN5:ac (we L a s=10):=⟨by rw [HAN.out,if_neg (by rw [hks];decide),if_pos h16]⟩
    have h16i:(n:Int)≥16:=by omega
    have HC:ac (∀w1,Below W.heap.size W w1→Below w.heap.size w w1∧w1.cell? ⟨O,33,none⟩=some (.slice x n c)):=⟨fun w1 h=>⟨hb.trans (h.mono hb.size),(HR.out w1 (hb.trans (h.mono hb.size))).cell33⟩⟩
    clear hks h16
    go_wp2_with (first
     |(refine ae rfl 26 _ rfl _ _ rfl (dotC a s) rD uD rfl iD ?_)
     |(go_at_call 66;refine hhs.mono ?_;rintro e w1 ⟨rfl,hb1⟩;obtain ⟨hB1,c33⟩:=HC.out w1 hb1))
    go_ret;exact ⟨_,by rw [HN5.out];rfl,⟨by rw [HE.out];exact HR.out _ hB1,bZ.of_below hB1,.inl rfl⟩⟩
  · have HN5:ac (we L a s=0):=⟨by rw [HAN.out,if_neg (by rw [hks];decide),if_neg h16]⟩
    have HE:ac (mC L a s k=L++ [((a,s),k)]):=⟨by rw [HAE.out,if_neg (fun q=>by rcases q with q|q;rw [hks] at q;cases q;exact h16 q)]⟩
    have h16i:¬(n:Int)≥16:=by omega
    have HC:ac (∀w1,Below W.heap.size W w1→Below w.heap.size w w1∧w1.cell? ⟨O,33,none⟩=some (.slice x n c)):=⟨fun w1 h=>⟨hb.trans (h.mono hb.size),(HR.out w1 (hb.trans (h.mono hb.size))).cell33⟩⟩
    clear hks;go_upto_region 7 with (first
     |(refine ae rfl 26 _ rfl _ _ rfl (dotC a s) rD uD rfl iD ?_)
     |(go_at_call 66;refine hhs.mono ?_;rintro e w1 ⟨rfl,hb1⟩;obtain ⟨hB1,c33⟩:=HC.out w1 hb1))
    have hD1:=hD.farM hb1;have hK1:=hK.farM hb1;refine ag (fun w'=>w'.cell? ⟨O,33,none⟩=some (.slice x n c)∧w'.rangeAt w.heap.size 0 (dotC a s)∧w'.rangeAt (w.heap.size+1) 0 KV) 12 (by kernel_rfl) ?_;refine af (p:=fun y=>aE _ _ _ _ _ _ _ _ _ y) (fun V=>Below w.heap.size w V∧CellsAt V w.heap.size 26 (dotC a s)∧CellsAt V (w.heap.size+1) 23 KV) ⟨hB1.drew,hD1.congr rfl,hK1.congr rfl⟩ ?_;clear hD1 hK1 hB1 c33 hb1 HC hhs rD hb hD hK;clear w1 W;rintro V ⟨hb,hD,hY⟩;have HSS:∀V,Below w.heap.size w V→CellsAt V w.heap.size 26 (dotC a s)→CellsAt V (w.heap.size+1) 23 KV→(fun w':World=>w'.cell? ⟨O,33,none⟩=some (.slice x n c)∧w'.rangeAt w.heap.size 0 (dotC a s)∧w'.rangeAt (w.heap.size+1) 0 KV) V:=fun V h1 h2 h3=>⟨(HR.out V h1).cell33,h2.wholeM,h3.wholeM⟩
    have hS:=HSS V hb hD hY;have hsz:=hD.lt;have HVS:ac (w.heap.size≤V.heap.size):=⟨hb.size⟩
    refine gaA 0 _ hS ?_;simp only [zp];refine gaA 1 _ hS ?_;simp only [zp];refine gaA 2 _ hS ?_;simp only [zp];refine gaA 3 _ hS ?_;simp only [zp];refine grA 4 _ hS ?_;simp only [zp];refine zg 5 26 26 4 w.heap.size 0 (dotC a s) hS (fun _ h=>h.2.1) uD iD ?_;simp only [zp];refine zg 6 27 23 5 ((w.heap.size+1)) 0 KV hS (fun _ h=>h.2.2) uK iK ?_;simp only [zp];refine ft (i:=7) (v:=(.agg (epC a s k).toArray)) rfl (by kernel_rfl) (by kernel_rfl) (by kernel_rfl) (fun _ _ _ h=>h) (by kernel_rfl) (by kernel_rfl) (by kernel_rfl) hS (by kernel_rfl) (fun wx h=>eu 106 _ rfl #[(0,.agg (dotC a s).toArray),(1,.agg KV.toArray)] (by kernel_rfl) (HEB.out wx)) ?_;simp only [zp];refine zw 8 fun K hK=>?_
    refine yk 101 106 _ rfl (epC a s k) rfl Tryz.underlying101 jl (by decide) (by decide) hEl ?_;have hb2:Below V.heap.size V (V.alloc (.cells (epC a s k).toArray 106)):=(Below.refl _ _).alloc (Nat.le_refl _) _;have hB2:=hb.trans (hb2.mono hb.size);have hr2:=(CellsAt.new V 106 (epC a s k)).wholeM;replace hS:=HSS _ hB2 (hD.farM hb2) (hY.farM hb2);refine hK.out _ _ (fun _=>hS) ?_;clear hK K
    try simp only [zp]
    obtain ⟨v3,W3,hr3,hv3,hg3,hw3⟩:=(HR.out _ hB2).own.app (P:=Tryz.prog) 101 101 Tryz.underlying101 jl (by rfl) (by decide) (epC a s k) hEl h1E V.heap.size hr2 (by rw [List.length_map,HN.out];omega) (by decide) (by have:=hB2.size;omega);refine zw 9 fun K hK=>?_
    refine nS _ _ 101 101 rfl _ _ _ _ rfl rfl hr3 ?_;have hT3:bZ (rrB O (.slice x n c)) w W3:=(bZ.of_below hB2).trans (bZ.of_grown hg3 (fun k hk=>.inr hk));have hb3:Below w.heap.size w W3→True:=fun _=>trivial
    have hbox:CellsAt W3 O 103 (bN own seed (.slice x n c)):=(HR.out _ hB2).box.congr (hg3.block O (HR.out _ hB2).box.lt (fun q=>by
     obtain ⟨_,_,cur,hc⟩:=(HR.out _ hB2).own.blockLt O q.symm;have:=(HR.out _ hB2).box;unfold CellsAt at this
     rw [hc] at this
     injection this with this
     injection this with _ e2 _
     exact absurd e2 (by decide)))
    have hD3:CellsAt W3 w.heap.size 26 (dotC a s):=(hD.farM hb2).congr (hg3.block _ (hD.farM hb2).lt (fun q=>by have:=HINS.out _ (.inr q.symm);omega));have hY3:CellsAt W3 (w.heap.size+1) 23 KV:=(hY.farM hb2).congr (hg3.block _ (hY.farM hb2).lt (fun q=>by have:=HINS.out _ (.inr q.symm);omega));have c33:W3.cell? ⟨O,33,none⟩=some (.slice x n c):=by
     have hl:([Value.int .u8 own]++seed.map (Value.int .u8)).length=33:=by simp [HK.out.1]
     rw [hbox.cell];unfold bN;rw [List.getElem?_append_right (by omega),hl];rfl
    have g33:=hbox.frozen 33;have HNE:ac (∀g,v3.ownBlock=some g→g≠O):=⟨fun g hg e=>by
     obtain ⟨_,_,cur,hc⟩:=hv3.blockLt g hg;have:=hbox;unfold CellsAt at this
     rw [e] at hc
     rw [hc] at this
     injection this with this
     injection this with _ e2 _
     exact absurd e2 (by decide)⟩
    have HALL:=ac.mk (And.intro hv3 (And.intro hT3 (And.intro hbox hw3)));obtain ⟨x3,c3,hx3⟩:=hv3.isSlice;replace hS:(fun w':World=>w'.cell? ⟨O,33,none⟩=some (.slice x n c)∧w'.rangeAt w.heap.size 0 (dotC a s)∧w'.rangeAt (w.heap.size+1) 0 KV) W3:=⟨c33,hD3.wholeM,hY3.wholeM⟩
    generalize (L.map epD++ [epC a s k]).length=m3 at hx3
    subst hx3;clear hb3 hv3 hT3 hw3 hg3 hD3 hY3 hr3 hr2 hb2 hB2 hb hD hY HSS HEB HR;refine hK.out _ _ (fun _=>hS) ?_;clear hK K
    try simp only [zp]
    refine gaA 10 _ hS ?_;simp only [zp];refine gaA 11 _ hS ?_;simp only [zp];refine zw 12 fun K hK=>?_
    go_simp;refine hK.out _ _ zn ?_;clear hK K
    try simp only [zp]
    refine al (by kernel_rfl) ?_ _;clear hS c33 g33;go_wp2;go_ret;obtain ⟨hv3,hT3,hbox,hw3⟩:=HALL.out;have hset:(bN own seed (.slice x n c)).set 33 (.slice x3 m3 c3)=bN own seed (.slice x3 m3 c3):=by
     have hl:([Value.int .u8 own]++seed.map (Value.int .u8)).length=33:=by simp [HK.out.1]
     unfold bN;rw [List.set_append_right _ _ (by omega),hl];rfl
    have hbox2:=hbox.set 33 (.slice x3 m3 c3);rw [hset] at hbox2
    refine ⟨.slice x3 m3 c3,by rw [HN5.out];rfl,⟨?_,hT3.trans (bZ.of_setCell W3 (a:=⟨O,33,none⟩) (.inl rfl) _),?_⟩⟩
    · rw [HE.out]
      refine ⟨hbox2,?_,HK.out.1,?_,?_,?_⟩
      · have hq:=hv3.congr (w':=W3.setCell ⟨O,33,none⟩ (.slice x3 m3 c3)) (fun g hg=>Below.heap_setCell _ _ _ g (HNE.out g hg))
        rw [List.map_append];exact hq
      · intro e he
        rcases List.mem_append.1 he with h|h
        · exact HK.out.2.1 e h
        · rw [List.mem_singleton.1 h];exact HK.out.2.2.2
      · rw [List.length_append,HN.out];simp;omega
      · have hO:=HINS.out O (.inl rfl);have:=HBO.out;omega
    · rcases hw3 with h|h
      · exact .inl h
      · exact .inr ⟨_,h,by have:=HVS.out;rw [World.size_alloc];omega⟩
theorem ut (a s:Int) (k:List Int) (hk:k.length=32) (hR:bw w base O own seed v L) (hbase:base≤w.heap.size):
    Calls Tryz.prog 20 #[.pointer (some ⟨O,0,none⟩),.agg (dotC a s).toArray,.agg (row .u8 k)] w fun e w'=>∃n v',e=.returned (.int .i64 n)∧yq w w' base O own seed v v' (mC L a s k):=
 (qZ base O own seed v L w a s k hk hR hbase).mono fun _ _ ⟨v',h1,h2⟩=>⟨_,v',h1,h2⟩
end
set_option maxHeartbeats 1000000
theorem aq.newW (w:World) (l:List Int) (hl:l.length≤4000000):aq (w.alloc (.cells (row .u8 l) 5)) w.heap.size (.slice (some ⟨w.heap.size,0,none⟩) l.length l.length) l:=aq.ofHolds (aa.new w .u8 5 l) (Nat.le_refl _) hl
theorem gX (n:Int) (w:World):
    Calls Tryz.prog 88 #[.int .u32 n] w fun e w'=>∃v,e=.returned v∧aq w' w.heap.size v (be4 n)∧Below w.heap.size w w':=by
 have e1:IntKind.u8.wrap (n / 16777216)=n / 16777216 % 256:=by simp [IntKind.wrap,IntKind.bits,IntKind.signed]
 have e2:IntKind.u8.wrap (n / 65536)=n / 65536 % 256:=by simp [IntKind.wrap,IntKind.bits,IntKind.signed]
 have e3:IntKind.u8.wrap (n / 256)=n / 256 % 256:=by simp [IntKind.wrap,IntKind.bits,IntKind.signed]
 have e4:IntKind.u8.wrap n=n % 256:=by simp [IntKind.wrap,IntKind.bits,IntKind.signed]
 have hO:=aq.newW w (be4 n) (by simp [be4]);have hB:Below w.heap.size w (w.alloc (.cells (row .u8 (be4 n)) 5)):=(Below.refl _ _).alloc (Nat.le_refl _) _;go_enter Tryz.func88,Tryz.ntmps88;go_wp2;go_ret;exact ⟨_,rfl,hO,hB⟩
theorem gB (a s:Int) (w:World):
    Calls Tryz.prog 87 #[.agg (dotC a s).toArray] w fun e w'=>∃v,e=.returned v∧aq w' w.heap.size v (ei a s)∧Below w.heap.size w w':=by
 have hD0:=CellsAt.new w 26 (dotC a s);have hB0:Below w.heap.size w (w.alloc (.cells (dotC a s).toArray 26)):=(Below.refl _ _).alloc (Nat.le_refl _) _;have hf:=fun wx=>gX s wx
 have hfl:(be4 s).length=4:=dE s;have HD:ac ([a]++be4 s=ei a s):=⟨rfl⟩
 obtain ⟨F,hF⟩:∃q,be4 s=q:=⟨_,rfl⟩
 rw [hF] at hf hfl HD
 clear hF;go_enter Tryz.func87,Tryz.ntmps87;go_upto_region 1 with fail
 refine af (p:=fun y=>Code.wp _ _ _ _ y) (fun W0=>Below w.heap.size w W0∧CellsAt W0 w.heap.size 26 (dotC a s)) ⟨hB0,hD0⟩ ?_;clear hB0 hD0;rintro W0 ⟨hB0,hD0⟩;have hsz:=hB0.size;have keep:∀w',Below W0.heap.size W0 w'→w'.cell? ⟨w.heap.size,0,none⟩=some (.int .u8 a)∧w'.cell? ⟨w.heap.size,1,none⟩=some (.int .u32 s):=fun w' hb=>by
  have hc:=(vV hb).1;exact ⟨by rw [hc _ _ hD0.lt];exact hD0.cell 0,by rw [hc _ _ hD0.lt];exact hD0.cell 1⟩
 clear hD0;refine ag (fun w'=>w'.cell? ⟨w.heap.size,0,none⟩=some (.int .u8 a)∧w'.cell? ⟨w.heap.size,1,none⟩=some (.int .u32 s)) 7 (by kernel_rfl) ?_;obtain ⟨D0,hD0⟩:∃q,W0.drew=q:=⟨_,rfl⟩
 have hb0:Below W0.heap.size W0 D0:=by rw [←hD0];exact (Below.refl _ _).drew
 rw [hD0];clear hD0;have hS:=keep _ hb0;refine gaA 0 _ hS ?_;simp only [zp];refine grA 1 _ hS ?_;simp only [zp];refine gaA 3 _ hS ?_;simp only [zp];refine grA 4 _ hS ?_;simp only [zp];refine lV (i:=2) (j:=5) rfl rfl (by kernel_rfl) (by kernel_rfl) (by kernel_rfl) (fun K hK=>?_) (fun K hK=>?_)
 · skip
   go_simp;have hN1:=aq.newW D0 [a] (by simp);have hn1:Below D0.heap.size D0 (D0.alloc (.cells (row .u8 [a]) 5)):=(Below.refl _ _).alloc (Nat.le_refl _) _;have hb1:Below W0.heap.size W0 (D0.alloc (.cells (row .u8 [a]) 5)):=hb0.trans (hn1.mono hb0.size);replace hS:=keep _ hb1;refine hK.out _ _ (fun _=>hS) ?_;clear hK K;have hO1:=hN1.lessG hb0.size;obtain ⟨U1,hU1⟩:∃q,D0.alloc (.cells (row .u8 [a]) 5)=q:=⟨_,rfl⟩
   have hc1:D0.alloc (.cells #[.int .u8 a] 5)=U1:=hU1;rw [hU1] at hb1 hO1
   rw [hc1];clear hU1 hc1 hn1 hN1;refine zw 5 fun K hK=>?_
   go_wp2_with (go_at_call 88;refine (hf _).mono ?_;rintro e w2 ⟨v2,rfl,ho2,hb2⟩)
   have hB2:Below W0.heap.size W0 w2:=hb1.trans (hb2.mono hb1.size);have hO2:=hO1.afarW hb2;obtain ⟨x2,n2,c2,rfl,hn2⟩:=ho2.isSlice;have hy2:=ho2.bytes.2;rw [hfl] at hn2
   subst hn2;replace hS:=keep _ hB2;refine hK.out _ _ (fun _=>hS) ?_;clear hK K;refine zw 6 fun K hK=>?_
   refine dV _ _ rfl W0.heap.size _ [a] rfl hO2 x2 4 c2 F rfl hy2 (by simp) hB2.size ?_;intro v3 w3 ho3 hg3;have hB3:Below W0.heap.size W0 w3:=below_grown hB2 hO2 hg3 hB2.size;replace hS:=keep _ hB3;refine hK.out _ _ (fun _=>hS) ?_;clear hK K;refine zw 7 fun K hK=>?_
   go_simp;refine hK.out _ _ zn ?_;clear hK K;refine al (by kernel_rfl) ?_ _;go_wp2;go_ret;rw [HD.out] at ho3
   exact ⟨_,rfl,ho3.lessG hsz,hB0.trans (hB3.mono hsz)⟩
 · skip
   go_wp2_with (go_at_call 88;refine (hf _).mono ?_;rintro e w2 ⟨v2,rfl,ho2,hb2⟩)
   have hB2:Below W0.heap.size W0 w2:=hb0.trans (hb2.mono hb0.size);obtain ⟨x2,n2,c2,rfl,hn2⟩:=ho2.isSlice;have hy2:=ho2.bytes.2;rw [hfl] at hn2
   subst hn2;replace hS:=keep _ hB2;refine hK.out _ _ (fun _=>hS) ?_;clear hK K;refine zw 2 fun K hK=>?_
   go_simp;have hN1:=aq.newW w2 [a] (by simp);have hn1:Below w2.heap.size w2 (w2.alloc (.cells (row .u8 [a]) 5)):=(Below.refl _ _).alloc (Nat.le_refl _) _;have hb1:Below W0.heap.size W0 (w2.alloc (.cells (row .u8 [a]) 5)):=hB2.trans (hn1.mono hB2.size);have hy3:=hy2.below hn1;replace hS:=keep _ hb1;refine hK.out _ _ (fun _=>hS) ?_;clear hK K;have hO1:=hN1.lessG hB2.size;obtain ⟨U1,hU1⟩:∃q,w2.alloc (.cells (row .u8 [a]) 5)=q:=⟨_,rfl⟩
   have hc1:w2.alloc (.cells #[.int .u8 a] 5)=U1:=hU1;rw [hU1] at hb1 hO1 hy3
   rw [hc1];clear hU1 hc1 hn1 hN1;refine zw 6 fun K hK=>?_
   refine dV _ _ rfl W0.heap.size _ [a] rfl hO1 x2 4 c2 F rfl hy3 (by simp) hb1.size ?_;intro v3 w3 ho3 hg3;have hB3:Below W0.heap.size W0 w3:=below_grown hb1 hO1 hg3 hb1.size;replace hS:=keep _ hB3;refine hK.out _ _ (fun _=>hS) ?_;clear hK K;refine zw 7 fun K hK=>?_
   go_simp;refine hK.out _ _ zn ?_;clear hK K;refine al (by kernel_rfl) ?_ _;go_wp2;go_ret;rw [HD.out] at ho3
   exact ⟨_,rfl,ho3.lessG hsz,hB0.trans (hB3.mono hsz)⟩
end Go.Proofs.YtbdhfbglagdiaaaGreatDoor
