/- Frg Kr7 Kr8 Kr9 Kb0 Ft5 -/
import Derived.Test.YtbdhfbglagdiaaaGreatDoorG32
import Derived.Test.YtbdhfbglagdiaaaGreatDoorG25
import Derived.Test.YtbdhfbglagdiaaaGreatDoorG37
import Derived.Test.YtbdhfbglagdiaaaGreatDoorG45
import Derived.Test.YtbdhfbglagdiaaaGreatDoorG23
namespace Go.Proofs.YtbdhfbglagdiaaaGreatDoor
open Go.RowKit
set_option maxRecDepth 20000
set_option maxHeartbeats 8000000
set_option linter.unusedSimpArgs false
def gL (own:Int) (seed:List Int) (ea es:Int):Int→Int→Option (List Int):=if es % 2=0∧eh own seed ea es=none then gP (eh own seed) ea es seed else eh own seed
def kr (own:Int) (seed:List Int) (ea es:Int):List Ep:=if es % 2=0 then mK (ef own seed) ea es seed else ef own seed
structure xA (w w':World) (H O:Nat) (own:Int) (seed:List Int) (ea es:Int) (b:Nat) (v:Value) (L:List (Int×Int)) (vo:Value):Prop where
 ring:aA w' w.heap.size H own seed b (gL own seed ea es) v L
 rring:bm w' w.heap.size O own seed vo (kr own seed ea es)
 below:Below w.heap.size w w'
theorem aA.lessB {w:World} {base base' H:Nat} {own:Int} {seed:List Int} {b:Nat} {M:Int→Int→Option (List Int)} {v:Value} {L:List (Int×Int)} (h:aA w base H own seed b M v L) (hb:base'≤base):aA w base' H own seed b M v L:=
 ⟨h.box,h.map,⟨h.added.1,by
  rcases h.added.2 with q|⟨g,cap,cur,h1,h2,h3⟩
  · exact .inl q
  · exact .inr ⟨g,cap,cur,h1,by omega,h3⟩⟩,h.seed32,h.is32,h.lenL,by have:=h.baseH;omega,by have:=h.baseB;omega⟩
theorem bm.lessB {w:World} {base base' O:Nat} {own:Int} {seed:List Int} {v:Value} {L:List Ep} (h:bm w base O own seed v L) (hb:base'≤base):bm w base' O own seed v L:=⟨h.box,h.own.less hb,h.seed32,h.k32,h.lenL,by have:=h.baseO;omega⟩
theorem tX (m:Nat) (hm:m≤255) (seed:List Int) (hs:seed.length=32) (ea es:Int) (ho:okD ea es) (w:World) (hKT:S.KTab w):
    Calls Tryz.prog 6 #[.int .u8 (m:Int),.agg (row .u8 seed),.agg (dotC ea es).toArray] w fun e w'=>∃H O b v L vo,e=.returned (.tuple #[.pointer (some ⟨H,0,none⟩),.pointer (some ⟨O,0,none⟩)])∧xA w w' H O ((m % 8:Nat):Int) seed ea es b v L vo:=by
 have hS:=CellsAt.new w 23 (seed.map (Value.int .u8));have hS0:=hS.alloc (.cells (dotC ea es).toArray 26);have hD0:=CellsAt.new (w.alloc (.cells (row .u8 seed) 23)) 26 (dotC ea es);rw [World.size_alloc] at hD0
 have hb0:Below w.heap.size w ((w.alloc (.cells (row .u8 seed) 23)).alloc (.cells (dotC ea es).toArray 26)):=((Below.refl _ _).alloc (Nat.le_refl _) _).alloc (by simp) _;obtain ⟨o,hoe⟩:∃q:Nat,m % 8=q:=⟨_,rfl⟩
 have ho8:(o:Int)<8:=by omega
 have hrem:(m:Int).tmod 8=(o:Int):=by rw [Int.tmod_eq_emod_of_nonneg (by omega),←hoe];rfl
 have hm0:(0:Int)≤(m:Int):=by omega
 have hm5:(m:Int)≤255:=by omega
 rw [hoe];clear hoe;have HKT:ac (∀W,Below w.heap.size w W→S.KTab W):=⟨fun W hb=>hKT.below hb⟩
 have HN:ac (∀W,Below w.heap.size w W→Calls Tryz.prog 17 #[.int .u8 (o:Int),.agg (row .u8 seed)] W fun e w'=>∃H b v,e=.returned (.pointer (some ⟨H,0,none⟩))∧aA w' W.heap.size H (o:Int) seed b (eh (o:Int) seed) v (ig (o:Int))∧Below W.heap.size W w'):=⟨fun W hb=>sM (o:Int) seed W ho8 hs (HKT.out W hb)⟩
 have HRN:ac (∀W,Calls Tryz.prog 18 #[.int .u8 (o:Int),.agg (row .u8 seed)] W fun e w'=>∃O v,e=.returned (.pointer (some ⟨O,0,none⟩))∧bm w' W.heap.size O (o:Int) seed v (ef (o:Int) seed)∧Below W.heap.size W w'):=⟨fun W=>by
  refine (wg (o:Int) seed W ho8 hs).mono ?_;rintro e w' ⟨O,v,he,hx,hE,hO,hb⟩;refine ⟨O,v,he,bm.ofNew hx hE hs (fun e he=>?_) ?_ hO,hb⟩
  · unfold ef at he
    split at he
    · rw [List.mem_singleton.1 he];exact aU _ _
    · cases he
  · unfold ef;split<;>simp⟩
 have iS:(Tryz.prog.info? 23).map (·.size)=some (seed.map (Value.int .u8)).length:=by rw [List.length_map,hs];exact ap
 have iD:(Tryz.prog.info? 26).map (·.size)=some (dotC ea es).length:=aH;have uK:=Tryz.underlying23;have uD:=Tryz.underlying26;clear hKT hS;go_enter Tryz.func6,Tryz.ntmps6;go_upto_region 1 with fail
 refine ay (fun w'=>w'.rangeAt w.heap.size 0 (seed.map (Value.int .u8))) (fun _=>True) 99 (by kernel_rfl) ?_;refine ae (p:=fun y=>aM _ _ _ _ _ _ _ _ _ _ y) (fun V=>Below w.heap.size w V∧CellsAt V w.heap.size 23 (seed.map (Value.int .u8))∧CellsAt V (w.heap.size+1) 26 (dotC ea es)) ⟨hb0.drew,hS0.congr rfl,hD0.congr rfl⟩ ?_;clear hb0 hS0 hD0;rintro V ⟨hb,hSd,hDd⟩;have hT:(fun w':World=>w'.rangeAt w.heap.size 0 (seed.map (Value.int .u8))) V:=hSd.wholeM;have hS:=trivial;refine ghA 0 _ hT hS ?_;simp only [zp];refine ghA 1 _ hT hS ?_;simp only [zp];refine ghA 4 _ hT hS ?_;simp only [zp];refine ghA 5 _ hT hS ?_;simp only [zp];refine zh 2 12 23 4 w.heap.size 0 (seed.map (Value.int .u8)) hT hS (fun _ h=>h) uK iS ?_;simp only [zp];refine zh 6 16 23 4 w.heap.size 0 (seed.map (Value.int .u8)) hT hS (fun _ h=>h) uK iS ?_;simp only [zp];refine zm 3 fun K hK=>?_
 refine aC _ _ (by kernel_rfl) ((HN.out V hb).mono ?_);rintro e w1 ⟨H,b,v,rfl,hR1,hb1⟩;refine ⟨_,rfl,?_⟩;have hS1:=hSd.farM hb1;have hB1:=hb.trans (hb1.mono hb.size);replace hT:(fun w':World=>w'.rangeAt w.heap.size 0 (seed.map (Value.int .u8))) w1:=hS1.wholeM;refine hK.out _ _ hT (fun _=>hS) ?_;clear hK K
 try simp only [zp]
 refine zm 7 fun K hK=>?_
 refine aC _ _ (by kernel_rfl) ((HRN.out w1).mono ?_);rintro e w2 ⟨O,vo,rfl,hO2,hb2⟩;refine ⟨_,rfl,?_⟩;have hS2:=hS1.farM hb2;have hD2:=(hDd.farM hb1).farM hb2;have hB2:=hB1.trans (hb2.mono hB1.size);replace hT:(fun w':World=>w'.rangeAt w.heap.size 0 (seed.map (Value.int .u8))) w2:=hS2.wholeM;refine hK.out _ _ hT (fun _=>hS) ?_;clear hK K
 try simp only [zp]
 refine ghA 8 _ hT hS ?_;simp only [zp];refine ghA 9 _ hT hS ?_;simp only [zp];refine aB (by kernel_rfl) ?_ _;have HSEP:ac (∀g,dz H b v g→¬rrB O vo g):=⟨fun g h1 h2=>by
  have q1:=(hR1.inside g h1).1;have q2:=(hO2.inside g h2).2;omega⟩
 refine ae (p:=fun y=>Exit.then _ _ _ _ y) (fun W=>Below w.heap.size w W∧CellsAt W w.heap.size 23 (seed.map (Value.int .u8))∧CellsAt W (w.heap.size+1) 26 (dotC ea es)∧aA W V.heap.size H (o:Int) seed b (eh (o:Int) seed) v (ig (o:Int))∧bm W w1.heap.size O (o:Int) seed vo (ef (o:Int) seed)) ⟨hB2,hS2,hD2,hR1.far hb2,hO2⟩ ?_;have hV2:w.heap.size+2≤V.heap.size:=hDd.lt;have h1V:=hb1.size;clear hT hS hB2 hS2 hD2 hb2 hO2 hS1 hB1 hb1 hR1 hb hSd hDd HRN HN;obtain ⟨s1,hs1⟩:∃q,V.heap.size=q:=⟨_,rfl⟩
 obtain ⟨s2,hs2⟩:∃q,w1.heap.size=q:=⟨_,rfl⟩
 rw [hs1,hs2] at h1V
 rw [hs1] at hV2
 rw [hs1,hs2];clear hs1 hs2;clear w2 w1 V;rintro W ⟨hb,hSd,hDd,hR,hO⟩;have c1:W.cell? ⟨w.heap.size+1,1,none⟩=some (.int .u32 es):=hDd.cell 1;have hes0:=ho.2.1;have HR:=ac.mk hR;have HO:=ac.mk hO;clear hR hO;obtain ⟨rr,hrr⟩:∃q,es.tmod 2=q:=⟨_,rfl⟩
 by_cases h2:es % 2=0
 rotate_left
 · have hrm:(rr==0)=false:=by rw [←hrr,Int.tmod_eq_emod_of_nonneg hes0];simpa using h2
   have HM:ac (gL (o:Int) seed ea es=eh (o:Int) seed∧kr (o:Int) seed ea es=ef (o:Int) seed):=⟨by unfold gL;rw [if_neg (fun q=>h2 q.1)],by unfold kr;rw [if_neg h2]⟩
   clear h2;go_wp2
   go_ret2
   exact ⟨_,_,b,v,_,vo,rfl,⟨by rw [HM.out.1];exact HR.out.lessB (by omega),by rw [HM.out.2];exact HO.out.lessB (by omega),hb⟩⟩
 have hrm:(rr==0)=true:=by rw [←hrr,Int.tmod_eq_emod_of_nonneg hes0];simpa using h2
 have rS:=hSd.wholeM;have rD:=hDd.wholeM;have HSP:ac (∀g,g<s1→¬dz H b v g∧¬rrB O vo g):=⟨fun g hg=>⟨fun q=>by have:=(HR.out.inside g q).2;omega,fun q=>by have:=(HO.out.inside g q).2;omega⟩⟩
 have hAdd:Calls Tryz.prog 19 #[.pointer (some ⟨H,0,none⟩),.agg (dotC ea es).toArray,.agg (seed.map (Value.int .u8)).toArray] W fun e w'=>∃n v' L',e=.returned (.int .i64 n)∧aA w' s1 H (o:Int) seed b (gL (o:Int) seed ea es) v' L'∧bZ (dz H b v) W w'∧(∀g,dz H b v' g→dz H b v g∨W.heap.size≤g):=by
  by_cases hk:((eh (o:Int) seed) ea es).isSome=true
  · refine (tR s1 H (o:Int) seed b (eh (o:Int) seed) v (ig (o:Int)) W ea es seed ho HR.out hk).mono ?_
    rintro e w' ⟨he,hb'⟩;refine ⟨5,v,ig (o:Int),he,?_,bZ.of_below hb',fun g hg=>.inl hg⟩;have:gL (o:Int) seed ea es=eh (o:Int) seed:=by
     unfold gL;rw [if_neg];rintro ⟨_,q⟩;rw [q] at hk
     cases hk
    rw [this];exact HR.out.far hb'
  · have hkf:((eh (o:Int) seed) ea es).isSome=false:=by simpa using hk
    refine (xU s1 H (o:Int) seed b (eh (o:Int) seed) v (ig (o:Int)) W ea es seed ho hs HR.out hkf (by unfold ig;split<;>simp) (by have:=hb.size;have:=(HR.out.inside H (.inl rfl));omega)).mono ?_;rintro e w' ⟨he,v',hR',hT',hv'⟩;refine ⟨0,v',ig (o:Int)++ [(ea,es)],he,?_,hT',fun g hg=>?_⟩
    · have:gL (o:Int) seed ea es=gP (eh (o:Int) seed) ea es seed:=by
       unfold gL;rw [if_pos ⟨h2,by simpa using hkf⟩]
      rw [this];exact hR'
    · rcases hg with q|q|q
      · exact .inl (.inl q)
      · exact .inl (.inr (.inl q))
      · rcases hv' with e|⟨g',e,hge⟩
        · rw [e] at q;exact .inl (.inr (.inr q))
        · rw [e] at q;cases q;exact .inr hge
 have HME:ac (kr (o:Int) seed ea es=mK (ef (o:Int) seed) ea es seed):=⟨by unfold kr;rw [if_pos h2]⟩
 have HNX:ac (∀w3 v3 L3,aA w3 s1 H (o:Int) seed b (gL (o:Int) seed ea es) v3 L3→bZ (dz H b v) W w3→(∀g,dz H b v3 g→dz H b v g∨W.heap.size≤g)→w3.rangeAt w.heap.size 0 (seed.map (Value.int .u8))∧w3.rangeAt (w.heap.size+1) 0 (dotC ea es)∧Calls Tryz.prog 20 #[.pointer (some ⟨O,0,none⟩),.agg (dotC ea es).toArray,.agg (seed.map (Value.int .u8)).toArray] w3 fun e w'=>∃n vo',e=.returned (.int .i64 n)∧xA w w' H O (o:Int) seed ea es b v3 L3 vo'):=⟨fun w3 v3 L3 hR3 hT3 hv3=>by
  have hO3:bm w3 s2 O (o:Int) seed vo (ef (o:Int) seed):=HO.out.congr fun g hg=>hT3.block g (HO.out.inside g hg).1 (fun q=>HSEP.out g q hg)
  refine ⟨(hSd.congr (hT3.block _ hSd.lt (HSP.out _ (by omega)).1)).wholeM,(hDd.congr (hT3.block _ hDd.lt (HSP.out _ (by omega)).1)).wholeM,?_⟩;refine (tm s2 O (o:Int) seed vo (ef (o:Int) seed) w3 ea es seed hs hO3 (by have:=(hO3.inside O (.inl rfl));omega)).mono ?_;rintro e w4 ⟨n,vo',he,hto⟩;have hW3:Below w.heap.size w w3:=hb.trans (hT3.below hb.size (fun k hk=>by have:=(HR.out.inside k hk).2;omega));refine ⟨n,vo',he,⟨?_,?_,?_⟩⟩
  · refine (hR3.turn hto.turn fun g hg hq=>?_).lessB (by omega)
    rcases hv3 g hg with q|q
    · exact HSEP.out g q hq
    · have:=(HO.out.inside g hq).1
      omega
  · rw [HME.out]
    exact hto.at_.lessB (by omega)
  · exact hW3.trans (hto.turn.below hW3.size (fun k hk=>by have:=(hO3.inside k hk).2;omega))⟩
 clear h2;go_upto_region 4 with (first
  |(refine af rfl 26 _ rfl _ _ rfl (dotC ea es) rD uD rfl iD ?_)
  |(refine af rfl 23 _ rfl _ _ rfl (seed.map (Value.int .u8)) rS uK rfl iS ?_)
  |(go_at_call 19;refine hAdd.mono ?_;rintro e w3 ⟨n3,v3,L3,rfl,hR3,hT3,hv3⟩;clear hAdd))
 obtain ⟨rS3,rD3,hra⟩:=HNX.out w3 v3 L3 hR3 hT3 hv3;clear HNX hR3 hT3 hv3 rS rD hSd hDd hb c1
 go_wp2_with (first
  |(refine af rfl 26 _ rfl _ _ rfl (dotC ea es) rD3 uD rfl iD ?_)
  |(refine af rfl 23 _ rfl _ _ rfl (seed.map (Value.int .u8)) rS3 uK rfl iS ?_)
  |(go_at_call 20;refine hra.mono ?_;rintro e w4 ⟨n4,vo4,rfl,hrg⟩;clear hra))
 go_ret2
 exact ⟨_,_,b,v3,L3,vo4,rfl,hrg⟩
section
variable (base O:Nat) (own:Int) (seed:List Int) (v:Value) (L:List Ep) (w:World)
end
section
variable (base O:Nat) (own:Int) (seed:List Int) (v:Value) (L:List Ep) (w:World)
end
section
variable (base O:Nat) (own:Int) (seed:List Int) (v:Value) (L:List Ep) (w:World)
end
structure kF (M:Int→Int→Option (List Int)) (D:List (Int×Int)) (L:List Ep):Prop where
 key:∀a s,M a s=keyE L a s
 dots:D=L.map (·.1)
 bytes:∀e∈L,∀x∈e.2,isB x
theorem kn (a s:Int) (k:List Int) (a' s':Int):∀L:List Ep,keyE (L++ [((a,s),k)]) a' s'=match keyE L a' s' with|some q=>some q|none=>if a=a'∧s=s' then some k else none
 |[]=>rfl
 |e::L=>by
  have ih:=kn a s k a' s' L;have e1:keyE (e::L++ [((a,s),k)]) a' s'=if e.1.1=a'∧e.1.2=s' then some e.2 else keyE (L++ [((a,s),k)]) a' s':=rfl
  have e2:keyE (e::L) a' s'=if e.1.1=a'∧e.1.2=s' then some e.2 else keyE L a' s':=rfl
  rw [e1,e2]
  by_cases h:e.1.1=a'∧e.1.2=s'
  · rw [if_pos h,if_pos h]
  · rw [if_neg h,if_neg h]
    exact ih
theorem kF.len {M:Int→Int→Option (List Int)} {D:List (Int×Int)} {L:List Ep} (h:kF M D L):D.length=L.length:=by rw [h.dots,List.length_map]
theorem kF.put {M:Int→Int→Option (List Int)} {D:List (Int×Int)} {L:List Ep} (h:kF M D L) (a s:Int) (k:List Int) (hm:keyE L a s=none) (hk:∀x∈k,isB x):kF (gP M a s k) (D++ [(a,s)]) (L++ [((a,s),k)]):=by
 refine ⟨fun a' s'=>?_,by rw [h.dots];simp,fun e he x hx=>?_⟩
 · rw [kn]
   unfold gP
   by_cases hc:a'=a∧s'=s
   · obtain ⟨rfl,rfl⟩:=hc
     simp [hm]
   · rw [if_neg hc,h.key]
     cases hq:keyE L a' s' with
     |some q=>rfl
     |none=>
      show none=if a=a'∧s=s' then some k else none
      rw [if_neg (fun e=>hc ⟨e.1.symm,e.2.symm⟩)]
 · rcases List.mem_append.1 he with h'|h'
   · exact h.bytes e h' x hx
   · rw [List.mem_singleton.1 h'] at hx;exact hk x hx
theorem kF.new (own:Int) (seed:List Int):kF (eh own seed) (ig own) (ef own seed):=by
 unfold eh ig ef
 by_cases h:own=0
 · rw [if_pos h,if_pos h,if_pos h]
   refine ⟨fun a s=>?_,rfl,fun e he x hx=>?_⟩
   · unfold gP keyE keyE
     by_cases hc:a=0∧s=0
     · rw [if_pos hc,if_pos ⟨hc.1.symm,hc.2.symm⟩]
     · rw [if_neg hc,if_neg (fun e=>hc ⟨e.1.symm,e.2.symm⟩)]
   · rw [List.mem_singleton.1 he] at hx
     exact wS _ _ x hx
 · rw [if_neg h,if_neg h,if_neg h]
   exact ⟨fun _ _=>rfl,rfl,fun e he=>by cases he⟩
structure yF (w:World) (base H O:Nat) (own:Int) (seed:List Int) (b:Nat) (M:Int→Int→Option (List Int)) (v:Value) (D:List (Int×Int)) (u:Value) (L:List Ep):Prop where
 ring:aA w base H own seed b M v D
 ref:bm w base O own seed u L
 link:kF M D L
 apart:∀g,dz H b v g→¬rrB O u g
section
variable (base H:Nat) (own:Int) (seed:List Int) (b:Nat) (M:Int→Int→Option (List Int)) (v:Value) (D:List (Int×Int)) (L:List Ep) (w:World)
end
theorem wz (own:Int) (seed:List Int) (a s:Int):keyE (ef own seed) a s=eh own seed a s:=by
 unfold ef eh
 by_cases h:own=0
 · rw [if_pos h,if_pos h]
   unfold gP keyE keyE
   by_cases q:(0:Int)=a∧(0:Int)=s
   · rw [if_pos q,if_pos ⟨q.1.symm,q.2.symm⟩]
   · rw [if_neg q,if_neg (fun p=>q ⟨p.1.symm,p.2.symm⟩)]
 · rw [if_neg h,if_neg h];rfl
theorem th (own:Int) (seed:List Int) (ea es:Int):keyE (kr own seed ea es) ea es=gL own seed ea es ea es:=by
 unfold kr gL;have hn:=wz own seed ea es
 by_cases h2:es % 2=0
 · rw [if_pos h2]
   cases hm:eh own seed ea es with
   |none=>
    rw [hm] at hn
    have hl:¬16≤(ef own seed).length:=by unfold ef;split<;>simp
    rw [if_pos ⟨h2,rfl⟩];unfold mK;rw [if_neg (by rw [hn];simp;omega),kn,hn];unfold gP;simp
   |some k=>
    rw [hm] at hn
    rw [if_neg (fun q=>by have:=q.2;cases this)];unfold mK;rw [if_pos (Or.inl (by rw [hn];rfl)),hn,hm]
 · rw [if_neg h2,if_neg (fun q=>h2 q.1),hn]
end Go.Proofs.YtbdhfbglagdiaaaGreatDoor
