/- Fm3 Kr1 FewL2 RefPad RefLeaf -/
import Derived.Test.YtbdhfbglagdiaaaGreatDoorG27
import Derived.Test.YtbdhfbglagdiaaaGreatDoorG23
import Derived.ArgAppend
import Derived.Lib.LazyBuf
import Derived.Test.YtbdhfbglagdiaaaGreatDoorG20
import Derived.Test.YtbdhfbglagdiaaaGreatDoorG18
import Derived.Test.YtbdhfbglagdiaaaGreatDoorG09
import Derived.Deep.RegionHeldLaw
namespace Go.Proofs.YtbdhfbglagdiaaaGreatDoor
open Go.RowKit
set_option maxRecDepth 20000
set_option maxHeartbeats 8000000
set_option linter.unusedSimpArgs false
def ftagL (seed:List Int) (F:Fr) (ws:List Wp) (body:List Int):List Int:=S.tagL (gx seed F.author) (aN F ws++body)
theorem d8 (seed:List Int) (F:Fr) (ws:List Wp) (body:List Int):(ftagL seed F ws body).length=32:=S.tagL_length _ _
theorem ma {W:World} {base:Nat} {v:Value} {z:List Int} (h:ao W base v z) (k:Nat) (hk:v.ownBlock=some k):base≤k:=by
 rcases h.2 with ⟨rfl,_⟩|⟨g,cap,cur,rfl,h2,_⟩
 · cases hk
 · obtain rfl:g=k:=by simpa [Value.ownBlock] using hk
   exact h2
structure j7 (W:World) (F:Fr) (xw:Option Addr) (lw cw:Nat) (ws:List Wp) (xb:Option Addr) (lb cb:Nat) (body:List Int):Prop where
 prev:F.prev.length=32
 mac:F.mac.length=32
 wraps:F.wraps=.slice xw lw cw
 body_:F.body=.slice xb lb cb
 hw:WrapsAt W xw lw cw ws
 hb:Bytes W xb lb cb body
theorem j7.below {W W':World} {F:Fr} {xw:Option Addr} {lw cw:Nat} {ws:List Wp} {xb:Option Addr} {lb cb:Nat} {body:List Int} (h:j7 W F xw lw cw ws xb lb cb body) (hb:Below W.heap.size W W'):j7 W' F xw lw cw ws xb lb cb body:=⟨h.prev,h.mac,h.wraps,h.body_,h.hw.below hb,h.hb.below hb⟩
section
variable (base H:Nat) (own:Int) (seed:List Int) (b:Nat) (M:Int→Int→Option (List Int)) (v:Value) (L:List (Int×Int)) (w:World)
theorem oU (hR:aA w base H own seed b M v L) (hKT:S.KTab w) (F:Fr) (xw:Option Addr) (lw cw:Nat) (ws:List Wp) (xb:Option Addr) (lb cb:Nat) (body:List Int) (hF:j7 w F xw lw cw ws xb lb cb body) (hl:lw≤64) (hlb:lb≤5000):
    Calls Tryz.prog 36 #[.pointer (some ⟨H,0,none⟩),.agg F.cells.toArray] w fun e w'=>e=.returned (.agg (row .u8 (ftagL seed F ws body)))∧Below w.heap.size w w':=by
 obtain ⟨f70,f0,_,_,_,_,f37,_⟩:=aL F hF.prev hF.mac;rw [hF.body_] at f37
 have iF:(Tryz.prog.info? 43).map (·.size)=some F.cells.length:=by rw [f70];exact bw
 obtain ⟨Z,hZl,hZ⟩:∃Z:List Int,Z.length=32∧Z=List.replicate 32 0:=⟨_,rfl,rfl⟩
 have hzv:∀wx,(zeroValue 23).run Tryz.prog wx=.ok (.agg (row .u8 Z)) wx:=fun wx=>by rw [hZ];kernel_rfl
 have hz1:¬(row .u8 Z)= #[]:=by intro h;have:=congrArg Array.size h;rw [bc] at this;simp at this;rw [this] at hZl;simp at hZl
 clear hZ;have hA0:=(CellsAt.new w 43 F.cells).alloc (.cells (row .u8 Z) 23);have hZ0:=aa.new (w.alloc (.cells F.cells.toArray 43)) .u8 23 Z;rw [World.size_alloc] at hZ0
 have hB0:Below w.heap.size w ((w.alloc (.cells F.cells.toArray 43)).alloc (.cells (row .u8 Z) 23)):=((Below.refl _ _).alloc (Nat.le_refl _) _).alloc (by simp) _;have HMK:ac (∀W,Below w.heap.size w W→Calls Tryz.prog 81 #[.pointer (some ⟨H,0,none⟩),.int .u8 F.author] W fun e w'=>e=.returned (.agg (row .u8 (gx seed F.author)))∧Below W.heap.size W w'):=⟨fun W hb=>vx base H own seed b M v L W F.author (hR.far hb) (hKT.below hb)⟩
 have HOP:ac (∀W,Below w.heap.size w W→Calls Tryz.prog 35 #[.agg F.cells.toArray] W fun e w'=>∃v,e=.returned v∧ao w' W.heap.size v (aN F ws)∧Below W.heap.size W w'):=⟨fun W hb=>me F xw lw cw ws W hF.prev hF.mac hF.wraps (hF.hw.below hb) hl⟩
 have HBY:ac (∀W,Below w.heap.size w W→Bytes W xb lb cb body):=⟨fun W hb=>hF.hb.below hb⟩
 have hol:(aN F ws).length≤4000:=by
  rw [b9 F ws hF.prev hF.hw.ok];have:=hF.hw.len_eq;omega
 have HBL:ac (body.length≤5000):=⟨by have:=hF.hb.len_eq;omega⟩
 have hML:(gx seed F.author).length=32:=aU _ _;have HHM:ac (∀W g x n c,Below w.heap.size w W→aa W g .u8 23 (gx seed F.author)→Bytes W x n c (aN F ws++body)→n≤100000→Calls Tryz.prog 82 #[.slice (some ⟨g,0,none⟩) 32 32,.slice x n c] W fun e w'=>e=.returned (.agg (row .u8 (ftagL seed F ws body)))∧Below W.heap.size W w'):=⟨fun W g x n c hb hk hby hn=>S.hmac_any (some ⟨g,0,none⟩) 32 32 (gx seed F.author) x n c _ W (hk.bytes (by rw [hML]) (by rw [hML];omega)).toS (by omega) hby.toS (by omega) (hKT.below hb)⟩
 have hTl:=d8 seed F ws body;have HTL:ac (∀q,ftagL seed F ws body=q→q=ftagL seed F ws body):=⟨fun q h=>h.symm⟩
 obtain ⟨TG,hTG⟩:∃q,ftagL seed F ws body=q:=⟨_,rfl⟩
 rw [hTG] at HHM hTl ⊢
 obtain ⟨OL,hOL⟩:∃q,aN F ws=q:=⟨_,rfl⟩
 rw [hOL] at HOP HHM hol
 obtain ⟨MK,hMK⟩:∃q,gx seed F.author=q:=⟨_,rfl⟩
 rw [hMK] at HMK HHM hML
 have HF0:ac (∀W,CellsAt W w.heap.size 43 F.cells→W.cell? ⟨w.heap.size,0,none⟩=some (.int .u8 F.author)∧W.rangeAt w.heap.size 0 F.cells∧W.cell? ⟨w.heap.size,37,none⟩=some (.slice xb lb cb)):=⟨fun W h=>⟨(h.cell 0).trans f0,h.wholeM,(h.cell 37).trans f37⟩⟩
 generalize F.author=FA at HMK HF0
 generalize F.cells=FC at hA0 hZ0 hB0 HOP HF0 iF ⊢
 clear hTG hOL hMK hF hR hKT f70 f0 f37 HTL;have uF:=Tryz.underlying43;go_enter Tryz.func36,Tryz.ntmps36;go_upto_region 1 with fail
 refine ae (p:=fun y=>Code.wp _ _ _ _ y) (fun W=>Below w.heap.size w W∧CellsAt W w.heap.size 43 FC∧aa W (w.heap.size+1) .u8 23 Z) ⟨hB0,hA0,hZ0⟩ ?_;clear hB0 hA0 hZ0;rintro W ⟨hB,hA,hZ⟩;obtain ⟨c0,-,-⟩:=HF0.out W hA;have hmk:=HMK.out W hB;go_upto_region 2 with (first
  |(go_at_call 81;refine hmk.mono ?_;rintro e w1 ⟨rfl,hb1⟩;have hk1:=aa.new w1 .u8 23 Z;clear hmk)
  |(refine aj rfl 23 _ _ rfl _ rfl rfl hk1 (by rw [hML];exact ap) (by rw [hZl,hML]) ?_))
 have hb2:Below w1.heap.size w1 ((w1.alloc (.cells (row .u8 Z) 23)).setRow w1.heap.size (row .u8 MK)):=below_setRow ((Below.refl _ _).alloc (Nat.le_refl _) _) (Nat.le_refl _) _;have hB1:=hB.trans (hb1.mono hB.size);refine ae (p:=fun y=>Code.wp _ _ _ _ y) (fun V=>Below w.heap.size w V∧CellsAt V w.heap.size 43 FC∧aa V (w.heap.size+1) .u8 23 Z∧aa V w1.heap.size .u8 23 MK) ⟨hB1.trans (hb2.mono hB1.size),(hA.farM hb1).farM hb2,(hZ.below hb1 hZ.lt).below hb2 (hZ.below hb1 hZ.lt).lt,hk1.setRow _⟩ ?_;have hwZ:=(hZ.below hb1 hZ.lt).lt;clear hb2 hB1 hk1 hb1 c0 hB hA hZ HMK hzv hz1;obtain ⟨g,hg⟩:∃q,w1.heap.size=q:=⟨_,rfl⟩
 rw [hg] at hwZ ⊢
 clear hg;clear w1 W;rintro W ⟨hB,hA,hZ,hK⟩;have hBd:=hB.drew;have hAd:=hA.congr (w':=W.drew) rfl;have hb0:Below W.heap.size W W.drew:=(Below.refl _ _).drew;have hZd:=hZ.below hb0 hZ.lt;have hKd:=hK.below hb0 hK.lt;refine ay (fun w'=>w'.rangeAt w.heap.size 0 FC∧w'.cell? ⟨w.heap.size,37,none⟩=some (.slice xb lb cb)) (fun _=>True) 99 (by kernel_rfl) ?_;have hT:(fun w':World=>w'.rangeAt w.heap.size 0 FC∧w'.cell? ⟨w.heap.size,37,none⟩=some (.slice xb lb cb)) W.drew:=(HF0.out _ hAd).2;have hS:=trivial;refine ghA 0 _ hT hS ?_;simp only [zp];refine ghA 3 _ hT hS ?_;simp only [zp];refine ghA 4 _ hT hS ?_;simp only [zp];refine zh 1 11 43 3 w.heap.size 0 FC hT hS (fun _ h=>h.1) uF iF ?_;simp only [zp];refine zm 2 fun K hK=>?_
 refine aC _ _ (by kernel_rfl) ((HOP.out W.drew hBd).mono ?_);rintro e w2 ⟨v2,rfl,ho2,hb2⟩;refine ⟨_,rfl,?_⟩;have hB2:=hBd.trans (hb2.mono hBd.size);have hA2:=hAd.farM hb2;have hZ2:=hZd.below hb2 hZd.lt;have hK2:=hKd.below hb2 hKd.lt;replace hT:(fun w':World=>w'.rangeAt w.heap.size 0 FC∧w'.cell? ⟨w.heap.size,37,none⟩=some (.slice xb lb cb)) w2:=(HF0.out _ hA2).2;refine hK.out _ _ hT (fun _=>hS) ?_;clear hK K
 try simp only [zp]
 refine zm 5 fun K hK=>?_
 refine fc _ _ rfl W.drew.heap.size v2 OL rfl ho2 xb lb cb body rfl (HBY.out w2 hB2) (by omega) hb2.size ?_;intro v3 w3 ho3 hg3;have hb3:Below W.drew.heap.size W.drew w3:=hb2.grown hg3 hb2.size (fun k hk=>(ma ho2 k hk));have hB3:=hBd.trans (hb3.mono hBd.size);have hA3:=hAd.farM hb3;have hZ3:=hZd.below hb3 hZd.lt;have hK3:=hKd.below hb3 hKd.lt;obtain ⟨x3,n3,c3,rfl,hn3⟩:=ho3.isSlice;replace hT:(fun w':World=>w'.rangeAt w.heap.size 0 FC∧w'.cell? ⟨w.heap.size,37,none⟩=some (.slice xb lb cb)) w3:=(HF0.out _ hA3).2;have hhm:=HHM.out w3 g x3 n3 c3 hB3 hK3 ho3.bytes.2 (by rw [hn3,List.length_append];have:=HBL.out;omega);refine hK.out _ _ hT (fun _=>hS) ?_;clear hK K
 try simp only [zp]
 refine zm 6 fun K hK=>?_
 refine aC _ _ (by kernel_rfl) (hhm.mono ?_);rintro e w4 ⟨rfl,hb4⟩;refine ⟨_,rfl,?_⟩;have hB4:=hB3.trans (hb4.mono hB3.size);have hA4:=hA3.farM hb4;have hZ4:=hZ3.below hb4 hZ3.lt;replace hT:(fun w':World=>w'.rangeAt w.heap.size 0 FC∧w'.cell? ⟨w.heap.size,37,none⟩=some (.slice xb lb cb)) w4:=(HF0.out _ hA4).2;refine hK.out _ _ hT (fun _=>hS) ?_;clear hK K
 try simp only [zp]
 refine zm 7 fun K hK=>?_
 refine dI 23 _ _ rfl (w.heap.size+1) rfl rfl hZ4 (by rw [hTl];exact ap) (by rw [hZl,hTl]) ?_;have hA5:CellsAt (w4.setRow (w.heap.size+1) (row .u8 TG)) w.heap.size 43 FC:=hA4.setRowM _ (by omega);replace hT:(fun w':World=>w'.rangeAt w.heap.size 0 FC∧w'.cell? ⟨w.heap.size,37,none⟩=some (.slice xb lb cb)) (w4.setRow (w.heap.size+1) (row .u8 TG)):=(HF0.out _ hA5).2;refine hK.out _ _ hT (fun _=>hS) ?_;clear hK K
 try simp only [zp]
 refine aB (by kernel_rfl) ?_ _;have HE:ac (aa (w4.setRow (w.heap.size+1) (row .u8 TG)) (w.heap.size+1) .u8 23 TG∧Below w.heap.size w (w4.setRow (w.heap.size+1) (row .u8 TG))):=⟨hZ4.setRow _,below_setRow hB4 (by omega) _⟩
 clear hT hS hA5 hA4 hZ4 hB4 hb4 hhm ho3 hA3 hZ3 hK3 hB3 hb3 hg3 ho2 hb2 hB2 hA2 hZ2 hK2 hBd hAd hb0 hZd hKd hB hA hZ hK;go_wp2;refine bodyPost_ret (ak (Tryz.results36) _ rfl HE.out.1 Tryz.underlying23 ap hTl) rfl ⟨rfl,HE.out.2⟩
end
theorem rN (s:ByteArray) (w:World) (hs:s.size≤1000):
    ∃c W,(convert 9 41 (.string s)).run Tryz.prog w=.ok (.slice (some ⟨w.heap.size,0,none⟩) s.size c) W∧s.size≤c∧c≤maxLen∧W.heap[w.heap.size]?=some (.cells (bytesRow s c) 5 ((bytesRow s c).size,(bytesRow s c).size+1))∧Below w.heap.size w W∧W.heap.size=w.heap.size+1:=
 ⟨_,_,run_bytes_of_string w 9 41 5 s Tryz.underlying9 Tryz.underlying41 Tryz.underlying5,grownCap_ge w s.size 0 5,grownCap_le_maxLen w s.size 0 5 (by simp [maxLen];omega),heap_alloc_new w.drew _,(Below.refl _ _).drew.alloc (Nat.le_refl _) _,by simp⟩
theorem iY (s:ByteArray) (c:Nat) (h:s.size≤c):(bytesRow s c).size=c:=by
 have:s.data.size=s.size:=rfl;simp [bytesRow];omega
theorem oB (s:ByteArray) (c j:Nat) (h:j<s.size):(bytesRow s c)[j]?=some (.int .u8 ((cT s)[j]?.getD 0)):=by
 have hj':j<s.data.size:=h;simp [bytesRow,cT,hj',Array.getElem?_append];rw [if_pos h,Array.getElem?_eq_getElem hj']
 rfl
theorem vE (ws:ByteArray) (W:World) (g c2:Nat) (ty:TypeId) (hrow:W.heap[g]?=some (.cells (bytesRow ws c2) 5 ((bytesRow ws c2).size,(bytesRow ws c2).size+1))) (hc:ws.size≤c2) (hcm:c2≤maxLen) (x:Option Addr) (n c:Nat) (m:List Int) (hm:Bytes W x n c m) (hn:n≤1000) (hws:ws.size≤1000) (hx:∀b off,x=some ⟨b,off,none⟩→0<n→b≠g):
    ∃x' n' c' W3,(Builtin.append_ #[41,41] ty #[.slice (some ⟨g,0,none⟩) ws.size c2,.slice x n c]).run Tryz.prog W=.ok (.slice x' n' c') W3∧Bytes W3 x' n' c' (cT ws++m)∧Below g W W3:=by
 obtain ⟨i0,hi,hz0,hz1,hz2⟩:=info_parts dH;have hml:=hm.len_eq;have hwl:=eZ ws;have hgl:g<W.heap.size:=(Array.getElem?_eq_some_iff.1 hrow).1;have hcell:∀j,j<ws.size→W.cell? ⟨g,j,none⟩=some (.int .u8 ((cT ws)[j]?.getD 0)):=fun j hj=>by
  rw [cell_of_row W g j _ _ _ hrow];exact oB ws c2 j hj
 have hsome:∀j,j<c2→(W.cell? ⟨g,j,none⟩).isSome=true:=fun j hj=>by
  rw [cell_of_row W g j _ _ _ hrow,Array.getElem?_eq_getElem (by rw [iY ws c2 hc];exact hj)];rfl
 have hbase:Bytes W (some ⟨g,0,none⟩) ws.size c2 (cT ws):=⟨hwl.symm,hc,by simpa [maxLen] using hcm,(fun h=>by cases h),.inr ⟨_,_,rfl,fun j hj=>by rw [Nat.zero_add];exact hcell j hj⟩⟩
 have hmain:∀ad:Addr,x=some ad→(∀j u,(m.map (Value.int .u8))[j]?=some u→W.cell? (ad.add j)=some u)→(0<n→ad.block≠g)→
     ∃x' n' c' W3,(Builtin.append_ #[41,41] ty #[.slice (some ⟨g,0,none⟩) ws.size c2,.slice x n c]).run Tryz.prog W=.ok (.slice x' n' c') W3∧Bytes W3 x' n' c' (cT ws++m)∧Below g W W3:=fun ad hxa hsrc hne=>by
  subst hxa;have h1:∀u∈m.map (Value.int .u8),u.oneCell'=true:=fun u hu=>by simp only [List.mem_map] at hu;obtain ⟨_,_,rfl⟩:=hu;rfl
  by_cases hr:ws.size+n≤c2
  · have hst:=run_append_room_cells (P:=Tryz.prog) W 41 ty 5 i0 Tryz.underlying41 hi g 0 ws.size c2 ad n c (m.map (Value.int .u8)) (by rw [List.length_map,hz1];omega) hsrc h1 hr
     (fun j hj=>by rw [hz1,Nat.zero_add,Nat.mul_one];exact hsome _ (by simp at hj;omega))
     (fun j hj=>by
      rw [hz1,Nat.zero_add,Nat.mul_one];simp only [List.length_map] at hj
      unfold World.frozen?;rw [hrow];simp [iY ws c2 hc];omega)
    refine ⟨_,_,_,_,hst,⟨by rw [List.length_append,hwl,hml],hr,by simpa [maxLen] using hcm,(fun h=>by cases h),.inr ⟨_,_,rfl,fun j hj=>?_⟩⟩,below_setCells (Nat.le_refl _) _ _ _ (Below.refl _ _)⟩;rw [hz1,Nat.zero_add,Nat.zero_add,Nat.mul_one]
    by_cases hj2:j<ws.size
    · rw [World.cell?_setCells_out _ _ _ _ _ (fun _ _=>.inl hj2),hcell j hj2,List.getElem?_append_left (by omega)]
    · have:=World.cell?_setCells_in g (m.map (Value.int .u8)) ws.size W (fun j hj=>hsome _ (by simp at hj;omega)) (j - ws.size) (by simp;omega)
      rw [show ws.size+(j - ws.size)=j by omega] at this
      rw [this,List.getElem?_append_right (by omega),hwl];simp only [List.getElem_map];rw [List.getElem?_eq_getElem (by omega)];rfl
  · obtain ⟨v',w',hrun,hown,hgr⟩:=run_append_arg_grows (P:=Tryz.prog) W 41 ty 5 i0 _ 1 1 Tryz.underlying41 hi hz0 hz1 hz2 rfl (by decide) ⟨g,0,none⟩ ws.size c2 ((cT ws).map (Value.int .u8)) (by simp [hwl])
     (fun j u hu=>by rw [Addr.add_mid'];exact hbase.rangeK j u hu) ad n c (m.map (Value.int .u8)) (by simp;omega) hsrc (by omega) (by simp [maxLen];omega) (by omega)
    have ho:ao w' W.heap.size v' (cT ws++m):=ao.cast hown (by simp [hwl,hml]) (by simp);obtain ⟨x',n',c',rfl,hn'⟩:=ho.isSlice;exact ⟨x',n',c',w',hrun,ho.bytes.2,((Below.refl g W).grown hgr (Nat.le_of_lt hgl) (fun k hk=>by cases hk))⟩
 rcases hm.at_ with h0|⟨b,off,hy,hcs⟩
 · have hm0:m=[]:=List.length_eq_zero_iff.1 (by omega)
   cases x with
   |none=>
    have hc0:=hm.nil rfl;subst h0 hc0 hm0;refine ⟨_,_,_,W,?_,by rw [List.append_nil];exact hbase,Below.refl _ _⟩;simp [Builtin.append_,run_underlying Tryz.underlying41,sizeOf,typeInfo,hi,Builtin.lenOf,hc,Builtin.firstCells,storeCells]
   |some ad=>exact hmain ad rfl (fun j u hu=>by subst hm0;simp at hu) (fun h=>by omega)
 · exact hmain _ hy (fun j u hu=>by
    have hj:j<n:=by have:=(List.getElem?_eq_some_iff.1 hu).1;simpa [hml] using this
    rw [Addr.add_mid',hcs j hj,←hu,List.getElem?_map,List.getElem?_eq_getElem (by omega)];rfl) (fun h=>hx b off hy h)
end Go.Proofs.YtbdhfbglagdiaaaGreatDoor
namespace Go.Proofs.YtbdhfbglagdiaaaGreatDoor.S
open Go.RowKit
theorem ao.empty (w:World) (base:Nat) (h:base≤w.heap.size):ao (w.alloc (.cells #[] 5)) base (.slice (some ⟨w.heap.size,0,none⟩) 0 0) []:=
 ⟨rfl,.inr ⟨w.heap.size,0,#[],rfl,h,heap_alloc_new w _,Nat.le_refl _,by simp [maxLen],rfl,rfl⟩⟩
theorem mu (x:Option Addr) (len cap:Nat) (z:List Int) (w:World) (hbz:Bytes w x len cap z) (hln:len≤1000000):
    Calls Tryz.prog 107 #[.slice x len cap] w fun e w'=>∃v,e=.returned v∧ao w' w.heap.size v (bI z)∧Below w.heap.size w w':=by
 have HZ:Hid (len=z.length):=hbz.len_eq;have hsp:=eA len;have hsp2:padSize len≤2000000:=by unfold padSize;omega
 have hsp3:padSize len % 64=0:=by unfold padSize;omega
 have hsp4:padSize len≤len+72:=by unfold padSize;omega
 obtain ⟨m,hm⟩:∃m,padSize len=m:=⟨_,rfl⟩
 have HM:Hid (padSize len=m):=hm;rw [hm] at hsp hsp2 hsp3 hsp4
 clear hm;go_enter Tryz.func107,Tryz.ntmps107;go_upto_region 3 with (first
  |(at_builtin;refine aG rfl _ _ rfl w.heap.size _ [] rfl (ao.nil _ _) x len cap z rfl hbz (by simp;omega) (Nat.le_refl _) ?_;intro v1 w1 ho1 hg1;have hB1:=below_grown (Below.refl _ _) (ao.nil w w.heap.size) hg1 (Nat.le_refl _))
  |(at_builtin;refine bF rfl _ _ rfl w.heap.size _ z rfl 128 (ho1.alloc _) rfl (by have:=HZ.out;omega) hB1.size ?_;intro v2 w2 ho2 hg2))
 have hB2:Below w.heap.size w w2:=below_grown (hB1.alloc hB1.size _) (ho1.alloc _) hg2 (by have:=hB1.size;simp;omega);clear hg2 ho1 hB1 hg1 hbz
 go_loopw [3] (fun v wr=>∃k:Nat,len+1+k≤m - 8∧Below w.heap.size w wr∧ao wr w.heap.size v (z++ [128]++List.replicate k 0)) (fun v _=>m - lenOf v)
 case atStart=>exact ⟨0,by omega,hB2,by simpa using ho2⟩
 case round=>
  clear hB2 ho2;obtain ⟨k,hk,hB,ho⟩:=hrel;have hlen:(z++ [128]++List.replicate k 0).length=len+1+k:=by have:=HZ.out;simp;omega
  obtain ⟨g,cp,rfl,hg⟩:=ho.slice (by omega);rw [hlen]
  by_cases hlt:len+1+k<m - 8
  · have hne:(((len:Int)+1+(k:Int)) % 64 !=56)=true:=by simp;omega
    go_wp2_with (at_builtin;refine bF rfl _ _ rfl w.heap.size _ (z++ [128]++List.replicate k 0) (by rw [hlen];rfl) 0 (ho.alloc _) rfl (by omega) hB.size ?_;intro v3 w3 ho3 hg3)
    obtain ⟨g',cp',hv3,_⟩:=ho3.slice (by simp;omega);have hl3:(z++ [128]++List.replicate k 0++ [0]).length=len+1+(k+1):=by rw [List.length_append,hlen];rfl
    rw [hl3] at hv3
    subst hv3;go_roundw
    case rel=>
     refine ⟨k+1,by omega,below_grown (hB.alloc hB.size _) (ho.alloc _) (by rw [hlen];exact hg3) (by have:=hB.size;simp;omega),?_⟩;rw [List.replicate_succ',←List.append_assoc];exact ho3
    case measure=>simp only [lenOf];omega
  · obtain rfl:k=m - 9 - len:=by omega
    have hne:(((len:Int)+1+((m - 9 - len:Nat):Int)) % 64 !=56)=false:=by simp;omega
    have hpre:z++ [128]++List.replicate (m - 9 - len) 0=z++ [128]++List.replicate (padSize z.length - z.length - 9) 0:=by
     rw [←HZ.out,HM.out];congr 2;omega
    rw [hpre] at ho
    have hlp:(z++ [128]++List.replicate (padSize z.length - z.length - 9) 0).length=m - 8:=by rw [←hpre,hlen];omega
    go_wp2_with fail
    rw [show len+1+(m - 9 - len)=m - 8 by omega];have HP:Hid (bI z=z++ [128]++List.replicate (padSize z.length - z.length - 9) 0++bW z.length 8):=by
     show mb z 8=_;simp [mb]
    obtain ⟨pr,hpr⟩:∃pr,z++ [128]++List.replicate (padSize z.length - z.length - 9) 0=pr:=⟨_,rfl⟩
    rw [hpr] at ho HP hlp
    clear hpr hpre hlen
    go_loopw [3,5] (fun v i wr=>∃j:Nat,j≤8∧i=.int .i64 j∧Below w.heap.size w wr∧ao wr w.heap.size v (pr++(bW len 8).take j)) (fun _ i _=>8 - (intOf i).toNat)
    case atStart=>exact ⟨0,by omega,rfl,hB,by rw [←hlp];simpa using ho⟩
    case round=>
     clear hB ho;obtain ⟨j,hj,rfl,hB,ho⟩:=hrel;have hlj:(pr++(bW len 8).take j).length=m - 8+j:=by rw [List.length_append,List.length_take,ei,hlp];omega
     obtain ⟨g2,cp2,hv2,hg2⟩:=ho.slice (by omega);subst hv2;rw [hlj]
     by_cases hlt2:j<8
     · have hbyte:=oP len 8 j hlt2
       have htk:=bG (bW len 8) j (by rw [ei];exact hlt2);rw [hbyte] at htk
       have HT:Hid ((bW len 8).take (j+1)=(bW len 8).take j++ [lenByte len (8 - 1 - j)]):=htk;clear hbyte htk
       go_wp2_with (at_builtin;refine bF rfl _ _ rfl w.heap.size _ (pr++(bW len 8).take j) (by rw [hlj];rfl) _ (ho.alloc _) rfl (by omega) hB.size ?_;intro v3 w3 ho3 hg3)
       go_roundw
       case rel=>
        have hB3:Below w.heap.size w w3:=below_grown (hB.alloc hB.size _) (ho.alloc _) (by rw [hlj];exact hg3) (by have:=hB.size;simp;omega);have ho4:ao w3 w.heap.size v3 (pr++(bW len 8).take (j+1)):=by
         rw [HT.out,←List.append_assoc];have e:lenByte len (8 - 1 - j)=(len:Int)*8 / 2 ^ (56 - 8*j) % 256:=by unfold lenByte;rw [show 8*(8 - 1 - j)=56 - 8*j by omega]
         rw [e];exact ho3
        first
         |exact ⟨j+1,by omega,by go_num,hB3,ho4⟩
         |((repeat apply Exists.intro);exact ⟨⟨j+1,by omega,by go_num,hB3,ho4⟩,rfl⟩)
       case measure=>simp [intOf];omega
     · obtain rfl:j=8:=by omega
       go_wp2;go_ret;refine ⟨_,rfl,?_,hB⟩;rw [HP.out,←HZ.out];rw [List.take_of_length_le (by rw [ei];omega)] at ho hlj
       rw [←hlj];exact ho
set_option maxRecDepth 20000
theorem gG (x n:Int) (w:World) (hn:mJ n):
    Calls Tryz.prog 147 #[.int .u32 x,.int .i64 n] w fun e w'=>e=.returned (.int .u32 (rr n x))∧∃q,w'=w.drewN q:=by
 rcases hn with rfl|rfl|rfl|rfl|rfl|rfl|rfl|rfl|rfl|rfl
 all_goals
  go_enter Tryz.func147,Tryz.ntmps147;go_wp2
  go_quiet ((fail))
  go_wp2;go_ret;exact ⟨jB rfl,_,rfl⟩
theorem go {P:Program} {ops:Array Oper} {rest:List Oper} {o:Oper} {a:Act} {w:World} {Q:Exit→Act→World→Prop} (hgd:o.guard=none) (t:TypeId) (parts:Array (Nat×Operand)) (ho:o.op=.build t parts) (v:Value)
    (hrun:∀wx,(Instr.build t (parts.map fun (i,x)=>(i,a.eval x))).run P wx=.ok v wx) (h:wpList P ops Q rest (a.put o.dst v) w):wpList P ops Q (o::rest) a w:=
 wpList_plain hgd fun _ hK=>by
  unfold Oper.wp execOp;simp only [ho,Sem.run_bind,Sem.run_pure,Result.andThen_ok,hrun];exact hK _ _ h
theorem vS (i:Nat) (w:World) (h:i<64):
    Calls Tryz.prog 148 #[.int .i64 i] w fun e w'=>e=.returned (.int .u32 (kTab[i]?.getD 0))∧w'=w:=by
 have hix:=fun wx=>ce wx 179 24 64 .u32 kTab i Tryz.underlying179 Tryz.underlying24 gQ rfl h
 obtain ⟨V,hV⟩:∃V,kTab[i]?.getD 0=V:=⟨_,rfl⟩
 rw [hV] at hix ⊢
 clear hV;go_enter Tryz.func148,Tryz.ntmps148
 go_wp2_with (refine go rfl 179 _ rfl (.agg (row .u32 kTab)) (fun _=>by kernel_rfl) ?_)
 go_ret;exact ⟨rfl,rfl⟩
theorem wJ:(Tryz.prog.info? 24).map (fun i=>(i.zero,i.size,i.bytes))=some (some (.int .u32 0),1,4):=by kernel_rfl
def er (w:World) (base:Nat) (v:Value) (l:List Int):Prop:=w.ownsRow base 24 1 v l.length (l.map (Value.int .u32))
theorem er.cast {w:World} {base n:Nat} {v:Value} {z:List Int} {xs:List Value} (h:w.ownsRow base 24 1 v n xs) (hn:n=z.length) (hx:xs=z.map (Value.int .u32)):er w base v z:=by
 subst hn hx;exact h
theorem er.nil (w:World) (base:Nat):er w base (.slice none 0 0) []:=World.ownsRow_nil w base 24 1
theorem er.alloc {w:World} {base:Nat} {v:Value} {z:List Int} (h:er w base v z) (o:Obj):er (w.alloc o) base v z:=World.ownsRow.alloc h o
theorem er.drewN {w:World} {base:Nat} {v:Value} {z:List Int} (h:er w base v z) (n:Nat):er (w.drewN n) base v z:=by
 induction n with
 |zero=>exact h
 |succ n ih=>exact World.ownsRow.drew ih
theorem er.slice {w:World} {base:Nat} {v:Value} {z:List Int} (h:er w base v z) (hz:0<z.length):∃g cap,v=.slice (some ⟨g,0,none⟩) z.length cap∧base≤g∧cap≤9223372036854775807∧z.length≤cap∧∀j,j<z.length→w.cell? ⟨g,j,none⟩=some (.int .u32 (z[j]?.getD 0)):=by
 rcases h.2 with ⟨_,h0⟩|⟨g,cap,cur,rfl,hb,hg,hc,hm,hs,ht⟩
 · omega
 · refine ⟨g,cap,rfl,hb,by simpa [maxLen] using hm,hc,fun j hj=>?_⟩
   rw [cell_of_row w g j _ _ _ hg,←Array.getElem?_toList];have e:(cur.toList.take (z.length*1))[j]?=(z.map (Value.int .u32))[j]?:=by rw [ht]
   rw [Nat.mul_one,List.getElem?_take_of_lt hj,List.getElem?_map,List.getElem?_eq_getElem hj] at e
   rw [e,List.getElem?_eq_getElem hj];rfl
theorem jT {base:Nat} {w0 w w':World} {v:Value} {z:List Int} (hb:Below base w0 w) (hown:er w base v z) (hg:w.grownBy w' v.ownBlock) (hbase:base≤w.heap.size):Below base w0 w':=
 hb.grown hg hbase (fun k hk=>by
  rcases hown.2 with ⟨rfl,_⟩|⟨g,cap,cur,rfl,hb,_⟩
  · cases hk
  · simp [Value.ownBlock] at hk;omega)
theorem sm {w:World} {o:Oper} {a:Act} {K:Act→World→Prop} {Q:Exit→Act→World→Prop} (s x:Operand)
    (ho:o.op=.call {callee:=.builtin .append,args:= #[s,x],argTypes:= #[183,183]}) (base:Nat) (v:Value) (zs:List Int) (hs:a.eval s=v) (c:Int) (hown:er w base v zs) (g:Nat)
    (hx:a.eval x=.slice (some ⟨g,0,none⟩) 1 1) (hc:w.cell? ⟨g,0,none⟩=some (.int .u32 c)) (hln:zs.length≤4000000) (hbase:base≤w.heap.size)
    (h:∀v' w',er w' base v' (zs++ [c])→w.grownBy w' v.ownBlock→K (a.put o.dst v') w'):o.wp Tryz.prog a w K Q:=by
 obtain ⟨i0,hi,hz0,hz1,hz2⟩:=info_parts wJ;refine wp_append_own w s x 183 ho base 24 i0 (.int .u32 0) 1 4 Tryz.underlying183 hi hz0 hz1 hz2 rfl (by decide) v zs.length (zs.map (Value.int .u32)) hs hown ⟨g,0,none⟩ 1 1 [.int .u32 c] hx rfl ?_ (by simp [Value.oneCell']) (by simp [maxLen];omega) (by omega) hbase ?_
 · intro j u hj
   cases j with
   |zero=>rw [Addr.add_mid'];simp at hj;rw [←hj];exact hc
   |succ j=>simp at hj
 intro v' w' h1 h2 _;exact h v' w' (er.cast h1 (by simp) (by simp)) h2
theorem u5 {w:World} {o:Oper} {a:Act} {K:Act→World→Prop} {Q:Exit→Act→World→Prop} (s x:Operand)
    (ho:o.op=.call {callee:=.builtin .append,args:= #[s,x],argTypes:= #[183,183]}) (base:Nat) (v:Value) (zs:List Int) (hs:a.eval s=v) (c:Int) (hown:er (w.alloc (.cells #[.int .u32 c] 24)) base v zs)
    (hx:a.eval x=.slice (some ⟨w.heap.size,0,none⟩) 1 1) (hln:zs.length≤4000000) (hbase:base≤w.heap.size)
    (h:∀v' w',er w' base v' (zs++ [c])→(w.alloc (.cells #[.int .u32 c] 24)).grownBy w' v.ownBlock→K (a.put o.dst v') w'):o.wp Tryz.prog a (w.alloc (.cells #[.int .u32 c] 24)) K Q:=
 sm s x ho base v zs hs c hown w.heap.size hx ((cell_of_row _ w.heap.size 0 _ 24 (0,0) (World.alloc_heap_new w _)).trans rfl) hln (by simp;omega) h
theorem nV {w:World} {ops:Array Oper} {rest:List Oper} {o:Oper} {a:Act} {Q:Exit→Act→World→Prop} (hgd:o.guard=none) (s x:Operand)
    (ho:o.op=.call {callee:=.builtin .append,args:= #[s,x],argTypes:= #[183,183]}) (base:Nat) (v:Value) (zs:List Int) (hs:a.eval s=v) (c:Int) (hown:er (w.alloc (.cells #[.int .u32 c] 24)) base v zs)
    (hx:a.eval x=.slice (some ⟨w.heap.size,0,none⟩) 1 1) (hln:zs.length≤4000000) (hbase:base≤w.heap.size)
    (h:∀v' w',er w' base v' (zs++ [c])→(w.alloc (.cells #[.int .u32 c] 24)).grownBy w' v.ownBlock→wpList Tryz.prog ops Q rest (a.put o.dst v') w'):wpList Tryz.prog ops Q (o::rest) a (w.alloc (.cells #[.int .u32 c] 24)):=
 wpList_plain hgd fun _ hK=>u5 s x ho base v zs hs c hown hx hln hbase fun v' w' h1 h2=>hK _ _ (h v' w' h1 h2)
end Go.Proofs.YtbdhfbglagdiaaaGreatDoor.S
