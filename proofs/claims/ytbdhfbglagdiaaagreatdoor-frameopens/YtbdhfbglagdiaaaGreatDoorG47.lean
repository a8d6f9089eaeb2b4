/- Ft3 -/
import Derived.Test.YtbdhfbglagdiaaaGreatDoorG37
import Derived.Test.YtbdhfbglagdiaaaGreatDoorG38
import Derived.Test.YtbdhfbglagdiaaaGreatDoorG39
import Derived.Test.YtbdhfbglagdiaaaGreatDoorG45
import Derived.Test.YtbdhfbglagdiaaaGreatDoorG46
import Derived.Test.YtbdhfbglagdiaaaGreatDoorG26
namespace Go.Proofs.YtbdhfbglagdiaaaGreatDoor
open Go.RowKit
set_option maxRecDepth 20000
set_option maxHeartbeats 16000000
set_option linter.unusedSimpArgs false
theorem rB (wx:World):(Instr.build 33 #[]).run Tryz.prog wx=.ok (.agg evZ.cells.toArray) wx:=run_build wx _ _ _ (by kernel_rfl)
theorem t7 (x:Option Addr) (n c:Nat) (z:List Int) (w:World) (hb:Bytes w x n c z) (hz:∀v∈z,b8 v):
    Calls Tryz.prog 55 #[.slice x n c] w fun e w'=>e=.returned (.tuple #[.agg (revB z).cells.toArray,.int .i64 (ec z)])∧Below w.heap.size w w':=by
 by_cases h:n=58
 · subst h;exact pe x c z w hb hz
 · exact pE x n c z w hb h
def dc (seed:List Int) (m:Option (List Int)) (F:Fr) (lw:Nat) (ws:List Wp) (lb:Nat) (body:List Int) (E:Ev) (n:Int):Prop:=
 n=openE seed m F lw ws lb body∧((n≠0∧E=evZ)∨(n=0∧∃k,m=some k∧E=ee k F lb body))
theorem dc.bad {seed:List Int} {m:Option (List Int)} {F:Fr} {lw:Nat} {ws:List Wp} {lb:Nat} {body:List Int} {n:Int} (h:openE seed m F lw ws lb body=n) (h0:n≠0):dc seed m F lw ws lb body evZ n:=⟨h.symm,.inl ⟨h0,rfl⟩⟩
theorem wF {L:List Ep} {a s p:Int} (h8:¬8≤p) (hm:keyE L a s=none):kZ L a s p=List.replicate 32 0:=by unfold kZ;rw [if_neg h8,hm]
theorem xl {L:List Ep} {a s p:Int} (h8:¬8≤p) (hm:keyE L a s=none):kU L a s p=9:=by unfold kU;rw [if_neg h8,hm];rfl
theorem wj {L:List Ep} {a s p:Int} {k:List Int} (h8:¬8≤p) (hm:keyE L a s=some k):kZ L a s p=eo k p:=by unfold kZ;rw [if_neg h8,hm]
theorem wb {L:List Ep} {a s p:Int} {k:List Int} (h8:¬8≤p) (hm:keyE L a s=some k):kU L a s p=0:=by unfold kU;rw [if_neg h8,hm];rfl
section
variable (base O:Nat) (own:Int) (seed:List Int) (v:Value) (L:List Ep) (w:World)
variable (F:Fr) (xw:Option Addr) (lw cw:Nat) (ws:List Wp) (xb:Option Addr) (lb cb:Nat) (body:List Int)
theorem qI (hR:bm w base O own seed v L) (hF:j7 w F xw lw cw ws xb lb cb body) (hIn:F.In) (hWi:∀e∈ws,e.In) (hBi:∀x∈body,isB x):
    Calls Tryz.prog 12 #[.pointer (some ⟨O,0,none⟩),.agg F.cells.toArray] w fun e w'=>(∃(E:Ev) (n:Int),e=.returned (.tuple #[.agg E.cells.toArray,.int .i64 n])∧E.past.length=8∧dc seed (keyE L F.ea F.es) F lw ws lb body E n)∧Below w.heap.size w w':=by
 obtain ⟨f70,f0,f1,f2,_,_,f37,_⟩:=aL F hF.prev hF.mac;rw [hF.body_] at f37
 have iF:(Tryz.prog.info? 43).map (·.size)=some F.cells.length:=by rw [f70];exact bw
 have hA:=(CellsAt.new w 43 F.cells).alloc (.cells evZ.cells.toArray 33);have hR1:=CellsAt.new (w.alloc (.cells F.cells.toArray 43)) 33 evZ.cells;rw [World.size_alloc] at hR1
 have hB0:Below w.heap.size w ((w.alloc (.cells F.cells.toArray 43)).alloc (.cells evZ.cells.toArray 33)):=((Below.refl _ _).alloc (Nat.le_refl _) _).alloc (by simp) _;have HCK:ac (∀W,Below w.heap.size w W→Calls Tryz.prog 14 #[.pointer (some ⟨O,0,none⟩),.agg F.cells.toArray] W fun e w'=>e=.returned (.int .i64 (checkE seed F lw ws lb body))∧Below W.heap.size W w'):=⟨fun W hb=>kp base O own seed v L W F xw lw cw ws xb lb cb body (hR.far hb) (hF.below hb) hIn.number.1⟩
 have HFK:ac (∀W,Below w.heap.size w W→Calls Tryz.prog 39 #[.pointer (some ⟨O,0,none⟩),.agg (dotC F.ea F.es).toArray,.int .u8 F.author] W fun e w'=>e=.returned (.tuple #[.agg (row .u8 (kZ L F.ea F.es F.author)),.int .i64 (kU L F.ea F.es F.author)])∧Below W.heap.size W w'):=⟨fun W hb=>vu base O own seed v L W F.ea F.es F.author (hR.far hb)⟩
 have HOP:ac (lw≤64→∀W,Below w.heap.size w W→Calls Tryz.prog 44 #[.agg F.cells.toArray] W fun e w'=>∃x4 n4 c4,e=.returned (.slice x4 n4 c4)∧n4≤4000∧Bytes w' x4 n4 c4 (aN F ws)∧Below W.heap.size W w'):=⟨fun hl W hb=>by
  refine (gW F xw lw cw ws W hF.prev hF.mac hF.wraps (hF.hw.below hb) hl).mono ?_;rintro e w' ⟨v',he,ho,hb'⟩;obtain ⟨x4,n4,c4,rfl,hn4⟩:=ho.isSlice;refine ⟨x4,n4,c4,he,?_,ho.bytes.2,hb'⟩;rw [hn4,b9 F ws hF.prev hF.hw.ok];have:=hF.hw.len_eq;omega⟩
 have HBY:ac (∀W,Below w.heap.size w W→Bytes W xb lb cb body):=⟨fun W hb=>hF.hb.below hb⟩
 have HOI:ac (lw≤64→∀v∈aN F ws,isB v):=⟨fun hl=>j5 F ws hIn hWi (by have:=hF.hw.len_eq;omega)⟩
 have HBI:=ac.mk hBi;have HF0:ac (∀W,CellsAt W w.heap.size 43 F.cells→W.cell? ⟨w.heap.size,0,none⟩=some (.int .u8 F.author)∧W.cell? ⟨w.heap.size,1,none⟩=some (.int .u32 F.number)∧W.rangeAt w.heap.size 2 (dotC F.ea F.es)∧W.cell? ⟨w.heap.size,37,none⟩=some (.slice xb lb cb)∧W.rangeAt w.heap.size 0 F.cells):=⟨fun W h=>⟨(h.cell 0).trans f0,(h.cell 1).trans f1,by have:=h.range 2 2;rw [f2] at this;exact this,(h.cell 37).trans f37,h.wholeM⟩⟩
 have HEZ0:=rB;have hE1:=dh evZ;have iE:=bQ evZ rfl;have hzE0:∀wx,(zeroValue 33).run Tryz.prog wx=.ok (.agg evZ.cells.toArray) wx:=fun wx=>by kernel_rfl
 have hz1E:¬evZ.cells.toArray= #[]:=by decide
 obtain ⟨EZ,hEZ⟩:∃q,evZ.cells=q:=⟨_,rfl⟩
 rw [hEZ] at hA hR1 hB0 HEZ0 hE1 iE hzE0 hz1E
 have HEZ:=ac.mk HEZ0;have HEL:ac (EZ.length=EZ.length∧evZ.cells=EZ):=⟨rfl,hEZ⟩
 have HIN:=ac.mk hIn;have iD:(Tryz.prog.info? 26).map (·.size)=some (dotC F.ea F.es).length:=aH;have uD:=Tryz.underlying26;have uF:=Tryz.underlying43;have uK:=Tryz.underlying23;have uE:=Tryz.underlying33;obtain ⟨FC,hFC⟩:∃q,F.cells=q:=⟨_,rfl⟩
 rw [hFC] at hA hR1 hB0 HCK HOP HF0 iF ⊢
 clear f70 f0 f1 f2 f37 hFC HEZ0 hEZ hR hF hIn hWi hBi;obtain ⟨mk,hmk⟩:∃q,keyE L F.ea F.es=q:=⟨_,rfl⟩
 rw [hmk];have HMK:=ac.mk hmk;clear hmk;go_enter Tryz.func12,Tryz.ntmps12;go_upto_region 1 with fail
 refine ae (p:=fun y=>Code.wp _ _ _ _ y) (fun W=>Below w.heap.size w W∧CellsAt W w.heap.size 43 FC∧CellsAt W (w.heap.size+1) 33 EZ) ⟨hB0,hA,hR1⟩ ?_;clear hB0 hA hR1;rintro W ⟨hB,hA,hR1⟩;have r0:=(HF0.out W hA).2.2.2.2;have hck:=HCK.out W hB;go_upto_region 2 with (first
  |(refine af rfl 43 _ rfl w.heap.size 0 rfl FC r0 uF rfl iF ?_)
  |(go_at_call 14;refine hck.mono ?_;rintro e W1 ⟨rfl,hb1⟩;clear hck))
 replace hA:=hA.farM hb1;replace hR1:=hR1.farM hb1;have hB1:=hB.trans (hb1.mono hB.size);clear r0 hb1 hB W HCK
 by_cases hc:checkE seed F lw ws lb body=0
 rotate_left
 · have HN:ac (dc seed mk F lw ws lb body evZ (checkE seed F lw ws lb body)):=⟨dc.bad (by unfold openE;rw [if_neg hc]) hc⟩
   obtain ⟨CE,hCE⟩:∃q,checkE seed F lw ws lb body=q:=⟨_,rfl⟩
   rw [hCE] at HN hc ⊢
   have hc2:(CE==0)=false:=by simpa using hc
   clear hCE hA HOP HFK HBY HOI HBI HF0
   go_wp2_with (first
    |(refine aF rfl 33 _ rfl #[] (by first|rfl|kernel_rfl) _ (HEZ.out _) ?_)
    |(refine aq rfl 33 _ _ rfl (w.heap.size+1) rfl rfl hR1 iE rfl hE1 ?_))
   refine bodyPost_ret (aI (Tryz.results12) _ rfl rfl (hR1.setRow EZ) Tryz.underlying33 rfl iE) rfl ⟨⟨evZ,CE,by rw [HEL.out.2];rfl,rfl,HN.out⟩,?_⟩;exact below_setRow hB1 (by omega) _
 obtain ⟨h8,_,hl64,hl41,_⟩:=o5 hc;have HO0:ac (∀m,openE seed m F lw ws lb body=match m with|none=>9|some k=>eV k F ws lb body):=⟨fun m=>by unfold openE;rw [if_pos hc];cases m<;>rfl⟩
 rw [hc];have hop:=HOP.out hl64;have hoi:=HOI.out hl64;have HOP2:=ac.mk hop;have HOI2:=ac.mk hoi;have hfk:=HFK.out W1 hB1;have h8n:¬8≤F.author:=by omega
 clear hc HOP HOI hop hoi HFK h8;obtain ⟨c0,-,rD,-,-⟩:=HF0.out W1 hA;obtain ⟨ZK,hzK,hz1K,hZKl⟩:∃Z:List Value,(∀wx,(zeroValue 23).run Tryz.prog wx=.ok (.agg Z.toArray) wx)∧¬Z.toArray= #[]∧ac (Z.length=32):=⟨(List.replicate 32 (0:Int)).map (Value.int .u8),fun wx=>by kernel_rfl,by decide,⟨rfl⟩⟩
 have hKl:∀k:List Int,(eo k F.author).length=32:=fun k=>aU _ _
 cases mk with
 |none=>
  have hm:=HMK.out;rw [wF h8n hm,xl h8n hm] at hfk
  have HN:ac (dc seed none F lw ws lb body evZ 9):=⟨dc.bad (HO0.out none) (by decide)⟩
  obtain ⟨KZ,hKZ⟩:∃q,(List.replicate 32 (0:Int))=q:=⟨_,rfl⟩
  have iKZ:(Tryz.prog.info? 23).map (·.size)=some (KZ.map (Value.int .u8)).length:=by rw [←hKZ];kernel_rfl
  have HKZ:ac (KZ.length=32):=⟨by rw [←hKZ];rfl⟩
  have oKZ:∀u∈KZ.map (Value.int .u8),u.oneCell'=true:=fun u hu=>by simp only [List.mem_map] at hu;obtain ⟨_,_,rfl⟩:=hu;rfl
  rw [hKZ] at hfk
  clear hKZ hKl hm;go_upto_region 5 with (first
   |(refine af rfl 26 _ rfl w.heap.size 2 rfl (dotC F.ea F.es) rD uD rfl iD ?_)
   |(go_at_call 39;refine hfk.mono ?_;rintro e W2 ⟨rfl,hb2⟩;have hk2:=CellsAt.new W2 23 ZK;clear hfk)
   |(refine aq rfl 23 _ _ rfl W2.heap.size rfl (cs:=KZ.map (Value.int .u8)) rfl hk2 iKZ (by rw [hZKl.out,List.length_map,HKZ.out]) oKZ ?_))
  have hb3:Below W2.heap.size W2 ((W2.alloc (.cells ZK.toArray 23)).setRow W2.heap.size (KZ.map (Value.int .u8)).toArray):=below_setRow ((Below.refl _ _).alloc (Nat.le_refl _) _) (Nat.le_refl _) _;have hb13:=hb2.trans (hb3.mono hb2.size);refine ae (p:=fun y=>Code.wp _ _ _ _ y) (fun V=>Below w.heap.size w V∧CellsAt V (w.heap.size+1) 33 EZ) ⟨hB1.trans (hb13.mono hB1.size),hR1.farM hb13⟩ ?_;generalize W2.heap.size=KB;clear hb13 hb3 hk2 hb2 hB1 hR1 hA c0 rD hzK hz1K W1 W2;rintro V ⟨hB2,hR2⟩
  go_wp2_with (first
   |(refine aF rfl 33 _ rfl #[] (by first|rfl|kernel_rfl) _ (HEZ.out _) ?_)
   |(refine aq rfl 33 _ _ rfl (w.heap.size+1) rfl rfl hR2 iE rfl hE1 ?_))
  refine bodyPost_ret (aI (Tryz.results12) _ rfl rfl (hR2.setRow EZ) Tryz.underlying33 rfl iE) rfl ⟨⟨evZ,9,by rw [HEL.out.2];rfl,rfl,HN.out⟩,?_⟩;exact below_setRow hB2 (by omega) _
 |some k=>
  have hm:=HMK.out;rw [wj h8n hm,wb h8n hm] at hfk
  have hFl:=hKl k;have HOK:ac (openE seed (some k) F lw ws lb body=eV k F ws lb body):=⟨HO0.out (some k)⟩
  obtain ⟨FK,hFK⟩:∃q,eo k F.author=q:=⟨_,rfl⟩
  rw [hFK] at hfk hFl
  have HFK:=ac.mk hFK;have iFK:(Tryz.prog.info? 23).map (·.size)=some (FK.map (Value.int .u8)).length:=by rw [List.length_map,hFl];exact ap
  have oFK:∀u∈FK.map (Value.int .u8),u.oneCell'=true:=fun u hu=>by simp only [List.mem_map] at hu;obtain ⟨_,_,rfl⟩:=hu;rfl
  have HFL:=ac.mk hFl;clear hFK hKl hm HO0 hFl;go_upto_region 5 with (first
   |(refine af rfl 26 _ rfl w.heap.size 2 rfl (dotC F.ea F.es) rD uD rfl iD ?_)
   |(go_at_call 39;refine hfk.mono ?_;rintro e W2 ⟨rfl,hb2⟩;have hk2:=CellsAt.new W2 23 ZK;clear hfk)
   |(refine aq rfl 23 _ _ rfl W2.heap.size rfl (cs:=FK.map (Value.int .u8)) rfl hk2 iFK (by rw [hZKl.out,List.length_map,HFL.out]) oFK ?_))
  have hb3:Below W2.heap.size W2 ((W2.alloc (.cells ZK.toArray 23)).setRow W2.heap.size (FK.map (Value.int .u8)).toArray):=below_setRow ((Below.refl _ _).alloc (Nat.le_refl _) _) (Nat.le_refl _) _;have hb13:=hb2.trans (hb3.mono hb2.size);refine ae (p:=fun y=>Code.wp _ _ _ _ y) (fun V=>Below w.heap.size w V∧CellsAt V w.heap.size 43 FC∧CellsAt V (w.heap.size+1) 33 EZ∧CellsAt V W2.heap.size 23 (FK.map (Value.int .u8))) ⟨hB1.trans (hb13.mono hB1.size),hA.farM hb13,hR1.farM hb13,hk2.setRow _⟩ ?_;generalize W2.heap.size=KB;clear hb13 hb3 hk2 hb2 hB1 hR1 hA c0 rD hzK hz1K W1 W2;rintro V ⟨hB2,hA2,hR2,hK2⟩;go_upto_region 7 with fail
  have HTT:∀V,CellsAt V w.heap.size 43 FC→CellsAt V KB 23 (FK.map (Value.int .u8))→(fun w':World=>w'.rangeAt KB 0 (FK.map (Value.int .u8))∧w'.cell? ⟨w.heap.size,1,none⟩=some (.int .u32 F.number)∧w'.rangeAt w.heap.size 0 FC∧w'.cell? ⟨w.heap.size,37,none⟩=some (.slice xb lb cb)) V:=fun V h1 h2=>by
   obtain ⟨_,q2,_,q4,q5⟩:=HF0.out V h1;exact ⟨h2.wholeM,q2,q5,q4⟩
  have HAO:ac ((∃n:Int,n≠0∧eV k F ws lb body=n∧∀V x4 n4 c4,Below w.heap.size w V→Bytes V x4 n4 c4 (aN F ws)→n4≤4000→Calls Tryz.prog 53 #[.agg (row .u8 FK),.agg (row .u8 (aV F.number)),.slice x4 n4 c4,.slice xb lb cb] V fun e w'=>e=.returned (.tuple #[.slice none 0 0,.int .i64 n])∧Below V.heap.size V w')∨(eV k F ws lb body=(if et (openP k F lb body)=0 then (if ec (unpB (openP k F lb body))=0 then (if fitsB (ee k F lb body) F=true then 0 else 3) else 3) else 3)∧∀V x4 n4 c4,Below w.heap.size w V→Bytes V x4 n4 c4 (aN F ws)→n4≤4000→Calls Tryz.prog 53 #[.agg (row .u8 FK),.agg (row .u8 (aV F.number)),.slice x4 n4 c4,.slice xb lb cb] V fun e w'=>∃x5 n5 c5,e=.returned (.tuple #[.slice x5 n5 c5,.int .i64 0])∧n5≤4112∧Bytes w' x5 n5 c5 (openP k F lb body)∧Below V.heap.size V w')):=⟨by
   by_cases q:lb<16
   · exact .inl ⟨3,by decide,by unfold eV;rw [if_pos q],fun V x4 n4 c4 hV hy hn=>mH FK (aV F.number) x4 n4 c4 xb lb cb V q⟩
   · by_cases q2:tagL FK (aV F.number) (aN F ws) (body.take (lb - 16))=body.drop (lb - 16)
     · refine .inr ⟨by unfold eV;rw [if_neg q,HFK.out,if_pos q2],fun V x4 n4 c4 hV hy hn=>?_⟩
       refine (sj FK (aV F.number) x4 n4 c4 (aN F ws) xb lb cb body V HFL.out rfl hy (HBY.out V hV) (by omega) (by omega) (by omega) HOI2.out HBI.out q2).mono ?_;rintro e w' ⟨v5,he,ho,hb5⟩;obtain ⟨x5,n5,c5,rfl,hn5⟩:=ho.isSlice;have hP:dk FK (aV F.number) 1 (body.take (lb - 16))=openP k F lb body:=by unfold openP;rw [HFK.out]
       rw [hP] at ho hn5
       refine ⟨x5,n5,c5,he,?_,ho.bytes.2,hb5⟩;have:=(HBY.out V hV).len_eq;rw [hn5,←hP,aZ,List.length_take];omega
     · exact .inl ⟨4,by decide,by unfold eV;rw [if_neg q,HFK.out,if_neg q2],fun V x4 n4 c4 hV hy hn=>pg FK (aV F.number) x4 n4 c4 (aN F ws) xb lb cb body V HFL.out rfl hy (HBY.out V hV) (by omega) (by omega) (by omega) HOI2.out HBI.out q2⟩⟩
  obtain ⟨V0,hV0⟩:∃q,V.drew=q:=⟨_,rfl⟩
  have hBd:Below w.heap.size w V0:=by rw [←hV0];exact hB2.drew
  have hAd:CellsAt V0 w.heap.size 43 FC:=by rw [←hV0];exact hA2
  have hRd:CellsAt V0 (w.heap.size+1) 33 EZ:=by rw [←hV0];exact hR2
  have hKd:CellsAt V0 KB 23 (FK.map (Value.int .u8)):=by rw [←hV0];exact hK2
  have HNN:ac (∀W,Calls Tryz.prog 43 #[.int .u32 F.number] W fun e w'=>e=.returned (.agg (row .u8 (aV F.number)))∧Below W.heap.size W w'):=⟨fun W=>rQ F.number W⟩
  refine ay (fun w'=>w'.rangeAt KB 0 (FK.map (Value.int .u8))∧w'.cell? ⟨w.heap.size,1,none⟩=some (.int .u32 F.number)∧w'.rangeAt w.heap.size 0 FC∧w'.cell? ⟨w.heap.size,37,none⟩=some (.slice xb lb cb)) (fun _=>True) 99 (by kernel_rfl) ?_;rw [hV0];clear hV0 hB2 hA2 hR2 hK2 V;have hT:=HTT V0 hAd hKd;have hS:(fun _:World=>True) V0:=trivial;refine ghA 1 _ hT hS ?_;simp only [zp];refine ghA 2 _ hT hS ?_;simp only [zp];refine ghA 6 _ hT hS ?_;simp only [zp];refine ghA 7 _ hT hS ?_;simp only [zp];refine zh 0 33 23 7 KB 0 (FK.map (Value.int .u8)) hT hS (fun _ h=>h.1) uK iFK ?_;simp only [zp];refine zh 4 37 43 3 w.heap.size 0 FC hT hS (fun _ h=>h.2.2.1) uF iF ?_;simp only [zp];refine zm 3 fun K hK=>?_
  refine aC _ _ (by kernel_rfl) ((HNN.out V0).mono ?_);rintro e V1 ⟨rfl,hb1⟩;refine ⟨_,rfl,?_⟩;have hB3:=hBd.trans (hb1.mono hBd.size);have hA3:=hAd.farM hb1;have hR3:=hRd.farM hb1;have hK3:=hKd.farM hb1;replace hT:=HTT V1 hA3 hK3;clear hBd hAd hRd hKd hb1;refine hK.out _ _ hT (fun _=>hS) ?_;clear hK K
  try simp only [zp]
  refine zm 5 fun K hK=>?_
  refine aC _ _ (by kernel_rfl) ((HOP2.out V1 hB3).mono ?_);rintro e V2 ⟨x4,n4,c4,rfl,hn4,hy4,hb2⟩;refine ⟨_,rfl,?_⟩;have hB4:=hB3.trans (hb2.mono hB3.size);have hA4:=hA3.farM hb2;have hR4:=hR3.farM hb2;have hK4:=hK3.farM hb2;replace hT:=HTT V2 hA4 hK4;clear hB3 hA3 hR3 hK3 hb2;refine hK.out _ _ hT (fun _=>hS) ?_;clear hK K
  try simp only [zp]
  rcases HAO.out with ⟨n,hn0,hOK,hAE⟩|⟨hOK,hAE⟩
  · have HN:ac (dc seed (some k) F lw ws lb body evZ n):=⟨dc.bad (by rw [HOK.out,hOK]) hn0⟩
    have hn2:(n==0)=false:=by simpa using hn0
    refine zm 8 fun K hK=>?_
    refine aC _ _ (by kernel_rfl) ((hAE V2 x4 n4 c4 hB4 hy4 hn4).mono ?_);rintro e V3 ⟨rfl,hb3⟩;refine ⟨_,rfl,?_⟩;have hB5:=hB4.trans (hb3.mono hB4.size);have hA5:=hA4.farM hb3;have hR5:=hR4.farM hb3;have hK5:=hK4.farM hb3;replace hT:=HTT V3 hA5 hK5;clear hB4 hA4 hR4 hK4 hb3 hy4 hAE hOK;refine hK.out _ _ hT (fun _=>hS) ?_;clear hK K
    try simp only [zp]
    refine ghA 9 _ hT hS ?_;simp only [zp];refine ghA 10 _ hT hS ?_;simp only [zp];refine ghA 11 _ hT hS ?_;simp only [zp];refine ghA 12 _ hT hS ?_;simp only [zp];refine ghA 13 _ hT hS ?_;simp only [zp];refine aB (by kernel_rfl) ?_ _;clear hT hS HTT
    go_wp2_with (first
     |(refine aF rfl 33 _ rfl #[] (by first|rfl|kernel_rfl) _ (HEZ.out _) ?_)
     |(refine aq rfl 33 _ _ rfl (w.heap.size+1) rfl rfl hR5 iE rfl hE1 ?_))
    refine bodyPost_ret (aI (Tryz.results12) _ rfl rfl (hR5.setRow EZ) Tryz.underlying33 rfl iE) rfl ⟨⟨evZ,n,by rw [HEL.out.2];rfl,rfl,HN.out⟩,?_⟩;exact below_setRow hB5 (by omega) _
  have HPI:ac (∀v∈openP k F lb body,b8 v):=⟨by unfold openP;exact ld _ _ _ _ (fun v hv=>HBI.out v (List.mem_of_mem_take hv))⟩
  have HVV:ac (ee k F lb body=revB (unpB (openP k F lb body))):=⟨rfl⟩
  have HOK2:ac (openE seed (some k) F lw ws lb body=if et (openP k F lb body)=0 then (if ec (unpB (openP k F lb body))=0 then (if fitsB (ee k F lb body) F=true then 0 else 3) else 3) else 3):=⟨by rw [HOK.out,hOK]⟩
  generalize openP k F lb body=PT at hAE HPI HVV HOK2
  clear hOK;refine zm 8 fun K hK=>?_
  refine aC _ _ (by kernel_rfl) ((hAE V2 x4 n4 c4 hB4 hy4 hn4).mono ?_);rintro e V3 ⟨x5,n5,c5,rfl,hn5,hy5,hb3⟩;refine ⟨_,rfl,?_⟩;have hB5:=hB4.trans (hb3.mono hB4.size);have hA5:=hA4.farM hb3;have hR5:=hR4.farM hb3;have hK5:=hK4.farM hb3;replace hT:=HTT V3 hA5 hK5;have hup:=mG x5 n5 c5 PT V3 hy5 HPI.out (by omega);clear hB4 hA4 hR4 hK4 hb3 hy4 hAE hy5;refine hK.out _ _ hT (fun _=>hS) ?_;clear hK K
  try simp only [zp]
  refine ghA 9 _ hT hS ?_;simp only [zp];refine ghA 10 _ hT hS ?_;simp only [zp];refine ghA 11 _ hT hS ?_;simp only [zp];refine ghA 12 _ hT hS ?_;simp only [zp];refine ghA 13 _ hT hS ?_;simp only [zp];refine aB (by kernel_rfl) ?_ _;clear hT hS HTT HAO hK5;go_upto_region 11 with (go_at_call 54;refine hup.mono ?_;rintro e V4 ⟨x6,n6,c6,rfl,hy6,hb4⟩;clear hup)
  have hB6:=hB5.trans (hb4.mono hB5.size);have hA6:=hA5.farM hb4;have hR6:=hR5.farM hb4;clear hB5 hA5 hR5 hb4
  by_cases hu:et PT=0
  rotate_left
  · have HN:ac (dc seed (some k) F lw ws lb body evZ 3):=⟨dc.bad (by rw [HOK2.out,if_neg hu]) (by decide)⟩
    have hu3:et PT=3:=by
     unfold et at hu ⊢
     split at hu
     · exact absurd rfl hu
     · rename_i q;rw [if_neg q]
    rw [hu3];clear hu hu3
    go_wp2_with (first
     |(refine aF rfl 33 _ rfl #[] (by first|rfl|kernel_rfl) _ (HEZ.out _) ?_)
     |(refine aq rfl 33 _ _ rfl (w.heap.size+1) rfl rfl hR6 iE rfl hE1 ?_))
    refine bodyPost_ret (aI (Tryz.results12) _ rfl rfl (hR6.setRow EZ) Tryz.underlying33 rfl iE) rfl ⟨⟨evZ,3,by rw [HEL.out.2];rfl,rfl,HN.out⟩,?_⟩;exact below_setRow hB6 (by omega) _
  have HUI:ac (∀v∈unpB PT,b8 v):=⟨qx PT HPI.out⟩
  have HOK3:ac (openE seed (some k) F lw ws lb body=if ec (unpB PT)=0 then (if fitsB (ee k F lb body) F=true then 0 else 3) else 3):=⟨by rw [HOK2.out,if_pos hu]⟩
  rw [hu];generalize unpB PT=UB at hy6 HUI HVV HOK3
  have hrv:=t7 x6 n6 c6 UB V4 hy6 HUI.out;have HEI:=ac.mk (pX UB HUI.out);have HEP:=iG UB;rw [←HVV.out] at hrv HEI HEP
  obtain ⟨EV,hEV⟩:∃q,ee k F lb body=q:=⟨_,rfl⟩
  rw [hEV] at hrv HEI HEP HOK3
  have HFEV:=ac.mk hEV;clear hEV;clear HOK2 hu HVV HPI;have iEV:=bQ EV HEP;have oEV:=dh EV;have HEVL:ac (EZ.length=EV.cells.length):=⟨by rw [←HEL.out.2];simp [Ev.cells,dotC,HEP,evZ]⟩
  go_upto_region 14 with (first
   |(go_at_call 55;refine hrv.mono ?_;rintro e V5 ⟨rfl,hb5⟩;have hz5:=CellsAt.new V5 33 EZ;clear hrv)
   |(refine aq rfl 33 _ _ rfl V5.heap.size rfl (cs:=EV.cells) rfl hz5 iEV HEVL.out oEV ?_))
  have hb6:Below V5.heap.size V5 ((V5.alloc (.cells EZ.toArray 33)).setRow V5.heap.size EV.cells.toArray):=below_setRow ((Below.refl _ _).alloc (Nat.le_refl _) _) (Nat.le_refl _) _;have hb56:=hb5.trans (hb6.mono hb5.size);refine ae (p:=fun y=>Code.wp _ _ _ _ y) (fun V=>Below w.heap.size w V∧CellsAt V w.heap.size 43 FC∧CellsAt V (w.heap.size+1) 33 EZ∧CellsAt V V5.heap.size 33 EV.cells) ⟨hB6.trans (hb56.mono hB6.size),hA6.farM hb56,hR6.farM hb56,hz5.setRow _⟩ ?_;generalize V5.heap.size=XB;clear hb56 hb6 hz5 hb5 hB6 hA6 hR6 hy6 hzE0 hz1E V5 V4;rintro V ⟨hB7,hA7,hR7,hX7⟩
  by_cases hr:ec UB=0
  rotate_left
  · have HN:ac (dc seed (some k) F lw ws lb body evZ 3):=⟨dc.bad (by rw [HOK3.out,if_neg hr]) (by decide)⟩
    have hr3:ec UB=3:=by
     unfold ec at hr ⊢
     split at hr
     · exact absurd rfl hr
     · rename_i q;rw [if_neg q]
    rw [hr3];clear hr hr3 hA7 hX7
    go_wp2_with (first
     |(refine aF rfl 33 _ rfl #[] (by first|rfl|kernel_rfl) _ (HEZ.out _) ?_)
     |(refine aq rfl 33 _ _ rfl (w.heap.size+1) rfl rfl hR7 iE rfl hE1 ?_))
    refine bodyPost_ret (aI (Tryz.results12) _ rfl rfl (hR7.setRow EZ) Tryz.underlying33 rfl iE) rfl ⟨⟨evZ,3,by rw [HEL.out.2];rfl,rfl,HN.out⟩,?_⟩;exact below_setRow hB7 (by omega) _
  have HOK4:ac (openE seed (some k) F lw ws lb body=if fitsB EV F=true then 0 else 3):=⟨by rw [HOK3.out,if_pos hr]⟩
  rw [hr];have hfb:fitsB EV F=(rightB EV&&((EV.da==F.author)&&(EV.ds==F.number))):=rfl;rw [hfb] at HOK4
  have hrt:=sf EV V HEP HEI.out.da.1 HEI.out.ds.1 (by have:=HEI.out.ds.2;omega) HEI.out.pa.1 HEI.out.ps.1;have HN3:ac ((rightB EV&&((EV.da==F.author)&&(EV.ds==F.number)))=false→dc seed (some k) F lw ws lb body evZ 3):=⟨fun q=>dc.bad (by rw [HOK4.out,q];rfl) (by decide)⟩
  have HN0:ac ((rightB EV&&((EV.da==F.author)&&(EV.ds==F.number)))=true→openE seed (some k) F lw ws lb body=0):=⟨fun q=>by rw [HOK4.out,q];rfl⟩
  have HX:ac (∀W,CellsAt W XB 33 EV.cells→W.cell? ⟨XB,0,none⟩=some (.int .u8 EV.da)∧W.cell? ⟨XB,1,none⟩=some (.int .u32 EV.ds)∧W.rangeAt XB 0 EV.cells):=⟨fun W h=>⟨(h.cell 0).trans rfl,(h.cell 1).trans rfl,h.wholeM⟩⟩
  have HEV:ac (EZ.length=EV.cells.length∧EV.past.length=8):=⟨HEVL.out,HEP⟩
  have HFIN:ac (∀n,n=0→openE seed (some k) F lw ws lb body=n→dc seed (some k) F lw ws lb body EV n):=⟨fun n h0 h=>⟨h.symm,.inr ⟨h0,k,rfl,HFEV.out.symm⟩⟩⟩
  obtain ⟨rb,hrb⟩:∃q,rightB EV=q:=⟨_,rfl⟩
  rw [hrb] at hrt HN3 HN0
  obtain ⟨EC,hEC⟩:∃q,EV.cells=q:=⟨_,rfl⟩
  rw [hEC] at hX7 hrt HX HEV iEV oEV
  have HEC:=ac.mk hEC;obtain ⟨ea,hea⟩:∃q,EV.da=q:=⟨_,rfl⟩
  obtain ⟨es,hes⟩:∃q,EV.ds=q:=⟨_,rfl⟩
  obtain ⟨fa,hfa⟩:∃q,F.author=q:=⟨_,rfl⟩
  obtain ⟨fn,hfn⟩:∃q,F.number=q:=⟨_,rfl⟩
  rw [hea,hfa,hes,hfn] at HN3 HN0
  rw [hea,hes] at HX
  rw [hfa,hfn] at HF0
  have HFF:ac (∀W,CellsAt W w.heap.size 43 FC→W.cell? ⟨w.heap.size,0,none⟩=some (.int .u8 fa)∧W.cell? ⟨w.heap.size,1,none⟩=some (.int .u32 fn)):=⟨fun W h=>⟨(HF0.out W h).1,(HF0.out W h).2.1⟩⟩
  obtain ⟨c0,c1,-,-,-⟩:=HF0.out V hA7;obtain ⟨e0,e1,rE⟩:=HX.out V hX7;clear hrb hEC hea hes hfa hfn hfb hr HOK4 HOK3 HEVL HF0 HEP;cases rb with
  |false=>
   have HN:ac (dc seed (some k) F lw ws lb body evZ 3):=⟨HN3.out rfl⟩
   go_wp2_with (first
    |(refine aF rfl 33 _ rfl #[] (by first|rfl|kernel_rfl) _ (HEZ.out _) ?_)
    |(refine aq rfl 33 _ _ rfl (w.heap.size+1) rfl rfl hR8 iE rfl hE1 ?_)|(refine af rfl 33 _ rfl XB 0 rfl EC rE uE rfl iEV ?_)|(go_at_call 37;refine hrt.mono ?_;rintro e V8 ⟨rfl,hb8⟩;have hR8:=hR7.farM hb8;have hB8:=hB7.trans (hb8.mono hB7.size);clear hrt))
   refine bodyPost_ret (aI (Tryz.results12) _ rfl rfl (hR8.setRow EZ) Tryz.underlying33 rfl iE) rfl ⟨⟨evZ,3,by rw [HEL.out.2];rfl,rfl,HN.out⟩,?_⟩;exact below_setRow hB8 (by omega) _
  |true=>
   have HCC:ac (∀W,CellsAt W w.heap.size 43 FC→W.cell? ⟨w.heap.size,0,none⟩=some (.int .u8 fa)∧W.cell? ⟨w.heap.size,1,none⟩=some (.int .u32 fn)):=HFF
   by_cases hda:ea=fa
   rotate_left
   · have HN:ac (dc seed (some k) F lw ws lb body evZ 3):=⟨HN3.out (by simp [hda])⟩
     have hq:(ea==fa)=false:=by simpa using hda
     go_wp2_with (first
      |(refine aF rfl 33 _ rfl #[] (by first|rfl|kernel_rfl) _ (HEZ.out _) ?_)
      |(refine aq rfl 33 _ _ rfl (w.heap.size+1) rfl rfl hR8 iE rfl hE1 ?_)|(refine af rfl 33 _ rfl XB 0 rfl EC rE uE rfl iEV ?_)|(go_at_call 37;refine hrt.mono ?_;rintro e V8 ⟨rfl,hb8⟩;have hR8:=hR7.farM hb8;have hB8:=hB7.trans (hb8.mono hB7.size);obtain ⟨d0,d1⟩:=HCC.out V8 (hA7.farM hb8);obtain ⟨x0,x1,-⟩:=HX.out V8 (hX7.farM hb8);clear hrt))
     refine bodyPost_ret (aI (Tryz.results12) _ rfl rfl (hR8.setRow EZ) Tryz.underlying33 rfl iE) rfl ⟨⟨evZ,3,by rw [HEL.out.2];rfl,rfl,HN.out⟩,?_⟩;exact below_setRow hB8 (by omega) _
   by_cases hds:es=fn
   rotate_left
   · have HN:ac (dc seed (some k) F lw ws lb body evZ 3):=⟨HN3.out (by simp [hds])⟩
     have hq2:(es==fn)=false:=by simpa using hds
     have hq:(ea==fa)=true:=by simpa using hda
     go_wp2_with (first
      |(refine aF rfl 33 _ rfl #[] (by first|rfl|kernel_rfl) _ (HEZ.out _) ?_)
      |(refine aq rfl 33 _ _ rfl (w.heap.size+1) rfl rfl hR8 iE rfl hE1 ?_)|(refine af rfl 33 _ rfl XB 0 rfl EC rE uE rfl iEV ?_)|(go_at_call 37;refine hrt.mono ?_;rintro e V8 ⟨rfl,hb8⟩;have hR8:=hR7.farM hb8;have hB8:=hB7.trans (hb8.mono hB7.size);obtain ⟨d0,d1⟩:=HCC.out V8 (hA7.farM hb8);obtain ⟨x0,x1,-⟩:=HX.out V8 (hX7.farM hb8);clear hrt))
     refine bodyPost_ret (aI (Tryz.results12) _ rfl rfl (hR8.setRow EZ) Tryz.underlying33 rfl iE) rfl ⟨⟨evZ,3,by rw [HEL.out.2];rfl,rfl,HN.out⟩,?_⟩;exact below_setRow hB8 (by omega) _
   have HN:ac (dc seed (some k) F lw ws lb body EV 0):=⟨HFIN.out 0 rfl (HN0.out (by simp [hda,hds]))⟩
   have hq2:(es==fn)=true:=by simpa using hds
   have hq:(ea==fa)=true:=by simpa using hda
   go_wp2_with (first
    |(refine aq rfl 33 _ _ rfl (w.heap.size+1) rfl rfl hR8 iEV HEV.out.1 oEV ?_)
    |(refine af rfl 33 _ rfl XB 0 rfl EC rE8 uE rfl iEV ?_)
    |(refine af rfl 33 _ rfl XB 0 rfl EC rE uE rfl iEV ?_)
    |(go_at_call 37;refine hrt.mono ?_;rintro e V8 ⟨rfl,hb8⟩;have hR8:=hR7.farM hb8;have hB8:=hB7.trans (hb8.mono hB7.size);obtain ⟨d0,d1⟩:=HCC.out V8 (hA7.farM hb8);obtain ⟨x0,x1,rE8⟩:=HX.out V8 (hX7.farM hb8);clear hrt))
   refine bodyPost_ret (aI (Tryz.results12) _ rfl rfl (hR8.setRow EC) Tryz.underlying33 rfl iEV) rfl ⟨⟨EV,0,by rw [HEC.out];rfl,HEV.out.2,HN.out⟩,?_⟩;exact below_setRow hB8 (by omega) _
end
end Go.Proofs.YtbdhfbglagdiaaaGreatDoor
