/- Ky2 Ky3 Bg Ky4 Ky5 -/
import Derived.Test.YtbdhfbglagdiaaaGreatDoorG18
import Derived.Test.YtbdhfbglagdiaaaGreatDoorG20
import Derived.Test.YtbdhfbglagdiaaaGreatDoorG21
import Derived.Test.YtbdhfbglagdiaaaGreatDoorG03
import Derived.Laws.Tables
import Derived.Test.YtbdhfbglagdiaaaGreatDoorG01
namespace Go.Proofs.YtbdhfbglagdiaaaGreatDoor
open Go.RowKit
set_option maxRecDepth 20000
set_option maxHeartbeats 4000000
set_option linter.unusedSimpArgs false
theorem Bytes.toS {w:World} {x:Option Addr} {n c:Nat} {z:List Int} (h:Bytes w x n c z):S.Bytes w x n c z:=⟨h.1,h.2,h.3,h.4,h.5⟩
def kf (k b:List Int):List Int:=S.expL k b 32
theorem aU (k b:List Int):(kf k b).length=32:=S.expL_length k b 32
theorem oW (k:List Int) (y:Option Addr) (lb cb:Nat) (b:List Int) (w:World) (hk:k.length=32) (hy:Bytes w y lb cb b) (hlb:lb≤100000) (hKT:S.KTab w):
    Calls Tryz.prog 110 #[.agg (row .u8 k),.slice y lb cb,.int .i64 32] w fun e w'=>∃v,e=.returned (.tuple #[v,.int .i64 0])∧ao w' w.heap.size v (kf k b)∧Below w.heap.size w w':=
 S.expand_any k y lb cb b 32 w hk hy.toS hlb (by omega) hKT
def cT (s:ByteArray):List Int:=s.data.toList.map fun b=>(b.toNat:Int)
theorem eZ (s:ByteArray):(cT s).length=s.size:=by unfold cT;rw [List.length_map];rfl
theorem sY (s:ByteArray) (w:World) (hs:s.size≤1000):
    ∃c W,(convert 9 41 (.string s)).run Tryz.prog w=.ok (.slice (some ⟨w.heap.size,0,none⟩) s.size c) W∧Bytes W (some ⟨w.heap.size,0,none⟩) s.size c (cT s)∧Below w.heap.size w W∧W.heap.size=w.heap.size+1:=by
 refine ⟨_,_,run_bytes_of_string w 9 41 5 s Tryz.underlying9 Tryz.underlying41 Tryz.underlying5,?_,(Below.refl _ _).drew.alloc (Nat.le_refl _) _,by simp⟩;have hc:=grownCap_ge w s.size 0 5;have hm:=grownCap_le_maxLen w s.size 0 5 (by simp [maxLen];omega);generalize grownCap w s.size 0 5=c at hc hm ⊢
 refine ⟨by rw [eZ],hc,by simpa [maxLen] using hm,(fun h=>by cases h),.inr ⟨_,_,rfl,fun j hj=>?_⟩⟩;have hrow:(w.drew.alloc (.cells (bytesRow s c) 5 ((bytesRow s c).size,(bytesRow s c).size+1))).heap[w.heap.size]?=some (.cells (bytesRow s c) 5 ((bytesRow s c).size,(bytesRow s c).size+1)):=heap_alloc_new w.drew _;rw [cell_of_row _ _ _ _ _ _ hrow,Nat.zero_add];have hj':j<s.data.size:=hj;simp [bytesRow,cT,hj',Array.getElem?_append];rw [if_pos hj,Array.getElem?_eq_getElem hj']
 rfl
theorem u6:(Tryz.prog.info? 41).map (fun i=>(i.zero,i.size,i.bytes))=some (some (.slice none 0 0),1,24):=by kernel_rfl
theorem lD (w:World) (ps:List dr) (h:∀p∈ps,Bytes w p.x p.len p.cap p.z):aO (w.alloc (.cells (ps.map dr.val).toArray 41)) w.heap.size ps:=
 ⟨fun j hj=>by
  rw [cell_of_row _ _ j _ _ _ (heap_alloc_new w _)];simp [hj],
  fun j hj=>(h _ (List.getElem_mem hj)).below ((Below.refl _ _).alloc (Nat.le_refl _) _)⟩
theorem Bytes.rangeK {w:World} {b off n c:Nat} {z:List Int} (h:Bytes w (some ⟨b,off,none⟩) n c z):w.rangeAt b off (z.map (Value.int .u8)):=fun j v hv=>by
 have hj:j<z.length:=by have:=(List.getElem?_eq_some_iff.1 hv).1;simpa using this
 rcases h.at_ with h0|⟨b',off',hx,hc⟩
 · have:=h.len_eq;omega
 · cases hx
   rw [hc j (by have:=h.len_eq;omega),←hv,List.getElem?_map,List.getElem?_eq_getElem hj];rfl
theorem ap:(Tryz.prog.info? 23).map (·.size)=some 32:=by kernel_rfl
theorem gV {t e:TypeId} {n:Nat} (hu:Tryz.prog.underlying t=some (.array n e)) (x:Option Addr) (len cap:Nat) (h:n≤len) (w:World):(Instr.arrayAt t (.slice x len cap)).run Tryz.prog w=.ok (.pointer x) w:=by
 simp [Instr.arrayAt,run_underlying hu,Nat.not_lt.2 h]
theorem ia (k:List Int) (ws:ByteArray) (x:Option Addr) (n c:Nat) (m:List Int) (w:World) (hk:k.length=32) (hws:ws.size≤1000) (hm:Bytes w x n c m) (hn:n≤1000) (hKT:S.KTab w):
    Calls Tryz.prog 63 #[.agg (row .u8 k),.string ws,.slice x n c] w fun e w'=>e=.returned (.agg (row .u8 (kf k (cT ws++m))))∧Below w.heap.size w w':=by
 have hk0:=aa.new w .u8 23 k;have HML:ac (n=m.length∧(cT ws).length=ws.size):=⟨hm.len_eq,eZ ws⟩
 obtain ⟨Z,hZl,hZ⟩:∃Z:List Int,Z.length=32∧Z=List.replicate 32 0:=⟨_,rfl,rfl⟩
 have hr0:=aa.new (w.alloc (.cells (row .u8 k) 23)) .u8 23 Z;rw [World.size_alloc] at hr0
 have hk1:=hk0.alloc (.cells (row .u8 Z) 23);have hB:Below w.heap.size w ((w.alloc (.cells (row .u8 k) 23)).alloc (.cells (row .u8 Z) 23)):=((Below.refl _ _).alloc (Nat.le_refl _) _).alloc (by simp) _;go_enter Tryz.func63,Tryz.ntmps63;go_upto_region 1 with fail
 refine ae (p:=fun y=>Code.wp _ _ _ _ y) (fun W=>Below w.heap.size w W∧aa W w.heap.size .u8 23 k∧aa W (w.heap.size+1) .u8 23 Z) ⟨by rw [hZ] at hB;exact hB,by rw [hZ] at hk1;exact hk1,by rw [hZ] at hr0 ⊢;exact hr0⟩ ?_;clear hB hk1 hr0 hk0 hZ;rintro W ⟨hB,hk0,hr0⟩;have uK:Tryz.prog.underlying 23=_:=Tryz.underlying23;have iK:(Tryz.prog.info? 23).map (·.size)=some (k.map (Value.int .u8)).length:=by rw [List.length_map,hk];exact ap
 have HK:∀W':World,aa W' w.heap.size .u8 23 k→W'.rangeAt w.heap.size 0 (k.map (Value.int .u8)):=fun W' h=>by
  have:=h.cellsAt.range 0 32;rw [List.drop_zero,List.take_of_length_le (by simp [hk])] at this
  exact this
 refine ag (fun w'=>w'.rangeAt w.heap.size 0 (k.map (Value.int .u8))) 6 (by kernel_rfl) ?_;have hS:=HK W.drew hk0;refine zg 0 10 23 3 w.heap.size 0 (k.map (Value.int .u8)) hS (fun _ h=>h) uK iK ?_;simp only [zp];refine gaA 1 _ hS ?_;simp only [zp];refine gaA 3 _ hS ?_;simp only [zp];refine zw 2 fun K hK=>?_
 obtain ⟨c2,W2,hrun2,hb2,hB2,hs2⟩:=sY ws W.drew hws;refine pj _ _ _ rfl _ _ _ rfl hrun2 ?_;have hb02:Below W.heap.size W W2:=Below.trans (Below.refl _ W).drew hB2;have hk2:=hk0.below hb02 hk0.lt;have hr2:=hr0.below hb02 hr0.lt;have hBw2:Below w.heap.size w W2:=hB.trans (hb02.mono hB.size);obtain ⟨g2,hg2⟩:∃g2,W.drew.heap.size=g2:=⟨_,rfl⟩
 rw [hg2] at hb2 hs2 ⊢
 clear hrun2 hB2 hb02 hk0 hr0 hB hg2;replace hS:=HK W2 hk2;refine hK.out _ _ (fun _=>hS) ?_;clear hK K
 try simp only [zp]
 refine zw 4 fun K hK=>?_
 obtain ⟨iw,hiw,hwz,hws2,hwb⟩:=info_parts u6;refine wp_buildSlice 159 41 2 _ rfl #[.slice (some ⟨g2,0,none⟩) ws.size c2,.slice x n c] iw _ Tryz.underlying159 hiw hwz (by rw [hws2];decide) (by rw [hws2];decide) (by rw [hws2];kernel_rfl) ?_;have hP:=lD W2 [⟨some ⟨g2,0,none⟩,ws.size,c2,cT ws⟩,⟨x,n,c,m⟩] (fun p hp=>by
  rcases List.mem_cons.1 hp with rfl|hp
  · exact hb2
  · obtain rfl:=List.mem_singleton.1 hp
    exact hm.below hBw2)
 have hB3:Below w.heap.size w (W2.alloc (.cells #[.slice (some ⟨g2,0,none⟩) ws.size c2,.slice x n c] 41)):=hBw2.alloc hBw2.size _;have hk3:=hk2.alloc (.cells #[.slice (some ⟨g2,0,none⟩) ws.size c2,.slice x n c] 41);have hr3:=hr2.alloc (.cells #[.slice (some ⟨g2,0,none⟩) ws.size c2,.slice x n c] 41);replace hS:=HK _ hk3;refine hK.out _ _ (fun _=>hS) ?_;clear hK K
 try simp only [zp]
 refine zw 5 fun K hK=>?_
 have hj:=iq W2.heap.size 2 [⟨some ⟨g2,0,none⟩,ws.size,c2,cT ws⟩,⟨x,n,c,m⟩] _ hP rfl (by omega) (by have:=HML.out;simp [nP,cI];omega);refine aC _ _ (by kernel_rfl) (hj.mono ?_);rintro e W4 ⟨v4,rfl,ho4,hb4⟩;refine ⟨_,rfl,?_⟩;have hB4:=hB3.trans (hb4.mono hB3.size);have hk4:=hk3.below hb4 hk3.lt;have hr4:=hr3.below hb4 hr3.lt;replace hS:=HK _ hk4;refine hK.out _ _ (fun _=>hS) ?_;clear hK K
 try simp only [zp]
 obtain ⟨x4,n4,c4,rfl,hn4⟩:=ho4.isSlice;have hb5:=ho4.bytes.2;rw [show cI [⟨some ⟨g2,0,none⟩,ws.size,c2,cT ws⟩,⟨x,n,c,m⟩]=cT ws++m by simp [cI]] at hb5 hn4
 rw [List.length_append] at hn4
 have he:=oW k x4 n4 c4 _ W4 hk hb5 (by have:=HML.out;omega) (hKT.below hB4);clear hj hP hk3 hr3 hk2 hr2 hb2 ho4;refine zw 6 fun K hK=>?_
 refine aC _ _ (by kernel_rfl) (he.mono ?_);rintro e W6 ⟨v6,rfl,ho6,hb6⟩;refine ⟨_,rfl,?_⟩;have hB6:=hB4.trans (hb6.mono hB4.size);have hr6:=hr4.below hb6 hr4.lt;refine hK.out _ _ zn ?_;clear hK K
 try simp only [zp]
 refine aw (i:=7) (v:=?_) rfl (by kernel_rfl) (by kernel_rfl) (by kernel_rfl) (fun _ _ _ h=>h) (by kernel_rfl) zn (by kernel_rfl) ?_ ?_;rotate_left
 · intro _;go_simp;try with_reducible rfl
 simp only [zp];refine aw (i:=8) (v:=?_) rfl (by kernel_rfl) (by kernel_rfl) (by kernel_rfl) (fun _ _ _ h=>h) (by kernel_rfl) zn (by kernel_rfl) ?_ ?_;rotate_left
 · intro _;go_simp;try with_reducible rfl
 simp only [zp];refine aw (i:=9) (v:=?_) rfl (by kernel_rfl) (by kernel_rfl) (by kernel_rfl) (fun _ _ _ h=>h) (by kernel_rfl) zn (by kernel_rfl) ?_ ?_;rotate_left
 · intro _;go_simp;try with_reducible rfl
 simp only [zp];refine aw (i:=10) (v:=?_) rfl (by kernel_rfl) (by kernel_rfl) (by kernel_rfl) (fun _ _ _ h=>h) (by kernel_rfl) zn (by kernel_rfl) ?_ ?_;rotate_left
 · intro _;go_simp;try with_reducible rfl
 simp only [zp];refine aw (i:=11) (v:=?_) rfl (by kernel_rfl) (by kernel_rfl) (by kernel_rfl) (fun _ _ _ h=>h) (by kernel_rfl) zn (by kernel_rfl) ?_ ?_;rotate_left
 · intro _;go_simp;try with_reducible rfl
 simp only [zp];refine ah (by kernel_rfl) ?_ _;have hdl:=aU k (cT ws++m);obtain ⟨DK,hDK⟩:∃q,kf k (cT ws++m)=q:=⟨_,rfl⟩
 have HDK:=ac.mk hDK;rw [hDK] at ho6 hdl
 obtain ⟨g6,c6,rfl,hge⟩:=ho6.slice (by omega);have hby:=ho6.bytes.2;have hrg:W6.rangeAt g6 0 (DK.map (Value.int .u8)):=by
  have:=hby.rangeK;exact this
 have hra:∀wx,(Instr.arrayAt 23 (.slice (some ⟨g6,0,none⟩) DK.length c6)).run Tryz.prog wx=.ok (.pointer (some ⟨g6,0,none⟩)) wx:=fun wx=>gV Tryz.underlying23 _ _ _ (by omega) wx
 have HDL:=ac.mk hdl;clear hDK ho6 he hk4 hr4 hS hB4 hb6 hb4 hB3 hb5 hby iK uK HK;clear hdl
 go_wp2_with (first
  |(refine af rfl 23 _ rfl _ _ rfl (DK.map (Value.int .u8)) hrg Tryz.underlying23 rfl (by rw [List.length_map,HDL.out];exact ap) ?_)
  |(refine aj rfl 23 _ _ rfl _ rfl (k:=.u8) (l:=DK) rfl hr6 (by rw [HDL.out];exact ap) (by rw [hZl,HDL.out]) ?_))
 refine bodyPost_ret (ak (Tryz.results63) _ rfl (hr6.setRow _) Tryz.underlying23 ap HDL.out) rfl ⟨?_,?_⟩
 · rw [HDK.out]
 · exact below_setRow hB6 (by omega) _
theorem dF:(Tryz.prog.info? 79).map (·.size)=some 12:=by kernel_rfl
theorem ns (w:World):(Instr.makeSlice 41 (.int .i64 8) (.int .i64 8)).run Tryz.prog w=.ok (.slice (some ⟨w.heap.size,0,none⟩) 8 8) (w.alloc (.cells (row .u8 [0,0,0,0,0,0,0,0]) 5)):=by kernel_rfl
theorem qn (w:World) (l:List Int) (n:Nat) (hn:n=l.length) (hl:l.length≤4000000):Bytes (w.alloc (.cells (row .u8 l) 5)) (some ⟨w.heap.size,0,none⟩) n n l:=(aa.new w .u8 5 l).bytes hn hl
def aV (n:Int):List Int:=[0,0,0,0,0,0,0,0]++bE4 n
theorem kj (n:Int) (w:World):
    Calls Tryz.prog 34 #[.int .u32 n] w fun e w'=>e=.returned (.agg (row .u8 (aV n)))∧Below w.heap.size w w':=by
 obtain ⟨iw,hiw,hwz,hws2,hwb⟩:=info_parts u6;obtain ⟨Z,hZl,hZ⟩:∃Z:List Int,Z.length=12∧Z=List.replicate 12 0:=⟨_,rfl,rfl⟩
 have hr0:=aa.new w .u8 79 Z;have hB:Below w.heap.size w (w.alloc (.cells (row .u8 Z) 79)):=(Below.refl _ _).alloc (Nat.le_refl _) _;go_enter Tryz.func34,Tryz.ntmps34;go_upto_region 1 with fail
 refine ae (p:=fun y=>Code.wp _ _ _ _ y) (fun W=>Below w.heap.size w W∧aa W w.heap.size .u8 79 Z) ⟨by rw [hZ] at hB;exact hB,by rw [hZ] at hr0 ⊢;exact hr0⟩ ?_;clear hB hr0 hZ;rintro W ⟨hBW,hRW⟩;obtain ⟨V0,hV0⟩:∃q,W.drew=q:=⟨_,rfl⟩
 have hBV0:Below w.heap.size w V0:=by rw [←hV0];exact hBW.drew
 have hRV0:aa V0 w.heap.size .u8 79 Z:=by rw [←hV0];exact hRW.drew
 refine ag (fun _=>True) 7 (by kernel_rfl) ?_;rw [hV0];clear hV0 hBW hRW W;have hS:(fun _:World=>True) V0:=trivial;have hNLl:(aV n).length=12:=rfl;obtain ⟨NL,hNL⟩:∃q,aV n=q:=⟨_,rfl⟩
 rw [hNL] at hNLl
 refine gaA 1 _ hS ?_;simp only [zp];refine co (i:=0) (j:=2) rfl rfl (by kernel_rfl) (by kernel_rfl) (by kernel_rfl) (fun K hK=>?_) (fun K hK=>?_)
 · skip
   refine pk _ _ _ rfl _ _ _ _ rfl rfl (ns _) ?_;have hNV1:=qn V0 [0,0,0,0,0,0,0,0] 8 rfl (by simp [bE4]);have hBV1:=hBV0.alloc hBV0.size (.cells (row .u8 [0,0,0,0,0,0,0,0]) 5);have hRV1:=hRV0.alloc (.cells (row .u8 [0,0,0,0,0,0,0,0]) 5);refine hK.out _ _ (fun _=>hS) ?_;clear hK K
   try simp only [zp]
   obtain ⟨V1,hV1⟩:∃q,V0.alloc (.cells (row .u8 [0,0,0,0,0,0,0,0]) 5)=q:=⟨_,rfl⟩
   obtain ⟨g1,hg1⟩:∃q,V0.heap.size=q:=⟨_,rfl⟩
   rw [hV1] at hNV1 hBV1 hRV1 ⊢
   rw [hg1] at hNV1 ⊢
   clear hV1 hg1 hBV0 hRV0;have hN0_V1:=hNV1;clear hNV1;refine zw 2 fun K hK=>?_
   refine aC _ _ (by kernel_rfl) ((nu n _).mono ?_);rintro e wy ⟨rfl,rfl⟩;refine ⟨_,rfl,?_⟩;have hNV2:=qn V1 (bE4 n) 4 rfl (by simp [bE4]);have hBV2:=hBV1.alloc hBV1.size (.cells (row .u8 (bE4 n)) 5);have hRV2:=hRV1.alloc (.cells (row .u8 (bE4 n)) 5);have hN0_V2:=hN0_V1.below ((Below.refl _ _).alloc (Nat.le_refl _) (.cells (row .u8 (bE4 n)) 5));refine hK.out _ _ (fun _=>hS) ?_;clear hK K
   try simp only [zp]
   obtain ⟨V2,hV2⟩:∃q,V1.alloc (.cells (row .u8 (bE4 n)) 5)=q:=⟨_,rfl⟩
   obtain ⟨g2,hg2⟩:∃q,V1.heap.size=q:=⟨_,rfl⟩
   rw [hV2] at hNV2 hBV2 hRV2 hN0_V2 ⊢
   rw [hg2] at hNV2 ⊢
   clear hV2 hg2 hBV1 hRV1 hN0_V1;have hN2_V2:=hNV2;clear hNV2;refine zw 3 fun K hK=>?_
   refine wp_buildSlice 159 41 2 _ rfl #[.slice (some ⟨g1,0,none⟩) 8 8,.slice (some ⟨g2,0,none⟩) 4 4] iw _ Tryz.underlying159 hiw hwz (by rw [hws2];decide) (by rw [hws2];decide) (by rw [hws2];kernel_rfl) ?_;have hP:=lD V2 [⟨some ⟨g1,0,none⟩,8,8,[0,0,0,0,0,0,0,0]⟩,⟨some ⟨g2,0,none⟩,4,4,(bE4 n)⟩] (fun p hp=>by
    simp only [List.mem_cons,List.not_mem_nil,or_false] at hp
    rcases hp with rfl|rfl
    · exact hN0_V2
    · exact hN2_V2)
   have hBP:=hBV2.alloc hBV2.size (.cells #[.slice (some ⟨g1,0,none⟩) 8 8,.slice (some ⟨g2,0,none⟩) 4 4] 41);have hRP:=hRV2.alloc (.cells #[.slice (some ⟨g1,0,none⟩) 8 8,.slice (some ⟨g2,0,none⟩) 4 4] 41);refine hK.out _ _ (fun _=>hS) ?_;clear hK K
   try simp only [zp]
   refine zw 4 fun K hK=>?_
   have hj:=iq V2.heap.size 2 [⟨some ⟨g1,0,none⟩,8,8,[0,0,0,0,0,0,0,0]⟩,⟨some ⟨g2,0,none⟩,4,4,(bE4 n)⟩] _ hP rfl (by omega) (by simp [nP,cI,bE4]);rw [show cI [⟨some ⟨g1,0,none⟩,8,8,[0,0,0,0,0,0,0,0]⟩,⟨some ⟨g2,0,none⟩,4,4,(bE4 n)⟩]=aV n from rfl,hNL] at hj
   refine aC _ _ (by kernel_rfl) (hj.mono ?_);rintro e WJ ⟨vj,rfl,hoj,hbj⟩;refine ⟨_,rfl,?_⟩;have hBJ:=hBP.trans (hbj.mono hBP.size);have hRJ:=hRP.below hbj hRP.lt;obtain ⟨gj,cj,rfl,hgj⟩:=hoj.slice (by rw [hNLl];omega);have hrg:=hoj.bytes.2.rangeK;refine hK.out _ _ (fun _=>hS) ?_;clear hK K
   try simp only [zp]
   refine zw 5 fun K hK=>?_
   refine sJ _ _ rfl _ _ _ rfl (gV Tryz.underlying79 _ _ _ (by rw [hNLl];exact Nat.le_refl _) _) ?_;refine hK.out _ _ (fun _=>hS) ?_;clear hK K
   try simp only [zp]
   refine zw 6 fun K hK=>?_
   refine wp_load_mid 79 _ rfl gj 0 rfl _ _ hrg Tryz.underlying79 rfl (by rw [List.length_map,hNLl];exact dF) ?_;refine hK.out _ _ (fun _=>hS) ?_;clear hK K
   try simp only [zp]
   refine zw 7 fun K hK=>?_
   refine dI 79 _ _ rfl _ rfl (k:=.u8) (l:=NL) rfl hRJ (by rw [hNLl];exact dF) (by rw [hZl,hNLl]) ?_;refine hK.out _ _ zn ?_;clear hK K
   try simp only [zp]
   refine ah (by kernel_rfl) ?_ _
   go_wp2_with fail
   refine bodyPost_ret (ak (Tryz.results34) _ rfl (hRJ.setRow _) Tryz.underlying79 dF hNLl) rfl ⟨by rw [←hNL],?_⟩;exact below_setRow hBJ (Nat.le_refl _) _
 · skip
   refine aC _ _ (by kernel_rfl) ((nu n _).mono ?_);rintro e wy ⟨rfl,rfl⟩;refine ⟨_,rfl,?_⟩;have hNV3:=qn V0 (bE4 n) 4 rfl (by simp [bE4]);have hBV3:=hBV0.alloc hBV0.size (.cells (row .u8 (bE4 n)) 5);have hRV3:=hRV0.alloc (.cells (row .u8 (bE4 n)) 5);refine hK.out _ _ (fun _=>hS) ?_;clear hK K
   try simp only [zp]
   obtain ⟨V3,hV3⟩:∃q,V0.alloc (.cells (row .u8 (bE4 n)) 5)=q:=⟨_,rfl⟩
   obtain ⟨g3,hg3⟩:∃q,V0.heap.size=q:=⟨_,rfl⟩
   rw [hV3] at hNV3 hBV3 hRV3 ⊢
   rw [hg3] at hNV3 ⊢
   clear hV3 hg3 hBV0 hRV0;have hN2_V3:=hNV3;clear hNV3;refine zw 0 fun K hK=>?_
   refine pk _ _ _ rfl _ _ _ _ rfl rfl (ns _) ?_;have hNV4:=qn V3 [0,0,0,0,0,0,0,0] 8 rfl (by simp [bE4]);have hBV4:=hBV3.alloc hBV3.size (.cells (row .u8 [0,0,0,0,0,0,0,0]) 5);have hRV4:=hRV3.alloc (.cells (row .u8 [0,0,0,0,0,0,0,0]) 5);have hN2_V4:=hN2_V3.below ((Below.refl _ _).alloc (Nat.le_refl _) (.cells (row .u8 [0,0,0,0,0,0,0,0]) 5));refine hK.out _ _ (fun _=>hS) ?_;clear hK K
   try simp only [zp]
   obtain ⟨V4,hV4⟩:∃q,V3.alloc (.cells (row .u8 [0,0,0,0,0,0,0,0]) 5)=q:=⟨_,rfl⟩
   obtain ⟨g4,hg4⟩:∃q,V3.heap.size=q:=⟨_,rfl⟩
   rw [hV4] at hNV4 hBV4 hRV4 hN2_V4 ⊢
   rw [hg4] at hNV4 ⊢
   clear hV4 hg4 hBV3 hRV3 hN2_V3;have hN0_V4:=hNV4;clear hNV4;refine zw 3 fun K hK=>?_
   refine wp_buildSlice 159 41 2 _ rfl #[.slice (some ⟨g4,0,none⟩) 8 8,.slice (some ⟨g3,0,none⟩) 4 4] iw _ Tryz.underlying159 hiw hwz (by rw [hws2];decide) (by rw [hws2];decide) (by rw [hws2];kernel_rfl) ?_;have hP:=lD V4 [⟨some ⟨g4,0,none⟩,8,8,[0,0,0,0,0,0,0,0]⟩,⟨some ⟨g3,0,none⟩,4,4,(bE4 n)⟩] (fun p hp=>by
    simp only [List.mem_cons,List.not_mem_nil,or_false] at hp
    rcases hp with rfl|rfl
    · exact hN0_V4
    · exact hN2_V4)
   have hBP:=hBV4.alloc hBV4.size (.cells #[.slice (some ⟨g4,0,none⟩) 8 8,.slice (some ⟨g3,0,none⟩) 4 4] 41);have hRP:=hRV4.alloc (.cells #[.slice (some ⟨g4,0,none⟩) 8 8,.slice (some ⟨g3,0,none⟩) 4 4] 41);refine hK.out _ _ (fun _=>hS) ?_;clear hK K
   try simp only [zp]
   refine zw 4 fun K hK=>?_
   have hj:=iq V4.heap.size 2 [⟨some ⟨g4,0,none⟩,8,8,[0,0,0,0,0,0,0,0]⟩,⟨some ⟨g3,0,none⟩,4,4,(bE4 n)⟩] _ hP rfl (by omega) (by simp [nP,cI,bE4]);rw [show cI [⟨some ⟨g4,0,none⟩,8,8,[0,0,0,0,0,0,0,0]⟩,⟨some ⟨g3,0,none⟩,4,4,(bE4 n)⟩]=aV n from rfl,hNL] at hj
   refine aC _ _ (by kernel_rfl) (hj.mono ?_);rintro e WJ ⟨vj,rfl,hoj,hbj⟩;refine ⟨_,rfl,?_⟩;have hBJ:=hBP.trans (hbj.mono hBP.size);have hRJ:=hRP.below hbj hRP.lt;obtain ⟨gj,cj,rfl,hgj⟩:=hoj.slice (by rw [hNLl];omega);have hrg:=hoj.bytes.2.rangeK;refine hK.out _ _ (fun _=>hS) ?_;clear hK K
   try simp only [zp]
   refine zw 5 fun K hK=>?_
   refine sJ _ _ rfl _ _ _ rfl (gV Tryz.underlying79 _ _ _ (by rw [hNLl];exact Nat.le_refl _) _) ?_;refine hK.out _ _ (fun _=>hS) ?_;clear hK K
   try simp only [zp]
   refine zw 6 fun K hK=>?_
   refine wp_load_mid 79 _ rfl gj 0 rfl _ _ hrg Tryz.underlying79 rfl (by rw [List.length_map,hNLl];exact dF) ?_;refine hK.out _ _ (fun _=>hS) ?_;clear hK K
   try simp only [zp]
   refine zw 7 fun K hK=>?_
   refine dI 79 _ _ rfl _ rfl (k:=.u8) (l:=NL) rfl hRJ (by rw [hNLl];exact dF) (by rw [hZl,hNLl]) ?_;refine hK.out _ _ zn ?_;clear hK K
   try simp only [zp]
   refine ah (by kernel_rfl) ?_ _
   go_wp2_with fail
   refine bodyPost_ret (ak (Tryz.results34) _ rfl (hRJ.setRow _) Tryz.underlying79 dF hNLl) rfl ⟨by rw [←hNL],?_⟩;exact below_setRow hBJ (Nat.le_refl _) _
theorem o4 (off:Nat):∀(cs:List Value) (k:Nat) (old:List Value),off+k+cs.length≤old.length→
    (cs.zipIdx k).foldl (fun (a:Array Value) (p:Value×Nat)=>a.setIfInBounds (off+p.2) p.1) old.toArray=(old.take (off+k)++cs++old.drop (off+k+cs.length)).toArray
 |[],k,old,_=>by simp
 |c::cs,k,old,h=>by
  rw [List.length_cons] at h
  rw [List.zipIdx_cons,List.foldl_cons,sI,o4 off cs (k+1) (old.set (off+k) c) (by rw [List.length_set];omega)]
  congr 1
  have e1:(old.set (off+k) c).take (off+(k+1))=old.take (off+k)++ [c]:=by
   rw [show off+(k+1)=(off+k)+1 by omega,List.take_add_one,List.take_set_of_le (Nat.le_refl _),List.getElem?_set_self (by omega)]
   rfl
  have e2:(old.set (off+k) c).drop (off+(k+1)+cs.length)=old.drop (off+k+(c::cs).length):=by
   rw [List.drop_set_of_lt (by omega),List.length_cons]
   congr 1;omega
  rw [e1,e2];simp
theorem dl (place:Nat→Option (Nat×Nat)) (old cs:List Value) (i off size:Nat) (v:Value) (rest:List (Nat×Value)) (hp:place i=some (off,size)) (hv:v.cells=cs.toArray) (hs:cs.length=size) (hl:off+size≤old.length):
    Instr.fill place old.toArray ((i,v)::rest)=Instr.fill place (old.take off++cs++old.drop (off+size)).toArray rest:=by
 rw [Instr.fill,hp];simp only [hv,List.size_toArray,hs];rw [if_neg (by simp;omega),←Array.foldl_toList,Array.toList_zipIdx];have:=o4 off cs 0 old (by omega);simp only [Nat.add_zero] at this
 rw [hs] at this
 rw [←this]
theorem mh {P:Program} {t:TypeId} {fields:Array Field} {z:List Value} {places:List (Nat×Nat)} (hz:(P.info? t).map (·.zero)=some (some (.agg z.toArray))) (hu:P.underlying t=some (.struct fields)) (hp:fields.toList.mapM (fun f=>(P.info? f.type).map fun i=>(f.offset,i.size))=some places) (parts:List (Nat×Value)):
    P.built t parts=Instr.fill (places.toArray[·]?) z.toArray parts:=by
 unfold Program.built;cases hi:P.info? t with
 |none=>simp [hi] at hz
 |some it=>
  have hz':it.zero=some (.agg z.toArray):=by simpa [hi] using hz
  simp only [hu,hz',hp,Value.cells]
set_option maxHeartbeats 1000000
section
variable (base H:Nat) (own:Int) (seed:List Int) (b:Nat) (M:Int→Int→Option (List Int)) (v:Value) (L:List (Int×Int)) (w:World)
theorem vt (hR:aA w base H own seed b M v L):
    Calls Tryz.prog 25 #[.pointer (some ⟨H,0,none⟩)] w fun e w'=>e=.returned (.int .u8 own)∧w'=w:=by
 have c0:=hR.box.cell 0;rw [tx] at c0
 go_enter Tryz.func25,Tryz.ntmps25;go_wp2;go_ret;exact ⟨rfl,rfl⟩
end
theorem tq {P:Program} {ρ:Operand→Value} {o:Oper} {w:World} {t:TypeId} {m x:Operand} {b:Bool} (ho:o.op=.lookup t m x b) {mv xv v:Value} (hm:ρ m=mv) (hx:ρ x=xv) (hrun:(Instr.lookup t mv xv b).run P w=.ok v w):(execOp ρ o).run P w=.ok (.value v) w:=by
 unfold execOp;simp only [ho,hm,hx,Sem.run_bind,hrun,Result.andThen_ok,Sem.run_pure]
theorem aI {P:Program} {fn:Func} {p q:Tmp} {ty t:TypeId} {d:TypeDesc} (h:fn.results= #[.cell p ty,.tmp q]) (tmps:Array Value) {w:World} {A:Nat} {cs:List Value} {v:Value} (hp:tmps.getD p undef=.pointer (some ⟨A,0,none⟩)) (hq:tmps.getD q undef=v) (hA:CellsAt w A t cs)
    (hu:P.underlying ty=some d) (hd:d.isRow=true) (hi:(P.info? ty).map (·.size)=some cs.length):
    (results fn tmps).run P w=.ok (.tuple #[.agg cs.toArray,v]) w:=by
 have hp':tmps[p]?.getD undef=.pointer (some ⟨A,0,none⟩):=by simpa using hp
 have hq':tmps[q]?.getD undef=v:=by simpa using hq
 have hl:=run_loadVar_row (P:=P) w A t ty cs.toArray (0,0) _ hA hu (by cases d<;>first|rfl|(cases hd)) (by rw [hi];simp);simp [results,h,hp',hq',asAddr,hl]
def fY (M:Int→Int→Option (List Int)) (a s:Int):List Int:=(M a s).getD (List.replicate 32 0)
theorem rf (w:World):(zeroValue 23).run Tryz.prog w=.ok (.agg (row .u8 (List.replicate 32 0))) w:=by kernel_rfl
theorem tJ (M:Int→Int→Option (List Int)) (a s:Int):(jZ M a s).getD (.agg (row .u8 (List.replicate 32 0)))=.agg (row .u8 (fY M a s)):=by
 unfold jZ fY;cases M a s<;>rfl
theorem qk (M:Int→Int→Option (List Int)) (a s:Int):(jZ M a s).isSome=(M a s).isSome:=by
 unfold jZ;cases M a s<;>rfl
section
variable (base H:Nat) (own:Int) (seed:List Int) (b:Nat) (M:Int→Int→Option (List Int)) (v:Value) (L:List (Int×Int)) (w:World)
theorem jS (hR:aA w base H own seed b M v L) (a s:Int):(fY M a s).length=32:=by
 unfold fY;cases h:M a s with
 |none=>rfl
 |some k=>exact hR.is32 a s k h
theorem lG (a s:Int) (ho:okD a s) (hR:aA w base H own seed b M v L):
    Calls Tryz.prog 69 #[.pointer (some ⟨H,0,none⟩),.agg (dotC a s).toArray] w fun e w'=>e=.returned (.tuple #[.agg (row .u8 (fY M a s)),.bool (M a s).isSome])∧Below w.heap.size w w':=by
 have hs32:=hR.seed32;have hKl:=jS base H own seed b M v L w hR a s;obtain ⟨Z,hZl,hZ⟩:∃Z:List Int,Z.length=32∧Z=List.replicate 32 0:=⟨_,rfl,rfl⟩
 have hd0:=(CellsAt.new w 26 (dotC a s)).alloc (.cells (row .u8 Z) 23);have hr0:=aa.new (w.alloc (.cells (dotC a s).toArray 26)) .u8 23 Z;rw [World.size_alloc] at hr0
 have hB:Below w.heap.size w ((w.alloc (.cells (dotC a s).toArray 26)).alloc (.cells (row .u8 Z) 23)):=((Below.refl _ _).alloc (Nat.le_refl _) _).alloc (by simp) _;have HLOOK:ac (∀wx,bz wx b L.length (jZ M)→(Instr.lookup 95 (.map (some b)) (.agg (dotC a s).toArray) true).run Tryz.prog wx=.ok (.tuple #[.agg (row .u8 (fY M a s)),.bool (M a s).isSome]) wx):=⟨fun wx h=>by
  have:=h.look nI (rf wx) a s ho;rw [tJ,qk] at this
  exact this⟩
 obtain ⟨KA,hKA⟩:∃q,fY M a s=q:=⟨_,rfl⟩
 obtain ⟨IS,hIS⟩:∃q,(M a s).isSome=q:=⟨_,rfl⟩
 rw [hKA,hIS] at HLOOK
 rw [hKA] at hKl
 have HKI:ac (fY M a s=KA∧(M a s).isSome=IS):=⟨hKA,hIS⟩
 clear hKA hIS;have uD:Tryz.prog.underlying 26=_:=Tryz.underlying26;have iD:(Tryz.prog.info? 26).map (·.size)=some (dotC a s).length:=eK;go_enter Tryz.func69,Tryz.ntmps69;go_upto_region 3 with fail
 refine ae (p:=fun y=>Code.wp _ _ _ _ y) (fun W=>Below w.heap.size w W∧aA W base H own seed b M v L∧CellsAt W w.heap.size 26 (dotC a s)∧aa W (w.heap.size+1) .u8 23 Z) ⟨by rw [hZ] at hB;exact hB,by rw [hZ] at hB;exact hR.far hB,by rw [hZ] at hd0;exact hd0,by rw [hZ] at hr0 ⊢;exact hr0⟩ ?_;clear hB hd0 hr0 hZ;rintro W ⟨hB,hR0,hd0,hr0⟩;refine ag (fun w'=>w'.cell? ⟨H,33,none⟩=some (.map (some b))∧w'.rangeAt w.heap.size 0 (dotC a s)∧bz w' b L.length (jZ M)) 10 (by kernel_rfl) ?_;have HS:∀W':World,aA W' base H own seed b M v L→CellsAt W' w.heap.size 26 (dotC a s)→(fun w':World=>w'.cell? ⟨H,33,none⟩=some (.map (some b))∧w'.rangeAt w.heap.size 0 (dotC a s)∧bz w' b L.length (jZ M)) W':=fun W' h1 h2=>⟨by have:=h1.box.cell 33;rw [mU _ _ _ _ hs32] at this;exact this,h2.range 0 2,h1.map⟩
 have hS:=HS W.drew (hR0.congr fun _ _=>rfl) (hd0.congr rfl);refine gaA 0 _ hS ?_;simp only [zp];refine gaA 1 _ hS ?_;simp only [zp];refine gaA 2 _ hS ?_;simp only [zp];refine grA 3 _ hS ?_;simp only [zp];refine zg 4 16 26 3 w.heap.size 0 (dotC a s) hS (fun _ h=>h.2.1) uD iD ?_;simp only [zp];refine fs (i:=5) (v:=(.tuple #[.agg (row .u8 KA),.bool IS])) rfl (by kernel_rfl) (by kernel_rfl) (by kernel_rfl) (fun _ _ _ h=>h) (by kernel_rfl) (by kernel_rfl) (by kernel_rfl) hS (by kernel_rfl) (fun wx h=>tq rfl rfl rfl (HLOOK.out wx h.2.2)) ?_;simp only [zp];refine gaA 6 _ hS ?_;simp only [zp];refine gaA 7 _ hS ?_;simp only [zp];refine gaA 8 _ hS ?_;simp only [zp];refine zw 9 fun K hK=>?_
 go_simp;have hb1:Below W.heap.size W (W.alloc (.cells (row .u8 (List.replicate 32 0)) 23)).drew:=((Below.refl _ _).alloc (Nat.le_refl _) _).drew;have hA1:=(aa.new W .u8 23 (List.replicate 32 0)).drew;have hR1:=hR0.far hb1;have hd1:=hd0.congr (hb1.block _ hd0.lt);have hr1:=hr0.below hb1 hr0.lt;have hB1:=hB.trans (hb1.mono hB.size);have hgW:w.heap.size+1<W.heap.size:=hr0.lt;replace hS:=HS _ hR1 hd1;refine hK.out _ _ (fun _=>hS) ?_;clear hK K
 try simp only [zp]
 refine zw 10 fun K hK=>?_
 refine dI 23 _ _ rfl _ rfl (k:=.u8) (l:=KA) rfl hA1 (by rw [hKl];exact ap) (by rw [hKl];rfl) ?_;refine hK.out _ _ zn ?_;clear hK K
 try simp only [zp]
 refine aw (i:=11) (v:=?_) rfl (by kernel_rfl) (by kernel_rfl) (by kernel_rfl) (fun _ _ _ h=>h) (by kernel_rfl) zn (by kernel_rfl) ?_ ?_;rotate_left
 · intro _;go_simp;try with_reducible rfl
 simp only [zp];refine ah (by kernel_rfl) ?_ _;have hA2:=hA1.setRow KA;have hr2:=hr1.setRowOther (g':=W.heap.size) (row .u8 KA) (by omega);have hB2:=below_setRow (g:=W.heap.size) hB1 (by have:=hB.size;omega) (row .u8 KA);refine ae (p:=fun y=>Exit.then _ _ _ _ y) (fun V=>Below w.heap.size w V∧aa V W.heap.size .u8 23 KA∧aa V (w.heap.size+1) .u8 23 Z) ⟨hB2,hA2,hr2⟩ ?_;clear hb1 hA1 hR1 hd1 hr1 hB1 hS HS hA2 hr2 hB2 hR0 hd0 hr0 hB uD iD HLOOK;obtain ⟨G,hG⟩:∃q,W.heap.size=q:=⟨_,rfl⟩
 rw [hG] at hgW ⊢
 clear hG;clear W;rintro V ⟨hB,hA,hr⟩
 go_wp2_with (first
  |(refine am rfl 23 _ rfl _ rfl hA Tryz.underlying23 ap hKl ?_)
  |(refine aj rfl 23 _ _ rfl _ rfl rfl hr (by rw [hKl];exact ap) (by rw [hZl,hKl]) ?_))
 refine bodyPost_ret (aI (Tryz.results69) _ rfl rfl (hr.setRow KA).cellsAt Tryz.underlying23 rfl (by rw [List.length_map,hKl];exact ap)) rfl ⟨?_,?_⟩
 · rw [HKI.out.1,HKI.out.2];rfl
 · exact below_setRow hB (by omega) _
theorem pf (a s:Int) (ho:okD a s) (hR:aA w base H own seed b M v L):
    Calls Tryz.prog 65 #[.pointer (some ⟨H,0,none⟩),.agg (dotC a s).toArray] w fun e w'=>e=.returned (.bool (M a s).isSome)∧Below w.heap.size w w':=by
 have hd0:=CellsAt.new w 26 (dotC a s);have hB:Below w.heap.size w (w.alloc (.cells (dotC a s).toArray 26)):=(Below.refl _ _).alloc (Nat.le_refl _) _;have hk:=lG base H own seed b M v L (w.alloc (.cells (dotC a s).toArray 26)) a s ho (hR.far hB);have hKl:=jS base H own seed b M v L w hR a s;have rD:=hd0.range 0 2;rw [show ((dotC a s).drop 0).take 2=dotC a s from rfl] at rD
 obtain ⟨KA,hKA⟩:∃q,fY M a s=q:=⟨_,rfl⟩
 obtain ⟨IS,hIS⟩:∃q,(M a s).isSome=q:=⟨_,rfl⟩
 rw [hKA] at hKl hk
 rw [hIS] at hk
 have HIS:=ac.mk hIS;clear hKA hIS;go_enter Tryz.func65,Tryz.ntmps65
 go_wp2_with (first
  |(refine af rfl 26 _ rfl _ _ rfl (dotC a s) rD Tryz.underlying26 rfl eK ?_)
  |(go_at_call 69;refine hk.mono ?_;rintro e w1 ⟨rfl,hb1⟩;have hA1:=aa.new w1 .u8 23 (List.replicate 32 0))
  |(refine aj rfl 23 _ _ rfl _ rfl rfl hA1 (by rw [hKl];exact ap) (by rw [hKl];rfl) ?_))
 go_ret;have hB1:=hB.trans (hb1.mono hB.size);exact ⟨by rw [HIS.out];rfl,below_setRow (hB1.alloc hB1.size _) hB1.size _⟩
end
end Go.Proofs.YtbdhfbglagdiaaaGreatDoor
