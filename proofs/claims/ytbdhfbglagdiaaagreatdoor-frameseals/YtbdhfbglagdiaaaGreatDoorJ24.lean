/- Ky6 Ky7 An3 An4 -/
import Derived.Test.YtbdhfbglagdiaaaGreatDoorJ23
import Derived.Test.YtbdhfbglagdiaaaGreatDoorJ19
import Derived.Test.YtbdhfbglagdiaaaGreatDoorJ02
import Derived.Test.YtbdhfbglagdiaaaGreatDoorJ15
namespace Go.Proofs.YtbdhfbglagdiaaaGreatDoor
open Go.RowKit
set_option maxRecDepth 20000
set_option maxHeartbeats 4000000
set_option linter.unusedSimpArgs false
def yG:List Int:=[109,97,99]
def yd:List Int:=[101,112,111,99,104]
def xS:List Int:=[102,114,97,109,101]
def gH (seed:List Int) (a:Int):List Int:=ke seed (yG++ [a])
def dF (seed:List Int):List Int:=ke seed (yd++ [])
def et (k:List Int) (a:Int):List Int:=ke k (xS++ [a])
section
variable (base H:Nat) (own:Int) (seed:List Int) (b:Nat) (M:Int→Int→Option (List Int)) (v:Value) (L:List (Int×Int)) (w:World)
theorem wg (p:Int) (hR:aB w base H own seed b M v L) (hKT:S.KTab w):
    Calls Tryz.prog 81 #[.pointer (some ⟨H,0,none⟩),.int .u8 p] w fun e w'=>e=.returned (.agg (row .u8 (gH seed p)))∧Below w.heap.size w w':=by
 have hs32:=hR.seed32;obtain ⟨Z,hZl,hZ⟩:∃Z:List Int,Z.length=32∧Z=List.replicate 32 0:=⟨_,rfl,rfl⟩
 have hB:Below w.heap.size w (w.alloc (.cells (row .u8 Z) 23)):=(Below.refl _ _).alloc (Nat.le_refl _) _;have hr0:=aa.new w .u8 23 Z;have hPl:(gH seed p).length=32:=aV _ _;have HD:ac (∀W:World,S.KTab W→Calls Tryz.prog 63 #[.agg (row .u8 seed),.string ⟨#[109,97,99]⟩,.slice (some ⟨W.heap.size,0,none⟩) 1 1] (W.alloc (.cells (row .u8 [p]) 5)) fun e w'=>e=.returned (.agg (row .u8 (gH seed p)))∧Below (W.alloc (.cells (row .u8 [p]) 5)).heap.size (W.alloc (.cells (row .u8 [p]) 5)) w'):=⟨fun W hk=>ip seed ⟨#[109,97,99]⟩ _ 1 1 [p] _ hs32 (by decide) (pD W [p] 1 rfl (by simp)) (by omega) (hk.below ((Below.refl _ _).alloc (Nat.le_refl _) _))⟩
 obtain ⟨PL,hPL⟩:∃z,gH seed p=z:=⟨_,rfl⟩
 rw [hPL] at HD hPl
 have HPL:=ac.mk hPL;clear hPL;go_enter Tryz.func81,Tryz.ntmps81;go_upto_region 3 with fail
 refine af (p:=fun y=>Code.wp _ _ _ _ y) (fun W=>Below w.heap.size w W∧aB W base H own seed b M v L∧aa W w.heap.size .u8 23 Z) ⟨by rw [hZ] at hB;exact hB,by rw [hZ] at hB;exact hR.far hB,by rw [hZ] at hr0 ⊢;exact hr0⟩ ?_;clear hB hr0 hZ;rintro W ⟨hB,hR0,hr0⟩;have rS:=hR0.box.range 1 32;rw [rf _ _ _ _ hs32] at rS
 have iK:(Tryz.prog.info? 23).map (·.size)=some (seed.map (Value.int .u8)).length:=by rw [List.length_map,hs32];exact ap
 have hd:=HD.out W (hKT.below hB);have hB2:=hB.alloc hB.size (.cells (row .u8 [p]) 5);have hr2:=hr0.alloc (.cells (row .u8 [p]) 5);clear hR0
 go_wp2_with (first
  |(refine ae rfl 23 _ rfl _ _ rfl (seed.map (Value.int .u8)) rS Tryz.underlying23 rfl iK ?_)
  |(go_at_call 63;refine hd.mono ?_;rintro e w1 ⟨rfl,hb1⟩;have hr3:=hr2.below hb1 hr2.lt)
  |(refine ah rfl 23 _ _ rfl _ rfl rfl hr3 (by rw [hPl];exact ap) (by rw [hZl,hPl]) ?_))
 refine bodyPost_ret (aj (Tryz.results81) _ rfl (hr3.setRow _) Tryz.underlying23 ap hPl) rfl ⟨?_,?_⟩
 · rw [HPL.out]
 · exact below_setRow (hB2.trans (hb1.mono hB2.size)) (Nat.le_refl _) _
end
def u5:List Value:=dJ 0 (List.replicate 32 0) 0 (.slice none 0 0)|>.set 33 (.map none)
theorem tw:(Tryz.prog.info? 98).map (·.zero)=some (some (.agg u5.toArray)):=by kernel_rfl
theorem qu (own:Int) (seed:List Int) (b:Nat) (hs:seed.length=32) (w:World):(Instr.build 98 #[(0,.int .u8 own),(1,.agg (row .u8 seed)),(2,.map (some b))]).run Tryz.prog w=.ok (.agg (dJ own seed b (.slice none 0 0)).toArray) w:=by
 refine run_build w _ _ _ ?_;rw [me tw Tryz.underlying98 (by kernel_rfl) (places:=[(0,1),(1,32),(33,1),(34,1)])];rw [dh _ _ [.int .u8 own] 0 0 1 _ _ rfl rfl rfl (by decide),show u5.take 0++ [.int .u8 own]++u5.drop (0+1)=[Value.int .u8 own]++(List.replicate 32 (0:Int)).map (Value.int .u8)++ [.map none,.slice none 0 0] from rfl];rw [dh _ _ (seed.map (Value.int .u8)) 1 1 32 _ _ rfl rfl (by simp [hs]) (Nat.le_of_ble_eq_true rfl)];rw [show List.take 1 ([Value.int .u8 own]++(List.replicate 32 (0:Int)).map (Value.int .u8)++ [.map none,.slice none 0 0])=[Value.int .u8 own] from rfl,show List.drop (1+32) ([Value.int .u8 own]++(List.replicate 32 (0:Int)).map (Value.int .u8)++ [.map none,.slice none 0 0])=[.map none,.slice none 0 0] from rfl];rw [dh _ _ [.map (some b)] 2 33 1 _ _ rfl rfl rfl (by simp [hs]),Instr.fill]
 congr 2
 rw [List.take_left' (by simp [hs]),show 33+1=([Value.int .u8 own]++seed.map (Value.int .u8)).length+1 by simp [hs],List.drop_length_add_append];simp [dJ]
def eh (own:Int) (seed:List Int):Int→Int→Option (List Int):=if own=0 then gT (fun _ _=>none) 0 0 (dF seed) else fun _ _=>none
def iC (own:Int):List (Int×Int):=if own=0 then [(0,0)] else []
theorem okZ:okD 0 0:=⟨⟨by omega,by omega⟩,by omega,by omega⟩
theorem sp (own:Int) (seed:List Int) (w:World) (h8:own<8) (hs:seed.length=32) (hKT:S.KTab w):
    Calls Tryz.prog 17 #[.int .u8 own,.agg (row .u8 seed)] w fun e w'=>∃H b v,e=.returned (.pointer (some ⟨H,0,none⟩))∧aB w' w.heap.size H own seed b (eh own seed) v (iC own)∧Below w.heap.size w w':=by
 have hmm:= @run_makeMap Tryz.prog;have HBU:ac (∀b wx,(Instr.build 98 #[(0,.int .u8 own),(1,.agg (row .u8 seed)),(2,.map (some b))]).run Tryz.prog wx=.ok (.agg (dJ own seed b (.slice none 0 0)).toArray) wx):=⟨fun b wx=>qu own seed b hs wx⟩
 have hk0:=aa.new w .u8 23 seed;have hB:Below w.heap.size w (w.alloc (.cells (row .u8 seed) 23)):=(Below.refl _ _).alloc (Nat.le_refl _) _;have hn8:¬8≤own:=by omega
 go_enter Tryz.func17,Tryz.ntmps17;go_upto_region 3 with fail
 refine af (p:=fun y=>Code.wp _ _ _ _ y) (fun W=>Below w.heap.size w W∧aa W w.heap.size .u8 23 seed) ⟨hB,hk0⟩ ?_;clear hB hk0;rintro W ⟨hB,hk0⟩;go_upto_region 4 with (first
  |(refine am rfl 23 _ rfl _ rfl hk0 Tryz.underlying23 ap hs ?_)
  |(refine aG rfl 98 _ rfl #[(0,.int .u8 own),(1,.agg (row .u8 seed)),(2,.map (some W.heap.size))] (by first|rfl|kernel_rfl) _ (HBU.out _ _) ?_))
 have hW:=hB.size;have hm1:=(bD.made W).alloc (.cells (dJ own seed W.heap.size (.slice none 0 0)).toArray 98);have hx1:=CellsAt.new (W.alloc (.map #[] 0)) 98 (dJ own seed W.heap.size (.slice none 0 0));rw [World.size_alloc] at hx1
 have hB1:=(hB.alloc hB.size (.map #[] 0)).alloc (by simp;omega) (.cells (dJ own seed W.heap.size (.slice none 0 0)).toArray 98);have hk1:=(hk0.alloc (.map #[] 0)).alloc (.cells (dJ own seed W.heap.size (.slice none 0 0)).toArray 98);have hR1:aB ((W.alloc (.map #[] 0)).alloc (.cells (dJ own seed W.heap.size (.slice none 0 0)).toArray 98)) w.heap.size (W.heap.size+1) own seed W.heap.size (fun _ _=>none) (.slice none 0 0) []:=⟨hx1,hm1,fY.nil _ _,hs,(fun _ _ _ h=>by cases h),by simp,by omega,by omega⟩
 refine af (p:=fun y=>Code.wp _ _ _ _ y) (fun V=>Below w.heap.size w V∧aa V w.heap.size .u8 23 seed∧aB V w.heap.size (W.heap.size+1) own seed W.heap.size (fun _ _=>none) (.slice none 0 0) []) ⟨hB1,hk1,hR1⟩ ?_;clear hm1 hx1 hB1 hk1 hR1 hB hk0 hmm HBU hW;obtain ⟨G,hG⟩:∃q,W.heap.size=q:=⟨_,rfl⟩
 rw [hG];clear hG;clear W;rintro W ⟨hB,hk0,hR0⟩
 by_cases h0:own=0
 · subst h0
   have hd:=ip seed ⟨#[101,112,111,99,104]⟩ none 0 0 [] W hs (by decide) (cY W) (by omega) (hKT.below hB);have hdl:(dF seed).length=32:=aV _ _;rw [show ke seed (cJ ⟨#[101,112,111,99,104]⟩++ [])=dF seed from rfl] at hd
   have HN:ac (eh 0 seed=gT (fun _ _=>none) 0 0 (dF seed)∧iC 0=[]++ [(0,0)]):=⟨if_pos rfl,rfl⟩
   obtain ⟨EL,hEL⟩:∃q,dF seed=q:=⟨_,rfl⟩
   rw [hEL] at hd hdl HN
   clear hEL
   go_wp2_with (first
    |(refine am rfl 23 _ rfl _ rfl hk0 Tryz.underlying23 ap hs ?_)
    |(go_at_call 63;refine hd.mono ?_;rintro e w1 ⟨rfl,hb1⟩;have hB1:=hB.trans (hb1.mono hB.size);have hh:=pG w.heap.size (G+1) 0 seed G (fun _ _=>none) (.slice none 0 0) [] 0 0 EL w1 (hR0.far hb1) (by simp) okZ hdl hB1.size)
    |(go_at_call 62;refine hh.mono ?_;rintro e w2 ⟨⟨r,rfl⟩,v2,hR2,hT2,_⟩))
   go_ret;refine ⟨G+1,G,v2,rfl,?_,hB1.trans (hT2.below hB1.size ?_)⟩
   · rw [HN.out.1,HN.out.2];exact hR2
   · intro k hk
     rcases hk with rfl|rfl|hk
     · exact hR0.baseH
     · exact hR0.baseB
     · cases hk
 · have HN:ac (eh own seed=(fun _ _=>none)∧iC own=[]):=⟨if_neg h0,if_neg h0⟩
   have h0':(own==0)=false:=by simpa using h0
   go_wp2;go_ret;refine ⟨G+1,rfl,⟨G,.slice none 0 0,?_⟩,hB⟩;rw [HN.out.1,HN.out.2];exact hR0
section
variable (base H:Nat) (own:Int) (seed:List Int) (b:Nat) (M:Int→Int→Option (List Int)) (v:Value) (L:List (Int×Int)) (w:World)
theorem sU (a s:Int) (k:List Int) (ho:okD a s) (hR:aB w base H own seed b M v L) (hm:(M a s).isSome=true):
    Calls Tryz.prog 19 #[.pointer (some ⟨H,0,none⟩),.agg (dotC a s).toArray,.agg (row .u8 k)] w fun e w'=>e=.returned (.int .i64 5)∧Below w.heap.size w w':=by
 have hB:Below w.heap.size w ((w.alloc (.cells (dotC a s).toArray 26)).alloc (.cells (row .u8 k) 23)):=((Below.refl _ _).alloc (Nat.le_refl _) _).alloc (by simp) _;have hd0:=(CellsAt.new w 26 (dotC a s)).alloc (.cells (row .u8 k) 23);have hh:=qe base H own seed b M v L _ a s ho (hR.far hB);rw [hm] at hh
 have rD:=hd0.range 0 2;rw [show ((dotC a s).drop 0).take 2=dotC a s from rfl] at rD
 go_enter Tryz.func19,Tryz.ntmps19
 go_wp2_with (first
  |(refine ae rfl 26 _ rfl _ _ rfl (dotC a s) rD Tryz.underlying26 rfl eH ?_)
  |(go_at_call 65;refine hh.mono ?_;rintro e w1 ⟨rfl,hb1⟩))
 go_ret;exact ⟨rfl,hB.trans (hb1.mono hB.size)⟩
theorem xO (a s:Int) (k:List Int) (ho:okD a s) (hk:k.length=32) (hR:aB w base H own seed b M v L) (hm:(M a s).isSome=false) (hl:L.length<16) (hbase:base≤w.heap.size):
    Calls Tryz.prog 19 #[.pointer (some ⟨H,0,none⟩),.agg (dotC a s).toArray,.agg (row .u8 k)] w fun e w'=>e=.returned (.int .i64 0)∧∃v',aB w' base H own seed b (gT M a s k) v' (L++ [(a,s)])∧bZ (dC H b v) w w'∧(v'.ownBlock=v.ownBlock∨∃g,v'.ownBlock=some g∧w.heap.size≤g):=by
 have hs32:=hR.seed32;have hB:Below w.heap.size w ((w.alloc (.cells (dotC a s).toArray 26)).alloc (.cells (row .u8 k) 23)):=((Below.refl _ _).alloc (Nat.le_refl _) _).alloc (by simp) _;have hd0:=(CellsAt.new w 26 (dotC a s)).alloc (.cells (row .u8 k) 23);have hk0:=aa.new (w.alloc (.cells (dotC a s).toArray 26)) .u8 23 k;rw [World.size_alloc] at hk0
 have hR0:=hR.far hB;have hh:=qe base H own seed b M v L _ a s ho hR0;rw [hm] at hh
 have rD:=hd0.range 0 2;rw [show ((dotC a s).drop 0).take 2=dotC a s from rfl] at rD
 have HC:ac (∀W:World,Below ((w.alloc (.cells (dotC a s).toArray 26)).alloc (.cells (row .u8 k) 23)).heap.size ((w.alloc (.cells (dotC a s).toArray 26)).alloc (.cells (row .u8 k) 23)) W→W.cell? ⟨H,34,none⟩=some v∧W.rangeAt w.heap.size 0 (dotC a s)∧aa W (w.heap.size+1) .u8 23 k∧aB W base H own seed b M v L∧Below w.heap.size w W):=⟨fun W hb=>by
  have h1:=(hR0.far hb).box.cell 34;rw [fw _ _ _ _ hs32] at h1
  have h2:=(hd0.congr (hb.block _ hd0.lt)).range 0 2;exact ⟨h1,h2,hk0.below hb hk0.lt,hR0.far hb,hB.trans (hb.mono hB.size)⟩⟩
 have HX:ac (∃xv cv,v=.slice xv L.length cv):=⟨hR.added.isSlice⟩
 have HHOLD:ac (∀W,Below w.heap.size w W→aB W base H own seed b M v L→Calls Tryz.prog 62 #[.pointer (some ⟨H,0,none⟩),.agg (dotC a s).toArray,.agg (row .u8 k)] W fun e w'=>(∃r,e=.returned r)∧∃v',aB w' base H own seed b (gT M a s k) v' (L++ [(a,s)])∧bZ (dC H b v) w w'∧(v'.ownBlock=v.ownBlock∨∃g,v'.ownBlock=some g∧w.heap.size≤g)):=⟨fun W hb hr=>(pG base H own seed b M v L a s k W hr hl ho hk (Nat.le_trans hbase hb.size)).mono fun e w' ⟨h1,v',h2,h3,h4⟩=>⟨h1,v',h2,(bZ.of_below hb).trans h3,h4.imp id fun ⟨g,h5,h6⟩=>⟨g,h5,Nat.le_trans hb.size h6⟩⟩⟩
 obtain ⟨P1,hP1⟩:∃p,p=(fun (e:Ending) (w':World)=>(∃r,e=.returned r)∧∃v',aB w' base H own seed b (gT M a s k) v' (L++ [(a,s)])∧bZ (dC H b v) w w'∧(v'.ownBlock=v.ownBlock∨∃g,v'.ownBlock=some g∧w.heap.size≤g)):=⟨_,rfl⟩
 have HP1:ac (∀r w',P1 (.returned r) w'→∃v',aB w' base H own seed b (gT M a s k) v' (L++ [(a,s)])∧bZ (dC H b v) w w'∧(v'.ownBlock=v.ownBlock∨∃g,v'.ownBlock=some g∧w.heap.size≤g)):=⟨fun r w' h=>by rw [hP1] at h;exact h.2⟩
 have HP2:ac (∀e w',P1 e w'→∃r,e=.returned r):=⟨fun e w' h=>by rw [hP1] at h;exact h.1⟩
 rw [←hP1] at HHOLD
 clear hP1 hR hR0 hd0 hk0;obtain ⟨n,hn⟩:∃n,L.length=n:=⟨_,rfl⟩
 have hli:(n:Int)<16:=by omega
 obtain ⟨xv,cv,hv⟩:=HX.out;rw [hn] at hv
 clear hn HX;go_enter Tryz.func19,Tryz.ntmps19;go_upto_region 5 with (first
  |(refine ae rfl 26 _ rfl _ _ rfl (dotC a s) rD Tryz.underlying26 rfl eH ?_)
  |(go_at_call 65;refine hh.mono ?_;rintro e w1 ⟨rfl,hb1⟩))
 obtain ⟨c34,rD1,hk1,hR1,hB1⟩:=HC.out w1 hb1;have hhold:=HHOLD.out w1 hB1 hR1;rw [hv] at c34
 clear HC HHOLD hR1 hB1 hb1 hh rD hB hv
 go_wp2_with (first
  |(refine ae rfl 26 _ rfl _ _ rfl (dotC a s) rD1 Tryz.underlying26 rfl eH ?_)
  |(refine am rfl 23 _ rfl _ rfl hk1 Tryz.underlying23 ap hk ?_)
  |(go_at_call 62;refine hhold.mono ?_;intro e w2 hp2;obtain ⟨r,rfl⟩:=HP2.out e w2 hp2;have h3:=HP1.out r w2 hp2))
 go_ret;exact ⟨rfl,h3⟩
end
set_option maxHeartbeats 2000000
theorem aQ.new (w:World) (t:TypeId) (ps:List dr) (hb:∀j (hj:j<ps.length),Bytes w (ps[j]).x (ps[j]).len (ps[j]).cap (ps[j]).z):aQ (w.alloc (.cells (ps.map dr.val).toArray t)) w.heap.size ps:=
 ⟨fun j hj=>by
  rw [cell_of_row _ w.heap.size j _ t _ (heap_alloc_new w _)];simp [hj],fun j hj=>(hb j hj).below ((Below.refl _ _).alloc (Nat.le_refl _) _)⟩
theorem xL {w:World} (p0 p1 p2 p3 p4 p5:dr) (h0:Bytes w p0.x p0.len p0.cap p0.z) (h1:Bytes w p1.x p1.len p1.cap p1.z) (h2:Bytes w p2.x p2.len p2.cap p2.z) (h3:Bytes w p3.x p3.len p3.cap p3.z) (h4:Bytes w p4.x p4.len p4.cap p4.z) (h5:Bytes w p5.x p5.len p5.cap p5.z):
    ∀j (hj:j<[p0,p1,p2,p3,p4,p5].length),Bytes w ([p0,p1,p2,p3,p4,p5][j]).x ([p0,p1,p2,p3,p4,p5][j]).len ([p0,p1,p2,p3,p4,p5][j]).cap ([p0,p1,p2,p3,p4,p5][j]).z
 |0,_=>h0|1,_=>h1|2,_=>h2|3,_=>h3|4,_=>h4|5,_=>h5
 |j+6,h=>absurd h (by simp)
theorem xW {w:World} (p0 p1:dr) (h0:Bytes w p0.x p0.len p0.cap p0.z) (h1:Bytes w p1.x p1.len p1.cap p1.z):
    ∀j (hj:j<[p0,p1].length),Bytes w ([p0,p1][j]).x ([p0,p1][j]).len ([p0,p1][j]).cap ([p0,p1][j]).z
 |0,_=>h0|1,_=>h1
 |j+2,h=>absurd h (by simp)
theorem qR (x:Option Addr) (len cap:Nat) (o:List Int) (y:Option Addr) (lb cb:Nat) (s:List Int) (w:World) (hx:Bytes w x len cap o) (hy:Bytes w y lb cb s) (hl1:len≤100000) (hl2:lb≤100000):
    Calls Tryz.prog 123 #[.slice x len cap,.slice y lb cb] w fun e w'=>∃v,e=.returned v∧aq w' w.heap.size v (bg o s)∧Below w.heap.size w w':=by
 have h1:=jS x len cap o w hx;have h2:=fun wx (hb:Below w.heap.size w wx)=>jS y lb cb s wx (hy.below hb)
 have hL1:=le8_length len;have hL2:=le8_length lb;have hxl:=hx.len_eq;have hyl:=hy.len_eq;have HF:ac (∀f1 f2 g1 g2,cD [⟨x,len,cap,o⟩,⟨some ⟨f1,0,none⟩,bP len,bP len,aR (bP len)⟩,⟨y,lb,cb,s⟩,⟨some ⟨f2,0,none⟩,bP lb,bP lb,aR (bP lb)⟩,⟨some ⟨g1,0,none⟩,8,8,le8 len⟩,⟨some ⟨g2,0,none⟩,8,8,le8 lb⟩]=bg o s):=⟨fun f1 f2 g1 g2=>by
  unfold bg;rw [←hxl,←hyl];simp [cD]⟩
 have HL:ac ((bg o s).length≤1000000):=⟨by rw [e9];have:=dg o.length;have:=dg s.length;omega⟩
 have hF1:=dg len;have hF2:=dg lb;have hZ1:=co (bP len);have hZ2:=co (bP lb);have ff1:=fun wx (hb:Bytes wx x len cap o)=>nx x len cap o wx hb
 have ff2:=fun wx (hb:Bytes wx y lb cb s)=>nx y lb cb s wx hb
 obtain ⟨F1,hF1e⟩:∃q,bP len=q:=⟨_,rfl⟩
 obtain ⟨F2,hF2e⟩:∃q,bP lb=q:=⟨_,rfl⟩
 rw [hF1e] at HF hF1 hZ1 ff1
 rw [hF2e] at HF hF2 hZ2 ff2
 obtain ⟨A,hA⟩:∃q,le8 len=q:=⟨_,rfl⟩
 obtain ⟨B,hBe⟩:∃q,le8 lb=q:=⟨_,rfl⟩
 rw [hA] at h1 hL1 HF
 rw [hBe] at h2 hL2 HF
 clear hxl hyl hF1e hF2e hA hBe;go_enter Tryz.func123,Tryz.ntmps123;go_upto_region 2 with (first
  |(go_at_call 159;refine h1.mono ?_;rintro e w1 ⟨rfl,hb1⟩;have h2':=h2 w1 hb1;clear h1)
  |(go_at_call 159;refine h2'.mono ?_;rintro e w2 ⟨rfl,hb2⟩;have hN1:=(aa.new w2 .u8 202 (List.replicate 8 0)).alloc (.cells (row .u8 (List.replicate 8 0)) 202);have hN2:=(show aa ((w2.alloc (.cells (row .u8 (List.replicate 8 0)) 202)).alloc (.cells (row .u8 (List.replicate 8 0)) 202)) (w2.heap.size+1) .u8 202 (List.replicate 8 0) from (by have:=aa.new (w2.alloc (.cells (row .u8 (List.replicate 8 0)) 202)) .u8 202 (List.replicate 8 0);rw [World.size_alloc] at this;exact this));have hN3:=hN2.setRowOther (g':=w2.heap.size) (row .u8 A) (by omega))
  |(refine ah rfl 202 _ _ rfl _ rfl rfl hN1 (by rw [hL1];exact lC) (by simp [hL1]) ?_)
  |(refine ah rfl 202 _ _ rfl _ rfl rfl hN3 (by rw [hL2];exact lC) (by simp [hL2]) ?_))
 have hB2:Below w.heap.size w w2:=hb1.trans (hb2.mono hb1.size);refine af (p:=fun y=>Code.wp _ _ _ _ y) (fun W3=>Below w.heap.size w W3∧aa W3 w2.heap.size .u8 202 A∧aa W3 (w2.heap.size+1) .u8 202 B) ⟨below_setRow (below_setRow ((hB2.alloc hB2.size _).alloc (by have:=hB2.size;simp;omega) _) hB2.size _) (by have:=hB2.size;omega) _,(hN1.setRow _).setRowOther _ (by omega),hN3.setRow _⟩ ?_;have hsz2:=hB2.size;obtain ⟨G,hG⟩:∃q,w2.heap.size=q:=⟨_,rfl⟩
 rw [hG] at hsz2 ⊢
 clear hN1 hN2 hN3 hb1 hb2 hB2 h2 h2' hG;rintro W3 ⟨hB3,hG1,hG2⟩;have hx3:=(hx.below hB3).below (Below.refl _ _).drew;have hB3d:Below w.heap.size w W3.drew:=hB3.drew;have hG1d:=hG1.drew;have hG2d:=hG2.drew;refine ag (fun _=>True) 10 (by kernel_rfl) ?_;have hS:(fun _:World=>True) W3.drew:=trivial;refine gaA 0 _ hS ?_;simp only [zp];refine gaA 1 _ hS ?_;simp only [zp];refine gaA 3 _ hS ?_;simp only [zp];refine gaA 4 _ hS ?_;simp only [zp];refine gaA 6 _ hS ?_;simp only [zp];refine gaA 7 _ hS ?_;simp only [zp];obtain ⟨W4,hW4⟩:∃W,W=W3.drew:=⟨_,rfl⟩
 rw [←hW4] at hx3 hB3d hG1d hG2d ⊢
 clear hG1 hG2 hB3 hW4;have hy4:=hy.below hB3d;refine zw 2 fun K hK=>?_
 go_wp2_with (go_at_call 160;refine (ff1 _ hx3).mono ?_;rintro e w5 ⟨rfl,hZ5,hb5⟩)
 have hy5:=hy4.below hb5;clear hy4;refine hK.out _ _ (fun _=>hS) ?_;clear hK K;refine zw 5 fun K hK=>?_
 go_wp2_with (go_at_call 160;refine (ff2 _ hy5).mono ?_;rintro e w6 ⟨rfl,hZ6,hb6⟩)
 have hb46:Below W4.heap.size W4 w6:=hb5.trans (hb6.mono hb5.size);have hZ56:=hZ5.below hb6 hZ5.lt;have hx6:=hx3.below hb46;have hy6:=hy5.below hb6;have hG16:=hG1d.below hb46 hG1d.lt;have hG26:=hG2d.below hb46 hG2d.lt;have hB6:Below w.heap.size w w6:=hB3d.trans (hb46.mono hB3d.size);clear hZ5 hy5 hx3 hG1d hG2d;refine hK.out _ _ (fun _=>hS) ?_;clear hK K;obtain ⟨f1,hf1⟩:∃q,W4.heap.size=q:=⟨_,rfl⟩
 obtain ⟨f2,hf2⟩:∃q,w5.heap.size=q:=⟨_,rfl⟩
 rw [hf1] at hZ56 ⊢
 rw [hf2] at hZ6 ⊢
 have hPA:=aQ.new w6 41 [⟨x,len,cap,o⟩,⟨some ⟨f1,0,none⟩,F1,F1,aR F1⟩,⟨y,lb,cb,s⟩,⟨some ⟨f2,0,none⟩,F2,F2,aR F2⟩,⟨some ⟨G,0,none⟩,8,8,A⟩,⟨some ⟨G+1,0,none⟩,8,8,B⟩] (xL _ _ _ _ _ _ hx6 (hZ56.bytes hZ1.symm (by omega)) hy6 (hZ6.bytes hZ2.symm (by omega)) (hG16.bytes hL1.symm (by omega)) (hG26.bytes hL2.symm (by omega)));have hj:=gd w6.heap.size 6 _ _ hPA rfl (by omega) (by unfold nO;rw [HF.out];exact HL.out);rw [HF.out] at hj
 have hB7:=hB6.alloc hB6.size (.cells #[Value.slice x len cap,.slice (some ⟨f1,0,none⟩) F1 F1,.slice y lb cb,.slice (some ⟨f2,0,none⟩) F2 F2,.slice (some ⟨G,0,none⟩) 8 8,.slice (some ⟨G+1,0,none⟩) 8 8] 41);have hsz7:=hB6.size;clear hPA hZ56 hZ6 hx6 hy6 hG16 hG26 hb46 hb5 hb6 hB3d ff1 ff2 hf1 hf2;refine zw 8 fun K hK=>?_
 go_simp;refine hK.out _ _ (fun _=>hS) ?_;clear hK K;refine zw 9 fun K hK=>?_
 go_wp2_with (go_at_call 77;refine hj.mono ?_;rintro e w8 ⟨v8,rfl,ho8,hb8⟩)
 refine hK.out _ _ (fun _=>hS) ?_;clear hK K;refine zw 10 fun K hK=>?_
 go_simp;refine hK.out _ _ zn ?_;clear hK K;refine al (by kernel_rfl) ?_ _;go_wp2;go_ret;exact ⟨_,rfl,ho8.lessG (by simp;omega),hB7.trans (hb8.mono hB7.size)⟩
theorem qq {P:Program} {ops:Array Oper} {rest:List Oper} {o:Oper} {a:Act} {w:World} {Q:Exit→Act→World→Prop} (hgd:o.guard=none) (ty:TypeId) (x:Operand) (ho:o.op=.load ty x)
    (g off:Nat) (hx:a.eval x=.pointer (some ⟨g,off,none⟩)) {k:IntKind} {l:List Int} (hg:w.rangeAt g off (l.map (Value.int k))) {n:Nat} {e:TypeId}
    (hu:P.underlying ty=some (.array n e)) (hi:(P.info? ty).map (·.size)=some n) (hl:l.length=n)
    (h:wpList P ops Q rest (a.put o.dst (.agg (row k l))) w):wpList P ops Q (o::rest) a w:=
 wpList_plain hgd fun _ hK=>wp_load_mid ty x ho g off hx (l.map (Value.int k)) _ hg hu rfl (by rw [hi,List.length_map,hl]) (hK _ _ h)
theorem aa.rangeSub {w:World} {g:Nat} {k:IntKind} {t:TypeId} {l:List Int} (h:aa w g k t l) (n:Nat):w.rangeAt g 0 ((l.take n).map (Value.int k)):=fun j v hv=>by
 rw [List.getElem?_map,List.getElem?_take] at hv
 refine h.rangeAll j v ?_;rw [List.getElem?_map]
 split at hv
 · exact hv
 · simp at hv
theorem eO:(Tryz.prog.info? 23).map (·.size)=some 32:=by kernel_rfl
theorem jf:(Tryz.prog.info? 79).map (·.size)=some 12:=by kernel_rfl
theorem je:(Tryz.prog.info? 120).map (·.size)=some 16:=by kernel_rfl
theorem sQ:(Tryz.prog.info? 157).map (·.size)=some 64:=by kernel_rfl
theorem oX (k n:List Int) (w:World) (hk:k.length=32) (hn:n.length=12):
    Calls Tryz.prog 122 #[.agg (row .u8 k),.agg (row .u8 n)] w fun e w'=>e=.returned (.agg (row .u8 (eR k n)))∧Below w.heap.size w w':=by
 have hblk:=fun wx=>nu k n 0 wx hk hn
 have hBl:=dz k n 0;have hOl:=ef k n;have HO:ac (eR k n=(cm k n 0).take 32):=⟨rfl⟩
 obtain ⟨B,hB⟩:∃q,cm k n 0=q:=⟨_,rfl⟩
 obtain ⟨O,hO⟩:∃q,eR k n=q:=⟨_,rfl⟩
 rw [hB] at hblk hBl HO
 rw [hO] at hOl HO ⊢
 have hK0:=((aa.new w .u8 23 k).alloc (.cells (row .u8 n) 79)).alloc (.cells (row .u8 (List.replicate 32 0)) 23);have hN0:=(aa.new (w.alloc (.cells (row .u8 k) 23)) .u8 79 n).alloc (.cells (row .u8 (List.replicate 32 0)) 23);have hR0:=aa.new ((w.alloc (.cells (row .u8 k) 23)).alloc (.cells (row .u8 n) 79)) .u8 23 (List.replicate 32 0);have hB0:Below w.heap.size w (((w.alloc (.cells (row .u8 k) 23)).alloc (.cells (row .u8 n) 79)).alloc (.cells (row .u8 (List.replicate 32 0)) 23)):=(((Below.refl _ _).alloc (Nat.le_refl _) _).alloc (by simp) _).alloc (by simp;omega) _;rw [World.size_alloc] at hN0 hR0
 rw [World.size_alloc] at hR0
 clear hB hO;go_enter Tryz.func122,Tryz.ntmps122;go_upto_region 1 with fail
 refine af (p:=fun y=>Code.wp _ _ _ _ y) (fun W0=>Below w.heap.size w W0∧aa W0 w.heap.size .u8 23 k∧aa W0 (w.heap.size+1) .u8 79 n∧aa W0 (w.heap.size+1+1) .u8 23 (List.replicate 32 0)) ⟨hB0,hK0,hN0,hR0⟩ ?_;clear hK0 hN0 hR0 hB0;rintro W0 ⟨hB0,hK0,hN0,hR0⟩;go_upto_region 2 with (first
  |(refine am rfl 23 _ rfl _ rfl hK0 Tryz.underlying23 eO hk ?_)
  |(refine am rfl 79 _ rfl _ rfl hN0 Tryz.underlying79 jf hn ?_)
  |(go_at_call 120;refine (hblk _).mono ?_;rintro e w1 ⟨rfl,hb1⟩;have hN1:=aa.new w1 .u8 157 (List.replicate 64 0))
  |(refine ah rfl 157 _ _ rfl _ rfl rfl hN1 (by rw [hBl];exact sQ) (by simp [hBl]) ?_))
 have hB1:Below w.heap.size w w1:=hB0.trans (hb1.mono hB0.size);have hR1:=hR0.below hb1 hR0.lt;have hlt:=hR1.lt;have hlt0:=hR0.lt;have hG2:=hN1.setRow B;have hR2:=(hR1.alloc (.cells (row .u8 (List.replicate 64 0)) 157)).setRowOther (g':=w1.heap.size) (row .u8 B) (by omega);have hB2:=below_setRow (g:=w1.heap.size) (hB1.alloc hB1.size (.cells (row .u8 (List.replicate 64 0)) 157)) hB1.size (row .u8 B);refine af (p:=fun y=>Code.wp _ _ _ _ y) (fun W2=>Below w.heap.size w W2∧aa W2 w1.heap.size .u8 157 B∧aa W2 (w.heap.size+1+1) .u8 23 (List.replicate 32 0)) ⟨hB2,hG2,hR2⟩ ?_;obtain ⟨G,hG⟩:∃q,w1.heap.size=q:=⟨_,rfl⟩
 rw [hG];clear hB1 hR1 hlt hlt0 hG2 hR2 hB2 hN1 hb1 hB0 hK0 hN0 hR0 hG hblk;rintro W2 ⟨hB2,hG2,hR2⟩;have hat:∀(b off cap:Nat) (wx:World),(Instr.arrayAt 23 (.slice (some ⟨b,off,none⟩) 32 cap)).run Tryz.prog wx=.ok (.pointer (some ⟨b,off,none⟩)) wx:=fun b off cap wx=>run_arrayAt wx 23 _ 32 _ 32 cap Tryz.underlying23 (by omega)
 have hrg:=hG2.rangeSub 32;rw [←HO.out] at hrg
 go_wp2_with (first
  |(refine qq rfl 23 _ rfl _ _ rfl hrg Tryz.underlying23 eO hOl ?_)
  |(refine ah rfl 23 _ _ rfl _ rfl rfl hR2 (by rw [hOl];exact eO) (by simp [hOl]) ?_))
 refine bodyPost_ret (aj (Tryz.results122) _ rfl (hR2.setRow _) Tryz.underlying23 eO hOl) rfl ⟨rfl,?_⟩;exact below_setRow hB2 (by omega) _
theorem j8 (k n:List Int) (x:Option Addr) (len cap:Nat) (o:List Int) (y:Option Addr) (lb cb:Nat) (s:List Int) (w:World) (hk:k.length=32) (hn:n.length=12) (hx:Bytes w x len cap o) (hy:Bytes w y lb cb s) (hl1:len≤100000) (hl2:lb≤100000):
    Calls Tryz.prog 76 #[.agg (row .u8 k),.agg (row .u8 n),.slice x len cap,.slice y lb cb] w fun e w'=>e=.returned (.agg (row .u8 (tagL k n o s)))∧Below w.heap.size w w':=by
 have hon:=fun wx=>oX k n wx hk hn
 have hOl:=ef k n;have hTl:(tagL k n o s).length=16:=cT _ _;have HL:ac ((bg o s).length≤1000000):=⟨by rw [e9,←hx.len_eq,←hy.len_eq];have:=dg len;have:=dg lb;omega⟩
 have hfr:=fun wx (hb:Below w.heap.size w wx)=>qR x len cap o y lb cb s wx (hx.below hb) (hy.below hb) hl1 hl2
 have hps:∀(v:Value) (base:Nat) (wx:World),aq wx base v (bg o s)→Calls Tryz.prog 121 #[.agg (row .u8 (eR k n)),v] wx fun e w'=>e=.returned (.agg (row .u8 (tagL k n o s)))∧Below wx.heap.size wx w':=fun v base wx ho=>by
  obtain ⟨x',n',c',rfl,hn'⟩:=ho.isSlice;exact uS (eR k n) x' n' c' (bg o s) wx hOl ho.bytes.2 (by rw [hn'];exact HL.out)
 obtain ⟨O,hO⟩:∃q,eR k n=q:=⟨_,rfl⟩
 obtain ⟨T,hT⟩:∃q,tagL k n o s=q:=⟨_,rfl⟩
 obtain ⟨F,hF⟩:∃q,bg o s=q:=⟨_,rfl⟩
 rw [hO] at hon hps
 rw [hT] at hps hTl ⊢
 rw [hF] at hfr hps
 have hK0:=((aa.new w .u8 23 k).alloc (.cells (row .u8 n) 79)).alloc (.cells (row .u8 (List.replicate 16 0)) 120);have hN0:=(aa.new (w.alloc (.cells (row .u8 k) 23)) .u8 79 n).alloc (.cells (row .u8 (List.replicate 16 0)) 120);have hR0:=aa.new ((w.alloc (.cells (row .u8 k) 23)).alloc (.cells (row .u8 n) 79)) .u8 120 (List.replicate 16 0);have hB0:Below w.heap.size w (((w.alloc (.cells (row .u8 k) 23)).alloc (.cells (row .u8 n) 79)).alloc (.cells (row .u8 (List.replicate 16 0)) 120)):=(((Below.refl _ _).alloc (Nat.le_refl _) _).alloc (by simp) _).alloc (by simp;omega) _;rw [World.size_alloc] at hN0 hR0
 rw [World.size_alloc] at hR0
 clear hO hT hF HL hOl hx hy;go_enter Tryz.func76,Tryz.ntmps76;go_upto_region 1 with fail
 refine af (p:=fun y=>Code.wp _ _ _ _ y) (fun W0=>Below w.heap.size w W0∧aa W0 w.heap.size .u8 23 k∧aa W0 (w.heap.size+1) .u8 79 n∧aa W0 (w.heap.size+1+1) .u8 120 (List.replicate 16 0)) ⟨hB0,hK0,hN0,hR0⟩ ?_;clear hK0 hN0 hR0 hB0;rintro W0 ⟨hB0,hK0,hN0,hR0⟩
 go_wp2_with (first
  |(refine am rfl 23 _ rfl _ rfl hK0 Tryz.underlying23 eO hk ?_)
  |(refine am rfl 79 _ rfl _ rfl hN0 Tryz.underlying79 jf hn ?_)
  |(go_at_call 122;refine (hon _).mono ?_;rintro e w1 ⟨rfl,hb1⟩;have hB1:Below w.heap.size w w1:=hB0.trans (hb1.mono hB0.size))
  |(go_at_call 123;refine (hfr _ hB1).mono ?_;rintro e w2 ⟨v2,rfl,ho2,hb2⟩;have hs2:=hps v2 _ w2 ho2)
  |(go_at_call 121;refine hs2.mono ?_;rintro e w3 ⟨rfl,hb3⟩;have hB13:Below W0.heap.size W0 w3:=(hb1.trans (hb2.mono hb1.size)).trans (hb3.mono (hb1.trans (hb2.mono hb1.size)).size);have hR3:=hR0.below hB13 hR0.lt)
  |(refine ah rfl 120 _ _ rfl _ rfl rfl hR3 (by rw [hTl];exact je) (by simp [hTl]) ?_))
 refine bodyPost_ret (aj (Tryz.results76) _ rfl (hR3.setRow _) Tryz.underlying120 je hTl) rfl ⟨rfl,?_⟩;exact below_setRow (hB0.trans (hB13.mono hB0.size)) (by omega) _
theorem vR (k n:List Int) (x:Option Addr) (len cap:Nat) (o:List Int) (y:Option Addr) (lb cb:Nat) (b:List Int) (w:World) (hk:k.length=32) (hn:n.length=12) (hx:Bytes w x len cap o) (hy:Bytes w y lb cb b) (hl1:len≤100000) (hl2:lb≤100000):
    Calls Tryz.prog 33 #[.agg (row .u8 k),.agg (row .u8 n),.slice x len cap,.slice y lb cb] w fun e w'=>∃v,e=.returned v∧aq w' w.heap.size v (dK k n o b)∧Below w.heap.size w w':=by
 have hxor:=fun wx (hb:Below w.heap.size w wx)=>ow k n 1 y lb cb b wx hk hn ⟨by decide,by decide⟩ (hy.below hb) (by omega)
 have hXl:(cG k n 1 b).length=lb:=by rw [bd];exact hy.len_eq.symm
 have HSE:ac (∀p0 p1,cD [⟨p0,lb,lb,cG k n 1 b⟩,⟨p1,16,16,tagL k n o (cG k n 1 b)⟩]=dK k n o b):=⟨fun p0 p1=>by simp [cD,dK]⟩
 have hTl:(tagL k n o (cG k n 1 b)).length=16:=cT _ _;have HSL:ac ((dK k n o b).length≤1000000):=⟨by unfold dK;rw [List.length_append,hXl,hTl];omega⟩
 have htag:=fun (g:Nat) wx (hb:Below w.heap.size w wx) (hh:Bytes wx (some ⟨g,0,none⟩) lb lb (cG k n 1 b))=>j8 k n x len cap o (some ⟨g,0,none⟩) lb lb (cG k n 1 b) wx hk hn (hx.below hb) hh hl1 hl2
 obtain ⟨X,hX⟩:∃q,cG k n 1 b=q:=⟨_,rfl⟩
 rw [hX] at hxor hXl HSE hTl htag
 obtain ⟨T,hT⟩:∃q,tagL k n o X=q:=⟨_,rfl⟩
 rw [hT] at HSE hTl htag
 have hK0:=(aa.new w .u8 23 k).alloc (.cells (row .u8 n) 79);have hN0:=aa.new (w.alloc (.cells (row .u8 k) 23)) .u8 79 n;have hB0:Below w.heap.size w ((w.alloc (.cells (row .u8 k) 23)).alloc (.cells (row .u8 n) 79)):=((Below.refl _ _).alloc (Nat.le_refl _) _).alloc (by simp) _;rw [World.size_alloc] at hN0
 clear hX hT hx hy;go_enter Tryz.func33,Tryz.ntmps33;go_upto_region 1 with fail
 refine af (p:=fun y=>Code.wp _ _ _ _ y) (fun W0=>Below w.heap.size w W0∧aa W0 w.heap.size .u8 23 k∧aa W0 (w.heap.size+1) .u8 79 n) ⟨hB0,hK0,hN0⟩ ?_;clear hK0 hN0 hB0;rintro W0 ⟨hB0,hK0,hN0⟩;go_upto_region 2 with (first
  |(refine am rfl 23 _ rfl _ rfl hK0 Tryz.underlying23 eO hk ?_)
  |(refine am rfl 79 _ rfl _ rfl hN0 Tryz.underlying79 jf hn ?_)
  |(go_at_call 75;refine (hxor _ hB0).mono ?_;rintro e w1 ⟨g1,rfl,hg1,hH1,hb1⟩))
 have hB1:Below w.heap.size w w1:=hB0.trans (hb1.mono hB0.size);have hK1:=hK0.below hb1 hK0.lt;have hN1:=hN0.below hb1 hN0.lt;have hBy1:Bytes w1 (some ⟨g1,0,none⟩) lb lb X:=hH1.bytes hXl.symm (by omega);have htg:=htag g1 w1 hB1 hBy1;clear hxor htag hK0 hN0;go_upto_region 3 with (first
  |(refine am rfl 23 _ rfl _ rfl hK1 Tryz.underlying23 eO hk ?_)
  |(refine am rfl 79 _ rfl _ rfl hN1 Tryz.underlying79 jf hn ?_)
  |(go_at_call 76;refine htg.mono ?_;rintro e w2 ⟨rfl,hb2⟩;have hA2:=aa.new w2 .u8 120 (List.replicate 16 0))
  |(refine ah rfl 120 _ _ rfl _ rfl rfl hA2 (by rw [hTl];exact je) (by simp [hTl]) ?_))
 have hB2:Below w.heap.size w w2:=hB1.trans (hb2.mono hB1.size);have hBy2:=hBy1.below hb2;have hB3:=below_setRow (g:=w2.heap.size) (hB2.alloc hB2.size (.cells (row .u8 (List.replicate 16 0)) 120)) hB2.size (row .u8 T);have hBy3:Bytes ((w2.alloc (.cells (row .u8 (List.replicate 16 0)) 120)).setRow w2.heap.size (row .u8 T)) (some ⟨g1,0,none⟩) lb lb X:=hBy2.below (below_setRow ((Below.refl _ _).alloc (Nat.le_refl _) _) (Nat.le_refl _) _);refine af (p:=fun y=>Code.wp _ _ _ _ y) (fun W3=>Below w.heap.size w W3∧aa W3 w2.heap.size .u8 120 T∧Bytes W3 (some ⟨g1,0,none⟩) lb lb X) ⟨hB3,hA2.setRow _,hBy3⟩ ?_;obtain ⟨G,hG⟩:∃q,w2.heap.size=q:=⟨_,rfl⟩
 rw [hG];clear hB2 hBy2 hB3 hBy3 hA2 hb2 hB1 hK1 hN1 hBy1 htg hb1 hH1 hg1 hB0 hG;rintro W3 ⟨hB3,hG3,hBy3⟩;have hPA:=aQ.new W3 41 [⟨some ⟨g1,0,none⟩,lb,lb,X⟩,⟨some ⟨G,0,none⟩,16,16,T⟩] (xW _ _ hBy3 (hG3.bytes hTl.symm (by omega)));have hj:=gd W3.heap.size 2 _ _ hPA rfl (by omega) (by unfold nO;rw [HSE.out];exact HSL.out);rw [HSE.out] at hj
 have hB4:=hB3.alloc hB3.size (.cells #[Value.slice (some ⟨g1,0,none⟩) lb lb,.slice (some ⟨G,0,none⟩) 16 16] 41);have hsz:=hB3.size;clear hPA hBy3 hG3 hB3
 go_wp2_with (go_at_call 77;refine hj.mono ?_;rintro e w5 ⟨v5,rfl,ho5,hb5⟩)
 go_ret;exact ⟨_,rfl,ho5.lessG (by simp;omega),hB4.trans (hb5.mono hB4.size)⟩
end Go.Proofs.YtbdhfbglagdiaaaGreatDoor
