/- Ft4 -/
import Derived.Test.YtbdhfbglagdiaaaGreatDoorJ46
import Derived.Test.YtbdhfbglagdiaaaGreatDoorJ37
import Derived.Test.YtbdhfbglagdiaaaGreatDoorJ47
import Derived.Test.YtbdhfbglagdiaaaGreatDoorJ38
import Derived.Test.YtbdhfbglagdiaaaGreatDoorJ44
import Derived.Test.YtbdhfbglagdiaaaGreatDoorJ32
import Derived.Test.YtbdhfbglagdiaaaGreatDoorJ36
namespace Go.Proofs.YtbdhfbglagdiaaaGreatDoor
open Go.RowKit
set_option maxRecDepth 20000
set_option maxHeartbeats 16000000
set_option linter.unusedSimpArgs false
theorem qP (wx:World):(Instr.build 43 #[]).run Tryz.prog wx=.ok (.agg dM.cells.toArray) wx:=run_build wx _ _ _ (by kernel_rfl)
theorem qL (own n ea es:Int) (prev:List Int) (hp:prev.length=32) (wx:World):(Instr.build 43 #[(0,.int .u8 own),(1,.int .u32 n),(2,.agg (dotC ea es).toArray),(3,.agg (prev.map (Value.int .u8)).toArray)]).run Tryz.prog wx=.ok (.agg (fr0 own n ea es prev (.slice none 0 0)).cells.toArray) wx:=by
 match prev,hp with
 |[a0,a1,a2,a3,a4,a5,a6,a7,a8,a9,a10,a11,a12,a13,a14,a15,a16,a17,a18,a19,a20,a21,a22,a23,a24,a25,a26,a27,a28,a29,a30,a31],_=>exact run_build wx _ _ _ (by kernel_rfl)
theorem xh (F:Fr) (v:Value) (hp:F.prev.length=32):F.cells.set 36 v=({F with wraps:=v}:Fr).cells:=by
 have e0:∀G:Fr,G.cells=([.int .u8 G.author,.int .u32 G.number]++dotC G.ea G.es++G.prev.map (Value.int .u8))++([G.wraps,G.body]++G.mac.map (Value.int .u8)):=fun G=>by unfold Fr.cells;simp only [List.append_assoc]
 have hl:(([.int .u8 F.author,.int .u32 F.number]:List Value)++dotC F.ea F.es++F.prev.map (Value.int .u8)).length=36:=by simp [dotC,hp]
 rw [e0 F,e0 _,List.set_append_right _ _ (by omega),hl];rfl
theorem t7 (x:Option Addr) (n c:Nat) (ws:List Wp) (w:World) (h:WrapsAt w x n c ws) (hl:n≤1000) (ty:TypeId):
    ∃x' c' w',(Builtin.append_ #[27,27] ty #[.slice none 0 0,.slice x n c]).run Tryz.prog w=.ok (.slice x' n c') w'∧(∀w2:World,(∀k,w.heap.size≤k→k<w'.heap.size→w2.heap[k]?=w'.heap[k]?)→WrapsAt w2 x' n c' ws)∧Below w.heap.size w w':=by
 have hn:=h.len_eq;obtain ⟨i0,hi,hz0,hz1,hz2⟩:=info_parts nA;cases x with
 |none=>
  have hc:=h.nil rfl;have hle:=h.le;obtain rfl:n=0:=by omega
  subst hc;refine ⟨none,0,w,run_append_owned_none (P:=Tryz.prog) (w:=w) w.heap.size 27 ty 68 i0 51 Tryz.underlying27 hi (.slice none 0 0) 0 [] (World.ownsRow_nil w _ _ 51),fun w2 _=>⟨hn,by omega,by omega,fun _=>rfl,h.ok,.inl rfl⟩,Below.refl _ _⟩
 |some ad=>
  have hall:∀c∈ws.map Wp.cells,c.length=51:=fun c hc=>by
   obtain ⟨e,he,rfl⟩:=List.mem_map.1 hc;exact (wp_parts e (h.ok e he)).1
  have hsrc:∀j u,(ws.map Wp.cells).flatten[j]?=some u→w.cell? (ad.add j)=some u:=by
   rcases h.at_ with h0|⟨b,off,hx,hc⟩
   · have:ws=[]:=List.length_eq_zero_iff.1 (by omega)
     subst this;intro j u hu;simp at hu
   · cases hx
     exact nf h.ok hc
  have hone:∀u∈(ws.map Wp.cells).flatten,u.oneCell'=true:=fun u hu=>by
   obtain ⟨l,hl,hu⟩:=List.mem_flatten.1 hu;obtain ⟨e,he,rfl⟩:=List.mem_map.1 hl;exact (wp_parts e (h.ok e he)).2.2.2.2 u hu
  obtain ⟨v1,w1,hr1,h2,h3,_,_⟩:=run_append_own_at (P:=Tryz.prog) w w.heap.size 27 ty 68 i0 _ 51 60 Tryz.underlying27 hi hz0 hz1 hz2 (by rfl) (by decide) (.slice none 0 0) 0 [] (World.ownsRow_nil w _ _ 51) ad n c (ws.map Wp.cells).flatten (by rw [jE _ hall,List.length_map,hn]) hsrc hone (by simp [maxLen];omega) (by omega) (Nat.le_refl _);have hb1:Below w.heap.size w w1:=(Below.refl _ _).grown h3 (Nat.le_refl _) (fun k hk=>by cases hk);have hown:dL w1 w.heap.size 68 51 v1 (ws.map Wp.cells):=⟨by rw [List.length_map,←hn];simpa using h2,hall⟩
  have HW:∃x' c',v1=.slice x' n c'∧∀w2:World,(∀k,w.heap.size≤k→k<w1.heap.size→w2.heap[k]?=w1.heap[k]?)→WrapsAt w2 x' n c' ws:=by
   have hok:=h.ok
   rcases hown.own.2 with ⟨rfl,h0⟩|⟨g,cap',cur,hv,_,hg,hc,hm,hs,ht⟩
   · rw [List.length_map] at h0
     exact ⟨none,0,by rw [show n=0 by omega],fun w2 _=>⟨by omega,by omega,by omega,fun _=>rfl,hok,.inl (by omega)⟩⟩
   · rw [List.length_map,←hn] at hv hc
     refine ⟨some ⟨g,0,none⟩,cap',hv,fun w2 hk2=>⟨hn,hc,(by unfold maxLen at hm;omega),(fun h=>by cases h),hok,?_⟩⟩;refine .inr ⟨g,0,rfl,fun j hj=>?_⟩;rw [hv] at hown
     obtain ⟨g',hx',_,hr'⟩:=(hown.congr (w':=w2) fun q hq=>hk2 q (hown.blockLt q hq).2.1 (hown.blockLt q hq).1).at_ j (by rw [List.length_map];exact hj);cases hx';rw [List.getElem_map] at hr'
     rw [Nat.zero_add];exact hr'
  obtain ⟨x',c',rfl,hw⟩:=HW;exact ⟨x',c',w1,hr1,hw,hb1⟩
section
variable (base O:Nat) (own:Int) (seed:List Int) (v:Value) (L:List Ep) (w:World)
theorem t6 (hR:bw w base O own seed v L):
    Calls Tryz.prog 38 #[.pointer (some ⟨O,0,none⟩)] w fun e w'=>e=.returned (.int .u8 own)∧w'=w:=by
 have c0:w.cell? ⟨O,0,none⟩=some (.int .u8 own):=by rw [hR.box.cell];rfl
 go_enter Tryz.func38,Tryz.ntmps38;go_wp2;go_ret;exact ⟨rfl,rfl⟩
variable (n:Int) (xw:Option Addr) (lw cw:Nat) (ws:List Wp) (ea es:Int) (prev:List Int) (E:Ev)
theorem qG (hR:bw w base O own seed v L) (hws:WrapsAt w xw lw cw ws) (hWi:∀e∈ws,e.In) (hp:prev.length=32) (hpi:∀x∈prev,0≤x∧x≤255) (hnI:0≤n∧n≤4294967295) (hE:E.In) (ho:okD ea es) (hown:0≤own∧own≤255):
    Calls Tryz.prog 8 #[.pointer (some ⟨O,0,none⟩),.int .u32 n,.agg (row .u8 prev),.agg (dotC ea es).toArray,.slice xw lw cw,.agg E.cells.toArray] w fun e w'=>sn own seed (keyE L) n lw ws ea es prev E w e w'∧Below w.heap.size w w':=by
 obtain ⟨Z,hzv,hz1,hZ⟩:∃Z:List Value,(∀wx,(zeroValue 43).run Tryz.prog wx=.ok (.agg Z.toArray) wx)∧¬Z.toArray= #[]∧Z=dM.cells:=⟨dM.cells,fun wx=>by kernel_rfl,by decide,rfl⟩
 have iZ:(Tryz.prog.info? 43).map (·.size)=some Z.length:=by rw [hZ];kernel_rfl
 have h70:Z.length=70:=by rw [hZ];rfl
 have h1Z:∀v∈Z,v.oneCell'=true:=by rw [hZ];decide
 have HFZ:ac (∀wx,(Instr.build 43 #[]).run Tryz.prog wx=.ok (.agg Z.toArray) wx):=⟨fun wx=>by rw [hZ];exact qP wx⟩
 have HZ:=ac.mk hZ;clear hZ;have iF70:(Tryz.prog.info? 43).map (·.size)=some 70:=bU;obtain ⟨wI,hw3⟩:∃q,((w.alloc (.cells (row .u8 prev) 23)).alloc (.cells (dotC ea es).toArray 26)).alloc (.cells E.cells.toArray 33)=q:=⟨_,rfl⟩
 have hs3:wI.heap.size=w.heap.size+1+1+1:=by rw [←hw3];simp
 have hB3:Below w.heap.size w wI:=by rw [←hw3];exact (((Below.refl _ _).alloc (Nat.le_refl _) _).alloc (by simp) _).alloc (by simp;omega) _
 have x4:wI.rangeAt w.heap.size 0 (prev.map (Value.int .u8)):=by rw [←hw3];exact (((CellsAt.new w 23 (prev.map (Value.int .u8))).alloc _).alloc _).wholeM
 have x3:wI.rangeAt (w.heap.size+1) 0 (dotC ea es):=by
  have:=((CellsAt.new (w.alloc (.cells (row .u8 prev) 23)) 26 (dotC ea es)).alloc (.cells E.cells.toArray 33)).wholeM;rw [World.size_alloc] at this
  rw [←hw3];exact this
 have x5:wI.rangeAt (w.heap.size+1+1) 0 E.cells:=by
  have:=(CellsAt.new ((w.alloc (.cells (row .u8 prev) 23)).alloc (.cells (dotC ea es).toArray 26)) 33 E.cells).wholeM;rw [World.size_alloc,World.size_alloc] at this
  rw [←hw3];exact this
 obtain ⟨RS,hRS⟩:∃q,w.heap.size+1+1+1=q:=⟨_,rfl⟩
 have HRS:ac (wI.heap.size=RS∧w.heap.size≤RS):=⟨by omega,by omega⟩
 have hRS0:CellsAt (wI.alloc (.cells Z.toArray 43)) RS 43 Z:=by rw [←HRS.out.1];exact CellsAt.new wI _ _
 have hb0:Below RS wI (wI.alloc (.cells Z.toArray 43)):=(Below.refl _ _).alloc (by rw [HRS.out.1];exact Nat.le_refl _) _;have HB0:ac (∀W,Below RS wI W→Below w.heap.size w W):=⟨fun W h=>hB3.trans (h.mono HRS.out.2)⟩
 have HBB:ac (∀W,Below RS wI W→W.rangeAt (w.heap.size+1) 0 (dotC ea es)∧W.rangeAt w.heap.size 0 (prev.map (Value.int .u8))∧W.rangeAt (w.heap.size+1+1) 0 E.cells):=⟨fun W h=>by
  have h':Below wI.heap.size wI W:=by rw [HRS.out.1];exact h
  exact ⟨aN x3 h',aN x4 h',aN x5 h'⟩⟩
 have HSZ:ac (∀W,Below RS wI W→RS≤W.heap.size):=⟨fun W h=>by have:=h.size;have:=HRS.out.1;omega⟩
 have HR:ac (∀W,Below RS wI W→bw W base O own seed v L):=⟨fun W h=>(hR.far hB3).far (by rw [HRS.out.1];exact h)⟩
 have HWS:ac (∀W,Below RS wI W→WrapsAt W xw lw cw ws):=⟨fun W h=>(hws.below hB3).below (by rw [HRS.out.1];exact h)⟩
 have HPRE:ac (prev.length=32∧E.In∧okD ea es∧(0≤own∧own≤255)∧(∀e∈ws,e.In)∧(∀x∈prev,0≤x∧x≤255)∧(0≤n∧n≤4294967295)):=⟨hp,hE,ho,hown,hWi,hpi,hnI⟩
 have HLW:=ac.mk hws.len_eq;have HMB:ac (fU n=true↔(n≠0∧n≤256)):=⟨by unfold fU;simp;omega⟩
 have HSE0:ac (ba n lw E own (keyE L ea es)=if fU n=true∧lw≤64 then (if (rightB E&&((E.da==own)&&(E.ds==n)))=true then (if own<8 then (match keyE L ea es with|none=>9|some _=>0) else 2) else 3) else 2):=⟨rfl⟩
 clear hs3 x3 x4 x5 hR hws hWi hp hpi hE ho hown hB3;go_enter Tryz.func8,Tryz.ntmps8;go_upto_region 1 with fail
 rw [HRS.out.1];refine af (p:=fun y=>Code.wp _ _ _ _ y) (fun W=>Below RS wI W∧CellsAt W RS 43 Z) ⟨hb0,hRS0⟩ ?_;have HZV:=ac.mk (And.intro hzv hz1);clear hb0 hRS0 hzv hz1 hw3;rintro W ⟨hB,hRZ⟩;obtain ⟨b4,hb4⟩:∃q,w.heap.size=q:=⟨_,rfl⟩
 obtain ⟨b3,hb3⟩:∃q,w.heap.size+1=q:=⟨_,rfl⟩
 obtain ⟨b5,hb5⟩:∃q,w.heap.size+1+1=q:=⟨_,rfl⟩
 rw [hb5,hb3,hb4];rw [hb5,hb3,hb4] at HBB
 clear hb5 hb3 hb4 hRS
 by_cases hn0:n=0
 · have HN:ac (ba n lw E own (keyE L ea es)=2):=⟨by rw [HSE0.out,if_neg (fun q=>(HMB.out.1 q.1).1 hn0)]⟩
   subst hn0
   go_wp2_with (first
    |(refine aG rfl 43 _ rfl #[] (by first|rfl|kernel_rfl) _ (HFZ.out _) ?_)
    |(refine aw rfl 43 _ _ rfl RS rfl rfl hRZ iZ rfl h1Z ?_))
   refine bodyPost_ret (aK (Tryz.results8) _ rfl rfl (hRZ.setRow Z) Tryz.underlying43 rfl iZ) rfl ⟨Or.inl ⟨by rw [HN.out];decide,by rw [HN.out,HZ.out];rfl⟩,?_⟩;exact HB0.out _ (below_setRow hB (Nat.le_refl _) _)
 have e0:(n==0)=false:=by simpa using hn0
 by_cases h256:n>256
 · have d256:decide (n>256)=true:=decide_eq_true h256
   have HN:ac (ba n lw E own (keyE L ea es)=2):=⟨by rw [HSE0.out,if_neg (fun q=>by have:=(HMB.out.1 q.1).2;omega)]⟩
   go_wp2_with (first
    |(refine aG rfl 43 _ rfl #[] (by first|rfl|kernel_rfl) _ (HFZ.out _) ?_)
    |(refine aw rfl 43 _ _ rfl RS rfl rfl hRZ iZ rfl h1Z ?_))
   refine bodyPost_ret (aK (Tryz.results8) _ rfl rfl (hRZ.setRow Z) Tryz.underlying43 rfl iZ) rfl ⟨Or.inl ⟨by rw [HN.out];decide,by rw [HN.out,HZ.out];rfl⟩,?_⟩;exact HB0.out _ (below_setRow hB (Nat.le_refl _) _)
 have d256:decide (n>256)=false:=decide_eq_false h256
 by_cases h64:lw≤64
 rotate_left
 · have l64:(64:Int)<(lw:Int):=by omega
   have d64:decide ((lw:Int)>64)=true:=by simp;omega
   have HN:ac (ba n lw E own (keyE L ea es)=2):=⟨by rw [HSE0.out,if_neg (fun q=>h64 q.2)]⟩
   go_wp2_with (first
    |(refine aG rfl 43 _ rfl #[] (by first|rfl|kernel_rfl) _ (HFZ.out _) ?_)
    |(refine aw rfl 43 _ _ rfl RS rfl rfl hRZ iZ rfl h1Z ?_))
   refine bodyPost_ret (aK (Tryz.results8) _ rfl rfl (hRZ.setRow Z) Tryz.underlying43 rfl iZ) rfl ⟨Or.inl ⟨by rw [HN.out];decide,by rw [HN.out,HZ.out];rfl⟩,?_⟩;exact HB0.out _ (below_setRow hB (Nat.le_refl _) _)
 have l64:¬(64:Int)<(lw:Int):=by omega
 have d64:decide ((lw:Int)>64)=false:=by simp;omega
 have HSE1:ac (ba n lw E own (keyE L ea es)=if (rightB E&&((E.da==own)&&(E.ds==n)))=true then (if own<8 then (match keyE L ea es with|none=>9|some _=>0) else 2) else 3):=⟨by rw [HSE0.out,if_pos ⟨HMB.out.2 ⟨hn0,by omega⟩,h64⟩]⟩
 go_upto_region 5 with fail
 clear e0 d256 l64 d64 h256 hn0 HSE0 HMB;have HRT:ac (∀V,Calls Tryz.prog 37 #[.agg E.cells.toArray] V fun x w'=>x=.returned (.bool (rightB E))∧Below V.heap.size V w'):=⟨fun V=>by
  have h:=HPRE.out.2.1;exact qT E V h.plen h.da.1 h.ds.1 (by have:=h.ds.2;omega) h.pa.1 h.ps.1⟩
 have HOW:ac (∀V,Below RS wI V→Calls Tryz.prog 38 #[.pointer (some ⟨O,0,none⟩)] V fun e w'=>e=.returned (.int .u8 own)∧w'=V):=⟨fun V h=>t6 base O own seed v L V (HR.out V h)⟩
 have hTT:∀V,Below RS wI V→V.rangeAt b5 0 E.cells∧V.cell? ⟨b5,0,none⟩=some (.int .u8 E.da)∧V.cell? ⟨b5,1,none⟩=some (.int .u32 E.ds):=fun V h=>by
  have q:=(HBB.out V h).2.2;exact ⟨q,by have:=q 0 (.int .u8 E.da) rfl;simpa using this,by have:=q 1 (.int .u32 E.ds) rfl;simpa using this⟩
 have iE:=cZ E HPRE.out.2.1.plen;have uE:=Tryz.underlying33;obtain ⟨rb,hrb⟩:∃q,rightB E=q:=⟨_,rfl⟩
 obtain ⟨da,hda0⟩:∃q,E.da=q:=⟨_,rfl⟩
 obtain ⟨ds,hds0⟩:∃q,E.ds=q:=⟨_,rfl⟩
 obtain ⟨EC,hEC⟩:∃q,E.cells=q:=⟨_,rfl⟩
 rw [hrb] at HRT HSE1
 rw [hda0] at HSE1 hTT
 rw [hds0] at HSE1 hTT
 rw [hEC] at HRT hTT iE HBB ⊢
 have HEC:=ac.mk hEC;clear hrb hda0 hds0 hEC;have HTT:=ac.mk hTT;clear hTT;have hBd:=hB.drew;have hZd:=hRZ.congr (w':=W.drew) rfl;refine au (fun w'=>w'.rangeAt b5 0 EC∧w'.cell? ⟨b5,0,none⟩=some (.int .u8 da)∧w'.cell? ⟨b5,1,none⟩=some (.int .u32 ds)) (fun _=>True) 99 (by kernel_rfl) ?_;have hT:(fun w':World=>w'.rangeAt b5 0 EC∧w'.cell? ⟨b5,0,none⟩=some (.int .u8 da)∧w'.cell? ⟨b5,1,none⟩=some (.int .u32 ds)) W.drew:=HTT.out _ hBd;have hS:=trivial;refine zh 0 37 33 11 b5 0 EC hT hS (fun _ h=>h.1) uE iE ?_;simp only [zp];refine zm 1 fun K hK=>?_
 refine aC _ _ (by kernel_rfl) ((HRT.out W.drew).mono ?_);rintro e W1 ⟨rfl,hb1⟩;refine ⟨_,rfl,?_⟩;have hB2:=hBd.trans (hb1.mono (HSZ.out _ hBd));have hZ2:=hZd.farM hb1;replace hT:(fun w':World=>w'.rangeAt b5 0 EC∧w'.cell? ⟨b5,0,none⟩=some (.int .u8 da)∧w'.cell? ⟨b5,1,none⟩=some (.int .u32 ds)) W1:=HTT.out _ hB2;clear hBd hZd hb1 hB hRZ;refine hK.out _ _ hT (fun _=>hS) ?_;clear hK K
 try simp only [zp]
 cases rb with
 |false=>
  have HN:ac (ba n lw E own (keyE L ea es)=3):=⟨by rw [HSE1.out];rfl⟩
  refine ghA 2 _ hT hS ?_;simp only [zp];refine ghA 3 _ hT hS ?_;simp only [zp];refine gs 4 hT hS ?_;simp only [zp];refine gs 5 hT hS ?_;simp only [zp];refine gs 6 hT hS ?_;simp only [zp];refine gs 7 hT hS ?_;simp only [zp];refine gs 8 hT hS ?_;simp only [zp];refine gs 9 hT hS ?_;simp only [zp];refine ghA 10 _ hT hS ?_;simp only [zp];refine ghA 11 _ hT hS ?_;simp only [zp];refine gs 12 hT hS ?_;simp only [zp];refine gs 13 hT hS ?_;simp only [zp];refine gs 14 hT hS ?_;simp only [zp];refine gs 15 hT hS ?_;simp only [zp];refine gs 16 hT hS ?_;simp only [zp];refine ghA 17 _ hT hS ?_;simp only [zp];refine ghA 18 _ hT hS ?_;simp only [zp];refine az (by kernel_rfl) ?_ _;clear hT hS
  go_wp2_with (first
   |(refine aG rfl 43 _ rfl #[] (by first|rfl|kernel_rfl) _ (HFZ.out _) ?_)
   |(refine aw rfl 43 _ _ rfl RS rfl rfl hZ2 iZ rfl h1Z ?_))
  refine bodyPost_ret (aK (Tryz.results8) _ rfl rfl (hZ2.setRow Z) Tryz.underlying43 rfl iZ) rfl ⟨Or.inl ⟨by rw [HN.out];decide,by rw [HN.out,HZ.out];rfl⟩,?_⟩;exact HB0.out _ (below_setRow hB2 (Nat.le_refl _) _)
 |true=>
  refine ghA 2 _ hT hS ?_;simp only [zp];refine ghA 3 _ hT hS ?_;simp only [zp];refine ghA 4 _ hT hS ?_;simp only [zp];refine ghA 5 _ hT hS ?_;simp only [zp];refine ghA 6 _ hT hS ?_;simp only [zp];refine ghA 7 _ hT hS ?_;simp only [zp];refine zm 8 fun K hK=>?_
  refine aC _ _ (by kernel_rfl) ((HOW.out W1 hB2).mono ?_);rintro e W2 ⟨rfl,rfl⟩;refine ⟨_,rfl,?_⟩;refine hK.out _ _ hT (fun _=>hS) ?_;clear hK K
  try simp only [zp]
  by_cases hda:da=own
  rotate_left
  · have hq:(da==own)=false:=by simpa using hda
    have HN:ac (ba n lw E own (keyE L ea es)=3):=⟨by rw [HSE1.out,hq];rfl⟩
    refine ghA 9 (.bool true) hT hS ?_;simp only [zp];refine ghA 10 _ hT hS ?_;simp only [zp];refine ghA 11 _ hT hS ?_;simp only [zp];refine gs 12 hT hS ?_;simp only [zp];refine gs 13 hT hS ?_;simp only [zp];refine gs 14 hT hS ?_;simp only [zp];refine gs 15 hT hS ?_;simp only [zp];refine gs 16 hT hS ?_;simp only [zp];refine ghA 17 _ hT hS ?_;simp only [zp];refine ghA 18 _ hT hS ?_;simp only [zp];refine az (by kernel_rfl) ?_ _;clear hT hS
    go_wp2_with (first
     |(refine aG rfl 43 _ rfl #[] (by first|rfl|kernel_rfl) _ (HFZ.out _) ?_)
     |(refine aw rfl 43 _ _ rfl RS rfl rfl hZ2 iZ rfl h1Z ?_))
    refine bodyPost_ret (aK (Tryz.results8) _ rfl rfl (hZ2.setRow Z) Tryz.underlying43 rfl iZ) rfl ⟨Or.inl ⟨by rw [HN.out];decide,by rw [HN.out,HZ.out];rfl⟩,?_⟩;exact HB0.out _ (below_setRow hB2 (Nat.le_refl _) _)
  have hq:(da==own)=true:=by simpa using hda
  refine ghA 9 (.bool false) hT hS ?_;simp only [zp];refine ghA 10 _ hT hS ?_;simp only [zp];refine ghA 11 _ hT hS ?_;simp only [zp];refine ghA 12 _ hT hS ?_;simp only [zp];refine ghA 13 _ hT hS ?_;simp only [zp];refine ghA 14 _ hT hS ?_;simp only [zp];refine ghA 15 _ hT hS ?_;simp only [zp]
  by_cases hds:ds=n
  rotate_left
  · have hq2:(ds==n)=false:=by simpa using hds
    have HN:ac (ba n lw E own (keyE L ea es)=3):=⟨by rw [HSE1.out,hq,hq2];rfl⟩
    refine ghA 16 (.bool true) hT hS ?_;simp only [zp];refine ghA 17 _ hT hS ?_;simp only [zp];refine ghA 18 _ hT hS ?_;simp only [zp];refine az (by kernel_rfl) ?_ _;clear hT hS
    go_wp2_with (first
     |(refine aG rfl 43 _ rfl #[] (by first|rfl|kernel_rfl) _ (HFZ.out _) ?_)
     |(refine aw rfl 43 _ _ rfl RS rfl rfl hZ2 iZ rfl h1Z ?_))
    refine bodyPost_ret (aK (Tryz.results8) _ rfl rfl (hZ2.setRow Z) Tryz.underlying43 rfl iZ) rfl ⟨Or.inl ⟨by rw [HN.out];decide,by rw [HN.out,HZ.out];rfl⟩,?_⟩;exact HB0.out _ (below_setRow hB2 (Nat.le_refl _) _)
  have hq2:(ds==n)=true:=by simpa using hds
  have HSE2:ac (ba n lw E own (keyE L ea es)=(if own<8 then (match keyE L ea es with|none=>9|some _=>0) else 2)):=⟨by rw [HSE1.out,hq,hq2];rfl⟩
  refine ghA 16 (.bool false) hT hS ?_;simp only [zp];refine ghA 17 _ hT hS ?_;simp only [zp];refine ghA 18 _ hT hS ?_;simp only [zp];refine az (by kernel_rfl) ?_ _;clear hT hS hq hq2 hda hds HSE1 HTT HRT iE uE;have HFK:ac (∀V,Below RS wI V→Calls Tryz.prog 39 #[.pointer (some ⟨O,0,none⟩),.agg (dotC ea es).toArray,.int .u8 own] V fun e w'=>e=.returned (.tuple #[.agg (row .u8 (jM L ea es own)),.int .i64 (gR L ea es own)])∧Below V.heap.size V w'):=⟨fun V h=>wD base O own seed v L V ea es own (HR.out V h)⟩
  have HFN:ac ((gR L ea es own≠0∧ba n lw E own (keyE L ea es)=gR L ea es own)∨(gR L ea es own=0∧ba n lw E own (keyE L ea es)=0∧∃k,keyE L ea es=some k∧et k own=jM L ea es own)):=⟨by
   by_cases h8:8≤own
   · have e2:gR L ea es own=2:=by unfold gR;rw [if_pos h8]
     exact .inl ⟨by rw [e2];decide,by rw [HSE2.out,e2,if_neg (by omega)]⟩
   · cases hm:keyE L ea es with
     |none=>exact .inl ⟨by rw [sf h8 hm];decide,by rw [←hm,HSE2.out,if_pos (by omega),sf h8 hm,hm]⟩
     |some k=>exact .inr ⟨vP h8 hm,by rw [←hm,HSE2.out,if_pos (by omega),hm],k,rfl,(vH h8 hm).symm⟩⟩
  have hFl:(jM L ea es own).length=32:=by
   unfold jM
   split
   · simp
   · cases keyE L ea es with
     |none=>simp
     |some k=>exact aV _ _
  clear HSE2;obtain ⟨FK,hFK⟩:∃q,jM L ea es own=q:=⟨_,rfl⟩
  obtain ⟨FN,hFN⟩:∃q,gR L ea es own=q:=⟨_,rfl⟩
  rw [hFK] at HFK HFN hFl
  rw [hFN] at HFK HFN
  clear hFK hFN;have iFK:(Tryz.prog.info? 23).map (·.size)=some (FK.map (Value.int .u8)).length:=by rw [List.length_map,hFl];exact ap
  have HFL:=ac.mk hFl;clear hFl;have uD:=Tryz.underlying26;have uK:=Tryz.underlying23;have uF:=Tryz.underlying43;have iD:(Tryz.prog.info? 26).map (·.size)=some (dotC ea es).length:=sizeDot;obtain ⟨ZK,hzv,hz1,hZKl⟩:∃Y:List Int,(∀wx,(zeroValue 23).run Tryz.prog wx=.ok (.agg (row .u8 Y)) wx)∧¬(row .u8 Y)= #[]∧Y.length=32:=⟨List.replicate 32 0,fun wx=>by kernel_rfl,by decide,rfl⟩
  go_upto_region 7 with fail
  refine lP (fun AC V=>∃(KB:Nat) (u:Nat→Value),AC=⟨#[.pointer (some ⟨O,0,none⟩),.int .u32 n,u 2,u 3,.slice xw lw cw,u 5,u 6,u 7,.pointer (some ⟨b4,0,none⟩),.pointer (some ⟨b3,0,none⟩),u 10,.pointer (some ⟨b5,0,none⟩),.pointer (some ⟨RS,0,none⟩),u 13,.pointer (some ⟨KB,0,none⟩),.int .i64 FN,u 16,u 17,u 18,u 19,u 20,u 21,u 22,u 23,u 24,u 25,u 26,u 27,u 28,u 29,u 30,u 31,u 32,u 33,u 34,u 35,u 36,u 37,u 38,u 39,u 40,u 41,u 42,u 43,u 44,u 45,u 46,u 47,u 48,u 49,u 50,u 51,u 52,u 53,u 54,u 55,u 56,u 57,u 58,u 59,u 60,u 61,u 62,u 63,u 64,u 65,u 66,u 67,u 68,u 69,u 70,u 71,u 72,u 73,u 74,u 75,u 76,u 77,u 78,u 79,u 80,u 81,u 82,u 83,u 84,u 85,u 86,u 87,u 88,u 89,u 90,u 91,u 92,u 93,u 94,u 95,u 96,u 97],[]⟩∧Below RS wI V∧CellsAt V RS 43 Z∧aa V KB .u8 23 FK∧RS<KB) ?_ ?_
  · have HT7:ac (∀V,Below RS wI V→(fun w':World=>w'.rangeAt b3 0 (dotC ea es)) V):=⟨fun V h=>(HBB.out V h).1⟩
    have hZl2:=hZ2.lt;refine au (fun w'=>w'.rangeAt b3 0 (dotC ea es)) (fun _=>True) 99 (by kernel_rfl) ?_;refine af (p:=fun y=>aO _ _ _ _ _ _ _ _ _ _ y) (fun V=>Below RS wI V∧CellsAt V RS 43 Z) ⟨hB2.drew,hZ2.congr rfl⟩ ?_;clear hB2 hZ2 hZl2;clear W2 W;rintro V0 ⟨hB,hRZ⟩;have hlt:=hRZ.lt;have hT:=HT7.out V0 hB;have hS:=trivial;refine ghA 0 _ hT hS ?_;simp only [zp];refine ghA 2 _ hT hS ?_;simp only [zp];refine zh 1 58 26 9 b3 0 (dotC ea es) hT hS (fun _ h=>h) uD iD ?_;simp only [zp];refine fc (i:=3) (j:=8) rfl rfl (by kernel_rfl) (by kernel_rfl) (by kernel_rfl) (fun K hK=>?_) (fun K hK=>?_)
    · refine aC _ _ (by kernel_rfl) ((HOW.out V0 hB).mono ?_)
      rintro e w1 ⟨rfl,rfl⟩;refine ⟨_,rfl,?_⟩;refine hK.out _ _ hT (fun _=>hS) ?_;clear hK K
      try simp only [zp]
      refine fc (i:=4) (j:=8) rfl rfl (by kernel_rfl) (by kernel_rfl) (by kernel_rfl) (fun K hK=>?_) (fun K hK=>?_)
      · refine aC _ _ (by kernel_rfl) ((HFK.out w1 hB).mono ?_)
        rintro e w2 ⟨rfl,hb2⟩;refine ⟨_,rfl,?_⟩;have hB2:=hB.trans (hb2.mono (HSZ.out _ hB));replace hT:=HT7.out w2 hB2;have hs2:=hb2.size;refine hK.out _ _ hT (fun _=>hS) ?_;clear hK K
        try simp only [zp]
        refine ghA 5 _ hT hS ?_;simp only [zp];refine ghA 6 _ hT hS ?_;simp only [zp];refine ghA 7 _ hT hS ?_;simp only [zp];refine zm 8 fun K hK=>?_
        go_simp;have hB3:=hB2.alloc (HSZ.out _ hB2) (.cells (row .u8 ZK) 23);replace hT:=HT7.out _ hB3;refine hK.out _ _ hT (fun _=>hS) ?_;clear hK K
        try simp only [zp]
        refine zm 9 fun K hK=>?_
        refine fH 23 _ _ rfl w2.heap.size rfl rfl (aa.new w2 .u8 23 ZK) (by rw [HFL.out];exact ap) (by rw [hZKl,HFL.out]) ?_;have hB4:Below RS wI ((w2.alloc (.cells (row .u8 ZK) 23)).setRow w2.heap.size (row .u8 FK)):=below_setRow hB3 (HSZ.out _ hB2) _;replace hT:=HT7.out _ hB4;refine hK.out _ _ hT (fun _=>hS) ?_;clear hK K
        try simp only [zp]
        refine ghA 10 _ hT hS ?_;simp only [zp];refine az (by kernel_rfl) ?_ _;exact ⟨w2.heap.size,kN (by kernel_rfl) ⟨hB4,((hRZ.farM hb2).alloc _).setRowM _ (by omega),(aa.new w2 .u8 23 ZK).setRow _,by omega⟩⟩
      · go_simp
        have hB2:=hB.alloc (HSZ.out _ hB) (.cells (row .u8 ZK) 23);replace hT:=HT7.out _ hB2;refine hK.out _ _ hT (fun _=>hS) ?_;clear hK K
        try simp only [zp]
        refine zm 4 fun K hK=>?_
        refine aC _ _ (by kernel_rfl) ((HFK.out _ hB2).mono ?_);rintro e w2 ⟨rfl,hb2⟩;refine ⟨_,rfl,?_⟩;have hB3:=hB2.trans (hb2.mono (HSZ.out _ hB2));have hG:=(aa.new w1 .u8 23 ZK).below hb2 (aa.new w1 .u8 23 ZK).lt;replace hT:=HT7.out w2 hB3;refine hK.out _ _ hT (fun _=>hS) ?_;clear hK K
        try simp only [zp]
        refine ghA 5 _ hT hS ?_;simp only [zp];refine ghA 6 _ hT hS ?_;simp only [zp];refine ghA 7 _ hT hS ?_;simp only [zp];refine zm 9 fun K hK=>?_
        refine fH 23 _ _ rfl w1.heap.size rfl rfl hG (by rw [HFL.out];exact ap) (by rw [hZKl,HFL.out]) ?_;have hB4:Below RS wI (w2.setRow w1.heap.size (row .u8 FK)):=below_setRow hB3 (HSZ.out _ hB) _;replace hT:=HT7.out _ hB4;refine hK.out _ _ hT (fun _=>hS) ?_;clear hK K
        try simp only [zp]
        refine ghA 10 _ hT hS ?_;simp only [zp];refine az (by kernel_rfl) ?_ _;exact ⟨w1.heap.size,kN (by kernel_rfl) ⟨hB4,((hRZ.alloc _).farM hb2).setRowM _ (by omega),hG.setRow _,by omega⟩⟩
    · go_simp
      have hB1:=hB.alloc (HSZ.out _ hB) (.cells (row .u8 ZK) 23);replace hT:=HT7.out _ hB1;refine hK.out _ _ hT (fun _=>hS) ?_;clear hK K
      try simp only [zp]
      refine zm 3 fun K hK=>?_
      refine aC _ _ (by kernel_rfl) ((HOW.out _ hB1).mono ?_);rintro e w1 ⟨rfl,rfl⟩;refine ⟨_,rfl,?_⟩;replace hT:=HT7.out _ hB1;refine hK.out _ _ hT (fun _=>hS) ?_;clear hK K
      try simp only [zp]
      refine zm 4 fun K hK=>?_
      refine aC _ _ (by kernel_rfl) ((HFK.out _ hB1).mono ?_);rintro e w2 ⟨rfl,hb2⟩;refine ⟨_,rfl,?_⟩;have hB3:=hB1.trans (hb2.mono (HSZ.out _ hB1));have hG:=(aa.new V0 .u8 23 ZK).below hb2 (aa.new V0 .u8 23 ZK).lt;replace hT:=HT7.out w2 hB3;refine hK.out _ _ hT (fun _=>hS) ?_;clear hK K
      try simp only [zp]
      refine ghA 5 _ hT hS ?_;simp only [zp];refine ghA 6 _ hT hS ?_;simp only [zp];refine ghA 7 _ hT hS ?_;simp only [zp];refine zm 9 fun K hK=>?_
      refine fH 23 _ _ rfl V0.heap.size rfl rfl hG (by rw [HFL.out];exact ap) (by rw [hZKl,HFL.out]) ?_;have hB4:Below RS wI (w2.setRow V0.heap.size (row .u8 FK)):=below_setRow hB3 (HSZ.out _ hB) _;replace hT:=HT7.out _ hB4;refine hK.out _ _ hT (fun _=>hS) ?_;clear hK K
      try simp only [zp]
      refine ghA 10 _ hT hS ?_;simp only [zp];refine az (by kernel_rfl) ?_ _;exact ⟨V0.heap.size,kN (by kernel_rfl) ⟨hB4,((hRZ.alloc _).farM hb2).setRowM _ (by omega),hG.setRow _,by omega⟩⟩
  rintro AC V ⟨KB,u,rfl,hB,hRZ,hK,hKB⟩;dsimp only;clear hB2 hZ2 hzv hz1 hZKl HFK;clear W2 W
  rcases HFN.out with ⟨hfn,hse⟩|⟨hfn,hse,k,hkm,hfk⟩
  · have HN:=ac.mk hse
    have hf0:(FN==0)=false:=by simpa using hfn
    clear hse HFN
    go_wp2_with (first
     |(refine aG rfl 43 _ rfl #[] (by first|rfl|kernel_rfl) _ (HFZ.out _) ?_)
     |(refine aw rfl 43 _ _ rfl RS rfl rfl hRZ iZ rfl h1Z ?_))
    refine bodyPost_ret (aK (Tryz.results8) _ rfl rfl (hRZ.setRow Z) Tryz.underlying43 rfl iZ) rfl ⟨Or.inl ⟨by rw [HN.out];exact hfn,by rw [HN.out,HZ.out];rfl⟩,?_⟩;exact HB0.out _ (below_setRow hB (Nat.le_refl _) _)
  have HSE:=ac.mk hse;have HKM:=ac.mk hkm;have HFK:=ac.mk hfk;subst hfn;clear hse hkm hfk HFN;go_upto_region 10 with fail
  have hp32:=HPRE.out.1;have iK:(Tryz.prog.info? 23).map (·.size)=some (prev.map (Value.int .u8)).length:=by rw [List.length_map,hp32];exact ap
  obtain ⟨F1,hF1⟩:∃q,fr0 own n ea es prev (.slice none 0 0)=q:=⟨_,rfl⟩
  have hbd:∀wx,(Instr.build 43 #[(0,.int .u8 own),(1,.int .u32 n),(2,.agg (dotC ea es).toArray),(3,.agg (prev.map (Value.int .u8)).toArray)]).run Tryz.prog wx=.ok (.agg F1.cells.toArray) wx:=fun wx=>by rw [←hF1];exact qL own n ea es prev hp32 wx
  have hFl1:F1.cells.length=70:=by rw [←hF1];exact (aH _ hp32 rfl).1
  have h1F1:∀v∈F1.cells,v.oneCell'=true:=fun v hv=>by
   rw [←hF1] at hv
   simp only [fr0,Fr.cells,dotC,List.mem_append,List.mem_cons,List.not_mem_nil,or_false,List.mem_map] at hv
   rcases hv with ((((rfl|rfl)|rfl|rfl)|⟨x,_,rfl⟩)|rfl|rfl)|⟨x,_,rfl⟩<;>rfl
  have HBD:=ac.mk hbd;have HF1:=ac.mk hF1;clear hbd hF1 hp32;refine lP (fun AC V=>∃(G:Nat) (u:Nat→Value),AC=⟨#[.pointer (some ⟨O,0,none⟩),.int .u32 n,u 2,u 3,.slice xw lw cw,u 5,u 6,u 7,.pointer (some ⟨b4,0,none⟩),.pointer (some ⟨b3,0,none⟩),u 10,.pointer (some ⟨b5,0,none⟩),.pointer (some ⟨RS,0,none⟩),u 13,.pointer (some ⟨KB,0,none⟩),u 15,.pointer (some ⟨G,0,none⟩),u 17,u 18,u 19,u 20,u 21,u 22,u 23,u 24,u 25,u 26,u 27,u 28,u 29,u 30,u 31,u 32,u 33,u 34,u 35,u 36,u 37,u 38,u 39,u 40,u 41,u 42,u 43,u 44,u 45,u 46,u 47,u 48,u 49,u 50,u 51,u 52,u 53,u 54,u 55,u 56,u 57,u 58,u 59,u 60,u 61,u 62,u 63,u 64,u 65,u 66,u 67,u 68,u 69,u 70,u 71,u 72,u 73,u 74,u 75,u 76,u 77,u 78,u 79,u 80,u 81,u 82,u 83,u 84,u 85,u 86,u 87,u 88,u 89,u 90,u 91,u 92,u 93,u 94,u 95,u 96,u 97],[]⟩∧Below RS wI V∧CellsAt V RS 43 Z∧aa V KB .u8 23 FK∧CellsAt V G 43 F1.cells∧RS<G∧KB<G) ?_ ?_
  · have HT9:ac (∀V,Below RS wI V→(fun w':World=>w'.rangeAt b3 0 (dotC ea es)∧w'.rangeAt b4 0 (prev.map (Value.int .u8))) V):=⟨fun V h=>⟨(HBB.out V h).1,(HBB.out V h).2.1⟩⟩
    have hzv:=HZV.out.1;have hz1:=HZV.out.2;have hKl:=hK.lt;refine au (fun w'=>w'.rangeAt b3 0 (dotC ea es)∧w'.rangeAt b4 0 (prev.map (Value.int .u8))) (fun _=>True) 99 (by kernel_rfl) ?_;refine af (p:=fun y=>aO _ _ _ _ _ _ _ _ _ _ y) (fun V=>Below RS wI V∧CellsAt V RS 43 Z∧aa V KB .u8 23 FK) ⟨hB.drew,hRZ.congr rfl,hK.below ((Below.refl V.heap.size V).drew) hK.lt⟩ ?_;clear hB hRZ hK hKl;clear V;rintro V0 ⟨hB,hRZ,hQ⟩;have hlt:=hRZ.lt;have hlk:=hQ.lt;have hT:=HT9.out V0 hB;have hS:=trivial;refine ghA 0 _ hT hS ?_;simp only [zp];refine ghA 2 _ hT hS ?_;simp only [zp];refine zh 3 71 26 9 b3 0 (dotC ea es) hT hS (fun _ h=>h.1) uD iD ?_;simp only [zp];refine zh 4 72 23 8 b4 0 (prev.map (Value.int .u8)) hT hS (fun _ h=>h.2) uK iK ?_;simp only [zp];refine fc (i:=1) (j:=6) rfl rfl (by kernel_rfl) (by kernel_rfl) (by kernel_rfl) (fun K hK=>?_) (fun K hK=>?_)
    · refine aC _ _ (by kernel_rfl) ((HOW.out V0 hB).mono ?_)
      rintro e w1 ⟨rfl,rfl⟩;refine ⟨_,rfl,?_⟩;refine hK.out _ _ hT (fun _=>hS) ?_;clear hK K
      try simp only [zp]
      refine bO (i:=5) (v:=(.agg F1.cells.toArray)) rfl (by kernel_rfl) (by kernel_rfl) (by kernel_rfl) (fun _ _ _ h=>h) (by kernel_rfl) hT (fun _=>hS) (by kernel_rfl) (fun wx h=>eu 43 _ rfl #[(0,.int .u8 own),(1,.int .u32 n),(2,.agg (dotC ea es).toArray),(3,.agg (prev.map (Value.int .u8)).toArray)] (by kernel_rfl) (HBD.out wx)) ?_;simp only [zp];refine zm 6 fun K hK=>?_
      go_simp;have hB3:=hB.alloc (HSZ.out _ hB) (.cells Z.toArray 43);replace hT:=HT9.out _ hB3;refine hK.out _ _ hT (fun _=>hS) ?_;clear hK K
      try simp only [zp]
      refine zm 7 fun K hK=>?_
      refine jx 43 _ _ rfl w1.heap.size rfl rfl (CellsAt.new w1 43 Z) (by rw [hFl1];exact iF70) (by rw [h70,hFl1]) h1F1 ?_;have hB4:Below RS wI ((w1.alloc (.cells Z.toArray 43)).setRow w1.heap.size F1.cells.toArray):=below_setRow hB3 (HSZ.out _ hB) _;replace hT:=HT9.out _ hB4;refine hK.out _ _ hT (fun _=>hS) ?_;clear hK K
      try simp only [zp]
      refine az (by kernel_rfl) ?_ _;exact ⟨w1.heap.size,kN (by kernel_rfl) ⟨hB4,(hRZ.alloc _).setRowM _ (by omega),(setRow_other _ _ _ _ (by omega)).trans (hQ.alloc _),(CellsAt.new w1 43 Z).setRow _,by omega,by omega⟩⟩
    · go_simp
      have hB1:=hB.alloc (HSZ.out _ hB) (.cells Z.toArray 43);replace hT:=HT9.out _ hB1;refine hK.out _ _ hT (fun _=>hS) ?_;clear hK K
      try simp only [zp]
      refine zm 1 fun K hK=>?_
      refine aC _ _ (by kernel_rfl) ((HOW.out _ hB1).mono ?_);rintro e w1 ⟨rfl,rfl⟩;refine ⟨_,rfl,?_⟩;replace hT:=HT9.out _ hB1;refine hK.out _ _ hT (fun _=>hS) ?_;clear hK K
      try simp only [zp]
      refine bO (i:=5) (v:=(.agg F1.cells.toArray)) rfl (by kernel_rfl) (by kernel_rfl) (by kernel_rfl) (fun _ _ _ h=>h) (by kernel_rfl) hT (fun _=>hS) (by kernel_rfl) (fun wx h=>eu 43 _ rfl #[(0,.int .u8 own),(1,.int .u32 n),(2,.agg (dotC ea es).toArray),(3,.agg (prev.map (Value.int .u8)).toArray)] (by kernel_rfl) (HBD.out wx)) ?_;simp only [zp];refine zm 7 fun K hK=>?_
      refine jx 43 _ _ rfl V0.heap.size rfl rfl (CellsAt.new V0 43 Z) (by rw [hFl1];exact iF70) (by rw [h70,hFl1]) h1F1 ?_;have hB4:Below RS wI ((V0.alloc (.cells Z.toArray 43)).setRow V0.heap.size F1.cells.toArray):=below_setRow hB1 (HSZ.out _ hB) _;replace hT:=HT9.out _ hB4;refine hK.out _ _ hT (fun _=>hS) ?_;clear hK K
      try simp only [zp]
      refine az (by kernel_rfl) ?_ _;exact ⟨V0.heap.size,kN (by kernel_rfl) ⟨hB4,(hRZ.alloc _).setRowM _ (by omega),(setRow_other _ _ _ _ (by omega)).trans (hQ.alloc _),(CellsAt.new V0 43 Z).setRow _,by omega,by omega⟩⟩
  rintro AC V' ⟨G,u',rfl,hB',hRZ',hK',hG,hRG,hKG⟩;dsimp only;clear hB hRZ hK hKB HOW HBD h1F1 u V iK iD;obtain ⟨x',c',V2,hrun,hwk,hb2⟩:=t7 xw lw cw ws V' (HWS.out V' hB') (by omega) 27;have hF1p:F1.prev.length=32∧F1.mac.length=32∧F1.wraps=.slice none 0 0∧F1.body=.slice none 0 0:=by rw [←HF1.out];exact ⟨HPRE.out.1,rfl,rfl,rfl⟩
  have f36:=(aH F1 hF1p.1 hF1p.2.1).2.2.2.2.2.1;rw [hF1p.2.2.1] at f36
  have c36:V'.cell? ⟨G,36,none⟩=some (.slice none 0 0):=(hG.cell 36).trans f36;have c36':V2.cell? ⟨G,36,none⟩=some (.slice none 0 0):=((hG.farM hb2).cell 36).trans f36;have g36:V2.frozen? ⟨G,36,none⟩=false:=(hG.farM hb2).frozen 36;obtain ⟨F0,hF0⟩:∃q,fr0 own n ea es prev (.slice x' lw c')=q:=⟨_,rfl⟩
  have hset:F1.cells.set 36 (.slice x' lw c')=F0.cells:=by rw [xh F1 _ hF1p.1,←hF0,←HF1.out];rfl
  have hGl:=hG.lt;have HM:ac (aM wI (V2.setCell ⟨G,36,none⟩ (.slice x' lw c')) RS G Z F0.cells x' lw c' ws∧aa (V2.setCell ⟨G,36,none⟩ (.slice x' lw c')) KB .u8 23 FK):=⟨by
   have hB2:=hB'.trans (hb2.mono (HSZ.out _ hB'));refine ⟨⟨?_,(hRZ'.farM hb2).congr (Below.heap_setCell _ _ _ _ (by show RS≠G;omega)),?_,hRG,fun w2 hk=>hwk w2 fun j h1 h2=>?_⟩,?_⟩
   · rw [HRS.out.1];exact hB2.setCell (by show RS≤G;omega) _
   · rw [←hset];exact (hG.farM hb2).set 36 _
   · rw [hk j (by omega) (by omega) (by simp [World.setCell];omega)];exact Below.heap_setCell _ _ _ _ (by show j≠G;omega)
   · exact (Below.heap_setCell _ _ _ _ (by show KB≠G;omega)).trans (hK'.below hb2 hK'.lt)⟩
  have HF:ac (F0.author=own∧F0.number=n∧F0.ea=ea∧F0.es=es∧F0.prev=prev∧F0.wraps=.slice x' lw c'∧F0.prev.length=32∧F0.mac.length=32):=⟨by rw [←hF0];exact ⟨rfl,rfl,rfl,rfl,rfl,rfl,HPRE.out.1,rfl⟩⟩
  have HFI:ac (F0.In):=⟨by rw [←hF0];obtain ⟨_,_,ho,hown,_,hpi,hnI⟩:=HPRE.out;exact ⟨hown,hnI,ho.1,ho.2,hpi,fun x hx=>by rw [List.eq_of_mem_replicate hx];decide⟩⟩
  have iF:(Tryz.prog.info? 43).map (·.size)=some F0.cells.length:=by rw [←hF0,(aH _ HPRE.out.1 rfl).1];exact iF70
  clear hF0 hset hF1p f36 HF1;go_upto_region 12 with (at_builtin;refine kE rfl _ _ 27 27 rfl _ _ _ _ rfl rfl hrun ?_)
  refine af (p:=fun y=>Code.wp _ _ _ _ y) (fun V=>aM wI V RS G Z F0.cells x' lw c' ws∧aa V KB .u8 23 FK) HM.out ?_;clear HM c36 c36' g36 hrun hwk hb2 hB' hRZ' hK' hG hGl hFl1 HZV;clear V2 V' F1;rintro V ⟨hM,hK⟩;have HBR:ac (∀V,aM wI V RS G Z F0.cells x' lw c' ws→Below RS wI V):=⟨fun V h=>by have:=h.b;rw [HRS.out.1] at this;exact this⟩
  have r5:=(HBB.out V (HBR.out V hM)).2.2;have iE:(Tryz.prog.info? 33).map (·.size)=some EC.length:=by rw [←HEC.out];exact cZ E HPRE.out.2.1.plen
  have uE:=Tryz.underlying33;have hev:=n9 E V HPRE.out.2.1.plen;rw [HEC.out] at hev
  have HEL:=ac.mk (fG E HPRE.out.2.1.plen);have HPD:ac (∀W x c,Bytes W x 58 c (aL E)→Calls Tryz.prog 40 #[.slice x 58 c] W fun e w'=>∃x' c',e=.returned (.tuple #[.slice x' 128 c',.int .i64 0])∧Bytes w' x' 128 c' (bu (aL E) 128)∧Below W.heap.size W w'):=⟨fun W x c hby=>by
   refine (jq x 58 c (aL E) W hby 128 (by decide) (by omega) (by omega)).mono ?_;rintro e w' ⟨v',he,ho,hb'⟩;obtain ⟨x2,n2,c2,rfl,hn2⟩:=ho.isSlice;have hl:(bu (aL E) 128).length=128:=b9 _ _ (by rw [HEL.out];omega);rw [hl] at hn2
   subst hn2;exact ⟨x2,c2,he,ho.bytes.2,hb'⟩⟩
  go_upto_region 13 with (first
   |(refine ae rfl 33 _ rfl _ _ rfl EC r5 uE rfl iE ?_)
   |(go_at_call 41;refine hev.mono ?_;rintro e w1 ⟨v1,rfl,ho1,hb1⟩;obtain ⟨x1,n1,c1,rfl,hn1⟩:=ho1.isSlice;rw [HEL.out] at hn1;subst hn1;have hpd:=HPD.out w1 x1 c1 ho1.bytes.2;clear hev)
   |(go_at_call 40;refine hpd.mono ?_;rintro e w2 ⟨x2,c2,rfl,hy2,hb2⟩;clear hpd))
  refine af (p:=fun y=>Code.wp _ _ _ _ y) (fun V=>aM wI V RS G Z F0.cells x' lw c' ws∧aa V KB .u8 23 FK∧Bytes V x2 128 c2 (bu (aL E) 128)) ⟨(hM.far hb1).far hb2,(hK.below hb1 hK.lt).below hb2 (hK.below hb1 hK.lt).lt,hy2⟩ ?_;clear hM hK hb1 hb2 hy2 ho1 r5 HPD;clear w2 V;rintro V ⟨hM,hK,hP⟩;obtain ⟨BD,hBD⟩:∃q,dK FK (bm n) (aP F0 ws) (bu (aL E) 128)=q:=⟨_,rfl⟩
  have hBDl:BD.length=144:=by rw [←hBD,jK,b9 _ _ (by rw [HEL.out];omega)]
  have HBD:=ac.mk hBD;have hnl:(bm n).length=12:=rfl;have HOP:ac (∀W,aM wI W RS G Z F0.cells x' lw c' ws→Calls Tryz.prog 44 #[.agg F0.cells.toArray] W fun e w'=>∃x4 n4 c4,e=.returned (.slice x4 n4 c4)∧n4≤4000∧Bytes w' x4 n4 c4 (aP F0 ws)∧Below W.heap.size W w'):=⟨fun W h=>by
   have hwa:=h.wk W (fun _ _ _ _=>rfl);refine (kL F0 x' lw c' ws W HF.out.2.2.2.2.2.2.1 HF.out.2.2.2.2.2.2.2 HF.out.2.2.2.2.2.1 hwa h64).mono ?_;rintro e w' ⟨v',he,ho,hb'⟩;obtain ⟨x4,n4,c4,rfl,hn4⟩:=ho.isSlice;refine ⟨x4,n4,c4,he,?_,ho.bytes.2,hb'⟩;rw [hn4,dj F0 ws HF.out.2.2.2.2.2.2.1 hwa.ok];have:=hwa.len_eq;omega⟩
  have HSL:ac (∀W x4 n4 c4,Bytes W x4 n4 c4 (aP F0 ws)→n4≤4000→Bytes W x2 128 c2 (bu (aL E) 128)→Calls Tryz.prog 42 #[.agg (row .u8 FK),.agg (row .u8 (bm n)),.slice x4 n4 c4,.slice x2 128 c2] W fun e w'=>∃x5 c5,e=.returned (.slice x5 144 c5)∧aq w' W.heap.size (.slice x5 144 c5) BD∧Below W.heap.size W w'):=⟨fun W x4 n4 c4 h1 h2 h3=>by
   refine (pC FK (bm n) x4 n4 c4 (aP F0 ws) x2 128 c2 (bu (aL E) 128) W HFL.out rfl h1 h3 (by omega) (by omega) (j7 F0 ws HFI.out HPRE.out.2.2.2.2.1 (by have:=HLW.out;omega)) (mm _ _ (lQ E HPRE.out.2.1))).mono ?_;rintro e w' ⟨v',he,ho,hb'⟩;obtain ⟨x5,n5,c5,rfl,hn5⟩:=ho.isSlice;rw [hBD] at ho hn5
   rw [hBDl] at hn5
   subst hn5;exact ⟨x5,c5,he,ho,hb'⟩⟩
  have iFK:(Tryz.prog.info? 23).map (·.size)=some (FK.map (Value.int .u8)).length:=by rw [List.length_map,HFL.out];exact ap
  obtain ⟨F1,hF1⟩:∃q:Option Addr→Nat→Fr,q=fun x c=>({F0 with body:=.slice x 144 c}:Fr):=⟨_,rfl⟩
  have HF1:ac (∀x c,F0.cells.set 37 (.slice x 144 c)=(F1 x c).cells∧(F1 x c).author=own∧(F1 x c).number=n∧(F1 x c).ea=ea∧(F1 x c).es=es∧(F1 x c).prev=prev∧(F1 x c).wraps=.slice x' lw c'∧(F1 x c).body=.slice x 144 c∧(F1 x c).prev.length=32∧(F1 x c).mac.length=32∧aP (F1 x c) ws=aP F0 ws):=⟨fun x c=>by
   rw [hF1];exact ⟨oY F0 _ HF.out.2.2.2.2.2.2.1,HF.out.1,HF.out.2.1,HF.out.2.2.1,HF.out.2.2.2.1,HF.out.2.2.2.2.1,HF.out.2.2.2.2.2.1,rfl,HF.out.2.2.2.2.2.2.1,HF.out.2.2.2.2.2.2.2,rfl⟩⟩
  have HC37:ac (F0.cells[37]?=some F0.body):=⟨(aH F0 HF.out.2.2.2.2.2.2.1 HF.out.2.2.2.2.2.2.2).2.2.2.2.2.2.1⟩
  clear hBD hF1;have HSS:∀W,aM wI W RS G Z F0.cells x' lw c' ws→aa W KB .u8 23 FK→(fun w':World=>w'.rangeAt KB 0 (FK.map (Value.int .u8))∧w'.rangeAt G 0 F0.cells) W:=fun W h1 h2=>⟨h2.cellsAt.wholeM,h1.g.wholeM⟩
  refine ag (fun w'=>w'.rangeAt KB 0 (FK.map (Value.int .u8))∧w'.rangeAt G 0 F0.cells) 8 (by kernel_rfl) ?_;refine af (p:=fun y=>aE _ _ _ _ _ _ _ _ _ y) (fun V=>aM wI V RS G Z F0.cells x' lw c' ws∧aa V KB .u8 23 FK∧Bytes V x2 128 c2 (bu (aL E) 128)) ⟨hM.far (Below.refl _ _).drew,hK.below (Below.refl V.heap.size V).drew hK.lt,hP.below (Below.refl _ _).drew⟩ ?_;clear hM hK hP;clear V;rintro V ⟨hM,hQ,hP⟩;have hS:=HSS V hM hQ;refine gaA 5 _ hS ?_;simp only [zp];refine zg 0 85 23 14 KB 0 (FK.map (Value.int .u8)) hS (fun _ h=>h.1) uK iFK ?_;simp only [zp];refine gaA 1 _ hS ?_;simp only [zp];refine zg 3 88 43 16 G 0 F0.cells hS (fun _ h=>h.2) uF iF ?_;simp only [zp];refine zw 2 fun K hK=>?_
  refine aC _ _ (by kernel_rfl) ((rX n V).mono ?_);rintro e w2 ⟨rfl,hb2⟩;refine ⟨_,rfl,?_⟩;have hM2:=hM.far hb2;have hQ2:=hQ.below hb2 hQ.lt;have hP2:=hP.below hb2;replace hS:=HSS w2 hM2 hQ2;refine hK.out _ _ (fun _=>hS) ?_;clear hK K
  try simp only [zp]
  refine zw 4 fun K hK=>?_
  refine aC _ _ (by kernel_rfl) ((HOP.out w2 hM2).mono ?_);rintro e w3 ⟨x4,n4,c4,rfl,hn4,hy4,hb3⟩;refine ⟨_,rfl,?_⟩;have hM3:=hM2.far hb3;have hQ3:=hQ2.below hb3 hQ2.lt;have hP3:=hP2.below hb3;replace hS:=HSS w3 hM3 hQ3;refine hK.out _ _ (fun _=>hS) ?_;clear hK K
  try simp only [zp]
  refine zw 6 fun K hK=>?_
  refine aC _ _ (by kernel_rfl) ((HSL.out w3 x4 n4 c4 hy4 hn4 hP3).mono ?_);rintro e w4 ⟨x5,c5,rfl,ho5,hb4⟩;refine ⟨_,rfl,?_⟩;have hM4:=hM3.far hb4;have hQ4:=hQ3.below hb4 hQ3.lt;replace hS:=HSS w4 hM4 hQ4;refine hK.out _ _ (fun _=>hS) ?_;clear hK K
  try simp only [zp]
  refine gaA 7 _ hS ?_;simp only [zp];refine zw 8 fun K hK=>?_
  have c37:w4.cell? ⟨G,37,none⟩=some F0.body:=by rw [hM4.g.cell,HC37.out]
  have g37:w4.frozen? ⟨G,37,none⟩=false:=hM4.g.frozen 37;have hG3:=hM3.g.lt;have HM5:ac (aM wI (w4.setCell ⟨G,37,none⟩ (.slice x5 144 c5)) RS G Z (F1 x5 c5).cells x' lw c' ws):=⟨hM4.setG (hM4.b.setCell (by show wI.heap.size≤G;have:=HRS.out.1;have:=hM4.lt;omega) _) (by rw [←(HF1.out x5 c5).1];exact hM4.g.set 37 _) (by simp [World.setCell]) (fun k hk=>Below.heap_setCell _ _ _ k hk)⟩
  have HB5:ac (∀w6:World,(∀k,RS<k→k≠G→k<(w4.setCell ⟨G,37,none⟩ (.slice x5 144 c5)).heap.size→w6.heap[k]?=(w4.setCell ⟨G,37,none⟩ (.slice x5 144 c5)).heap[k]?)→Bytes w6 x5 144 c5 BD):=⟨fun w6 hk=>(ho5.keep (fun g h1 h2=>by
   have hlt:=hM3.lt;rw [hk g (by omega) (by omega) (by simp [World.setCell];omega)];exact Below.heap_setCell _ _ _ g (by show g≠G;omega))).bytes.2⟩
  clear HSS hM4 hQ4 hM3 hQ3 hP3 hM2 hQ2 hP2 hM hQ hP ho5 hb4 hb3 hb2 hy4 hG3;go_simp;refine hK.out _ _ zn ?_;clear hK K
  try simp only [zp]
  refine al (by kernel_rfl) ?_ _;clear hS c37 g37;refine af (p:=fun y=>Exit.then _ _ _ _ y) (fun V=>aM wI V RS G Z (F1 x5 c5).cells x' lw c' ws∧∀w6:World,(∀k,RS<k→k≠G→k<V.heap.size→w6.heap[k]?=V.heap[k]?)→Bytes w6 x5 144 c5 BD) ⟨HM5.out,HB5.out⟩ ?_;clear HM5 HB5 HOP HSL HC37;clear w4 w3 w2 V;rintro V ⟨hM,hY⟩;obtain ⟨f1c,f1a,f1n,f1ea,f1es,f1p,f1w,f1b,f1pl,f1ml,f1o⟩:=HF1.out x5 c5;generalize F1 x5 c5=FB at f1c f1a f1n f1ea f1es f1p f1w f1b f1pl f1ml f1o hM
  have HFB:=ac.mk (And.intro f1a (And.intro f1n (And.intro f1ea (And.intro f1es (And.intro f1p (And.intro f1w (And.intro f1b (And.intro f1pl (And.intro f1ml f1o)))))))));clear f1c f1a f1n f1ea f1es f1p f1w f1b f1pl f1ml f1o HF1;have h7B:FB.cells.length=70:=(aH FB HFB.out.2.2.2.2.2.2.2.1 HFB.out.2.2.2.2.2.2.2.2.1).1;have iB:(Tryz.prog.info? 43).map (·.size)=some FB.cells.length:=by rw [h7B];exact iF70
  obtain ⟨TG,hTG⟩:∃q,ftagL seed FB ws BD=q:=⟨_,rfl⟩
  have hTl:TG.length=32:=by rw [←hTG];exact dX _ _ _ _
  have HTG:=ac.mk hTG;have htg:Calls Tryz.prog 45 #[.pointer (some ⟨O,0,none⟩),.agg FB.cells.toArray] V fun e w'=>e=.returned (.agg (row .u8 TG))∧Below V.heap.size V w':=by
   have:=t9 base O own seed v L V (HR.out V (by have:=hM.b;rw [HRS.out.1] at this;exact this)) FB x' lw c' ws x5 144 c5 BD ⟨HFB.out.2.2.2.2.2.2.2.1,HFB.out.2.2.2.2.2.2.2.2.1,HFB.out.2.2.2.2.2.1,HFB.out.2.2.2.2.2.2.1,hM.wk V (fun _ _ _ _=>rfl),hY V (fun _ _ _ _=>rfl)⟩ h64 (by omega);rw [hTG] at this
   exact this
  clear hTG;have iT:(Tryz.prog.info? 23).map (·.size)=some (TG.map (Value.int .u8)).length:=by rw [List.length_map,hTl];exact ap
  have h1T:∀v∈TG.map (Value.int .u8),v.oneCell'=true:=fun v hv=>by obtain ⟨x,_,rfl⟩:=List.mem_map.1 hv;rfl
  obtain ⟨FS,hFS⟩:∃q:Fr,q=({FB with mac:=TG}:Fr):=⟨_,rfl⟩
  have HFSc:ac (FB.cells.take 38++TG.map (Value.int .u8)++FB.cells.drop 70=FS.cells):=⟨by rw [hFS];exact pL FB TG HFB.out.2.2.2.2.2.2.2.1 HFB.out.2.2.2.2.2.2.2.2.1⟩
  have HFS:=ac.mk hFS;have h7S:FS.cells.length=70:=by rw [hFS];exact (aH ({FB with mac:=TG}:Fr) HFB.out.2.2.2.2.2.2.2.1 hTl).1
  have iS:(Tryz.prog.info? 43).map (·.size)=some FS.cells.length:=by rw [h7S];exact iF70
  have h1S:∀v∈FS.cells,v.oneCell'=true:=fun v hv=>by
   rw [hFS] at hv
   simp only [Fr.cells,dotC,List.mem_append,List.mem_cons,List.not_mem_nil,or_false,List.mem_map,HFB.out.2.2.2.2.2.1,HFB.out.2.2.2.2.2.2.1] at hv
   rcases hv with ((((rfl|rfl)|rfl|rfl)|⟨x,_,rfl⟩)|rfl|rfl)|⟨x,_,rfl⟩<;>rfl
  clear hFS;have rG:=hM.g.wholeM;have HSTEP:ac (∀w1,Below V.heap.size V w1→aM wI w1 RS G Z FB.cells x' lw c' ws∧aM wI (w1.setRow G FS.cells.toArray) RS G Z FS.cells x' lw c' ws∧∀w6:World,(∀k,RS<k→k≠G→k<(w1.setRow G FS.cells.toArray).heap.size→w6.heap[k]?=(w1.setRow G FS.cells.toArray).heap[k]?)→Bytes w6 x5 144 c5 BD):=⟨fun w1 hb1=>by
   have h1:=hM.far hb1;refine ⟨h1,h1.setG (below_setRow h1.b (by have:=HRS.out.1;have:=h1.lt;omega) _) (h1.g.setRow _) (by simp [World.setRow]) (fun k hk=>setRow_other _ _ k _ hk),fun w6 hk=>hY w6 fun k q1 q2 q3=>?_⟩;rw [hk k q1 q2 (by have:=hb1.size;simp [World.setRow];omega),setRow_other _ _ k _ q2,hb1.block k q3]⟩
  go_upto_region 15 with (first
   |(refine ae rfl 43 _ rfl _ _ rfl FB.cells rG uF rfl iB ?_)
   |(go_at_call 45;refine htg.mono ?_;rintro e w1 ⟨rfl,hb1⟩;obtain ⟨hM1,hM2,hY2⟩:=HSTEP.out w1 hb1;clear htg)
   |(refine gk rfl 23 _ _ rfl G 38 rfl (cs:=TG.map (Value.int .u8)) rfl hM1.g iT (by rw [List.length_map,hTl,h7B];omega) h1T ?_))
  rw [show 38+(TG.map (Value.int .u8)).length=70 by rw [List.length_map,hTl],HFSc.out];refine af (p:=fun y=>Code.wp _ _ _ _ y) (fun V=>aM wI V RS G Z FS.cells x' lw c' ws∧∀w6:World,(∀k,RS<k→k≠G→k<V.heap.size→w6.heap[k]?=V.heap[k]?)→Bytes w6 x5 144 c5 BD) ⟨hM2,hY2⟩ ?_;clear hM2 hY2 hM1 hb1 HSTEP hM hY rG;clear w1 V;rintro V ⟨hM,hY⟩;have rG:=hM.g.wholeM
  go_wp2_with (first
   |(refine ae rfl 43 _ rfl _ _ rfl FS.cells rG uF rfl iS ?_)
   |(refine aw rfl 43 _ _ rfl _ rfl rfl hM.rs iS (by rw [h70,h7S]) h1S ?_))
  refine bodyPost_ret (aK (Tryz.results8) _ rfl rfl (hM.rs.setRow FS.cells) Tryz.underlying43 rfl iS) rfl ⟨Or.inr ⟨HSE.out,FS,k,HKM.out,rfl,?_⟩,HB0.out _ (below_setRow (by have:=hM.b;rw [HRS.out.1] at this;exact this) (Nat.le_refl _) _)⟩;have eB:bJ k FS ws E=BD:=by
   rw [←HBD.out,←HFK.out];unfold bJ;rw [HFS.out];show dK (et k FB.author) (bm FB.number) (aP FB ws) _=_;rw [HFB.out.1,HFB.out.2.1,HFB.out.2.2.2.2.2.2.2.2.2]
  rw [eB];refine ⟨⟨x',c',x5,c5,fun w2 hk=>?_⟩,?_⟩
  · have hkk:∀j,RS<j→j≠G→j<V.heap.size→w2.heap[j]?=V.heap[j]?:=fun j h1 h2 h3=>by
     rw [hk j (by have:=HRS.out.2;omega) (by simp [World.setRow];omega),setRow_other _ _ j _ (by omega)]
    refine ⟨?_,?_,?_,?_,hM.wk w2 hkk,hY w2 hkk⟩
    · rw [HFS.out];exact HFB.out.2.2.2.2.2.2.2.1
    · rw [HFS.out];exact hTl
    · rw [HFS.out];exact HFB.out.2.2.2.2.2.1
    · rw [HFS.out];exact HFB.out.2.2.2.2.2.2.1
  · rw [HFS.out]
    exact ⟨HFB.out.1,HFB.out.2.1,HFB.out.2.2.1,HFB.out.2.2.2.1,HFB.out.2.2.2.2.1,HTG.out.symm⟩
end
end Go.Proofs.YtbdhfbglagdiaaaGreatDoor
