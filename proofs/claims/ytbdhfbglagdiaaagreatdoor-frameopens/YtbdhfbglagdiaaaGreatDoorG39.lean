/- Rv3 Ao1 -/
import Derived.Test.YtbdhfbglagdiaaaGreatDoorG38
import Derived.Test.YtbdhfbglagdiaaaGreatDoorG07
import Derived.Test.YtbdhfbglagdiaaaGreatDoorG18
namespace Go.Proofs.YtbdhfbglagdiaaaGreatDoor
open Go.RowKit
set_option maxRecDepth 20000
set_option maxHeartbeats 8000000
set_option linter.unusedSimpArgs false
theorem wA {P:Program} {c:Code} {Q:Exit→Act→World→Prop} {a:Act} {w:World} (R:Act→World→Prop) (h1:Code.wp P c (fun ex a w=>match ex with| .normal=>R a w|_=>False) a w) (h2:∀a w,R a w→Q .normal a w):Code.wp P c Q a w:=
 Code.wp_mono (fun e a w q=>by cases e<;>first|exact h2 _ _ q|exact q.elim) h1
theorem CellsAt.far3 {w w':World} {g:Nat} {t:TypeId} {cs:List Value} (h:CellsAt w g t cs) (hb:Below w.heap.size w w'):CellsAt w' g t cs:=by
 have hl:=h.lt;unfold CellsAt at h ⊢;rw [hb.block g hl];exact h
theorem sP {z:List Int} (h:¬ft z):revB z=evZ∧ec z=3:=by
 unfold revB ec;rw [if_neg h,if_neg h];exact ⟨rfl,rfl⟩
theorem vX {z:List Int} (h:ft z):revB z=kR z∧ec z=0:=by
 unfold revB ec;rw [if_pos h,if_pos h];exact ⟨rfl,rfl⟩
theorem j0 (w:World) (x:Option Addr) (len cap l h:Nat) (h1:l≤h) (hh:h≤cap):(Instr.slice 41 (.slice x len cap) (some (.int .i64 (l:Int))) (some (.int .i64 (h:Int))) none).run Tryz.prog w=.ok (.slice (bN x cap l) (h - l) (cap - l)) w:=by
 rw [run_slice_lh w 41 x len cap nH .i64 .i64 (l:Int) (h:Int) (by omega) (by omega) (by omega),kl];simp [sliced,bN,Result.andThen]
theorem pE (x:Option Addr) (n c:Nat) (z:List Int) (w:World) (hb0:Bytes w x n c z) (hn:n≠58):
    Calls Tryz.prog 55 #[.slice x n c] w fun e w'=>e=.returned (.tuple #[.agg (revB z).cells.toArray,.int .i64 (ec z)])∧Below w.heap.size w w':=by
 obtain ⟨e1,e2⟩:=sP (z:=z) (fun h=>hn (by rw [hb0.len_eq];exact h.1));rw [e1,e2];have hni:¬(n:Int)=58:=by omega
 have hle:=hb0.le;have htp:=hb0.top;have hG0:=CellsAt.new w 33 evZ.cells;have hB0:Below w.heap.size w (w.alloc (.cells evZ.cells.toArray 33)):=(Below.refl _ _).alloc (Nat.le_refl _) _;have hiE:=bQ evZ rfl;have h1E:=dh evZ;clear e1 e2 hb0 hn;go_enter Tryz.func55,Tryz.ntmps55;go_upto_region 1 with fail
 refine ae (p:=fun y=>Code.wp _ _ _ _ y) (fun W=>Below w.heap.size w W∧CellsAt W w.heap.size 33 evZ.cells) ⟨hB0,hG0⟩ ?_;clear hB0 hG0;rintro W ⟨hB0,hG0⟩
 go_wp2_with (refine aq rfl 33 _ _ rfl _ rfl (cs:=evZ.cells) rfl hG0 hiE rfl h1E ?_)
 refine bodyPost_ret (eH Tryz.results55 _ rfl rfl (hG0.setRow evZ.cells) rfl) rfl ⟨rfl,?_⟩;exact below_setRow hB0 (Nat.le_refl _) _
theorem pe (x:Option Addr) (c:Nat) (z:List Int) (w:World) (hb0:Bytes w x 58 c z) (hz:∀v∈z,b8 v):
    Calls Tryz.prog 55 #[.slice x 58 c] w fun e w'=>e=.returned (.tuple #[.agg (revB z).cells.toArray,.int .i64 (ec z)])∧Below w.heap.size w w':=by
 have hzl:z.length=58:=hb0.len_eq.symm;have HALL:ac (ft z↔(at1 z 43≤1∧∀j,j<11→at1 z (47+j)=0)):=⟨⟨fun h=>⟨h.2.1,h.2.2⟩,fun h=>⟨hzl,h.1,h.2⟩⟩⟩
 have HBAD:ac (¬ft z→revB z=evZ∧ec z=3):=⟨sP⟩
 have HGOOD:ac (ft z→revB z=kR z∧ec z=0):=⟨vX⟩
 obtain ⟨UB,hUB⟩:∃q,revB z=q:=⟨_,rfl⟩
 obtain ⟨UE,hUE⟩:∃q,ec z=q:=⟨_,rfl⟩
 obtain ⟨OK,hOK⟩:∃q,ft z=q:=⟨_,rfl⟩
 rw [hUB,hUE,hOK] at HBAD HGOOD
 rw [hOK] at HALL
 rw [hUB,hUE];obtain ⟨b,off,rfl,hcl⟩:=io hb0 (by omega);have hlb:b<w.heap.size:=block_lt_of_cell (hcl 0 (by omega));have HC:ac (∀w',Below w.heap.size w w'→∀j,j<58→w'.cell? ⟨b,off+j,none⟩=some (.int .u8 (at1 z j))):=⟨fun w' h j hj=>by rw [(qe h).1 _ _ hlb];exact hcl j hj⟩
 have hle:=hb0.le;have htp:=hb0.top;have hG0:=CellsAt.new w 33 evZ.cells;have hB0:Below w.heap.size w (w.alloc (.cells evZ.cells.toArray 33)):=(Below.refl _ _).alloc (Nat.le_refl _) _;have hiE:=bQ evZ rfl;have h1E:=dh evZ;clear hUB hUE hOK hcl hlb;go_enter Tryz.func55,Tryz.ntmps55;go_upto_region 1 with fail
 refine ae (p:=fun y=>Code.wp _ _ _ _ y) (fun W=>Below w.heap.size w W∧CellsAt W w.heap.size 33 evZ.cells) ⟨hB0,hG0⟩ ?_;clear hB0 hG0;rintro W ⟨hB0,hG0⟩;have c43:=HC.out W hB0 43 (by omega)
 by_cases h43:at1 z 43≤1
 rotate_left
 · obtain ⟨e1,e2⟩:=HBAD.out (fun h=>h43 (HALL.out.1 h).1)
   have HE:ac (UB=evZ∧UE=3):=⟨e1,e2⟩
   obtain ⟨A,hA⟩:∃q,at1 z 43=q:=⟨_,rfl⟩
   rw [hA] at c43 h43
   have ha:A>1:=by omega
   clear e1 e2 hA
   go_wp2_with (refine aq rfl 33 _ _ rfl _ rfl (cs:=evZ.cells) rfl hG0 hiE rfl h1E ?_)
   refine bodyPost_ret (eH Tryz.results55 _ rfl rfl (hG0.setRow evZ.cells) rfl) rfl ⟨by rw [HE.out.1,HE.out.2];rfl,?_⟩;exact below_setRow hB0 (Nat.le_refl _) _
 have H43:ac (at1 z 43≤1):=⟨h43⟩
 obtain ⟨A43,hA43⟩:∃q,at1 z 43=q:=⟨_,rfl⟩
 rw [hA43] at c43 h43
 have ha:¬A43>1:=by omega
 clear hA43;go_upto_region 3 with fail
 clear c43 ha h43
 go_wp2_with fail
 go_loopw [4] (fun q wr=>∃k:Nat,k≤11∧q=.int .i64 ((47+k:Nat):Int)∧ac (∀j,j<k→at1 z (47+j)=0)∧wr=W) (fun q _=>58 - (intOf q).toNat)
 case atStart=>exact ⟨0,by omega,rfl,⟨fun j hj=>by omega⟩,rfl⟩
 case round=>
  obtain ⟨k,hk,rfl,HK,rfl⟩:=hrel
  by_cases hlt:k<11
  · have ci:=HC.out wr hB0 (47+k) (by omega)
    have hi0:(0:Int)≤((47+k:Nat):Int):=by omega
    have hin:((47+k:Nat):Int)<58:=by omega
    have hwn:IntKind.i64.wrap (((47+k:Nat):Int)+1)=((47+(k+1):Nat):Int):=by rw [IntKind.wrap_i64];omega
    by_cases h0:at1 z (47+k)=0
    · rw [h0] at ci
      have HK2:ac (∀j,j<k+1→at1 z (47+j)=0):=⟨fun j hj=>by
       by_cases h:j=k
       · rw [h];exact h0
       · exact HK.out j (by omega)⟩
      obtain ⟨i,hi⟩:∃q:Nat,47+k=q:=⟨_,rfl⟩
      have HI:ac (47+k=i∧i<58):=⟨hi,by omega⟩
      rw [hi] at ci hi0 hin hwn ⊢
      clear h0 HK hi;go_wp2;go_roundw
      case rel=>exact ⟨k+1,by omega,rfl,HK2,trivial⟩
      case measure=>
       have:=HI.out;simp [intOf];omega
    · obtain ⟨e1,e2⟩:=HBAD.out (fun h=>h0 ((HALL.out.1 h).2 k hlt))
      have HE:ac (UB=evZ∧UE=3):=⟨e1,e2⟩
      obtain ⟨q,hq⟩:∃q,at1 z (47+k)=q:=⟨_,rfl⟩
      rw [hq] at h0 ci
      have hqb:(q==0)=false:=by simp [h0]
      obtain ⟨i,hi⟩:∃q:Nat,47+k=q:=⟨_,rfl⟩
      rw [hi] at ci hi0 hin ⊢
      clear e1 e2 hq hi hwn HK
      go_wp2_with (refine aq rfl 33 _ _ rfl _ rfl (cs:=evZ.cells) rfl hG0 hiE rfl h1E ?_)
      refine bodyPost_ret (eH Tryz.results55 _ rfl rfl (hG0.setRow evZ.cells) rfl) rfl ⟨by rw [HE.out.1,HE.out.2];rfl,?_⟩;exact below_setRow hB0 (Nat.le_refl _) _
  · obtain rfl:k=11:=by omega
    obtain ⟨e1,e2⟩:=HGOOD.out (HALL.out.2 ⟨H43.out,HK.out⟩);have HE:ac (UB=kR z∧UE=0):=⟨e1,e2⟩
    rw [show ((47+11:Nat):Int)=58 from rfl];clear e1 e2 HK;go_upto_region 8 with fail
    have hd0:=fun wx (h:Below w.heap.size w wx)=>kE (bN (some ⟨b,off,none⟩) c 0) (c - 0) ((z.drop 0).take 5) wx ((hb0.cut 0 5 (by omega) (by omega)).below h) (fun v hv=>hz v (List.mem_of_mem_drop (List.mem_of_mem_take hv)))
    have hd38:=fun wx (h:Below w.heap.size w wx)=>kE (bN (some ⟨b,off,none⟩) c 38) (c - 38) ((z.drop 38).take 5) wx ((hb0.cut 38 43 (by omega) (by omega)).below h) (fun v hv=>hz v (List.mem_of_mem_drop (List.mem_of_mem_take hv)))
    have sg:∀o j,j<5→at1 ((z.drop o).take 5) j=at1 z (o+j):=fun o j hj=>by unfold at1;rw [List.getElem?_take_of_lt hj,List.getElem?_drop]
    have s4:∀o,at4 ((z.drop o).take 5) 1=at4 z (o+1):=fun o=>by
     unfold at4;rw [sg o 1 (by omega),sg o (1+1) (by omega),sg o (1+2) (by omega),sg o (1+3) (by omega)]
    rw [sg 0 0 (by omega),s4 0] at hd0
    rw [sg 38 0 (by omega),s4 38] at hd38
    have hct0:∀wx:World,(Instr.slice 41 (.slice (some ⟨b,off,none⟩) 58 c) (some (.int .i64 0)) (some (.int .i64 5)) none).run Tryz.prog wx=.ok (.slice (bN (some ⟨b,off,none⟩) c 0) 5 (c - 0)) wx:=fun wx=>j0 wx _ 58 c 0 5 (by omega) (by omega)
    have hct38:∀wx:World,(Instr.slice 41 (.slice (some ⟨b,off,none⟩) 58 c) (some (.int .i64 38)) (some (.int .i64 43)) none).run Tryz.prog wx=.ok (.slice (bN (some ⟨b,off,none⟩) c 38) 5 (c - 38)) wx:=fun wx=>j0 wx _ 58 c 38 43 (by omega) (by omega)
    have HKS:ac (∀w',Below w.heap.size w w'→w'.cell? ⟨b,off+37,none⟩=some (.int .u8 (at1 z 37))∧w'.cell? ⟨b,off+43,none⟩=some (.int .u8 (at1 z 43))∧w'.cell? ⟨b,off+44,none⟩=some (.int .u8 (at1 z 44))∧w'.cell? ⟨b,off+45,none⟩=some (.int .u8 (at1 z 45))∧w'.cell? ⟨b,off+46,none⟩=some (.int .u8 (at1 z 46))):=⟨fun w' h=>⟨HC.out w' h 37 (by omega),HC.out w' h 43 (by omega),HC.out w' h 44 (by omega),HC.out w' h 45 (by omega),HC.out w' h 46 (by omega)⟩⟩
    have HFULL:ac (∀P:List Int,P=jg z→(⟨at1 z 0,at4 z 1,P,at1 z 37,at1 z 38,at4 z 39,at1 z 43==1,at1 z 44,at1 z 45,at1 z 46⟩:Ev)=UB):=⟨fun P hP=>by rw [HE.out.1,hP];rfl⟩
    obtain ⟨y0,hy0⟩:∃q,bN (some ⟨b,off,none⟩) c 0=q:=⟨_,rfl⟩
    obtain ⟨y38,hy38⟩:∃q,bN (some ⟨b,off,none⟩) c 38=q:=⟨_,rfl⟩
    rw [hy0] at hct0 hd0
    rw [hy38] at hct38 hd38
    obtain ⟨a0,ha0⟩:∃q,at1 z (0+0)=q:=⟨_,rfl⟩
    obtain ⟨s0,hs0⟩:∃q,at4 z (0+1)=q:=⟨_,rfl⟩
    obtain ⟨a2,ha2⟩:∃q,at1 z (38+0)=q:=⟨_,rfl⟩
    obtain ⟨s2,hs2⟩:∃q,at4 z (38+1)=q:=⟨_,rfl⟩
    rw [ha0,hs0] at hd0
    rw [ha2,hs2] at hd38
    have ha0':at1 z 0=a0:=ha0;have hs0':at4 z 1=s0:=hs0;have ha2':at1 z 38=a2:=ha2;have hs2':at4 z 39=s2:=hs2;obtain ⟨a1,ha1⟩:∃q,at1 z 37=q:=⟨_,rfl⟩
    obtain ⟨a3,ha3⟩:∃q,at1 z 43=q:=⟨_,rfl⟩
    obtain ⟨a4,ha4⟩:∃q,at1 z 44=q:=⟨_,rfl⟩
    obtain ⟨a5,ha5⟩:∃q,at1 z 45=q:=⟨_,rfl⟩
    obtain ⟨a6,ha6⟩:∃q,at1 z 46=q:=⟨_,rfl⟩
    rw [ha1,ha3,ha4,ha5,ha6] at HKS
    rw [ha0',hs0',ha1,ha2',hs2',ha3,ha4,ha5,ha6] at HFULL
    obtain ⟨EV0,hEV0⟩:∃q,(⟨a0,s0,List.replicate 8 0,a1,a2,s2,a3==1,a4,a5,a6⟩:Ev)=q:=⟨_,rfl⟩
    have HEV0:ac (EV0=(⟨a0,s0,List.replicate 8 0,a1,a2,s2,a3==1,a4,a5,a6⟩:Ev)):=⟨hEV0.symm⟩
    have hiV:(Tryz.prog.info? 33).map (·.size)=some EV0.cells.length:=bQ EV0 (by rw [←hEV0];rfl);have h1V:=dh EV0;have hlV:evZ.cells.length=EV0.cells.length:=by rw [eO EV0 (by rw [←hEV0];rfl)];rfl
    replace hd0:∀wx,Below w.heap.size w wx→Calls Tryz.prog 100 #[.slice y0 5 (c - 0)] wx fun e w'=>e=.returned (.agg #[.int .u8 a0,.int .u32 s0])∧Below wx.heap.size wx w':=hd0
    replace hd38:∀wx,Below w.heap.size w wx→Calls Tryz.prog 100 #[.slice y38 5 (c - 38)] wx fun e w'=>e=.returned (.agg #[.int .u8 a2,.int .u32 s2])∧Below wx.heap.size wx w':=hd38
    clear ha0 hs0 ha2 hs2 ha0' hs0' ha2' hs2' ha1 ha3 ha4 ha5 ha6 hy0 hy38 sg s4 hEV0;refine wA (fun a U=>∃G t3 u7 u8 u9 u10 u11 u12 u13 u14 u15 u16 u17 u18 u19 u20 u21 u22 u23 u24 u25 u26 u27 u28 u29 u30 u31 u32 u33 u34 u35 u36 u37 u38 u39 u40 u41 u42 u43 u44 u45 u46 u47 u48 u49,a=⟨#[.slice (some ⟨b,off,none⟩) 58 c,undef,.pointer (some ⟨w.heap.size,0,none⟩),t3,.int .i64 58,.pointer (some ⟨G,0,none⟩),undef,u7,u8,u9,u10,u11,u12,u13,u14,u15,u16,u17,u18,u19,u20,u21,u22,u23,u24,u25,u26,u27,u28,u29,u30,u31,u32,u33,u34,u35,u36,u37,u38,u39,u40,u41,u42,u43,u44,u45,u46,u47,u48,u49,undef,undef,undef,undef,undef,undef,undef,undef,undef,undef,undef,undef,undef,undef,undef,undef,undef],[]⟩∧Below w.heap.size w U∧CellsAt U w.heap.size 33 evZ.cells∧CellsAt U G 33 EV0.cells∧w.heap.size<G) ?_ ?_
    · refine ag (fun w'=>w'.cell? ⟨b,off+37,none⟩=some (.int .u8 a1)∧w'.cell? ⟨b,off+43,none⟩=some (.int .u8 a3)∧w'.cell? ⟨b,off+44,none⟩=some (.int .u8 a4)∧w'.cell? ⟨b,off+45,none⟩=some (.int .u8 a5)∧w'.cell? ⟨b,off+46,none⟩=some (.int .u8 a6)) 24 (by kernel_rfl) ?_
      obtain ⟨D0,hD0⟩:∃q,wr.drew=q:=⟨_,rfl⟩
      have hb1:Below wr.heap.size wr D0:=by rw [←hD0];exact (Below.refl _ _).drew
      rw [hD0];have hBD0:=hB0.trans (hb1.mono hB0.size);have hGD0:=hG0.far3 hb1;clear hD0 hb1 hB0 hG0;have hS:=HKS.out _ hBD0;refine gaA 0 _ hS ?_;simp only [zp];refine gaA 1 _ hS ?_;simp only [zp];refine gaA 3 _ hS ?_;simp only [zp];refine gaA 4 _ hS ?_;simp only [zp];refine grA 5 _ hS ?_;simp only [zp];refine gaA 6 _ hS ?_;simp only [zp];refine gaA 7 _ hS ?_;simp only [zp];refine gaA 9 _ hS ?_;simp only [zp];refine gaA 10 _ hS ?_;simp only [zp];refine grA 11 _ hS ?_;simp only [zp];refine gaA 12 _ hS ?_;simp only [zp];refine gaA 13 _ hS ?_;simp only [zp];refine gaA 14 _ hS ?_;simp only [zp];refine grA 15 _ hS ?_;simp only [zp];refine gaA 16 _ hS ?_;simp only [zp];refine gaA 17 _ hS ?_;simp only [zp];refine grA 18 _ hS ?_;simp only [zp];refine gaA 19 _ hS ?_;simp only [zp];refine gaA 20 _ hS ?_;simp only [zp];refine grA 21 _ hS ?_;simp only [zp];refine co (i:=2) (j:=23) rfl rfl (by kernel_rfl) (by kernel_rfl) (by kernel_rfl) (fun K hK=>?_) (fun K hK=>?_)
      · skip
        go_wp2_with (go_at_call 100;refine (hd0 _ hBD0).mono ?_;rintro e U1 ⟨rfl,hbU1⟩)
        have hBU1:=hBD0.trans (hbU1.mono hBD0.size);have hGU1:=hGD0.far3 hbU1;replace hS:=HKS.out _ hBU1;refine hK.out _ _ (fun _=>hS) ?_;clear hK K;refine co (i:=8) (j:=23) rfl rfl (by kernel_rfl) (by kernel_rfl) (by kernel_rfl) (fun K hK=>?_) (fun K hK=>?_)
        · skip
          go_wp2_with (go_at_call 100;refine (hd38 _ hBU1).mono ?_;rintro e U2 ⟨rfl,hbU2⟩)
          have hBU2:=hBU1.trans (hbU2.mono hBU1.size);have hGU2:=hGU1.far3 hbU2;replace hS:=HKS.out _ hBU2;refine hK.out _ _ (fun _=>hS) ?_;clear hK K;refine gaA 22 _ hS ?_;simp only [zp];refine zw 23 fun K hK=>?_
          go_simp;have hBU3:=hBU2.alloc hBU2.size (.cells evZ.cells.toArray 33);have hGU3:=hGU2.alloc (.cells evZ.cells.toArray 33);have hKU3:=CellsAt.new U2 33 evZ.cells;have hlU3:=hGU2.lt;replace hS:=HKS.out _ hBU3;refine hK.out _ _ (fun _=>hS) ?_;clear hK K;obtain ⟨U3,hUU3⟩:∃q,U2.alloc (.cells evZ.cells.toArray 33)=q:=⟨_,rfl⟩
          have hcU3:U2.alloc (.cells #[.int .u8 0,.int .u32 0,.int .u32 0,.int .u32 0,.int .u32 0,.int .u32 0,.int .u32 0,.int .u32 0,.int .u32 0,.int .u32 0,.int .u8 0,.int .u8 0,.int .u32 0,.bool false,.int .u8 0,.int .u8 0,.int .u8 0] 33)=U3:=hUU3;obtain ⟨g3,hgU3⟩:∃q,U2.heap.size=q:=⟨_,rfl⟩
          rw [hUU3] at hBU3 hGU3 hKU3
          rw [hgU3] at hKU3 hlU3
          rw [hcU3,hgU3];clear hUU3 hgU3 hcU3;refine zw 24 fun K hK=>?_
          refine jA 33 _ _ rfl _ rfl (cs:=EV0.cells) (by rw [HEV0.out];rfl) hKU3 hiV hlV h1V ?_;refine hK.out _ _ zn ?_;clear hK K;refine ah (by kernel_rfl) ?_ _;exact ⟨g3,_,_,_,_,_,_,_,_,_,_,_,_,_,_,_,_,_,_,_,_,_,_,_,_,_,_,_,_,_,_,_,_,_,_,_,_,_,_,_,_,_,_,_,_,rfl,below_setRow hBU3 (by omega) _,hGU3.setRowOther2 _ (by omega),hKU3.setRow _,by omega⟩
        · skip
          go_simp;have hBU4:=hBU1.alloc hBU1.size (.cells evZ.cells.toArray 33);have hGU4:=hGU1.alloc (.cells evZ.cells.toArray 33);have hKU4:=CellsAt.new U1 33 evZ.cells;have hlU4:=hGU1.lt;replace hS:=HKS.out _ hBU4;refine hK.out _ _ (fun _=>hS) ?_;clear hK K;obtain ⟨U4,hUU4⟩:∃q,U1.alloc (.cells evZ.cells.toArray 33)=q:=⟨_,rfl⟩
          have hcU4:U1.alloc (.cells #[.int .u8 0,.int .u32 0,.int .u32 0,.int .u32 0,.int .u32 0,.int .u32 0,.int .u32 0,.int .u32 0,.int .u32 0,.int .u32 0,.int .u8 0,.int .u8 0,.int .u32 0,.bool false,.int .u8 0,.int .u8 0,.int .u8 0] 33)=U4:=hUU4;obtain ⟨g4,hgU4⟩:∃q,U1.heap.size=q:=⟨_,rfl⟩
          rw [hUU4] at hBU4 hGU4 hKU4
          rw [hgU4] at hKU4 hlU4
          rw [hcU4,hgU4];clear hUU4 hgU4 hcU4;refine zw 8 fun K hK=>?_
          go_wp2_with (go_at_call 100;refine (hd38 _ hBU4).mono ?_;rintro e U5 ⟨rfl,hbU5⟩)
          have hBU5:=hBU4.trans (hbU5.mono hBU4.size);have hGU5:=hGU4.far3 hbU5;have hKU5:=hKU4.far3 hbU5;replace hS:=HKS.out _ hBU5;refine hK.out _ _ (fun _=>hS) ?_;clear hK K;refine gaA 22 _ hS ?_;simp only [zp];refine zw 24 fun K hK=>?_
          refine jA 33 _ _ rfl _ rfl (cs:=EV0.cells) (by rw [HEV0.out];rfl) hKU5 hiV hlV h1V ?_;refine hK.out _ _ zn ?_;clear hK K;refine ah (by kernel_rfl) ?_ _;exact ⟨g4,_,_,_,_,_,_,_,_,_,_,_,_,_,_,_,_,_,_,_,_,_,_,_,_,_,_,_,_,_,_,_,_,_,_,_,_,_,_,_,_,_,_,_,_,rfl,below_setRow hBU5 (by omega) _,hGU5.setRowOther2 _ (by omega),hKU5.setRow _,by omega⟩
      · skip
        go_simp;have hBU6:=hBD0.alloc hBD0.size (.cells evZ.cells.toArray 33);have hGU6:=hGD0.alloc (.cells evZ.cells.toArray 33);have hKU6:=CellsAt.new D0 33 evZ.cells;have hlU6:=hGD0.lt;replace hS:=HKS.out _ hBU6;refine hK.out _ _ (fun _=>hS) ?_;clear hK K;obtain ⟨U6,hUU6⟩:∃q,D0.alloc (.cells evZ.cells.toArray 33)=q:=⟨_,rfl⟩
        have hcU6:D0.alloc (.cells #[.int .u8 0,.int .u32 0,.int .u32 0,.int .u32 0,.int .u32 0,.int .u32 0,.int .u32 0,.int .u32 0,.int .u32 0,.int .u32 0,.int .u8 0,.int .u8 0,.int .u32 0,.bool false,.int .u8 0,.int .u8 0,.int .u8 0] 33)=U6:=hUU6;obtain ⟨g6,hgU6⟩:∃q,D0.heap.size=q:=⟨_,rfl⟩
        rw [hUU6] at hBU6 hGU6 hKU6
        rw [hgU6] at hKU6 hlU6
        rw [hcU6,hgU6];clear hUU6 hgU6 hcU6;refine zw 2 fun K hK=>?_
        go_wp2_with (go_at_call 100;refine (hd0 _ hBU6).mono ?_;rintro e U7 ⟨rfl,hbU7⟩)
        have hBU7:=hBU6.trans (hbU7.mono hBU6.size);have hGU7:=hGU6.far3 hbU7;have hKU7:=hKU6.far3 hbU7;replace hS:=HKS.out _ hBU7;refine hK.out _ _ (fun _=>hS) ?_;clear hK K;refine zw 8 fun K hK=>?_
        go_wp2_with (go_at_call 100;refine (hd38 _ hBU7).mono ?_;rintro e U8 ⟨rfl,hbU8⟩)
        have hBU8:=hBU7.trans (hbU8.mono hBU7.size);have hGU8:=hGU7.far3 hbU8;have hKU8:=hKU7.far3 hbU8;replace hS:=HKS.out _ hBU8;refine hK.out _ _ (fun _=>hS) ?_;clear hK K;refine gaA 22 _ hS ?_;simp only [zp];refine zw 24 fun K hK=>?_
        refine jA 33 _ _ rfl _ rfl (cs:=EV0.cells) (by rw [HEV0.out];rfl) hKU8 hiV hlV h1V ?_;refine hK.out _ _ zn ?_;clear hK K;refine ah (by kernel_rfl) ?_ _;exact ⟨g6,_,_,_,_,_,_,_,_,_,_,_,_,_,_,_,_,_,_,_,_,_,_,_,_,_,_,_,_,_,_,_,_,_,_,_,_,_,_,_,_,_,_,_,_,rfl,below_setRow hBU8 (by omega) _,hGU8.setRowOther2 _ (by omega),hKU8.setRow _,by omega⟩
    rintro a U ⟨G,t3,u7,u8,u9,u10,u11,u12,u13,u14,u15,u16,u17,u18,u19,u20,u21,u22,u23,u24,u25,u26,u27,u28,u29,u30,u31,u32,u33,u34,u35,u36,u37,u38,u39,u40,u41,u42,u43,u44,u45,u46,u47,u48,u49,rfl,hB1,hG1,hK1,hltG⟩;clear hB0 hG0 hd0 hd38 hct0 hct38 HKS;rw [HEV0.out] at hK1
    have HPG:=ac.mk (fun j hj=>nj z j hj);have hPL:=fd z;obtain ⟨P,hP⟩:∃q,jg z=q:=⟨_,rfl⟩
    have HFU:ac ((⟨a0,s0,P,a1,a2,s2,a3==1,a4,a5,a6⟩:Ev)=UB):=⟨HFULL.out P hP.symm⟩
    rw [hP] at HPG hPL
    have HPS:ac (∀j,j<8→(P.take j++List.replicate (8 - j) 0).set j (P[j]?.getD 0)=P.take (j+1)++List.replicate (8 - (j+1)) 0):=⟨fun j hj=>qc P hPL j hj⟩
    have HPL:ac (∀j,j≤8→(P.take j++List.replicate (8 - j) 0).length=8):=⟨fun j hj=>by rw [List.length_append,List.length_take,List.length_replicate];omega⟩
    have HPL8:ac (P.length=8):=⟨hPL⟩
    have s5:∀o,at4 ((z.drop o).take 4) 0=at4 z o:=fun o=>by
     have q:∀j,j<4→at1 ((z.drop o).take 4) j=at1 z (o+j):=fun j hj=>by unfold at1;rw [List.getElem?_take_of_lt hj,List.getElem?_drop]
     unfold at4;rw [q 0 (by omega),q (0+1) (by omega),q (0+2) (by omega),q (0+3) (by omega)]
     rfl
    have HN:ac (∀(j:Nat) wx,j<8→Below w.heap.size w wx→Calls Tryz.prog 101 #[.slice (bN (some ⟨b,off,none⟩) c (5+4*j)) 4 (c - (5+4*j))] wx fun e w'=>e=.returned (.int .u32 (at4 z (5+4*j)))∧Below wx.heap.size wx w'):=⟨fun j wx hj h=>by
     have hcb:=(hb0.cut (5+4*j) (5+4*j+4) (by omega) (by omega)).below h;have e4:5+4*j+4 - (5+4*j)=4:=by omega
     rw [e4] at hcb
     have:=my (bN (some ⟨b,off,none⟩) c (5+4*j)) (c - (5+4*j)) ((z.drop (5+4*j)).take 4) wx hcb (fun v hv=>hz v (List.mem_of_mem_drop (List.mem_of_mem_take hv)));rw [s5] at this
     exact this⟩
    have HCT:ac (∀(j:Nat) (wx:World),j<8→(Instr.slice 41 (.slice (some ⟨b,off,none⟩) 58 c) (some (.int .i64 ((5+4*j:Nat):Int))) (some (.int .i64 ((9+4*j:Nat):Int))) none).run Tryz.prog wx=.ok (.slice (bN (some ⟨b,off,none⟩) c (5+4*j)) 4 (c - (5+4*j))) wx):=⟨fun j wx hj=>by
     have:=j0 wx (some ⟨b,off,none⟩) 58 c (5+4*j) (9+4*j) (by omega) (by omega);rw [this,show 9+4*j - (5+4*j)=4 by omega]⟩
    clear hP s5 hPL hb0 hz HALL HBAD HGOOD HC H43 HEV0 HFULL hiV h1V hlV
    go_wp2_with fail
    go_loopw [6] (fun q wr=>∃j:Nat,j≤8∧q=.int .i64 j∧Below w.heap.size w wr∧CellsAt wr w.heap.size 33 evZ.cells∧CellsAt wr G 33 (⟨a0,s0,P.take j++List.replicate (8 - j) 0,a1,a2,s2,a3==1,a4,a5,a6⟩:Ev).cells) (fun q _=>8 - (intOf q).toNat)
    case atStart=>exact ⟨0,by omega,rfl,hB1,hG1,hK1⟩
    case round=>
     clear hB1 hG1 hK1;obtain ⟨j,hj,rfl,hB1,hG1,hK1⟩:=hrel
     by_cases hlt8:j<8
     · have hst:=HPS.out j hlt8
       have hlen:=HPL.out j (by omega);rw [HPG.out j hlt8] at hst
       have hnm:=fun wx h=>HN.out j wx hlt8 h
       have hct:=fun wx=>HCT.out j wx hlt8
       obtain ⟨V,hV⟩:∃q,at4 z (5+4*j)=q:=⟨_,rfl⟩
       rw [hV] at hnm hst
       obtain ⟨Y,hY⟩:∃q,bN (some ⟨b,off,none⟩) c (5+4*j)=q:=⟨_,rfl⟩
       obtain ⟨C,hC⟩:∃q,c - (5+4*j)=q:=⟨_,rfl⟩
       rw [hY,hC] at hnm hct
       have hj0:(0:Int)≤(j:Int):=by omega
       have hj8:(j:Int)<8:=by omega
       obtain ⟨m,hm⟩:∃q:Nat,4*j=q:=⟨_,rfl⟩
       obtain ⟨l,hl⟩:∃q:Nat,5+4*j=q:=⟨_,rfl⟩
       obtain ⟨h9,hh9⟩:∃q:Nat,9+4*j=q:=⟨_,rfl⟩
       have hw1:IntKind.i64.wrap (4*(j:Int))=(m:Int):=by rw [IntKind.wrap_i64];omega
       have hw2:IntKind.i64.wrap (5+(m:Int))=(l:Int):=by rw [IntKind.wrap_i64];omega
       have hw3:IntKind.i64.wrap (9+(m:Int))=(h9:Int):=by rw [IntKind.wrap_i64];omega
       rw [hl,hh9] at hct
       obtain ⟨Q,hQ⟩:∃q,P.take j++List.replicate (8 - j) 0=q:=⟨_,rfl⟩
       rw [hQ] at hst hlen hK1
       have HST:ac (Q.set j V=P.take (j+1)++List.replicate (8 - (j+1)) 0):=⟨hst⟩
       have HQL:ac (Q.length=8):=⟨hlen⟩
       clear hV hst hQ hlen hY hC hm hl hh9
       go_wp2_with (go_at_call 101;refine (hnm _ hB1).mono ?_;rintro e w1 ⟨rfl,hb1⟩;have hH1:=hK1.far3 hb1;have cj:=hH1.cell (2+j);rw [pV _ HQL.out j hlt8] at cj;have fj:=hH1.frozen2 (2+j))
       have hB2:=hB1.trans (hb1.mono hB1.size);have hG2:=hG1.far3 hb1;have hH2:=hH1.set2 (2+j) (.int .u32 V);rw [mz _ HQL.out j hlt8 V] at hH2
       go_roundw
       case rel=>exact ⟨j+1,by omega,by go_num,hB2.setCell (by show w.heap.size≤G;omega) _,hG2.setOther2 _ _ (by show w.heap.size≠G;omega),by rw [←HST.out];exact hH2⟩
       case measure=>simp [intOf];omega
     · obtain rfl:j=8:=by omega
       have hP8:P.take 8++List.replicate (8 - 8) 0=P:=by rw [Nat.sub_self,List.replicate_zero,List.append_nil,List.take_of_length_le (by have:=HPL8.out;omega)]
       rw [hP8] at hK1
       obtain ⟨EV,hEV⟩:∃q,(⟨a0,s0,P,a1,a2,s2,a3==1,a4,a5,a6⟩:Ev)=q:=⟨_,rfl⟩
       have hel:EV.past.length=8:=by rw [←hEV];exact HPL8.out
       rw [hEV] at hK1
       have HUB:ac (EV=UB∧UE=0):=⟨by rw [←hEV];exact HFU.out,HE.out.2⟩
       have HEL:ac (EV.past.length=8):=⟨hel⟩
       have hiV:=bQ EV hel;have h1V:=dh EV;have hlV:evZ.cells.length=EV.cells.length:=by rw [eO EV hel];rfl
       have rE:=hK1.whole2;clear hP8 HPS HPL HPG HN HCT hEV hel
       go_wp2_with (first
        |(refine af rfl 33 _ rfl _ _ rfl EV.cells rE Tryz.underlying33 rfl hiV ?_)
        |(refine aq rfl 33 _ _ rfl _ rfl rfl hG1 hiV hlV h1V ?_))
       refine bodyPost_ret (eH Tryz.results55 _ rfl rfl (hG1.setRow EV.cells) HEL.out) rfl ⟨by rw [←HUB.out.1,HUB.out.2];rfl,?_⟩;exact below_setRow hB1 (Nat.le_refl _) _
set_option maxHeartbeats 4000000
theorem kx (A:List Int) (j:Nat):A++aP (j+1)=(A++aP j)++ [0]:=by
 unfold aP;rw [List.replicate_succ',List.append_assoc]
theorem nc (n j:Nat) (h:j≤bM n) (hm:(n+j) % 16=0):j=bM n:=by unfold bM at h ⊢;omega
theorem ng (n j:Nat) (h:j≤bM n) (hm:¬(n+j) % 16=0):j<bM n:=by unfold bM at h ⊢;omega
theorem tS (m n i:Nat) (hi:i<16):(le8 m++le8 n)[i]?.getD 0=((if i<8 then m else n:Nat):Int) / 2 ^ (8*(i % 8)) % 256:=by
 by_cases h:i<8
 · rw [if_pos h,List.getElem?_append_left (by rw [le8_length];exact h),nN m i h,Nat.mod_eq_of_lt h]
 · rw [if_neg h,List.getElem?_append_right (by rw [le8_length];omega),le8_length,nN n (i - 8) (by omega),show i % 8=i - 8 by omega]
theorem je (x:Option Addr) (len cap:Nat) (o:List Int) (y:Option Addr) (lb cb:Nat) (s:List Int) (w:World) (hx:Bytes w x len cap o) (hy:Bytes w y lb cb s) (hl1:len≤100000) (hl2:lb≤100000):
    Calls Tryz.prog 92 #[.slice x len cap,.slice y lb cb] w fun e w'=>∃v,e=.returned v∧ao w' w.heap.size v (aR o s)∧Below w.heap.size w w':=by
 have HOL:ac (o.length=len):=⟨hx.len_eq.symm⟩
 have HSL:ac (s.length=lb):=⟨hy.len_eq.symm⟩
 have HX:ac (Bytes w x len cap o):=⟨hx⟩
 have HY:ac (Bytes w y lb cb s):=⟨hy⟩
 have h64a:IntKind.u64.wrap (len:Int)=(len:Int):=by simp [IntKind.wrap,IntKind.bits,IntKind.signed];omega
 have h64b:IntKind.u64.wrap (lb:Int)=(lb:Int):=by simp [IntKind.wrap,IntKind.bits,IntKind.signed];omega
 clear hy;go_enter Tryz.func92,Tryz.ntmps92;have hx0:=HX.out
 go_wp2_with (at_builtin;refine aG rfl _ _ rfl w.heap.size _ [] rfl (ao.nil _ _) x len cap o rfl hx0 (by simp;omega) (Nat.le_refl _) ?_;intro v1 w1 ho1 hg1)
 have hB1:Below w.heap.size w w1:=below_grown (Below.refl _ _) (ao.nil _ _) hg1 (Nat.le_refl _);rw [List.nil_append] at ho1
 clear hg1 hx0 hx
 go_loopw [5] (fun v wr=>∃j:Nat,j≤bM len∧ao wr w.heap.size v (o++aP j)∧Below w.heap.size w wr) (fun v _=>len+16 - lenOf v)
 case atStart=>exact ⟨0,by omega,by simpa [aP] using ho1,hB1⟩
 case round=>
  clear ho1 hB1;obtain ⟨j,hj,ho,hB⟩:=hrel;obtain ⟨xv,nv,cv,hv,hnv⟩:=ho.isSlice;rw [List.length_append,cm,HOL.out] at hnv
  subst hnv;subst hv;have hfl:=cH len;have hol:=HOL.out;have hln:(o++aP j).length=len+j:=by rw [List.length_append,cm,hol]
  obtain ⟨r,hr⟩:∃r:Nat,(len+j) % 16=r:=⟨_,rfl⟩
  have hrt:((len+j:Nat):Int).tmod 16=(r:Int):=by rw [Int.tmod_eq_emod_of_nonneg (by omega)];omega
  have hrt2:((len:Int)+(j:Int)).tmod 16=(r:Int):=by rw [Int.tmod_eq_emod_of_nonneg (by omega)];omega
  by_cases hz:r=0
  · subst hz
    have hjf:=nc len j hj hr;have HJ:ac (j=bM len):=⟨hjf⟩
    have HM:ac ((len+j) % 16=0):=⟨hr⟩
    have HZS:ac (∀q,(o++aP j++s)++aP (q+1)=((o++aP j++s)++aP q)++ [0]):=⟨kx _⟩
    have HFR:ac (∀q,q=bM lb→(o++aP j++s)++aP q++(le8 len++le8 lb)=aR o s):=⟨fun q hq=>by
     unfold aR;rw [HOL.out,HSL.out,←HJ.out,←hq];simp only [List.append_assoc]⟩
    obtain ⟨P,hP⟩:∃q,o++aP j=q:=⟨_,rfl⟩
    have hlnP:=hln;rw [hP] at ho HFR hlnP HZS
    have hPl:P.length≤200000:=by omega
    have hyB:=HY.out.below hB;have HPL:ac (P.length=len+j):=⟨hlnP⟩
    clear hjf hr hP hln hlnP hol hrt hrt2;have hrt:((len+j:Nat):Int).tmod 16=0:=by have:=HM.out;rw [Int.tmod_eq_emod_of_nonneg (by omega)];omega
    have hrt2:((len:Int)+(j:Int)).tmod 16=0:=by have:=HM.out;rw [Int.tmod_eq_emod_of_nonneg (by omega)];omega
    go_wp2_with (at_builtin;refine aG rfl _ _ rfl w.heap.size _ P rfl ho y lb cb s rfl hyB (by omega) hB.size ?_;intro v2 w2 ho2 hg2)
    have hB2:Below w.heap.size w w2:=below_grown hB ho hg2 hB.size;clear hg2 ho hB hyB hrt hrt2;obtain ⟨Q,hQ⟩:∃q,P++s=q:=⟨_,rfl⟩
    rw [hQ] at ho2 HFR HZS
    have HQL:ac (Q.length=len+j+lb):=⟨by rw [←hQ,List.length_append,HPL.out,HSL.out]⟩
    clear hQ
    go_loopw [5] (fun v wr=>∃q:Nat,q≤bM lb∧ao wr w.heap.size v (Q++aP q)∧Below w.heap.size w wr) (fun v _=>len+j+lb+16 - lenOf v)
    case atStart=>exact ⟨0,by omega,by simpa [aP] using ho2,hB2⟩
    case round=>
     clear ho2 hB2;obtain ⟨q,hq,ho,hB⟩:=hrel;obtain ⟨xv,nv,cv,hv,hnv⟩:=ho.isSlice;rw [List.length_append,cm,HQL.out] at hnv
     subst hnv;subst hv;have hfl:=cH lb;have hln:(Q++aP q).length=len+j+lb+q:=by rw [List.length_append,cm,HQL.out]
     obtain ⟨r,hr⟩:∃r:Nat,(len+j+lb+q) % 16=r:=⟨_,rfl⟩
     have hrt:((len+j+lb+q:Nat):Int).tmod 16=(r:Int):=by rw [Int.tmod_eq_emod_of_nonneg (by omega)];omega
     have hrt2:((len:Int)+(j:Int)+(lb:Int)+(q:Int)).tmod 16=(r:Int):=by rw [Int.tmod_eq_emod_of_nonneg (by omega)];omega
     by_cases hz:r=0
     · subst hz
       have hqf:q=bM lb:=nc lb q hq (by have:=HM.out;omega);have HQ:ac (Q++aP q++(le8 len++le8 lb)=aR o s):=⟨HFR.out q hqf⟩
       have HG:ac (∀i,i<16→(le8 len++le8 lb)[i]?.getD 0=((if i<8 then len else lb:Nat):Int) / 2 ^ (8*(i % 8)) % 256):=⟨tS len lb⟩
       have HLL:ac ((le8 len++le8 lb).length=16):=⟨by rw [List.length_append,le8_length,le8_length]⟩
       obtain ⟨L,hL⟩:∃q,le8 len++le8 lb=q:=⟨_,rfl⟩
       obtain ⟨S,hS⟩:∃t,Q++aP q=t:=⟨_,rfl⟩
       rw [hL] at HQ HG HLL
       rw [hS] at HQ ho hln
       have HSN:ac (S.length≤500000):=⟨by omega⟩
       clear hqf hr hS hln hL
       go_wp2_with fail
       go_loopw [5,6] (fun v iv wr=>∃i:Nat,i≤16∧iv=.int .i64 i∧ao wr w.heap.size v (S++L.take i)∧Below w.heap.size w wr) (fun _ iv _=>16 - (intOf iv).toNat)
       case atStart=>exact ⟨0,by omega,rfl,by simpa using ho,hB⟩
       case round=>
        clear ho hB hrt hrt2;obtain ⟨i,hi,rfl,ho,hB⟩:=hrel
        by_cases hlt:i<16
        · have hg:=HG.out i hlt
          have ht:=bG L i (by rw [HLL.out];exact hlt);obtain ⟨m,hm⟩:∃m:Nat,8*(i % 8)=m:=⟨_,rfl⟩
          obtain ⟨r,hr⟩:∃r:Nat,i % 8=r:=⟨_,rfl⟩
          rw [hm] at hg
          have hlS:(S++L.take i).length≤600000:=by rw [List.length_append,List.length_take];have:=HSN.out;omega
          have hi16:(i:Int)<16:=by omega
          have r5:(i:Int).tmod 8=(r:Int):=by rw [Int.tmod_eq_emod_of_nonneg (by omega)];omega
          have r2:(8:Int)*(r:Int)=(m:Int):=by omega
          have r3:IntKind.i64.wrap (m:Int)=(m:Int):=by rw [IntKind.wrap_i64];omega
          have r4:(m:Int)<64:=by omega
          by_cases h8:i<8
          · have h8':¬(i:Int)≥8:=by omega
            rw [if_pos h8] at hg
            have HT:ac (S++L.take (i+1)=(S++L.take i)++ [(len:Int) / 2 ^ m % 256]):=⟨by rw [ht,hg,List.append_assoc]⟩
            obtain ⟨A,hA⟩:∃q,S++L.take i=q:=⟨_,rfl⟩
            rw [hA] at HT ho hlS
            have r8:IntKind.u8.wrap ((len:Int) / 2 ^ m)=(len:Int) / 2 ^ m % 256:=by simp [IntKind.wrap,IntKind.bits,IntKind.signed]
            clear hg ht hm hr hA
            go_wp2_with (at_builtin;refine bF rfl _ _ rfl w.heap.size _ A rfl ((len:Int) / 2 ^ m % 256) (ho.alloc _) rfl (by omega) hB.size ?_;intro v3 w3 ho3 hg3)
            go_roundw
            case rel=>exact ⟨i+1,by omega,by go_num,by rw [HT.out];exact ho3,below_grown (hB.alloc hB.size _) (ho.alloc _) hg3 (by have:=hB.size;simp;omega)⟩
            case measure=>simp [intOf];omega
          · have h8':(i:Int)≥8:=by omega
            rw [if_neg h8] at hg
            have HT:ac (S++L.take (i+1)=(S++L.take i)++ [(lb:Int) / 2 ^ m % 256]):=⟨by rw [ht,hg,List.append_assoc]⟩
            obtain ⟨A,hA⟩:∃q,S++L.take i=q:=⟨_,rfl⟩
            rw [hA] at HT ho hlS
            have r8:IntKind.u8.wrap ((lb:Int) / 2 ^ m)=(lb:Int) / 2 ^ m % 256:=by simp [IntKind.wrap,IntKind.bits,IntKind.signed]
            clear hg ht hm hr hA
            go_wp2_with (at_builtin;refine bF rfl _ _ rfl w.heap.size _ A rfl ((lb:Int) / 2 ^ m % 256) (ho.alloc _) rfl (by omega) hB.size ?_;intro v3 w3 ho3 hg3)
            go_roundw
            case rel=>exact ⟨i+1,by omega,by go_num,by rw [HT.out];exact ho3,below_grown (hB.alloc hB.size _) (ho.alloc _) hg3 (by have:=hB.size;simp;omega)⟩
            case measure=>simp [intOf];omega
        · obtain rfl:i=16:=by omega
          rw [List.take_of_length_le (by rw [HLL.out];omega),HQ.out] at ho
          rw [show ((16:Nat):Int)=16 from rfl];go_wp2;go_ret;exact ⟨_,rfl,ho,hB⟩
     · have hlt:=ng lb q hq (by have:=HM.out;omega)
       have hrn:¬(r:Int)=0:=by omega
       have HZ1:ac (Q++aP (q+1)=(Q++aP q)++ [0]):=⟨HZS.out q⟩
       obtain ⟨A,hA⟩:∃t,Q++aP q=t:=⟨_,rfl⟩
       rw [hA] at HZ1 ho hln
       have hAl:A.length≤600000:=by omega
       have HAL:ac (A.length=len+j+lb+q):=⟨hln⟩
       clear hr hA hln hz
       go_wp2_with (at_builtin;refine bF rfl _ _ rfl w.heap.size _ A rfl 0 (ho.alloc _) rfl (by omega) hB.size ?_;intro v3 w3 ho3 hg3)
       obtain ⟨x3,n3,c3,hv3,hn3⟩:=ho3.isSlice;rw [List.length_append,HAL.out] at hn3
       subst hn3;subst hv3;go_roundw
       case rel=>exact ⟨q+1,by omega,by rw [HZ1.out];exact ho3,below_grown (hB.alloc hB.size _) (ho.alloc _) hg3 (by have:=hB.size;simp;omega)⟩
       case measure=>simp only [lenOf,List.length_cons,List.length_nil];omega
  · have hlt:=ng len j hj (by omega)
    have hrn:¬(r:Int)=0:=by omega
    have HZ1:ac (o++aP (j+1)=(o++aP j)++ [0]):=⟨kx o j⟩
    obtain ⟨A,hA⟩:∃t,o++aP j=t:=⟨_,rfl⟩
    rw [hA] at HZ1 ho hln
    have hAl:A.length≤600000:=by omega
    have HAL:ac (A.length=len+j):=⟨hln⟩
    clear hr hA hln hz hol
    go_wp2_with (at_builtin;refine bF rfl _ _ rfl w.heap.size _ A rfl 0 (ho.alloc _) rfl (by omega) hB.size ?_;intro v3 w3 ho3 hg3)
    obtain ⟨x3,n3,c3,hv3,hn3⟩:=ho3.isSlice;rw [List.length_append,HAL.out] at hn3
    subst hn3;subst hv3;go_roundw
    case rel=>exact ⟨j+1,by omega,by rw [HZ1.out];exact ho3,below_grown (hB.alloc hB.size _) (ho.alloc _) hg3 (by have:=hB.size;simp;omega)⟩
    case measure=>simp only [lenOf,List.length_cons,List.length_nil];omega
end Go.Proofs.YtbdhfbglagdiaaaGreatDoor
