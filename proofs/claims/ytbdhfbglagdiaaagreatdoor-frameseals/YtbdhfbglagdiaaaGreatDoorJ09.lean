/- Step Join PureB Pad -/
import Derived.Test.YtbdhfbglagdiaaaGreatDoorJ08
import Derived.Deep.RegionHeld3
import Derived.Deep.DeepCutAuto
import Derived.Deep.OwnRows
namespace Go.Proofs.YtbdhfbglagdiaaaGreatDoor.S
open Go.RowKit
theorem vV {W w1:World} (hb:Below W.heap.size W w1):(∀b o,b<W.heap.size→w1.cell? ⟨b,o,none⟩=W.cell? ⟨b,o,none⟩)∧(∀b o,b<W.heap.size→w1.frozen? ⟨b,o,none⟩=W.frozen? ⟨b,o,none⟩):=
 ⟨fun b o h=>hb.cell (p:=⟨b,o,none⟩) h,fun b o h=>hb.frozen (p:=⟨b,o,none⟩) h⟩
theorem vT {w:World} {g:Nat} {t:TypeId} (h:aa w g .u32 t (List.replicate 8 0)):
    (w.cell? ⟨g,0,none⟩=some (.int .u32 0)∧w.cell? ⟨g,1,none⟩=some (.int .u32 0)∧w.cell? ⟨g,2,none⟩=some (.int .u32 0)∧w.cell? ⟨g,3,none⟩=some (.int .u32 0)∧
     w.cell? ⟨g,4,none⟩=some (.int .u32 0)∧w.cell? ⟨g,5,none⟩=some (.int .u32 0)∧w.cell? ⟨g,6,none⟩=some (.int .u32 0)∧w.cell? ⟨g,7,none⟩=some (.int .u32 0))∧∀j,w.frozen? ⟨g,j,none⟩=false:=
 ⟨⟨h.cell 0 (by simp),h.cell 1 (by simp),h.cell 2 (by simp),h.cell 3 (by simp),h.cell 4 (by simp),h.cell 5 (by simp),h.cell 6 (by simp),h.cell 7 (by simp)⟩,h.frozen⟩
theorem ml {B:Nat} {a w:World} (h:Below B a w) {g:Nat} (hg:B≤g) (v0 v1 v2 v3 v4 v5 v6 v7:Value):
    Below B a ((((((((w.setCell ⟨g,0,none⟩ v0).setCell ⟨g,1,none⟩ v1).setCell ⟨g,2,none⟩ v2).setCell ⟨g,3,none⟩ v3).setCell ⟨g,4,none⟩ v4).setCell ⟨g,5,none⟩ v5).setCell ⟨g,6,none⟩ v6).setCell ⟨g,7,none⟩ v7):=
 (((((((h.setCell (p:=⟨g,0,none⟩) hg _).setCell (p:=⟨g,1,none⟩) hg _).setCell (p:=⟨g,2,none⟩) hg _).setCell (p:=⟨g,3,none⟩) hg _).setCell (p:=⟨g,4,none⟩) hg _).setCell (p:=⟨g,5,none⟩) hg _).setCell (p:=⟨g,6,none⟩) hg _).setCell (p:=⟨g,7,none⟩) hg _
theorem xQ {w:World} {g:Nat} {t:TypeId} (h:aa w g .u32 t (List.replicate 8 0)) (r0 r1 r2 r3 r4 r5 r6 r7:Int):
    aa ((((((((w.setCell ⟨g,0,none⟩ (.int .u32 r0)).setCell ⟨g,1,none⟩ (.int .u32 r1)).setCell ⟨g,2,none⟩ (.int .u32 r2)).setCell ⟨g,3,none⟩ (.int .u32 r3)).setCell ⟨g,4,none⟩ (.int .u32 r4)).setCell ⟨g,5,none⟩ (.int .u32 r5)).setCell ⟨g,6,none⟩ (.int .u32 r6)).setCell ⟨g,7,none⟩ (.int .u32 r7)) g .u32 t [r0,r1,r2,r3,r4,r5,r6,r7]:=
 (((((((h.set 0 r0).set 1 r1).set 2 r2).set 3 r3).set 4 r4).set 5 r5).set 6 r6).set 7 r7
set_option maxRecDepth 20000 in
theorem wt (s z:List Int) (b off cap:Nat) (w:World) (hs:s.length=8) (hin:InU s) (hk:KTab w) (hcap:64≤cap) (hcap2:cap≤9223372036854775807)
    (hcell:∀j,j<64→w.cell? ⟨b,off+j,none⟩=some (.int .u8 (z[j]?.getD 0))):
    Calls Tryz.prog 105 #[.agg (row .u32 s),.slice (some ⟨b,off,none⟩) 64 cap] w fun e w'=>e=.returned (.agg (row .u32 (fZ s z)))∧Below w.heap.size w w':=by
 have hb:b<w.heap.size:=block_lt_of_cell (hcell 0 (by omega));have hws:(sched (bj z 16) 48).length=64:=by rw [bX,bk]
 obtain ⟨r0,r1,r2,r3,r4,r5,r6,r7,hR⟩:=h9 (fT (sched (bj z 16) 48) s 64 hs);have HR:Hid (cn (sched (bj z 16) 48) s 64=[r0,r1,r2,r3,r4,r5,r6,r7]):=hR;have mx:∀wx,KTab wx→Calls Tryz.prog 144 #[.agg (row .u32 s),.agg (row .u32 (sched (bj z 16) 48))] wx fun e w'=>e=.returned (.agg #[.int .u32 r0,.int .u32 r1,.int .u32 r2,.int .u32 r3,.int .u32 r4,.int .u32 r5,.int .u32 r6,.int .u32 r7])∧Below wx.heap.size wx w':=fun wx hx=>by
  have:=tn s (sched (bj z 16) 48) wx hs hin hws hx;rw [hR] at this
  exact this
 clear hR;go_enter Tryz.func105,Tryz.ntmps105;go_wp2;refine af (p:=fun x=>Code.wp _ _ _ _ x) (fun W0=>Below w.heap.size w W0∧W0.heap.size=w.heap.size+2∧aa W0 w.heap.size .u32 141 s∧aa W0 (w.heap.size+1) .u32 141 (List.replicate 8 0)) ⟨((Below.refl _ _).alloc (Nat.le_refl _) _).alloc (by simp) _,by simp,?_,?_⟩ ?_
 · exact (aa.new w .u32 141 s).alloc _
 · have hn:=aa.new (w.alloc (.cells (row .u32 s) 141)) .u32 141 (List.replicate 8 0)
   rw [World.size_alloc] at hn
   exact hn
 rintro W0 ⟨hB,hsz,h0,h1⟩;obtain ⟨s0,s1,s2,s3,s4,s5,s6,s7,rfl⟩:=h9 hs;have c0:W0.cell? ⟨w.heap.size,0,none⟩=some (.int .u32 s0):=h0.cell 0 (by simp);have c1:W0.cell? ⟨w.heap.size,1,none⟩=some (.int .u32 s1):=h0.cell 1 (by simp);have c2:W0.cell? ⟨w.heap.size,2,none⟩=some (.int .u32 s2):=h0.cell 2 (by simp);have c3:W0.cell? ⟨w.heap.size,3,none⟩=some (.int .u32 s3):=h0.cell 3 (by simp);have c4:W0.cell? ⟨w.heap.size,4,none⟩=some (.int .u32 s4):=h0.cell 4 (by simp);have c5:W0.cell? ⟨w.heap.size,5,none⟩=some (.int .u32 s5):=h0.cell 5 (by simp);have c6:W0.cell? ⟨w.heap.size,6,none⟩=some (.int .u32 s6):=h0.cell 6 (by simp);have c7:W0.cell? ⟨w.heap.size,7,none⟩=some (.int .u32 s7):=h0.cell 7 (by simp);have hkeep:∀w',Below W0.heap.size W0 w'→(w'.cell? ⟨w.heap.size,0,none⟩=some (.int .u32 s0)∧w'.cell? ⟨w.heap.size,1,none⟩=some (.int .u32 s1)∧w'.cell? ⟨w.heap.size,2,none⟩=some (.int .u32 s2)∧w'.cell? ⟨w.heap.size,3,none⟩=some (.int .u32 s3)∧
     w'.cell? ⟨w.heap.size,4,none⟩=some (.int .u32 s4)∧w'.cell? ⟨w.heap.size,5,none⟩=some (.int .u32 s5)∧w'.cell? ⟨w.heap.size,6,none⟩=some (.int .u32 s6)∧w'.cell? ⟨w.heap.size,7,none⟩=some (.int .u32 s7)):=fun w' hb'=>by
  have hc:=(vV hb').1;have hl:w.heap.size<W0.heap.size:=by omega
  exact ⟨(hc _ _ hl).trans c0,(hc _ _ hl).trans c1,(hc _ _ hl).trans c2,(hc _ _ hl).trans c3,(hc _ _ hl).trans c4,(hc _ _ hl).trans c5,(hc _ _ hl).trans c6,(hc _ _ hl).trans c7⟩
 clear c0 c1 c2 c3 c4 c5 c6 c7;have hk0:KTab W0:=hk.below hB;have wB:∀wx,Below W0.heap.size W0 wx→Calls Tryz.prog 146 #[.slice (some ⟨b,off,none⟩) 64 cap] wx fun e w'=>e=.returned (.agg (row .u32 (bj z 16)))∧Below W0.heap.size W0 w'∧Below wx.heap.size wx w':=fun wx hx=>
  (tq b off cap z wx hcap hcap2 (fun j hj=>((hB.trans (hx.mono hB.size)).cell (p:=⟨b,off+j,none⟩) hb).trans (hcell j hj))).mono fun e w' ⟨h1,h2⟩=>⟨h1,hx.trans (h2.mono hx.size),h2⟩
 have sB:∀wx,Below W0.heap.size W0 wx→Calls Tryz.prog 145 #[.agg (row .u32 (bj z 16))] wx fun e w'=>e=.returned (.agg (row .u32 (sched (bj z 16) 48)))∧Below W0.heap.size W0 w'∧Below wx.heap.size wx w':=fun wx hx=>
  (qv (bj z 16) wx (bk _ _)).mono fun e w' ⟨h1,h2⟩=>⟨h1,hx.trans (h2.mono hx.size),h2⟩
 have mB:∀wx,Below W0.heap.size W0 wx→Calls Tryz.prog 144 #[.agg #[.int .u32 s0,.int .u32 s1,.int .u32 s2,.int .u32 s3,.int .u32 s4,.int .u32 s5,.int .u32 s6,.int .u32 s7],.agg (row .u32 (sched (bj z 16) 48))] wx fun e w'=>e=.returned (.agg #[.int .u32 r0,.int .u32 r1,.int .u32 r2,.int .u32 r3,.int .u32 r4,.int .u32 r5,.int .u32 r6,.int .u32 r7])∧Below W0.heap.size W0 w'∧Below wx.heap.size wx w':=fun wx hx=>
  (mx wx (hk0.below hx)).mono fun e w' ⟨h1,h2⟩=>⟨h1,hx.trans (h2.mono hx.size),h2⟩
 have hsl:w.heap.size+2≤W0.heap.size:=by omega
 clear hk mx hcell hsz hws
 go_cut [5] (fun v wx=>∃X,v=.pointer (some ⟨X,0,none⟩)∧W0.heap.size≤X∧Below W0.heap.size W0 wx∧aa wx X .u32 141 [r0,r1,r2,r3,r4,r5,r6,r7])
 case first=>
  go_region_held3 (fun w'=>w'.cell? ⟨w.heap.size,0,none⟩=some (.int .u32 s0)∧w'.cell? ⟨w.heap.size,1,none⟩=some (.int .u32 s1)∧w'.cell? ⟨w.heap.size,2,none⟩=some (.int .u32 s2)∧w'.cell? ⟨w.heap.size,3,none⟩=some (.int .u32 s3)∧
   w'.cell? ⟨w.heap.size,4,none⟩=some (.int .u32 s4)∧w'.cell? ⟨w.heap.size,5,none⟩=some (.int .u32 s5)∧w'.cell? ⟨w.heap.size,6,none⟩=some (.int .u32 s6)∧w'.cell? ⟨w.heap.size,7,none⟩=some (.int .u32 s7))
   ((refine hkeep _ ?_;first|with_reducible exact hbw1|with_reducible exact hbw2|with_reducible exact hbw3|with_reducible exact hbw1.alloc hbw1.size _|with_reducible exact hbw2.alloc hbw2.size _|with_reducible exact hbw3.alloc hbw3.size _|with_reducible exact ml hbw3 hXg _ _ _ _ _ _ _ _|with_reducible exact (Below.refl _ _).drew|with_reducible exact ((Below.refl _ _).alloc (Nat.le_refl _) _).drew))
   (first
   |(go_at_call 146;with_reducible refine (wB (World.drew (World.alloc _ _)) ?_).mono ?_;exact ((Below.refl _ _).alloc (Nat.le_refl _) _).drew;rintro e w1 ⟨rfl,hbw1,hb1⟩;have HX:=(aa.new W0 .u32 141 (List.replicate 8 0)).drew.below hb1 (by simp);have hXg:W0.heap.size≤W0.heap.size:=Nat.le_refl _)
   |(go_at_call 146;refine (wB _ ?_).mono ?_;with_reducible exact (Below.refl _ _).drew;rintro e w1 ⟨rfl,hbw1,hb1⟩)
   |(go_at_call 145;with_reducible refine (sB (World.alloc _ _) ?_).mono ?_;exact hbw1.alloc hbw1.size _;rintro e w2 ⟨rfl,hbw2,hb2⟩;have HX:=(aa.new w1 .u32 141 (List.replicate 8 0)).below hb2 (by simp);have hXg:W0.heap.size≤w1.heap.size:=hbw1.size)
   |(go_at_call 145;with_reducible refine (sB _ ?_).mono ?_;exact hbw1;rintro e w2 ⟨rfl,hbw2,hb2⟩;try have HX:=HX.below hb2 HX.lt)
   |(go_at_call 144;with_reducible refine (mB (World.alloc _ _) ?_).mono ?_;exact hbw2.alloc hbw2.size _;rintro e w3 ⟨rfl,hbw3,hb3⟩;have HX:=(aa.new w2 .u32 141 (List.replicate 8 0)).below hb3 (by simp);have hXg:W0.heap.size≤w2.heap.size:=hbw2.size;obtain ⟨⟨x0,x1,x2,x3,x4,x5,x6,x7⟩,xf⟩:=vT HX)
   |(go_at_call 144;with_reducible refine (mB _ ?_).mono ?_;exact hbw2;rintro e w3 ⟨rfl,hbw3,hb3⟩;try (have HX:=HX.below hb3 HX.lt;obtain ⟨⟨x0,x1,x2,x3,x4,x5,x6,x7⟩,xf⟩:=vT HX)))
  all_goals go_wp2_with fail
  all_goals go_meet
  all_goals first
   |exact ⟨_,rfl,hbw3.size,hbw3.alloc hbw3.size _,aa.new w3 .u32 141 [r0,r1,r2,r3,r4,r5,r6,r7]⟩
   |exact ⟨_,rfl,hXg,ml hbw3 hXg _ _ _ _ _ _ _ _,xQ HX _ _ _ _ _ _ _ _⟩
 case rest=>
  obtain ⟨X,rfl,hX,hBx,hHx⟩:=hcut;have hs0:aa wc w.heap.size .u32 141 [s0,s1,s2,s3,s4,s5,s6,s7]:=h0.below hBx (by omega);have hs1:aa wc (w.heap.size+1) .u32 141 (List.replicate 8 0):=h1.below hBx (by omega);have hBw:Below w.heap.size w wc:=hB.trans (hBx.mono (by omega));have hXl:w.heap.size+2≤X:=by omega
  clear h0 h1 hBx hB wB sB mB hkeep hk0 hX hsl;go_wp2
  go_loopw [16] (fun i wr=>∃k:Nat,k≤8∧i=.int .i64 k∧Below w.heap.size w wr∧aa wr w.heap.size .u32 141 [s0,s1,s2,s3,s4,s5,s6,s7]∧aa wr (w.heap.size+1) .u32 141 (List.replicate 8 0)
      ∧aa wr X .u32 141 (addK [r0,r1,r2,r3,r4,r5,r6,r7] [s0,s1,s2,s3,s4,s5,s6,s7] k)) (fun i _=>8 - (intOf i).toNat)
  case atStart=>exact ⟨0,by omega,rfl,hBw,hs0,hs1,by rw [nj _ _ rfl];exact hHx⟩
  case round=>
   clear hs0 hs1 hBw hHx;obtain ⟨k,hk8,rfl,hBr,hs0,hs1,hHr⟩:=hrel
   by_cases hlt:k<8
   · have cx:=hHr.cell k (by rw [addK_length];exact hlt)
     rw [pW _ _ _ _ hlt,if_neg (by omega)] at cx
     have cs:=hs0.cell k hlt;have fx:=hHr.frozen k;have hst:=oO [r0,r1,r2,r3,r4,r5,r6,r7] [s0,s1,s2,s3,s4,s5,s6,s7] k;obtain ⟨RK,hRK⟩:∃v,[r0,r1,r2,r3,r4,r5,r6,r7][k]?.getD 0=v:=⟨_,rfl⟩
     obtain ⟨SK,hSK⟩:∃v,[s0,s1,s2,s3,s4,s5,s6,s7][k]?.getD 0=v:=⟨_,rfl⟩
     rw [hRK] at cx hst
     rw [hSK] at cs hst
     have HST:Hid ((addK [r0,r1,r2,r3,r4,r5,r6,r7] [s0,s1,s2,s3,s4,s5,s6,s7] k).set k ((RK+SK) % 4294967296)=addK [r0,r1,r2,r3,r4,r5,r6,r7] [s0,s1,s2,s3,s4,s5,s6,s7] (k+1)):=hst;clear hRK hSK hst;go_wp2
     go_region
     all_goals go_wp2
     all_goals go_roundw
     case rel=>
      refine ⟨k+1,by omega,by go_num,(aD hBr 1).setCell (by simp;omega) _,(hs0.drew).setOther _ _ (by simp;omega),(hs1.drew).setOther _ _ (by simp;omega),?_⟩;have:=hHr.drew.set k ((RK+SK) % 4294967296);rw [HST.out] at this
      exact this
     case measure=>simp [intOf];omega
   · obtain rfl:k=8:=by omega
     rw [lD] at hHr
     have hl:(lG [r0,r1,r2,r3,r4,r5,r6,r7] [s0,s1,s2,s3,s4,s5,s6,s7]).length=8:=by simp [lG]
     go_wp2_with (first|(refine am rfl 141 _ rfl _ rfl hHr Tryz.underlying141 j9 hl ?_)|(refine ah rfl 141 _ _ rfl _ rfl rfl hs1 (by rw [hl];exact j9) (by simp [hl]) ?_))
     refine bodyPost_ret (aj (Tryz.results105) _ rfl (hs1.setRow _) Tryz.underlying141 j9 hl) rfl ⟨?_,?_⟩
     · unfold fZ;rw [HR.out]
     · exact below_setRow hBr (by omega) _
theorem sh {w:World} {g b:Nat} (v0 v1 v2 v3 v4 v5 v6 v7:Value) (h:b≠g):
    ((((((((w.setCell ⟨g,0,none⟩ v0).setCell ⟨g,1,none⟩ v1).setCell ⟨g,2,none⟩ v2).setCell ⟨g,3,none⟩ v3).setCell ⟨g,4,none⟩ v4).setCell ⟨g,5,none⟩ v5).setCell ⟨g,6,none⟩ v6).setCell ⟨g,7,none⟩ v7).heap[b]?=w.heap[b]?:=by
 rw [heap_setCell_other _ _ _ _ h,heap_setCell_other _ _ _ _ h,heap_setCell_other _ _ _ _ h,heap_setCell_other _ _ _ _ h,heap_setCell_other _ _ _ _ h,heap_setCell_other _ _ _ _ h,heap_setCell_other _ _ _ _ h,heap_setCell_other _ _ _ _ h]
theorem ol {w:World} {g:Nat} {t:TypeId} {s0 s1 s2 s3 s4 s5 s6 s7:Int} (h:aa w g .u32 t [s0,s1,s2,s3,s4,s5,s6,s7]) (r0 r1 r2 r3 r4 r5 r6 r7:Int):
    aa ((((((((w.setCell ⟨g,0,none⟩ (.int .u32 r0)).setCell ⟨g,1,none⟩ (.int .u32 r1)).setCell ⟨g,2,none⟩ (.int .u32 r2)).setCell ⟨g,3,none⟩ (.int .u32 r3)).setCell ⟨g,4,none⟩ (.int .u32 r4)).setCell ⟨g,5,none⟩ (.int .u32 r5)).setCell ⟨g,6,none⟩ (.int .u32 r6)).setCell ⟨g,7,none⟩ (.int .u32 r7)) g .u32 t [r0,r1,r2,r3,r4,r5,r6,r7]:=
 (((((((h.set 0 r0).set 1 r1).set 2 r2).set 3 r3).set 4 r4).set 5 r5).set 6 r6).set 7 r7
theorem eG {w:World} {g b:Nat} {k:IntKind} {t:TypeId} {l:List Int} (h:aa w b k t l) (v0 v1 v2 v3 v4 v5 v6 v7:Value) (hne:b≠g):
    aa ((((((((w.setCell ⟨g,0,none⟩ v0).setCell ⟨g,1,none⟩ v1).setCell ⟨g,2,none⟩ v2).setCell ⟨g,3,none⟩ v3).setCell ⟨g,4,none⟩ v4).setCell ⟨g,5,none⟩ v5).setCell ⟨g,6,none⟩ v6).setCell ⟨g,7,none⟩ v7) b k t l:=by
 unfold aa at h ⊢;rw [sh _ _ _ _ _ _ _ _ hne];exact h
theorem fz {w:World} {g:Nat} {t:TypeId} {s0 s1 s2 s3 s4 s5 s6 s7:Int} (h:aa w g .u32 t [s0,s1,s2,s3,s4,s5,s6,s7]):
    (w.cell? ⟨g,0,none⟩=some (.int .u32 s0)∧w.cell? ⟨g,1,none⟩=some (.int .u32 s1)∧w.cell? ⟨g,2,none⟩=some (.int .u32 s2)∧w.cell? ⟨g,3,none⟩=some (.int .u32 s3)∧
     w.cell? ⟨g,4,none⟩=some (.int .u32 s4)∧w.cell? ⟨g,5,none⟩=some (.int .u32 s5)∧w.cell? ⟨g,6,none⟩=some (.int .u32 s6)∧w.cell? ⟨g,7,none⟩=some (.int .u32 s7))∧∀j,w.frozen? ⟨g,j,none⟩=false:=
 ⟨⟨h.cell 0 (by simp),h.cell 1 (by simp),h.cell 2 (by simp),h.cell 3 (by simp),h.cell 4 (by simp),h.cell 5 (by simp),h.cell 6 (by simp),h.cell 7 (by simp)⟩,h.frozen⟩
theorem ce {P:Program} (w:World) (t e:TypeId) (n:Nat) (kd:IntKind) (l:List Int) (k:Nat) (hu:P.underlying t=some (.array n e)) (hue:P.underlying e=some (.int kd)) (hi:(P.info? e).map (·.size)=some 1) (hl:l.length=n) (hk:k<n):
    (Instr.index t (.agg (row kd l)) (.int .i64 k)).run P w=.ok (.int kd (l[k]?.getD 0)) w:=by
 cases hq:P.info? e with
 |none=>simp [hq] at hi
 |some i=>
  have hs:i.size=1:=by simpa [hq] using hi
  have hg:=eY kd l k (by omega);simp [Instr.index,asIntOf,run_underlying hu,sizeOf,typeInfo,hq,hs,hk,part,isAgg,run_underlying hue,hg]
theorem gd (s:List Int) (w:World) (hs:s.length=8):
    Calls Tryz.prog 106 #[.agg (row .u32 s)] w fun e w'=>e=.returned (.agg (row .u8 (joinL s)))∧Below w.heap.size w w':=by
 have hb0:∀o o',aa (((w.alloc (.cells (row .u32 s) 141)).alloc o).alloc o') w.heap.size .u32 141 s:=fun o o'=>((aa.new w .u32 141 s).alloc o).alloc o'
 go_enter Tryz.func106,Tryz.ntmps106
 go_wp2_with (refine am rfl 141 _ rfl _ rfl (hb0 _ _) Tryz.underlying141 j9 hs ?_)
 refine af (p:=fun x=>Code.wp _ _ _ _ x) (fun W0=>Below w.heap.size w W0∧aa W0 (w.heap.size+1) .u8 23 (List.replicate 32 0)∧aa W0 (w.heap.size+1+1) .u8 23 (List.replicate 32 0)) ⟨(((Below.refl _ _).alloc (Nat.le_refl _) _).alloc (by simp) _).alloc (by simp;omega) _,?_,?_⟩ ?_
 · have hn:=aa.new (w.alloc (.cells (row .u32 s) 141)) .u8 23 (List.replicate 32 0)
   rw [World.size_alloc] at hn
   exact hn.alloc _
 · have hn:=aa.new ((w.alloc (.cells (row .u32 s) 141)).alloc (.cells (row .u8 (List.replicate 32 0)) 23)) .u8 23 (List.replicate 32 0)
   rw [World.size_alloc,World.size_alloc] at hn
   exact hn
 clear hb0;rintro W0 ⟨hB,h1,h2⟩
 go_loopw [8] (fun i wr=>∃k:Nat,k≤8∧i=.int .i64 k∧Below w.heap.size w wr∧aa wr (w.heap.size+1) .u8 23 (List.replicate 32 0)∧aa wr (w.heap.size+1+1) .u8 23 (joinK s k++List.replicate (32 - 4*k) 0))
  (fun i _=>8 - (intOf i).toNat)
 case atStart=>exact ⟨0,by omega,rfl,hB,h1,h2⟩
 case round=>
  clear hB h1 h2 W0;obtain ⟨k,hk,rfl,hB,h1,h2⟩:=hrel
  by_cases hlt:k<8
  · have hix:∀wx,(Instr.index 141 (.agg (row .u32 s)) (.int .i64 k)).run Tryz.prog wx=.ok (.int .u32 (s[k]?.getD 0)) wx:=fun wx=>ce wx 141 24 8 .u32 s k Tryz.underlying141 Tryz.underlying24 g9 hs hlt
    have hstep:joinK s (k+1)=joinK s k++bytes4 (s[k]?.getD 0):=rfl;obtain ⟨V,hV⟩:∃V,s[k]?.getD 0=V:=⟨_,rfl⟩
    rw [hV] at hix hstep
    have HS:Hid (joinK s (k+1)=joinK s k++bytes4 V):=hstep;have hln:(joinK s k++List.replicate (32 - 4*k) 0).length=32:=by rw [List.length_append,aJ,List.length_replicate];omega
    have c0:=h2.cell (k*4) (by omega);have c1:=h2.cell (k*4+1) (by omega);have c2:=h2.cell (k*4+2) (by omega);have c3:=h2.cell (k*4+3) (by omega);have hff:=h2.frozen;clear hV hstep hln;go_wp2;go_roundw
    case rel=>
     refine ⟨k+1,by omega,by go_num,(((hB.setCell (by simp;omega) _).setCell (by simp;omega) _).setCell (by simp;omega) _).setCell (by simp;omega) _,(((h1.setOther _ _ (by simp)).setOther _ _ (by simp)).setOther _ _ (by simp)).setOther _ _ (by simp),?_⟩;have:=(((h2.set (k*4) (V / 16777216 % 256)).set (k*4+1) (V / 65536 % 256)).set (k*4+2) (V / 256 % 256)).set (k*4+3) (V % 256);have e:=lY (joinK s k) (32 - 4*(k+1)) (k*4) (V / 16777216 % 256) (V / 65536 % 256) (V / 256 % 256) (V % 256) (by rw [aJ];omega);rw [show 32 - 4*k=32 - 4*(k+1)+4 by omega,e] at this
     rw [HS.out];exact this
    case measure=>simp [intOf];omega
  · obtain rfl:k=8:=by omega
    have h2':aa wr (w.heap.size+1+1) .u8 23 (joinL s):=by simpa [joinL] using h2
    clear h2
    go_wp2_with (first|(refine am rfl 23 _ rfl _ rfl h2' Tryz.underlying23 aI (dW _) ?_)|(refine ah rfl 23 _ _ rfl _ rfl rfl h1 (by rw [dW];exact aI) (by simp [dW]) ?_))
    refine bodyPost_ret (aj (Tryz.results106) _ rfl (h1.setRow _) Tryz.underlying23 aI (dW _)) rfl ⟨rfl,?_⟩;exact below_setRow hB (by omega) _
open Go
def padSize (n:Nat):Nat:=(n+8) / 64*64+64
def lenByte (n i:Nat):Int:=(n:Int)*8 / 2 ^ (8*i) % 256
def cd (n:Nat):Nat→List Int
 |0=>[]
 |k+1=>lenByte n k::cd n k
theorem dS (n k:Nat):(cd n k).length=k:=by
 induction k with
 |zero=>rfl
 |succ k ih=>simp [cd,ih]
def lK (z:List Int) (k:Nat):List Int:=(z++ [128]++List.replicate (padSize z.length - z.length - 9) 0)++List.replicate (8 - k) 0++cd z.length k
def bu (z:List Int):List Int:=lK z 8
theorem ey (n:Nat):n+9≤padSize n:=by unfold padSize;omega
theorem kA (z:List Int) (k:Nat) (h:k≤8):(lK z k).length=padSize z.length:=by
 have:=ey z.length;simp only [lK,List.length_append,List.length_replicate,dS,List.length_cons,List.length_nil];omega
theorem b9 (z:List Int):(bu z).length=padSize z.length:=kA z 8 (by omega)
theorem u7 (p t:List Int) (r:Nat) (v:Int):(p++List.replicate (r+1) 0++t).set (p.length+r) v=p++List.replicate r 0++(v::t):=by
 rw [List.append_assoc,List.set_append_right _ _ (by omega),show p.length+r - p.length=r by omega,List.replicate_succ',List.append_assoc,List.set_append_right _ _ (by simp)];simp
theorem vE (z:List Int) (k:Nat) (h:k<8):(lK z k).set (padSize z.length - 1 - k) (lenByte z.length k)=lK z (k+1):=by
 have hg:=ey z.length;have e:=u7 (z++ [128]++List.replicate (padSize z.length - z.length - 9) 0) (cd z.length k) (8 - (k+1)) (lenByte z.length k);simp only [List.length_append,List.length_replicate,List.length_cons,List.length_nil] at e
 unfold lK;rw [show 8 - k=8 - (k+1)+1 by omega,show padSize z.length - 1 - k=z.length+(0+1)+(padSize z.length - z.length - 9)+(8 - (k+1)) by omega,e]
 rfl
theorem tW (z:List Int):(z++List.replicate (padSize z.length - z.length) 0).set z.length 128=lK z 0:=by
 have hg:=ey z.length;rw [show padSize z.length - z.length=(padSize z.length - z.length - 1)+1 by omega,bx];simp only [lK,cd,List.append_nil,List.append_assoc,List.replicate_append_replicate];rw [show padSize z.length - z.length - 9+(8 - 0)=padSize z.length - z.length - 1 by omega]
theorem pY (n m k:Nat) (h:k<m):(cd n m)[k]?.getD 0=lenByte n (m - 1 - k):=by
 induction m generalizing k with
 |zero=>omega
 |succ m ih=>
  cases k with
  |zero=>simp [cd]
  |succ k=>simp only [cd,List.getElem?_cons_succ];rw [ih k (by omega)];congr 1;omega
theorem bK (l:List Int) (k:Nat) (h:k<l.length):l.take (k+1)=l.take k++ [l[k]?.getD 0]:=by
 rw [List.take_succ_eq_append_getElem h,List.getElem?_eq_getElem h];rfl
def blk (p:List Int) (i:Nat):List Int:=(p.drop (64*i)).take 64
theorem sC (p:List Int) (i j:Nat) (h:j<64):(blk p i)[j]?.getD 0=p[64*i+j]?.getD 0:=by
 simp [blk,h]
def eP (p:List Int) (l:List Nat) (s:List Int):List Int:=l.foldl (fun s i=>fZ s (blk p i)) s
theorem lL (p:List Int) (l:List Nat) (i:Nat) (s:List Int):eP p (l++ [i]) s=fZ (eP p l s) (blk p i):=by simp [eP]
theorem nk:InU bH:=by
 intro x hx;simp only [bH,List.mem_cons,List.not_mem_nil,or_false] at hx
 omega
theorem gu (p:List Int) (l:List Nat) (s:List Int) (h:s.length=8):(eP p l s).length=8:=by
 induction l generalizing s with
 |nil=>exact h
 |cons a l ih=>exact ih _ (go _ _)
theorem pF (p:List Int) (l:List Nat) (s:List Int) (h:InU s):InU (eP p l s):=by
 induction l generalizing s with
 |nil=>exact h
 |cons a l ih=>exact ih _ (vG _ _)
def og (z:List Int):List Int:=eP (bu z) (List.range (padSize z.length / 64)) bH
def sumL (z:List Int):List Int:=joinL (og z)
theorem io (z:List Int):(og z).length=8:=gu _ _ _ rfl
theorem aW (z:List Int):(sumL z).length=32:=dW _
theorem Addr.add_mid' (b o j:Nat):(⟨b,o,none⟩:Addr).add j=⟨b,o+j,none⟩:=by unfold Addr.add;split<;>simp_all
structure Bytes (w:World) (x:Option Addr) (len cap:Nat) (z:List Int):Prop where
 len_eq:len=z.length
 le:len≤cap
 top:cap≤9223372036854775807
 nil:x=none→cap=0
 at_:len=0∨∃b off,x=some ⟨b,off,none⟩∧∀j,j<len→w.cell? ⟨b,off+j,none⟩=some (.int .u8 (z[j]?.getD 0))
theorem Bytes.below {w w':World} {x:Option Addr} {len cap:Nat} {z:List Int} (h:Bytes w x len cap z) (hb:Below w.heap.size w w'):Bytes w' x len cap z:=
 ⟨h.len_eq,h.le,h.top,h.nil,by
  rcases h.at_ with h0|⟨b,off,hx,hc⟩
  · exact .inl h0
  · by_cases hl:len=0
    · exact .inl hl
    · exact .inr ⟨b,off,hx,fun j hj=>(hb.cell (p:=⟨b,off+j,none⟩) (block_lt_of_cell (hc j hj))).trans (hc j hj)⟩⟩
theorem cY (w:World):Bytes w none 0 0 []:=⟨rfl,by omega,by omega,fun _=>rfl,.inl rfl⟩
theorem dp:(Tryz.prog.info? 5).map (fun i=>(i.zero,i.size,i.bytes))=some (some (.int .u8 0),1,1):=by kernel_rfl
theorem iQ:(Tryz.prog.info? 5).map (·.size)=some 1:=by kernel_rfl
theorem iq (n:Nat):madeCells #[.int .u8 0] n=row .u8 (List.replicate n 0):=by
 apply Array.ext_getElem?;intro i
 by_cases h:i<n<;>simp [madeCells,row,h,Nat.mod_one]
theorem dc {t:TypeId} (w:World) (g m:Nat) (x:Option Addr) (len cap:Nat) (z:List Int) (hb:Bytes w x len cap z) (hg:aa w g .u8 t (List.replicate m 0)) (hm:len≤m):
    (Builtin.copy_ #[41,41] 3 #[.slice (some ⟨g,0,none⟩) m m,.slice x len cap]).run Tryz.prog w=.ok (.int .i64 len) (w.setRow g (row .u8 (z++List.replicate (m - z.length) 0))):=by
 have hz:z.length=len:=hb.len_eq.symm;have hcopy:∀(a:Addr),(∀j v,(row .u8 z).toList[j]?=some v→w.cell? (a.add j)=some v)→
     (Builtin.copy_ #[41,41] 3 #[.slice (some ⟨g,0,none⟩) m m,.slice (some a) len cap]).run Tryz.prog w=.ok (.int .i64 len) (w.setRow g (row .u8 (z++List.replicate (m - z.length) 0))):=fun a hsrc=>by
  have hlen:(row .u8 z).toList.length=len:=by simp [row,hz]
  have:=run_copy_row (P:=Tryz.prog) w 41 41 3 5 g 0 m m a len cap _ t (row .u8 z).toList Tryz.underlying41 iQ hg
   (by rw [hlen];exact (Nat.min_eq_left hm).symm) hsrc (by rw [hlen,bc,List.length_replicate];omega) (fun v hv=>(Array.all_eq_true_iff_forall_mem.1 (gE .u8 z)) v (by simpa using hv))
  rw [this,hlen];have e:(List.take 0 (row .u8 (List.replicate m 0)).toList++(row .u8 z).toList++List.drop (0+len) (row .u8 (List.replicate m 0)).toList).toArray=row .u8 (z++List.replicate (m - z.length) 0):=by
   simp [row,hz]
  rw [e];rfl
 rcases hb.at_ with h0|⟨b,off,hx,hc⟩
 · have hz0:z=[]:=List.length_eq_zero_iff.1 (by omega)
   cases x with
   |none=>
    have hc0:=hb.nil rfl;subst h0 hc0 hz0;rw [run_copy_nil Tryz.prog w 41 41 3 5 ⟨g,0,none⟩ m m Tryz.underlying41 (by rw [iQ];rfl)];simp only [List.nil_append,List.length_nil,Nat.sub_zero];rw [setRow_self w g _ t _ hg];rfl
   |some a=>exact hcopy a (fun j v hv=>by subst hz0;simp [row] at hv)
 · subst hx
   exact hcopy _ (fun j v hv=>by
    have hj:j<len:=by
     have:=(List.getElem?_eq_some_iff.1 hv).1
     simpa [row,hz] using this
    rw [Addr.add_mid',hc j hj];have:(row .u8 z).toList[j]?=some (.int .u8 (z[j]?.getD 0)):=by
     have h:=eY .u8 z j (by omega)
     simpa using h
    rw [←this];exact hv)
theorem tg (len:Nat) (w:World) (h:len≤1000000):
    Calls Tryz.prog 143 #[.int .i64 len] w fun e w'=>e=.returned (.int .i64 (((len:Int)+8) / 64*64+64))∧w=w':=by
 go_enter Tryz.func143,Tryz.ntmps143;go_wp2;go_ret;exact ⟨rfl,rfl⟩
theorem wU (x:Option Addr) (len cap:Nat) (z:List Int) (w:World) (hbz:Bytes w x len cap z) (hln:len≤1000000):
    Calls Tryz.prog 104 #[.slice x len cap] w fun e w'=>∃g,e=.returned (.slice (some ⟨g,0,none⟩) (padSize z.length) (padSize z.length))∧w.heap.size≤g∧aa w' g .u8 5 (bu z)∧Below w.heap.size w w':=by
 have hz:=hbz.len_eq;have hg9:=ey len;have hsz:padSize len≤2000000:=by unfold padSize;omega
 have hsi:((padSize len:Nat):Int)=((len:Int)+8) / 64*64+64:=by unfold padSize;omega
 have hmk:∀wx:World,(Instr.makeSlice 41 (.int .i64 (((len:Int)+8) / 64*64+64)) (.int .i64 (((len:Int)+8) / 64*64+64))).run Tryz.prog wx=.ok (.slice (some ⟨wx.heap.size,0,none⟩) (padSize len) (padSize len)) (wx.alloc (.cells (row .u8 (List.replicate (padSize len) 0)) 5)):=fun wx=>by
  have:=run_make_row' (P:=Tryz.prog) 41 5 (.int .u8 0) 1 Tryz.underlying41 dp rfl .i64 .i64 (padSize len) (by omega) (by omega) wx;rw [hsi,iq] at this
  exact this
 obtain ⟨m,hm⟩:∃m,padSize len=m:=⟨_,rfl⟩
 have HM:Hid (padSize z.length=m):=by rw [←hz];exact hm
 rw [hm] at hmk hg9 hsz
 have hW1:aa (w.alloc (.cells (row .u8 (List.replicate m 0)) 5)) w.heap.size .u8 5 (List.replicate m 0):=aa.new w .u8 5 _;have hcp:=dc (w.alloc (.cells (row .u8 (List.replicate m 0)) 5)) w.heap.size m x len cap z (hbz.below ((Below.refl _ _).alloc (Nat.le_refl _) _)) hW1 (by omega);have HZ:Hid (len=z.length):=hz;clear hsi hm hbz hz;go_enter Tryz.func104,Tryz.ntmps104;go_upto_region 3 with (go_at_call 143;refine (tg _ _ hln).mono ?_;rintro e w' ⟨rfl,rfl⟩)
 refine af (p:=fun y=>Code.wp _ _ _ _ y) (fun W0=>Below w.heap.size w W0∧aa W0 w.heap.size .u8 5 (z++List.replicate (m - z.length) 0)) ⟨below_setRow ((Below.refl _ _).alloc (Nat.le_refl _) _) (Nat.le_refl _) _,hW1.setRow _⟩ ?_;clear hcp hW1 hmk;rintro W0 ⟨hB,h0⟩;have c0:=h0.cell len (by have:=HZ.out;rw [List.length_append,List.length_replicate];omega);have f0:=h0.frozen len;go_wp2
 go_loopw [21] (fun i wr=>∃k:Nat,k≤8∧i=.int .i64 k∧Below w.heap.size w wr∧aa wr w.heap.size .u8 5 (lK z k)) (fun i _=>8 - (intOf i).toNat)
 case atStart=>
  refine ⟨0,by omega,rfl,hB.setCell (Nat.le_refl _) _,?_⟩;have:=h0.set len 128;rw [HZ.out,←HM.out,tW] at this
  rw [HZ.out];exact this
 case round=>
  clear hB h0 c0 f0 W0;obtain ⟨k,hk,rfl,hB,h0⟩:=hrel
  by_cases hlt:k<8
  · have c0:=h0.cell (m - 1 - k) (by rw [kA _ _ hk,HM.out];omega)
    have f0:=h0.frozen (m - 1 - k);go_wp2;go_roundw
    case rel=>
     refine ⟨k+1,by omega,by go_num,hB.setCell (Nat.le_refl _) _,?_⟩;have:=h0.set (padSize z.length - 1 - k) (lenByte z.length k);rw [vE z k hlt] at this
     rw [←HM.out,HZ.out];exact this
    case measure=>simp [intOf];omega
  · obtain rfl:k=8:=by omega
    go_wp2;go_ret;exact ⟨w.heap.size,by rw [HM.out];rfl,Nat.le_refl _,h0,hB⟩
end Go.Proofs.YtbdhfbglagdiaaaGreatDoor.S
