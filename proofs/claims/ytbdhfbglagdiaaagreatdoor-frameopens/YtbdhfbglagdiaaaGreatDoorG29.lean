/- RefStepB RefSum -/
import Derived.Test.YtbdhfbglagdiaaaGreatDoorG28
import Derived.Test.YtbdhfbglagdiaaaGreatDoorG08
import Derived.Deep.DeepCutAuto
import Derived.Deep.CutBlock
import Derived.Test.YtbdhfbglagdiaaaGreatDoorG09
import Derived.Deep.RegionWith
namespace Go.Proofs.YtbdhfbglagdiaaaGreatDoor.S
open Go.RowKit
set_option maxRecDepth 20000
set_option maxHeartbeats 4000000
set_option linter.unusedSimpArgs false
structure dd (p:Prop):Prop where
 out:p
theorem pm (s z:List Int) (b off cap:Nat) (w:World) (hs:s.length=8) (hin:InU s) (_hcap:64≤cap) (_hcap2:cap≤9223372036854775807)
    (hcell:∀j,j<64→w.cell? ⟨b,off+j,none⟩=some (.int .u8 (z[j]?.getD 0))):
    Calls Tryz.prog 109 #[.agg (row .u32 s),.slice (some ⟨b,off,none⟩) 64 cap] w fun e w'=>e=.returned (.agg (row .u32 (f5 s z)))∧Below w.heap.size w w':=by
 have hb:b<w.heap.size:=block_lt_of_cell (hcell 0 (by omega));go_enter Tryz.func109,Tryz.ntmps109
 go_upto_block 0 with fail
 refine ae (p:=fun x=>Code.wp _ _ _ _ x) (fun W0=>Below w.heap.size w W0∧W0.heap.size=w.heap.size+2∧aa W0 w.heap.size .u32 28 s∧aa W0 (w.heap.size+1) .u32 28 (List.replicate 8 0)) ⟨((Below.refl _ _).alloc (Nat.le_refl _) _).alloc (by simp) _,by simp,?_,?_⟩ ?_
 · exact (aa.new w .u32 28 s).alloc _
 · have hn:=aa.new (w.alloc (.cells (row .u32 s) 28)) .u32 28 (List.replicate 8 0)
   rw [World.size_alloc] at hn
   exact hn
 rintro W0 ⟨hB0,hsz,h0,h1⟩;have hsl:w.heap.size+2≤W0.heap.size:=by omega
 have hcw:∀w',Below W0.heap.size W0 w'→∀j,j<64→w'.cell? ⟨b,off+j,none⟩=some (.int .u8 (z[j]?.getD 0)):=fun w' hx j hj=>((hB0.trans (hx.mono hB0.size)).cell (p:=⟨b,off+j,none⟩) hb).trans (hcell j hj)
 clear hsz hcell
 go_cut [5] (fun v wx=>Below W0.heap.size W0 wx∧er wx W0.heap.size v (bd z 16))
 case first=>
  go_wp2_with fail
  go_loopw [5,6] (fun v i wr=>∃k:Nat,k≤16∧i=.int .i64 ((4*k:Nat):Int)∧Below W0.heap.size W0 wr∧er wr W0.heap.size v (bd z k)) (fun _ i _=>64 - (intOf i).toNat)
  case atStart=>exact ⟨0,by omega,rfl,Below.refl _ _,er.nil _ _⟩
  case round=>
   obtain ⟨k,hk,rfl,hB,ho⟩:=hrel
   by_cases hlt:k<16
   · obtain ⟨I,hI⟩:∃I,4*k=I:=⟨_,rfl⟩
     have HI:dd (4*k=I):=⟨hI⟩
     obtain ⟨z0,e0⟩:∃q,z[4*k]?.getD 0=q:=⟨_,rfl⟩
     obtain ⟨z1,e1⟩:∃q,z[4*k+1]?.getD 0=q:=⟨_,rfl⟩
     obtain ⟨z2,e2⟩:∃q,z[4*k+2]?.getD 0=q:=⟨_,rfl⟩
     obtain ⟨z3,e3⟩:∃q,z[4*k+3]?.getD 0=q:=⟨_,rfl⟩
     have hkeep:∀w',Below W0.heap.size W0 w'→(w'.cell? ⟨b,off+I,none⟩=some (.int .u8 z0)∧w'.cell? ⟨b,off+(I+1),none⟩=some (.int .u8 z1)∧w'.cell? ⟨b,off+(I+2),none⟩=some (.int .u8 z2)∧w'.cell? ⟨b,off+(I+3),none⟩=some (.int .u8 z3)):=fun w' hx=>by
      subst hI;rw [←e0,←e1,←e2,←e3];exact ⟨hcw w' hx _ (by omega),hcw w' hx _ (by omega),hcw w' hx _ (by omega),hcw w' hx _ (by omega)⟩
     have HW:dd (bd z (k+1)=bd z k++ [wd z0 z1 z2 z3]):=⟨by
      rw [kJ,wdAt,e0,e1,e2,e3]⟩
     have hwl:(bd z k).length≤16:=by rw [bj];omega
     rw [hI];have i0:(0:Int)≤(I:Int):=by omega
     have i1:(I:Int)<64:=by omega
     have i2:(I:Int)+1<64:=by omega
     have i3:(I:Int)+2<64:=by omega
     have i4:(I:Int)+3<64:=by omega
     have j1:IntKind.i64.wrap ((I:Int)+1)=(I:Int)+1:=by rw [IntKind.wrap_i64];omega
     have j2:IntKind.i64.wrap ((I:Int)+2)=(I:Int)+2:=by rw [IntKind.wrap_i64];omega
     have j3:IntKind.i64.wrap ((I:Int)+3)=(I:Int)+3:=by rw [IntKind.wrap_i64];omega
     clear e0 e1 e2 e3 hI hcw;go_upto_region 7 with fail
     go_region_held_law (fun w'=>w'.cell? ⟨b,off+I,none⟩=some (.int .u8 z0)∧w'.cell? ⟨b,off+(I+1),none⟩=some (.int .u8 z1)∧w'.cell? ⟨b,off+(I+2),none⟩=some (.int .u8 z2)∧w'.cell? ⟨b,off+(I+3),none⟩=some (.int .u8 z3))
      ((refine hkeep _ ?_;first|with_reducible exact hB.drew|with_reducible exact hB4|with_reducible exact (hB.alloc hB.size _).drew|with_reducible exact hB.drew.alloc hB.size _))
      (first
      |(refine sm _ _ rfl W0.heap.size _ (bd z k) rfl (wd z0 z1 z2 z3) (w:=World.drew (World.alloc wr _)) ?_ wr.heap.size rfl ?_ ?_ ?_ ?_;exact World.ownsRow.drew (ho.alloc _);exact (cell_of_row _ wr.heap.size 0 _ 24 (0,0) (World.alloc_heap_new wr _)).trans rfl;(omega);(have:=hB.size;simp;omega);intro v4 w4 ho4 hg4;have hB4:Below W0.heap.size W0 w4:=jT ((hB.alloc hB.size _).drew) (World.ownsRow.drew (ho.alloc _)) hg4 (by have:=hB.size;simp;omega)))
     all_goals go_wp2
     all_goals go_roundw
     all_goals first
      |exact ⟨k+1,by omega,by have:=HI.out;congr 1;omega,hB4,by rw [HW.out];exact ho4⟩
      |(have:=HI.out;simp [intOf];omega)
   · obtain rfl:k=16:=by omega
     go_wp2_with fail
     go_meet
     exact ⟨hB,ho⟩
 case rest=>
  obtain ⟨hB,ho⟩:=hcut
  go_upto_block 2 with fail
  have hwl:(bd z 16).length=16:=bj z 16;obtain ⟨F,hF⟩:∃F,bd z 16=F:=⟨_,rfl⟩
  have HF:dd (bd z 16=F):=⟨hF⟩
  rw [hF] at ho hwl
  clear hF hcw
  go_cut [5] (fun v wx=>Below W0.heap.size W0 wx∧er wx W0.heap.size v (sched F 48))
  case first=>
   go_wp2_with fail
   go_loopw [5,7] (fun v i wr=>∃m:Nat,m≤48∧i=.int .i64 ((16+m:Nat):Int)∧Below W0.heap.size W0 wr∧er wr W0.heap.size v (sched F m)) (fun _ i _=>64 - (intOf i).toNat)
   case atStart=>exact ⟨0,by omega,rfl,hB,ho⟩
   case round=>
    clear hB ho;obtain ⟨m,hm,rfl,hB,ho⟩:=hrel;have hln:(sched F m).length=16+m:=by rw [bT,hwl]
    by_cases hlt:m<48
    · obtain ⟨k,hk⟩:∃k,16+m=k:=⟨_,rfl⟩
      have HK:dd (16+m=k):=⟨hk⟩
      have hk1:16≤k:=by omega
      have hk2:k<64:=by omega
      obtain ⟨g,cp,rfl,hg,hcp,hle,hc⟩:=ho.slice (by omega);rw [hln,hk] at hc hle ⊢
      have c2:=hc (k - 2) (by omega);have c7:=hc (k - 7) (by omega);have c15:=hc (k - 15) (by omega);have c16:=hc (k - 16) (by omega);have HS:dd (sched F (m+1)=sched F m++ [swdAt (sched F m) k]):=⟨by
       rw [sched,swd,hln,hk]⟩
      have hll:(sched F m).length≤64:=by omega
      have HLN:dd ((sched F m).length=k):=⟨by omega⟩
      obtain ⟨a2,q2⟩:∃a,(sched F m)[k - 2]?.getD 0=a:=⟨_,rfl⟩
      obtain ⟨a7,q7⟩:∃a,(sched F m)[k - 7]?.getD 0=a:=⟨_,rfl⟩
      obtain ⟨a15,q15⟩:∃a,(sched F m)[k - 15]?.getD 0=a:=⟨_,rfl⟩
      obtain ⟨a16,q16⟩:∃a,(sched F m)[k - 16]?.getD 0=a:=⟨_,rfl⟩
      have HV:dd (swdAt (sched F m) k=(xQ a2+a7+far a15+a16) % 4294967296):=⟨by
       rw [swdAt,q2,q7,q15,q16]⟩
      rw [q2] at c2
      rw [q7] at c7
      rw [q15] at c15
      rw [q16] at c16
      clear hk hc hln q2 q7 q15 q16;go_upto_region 11 with fail
      go_quiet ((fail))
      go_upto_region 12 with fail
      refine ae (p:=fun y=>Code.wp _ _ _ _ y) (fun W1=>Below W0.heap.size W0 W1∧er W1 W0.heap.size (.slice (some ⟨g,0,none⟩) k cp) (sched F m)∧W1.cell? ⟨g,k - 7,none⟩=some (.int .u32 a7)∧W1.cell? ⟨g,k - 16,none⟩=some (.int .u32 a16)) ⟨aD hB _,?_,?_,?_⟩ ?_
      · rw [←HLN.out];exact ho.drewN _
      · simpa using c7
      · simpa using c16
      clear c2 c7 c15 c16 ho hB;rintro W1 ⟨hB,ho,c7,c16⟩
      go_quiet ((go_at_call 147;exact Calls.quiet_of (gG _ _ _ (by unfold mJ;omega))))
      go_wp2_with (at_builtin;refine nV rfl _ _ rfl W0.heap.size _ (sched F m) rfl ((xQ a2+a7+far a15+a16) % 4294967296) ((ho.drewN _).alloc _) rfl (by omega) (by have:=hB.size;simp;omega) ?_;intro v3 w3 ho3 hg3)
      have hB3:Below W0.heap.size W0 w3:=jT ((aD hB _).alloc (by have:=hB.size;simp;omega) _) ((ho.drewN _).alloc _) hg3 (by have:=hB.size;simp;omega);have ho4:er w3 W0.heap.size v3 (sched F (m+1)):=by rw [HS.out,HV.out];exact ho3
      have hi4:Value.int .i64 ((k:Int)+1)=.int .i64 ((16+(m+1):Nat):Int):=by have:=HK.out;congr 1;omega
      go_roundw
      case rel=>
       first
        |exact ⟨m+1,by omega,hi4,hB3,ho4⟩
        |((repeat apply Exists.intro);exact ⟨⟨m+1,by omega,hi4,hB3,ho4⟩,rfl⟩)
      case measure=>have:=HK.out;simp [intOf];omega
    · obtain rfl:m=48:=by omega
      clear hln
      go_wp2_with fail
      go_meet
      exact ⟨hB,ho⟩
  case rest=>
   clear hB ho;obtain ⟨hB,ho⟩:=hcut;have hln:(sched F 48).length=64:=by rw [bT,hwl]
   obtain ⟨WS,hWS⟩:∃l,sched F 48=l:=⟨_,rfl⟩
   have HWS:dd (sched (bd z 16) 48=WS):=⟨by rw [HF.out];exact hWS⟩
   rw [hWS] at ho hln
   obtain ⟨g,cp,hv,hg,hcp,hle,hc⟩:=ho.slice (by omega);subst hv;rw [hln] at hc hle ⊢
   have hs0:aa wc w.heap.size .u32 28 s:=h0.below hB (by omega);have hs1:aa wc (w.heap.size+1) .u32 28 (List.replicate 8 0):=h1.below hB (by omega);have hBw:Below w.heap.size w wc:=hB0.trans (hB.mono (by omega));have hgl:w.heap.size+2≤g:=by omega
   clear hWS hln hwl ho h0 h1 hB0 hB hsl hg hle;obtain ⟨s0,s1,s2,s3,s4,s5,s6,s7,rfl⟩:=iA hs;obtain ⟨⟨b0,b1,b2,b3,b4,b5,b6,b7⟩,bf⟩:=fz hs0
   go_upto_block 4 with fail
   obtain ⟨R,hR⟩:∃R,wc.heap.size=R:=⟨_,rfl⟩
   have hRl:w.heap.size+2≤R:=by have:=hs1.lt;omega
   have hgR:g<R:=by rw [←hR];exact block_lt_of_cell (hc 0 (by omega))
   rw [hR];refine ae (p:=fun y=>Code.wp _ _ _ _ y) (fun W1=>Below w.heap.size w W1∧aa W1 w.heap.size .u32 28 [s0,s1,s2,s3,s4,s5,s6,s7]∧aa W1 (w.heap.size+1) .u32 28 (List.replicate 8 0)∧aa W1 R .u32 28 [s0,s1,s2,s3,s4,s5,s6,s7]∧∀j,j<64→W1.cell? ⟨g,j,none⟩=some (.int .u32 (WS[j]?.getD 0))) ⟨hBw.alloc hBw.size _,hs0.alloc _,hs1.alloc _,?_,?_⟩ ?_
   · rw [←hR];exact aa.new wc .u32 28 [s0,s1,s2,s3,s4,s5,s6,s7]
   · exact fun j hj=>(((Below.refl wc.heap.size wc).alloc (Nat.le_refl _) _).cell (p:=⟨g,j,none⟩) (block_lt_of_cell (hc j hj))).trans (hc j hj)
   clear hBw hs0 hs1 hc b0 b1 b2 b3 b4 b5 b6 b7 bf hR;rintro W1 ⟨hB,hs0,hs1,hRR,hc⟩
   go_cut [] (fun wx=>Below w.heap.size w wx∧aa wx w.heap.size .u32 28 [s0,s1,s2,s3,s4,s5,s6,s7]∧aa wx (w.heap.size+1) .u32 28 (List.replicate 8 0)∧aa wx R .u32 28 (ct WS [s0,s1,s2,s3,s4,s5,s6,s7] 64))
   case first=>
       go_wp2_with fail
       go_loopw [12] (fun i wr=>∃(k:Nat) (a' b' c' d' e' f' g' h':Int),k≤64∧i=.int .i64 k∧ct WS [s0,s1,s2,s3,s4,s5,s6,s7] k=[a',b',c',d',e',f',g',h']∧Below w.heap.size w wr∧aa wr w.heap.size .u32 28 [s0,s1,s2,s3,s4,s5,s6,s7]∧aa wr (w.heap.size+1) .u32 28 (List.replicate 8 0)∧aa wr R .u32 28 [a',b',c',d',e',f',g',h']∧∀j,j<64→wr.cell? ⟨g,j,none⟩=some (.int .u32 (WS[j]?.getD 0)))
        (fun i _=>64 - (intOf i).toNat)
       case atStart=>exact ⟨0,s0,s1,s2,s3,s4,s5,s6,s7,by omega,rfl,rfl,hB,hs0,hs1,hRR,hc⟩
       case round=>
        clear hB hs0 hs1 hRR hc;obtain ⟨k,a',b',c',d',e',f',g',h',hk64,rfl,HR,hB,hs0,hs1,hRR,hc⟩:=hrel
        by_cases hlt:k<64
        · have HH:dd (ct WS [s0,s1,s2,s3,s4,s5,s6,s7] k=[a',b',c',d',e',f',g',h']):=⟨HR⟩
          have hin':=nF WS [s0,s1,s2,s3,s4,s5,s6,s7] k hs hin;rw [HR] at hin'
          obtain ⟨he0,he1⟩:=hin' e' (by simp);clear HR hin';obtain ⟨⟨x0,x1,x2,x3,x4,x5,x6,x7⟩,xf⟩:=fz hRR;have cw:=hc k hlt;obtain ⟨V,hV⟩:∃V,WS[k]?.getD 0=V:=⟨_,rfl⟩
          have HV:dd (WS[k]?.getD 0=V):=⟨hV⟩
          rw [hV] at cw
          have kc:=fun wx=>vS k wx hlt
          obtain ⟨K,hK⟩:∃K,kTab[k]?.getD 0=K:=⟨_,rfl⟩
          have HK:dd (kTab[k]?.getD 0=K):=⟨hK⟩
          rw [hK] at kc
          have HC:dd (∀j,j<64→wr.cell? ⟨g,j,none⟩=some (.int .u32 (WS[j]?.getD 0))):=⟨hc⟩
          have HKC:dd (∀wx,Calls Tryz.prog 148 #[.int .i64 k] wx fun e w'=>e=.returned (.int .u32 K)∧w'=wx):=⟨kc⟩
          clear hV hK hc kc;go_upto_region 18 with fail
          go_quiet ((fail))
          go_upto_region 19 with fail
          refine ae (p:=fun y=>Code.wp _ _ _ _ y) (fun W1=>Below w.heap.size w W1∧aa W1 w.heap.size .u32 28 [s0,s1,s2,s3,s4,s5,s6,s7]∧aa W1 (w.heap.size+1) .u32 28 (List.replicate 8 0)∧aa W1 R .u32 28 [a',b',c',d',e',f',g',h']∧(∀j,j<64→W1.cell? ⟨g,j,none⟩=some (.int .u32 (WS[j]?.getD 0)))∧W1.cell? ⟨g,k,none⟩=some (.int .u32 V)) ⟨aD hB _,hs0.drewN _,hs1.drewN _,hRR.drewN _,fun j hj=>by simpa using HC.out j hj,by simpa using cw⟩ ?_;clear hB hs0 hs1 hRR HC cw x0 x1 x2 x3 x4 x5 x6 x7 xf;rintro W2 ⟨hB,hs0,hs1,hRR,hc,cw⟩;have HC:dd (∀j,j<64→W2.cell? ⟨g,j,none⟩=some (.int .u32 (WS[j]?.getD 0))):=⟨hc⟩
          clear hc
          go_quiet ((first|(go_at_call 147;exact Calls.quiet_of (gG _ _ _ (by unfold mJ;omega)))|(go_at_call 148;exact Calls.quiet_of_same (HKC.out _))))
          obtain ⟨⟨x0,x1,x2,x3,x4,x5,x6,x7⟩,xf⟩:=fz hRR;clear cw
          go_wp2_with (go_at_call 147;refine (gG _ _ _ (by unfold mJ;omega)).mono ?_;rintro e w' ⟨rfl,q,rfl⟩)
          go_roundw
          case rel=>
           refine ⟨k+1,_,a',b',c',_,e',f',g',by omega,by go_num,?_,l5 (aD hB _) (by omega) _ _ _ _ _ _ _ _,eJ (hs0.drewN _) _ _ _ _ _ _ _ _ (by omega),eJ (hs1.drewN _) _ _ _ _ _ _ _ _ (by omega),oc (hRR.drewN _) _ _ _ _ _ _ _ _,fun j hj=>?_⟩
           · show rnd _ _ _=_
             rw [HH.out,HK.out,HV.out];exact vZ rfl rfl
           · rw [World.cell?_of_block (a:=⟨g,j,none⟩) (sR _ _ _ _ _ _ _ _ (by show g≠R;omega))]
             simpa using HC.out j hj
          case measure=>simp [intOf];omega
        · obtain rfl:k=64:=by omega
          go_wp2_with fail
          go_meet
          exact ⟨hB,hs0,hs1,by rw [HR];exact hRR⟩
   case rest=>
    clear hB hs0 hs1 hRR hc;obtain ⟨hB,hs0,hs1,hRR⟩:=hcut;obtain ⟨r0,r1,r2,r3,r4,r5,r6,r7,hR8⟩:=iA (fP WS [s0,s1,s2,s3,s4,s5,s6,s7] 64 rfl);have HR8:dd (ct WS [s0,s1,s2,s3,s4,s5,s6,s7] 64=[r0,r1,r2,r3,r4,r5,r6,r7]):=⟨hR8⟩
    rw [hR8] at hRR
    clear hR8;have hA0:aa wc R .u32 28 (addK [r0,r1,r2,r3,r4,r5,r6,r7] [s0,s1,s2,s3,s4,s5,s6,s7] 0):=by rw [mV _ _ rfl];exact hRR
    clear hRR
    go_wp2_with fail
    go_loopw [23] (fun i wr=>∃k:Nat,k≤8∧i=.int .i64 k∧Below w.heap.size w wr∧aa wr w.heap.size .u32 28 [s0,s1,s2,s3,s4,s5,s6,s7]∧aa wr (w.heap.size+1) .u32 28 (List.replicate 8 0)∧aa wr R .u32 28 (addK [r0,r1,r2,r3,r4,r5,r6,r7] [s0,s1,s2,s3,s4,s5,s6,s7] k))
     (fun i _=>8 - (intOf i).toNat)
    case atStart=>exact ⟨0,by omega,rfl,hB,hs0,hs1,hA0⟩
    case round=>
     clear hB hs0 hs1 hA0;obtain ⟨k,hk8,rfl,hB,hs0,hs1,hA⟩:=hrel
     by_cases hlt:k<8
     · have cx:=hA.cell k (by rw [addK_length];exact hlt)
       rw [o7 _ _ _ _ hlt,if_neg (by omega)] at cx
       have cs:=hs0.cell k hlt;have fx:=hA.frozen k;have hst:=qh [r0,r1,r2,r3,r4,r5,r6,r7] [s0,s1,s2,s3,s4,s5,s6,s7] k;obtain ⟨RK,hRK⟩:∃v,[r0,r1,r2,r3,r4,r5,r6,r7][k]?.getD 0=v:=⟨_,rfl⟩
       obtain ⟨SK,hSK⟩:∃v,[s0,s1,s2,s3,s4,s5,s6,s7][k]?.getD 0=v:=⟨_,rfl⟩
       rw [hRK] at cx hst
       rw [hSK] at cs hst
       have HST:dd ((addK [r0,r1,r2,r3,r4,r5,r6,r7] [s0,s1,s2,s3,s4,s5,s6,s7] k).set k ((RK+SK) % 4294967296)=addK [r0,r1,r2,r3,r4,r5,r6,r7] [s0,s1,s2,s3,s4,s5,s6,s7] (k+1)):=⟨hst⟩
       have hne:¬R=w.heap.size:=by omega
       clear hRK hSK hst;go_wp2
       go_region
       all_goals go_wp2
       all_goals go_roundw
       case rel=>
        refine ⟨k+1,by omega,by go_num,(aD hB 1).setCell (by simp;omega) _,(hs0.drew).setOther _ _ (by simp;omega),(hs1.drew).setOther _ _ (by simp;omega),?_⟩;have:=hA.drew.set k ((RK+SK) % 4294967296);rw [HST.out] at this
        exact this
       case measure=>simp [intOf];omega
     · obtain rfl:k=8:=by omega
       rw [mr] at hA
       have hl:(lL [r0,r1,r2,r3,r4,r5,r6,r7] [s0,s1,s2,s3,s4,s5,s6,s7]).length=8:=by simp [lL]
       have HE:dd (f5 [s0,s1,s2,s3,s4,s5,s6,s7] z=lL [r0,r1,r2,r3,r4,r5,r6,r7] [s0,s1,s2,s3,s4,s5,s6,s7]):=⟨by unfold f5;rw [HWS.out,HR8.out]⟩
       obtain ⟨L,hL⟩:∃L,lL [r0,r1,r2,r3,r4,r5,r6,r7] [s0,s1,s2,s3,s4,s5,s6,s7]=L:=⟨_,rfl⟩
       rw [hL] at hA hl HE
       clear hL
       go_wp2_with (first|(refine am rfl 28 _ rfl _ rfl hA Tryz.underlying28 vM hl ?_)|(refine aj rfl 28 _ _ rfl _ rfl rfl hs1 (by rw [hl];exact vM) (by simp [hl]) ?_))
       refine bodyPost_ret (ak (Tryz.results109) _ rfl (hs1.setRow _) Tryz.underlying28 vM hl) rfl ⟨by rw [HE.out],?_⟩;exact below_setRow hB (by omega) _
theorem nZ (w:World):
    Calls Tryz.prog 108 #[] w fun e w'=>e=.returned (.agg #[.int .u32 1779033703,.int .u32 3144134277,.int .u32 1013904242,.int .u32 2773480762,.int .u32 1359893119,.int .u32 2600822924,.int .u32 528734635,.int .u32 1541459225])∧Below w.heap.size w w':=by
 go_enter Tryz.func108,Tryz.ntmps108;go_wp2;exact bodyPost_ret (v:=.agg (row .u32 bE)) (by simp [results,Tryz.results108,go_sem,row,bE]) rfl ⟨rfl,(Below.refl _ _).alloc (Nat.le_refl _) _⟩
theorem rL (s:List Int) (k i:Nat) (h:i<4*k):(joinK s k)[i]?.getD 0=s[i / 4]?.getD 0 / 2 ^ (24 - 8*(i % 4)) % 256:=by
 induction k with
 |zero=>omega
 |succ k ih=>
  simp only [joinK]
  by_cases hlt:i<4*k
  · rw [List.getElem?_append_left (by rw [aJ];exact hlt)];exact ih hlt
  · rw [List.getElem?_append_right (by rw [aJ];omega),aJ]
    have hq:i / 4=k:=by omega
    have:i - 4*k=0∨i - 4*k=1∨i - 4*k=2∨i - 4*k=3:=by omega
    rw [hq]
    rcases this with h0|h0|h0|h0
    · have hr:i % 4=0:=by omega
      rw [h0,hr];rfl
    · have hr:i % 4=1:=by omega
      rw [h0,hr];rfl
    · have hr:i % 4=2:=by omega
      rw [h0,hr];rfl
    · have hr:i % 4=3:=by omega
      rw [h0,hr];simp [bytes4]
def f6 (l:List Int) (i:Nat):List Int:=l.take i++List.replicate (l.length - i) 0
theorem ou (l:List Int) (i:Nat) (h:i≤l.length):(f6 l i).length=l.length:=by simp [f6];omega
theorem rC (l:List Int):f6 l 0=List.replicate l.length 0:=by simp [f6]
theorem un (l:List Int):f6 l l.length=l:=by simp [f6]
theorem tQ (l:List Int) (i:Nat) (h:i<l.length):(f6 l i).set i (l[i]?.getD 0)=f6 l (i+1):=by
 have hl:(l.take i).length=i:=by rw [List.length_take];omega
 have:=br (l.take i) (l.length - (i+1)) (l[i]?.getD 0);rw [hl] at this
 unfold f6;rw [show l.length - i=l.length - (i+1)+1 by omega,this,bG l i h]
theorem Bytes.other {w w':World} {g n c:Nat} {z:List Int} (h:Bytes w (some ⟨g,0,none⟩) n c z) (hh:w'.heap[g]?=w.heap[g]?):Bytes w' (some ⟨g,0,none⟩) n c z:=by
 refine ⟨h.len_eq,h.le,h.top,h.nil,?_⟩
 rcases h.at_ with h0|⟨b,off,hx,hc⟩
 · exact .inl h0
 · cases hx
   exact .inr ⟨g,0,rfl,fun j hj=>(World.cell?_of_block (a:=⟨g,0+j,none⟩) hh).trans (hc j hj)⟩
theorem refSum_any (x:Option Addr) (len cap:Nat) (z:List Int) (w:World) (hz:Bytes w x len cap z) (hln:len≤1000000):
    Calls Tryz.prog 61 #[.slice x len cap] w fun e w'=>e=.returned (.agg (row .u8 (sumL z)))∧Below w.heap.size w w':=by
 have hzl:=hz.len_eq;obtain ⟨N,hN⟩:∃N,padSize z.length=64*N:=⟨(z.length+8) / 64+1,by unfold padSize;omega⟩
 have hN1:1≤N:=by have:=eA z.length;omega
 have hN2:64*N≤2000000:=by rw [←hN];unfold padSize;omega
 have HS:dd (om z=eY (bI z) (List.range N) bE):=⟨by unfold om;rw [hN,Nat.mul_div_cancel_left _ (by omega)]⟩
 have hpl:(bI z).length=64*N:=by rw [de,hN]
 have HD:dd (∀i,i<32→(sumL z)[i]?.getD 0=(om z)[i / 4]?.getD 0 / 2 ^ (24 - 8*(i % 4)) % 256):=⟨fun i hi=>rL (om z) 8 i (by omega)⟩
 have hdl:=sumL_length z;have pB:=fun wx (hx:Below w.heap.size w wx)=>mu x len cap z wx (hz.below hx) hln
 obtain ⟨PL,hPL⟩:∃p,bI z=p:=⟨_,rfl⟩
 obtain ⟨SS,hSS⟩:∃p,om z=p:=⟨_,rfl⟩
 obtain ⟨DD,hDD⟩:∃p,sumL z=p:=⟨_,rfl⟩
 have hSl:SS.length=8:=by rw [←hSS];exact gY z
 rw [hPL] at HS hpl pB
 rw [hSS] at HS HD
 rw [hDD] at HD hdl
 have HDD:dd (sumL z=DD):=⟨hDD⟩
 clear hPL hSS hDD hN hzl;go_enter Tryz.func61,Tryz.ntmps61;go_upto_region 1 with fail
 refine ae (p:=fun y=>Code.wp _ _ _ _ y) (fun W0=>Below w.heap.size w W0∧W0.heap.size=w.heap.size+1∧aa W0 w.heap.size .u8 23 (List.replicate 32 0)) ⟨(Below.refl _ _).alloc (Nat.le_refl _) _,by simp,aa.new w .u8 23 (List.replicate 32 0)⟩ ?_;rintro W0 ⟨hB0,hs0,hR0⟩;go_upto_region 3 with (first
  |(go_at_call 107;refine (pB _ hB0).mono ?_;rintro e w1 ⟨v1,rfl,ho1,hb1⟩)
  |(go_at_call 108;refine (nZ _).mono ?_;rintro e w2 ⟨rfl,hb2⟩))
 obtain ⟨g,cp,rfl,hg⟩:=ho1.slice (by omega);have hy1:=ho1.bytes.2;rw [hpl] at hy1 ⊢
 have hs1:=hb1.size;have hs2:=hb2.size;have hgl1:g<w1.heap.size:=by
  rcases hy1.at_ with h0|⟨b,off,hx,hc⟩
  · omega
  · cases hx
    exact block_lt_of_cell (hc 0 (by omega))
 refine ae (p:=fun y=>Code.wp _ _ _ _ y) (fun W3=>Below w.heap.size w W3∧aa W3 w.heap.size .u8 23 (List.replicate 32 0)∧Bytes W3 (some ⟨g,0,none⟩) (64*N) cp PL∧aa W3 w2.heap.size .u32 28 bE) ⟨((hB0.trans (hb1.mono hB0.size)).trans (hb2.mono (by omega))).alloc (by omega) _,((hR0.below hb1 (by omega)).below hb2 (by omega)).alloc _,(hy1.below hb2).below ((Below.refl _ _).alloc (Nat.le_refl _) _),aa.new w2 .u32 28 bE⟩ ?_;clear ho1 hb1 hb2 hy1 hB0 hR0 pB;rintro W3 ⟨hB3,hR3,hY3,hS3⟩;obtain ⟨Q,hQ⟩:∃q,w2.heap.size=q:=⟨_,rfl⟩
 rw [hQ] at hS3 ⊢
 have hQw:w.heap.size+1≤Q:=by omega
 have hgw:w.heap.size+1≤g:=by omega
 have hgQ:g≠Q:=by omega
 clear hQ hs1 hs2 hs0 hg hgl1
 go_wp2_with fail
 go_loopw [5] (fun i wr=>∃k:Nat,k≤N∧i=.int .i64 ((64*k:Nat):Int)∧Below w.heap.size w wr∧aa wr w.heap.size .u8 23 (List.replicate 32 0)∧Bytes wr (some ⟨g,0,none⟩) (64*N) cp PL∧aa wr Q .u32 28 (eY PL (List.range k) bE)) (fun i _=>64*N - (intOf i).toNat)
 case atStart=>exact ⟨0,by omega,rfl,hB3,hR3,hY3,hS3⟩
 case round=>
  clear hB3 hR3 hY3 hS3;obtain ⟨k,hkN,rfl,hB,hR,hY,hS⟩:=hrel
  by_cases hlt:k<N
  · have hlS:=gk PL (List.range k) bE rfl
    have hiS:=pn PL (List.range k) bE m8;have hnew:eY PL (List.range (k+1)) bE=f5 (eY PL (List.range k) bE) (blk PL k):=by rw [List.range_succ];exact l9 _ _ _ _
    obtain ⟨s0,s1,s2,s3,s4,s5,s6,s7,hs8⟩:=iA hlS;rw [hs8] at hS hiS hnew
    obtain ⟨r0,r1,r2,r3,r4,r5,r6,r7,hr8⟩:=iA (gF [s0,s1,s2,s3,s4,s5,s6,s7] (blk PL k));have hcell:∀j,j<64*N→wr.cell? ⟨g,j,none⟩=some (.int .u8 (PL[j]?.getD 0)):=fun j hj=>by
     rcases hY.at_ with h0|⟨b,off,hx,hc⟩
     · omega
     · cases hx
       have:=hc j hj;rw [Nat.zero_add] at this
       exact this
    have hgl:g<wr.heap.size:=block_lt_of_cell (hcell 0 (by omega));have hle:=hY.le;have htop:=hY.top;have hst:∀wx L c,L=64→Below wr.heap.size wr wx→64≤c→c≤9223372036854775807→Calls Tryz.prog 109 #[.agg #[.int .u32 s0,.int .u32 s1,.int .u32 s2,.int .u32 s3,.int .u32 s4,.int .u32 s5,.int .u32 s6,.int .u32 s7],.slice (some ⟨g,64*k,none⟩) L c] wx
        fun e w'=>e=.returned (.agg #[.int .u32 r0,.int .u32 r1,.int .u32 r2,.int .u32 r3,.int .u32 r4,.int .u32 r5,.int .u32 r6,.int .u32 r7])∧Below wx.heap.size wx w':=fun wx L c hL hx hc1 hc2=>by
     subst hL;have:=pm [s0,s1,s2,s3,s4,s5,s6,s7] (blk PL k) g (64*k) c wx rfl hiS hc1 hc2 (fun j hj=>by
      rw [sL _ _ _ hj];exact (hx.cell (p:=⟨g,64*k+j,none⟩) hgl).trans (hcell _ (by omega)))
     rw [hr8] at this
     exact this
    rw [hr8] at hnew
    have HNEW:dd (eY PL (List.range (k+1)) bE=[r0,r1,r2,r3,r4,r5,r6,r7]):=⟨hnew⟩
    obtain ⟨⟨c0,c1,c2,c3,c4,c5,c6,c7⟩,cf⟩:=fz hS;clear hs8 hr8 hnew hiS hlS hcell;obtain ⟨I,hI⟩:∃I,64*k=I:=⟨_,rfl⟩
    have HI:dd (64*k=I):=⟨hI⟩
    obtain ⟨M,hM⟩:∃M,64*N=M:=⟨_,rfl⟩
    have HM:dd (64*N=M):=⟨hM⟩
    have i1:(0:Int)≤(I:Int):=by omega
    have i2:(I:Int)≤(I:Int)+64:=by omega
    have i3:(I:Int)+64≤(M:Int):=by omega
    have i4:(M:Int)≤2000000:=by omega
    rw [hI] at hst ⊢
    rw [hM] at hN2 hle hY ⊢
    have i8:(I:Int)+64≤(cp:Int):=by omega
    have i9:(M:Int)≤(cp:Int):=by omega
    have hIM:I+64≤M:=by omega
    clear hI hM hpl;have i5:IntKind.i64.wrap ((I:Int)+64)=(I:Int)+64:=by rw [IntKind.wrap_i64];omega
    have i6:((I:Int)+64).toNat=I+64:=by omega
    have i7:¬cp=I:=by omega
    go_upto_region 6 with fail
    go_region_with (go_at_call 109;refine (hst _ _ _ ?_ (Below.refl _ _).drew ?_ ?_).mono ?_;(omega);(omega);(omega);rintro e w4 ⟨rfl,hb4⟩;obtain ⟨⟨d0,d1,d2,d3,d4,d5,d6,d7⟩,df⟩:=fz (hS.drew.below hb4 hS.drew.lt))
    go_wp2;go_roundw
    case rel=>
     have hI:=HI.out;have hM:=HM.out;have hBx:Below w.heap.size w w4:=hB.trans ((((Below.refl _ _).drew).trans hb4).mono hB.size);have hY4:=hY.below (((Below.refl _ _).drew).trans hb4);refine ⟨k+1,by omega,by congr 1;omega,l5 hBx (by omega) _ _ _ _ _ _ _ _,eJ ((hR.drew).below hb4 hR.drew.lt) _ _ _ _ _ _ _ _ (by omega),?_,?_⟩
     · exact hY4.other (sR _ _ _ _ _ _ _ _ hgQ)
     rw [HNEW.out];exact oc (hS.drew.below hb4 hS.drew.lt) _ _ _ _ _ _ _ _
    case measure=>have hI:=HI.out;have hM:=HM.out;simp [intOf];omega
  · obtain rfl:k=N:=by omega
    rw [←HS.out] at hS
    clear hY HS;have nle:¬(((64*k:Nat):Int)<((64*k:Nat):Int)):=by omega
    have nle2:decide (((64*k:Nat):Int)<((64*k:Nat):Int))=false:=by simp
    go_upto_region 8 with fail
    have hO0:=aa.new wr .u8 23 (List.replicate 32 0);have hsw:=hB.size;refine ae (p:=fun y=>Code.wp _ _ _ _ y) (fun W5=>Below w.heap.size w W5∧aa W5 w.heap.size .u8 23 (List.replicate 32 0)∧aa W5 Q .u32 28 SS∧aa W5 wr.heap.size .u8 23 (f6 DD 0)) ⟨hB.alloc hB.size _,hR.alloc _,hS.alloc _,by rw [rC,hdl];exact hO0⟩ ?_;obtain ⟨O,hOe⟩:∃O,wr.heap.size=O:=⟨_,rfl⟩
    have hOQ:Q<O:=by rw [←hOe];exact hS.lt
    clear hO0 hB hR hS;rintro W5 ⟨hB5,hR5,hS5,hO5⟩;rw [hOe] at hO5 ⊢
    clear hOe hsw
    go_wp2_with fail
    go_loopw [7] (fun v wr=>∃p:Nat,p≤32∧v=.int .i64 p∧Below w.heap.size w wr∧aa wr w.heap.size .u8 23 (List.replicate 32 0)∧aa wr Q .u32 28 SS∧aa wr O .u8 23 (f6 DD p))
     (fun v _=>32 - (intOf v).toNat)
    case atStart=>exact ⟨0,by omega,rfl,hB5,hR5,hS5,hO5⟩
    case round=>
     clear hB5 hR5 hS5 hO5;obtain ⟨p,hp,rfl,hB,hR,hS,hO⟩:=hrel
     by_cases hlt4:p<32
     · have cS:=hS.cell (p / 4) (by omega)
       have cO:=hO.cell p (by rw [ou _ _ (by omega)];omega);have fO:=hO.frozen p;have HU:dd ((f6 DD p).set p (SS[p / 4]?.getD 0 / 2 ^ (24 - 8*(p % 4)) % 256)=f6 DD (p+1)):=⟨by
        rw [←HD.out p hlt4];exact tQ DD p (by omega)⟩
       obtain ⟨U,hU⟩:∃v,SS[p / 4]?.getD 0=v:=⟨_,rfl⟩
       rw [hU] at HU cS
       clear hU;go_wp2;go_roundw
       case rel=>
        refine ⟨p+1,by omega,by go_num,hB.setCell (by simp;omega) _,hR.setOther _ _ (by simp;omega),hS.setOther _ _ (by simp;omega),?_⟩;rw [←HU.out];exact hO.set p _
       case measure=>simp [intOf];omega
     · obtain rfl:p=32:=by omega
       have hO':aa wr O .u8 23 DD:=by
        have:=un DD;rw [hdl] at this
        rw [←this];exact hO
       clear hO
       go_wp2_with (first
        |(refine am rfl 23 _ rfl _ rfl hO' Tryz.underlying23 aK hdl ?_)
        |(refine aj rfl 23 _ _ rfl _ rfl rfl hR (by rw [hdl];exact aK) (by simp [hdl]) ?_))
       refine bodyPost_ret (ak (Tryz.results61) _ rfl (hR.setRow _) Tryz.underlying23 aK hdl) rfl ⟨by rw [HDD.out],?_⟩;exact below_setRow hB (Nat.le_refl _) _
end Go.Proofs.YtbdhfbglagdiaaaGreatDoor.S
