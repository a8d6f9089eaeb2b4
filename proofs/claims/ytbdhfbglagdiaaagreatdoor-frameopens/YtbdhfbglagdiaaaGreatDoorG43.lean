/- Rd Re -/
import Derived.Test.YtbdhfbglagdiaaaGreatDoorG42
import Derived.Test.YtbdhfbglagdiaaaGreatDoorG25
namespace Go.Proofs.YtbdhfbglagdiaaaGreatDoor
open Go.RowKit
set_option maxRecDepth 20000
set_option maxHeartbeats 4000000
set_option linter.unusedSimpArgs false
theorem o8 (x:Option Addr) (len cap:Nat) (L:List Int) (w:World) (h:fJ w x len cap L) (hn:17≤len) (hm:len≤40) (hb:∀v∈L,isB v):
    Calls Tryz.prog 129 #[.slice x len cap] w fun e w'=>∃v R,e=.returned v∧ac (∃y ly cy,v=.slice y ly cy∧fJ w' y ly cy R∧17≤ly∧ly≤40∧(∀v∈R,isB v)∧leN R=leN L % 1361129467683753853853498429727072845819)∧Below w.heap.size w w':=by
 obtain ⟨NL,hNL⟩:∃q,leN L % 1361129467683753853853498429727072845819=q:=⟨_,rfl⟩
 have H0:ac (fJ w x len cap L∧(∀v∈L,isB v)∧leN L % 1361129467683753853853498429727072845819=NL):=⟨h,hb,hNL⟩
 rw [hNL];clear h hb hNL;go_enter Tryz.func129,Tryz.ntmps129
 go_wp2_with fail
 go_loopw [0] (fun v wr=>∃y ly cy R,v=.slice y ly cy∧17≤ly∧ly≤40∧ac (fJ wr y ly cy R∧(∀v∈R,isB v)∧leN R % 1361129467683753853853498429727072845819=NL)∧Below w.heap.size w wr) (fun v wr=>(leN (sr wr v)).toNat)
 case atStart=>exact ⟨x,len,cap,L,rfl,hn,hm,H0,Below.refl _ _⟩
 case round=>
  clear H0 hn hm;obtain ⟨y,ly,cy,R,rfl,hn,hm,HR,hB⟩:=hrel;obtain ⟨b0,hy0,hcR⟩:∃b,y=some ⟨b,0,none⟩∧∀j,j<ly→wr.cell? ⟨b,j,none⟩=some (.int .i64 (R[j]?.getD 0)):=by
   rcases HR.out.1.at_ with h0|h
   · omega
   · exact h
  subst hy0;have HC:ac (∀j,j<ly→wr.cell? ⟨b0,j,none⟩=some (.int .i64 (R[j]?.getD 0))):=⟨hcR⟩
  have HAS:ac (∀i,16≤i→(fE R (i+1)↔fE R i∨(0<R[i]?.getD (0:Int)∧(16<i∨3<R[i]?.getD (0:Int))))):=⟨fun i hi=>qD R i hi⟩
  have HA0:ac (¬fE R 16):=⟨fun ⟨j,h1,h2,_⟩=>by omega⟩
  clear hcR
  go_wp2_with fail
  go_loopw [3,4] (fun bv iv wq=>∃(b:Bool) (i:Nat),16≤i∧i≤ly∧bv=.bool b∧iv=.int .i64 i∧ac (b=true↔fE R i)∧wq=wr) (fun _ iv _=>ly - (intOf iv).toNat)
  case atStart=>exact ⟨false,16,by omega,by omega,rfl,rfl,⟨by simp [HA0.out]⟩,rfl⟩
  case round=>
   obtain ⟨b,i,hi1,hi2,rfl,rfl,HA,rfl⟩:=hrel
   by_cases hlt:i<ly
   · have c1:=HC.out i hlt
     have HA1:=HAS.out i hi1;obtain ⟨u,hu⟩:∃q,R[i]?.getD 0=q:=⟨_,rfl⟩
     rw [hu] at c1 HA1
     have HA2:ac (fE R (i+1)↔fE R i∨(0<u∧(16<i∨3<u))):=⟨HA1⟩
     have hi0:(0:Int)≤(i:Int):=by omega
     have hil:(i:Int)<(ly:Int):=by omega
     clear hu HA1;cases b with
     |true=>
      go_wp2;go_roundw
      case rel=>exact ⟨true,i+1,by omega,by omega,rfl,by go_num,⟨by rw [HA2.out,←HA.out];simp⟩,trivial⟩
      case measure=>simp [intOf];omega
     |false=>
      by_cases h1:u>0
      · by_cases h2:(i:Int)>16
        · go_wp2
          go_roundw
          case rel=>exact ⟨true,i+1,by omega,by omega,rfl,by go_num,⟨by rw [HA2.out,←HA.out];simp;omega⟩,trivial⟩
          case measure=>simp [intOf];omega
        · by_cases h3:u>3
          · go_wp2
            go_roundw
            case rel=>exact ⟨true,i+1,by omega,by omega,rfl,by go_num,⟨by rw [HA2.out,←HA.out];simp;omega⟩,trivial⟩
            case measure=>simp [intOf];omega
          · go_wp2
            go_roundw
            case rel=>exact ⟨false,i+1,by omega,by omega,rfl,by go_num,⟨by rw [HA2.out,←HA.out];simp;omega⟩,trivial⟩
            case measure=>simp [intOf];omega
      · go_wp2
        go_roundw
        case rel=>exact ⟨false,i+1,by omega,by omega,rfl,by go_num,⟨by rw [HA2.out,←HA.out];simp;omega⟩,trivial⟩
        case measure=>simp [intOf];omega
   · obtain rfl:ly=i:=by omega
     cases b with
     |true=>
      have HAB:ac (fE R ly):=⟨by have:=HA.out;simpa using this⟩
      have hat:∀(j:Nat) (wq:World),j≤1000→Below wr.heap.size wr wq→Calls Tryz.prog 127 #[.slice (some ⟨b0,0,none⟩) ly cy,.int .i64 j] wq fun e w'=>e=.returned (.int .i64 (R[j]?.getD 0))∧wq=w':=fun j wq hj hb=>lN _ _ _ R j wq (HR.out.1.below hb) (by omega)
      have HTK:ac (∀j,j<17→R.take (j+1)=R.take j++ [R[j]?.getD 0]∧(R.take j).length=j):=⟨fun j hj=>by
       have:=HR.out.1.len_eq;exact ⟨bG R j (by omega),by rw [List.length_take];omega⟩⟩
      clear HA HAS HA0;obtain ⟨W,rfl⟩:∃W,W=wr:=⟨_,rfl⟩
      go_upto_region 9 with fail
      go_loopw [5,6] (fun v iv wq=>∃j:Nat,j≤17∧iv=.int .i64 j∧bt wq W.heap.size v (R.take j)∧Below W.heap.size W wq) (fun _ iv _=>17 - (intOf iv).toNat)
      case atStart=>exact ⟨0,by omega,rfl,bt.nil _ _,Below.refl _ _⟩
      case round=>
       obtain ⟨j,hj,rfl,ho,hBq⟩:=hrel
       by_cases hjl:j<17
       · have ha:=hat j _ (by omega) hBq
         have HT:=HTK.out j hjl;have hOl:=HT.2;have HT1:ac (R.take (j+1)=R.take j++ [R[j]?.getD 0]):=⟨HT.1⟩
         obtain ⟨u,hu⟩:∃q,R[j]?.getD 0=q:=⟨_,rfl⟩
         obtain ⟨O,hO⟩:∃q,R.take j=q:=⟨_,rfl⟩
         rw [hu] at ha HT1
         rw [hO] at ho hOl HT1
         have hj0:(j:Int)<17:=by omega
         clear hu hO HT
         go_wp2_with (first
          |(go_at_call 127;refine ha.mono ?_;rintro e w' ⟨rfl,rfl⟩)
          |(at_builtin;refine bD rfl _ _ rfl W.heap.size _ O rfl u (ho.alloc _) rfl (by omega) hBq.size ?_;intro v3 w3 ho3 hg3))
         go_roundw
         case rel=>exact ⟨j+1,by omega,by go_num,by rw [HT1.out];exact ho3,bC (hBq.alloc hBq.size _) (ho.alloc _) hg3 (by have:=hBq.size;simp;omega)⟩
         case measure=>simp [intOf];omega
       · obtain rfl:j=17:=by omega
         rw [show ((17:Nat):Int)=17 from rfl];have hRl:=HR.out.1.len_eq;have hTl:(R.take 17).length=17:=by rw [List.length_take];omega
         obtain ⟨g,cp,hv,hg,hcp,hcl,hcell,hfr,hset⟩:=ho.opened (by omega);rw [hTl] at hv hcl hset
         have c16:=hcell 16 (by omega);rw [List.getElem?_take_of_lt (by omega)] at c16
         have f16:=hfr 16;have hsb:isB (R[16]?.getD 0):=by rw [List.getElem?_eq_getElem (by omega)];exact HR.out.2.1 _ (List.getElem_mem _)
         obtain ⟨a,ha⟩:∃q,R[16]?.getD 0=q:=⟨_,rfl⟩
         have hs16:=hset 16 (by omega) (a % 4);have HLS:ac ((R.take 17).set 16 (a % 4)=lowR R 0):=⟨by
          show _=R.take 16++ [R[16]?.getD 0 % 4];rw [bG R 16 (by omega),List.set_append_right _ _ (by rw [List.length_take];omega),List.length_take,ha,show 16 - min 16 R.length=0 by omega]
          rfl⟩
         rw [ha] at c16 hsb
         unfold isB at hsb
         have hr4:a.tmod 4=a % 4:=Int.tmod_eq_emod_of_nonneg (by omega);have HS16:ac (bt (wr.setCell ⟨g,16,none⟩ (.int .i64 (a % 4))) W.heap.size (.slice (some ⟨g,0,none⟩) 17 cp) ((R.take 17).set 16 (a % 4))):=⟨hs16⟩
         subst hv;clear hcell hfr hset ho hs16 hTl hRl ha;go_upto_region 13 with fail
         refine ae (p:=fun y=>Code.wp _ _ _ _ y) (fun W3=>bt W3 W.heap.size (.slice (some ⟨g,0,none⟩) 17 cp) (lowR R 0)∧Below W.heap.size W W3) ⟨by rw [←HLS.out];exact HS16.out,hBq.setCell (by show W.heap.size≤g;exact hg) _⟩ ?_;clear HS16 HLS c16 f16 hr4 hsb hBq hg hcp hcl HTK;rintro W3 ⟨ho3,hB3⟩;have HLL:ac (∀j,(lowR R j).length=max 17 j):=⟨qs R (by have:=HR.out.1.len_eq;omega)⟩
         have HHG:ac (∀j,16+j<ly→(highs (R.drop 16))[j]?.getD 0=R[16+j]?.getD 0 / 4+R[16+j+1]?.getD 0 % 4*64):=⟨fun j hj=>pU R j (by have:=HR.out.1.len_eq;omega)⟩
         have HLI:ac (∀j,0≤(lowR R j)[j]?.getD 0∧(lowR R j)[j]?.getD 0≤255):=⟨fun j=>by have:=sl R HR.out.2.1 j j;rwa [if_neg (by omega)] at this⟩
         have HRB:ac (∀i:Nat,(0:Int)≤R[i]?.getD (0:Int)∧R[i]?.getD (0:Int)≤255):=⟨mp (by omega) HR.out.2.1⟩
         go_wp2_with fail
         go_loopw [5,7] (fun v iv wq=>∃j:Nat,16+j≤ly∧iv=.int .i64 ((16+j:Nat):Int)∧bt wq W.heap.size v (lowR R j)∧Below W.heap.size W wq) (fun _ iv _=>ly - (intOf iv).toNat)
         case atStart=>exact ⟨0,by omega,rfl,ho3,hB3⟩
         case round=>
          clear ho3 hB3;obtain ⟨j,hj,rfl,ho,hBq⟩:=hrel;have hLl:=HLL.out j;obtain ⟨n,hne⟩:∃q,max 17 j=q:=⟨_,rfl⟩
          rw [hne] at hLl
          have hn17:17≤n:=by omega
          have HNE:ac (max 17 j=n):=⟨hne⟩
          obtain ⟨g2,cp2,hv2,hg2,hcp2,hcl2,-⟩:=ho.opened (by omega);rw [hLl] at hv2 hcl2
          subst hv2;clear hne
          by_cases hlt2:16+j<ly
          · have cR:wr.cell? ⟨b0,16+j,none⟩=some (.int .i64 (R[16+j]?.getD 0)):=(hBq.cell (p:=⟨b0,16+j,none⟩) (block_lt_of_cell (HC.out _ hlt2))).trans (HC.out _ hlt2)
            have ha:=hat (16+j+1) wr.drew (by omega) hBq.drew;have hh:=HHG.out j hlt2;have ra:=HRB.out (16+j);have rb:=HRB.out (16+j+1);obtain ⟨a,hae⟩:∃q,R[16+j]?.getD 0=q:=⟨_,rfl⟩
            obtain ⟨b,hbe⟩:∃q,R[16+j+1]?.getD 0=q:=⟨_,rfl⟩
            rw [hae] at cR hh ra
            rw [hbe] at ha hh rb
            obtain ⟨I,hI⟩:∃q,16+j=q:=⟨_,rfl⟩
            have HI:ac (16+j=I):=⟨hI⟩
            rw [hI] at cR ha hj ⊢
            rw [show ((I+1:Nat):Int)=(I:Int)+1 by omega] at ha
            have hI0:(0:Int)≤(I:Int):=by omega
            have hIl:(I:Int)<(ly:Int):=by omega
            have hw1:IntKind.i64.wrap ((I:Int)+1)=(I:Int)+1:=by rw [IntKind.wrap_i64];omega
            have hq4:a.tdiv 4=a / 4:=Int.tdiv_eq_ediv_of_nonneg (by omega);have hr4:b.tmod 4=b % 4:=Int.tmod_eq_emod_of_nonneg (by omega);have hw2:IntKind.i64.wrap (b % 4*64)=b % 4*64:=by rw [IntKind.wrap_i64];omega
            have hw3:IntKind.i64.wrap (a / 4+b % 4*64)=a / 4+b % 4*64:=by rw [IntKind.wrap_i64];omega
            have HH:ac ((highs (R.drop 16))[j]?.getD 0=a / 4+b % 4*64):=⟨hh⟩
            clear hae hbe hI hh;go_upto_region 16 with fail
            refine ay (fun w'=>w'.cell? ⟨b0,I,none⟩=some (.int .i64 a)) (fun _=>True) 12 (by kernel_rfl) ?_;have hS:=trivial;have hT:wr.drew.cell? ⟨b0,I,none⟩=some (.int .i64 a):=cR;refine ghA 0 _ hT hS ?_;simp only [zp];refine ghA 1 _ hT hS ?_;simp only [zp];refine ghA 2 _ hT hS ?_;simp only [zp];refine ghA 3 _ hT hS ?_;simp only [zp];refine ghA 4 _ hT hS ?_;simp only [zp];refine ghA 5 _ hT hS ?_;simp only [zp];refine ghA 6 _ hT hS ?_;simp only [zp];refine ghA 7 _ hT hS ?_;simp only [zp];refine zm 8 fun K hK=>?_
            go_wp2_with (go_at_call 127;refine ha.mono ?_;rintro e w' ⟨rfl,rfl⟩)
            refine hK.out _ _ hT (fun _=>hS) ?_;clear hK K;refine ghA 9 _ hT hS ?_;simp only [zp];refine ghA 10 _ hT hS ?_;simp only [zp];refine ghA 11 _ hT hS ?_;simp only [zp];refine zm 12 fun K hK=>?_
            go_simp;refine hK.out _ _ hT (fun _=>trivial) ?_;clear hK K;refine aB (by kernel_rfl) ?_ _;have hX0:=HLI.out j;have HLK:ac (lowR R (j+1)=(lowR R j++List.replicate (j+1 - (lowR R j).length) 0).set j ((lowR R j)[j]?.getD 0+5*(highs (R.drop 16))[j]?.getD 0)):=⟨rfl⟩
            have ho4:bt wr.drew W.heap.size (.slice (some ⟨g2,0,none⟩) n cp2) (lowR R j):=World.ownsRow.drew ho;have hB4:=hBq.drew;obtain ⟨H,hH⟩:∃q,a / 4+b % 4*64=q:=⟨_,rfl⟩
            have hHb:0≤H∧H≤255:=by omega
            have HH2:=HH.out;rw [hH] at HH2 ⊢
            obtain ⟨X,hX⟩:∃q,lowR R j=q:=⟨_,rfl⟩
            have HLK2:=HLK.out;rw [HH2,hX] at HLK2
            rw [hX] at ho4 hLl hX0
            rw [hLl] at HLK2
            have HLK3:ac (lowR R (j+1)=(X++List.replicate (j+1 - n) 0).set j (X[j]?.getD 0+5*H)):=⟨HLK2⟩
            obtain ⟨q,hq⟩:∃q,X[j]?.getD 0=q:=⟨_,rfl⟩
            rw [hq] at hX0
            have HQ:ac (X[j]?.getD 0=q):=⟨hq⟩
            obtain ⟨Wd,hWd⟩:∃q,wr.drew=q:=⟨_,rfl⟩
            rw [hWd] at ho4 hB4 ⊢
            clear HLK HLK2 HH HH2 hX hq hH hWd hT cR ha ho hBq hq4 hr4 hw2 hw3 ra rb
            go_wp2_with fail
            go_loopw [5] (fun v wq=>∃m:Nat,n+m≤max n (j+1)∧bt wq W.heap.size v (X++List.replicate m 0)∧Below W.heap.size W wq) (fun v _=>j+2 - lenOf v)
            case atStart=>exact ⟨0,by omega,by simpa using ho4,hB4⟩
            case round=>
             clear ho4 hB4;obtain ⟨m,hm',ho,hBq⟩:=hrel;have hXm:(X++List.replicate m 0).length=n+m:=by rw [List.length_append,List.length_replicate,hLl]
             obtain ⟨g3,cp3,hv3,hg3,hcp3,hcl3,hcell,hfr,hset⟩:=ho.opened (by omega);rw [hXm] at hv3 hcl3 hset hcell
             subst hv3;have hIj:=HI.out;have hsub:IntKind.i64.wrap ((I:Int) - 16)=(I:Int) - 16:=by rw [IntKind.wrap_i64];omega
             by_cases hle:n+m≤j
             · have hle':((n:Int)+(m:Int))≤(I:Int) - 16:=by omega
               have hle2:((n+m:Nat):Int)≤(I:Int) - 16:=by omega
               clear hcell hfr hset hIj
               go_wp2_with (at_builtin;refine bD rfl _ _ rfl W.heap.size _ (X++List.replicate m 0) rfl 0 (ho.alloc _) rfl (by omega) hBq.size ?_;intro v4 w4 ho4 hg4)
               obtain ⟨g4,cp4,hv4,_⟩:=ho4.slice (by rw [List.length_append,hXm];simp);rw [List.length_append,hXm] at hv4
               subst hv4;go_roundw
               case rel=>exact ⟨m+1,by omega,by rw [List.replicate_succ',←List.append_assoc];exact ho4,bC (hBq.alloc hBq.size _) (ho.alloc _) hg4 (by have:=hBq.size;simp;omega)⟩
               case measure=>simp only [lenOf,List.length_cons,List.length_nil];omega
             · have hle':¬((n:Int)+(m:Int))≤(I:Int) - 16:=by omega
               have hle2:¬((n+m:Nat):Int)≤(I:Int) - 16:=by omega
               have hmm:j+1 - n=m:=by omega
               have HL4:=HLK3.out;rw [hmm] at HL4
               have hjl2:j<n+m:=by omega
               have cj:=hcell j hjl2;have fj:=hfr j;have ecj:(X++List.replicate m 0)[j]?.getD (0:Int)=X[j]?.getD 0:=by
                by_cases hx:j<X.length
                · rw [List.getElem?_append_left hx]
                · rw [List.getElem?_append_right (by omega),List.getElem?_replicate,List.getElem?_eq_none (l:=X) (by omega)]
                  split<;>rfl
               rw [ecj,HQ.out] at cj
               rw [HQ.out] at HL4
               have HS:ac (bt (wr.setCell ⟨g3,j,none⟩ (.int .i64 (q+5*H))) W.heap.size (.slice (some ⟨g3,0,none⟩) (n+m) cp3) (lowR R (j+1))):=⟨by rw [HL4];exact hset j hjl2 _⟩
               have hx0:(0:Int)≤(I:Int) - 16:=by omega
               have hx1:(I:Int) - 16<((n+m:Nat):Int):=by omega
               have hx2:(I:Int) - 16<(n:Int)+(m:Int):=by omega
               have hxt:((I:Int) - 16).toNat=j:=by omega
               have hw5:IntKind.i64.wrap (5*H)=5*H:=by rw [IntKind.wrap_i64];omega
               have hw6:IntKind.i64.wrap (q+5*H)=q+5*H:=by rw [IntKind.wrap_i64];omega
               clear hcell hfr hset HL4 hmm ecj hIj;go_wp2;go_roundw
               case rel=>
                have:=HI.out;exact ⟨j+1,by omega,by congr 1;omega,HS.out,hBq.setCell (by show W.heap.size≤g3;exact hg3) _⟩
               case measure=>
                have:=HI.out;simp [intOf];omega
          · obtain rfl:ly=16+j:=by omega
            have hRl:=HR.out.1.len_eq;have hn2:n≤30:=by have:=HNE.out;omega
            have hcar:=f9 (some ⟨g2,0,none⟩) n cp2 (lowR R j) wr (by
             obtain ⟨x',n',c',e,hi⟩:=ho.ints;cases e;exact hi) (by omega) (uz R HR.out.2.1 j)
            have HP:ac (∀N,n≤N→cK (lowR R j) N=0→leN (oK (lowR R j) N) % 1361129467683753853853498429727072845819=leN R % 1361129467683753853853498429727072845819∧0≤leN (oK (lowR R j) N)∧leN (oK (lowR R j) N)<leN R):=⟨fun N hN hc=>by
             have:=xp R HR.out.2.1 (by omega) (by rw [←hRl];exact HAB.out) N;rw [show R.length - 16=j by omega] at this
             exact this (by omega) hc⟩
            clear hRl
            go_wp2_with (go_at_call 128;refine hcar.mono ?_;rintro e w5 ⟨v5,N,rfl,hN1,hN2,hN3,ho5,hb5⟩)
            obtain ⟨x6,n6,c6,rfl,hI6⟩:=ho5.ints;have hB5:Below W.heap.size W w5:=hBq.trans (hb5.mono hBq.size);have hn6:n6=N:=by rw [hI6.len_eq,dm]
            have HI6:ac (fJ w5 x6 n6 c6 (oK (lowR R j) N)):=⟨hI6⟩
            clear hI6 ho5;go_roundw
            case rel=>exact ⟨x6,n6,c6,oK (lowR R j) N,rfl,by omega,by omega,⟨HI6.out,jo _ _,by rw [(HP.out N hN1 hN3).1];exact HR.out.2.2⟩,hB.trans (hB5.mono hB.size)⟩
            case measure=>
             rw [pJ HI6.out (by omega),pJ HR.out.1 (by omega)];have:=HP.out N hN1 hN3;omega
     |false=>
      have HNA:ac (¬fE R ly):=⟨by have:=HA.out;simpa using this⟩
      have hat:∀(j:Nat) (wq:World),j≤1000→Below wr.heap.size wr wq→Calls Tryz.prog 127 #[.slice (some ⟨b0,0,none⟩) ly cy,.int .i64 j] wq fun e w'=>e=.returned (.int .i64 (R[j]?.getD 0))∧wq=w':=fun j wq hj hb=>lN _ _ _ R j wq (HR.out.1.below hb) (by omega)
      obtain ⟨W,rfl⟩:∃W,W=wr:=⟨_,rfl⟩
      have hRl:=HR.out.1.len_eq;have HFS:ac (∀j,j+1<17→fiveK R (j+1+1)=fiveK R (j+1)++ [R[j+1]?.getD 0]∧(fiveK R (j+1)).length=j+1):=⟨fun j hj=>⟨qR R (by omega) j hj,gv R (by omega) j (by omega)⟩⟩
      have HF7:ac ((fiveK R 17).length=17∧∀v∈fiveK R 17,0≤v∧v≤2000000):=⟨gv R (by omega) 16 (by omega),te R HR.out.2.1 17⟩
      have HTO:ac (∀N,17≤N→cK (fiveK R 17) N=0→((4:Int)≤(oK (fiveK R 17) N)[16]?.getD (0:Int)→leN ((oK (fiveK R 17) N).set 16 ((oK (fiveK R 17) N)[16]?.getD (0:Int) - 4))=leN R % 1361129467683753853853498429727072845819)∧(¬(4:Int)≤(oK (fiveK R 17) N)[16]?.getD (0:Int)→leN R=leN R % 1361129467683753853853498429727072845819)):=⟨fun N hN hc=>xt R HR.out.2.1 (by omega) (by rw [←hRl];exact HNA.out) N hN hc⟩
      have HRB:ac (∀i:Nat,(0:Int)≤R[i]?.getD (0:Int)∧R[i]?.getD (0:Int)≤255):=⟨mp (by omega) HR.out.2.1⟩
      have ho1:bt (W.alloc (.cells #[.int .i64 5] 3)) W.heap.size (.slice (some ⟨W.heap.size,0,none⟩) 1 1) (fiveK R 0):=⟨rfl,.inr ⟨_,1,_,rfl,Nat.le_refl _,World.alloc_heap_new W _,Nat.le_refl _,by decide,rfl,rfl⟩⟩
      have hB1:Below W.heap.size W (W.alloc (.cells #[.int .i64 5] 3)):=(Below.refl _ _).alloc (Nat.le_refl _) _;clear HA HAS HA0 HNA hRl HC;go_upto_region 22 with fail
      refine ae (p:=fun y=>Code.wp _ _ _ _ y) (fun W1=>bt W1 W.heap.size (.slice (some ⟨W.heap.size,0,none⟩) 1 1) (fiveK R 0)∧Below W.heap.size W W1) ⟨ho1,hB1⟩ ?_;clear ho1 hB1;rintro W1 ⟨ho1,hB1⟩
      go_wp2_with fail
      go_loopw [9,10] (fun v iv wq=>∃j:Nat,j≤17∧iv=.int .i64 j∧bt wq W.heap.size v (fiveK R j)∧Below W.heap.size W wq) (fun _ iv _=>17 - (intOf iv).toNat)
      case atStart=>exact ⟨0,by omega,rfl,ho1,hB1⟩
      case round=>
       clear ho1 hB1;obtain ⟨j,hj,rfl,ho,hBq⟩:=hrel
       by_cases hjl:j<17
       · cases j with
         |zero=>
          have hod:bt wr.drew W.heap.size _ (fiveK R 0):=World.ownsRow.drew ho;obtain ⟨g,cp,hv,hg,hcp,hcl,hcell,hfr,hset⟩:=hod.opened (by simp [fiveK]);have c0:=hcell 0 (by simp [fiveK]);have f0:=hfr 0;have ha:=hat 0 wr.drew (by omega) hBq.drew;have rb:=HRB.out 0;have HS:ac (bt (wr.drew.setCell ⟨g,0,none⟩ (.int .i64 (5+R[0]?.getD 0))) W.heap.size (.slice (some ⟨g,0,none⟩) 1 cp) (fiveK R 1)):=⟨hset 0 (by simp [fiveK]) _⟩
          obtain ⟨r,hr⟩:∃q,R[0]?.getD 0=q:=⟨_,rfl⟩
          rw [hr] at ha rb HS
          have c0':wr.drew.cell? ⟨g,0,none⟩=some (.int .i64 5):=c0;have hcl1:1≤cp:=hcl;have hw5:IntKind.i64.wrap (5+r)=5+r:=by rw [IntKind.wrap_i64];omega
          change _=Value.slice (some ⟨g,0,none⟩) 1 cp at hv
          subst hv;clear hcell hfr hset c0 hr hcl hod ho;go_upto_region 26 with fail
          refine ag (fun w'=>w'.cell? ⟨g,0,none⟩=some (.int .i64 5)) 7 (by kernel_rfl) ?_;have hS:=c0';refine gaA 0 _ hS ?_;simp only [zp];refine gaA 3 _ hS ?_;simp only [zp];refine gaA 1 _ hS ?_;simp only [zp];refine grA 2 _ hS ?_;simp only [zp];refine zw 4 fun K hK=>?_
          go_wp2_with (go_at_call 127;refine ha.mono ?_;rintro e w' ⟨rfl,rfl⟩)
          refine hK.out _ _ (fun _=>hS) ?_;clear hK K;refine gaA 5 _ hS ?_;simp only [zp];refine gaA 6 _ hS ?_;simp only [zp];refine zw 7 fun K hK=>?_
          go_simp;refine hK.out _ _ zn ?_;clear hK K;refine ah (by kernel_rfl) ?_ _;go_wp2;go_roundw
          case rel=>exact ⟨1,by omega,rfl,HS.out,hBq.drew.setCell (by show W.heap.size≤g;exact hg) _⟩
          case measure=>simp [intOf]
         |succ j=>
          have ha:=hat (j+1) _ (by omega) hBq;have hfs:=HFS.out j hjl;have hOl:=hfs.2;have HF1:ac (fiveK R (j+1+1)=fiveK R (j+1)++ [R[j+1]?.getD 0]):=⟨hfs.1⟩
          obtain ⟨r,hr⟩:∃q,R[j+1]?.getD 0=q:=⟨_,rfl⟩
          obtain ⟨O,hO⟩:∃q,fiveK R (j+1)=q:=⟨_,rfl⟩
          rw [hr] at ha HF1
          rw [hO] at ho hOl HF1
          obtain ⟨J,hJ⟩:∃q,j+1=q:=⟨_,rfl⟩
          rw [hJ] at ha hOl HF1 hjl ⊢
          have hJ1:¬((J:Int)<1):=by omega
          have hJ7:(J:Int)<17:=by omega
          have hJp:0<J:=by omega
          clear hr hO hfs hJ hj
          go_wp2_with (first
           |(go_at_call 127;refine ha.mono ?_;rintro e w' ⟨rfl,rfl⟩)
           |(at_builtin;refine bD rfl _ _ rfl W.heap.size _ O rfl r (ho.alloc _) rfl (by omega) hBq.size ?_;intro v3 w3 ho3 hg3))
          go_roundw
          case rel=>exact ⟨J+1,by omega,by go_num,by rw [HF1.out];exact ho3,bC (hBq.alloc hBq.size _) (ho.alloc _) hg3 (by have:=hBq.size;simp;omega)⟩
          case measure=>simp [intOf];omega
       · obtain rfl:j=17:=by omega
         rw [show ((17:Nat):Int)=17 from rfl];have hl7:=HF7.out.1;obtain ⟨g,cp,hv,hg,hcp,hcl,-⟩:=ho.opened (by omega);rw [hl7] at hv hcl
         have hi7:fJ wr (some ⟨g,0,none⟩) 17 cp (fiveK R 17):=by
          obtain ⟨x',n',c',e,hi⟩:=ho.ints;rw [hv] at e
          cases e;exact hi
         have hcar:=f9 (some ⟨g,0,none⟩) 17 cp (fiveK R 17) wr hi7 (by omega) HF7.out.2;subst hv;clear hi7 hl7 ho HFS HF7;go_upto_region 29 with (go_at_call 128;refine hcar.mono ?_;rintro e w5 ⟨v5,N,rfl,hN1,hN2,hN3,ho5,hb5⟩)
         have hOl5:=dm (fiveK R 17) N;have hto:=HTO.out N hN1 hN3;have hob5:=jo (fiveK R 17) N;obtain ⟨F,hF⟩:∃q,oK (fiveK R 17) N=q:=⟨_,rfl⟩
         rw [hF] at ho5 hOl5 hto hob5
         obtain ⟨g5,cp5,hv5,hg5,hcp5,hcl5,hcell,hfr,hset⟩:=ho5.opened (by omega);rw [hOl5] at hv5 hcl5 hset hcell
         have hI5:fJ w5 (some ⟨g5,0,none⟩) N cp5 F:=by
          obtain ⟨x',n',c',e,hi⟩:=ho5.ints;rw [hv5] at e
          cases e;exact hi
         have ha:=lN (some ⟨g5,0,none⟩) N cp5 F 16 w5 hI5 (by omega);rw [show ((16:Nat):Int)=16 from rfl] at ha
         have c16:=hcell 16 (by omega);have f16:=hfr 16;have hab:=mD (B:=255) (by omega) hob5 16;obtain ⟨a,hae⟩:∃q,F[16]?.getD 0=q:=⟨_,rfl⟩
         rw [hae] at ha c16 hto hab
         have HF2:ac (bt (w5.setCell ⟨g5,16,none⟩ (.int .i64 (a - 4))) wr.heap.size (.slice (some ⟨g5,0,none⟩) N cp5) (F.set 16 (a - 4))):=⟨hset 16 (by omega) _⟩
         have HT2:ac ((4≤a→leN (F.set 16 (a - 4))=leN R % 1361129467683753853853498429727072845819)∧(¬4≤a→leN R=leN R % 1361129467683753853853498429727072845819)):=⟨hto.1,fun h=>hto.2 (by omega)⟩
         have HOB:ac (∀v∈F,isB v):=⟨hob5⟩
         have hB5:Below W.heap.size W w5:=hBq.trans (hb5.mono hBq.size);have hgW:W.heap.size≤g5:=by have:=hBq.size;omega
         have hN16:(16:Int)<(N:Int):=by omega
         have hw4:IntKind.i64.wrap (a - 4)=a - 4:=by rw [IntKind.wrap_i64];omega
         subst hv5;clear hcell hfr hset hI5 ho5 hF hae hto hob5 hcar HTO hb5
         by_cases h4:a≥4
         · go_wp2_with (go_at_call 127;refine ha.mono ?_;rintro e w' ⟨rfl,rfl⟩)
           go_ret;have hB6:Below W.heap.size W (w5.setCell ⟨g5,16,none⟩ (.int .i64 (a - 4))):=hB5.setCell (by show W.heap.size≤g5;exact hgW) _;obtain ⟨x',n',c',e,hi⟩:=HF2.out.ints;cases e;refine ⟨_,F.set 16 (a - 4),rfl,⟨⟨_,_,_,rfl,hi,by omega,by omega,fun v hv=>?_,by rw [HT2.out.1 h4];exact HR.out.2.2⟩⟩,hB.trans (hB6.mono hB.size)⟩
           rcases List.mem_or_eq_of_mem_set hv with h|rfl
           · exact HOB.out v h
           · unfold isB;omega
         · go_wp2_with (go_at_call 127;refine ha.mono ?_;rintro e w' ⟨rfl,rfl⟩)
           go_ret;exact ⟨_,R,rfl,⟨⟨_,_,_,rfl,HR.out.1.below hB5,hn,hm,HR.out.2.1,by rw [HT2.out.2 h4];exact HR.out.2.2⟩⟩,hB.trans (hB5.mono hB.size)⟩
def xK (A P:List Int) (j:Nat):List Int:=(List.range j).map fun q=>A[q]?.getD 0+P[q]?.getD 0
theorem oL (A P:List Int) (j:Nat):xK A P (j+1)=xK A P j++ [A[j]?.getD 0+P[j]?.getD 0]:=by
 unfold xK;rw [List.range_succ,List.map_append];rfl
theorem iR (A P:List Int) (j:Nat):(xK A P j).length=j:=by simp [xK]
theorem xT (A P:List Int) (j:Nat):leN (xK A P j)=leN (A.take j)+leN (P.take j):=by
 induction j with
 |zero=>simp [xK,leN]
 |succ j ih=>
  rw [oL,jG,iR,ih,takeN_val,takeN_val,Int.mul_add];omega
theorem vL (A P:List Int) (hA:∀v∈A,isB v) (hP:∀v∈P,isB v) (j:Nat):∀v∈xK A P j,0≤v∧v≤2000000:=by
 intro v hv;unfold xK at hv
 obtain ⟨q,-,rfl⟩:=List.mem_map.1 hv;have h1:=mD (B:=255) (by omega) hA q;have h2:=mD (B:=255) (by omega) hP q;omega
theorem ye (A:List Int) (hA:∀v∈A,isB v) (h:leN A<1361129467683753853853498429727072845819):leN (A.take 17)=leN A:=by
 by_cases hl:17≤A.length
 · have h17:=kh A 17 hl
   have hd0:=(km (A.drop 17) (fun v hv=>hA v (List.mem_of_mem_drop hv))).1;have ht0:=(km (A.take 17) (fun v hv=>hA v (List.mem_of_mem_take hv))).1;have e17:(256:Int) ^ 17=87112285931760246646623899502532662132736:=by decide
   rw [e17] at h17
   have:leN (A.drop 17)=0:=by omega
   omega
 · rw [List.take_of_length_le (by omega)]
theorem xy (A P:List Int) (hA:∀v∈A,isB v) (h:leN A<1361129467683753853853498429727072845819) (hP:P.length≤17) (N:Nat) (hN:17≤N) (hc:cK (xK A P 17) N=0):leN (oK (xK A P 17) N)=leN A+leN P:=by
 rw [lg _ N (by rw [iR];exact hN) hc,xT,ye A hA h,List.take_of_length_le hP]
structure dt (X r:List Int) (j m:Nat) (p:List Int):Prop where
 len:p.length=X.length+16
 val:leN p=leN (X.take j)*leN r+256 ^ j*(X[j]?.getD 0*leN (r.take m))
 low:∀q:Nat,(0:Int)≤p[q]?.getD (0:Int)
 top:∀q:Nat,p[q]?.getD (0:Int)≤(j:Int)*65025+if q<j+m then 65025 else 0
theorem dt.start (X r:List Int):dt X r 0 0 (List.replicate (X.length+16) 0):=
 ⟨by simp,by rw [nL];simp [leN],fun q=>by rw [List.getElem?_replicate];split<;>simp,fun q=>by rw [List.getElem?_replicate];split<;>simp⟩
theorem sn {a b:Int} (h0:0≤a) (h1:a≤255) (h2:0≤b) (h3:b≤255):0≤a*b∧a*b≤65025:=
 ⟨Int.mul_nonneg h0 h2,by have:=Int.mul_le_mul h1 h3 h2 (by omega:(0:Int)≤255);omega⟩
theorem dt.step {X r p:List Int} {j m:Nat} (h:dt X r j m p) (hX:∀v∈X,isB v) (hr:∀v∈r,isB v) (hj:j<X.length) (hm:m<16):
    dt X r j (m+1) (p.set (j+m) (p[j+m]?.getD 0+X[j]?.getD 0*r[m]?.getD 0)):=by
 have hx:=mD (B:=255) (by omega) hX j;have hy:=mD (B:=255) (by omega) hr m;have hm5:=sn hx.1 hx.2 hy.1 hy.2;have hl:=h.len;refine ⟨by rw [List.length_set];exact hl,?_,fun q=>?_,fun q=>?_⟩
 · rw [lm _ _ _ (by omega),h.val,takeN_val r m,Int.pow_add]
   generalize leN (X.take j)*leN r=A;generalize p[j+m]?.getD (0:Int)=B;generalize X[j]?.getD (0:Int)=x;generalize r[m]?.getD (0:Int)=y;generalize leN (r.take m)=R;generalize (256:Int) ^ j=u;generalize (256:Int) ^ m=v
   grind
 · by_cases hq:j+m=q
   · subst hq
     rw [List.getElem?_set_self (by omega)];have:=h.low (j+m);simp only [Option.getD_some];omega
   · rw [List.getElem?_set_ne hq];exact h.low q
 · by_cases hq:j+m=q
   · subst hq
     rw [List.getElem?_set_self (by omega),if_pos (by omega)];have:=h.top (j+m);rw [if_neg (by omega)] at this
     simp only [Option.getD_some];omega
   · rw [List.getElem?_set_ne hq]
     have:=h.top q
     split at this<;>split<;>omega
theorem dt.next {X r p:List Int} {j:Nat} (h:dt X r j 16 p) (hr:r.length=16):dt X r (j+1) 0 p:=by
 refine ⟨h.len,?_,h.low,fun q=>?_⟩
 · rw [h.val,takeN_val X j,List.take_of_length_le (l:=r) (by omega)]
   simp only [List.take_zero,leN];generalize leN (X.take j)=A;generalize X[j]?.getD (0:Int)=x;generalize leN r=R;generalize (256:Int) ^ j=u
   grind
 · have:=h.top q
   split at this<;>split<;>omega
theorem dt.done {X r p:List Int} (h:dt X r X.length 0 p) (hl:X.length≤19):leN p=leN X*leN r∧∀v∈p,0≤v∧v≤2000000:=by
 constructor
 · rw [h.val,List.take_of_length_le (Nat.le_refl _)]
   simp [leN]
 · intro v hv
   obtain ⟨i,hi,rfl⟩:=List.getElem_of_mem hv;have h1:=h.low i;have h2:=h.top i;rw [List.getElem?_eq_getElem hi] at h1 h2
   simp only [Option.getD_some] at h1 h2
   split at h2<;>omega
def kQ (r:Int) (z:List Int) (i:Nat):Int:=xd r ((List.range i).map fun i=>leN (c9 z i))
theorem accK_zero (r:Int) (z:List Int):kQ r z 0=0:=rfl
theorem nC (r:Int) (z:List Int) (i:Nat):kQ r z (i+1)=(kQ r z i+leN (c9 z i))*r % 1361129467683753853853498429727072845819:=by
 unfold kQ xd;rw [List.range_succ,List.map_append,List.foldl_append];rfl
theorem sO (r:Int) (z:List Int) (i:Nat):0≤kQ r z i∧kQ r z i<1361129467683753853853498429727072845819:=by
 cases i with
 |zero=>rw [accK_zero];omega
 |succ i=>rw [nC];omega
theorem uA (z:List Int) (i j n:Nat) (hn:n=min 16 (z.length - 16*i)) (hj:j<17):(c9 z i)[j]?.getD 0=if j<n then z[16*i+j]?.getD 0 else if j=n then 1 else 0:=by
 unfold c9;have hl:((z.drop (16*i)).take 16).length=n:=by rw [List.length_take,List.length_drop];omega
 have hn16:n≤16:=by omega
 by_cases h1:j<n
 · rw [if_pos h1,List.getElem?_set_ne (by omega),List.getElem?_append_left (by omega),List.getElem?_take_of_lt (by omega),List.getElem?_drop]
 · rw [if_neg h1]
   by_cases h2:j=n
   · subst h2
     rw [if_pos rfl,hl,List.getElem?_set_self (by rw [List.length_append,hl,List.length_replicate];omega)];rfl
   · rw [if_neg h2,hl,List.getElem?_set_ne (by omega),List.getElem?_append_right (by omega),List.getElem?_replicate]
     split<;>rfl
theorem vT (k z A:List Int) (hk:k.length=32) (hu:∀v∈k,isB v) (hz:∀v∈z,isB v) (hA:∀v∈A,isB v) (hv:leN A=kQ (leN (bL k)) z ((z.length+15) / 16)) (N:Nat) (hN:17≤N) (hc:cK (xK A (k.drop 16) 17) N=0):
    fw k z=(oK (xK A (k.drop 16) 17) N).take 16:=by
 have hi:=sO (leN (bL k)) z ((z.length+15) / 16);have e:=xy A (k.drop 16) hA (by omega) (by rw [List.length_drop];omega) N hN hc;rw [pS k z hk hu hz,vk,←sH 16 _ (jo _ N) (by rw [dm];omega),e,hv]
 rfl
end Go.Proofs.YtbdhfbglagdiaaaGreatDoor
