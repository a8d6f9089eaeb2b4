/- Ao2 Cz Rp Ri -/
import Derived.Test.YtbdhfbglagdiaaaGreatDoorG39
import Derived.Test.YtbdhfbglagdiaaaGreatDoorG23
import Derived.Test.YtbdhfbglagdiaaaGreatDoorG40
import Derived.Test.YtbdhfbglagdiaaaGreatDoorG17
import Derived.Test.YtbdhfbglagdiaaaGreatDoorG02
import Derived.Test.YtbdhfbglagdiaaaGreatDoorG14
namespace Go.Proofs.YtbdhfbglagdiaaaGreatDoor
open Go.RowKit
set_option maxRecDepth 20000
set_option maxHeartbeats 2000000
set_option linter.unusedSimpArgs false
theorem kM (k n:List Int) (w:World) (hk:k.length=32) (hn:n.length=12):
    Calls Tryz.prog 91 #[.agg (row .u8 k),.agg (row .u8 n)] w fun e w'=>e=.returned (.agg (row .u8 (ej k n)))∧Below w.heap.size w w':=by
 have hblk:=fun wx=>jw k n 0 wx hk hn
 have hBl:=dC k n 0;have hOl:=dR k n;have HO:ac (ej k n=(cu k n 0).take 32):=⟨rfl⟩
 obtain ⟨B,hB⟩:∃q,cu k n 0=q:=⟨_,rfl⟩
 obtain ⟨O,hO⟩:∃q,ej k n=q:=⟨_,rfl⟩
 rw [hB] at hblk hBl HO
 rw [hO] at hOl HO ⊢
 have HF:ac (∀j,j<32→(B.take j++List.replicate (32 - j) 0).set j (B[j]?.getD 0)=B.take (j+1)++List.replicate (32 - (j+1)) 0):=⟨fun j hj=>nD B j 32 hj (by omega)⟩
 have hK0:=((aa.new w .u8 23 k).alloc (.cells (row .u8 n) 79)).alloc (.cells (row .u8 (List.replicate 32 0)) 23);have hN0:=(aa.new (w.alloc (.cells (row .u8 k) 23)) .u8 79 n).alloc (.cells (row .u8 (List.replicate 32 0)) 23);have hR0:=aa.new ((w.alloc (.cells (row .u8 k) 23)).alloc (.cells (row .u8 n) 79)) .u8 23 (List.replicate 32 0);have hB0:Below w.heap.size w (((w.alloc (.cells (row .u8 k) 23)).alloc (.cells (row .u8 n) 79)).alloc (.cells (row .u8 (List.replicate 32 0)) 23)):=(((Below.refl _ _).alloc (Nat.le_refl _) _).alloc (by simp) _).alloc (by simp;omega) _;rw [World.size_alloc] at hN0 hR0
 rw [World.size_alloc] at hR0
 clear hB hO;go_enter Tryz.func91,Tryz.ntmps91;go_upto_region 1 with fail
 refine ae (p:=fun y=>Code.wp _ _ _ _ y) (fun W0=>Below w.heap.size w W0∧aa W0 w.heap.size .u8 23 k∧aa W0 (w.heap.size+1) .u8 79 n∧aa W0 (w.heap.size+1+1) .u8 23 (List.replicate 32 0)) ⟨hB0,hK0,hN0,hR0⟩ ?_;clear hK0 hN0 hR0 hB0;rintro W0 ⟨hB0,hK0,hN0,hR0⟩;go_upto_region 2 with (first
  |(refine am rfl 23 _ rfl _ rfl hK0 Tryz.underlying23 eX hk ?_)
  |(refine am rfl 79 _ rfl _ rfl hN0 Tryz.underlying79 iX hn ?_)
  |(go_at_call 125;refine (hblk _).mono ?_;rintro e w1 ⟨rfl,hb1⟩;have hN1:=aa.new w1 .u8 157 (List.replicate 64 0))
  |(refine aj rfl 157 _ _ rfl _ rfl rfl hN1 (by rw [hBl];exact sw) (by simp [hBl]) ?_))
 have hB1:Below w.heap.size w w1:=hB0.trans (hb1.mono hB0.size);have hR1:=hR0.below hb1 hR0.lt;have hlt:=hR1.lt;have hG2:=hN1.setRow B;have hR2:=(hR1.alloc (.cells (row .u8 (List.replicate 64 0)) 157)).setRowOther (g':=w1.heap.size) (row .u8 B) (by omega);have hB2:=below_setRow (g:=w1.heap.size) (hB1.alloc hB1.size (.cells (row .u8 (List.replicate 64 0)) 157)) hB1.size (row .u8 B);refine ae (p:=fun y=>Code.wp _ _ _ _ y) (fun W2=>Below w.heap.size w W2∧aa W2 w1.heap.size .u8 157 B∧aa W2 (w.heap.size+1+1) .u8 23 (List.replicate 32 0)) ⟨hB2,hG2,hR2⟩ ?_;obtain ⟨G,hG⟩:∃q,w1.heap.size=q:=⟨_,rfl⟩
 rw [hG];clear hB1 hR1 hlt hG2 hR2 hB2 hN1 hb1 hB0 hK0 hN0 hR0 hG hblk;rintro W2 ⟨hB2,hG2,hR2⟩;have hA2:=aa.new W2 .u8 23 (List.replicate 32 0);have hbA:Below W2.heap.size W2 (W2.alloc (.cells (row .u8 (List.replicate 32 0)) 23)):=(Below.refl _ _).alloc (Nat.le_refl _) _;have hltR:=hR2.lt;have hltG:=hG2.lt;go_upto_region 3 with fail
 refine ae (p:=fun y=>Code.wp _ _ _ _ y) (fun W3=>Below w.heap.size w W3∧aa W3 G .u8 157 B∧aa W3 (w.heap.size+1+1) .u8 23 (List.replicate 32 0)∧aa W3 W2.heap.size .u8 23 (List.replicate 32 0)) ⟨hB2.trans (hbA.mono hB2.size),hG2.alloc _,hR2.alloc _,hA2⟩ ?_;have hsz2:=hB2.size;obtain ⟨A0,hA0⟩:∃q,W2.heap.size=q:=⟨_,rfl⟩
 rw [hA0] at hltR hltG hsz2 ⊢
 clear hA2 hbA hB2 hG2 hR2 hA0;rintro W3 ⟨hB3,hG3,hR3,hA3⟩
 go_wp2_with fail
 go_loopw [7] (fun q wr=>∃j:Nat,j≤32∧q=.int .i64 j∧Below w.heap.size w wr∧aa wr G .u8 157 B∧aa wr (w.heap.size+1+1) .u8 23 (List.replicate 32 0)∧aa wr A0 .u8 23 (B.take j++List.replicate (32 - j) 0)) (fun q _=>32 - (intOf q).toNat)
 case atStart=>exact ⟨0,by omega,rfl,hB3,hG3,hR3,hA3⟩
 case round=>
  clear hB3 hG3 hR3 hA3;obtain ⟨j,hj,rfl,hB,hG,hR,hA⟩:=hrel
  by_cases hlt:j<32
  · have hst:=HF.out j hlt
    have hAl:(B.take j++List.replicate (32 - j) 0).length=32:=by rw [List.length_append,List.length_take,List.length_replicate];omega
    have cg:=hG.cell j (by omega);obtain ⟨u,hu⟩:∃q,B[j]?.getD 0=q:=⟨_,rfl⟩
    rw [hu] at hst cg
    obtain ⟨Z,hZ⟩:∃q,B.take j++List.replicate (32 - j) 0=q:=⟨_,rfl⟩
    rw [hZ] at hst hA hAl
    have HST:ac (Z.set j u=B.take (j+1)++List.replicate (32 - (j+1)) 0):=⟨hst⟩
    have ca:=hA.cell j (by omega);have fa:=hA.frozen j;have hj0:(0:Int)≤(j:Int):=by omega
    have hj32:(j:Int)<32:=by omega
    have hj64:(j:Int)<64:=by omega
    clear hst hZ hu;go_wp2;go_roundw
    case rel=>exact ⟨j+1,by omega,by go_num,hB.setCell (by show w.heap.size≤A0;omega) _,hG.setOther _ _ (by show G≠A0;omega),hR.setOther _ _ (by show w.heap.size+1+1≠A0;omega),by rw [←HST.out];exact hA.set j _⟩
    case measure=>simp [intOf];omega
  · obtain rfl:j=32:=by omega
    rw [Nat.sub_self,List.replicate_zero,List.append_nil,←HO.out] at hA
    go_wp2_with (first
     |(refine am rfl 23 _ rfl _ rfl hA Tryz.underlying23 eX hOl ?_)
     |(refine aj rfl 23 _ _ rfl _ rfl rfl hR (by rw [hOl];exact eX) (by simp [hOl]) ?_))
    refine bodyPost_ret (ak (Tryz.results91) _ rfl (hR.setRow _) Tryz.underlying23 eX hOl) rfl ⟨rfl,?_⟩;exact below_setRow hB (by omega) _
set_option maxHeartbeats 4000000
theorem ao.less {w:World} {base base':Nat} {v:Value} {z:List Int} (h:ao w base v z) (hb:base'≤base):ao w base' v z:=by
 refine ⟨h.1,?_⟩
 rcases h.2 with h'|⟨g,cap,cur,h1,h2,h3⟩
 · exact .inl h'
 · exact .inr ⟨g,cap,cur,h1,by omega,h3⟩
theorem mn (k n:List Int) (c:Int) (x:Option Addr) (len cap:Nat) (z:List Int) (w:World) (hk:k.length=32) (hn:n.length=12) (hz:Bytes w x len cap z) (hln:len≤1000000):
    Calls Tryz.prog 89 #[.agg (row .u8 k),.agg (row .u8 n),.int .u32 c,.slice x len cap] w fun e w'=>∃v,e=.returned v∧ao w' w.heap.size v (dk k n c z)∧Below w.heap.size w w':=by
 have hzl:=hz.len_eq;have hle:=hz.le;have htop:=hz.top;have hXl:(dk k n c z).length=len:=by rw [aZ,hzl]
 have HX:ac (∀i,i<len→(dk k n c z)[i]?.getD 0=bits .xor .u8 (z[i]?.getD 0) (strm k n c i)):=⟨fun i hi=>jQ _ _ _ _ _ (by omega)⟩
 obtain ⟨XL,hXL⟩:∃X,dk k n c z=X:=⟨_,rfl⟩
 have HXL:ac (dk k n c z=XL):=⟨hXL⟩
 rw [hXL] at HX hXl
 clear hXL hzl;go_enter Tryz.func89,Tryz.ntmps89;go_upto_region 3 with fail
 refine ae (p:=fun y=>Code.wp _ _ _ _ y) (fun W0=>Below w.heap.size w W0∧W0.heap.size=w.heap.size+1+1+1∧aa W0 w.heap.size .u8 23 k∧aa W0 (w.heap.size+1) .u8 79 n∧aa W0 (w.heap.size+1+1) .u8 157 (List.replicate 64 0)) ⟨?_,by simp,?_,?_,?_⟩ ?_
 · exact (((Below.refl _ _).alloc (Nat.le_refl _) _).alloc (by simp) _).alloc (by simp;omega) _
 · exact ((aa.new w .u8 23 k).alloc _).alloc _
 · have:=(aa.new (w.alloc (.cells (row .u8 k) 23)) .u8 79 n)
   rw [World.size_alloc] at this
   exact this.alloc _
 · have:=(aa.new ((w.alloc (.cells (row .u8 k) 23)).alloc (.cells (row .u8 n) 79)) .u8 157 (List.replicate 64 0))
   rw [World.size_alloc,World.size_alloc] at this
   exact this
 rintro W0 ⟨hB0,hs0,hK0,hN0,hF0⟩
 go_wp2_with fail
 go_loopw [9,11] (fun v p wr=>∃i:Nat,i≤len∧p=.int .i64 i∧ao wr (w.heap.size+1+1+1) v (XL.take i)∧Below w.heap.size w wr∧w.heap.size+1+1+1≤wr.heap.size∧aa wr w.heap.size .u8 23 k∧aa wr (w.heap.size+1) .u8 79 n∧∃bl:List Int,bl.length=64∧aa wr (w.heap.size+1+1) .u8 157 bl∧(i % 64≠0→bl=cu k n ((c+((i / 64:Nat):Int)) % 4294967296)))
  (fun _ p _=>len - (intOf p).toNat)
 case atStart=>exact ⟨0,by omega,rfl,ao.nil _ _,hB0,by omega,hK0,hN0,_,by simp,hF0,fun h=>absurd rfl h⟩
 case round=>
  clear hB0 hs0 hK0 hN0 hF0;obtain ⟨i,hi,rfl,hO,hB,hs,hK,hN,bl,hbl,hF,hbe⟩:=hrel
  by_cases hlt:i<len
  · obtain ⟨b,off,hx,hcell⟩:∃b off,x=some ⟨b,off,none⟩∧∀j,j<len→w.cell? ⟨b,off+j,none⟩=some (.int .u8 (z[j]?.getD 0)):=by
     rcases hz.at_ with h0|h
     · omega
     · exact h
    subst hx;have hlb:b<w.heap.size:=block_lt_of_cell (hcell 0 (by omega));have HNX':∀bl:List Int,bl=cu k n ((c+((i / 64:Nat):Int)) % 4294967296)→(i+1) % 64≠0→bl=cu k n ((c+(((i+1) / 64:Nat):Int)) % 4294967296):=fun bl h h'=>by
     rw [show (i+1) / 64=i / 64 by omega];exact h
    obtain ⟨J,hJ⟩:∃J,i / 64=J:=⟨_,rfl⟩
    obtain ⟨r,hr⟩:∃r,i % 64=r:=⟨_,rfl⟩
    have hst:strm k n c i=(cu k n ((c+(J:Int)) % 4294967296))[r]?.getD 0:=by unfold strm;rw [hJ,hr]
    have hXi:=HX.out i hlt;rw [hst] at hXi
    rw [hJ] at HNX' hbe
    rw [hr] at hbe
    have hbll:=dC k n ((c+(J:Int)) % 4294967296);have hrb:=fun wx=>jw k n ((c+(J:Int)) % 4294967296) wx hk hn
    obtain ⟨BL,hBLe⟩:∃B,cu k n ((c+(J:Int)) % 4294967296)=B:=⟨_,rfl⟩
    rw [hBLe] at HNX' hbe hXi hbll hrb
    have HNX:ac ((i+1) % 64≠0→BL=cu k n ((c+(((i+1) / 64:Nat):Int)) % 4294967296)):=⟨HNX' BL rfl⟩
    obtain ⟨ZV,hZV⟩:∃x,z[i]?.getD 0=x:=⟨_,rfl⟩
    obtain ⟨BV,hBV⟩:∃x,BL[r]?.getD 0=x:=⟨_,rfl⟩
    obtain ⟨XV,hXV⟩:∃x,bits .xor .u8 ZV BV=x:=⟨_,rfl⟩
    have hcb:=hcell i hlt;rw [hZV] at hcb hXi
    rw [hBV,hXV] at hXi
    obtain ⟨zs,hzs⟩:∃x,XL.take i=x:=⟨_,rfl⟩
    have hzl:zs.length=i:=by rw [←hzs,List.length_take];omega
    have HZS:ac (zs++ [XV]=XL.take (i+1)):=⟨by rw [bG XL i (by omega),hzs,hXi]⟩
    rw [hzs] at hO
    have r1:(i:Int) % 64=(r:Int):=by omega
    have r2:(i:Int).tmod 64=(r:Int):=by rw [Int.tmod_eq_emod_of_nonneg (by omega)];exact r1
    have r3:(r:Int)<64:=by omega
    have q1:(i:Int) / 64=(J:Int):=by omega
    have ii:(i:Int)<(len:Int):=by omega
    have hr64:r<64:=by omega
    obtain ⟨CC,hCC⟩:∃X,(c+(J:Int)) % 4294967296=X:=⟨_,rfl⟩
    have hwJ:(J:Int) % 4294967296=(J:Int):=by omega
    have hBr:BL[r]?.getD 0=BV:=hBV;clear hst hBLe hZV hBV HNX' hzs hXi hJ
    by_cases h64:r=0
    · rw [hCC] at hrb
      have t1:((r:Int)==0)=true:=by simp [h64]
      clear hbe hr h64;go_upto_region 8 with (first
       |(refine am rfl 23 _ rfl _ rfl hK Tryz.underlying23 aK hk ?_)
       |(refine am rfl 79 _ rfl _ rfl hN Tryz.underlying79 jX hn ?_)
       |(go_at_call 125;refine (hrb _).mono ?_;rintro e w3 ⟨rfl,hb3⟩;have hF3:=hF.below hb3 hF.lt)
       |(refine aj rfl 157 _ _ rfl _ rfl rfl hF3 (by rw [hbll];exact dS) (by simp [hbl,hbll]) ?_))
      have hsz3:=hb3.size;refine ae (p:=fun y=>Code.wp _ _ _ _ y) (fun W4=>Below w.heap.size w W4∧w.heap.size+1+1+1≤W4.heap.size∧aa W4 w.heap.size .u8 23 k∧aa W4 (w.heap.size+1) .u8 79 n∧aa W4 (w.heap.size+1+1) .u8 157 BL∧ao W4 (w.heap.size+1+1+1) u9 zs) ⟨below_setRow (hB.trans (hb3.mono hB.size)) (by omega) _,by simp;omega,(hK.below hb3 hK.lt).setRowOther _ (by omega),(hN.below hb3 hN.lt).setRowOther _ (by omega),hF3.setRow _,hO.keep (fun g h1 h2=>by rw [setRow_other _ _ _ _ (by omega)];exact hb3.block g h2)⟩ ?_;clear hF3 hb3 hsz3 hB hs hK hN hF hO hrb hCC hwJ hbl;rintro W4 ⟨hB4,hsz4,hK4,hN4,hF4,hO4⟩;simp only [Act.put];have hBl4:=hbll;have cb:W4.cell? ⟨b,off+i,none⟩=some (.int .u8 ZV):=(hB4.cell (p:=⟨b,off+i,none⟩) hlb).trans hcb;have cB:W4.cell? ⟨w.heap.size+1+1,r,none⟩=some (.int .u8 BV):=by rw [←hBr];exact hF4.cell r (by omega)
      clear hcb hcell;refine ag (fun w'=>w'.cell? ⟨b,off+i,none⟩=some (.int .u8 ZV)∧w'.cell? ⟨w.heap.size+1+1,r,none⟩=some (.int .u8 BV)) 12 (by kernel_rfl) ?_;have keepS:∀w':World,Below (w.heap.size+1+1+1) W4 w'→(w'.cell? ⟨b,off+i,none⟩=some (.int .u8 ZV)∧w'.cell? ⟨w.heap.size+1+1,r,none⟩=some (.int .u8 BV)):=fun w' hb=>
       ⟨(hb.cell (p:=⟨b,off+i,none⟩) (by show b<_;omega)).trans cb,(hb.cell (p:=⟨w.heap.size+1+1,r,none⟩) (by show w.heap.size+1+1<_;omega)).trans cB⟩
      have hS:=keepS W4.drew (Below.refl _ _).drew;refine gaA 0 _ hS ?_;simp only [zp];refine gaA 1 _ hS ?_;simp only [zp];refine gaA 2 _ hS ?_;simp only [zp];refine gaA 3 _ hS ?_;simp only [zp];refine grA 4 _ hS ?_;simp only [zp];refine gaA 5 _ hS ?_;simp only [zp];refine ga 6 (.int .i64 (r:Int)) hS ?_ ?_
      · intro _;go_simp
      simp only [zp];refine gaA 7 _ hS ?_;simp only [zp];refine grA 8 _ hS ?_;simp only [zp];refine ga 9 (.int .u8 XV) hS ?_ ?_
      · intro _;go_simp
      simp only [zp];refine zw 10 fun K hK=>?_
      go_simp;replace hS:=keepS (W4.drew.alloc (.cells #[.int .u8 XV] 5)) ((Below.refl _ _).drew.alloc (by simpa using hsz4) _);refine hK.out _ _ (fun _=>hS) ?_;clear hK K;refine zw 11 fun K hK=>?_
      have hO5:ao (W4.drew.alloc (.cells #[.int .u8 XV] 5)) (w.heap.size+1+1+1) u9 zs:=(hO4.keep (fun g _ _=>rfl)).alloc _;obtain ⟨i0,hi0,hz0,hz1,hz2⟩:=info_parts dH;refine wp_append_own _ (.tmp 29) (.tmp 39) 41 (by kernel_rfl) (w.heap.size+1+1+1) 5 i0 (.int .u8 0) 1 1 Tryz.underlying41 hi0 hz0 hz1 hz2 rfl (by decide) u9 zs.length (zs.map (Value.int .u8)) (by kernel_rfl) hO5 ⟨W4.heap.size,0,none⟩ 1 1 [.int .u8 XV] (by kernel_rfl) rfl (cell_one_new _ _ _) (by simp [Value.oneCell']) (by simp [maxLen];omega) (by omega) (by simp;omega) ?_;intro v' w6 ho6 hgr _;have hO6:ao w6 (w.heap.size+1+1+1) v' (zs++ [XV]):=ao.cast ho6 (by simp) (by simp);have hB6:Below (w.heap.size+1+1+1) W4 w6:=below_grown ((Below.refl _ _).drew.alloc (by simpa using hsz4) _) hO5 hgr (by simp;omega);clear ho6 hgr hO5 hz0 hz1 hz2;replace hS:=keepS w6 hB6;refine hK.out _ _ (fun _=>hS) ?_;clear hK K;simp only [zp];refine zw 12 fun K hK=>?_
      go_simp;refine hK.out _ _ zn ?_;clear hK K;refine ah (by kernel_rfl) ?_ _;clear hS keepS;go_wp2;go_roundw
      case rel=>
       refine ⟨i+1,by omega,by go_num,?_,hB4.trans (hB6.mono (by omega)),by have:=hB6.size;omega,hK4.below hB6 (by omega),hN4.below hB6 (by omega),BL,hBl4,hF4.below hB6 (by omega),HNX.out⟩;rw [HZS.out] at hO6
       exact hO6
      case measure=>simp [intOf];omega
    · have hb0:=hbe h64
      subst hb0;have t1:((r:Int)==0)=false:=by simp;omega
      clear hbe hr hrb hCC hwJ;go_upto_region 8 with fail
      refine ae (p:=fun y=>Code.wp _ _ _ _ y) (fun W4=>Below w.heap.size w W4∧w.heap.size+1+1+1≤W4.heap.size∧aa W4 w.heap.size .u8 23 k∧aa W4 (w.heap.size+1) .u8 79 n∧aa W4 (w.heap.size+1+1) .u8 157 bl∧ao W4 (w.heap.size+1+1+1) u9 zs) ⟨hB,hs,hK,hN,hF,hO⟩ ?_;clear hB hs hK hN hF hO h64;rintro W4 ⟨hB4,hsz4,hK4,hN4,hF4,hO4⟩;have hBl4:=hbl;have cb:W4.cell? ⟨b,off+i,none⟩=some (.int .u8 ZV):=(hB4.cell (p:=⟨b,off+i,none⟩) hlb).trans hcb;have cB:W4.cell? ⟨w.heap.size+1+1,r,none⟩=some (.int .u8 BV):=by rw [←hBr];exact hF4.cell r (by omega)
      clear hcb hcell;refine ag (fun w'=>w'.cell? ⟨b,off+i,none⟩=some (.int .u8 ZV)∧w'.cell? ⟨w.heap.size+1+1,r,none⟩=some (.int .u8 BV)) 12 (by kernel_rfl) ?_;have keepS:∀w':World,Below (w.heap.size+1+1+1) W4 w'→(w'.cell? ⟨b,off+i,none⟩=some (.int .u8 ZV)∧w'.cell? ⟨w.heap.size+1+1,r,none⟩=some (.int .u8 BV)):=fun w' hb=>
       ⟨(hb.cell (p:=⟨b,off+i,none⟩) (by show b<_;omega)).trans cb,(hb.cell (p:=⟨w.heap.size+1+1,r,none⟩) (by show w.heap.size+1+1<_;omega)).trans cB⟩
      have hS:=keepS W4.drew (Below.refl _ _).drew;refine gaA 0 _ hS ?_;simp only [zp];refine gaA 1 _ hS ?_;simp only [zp];refine gaA 2 _ hS ?_;simp only [zp];refine gaA 3 _ hS ?_;simp only [zp];refine grA 4 _ hS ?_;simp only [zp];refine gaA 5 _ hS ?_;simp only [zp];refine ga 6 (.int .i64 (r:Int)) hS ?_ ?_
      · intro _;go_simp
      simp only [zp];refine gaA 7 _ hS ?_;simp only [zp];refine grA 8 _ hS ?_;simp only [zp];refine ga 9 (.int .u8 XV) hS ?_ ?_
      · intro _;go_simp
      simp only [zp];refine zw 10 fun K hK=>?_
      go_simp;replace hS:=keepS (W4.drew.alloc (.cells #[.int .u8 XV] 5)) ((Below.refl _ _).drew.alloc (by simpa using hsz4) _);refine hK.out _ _ (fun _=>hS) ?_;clear hK K;refine zw 11 fun K hK=>?_
      have hO5:ao (W4.drew.alloc (.cells #[.int .u8 XV] 5)) (w.heap.size+1+1+1) u9 zs:=(hO4.keep (fun g _ _=>rfl)).alloc _;obtain ⟨i0,hi0,hz0,hz1,hz2⟩:=info_parts dH;refine wp_append_own _ (.tmp 29) (.tmp 39) 41 (by kernel_rfl) (w.heap.size+1+1+1) 5 i0 (.int .u8 0) 1 1 Tryz.underlying41 hi0 hz0 hz1 hz2 rfl (by decide) u9 zs.length (zs.map (Value.int .u8)) (by kernel_rfl) hO5 ⟨W4.heap.size,0,none⟩ 1 1 [.int .u8 XV] (by kernel_rfl) rfl (cell_one_new _ _ _) (by simp [Value.oneCell']) (by simp [maxLen];omega) (by omega) (by simp;omega) ?_;intro v' w6 ho6 hgr _;have hO6:ao w6 (w.heap.size+1+1+1) v' (zs++ [XV]):=ao.cast ho6 (by simp) (by simp);have hB6:Below (w.heap.size+1+1+1) W4 w6:=below_grown ((Below.refl _ _).drew.alloc (by simpa using hsz4) _) hO5 hgr (by simp;omega);clear ho6 hgr hO5 hz0 hz1 hz2;replace hS:=keepS w6 hB6;refine hK.out _ _ (fun _=>hS) ?_;clear hK K;simp only [zp];refine zw 12 fun K hK=>?_
      go_simp;refine hK.out _ _ zn ?_;clear hK K;refine ah (by kernel_rfl) ?_ _;clear hS keepS;go_wp2;go_roundw
      case rel=>
       refine ⟨i+1,by omega,by go_num,?_,hB4.trans (hB6.mono (by omega)),by have:=hB6.size;omega,hK4.below hB6 (by omega),hN4.below hB6 (by omega),bl,hBl4,hF4.below hB6 (by omega),HNX.out⟩;rw [HZS.out] at hO6
       exact hO6
      case measure=>simp [intOf];omega
  · obtain rfl:i=len:=by omega
    have hO':ao wr w.heap.size u9 (dk k n c z):=by
     rw [HXL.out];rw [List.take_of_length_le (by omega)] at hO
     exact hO.less (by omega)
    have nle:¬((i:Int)<(i:Int)):=by omega
    go_wp2;go_ret;exact ⟨_,rfl,hO',hB⟩
theorem jt (xs ys:List Int):leN (xs++ys)=leN xs+256 ^ xs.length*leN ys:=by
 induction xs with
 |nil=>simp [leN]
 |cons x xs ih=>
  rw [List.cons_append,leN,leN,ih,List.length_cons,Int.pow_succ,Int.mul_add];have:256*(256 ^ xs.length*leN ys)=256 ^ xs.length*256*leN ys:=by grind
  omega
theorem jG (xs:List Int) (a:Int):leN (xs++ [a])=leN xs+256 ^ xs.length*a:=by
 rw [jt];simp [leN]
def cK (l:List Int):Nat→Int
 |0=>0
 |i+1=>(cK l i+l[i]?.getD 0) / 256
def oK (l:List Int):Nat→List Int
 |0=>[]
 |i+1=>oK l i++ [(cK l i+l[i]?.getD 0) % 256]
theorem dm (l:List Int) (i:Nat):(oK l i).length=i:=by
 induction i with
 |zero=>rfl
 |succ i ih=>simp [oK,ih]
theorem jo (l:List Int) (i:Nat):∀v∈oK l i,isB v:=by
 induction i with
 |zero=>intro v hv;cases hv
 |succ i ih=>
  intro v hv
  rcases List.mem_append.1 hv with h|h
  · exact ih v h
  · rw [List.mem_singleton.1 h];unfold isB;omega
theorem takeN_val (l:List Int) (i:Nat):leN (l.take (i+1))=leN (l.take i)+256 ^ i*l[i]?.getD 0:=by
 by_cases hi:i<l.length
 · rw [List.take_succ_eq_append_getElem hi,jG,List.length_take,Nat.min_eq_left (by omega),List.getElem?_eq_getElem hi]
   rfl
 · rw [List.take_of_length_le (by omega),List.take_of_length_le (by omega),List.getElem?_eq_none (by omega)]
   simp
theorem xN (l:List Int) (i:Nat):leN (oK l i)+256 ^ i*cK l i=leN (l.take i):=by
 induction i with
 |zero=>simp [oK,cK,leN]
 |succ i ih=>
  rw [takeN_val,←ih];simp only [oK,cK];rw [jG,dm];generalize hv:l[i]?.getD (0:Int)=v;generalize cK l i=c;generalize leN (oK l i)=o;have e:=Int.mul_ediv_add_emod (c+v) 256;have e2:(256:Int) ^ (i+1)=256 ^ i*256:=Int.pow_succ _ _;rw [e2];generalize (256:Int) ^ i=p at*
  generalize hq:(c+v) / 256=q at*
  generalize hr:(c+v) % 256=r at*
  have:p*(c+v)=p*(256*q+r):=by rw [e]
  grind
theorem lg (l:List Int) (i:Nat) (hi:l.length≤i) (hc:cK l i=0):leN (oK l i)=leN l:=by
 have h:=xN l i;rw [hc,Int.mul_zero,Int.add_zero,List.take_of_length_le hi] at h
 exact h
def highs:List Int→List Int
 |[]=>[]
 |a::u=>(a / 4+u[0]?.getD 0 % 4*64)::highs u
theorem nA:∀u:List Int,4*leN (highs u)+u[0]?.getD 0 % 4=leN u
 |[]=>by simp [highs,leN]
 |a::u=>by
  have ih:=nA u;simp only [highs,leN,List.getElem?_cons_zero,Option.getD_some];omega
theorem nx:∀(u:List Int) (i:Nat),i<u.length→(highs u)[i]?.getD 0=u[i]?.getD 0 / 4+u[i+1]?.getD 0 % 4*64
 |[],i,h=>by simp at h
 |a::u,0,_=>by simp [highs]
 |a::u,i+1,h=>by
  have:=nx u i (by simpa using h)
  simpa [highs] using this
theorem vU (u:List Int):leN (highs u)=leN u / 4:=by
 have h:=nA u;omega
theorem km (l:List Int) (h:∀v∈l,isB v):0≤leN l∧leN l<256 ^ l.length:=by
 induction l with
 |nil=>simp [leN]
 |cons a l ih=>
  have h1:=ih (fun v hv=>h v (List.mem_cons_of_mem _ hv));have h2:=h a (by simp);unfold isB at h2
  rw [leN,List.length_cons,Int.pow_succ];omega
theorem kh (l:List Int) (i:Nat) (hi:i≤l.length):leN l=leN (l.take i)+256 ^ i*leN (l.drop i):=by
 have:=jt (l.take i) (l.drop i);rw [List.take_append_drop,List.length_take,Nat.min_eq_left hi] at this
 exact this
theorem xx:(Tryz.prog.info? 3).map (fun i=>(i.zero,i.size,i.bytes))=some (some (.int .i64 0),1,8):=by kernel_rfl
def bt (w:World) (base:Nat) (v:Value) (l:List Int):Prop:=w.ownsRow base 3 1 v l.length (l.map (Value.int .i64))
theorem bt.cast {w:World} {base n:Nat} {v:Value} {z:List Int} {xs:List Value} (h:w.ownsRow base 3 1 v n xs) (hn:n=z.length) (hx:xs=z.map (Value.int .i64)):bt w base v z:=by
 subst hn hx;exact h
theorem bt.nil (w:World) (base:Nat):bt w base (.slice none 0 0) []:=World.ownsRow_nil w base 3 1
theorem bt.alloc {w:World} {base:Nat} {v:Value} {z:List Int} (h:bt w base v z) (o:Obj):bt (w.alloc o) base v z:=World.ownsRow.alloc h o
theorem bt.drewN {w:World} {base:Nat} {v:Value} {z:List Int} (h:bt w base v z) (n:Nat):bt (w.drewN n) base v z:=by
 induction n with
 |zero=>exact h
 |succ n ih=>exact World.ownsRow.drew ih
theorem bt.slice {w:World} {base:Nat} {v:Value} {z:List Int} (h:bt w base v z) (hz:0<z.length):∃g cap,v=.slice (some ⟨g,0,none⟩) z.length cap∧base≤g∧cap≤9223372036854775807∧z.length≤cap∧∀j,j<z.length→w.cell? ⟨g,j,none⟩=some (.int .i64 (z[j]?.getD 0)):=by
 rcases h.2 with ⟨_,h0⟩|⟨g,cap,cur,rfl,hb,hg,hc,hm,hs,ht⟩
 · omega
 · refine ⟨g,cap,rfl,hb,by simpa [maxLen] using hm,hc,fun j hj=>?_⟩
   rw [cell_of_row w g j _ _ _ hg,←Array.getElem?_toList];have e:(cur.toList.take (z.length*1))[j]?=(z.map (Value.int .i64))[j]?:=by rw [ht]
   rw [Nat.mul_one,List.getElem?_take_of_lt hj,List.getElem?_map,List.getElem?_eq_getElem hj] at e
   rw [e,List.getElem?_eq_getElem hj];rfl
theorem bC {base:Nat} {w0 w w':World} {v:Value} {z:List Int} (hb:Below base w0 w) (hown:bt w base v z) (hg:w.grownBy w' v.ownBlock) (hbase:base≤w.heap.size):Below base w0 w':=
 hb.grown hg hbase (fun k hk=>by
  rcases hown.2 with ⟨rfl,_⟩|⟨g,cap,cur,rfl,hb,_⟩
  · cases hk
  · simp [Value.ownBlock] at hk;omega)
theorem wI {w:World} {o:Oper} {a:Act} {K:Act→World→Prop} {Q:Exit→Act→World→Prop} (s x:Operand)
    (ho:o.op=.call {callee:=.builtin .append,args:= #[s,x],argTypes:= #[162,162]}) (base:Nat) (v:Value) (zs:List Int) (hs:a.eval s=v) (c:Int) (hown:bt w base v zs) (g:Nat)
    (hx:a.eval x=.slice (some ⟨g,0,none⟩) 1 1) (hc:w.cell? ⟨g,0,none⟩=some (.int .i64 c)) (hln:zs.length≤4000000) (hbase:base≤w.heap.size)
    (h:∀v' w',bt w' base v' (zs++ [c])→w.grownBy w' v.ownBlock→K (a.put o.dst v') w'):o.wp Tryz.prog a w K Q:=by
 obtain ⟨i0,hi,hz0,hz1,hz2⟩:=info_parts xx;refine wp_append_own w s x 162 ho base 3 i0 (.int .i64 0) 1 8 Tryz.underlying162 hi hz0 hz1 hz2 rfl (by decide) v zs.length (zs.map (Value.int .i64)) hs hown ⟨g,0,none⟩ 1 1 [.int .i64 c] hx rfl ?_ (by simp [Value.oneCell']) (by simp [maxLen];omega) (by omega) hbase ?_
 · intro j u hj
   cases j with
   |zero=>rw [Addr.add_mid'];simp at hj;rw [←hj];exact hc
   |succ j=>simp at hj
 intro v' w' h1 h2 _;exact h v' w' (bt.cast h1 (by simp) (by simp)) h2
theorem wh {w:World} {o:Oper} {a:Act} {K:Act→World→Prop} {Q:Exit→Act→World→Prop} (s x:Operand)
    (ho:o.op=.call {callee:=.builtin .append,args:= #[s,x],argTypes:= #[162,162]}) (base:Nat) (v:Value) (zs:List Int) (hs:a.eval s=v) (c:Int) (hown:bt (w.alloc (.cells #[.int .i64 c] 3)) base v zs)
    (hx:a.eval x=.slice (some ⟨w.heap.size,0,none⟩) 1 1) (hln:zs.length≤4000000) (hbase:base≤w.heap.size)
    (h:∀v' w',bt w' base v' (zs++ [c])→(w.alloc (.cells #[.int .i64 c] 3)).grownBy w' v.ownBlock→K (a.put o.dst v') w'):o.wp Tryz.prog a (w.alloc (.cells #[.int .i64 c] 3)) K Q:=
 wI s x ho base v zs hs c hown w.heap.size hx ((cell_of_row _ w.heap.size 0 _ 3 (0,0) (World.alloc_heap_new w _)).trans rfl) hln (by simp;omega) h
theorem bD {w:World} {ops:Array Oper} {rest:List Oper} {o:Oper} {a:Act} {Q:Exit→Act→World→Prop} (hgd:o.guard=none) (s x:Operand)
    (ho:o.op=.call {callee:=.builtin .append,args:= #[s,x],argTypes:= #[162,162]}) (base:Nat) (v:Value) (zs:List Int) (hs:a.eval s=v) (c:Int) (hown:bt (w.alloc (.cells #[.int .i64 c] 3)) base v zs)
    (hx:a.eval x=.slice (some ⟨w.heap.size,0,none⟩) 1 1) (hln:zs.length≤4000000) (hbase:base≤w.heap.size)
    (h:∀v' w',bt w' base v' (zs++ [c])→(w.alloc (.cells #[.int .i64 c] 3)).grownBy w' v.ownBlock→wpList Tryz.prog ops Q rest (a.put o.dst v') w'):wpList Tryz.prog ops Q (o::rest) a (w.alloc (.cells #[.int .i64 c] 3)):=
 wpList_plain hgd fun _ hK=>wh s x ho base v zs hs c hown hx hln hbase fun v' w' h1 h2=>hK _ _ (h v' w' h1 h2)
structure fJ (w:World) (x:Option Addr) (len cap:Nat) (z:List Int):Prop where
 len_eq:len=z.length
 le:len≤cap
 top:cap≤9223372036854775807
 nil:x=none→cap=0
 at_:len=0∨∃b,x=some ⟨b,0,none⟩∧∀j,j<len→w.cell? ⟨b,j,none⟩=some (.int .i64 (z[j]?.getD 0))
theorem fJ.below {w w':World} {x:Option Addr} {len cap:Nat} {z:List Int} (h:fJ w x len cap z) (hb:Below w.heap.size w w'):fJ w' x len cap z:=
 ⟨h.len_eq,h.le,h.top,h.nil,by
  rcases h.at_ with h0|⟨b,hx,hc⟩
  · exact .inl h0
  · by_cases hl:len=0
    · exact .inl hl
    · exact .inr ⟨b,hx,fun j hj=>(hb.cell (p:=⟨b,j,none⟩) (block_lt_of_cell (hc j hj))).trans (hc j hj)⟩⟩
theorem bt.ints {w:World} {base:Nat} {v:Value} {z:List Int} (h:bt w base v z):∃x n c,v=.slice x n c∧fJ w x n c z:=by
 rcases h.2 with ⟨rfl,h0⟩|⟨g,cap,cur,rfl,hb,hg,hc,hm,hs,ht⟩
 · exact ⟨none,0,0,rfl,⟨h0.symm,Nat.le_refl _,by omega,fun _=>rfl,.inl rfl⟩⟩
 · refine ⟨_,_,_,rfl,rfl,hc,by simpa [maxLen] using hm,(fun h=>by cases h),.inr ⟨g,rfl,fun j hj=>?_⟩⟩
   rw [cell_of_row w g j _ _ _ hg,←Array.getElem?_toList];have e:(cur.toList.take (z.length*1))[j]?=(z.map (Value.int .i64))[j]?:=by rw [ht]
   rw [Nat.mul_one,List.getElem?_take_of_lt hj,List.getElem?_map,List.getElem?_eq_getElem hj] at e
   rw [e,List.getElem?_eq_getElem hj];rfl
end Go.Proofs.YtbdhfbglagdiaaaGreatDoor
