/- Ch Ci Cx Cy Ae0 -/
import Derived.Test.YtbdhfbglagdiaaaGreatDoorG15
import Derived.Test.YtbdhfbglagdiaaaGreatDoorG16
import Derived.Test.YtbdhfbglagdiaaaGreatDoorG14
namespace Go.Proofs.YtbdhfbglagdiaaaGreatDoor
open Go.RowKit
set_option maxRecDepth 20000
set_option maxHeartbeats 1000000
def lO (v:Int):List Int:=[v % 256,v / 256 % 256,v / 65536 % 256,v / 16777216 % 256]
def joinK (s:List Int):Nat→List Int
 |0=>[]
 |k+1=>joinK s k++lO (at' s k)
theorem aJ (s:List Int) (k:Nat):(joinK s k).length=4*k:=by
 induction k with
 |zero=>rfl
 |succ k ih=>simp only [joinK,List.length_append,ih,lO,List.length_cons,List.length_nil];omega
theorem dS:(Tryz.prog.info? 157).map (·.size)=some 64:=by kernel_rfl
theorem gQ:(Tryz.prog.info? 24).map (·.size)=some 1:=by kernel_rfl
theorem ue (s:List Int) (w:World) (hs:s.length=16):
    Calls Tryz.prog 152 #[.agg (row .u32 s)] w fun e w'=>e=.returned (.agg (row .u8 (joinK s 16)))∧Below w.heap.size w w':=by
 have h0:∀o1 o2,aa (((w.alloc (.cells (row .u32 s) 186)).alloc o1).alloc o2) w.heap.size .u32 186 s:=fun o1 o2=>((aa.new w .u32 186 s).alloc o1).alloc o2
 go_enter Tryz.func152,Tryz.ntmps152
 go_wp2_with (refine am rfl 186 _ rfl _ rfl (h0 _ _) Tryz.underlying186 dL hs ?_)
 refine ae (p:=fun y=>Code.wp _ _ _ _ y) (fun W0=>Below w.heap.size w W0∧aa W0 (w.heap.size+1) .u8 157 (List.replicate 64 0)∧aa W0 (w.heap.size+1+1) .u8 157 (List.replicate 64 0)) ⟨?_,?_,?_⟩ ?_
 · exact (((Below.refl _ _).alloc (Nat.le_refl _) _).alloc (by simp) _).alloc (by simp;omega) _
 · have:=(aa.new (w.alloc (.cells (row .u32 s) 186)) .u8 157 (List.replicate 64 0))
   rw [World.size_alloc] at this
   exact this.alloc _
 · have:=(aa.new ((w.alloc (.cells (row .u32 s) 186)).alloc (.cells (row .u8 (List.replicate 64 0)) 157)) .u8 157 (List.replicate 64 0))
   rw [World.size_alloc,World.size_alloc] at this
   exact this
 clear h0;rintro W0 ⟨hB0,hR0,hb0⟩
 go_loopw [8] (fun i wr=>∃k:Nat,k≤16∧i=.int .i64 k∧Below w.heap.size w wr∧aa wr (w.heap.size+1) .u8 157 (List.replicate 64 0)∧aa wr (w.heap.size+1+1) .u8 157 (joinK s k++List.replicate (64 - 4*k) 0))
  (fun i _=>16 - (intOf i).toNat)
 case atStart=>exact ⟨0,by omega,rfl,hB0,hR0,hb0⟩
 case round=>
  clear hB0 hR0 hb0;obtain ⟨k,hk,rfl,hB,hR,hb⟩:=hrel
  by_cases hlt:k<16
  · have hix:=fun wx=>ce (P:=Tryz.prog) wx 186 24 16 .u32 s k Tryz.underlying186 Tryz.underlying24 gQ hs (by omega)
    have hN:Hid (s[k]?.getD 0=at' s k):=rfl;obtain ⟨V,hV⟩:∃V,s[k]?.getD 0=V:=⟨_,rfl⟩
    rw [hV] at hix
    have HV:Hid (at' s k=V):=hV;clear hV hN;obtain ⟨I,hI⟩:∃I:Nat,4*k=I:=⟨_,rfl⟩
    have hlen:(joinK s k++List.replicate (64 - 4*k) 0).length=64:=by rw [List.length_append,aJ,List.length_replicate];omega
    have c0:=hb.cell I (by omega);have c1:=hb.cell (I+1) (by omega);have c2:=hb.cell (I+2) (by omega);have c3:=hb.cell (I+3) (by omega);have hf:=hb.frozen;have hI':(k:Int)*4=(I:Int):=by omega
    have i4:(I:Int)+3<64:=by omega
    have i3:(I:Int)+2<64:=by omega
    have i2:(I:Int)+1<64:=by omega
    have i1:(I:Int)<64:=by omega
    have j1:IntKind.i64.wrap ((I:Int)+1)=(I:Int)+1:=by rw [IntKind.wrap_i64];omega
    have j2:IntKind.i64.wrap ((I:Int)+2)=(I:Int)+2:=by rw [IntKind.wrap_i64];omega
    have j3:IntKind.i64.wrap ((I:Int)+3)=(I:Int)+3:=by rw [IntKind.wrap_i64];omega
    have n1:(0:Int)≤(I:Int)+1:=by omega
    have n2:(0:Int)≤(I:Int)+2:=by omega
    have n3:(0:Int)≤(I:Int)+3:=by omega
    have t1:((I:Int)+1).toNat=I+1:=by omega
    have t2:((I:Int)+2).toNat=I+2:=by omega
    have t3:((I:Int)+3).toNat=I+3:=by omega
    have HI:Hid (4*k=I):=hI;clear hI hlen;go_wp2;go_roundw
    case rel=>
     have hI:=HI.out;refine ⟨k+1,by omega,by go_num,(((hB.setCell (by simp;omega) _).setCell (by simp;omega) _).setCell (by simp;omega) _).setCell (by simp;omega) _,(((hR.setOther _ _ (by simp)).setOther _ _ (by simp)).setOther _ _ (by simp)).setOther _ _ (by simp),?_⟩;have:=(((hb.set I (V % 256)).set (I+1) (V / 256 % 256)).set (I+2) (V / 65536 % 256)).set (I+3) (V / 16777216 % 256);rw [show 64 - 4*k=(64 - 4*(k+1))+4 by omega,lr _ _ _ _ _ _ _ (by rw [aJ];exact hI)] at this
     have e:joinK s (k+1)=joinK s k++ [V % 256,V / 256 % 256,V / 65536 % 256,V / 16777216 % 256]:=by
      show joinK s k++lO (at' s k)=_;rw [HV.out];rfl
     rw [e];exact this
    case measure=>simp [intOf];omega
  · obtain rfl:k=16:=by omega
    have hb':aa wr (w.heap.size+1+1) .u8 157 (joinK s 16):=by simpa using hb
    have hl:=aJ s 16;obtain ⟨L,hL⟩:∃L,joinK s 16=L:=⟨_,rfl⟩
    have HL:Hid (joinK s 16=L):=hL;rw [hL] at hb' hl
    clear hb hL
    go_wp2_with (first|(refine am rfl 157 _ rfl _ rfl hb' Tryz.underlying157 dS hl ?_)|(refine aj rfl 157 _ _ rfl _ rfl rfl hR (by rw [hl];exact dS) (by simp [hl]) ?_))
    refine bodyPost_ret (ak (Tryz.results152) _ rfl (hR.setRow _) Tryz.underlying157 dS hl) rfl ⟨by rw [HL.out],?_⟩;exact below_setRow hB (by omega) _
def mY (s:List Int):List Int:=qAt (qAt (qAt (qAt s 0 4 8 12) 1 5 9 13) 2 6 10 14) 3 7 11 15
def jV (s:List Int):List Int:=qAt (qAt (qAt (qAt s 0 5 10 15) 1 6 11 12) 2 7 8 13) 3 4 9 14
theorem jM (s:List Int):(mY s).length=s.length:=by simp only [mY,cW]
theorem mL (s:List Int):(jV s).length=s.length:=by simp only [jV,cW]
def cD (s:List Int):Nat→List Int
 |0=>s
 |k+1=>jV (mY (cD s k))
theorem fk (s:List Int) (k:Nat):(cD s k).length=s.length:=by
 induction k with
 |zero=>rfl
 |succ k ih=>simp only [cD,mL,jM,ih]
def dM (r s:List Int) (k:Nat):List Int:=(List.range 16).map fun i=>if i<k then (at' r i+at' s i) % 4294967296 else at' r i
theorem jy (r s:List Int) (k:Nat):(dM r s k).length=16:=by simp [dM]
theorem qU (r s:List Int) (h:r.length=16):dM r s 0=r:=by
 apply List.ext_getElem (by simp [dM,h]);intro i h1 h2;simp [dM,at',h2]
theorem nM (r s:List Int) (k j:Nat) (h:j<16):at' (dM r s k) j=if j<k then (at' r j+at' s j) % 4294967296 else at' r j:=by
 simp [dM,at',h]
theorem tH (r s:List Int) (k:Nat):(dM r s k).set k ((at' r k+at' s k) % 4294967296)=dM r s (k+1):=by
 apply List.ext_getElem (by simp [dM]);intro i h1 h2;simp only [dM,List.length_set,List.length_map,List.length_range] at h1
 by_cases hik:k=i
 · subst hik
   simp [dM]
 · rw [List.getElem_set_ne hik]
   simp only [dM,List.getElem_map,List.getElem_range]
   by_cases hlt:i<k
   · rw [if_pos hlt,if_pos (by omega)]
   · rw [if_neg hlt,if_neg (by omega)]
def fH (b:List Int):List Int:=dM (cD b 10) b 16
def cu (k n:List Int) (c:Int):List Int:=joinK (fH (gK k n c)) 16
theorem dC (k n:List Int) (c:Int):(cu k n c).length=64:=aJ _ 16
theorem mX (k n:List Int) (c:Int) (w:World) (hk:k.length=32) (hn:n.length=12):
    Calls Tryz.prog 120 #[.agg (row .u8 k),.agg (row .u8 n),.int .u32 c] w fun e w'=>e=.returned (.agg (row .u8 (cu k n c)))∧Below w.heap.size w w':=by
 have hbg:=iO k n c;have hBl:=fI k n c;obtain ⟨B,hBe⟩:∃B,gK k n c=B:=⟨_,rfl⟩
 have HB:ac (cu k n c=joinK (fH B) 16):=⟨by unfold cu;rw [hBe]⟩
 rw [hBe] at hbg hBl
 clear hBe;go_enter Tryz.func120,Tryz.ntmps120;go_upto_region 1 with fail
 refine ae (p:=fun y=>Code.wp _ _ _ _ y) (fun W0=>Below w.heap.size w W0∧W0.heap.size=w.heap.size+1+1+1∧aa W0 w.heap.size .u8 23 k∧aa W0 (w.heap.size+1) .u8 79 n∧aa W0 (w.heap.size+1+1) .u8 157 (List.replicate 64 0)) ⟨?_,by simp,?_,?_,?_⟩ ?_
 · exact (((Below.refl _ _).alloc (Nat.le_refl _) _).alloc (by simp) _).alloc (by simp;omega) _
 · exact ((aa.new w .u8 23 k).alloc _).alloc _
 · have:=(aa.new (w.alloc (.cells (row .u8 k) 23)) .u8 79 n)
   rw [World.size_alloc] at this
   exact this.alloc _
 · have:=(aa.new ((w.alloc (.cells (row .u8 k) 23)).alloc (.cells (row .u8 n) 79)) .u8 157 (List.replicate 64 0))
   rw [World.size_alloc,World.size_alloc] at this
   exact this
 rintro W0 ⟨hB0,hs0,hK0,hN0,hR0⟩;go_upto_region 2 with (first
  |(refine am rfl 23 _ rfl _ rfl hK0 Tryz.underlying23 aK hk ?_)
  |(refine am rfl 79 _ rfl _ rfl hN0 Tryz.underlying79 jX hn ?_)
  |(go_at_call 149;refine (hbg _ hk hn).mono ?_;rintro e w1 ⟨rfl,hb1⟩;have hF0:=aa.new w1 .u32 186 (List.replicate 16 0))
  |(refine aj rfl 186 _ _ rfl _ rfl rfl hF0 (by rw [hBl];exact dL) (by simp [hBl]) ?_))
 have hsz1:=hb1.size;refine ae (p:=fun y=>Code.wp _ _ _ _ y) (fun W2=>Below w.heap.size w W2∧W2.heap.size=w1.heap.size+1∧aa W2 (w.heap.size+1+1) .u8 157 (List.replicate 64 0)∧aa W2 w1.heap.size .u32 186 B) ⟨?_,by simp,?_,hF0.setRow _⟩ ?_
 · exact below_setRow ((hB0.trans (hb1.mono hB0.size)).alloc (by omega) _) (by omega) _
 · exact ((hR0.below hb1 (by omega)).alloc _).setRowOther _ (by omega)
 clear hF0 hB0 hK0 hN0 hR0 hbg;rintro W2 ⟨hB2,hs2,hR2,hF2⟩;have hL0:=aa.new W2 .u32 186 (List.replicate 16 0);rw [hs2] at hL0
 go_upto_region 3 with (first
  |(refine am rfl 186 _ rfl _ rfl hF2 Tryz.underlying186 dL hBl ?_)
  |(refine aj rfl 186 _ _ rfl _ rfl rfl hL0 (by rw [hBl];exact dL) (by simp [hBl]) ?_))
 refine ae (p:=fun y=>Code.wp _ _ _ _ y) (fun W3=>Below w.heap.size w W3∧aa W3 (w.heap.size+1+1) .u8 157 (List.replicate 64 0)∧aa W3 w1.heap.size .u32 186 B∧aa W3 (w1.heap.size+1) .u32 186 B) ⟨?_,?_,?_,?_⟩ ?_
 · exact below_setRow (hB2.alloc (by omega) _) (by omega) _
 · exact (hR2.alloc _).setRowOther _ (by omega)
 · exact (hF2.alloc _).setRowOther _ (by omega)
 · exact hL0.setRow B
 clear hL0 hB2 hR2 hF2 hs2;rintro W3 ⟨hB3,hR3,hF3,hL3⟩
 go_wp2_with fail
 go_loopw [15] (fun i wr=>∃j:Nat,j≤10∧i=.int .i64 j∧Below w.heap.size w wr∧aa wr (w.heap.size+1+1) .u8 157 (List.replicate 64 0)∧aa wr w1.heap.size .u32 186 B∧aa wr (w1.heap.size+1) .u32 186 (cD B j))
  (fun i _=>10 - (intOf i).toNat)
 case atStart=>exact ⟨0,by omega,rfl,hB3,hR3,hF3,hL3⟩
 case round=>
  clear hB3 hR3 hF3 hL3;obtain ⟨j,hj,rfl,hB,hR,hF,hL⟩:=hrel
  by_cases hlt:j<10
  · have hl:(cD B j).length=16:=by rw [fk,hBl]
    have HN:ac (cD B (j+1)=jV (mY (cD B j))):=⟨rfl⟩
    obtain ⟨S,hS⟩:∃S,cD B j=S:=⟨_,rfl⟩
    rw [hS] at hl hL HN
    clear hS;obtain ⟨D,hD⟩:∃D,mY S=D:=⟨_,rfl⟩
    obtain ⟨T,hT⟩:∃T,jV D=T:=⟨_,rfl⟩
    have hDl:D.length=16:=by rw [←hD,jM,hl]
    have hd:Calls Tryz.prog 150 #[.pointer (some ⟨w1.heap.size+1,0,none⟩)] wr fun e w'=>(∃v,e=.returned v)∧Below (w1.heap.size+1) wr w'∧aa w' (w1.heap.size+1) .u32 186 D:=by
     rw [←hD];exact vN S (w1.heap.size+1) (w1.heap.size+1) wr wr hl hL (Nat.le_refl _) (Below.refl _ _)
    have hsl:∀wx,Below (w1.heap.size+1) wr wx→aa wx (w1.heap.size+1) .u32 186 D→Calls Tryz.prog 151 #[.pointer (some ⟨w1.heap.size+1,0,none⟩)] wx fun e w'=>(∃v,e=.returned v)∧Below (w1.heap.size+1) wr w'∧aa w' (w1.heap.size+1) .u32 186 T:=fun wx hx h=>by
     rw [←hT];exact uo D (w1.heap.size+1) (w1.heap.size+1) wx wr hDl h (Nat.le_refl _) hx
    rw [hD,hT] at HN
    clear hD hT hDl
    go_wp2_with (first
     |(go_at_call 150;refine hd.mono ?_;rintro e w4 ⟨⟨v4,rfl⟩,hb4,hL4⟩)
     |(go_at_call 151;refine (hsl _ hb4 hL4).mono ?_;rintro e w5 ⟨⟨v5,rfl⟩,hb5,hL5⟩))
    go_roundw
    case rel=>exact ⟨j+1,by omega,by go_num,hB.trans (hb5.mono (by omega)),hR.below hb5 (by omega),hF.below hb5 (by omega),by rw [HN.out];exact hL5⟩
    case measure=>simp [intOf];omega
  · obtain rfl:j=10:=by omega
    have hl:(cD B 10).length=16:=by rw [fk,hBl]
    obtain ⟨S,hS⟩:∃S,cD B 10=S:=⟨_,rfl⟩
    have HW:ac (fH B=dM S B 16):=⟨by unfold fH;rw [hS]⟩
    rw [hS] at hl hL
    clear hS;have hL0:aa wr (w1.heap.size+1) .u32 186 (dM S B 0):=by rw [qU _ _ hl];exact hL
    clear hL
    go_wp2_with fail
    go_loopw [20] (fun i wr=>∃j:Nat,j≤16∧i=.int .i64 j∧Below w.heap.size w wr∧aa wr (w.heap.size+1+1) .u8 157 (List.replicate 64 0)∧aa wr w1.heap.size .u32 186 B∧aa wr (w1.heap.size+1) .u32 186 (dM S B j))
     (fun i _=>16 - (intOf i).toNat)
    case atStart=>exact ⟨0,by omega,rfl,hB,hR,hF,hL0⟩
    case round=>
     clear hB hR hF hL0;obtain ⟨j,hj,rfl,hB,hR,hF,hL⟩:=hrel
     by_cases hlt2:j<16
     · have cF:=hF.at j (by omega)
       have cL:=hL.at j (by rw [jy];omega)
       rw [nM S B j j hlt2,if_neg (Nat.lt_irrefl _)] at cL
       have fL:=hL.frozen j;have HA:ac ((dM S B j).set j ((at' S j+at' B j) % 4294967296)=dM S B (j+1)):=⟨tH S B j⟩
       obtain ⟨X,hX⟩:∃X,at' S j=X:=⟨_,rfl⟩
       obtain ⟨Y,hY⟩:∃Y,at' B j=Y:=⟨_,rfl⟩
       rw [hX,hY] at HA
       rw [hX] at cL
       rw [hY] at cF
       clear hX hY;have hji:(j:Int)<16:=by omega
       have hne:¬(w1.heap.size+1=w1.heap.size):=by omega
       go_upto_region 11 with fail
       go_region
       all_goals go_wp2
       all_goals go_roundw
       all_goals first
        |(refine ⟨j+1,by omega,by go_num,(hB.setCell (by simp;omega) _).drew,(hR.setOther _ _ (by simp;omega)).drew,(hF.setOther _ _ (by simp)).drew,?_⟩;rw [←HA.out];exact (hL.set j _).drew)
        |(simp [intOf];omega)
     · obtain rfl:j=16:=by omega
       have hl2:=jy S B 16;rw [←HW.out] at hl2 hL
       obtain ⟨V,hV⟩:∃V,fH B=V:=⟨_,rfl⟩
       have hby:=fun wx=>ue V wx
       have hjl:=aJ V 16;rw [hV] at hl2 hL HB
       obtain ⟨Z,hZ⟩:∃Z,joinK V 16=Z:=⟨_,rfl⟩
       rw [hZ] at hby hjl HB
       clear hV hZ HW
       go_wp2_with (first
        |(refine am rfl 186 _ rfl _ rfl hL Tryz.underlying186 dL hl2 ?_)
        |(go_at_call 152;refine (hby _ hl2).mono ?_;rintro e w6 ⟨rfl,hb6⟩;have hR6:=hR.below hb6 hR.lt)
        |(refine aj rfl 157 _ _ rfl _ rfl rfl hR6 (by rw [hjl];exact dS) (by simp [hjl]) ?_))
       refine bodyPost_ret (ak (Tryz.results120) _ rfl (hR6.setRow _) Tryz.underlying157 dS hjl) rfl ⟨by rw [HB.out],?_⟩;exact below_setRow (hB.trans (hb6.mono hB.size)) (by omega) _
def strm (k n:List Int) (c:Int) (i:Nat):Int:=(cu k n ((c+(i / 64:Nat)) % 4294967296))[i % 64]?.getD 0
def fN (k n:List Int) (c:Int) (z:List Int) (i:Nat):List Int:=(List.range z.length).map fun p=>if p<i then bits .xor .u8 (z[p]?.getD 0) (strm k n c p) else 0
def dk (k n:List Int) (c:Int) (z:List Int):List Int:=fN k n c z z.length
theorem kB (k n:List Int) (c:Int) (z:List Int) (i:Nat):(fN k n c z i).length=z.length:=by simp [fN]
theorem aZ (k n:List Int) (c:Int) (z:List Int):(dk k n c z).length=z.length:=kB _ _ _ _ _
theorem ts (k n:List Int) (c:Int) (z:List Int):fN k n c z 0=List.replicate z.length 0:=by
 apply List.ext_getElem (by simp [fN]);intro i h1 h2;simp [fN]
theorem lQ (k n:List Int) (c:Int) (z:List Int) (i:Nat) (h:z.length≤i):fN k n c z i=dk k n c z:=by
 unfold dk fN;apply List.map_congr_left;intro p hp;have:=List.mem_range.1 hp;rw [if_pos (by omega),if_pos (by omega)]
theorem vH (k n:List Int) (c:Int) (z:List Int) (i:Nat):(fN k n c z i).set i (bits .xor .u8 (z[i]?.getD 0) (strm k n c i))=fN k n c z (i+1):=by
 apply List.ext_getElem (by simp [fN]);intro p h1 h2
 by_cases hip:i=p
 · subst hip
   simp [fN]
 · rw [List.getElem_set_ne hip]
   simp only [fN,List.getElem_map,List.getElem_range]
   by_cases hlt:p<i
   · rw [if_pos hlt,if_pos (by omega)]
   · rw [if_neg hlt,if_neg (by omega)]
theorem nQ (k n:List Int) (c:Int) (x:Option Addr) (len cap:Nat) (z:List Int) (w:World) (hk:k.length=32) (hn:n.length=12) (hc:U32 c) (hz:Bytes w x len cap z) (hln:len≤1000000):
    Calls Tryz.prog 75 #[.agg (row .u8 k),.agg (row .u8 n),.int .u32 c,.slice x len cap] w fun e w'=>∃g,e=.returned (.slice (some ⟨g,0,none⟩) len len)∧w.heap.size≤g∧aa w' g .u8 5 (dk k n c z)∧Below w.heap.size w w':=by
 have hmk:∀wx:World,(Instr.makeSlice 41 (.int .i64 (len:Int)) (.int .i64 (len:Int))).run Tryz.prog wx=.ok (.slice (some ⟨wx.heap.size,0,none⟩) len len) (wx.alloc (.cells (row .u8 (List.replicate len 0)) 5)):=fun wx=>by
  have:=run_make_row' (P:=Tryz.prog) 41 5 (.int .u8 0) 1 Tryz.underlying41 dH rfl .i64 .i64 len (by omega) (by omega) wx;rw [ir] at this
  exact this
 have hzl:=hz.len_eq;have hle:=hz.le;have htop:=hz.top;have HZ:ac (len=z.length):=⟨hzl⟩
 clear hzl;go_enter Tryz.func75,Tryz.ntmps75;go_upto_region 2 with fail
 refine ae (p:=fun y=>Code.wp _ _ _ _ y) (fun W0=>Below w.heap.size w W0∧W0.heap.size=w.heap.size+1+1+1∧aa W0 w.heap.size .u8 23 k∧aa W0 (w.heap.size+1) .u8 79 n∧aa W0 (w.heap.size+1+1) .u8 5 (fN k n c z 0)) ⟨?_,by simp,?_,?_,?_⟩ ?_
 · exact (((Below.refl _ _).alloc (Nat.le_refl _) _).alloc (by simp) _).alloc (by simp;omega) _
 · exact ((aa.new w .u8 23 k).alloc _).alloc _
 · have:=(aa.new (w.alloc (.cells (row .u8 k) 23)) .u8 79 n)
   rw [World.size_alloc] at this
   exact this.alloc _
 · have:=(aa.new ((w.alloc (.cells (row .u8 k) 23)).alloc (.cells (row .u8 n) 79)) .u8 5 (List.replicate len 0))
   rw [World.size_alloc,World.size_alloc] at this
   rw [ts,←HZ.out];exact this
 rintro W0 ⟨hB0,hs0,hK0,hN0,hO0⟩;clear hmk
 go_wp2_with fail
 go_loopw [2,10] (fun cv p wr=>∃j:Nat,64*j<len+64∧cv=.int .u32 ((c+(j:Int)) % 4294967296)∧p=.int .i64 ((64*j:Nat):Int)∧Below w.heap.size w wr∧w.heap.size+1+1+1≤wr.heap.size∧aa wr w.heap.size .u8 23 k∧aa wr (w.heap.size+1) .u8 79 n∧aa wr (w.heap.size+1+1) .u8 5 (fN k n c z (64*j)))
  (fun _ p _=>len+64 - (intOf p).toNat)
 case atStart=>exact ⟨0,by omega,by congr 1;have:=hc.1;have:=hc.2;omega,rfl,hB0,by omega,hK0,hN0,hO0⟩
 case round=>
  clear hB0 hs0 hK0 hN0 hO0;obtain ⟨j,hj,rfl,rfl,hB,hsz,hK,hN,hO⟩:=hrel
  by_cases hlt:64*j<len
  · obtain ⟨b,off,hx,hcell⟩:∃b off,x=some ⟨b,off,none⟩∧∀j,j<len→w.cell? ⟨b,off+j,none⟩=some (.int .u8 (z[j]?.getD 0)):=by
     rcases hz.at_ with h0|h
     · omega
     · exact h
    subst hx;have hbl:=fun wx=>mX k n ((c+(j:Int)) % 4294967296) wx hk hn
    have hbll:=dC k n ((c+(j:Int)) % 4294967296);obtain ⟨BL,hBL⟩:∃BL,cu k n ((c+(j:Int)) % 4294967296)=BL:=⟨_,rfl⟩
    have HBL:ac (cu k n ((c+(j:Int)) % 4294967296)=BL):=⟨hBL⟩
    rw [hBL] at hbl hbll
    clear hBL;obtain ⟨A,hA⟩:∃A:Nat,64*j=A:=⟨_,rfl⟩
    have HA:ac (64*j=A):=⟨hA⟩
    obtain ⟨CC,hCC⟩:∃CC,(c+(j:Int)) % 4294967296=CC:=⟨_,rfl⟩
    have HC:ac ((c+(j:Int)) % 4294967296=CC):=⟨hCC⟩
    rw [hCC] at hbl ⊢
    rw [hA] at hlt hO ⊢
    clear hA hCC;have hai:(A:Int)<(len:Int):=by omega
    have hs1:IntKind.i64.wrap ((len:Int) - (A:Int))=(len:Int) - (A:Int):=by rw [IntKind.wrap_i64];omega
    go_upto_region 6 with (first
     |(refine am rfl 23 _ rfl _ rfl hK Tryz.underlying23 aK hk ?_)
     |(refine am rfl 79 _ rfl _ rfl hN Tryz.underlying79 jX hn ?_)
     |(go_at_call 120;refine (hbl _).mono ?_;rintro e w1 ⟨rfl,hb1⟩;have hF0:=aa.new w1 .u8 157 (List.replicate 64 0))
     |(refine aj rfl 157 _ _ rfl _ rfl rfl hF0 (by rw [hbll];exact dS) (by simp [hbll]) ?_))
    have hsz1:=hb1.size;have hlb:b<w.heap.size:=block_lt_of_cell (hcell 0 (by omega));refine ae (p:=fun y=>Code.wp _ _ _ _ y) (fun W2=>Below w.heap.size w W2∧w1.heap.size+1≤W2.heap.size∧aa W2 w.heap.size .u8 23 k∧aa W2 (w.heap.size+1) .u8 79 n∧aa W2 (w.heap.size+1+1) .u8 5 (fN k n c z A)∧aa W2 w1.heap.size .u8 157 BL) ⟨?_,by simp,?_,?_,?_,hF0.setRow _⟩ ?_
    · exact below_setRow ((hB.trans (hb1.mono hB.size)).alloc (by have:=hB.size;omega) _) (by have:=hB.size;omega) _
    · exact ((hK.below hb1 (by omega)).alloc _).setRowOther _ (by omega)
    · exact ((hN.below hb1 (by omega)).alloc _).setRowOther _ (by omega)
    · exact ((hO.below hb1 (by omega)).alloc _).setRowOther _ (by omega)
    clear hF0 hB hK hN hO hbl;rintro W2 ⟨hB2,hs2,hK2,hN2,hO2,hF2⟩;simp only [Act.put]
    go_cut [30,31] (fun v u wx=>∃M:Nat,v=.int .i64 M∧u=.int .i64 0∧wx=W2∧M≤64∧A+M≤len∧(M=64∨A+M=len))
    case first=>
     go_wp2_with fail
     all_goals go_meet
     · exact ⟨len - A,by congr 1;omega,rfl,rfl,by omega,by omega,by omega⟩
     · exact ⟨64,rfl,rfl,rfl,by omega,by omega,by omega⟩
    case rest=>
     obtain ⟨M,rfl,rfl,rfl,hM1,hM2,hM3⟩:=hcut;have HM3:ac (M=64∨A+M=len):=⟨hM3⟩
     clear hM3
     go_wp2_with fail
     go_loopw [31] (fun i wr=>∃r:Nat,r≤M∧i=.int .i64 r∧Below w.heap.size w wr∧w1.heap.size+1≤wr.heap.size∧aa wr w.heap.size .u8 23 k∧aa wr (w.heap.size+1) .u8 79 n∧aa wr (w.heap.size+1+1) .u8 5 (fN k n c z (A+r))∧aa wr w1.heap.size .u8 157 BL)
      (fun i _=>M - (intOf i).toNat)
     case atStart=>exact ⟨0,by omega,rfl,hB2,hs2,hK2,hN2,hO2,hF2⟩
     case round=>
      clear hB2 hs2 hK2 hN2 hO2 hF2;obtain ⟨r,hr,rfl,hB,hs,hK,hN,hO,hF⟩:=hrel
      by_cases hlt3:r<M
      · have cb:wr.cell? ⟨b,off+(A+r),none⟩=some (.int .u8 (z[A+r]?.getD 0)):=(hB.cell (p:=⟨b,off+(A+r),none⟩) hlb).trans (hcell (A+r) (by omega))
        have cF:=hF.cell r (by omega);have cO:=hO.cell (A+r) (by rw [kB,←HZ.out];omega);have fO:=hO.frozen (A+r);have HX:ac ((fN k n c z (A+r)).set (A+r) (bits .xor .u8 (z[A+r]?.getD 0) (BL[r]?.getD 0))=fN k n c z (A+r+1)):=⟨by
         have:=vH k n c z (A+r);have e:strm k n c (A+r)=BL[r]?.getD 0:=by
          have hA:=HA.out;unfold strm;rw [show (A+r) / 64=j by omega,show (A+r) % 64=r by omega,HBL.out]
         rw [e] at this
         exact this⟩
        obtain ⟨ZV,hZV⟩:∃v,z[A+r]?.getD 0=v:=⟨_,rfl⟩
        obtain ⟨BV,hBV⟩:∃v,BL[r]?.getD 0=v:=⟨_,rfl⟩
        obtain ⟨P,hP⟩:∃P,A+r=P:=⟨_,rfl⟩
        rw [hZV,hBV] at HX
        rw [hZV] at cb
        rw [hBV] at cF
        rw [hP] at HX cb cO fO hO
        have HP:ac (A+r=P):=⟨hP⟩
        have p1:IntKind.i64.wrap ((A:Int)+(r:Int))=(P:Int):=by rw [IntKind.wrap_i64];omega
        have p2:(P:Int)<(len:Int):=by omega
        have p6:IntKind.i64.wrap (P:Int)=(P:Int):=by rw [IntKind.wrap_i64];omega
        have p3:(r:Int)<64:=by omega
        have p4:(r:Int)<(M:Int):=by omega
        have nb1:¬(w.heap.size+1+1=b):=by omega
        have nb2:¬(w.heap.size+1+1=w1.heap.size):=by omega
        have p5:(A:Int)+(r:Int)=(P:Int):=by omega
        clear hZV hBV hP;go_upto_region 9 with fail
        go_region_held3 (fun w'=>w'.cell? ⟨b,off+P,none⟩=some (.int .u8 ZV)∧w'.cell? ⟨w1.heap.size,r,none⟩=some (.int .u8 BV)) (go_keep) (fail)
        go_wp2;go_roundw
        case rel=>
         have hP:=HP.out;refine ⟨r+1,by omega,by go_num,(hB.setCell (by simp;omega) _).drew,by simpa using hs,(hK.setOther _ _ (by simp;omega)).drew,(hN.setOther _ _ (by simp)).drew,?_,(hF.setOther _ _ (by simp;omega)).drew⟩;rw [←Nat.add_assoc,hP,←HX.out];exact (hO.set P _).drew
        case measure=>simp [intOf];omega
      · obtain rfl:r=M:=by omega
        have hM3:=HM3.out;have hnext:aa wr (w.heap.size+1+1) .u8 5 (fN k n c z (64*(j+1))):=by
         have hA:=HA.out;have hZ:=HZ.out
         rcases hM3 with h|h
         · subst h
           rw [show 64*(j+1)=A+64 by omega];exact hO
         · rw [lQ k n c z (64*(j+1)) (by omega),←lQ k n c z (A+r) (by omega)];exact hO
        clear hM3 hO;have hj64:IntKind.i64.wrap ((A:Int)+64)=(A:Int)+64:=by rw [IntKind.wrap_i64];omega
        go_wp2;go_roundw
        case rel=>
         have hA:=HA.out;have hC:=HC.out;exact ⟨j+1,by omega,by congr 1;omega,by congr 1;omega,hB,by omega,hK,hN,hnext⟩
        case measure=>simp [intOf];omega
  · rw [lQ k n c z (64*j) (by rw [←HZ.out];omega)] at hO
    have nle:¬(((64*j:Nat):Int)<(len:Int)):=by omega
    go_wp2;go_ret;exact ⟨_,rfl,by omega,hO,hB⟩
theorem fM (a b:Nat) (ha:a<256) (hb:b<256):bits .xor .u8 (a:Int) (b:Int)=((a ^^^ b:Nat):Int):=by
 show IntKind.u8.wrap ((BitVec.ofInt 8 (a:Int) ^^^ BitVec.ofInt 8 (b:Int)).toNat:Int)=_;rw [BitVec.toNat_xor,BitVec.toNat_ofInt,BitVec.toNat_ofInt];have e1:((a:Int) % (2 ^ 8:Nat)).toNat=a:=by simp;omega
 have e2:((b:Int) % (2 ^ 8:Nat)).toNat=b:=by simp;omega
 have hx:a ^^^ b<2 ^ 8:=Nat.xor_lt_two_pow ha hb;rw [e1,e2];simp [IntKind.wrap,IntKind.bits,IntKind.signed];omega
def U8 (x:Int):Prop:=0≤x∧x≤255
theorem U8.nat {x:Int} (h:U8 x):∃n:Nat,n<256∧x=n:=⟨x.toNat,by have:=h.1;have:=h.2;omega,by have:=h.1;omega⟩
theorem xL {x y:Int} (hx:U8 x) (hy:U8 y):U8 (bits .xor .u8 x y):=by
 obtain ⟨a,ha,rfl⟩:=hx.nat;obtain ⟨b,hb,rfl⟩:=hy.nat;rw [fM a b ha hb];have hx:a ^^^ b<2 ^ 8:=Nat.xor_lt_two_pow ha hb;exact ⟨by omega,by omega⟩
theorem tl {x y:Int} (hx:U8 x) (hy:U8 y):bits .xor .u8 (bits .xor .u8 x y) y=x:=by
 obtain ⟨a,ha,rfl⟩:=hx.nat;obtain ⟨b,hb,rfl⟩:=hy.nat;have hlt:a ^^^ b<2 ^ 8:=Nat.xor_lt_two_pow ha hb;rw [fM a b ha hb,fM _ b hlt hb,Nat.xor_assoc,Nat.xor_self,Nat.xor_zero]
theorem lA (s:List Int) (k:Nat):∀v∈joinK s k,U8 v:=by
 induction k with
 |zero=>intro v hv;cases hv
 |succ k ih=>
  intro v hv;simp only [joinK,List.mem_append] at hv
  rcases hv with hv|hv
  · exact ih v hv
  · simp only [lO,List.mem_cons,List.not_mem_nil,or_false] at hv
    rcases hv with rfl|rfl|rfl|rfl<;>exact ⟨by omega,by omega⟩
theorem ol {l:List Int} (h:∀v∈l,U8 v) (i:Nat):U8 (l[i]?.getD 0):=by
 by_cases hi:i<l.length
 · rw [List.getElem?_eq_getElem hi];exact h _ (List.getElem_mem hi)
 · rw [List.getElem?_eq_none (by omega)];exact ⟨by decide,by decide⟩
theorem sG (k n:List Int) (c:Int) (i:Nat):U8 (strm k n c i):=ol (lA _ 16) _
theorem jQ (k n:List Int) (c:Int) (z:List Int) (i:Nat) (h:i<z.length):(dk k n c z)[i]?.getD 0=bits .xor .u8 (z[i]?.getD 0) (strm k n c i):=by
 simp [dk,fN,h]
theorem vi {l m:List Int} (h:l.length=m.length) (hg:∀i,i<l.length→l[i]?.getD 0=m[i]?.getD 0):l=m:=by
 apply List.ext_getElem h;intro i h1 h2;have:=hg i h1
 simpa [h1,h2] using this
theorem uj (k n:List Int) (c:Int) (z:List Int) (hz:∀v∈z,U8 v):dk k n c (dk k n c z)=z:=by
 refine vi (by rw [aZ,aZ]) fun i hi=>?_
 rw [aZ,aZ] at hi
 rw [jQ _ _ _ _ _ (by rw [aZ];exact hi),jQ _ _ _ _ _ hi,tl (ol hz i) (sG _ _ _ _)]
def bM (n:Nat):Nat:=(16 - n % 16) % 16
def aP (n:Nat):List Int:=List.replicate n 0
def le8 (n:Nat):List Int:=leB 8 (n:Int)
theorem ml:∀(j:Nat) (n:Int),(leB j n).length=j
 |0,_=>rfl
 |j+1,n=>by rw [leB,List.length_cons,ml j]
theorem rO:∀(j:Nat) (n:Int),∀v∈leB j n,isB v
 |0,_,v,h=>by simp [leB] at h
 |j+1,n,v,h=>by
  rcases List.mem_cons.1 h with rfl|h
  · unfold isB;omega
  · exact rO j _ v h
theorem le8_length (n:Nat):(le8 n).length=8:=ml 8 _
def aR (o s:List Int):List Int:=o++aP (bM o.length)++s++aP (bM s.length)++le8 o.length++le8 s.length
theorem cm (n:Nat):(aP n).length=n:=by simp [aP]
theorem nf (n:Nat):∀v∈aP n,isB v:=fun v hv=>by
 rw [(List.mem_replicate.1 hv).2];unfold isB;omega
theorem dW (o s:List Int):(aR o s).length=o.length+bM o.length+s.length+bM s.length+16:=by
 unfold aR;simp only [List.length_append,cm,le8_length]
theorem mf (o s:List Int) (ho:∀v∈o,isB v) (hs:∀v∈s,isB v):∀v∈aR o s,isB v:=by
 intro v hv;unfold aR at hv
 simp only [List.mem_append] at hv
 rcases hv with ((((h|h)|h)|h)|h)|h
 · exact ho v h
 · exact nf _ v h
 · exact hs v h
 · exact nf _ v h
 · exact rO _ _ v h
 · exact rO _ _ v h
def ej (k n:List Int):List Int:=(cu k n 0).take 32
def tagL (k n o h:List Int):List Int:=fw (ej k n) (aR o h)
def eS (k n o b:List Int):List Int:=dk k n 1 b++tagL k n o (dk k n 1 b)
theorem dR (k n:List Int):(ej k n).length=32:=by
 unfold ej;rw [List.length_take,dC];rfl
end Go.Proofs.YtbdhfbglagdiaaaGreatDoor
