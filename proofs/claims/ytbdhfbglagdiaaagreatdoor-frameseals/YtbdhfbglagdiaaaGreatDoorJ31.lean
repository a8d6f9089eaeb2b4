/- RefMac RefExp Kr2 -/
import Derived.Test.YtbdhfbglagdiaaaGreatDoorJ29
import Derived.Test.YtbdhfbglagdiaaaGreatDoorJ30
import Derived.Test.YtbdhfbglagdiaaaGreatDoorJ21
namespace Go.Proofs.YtbdhfbglagdiaaaGreatDoor.S
open Go.RowKit
set_option maxRecDepth 20000
set_option maxHeartbeats 2000000
set_option linter.unusedSimpArgs false
theorem ql (z:List Int) (h:64<z.length):bt (sumL z)=bt z:=by
 unfold bt;rw [if_pos h,if_neg (by rw [aW];omega)]
theorem vk (z:List Int) (hz:z.length≤64) (i:Nat):(bt z)[i]?.getD 0=if i<z.length then z[i]?.getD 0 else 0:=by
 unfold bt;rw [if_neg (by omega)]
 by_cases h:i<z.length
 · rw [List.getElem?_append_left (by omega),if_pos h]
 · rw [List.getElem?_append_right (by omega),if_neg h,List.getElem?_replicate]
   split<;>rfl
theorem vK (t:Int) (F:List Int) (i:Nat) (h:i<F.length):(aU t F)[i]?.getD 0=bits .xor .u8 (F[i]?.getD 0) t:=by
 unfold aU;rw [List.getElem?_map,List.getElem?_eq_getElem h];rfl
theorem rc (l:List Int) (i:Nat) (h:i<l.length):l.take (i+1)=l.take i++ [l[i]?.getD 0]:=by
 rw [List.take_succ_eq_append_getElem h,List.getElem?_eq_getElem h];rfl
theorem o9 {w w':World} {x:Option Addr} {n c:Nat} {z:List Int} {row:Option Nat} (h:Bytes w x n c z) (hg:w.grownBy w' row) (hne:∀b off,x=some ⟨b,off,none⟩→row≠some b):Bytes w' x n c z:=by
 refine ⟨h.len_eq,h.le,h.top,h.nil,?_⟩
 rcases h.at_ with h0|⟨b,off,hx,hc⟩
 · exact .inl h0
 · by_cases hl:n=0
   · exact .inl hl
   · refine .inr ⟨b,off,hx,fun j hj=>?_⟩
     have hlt:=block_lt_of_cell (hc j hj);have hb:=hg.block b hlt (fun e=>hne b off hx e.symm);rw [←hc j hj];simp only [World.cell?,hb]
theorem xV {w:World} {base:Nat} {v:Value} {z:List Int} (h:aq w base v z) {g:Nat} (hv:v.ownBlock=some g):g<w.heap.size:=by
 rcases h.2 with ⟨rfl,_⟩|⟨g',cap,cur,rfl,_,hg,_⟩
 · cases hv
 · simp [Value.ownBlock] at hv
   subst hv;exact (Array.getElem?_eq_some_iff.1 hg).1
theorem xP {w:World} {base:Nat} {x:Option Addr} {n c:Nat} {z:List Int} (h:aq w base (.slice x n c) z):∀b off,x=some ⟨b,off,none⟩→base≤b:=by
 intro b off hx
 rcases h.2 with ⟨h1,_⟩|⟨g',cap,cur,h1,hb,_⟩
 · cases h1;cases hx
 · cases h1;cases hx;exact hb
theorem qo (x:Option Addr) (len cap:Nat) (z:List Int) (t:Int) (y:Option Addr) (lb cb:Nat) (b:List Int) (w:World) (hx:Bytes w x len cap z) (hl:len≤64) (hy:Bytes w y lb cb b) (hlb:lb≤900000):
    Calls Tryz.prog 130 #[.slice x len cap,.int .u8 t,.slice y lb cb] w fun e w'=>∃x' n' c',e=.returned (.slice x' n' c')∧Bytes w' x' n' c' (aU t (bt z)++b)∧Below w.heap.size w w':=by
 have hzl:=hx.len_eq;have hFl:=eW z;have hFg:=vk z (by omega);rw [←hzl] at hFg
 obtain ⟨F,hF⟩:∃q,bt z=q:=⟨_,rfl⟩
 rw [hF] at hFl hFg ⊢
 have hTl:(aU t F).length=64:=by rw [dQ,hFl]
 have hTg:=vK t F;obtain ⟨T,hT⟩:∃q,aU t F=q:=⟨_,rfl⟩
 rw [hT] at hTl hTg ⊢
 have HG:dl (∀i,i<64→T[i]?.getD 0=bits .xor .u8 (if i<len then z[i]?.getD 0 else 0) t):=⟨fun i hi=>by rw [hTg i (by omega),hFg i]⟩
 clear hF hT hFl hFg hTg hzl;go_enter Tryz.func130,Tryz.ntmps130
 go_wp2_with fail
 go_loopw [7,8] (fun v i wr=>∃j:Nat,j≤64∧i=.int .i64 j∧aq wr w.heap.size v (T.take j)∧Below w.heap.size w wr) (fun _ i _=>64 - (intOf i).toNat)
 case atStart=>exact ⟨0,by omega,rfl,aq.nil _ _,Below.refl _ _⟩
 case round=>
  obtain ⟨j,hj,rfl,ho,hB⟩:=hrel
  by_cases hlt:j<64
  · have hG:=HG.out j hlt
    have hn1:=rc T j (by omega);have hlj:(T.take j).length≤64:=by rw [List.length_take];omega
    have hsz:=hB.size
    by_cases hjl:j<len
    · rw [if_pos hjl] at hG
      obtain ⟨C,hC⟩:∃q,z[j]?.getD 0=q:=⟨_,rfl⟩
      obtain ⟨bb,off,hxx,hcell⟩:∃bb off,x=some ⟨bb,off,none⟩∧∀j,j<len→wr.cell? ⟨bb,off+j,none⟩=some (.int .u8 (z[j]?.getD 0)):=by
       rcases (hx.below hB).at_ with h|h
       · omega
       · exact h
      subst hxx;have cc:=hcell j hjl;rw [hC] at cc hG
      have HN:dl (T.take (j+1)=T.take j++ [bits .xor .u8 C t]):=⟨by rw [hn1,hG]⟩
      have hji:(j:Int)<(len:Int):=by omega
      clear hcell hG hn1 hC;obtain ⟨Z,hZ⟩:∃q,T.take j=q:=⟨_,rfl⟩
      rw [hZ] at ho HN hlj
      clear hZ;obtain ⟨V,hV⟩:∃q,bits .xor .u8 C t=q:=⟨_,rfl⟩
      rw [hV] at HN
      go_wp2_with (at_builtin;refine bG rfl _ _ rfl w.heap.size _ Z rfl V (ho.alloc _) rfl (by omega) hB.size ?_;intro v3 w3 ho3 hg3;have hB3:Below w.heap.size w w3:=below_grown (hB.alloc hB.size _) (ho.alloc _) hg3 (by simp;omega))
      go_roundw
      case rel=>exact ⟨j+1,by omega,by go_num,by rw [HN.out];exact ho3,hB3⟩
      case measure=>simp [intOf];omega
    · rw [if_neg hjl] at hG
      have HN:dl (T.take (j+1)=T.take j++ [bits .xor .u8 0 t]):=⟨by rw [hn1,hG]⟩
      have hji:¬((j:Int)<(len:Int)):=by omega
      clear hG hn1;obtain ⟨Z,hZ⟩:∃q,T.take j=q:=⟨_,rfl⟩
      rw [hZ] at ho HN hlj
      clear hZ;obtain ⟨V,hV⟩:∃q,bits .xor .u8 0 t=q:=⟨_,rfl⟩
      rw [hV] at HN
      go_wp2_with (at_builtin;refine bG rfl _ _ rfl w.heap.size _ Z rfl V (ho.alloc _) rfl (by omega) hB.size ?_;intro v3 w3 ho3 hg3;have hB3:Below w.heap.size w w3:=below_grown (hB.alloc hB.size _) (ho.alloc _) hg3 (by simp;omega))
      go_roundw
      case rel=>exact ⟨j+1,by omega,by go_num,by rw [HN.out];exact ho3,hB3⟩
      case measure=>simp [intOf];omega
  · obtain rfl:j=64:=by omega
    rw [show ((64:Nat):Int)=64 from rfl];rw [List.take_of_length_le (by omega)] at ho
    have hyB:=hy.below hB
    go_wp2_with (at_builtin;refine aF rfl _ _ rfl w.heap.size _ T rfl ho y lb cb b rfl hyB (by omega) hB.size ?_;intro v5 w5 ho5 hg5;have hB5:Below w.heap.size w w5:=below_grown hB ho hg5 hB.size;obtain ⟨x5,n5,c5,rfl,hn5⟩:=ho5.isSlice;have hY5:=ho5.bytes.2;clear hn5)
    go_ret;exact ⟨x5,n5,c5,rfl,hY5,hB5⟩
theorem refHmac_any (x:Option Addr) (len cap:Nat) (z:List Int) (y:Option Addr) (lb cb:Nat) (b:List Int) (w:World) (hx:Bytes w x len cap z) (hln:len≤1000000) (hy:Bytes w y lb cb b) (hlb:lb≤900000):
    Calls Tryz.prog 94 #[.slice x len cap,.slice y lb cb] w fun e w'=>e=.returned (.agg (row .u8 (tagL z b)))∧Below w.heap.size w w':=by
 have hzl:=hx.len_eq;have hyl:=hy.len_eq;have hTl:=tagL_length z b;have HT:dl (tagL z b=sumL (aU 92 (bt z)++sumL (aU 54 (bt z)++b))):=⟨rfl⟩
 have hFl:=eW z;have hal:∀t a,a.length≤900000→(aU t (bt z)++a).length≤1000000:=fun t a h=>by rw [List.length_append,dQ,hFl];omega
 have hDl:=aW (aU 54 (bt z)++b);have hrest:∀(x':Option Addr) (len' cap':Nat) (z':List Int),len'≤64→bt z'=bt z→
     (∀t (yy:Option Addr) (l c:Nat) (a:List Int) (wx:World),Bytes wx x' len' cap' z'→Bytes wx yy l c a→l≤900000→Calls Tryz.prog 130 #[.slice x' len' cap',.int .u8 t,.slice yy l c] wx fun e w'=>∃x' n' c',e=.returned (.slice x' n' c')∧Bytes w' x' n' c' (aU t (bt z)++a)∧Below wx.heap.size wx w'):=fun x' len' cap' z' h1 h2 t yy l c a wx h3 h4 h5=>by
  rw [←h2];exact qo x' len' cap' z' t yy l c a wx h3 h1 h4 h5
 have hS:∀(x':Option Addr) (n' c':Nat) (a:List Int) (wx:World),Bytes wx x' n' c' a→a.length≤1000000→Calls Tryz.prog 61 #[.slice x' n' c'] wx fun e w'=>e=.returned (.agg (row .u8 (sumL a)))∧Below wx.heap.size wx w':=fun x' n' c' a wx h1 h2=>js x' n' c' a wx h1 (by rw [h1.len_eq];exact h2)
 have hs1:∀(x':Option Addr) (n' c':Nat) (wx:World),Bytes wx x' n' c' (aU 54 (bt z)++b)→Calls Tryz.prog 61 #[.slice x' n' c'] wx fun e w'=>e=.returned (.agg (row .u8 (sumL (aU 54 (bt z)++b))))∧Below wx.heap.size wx w':=fun x' n' c' wx h=>hS x' n' c' _ wx h (hal 54 b (by omega))
 have hs2:∀(x':Option Addr) (n' c':Nat) (wx:World),Bytes wx x' n' c' (aU 92 (bt z)++sumL (aU 54 (bt z)++b))→Calls Tryz.prog 61 #[.slice x' n' c'] wx fun e w'=>e=.returned (.agg (row .u8 (tagL z b)))∧Below wx.heap.size wx w':=fun x' n' c' wx h=>by
  rw [HT.out];exact hS x' n' c' _ wx h (hal 92 _ (by rw [hDl];omega))
 by_cases h64:64<len
 · have hs0:=hS x len cap z
   have hlong:=ql z (by omega);have hd0:=aW z;have htn:=fun (g:Nat)=>hrest (some ⟨g,0,none⟩) 32 32 (sumL z) (by omega) hlong
   obtain ⟨D0,hD0⟩:∃q,sumL z=q:=⟨_,rfl⟩
   rw [hD0] at hs0 hd0 htn
   obtain ⟨I1,hI1⟩:∃q,aU 54 (bt z)++b=q:=⟨_,rfl⟩
   have htn1:=fun g wx h1 h2=>htn g 54 y lb cb b wx h1 h2 hlb
   rw [hI1] at hs1 hs2 htn1 hDl
   obtain ⟨D1,hD1⟩:∃q,sumL I1=q:=⟨_,rfl⟩
   rw [hD1] at hs1 hs2 hDl
   have htn2:=fun g g' wx h1 h2=>htn g 92 (some ⟨g',0,none⟩) 32 32 D1 wx h1 h2 (by omega)
   obtain ⟨O1,hO1⟩:∃q,aU 92 (bt z)++D1=q:=⟨_,rfl⟩
   rw [hO1] at hs2 htn2
   obtain ⟨TG,hTG⟩:∃q,tagL z b=q:=⟨_,rfl⟩
   rw [hTG] at hs2 hTl ⊢
   have h64i:(64:Int)<(len:Int):=by omega
   have hz1:z.length≤1000000:=by omega
   clear hD0 hI1 hD1 hO1 hTG HT hFl hal hrest hS htn hlong hzl hyl;go_enter Tryz.func94,Tryz.ntmps94;go_upto_region 1 with fail
   refine af (p:=fun y=>Code.wp _ _ _ _ y) (fun W0=>Below w.heap.size w W0∧W0.heap.size=w.heap.size+1∧aa W0 w.heap.size .u8 23 (List.replicate 32 0)) ⟨(Below.refl _ _).alloc (Nat.le_refl _) _,by simp,aa.new w .u8 23 (List.replicate 32 0)⟩ ?_;rintro W0 ⟨hB0,hsz0,hR0⟩;have hs0':=hs0 W0 (hx.below hB0) hz1;clear hs0;go_upto_region 4 with (first
    |(go_at_call 61;refine hs0'.mono ?_;rintro e w1 ⟨rfl,hb1⟩;have hN1:=aa.new w1 .u8 23 (List.replicate 32 0))
    |(refine ah rfl 23 _ _ rfl _ rfl rfl hN1 (by rw [hd0];exact aI) (by simp [hd0]) ?_))
   have hl1:=hb1.size;refine af (p:=fun y=>Code.wp _ _ _ _ y) (fun W2=>Below w.heap.size w W2∧aa W2 w.heap.size .u8 23 (List.replicate 32 0)∧aa W2 w1.heap.size .u8 23 D0) ⟨below_setRow ((hB0.trans (hb1.mono hB0.size)).alloc (by omega) _) (by omega) _,((hR0.below hb1 (by omega)).alloc _).setRowOther _ (by omega),hN1.setRow _⟩ ?_;clear hN1 hB0 hR0 hb1 hs0';rintro W2 ⟨hB2,hR2,hD2⟩;obtain ⟨Db,hDb⟩:∃q,w1.heap.size=q:=⟨_,rfl⟩
   rw [hDb] at hl1 hD2 ⊢
   have hDw:w.heap.size<Db:=by omega
   clear hDb hl1 hsz0;simp only [Act.put];have ht1:=htn1 Db W2 (hD2.bytes hd0.symm (by omega)) (hy.below hB2);clear htn1;go_upto_region 6 with (first
    |(go_at_call 130;refine ht1.mono ?_;rintro e w3 ⟨x3,n3,c3,rfl,hy3,hb3⟩)
    |(go_at_call 61;refine (hs1 _ _ _ _ hy3).mono ?_;rintro e w4 ⟨rfl,hb4⟩;have hN4:=aa.new w4 .u8 23 (List.replicate 32 0))
    |(refine ah rfl 23 _ _ rfl _ rfl rfl hN4 (by rw [hDl];exact aI) (by simp [hDl]) ?_))
   have hb24:Below W2.heap.size W2 w4:=hb3.trans (hb4.mono hb3.size);have hl4:=hb24.size;have hlD:=hD2.lt;refine af (p:=fun y=>Code.wp _ _ _ _ y) (fun W5=>Below w.heap.size w W5∧aa W5 w.heap.size .u8 23 (List.replicate 32 0)∧aa W5 Db .u8 23 D0∧aa W5 w4.heap.size .u8 23 D1) ⟨below_setRow ((hB2.trans (hb24.mono hB2.size)).alloc (by have:=hB2.size;omega) _) (by have:=hB2.size;omega) _,((hR2.below hb24 hR2.lt).alloc _).setRowOther _ (by omega),((hD2.below hb24 hD2.lt).alloc _).setRowOther _ (by omega),hN4.setRow _⟩ ?_;clear hN4 hB2 hR2 hD2 hb3 hb4 hb24 hs1 ht1 hy3;rintro W5 ⟨hB5,hR5,hD5,hI5⟩;obtain ⟨Ib,hIb⟩:∃q,w4.heap.size=q:=⟨_,rfl⟩
   rw [hIb] at hI5 ⊢
   clear hIb hl4 hlD;simp only [Act.put];have ht2:=htn2 Db Ib W5 (hD5.bytes hd0.symm (by omega)) (hI5.bytes hDl.symm (by omega));clear htn2
   go_wp2_with (first
    |(go_at_call 130;refine ht2.mono ?_;rintro e w6 ⟨x6,n6,c6,rfl,hy6,hb6⟩)
    |(go_at_call 61;refine (hs2 _ _ _ _ hy6).mono ?_;rintro e w7 ⟨rfl,hb7⟩;have hb57:Below W5.heap.size W5 w7:=hb6.trans (hb7.mono hb6.size);have hR7:=hR5.below hb57 hR5.lt)
    |(refine ah rfl 23 _ _ rfl _ rfl rfl hR7 (by rw [hTl];exact aI) (by simp [hTl]) ?_))
   refine bodyPost_ret (aj (Tryz.results94) _ rfl (hR7.setRow _) Tryz.underlying23 aI hTl) rfl ⟨rfl,?_⟩;exact below_setRow (hB5.trans (hb57.mono hB5.size)) (Nat.le_refl _) _
 · have htn:=hrest x len cap z (by omega) rfl
   obtain ⟨I1,hI1⟩:∃q,aU 54 (bt z)++b=q:=⟨_,rfl⟩
   have htn1:=fun wx h1 h2=>htn 54 y lb cb b wx h1 h2 hlb
   rw [hI1] at hs1 hs2 htn1 hDl
   obtain ⟨D1,hD1⟩:∃q,sumL I1=q:=⟨_,rfl⟩
   rw [hD1] at hs1 hs2 hDl
   have htn2:=fun g' wx h1 h2=>htn 92 (some ⟨g',0,none⟩) 32 32 D1 wx h1 h2 (by omega)
   obtain ⟨O1,hO1⟩:∃q,aU 92 (bt z)++D1=q:=⟨_,rfl⟩
   rw [hO1] at hs2 htn2
   obtain ⟨TG,hTG⟩:∃q,tagL z b=q:=⟨_,rfl⟩
   rw [hTG] at hs2 hTl ⊢
   have h64i:¬((64:Int)<(len:Int)):=by omega
   clear hI1 hD1 hO1 hTG HT hFl hal hrest hS htn hzl hyl;go_enter Tryz.func94,Tryz.ntmps94;go_upto_region 1 with fail
   refine af (p:=fun y=>Code.wp _ _ _ _ y) (fun W0=>Below w.heap.size w W0∧W0.heap.size=w.heap.size+1∧aa W0 w.heap.size .u8 23 (List.replicate 32 0)) ⟨(Below.refl _ _).alloc (Nat.le_refl _) _,by simp,aa.new w .u8 23 (List.replicate 32 0)⟩ ?_;rintro W2 ⟨hB2,hsz0,hR2⟩;have ht1:=htn1 W2 (hx.below hB2) (hy.below hB2);clear htn1;go_upto_region 6 with (first
    |(go_at_call 130;refine ht1.mono ?_;rintro e w3 ⟨x3,n3,c3,rfl,hy3,hb3⟩)
    |(go_at_call 61;refine (hs1 _ _ _ _ hy3).mono ?_;rintro e w4 ⟨rfl,hb4⟩;have hN4:=aa.new w4 .u8 23 (List.replicate 32 0))
    |(refine ah rfl 23 _ _ rfl _ rfl rfl hN4 (by rw [hDl];exact aI) (by simp [hDl]) ?_))
   have hb24:Below W2.heap.size W2 w4:=hb3.trans (hb4.mono hb3.size);have hl4:=hb24.size;refine af (p:=fun y=>Code.wp _ _ _ _ y) (fun W5=>Below w.heap.size w W5∧aa W5 w.heap.size .u8 23 (List.replicate 32 0)∧aa W5 w4.heap.size .u8 23 D1) ⟨below_setRow ((hB2.trans (hb24.mono hB2.size)).alloc (by have:=hB2.size;omega) _) (by have:=hB2.size;omega) _,((hR2.below hb24 hR2.lt).alloc _).setRowOther _ (by omega),hN4.setRow _⟩ ?_;clear hN4 hB2 hR2 hb3 hb4 hb24 hs1 ht1 hy3 hsz0;rintro W5 ⟨hB5,hR5,hI5⟩;obtain ⟨Ib,hIb⟩:∃q,w4.heap.size=q:=⟨_,rfl⟩
   rw [hIb] at hI5 ⊢
   clear hIb hl4;simp only [Act.put];have ht2:=htn2 Ib W5 (hx.below hB5) (hI5.bytes hDl.symm (by omega));clear htn2
   go_wp2_with (first
    |(go_at_call 130;refine ht2.mono ?_;rintro e w6 ⟨x6,n6,c6,rfl,hy6,hb6⟩)
    |(go_at_call 61;refine (hs2 _ _ _ _ hy6).mono ?_;rintro e w7 ⟨rfl,hb7⟩;have hb57:Below W5.heap.size W5 w7:=hb6.trans (hb7.mono hb6.size);have hR7:=hR5.below hb57 hR5.lt)
    |(refine ah rfl 23 _ _ rfl _ rfl rfl hR7 (by rw [hTl];exact aI) (by simp [hTl]) ?_))
   refine bodyPost_ret (aj (Tryz.results94) _ rfl (hR7.setRow _) Tryz.underlying23 aI hTl) rfl ⟨rfl,?_⟩;exact below_setRow (hB5.trans (hb57.mono hB5.size)) (Nat.le_refl _) _
theorem refExpand_any (k:List Int) (y:Option Addr) (lb cb:Nat) (b:List Int) (n:Nat) (w:World) (hk:k.length=32) (hy:Bytes w y lb cb b) (hlb:lb≤100000) (hn:n≤8160):
    Calls Tryz.prog 111 #[.agg (row .u8 k),.slice y lb cb,.int .i64 n] w fun e w'=>∃x c,e=.returned (.tuple #[.slice x n c,.int .i64 0])∧Bytes w' x n c (expL k b n)∧Below w.heap.size w w':=by
 have hni:¬((n:Int)<0):=by omega
 have hnj:¬((8160:Int)<(n:Int)):=by omega
 have hbl:b.length≤100000:=by rw [←hy.len_eq];exact hlb
 go_enter Tryz.func111,Tryz.ntmps111;go_upto_region 1 with fail
 refine af (p:=fun y=>Code.wp _ _ _ _ y) (fun W0=>Below w.heap.size w W0∧W0.heap.size=w.heap.size+1∧aa W0 w.heap.size .u8 23 k) ⟨(Below.refl _ _).alloc (Nat.le_refl _) _,by simp,aa.new w .u8 23 k⟩ ?_;rintro W0 ⟨hB0,hs0,hk0⟩;have hB0':=hB0.size
 go_wp2_with fail
 go_loopw [8,9,10] (fun v l i wr=>∃j:Nat,32*j<n+32∧i=.int .i64 ((j+1:Nat):Int)∧aq wr (w.heap.size+1) v (outK k b j)∧(∃lx ll lc,l=.slice lx ll lc∧Bytes wr lx ll lc (tK k b j))∧Below (w.heap.size+1) W0 wr) (fun v _ _ _=>n - lenOf v)
 case atStart=>exact ⟨0,by omega,rfl,aq.nil _ _,⟨none,0,0,rfl,cY _⟩,by rw [←hs0];exact Below.refl _ _⟩
 case round=>
  obtain ⟨j,hj,rfl,ho,⟨lx,ll,lc,rfl,hl⟩,hB⟩:=hrel;obtain ⟨xv,nv,cv,hv,hnv⟩:=ho.isSlice;rw [dI] at hnv
  have hBw:Below w.heap.size w wr:=hB0.trans (hB.mono (by omega));have hll:=hl.len_eq;have htk:=vr k b j;have hsr:=hB.size;have hsw:w.heap.size+1≤wr.heap.size:=by omega
  by_cases hlt:32*j<n
  · subst hv
    have HNV:dl (nv=32*j):=⟨hnv⟩
    have hnvi:(nv:Int)<(n:Int):=by omega
    have hn4:nv≤8160:=by omega
    have hk1:=hk0.below hB (by omega);have hyr:=hy.below hBw;have hcast:(((j+1:Nat):Int))=(j:Int)+1:=by omega
    obtain ⟨C,hC⟩:∃C:Int,(j:Int)+1=C:=⟨_,rfl⟩
    have HC:dl ((j:Int)+1=C):=⟨hC⟩
    have hTl:=iJ k b j;have HTK:dl (tK k b (j+1)=tagL k (tK k b j++(b++ [C]))):=⟨by simp only [tK];rw [hcast,hC]⟩
    have hH:∀(x':Option Addr) (n' c':Nat) (wx:World),Bytes wx x' n' c' (tK k b j++b++ [C])→aa wx w.heap.size .u8 23 k→Calls Tryz.prog 94 #[.slice (some ⟨w.heap.size,0,none⟩) 32 32,.slice x' n' c'] wx fun e w'=>e=.returned (.agg (row .u8 (tK k b (j+1))))∧Below wx.heap.size wx w':=fun x' n' c' wx h1 h2=>by
     have hh:=refHmac_any (some ⟨w.heap.size,0,none⟩) 32 32 k x' n' c' _ wx (h2.bytes hk.symm (by omega)) (by omega) h1 (by rw [h1.len_eq];simp;omega);rw [List.append_assoc,←HTK.out] at hh
     exact hh
    have HO:dl (outK k b (j+1)=outK k b j++tK k b (j+1)):=⟨rfl⟩
    obtain ⟨T,hT⟩:∃T,tK k b (j+1)=T:=⟨_,rfl⟩
    have HT:dl (tK k b (j+1)=T):=⟨hT⟩
    rw [hT] at hH hTl HO
    obtain ⟨T0,hT0⟩:∃T,tK k b j=T:=⟨_,rfl⟩
    rw [hT0] at hH hl hll htk
    obtain ⟨Z,hZ⟩:∃T,outK k b j=T:=⟨_,rfl⟩
    rw [hZ] at ho HO
    have hZl:Z.length=nv:=by rw [←hZ,dI];exact HNV.out.symm
    rw [hcast,hC];have hC0:0≤C:=by omega
    have hC1:C≤255:=by omega
    have hC2:C % 256=C:=by omega
    have hll2:ll≤32:=by omega
    have hT0l:T0.length≤32:=by omega
    clear HTK hT hT0 hZ hcast hC hnv htk hll;go_upto_region 9 with (first
     |(at_builtin;refine aF rfl _ _ rfl wr.heap.size _ [] rfl (aq.nil _ _) lx ll lc T0 rfl hl (by simp;omega) (Nat.le_refl _) ?_;intro v1 w1 ho1 hg1;rw [List.nil_append] at ho1;have hb1:Below wr.heap.size wr w1:=below_grown (Below.refl _ _) (aq.nil _ wr.heap.size) hg1 (Nat.le_refl _);have hy1:=hyr.below hb1)
     |(at_builtin;refine aF rfl _ _ rfl wr.heap.size _ T0 rfl ho1 y lb cb b rfl hy1 (by omega) hb1.size ?_;intro v2 w2 ho2 hg2;have hb2:Below wr.heap.size wr w2:=below_grown hb1 ho1 hg2 hb1.size;have hT0b:(T0++b).length≤200000:=(by rw [List.length_append];omega))
     |(at_builtin;refine bG rfl _ _ rfl wr.heap.size _ (T0++b) rfl C (ho2.alloc _) rfl (by omega) hb2.size ?_;intro v3 w3 ho3 hg3;have hb3:Below wr.heap.size wr w3:=below_grown (hb2.alloc hb2.size _) (ho2.alloc _) hg3 (by have:=hb2.size;simp;omega)))
    have hoA:=ho.belowM hb3;have hkA:=hk1.below hb3 hk1.lt;obtain ⟨x3,n3,c3,hv3,hn3⟩:=ho3.isSlice;subst hv3;have hy3:=ho3.bytes.2;have hH3:=hH _ _ _ _ hy3 hkA;clear hg1 ho1 hy1 hb1 hg2 ho2 hb2 hg3 hn3 hH hl hyr hk1 ho ho3 hy3;go_upto_region 10 with (first
     |(go_at_call 94;refine hH3.mono ?_;rintro e w4 ⟨rfl,hb4⟩;have hN4:=aa.new w4 .u8 23 (List.replicate 32 0))
     |(refine ah rfl 23 _ _ rfl _ rfl rfl hN4 (by rw [hTl];exact aI) (by simp [hTl]) ?_))
    have hb34:Below wr.heap.size wr w4:=hb3.trans (hb4.mono hb3.size);have hl4:=hb34.size;refine af (p:=fun y=>Code.wp _ _ _ _ y) (fun W5=>Below wr.heap.size wr W5∧aq W5 (w.heap.size+1) (.slice xv nv cv) Z∧aa W5 w4.heap.size .u8 23 T) ⟨below_setRow (hb34.alloc hl4 _) hl4 _,?_,hN4.setRow _⟩ ?_
    · refine ((hoA.belowM hb4).alloc (.cells (row .u8 (List.replicate 32 0)) 23)).keepM (fun g h1 h2=>?_)
      by_cases hgg:g=w4.heap.size
      · exact .inr (by rw [hgg];exact ⟨_,_,_,hN4,by decide⟩)
      · exact .inl (setRow_other _ _ _ _ hgg)
    clear hN4 hb3 hb4 hb34 hoA hkA hH3;rintro W5 ⟨hb5,ho5,hT5⟩;obtain ⟨tb,htb⟩:∃q,w4.heap.size=q:=⟨_,rfl⟩
    rw [htb] at hT5 hl4 ⊢
    clear htb;simp only [Act.put];have hb5a:Below W5.heap.size W5 (W5.alloc (.cells #[] 5)):=(Below.refl _ _).alloc (Nat.le_refl _) _;have hyT:=(hT5.bytes (n:=32) hTl.symm (by omega)).below hb5a;have hoE:=aq.empty W5 W5.heap.size (Nat.le_refl _);have hoL:∀g,Value.ownBlock (.slice xv nv cv)=some g→g<W5.heap.size:=fun g h=>xV ho5 h
    go_upto_region 11 with (at_builtin;refine aF rfl _ _ rfl W5.heap.size _ [] rfl hoE _ 32 32 T rfl hyT (by simp) (by simp) ?_;intro v6 w6 ho6 hg6;rw [List.nil_append] at ho6;have hb6:Below W5.heap.size W5 w6:=below_grown hb5a hoE hg6 (by simp))
    have ho7:=ho5.belowM hb6;obtain ⟨x6,n6,c6,hv6,hn6⟩:=ho6.isSlice;subst hv6;have hy6:=ho6.bytes.2;have hge:=xP ho6;obtain rfl:n6=32:=by omega
    have hs6:=hb6.size;have hs5:=hb5.size;have hTb:=hT5.lt;clear hg6 ho6 hb5a hyT hoE ho5 hT5 hn6
    go_wp2_with (at_builtin;refine aF rfl _ _ rfl (w.heap.size+1) _ Z rfl ho7 x6 32 c6 T rfl hy6 (by omega) (by omega) ?_;intro v8 w8 ho8 hg8)
    refine ⟨⟨j+1,by omega,?_,by rw [HO.out];exact ho8,⟨x6,32,c6,rfl,?_⟩,?_⟩,?_⟩
    · rw [←HC.out];go_num
    · rw [HT.out]
      exact o9 hy6 hg8 (fun bb off hx he=>by
       have h1:=hge bb off hx;have h2:=hoL bb he;omega)
    · exact below_grown ((hB.trans (hb5.mono hsw)).trans (hb6.mono (by omega))) ho7 hg8 (by omega)
    · obtain ⟨x8,n8,c8,rfl,hn8⟩:=ho8.isSlice
      rw [List.length_append] at hn8
      simp only [lenOf];omega
  · subst hv
    have hje:j=(n+31) / 32:=by omega
    have hE:(outK k b j).take n=expL k b n:=by unfold expL;rw [←hje]
    have hyo:=(ho.bytes.2).fewM n;rw [hE,Nat.min_eq_right (by omega)] at hyo
    have hcv:=ho.bytes.2.le;have htop:=ho.bytes.2.top;have hnc:(n:Int)≤(cv:Int):=by omega
    have hnvi:¬((nv:Int)<(n:Int)):=by omega
    clear hE hje hl ho hll htk hnv;cases xv with
    |none=>
     have hcv0:=hyo.nil rfl;subst hcv0;obtain rfl:n=0:=by omega
     go_wp2
     go_ret2
     exact ⟨_,_,rfl,hyo,hBw⟩
    |some ad=>
     go_wp2
     go_ret2
     exact ⟨_,_,rfl,hyo,hBw⟩
end Go.Proofs.YtbdhfbglagdiaaaGreatDoor.S
namespace Go.Proofs.YtbdhfbglagdiaaaGreatDoor
open Go.RowKit
set_option maxRecDepth 20000
set_option maxHeartbeats 4000000
set_option linter.unusedSimpArgs false
theorem nK (k:List Int) (y:Option Addr) (lb cb:Nat) (b:List Int) (w:World) (hk:k.length=32) (hy:Bytes w y lb cb b) (hlb:lb≤100000):
    Calls Tryz.prog 111 #[.agg (row .u8 k),.slice y lb cb,.int .i64 32] w fun e w'=>∃x c,e=.returned (.tuple #[.slice x 32 c,.int .i64 0])∧Bytes w' x 32 c (ke k b)∧Below w.heap.size w w':=
 (S.refExpand_any k y lb cb b 32 w hk hy.toS hlb (by omega)).mono fun e w' ⟨x,c,h1,h2,h3⟩=>⟨x,c,h1,⟨h2.1,h2.2,h2.3,h2.4,h2.5⟩,h3⟩
theorem ir (k:List Int) (ws:ByteArray) (x:Option Addr) (n c:Nat) (m:List Int) (w:World) (hk:k.length=32) (hws:ws.size≤1000) (hm:Bytes w x n c m) (hn:n≤1000):
    Calls Tryz.prog 64 #[.agg (row .u8 k),.string ws,.slice x n c] w fun e w'=>e=.returned (.agg (row .u8 (ke k (cJ ws++m))))∧Below w.heap.size w w':=by
 have hk0:=aa.new w .u8 23 k;have HML:ac (n=m.length∧(cJ ws).length=ws.size):=⟨hm.len_eq,eX ws⟩
 obtain ⟨Z,hZl,hZ⟩:∃Z:List Int,Z.length=32∧Z=List.replicate 32 0:=⟨_,rfl,rfl⟩
 have hr0:=aa.new (w.alloc (.cells (row .u8 k) 23)) .u8 23 Z;rw [World.size_alloc] at hr0
 have hk1:=hk0.alloc (.cells (row .u8 Z) 23);have hB:Below w.heap.size w ((w.alloc (.cells (row .u8 k) 23)).alloc (.cells (row .u8 Z) 23)):=((Below.refl _ _).alloc (Nat.le_refl _) _).alloc (by simp) _;go_enter Tryz.func64,Tryz.ntmps64;go_upto_region 1 with fail
 refine af (p:=fun y=>Code.wp _ _ _ _ y) (fun W=>Below w.heap.size w W∧aa W w.heap.size .u8 23 k∧aa W (w.heap.size+1) .u8 23 Z) ⟨by rw [hZ] at hB;exact hB,by rw [hZ] at hk1;exact hk1,by rw [hZ] at hr0 ⊢;exact hr0⟩ ?_;clear hB hk1 hr0 hk0 hZ;rintro W ⟨hB,hk0,hr0⟩;have uK:Tryz.prog.underlying 23=_:=Tryz.underlying23;have iK:(Tryz.prog.info? 23).map (·.size)=some (k.map (Value.int .u8)).length:=by rw [List.length_map,hk];exact ap
 have HK:∀W':World,aa W' w.heap.size .u8 23 k→W'.rangeAt w.heap.size 0 (k.map (Value.int .u8)):=fun W' h=>by
  have:=h.cellsAt.range 0 32;rw [List.drop_zero,List.take_of_length_le (by simp [hk])] at this
  exact this
 refine ag (fun w'=>w'.rangeAt w.heap.size 0 (k.map (Value.int .u8))) 5 (by kernel_rfl) ?_;have hS:=HK W.drew hk0;refine zg 0 12 23 3 w.heap.size 0 (k.map (Value.int .u8)) hS (fun _ h=>h) uK iK ?_;simp only [zp];refine gaA 1 _ hS ?_;simp only [zp];refine gaA 3 _ hS ?_;simp only [zp];refine zw 2 fun K hK=>?_
 obtain ⟨c2,W2,hrun2,hc2,hcm2,hrow2,hB2,hs2⟩:=rk ws W.drew hws;refine o7 _ _ _ rfl _ _ _ rfl hrun2 ?_;have hb02:Below W.heap.size W W2:=Below.trans (Below.refl _ W).drew hB2;have hk2:=hk0.below hb02 hk0.lt;have hr2:=hr0.below hb02 hr0.lt;have hBw2:Below w.heap.size w W2:=hB.trans (hb02.mono hB.size);have hg2w:w.heap.size+1<W.drew.heap.size:=hr0.lt;obtain ⟨g2,hg2⟩:∃g2,W.drew.heap.size=g2:=⟨_,rfl⟩
 rw [hg2] at hrow2 hs2 hg2w ⊢
 clear hrun2 hB2 hb02 hk0 hr0 hB hg2;replace hS:=HK W2 hk2;refine hK.out _ _ (fun _=>hS) ?_;clear hK K
 try simp only [zp]
 refine zw 4 fun K hK=>?_
 obtain ⟨x3,n3,c3,W3,hrun3,hb3,hB3⟩:=u4 ws W2 g2 c2 _ hrow2 hc2 hcm2 x n c m (hm.below hBw2) hn hws (fun b off hx hn0=>by
  rcases hm.at_ with h0|⟨b',off',hx',hcs⟩
  · omega
  · rw [hx] at hx';cases hx'
    have:=block_lt_of_cell (hcs 0 hn0);simp at this
    omega)
 refine nS _ _ _ _ rfl _ _ _ _ rfl rfl hrun3 ?_;have hk3:=hk2.below hB3 (by omega);have hr3:=hr2.below hB3 (by omega);have hBw3:Below w.heap.size w W3:=hBw2.trans (hB3.mono (by omega));replace hS:=HK W3 hk3;refine hK.out _ _ (fun _=>hS) ?_;clear hK K
 try simp only [zp]
 have hn3:n3≤100000:=by have:=hb3.len_eq;rw [List.length_append] at this;have:=HML.out;omega
 have he:=nK k x3 n3 c3 _ W3 hk hb3 hn3;clear hk2 hr2 hrow2 hrun3 hb3 hB3;refine zw 5 fun K hK=>?_
 refine aC _ _ (by kernel_rfl) (he.mono ?_);rintro e W6 ⟨x6,c6,rfl,hby,hb6⟩;refine ⟨_,rfl,?_⟩;have hB6:=hBw3.trans (hb6.mono hBw3.size);have hr6:=hr3.below hb6 hr3.lt;refine hK.out _ _ zn ?_;clear hK K
 try simp only [zp]
 refine ay (i:=6) (v:=?_) rfl (by kernel_rfl) (by kernel_rfl) (by kernel_rfl) (fun _ _ _ h=>h) (by kernel_rfl) zn (by kernel_rfl) ?_ ?_;rotate_left
 · intro _;go_simp;try with_reducible rfl
 simp only [zp];refine ay (i:=7) (v:=?_) rfl (by kernel_rfl) (by kernel_rfl) (by kernel_rfl) (fun _ _ _ h=>h) (by kernel_rfl) zn (by kernel_rfl) ?_ ?_;rotate_left
 · intro _;go_simp;try with_reducible rfl
 simp only [zp];refine ay (i:=8) (v:=?_) rfl (by kernel_rfl) (by kernel_rfl) (by kernel_rfl) (fun _ _ _ h=>h) (by kernel_rfl) zn (by kernel_rfl) ?_ ?_;rotate_left
 · intro _;go_simp;try with_reducible rfl
 simp only [zp];refine ay (i:=9) (v:=?_) rfl (by kernel_rfl) (by kernel_rfl) (by kernel_rfl) (fun _ _ _ h=>h) (by kernel_rfl) zn (by kernel_rfl) ?_ ?_;rotate_left
 · intro _;go_simp;try with_reducible rfl
 simp only [zp];refine ay (i:=10) (v:=?_) rfl (by kernel_rfl) (by kernel_rfl) (by kernel_rfl) (fun _ _ _ h=>h) (by kernel_rfl) zn (by kernel_rfl) ?_ ?_;rotate_left
 · intro _;go_simp;try with_reducible rfl
 simp only [zp];refine al (by kernel_rfl) ?_ _;have hdl:=aV k (cJ ws++m);obtain ⟨DK,hDK⟩:∃q,ke k (cJ ws++m)=q:=⟨_,rfl⟩
 have HDK:=ac.mk hDK;rw [hDK] at hby hdl
 obtain ⟨g6,o6,rfl,hcs6⟩:∃b off,x6=some ⟨b,off,none⟩∧∀j,j<32→W6.cell? ⟨b,off+j,none⟩=some (.int .u8 (DK[j]?.getD 0)):=by
  rcases hby.at_ with h0|h
  · omega
  · exact h
 have HDL:=ac.mk hdl;have hl6:w.heap.size+1<W6.heap.size:=hr6.lt;clear hDK he hk3 hr3 hS hBw3 hb6 iK uK HK hdl;go_upto_region 3 with fail
 have hbn:Below W6.heap.size W6 (W6.alloc (.cells (row .u8 (List.replicate 32 0)) 23)):=(Below.refl _ _).alloc (Nat.le_refl _) _;have hgn:=aa.new W6 .u8 23 (List.replicate 32 0);refine af (p:=fun y=>Code.wp _ _ _ _ y) (fun V=>Below w.heap.size w V∧aa V (w.heap.size+1) .u8 23 Z∧Bytes V (some ⟨g6,o6,none⟩) 32 c6 DK∧aa V W6.heap.size .u8 23 (List.replicate 32 0)) ⟨hB6.trans (hbn.mono hB6.size),hr6.below hbn hr6.lt,hby.below hbn,hgn⟩ ?_;have hg6l:g6≠W6.heap.size:=fun e=>by
  have:=block_lt_of_cell (hcs6 0 (by omega));simp at this
  omega
 obtain ⟨G,hG⟩:∃q,W6.heap.size=q:=⟨_,rfl⟩
 rw [hG] at hl6 hg6l ⊢
 clear hbn hby hr6 hB6 hG hgn hcs6;rintro V ⟨hB,hr,hb,hg⟩
 go_wp2_with fail
 go_loopw [10] (fun iv wr=>∃i:Nat,i≤32∧iv=.int .i64 i∧Below w.heap.size w wr∧aa wr (w.heap.size+1) .u8 23 Z∧Bytes wr (some ⟨g6,o6,none⟩) 32 c6 DK∧aa wr G .u8 23 (DK.take i++List.replicate (32 - i) 0)) (fun iv _=>32 - (intOf iv).toNat)
 case atStart=>exact ⟨0,by omega,rfl,hB,hr,hb,by rw [List.take_zero,List.nil_append];exact hg⟩
 case round=>
  clear hB hr hb hg;obtain ⟨i,hi,rfl,hB,hr,hb,hg⟩:=hrel
  by_cases hlt:i<32
  · have hcap:=hb.le
    have hc1:wr.cell? ⟨g6,o6+i,none⟩=some (.int .u8 (DK[i]?.getD 0)):=by
     rcases hb.at_ with h0|⟨b',off',hx',hcs⟩
     · omega
     · cases hx'
       exact hcs i hlt
    have hgl:(DK.take i++List.replicate (32 - i) 0).length=32:=by rw [List.length_append,List.length_take,List.length_replicate,HDL.out];omega
    have hc2:=hg.cell i (by omega);have hf2:=hg.frozen i;have hi0:(0:Int)≤(i:Int):=by omega
    have hi1:(i:Int)<32:=by omega
    have HST:ac ((DK.take i++List.replicate (32 - i) 0).set i (DK[i]?.getD 0)=DK.take (i+1)++List.replicate (32 - (i+1)) 0):=⟨by
     have hl:=HDL.out;rw [bK DK i (by omega),show 32 - i=(32 - (i+1))+1 by omega];have:=bx (DK.take i) (32 - (i+1)) (DK[i]?.getD 0);rw [List.length_take,show min i DK.length=i by omega] at this
     exact this⟩
    obtain ⟨q,hq⟩:∃q,DK[i]?.getD 0=q:=⟨_,rfl⟩
    rw [hq] at hc1 HST
    have hs1:=hg.set i q;rw [HST.out] at hs1
    have hr1:=hr.setOther ⟨G,i,none⟩ (.int .u8 q) (by simp;omega);have hb1:Bytes (wr.setCell ⟨G,i,none⟩ (.int .u8 q)) (some ⟨g6,o6,none⟩) 32 c6 DK:=⟨hb.len_eq,hb.le,hb.top,hb.nil,by
     rcases hb.at_ with h0|⟨b',off',hx',hcs⟩
     · exact .inl h0
     · cases hx'
       exact .inr ⟨_,_,rfl,fun j hj=>by rw [World.cell?_of_block (w:=wr) (Below.heap_setCell wr _ _ _ hg6l)];exact hcs j hj⟩⟩
    have hB1:=hB.setCell (p:=⟨G,i,none⟩) (by show w.heap.size≤G;omega) (.int .u8 q);clear hq hb HST;go_wp2;go_roundw
    case rel=>exact ⟨i+1,by omega,by go_num,hB1,hr1,hb1,hs1⟩
    case measure=>simp [intOf];omega
  · obtain rfl:i=32:=by omega
    have hl:=HDL.out;rw [show DK.take 32++List.replicate (32 - 32) 0=DK by rw [List.take_of_length_le (by omega)];simp] at hg
    go_wp2_with (first
     |(refine am rfl 23 _ rfl _ rfl hg Tryz.underlying23 ap hl ?_)
     |(refine ah rfl 23 _ _ rfl _ rfl rfl hr (by rw [hl];exact ap) (by rw [hZl,hl]) ?_))
    refine bodyPost_ret (aj (Tryz.results64) _ rfl (hr.setRow _) Tryz.underlying23 ap hl) rfl ⟨?_,?_⟩
    · rw [HDK.out]
    · exact below_setRow hB (by omega) _
end Go.Proofs.YtbdhfbglagdiaaaGreatDoor
