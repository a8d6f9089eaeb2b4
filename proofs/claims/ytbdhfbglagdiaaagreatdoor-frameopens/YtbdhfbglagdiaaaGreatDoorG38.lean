/- Ru2 Rv2 -/
import Derived.Test.YtbdhfbglagdiaaaGreatDoorG37
import Derived.Test.YtbdhfbglagdiaaaGreatDoorG04
namespace Go.Proofs.YtbdhfbglagdiaaaGreatDoor
open Go.RowKit
set_option maxRecDepth 20000
set_option maxHeartbeats 4000000
set_option linter.unusedSimpArgs false
theorem tj (w:World) (x:Option Addr) (len cap h:Nat) (h2:2≤h) (hh:h≤cap):(Instr.slice 41 (.slice x len cap) (some (.int .i64 2)) (some (.int .i64 (h:Int))) none).run Tryz.prog w=.ok (.slice (bN x cap 2) (h - 2) (cap - 2)) w:=by
 rw [run_slice_lh w 41 x len cap nH .i64 .i64 2 (h:Int) (by omega) (by omega) (by omega),kl];simp [sliced,bN,Result.andThen]
theorem se {z:List Int} (h:bK z):128≤z.length∧toldN z+2≤z.length:=by
 obtain ⟨h1,h2,_⟩:=h;obtain ⟨s,hs,hs'⟩:=jl (toldN z);omega
theorem sK {z:List Int} (h:¬bK z):unpB z=[]∧et z=3:=by
 unfold unpB et;rw [if_neg h,if_neg h];exact ⟨rfl,rfl⟩
theorem wC {z:List Int} (h:bK z):unpB z=(z.drop 2).take (toldN z)∧et z=0:=by
 unfold unpB et;rw [if_pos h,if_pos h];exact ⟨rfl,rfl⟩
theorem na (z:List Int) (m j:Nat):(z.drop m)[j]?.getD 0=z[m+j]?.getD 0:=by rw [List.getElem?_drop]
theorem oE (x:Option Addr) (n c:Nat) (z:List Int) (w:World) (hb:Bytes w x n c z) (hl:n<128):
    Calls Tryz.prog 54 #[.slice x n c] w fun e w'=>∃x' n' c',e=.returned (.tuple #[.slice x' n' c',.int .i64 (et z)])∧Bytes w' x' n' c' (unpB z)∧Below w.heap.size w w':=by
 have hn:=hb.len_eq;obtain ⟨e1,e2⟩:=sK (z:=z) (fun h=>by have:=(se h).1;omega);rw [e1,e2];have hle:=hb.le;have htp:=hb.top;have hli:(n:Int)<128:=by omega
 clear hb hn e1 e2;go_enter Tryz.func54,Tryz.ntmps54;go_wp2
 go_ret2
 exact ⟨none,0,0,rfl,bO _,Below.refl _ _⟩
theorem oz (x:Option Addr) (n c:Nat) (z:List Int) (w:World) (hb:Bytes w x n c z) (hz:∀v∈z,b8 v) (hl:128≤n) (hl2:n≤1000000):
    Calls Tryz.prog 54 #[.slice x n c] w fun e w'=>∃x' n' c',e=.returned (.tuple #[.slice x' n' c',.int .i64 (et z)])∧Bytes w' x' n' c' (unpB z)∧Below w.heap.size w w':=by
 obtain ⟨hv,hlt⟩:=ql z hz;obtain ⟨s,hs,hs'⟩:=jl (toldN z);have hn:=hb.len_eq;have ha:=dP hz 0;have hbb:=dP hz 1;have HV:=sx _ _ ha hbb;rw [hv] at HV
 have HOK:ac (bK z↔(s=n∧∀j,j<n - (2+toldN z)→z[2+toldN z+j]?.getD 0=0)):=⟨by
  unfold bK;rw [hs,←hn];constructor
  · rintro ⟨_,h2,h3⟩;exact ⟨by omega,fun j hj=>by rw [←na];exact h3 j hj⟩
  · rintro ⟨h2,h3⟩;exact ⟨by omega,by omega,fun j hj=>by rw [na];exact h3 j hj⟩⟩
 have HGOOD:ac (bK z→unpB z=(z.drop 2).take (toldN z)∧et z=0):=⟨wC⟩
 have HBAD:ac (¬bK z→unpB z=[]∧et z=3):=⟨sK⟩
 obtain ⟨UB,hUB⟩:∃q,unpB z=q:=⟨_,rfl⟩
 obtain ⟨UE,hUE⟩:∃q,et z=q:=⟨_,rfl⟩
 obtain ⟨OK,hOK⟩:∃q,bK z=q:=⟨_,rfl⟩
 rw [hUB,hUE,hOK] at HGOOD HBAD
 rw [hOK] at HOK
 rw [hUB,hUE];obtain ⟨L,hL⟩:∃q,toldN z=q:=⟨_,rfl⟩
 rw [hL] at hs hs' HOK HGOOD hlt HV
 have hbk:=fun wx=>ja (L:Int) wx
 rw [hs] at hbk
 obtain ⟨b,off,rfl,hc⟩:∃b off,x=some ⟨b,off,none⟩∧∀j,j<n→w.cell? ⟨b,off+j,none⟩=some (.int .u8 (z[j]?.getD 0)):=by
  rcases hb.at_ with h0|h
  · omega
  · exact h
 have HC:ac (∀j,j<n→w.cell? ⟨b,off+j,none⟩=some (.int .u8 (z[j]?.getD 0))):=⟨hc⟩
 have c0:w.cell? ⟨b,off,none⟩=some (.int .u8 (z[0]?.getD 0)):=hc 0 (by omega);have c1:=hc 1 (by omega);obtain ⟨A,hA⟩:∃q,z[0]?.getD 0=q:=⟨_,rfl⟩
 obtain ⟨B,hB⟩:∃q,z[1]?.getD 0=q:=⟨_,rfl⟩
 rw [hA] at ha c0 HV
 rw [hB] at hbb c1 HV
 have f1:IntKind.i64.wrap A=A:=by rw [IntKind.wrap_i64];omega
 have f2:IntKind.i64.wrap B=B:=by rw [IntKind.wrap_i64];omega
 have f3:IntKind.i64.wrap (A*256)=A*256:=by rw [IntKind.wrap_i64];omega
 have hle:=hb.le;have htp:=hb.top;have hli:¬(n:Int)<128:=by omega
 have hn0:0<n:=by omega
 have hn1:(1:Int)<(n:Int):=by omega
 have HBY:ac (Bytes w (some ⟨b,off,none⟩) n c z):=⟨hb⟩
 have HV':ac (bits .or .i64 (A*256) B=(L:Int)):=⟨HV⟩
 clear hb hz hn hv hs hUB hUE hOK hL hc hA hB HV;go_enter Tryz.func54,Tryz.ntmps54;go_upto_region 3 with fail
 refine ag (fun w'=>w'.cell? ⟨b,off,none⟩=some (.int .u8 A)∧w'.cell? ⟨b,off+1,none⟩=some (.int .u8 B)) 10 (by kernel_rfl) ?_;have hS:w.drew.cell? ⟨b,off,none⟩=some (.int .u8 A)∧w.drew.cell? ⟨b,off+1,none⟩=some (.int .u8 B):=⟨c0,c1⟩
 obtain ⟨W,hW⟩:∃q,w.drew=q:=⟨_,rfl⟩
 have hWB:Below w.heap.size w W:=by rw [←hW];exact (Below.refl _ _).drew
 have HWC:ac (∀j,j<n→W.cell? ⟨b,off+j,none⟩=some (.int .u8 (z[j]?.getD 0))):=⟨fun j hj=>by rw [←hW];exact HC.out j hj⟩
 rw [hW] at hS ⊢
 clear hW c0 c1 HC;refine gaA 0 _ hS ?_;simp only [zp];refine gaA 1 _ hS ?_;simp only [zp];refine grA 2 _ hS ?_;simp only [zp];refine gaA 3 _ hS ?_;simp only [zp];refine gaA 4 _ hS ?_;simp only [zp];refine gaA 5 _ hS ?_;simp only [zp];refine gaA 6 _ hS ?_;simp only [zp];refine grA 7 _ hS ?_;simp only [zp];refine gaA 8 _ hS ?_;simp only [zp];refine gaA 9 _ hS ?_;simp only [zp];refine zw 10 fun K hK=>?_
 go_simp;refine hK.out _ _ zn ?_;clear hK K;refine ah (by kernel_rfl) ?_ _;rw [HV'.out];clear hS f1 f2 f3 ha hbb HV';have hw2:IntKind.i64.wrap ((n:Int) - 2)=(n:Int) - 2:=by rw [IntKind.wrap_i64];omega
 by_cases hb1:L+2≤n
 · have g1:¬(L:Int)>(n:Int) - 2:=by omega
   by_cases hsn:s=n
   · subst hsn
     have hw3:IntKind.i64.wrap ((L:Int)+2)=((2+L:Nat):Int):=by rw [IntKind.wrap_i64];omega
     go_upto_region 6 with (go_at_call 86;refine (hbk _).mono ?_;rintro e w1 ⟨rfl,rfl⟩)
     clear hw2 hbk g1
     go_wp2_with fail
     go_loopw [5] (fun q wr=>∃k:Nat,k≤s - (2+L)∧q=.int .i64 ((2+L+k:Nat):Int)∧ac (∀j,j<k→z[2+L+j]?.getD 0=0)∧wr=W) (fun q _=>s - (intOf q).toNat)
     case atStart=>exact ⟨0,by omega,rfl,⟨fun j hj=>by omega⟩,rfl⟩
     case round=>
      obtain ⟨k,hk,rfl,HK,rfl⟩:=hrel
      by_cases hlt:k<s - (2+L)
      · have ci:=HWC.out (2+L+k) (by omega)
        have hi0:(0:Int)≤((2+L+k:Nat):Int):=by omega
        have hin:((2+L+k:Nat):Int)<(s:Int):=by omega
        have hwn:IntKind.i64.wrap (((2+L+k:Nat):Int)+1)=((2+L+(k+1):Nat):Int):=by rw [IntKind.wrap_i64];omega
        by_cases h0:z[2+L+k]?.getD 0=0
        · rw [h0] at ci
          have HK2:ac (∀j,j<k+1→z[2+L+j]?.getD 0=0):=⟨fun j hj=>by
           by_cases h:j=k
           · rw [h];exact h0
           · exact HK.out j (by omega)⟩
          obtain ⟨i,hi⟩:∃q:Nat,2+L+k=q:=⟨_,rfl⟩
          have HI:ac (2+L+k=i∧i<s):=⟨hi,by omega⟩
          rw [hi] at ci hi0 hin hwn ⊢
          clear h0 HK hi;go_wp2;go_roundw
          case rel=>exact ⟨k+1,by omega,rfl,HK2,trivial⟩
          case measure=>
           have:=HI.out;simp [intOf];omega
        · have hno:¬OK:=fun h=>h0 ((HOK.out.1 h).2 k (by omega))
          obtain ⟨e1,e2⟩:=HBAD.out hno;obtain ⟨q,hq⟩:∃q,z[2+L+k]?.getD 0=q:=⟨_,rfl⟩
          rw [hq] at h0 ci
          have hqb:(q==0)=false:=by simp [h0]
          obtain ⟨i,hi⟩:∃q:Nat,2+L+k=q:=⟨_,rfl⟩
          rw [hi] at ci hi0 hin ⊢
          have HE:ac (UB=[]∧UE=3):=⟨e1,e2⟩
          clear e1 e2 hq hi hwn HK;go_wp2
          go_ret2
          rw [HE.out.1,HE.out.2];exact ⟨none,0,0,rfl,bO _,hWB⟩
      · obtain rfl:k=s - (2+L):=by omega
        have hyes:OK:=HOK.out.2 ⟨by first|trivial|rfl,HK.out⟩;obtain ⟨e1,e2⟩:=HGOOD.out hyes;have HE:ac (UB=(z.drop 2).take L∧UE=0):=⟨e1,e2⟩
        have hks:2+L+(s - (2+L))=s:=by omega
        rw [hks];have hbyW:=HBY.out.below hWB;have hct:=fun wx=>tj wx (some ⟨b,off,none⟩) s c (2+L) (by omega) (by omega)
        have hcb:=hbyW.cut 2 (2+L) (by omega) (by omega);have hL2:2+L - 2=L:=by omega
        rw [hL2] at hct hcb
        have hE0:ao (wr.alloc (.cells #[] 5)) wr.heap.size (.slice (some ⟨wr.heap.size,0,none⟩) 0 0) []:=ao.ofHolds (aa.new wr .u8 5 []) (Nat.le_refl _) (by simp);have hcy:=hcb.below (w':=wr.alloc (.cells #[] 5)) ((Below.refl _ _).alloc (Nat.le_refl _) _);obtain ⟨y,hy⟩:∃q,bN (some ⟨b,off,none⟩) c 2=q:=⟨_,rfl⟩
        rw [hy] at hct hcy
        obtain ⟨M,hM⟩:∃q:Nat,2+L=q:=⟨_,rfl⟩
        have hw4:IntKind.i64.wrap ((L:Int)+2)=(M:Int):=by rw [IntKind.wrap_i64];omega
        rw [hM] at hct
        clear hw3 hM;clear e1 e2 hks hbyW hcb hL2 hy HK hyes
        go_wp2_with (at_builtin;refine aG rfl _ _ rfl wr.heap.size _ [] rfl hE0 y L (c - 2) ((z.drop 2).take L) rfl hcy (by simp;omega) (by simp) ?_;intro v1 w1 ho1 hg1)
        rw [List.nil_append] at ho1
        have hb1':Below wr.heap.size wr w1:=below_grown ((Below.refl _ _).alloc (Nat.le_refl _) _) hE0 hg1 (by simp);obtain ⟨x1,n1,c1,rfl,hn1⟩:=ho1.isSlice;have hy1:=ho1.bytes.2
        go_ret2
        rw [HE.out.1,HE.out.2];exact ⟨x1,n1,c1,rfl,hy1,hWB.trans (hb1'.mono hWB.size)⟩
   · have hno:¬OK:=fun h=>hsn (HOK.out.1 h).1
     obtain ⟨e1,e2⟩:=HBAD.out hno;have HE:ac (UB=[]∧UE=3):=⟨e1,e2⟩
     have hsb:((s:Int)==(n:Int))=false:=by simp;omega
     have hsi:¬(s:Int)=(n:Int):=by omega
     clear e1 e2
     go_wp2_with (go_at_call 86;refine (hbk _).mono ?_;rintro e w1 ⟨rfl,rfl⟩)
     go_ret2
     rw [HE.out.1,HE.out.2];exact ⟨none,0,0,rfl,bO _,hWB⟩
 · have g1:(L:Int)>(n:Int) - 2:=by omega
   have hno:¬OK:=fun h=>by have:=(HOK.out.1 h).1;omega
   obtain ⟨e1,e2⟩:=HBAD.out hno;have HE:ac (UB=[]∧UE=3):=⟨e1,e2⟩
   clear e1 e2 hbk;go_wp2
   go_ret2
   rw [HE.out.1,HE.out.2];exact ⟨none,0,0,rfl,bO _,hWB⟩
theorem mG (x:Option Addr) (n c:Nat) (z:List Int) (w:World) (hb:Bytes w x n c z) (hz:∀v∈z,b8 v) (hl2:n≤1000000):
    Calls Tryz.prog 54 #[.slice x n c] w fun e w'=>∃x' n' c',e=.returned (.tuple #[.slice x' n' c',.int .i64 (et z)])∧Bytes w' x' n' c' (unpB z)∧Below w.heap.size w w':=by
 by_cases h:n<128
 · exact oE x n c z w hb h
 · exact oz x n c z w hb hz (by omega) hl2
theorem io {w:World} {x:Option Addr} {n c:Nat} {z:List Int} (h:Bytes w x n c z) (h0:0<n):∃b off,x=some ⟨b,off,none⟩∧∀j,j<n→w.cell? ⟨b,off+j,none⟩=some (.int .u8 (z[j]?.getD 0)):=by
 rcases h.at_ with h1|h
 · omega
 · exact h
theorem my (x:Option Addr) (c:Nat) (z:List Int) (w:World) (hb0:Bytes w x 4 c z) (hz:∀v∈z,b8 v):
    Calls Tryz.prog 101 #[.slice x 4 c] w fun e w'=>e=.returned (.int .u32 (at4 z 0))∧Below w.heap.size w w':=by
 have ha:=dP hz 0;have hb:=dP hz 1;have hc:=dP hz 2;have hd:=dP hz 3;have HV:ac (bits .or .u32 (bits .or .u32 (bits .or .u32 (z[0]?.getD 0*16777216) (z[1]?.getD 0*65536)) (z[2]?.getD 0*256)) (z[3]?.getD 0)=at4 z 0):=⟨sC _ _ _ _ ha hb hc hd⟩
 obtain ⟨b,off,rfl,hcl⟩:=io hb0 (by omega);have c0:w.cell? ⟨b,off,none⟩=some (.int .u8 (z[0]?.getD 0)):=hcl 0 (by omega);have c1:=hcl 1 (by omega);have c2:=hcl 2 (by omega);have c3:=hcl 3 (by omega);obtain ⟨V,hV⟩:∃q,at4 z 0=q:=⟨_,rfl⟩
 rw [hV] at HV ⊢
 obtain ⟨A,hA⟩:∃q,z[0]?.getD 0=q:=⟨_,rfl⟩
 obtain ⟨B,hB⟩:∃q,z[1]?.getD 0=q:=⟨_,rfl⟩
 obtain ⟨C,hC⟩:∃q,z[2]?.getD 0=q:=⟨_,rfl⟩
 obtain ⟨D,hD⟩:∃q,z[3]?.getD 0=q:=⟨_,rfl⟩
 rw [hA,hB,hC,hD] at HV
 rw [hA] at ha c0
 rw [hB] at hb c1
 rw [hC] at hc c2
 rw [hD] at hd c3
 have e1:IntKind.u32.wrap A=A:=by rw [IntKind.wrap_u32];omega
 have e2:IntKind.u32.wrap B=B:=by rw [IntKind.wrap_u32];omega
 have e3:IntKind.u32.wrap C=C:=by rw [IntKind.wrap_u32];omega
 have e4:IntKind.u32.wrap D=D:=by rw [IntKind.wrap_u32];omega
 have e5:IntKind.u32.wrap (A*16777216)=A*16777216:=by rw [IntKind.wrap_u32];omega
 have e6:IntKind.u32.wrap (B*65536)=B*65536:=by rw [IntKind.wrap_u32];omega
 have e7:IntKind.u32.wrap (C*256)=C*256:=by rw [IntKind.wrap_u32];omega
 clear hA hB hC hD hV hz hb0 hcl;go_enter Tryz.func101,Tryz.ntmps101;go_upto_region 1 with fail
 refine ag (fun w'=>w'.cell? ⟨b,off,none⟩=some (.int .u8 A)∧w'.cell? ⟨b,off+1,none⟩=some (.int .u8 B)∧w'.cell? ⟨b,off+2,none⟩=some (.int .u8 C)∧w'.cell? ⟨b,off+3,none⟩=some (.int .u8 D)) 22 (by kernel_rfl) ?_;have hS:w.drew.cell? ⟨b,off,none⟩=some (.int .u8 A)∧w.drew.cell? ⟨b,off+1,none⟩=some (.int .u8 B)∧w.drew.cell? ⟨b,off+2,none⟩=some (.int .u8 C)∧w.drew.cell? ⟨b,off+3,none⟩=some (.int .u8 D):=⟨c0,c1,c2,c3⟩
 refine gaA 0 _ hS ?_;simp only [zp];refine gaA 1 _ hS ?_;simp only [zp];refine grA 2 _ hS ?_;simp only [zp];refine gaA 3 _ hS ?_;simp only [zp];refine gaA 4 _ hS ?_;simp only [zp];refine gaA 5 _ hS ?_;simp only [zp];refine gaA 6 _ hS ?_;simp only [zp];refine grA 7 _ hS ?_;simp only [zp];refine gaA 8 _ hS ?_;simp only [zp];refine gaA 9 _ hS ?_;simp only [zp];refine gaA 10 _ hS ?_;simp only [zp];refine gaA 11 _ hS ?_;simp only [zp];refine gaA 12 _ hS ?_;simp only [zp];refine grA 13 _ hS ?_;simp only [zp];refine gaA 14 _ hS ?_;simp only [zp];refine gaA 15 _ hS ?_;simp only [zp];refine gaA 16 _ hS ?_;simp only [zp];refine gaA 17 _ hS ?_;simp only [zp];refine gaA 18 _ hS ?_;simp only [zp];refine grA 19 _ hS ?_;simp only [zp];refine gaA 20 _ hS ?_;simp only [zp];refine gaA 21 _ hS ?_;simp only [zp];refine zw 22 fun K hK=>?_
 go_simp;refine hK.out _ _ zn ?_;clear hK K;refine ah (by kernel_rfl) ?_ _;go_wp2;go_ret;refine ⟨?_,(Below.refl _ _).drew⟩;rw [←HV.out]
 rfl
theorem jA {P:Program} {o:Oper} {a:Act} {w:World} {K:Act→World→Prop} {Q:Exit→Act→World→Prop} (ty:TypeId) (x y:Operand) (ho:o.op=.store ty x y)
    (g:Nat) (hx:a.eval x=.pointer (some ⟨g,0,none⟩)) {t:TypeId} {old cs:List Value} (hy:a.eval y=.agg cs.toArray) (hg:CellsAt w g t old)
    (hi:(P.info? ty).map (·.size)=some cs.length) (hl:old.length=cs.length) (h1:∀v∈cs,v.oneCell'=true)
    (h:K (a.put o.dst undef) (w.setRow g cs.toArray)):o.wp P a w K Q:=by
 unfold Oper.wp execOp;simp only [ho,hx,hy,Instr.storeAt,Instr.sureAddr,Sem.run_bind,Sem.run_pure,Result.andThen_ok,dE w g ty t old cs hg hl hi h1];exact h
theorem sW (w:World) (x:Option Addr) (cap:Nat) (hh:5≤cap):(Instr.slice 41 (.slice x 5 cap) (some (.int .i64 1)) (some (.int .i64 5)) none).run Tryz.prog w=.ok (.slice (bN x cap 1) 4 (cap - 1)) w:=by
 rw [run_slice_lh w 41 x 5 cap nH .i64 .i64 1 5 (by omega) (by omega) (by omega),kl];simp [sliced,bN,Result.andThen]
theorem kE (x:Option Addr) (c:Nat) (z:List Int) (w:World) (hb0:Bytes w x 5 c z) (hz:∀v∈z,b8 v):
    Calls Tryz.prog 100 #[.slice x 5 c] w fun e w'=>e=.returned (.agg (dotC (at1 z 0) (at4 z 1)).toArray)∧Below w.heap.size w w':=by
 have hle:=hb0.le;have hct:=fun wx=>sW wx x c (by omega)
 have hcb:=hb0.cut 1 5 (by omega) (by omega);have hzd:∀v∈(z.drop 1).take 4,b8 v:=fun v hv=>hz v (List.mem_of_mem_drop (List.mem_of_mem_take hv))
 have e4:at4 ((z.drop 1).take 4) 0=at4 z 1:=by
  have q:∀j,j<4→at1 ((z.drop 1).take 4) j=at1 z (1+j):=fun j hj=>by unfold at1;rw [List.getElem?_take_of_lt hj,List.getElem?_drop]
  unfold at4;rw [q 0 (by omega),q (0+1) (by omega),q (0+2) (by omega),q (0+3) (by omega)]
 have hnm:=fun wx (h:Below w.heap.size w wx)=>my (bN x c 1) (c - 1) ((z.drop 1).take 4) wx (hcb.below h) hzd
 rw [e4] at hnm
 obtain ⟨S,hS4⟩:∃q,at4 z 1=q:=⟨_,rfl⟩
 rw [hS4] at hnm ⊢
 obtain ⟨b,off,rfl,hcl⟩:=io hb0 (by omega);have c0:w.cell? ⟨b,off,none⟩=some (.int .u8 (at1 z 0)):=hcl 0 (by omega);obtain ⟨A,hA⟩:∃q,at1 z 0=q:=⟨_,rfl⟩
 rw [hA] at c0 ⊢
 have hlb:b<w.heap.size:=block_lt_of_cell c0;have hG0:=CellsAt.new w 26 (dotC 0 0);have hB0:Below w.heap.size w (w.alloc (.cells (dotC 0 0).toArray 26)):=(Below.refl _ _).alloc (Nat.le_refl _) _;have keep:∀w',Below w.heap.size w w'→w'.cell? ⟨b,off,none⟩=some (.int .u8 A):=fun w' h=>by rw [(qe h).1 _ _ hlb];exact c0
 have HKEEP:=ac.mk keep;obtain ⟨y,hy⟩:∃q,bN (some ⟨b,off,none⟩) c 1=q:=⟨_,rfl⟩
 rw [hy] at hct hnm
 clear hb0 hcb hz hzd e4 hS4 hcl hA hy keep c0;go_enter Tryz.func100,Tryz.ntmps100;go_upto_region 1 with fail
 refine ae (p:=fun y=>Code.wp _ _ _ _ y) (fun W=>Below w.heap.size w W∧CellsAt W w.heap.size 26 (dotC 0 0)) ⟨hB0,hG0⟩ ?_;clear hB0 hG0;rintro W ⟨hB0,hG0⟩;refine ag (fun w'=>w'.cell? ⟨b,off,none⟩=some (.int .u8 A)) 7 (by kernel_rfl) ?_;obtain ⟨D0,hD0⟩:∃q,W.drew=q:=⟨_,rfl⟩
 have hb0:Below W.heap.size W D0:=by rw [←hD0];exact (Below.refl _ _).drew
 rw [hD0];have hB1:=hB0.trans (hb0.mono hB0.size);have hG1:CellsAt D0 w.heap.size 26 (dotC 0 0):=by
  have hl:=hG0.lt;unfold CellsAt at hG0 ⊢;rw [hb0.block _ hl];exact hG0
 clear hD0 hb0 hB0 hG0;have hS:=HKEEP.out _ hB1;refine gaA 0 _ hS ?_;simp only [zp];refine gaA 1 _ hS ?_;simp only [zp];refine grA 2 _ hS ?_;simp only [zp];refine gaA 3 _ hS ?_;simp only [zp];refine gaA 4 _ hS ?_;simp only [zp];refine zw 5 fun K hK=>?_
 go_wp2_with (go_at_call 101;refine (hnm _ hB1).mono ?_;rintro e w2 ⟨rfl,hb2⟩)
 have hB2:=hB1.trans (hb2.mono hB1.size);have hG2:CellsAt w2 w.heap.size 26 (dotC 0 0):=by
  have hl:=hG1.lt;unfold CellsAt at hG1 ⊢;rw [hb2.block _ hl];exact hG1
 replace hS:=HKEEP.out _ hB2;refine hK.out _ _ (fun _=>hS) ?_;clear hK K;refine ga 6 (.agg #[.int .u8 A,.int .u32 S]) hS ?_ ?_
 · intro _;go_simp
 simp only [zp];refine zw 7 fun K hK=>?_
 refine jA 26 _ _ rfl _ rfl (cs:=dotC A S) rfl hG2 aH rfl (lf A S) ?_;refine hK.out _ _ zn ?_;clear hK K;refine ah (by kernel_rfl) ?_ _;simp only [zp]
 go_wp2_with fail
 refine bodyPost_ret (results_cell_row (Tryz.results100) _ _ _ _ _ (0,0) _ rfl (hG2.setRow (dotC A S)) Tryz.underlying26 rfl aH) rfl ⟨rfl,?_⟩;exact below_setRow hB2 (Nat.le_refl _) _
end Go.Proofs.YtbdhfbglagdiaaaGreatDoor
