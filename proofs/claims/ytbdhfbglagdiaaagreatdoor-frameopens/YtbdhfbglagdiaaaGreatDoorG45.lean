/- Ao2b StrC Ao3 -/
import Derived.Test.YtbdhfbglagdiaaaGreatDoorG41
import Derived.Test.YtbdhfbglagdiaaaGreatDoorG24
import Derived.Test.YtbdhfbglagdiaaaGreatDoorG44
import Derived.Test.YtbdhfbglagdiaaaGreatDoorG02
namespace Go.Proofs.YtbdhfbglagdiaaaGreatDoor
open Go.RowKit
set_option maxRecDepth 20000
set_option linter.unusedSimpArgs false
theorem ao.afar {w w':World} {base:Nat} {v:Value} {z:List Int} (h:ao w base v z) (hb:Below w.heap.size w w'):ao w' base v z:=h.keep (fun g _ hg=>hb.block g hg)
theorem lR (k n o s:List Int) (v:Value) (base:Nat) (w:World) (ho:ao w base v (aR o s)) (huo:∀v∈o,isB v) (hus:∀v∈s,isB v) (hl:(aR o s).length≤1000000):
    Calls Tryz.prog 90 #[.agg (row .u8 (ej k n)),v] w fun e w'=>e=.returned (.agg (row .u8 (tagL k n o s)))∧Below w.heap.size w w':=by
 obtain ⟨x',n',c',rfl,hn'⟩:=ho.isSlice;exact refSum_any (ej k n) x' n' c' (aR o s) w (dR k n) (fun v hv=>lA _ 16 v (List.mem_of_mem_take hv)) ho.bytes.2 (mf o s huo hus) (by rw [hn'];exact hl)
theorem mC (a b:List Int) (ha:∀v∈a,0≤v∧v≤255) (hb:∀v∈b,0≤v∧v≤255) (h:(strOfNums a).toList=(strOfNums b).toList):a=b:=by
 rw [ByteArray.toList_eq,ByteArray.toList_eq] at h
 have h2:(a.map fun n=>UInt8.ofNat n.toNat)=(b.map fun n=>UInt8.ofNat n.toNat):=by rw [←strOfNums_data,←strOfNums_data];exact h
 have hl:a.length=b.length:=by have:=congrArg List.length h2;simpa using this
 apply List.ext_getElem hl;intro i h1 h3;have e:UInt8.ofNat a[i].toNat=UInt8.ofNat b[i].toNat:=by
  have:=congrArg (fun l=>l[i]?) h2
  simpa [h1,h3] using this
 have ba:=ha _ (List.getElem_mem h1);have bb:=hb _ (List.getElem_mem h3);have e2:=congrArg UInt8.toNat e;simp at e2
 omega
theorem xE (z b:List Int) (hz:∀v∈z,0≤v∧v≤255) (hb:∀v∈b,0≤v∧v≤255):((strOfNums z).toList==(strOfNums b).toList)=(z==b):=by
 by_cases he:z=b
 · subst he;rw [beq_self_eq_true,beq_self_eq_true]
 · have e2:(z==b)=false:=by rw [beq_eq_false_iff_ne];exact he
   rw [e2,beq_eq_false_iff_ne];intro h;exact he (mC _ _ hz hb h)
set_option maxHeartbeats 4000000
theorem mH (k n:List Int) (x:Option Addr) (len cap:Nat) (y:Option Addr) (lb cb:Nat) (w:World) (hl:lb<16):
    Calls Tryz.prog 53 #[.agg (row .u8 k),.agg (row .u8 n),.slice x len cap,.slice y lb cb] w fun e w'=>e=.returned (.tuple #[.slice none 0 0,.int .i64 3])∧Below w.heap.size w w':=by
 obtain ⟨D,hD⟩:∃D:Int,IntKind.i64.wrap ((lb:Int) - 16)=D:=⟨_,rfl⟩
 have hD0:D<0:=by rw [←hD,IntKind.wrap_i64];omega
 have hB0:Below w.heap.size w ((w.alloc (.cells (row .u8 k) 23)).alloc (.cells (row .u8 n) 79)):=((Below.refl _ _).alloc (Nat.le_refl _) _).alloc (by simp) _;go_enter Tryz.func53,Tryz.ntmps53;go_wp2
 go_ret2
 exact ⟨rfl,hB0⟩
theorem sj (k n:List Int) (x:Option Addr) (len cap:Nat) (o:List Int) (y:Option Addr) (lb cb:Nat) (z:List Int) (w:World) (hk:k.length=32) (hn:n.length=12) (hx:Bytes w x len cap o) (hy:Bytes w y lb cb z) (hl1:len≤100000) (hl2:lb≤100000) (hl:16≤lb) (huo:∀v∈o,isB v) (huz:∀v∈z,isB v)
    (he:tagL k n o (z.take (lb - 16))=z.drop (lb - 16)):
    Calls Tryz.prog 53 #[.agg (row .u8 k),.agg (row .u8 n),.slice x len cap,.slice y lb cb] w fun e w'=>∃v,e=.returned (.tuple #[v,.int .i64 0])∧ao w' w.heap.size v (dk k n 1 (z.take (lb - 16)))∧Below w.heap.size w w':=by
 obtain ⟨M,hM⟩:∃M,lb - 16=M:=⟨_,rfl⟩
 rw [hM] at he
 try rw [hM]
 have hzl:=hy.len_eq;have hcb:=hy.le;have htop:=hy.top;have hwM:IntKind.i64.wrap ((lb:Int) - 16)=(M:Int):=by rw [IntKind.wrap_i64];omega
 have hM0:¬(M:Int)<0:=by omega
 have hcutL:∀wx,(Instr.slice 41 (.slice y lb cb) none (some (.int .i64 (M:Int))) none).run Tryz.prog wx=.ok (.slice (bN y cb 0) M cb) wx:=fun wx=>iH wx _ lb cb M (by omega)
 have hcutR:∀wx,(Instr.slice 41 (.slice y lb cb) (some (.int .i64 (M:Int))) none none).run Tryz.prog wx=.ok (.slice (bN y cb M) 16 (cb - M)) wx:=fun wx=>by
  have:=f8 wx y lb cb M (by omega);rw [show lb - M=16 by omega] at this
  exact this
 have hhid:=fun wx (hb:Below w.heap.size w wx)=>(hy.below hb).cut 0 M (by omega) (by omega)
 rw [List.drop_zero,Nat.sub_zero,Nat.sub_zero] at hhid
 have htld:=fun wx (hb:Below w.heap.size w wx)=>(hy.below hb).cut M lb (by omega) (Nat.le_refl _)
 rw [show lb - M=16 by omega,show (z.drop M).take 16=z.drop M from List.take_of_length_le (by rw [List.length_drop];omega)] at htld
 have hHu:∀v∈z.take M,isB v:=fun v hv=>huz v (List.mem_of_mem_take hv)
 have hDu:∀v∈z.drop M,isB v:=fun v hv=>huz v (List.mem_of_mem_drop hv)
 have hHl:(z.take M).length=M:=by rw [List.length_take];omega
 have hTl:(tagL k n o (z.take M)).length=16:=bU _ _;have hTu:=jF k n o (z.take M) huo hHu;have hse:=xE _ _ hTu hDu;rw [show (tagL k n o (z.take M)==z.drop M)=true by rw [beq_iff_eq];exact he] at hse
 have HFL:ac ((aR o (z.take M)).length≤1000000):=⟨by rw [dW,←hx.len_eq,hHl];have:=cH len;have:=cH M;omega⟩
 have hon:∀wx,Calls Tryz.prog 91 #[.agg (List.map (Value.int .u8) k).toArray,.agg (List.map (Value.int .u8) n).toArray] wx fun e w'=>e=.returned (.agg (row .u8 (ej k n)))∧Below wx.heap.size wx w':=fun wx=>kM k n wx hk hn
 have htg:=fun (v:Value) (base:Nat) (wx:World) (ho:ao wx base v (aR o (z.take M)))=>lR k n o (z.take M) v base wx ho huo hHu HFL.out
 obtain ⟨H,hH⟩:∃q,z.take M=q:=⟨_,rfl⟩
 obtain ⟨T,hT⟩:∃q,z.drop M=q:=⟨_,rfl⟩
 obtain ⟨Y1,hY1⟩:∃q,bN y cb 0=q:=⟨_,rfl⟩
 obtain ⟨Y2,hY2⟩:∃q,bN y cb M=q:=⟨_,rfl⟩
 rw [hH] at hhid hTl hse htg
 try rw [hH]
 rw [hT] at htld hse
 rw [hY1] at hcutL hhid
 rw [hY2] at hcutR htld
 have hfr:=fun wx (hb:Below w.heap.size w wx)=>je x len cap o Y1 M cb H wx (hx.below hb) (hhid wx hb) hl1 (by omega)
 have hxor:∀wx,Below w.heap.size w wx→Calls Tryz.prog 89 #[.agg (List.map (Value.int .u8) k).toArray,.agg (List.map (Value.int .u8) n).toArray,.int .u32 1,.slice Y1 M cb] wx fun e w'=>∃v,e=.returned v∧ao w' wx.heap.size v (dk k n 1 H)∧Below wx.heap.size wx w':=fun wx hb=>mn k n 1 Y1 M cb H wx hk hn (hhid wx hb) (by omega)
 obtain ⟨TG,hTG⟩:∃q,tagL k n o H=q:=⟨_,rfl⟩
 rw [hTG] at htg hTl hse
 obtain ⟨OT,hOT⟩:∃q,ej k n=q:=⟨_,rfl⟩
 rw [hOT] at hon htg
 obtain ⟨F,hF⟩:∃q,aR o H=q:=⟨_,rfl⟩
 rw [hF] at hfr htg
 obtain ⟨SG,hSG⟩:∃q,strOfNums TG=q:=⟨_,rfl⟩
 obtain ⟨ST,hST⟩:∃q,strOfNums T=q:=⟨_,rfl⟩
 rw [hSG,hST] at hse
 have HSG:ac (strOfNums TG=SG):=⟨hSG⟩
 have HST:ac (∀wx,Below w.heap.size w wx→(convert 41 9 (.slice Y2 16 (cb - M))).run Tryz.prog wx=.ok (.string ST) wx):=⟨fun wx hb=>by rw [←hST];exact cn (htld wx hb)⟩
 have uK:=Tryz.underlying23;have uN:=Tryz.underlying79;have iK:(Tryz.prog.info? 23).map (·.size)=some (k.map (Value.int .u8)).length:=by rw [List.length_map,hk];exact eX
 have iN:(Tryz.prog.info? 79).map (·.size)=some (n.map (Value.int .u8)).length:=by rw [List.length_map,hn];exact iX
 have hK0:=(aa.new w .u8 23 k).alloc (.cells (row .u8 n) 79);have hN0:=aa.new (w.alloc (.cells (row .u8 k) 23)) .u8 79 n;have hB0:Below w.heap.size w ((w.alloc (.cells (row .u8 k) 23)).alloc (.cells (row .u8 n) 79)):=((Below.refl _ _).alloc (Nat.le_refl _) _).alloc (by simp) _;rw [World.size_alloc] at hN0
 clear hH hT hY1 hY2 hTG hOT hF hSG hST hx hy he huo huz hzl hM hHu hDu hHl hTu HFL hhid htld;go_enter Tryz.func53,Tryz.ntmps53;go_upto_region 4 with fail
 refine ae (p:=fun y=>Code.wp _ _ _ _ y) (fun W0=>Below w.heap.size w W0∧aa W0 w.heap.size .u8 23 k∧aa W0 (w.heap.size+1) .u8 79 n) ⟨hB0,hK0,hN0⟩ ?_;clear hK0 hN0 hB0;rintro W0 ⟨hB0,hK0,hN0⟩
 ·
  refine ag (fun w'=>w'.rangeAt w.heap.size 0 (k.map (Value.int .u8))∧w'.rangeAt (w.heap.size+1) 0 (n.map (Value.int .u8))) 10 (by kernel_rfl) ?_;have keep:∀w',Below W0.heap.size W0 w'→w'.rangeAt w.heap.size 0 (k.map (Value.int .u8))∧w'.rangeAt (w.heap.size+1) 0 (n.map (Value.int .u8)):=fun w' hb=>⟨(hK0.below hb hK0.lt).rangeAll,(hN0.below hb hN0.lt).rangeAll⟩
  obtain ⟨V0,hV0⟩:∃q,W0.drew=q:=⟨_,rfl⟩
  have hb0:Below W0.heap.size W0 V0:=by rw [←hV0];exact (Below.refl _ _).drew
  rw [hV0];clear hV0;have hS:=keep _ hb0;refine zg 0 17 23 4 w.heap.size 0 (k.map (Value.int .u8)) hS (fun _ h=>h.1) uK iK ?_;simp only [zp];refine zg 1 18 79 5 ((w.heap.size+1)) 0 (n.map (Value.int .u8)) hS (fun _ h=>h.2) uN iN ?_;simp only [zp];refine gaA 3 _ hS ?_;simp only [zp];refine gaA 4 _ hS ?_;simp only [zp];refine gaA 5 _ hS ?_;simp only [zp];refine gaA 6 _ hS ?_;simp only [zp];refine co (i:=2) (j:=9) rfl rfl (by kernel_rfl) (by kernel_rfl) (by kernel_rfl) (fun K hK=>?_) (fun K hK=>?_)
  · skip
    go_wp2_with (go_at_call 91;refine (hon _).mono ?_;rintro e u1 ⟨rfl,hx1⟩)
    have hb1:Below W0.heap.size W0 u1:=hb0.trans (hx1.mono hb0.size);replace hS:=keep _ hb1;refine hK.out _ _ (fun _=>hS) ?_;clear hK K;refine co (i:=7) (j:=9) rfl rfl (by kernel_rfl) (by kernel_rfl) (by kernel_rfl) (fun K hK=>?_) (fun K hK=>?_)
    · skip
      go_wp2_with (go_at_call 92;refine (hfr _ (hB0.trans (hb1.mono hB0.size))).mono ?_;rintro e u2 ⟨v2,rfl,ho2,hx2⟩)
      have hb2:Below W0.heap.size W0 u2:=hb1.trans (hx2.mono hb1.size);replace hS:=keep _ hb2;refine hK.out _ _ (fun _=>hS) ?_;clear hK K;refine co (i:=8) (j:=9) rfl rfl (by kernel_rfl) (by kernel_rfl) (by kernel_rfl) (fun K hK=>?_) (fun K hK=>?_)
      · skip
        go_wp2_with (go_at_call 90;refine (htg _ _ _ ho2).mono ?_;rintro e u3 ⟨rfl,hx3⟩)
        have hb3:Below W0.heap.size W0 u3:=hb2.trans (hx3.mono hb2.size);replace hS:=keep _ hb3;refine hK.out _ _ (fun _=>hS) ?_;clear hK K;refine zw 9 fun K hK=>?_
        have hge3:=hb3.size;go_simp;have hA4:aa (u3.alloc (.cells (row .u8 (List.replicate 16 0)) 120)) u3.heap.size .u8 120 (List.replicate 16 0):=aa.new u3 .u8 120 (List.replicate 16 0);have hn4:Below u3.heap.size u3 (u3.alloc (.cells (row .u8 (List.replicate 16 0)) 120)):=(Below.refl _ _).alloc (Nat.le_refl _) _;have hb4:Below W0.heap.size W0 (u3.alloc (.cells (row .u8 (List.replicate 16 0)) 120)):=hb3.trans (hn4.mono hb3.size);replace hS:=keep _ hb4;refine hK.out _ _ (fun _=>hS) ?_;clear hK K;obtain ⟨G4,hGe4⟩:∃q,u3.heap.size=q:=⟨_,rfl⟩
        obtain ⟨U4,hU4⟩:∃q,u3.alloc (.cells (row .u8 (List.replicate 16 0)) 120)=q:=⟨_,rfl⟩
        have hc4:u3.alloc (.cells #[.int .u8 0,.int .u8 0,.int .u8 0,.int .u8 0,.int .u8 0,.int .u8 0,.int .u8 0,.int .u8 0,.int .u8 0,.int .u8 0,.int .u8 0,.int .u8 0,.int .u8 0,.int .u8 0,.int .u8 0,.int .u8 0] 120)=U4:=hU4;rw [hU4,hGe4] at hA4
        rw [hGe4] at hge3
        rw [hU4] at hb4 hS
        rw [hc4,hGe4];clear hGe4 hU4 hc4 hn4;refine zw 10 fun K hK=>?_
        refine dI 120 _ _ rfl _ rfl rfl hA4 (by rw [hTl];exact eG) (by simp [hTl]) ?_;refine hK.out _ _ zn ?_;clear hK K;refine ah (by kernel_rfl) ?_ _;have hz5:Below W0.heap.size W0 (U4.setRow G4 (row .u8 TG)):=below_setRow hb4 hge3 _;refine ae (p:=fun y=>Exit.then _ _ _ _ y) (fun W=>Below W0.heap.size W0 W∧aa W G4 .u8 120 TG) ⟨hz5,hA4.setRow TG⟩ ?_;rintro W1 ⟨hb01,hG1⟩;have hB1:Below w.heap.size w W1:=hB0.trans (hb01.mono hB0.size);have hK1:=hK0.below hb01 hK0.lt;have hN1:=hN0.below hb01 hN0.lt;have hcg:∀wx,Below W1.heap.size W1 wx→(convert 41 9 (.slice (some ⟨G4,0,none⟩) 16 16)).run Tryz.prog wx=.ok (.string SG) wx:=fun wx hb=>by rw [←HSG.out];exact cn ((hG1.below hb hG1.lt).bytes hTl.symm (by omega))
        have hct:∀wx,Below W1.heap.size W1 wx→(convert 41 9 (.slice Y2 16 (cb - M))).run Tryz.prog wx=.ok (.string ST) wx:=fun wx hb=>HST.out wx (hB1.trans (hb.mono hB1.size))
        clear hK0 hN0 hb01 hG1 HSG HST hfr htg hon;go_upto_region 5 with fail
        refine ag (fun w'=>(convert 41 9 (.slice (some ⟨G4,0,none⟩) 16 16)).run Tryz.prog w'=.ok (.string SG) w'∧(convert 41 9 (.slice Y2 16 (cb - M))).run Tryz.prog w'=.ok (.string ST) w') 6 (by kernel_rfl) ?_;have hS:=And.intro (hcg _ (Below.refl _ _).drew) (hct _ (Below.refl _ _).drew);refine gaA 0 _ hS ?_;simp only [zp];refine grA 1 _ hS ?_;simp only [zp];refine gaA 2 _ hS ?_;simp only [zp];refine gaA 3 _ hS ?_;simp only [zp];refine gaA 4 _ hS ?_;simp only [zp];refine grA 5 _ hS ?_;simp only [zp];refine zw 6 fun K hK=>?_
        go_simp;refine hK.out _ _ zn ?_;clear hK K;refine ah (by kernel_rfl) ?_ _;clear hcg hct hS;go_upto_region 7 with fail
        refine ae (p:=fun y=>Code.wp _ _ _ _ y) (fun W2=>Below W1.heap.size W1 W2) (Below.refl _ _).drew ?_;rintro W2 hb12;have hK2:=hK1.below hb12 hK1.lt;have hN2:=hN1.below hb12 hN1.lt;have hB2:Below w.heap.size w W2:=hB1.trans (hb12.mono hB1.size);clear hK1 hN1 hb12;refine ag (fun w'=>w'.rangeAt w.heap.size 0 (k.map (Value.int .u8))∧w'.rangeAt (w.heap.size+1) 0 (n.map (Value.int .u8))) 7 (by kernel_rfl) ?_;have hS:=And.intro hK2.drew.rangeAll hN2.drew.rangeAll;refine zg 0 33 23 4 w.heap.size 0 (k.map (Value.int .u8)) hS (fun _ h=>h.1) uK iK ?_;simp only [zp];refine zg 1 34 79 5 ((w.heap.size+1)) 0 (n.map (Value.int .u8)) hS (fun _ h=>h.2) uN iN ?_;simp only [zp];refine gaA 2 _ hS ?_;simp only [zp];refine gaA 3 _ hS ?_;simp only [zp];refine gaA 4 _ hS ?_;simp only [zp];refine zw 5 fun K hK=>?_
        go_wp2_with (go_at_call 89;refine (hxor _ hB2.drew).mono ?_;rintro e w5 ⟨v5,rfl,ho5,hb5⟩)
        have hb25:Below W2.heap.size W2 w5:=((Below.refl _ _).drew).trans hb5;replace hS:=And.intro (hK2.below hb25 hK2.lt).rangeAll (hN2.below hb25 hN2.lt).rangeAll;refine hK.out _ _ (fun _=>hS) ?_;clear hK K;refine zw 6 fun K hK=>?_
        go_simp;refine hK.out _ _ (fun _=>hS) ?_;clear hK K;refine zw 7 fun K hK=>?_
        go_simp;refine hK.out _ _ zn ?_;clear hK K;refine ah (by kernel_rfl) ?_ _;go_wp2
        go_ret2
        have hsz2:=hB2.size;exact ⟨_,rfl,ho5.lessG hsz2,hB2.trans (hb25.mono hB2.size)⟩
      · skip
        have hge5:=hb2.size;go_simp;have hA6:aa (u2.alloc (.cells (row .u8 (List.replicate 16 0)) 120)) u2.heap.size .u8 120 (List.replicate 16 0):=aa.new u2 .u8 120 (List.replicate 16 0);have hn6:Below u2.heap.size u2 (u2.alloc (.cells (row .u8 (List.replicate 16 0)) 120)):=(Below.refl _ _).alloc (Nat.le_refl _) _;have hb6:Below W0.heap.size W0 (u2.alloc (.cells (row .u8 (List.replicate 16 0)) 120)):=hb2.trans (hn6.mono hb2.size);have ho2n6:=ho2.afar hn6;replace hS:=keep _ hb6;refine hK.out _ _ (fun _=>hS) ?_;clear hK K;obtain ⟨G6,hGe6⟩:∃q,u2.heap.size=q:=⟨_,rfl⟩
        obtain ⟨U6,hU6⟩:∃q,u2.alloc (.cells (row .u8 (List.replicate 16 0)) 120)=q:=⟨_,rfl⟩
        have hc6:u2.alloc (.cells #[.int .u8 0,.int .u8 0,.int .u8 0,.int .u8 0,.int .u8 0,.int .u8 0,.int .u8 0,.int .u8 0,.int .u8 0,.int .u8 0,.int .u8 0,.int .u8 0,.int .u8 0,.int .u8 0,.int .u8 0,.int .u8 0] 120)=U6:=hU6;rw [hU6,hGe6] at hA6
        rw [hGe6] at hge5
        rw [hU6] at hb6 hS ho2n6
        rw [hc6,hGe6];clear hGe6 hU6 hc6 hn6;refine zw 8 fun K hK=>?_
        go_wp2_with (go_at_call 90;refine (htg _ _ _ ho2n6).mono ?_;rintro e u7 ⟨rfl,hx7⟩)
        have hb7:Below W0.heap.size W0 u7:=hb6.trans (hx7.mono hb6.size);replace hS:=keep _ hb7;have hAc7:=hA6.below hx7 hA6.lt;refine hK.out _ _ (fun _=>hS) ?_;clear hK K;refine zw 10 fun K hK=>?_
        refine dI 120 _ _ rfl _ rfl rfl hAc7 (by rw [hTl];exact eG) (by simp [hTl]) ?_;refine hK.out _ _ zn ?_;clear hK K;refine ah (by kernel_rfl) ?_ _;have hz8:Below W0.heap.size W0 (u7.setRow G6 (row .u8 TG)):=below_setRow hb7 hge5 _;refine ae (p:=fun y=>Exit.then _ _ _ _ y) (fun W=>Below W0.heap.size W0 W∧aa W G6 .u8 120 TG) ⟨hz8,hAc7.setRow TG⟩ ?_;rintro W1 ⟨hb01,hG1⟩;have hB1:Below w.heap.size w W1:=hB0.trans (hb01.mono hB0.size);have hK1:=hK0.below hb01 hK0.lt;have hN1:=hN0.below hb01 hN0.lt;have hcg:∀wx,Below W1.heap.size W1 wx→(convert 41 9 (.slice (some ⟨G6,0,none⟩) 16 16)).run Tryz.prog wx=.ok (.string SG) wx:=fun wx hb=>by rw [←HSG.out];exact cn ((hG1.below hb hG1.lt).bytes hTl.symm (by omega))
        have hct:∀wx,Below W1.heap.size W1 wx→(convert 41 9 (.slice Y2 16 (cb - M))).run Tryz.prog wx=.ok (.string ST) wx:=fun wx hb=>HST.out wx (hB1.trans (hb.mono hB1.size))
        clear hK0 hN0 hb01 hG1 HSG HST hfr htg hon;go_upto_region 5 with fail
        refine ag (fun w'=>(convert 41 9 (.slice (some ⟨G6,0,none⟩) 16 16)).run Tryz.prog w'=.ok (.string SG) w'∧(convert 41 9 (.slice Y2 16 (cb - M))).run Tryz.prog w'=.ok (.string ST) w') 6 (by kernel_rfl) ?_;have hS:=And.intro (hcg _ (Below.refl _ _).drew) (hct _ (Below.refl _ _).drew);refine gaA 0 _ hS ?_;simp only [zp];refine grA 1 _ hS ?_;simp only [zp];refine gaA 2 _ hS ?_;simp only [zp];refine gaA 3 _ hS ?_;simp only [zp];refine gaA 4 _ hS ?_;simp only [zp];refine grA 5 _ hS ?_;simp only [zp];refine zw 6 fun K hK=>?_
        go_simp;refine hK.out _ _ zn ?_;clear hK K;refine ah (by kernel_rfl) ?_ _;clear hcg hct hS;go_upto_region 7 with fail
        refine ae (p:=fun y=>Code.wp _ _ _ _ y) (fun W2=>Below W1.heap.size W1 W2) (Below.refl _ _).drew ?_;rintro W2 hb12;have hK2:=hK1.below hb12 hK1.lt;have hN2:=hN1.below hb12 hN1.lt;have hB2:Below w.heap.size w W2:=hB1.trans (hb12.mono hB1.size);clear hK1 hN1 hb12;refine ag (fun w'=>w'.rangeAt w.heap.size 0 (k.map (Value.int .u8))∧w'.rangeAt (w.heap.size+1) 0 (n.map (Value.int .u8))) 7 (by kernel_rfl) ?_;have hS:=And.intro hK2.drew.rangeAll hN2.drew.rangeAll;refine zg 0 33 23 4 w.heap.size 0 (k.map (Value.int .u8)) hS (fun _ h=>h.1) uK iK ?_;simp only [zp];refine zg 1 34 79 5 ((w.heap.size+1)) 0 (n.map (Value.int .u8)) hS (fun _ h=>h.2) uN iN ?_;simp only [zp];refine gaA 2 _ hS ?_;simp only [zp];refine gaA 3 _ hS ?_;simp only [zp];refine gaA 4 _ hS ?_;simp only [zp];refine zw 5 fun K hK=>?_
        go_wp2_with (go_at_call 89;refine (hxor _ hB2.drew).mono ?_;rintro e w5 ⟨v5,rfl,ho5,hb5⟩)
        have hb25:Below W2.heap.size W2 w5:=((Below.refl _ _).drew).trans hb5;replace hS:=And.intro (hK2.below hb25 hK2.lt).rangeAll (hN2.below hb25 hN2.lt).rangeAll;refine hK.out _ _ (fun _=>hS) ?_;clear hK K;refine zw 6 fun K hK=>?_
        go_simp;refine hK.out _ _ (fun _=>hS) ?_;clear hK K;refine zw 7 fun K hK=>?_
        go_simp;refine hK.out _ _ zn ?_;clear hK K;refine ah (by kernel_rfl) ?_ _;go_wp2
        go_ret2
        have hsz2:=hB2.size;exact ⟨_,rfl,ho5.lessG hsz2,hB2.trans (hb25.mono hB2.size)⟩
    · skip
      have hge8:=hb1.size;go_simp;have hA9:aa (u1.alloc (.cells (row .u8 (List.replicate 16 0)) 120)) u1.heap.size .u8 120 (List.replicate 16 0):=aa.new u1 .u8 120 (List.replicate 16 0);have hn9:Below u1.heap.size u1 (u1.alloc (.cells (row .u8 (List.replicate 16 0)) 120)):=(Below.refl _ _).alloc (Nat.le_refl _) _;have hb9:Below W0.heap.size W0 (u1.alloc (.cells (row .u8 (List.replicate 16 0)) 120)):=hb1.trans (hn9.mono hb1.size);replace hS:=keep _ hb9;refine hK.out _ _ (fun _=>hS) ?_;clear hK K;obtain ⟨G9,hGe9⟩:∃q,u1.heap.size=q:=⟨_,rfl⟩
      obtain ⟨U9,hU9⟩:∃q,u1.alloc (.cells (row .u8 (List.replicate 16 0)) 120)=q:=⟨_,rfl⟩
      have hc9:u1.alloc (.cells #[.int .u8 0,.int .u8 0,.int .u8 0,.int .u8 0,.int .u8 0,.int .u8 0,.int .u8 0,.int .u8 0,.int .u8 0,.int .u8 0,.int .u8 0,.int .u8 0,.int .u8 0,.int .u8 0,.int .u8 0,.int .u8 0] 120)=U9:=hU9;rw [hU9,hGe9] at hA9
      rw [hGe9] at hge8
      rw [hU9] at hb9 hS
      rw [hc9,hGe9];clear hGe9 hU9 hc9 hn9;refine zw 7 fun K hK=>?_
      go_wp2_with (go_at_call 92;refine (hfr _ (hB0.trans (hb9.mono hB0.size))).mono ?_;rintro e u10 ⟨v10,rfl,ho10,hx10⟩)
      have hb10:Below W0.heap.size W0 u10:=hb9.trans (hx10.mono hb9.size);replace hS:=keep _ hb10;have hAc10:=hA9.below hx10 hA9.lt;refine hK.out _ _ (fun _=>hS) ?_;clear hK K;refine zw 8 fun K hK=>?_
      go_wp2_with (go_at_call 90;refine (htg _ _ _ ho10).mono ?_;rintro e u11 ⟨rfl,hx11⟩)
      have hb11:Below W0.heap.size W0 u11:=hb10.trans (hx11.mono hb10.size);replace hS:=keep _ hb11;have hAc11:=hAc10.below hx11 hAc10.lt;refine hK.out _ _ (fun _=>hS) ?_;clear hK K;refine zw 10 fun K hK=>?_
      refine dI 120 _ _ rfl _ rfl rfl hAc11 (by rw [hTl];exact eG) (by simp [hTl]) ?_;refine hK.out _ _ zn ?_;clear hK K;refine ah (by kernel_rfl) ?_ _;have hz12:Below W0.heap.size W0 (u11.setRow G9 (row .u8 TG)):=below_setRow hb11 hge8 _;refine ae (p:=fun y=>Exit.then _ _ _ _ y) (fun W=>Below W0.heap.size W0 W∧aa W G9 .u8 120 TG) ⟨hz12,hAc11.setRow TG⟩ ?_;rintro W1 ⟨hb01,hG1⟩;have hB1:Below w.heap.size w W1:=hB0.trans (hb01.mono hB0.size);have hK1:=hK0.below hb01 hK0.lt;have hN1:=hN0.below hb01 hN0.lt;have hcg:∀wx,Below W1.heap.size W1 wx→(convert 41 9 (.slice (some ⟨G9,0,none⟩) 16 16)).run Tryz.prog wx=.ok (.string SG) wx:=fun wx hb=>by rw [←HSG.out];exact cn ((hG1.below hb hG1.lt).bytes hTl.symm (by omega))
      have hct:∀wx,Below W1.heap.size W1 wx→(convert 41 9 (.slice Y2 16 (cb - M))).run Tryz.prog wx=.ok (.string ST) wx:=fun wx hb=>HST.out wx (hB1.trans (hb.mono hB1.size))
      clear hK0 hN0 hb01 hG1 HSG HST hfr htg hon;go_upto_region 5 with fail
      refine ag (fun w'=>(convert 41 9 (.slice (some ⟨G9,0,none⟩) 16 16)).run Tryz.prog w'=.ok (.string SG) w'∧(convert 41 9 (.slice Y2 16 (cb - M))).run Tryz.prog w'=.ok (.string ST) w') 6 (by kernel_rfl) ?_;have hS:=And.intro (hcg _ (Below.refl _ _).drew) (hct _ (Below.refl _ _).drew);refine gaA 0 _ hS ?_;simp only [zp];refine grA 1 _ hS ?_;simp only [zp];refine gaA 2 _ hS ?_;simp only [zp];refine gaA 3 _ hS ?_;simp only [zp];refine gaA 4 _ hS ?_;simp only [zp];refine grA 5 _ hS ?_;simp only [zp];refine zw 6 fun K hK=>?_
      go_simp;refine hK.out _ _ zn ?_;clear hK K;refine ah (by kernel_rfl) ?_ _;clear hcg hct hS;go_upto_region 7 with fail
      refine ae (p:=fun y=>Code.wp _ _ _ _ y) (fun W2=>Below W1.heap.size W1 W2) (Below.refl _ _).drew ?_;rintro W2 hb12;have hK2:=hK1.below hb12 hK1.lt;have hN2:=hN1.below hb12 hN1.lt;have hB2:Below w.heap.size w W2:=hB1.trans (hb12.mono hB1.size);clear hK1 hN1 hb12;refine ag (fun w'=>w'.rangeAt w.heap.size 0 (k.map (Value.int .u8))∧w'.rangeAt (w.heap.size+1) 0 (n.map (Value.int .u8))) 7 (by kernel_rfl) ?_;have hS:=And.intro hK2.drew.rangeAll hN2.drew.rangeAll;refine zg 0 33 23 4 w.heap.size 0 (k.map (Value.int .u8)) hS (fun _ h=>h.1) uK iK ?_;simp only [zp];refine zg 1 34 79 5 ((w.heap.size+1)) 0 (n.map (Value.int .u8)) hS (fun _ h=>h.2) uN iN ?_;simp only [zp];refine gaA 2 _ hS ?_;simp only [zp];refine gaA 3 _ hS ?_;simp only [zp];refine gaA 4 _ hS ?_;simp only [zp];refine zw 5 fun K hK=>?_
      go_wp2_with (go_at_call 89;refine (hxor _ hB2.drew).mono ?_;rintro e w5 ⟨v5,rfl,ho5,hb5⟩)
      have hb25:Below W2.heap.size W2 w5:=((Below.refl _ _).drew).trans hb5;replace hS:=And.intro (hK2.below hb25 hK2.lt).rangeAll (hN2.below hb25 hN2.lt).rangeAll;refine hK.out _ _ (fun _=>hS) ?_;clear hK K;refine zw 6 fun K hK=>?_
      go_simp;refine hK.out _ _ (fun _=>hS) ?_;clear hK K;refine zw 7 fun K hK=>?_
      go_simp;refine hK.out _ _ zn ?_;clear hK K;refine ah (by kernel_rfl) ?_ _;go_wp2
      go_ret2
      have hsz2:=hB2.size;exact ⟨_,rfl,ho5.lessG hsz2,hB2.trans (hb25.mono hB2.size)⟩
  · skip
    have hge12:=hb0.size;go_simp;have hA13:aa (V0.alloc (.cells (row .u8 (List.replicate 16 0)) 120)) V0.heap.size .u8 120 (List.replicate 16 0):=aa.new V0 .u8 120 (List.replicate 16 0);have hn13:Below V0.heap.size V0 (V0.alloc (.cells (row .u8 (List.replicate 16 0)) 120)):=(Below.refl _ _).alloc (Nat.le_refl _) _;have hb13:Below W0.heap.size W0 (V0.alloc (.cells (row .u8 (List.replicate 16 0)) 120)):=hb0.trans (hn13.mono hb0.size);replace hS:=keep _ hb13;refine hK.out _ _ (fun _=>hS) ?_;clear hK K;obtain ⟨G13,hGe13⟩:∃q,V0.heap.size=q:=⟨_,rfl⟩
    obtain ⟨U13,hU13⟩:∃q,V0.alloc (.cells (row .u8 (List.replicate 16 0)) 120)=q:=⟨_,rfl⟩
    have hc13:V0.alloc (.cells #[.int .u8 0,.int .u8 0,.int .u8 0,.int .u8 0,.int .u8 0,.int .u8 0,.int .u8 0,.int .u8 0,.int .u8 0,.int .u8 0,.int .u8 0,.int .u8 0,.int .u8 0,.int .u8 0,.int .u8 0,.int .u8 0] 120)=U13:=hU13;rw [hU13,hGe13] at hA13
    rw [hGe13] at hge12
    rw [hU13] at hb13 hS
    rw [hc13,hGe13];clear hGe13 hU13 hc13 hn13;refine zw 2 fun K hK=>?_
    go_wp2_with (go_at_call 91;refine (hon _).mono ?_;rintro e u14 ⟨rfl,hx14⟩)
    have hb14:Below W0.heap.size W0 u14:=hb13.trans (hx14.mono hb13.size);replace hS:=keep _ hb14;have hAc14:=hA13.below hx14 hA13.lt;refine hK.out _ _ (fun _=>hS) ?_;clear hK K;refine zw 7 fun K hK=>?_
    go_wp2_with (go_at_call 92;refine (hfr _ (hB0.trans (hb14.mono hB0.size))).mono ?_;rintro e u15 ⟨v15,rfl,ho15,hx15⟩)
    have hb15:Below W0.heap.size W0 u15:=hb14.trans (hx15.mono hb14.size);replace hS:=keep _ hb15;have hAc15:=hAc14.below hx15 hAc14.lt;refine hK.out _ _ (fun _=>hS) ?_;clear hK K;refine zw 8 fun K hK=>?_
    go_wp2_with (go_at_call 90;refine (htg _ _ _ ho15).mono ?_;rintro e u16 ⟨rfl,hx16⟩)
    have hb16:Below W0.heap.size W0 u16:=hb15.trans (hx16.mono hb15.size);replace hS:=keep _ hb16;have hAc16:=hAc15.below hx16 hAc15.lt;refine hK.out _ _ (fun _=>hS) ?_;clear hK K;refine zw 10 fun K hK=>?_
    refine dI 120 _ _ rfl _ rfl rfl hAc16 (by rw [hTl];exact eG) (by simp [hTl]) ?_;refine hK.out _ _ zn ?_;clear hK K;refine ah (by kernel_rfl) ?_ _;have hz17:Below W0.heap.size W0 (u16.setRow G13 (row .u8 TG)):=below_setRow hb16 hge12 _;refine ae (p:=fun y=>Exit.then _ _ _ _ y) (fun W=>Below W0.heap.size W0 W∧aa W G13 .u8 120 TG) ⟨hz17,hAc16.setRow TG⟩ ?_;rintro W1 ⟨hb01,hG1⟩;have hB1:Below w.heap.size w W1:=hB0.trans (hb01.mono hB0.size);have hK1:=hK0.below hb01 hK0.lt;have hN1:=hN0.below hb01 hN0.lt;have hcg:∀wx,Below W1.heap.size W1 wx→(convert 41 9 (.slice (some ⟨G13,0,none⟩) 16 16)).run Tryz.prog wx=.ok (.string SG) wx:=fun wx hb=>by rw [←HSG.out];exact cn ((hG1.below hb hG1.lt).bytes hTl.symm (by omega))
    have hct:∀wx,Below W1.heap.size W1 wx→(convert 41 9 (.slice Y2 16 (cb - M))).run Tryz.prog wx=.ok (.string ST) wx:=fun wx hb=>HST.out wx (hB1.trans (hb.mono hB1.size))
    clear hK0 hN0 hb01 hG1 HSG HST hfr htg hon;go_upto_region 5 with fail
    refine ag (fun w'=>(convert 41 9 (.slice (some ⟨G13,0,none⟩) 16 16)).run Tryz.prog w'=.ok (.string SG) w'∧(convert 41 9 (.slice Y2 16 (cb - M))).run Tryz.prog w'=.ok (.string ST) w') 6 (by kernel_rfl) ?_;have hS:=And.intro (hcg _ (Below.refl _ _).drew) (hct _ (Below.refl _ _).drew);refine gaA 0 _ hS ?_;simp only [zp];refine grA 1 _ hS ?_;simp only [zp];refine gaA 2 _ hS ?_;simp only [zp];refine gaA 3 _ hS ?_;simp only [zp];refine gaA 4 _ hS ?_;simp only [zp];refine grA 5 _ hS ?_;simp only [zp];refine zw 6 fun K hK=>?_
    go_simp;refine hK.out _ _ zn ?_;clear hK K;refine ah (by kernel_rfl) ?_ _;clear hcg hct hS;go_upto_region 7 with fail
    refine ae (p:=fun y=>Code.wp _ _ _ _ y) (fun W2=>Below W1.heap.size W1 W2) (Below.refl _ _).drew ?_;rintro W2 hb12;have hK2:=hK1.below hb12 hK1.lt;have hN2:=hN1.below hb12 hN1.lt;have hB2:Below w.heap.size w W2:=hB1.trans (hb12.mono hB1.size);clear hK1 hN1 hb12;refine ag (fun w'=>w'.rangeAt w.heap.size 0 (k.map (Value.int .u8))∧w'.rangeAt (w.heap.size+1) 0 (n.map (Value.int .u8))) 7 (by kernel_rfl) ?_;have hS:=And.intro hK2.drew.rangeAll hN2.drew.rangeAll;refine zg 0 33 23 4 w.heap.size 0 (k.map (Value.int .u8)) hS (fun _ h=>h.1) uK iK ?_;simp only [zp];refine zg 1 34 79 5 ((w.heap.size+1)) 0 (n.map (Value.int .u8)) hS (fun _ h=>h.2) uN iN ?_;simp only [zp];refine gaA 2 _ hS ?_;simp only [zp];refine gaA 3 _ hS ?_;simp only [zp];refine gaA 4 _ hS ?_;simp only [zp];refine zw 5 fun K hK=>?_
    go_wp2_with (go_at_call 89;refine (hxor _ hB2.drew).mono ?_;rintro e w5 ⟨v5,rfl,ho5,hb5⟩)
    have hb25:Below W2.heap.size W2 w5:=((Below.refl _ _).drew).trans hb5;replace hS:=And.intro (hK2.below hb25 hK2.lt).rangeAll (hN2.below hb25 hN2.lt).rangeAll;refine hK.out _ _ (fun _=>hS) ?_;clear hK K;refine zw 6 fun K hK=>?_
    go_simp;refine hK.out _ _ (fun _=>hS) ?_;clear hK K;refine zw 7 fun K hK=>?_
    go_simp;refine hK.out _ _ zn ?_;clear hK K;refine ah (by kernel_rfl) ?_ _;go_wp2
    go_ret2
    have hsz2:=hB2.size;exact ⟨_,rfl,ho5.lessG hsz2,hB2.trans (hb25.mono hB2.size)⟩
theorem pg (k n:List Int) (x:Option Addr) (len cap:Nat) (o:List Int) (y:Option Addr) (lb cb:Nat) (z:List Int) (w:World) (hk:k.length=32) (hn:n.length=12) (hx:Bytes w x len cap o) (hy:Bytes w y lb cb z) (hl1:len≤100000) (hl2:lb≤100000) (hl:16≤lb) (huo:∀v∈o,isB v) (huz:∀v∈z,isB v)
    (he:¬tagL k n o (z.take (lb - 16))=z.drop (lb - 16)):
    Calls Tryz.prog 53 #[.agg (row .u8 k),.agg (row .u8 n),.slice x len cap,.slice y lb cb] w fun e w'=>e=.returned (.tuple #[.slice none 0 0,.int .i64 4])∧Below w.heap.size w w':=by
 obtain ⟨M,hM⟩:∃M,lb - 16=M:=⟨_,rfl⟩
 rw [hM] at he
 try rw [hM]
 have hzl:=hy.len_eq;have hcb:=hy.le;have htop:=hy.top;have hwM:IntKind.i64.wrap ((lb:Int) - 16)=(M:Int):=by rw [IntKind.wrap_i64];omega
 have hM0:¬(M:Int)<0:=by omega
 have hcutL:∀wx,(Instr.slice 41 (.slice y lb cb) none (some (.int .i64 (M:Int))) none).run Tryz.prog wx=.ok (.slice (bN y cb 0) M cb) wx:=fun wx=>iH wx _ lb cb M (by omega)
 have hcutR:∀wx,(Instr.slice 41 (.slice y lb cb) (some (.int .i64 (M:Int))) none none).run Tryz.prog wx=.ok (.slice (bN y cb M) 16 (cb - M)) wx:=fun wx=>by
  have:=f8 wx y lb cb M (by omega);rw [show lb - M=16 by omega] at this
  exact this
 have hhid:=fun wx (hb:Below w.heap.size w wx)=>(hy.below hb).cut 0 M (by omega) (by omega)
 rw [List.drop_zero,Nat.sub_zero,Nat.sub_zero] at hhid
 have htld:=fun wx (hb:Below w.heap.size w wx)=>(hy.below hb).cut M lb (by omega) (Nat.le_refl _)
 rw [show lb - M=16 by omega,show (z.drop M).take 16=z.drop M from List.take_of_length_le (by rw [List.length_drop];omega)] at htld
 have hHu:∀v∈z.take M,isB v:=fun v hv=>huz v (List.mem_of_mem_take hv)
 have hDu:∀v∈z.drop M,isB v:=fun v hv=>huz v (List.mem_of_mem_drop hv)
 have hHl:(z.take M).length=M:=by rw [List.length_take];omega
 have hTl:(tagL k n o (z.take M)).length=16:=bU _ _;have hTu:=jF k n o (z.take M) huo hHu;have hse:=xE _ _ hTu hDu;rw [show (tagL k n o (z.take M)==z.drop M)=false by rw [beq_eq_false_iff_ne];exact he] at hse
 have HFL:ac ((aR o (z.take M)).length≤1000000):=⟨by rw [dW,←hx.len_eq,hHl];have:=cH len;have:=cH M;omega⟩
 have hon:∀wx,Calls Tryz.prog 91 #[.agg (List.map (Value.int .u8) k).toArray,.agg (List.map (Value.int .u8) n).toArray] wx fun e w'=>e=.returned (.agg (row .u8 (ej k n)))∧Below wx.heap.size wx w':=fun wx=>kM k n wx hk hn
 have htg:=fun (v:Value) (base:Nat) (wx:World) (ho:ao wx base v (aR o (z.take M)))=>lR k n o (z.take M) v base wx ho huo hHu HFL.out
 obtain ⟨H,hH⟩:∃q,z.take M=q:=⟨_,rfl⟩
 obtain ⟨T,hT⟩:∃q,z.drop M=q:=⟨_,rfl⟩
 obtain ⟨Y1,hY1⟩:∃q,bN y cb 0=q:=⟨_,rfl⟩
 obtain ⟨Y2,hY2⟩:∃q,bN y cb M=q:=⟨_,rfl⟩
 rw [hH] at hhid hTl hse htg
 try rw [hH]
 rw [hT] at htld hse
 rw [hY1] at hcutL hhid
 rw [hY2] at hcutR htld
 have hfr:=fun wx (hb:Below w.heap.size w wx)=>je x len cap o Y1 M cb H wx (hx.below hb) (hhid wx hb) hl1 (by omega)
 have hxor:∀wx,Below w.heap.size w wx→Calls Tryz.prog 89 #[.agg (List.map (Value.int .u8) k).toArray,.agg (List.map (Value.int .u8) n).toArray,.int .u32 1,.slice Y1 M cb] wx fun e w'=>∃v,e=.returned v∧ao w' wx.heap.size v (dk k n 1 H)∧Below wx.heap.size wx w':=fun wx hb=>mn k n 1 Y1 M cb H wx hk hn (hhid wx hb) (by omega)
 obtain ⟨TG,hTG⟩:∃q,tagL k n o H=q:=⟨_,rfl⟩
 rw [hTG] at htg hTl hse
 obtain ⟨OT,hOT⟩:∃q,ej k n=q:=⟨_,rfl⟩
 rw [hOT] at hon htg
 obtain ⟨F,hF⟩:∃q,aR o H=q:=⟨_,rfl⟩
 rw [hF] at hfr htg
 obtain ⟨SG,hSG⟩:∃q,strOfNums TG=q:=⟨_,rfl⟩
 obtain ⟨ST,hST⟩:∃q,strOfNums T=q:=⟨_,rfl⟩
 rw [hSG,hST] at hse
 have HSG:ac (strOfNums TG=SG):=⟨hSG⟩
 have HST:ac (∀wx,Below w.heap.size w wx→(convert 41 9 (.slice Y2 16 (cb - M))).run Tryz.prog wx=.ok (.string ST) wx):=⟨fun wx hb=>by rw [←hST];exact cn (htld wx hb)⟩
 have uK:=Tryz.underlying23;have uN:=Tryz.underlying79;have iK:(Tryz.prog.info? 23).map (·.size)=some (k.map (Value.int .u8)).length:=by rw [List.length_map,hk];exact eX
 have iN:(Tryz.prog.info? 79).map (·.size)=some (n.map (Value.int .u8)).length:=by rw [List.length_map,hn];exact iX
 have hK0:=(aa.new w .u8 23 k).alloc (.cells (row .u8 n) 79);have hN0:=aa.new (w.alloc (.cells (row .u8 k) 23)) .u8 79 n;have hB0:Below w.heap.size w ((w.alloc (.cells (row .u8 k) 23)).alloc (.cells (row .u8 n) 79)):=((Below.refl _ _).alloc (Nat.le_refl _) _).alloc (by simp) _;rw [World.size_alloc] at hN0
 clear hH hT hY1 hY2 hTG hOT hF hSG hST hx hy he huo huz hzl hM hHu hDu hHl hTu HFL hhid htld;go_enter Tryz.func53,Tryz.ntmps53;go_upto_region 4 with fail
 refine ae (p:=fun y=>Code.wp _ _ _ _ y) (fun W0=>Below w.heap.size w W0∧aa W0 w.heap.size .u8 23 k∧aa W0 (w.heap.size+1) .u8 79 n) ⟨hB0,hK0,hN0⟩ ?_;clear hK0 hN0 hB0;rintro W0 ⟨hB0,hK0,hN0⟩
 ·
  refine ag (fun w'=>w'.rangeAt w.heap.size 0 (k.map (Value.int .u8))∧w'.rangeAt (w.heap.size+1) 0 (n.map (Value.int .u8))) 10 (by kernel_rfl) ?_;have keep:∀w',Below W0.heap.size W0 w'→w'.rangeAt w.heap.size 0 (k.map (Value.int .u8))∧w'.rangeAt (w.heap.size+1) 0 (n.map (Value.int .u8)):=fun w' hb=>⟨(hK0.below hb hK0.lt).rangeAll,(hN0.below hb hN0.lt).rangeAll⟩
  obtain ⟨V0,hV0⟩:∃q,W0.drew=q:=⟨_,rfl⟩
  have hb0:Below W0.heap.size W0 V0:=by rw [←hV0];exact (Below.refl _ _).drew
  rw [hV0];clear hV0;have hS:=keep _ hb0;refine zg 0 17 23 4 w.heap.size 0 (k.map (Value.int .u8)) hS (fun _ h=>h.1) uK iK ?_;simp only [zp];refine zg 1 18 79 5 ((w.heap.size+1)) 0 (n.map (Value.int .u8)) hS (fun _ h=>h.2) uN iN ?_;simp only [zp];refine gaA 3 _ hS ?_;simp only [zp];refine gaA 4 _ hS ?_;simp only [zp];refine gaA 5 _ hS ?_;simp only [zp];refine gaA 6 _ hS ?_;simp only [zp];refine co (i:=2) (j:=9) rfl rfl (by kernel_rfl) (by kernel_rfl) (by kernel_rfl) (fun K hK=>?_) (fun K hK=>?_)
  · skip
    go_wp2_with (go_at_call 91;refine (hon _).mono ?_;rintro e u1 ⟨rfl,hx1⟩)
    have hb1:Below W0.heap.size W0 u1:=hb0.trans (hx1.mono hb0.size);replace hS:=keep _ hb1;refine hK.out _ _ (fun _=>hS) ?_;clear hK K;refine co (i:=7) (j:=9) rfl rfl (by kernel_rfl) (by kernel_rfl) (by kernel_rfl) (fun K hK=>?_) (fun K hK=>?_)
    · skip
      go_wp2_with (go_at_call 92;refine (hfr _ (hB0.trans (hb1.mono hB0.size))).mono ?_;rintro e u2 ⟨v2,rfl,ho2,hx2⟩)
      have hb2:Below W0.heap.size W0 u2:=hb1.trans (hx2.mono hb1.size);replace hS:=keep _ hb2;refine hK.out _ _ (fun _=>hS) ?_;clear hK K;refine co (i:=8) (j:=9) rfl rfl (by kernel_rfl) (by kernel_rfl) (by kernel_rfl) (fun K hK=>?_) (fun K hK=>?_)
      · skip
        go_wp2_with (go_at_call 90;refine (htg _ _ _ ho2).mono ?_;rintro e u3 ⟨rfl,hx3⟩)
        have hb3:Below W0.heap.size W0 u3:=hb2.trans (hx3.mono hb2.size);replace hS:=keep _ hb3;refine hK.out _ _ (fun _=>hS) ?_;clear hK K;refine zw 9 fun K hK=>?_
        have hge3:=hb3.size;go_simp;have hA4:aa (u3.alloc (.cells (row .u8 (List.replicate 16 0)) 120)) u3.heap.size .u8 120 (List.replicate 16 0):=aa.new u3 .u8 120 (List.replicate 16 0);have hn4:Below u3.heap.size u3 (u3.alloc (.cells (row .u8 (List.replicate 16 0)) 120)):=(Below.refl _ _).alloc (Nat.le_refl _) _;have hb4:Below W0.heap.size W0 (u3.alloc (.cells (row .u8 (List.replicate 16 0)) 120)):=hb3.trans (hn4.mono hb3.size);replace hS:=keep _ hb4;refine hK.out _ _ (fun _=>hS) ?_;clear hK K;obtain ⟨G4,hGe4⟩:∃q,u3.heap.size=q:=⟨_,rfl⟩
        obtain ⟨U4,hU4⟩:∃q,u3.alloc (.cells (row .u8 (List.replicate 16 0)) 120)=q:=⟨_,rfl⟩
        have hc4:u3.alloc (.cells #[.int .u8 0,.int .u8 0,.int .u8 0,.int .u8 0,.int .u8 0,.int .u8 0,.int .u8 0,.int .u8 0,.int .u8 0,.int .u8 0,.int .u8 0,.int .u8 0,.int .u8 0,.int .u8 0,.int .u8 0,.int .u8 0] 120)=U4:=hU4;rw [hU4,hGe4] at hA4
        rw [hGe4] at hge3
        rw [hU4] at hb4 hS
        rw [hc4,hGe4];clear hGe4 hU4 hc4 hn4;refine zw 10 fun K hK=>?_
        refine dI 120 _ _ rfl _ rfl rfl hA4 (by rw [hTl];exact eG) (by simp [hTl]) ?_;refine hK.out _ _ zn ?_;clear hK K;refine ah (by kernel_rfl) ?_ _;have hz5:Below W0.heap.size W0 (U4.setRow G4 (row .u8 TG)):=below_setRow hb4 hge3 _;refine ae (p:=fun y=>Exit.then _ _ _ _ y) (fun W=>Below W0.heap.size W0 W∧aa W G4 .u8 120 TG) ⟨hz5,hA4.setRow TG⟩ ?_;rintro W1 ⟨hb01,hG1⟩;have hB1:Below w.heap.size w W1:=hB0.trans (hb01.mono hB0.size);have hK1:=hK0.below hb01 hK0.lt;have hN1:=hN0.below hb01 hN0.lt;have hcg:∀wx,Below W1.heap.size W1 wx→(convert 41 9 (.slice (some ⟨G4,0,none⟩) 16 16)).run Tryz.prog wx=.ok (.string SG) wx:=fun wx hb=>by rw [←HSG.out];exact cn ((hG1.below hb hG1.lt).bytes hTl.symm (by omega))
        have hct:∀wx,Below W1.heap.size W1 wx→(convert 41 9 (.slice Y2 16 (cb - M))).run Tryz.prog wx=.ok (.string ST) wx:=fun wx hb=>HST.out wx (hB1.trans (hb.mono hB1.size))
        clear hK0 hN0 hb01 hG1 HSG HST hfr htg hon;go_upto_region 5 with fail
        refine ag (fun w'=>(convert 41 9 (.slice (some ⟨G4,0,none⟩) 16 16)).run Tryz.prog w'=.ok (.string SG) w'∧(convert 41 9 (.slice Y2 16 (cb - M))).run Tryz.prog w'=.ok (.string ST) w') 6 (by kernel_rfl) ?_;have hS:=And.intro (hcg _ (Below.refl _ _).drew) (hct _ (Below.refl _ _).drew);refine gaA 0 _ hS ?_;simp only [zp];refine grA 1 _ hS ?_;simp only [zp];refine gaA 2 _ hS ?_;simp only [zp];refine gaA 3 _ hS ?_;simp only [zp];refine gaA 4 _ hS ?_;simp only [zp];refine grA 5 _ hS ?_;simp only [zp];refine zw 6 fun K hK=>?_
        go_simp;refine hK.out _ _ zn ?_;clear hK K;refine ah (by kernel_rfl) ?_ _;clear hcg hct hS;go_wp2
        go_ret2
        exact ⟨rfl,hB1.drew⟩
      · skip
        have hge5:=hb2.size;go_simp;have hA6:aa (u2.alloc (.cells (row .u8 (List.replicate 16 0)) 120)) u2.heap.size .u8 120 (List.replicate 16 0):=aa.new u2 .u8 120 (List.replicate 16 0);have hn6:Below u2.heap.size u2 (u2.alloc (.cells (row .u8 (List.replicate 16 0)) 120)):=(Below.refl _ _).alloc (Nat.le_refl _) _;have hb6:Below W0.heap.size W0 (u2.alloc (.cells (row .u8 (List.replicate 16 0)) 120)):=hb2.trans (hn6.mono hb2.size);have ho2n6:=ho2.afar hn6;replace hS:=keep _ hb6;refine hK.out _ _ (fun _=>hS) ?_;clear hK K;obtain ⟨G6,hGe6⟩:∃q,u2.heap.size=q:=⟨_,rfl⟩
        obtain ⟨U6,hU6⟩:∃q,u2.alloc (.cells (row .u8 (List.replicate 16 0)) 120)=q:=⟨_,rfl⟩
        have hc6:u2.alloc (.cells #[.int .u8 0,.int .u8 0,.int .u8 0,.int .u8 0,.int .u8 0,.int .u8 0,.int .u8 0,.int .u8 0,.int .u8 0,.int .u8 0,.int .u8 0,.int .u8 0,.int .u8 0,.int .u8 0,.int .u8 0,.int .u8 0] 120)=U6:=hU6;rw [hU6,hGe6] at hA6
        rw [hGe6] at hge5
        rw [hU6] at hb6 hS ho2n6
        rw [hc6,hGe6];clear hGe6 hU6 hc6 hn6;refine zw 8 fun K hK=>?_
        go_wp2_with (go_at_call 90;refine (htg _ _ _ ho2n6).mono ?_;rintro e u7 ⟨rfl,hx7⟩)
        have hb7:Below W0.heap.size W0 u7:=hb6.trans (hx7.mono hb6.size);replace hS:=keep _ hb7;have hAc7:=hA6.below hx7 hA6.lt;refine hK.out _ _ (fun _=>hS) ?_;clear hK K;refine zw 10 fun K hK=>?_
        refine dI 120 _ _ rfl _ rfl rfl hAc7 (by rw [hTl];exact eG) (by simp [hTl]) ?_;refine hK.out _ _ zn ?_;clear hK K;refine ah (by kernel_rfl) ?_ _;have hz8:Below W0.heap.size W0 (u7.setRow G6 (row .u8 TG)):=below_setRow hb7 hge5 _;refine ae (p:=fun y=>Exit.then _ _ _ _ y) (fun W=>Below W0.heap.size W0 W∧aa W G6 .u8 120 TG) ⟨hz8,hAc7.setRow TG⟩ ?_;rintro W1 ⟨hb01,hG1⟩;have hB1:Below w.heap.size w W1:=hB0.trans (hb01.mono hB0.size);have hK1:=hK0.below hb01 hK0.lt;have hN1:=hN0.below hb01 hN0.lt;have hcg:∀wx,Below W1.heap.size W1 wx→(convert 41 9 (.slice (some ⟨G6,0,none⟩) 16 16)).run Tryz.prog wx=.ok (.string SG) wx:=fun wx hb=>by rw [←HSG.out];exact cn ((hG1.below hb hG1.lt).bytes hTl.symm (by omega))
        have hct:∀wx,Below W1.heap.size W1 wx→(convert 41 9 (.slice Y2 16 (cb - M))).run Tryz.prog wx=.ok (.string ST) wx:=fun wx hb=>HST.out wx (hB1.trans (hb.mono hB1.size))
        clear hK0 hN0 hb01 hG1 HSG HST hfr htg hon;go_upto_region 5 with fail
        refine ag (fun w'=>(convert 41 9 (.slice (some ⟨G6,0,none⟩) 16 16)).run Tryz.prog w'=.ok (.string SG) w'∧(convert 41 9 (.slice Y2 16 (cb - M))).run Tryz.prog w'=.ok (.string ST) w') 6 (by kernel_rfl) ?_;have hS:=And.intro (hcg _ (Below.refl _ _).drew) (hct _ (Below.refl _ _).drew);refine gaA 0 _ hS ?_;simp only [zp];refine grA 1 _ hS ?_;simp only [zp];refine gaA 2 _ hS ?_;simp only [zp];refine gaA 3 _ hS ?_;simp only [zp];refine gaA 4 _ hS ?_;simp only [zp];refine grA 5 _ hS ?_;simp only [zp];refine zw 6 fun K hK=>?_
        go_simp;refine hK.out _ _ zn ?_;clear hK K;refine ah (by kernel_rfl) ?_ _;clear hcg hct hS;go_wp2
        go_ret2
        exact ⟨rfl,hB1.drew⟩
    · skip
      have hge8:=hb1.size;go_simp;have hA9:aa (u1.alloc (.cells (row .u8 (List.replicate 16 0)) 120)) u1.heap.size .u8 120 (List.replicate 16 0):=aa.new u1 .u8 120 (List.replicate 16 0);have hn9:Below u1.heap.size u1 (u1.alloc (.cells (row .u8 (List.replicate 16 0)) 120)):=(Below.refl _ _).alloc (Nat.le_refl _) _;have hb9:Below W0.heap.size W0 (u1.alloc (.cells (row .u8 (List.replicate 16 0)) 120)):=hb1.trans (hn9.mono hb1.size);replace hS:=keep _ hb9;refine hK.out _ _ (fun _=>hS) ?_;clear hK K;obtain ⟨G9,hGe9⟩:∃q,u1.heap.size=q:=⟨_,rfl⟩
      obtain ⟨U9,hU9⟩:∃q,u1.alloc (.cells (row .u8 (List.replicate 16 0)) 120)=q:=⟨_,rfl⟩
      have hc9:u1.alloc (.cells #[.int .u8 0,.int .u8 0,.int .u8 0,.int .u8 0,.int .u8 0,.int .u8 0,.int .u8 0,.int .u8 0,.int .u8 0,.int .u8 0,.int .u8 0,.int .u8 0,.int .u8 0,.int .u8 0,.int .u8 0,.int .u8 0] 120)=U9:=hU9;rw [hU9,hGe9] at hA9
      rw [hGe9] at hge8
      rw [hU9] at hb9 hS
      rw [hc9,hGe9];clear hGe9 hU9 hc9 hn9;refine zw 7 fun K hK=>?_
      go_wp2_with (go_at_call 92;refine (hfr _ (hB0.trans (hb9.mono hB0.size))).mono ?_;rintro e u10 ⟨v10,rfl,ho10,hx10⟩)
      have hb10:Below W0.heap.size W0 u10:=hb9.trans (hx10.mono hb9.size);replace hS:=keep _ hb10;have hAc10:=hA9.below hx10 hA9.lt;refine hK.out _ _ (fun _=>hS) ?_;clear hK K;refine zw 8 fun K hK=>?_
      go_wp2_with (go_at_call 90;refine (htg _ _ _ ho10).mono ?_;rintro e u11 ⟨rfl,hx11⟩)
      have hb11:Below W0.heap.size W0 u11:=hb10.trans (hx11.mono hb10.size);replace hS:=keep _ hb11;have hAc11:=hAc10.below hx11 hAc10.lt;refine hK.out _ _ (fun _=>hS) ?_;clear hK K;refine zw 10 fun K hK=>?_
      refine dI 120 _ _ rfl _ rfl rfl hAc11 (by rw [hTl];exact eG) (by simp [hTl]) ?_;refine hK.out _ _ zn ?_;clear hK K;refine ah (by kernel_rfl) ?_ _;have hz12:Below W0.heap.size W0 (u11.setRow G9 (row .u8 TG)):=below_setRow hb11 hge8 _;refine ae (p:=fun y=>Exit.then _ _ _ _ y) (fun W=>Below W0.heap.size W0 W∧aa W G9 .u8 120 TG) ⟨hz12,hAc11.setRow TG⟩ ?_;rintro W1 ⟨hb01,hG1⟩;have hB1:Below w.heap.size w W1:=hB0.trans (hb01.mono hB0.size);have hK1:=hK0.below hb01 hK0.lt;have hN1:=hN0.below hb01 hN0.lt;have hcg:∀wx,Below W1.heap.size W1 wx→(convert 41 9 (.slice (some ⟨G9,0,none⟩) 16 16)).run Tryz.prog wx=.ok (.string SG) wx:=fun wx hb=>by rw [←HSG.out];exact cn ((hG1.below hb hG1.lt).bytes hTl.symm (by omega))
      have hct:∀wx,Below W1.heap.size W1 wx→(convert 41 9 (.slice Y2 16 (cb - M))).run Tryz.prog wx=.ok (.string ST) wx:=fun wx hb=>HST.out wx (hB1.trans (hb.mono hB1.size))
      clear hK0 hN0 hb01 hG1 HSG HST hfr htg hon;go_upto_region 5 with fail
      refine ag (fun w'=>(convert 41 9 (.slice (some ⟨G9,0,none⟩) 16 16)).run Tryz.prog w'=.ok (.string SG) w'∧(convert 41 9 (.slice Y2 16 (cb - M))).run Tryz.prog w'=.ok (.string ST) w') 6 (by kernel_rfl) ?_;have hS:=And.intro (hcg _ (Below.refl _ _).drew) (hct _ (Below.refl _ _).drew);refine gaA 0 _ hS ?_;simp only [zp];refine grA 1 _ hS ?_;simp only [zp];refine gaA 2 _ hS ?_;simp only [zp];refine gaA 3 _ hS ?_;simp only [zp];refine gaA 4 _ hS ?_;simp only [zp];refine grA 5 _ hS ?_;simp only [zp];refine zw 6 fun K hK=>?_
      go_simp;refine hK.out _ _ zn ?_;clear hK K;refine ah (by kernel_rfl) ?_ _;clear hcg hct hS;go_wp2
      go_ret2
      exact ⟨rfl,hB1.drew⟩
  · skip
    have hge12:=hb0.size;go_simp;have hA13:aa (V0.alloc (.cells (row .u8 (List.replicate 16 0)) 120)) V0.heap.size .u8 120 (List.replicate 16 0):=aa.new V0 .u8 120 (List.replicate 16 0);have hn13:Below V0.heap.size V0 (V0.alloc (.cells (row .u8 (List.replicate 16 0)) 120)):=(Below.refl _ _).alloc (Nat.le_refl _) _;have hb13:Below W0.heap.size W0 (V0.alloc (.cells (row .u8 (List.replicate 16 0)) 120)):=hb0.trans (hn13.mono hb0.size);replace hS:=keep _ hb13;refine hK.out _ _ (fun _=>hS) ?_;clear hK K;obtain ⟨G13,hGe13⟩:∃q,V0.heap.size=q:=⟨_,rfl⟩
    obtain ⟨U13,hU13⟩:∃q,V0.alloc (.cells (row .u8 (List.replicate 16 0)) 120)=q:=⟨_,rfl⟩
    have hc13:V0.alloc (.cells #[.int .u8 0,.int .u8 0,.int .u8 0,.int .u8 0,.int .u8 0,.int .u8 0,.int .u8 0,.int .u8 0,.int .u8 0,.int .u8 0,.int .u8 0,.int .u8 0,.int .u8 0,.int .u8 0,.int .u8 0,.int .u8 0] 120)=U13:=hU13;rw [hU13,hGe13] at hA13
    rw [hGe13] at hge12
    rw [hU13] at hb13 hS
    rw [hc13,hGe13];clear hGe13 hU13 hc13 hn13;refine zw 2 fun K hK=>?_
    go_wp2_with (go_at_call 91;refine (hon _).mono ?_;rintro e u14 ⟨rfl,hx14⟩)
    have hb14:Below W0.heap.size W0 u14:=hb13.trans (hx14.mono hb13.size);replace hS:=keep _ hb14;have hAc14:=hA13.below hx14 hA13.lt;refine hK.out _ _ (fun _=>hS) ?_;clear hK K;refine zw 7 fun K hK=>?_
    go_wp2_with (go_at_call 92;refine (hfr _ (hB0.trans (hb14.mono hB0.size))).mono ?_;rintro e u15 ⟨v15,rfl,ho15,hx15⟩)
    have hb15:Below W0.heap.size W0 u15:=hb14.trans (hx15.mono hb14.size);replace hS:=keep _ hb15;have hAc15:=hAc14.below hx15 hAc14.lt;refine hK.out _ _ (fun _=>hS) ?_;clear hK K;refine zw 8 fun K hK=>?_
    go_wp2_with (go_at_call 90;refine (htg _ _ _ ho15).mono ?_;rintro e u16 ⟨rfl,hx16⟩)
    have hb16:Below W0.heap.size W0 u16:=hb15.trans (hx16.mono hb15.size);replace hS:=keep _ hb16;have hAc16:=hAc15.below hx16 hAc15.lt;refine hK.out _ _ (fun _=>hS) ?_;clear hK K;refine zw 10 fun K hK=>?_
    refine dI 120 _ _ rfl _ rfl rfl hAc16 (by rw [hTl];exact eG) (by simp [hTl]) ?_;refine hK.out _ _ zn ?_;clear hK K;refine ah (by kernel_rfl) ?_ _;have hz17:Below W0.heap.size W0 (u16.setRow G13 (row .u8 TG)):=below_setRow hb16 hge12 _;refine ae (p:=fun y=>Exit.then _ _ _ _ y) (fun W=>Below W0.heap.size W0 W∧aa W G13 .u8 120 TG) ⟨hz17,hAc16.setRow TG⟩ ?_;rintro W1 ⟨hb01,hG1⟩;have hB1:Below w.heap.size w W1:=hB0.trans (hb01.mono hB0.size);have hK1:=hK0.below hb01 hK0.lt;have hN1:=hN0.below hb01 hN0.lt;have hcg:∀wx,Below W1.heap.size W1 wx→(convert 41 9 (.slice (some ⟨G13,0,none⟩) 16 16)).run Tryz.prog wx=.ok (.string SG) wx:=fun wx hb=>by rw [←HSG.out];exact cn ((hG1.below hb hG1.lt).bytes hTl.symm (by omega))
    have hct:∀wx,Below W1.heap.size W1 wx→(convert 41 9 (.slice Y2 16 (cb - M))).run Tryz.prog wx=.ok (.string ST) wx:=fun wx hb=>HST.out wx (hB1.trans (hb.mono hB1.size))
    clear hK0 hN0 hb01 hG1 HSG HST hfr htg hon;go_upto_region 5 with fail
    refine ag (fun w'=>(convert 41 9 (.slice (some ⟨G13,0,none⟩) 16 16)).run Tryz.prog w'=.ok (.string SG) w'∧(convert 41 9 (.slice Y2 16 (cb - M))).run Tryz.prog w'=.ok (.string ST) w') 6 (by kernel_rfl) ?_;have hS:=And.intro (hcg _ (Below.refl _ _).drew) (hct _ (Below.refl _ _).drew);refine gaA 0 _ hS ?_;simp only [zp];refine grA 1 _ hS ?_;simp only [zp];refine gaA 2 _ hS ?_;simp only [zp];refine gaA 3 _ hS ?_;simp only [zp];refine gaA 4 _ hS ?_;simp only [zp];refine grA 5 _ hS ?_;simp only [zp];refine zw 6 fun K hK=>?_
    go_simp;refine hK.out _ _ zn ?_;clear hK K;refine ah (by kernel_rfl) ?_ _;clear hcg hct hS;go_wp2
    go_ret2
    exact ⟨rfl,hB1.drew⟩
end Go.Proofs.YtbdhfbglagdiaaaGreatDoor
