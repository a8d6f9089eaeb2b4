/- Ao2b StrC Ao3 -/
import Derived.Test.YtbdhfbglagdiaaaGreatDoorJ40
import Derived.Test.YtbdhfbglagdiaaaGreatDoorJ25
import Derived.Test.YtbdhfbglagdiaaaGreatDoorJ43
import Derived.Test.YtbdhfbglagdiaaaGreatDoorJ02
import Derived.Test.YtbdhfbglagdiaaaGreatDoorJ03
namespace Go.Proofs.YtbdhfbglagdiaaaGreatDoor
open Go.RowKit
set_option maxRecDepth 20000
set_option maxHeartbeats 2000000
set_option linter.unusedSimpArgs false
theorem aq.afar {w w':World} {base:Nat} {v:Value} {z:List Int} (h:aq w base v z) (hb:Below w.heap.size w w'):aq w' base v z:=h.keep (fun g _ hg=>hb.block g hg)
theorem rq (k n o s:List Int) (v:Value) (base:Nat) (w:World) (ho:aq w base v (bg o s)) (huo:∀v∈o,isB v) (hus:∀v∈s,isB v) (hl:(bg o s).length≤1000000):
    Calls Tryz.prog 90 #[.agg (row .u8 (eR k n)),v] w fun e w'=>e=.returned (.agg (row .u8 (tagL k n o s)))∧Below w.heap.size w w':=by
 obtain ⟨x',n',c',rfl,hn'⟩:=ho.isSlice;exact js (eR k n) x' n' c' (bg o s) w (ef k n) (fun v hv=>lN _ 16 v (List.mem_of_mem_take hv)) ho.bytes.2 (ls o s huo hus) (by rw [hn'];exact hl)
theorem pC (k n:List Int) (x:Option Addr) (len cap:Nat) (o:List Int) (y:Option Addr) (lb cb:Nat) (b:List Int) (w:World) (hk:k.length=32) (hn:n.length=12) (hx:Bytes w x len cap o) (hy:Bytes w y lb cb b) (hl1:len≤100000) (hl2:lb≤100000) (huo:∀v∈o,isB v) (hub:∀v∈b,isB v):
    Calls Tryz.prog 42 #[.agg (row .u8 k),.agg (row .u8 n),.slice x len cap,.slice y lb cb] w fun e w'=>∃v,e=.returned v∧aq w' w.heap.size v (dK k n o b)∧Below w.heap.size w w':=by
 have hxor:=fun wx (hb:Below w.heap.size w wx)=>qC k n 1 y lb cb b wx hk hn (hy.below hb) (by omega)
 have hXl:(cG k n 1 b).length=lb:=by rw [bd];exact hy.len_eq.symm
 have hXu:=ln k n 1 b hub;have HSE:ac (cG k n 1 b++tagL k n o (cG k n 1 b)=dK k n o b):=⟨rfl⟩
 have hTl:(tagL k n o (cG k n 1 b)).length=16:=cT _ _;have hon:=fun wx=>pq k n wx hk hn
 have HFL:ac ((bg o (cG k n 1 b)).length≤1000000):=⟨by rw [e9,←hx.len_eq,hXl];have:=dg len;have:=dg lb;omega⟩
 have hfr:=fun (v:Option Addr) (c:Nat) wx (hb:Below w.heap.size w wx) (hh:Bytes wx v lb c (cG k n 1 b))=>my x len cap o v lb c (cG k n 1 b) wx (hx.below hb) hh hl1 hl2
 have htg:=fun (v:Value) (base:Nat) (wx:World) (ho:aq wx base v (bg o (cG k n 1 b)))=>rq k n o (cG k n 1 b) v base wx ho huo hXu HFL.out
 obtain ⟨X,hX⟩:∃q,cG k n 1 b=q:=⟨_,rfl⟩
 rw [hX] at hxor hXl HSE hTl hfr htg
 obtain ⟨T,hT⟩:∃q,tagL k n o X=q:=⟨_,rfl⟩
 rw [hT] at HSE hTl htg
 obtain ⟨F,hF⟩:∃q,bg o X=q:=⟨_,rfl⟩
 rw [hF] at hfr htg
 obtain ⟨OT,hOT⟩:∃q,eR k n=q:=⟨_,rfl⟩
 rw [hOT] at hon htg
 have HXL:ac (X.length=lb):=⟨hXl⟩
 have hK0:=(aa.new w .u8 23 k).alloc (.cells (row .u8 n) 79);have hN0:=aa.new (w.alloc (.cells (row .u8 k) 23)) .u8 79 n;have hB0:Below w.heap.size w ((w.alloc (.cells (row .u8 k) 23)).alloc (.cells (row .u8 n) 79)):=((Below.refl _ _).alloc (Nat.le_refl _) _).alloc (by simp) _;rw [World.size_alloc] at hN0
 clear hX hT hF hOT hx hy huo hub hXu HFL hXl;go_enter Tryz.func42,Tryz.ntmps42;go_upto_region 1 with fail
 refine af (p:=fun y=>Code.wp _ _ _ _ y) (fun W0=>Below w.heap.size w W0∧aa W0 w.heap.size .u8 23 k∧aa W0 (w.heap.size+1) .u8 79 n) ⟨hB0,hK0,hN0⟩ ?_;clear hK0 hN0 hB0;rintro W0 ⟨hB0,hK0,hN0⟩;go_upto_region 2 with (first
  |(refine am rfl 23 _ rfl _ rfl hK0 Tryz.underlying23 eO hk ?_)
  |(refine am rfl 79 _ rfl _ rfl hN0 Tryz.underlying79 jf hn ?_)
  |(go_at_call 89;refine (hxor _ hB0).mono ?_;rintro e w1 ⟨v1,rfl,ho1,hb1⟩))
 have hB1:Below w.heap.size w w1:=hB0.trans (hb1.mono hB0.size);have hK1:=hK0.below hb1 hK0.lt;have hN1:=hN0.below hb1 hN0.lt;obtain ⟨x1,n1,c1,rfl,hn1⟩:=ho1.isSlice;rw [HXL.out] at hn1
 have hn1':=hn1.symm;clear hn1;subst hn1';have hW0:=hB0.size;have ho1':=ho1.lessG (base':=w.heap.size) hW0;have hBy1:=ho1.bytes.2;clear hxor hK0 hN0 ho1 hb1 hB0;go_upto_region 3 with (first
  |(refine am rfl 23 _ rfl _ rfl hK1 Tryz.underlying23 eO hk ?_)
  |(refine am rfl 79 _ rfl _ rfl hN1 Tryz.underlying79 jf hn ?_)
  |(go_at_call 91;refine (hon _).mono ?_;rintro e w2 ⟨rfl,hb2⟩;have hB2:Below w.heap.size w w2:=hB1.trans (hb2.mono hB1.size);have hfr2:=hfr x1 c1 w2 hB2 (hBy1.below hb2))
  |(go_at_call 92;refine hfr2.mono ?_;rintro e w3 ⟨v3,rfl,ho3,hb3⟩;have htg3:=htg v3 _ w3 ho3)
  |(go_at_call 90;refine htg3.mono ?_;rintro e w4 ⟨rfl,hb4⟩;have hA4:=aa.new w4 .u8 120 (List.replicate 16 0))
  |(refine ah rfl 120 _ _ rfl _ rfl rfl hA4 (by rw [hTl];exact je) (by simp [hTl]) ?_))
 have hb14:Below w1.heap.size w1 w4:=(hb2.trans (hb3.mono hb2.size)).trans (hb4.mono (hb2.trans (hb3.mono hb2.size)).size);have hb15:Below w1.heap.size w1 ((w4.alloc (.cells (row .u8 (List.replicate 16 0)) 120)).setRow w4.heap.size (row .u8 T)):=below_setRow (hb14.alloc hb14.size _) hb14.size _;refine af (p:=fun y=>Code.wp _ _ _ _ y) (fun W5=>Below w.heap.size w W5∧aa W5 w4.heap.size .u8 120 T∧aq W5 w.heap.size (.slice x1 lb c1) X) ⟨hB1.trans (hb15.mono hB1.size),hA4.setRow _,ho1'.afar hb15⟩ ?_;obtain ⟨G,hG⟩:∃q,w4.heap.size=q:=⟨_,rfl⟩
 rw [hG];clear hG hb14 hb15 hA4 hb4 htg3 ho3 hb3 hfr2 hB2 hb2 hBy1 ho1' hK1 hN1 hB1 hfr htg hon;rintro W5 ⟨hB5,hG5,ho5⟩;have hT5:Bytes W5 (some ⟨G,0,none⟩) 16 16 T:=hG5.bytes hTl.symm (by omega)
 go_wp2_with (at_builtin;refine aF rfl _ _ rfl w.heap.size _ X rfl ho5 (some ⟨G,0,none⟩) 16 16 T rfl hT5 (by rw [HXL.out];omega) hB5.size ?_;intro v6 w6 ho6 hg6)
 rw [HSE.out] at ho6
 go_ret;exact ⟨_,rfl,ho6,below_grown hB5 ho5 hg6 hB5.size⟩
end Go.Proofs.YtbdhfbglagdiaaaGreatDoor
