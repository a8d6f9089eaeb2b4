/- Mac3 Mac4 GateS GateS2 Mac5 -/
import Derived.Test.YtbdhfbglagdiaaaGreatDoorJ19
import Derived.OrdersHeld
import Derived.Deep.RegionHeld
import Derived.StillTail
import Derived.Test.YtbdhfbglagdiaaaGreatDoorJ08
import Derived.Deep.MidRow
namespace Go.Proofs.YtbdhfbglagdiaaaGreatDoor.S
open Go.RowKit
set_option maxRecDepth 20000
structure dr where
 x:Option Addr
 len:Nat
 cap:Nat
 z:List Int
def aQ (w:World) (base pb:Nat) (ps:List dr):Prop:=
 ∀w',Below base w w'→∀j (hj:j<ps.length),w'.cell? ⟨pb,j,none⟩=some (.slice ps[j].x ps[j].len ps[j].cap)∧Bytes w' ps[j].x ps[j].len ps[j].cap ps[j].z
def aZ (ps:List dr):List Int:=ps.flatMap (·.z)
theorem qA (ps:List dr) (k:Nat) (h:k<ps.length):aZ (ps.take (k+1))=aZ (ps.take k)++ps[k].z:=by
 unfold aZ;rw [List.take_succ_eq_append_getElem h,List.flatMap_append];simp
theorem pm (H base pb n cap:Nat) (v:Value) (zs:List Int) (ps:List dr) (w:World) (hbox:Box w H 227 v) (hown:aq w base v zs) (hH:base≤H) (hps:aQ w base pb ps) (hn:n=ps.length) (hn2:n≤1000)
    (hlen:∀k,k≤ps.length→zs.length+(aZ (ps.take k)).length≤1000000) (hlen2:∀p∈ps,p.len≤1000000):
    Calls Tryz.prog 178 #[.func (.func 179) #[.pointer (some ⟨H,0,none⟩)] #[],.slice (some ⟨pb,0,none⟩) n cap] w fun e w'=>(∃r,e=.returned r)∧∃v',Box w' H 227 v'∧aq w' base v' (zs++aZ ps)∧Below base w w':=by
 have HN:Hid (n=ps.length):=hn;clear hn;go_enter Tryz.func178,Tryz.ntmps178
 go_wp2_with fail
 go_loopw [8] (fun i wr=>∃k:Nat,k≤n∧i=.int .i64 k∧Below base w wr∧∃v,Box wr H 227 v∧aq wr base v (zs++aZ (ps.take k))) (fun i _=>n - (intOf i).toNat)
 case atStart=>exact ⟨0,by omega,rfl,Below.refl _ _,v,hbox,by simpa [aZ] using hown⟩
 case round=>
  obtain ⟨k,hk,rfl,hB,v1,hb1,ho1⟩:=hrel
  by_cases hlt:k<n
  · have hkp:k<ps.length:=by have:=HN.out;omega
    obtain ⟨hc,hy⟩:=hps wr hB k hkp;have hl1:=hlen k (by omega);have hl2:=hlen2 ps[k] (List.getElem_mem hkp);have tk:=eI H base v1 (zs++aZ (ps.take k)) ps[k].x ps[k].len ps[k].cap ps[k].z wr hb1 ho1 hy (by rw [List.length_append];omega) hH;have hsn:=qA ps k hkp;rw [List.append_assoc,←hsn] at tk
    obtain ⟨X,hX⟩:∃X,ps[k].x=X:=⟨_,rfl⟩
    obtain ⟨L,hL⟩:∃X,ps[k].len=X:=⟨_,rfl⟩
    obtain ⟨C,hC⟩:∃X,ps[k].cap=X:=⟨_,rfl⟩
    rw [hX,hL,hC] at hc tk
    clear hX hL hC hsn hl1 hl2 hy hlen hlen2
    go_wp2_with (go_at_call 179;refine tk.mono ?_;rintro e w2 ⟨⟨r,rfl⟩,v2,hb2,ho2,hB2⟩)
    go_roundw
    case rel=>
     first
      |exact ⟨k+1,by omega,by go_num,hB.trans hB2,v2,hb2,ho2⟩
      |((repeat apply Exists.intro);exact ⟨⟨k+1,by omega,by go_num,hB.trans hB2,v2,hb2,ho2⟩,rfl⟩)
    case measure=>simp [intOf];omega
  · obtain rfl:k=n:=by omega
    go_wp2
    go_end0
    rw [List.take_of_length_le (by have:=HN.out;omega)] at ho1
    exact ⟨⟨_,rfl⟩,v1,hb1,ho1,hB⟩
def bt (k:List Int):List Int:=(if 64<k.length then sumL k else k)++List.replicate (64 - (if 64<k.length then sumL k else k).length) 0
theorem eW (k:List Int):(bt k).length=64:=by
 unfold bt
 by_cases h:64<k.length
 · rw [if_pos h,List.length_append,aW,List.length_replicate]
 · rw [if_neg h,List.length_append,List.length_replicate];omega
set_option maxHeartbeats 1000000
set_option linter.unusedSimpArgs false
structure dl (p:Prop):Prop where
 out:p
theorem jz (x:Option Addr) (len cap:Nat) (z:List Int) (w:World) (hb:Bytes w x len cap z) (hln:len≤1000000) (hk:KTab w):
    Calls Tryz.prog 161 #[.slice x len cap] w fun e w'=>e=.returned (.agg (row .u8 (bt z)))∧Below w.heap.size w w':=by
 have hz:=hb.len_eq;have hfl:=eW z
 by_cases h64:64<len
 · have hs:∀wx,Below w.heap.size w wx→Calls Tryz.prog 59 #[.slice x len cap] wx fun e w'=>e=.returned (.agg (row .u8 (sumL z)))∧Below wx.heap.size wx w':=fun wx hx=>sN x len cap z wx (hb.below hx) hln (hk.below hx)
   have hdl:=aW z;have hff:bt z=sumL z++List.replicate (64 - (sumL z).length) 0:=by unfold bt;rw [if_pos (by omega)]
   obtain ⟨D,hD⟩:∃D,sumL z=D:=⟨_,rfl⟩
   obtain ⟨FL,hFL⟩:∃D,bt z=D:=⟨_,rfl⟩
   rw [hD] at hs hdl hff
   rw [hFL] at hff hfl
   have HF:dl (FL=D++List.replicate (64 - D.length) 0):=⟨hff⟩
   have HFL:dl (bt z=FL):=⟨hFL⟩
   clear hff hFL hD hz;have h64i:(64:Int)<(len:Int):=by omega
   go_enter Tryz.func161,Tryz.ntmps161;go_upto_region 1 with fail
   refine af (p:=fun y=>Code.wp _ _ _ _ y) (fun W0=>Below w.heap.size w W0∧W0.heap.size=w.heap.size+1∧aa W0 w.heap.size .u8 204 (List.replicate 64 0)) ⟨(Below.refl _ _).alloc (Nat.le_refl _) _,by simp,aa.new w .u8 204 (List.replicate 64 0)⟩ ?_;rintro W0 ⟨hB0,hs0,hR0⟩;go_upto_region 4 with (first
    |(go_at_call 59;refine (hs _ hB0).mono ?_;rintro e w1 ⟨rfl,hb1⟩;have hN1:=aa.new w1 .u8 23 (List.replicate 32 0))
    |(refine ah rfl 23 _ _ rfl _ rfl rfl hN1 (by rw [hdl];exact aI) (by simp [hdl]) ?_))
   have hsz1:=hb1.size;refine af (p:=fun y=>Code.wp _ _ _ _ y) (fun W1=>Below w.heap.size w W1∧w.heap.size+1≤W1.heap.size∧aa W1 w.heap.size .u8 204 (List.replicate 64 0)∧Bytes W1 (some ⟨w1.heap.size,0,none⟩) 32 32 D) ⟨below_setRow ((hB0.trans (hb1.mono hB0.size)).alloc (by omega) _) (by omega) _,by simp;omega,((hR0.below hb1 (by omega)).alloc _).setRowOther _ (by omega),(hN1.setRow D).bytes hdl.symm (by omega)⟩ ?_;clear hN1 hB0 hs0 hR0 hb1 hs hk hb;rintro W1 ⟨hB1,hs1,hR1,hY1⟩;have hK0:=aa.new W1 .u8 204 (List.replicate 64 0);go_upto_region 5 with fail
   refine af (p:=fun y=>Code.wp _ _ _ _ y) (fun W3=>Below w.heap.size w W3∧aa W3 w.heap.size .u8 204 (List.replicate 64 0)∧aa W3 W1.heap.size .u8 204 (List.replicate 64 0)∧Bytes W3 (some ⟨w1.heap.size,0,none⟩) 32 32 D) ⟨hB1.alloc hB1.size _,hR1.alloc _,hK0,hY1.below ((Below.refl _ _).alloc (Nat.le_refl _) _)⟩ ?_;have hgK:=hB1.size;clear hB1 hR1 hK0 hY1;rintro W3 ⟨hB1,hR1,hK0,hY1⟩;have hcp:=dc W3 W1.heap.size 64 (some ⟨w1.heap.size,0,none⟩) 32 32 D hY1 hK0 (by omega);rw [←HF.out] at hcp
   go_upto_region 6 with fail
   refine af (p:=fun y=>Code.wp _ _ _ _ y) (fun W2=>Below w.heap.size w W2∧aa W2 w.heap.size .u8 204 (List.replicate 64 0)∧aa W2 W1.heap.size .u8 204 FL) ⟨below_setRow hB1 hgK _,hR1.setRowOther _ (by omega),hK0.setRow _⟩ ?_;clear hcp hK0 hB1 hR1 hY1;rintro W2 ⟨hB2,hR2,hK2⟩
   go_wp2_with (first
    |(refine am rfl 204 _ rfl _ rfl hK2 Tryz.underlying204 ez hfl ?_)
    |(refine ah rfl 204 _ _ rfl _ rfl rfl hR2 (by rw [hfl];exact ez) (by simp [hfl]) ?_))
   refine bodyPost_ret (aj (Tryz.results161) _ rfl (hR2.setRow _) Tryz.underlying204 ez hfl) rfl ⟨by rw [HFL.out],?_⟩;exact below_setRow hB2 (Nat.le_refl _) _
 · have hff:bt z=z++List.replicate (64 - z.length) 0:=by unfold bt;rw [if_neg (by omega)]
   obtain ⟨FL,hFL⟩:∃D,bt z=D:=⟨_,rfl⟩
   rw [hFL] at hff hfl
   have HF:dl (FL=z++List.replicate (64 - z.length) 0):=⟨hff⟩
   have HFL:dl (bt z=FL):=⟨hFL⟩
   clear hff hFL hz hk;have h64i:¬((64:Int)<(len:Int)):=by omega
   have hl64:len≤64:=by omega
   go_enter Tryz.func161,Tryz.ntmps161;go_upto_region 4 with fail
   refine af (p:=fun y=>Code.wp _ _ _ _ y) (fun W1=>Below w.heap.size w W1∧w.heap.size+1≤W1.heap.size∧aa W1 w.heap.size .u8 204 (List.replicate 64 0)∧Bytes W1 x len cap z) ⟨(Below.refl _ _).alloc (Nat.le_refl _) _,by simp,aa.new w .u8 204 (List.replicate 64 0),hb.below ((Below.refl _ _).alloc (Nat.le_refl _) _)⟩ ?_;clear hb;rintro W1 ⟨hB1,hs1,hR1,hY1⟩;have hK0:=aa.new W1 .u8 204 (List.replicate 64 0);go_upto_region 5 with fail
   refine af (p:=fun y=>Code.wp _ _ _ _ y) (fun W3=>Below w.heap.size w W3∧aa W3 w.heap.size .u8 204 (List.replicate 64 0)∧aa W3 W1.heap.size .u8 204 (List.replicate 64 0)∧Bytes W3 x len cap z) ⟨hB1.alloc hB1.size _,hR1.alloc _,hK0,hY1.below ((Below.refl _ _).alloc (Nat.le_refl _) _)⟩ ?_;have hgK:=hB1.size;clear hB1 hR1 hK0 hY1;rintro W3 ⟨hB1,hR1,hK0,hY1⟩;have hcp:=dc W3 W1.heap.size 64 x len cap z hY1 hK0 hl64;rw [←HF.out] at hcp
   go_upto_region 6 with fail
   refine af (p:=fun y=>Code.wp _ _ _ _ y) (fun W2=>Below w.heap.size w W2∧aa W2 w.heap.size .u8 204 (List.replicate 64 0)∧aa W2 W1.heap.size .u8 204 FL) ⟨below_setRow hB1 hgK _,hR1.setRowOther _ (by omega),hK0.setRow _⟩ ?_;clear hcp hK0 hB1 hR1 hY1;rintro W2 ⟨hB2,hR2,hK2⟩
   go_wp2_with (first
    |(refine am rfl 204 _ rfl _ rfl hK2 Tryz.underlying204 ez hfl ?_)
    |(refine ah rfl 204 _ _ rfl _ rfl rfl hR2 (by rw [hfl];exact ez) (by simp [hfl]) ?_))
   refine bodyPost_ret (aj (Tryz.results161) _ rfl (hR2.setRow _) Tryz.underlying204 ez hfl) rfl ⟨by rw [HFL.out],?_⟩;exact below_setRow hB2 (Nat.le_refl _) _
open Go Go.RowKit
section
variable {P:Program} {ops:Array Oper} {Q:Exit→Act→World→Prop} {md:Region.Mode} {S:World→Prop} {D:Nat}
def aE (P:Program) (md:Region.Mode) (ops:Array Oper) (Q:Exit→Act→World→Prop) (S:World→Prop) (D:Nat):Nat→Array Bool→Act→World→Prop
 |0,listed,a,w=>Region.ready md ops listed=[]∧Q .normal a w
 |fuel+1,listed,a,w=>
  (Region.ready md ops listed=[]→Q .normal a w)∧
  ∀i∈Region.ready md ops listed,wpOp P ops Q i (fun a' w'=>((listed.setIfInBounds i true).getD D true=false→S w')∧aE P md ops Q S D fuel (listed.setIfInBounds i true) a' w') a w
theorem du:∀(fuel:Nat) (listed:Array Bool) (a:Act) (w:World),aE P md ops Q S D fuel listed a w→wpAny P md ops Q fuel listed a w
 |0,_,_,_,h=>h
 |fuel+1,_,_,_,h=>⟨h.1,fun i hi=>wpOp_mono (fun a' w' h'=>du fuel _ a' w' h'.2) (h.2 i hi)⟩
theorem cP {i:Nat} {oi:Oper} {v:Value} {T:World→Prop} (hi:ops[i]?=some oi) (hsel:∀(j:Nat) (o:Oper) cs b,ops[j]?=some o→o.op≠ .select cs b)
    (hQ:∀c a w,Q (.panic c) (a.put oi.dst v) w→Q (.panic c) a w) (hD:i≠D)
    (hT:(∀w,T w)∨((∀w,S w→T w)∧∃oD,ops[D]?=some oD∧∃e∈oD.after,Region.binds md e=true∧e.on=i)):
    ∀(fuel:Nat) (listed:Array Bool) (a:Act) (w:World),
     (∀j oj,ops[j]?=some oj→j≠i→listed.getD j true=false→(∀e∈oj.after,Region.binds md e=true→e.on≠i)→oi.apart ops oj=true)→
     i∈Region.ready md ops listed→((∀w,T w)∨listed.getD D true=false)→YieldsIf P ops T oi v a→(listed.getD D true=false→S w)→
     aE P md ops Q S D fuel (listed.setIfInBounds i true) (a.put oi.dst v) w→aE P md ops Q S D (fuel+1) listed a w:=by
 have hTw:∀(listed:Array Bool) w,((∀w,T w)∨listed.getD D true=false)→(listed.getD D true=false→S w)→T w:=fun listed w h1 h2=>by
  rcases h1 with h|h
  · exact h w
  · rcases hT with h'|⟨h',_⟩
    · exact h' w
    · exact h' w (h2 h)
 intro fuel
 induction fuel with
 |zero=>
  intro listed a w _ hr hg hy hS H;refine ⟨fun h=>(by rw [h] at hr;cases hr),fun j hj=>?_⟩
  by_cases hji:j=i
  · subst hji;exact hy.wpOp hi (hTw listed w hg hS) ⟨fun h=>hS (by rwa [getD_set_ne true hD] at h),H⟩
  · have:=ready_mono hj hji
    rw [H.1] at this
    cases this
 |succ fuel ih=>
  intro listed a w hfree hr hg hy hS H;refine ⟨fun h=>(by rw [h] at hr;cases hr),fun j hj=>?_⟩
  by_cases hji:j=i
  · subst hji;exact hy.wpOp hi (hTw listed w hg hS) ⟨fun h=>hS (by rwa [getD_set_ne true hD] at h),H⟩
  · have h1:=H.2 j (ready_mono hj hji)
    obtain ⟨hjun,oj,hoj,hall⟩:=mem_ready.1 hj;have hnot:∀e∈oj.after,Region.binds md e=true→e.on≠i:=fun e he hb heq=>by
     have h1:=hall e he hb;have h0:=(mem_ready.1 hr).1;rw [heq] at h1
     rcases Nat.lt_or_ge i listed.size with h'|h'
     · simp [h'] at h0 h1;rw [h0] at h1;cases h1
     · simp [Array.getElem?_eq_none h'] at h1
    have h2:=wpOp_putIf hoj (hfree j oj hoj hji hjun hnot) (fun cs b=>hsel i oi cs b hi) (fun cs b=>hsel j oj cs b hoj) hQ hy h1;have hfree':∀k ok,ops[k]?=some ok→k≠i→(listed.setIfInBounds j true).getD k true=false→
        (∀e∈ok.after,Region.binds md e=true→e.on≠i)→oi.apart ops ok=true:=fun k ok hk hki hun hno=>by
     refine hfree k ok hk hki ?_ hno
     by_cases hjk:j=k
     · subst hjk;exact hjun
     · rw [getD_set_ne true hjk] at hun;exact hun
    have hg':(∀w,T w)∨(listed.setIfInBounds j true).getD D true=false:=by
     rcases hT with h|⟨_,oD,hoD,e,he,hb,hon⟩
     · exact .inl h
     · rcases hg with h|h
       · exact .inl h
       · refine .inr ?_
         have hjD:j≠D:=fun e'=>by
          subst e';obtain rfl:oj=oD:=Option.some.inj (hoj.symm.trans hoD);exact hnot e he hb hon
         rw [getD_set_ne true hjD];exact h
    refine wpOp_mono (fun a' w' h3=>?_) h2;have hS':(listed.setIfInBounds j true).getD D true=false→S w':=fun h=>h3.2.1 (by rw [Array.setIfInBounds_comm _ _ (Ne.symm hji),getD_set_ne true hD];exact h)
    refine ⟨hS',ih (listed.setIfInBounds j true) a' w' hfree' (ready_mono hr (Ne.symm hji)) hg' h3.1 hS' ?_⟩;rw [Array.setIfInBounds_comm _ _ hji];exact h3.2.2
theorem ay {i:Nat} {oi:Oper} {v:Value} {fuel:Nat} {listed:Array Bool} {a:Act} {w:World} (hi:ops[i]?=some oi)
    (hs:Region.noSelect ops=true) (hf:Region.free md ops listed i=true) (hr:(Region.ready md ops listed).contains i=true)
    (hQ:∀c a w,Q (.panic c) (a.put oi.dst v) w→Q (.panic c) a w) (hD:(i==D)=false) (hS:listed.getD D true=false→S w) (hw:Region.wanted oi (yielded ops a.tmps)=true)
    (hy:∀w,(execOp a.eval oi).run P w=.ok (.value v) w)
    (h:aE P md ops Q S D fuel (listed.setIfInBounds i true) (a.put oi.dst v) w):aE P md ops Q S D (fuel+1) listed a w:=
 cP (T:=fun _=>True) hi (Region.noSelect_spec hs) hQ (by simpa using hD) (.inl fun _=>trivial) fuel listed a w (Region.free_spec hi hf) (by simpa using hr) (.inl fun _=>trivial) (.inl ⟨hw,fun w _=>hy w⟩) hS h
theorem ft {i:Nat} {oi:Oper} {v:Value} {fuel:Nat} {listed:Array Bool} {a:Act} {w:World} (hi:ops[i]?=some oi)
    (hs:Region.noSelect ops=true) (hf:Region.free md ops listed i=true) (hr:(Region.ready md ops listed).contains i=true)
    (hQ:∀c a w,Q (.panic c) (a.put oi.dst v) w→Q (.panic c) a w) (hD:(i==D)=false) (hwait:Region.waitsFor md ops D i=true) (hg:listed.getD D true=false) (hS:S w) (hw:Region.wanted oi (yielded ops a.tmps)=true)
    (hy:∀w,S w→(execOp a.eval oi).run P w=.ok (.value v) w)
    (h:aE P md ops Q S D fuel (listed.setIfInBounds i true) (a.put oi.dst v) w):aE P md ops Q S D (fuel+1) listed a w:=
 cP (T:=S) hi (Region.noSelect_spec hs) hQ (by simpa using hD) (.inr ⟨fun _ h=>h,by
  obtain ⟨oD,h1,e,h2,h3,h4⟩:=Region.waitsFor_spec hwait;exact ⟨oD,h1,e,h2,h3,h4⟩⟩) fuel listed a w (Region.free_spec hi hf) (by simpa using hr) (.inr hg) (.inl ⟨hw,hy⟩) (fun _=>hS) h
theorem ar {i:Nat} {o:Oper} {fuel:Nat} {listed:Array Bool} {a:Act} {w:World} (hi:ops[i]?=some o) (hr:Region.ready md ops listed=[i]) (hw:Region.wanted o (yielded ops a.tmps)=true)
    (h:∀K':Act→World→Prop,Shut (∀a w,((listed.setIfInBounds i true).getD D true=false→S w)→aE P md ops Q S D fuel (listed.setIfInBounds i true) a w→K' a w)→Oper.wp P o a w K' Q):aE P md ops Q S D (fuel+1) listed a w:=
 ⟨fun h0=>(by rw [hr] at h0;cases h0),fun j hj=>by
  rw [hr] at hj
  obtain rfl:j=i:=by simpa using hj
  refine wpOp_step hi (fun K' hK=>?_);rw [if_pos hw];exact h K' (fun a w h1 h2=>hK a w ⟨h1,h2⟩)⟩
theorem zw (i:Nat) {o:Oper} {fuel:Nat} {listed:Array Bool} {a:Act} {w:World}
    (h:∀K':Act→World→Prop,Shut (∀a w,((listed.setIfInBounds i true).getD D true=false→S w)→aE P md ops Q S D fuel (listed.setIfInBounds i true) a w→K' a w)→Oper.wp P o a w K' Q) (hi:ops[i]?=some o:=by exact rfl) (hr:Region.ready md ops listed=[i]:=by kernel_rfl) (hw:Region.wanted o (yielded ops a.tmps)=true:=by kernel_rfl):aE P md ops Q S D (fuel+1) listed a w:=ar hi hr hw h
theorem al {listed:Array Bool} {a:Act} {w:World} (hr:Region.ready md ops listed=[]) (h:Q .normal a w):
    ∀fuel,aE P md ops Q S D fuel listed a w
 |0=>⟨hr,h⟩
 |_+1=>⟨fun _=>h,by rw [hr];simp⟩
theorem ag {id:Nat} {a:Act} {w:World} (S:World→Prop) (D:Nat) (hm:P.follows .mixedOrders=true)
    (h:aE P .any ops Q S D ops.size (Array.replicate ops.size false) a w.drew):(Code.region id ops true).wp P Q a w:=
 wp_region_any hm (du _ _ _ _ h)
end
section
variable {P:Program} {ops:Array Oper} {Q:Exit→Act→World→Prop} {md:Region.Mode} {S:World→Prop} {D:Nat}
theorem jh {i:Nat} {oi:Oper} {v:Value} {fuel:Nat} {listed:Array Bool} {a:Act} {w:World} (hi:ops[i]?=some oi)
    (hs:Region.noSelect ops=true) (hf:Region.free md ops listed i=true) (hr:(Region.ready md ops listed).contains i=true)
    (hQ:∀c a w,Q (.panic c) (a.put oi.dst v) w→Q (.panic c) a w) (hD:(i==D)=false) (hwait:Region.waitsFor md ops D i=true) (hg:listed.getD D true=false) (hS:S w)
    (hy:YieldsIf P ops S oi v a)
    (h:aE P md ops Q S D fuel (listed.setIfInBounds i true) (a.put oi.dst v) w):aE P md ops Q S D (fuel+1) listed a w:=
 cP (T:=S) hi (Region.noSelect_spec hs) hQ (by simpa using hD) (.inr ⟨fun _ h=>h,by
  obtain ⟨oD,h1,e,h2,h3,h4⟩:=Region.waitsFor_spec hwait;exact ⟨oD,h1,e,h2,h3,h4⟩⟩) fuel listed a w (Region.free_spec hi hf) (by simpa using hr) (.inr hg) hy (fun _=>hS) h
theorem gY {i:Nat} {dst:Option Tmp} {ty:TypeId} {x:Operand} {b o:Nat} {cs:List Value} {d:TypeDesc} {fuel:Nat} {listed:Array Bool} {a:Act} {w:World}
    (hop:(ops[i]?).map (fun o=>(o.dst,o.op))=some (dst,.load ty x)) (hw:(ops[i]?).map (fun o=>Region.wanted o (yielded ops a.tmps))=some true)
    (hs:Region.noSelect ops=true) (hf:Region.free md ops listed i=true) (hr:(Region.ready md ops listed).contains i=true)
    (hQ:∀c a w,Q (.panic c) (a.put dst (.agg cs.toArray)) w→Q (.panic c) a w) (hD:(i==D)=false) (hwait:Region.waitsFor md ops D i=true) (hg:listed.getD D true=false) (hS:S w)
    (hx:a.eval x=.pointer (some ⟨b,o,none⟩)) (hc:∀w,S w→w.rangeAt b o cs) (hu:P.underlying ty=some d) (hd:d.isRow=true) (hi:(P.info? ty).map (·.size)=some cs.length)
    (h:aE P md ops Q S D fuel (listed.setIfInBounds i true) (a.put dst (.agg cs.toArray)) w):aE P md ops Q S D (fuel+1) listed a w:=by
 cases ho:ops[i]? with
 |none=>rw [ho] at hop;cases hop
 |some oi=>
  rw [ho] at hop hw
  simp only [Option.map_some,Option.some.injEq,Prod.mk.injEq] at hop hw
  obtain ⟨rfl,hop⟩:=hop;exact jh ho hs hf hr hQ hD hwait hg hS (yieldsIf_load_mid hw ty x hop b o hx cs d hc hu hd hi) h
theorem zg (i dst:Nat) (ty:TypeId) (x b o:Nat) (cs:List Value) {d:TypeDesc} {fuel:Nat} {listed:Array Bool} {a:Act} {w:World} (hS:S w)
    (hc:∀w,S w→w.rangeAt b o cs) (hu:P.underlying ty=some d) (hi:(P.info? ty).map (·.size)=some cs.length)
    (h:aE P md ops Q S D fuel (listed.setIfInBounds i true) (a.put (some dst) (.agg cs.toArray)) w)
    (hop:(ops[i]?).map (fun o=>(o.dst,o.op))=some (some dst,.load ty (.tmp x)):=by kernel_rfl) (hw:(ops[i]?).map (fun o=>Region.wanted o (yielded ops a.tmps))=some true:=by kernel_rfl)
    (hb:(Region.noSelect ops&&(Region.free md ops listed i&&((Region.ready md ops listed).contains i&&(!(i==D)&&(Region.waitsFor md ops D i&&!(listed.getD D true))))))=true:=by kernel_rfl)
    (hQ:∀c a w,Q (.panic c) (a.put (some dst) (.agg cs.toArray)) w→Q (.panic c) a w:=by exact fun _ _ _ h=>h) (hx:a.eval (.tmp x)=.pointer (some ⟨b,o,none⟩):=by kernel_rfl) (hd:d.isRow=true:=by rfl):aE P md ops Q S D (fuel+1) listed a w:=by
 rw [Bool.and_eq_true,Bool.and_eq_true,Bool.and_eq_true,Bool.and_eq_true,Bool.and_eq_true,Bool.not_eq_true',Bool.not_eq_true'] at hb
 exact gY hop hw hb.1 hb.2.1 hb.2.2.1 hQ hb.2.2.2.1 hb.2.2.2.2.1 hb.2.2.2.2.2 hS hx hc hu hd hi h
end
theorem rR (k:List Int) (pb n cap:Nat) (ps:List dr) (w:World) (hk:k.length=64) (hps:aQ w w.heap.size pb ps) (hn:n=ps.length) (hn2:n≤1000)
    (hlen:∀j,j≤ps.length→64+(aZ (ps.take j)).length≤1000000) (hlen2:∀p∈ps,p.len≤1000000) (hK:KTab w):
    Calls Tryz.prog 162 #[.agg (row .u8 k),.func (.func 163) #[] #[],.slice (some ⟨pb,0,none⟩) n cap] w fun e w'=>e=.returned (.agg (row .u8 (sumL (aU 54 k++aZ ps))))∧Below w.heap.size w w':=by
 have htl:(aU 54 k).length=64:=by rw [dQ,hk]
 have hbg:=fun wx=>tu k wx hk
 have hev:∀(H base:Nat) (v:Value) (wx:World),Box wx H 227 v→aq wx base v (aU 54 k)→base≤H→aQ wx base pb ps→Calls Tryz.prog 178 #[.func (.func 179) #[.pointer (some ⟨H,0,none⟩)] #[],.slice (some ⟨pb,0,none⟩) n cap] wx fun e w'=>(∃r,e=.returned r)∧∃v',Box w' H 227 v'∧aq w' base v' (aU 54 k++aZ ps)∧Below base wx w':=fun H base v wx h1 h2 h3 h4=>
  pm H base pb n cap v (aU 54 k) ps wx h1 h2 h3 h4 hn hn2 (fun j hj=>by rw [htl];exact hlen j hj) hlen2
 have hal:(aU 54 k++aZ ps).length≤1000000:=by
  have:=hlen ps.length (Nat.le_refl _);rw [List.take_length] at this
  rw [List.length_append,htl];omega
 obtain ⟨TK,hTK⟩:∃x,aU 54 k=x:=⟨_,rfl⟩
 rw [hTK] at hbg hev hal ⊢
 obtain ⟨AL,hAL⟩:∃x,TK++aZ ps=x:=⟨_,rfl⟩
 rw [hAL] at hev hal ⊢
 have hdl:=aW AL;have hsum:=fun H base v wx h1 h2 h3 h5=>kx H base v AL wx h1 h2 h3 hal h5
 obtain ⟨D,hD⟩:∃x,sumL AL=x:=⟨_,rfl⟩
 rw [hD] at hdl hsum ⊢
 clear hTK hAL hD htl hlen hal hn;go_enter Tryz.func162,Tryz.ntmps162;go_upto_region 1 with fail
 refine af (p:=fun y=>Code.wp _ _ _ _ y) (fun W0=>Below w.heap.size w W0∧W0.heap.size=w.heap.size+1+1∧aa W0 w.heap.size .u8 204 k∧aa W0 (w.heap.size+1) .u8 23 (List.replicate 32 0)) ⟨((Below.refl _ _).alloc (Nat.le_refl _) _).alloc (by simp) _,by simp,(aa.new w .u8 204 k).alloc _,?_⟩ ?_
 · have:=(aa.new (w.alloc (.cells (row .u8 k) 204)) .u8 23 (List.replicate 32 0))
   rw [World.size_alloc] at this
   exact this
 rintro W0 ⟨hB0,hs0,hk0,hR0⟩;go_upto_region 2 with (first
  |(refine am rfl 204 _ rfl _ rfl hk0 Tryz.underlying204 ez hk ?_)
  |(go_at_call 163;refine (hbg _).mono ?_;rintro e w1 ⟨H,v1,rfl,hH,hx1,ho1,hb1⟩))
 have hs1:=hb1.size;have hB1:Below w.heap.size w w1:=hB0.trans (hb1.mono hB0.size);have hp1:aQ w1 (W0.heap.size+1) pb ps:=fun w' hb=>hps w' (hB1.trans (hb.mono (by omega)))
 have hev1:=hev H (W0.heap.size+1) v1 w1 hx1 ho1 hH hp1;have hR1:=hR0.below hb1 (by omega);clear hev hbg hk0 hps hp1 hx1 ho1 hb1;go_upto_region 3 with (go_at_call 178;refine hev1.mono ?_;rintro e w2 ⟨⟨r2,rfl⟩,v2,hx2,ho2,hb2⟩)
 have hB2:Below w.heap.size w w2:=hB1.trans (hb2.mono (by omega));have hs3:=hsum H (W0.heap.size+1) v2 w2 hx2 ho2 (fun x n c h=>by subst h;exact ho2.bytes.2) (hK.below hB2);have hR2:=hR1.below hb2 (by omega);have hl2:=hB2.size;clear hev1 hsum hx2 ho2 hR1
 go_wp2_with (first
  |(go_at_call 180;refine hs3.mono ?_;rintro e w3 ⟨rfl,hb3⟩;have hR3:=hR2.below hb3 hR2.lt)
  |(refine ah rfl 23 _ _ rfl _ rfl rfl hR3 (by rw [hdl];exact aI) (by simp [hdl]) ?_))
 refine bodyPost_ret (aj (Tryz.results162) _ rfl (hR3.setRow _) Tryz.underlying23 aI hdl) rfl ⟨rfl,?_⟩;exact below_setRow (hB2.trans (hb3.mono hB2.size)) (by omega) _
theorem oG (k:List Int) (pb n cap:Nat) (ps:List dr) (w:World) (hk:k.length=64) (hps:aQ w w.heap.size pb ps) (hn:n=ps.length) (hn2:n≤1000)
    (hlen:∀j,j≤ps.length→64+(aZ (ps.take j)).length≤1000000) (hlen2:∀p∈ps,p.len≤1000000) (hK:KTab w):
    Calls Tryz.prog 162 #[.agg (row .u8 k),.func (.func 164) #[] #[],.slice (some ⟨pb,0,none⟩) n cap] w fun e w'=>e=.returned (.agg (row .u8 (sumL (aU 92 k++aZ ps))))∧Below w.heap.size w w':=by
 have htl:(aU 92 k).length=64:=by rw [dQ,hk]
 have hbg:=fun wx=>ur k wx hk
 have hev:∀(H base:Nat) (v:Value) (wx:World),Box wx H 227 v→aq wx base v (aU 92 k)→base≤H→aQ wx base pb ps→Calls Tryz.prog 178 #[.func (.func 179) #[.pointer (some ⟨H,0,none⟩)] #[],.slice (some ⟨pb,0,none⟩) n cap] wx fun e w'=>(∃r,e=.returned r)∧∃v',Box w' H 227 v'∧aq w' base v' (aU 92 k++aZ ps)∧Below base wx w':=fun H base v wx h1 h2 h3 h4=>
  pm H base pb n cap v (aU 92 k) ps wx h1 h2 h3 h4 hn hn2 (fun j hj=>by rw [htl];exact hlen j hj) hlen2
 have hal:(aU 92 k++aZ ps).length≤1000000:=by
  have:=hlen ps.length (Nat.le_refl _);rw [List.take_length] at this
  rw [List.length_append,htl];omega
 obtain ⟨TK,hTK⟩:∃x,aU 92 k=x:=⟨_,rfl⟩
 rw [hTK] at hbg hev hal ⊢
 obtain ⟨AL,hAL⟩:∃x,TK++aZ ps=x:=⟨_,rfl⟩
 rw [hAL] at hev hal ⊢
 have hdl:=aW AL;have hsum:=fun H base v wx h1 h2 h3 h5=>kx H base v AL wx h1 h2 h3 hal h5
 obtain ⟨D,hD⟩:∃x,sumL AL=x:=⟨_,rfl⟩
 rw [hD] at hdl hsum ⊢
 clear hTK hAL hD htl hlen hal hn;go_enter Tryz.func162,Tryz.ntmps162;go_upto_region 1 with fail
 refine af (p:=fun y=>Code.wp _ _ _ _ y) (fun W0=>Below w.heap.size w W0∧W0.heap.size=w.heap.size+1+1∧aa W0 w.heap.size .u8 204 k∧aa W0 (w.heap.size+1) .u8 23 (List.replicate 32 0)) ⟨((Below.refl _ _).alloc (Nat.le_refl _) _).alloc (by simp) _,by simp,(aa.new w .u8 204 k).alloc _,?_⟩ ?_
 · have:=(aa.new (w.alloc (.cells (row .u8 k) 204)) .u8 23 (List.replicate 32 0))
   rw [World.size_alloc] at this
   exact this
 rintro W0 ⟨hB0,hs0,hk0,hR0⟩;go_upto_region 2 with (first
  |(refine am rfl 204 _ rfl _ rfl hk0 Tryz.underlying204 ez hk ?_)
  |(go_at_call 164;refine (hbg _).mono ?_;rintro e w1 ⟨H,v1,rfl,hH,hx1,ho1,hb1⟩))
 have hs1:=hb1.size;have hB1:Below w.heap.size w w1:=hB0.trans (hb1.mono hB0.size);have hp1:aQ w1 (W0.heap.size+1) pb ps:=fun w' hb=>hps w' (hB1.trans (hb.mono (by omega)))
 have hev1:=hev H (W0.heap.size+1) v1 w1 hx1 ho1 hH hp1;have hR1:=hR0.below hb1 (by omega);clear hev hbg hk0 hps hp1 hx1 ho1 hb1;go_upto_region 3 with (go_at_call 178;refine hev1.mono ?_;rintro e w2 ⟨⟨r2,rfl⟩,v2,hx2,ho2,hb2⟩)
 have hB2:Below w.heap.size w w2:=hB1.trans (hb2.mono (by omega));have hs3:=hsum H (W0.heap.size+1) v2 w2 hx2 ho2 (fun x n c h=>by subst h;exact ho2.bytes.2) (hK.below hB2);have hR2:=hR1.below hb2 (by omega);have hl2:=hB2.size;clear hev1 hsum hx2 ho2 hR1
 go_wp2_with (first
  |(go_at_call 180;refine hs3.mono ?_;rintro e w3 ⟨rfl,hb3⟩;have hR3:=hR2.below hb3 hR2.lt)
  |(refine ah rfl 23 _ _ rfl _ rfl rfl hR3 (by rw [hdl];exact aI) (by simp [hdl]) ?_))
 refine bodyPost_ret (aj (Tryz.results162) _ rfl (hR3.setRow _) Tryz.underlying23 aI hdl) rfl ⟨rfl,?_⟩;exact below_setRow (hB2.trans (hb3.mono hB2.size)) (by omega) _
end Go.Proofs.YtbdhfbglagdiaaaGreatDoor.S
