/- Gate3 Gate4 Kfz Kf Wo2 -/
import Derived.OrdersHeld
import Derived.Deep.RegionHeld
import Derived.StillTail
import Derived.Test.YtbdhfbglagdiaaaGreatDoorG01
import Derived.Deep.MidRow
import Derived.Test.YtbdhfbglagdiaaaGreatDoorG23
import Derived.Test.YtbdhfbglagdiaaaGreatDoorG24
import Derived.Test.YtbdhfbglagdiaaaGreatDoorG02
import Derived.Test.YtbdhfbglagdiaaaGreatDoorG03
import Derived.Test.YtbdhfbglagdiaaaGreatDoorG05
namespace Go.Proofs.YtbdhfbglagdiaaaGreatDoor
open Go Go.RowKit
section
variable {P:Program} {ops:Array Oper} {Q:Exit→Act→World→Prop} {md:Region.Mode} {T S:World→Prop} {D:Nat}
def aM (P:Program) (md:Region.Mode) (ops:Array Oper) (Q:Exit→Act→World→Prop) (T S:World→Prop) (D:Nat):Nat→Array Bool→Act→World→Prop
 |0,listed,a,w=>Region.ready md ops listed=[]∧Q .normal a w
 |fuel+1,listed,a,w=>
  (Region.ready md ops listed=[]→Q .normal a w)∧
  ∀i∈Region.ready md ops listed,wpOp P ops Q i (fun a' w'=>(T w'∧((listed.setIfInBounds i true).getD D true=false→S w'))∧aM P md ops Q T S D fuel (listed.setIfInBounds i true) a' w') a w
theorem iz:∀(fuel:Nat) (listed:Array Bool) (a:Act) (w:World),aM P md ops Q T S D fuel listed a w→wpAny P md ops Q fuel listed a w
 |0,_,_,_,h=>h
 |fuel+1,_,_,_,h=>⟨h.1,fun i hi=>wpOp_mono (fun a' w' h'=>iz fuel _ a' w' h'.2) (h.2 i hi)⟩
theorem e9 {i:Nat} {oi:Oper} {v:Value} {U:World→Prop} (hi:ops[i]?=some oi) (hsel:∀(j:Nat) (o:Oper) cs b,ops[j]?=some o→o.op≠ .select cs b)
    (hQ:∀c a w,Q (.panic c) (a.put oi.dst v) w→Q (.panic c) a w) (hD:i≠D)
    (hU:(∀w,T w→U w)∨((∀w,S w→U w)∧∃oD,ops[D]?=some oD∧∃e∈oD.after,Region.binds md e=true∧e.on=i)):
    ∀(fuel:Nat) (listed:Array Bool) (a:Act) (w:World),
     (∀j oj,ops[j]?=some oj→j≠i→listed.getD j true=false→(∀e∈oj.after,Region.binds md e=true→e.on≠i)→oi.apart ops oj=true)→
     i∈Region.ready md ops listed→((∀w,T w→U w)∨listed.getD D true=false)→YieldsIf P ops U oi v a→T w→(listed.getD D true=false→S w)→
     aM P md ops Q T S D fuel (listed.setIfInBounds i true) (a.put oi.dst v) w→aM P md ops Q T S D (fuel+1) listed a w:=by
 have hUw:∀(listed:Array Bool) w,((∀w,T w→U w)∨listed.getD D true=false)→T w→(listed.getD D true=false→S w)→U w:=fun listed w h1 h0 h2=>by
  rcases h1 with h|h
  · exact h w h0
  · rcases hU with h'|⟨h',_⟩
    · exact h' w h0
    · exact h' w (h2 h)
 intro fuel
 induction fuel with
 |zero=>
  intro listed a w _ hr hg hy hT hS H;refine ⟨fun h=>(by rw [h] at hr;cases hr),fun j hj=>?_⟩
  by_cases hji:j=i
  · subst hji;exact hy.wpOp hi (hUw listed w hg hT hS) ⟨⟨hT,fun h=>hS (by rwa [getD_set_ne true hD] at h)⟩,H⟩
  · have:=ready_mono hj hji
    rw [H.1] at this
    cases this
 |succ fuel ih=>
  intro listed a w hfree hr hg hy hT hS H;refine ⟨fun h=>(by rw [h] at hr;cases hr),fun j hj=>?_⟩
  by_cases hji:j=i
  · subst hji;exact hy.wpOp hi (hUw listed w hg hT hS) ⟨⟨hT,fun h=>hS (by rwa [getD_set_ne true hD] at h)⟩,H⟩
  · have h1:=H.2 j (ready_mono hj hji)
    obtain ⟨hjun,oj,hoj,hall⟩:=mem_ready.1 hj;have hnot:∀e∈oj.after,Region.binds md e=true→e.on≠i:=fun e he hb heq=>by
     have h1:=hall e he hb;have h0:=(mem_ready.1 hr).1;rw [heq] at h1
     rcases Nat.lt_or_ge i listed.size with h'|h'
     · simp [h'] at h0 h1;rw [h0] at h1;cases h1
     · simp [Array.getElem?_eq_none h'] at h1
    have h2:=wpOp_putIf hoj (hfree j oj hoj hji hjun hnot) (fun cs b=>hsel i oi cs b hi) (fun cs b=>hsel j oj cs b hoj) hQ hy h1;have hfree':∀k ok,ops[k]?=some ok→k≠i→(listed.setIfInBounds j true).getD k true=false→
        (∀e∈ok.after,Region.binds md e=true→e.on≠i)→oi.apart ops ok=true:=fun k ok hk hki hun hno=>by
     refine hfree k ok hk hki ?_ hno
     by_cases hjk:j=k
     · subst hjk;exact hjun
     · rw [getD_set_ne true hjk] at hun;exact hun
    have hg':(∀w,T w→U w)∨(listed.setIfInBounds j true).getD D true=false:=by
     rcases hU with h|⟨_,oD,hoD,e,he,hb,hon⟩
     · exact .inl h
     · rcases hg with h|h
       · exact .inl h
       · refine .inr ?_
         have hjD:j≠D:=fun e'=>by
          subst e';obtain rfl:oj=oD:=Option.some.inj (hoj.symm.trans hoD);exact hnot e he hb hon
         rw [getD_set_ne true hjD];exact h
    refine wpOp_mono (fun a' w' h3=>?_) h2;have hS':(listed.setIfInBounds j true).getD D true=false→S w':=fun h=>h3.2.1.2 (by rw [Array.setIfInBounds_comm _ _ (Ne.symm hji),getD_set_ne true hD];exact h)
    refine ⟨⟨h3.2.1.1,hS'⟩,ih (listed.setIfInBounds j true) a' w' hfree' (ready_mono hr (Ne.symm hji)) hg' h3.1 h3.2.1.1 hS' ?_⟩;rw [Array.setIfInBounds_comm _ _ hji];exact h3.2.2
theorem cQ {i:Nat} {oi:Oper} {v:Value} {fuel:Nat} {listed:Array Bool} {a:Act} {w:World} (hi:ops[i]?=some oi)
    (hs:Region.noSelect ops=true) (hf:Region.free md ops listed i=true) (hr:(Region.ready md ops listed).contains i=true)
    (hQ:∀c a w,Q (.panic c) (a.put oi.dst v) w→Q (.panic c) a w) (hD:(i==D)=false) (hT:T w) (hS:listed.getD D true=false→S w) (hw:Region.wanted oi (yielded ops a.tmps)=true)
    (hy:∀w,T w→(execOp a.eval oi).run P w=.ok (.value v) w)
    (h:aM P md ops Q T S D fuel (listed.setIfInBounds i true) (a.put oi.dst v) w):aM P md ops Q T S D (fuel+1) listed a w:=
 e9 (U:=T) hi (Region.noSelect_spec hs) hQ (by simpa using hD) (.inl fun _ h=>h) fuel listed a w (Region.free_spec hi hf) (by simpa using hr) (.inl fun _ h=>h) (.inl ⟨hw,hy⟩) hT hS h
theorem gh (i:Nat) {oi:Oper} (v:Value) {fuel:Nat} {listed:Array Bool} {a:Act} {w:World} (hT:T w) (hS:S w)
    (hy:∀w,T w→(execOp a.eval oi).run P w=.ok (.value v) w)
    (h:aM P md ops Q T S D fuel (listed.setIfInBounds i true) (a.put oi.dst v) w) (hi:ops[i]?=some oi:=by exact rfl)
    (hb:(Region.noSelect ops&&(Region.free md ops listed i&&((Region.ready md ops listed).contains i&&(!(i==D)&&Region.wanted oi (yielded ops a.tmps)))))=true:=by kernel_rfl)
    (hQ:∀c a w,Q (.panic c) (a.put oi.dst v) w→Q (.panic c) a w:=by exact fun _ _ _ h=>h):aM P md ops Q T S D (fuel+1) listed a w:=by
 rw [Bool.and_eq_true,Bool.and_eq_true,Bool.and_eq_true,Bool.and_eq_true,Bool.not_eq_true'] at hb
 exact cQ hi hb.1 hb.2.1 hb.2.2.1 hQ hb.2.2.2.1 hT (fun _=>hS) hb.2.2.2.2 hy h
theorem ghA (i:Nat) {oi:Oper} (v:Value) {fuel:Nat} {listed:Array Bool} {a:Act} {w:World} (hT:T w) (hS:S w)
    (h:aM P md ops Q T S D fuel (listed.setIfInBounds i true) (a.put oi.dst v) w) (hi:ops[i]?=some oi:=by exact rfl)
    (hb:(Region.noSelect ops&&(Region.free md ops listed i&&((Region.ready md ops listed).contains i&&(!(i==D)&&Region.wanted oi (yielded ops a.tmps)))))=true:=by kernel_rfl)
    (hQ:∀c a w,Q (.panic c) (a.put oi.dst v) w→Q (.panic c) a w:=by exact fun _ _ _ h=>h)
    (hy:∀w,T w→(execOp a.eval oi).run P w=.ok (.value v) w:=by intro wx hSw;go_split_ands;go_simp;try with_reducible rfl):aM P md ops Q T S D (fuel+1) listed a w:=by
 rw [Bool.and_eq_true,Bool.and_eq_true,Bool.and_eq_true,Bool.and_eq_true,Bool.not_eq_true'] at hb
 exact cQ hi hb.1 hb.2.1 hb.2.2.1 hQ hb.2.2.2.1 hT (fun _=>hS) hb.2.2.2.2 hy h
theorem fu {i:Nat} {oi:Oper} {v:Value} {fuel:Nat} {listed:Array Bool} {a:Act} {w:World} (hi:ops[i]?=some oi)
    (hs:Region.noSelect ops=true) (hf:Region.free md ops listed i=true) (hr:(Region.ready md ops listed).contains i=true)
    (hQ:∀c a w,Q (.panic c) (a.put oi.dst v) w→Q (.panic c) a w) (hD:(i==D)=false) (hwait:Region.waitsFor md ops D i=true) (hg:listed.getD D true=false) (hT:T w) (hS:S w) (hw:Region.wanted oi (yielded ops a.tmps)=true)
    (hy:∀w,S w→(execOp a.eval oi).run P w=.ok (.value v) w)
    (h:aM P md ops Q T S D fuel (listed.setIfInBounds i true) (a.put oi.dst v) w):aM P md ops Q T S D (fuel+1) listed a w:=
 e9 (U:=S) hi (Region.noSelect_spec hs) hQ (by simpa using hD) (.inr ⟨fun _ h=>h,by
  obtain ⟨oD,h1,e,h2,h3,h4⟩:=Region.waitsFor_spec hwait;exact ⟨oD,h1,e,h2,h3,h4⟩⟩) fuel listed a w (Region.free_spec hi hf) (by simpa using hr) (.inr hg) (.inl ⟨hw,hy⟩) hT (fun _=>hS) h
theorem rH {i:Nat} {o:Oper} {fuel:Nat} {listed:Array Bool} {a:Act} {w:World} (hi:ops[i]?=some o) (hr:Region.ready md ops listed=[i]) (hw:Region.wanted o (yielded ops a.tmps)=true)
    (h:∀K':Act→World→Prop,Shut (∀a w,T w→((listed.setIfInBounds i true).getD D true=false→S w)→aM P md ops Q T S D fuel (listed.setIfInBounds i true) a w→K' a w)→Oper.wp P o a w K' Q):aM P md ops Q T S D (fuel+1) listed a w:=
 ⟨fun h0=>(by rw [hr] at h0;cases h0),fun j hj=>by
  rw [hr] at hj
  obtain rfl:j=i:=by simpa using hj
  refine wpOp_step hi (fun K' hK=>?_);rw [if_pos hw];exact h K' (fun a w h0 h1 h2=>hK a w ⟨⟨h0,h1⟩,h2⟩)⟩
theorem zm (i:Nat) {o:Oper} {fuel:Nat} {listed:Array Bool} {a:Act} {w:World}
    (h:∀K':Act→World→Prop,Shut (∀a w,T w→((listed.setIfInBounds i true).getD D true=false→S w)→aM P md ops Q T S D fuel (listed.setIfInBounds i true) a w→K' a w)→Oper.wp P o a w K' Q) (hi:ops[i]?=some o:=by exact rfl) (hr:Region.ready md ops listed=[i]:=by kernel_rfl) (hw:Region.wanted o (yielded ops a.tmps)=true:=by kernel_rfl):aM P md ops Q T S D (fuel+1) listed a w:=rH hi hr hw h
theorem aB {listed:Array Bool} {a:Act} {w:World} (hr:Region.ready md ops listed=[]) (h:Q .normal a w):
    ∀fuel,aM P md ops Q T S D fuel listed a w
 |0=>⟨hr,h⟩
 |_+1=>⟨fun _=>h,by rw [hr];simp⟩
theorem ay {id:Nat} {a:Act} {w:World} (T S:World→Prop) (D:Nat) (hm:P.follows .mixedOrders=true)
    (h:aM P .any ops Q T S D ops.size (Array.replicate ops.size false) a w.drew):(Code.region id ops true).wp P Q a w:=
 wp_region_any hm (iz _ _ _ _ h)
end
section
variable {P:Program} {ops:Array Oper} {Q:Exit→Act→World→Prop} {md:Region.Mode} {T S:World→Prop} {D:Nat}
theorem qo {i:Nat} {dst:Option Tmp} {ty:TypeId} {x:Operand} {b o:Nat} {cs:List Value} {d:TypeDesc} {fuel:Nat} {listed:Array Bool} {a:Act} {w:World}
    (hop:(ops[i]?).map (fun o=>(o.dst,o.op))=some (dst,.load ty x)) (hw:(ops[i]?).map (fun o=>Region.wanted o (yielded ops a.tmps))=some true)
    (hs:Region.noSelect ops=true) (hf:Region.free md ops listed i=true) (hr:(Region.ready md ops listed).contains i=true)
    (hQ:∀c a w,Q (.panic c) (a.put dst (.agg cs.toArray)) w→Q (.panic c) a w) (hD:(i==D)=false) (hT:T w) (hS:listed.getD D true=false→S w)
    (hx:a.eval x=.pointer (some ⟨b,o,none⟩)) (hc:∀w,T w→w.rangeAt b o cs) (hu:P.underlying ty=some d) (hd:d.isRow=true) (hi:(P.info? ty).map (·.size)=some cs.length)
    (h:aM P md ops Q T S D fuel (listed.setIfInBounds i true) (a.put dst (.agg cs.toArray)) w):aM P md ops Q T S D (fuel+1) listed a w:=by
 cases ho:ops[i]? with
 |none=>rw [ho] at hop;cases hop
 |some oi=>
  rw [ho] at hop hw
  simp only [Option.map_some,Option.some.injEq,Prod.mk.injEq] at hop hw
  obtain ⟨rfl,hop⟩:=hop;exact e9 (U:=T) ho (Region.noSelect_spec hs) hQ (by simpa using hD) (.inl fun _ h=>h) fuel listed a w (Region.free_spec ho hf) (by simpa using hr) (.inl fun _ h=>h) (yieldsIf_load_mid hw ty x hop b o hx cs d hc hu hd hi) hT hS h
theorem gl (i dst:Nat) (ty:TypeId) (x b o:Nat) (cs:List Value) {d:TypeDesc} {fuel:Nat} {listed:Array Bool} {a:Act} {w:World}
    (hop:(ops[i]?).map (fun o=>(o.dst,o.op))=some (some dst,.load ty (.tmp x))) (hw:(ops[i]?).map (fun o=>Region.wanted o (yielded ops a.tmps))=some true)
    (hb:(Region.noSelect ops&&(Region.free md ops listed i&&((Region.ready md ops listed).contains i&&!(i==D))))=true)
    (hQ:∀c a w,Q (.panic c) (a.put (some dst) (.agg cs.toArray)) w→Q (.panic c) a w) (hT:T w) (hS:S w)
    (hx:a.eval (.tmp x)=.pointer (some ⟨b,o,none⟩)) (hc:∀w,T w→w.rangeAt b o cs) (hu:P.underlying ty=some d) (hd:d.isRow=true) (hi:(P.info? ty).map (·.size)=some cs.length)
    (h:aM P md ops Q T S D fuel (listed.setIfInBounds i true) (a.put (some dst) (.agg cs.toArray)) w):aM P md ops Q T S D (fuel+1) listed a w:=by
 rw [Bool.and_eq_true,Bool.and_eq_true,Bool.and_eq_true,Bool.not_eq_true'] at hb
 exact qo hop hw hb.1 hb.2.1 hb.2.2.1 hQ hb.2.2.2 hT (fun _=>hS) hx hc hu hd hi h
theorem zh (i dst:Nat) (ty:TypeId) (x b o:Nat) (cs:List Value) {d:TypeDesc} {fuel:Nat} {listed:Array Bool} {a:Act} {w:World} (hT:T w) (hS:S w)
    (hc:∀w,T w→w.rangeAt b o cs) (hu:P.underlying ty=some d) (hi:(P.info? ty).map (·.size)=some cs.length)
    (h:aM P md ops Q T S D fuel (listed.setIfInBounds i true) (a.put (some dst) (.agg cs.toArray)) w)
    (hop:(ops[i]?).map (fun o=>(o.dst,o.op))=some (some dst,.load ty (.tmp x)):=by kernel_rfl) (hw:(ops[i]?).map (fun o=>Region.wanted o (yielded ops a.tmps))=some true:=by kernel_rfl)
    (hb:(Region.noSelect ops&&(Region.free md ops listed i&&((Region.ready md ops listed).contains i&&!(i==D))))=true:=by kernel_rfl)
    (hQ:∀c a w,Q (.panic c) (a.put (some dst) (.agg cs.toArray)) w→Q (.panic c) a w:=by exact fun _ _ _ h=>h) (hx:a.eval (.tmp x)=.pointer (some ⟨b,o,none⟩):=by kernel_rfl) (hd:d.isRow=true:=by rfl):aM P md ops Q T S D (fuel+1) listed a w:=gl i dst ty x b o cs hop hw hb hQ hT hS hx hc hu hd hi h
theorem qj {i:Nat} {oi:Oper} {fuel:Nat} {listed:Array Bool} {a:Act} {w:World} (hi:ops[i]?=some oi)
    (hs:Region.noSelect ops=true) (hf:Region.free md ops listed i=true) (hr:(Region.ready md ops listed).contains i=true)
    (hQ:∀c a w,Q (.panic c) (a.put oi.dst undef) w→Q (.panic c) a w) (hD:(i==D)=false) (hT:T w) (hS:listed.getD D true=false→S w) (hw:Region.wanted oi (yielded ops a.tmps)=false)
    (h:aM P md ops Q T S D fuel (listed.setIfInBounds i true) (a.put oi.dst undef) w):aM P md ops Q T S D (fuel+1) listed a w:=
 e9 (U:=T) hi (Region.noSelect_spec hs) hQ (by simpa using hD) (.inl fun _ h=>h) fuel listed a w (Region.free_spec hi hf) (by simpa using hr) (.inl fun _ h=>h) (.inr ⟨hw,rfl⟩) hT hS h
theorem gs (i:Nat) {oi:Oper} {fuel:Nat} {listed:Array Bool} {a:Act} {w:World} (hT:T w) (hS:S w)
    (h:aM P md ops Q T S D fuel (listed.setIfInBounds i true) (a.put oi.dst undef) w) (hi:ops[i]?=some oi:=by exact rfl)
    (hb:(Region.noSelect ops&&(Region.free md ops listed i&&((Region.ready md ops listed).contains i&&(!(i==D)&&!(Region.wanted oi (yielded ops a.tmps))))))=true:=by kernel_rfl)
    (hQ:∀c a w,Q (.panic c) (a.put oi.dst undef) w→Q (.panic c) a w:=by exact fun _ _ _ h=>h):aM P md ops Q T S D (fuel+1) listed a w:=by
 rw [Bool.and_eq_true,Bool.and_eq_true,Bool.and_eq_true,Bool.and_eq_true,Bool.not_eq_true',Bool.not_eq_true'] at hb
 exact qj hi hb.1 hb.2.1 hb.2.2.1 hQ hb.2.2.2.1 hT (fun _=>hS) hb.2.2.2.2 h
end
open Go.RowKit
set_option maxRecDepth 20000
def z32:List Int:=List.replicate 32 0
theorem jn (w:World):(Instr.build 23 #[]).run Tryz.prog w=.ok (.agg (row .u8 z32)) w:=by kernel_rfl
set_option maxHeartbeats 4000000
set_option linter.unusedSimpArgs false
section
variable (base H:Nat) (own:Int) (seed:List Int) (b:Nat) (M:Int→Int→Option (List Int)) (v:Value) (L:List (Int×Int)) (w:World)
theorem uP (a s p:Int) (h8:8≤p):
    Calls Tryz.prog 29 #[.pointer (some ⟨H,0,none⟩),.agg (dotC a s).toArray,.int .u8 p] w fun e w'=>e=.returned (.tuple #[.agg (row .u8 z32),.int .i64 2])∧Below w.heap.size w w':=by
 obtain ⟨Z,hZl,hZ,hZb⟩:∃Z:List Int,Z.length=32∧z32=Z∧∀wx,(Instr.build 23 #[]).run Tryz.prog wx=.ok (.agg (row .u8 Z)) wx:=⟨_,rfl,rfl,jn⟩
 have HZb:=ac.mk hZb;have hB:Below w.heap.size w ((w.alloc (.cells (dotC a s).toArray 26)).alloc (.cells (row .u8 z32) 23)):=((Below.refl _ _).alloc (Nat.le_refl _) _).alloc (by simp) _;have hr0:=aa.new (w.alloc (.cells (dotC a s).toArray 26)) .u8 23 z32;rw [World.size_alloc] at hr0
 rw [hZ];clear hZb;go_enter Tryz.func29,Tryz.ntmps29;go_upto_region 1 with fail
 refine ae (p:=fun y=>Code.wp _ _ _ _ y) (fun W=>Below w.heap.size w W∧aa W (w.heap.size+1) .u8 23 Z) ⟨hB,by rw [←hZ];exact hr0⟩ ?_;clear hB hr0 hZ;rintro W ⟨hB,hr0⟩
 go_wp2_with (first
  |(refine aF rfl 23 _ rfl #[] (by first|rfl|kernel_rfl) _ (HZb.out _) ?_)
  |(refine aj rfl 23 _ _ rfl _ rfl rfl hr0 (by rw [hZl];exact ap) rfl ?_))
 refine bodyPost_ret (aI (Tryz.results29) _ rfl rfl (hr0.setRow Z).cellsAt Tryz.underlying23 rfl (by rw [List.length_map,hZl];exact ap)) rfl ⟨rfl,?_⟩;exact below_setRow hB (by omega) _
theorem po (a s p:Int) (ho:okD a s) (h8:p<8) (hR:aA w base H own seed b M v L) (hm:M a s=none):
    Calls Tryz.prog 29 #[.pointer (some ⟨H,0,none⟩),.agg (dotC a s).toArray,.int .u8 p] w fun e w'=>e=.returned (.tuple #[.agg (row .u8 z32),.int .i64 9])∧Below w.heap.size w w':=by
 obtain ⟨Z,hZl,hZ,hZb⟩:∃Z:List Int,Z.length=32∧z32=Z∧∀wx,(Instr.build 23 #[]).run Tryz.prog wx=.ok (.agg (row .u8 Z)) wx:=⟨_,rfl,rfl,jn⟩
 have HZb:=ac.mk hZb;have hn8:¬8≤p:=by omega
 have hB:Below w.heap.size w ((w.alloc (.cells (dotC a s).toArray 26)).alloc (.cells (row .u8 z32) 23)):=((Below.refl _ _).alloc (Nat.le_refl _) _).alloc (by simp) _;have hd0:=(CellsAt.new w 26 (dotC a s)).alloc (.cells (row .u8 z32) 23);have hr0:=aa.new (w.alloc (.cells (dotC a s).toArray 26)) .u8 23 z32;rw [World.size_alloc] at hr0
 rw [hZ];clear hZb;go_enter Tryz.func29,Tryz.ntmps29;go_upto_region 1 with fail
 refine ae (p:=fun y=>Code.wp _ _ _ _ y) (fun W=>Below w.heap.size w W∧aA W base H own seed b M v L∧aa W (w.heap.size+1) .u8 23 Z∧CellsAt W w.heap.size 26 (dotC a s)) ⟨hB,hR.far hB,by rw [←hZ];exact hr0,hd0⟩ ?_;have HZ:=ac.mk hZ;clear hB hr0 hd0 hZ hR;rintro W ⟨hB,hR,hr0,hd0⟩;have rD:=hd0.range 0 2;rw [show ((dotC a s).drop 0).take 2=dotC a s from rfl] at rD
 have hk:=lG base H own seed b M v L W a s ho hR;have hka:fY M a s=Z:=by unfold fY;rw [hm,←HZ.out];rfl
 rw [hka,hm] at hk
 have hsz:=hr0.lt;clear hR;go_upto_region 6 with (first
  |(refine af rfl 26 _ rfl _ _ rfl (dotC a s) rD Tryz.underlying26 rfl eK ?_)
  |(go_at_call 69;refine hk.mono ?_;rintro e W1 ⟨rfl,hb1⟩;have hA1:=aa.new W1 .u8 23 (List.replicate 32 0))
  |(refine aj rfl 23 _ _ rfl _ rfl rfl hA1 (by rw [hZl];exact ap) (by rw [hZl];rfl) ?_))
 have hb2:Below W.heap.size W ((W1.alloc (.cells (row .u8 (List.replicate 32 0)) 23)).setRow W1.heap.size (row .u8 Z)):=hb1.trans ((below_setRow ((Below.refl _ _).alloc (Nat.le_refl _) _) (Nat.le_refl _) _).mono hb1.size);refine ae (p:=fun y=>Code.wp _ _ _ _ y) (fun W=>Below w.heap.size w W∧aa W (w.heap.size+1) .u8 23 Z) ⟨hB.trans (hb2.mono hB.size),hr0.below hb2 hr0.lt⟩ ?_;clear hB hr0 hd0 rD hb2 hA1 hb1 hk;rintro V ⟨hB,hr0⟩
 go_wp2_with (first
  |(refine aF rfl 23 _ rfl #[] (by first|rfl|kernel_rfl) _ (HZb.out _) ?_)
  |(refine aj rfl 23 _ _ rfl _ rfl rfl hr0 (by rw [hZl];exact ap) rfl ?_))
 refine bodyPost_ret (aI (Tryz.results29) _ rfl rfl (hr0.setRow Z).cellsAt Tryz.underlying23 rfl (by rw [List.length_map,hZl];exact ap)) rfl ⟨rfl,?_⟩;exact below_setRow hB (by omega) _
theorem xz (a s p:Int) (k:List Int) (ho:okD a s) (h8:p<8) (hR:aA w base H own seed b M v L) (hm:M a s=some k) (hKT:S.KTab w):
    Calls Tryz.prog 29 #[.pointer (some ⟨H,0,none⟩),.agg (dotC a s).toArray,.int .u8 p] w fun e w'=>e=.returned (.tuple #[.agg (row .u8 (eo k p)),.int .i64 0])∧Below w.heap.size w w':=by
 obtain ⟨Z,hZl,hZ⟩:∃Z:List Int,Z.length=32∧z32=Z:=⟨_,rfl,rfl⟩
 have hn8:¬8≤p:=by omega
 have hkl:=hR.is32 a s k hm;have HD:ac (∀W:World,S.KTab W→Calls Tryz.prog 63 #[.agg (row .u8 k),.string ⟨#[102,114,97,109,101]⟩,.slice (some ⟨W.heap.size,0,none⟩) 1 1] (W.alloc (.cells (row .u8 [p]) 5)) fun e w'=>e=.returned (.agg (row .u8 (eo k p)))∧Below (W.alloc (.cells (row .u8 [p]) 5)).heap.size (W.alloc (.cells (row .u8 [p]) 5)) w'):=⟨fun W hk=>ia k ⟨#[102,114,97,109,101]⟩ _ 1 1 [p] _ hkl (by decide) (qn W [p] 1 rfl (by simp)) (by omega) (hk.below ((Below.refl _ _).alloc (Nat.le_refl _) _))⟩
 have hPl:(eo k p).length=32:=aU _ _;obtain ⟨PL,hPL⟩:∃z,eo k p=z:=⟨_,rfl⟩
 rw [hPL] at HD hPl
 have HPL:=ac.mk hPL;clear hPL;have hB:Below w.heap.size w ((w.alloc (.cells (dotC a s).toArray 26)).alloc (.cells (row .u8 z32) 23)):=((Below.refl _ _).alloc (Nat.le_refl _) _).alloc (by simp) _;have hd0:=(CellsAt.new w 26 (dotC a s)).alloc (.cells (row .u8 z32) 23);have hr0:=aa.new (w.alloc (.cells (dotC a s).toArray 26)) .u8 23 z32;rw [World.size_alloc] at hr0
 go_enter Tryz.func29,Tryz.ntmps29;go_upto_region 1 with fail
 refine ae (p:=fun y=>Code.wp _ _ _ _ y) (fun W=>Below w.heap.size w W∧aA W base H own seed b M v L∧aa W (w.heap.size+1) .u8 23 Z∧CellsAt W w.heap.size 26 (dotC a s)) ⟨hB,hR.far hB,by rw [←hZ];exact hr0,hd0⟩ ?_;clear hB hr0 hd0 hZ hR;rintro W ⟨hB,hR,hr0,hd0⟩;have rD:=hd0.range 0 2;rw [show ((dotC a s).drop 0).take 2=dotC a s from rfl] at rD
 have hk:=lG base H own seed b M v L W a s ho hR;have hka:fY M a s=k:=by unfold fY;rw [hm];rfl
 rw [hka,hm] at hk
 have hsz:=hr0.lt;clear hR;go_upto_region 6 with (first
  |(refine af rfl 26 _ rfl _ _ rfl (dotC a s) rD Tryz.underlying26 rfl eK ?_)
  |(go_at_call 69;refine hk.mono ?_;rintro e W1 ⟨rfl,hb1⟩;have hA1:=aa.new W1 .u8 23 (List.replicate 32 0))
  |(refine aj rfl 23 _ _ rfl _ rfl rfl hA1 (by rw [hkl];exact ap) (by rw [hkl];rfl) ?_))
 have hb2:Below W.heap.size W ((W1.alloc (.cells (row .u8 (List.replicate 32 0)) 23)).setRow W1.heap.size (row .u8 k)):=hb1.trans ((below_setRow ((Below.refl _ _).alloc (Nat.le_refl _) _) (Nat.le_refl _) _).mono hb1.size);refine ae (p:=fun y=>Code.wp _ _ _ _ y) (fun V=>Below w.heap.size w V∧aa V (w.heap.size+1) .u8 23 Z∧aa V W1.heap.size .u8 23 k) ⟨hB.trans (hb2.mono hB.size),hr0.below hb2 hr0.lt,hA1.setRow _⟩ ?_;obtain ⟨G,hG⟩:∃q,W1.heap.size=q:=⟨_,rfl⟩
 rw [hG];clear hB hr0 hd0 rD hb2 hA1 hb1 hk hG;rintro V ⟨hB,hr0,hx⟩;have hd:=HD.out V (hKT.below hB);have hB2:=hB.alloc hB.size (.cells (row .u8 [p]) 5);have hr2:=hr0.alloc (.cells (row .u8 [p]) 5)
 go_wp2_with (first
  |(refine am rfl 23 _ rfl _ rfl hx Tryz.underlying23 ap hkl ?_)
  |(go_at_call 63;refine hd.mono ?_;rintro e w1 ⟨rfl,hb1⟩;have hr3:=hr2.below hb1 hr2.lt)
  |(refine aj rfl 23 _ _ rfl _ rfl rfl hr3 (by rw [hPl];exact ap) (by rw [hZl,hPl]) ?_))
 refine bodyPost_ret (aI (Tryz.results29) _ rfl rfl (hr3.setRow PL).cellsAt Tryz.underlying23 rfl (by rw [List.length_map,hPl];exact ap)) rfl ⟨?_,?_⟩
 · rw [HPL.out];rfl
 · exact below_setRow (hB2.trans (hb1.mono hB2.size)) (by omega) _
end
theorem CellsAt.afar {w w':World} {g:Nat} {t:TypeId} {cs:List Value} (h:CellsAt w g t cs) (hb:Below w.heap.size w w'):CellsAt w' g t cs:=by
 have hl:=h.lt;unfold CellsAt at h ⊢;rw [hb.block g hl];exact h
theorem CellsAt.grown {w w':World} {base g:Nat} {v:Value} {z:List Int} {t:TypeId} {cs:List Value} (h:CellsAt w g t cs) (ho:ao w base v z) (hg:w.grownBy w' v.ownBlock) (ht:t≠5):CellsAt w' g t cs:=rZ ho hg h ht
theorem ao.keepT {w w':World} {base g0:Nat} {v:Value} {z:List Int} {t:TypeId} {cs:List Value} (h:ao w base v z) (hc:CellsAt w g0 t cs) (ht:t≠5) (hk:∀g,g≠g0→w'.heap[g]?=w.heap[g]?):ao w' base v z:=by
 refine ⟨h.1,?_⟩
 rcases h.2 with h'|⟨g,cap,cur,h1,h2,h3,h4⟩
 · exact .inl h'
 · refine .inr ⟨g,cap,cur,h1,h2,?_,h4⟩
   rw [hk g (fun e=>by
    subst e;unfold CellsAt at hc
    rw [h3] at hc
    simp at hc
    exact ht hc.2.symm)]
   exact h3
theorem me (F:Fr) (xw:Option Addr) (lw cw:Nat) (ws:List Wp) (w:World) (hp:F.prev.length=32) (hm:F.mac.length=32) (hfw:F.wraps=.slice xw lw cw) (hws:WrapsAt w xw lw cw ws) (h1:lw≤64):
    Calls Tryz.prog 35 #[.agg F.cells.toArray] w fun e w'=>∃v,e=.returned v∧ao w' w.heap.size v (aN F ws)∧Below w.heap.size w w':=by
 obtain ⟨q0,_,_,_,_,q6,q7,q8⟩:=aL F hp hm;have HQ:ac (F.cells[36]?=some (.slice xw lw cw)):=⟨by rw [←hfw];exact q6⟩
 have hiF:(Tryz.prog.info? 43).map (·.size)=some F.cells.length:=by rw [q0];exact bw
 have hop:=fun wx (h0:Below w.heap.size w wx) (h:Wr wx (w.heap.size+1) w.heap.size [])=>mo (w.heap.size+1) w.heap.size [] F xw lw cw ws wx h hp hm hfw (fun wy hy=>hws.below (h0.trans hy)) (by omega) (by simp)
 have hD0:=CellsAt.new w 43 F.cells;have hB0:Below w.heap.size w (w.alloc (.cells F.cells.toArray 43)):=(Below.refl _ _).alloc (Nat.le_refl _) _;have h1':¬(lw:Int)>64:=by omega
 have c36:=hD0.cell 36;rw [HQ.out] at c36
 have hcw:=hws.le;have htw:=hws.top;clear q0 q6 q7 q8 hfw hp hm hws;go_enter Tryz.func35,Tryz.ntmps35;go_upto_region 3 with fail
 refine ae (p:=fun y=>Code.wp _ _ _ _ y) (fun W0=>Below w.heap.size w W0∧W0.heap.size=w.heap.size+1∧CellsAt W0 w.heap.size 43 F.cells) ⟨hB0,by simp,hD0⟩ ?_;clear hB0 hD0 c36;rintro W0 ⟨hB0,hsz0,hD0⟩;have hbx:Box (W0.alloc (.cells #[.slice none 0 0] 114)) (w.heap.size+1) 114 (.slice none 0 0):=by
  have:Box (W0.alloc (.cells #[.slice none 0 0] 114)) W0.heap.size 114 (.slice none 0 0):=heap_alloc_new _ _;rw [hsz0] at this
  exact this
 have hW1:Wr (W0.alloc (.cells #[.slice none 0 0] 114)) (w.heap.size+1) w.heap.size []:=⟨by omega,_,hbx,ao.nil _ _⟩
 have hD1:=hD0.alloc (.cells #[.slice none 0 0] 114);have hB1:=hB0.alloc hB0.size (.cells #[.slice none 0 0] 114);go_upto_region 4 with fail
 refine ae (p:=fun y=>Code.wp _ _ _ _ y) (fun W1=>Below w.heap.size w W1∧Wr W1 (w.heap.size+1) w.heap.size []∧CellsAt W1 w.heap.size 43 F.cells) ⟨hB1,hW1,hD1⟩ ?_;clear hB1 hW1 hD1 hbx hB0 hD0 hsz0;rintro W1 ⟨hB1,hW1,hD1⟩;have rE:W1.rangeAt w.heap.size 0 F.cells:=fun j v hv=>by rw [Nat.zero_add,hD1.cell];exact hv
 have hop1:=hop W1 hB1 hW1;rw [List.nil_append] at hop1
 go_upto_region 5 with (first
  |(refine af rfl 43 _ rfl _ _ rfl F.cells rE Tryz.underlying43 rfl hiF ?_)
  |(go_at_call 80;refine hop1.mono ?_;rintro e w2 ⟨⟨r2,rfl⟩,hW2,hg2⟩))
 have hB2:Below w.heap.size w w2:=hB1.trans hg2.below;obtain ⟨v,hb5,ho5⟩:=hW2.has;have c0:=hb5.cell;obtain ⟨x5,n5,c5,rfl,hn5⟩:=ho5.isSlice;clear hn5 hop hop1 rE hD1 hW1 hB1 hg2 hb5 hW2;go_wp2;go_ret;exact ⟨_,rfl,ho5,hB2⟩
end Go.Proofs.YtbdhfbglagdiaaaGreatDoor
