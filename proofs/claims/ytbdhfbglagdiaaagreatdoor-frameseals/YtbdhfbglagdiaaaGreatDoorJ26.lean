/- Eqd Gate3 Gate4 Kfz Kf -/
import Derived.Test.YtbdhfbglagdiaaaGreatDoorJ01
import Derived.Test.YtbdhfbglagdiaaaGreatDoorJ02
import Derived.Laws.StructEq
import Derived.OrdersHeld
import Derived.Deep.RegionHeld
import Derived.StillTail
import Derived.Deep.MidRow
import Derived.Test.YtbdhfbglagdiaaaGreatDoorJ24
import Derived.Test.YtbdhfbglagdiaaaGreatDoorJ25
namespace Go.Proofs.YtbdhfbglagdiaaaGreatDoor
open Go.RowKit
set_option maxRecDepth 20000
set_option linter.unusedSimpArgs false
theorem part_midE {P : Program} (w : World) (t : TypeId) (n : Nat) (d : TypeDesc) (cs : List Value) (off : Nat) (hu : P.underlying t = some d) (hd : (match d with | .struct _ | .array _ _ => true | _ => false) = true) (hi : (P.info? t).map (·.size) = some n) :
    (part t cs.toArray off).run P w = .ok (.agg ((cs.drop off).take n).toArray) w := by
 cases hq : P.info? t with
 | none => simp [hq] at hi
 | some i =>
  have hs : i.size = n := by simpa [hq] using hi
  cases d <;> simp_all [part, isAgg, run_underlying hu, sizeOf, typeInfo, List.extract]
theorem part_one {P : Program} (w : World) (t : TypeId) (k : IntKind) (cs : List Value) (off : Nat) (v : Value) (hu : P.underlying t = some (.int k)) (hv : cs[off]? = some v) : (part t cs.toArray off).run P w = .ok v w := by
 simp [part, isAgg, run_underlying hu, hv]
theorem eqFields_2 {P : Program} (w : World) (d : Nat) (xs ys : Array Value) (t1 t2 : TypeId) (o1 o2 : Nat) (a1 b1 a2 b2 : Value) (r1 r2 : Bool) (h1 : (part t1 xs o1).run P w = .ok a1 w) (k1 : (part t1 ys o1).run P w = .ok b1 w) (h2 : (part t2 xs o2).run P w = .ok a2 w) (k2 : (part t2 ys o2).run P w = .ok b2 w)
    (e1 : (Op.equalIn d t1 a1 b1).run P w = .ok r1 w) (e2 : (Op.equalIn d t2 a2 b2).run P w = .ok r2 w) : ∀ L : List Field, L.map (fun f => (f.name != "_", f.type, f.offset)) = [(true, t1, o1), (true, t2, o2)] → (Op.eqFields d xs ys L).run P w = .ok (r1 && r2) w
 | [], hf => by simp at hf
 | [_], hf => by simp at hf
 | _ :: _ :: _ :: _, hf => by simp at hf
 | [f, g], hf => by
  simp only [List.map_cons, List.map_nil, List.cons.injEq, Prod.mk.injEq, and_true, bne_iff_ne, ne_eq] at hf
  obtain ⟨⟨q1, q2, q3⟩, p1, p2, p3⟩ := hf
  cases r1 <;> cases r2 <;> simp only [Op.eqFields, q1, q2, q3, p1, p2, p3, ne_eq, not_false_eq_true, if_true, Sem.run_bind, h1, h2, k1, k2, e1, e2, Result.andThen_ok, Bool.not_true, Bool.not_false, Bool.false_eq_true, if_false, Sem.run_pure, Bool.and_true, Bool.and_false]
theorem eqFields_3 {P : Program} (w : World) (d : Nat) (xs ys : Array Value) (t1 t2 t3 : TypeId) (o1 o2 o3 : Nat) (a1 b1 a2 b2 a3 b3 : Value) (r1 r2 r3 : Bool) (h1 : (part t1 xs o1).run P w = .ok a1 w) (k1 : (part t1 ys o1).run P w = .ok b1 w) (h2 : (part t2 xs o2).run P w = .ok a2 w) (k2 : (part t2 ys o2).run P w = .ok b2 w) (h3 : (part t3 xs o3).run P w = .ok a3 w) (k3 : (part t3 ys o3).run P w = .ok b3 w)
    (e1 : (Op.equalIn d t1 a1 b1).run P w = .ok r1 w) (e2 : (Op.equalIn d t2 a2 b2).run P w = .ok r2 w) (e3 : (Op.equalIn d t3 a3 b3).run P w = .ok r3 w) : ∀ L : List Field, L.map (fun f => (f.name != "_", f.type, f.offset)) = [(true, t1, o1), (true, t2, o2), (true, t3, o3)] → (Op.eqFields d xs ys L).run P w = .ok (r1 && r2 && r3) w
 | [], hf => by simp at hf
 | [_], hf => by simp at hf
 | [_, _], hf => by simp at hf
 | _ :: _ :: _ :: _ :: _, hf => by simp at hf
 | [f, g, i], hf => by
  simp only [List.map_cons, List.map_nil, List.cons.injEq, Prod.mk.injEq, and_true, bne_iff_ne, ne_eq] at hf
  obtain ⟨⟨q1, q2, q3⟩, ⟨p1, p2, p3⟩, s1, s2, s3⟩ := hf
  cases r1 <;> cases r2 <;> cases r3 <;> simp only [Op.eqFields, q1, q2, q3, p1, p2, p3, s1, s2, s3, ne_eq, not_false_eq_true, if_true, Sem.run_bind, h1, h2, h3, k1, k2, k3, e1, e2, e3, Result.andThen_ok, Bool.not_true, Bool.not_false, Bool.false_eq_true, if_false, Sem.run_pure, Bool.and_true, Bool.and_false]
theorem dot_fields : (Tryz.prog.fieldsOf 26).toList.map (fun f => (f.name != "_", f.type, f.offset)) = [(true, 5, 0), (true, 24, 1)] := by kernel_rfl
theorem dot_under : Tryz.prog.underlying 26 = some (.struct (Tryz.prog.fieldsOf 26)) := by kernel_rfl
theorem dot_held : Tryz.prog.stoodInHeld 26 = false := by kernel_rfl
theorem dot_eqIn (d : Nat) (a s a' s' : Int) (wx : World) : (Op.equalIn (d + 1 + 1) 26 (.agg (dotC a s).toArray) (.agg (dotC a' s').toArray)).run Tryz.prog wx = .ok ((a == a') && (s == s')) wx := by
 rw [run_equalIn_struct wx _ 26 _ _ dot_under dot_held]
 exact eqFields_2 wx _ _ _ _ _ _ _ (.int .u8 a) (.int .u8 a') (.int .u32 s) (.int .u32 s') _ _ (part_one wx _ _ (dotC a s) 0 _ Tryz.underlying5 rfl) (part_one wx _ _ (dotC a' s') 0 _ Tryz.underlying5 rfl) (part_one wx _ _ (dotC a s) 1 _ Tryz.underlying24 rfl) (part_one wx _ _ (dotC a' s') 1 _ Tryz.underlying24 rfl)
  (run_equalIn_int wx d 5 .u8 .u8 a a' Tryz.underlying5) (run_equalIn_int wx d 24 .u32 .u32 s s' Tryz.underlying24) _ dot_fields
theorem dot_eql (a s a' s' : Int) (wx : World) : (binOp BinOp.eql 26 (.agg (dotC a s).toArray) (.agg (dotC a' s').toArray)).run Tryz.prog wx = .ok (.bool ((a == a') && (s == s'))) wx := by
 rw [run_eql_struct, dot_eqIn 9998]; rfl
theorem dot_neq (a s a' s' : Int) (wx : World) : (binOp BinOp.neq 26 (.agg (dotC a s).toArray) (.agg (dotC a' s').toArray)).run Tryz.prog wx = .ok (.bool (!((a == a') && (s == s')))) wx := by
 rw [run_neq_struct, dot_eqIn 9998]; rfl
theorem cells8 : Tryz.prog.cellsOf 5 = 1 := by kernel_rfl
theorem info8 : (Tryz.prog.info? 5).isSome = true := by kernel_rfl
theorem key_eqIn (d : Nat) (l m : List Int) (hl : l.length = 32) (hm : m.length = 32) (wx : World) : (Op.equalIn (d + 1 + 1) 23 (.agg (l.map (Value.int .u8)).toArray) (.agg (m.map (Value.int .u8)).toArray)).run Tryz.prog wx = .ok (l == m) wx :=
 run_equalIn_rows wx d .u8 l m Tryz.underlying23 Tryz.underlying5 cells8 info8 hl hm
theorem key_neq (l m : List Int) (hl : l.length = 32) (hm : m.length = 32) (wx : World) : (binOp BinOp.neq 23 (.agg (l.map (Value.int .u8)).toArray) (.agg (m.map (Value.int .u8)).toArray)).run Tryz.prog wx = .ok (.bool (!(l == m))) wx := by
 rw [run_neq_struct, key_eqIn 9998 l m hl hm]; rfl
theorem wrap_fields : (Tryz.prog.fieldsOf 68).toList.map (fun f => (f.name != "_", f.type, f.offset)) = [(true, 5, 0), (true, 26, 1), (true, 66, 3)] := by kernel_rfl
theorem wrap_under : Tryz.prog.underlying 68 = some (.struct (Tryz.prog.fieldsOf 68)) := by kernel_rfl
theorem wrap_held : Tryz.prog.stoodInHeld 68 = false := by kernel_rfl
theorem sizeData : (Tryz.prog.info? 66).map (·.size) = some 48 := by kernel_rfl
def wpEq (e f : Wp) : Bool := (e.too == f.too) && ((e.ea == f.ea) && (e.es == f.es)) && (e.data == f.data)
theorem wpEq_iff (e f : Wp) : wpEq e f = true ↔ e = f := by
 obtain ⟨a, b, c, d⟩ := e
 obtain ⟨a', b', c', d'⟩ := f
 unfold wpEq
 simp only [Bool.and_eq_true, beq_iff_eq, Wp.mk.injEq, and_assoc]
theorem wrap_eqIn (e f : Wp) (he : e.data.length = 48) (hf : f.data.length = 48) (wx : World) : (Op.equalIn 10000 68 (.agg e.cells.toArray) (.agg f.cells.toArray)).run Tryz.prog wx = .ok (wpEq e f) wx := by
 obtain ⟨_, q1, q2, q3, _⟩ := wp_parts e he
 obtain ⟨_, p1, p2, p3, _⟩ := wp_parts f hf
 have s1 := part_midE wx 26 2 _ e.cells 1 Tryz.underlying26 rfl sizeDot
 have s2 := part_midE wx 26 2 _ f.cells 1 Tryz.underlying26 rfl sizeDot
 have s3 := part_midE wx 66 48 _ e.cells 3 Tryz.underlying66 rfl sizeData
 have s4 := part_midE wx 66 48 _ f.cells 3 Tryz.underlying66 rfl sizeData
 rw [q2] at s1
 rw [p2] at s2
 rw [q3] at s3
 rw [p3] at s4
 rw [run_equalIn_struct wx 9999 68 _ _ wrap_under wrap_held]
 exact eqFields_3 wx _ _ _ _ _ _ _ _ _ (.int .u8 e.too) (.int .u8 f.too) _ _ _ _ _ _ _ (part_one wx _ _ e.cells 0 _ Tryz.underlying5 q1) (part_one wx _ _ f.cells 0 _ Tryz.underlying5 p1) s1 s2 s3 s4
  (run_equalIn_int wx 9998 5 .u8 .u8 e.too f.too Tryz.underlying5) (dot_eqIn 9997 _ _ _ _ wx) (run_equalIn_rows wx 9997 .u8 e.data f.data Tryz.underlying66 Tryz.underlying5 cells8 info8 he hf) _ wrap_fields
theorem wrap_neq (e f : Wp) (he : e.data.length = 48) (hf : f.data.length = 48) (wx : World) : (binOp BinOp.neq 68 (.agg e.cells.toArray) (.agg f.cells.toArray)).run Tryz.prog wx = .ok (.bool (!(wpEq e f))) wx := by
 rw [run_neq_struct, wrap_eqIn e f he hf]; rfl
open Go Go.RowKit
section
variable {P:Program} {ops:Array Oper} {Q:Exit→Act→World→Prop} {md:Region.Mode} {T S:World→Prop} {D:Nat}
def aO (P:Program) (md:Region.Mode) (ops:Array Oper) (Q:Exit→Act→World→Prop) (T S:World→Prop) (D:Nat):Nat→Array Bool→Act→World→Prop
 |0,listed,a,w=>Region.ready md ops listed=[]∧Q .normal a w
 |fuel+1,listed,a,w=>
  (Region.ready md ops listed=[]→Q .normal a w)∧
  ∀i∈Region.ready md ops listed,wpOp P ops Q i (fun a' w'=>(T w'∧((listed.setIfInBounds i true).getD D true=false→S w'))∧aO P md ops Q T S D fuel (listed.setIfInBounds i true) a' w') a w
theorem ig:∀(fuel:Nat) (listed:Array Bool) (a:Act) (w:World),aO P md ops Q T S D fuel listed a w→wpAny P md ops Q fuel listed a w
 |0,_,_,_,h=>h
 |fuel+1,_,_,_,h=>⟨h.1,fun i hi=>wpOp_mono (fun a' w' h'=>ig fuel _ a' w' h'.2) (h.2 i hi)⟩
theorem eV {i:Nat} {oi:Oper} {v:Value} {U:World→Prop} (hi:ops[i]?=some oi) (hsel:∀(j:Nat) (o:Oper) cs b,ops[j]?=some o→o.op≠ .select cs b)
    (hQ:∀c a w,Q (.panic c) (a.put oi.dst v) w→Q (.panic c) a w) (hD:i≠D)
    (hU:(∀w,T w→U w)∨((∀w,S w→U w)∧∃oD,ops[D]?=some oD∧∃e∈oD.after,Region.binds md e=true∧e.on=i)):
    ∀(fuel:Nat) (listed:Array Bool) (a:Act) (w:World),
     (∀j oj,ops[j]?=some oj→j≠i→listed.getD j true=false→(∀e∈oj.after,Region.binds md e=true→e.on≠i)→oi.apart ops oj=true)→
     i∈Region.ready md ops listed→((∀w,T w→U w)∨listed.getD D true=false)→YieldsIf P ops U oi v a→T w→(listed.getD D true=false→S w)→
     aO P md ops Q T S D fuel (listed.setIfInBounds i true) (a.put oi.dst v) w→aO P md ops Q T S D (fuel+1) listed a w:=by
 have hUw:∀(listed:Array Bool) w,((∀w,T w→U w)∨listed.getD D true=false)→T w→(listed.getD D true=false→S w)→U w:=fun listed w h1 h0 h2=>by
  rcases h1 with h|h
  · exact h w h0
  · rcases hU with h'|⟨h',_⟩
    · exact h' w h0
    · exact h' w (h2 h)
 intro fuel
 induction fuel with
 |zero=>
  intro listed a w _ hr hg hy hT hS H;refine ⟨fun h=>(by rw [h] at hr;cases hr),fun j hj=>?_⟩
  by_cases hji:j=i
  · subst hji;exact hy.wpOp hi (hUw listed w hg hT hS) ⟨⟨hT,fun h=>hS (by rwa [getD_set_ne true hD] at h)⟩,H⟩
  · have:=ready_mono hj hji
    rw [H.1] at this
    cases this
 |succ fuel ih=>
  intro listed a w hfree hr hg hy hT hS H;refine ⟨fun h=>(by rw [h] at hr;cases hr),fun j hj=>?_⟩
  by_cases hji:j=i
  · subst hji;exact hy.wpOp hi (hUw listed w hg hT hS) ⟨⟨hT,fun h=>hS (by rwa [getD_set_ne true hD] at h)⟩,H⟩
  · have h1:=H.2 j (ready_mono hj hji)
    obtain ⟨hjun,oj,hoj,hall⟩:=mem_ready.1 hj;have hnot:∀e∈oj.after,Region.binds md e=true→e.on≠i:=fun e he hb heq=>by
     have h1:=hall e he hb;have h0:=(mem_ready.1 hr).1;rw [heq] at h1
     rcases Nat.lt_or_ge i listed.size with h'|h'
     · simp [h'] at h0 h1;rw [h0] at h1;cases h1
     · simp [Array.getElem?_eq_none h'] at h1
    have h2:=wpOp_putIf hoj (hfree j oj hoj hji hjun hnot) (fun cs b=>hsel i oi cs b hi) (fun cs b=>hsel j oj cs b hoj) hQ hy h1;have hfree':∀k ok,ops[k]?=some ok→k≠i→(listed.setIfInBounds j true).getD k true=false→
        (∀e∈ok.after,Region.binds md e=true→e.on≠i)→oi.apart ops ok=true:=fun k ok hk hki hun hno=>by
     refine hfree k ok hk hki ?_ hno
     by_cases hjk:j=k
     · subst hjk;exact hjun
     · rw [getD_set_ne true hjk] at hun;exact hun
    have hg':(∀w,T w→U w)∨(listed.setIfInBounds j true).getD D true=false:=by
     rcases hU with h|⟨_,oD,hoD,e,he,hb,hon⟩
     · exact .inl h
     · rcases hg with h|h
       · exact .inl h
       · refine .inr ?_
         have hjD:j≠D:=fun e'=>by
          subst e';obtain rfl:oj=oD:=Option.some.inj (hoj.symm.trans hoD);exact hnot e he hb hon
         rw [getD_set_ne true hjD];exact h
    refine wpOp_mono (fun a' w' h3=>?_) h2;have hS':(listed.setIfInBounds j true).getD D true=false→S w':=fun h=>h3.2.1.2 (by rw [Array.setIfInBounds_comm _ _ (Ne.symm hji),getD_set_ne true hD];exact h)
    refine ⟨⟨h3.2.1.1,hS'⟩,ih (listed.setIfInBounds j true) a' w' hfree' (ready_mono hr (Ne.symm hji)) hg' h3.1 h3.2.1.1 hS' ?_⟩;rw [Array.setIfInBounds_comm _ _ hji];exact h3.2.2
theorem bO {i:Nat} {oi:Oper} {v:Value} {fuel:Nat} {listed:Array Bool} {a:Act} {w:World} (hi:ops[i]?=some oi)
    (hs:Region.noSelect ops=true) (hf:Region.free md ops listed i=true) (hr:(Region.ready md ops listed).contains i=true)
    (hQ:∀c a w,Q (.panic c) (a.put oi.dst v) w→Q (.panic c) a w) (hD:(i==D)=false) (hT:T w) (hS:listed.getD D true=false→S w) (hw:Region.wanted oi (yielded ops a.tmps)=true)
    (hy:∀w,T w→(execOp a.eval oi).run P w=.ok (.value v) w)
    (h:aO P md ops Q T S D fuel (listed.setIfInBounds i true) (a.put oi.dst v) w):aO P md ops Q T S D (fuel+1) listed a w:=
 eV (U:=T) hi (Region.noSelect_spec hs) hQ (by simpa using hD) (.inl fun _ h=>h) fuel listed a w (Region.free_spec hi hf) (by simpa using hr) (.inl fun _ h=>h) (.inl ⟨hw,hy⟩) hT hS h
theorem gh (i:Nat) {oi:Oper} (v:Value) {fuel:Nat} {listed:Array Bool} {a:Act} {w:World} (hT:T w) (hS:S w)
    (hy:∀w,T w→(execOp a.eval oi).run P w=.ok (.value v) w)
    (h:aO P md ops Q T S D fuel (listed.setIfInBounds i true) (a.put oi.dst v) w) (hi:ops[i]?=some oi:=by exact rfl)
    (hb:(Region.noSelect ops&&(Region.free md ops listed i&&((Region.ready md ops listed).contains i&&(!(i==D)&&Region.wanted oi (yielded ops a.tmps)))))=true:=by kernel_rfl)
    (hQ:∀c a w,Q (.panic c) (a.put oi.dst v) w→Q (.panic c) a w:=by exact fun _ _ _ h=>h):aO P md ops Q T S D (fuel+1) listed a w:=by
 rw [Bool.and_eq_true,Bool.and_eq_true,Bool.and_eq_true,Bool.and_eq_true,Bool.not_eq_true'] at hb
 exact bO hi hb.1 hb.2.1 hb.2.2.1 hQ hb.2.2.2.1 hT (fun _=>hS) hb.2.2.2.2 hy h
theorem ghA (i:Nat) {oi:Oper} (v:Value) {fuel:Nat} {listed:Array Bool} {a:Act} {w:World} (hT:T w) (hS:S w)
    (h:aO P md ops Q T S D fuel (listed.setIfInBounds i true) (a.put oi.dst v) w) (hi:ops[i]?=some oi:=by exact rfl)
    (hb:(Region.noSelect ops&&(Region.free md ops listed i&&((Region.ready md ops listed).contains i&&(!(i==D)&&Region.wanted oi (yielded ops a.tmps)))))=true:=by kernel_rfl)
    (hQ:∀c a w,Q (.panic c) (a.put oi.dst v) w→Q (.panic c) a w:=by exact fun _ _ _ h=>h)
    (hy:∀w,T w→(execOp a.eval oi).run P w=.ok (.value v) w:=by intro wx hSw;go_split_ands;go_simp;try with_reducible rfl):aO P md ops Q T S D (fuel+1) listed a w:=by
 rw [Bool.and_eq_true,Bool.and_eq_true,Bool.and_eq_true,Bool.and_eq_true,Bool.not_eq_true'] at hb
 exact bO hi hb.1 hb.2.1 hb.2.2.1 hQ hb.2.2.2.1 hT (fun _=>hS) hb.2.2.2.2 hy h
theorem fo {i:Nat} {oi:Oper} {v:Value} {fuel:Nat} {listed:Array Bool} {a:Act} {w:World} (hi:ops[i]?=some oi)
    (hs:Region.noSelect ops=true) (hf:Region.free md ops listed i=true) (hr:(Region.ready md ops listed).contains i=true)
    (hQ:∀c a w,Q (.panic c) (a.put oi.dst v) w→Q (.panic c) a w) (hD:(i==D)=false) (hwait:Region.waitsFor md ops D i=true) (hg:listed.getD D true=false) (hT:T w) (hS:S w) (hw:Region.wanted oi (yielded ops a.tmps)=true)
    (hy:∀w,S w→(execOp a.eval oi).run P w=.ok (.value v) w)
    (h:aO P md ops Q T S D fuel (listed.setIfInBounds i true) (a.put oi.dst v) w):aO P md ops Q T S D (fuel+1) listed a w:=
 eV (U:=S) hi (Region.noSelect_spec hs) hQ (by simpa using hD) (.inr ⟨fun _ h=>h,by
  obtain ⟨oD,h1,e,h2,h3,h4⟩:=Region.waitsFor_spec hwait;exact ⟨oD,h1,e,h2,h3,h4⟩⟩) fuel listed a w (Region.free_spec hi hf) (by simpa using hr) (.inr hg) (.inl ⟨hw,hy⟩) hT (fun _=>hS) h
theorem rW {i:Nat} {o:Oper} {fuel:Nat} {listed:Array Bool} {a:Act} {w:World} (hi:ops[i]?=some o) (hr:Region.ready md ops listed=[i]) (hw:Region.wanted o (yielded ops a.tmps)=true)
    (h:∀K':Act→World→Prop,Shut (∀a w,T w→((listed.setIfInBounds i true).getD D true=false→S w)→aO P md ops Q T S D fuel (listed.setIfInBounds i true) a w→K' a w)→Oper.wp P o a w K' Q):aO P md ops Q T S D (fuel+1) listed a w:=
 ⟨fun h0=>(by rw [hr] at h0;cases h0),fun j hj=>by
  rw [hr] at hj
  obtain rfl:j=i:=by simpa using hj
  refine wpOp_step hi (fun K' hK=>?_);rw [if_pos hw];exact h K' (fun a w h0 h1 h2=>hK a w ⟨⟨h0,h1⟩,h2⟩)⟩
theorem zm (i:Nat) {o:Oper} {fuel:Nat} {listed:Array Bool} {a:Act} {w:World}
    (h:∀K':Act→World→Prop,Shut (∀a w,T w→((listed.setIfInBounds i true).getD D true=false→S w)→aO P md ops Q T S D fuel (listed.setIfInBounds i true) a w→K' a w)→Oper.wp P o a w K' Q) (hi:ops[i]?=some o:=by exact rfl) (hr:Region.ready md ops listed=[i]:=by kernel_rfl) (hw:Region.wanted o (yielded ops a.tmps)=true:=by kernel_rfl):aO P md ops Q T S D (fuel+1) listed a w:=rW hi hr hw h
theorem az {listed:Array Bool} {a:Act} {w:World} (hr:Region.ready md ops listed=[]) (h:Q .normal a w):
    ∀fuel,aO P md ops Q T S D fuel listed a w
 |0=>⟨hr,h⟩
 |_+1=>⟨fun _=>h,by rw [hr];simp⟩
theorem au {id:Nat} {a:Act} {w:World} (T S:World→Prop) (D:Nat) (hm:P.follows .mixedOrders=true)
    (h:aO P .any ops Q T S D ops.size (Array.replicate ops.size false) a w.drew):(Code.region id ops true).wp P Q a w:=
 wp_region_any hm (ig _ _ _ _ h)
end
section
variable {P:Program} {ops:Array Oper} {Q:Exit→Act→World→Prop} {md:Region.Mode} {T S:World→Prop} {D:Nat}
theorem oE {i:Nat} {dst:Option Tmp} {ty:TypeId} {x:Operand} {b o:Nat} {cs:List Value} {d:TypeDesc} {fuel:Nat} {listed:Array Bool} {a:Act} {w:World}
    (hop:(ops[i]?).map (fun o=>(o.dst,o.op))=some (dst,.load ty x)) (hw:(ops[i]?).map (fun o=>Region.wanted o (yielded ops a.tmps))=some true)
    (hs:Region.noSelect ops=true) (hf:Region.free md ops listed i=true) (hr:(Region.ready md ops listed).contains i=true)
    (hQ:∀c a w,Q (.panic c) (a.put dst (.agg cs.toArray)) w→Q (.panic c) a w) (hD:(i==D)=false) (hT:T w) (hS:listed.getD D true=false→S w)
    (hx:a.eval x=.pointer (some ⟨b,o,none⟩)) (hc:∀w,T w→w.rangeAt b o cs) (hu:P.underlying ty=some d) (hd:d.isRow=true) (hi:(P.info? ty).map (·.size)=some cs.length)
    (h:aO P md ops Q T S D fuel (listed.setIfInBounds i true) (a.put dst (.agg cs.toArray)) w):aO P md ops Q T S D (fuel+1) listed a w:=by
 cases ho:ops[i]? with
 |none=>rw [ho] at hop;cases hop
 |some oi=>
  rw [ho] at hop hw
  simp only [Option.map_some,Option.some.injEq,Prod.mk.injEq] at hop hw
  obtain ⟨rfl,hop⟩:=hop;exact eV (U:=T) ho (Region.noSelect_spec hs) hQ (by simpa using hD) (.inl fun _ h=>h) fuel listed a w (Region.free_spec ho hf) (by simpa using hr) (.inl fun _ h=>h) (yieldsIf_load_mid hw ty x hop b o hx cs d hc hu hd hi) hT hS h
theorem gl (i dst:Nat) (ty:TypeId) (x b o:Nat) (cs:List Value) {d:TypeDesc} {fuel:Nat} {listed:Array Bool} {a:Act} {w:World}
    (hop:(ops[i]?).map (fun o=>(o.dst,o.op))=some (some dst,.load ty (.tmp x))) (hw:(ops[i]?).map (fun o=>Region.wanted o (yielded ops a.tmps))=some true)
    (hb:(Region.noSelect ops&&(Region.free md ops listed i&&((Region.ready md ops listed).contains i&&!(i==D))))=true)
    (hQ:∀c a w,Q (.panic c) (a.put (some dst) (.agg cs.toArray)) w→Q (.panic c) a w) (hT:T w) (hS:S w)
    (hx:a.eval (.tmp x)=.pointer (some ⟨b,o,none⟩)) (hc:∀w,T w→w.rangeAt b o cs) (hu:P.underlying ty=some d) (hd:d.isRow=true) (hi:(P.info? ty).map (·.size)=some cs.length)
    (h:aO P md ops Q T S D fuel (listed.setIfInBounds i true) (a.put (some dst) (.agg cs.toArray)) w):aO P md ops Q T S D (fuel+1) listed a w:=by
 rw [Bool.and_eq_true,Bool.and_eq_true,Bool.and_eq_true,Bool.not_eq_true'] at hb
 exact oE hop hw hb.1 hb.2.1 hb.2.2.1 hQ hb.2.2.2 hT (fun _=>hS) hx hc hu hd hi h
theorem zh (i dst:Nat) (ty:TypeId) (x b o:Nat) (cs:List Value) {d:TypeDesc} {fuel:Nat} {listed:Array Bool} {a:Act} {w:World} (hT:T w) (hS:S w)
    (hc:∀w,T w→w.rangeAt b o cs) (hu:P.underlying ty=some d) (hi:(P.info? ty).map (·.size)=some cs.length)
    (h:aO P md ops Q T S D fuel (listed.setIfInBounds i true) (a.put (some dst) (.agg cs.toArray)) w)
    (hop:(ops[i]?).map (fun o=>(o.dst,o.op))=some (some dst,.load ty (.tmp x)):=by kernel_rfl) (hw:(ops[i]?).map (fun o=>Region.wanted o (yielded ops a.tmps))=some true:=by kernel_rfl)
    (hb:(Region.noSelect ops&&(Region.free md ops listed i&&((Region.ready md ops listed).contains i&&!(i==D))))=true:=by kernel_rfl)
    (hQ:∀c a w,Q (.panic c) (a.put (some dst) (.agg cs.toArray)) w→Q (.panic c) a w:=by exact fun _ _ _ h=>h) (hx:a.eval (.tmp x)=.pointer (some ⟨b,o,none⟩):=by kernel_rfl) (hd:d.isRow=true:=by rfl):aO P md ops Q T S D (fuel+1) listed a w:=gl i dst ty x b o cs hop hw hb hQ hT hS hx hc hu hd hi h
theorem pj {i:Nat} {oi:Oper} {fuel:Nat} {listed:Array Bool} {a:Act} {w:World} (hi:ops[i]?=some oi)
    (hs:Region.noSelect ops=true) (hf:Region.free md ops listed i=true) (hr:(Region.ready md ops listed).contains i=true)
    (hQ:∀c a w,Q (.panic c) (a.put oi.dst undef) w→Q (.panic c) a w) (hD:(i==D)=false) (hT:T w) (hS:listed.getD D true=false→S w) (hw:Region.wanted oi (yielded ops a.tmps)=false)
    (h:aO P md ops Q T S D fuel (listed.setIfInBounds i true) (a.put oi.dst undef) w):aO P md ops Q T S D (fuel+1) listed a w:=
 eV (U:=T) hi (Region.noSelect_spec hs) hQ (by simpa using hD) (.inl fun _ h=>h) fuel listed a w (Region.free_spec hi hf) (by simpa using hr) (.inl fun _ h=>h) (.inr ⟨hw,rfl⟩) hT hS h
theorem gs (i:Nat) {oi:Oper} {fuel:Nat} {listed:Array Bool} {a:Act} {w:World} (hT:T w) (hS:S w)
    (h:aO P md ops Q T S D fuel (listed.setIfInBounds i true) (a.put oi.dst undef) w) (hi:ops[i]?=some oi:=by exact rfl)
    (hb:(Region.noSelect ops&&(Region.free md ops listed i&&((Region.ready md ops listed).contains i&&(!(i==D)&&!(Region.wanted oi (yielded ops a.tmps))))))=true:=by kernel_rfl)
    (hQ:∀c a w,Q (.panic c) (a.put oi.dst undef) w→Q (.panic c) a w:=by exact fun _ _ _ h=>h):aO P md ops Q T S D (fuel+1) listed a w:=by
 rw [Bool.and_eq_true,Bool.and_eq_true,Bool.and_eq_true,Bool.and_eq_true,Bool.not_eq_true',Bool.not_eq_true'] at hb
 exact pj hi hb.1 hb.2.1 hb.2.2.1 hQ hb.2.2.2.1 hT (fun _=>hS) hb.2.2.2.2 h
end
def z32:List Int:=List.replicate 32 0
theorem jp (w:World):(Instr.build 23 #[]).run Tryz.prog w=.ok (.agg (row .u8 z32)) w:=by kernel_rfl
set_option maxHeartbeats 4000000
section
variable (base H:Nat) (own:Int) (seed:List Int) (b:Nat) (M:Int→Int→Option (List Int)) (v:Value) (L:List (Int×Int)) (w:World)
theorem vA (a s p:Int) (h8:8≤p):
    Calls Tryz.prog 29 #[.pointer (some ⟨H,0,none⟩),.agg (dotC a s).toArray,.int .u8 p] w fun e w'=>e=.returned (.tuple #[.agg (row .u8 z32),.int .i64 2])∧Below w.heap.size w w':=by
 obtain ⟨Z,hZl,hZ,hZb⟩:∃Z:List Int,Z.length=32∧z32=Z∧∀wx,(Instr.build 23 #[]).run Tryz.prog wx=.ok (.agg (row .u8 Z)) wx:=⟨_,rfl,rfl,jp⟩
 have HZb:=ac.mk hZb;have hB:Below w.heap.size w ((w.alloc (.cells (dotC a s).toArray 26)).alloc (.cells (row .u8 z32) 23)):=((Below.refl _ _).alloc (Nat.le_refl _) _).alloc (by simp) _;have hr0:=aa.new (w.alloc (.cells (dotC a s).toArray 26)) .u8 23 z32;rw [World.size_alloc] at hr0
 rw [hZ];clear hZb;go_enter Tryz.func29,Tryz.ntmps29;go_upto_region 1 with fail
 refine af (p:=fun y=>Code.wp _ _ _ _ y) (fun W=>Below w.heap.size w W∧aa W (w.heap.size+1) .u8 23 Z) ⟨hB,by rw [←hZ];exact hr0⟩ ?_;clear hB hr0 hZ;rintro W ⟨hB,hr0⟩
 go_wp2_with (first
  |(refine aG rfl 23 _ rfl #[] (by first|rfl|kernel_rfl) _ (HZb.out _) ?_)
  |(refine ah rfl 23 _ _ rfl _ rfl rfl hr0 (by rw [hZl];exact ap) rfl ?_))
 refine bodyPost_ret (aK (Tryz.results29) _ rfl rfl (hr0.setRow Z).cellsAt Tryz.underlying23 rfl (by rw [List.length_map,hZl];exact ap)) rfl ⟨rfl,?_⟩;exact below_setRow hB (by omega) _
theorem oU (a s p:Int) (ho:okD a s) (h8:p<8) (hR:aB w base H own seed b M v L) (hm:M a s=none):
    Calls Tryz.prog 29 #[.pointer (some ⟨H,0,none⟩),.agg (dotC a s).toArray,.int .u8 p] w fun e w'=>e=.returned (.tuple #[.agg (row .u8 z32),.int .i64 9])∧Below w.heap.size w w':=by
 obtain ⟨Z,hZl,hZ,hZb⟩:∃Z:List Int,Z.length=32∧z32=Z∧∀wx,(Instr.build 23 #[]).run Tryz.prog wx=.ok (.agg (row .u8 Z)) wx:=⟨_,rfl,rfl,jp⟩
 have HZb:=ac.mk hZb;have hn8:¬8≤p:=by omega
 have hB:Below w.heap.size w ((w.alloc (.cells (dotC a s).toArray 26)).alloc (.cells (row .u8 z32) 23)):=((Below.refl _ _).alloc (Nat.le_refl _) _).alloc (by simp) _;have hd0:=(CellsAt.new w 26 (dotC a s)).alloc (.cells (row .u8 z32) 23);have hr0:=aa.new (w.alloc (.cells (dotC a s).toArray 26)) .u8 23 z32;rw [World.size_alloc] at hr0
 rw [hZ];clear hZb;go_enter Tryz.func29,Tryz.ntmps29;go_upto_region 1 with fail
 refine af (p:=fun y=>Code.wp _ _ _ _ y) (fun W=>Below w.heap.size w W∧aB W base H own seed b M v L∧aa W (w.heap.size+1) .u8 23 Z∧CellsAt W w.heap.size 26 (dotC a s)) ⟨hB,hR.far hB,by rw [←hZ];exact hr0,hd0⟩ ?_;have HZ:=ac.mk hZ;clear hB hr0 hd0 hZ hR;rintro W ⟨hB,hR,hr0,hd0⟩;have rD:=hd0.range 0 2;rw [show ((dotC a s).drop 0).take 2=dotC a s from rfl] at rD
 have hk:=l5 base H own seed b M v L W a s ho hR;have hka:f8 M a s=Z:=by unfold f8;rw [hm,←HZ.out];rfl
 rw [hka,hm] at hk
 have hsz:=hr0.lt;clear hR;go_upto_region 6 with (first
  |(refine ae rfl 26 _ rfl _ _ rfl (dotC a s) rD Tryz.underlying26 rfl eH ?_)
  |(go_at_call 69;refine hk.mono ?_;rintro e W1 ⟨rfl,hb1⟩;have hA1:=aa.new W1 .u8 23 (List.replicate 32 0))
  |(refine ah rfl 23 _ _ rfl _ rfl rfl hA1 (by rw [hZl];exact ap) (by rw [hZl];rfl) ?_))
 have hb2:Below W.heap.size W ((W1.alloc (.cells (row .u8 (List.replicate 32 0)) 23)).setRow W1.heap.size (row .u8 Z)):=hb1.trans ((below_setRow ((Below.refl _ _).alloc (Nat.le_refl _) _) (Nat.le_refl _) _).mono hb1.size);refine af (p:=fun y=>Code.wp _ _ _ _ y) (fun W=>Below w.heap.size w W∧aa W (w.heap.size+1) .u8 23 Z) ⟨hB.trans (hb2.mono hB.size),hr0.below hb2 hr0.lt⟩ ?_;clear hB hr0 hd0 rD hb2 hA1 hb1 hk;rintro V ⟨hB,hr0⟩
 go_wp2_with (first
  |(refine aG rfl 23 _ rfl #[] (by first|rfl|kernel_rfl) _ (HZb.out _) ?_)
  |(refine ah rfl 23 _ _ rfl _ rfl rfl hr0 (by rw [hZl];exact ap) rfl ?_))
 refine bodyPost_ret (aK (Tryz.results29) _ rfl rfl (hr0.setRow Z).cellsAt Tryz.underlying23 rfl (by rw [List.length_map,hZl];exact ap)) rfl ⟨rfl,?_⟩;exact below_setRow hB (by omega) _
theorem xG (a s p:Int) (k:List Int) (ho:okD a s) (h8:p<8) (hR:aB w base H own seed b M v L) (hm:M a s=some k) (hKT:S.KTab w):
    Calls Tryz.prog 29 #[.pointer (some ⟨H,0,none⟩),.agg (dotC a s).toArray,.int .u8 p] w fun e w'=>e=.returned (.tuple #[.agg (row .u8 (et k p)),.int .i64 0])∧Below w.heap.size w w':=by
 obtain ⟨Z,hZl,hZ⟩:∃Z:List Int,Z.length=32∧z32=Z:=⟨_,rfl,rfl⟩
 have hn8:¬8≤p:=by omega
 have hkl:=hR.is32 a s k hm;have HD:ac (∀W:World,S.KTab W→Calls Tryz.prog 63 #[.agg (row .u8 k),.string ⟨#[102,114,97,109,101]⟩,.slice (some ⟨W.heap.size,0,none⟩) 1 1] (W.alloc (.cells (row .u8 [p]) 5)) fun e w'=>e=.returned (.agg (row .u8 (et k p)))∧Below (W.alloc (.cells (row .u8 [p]) 5)).heap.size (W.alloc (.cells (row .u8 [p]) 5)) w'):=⟨fun W hk=>ip k ⟨#[102,114,97,109,101]⟩ _ 1 1 [p] _ hkl (by decide) (pD W [p] 1 rfl (by simp)) (by omega) (hk.below ((Below.refl _ _).alloc (Nat.le_refl _) _))⟩
 have hPl:(et k p).length=32:=aV _ _;obtain ⟨PL,hPL⟩:∃z,et k p=z:=⟨_,rfl⟩
 rw [hPL] at HD hPl
 have HPL:=ac.mk hPL;clear hPL;have hB:Below w.heap.size w ((w.alloc (.cells (dotC a s).toArray 26)).alloc (.cells (row .u8 z32) 23)):=((Below.refl _ _).alloc (Nat.le_refl _) _).alloc (by simp) _;have hd0:=(CellsAt.new w 26 (dotC a s)).alloc (.cells (row .u8 z32) 23);have hr0:=aa.new (w.alloc (.cells (dotC a s).toArray 26)) .u8 23 z32;rw [World.size_alloc] at hr0
 go_enter Tryz.func29,Tryz.ntmps29;go_upto_region 1 with fail
 refine af (p:=fun y=>Code.wp _ _ _ _ y) (fun W=>Below w.heap.size w W∧aB W base H own seed b M v L∧aa W (w.heap.size+1) .u8 23 Z∧CellsAt W w.heap.size 26 (dotC a s)) ⟨hB,hR.far hB,by rw [←hZ];exact hr0,hd0⟩ ?_;clear hB hr0 hd0 hZ hR;rintro W ⟨hB,hR,hr0,hd0⟩;have rD:=hd0.range 0 2;rw [show ((dotC a s).drop 0).take 2=dotC a s from rfl] at rD
 have hk:=l5 base H own seed b M v L W a s ho hR;have hka:f8 M a s=k:=by unfold f8;rw [hm];rfl
 rw [hka,hm] at hk
 have hsz:=hr0.lt;clear hR;go_upto_region 6 with (first
  |(refine ae rfl 26 _ rfl _ _ rfl (dotC a s) rD Tryz.underlying26 rfl eH ?_)
  |(go_at_call 69;refine hk.mono ?_;rintro e W1 ⟨rfl,hb1⟩;have hA1:=aa.new W1 .u8 23 (List.replicate 32 0))
  |(refine ah rfl 23 _ _ rfl _ rfl rfl hA1 (by rw [hkl];exact ap) (by rw [hkl];rfl) ?_))
 have hb2:Below W.heap.size W ((W1.alloc (.cells (row .u8 (List.replicate 32 0)) 23)).setRow W1.heap.size (row .u8 k)):=hb1.trans ((below_setRow ((Below.refl _ _).alloc (Nat.le_refl _) _) (Nat.le_refl _) _).mono hb1.size);refine af (p:=fun y=>Code.wp _ _ _ _ y) (fun V=>Below w.heap.size w V∧aa V (w.heap.size+1) .u8 23 Z∧aa V W1.heap.size .u8 23 k) ⟨hB.trans (hb2.mono hB.size),hr0.below hb2 hr0.lt,hA1.setRow _⟩ ?_;obtain ⟨G,hG⟩:∃q,W1.heap.size=q:=⟨_,rfl⟩
 rw [hG];clear hB hr0 hd0 rD hb2 hA1 hb1 hk hG;rintro V ⟨hB,hr0,hx⟩;have hd:=HD.out V (hKT.below hB);have hB2:=hB.alloc hB.size (.cells (row .u8 [p]) 5);have hr2:=hr0.alloc (.cells (row .u8 [p]) 5)
 go_wp2_with (first
  |(refine am rfl 23 _ rfl _ rfl hx Tryz.underlying23 ap hkl ?_)
  |(go_at_call 63;refine hd.mono ?_;rintro e w1 ⟨rfl,hb1⟩;have hr3:=hr2.below hb1 hr2.lt)
  |(refine ah rfl 23 _ _ rfl _ rfl rfl hr3 (by rw [hPl];exact ap) (by rw [hZl,hPl]) ?_))
 refine bodyPost_ret (aK (Tryz.results29) _ rfl rfl (hr3.setRow PL).cellsAt Tryz.underlying23 rfl (by rw [List.length_map,hPl];exact ap)) rfl ⟨?_,?_⟩
 · rw [HPL.out];rfl
 · exact below_setRow (hB2.trans (hb1.mono hB2.size)) (by omega) _
end
end Go.Proofs.YtbdhfbglagdiaaaGreatDoor
