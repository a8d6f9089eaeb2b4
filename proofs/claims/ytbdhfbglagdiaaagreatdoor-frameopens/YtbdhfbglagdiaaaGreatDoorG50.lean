/- Wo4 Mg Fk Hs Fq -/
import Derived.Test.YtbdhfbglagdiaaaGreatDoorG33
import Derived.Test.YtbdhfbglagdiaaaGreatDoorG01
import Derived.Maps.OwnSet
import Derived.DeepKeys3
import Derived.Laws.StructEq
import Derived.Test.YtbdhfbglagdiaaaGreatDoorG05
import Derived.Test.YtbdhfbglagdiaaaGreatDoorG29
import Derived.Test.YtbdhfbglagdiaaaGreatDoorG09
import Derived.Test.YtbdhfbglagdiaaaGreatDoorG06
import Derived.Test.YtbdhfbglagdiaaaGreatDoorG49
namespace Go.Proofs.YtbdhfbglagdiaaaGreatDoor
open Go.RowKit
set_option maxRecDepth 20000
set_option maxHeartbeats 4000000
set_option linter.unusedSimpArgs false
theorem mF (F:Fr) (xw:Option Addr) (lw cw:Nat) (xb:Option Addr) (lb cb:Nat) (w:World) (hp:F.prev.length=32) (hm:F.mac.length=32) (hfw:F.wraps=.slice xw lw cw) (hfb:F.body=.slice xb lb cb) (hl:64<lw∨4112<lb):
    Calls Tryz.prog 60 #[.agg F.cells.toArray] w fun e w'=>e=.returned (.tuple #[.slice none 0 0,.int .i64 2])∧Below w.heap.size w w':=by
 obtain ⟨_,_,_,_,_,q6,q7,_⟩:=aL F hp hm;have hD0:=CellsAt.new w 43 F.cells;have hB0:Below w.heap.size w (w.alloc (.cells F.cells.toArray 43)):=(Below.refl _ _).alloc (Nat.le_refl _) _;have c36:=hD0.cell 36;have c37:=hD0.cell 37;rw [q6,hfw] at c36
 rw [q7,hfb] at c37
 clear q6 q7 hfw hfb hp hm hD0
 by_cases h1:64<lw
 · have h1':(lw:Int)>64:=by omega
   clear hl;go_enter Tryz.func60,Tryz.ntmps60;go_wp2
   go_ret2
   exact ⟨rfl,hB0⟩
 · have h1':¬(lw:Int)>64:=by omega
   have h2':(lb:Int)>4112:=by omega
   clear hl;go_enter Tryz.func60,Tryz.ntmps60;go_wp2
   go_ret2
   exact ⟨rfl,hB0⟩
theorem og (F:Fr) (xw:Option Addr) (lw cw:Nat) (ws:List Wp) (xb:Option Addr) (lb cb:Nat) (body:List Int) (w:World) (hp:F.prev.length=32) (hm:F.mac.length=32) (hfw:F.wraps=.slice xw lw cw) (hws:WrapsAt w xw lw cw ws) (hfb:F.body=.slice xb lb cb) (hbo:Bytes w xb lb cb body) (h1:lw≤64) (h2:lb≤4112):
    Calls Tryz.prog 60 #[.agg F.cells.toArray] w fun e w'=>∃v,e=.returned (.tuple #[v,.int .i64 0])∧ao w' w.heap.size v (frameL F ws body)∧Below w.heap.size w w':=by
 obtain ⟨q0,_,_,_,_,q6,q7,q8⟩:=aL F hp hm;have HQ:ac (F.cells[36]?=some (.slice xw lw cw)∧F.cells[37]?=some (.slice xb lb cb)∧(F.cells.drop 38).take 32=F.mac.map (Value.int .u8)):=⟨by rw [←hfw];exact q6,by rw [←hfb];exact q7,q8⟩
 have hiF:(Tryz.prog.info? 43).map (·.size)=some F.cells.length:=by rw [q0];exact bw
 have hol:=b9 F ws hp hws.ok;rw [←hws.len_eq] at hol
 have HBL:ac (body.length=lb):=⟨hbo.len_eq.symm⟩
 have HML:ac (F.mac.length=32):=⟨hm⟩
 have hbody:=fun wx (h:Below w.heap.size w wx)=>hbo.below h
 have hop:=fun wx (h0:Below w.heap.size w wx)=>gW F xw lw cw ws wx hp hm hfw (hws.below h0) h1
 have hD0:=CellsAt.new w 43 F.cells;have hB0:Below w.heap.size w (w.alloc (.cells F.cells.toArray 43)):=(Below.refl _ _).alloc (Nat.le_refl _) _;have h1':¬(lw:Int)>64:=by omega
 have h2':¬(lb:Int)>4112:=by omega
 have c36:=hD0.cell 36;have c37:=hD0.cell 37;rw [HQ.out.1] at c36
 rw [HQ.out.2.1] at c37
 have hcw:=hws.le;have htw:=hws.top;have hcb:=hbo.le;have htb:=hbo.top;clear q0 q6 q7 q8 hfw hfb hp hm hws hbo;go_enter Tryz.func60,Tryz.ntmps60;go_upto_region 3 with fail
 refine ae (p:=fun y=>Code.wp _ _ _ _ y) (fun W0=>Below w.heap.size w W0∧CellsAt W0 w.heap.size 43 F.cells) ⟨hB0,hD0⟩ ?_;clear hB0 hD0 c36 c37;rintro W0 ⟨hB0,hD0⟩;have rE:W0.rangeAt w.heap.size 0 F.cells:=fun j v hv=>by rw [Nat.zero_add,hD0.cell];exact hv
 have hop1:=hop W0 hB0;go_upto_region 4 with (first
  |(refine af rfl 43 _ rfl _ _ rfl F.cells rE Tryz.underlying43 rfl hiF ?_)
  |(go_at_call 44;refine hop1.mono ?_;rintro e w1 ⟨v1,rfl,ho1,hb1⟩))
 have hO1:=ho1.lessG hB0.size;have hD1:=hD0.afar hb1;have hB1:=hB0.trans (hb1.mono hB0.size);obtain ⟨L1,hL1⟩:∃q,aN F ws=q:=⟨_,rfl⟩
 have HL1:ac (aN F ws=L1):=⟨hL1⟩
 rw [hL1] at hO1 hol
 have hl1:L1.length≤10000:=by omega
 clear hop hop1 rE hD0 hB0 ho1 hb1 hL1 hol;have c37:w1.cell? ⟨w.heap.size,37,none⟩=some (.slice xb lb cb):=by rw [hD1.cell];exact HQ.out.2.1
 have e1:IntKind.u8.wrap ((lb:Int) / 2 ^ 8)=(lb:Int) / 256 % 256:=by simp [IntKind.wrap,IntKind.bits,IntKind.signed]
 have e2:IntKind.u8.wrap (lb:Int)=(lb:Int) % 256:=by simp [IntKind.wrap,IntKind.bits,IntKind.signed]
 have e3:IntKind.u8.wrap ((lb:Int) / 256)=(lb:Int) / 256 % 256:=by simp [IntKind.wrap,IntKind.bits,IntKind.signed]
 have hO2:ao (w1.alloc (.cells (row .u8 (be2 lb)) 5)) w.heap.size v1 L1:=hO1.alloc _;have hD2:=hD1.alloc (.cells (row .u8 (be2 lb)) 5);have hB2:=hB1.alloc hB1.size (.cells (row .u8 (be2 lb)) 5);have hy2:=bu w1 (be2 lb) (by simp [be2]);go_upto_region 5 with (at_builtin;refine aG rfl _ _ rfl w.heap.size _ L1 rfl hO2 (some ⟨w1.heap.size,0,none⟩) 2 2 (be2 lb) rfl hy2 (by omega) hB2.size ?_;intro v3 w3 ho3 hg3)
 have hD3:=hD2.grown hO2 hg3 (by decide);have hB3:Below w.heap.size w w3:=below_grown hB2 hO2 hg3 hB2.size;have hl3:(L1++be2 lb).length≤10002:=by rw [List.length_append];simp [be2];omega
 obtain ⟨L3,hL3⟩:∃q,L1++be2 lb=q:=⟨_,rfl⟩
 have HL3:ac (L1++be2 lb=L3):=⟨hL3⟩
 rw [hL3] at ho3 hl3
 clear hL3 hg3 hO2 hD2 hB2 hy2 e1 e2 e3 c37 hO1 hD1 hB1;have c37:w3.cell? ⟨w.heap.size,37,none⟩=some (.slice xb lb cb):=by rw [hD3.cell];exact HQ.out.2.1
 have hy3:=hbody w3 hB3;go_upto_region 6 with (at_builtin;refine aG rfl _ _ rfl w.heap.size _ L3 rfl ho3 xb lb cb body rfl hy3 (by omega) hB3.size ?_;intro v4 w4 ho4 hg4)
 have hD4:=hD3.grown ho3 hg4 (by decide);have hB4:Below w.heap.size w w4:=below_grown hB3 ho3 hg4 hB3.size;have hl4:(L3++body).length≤20000:=by rw [List.length_append,HBL.out];omega
 clear hg4 ho3 hD3 hB3 c37 hy3 hbody;have rM:w4.rangeAt w.heap.size 38 (F.mac.map (Value.int .u8)):=by
  have:=hD4.range 38 32;rw [HQ.out.2.2] at this
  exact this
 have hy4:=ez rM HML.out.symm (by rw [HML.out];omega)
 go_wp2_with (at_builtin;refine aG rfl _ _ rfl w.heap.size _ (L3++body) rfl ho4 (some ⟨w.heap.size,38,none⟩) 32 32 F.mac rfl hy4 (by omega) hB4.size ?_;intro v5 w5 ho5 hg5)
 go_ret2
 refine ⟨_,rfl,?_,below_grown hB4 ho4 hg5 hB4.size⟩;unfold frameL;rw [HBL.out,HL1.out,HL3.out];exact ho5
set_option linter.unusedSectionVars false
def yu (v:Value):Option (DataW Value×List MemPlace):=some (.held v,[])
structure fi (P:Program) (kt:TypeId) {α:Type} (enc:α→Value) (ok:α→Prop):Prop where
 keyed:Go.Maps.Keyed P kt
 has:∀x,ok x→∃l,keyOf P kt (enc x)=some l
 inj:∀x y,ok x→ok y→enc x=enc y→x=y
section
variable {P:Program} {kt:TypeId} {α:Type} [DecidableEq α] {enc:α→Value} {ok:α→Prop}
def jj (P:Program) (kt:TypeId) (enc:α→Value) (ok:α→Prop) (w:World) (b n:Nat) (M:α→Option Value):Prop:=
 ∃D:DataW Value,w.ownsMap P kt yu b n D∧∀x,ok x→∀l,keyOf P kt (enc x)=some l→∀z,D.atKey l z=(match M x with|some v=>.held v|none=>z)
def yA (M:α→Option Value) (x:α) (v:Value):α→Option Value:=fun y=>if y=x then some v else M y
def yz (M:α→Option Value) (x:α):α→Option Value:=fun y=>if y=x then none else M y
theorem jj.made (w:World):jj P kt enc ok (w.alloc (.map #[] 0)) w.heap.size 0 (fun _=>none):=⟨_,World.ownsMap_made w _ _ _,fun _ _ _ _ _=>rfl⟩
theorem jj.lt {w:World} {b n:Nat} {M:α→Option Value} (h:jj P kt enc ok w b n M):b<w.heap.size:=by obtain ⟨D,h,_⟩:=h;exact h.lt
theorem jj.congr {w w':World} {b n:Nat} {M:α→Option Value} (h:jj P kt enc ok w b n M) (he:w'.heap[b]?=w.heap[b]?):jj P kt enc ok w' b n M:=by
 obtain ⟨D,⟨es,cl,hb,r⟩,hM⟩:=h;exact ⟨D,⟨es,cl,he.trans hb,r⟩,hM⟩
theorem jj.look (K:fi P kt enc ok) {w:World} {b n:Nat} {M:α→Option Value} (h:jj P kt enc ok w b n M) {t e:TypeId} (ht:P.underlying t=some (.map kt e)) {z:Value} (hz:(zeroValue e).run P w=.ok z w) (x:α) (hx:ok x):
    (Instr.lookup t (.map (some b)) (enc x) true).run P w=.ok (.tuple #[(M x).getD z,.bool (M x).isSome]) w:=by
 obtain ⟨D,hD,hM⟩:=h;obtain ⟨l,hl⟩:=K.has x hx;have h2:=hM x hx l hl;have h1:Maps.has D l=(M x).isSome:=by
  cases hv:M x with
  |none=>exact Maps.has_false_of_atKey fun z=>by rw [h2,hv]
  |some v=>exact Maps.has_true_of_atKey (y:=.held v) fun z=>by rw [h2,hv]
 obtain ⟨v,ps,hrun,hv⟩:=hD.look_ok K.keyed ht hz (zd:=.held z) (zp:=[]) rfl hl;rw [hrun,h1];unfold yu at hv
 injection hv with hv
 injection hv with hv _
 rw [h2] at hv
 cases hm:M x with
 |none=>rw [hm] at hv;injection hv with hv;rw [hv];rfl
 |some u=>rw [hm] at hv;injection hv with hv;rw [hv];rfl
theorem fi.lit_inj (K:fi P kt enc ok) {x y:α} (hx:ok x) (hy:ok y) {l:Lit} (h1:keyOf P kt (enc x)=some l) (h2:keyOf P kt (enc y)=some l):x=y:=K.inj x y hx hy (K.keyed.inj h1 h2)
theorem jj.store (K:fi P kt enc ok) {w:World} {b n:Nat} {M:α→Option Value} (h:jj P kt enc ok w b n M) {t e:TypeId} (ht:P.underlying t=some (.map kt e)) (hn:n<maxLen) (x:α) (hx:ok x) (v:Value):
    ∃w',(Instr.mapUpdate t (.map (some b)) (enc x) v).run P w=.ok () w'∧jj P kt enc ok w' b (n+1) (yA M x v)∧w.grownBy w' (some b):=by
 obtain ⟨D,hD,hM⟩:=h;obtain ⟨l,hl⟩:=K.has x hx;obtain ⟨w',hrun,hown,ht'⟩:=hD.store K.keyed ht hn hl (d:=.held v) (ps:=[]) rfl;refine ⟨w',hrun,⟨_,hown,fun y hy ly hly z=>?_⟩,ht'.grown⟩;unfold yA
 by_cases e:y=x
 · subst e
   obtain rfl:ly=l:=by rw [hl] at hly;injection hly with h;exact h.symm
   rw [if_pos rfl,Maps.atKey_put_same hD.isMap (K.keyed.key hl)]
 · rw [if_neg e,Maps.atKey_put_other (fun q:ly=l=>e (K.lit_inj hy hx hly (by rw [q];exact hl))),hM y hy ly hly]
theorem jj.drop (K:fi P kt enc ok) {w:World} {b n:Nat} {M:α→Option Value} (h:jj P kt enc ok w b n M) {t e:TypeId} (ht:P.underlying t=some (.map kt e)) (ty:TypeId) (x:α) (hx:ok x):
    ∃w',(Builtin.delete_ #[t,kt] ty #[.map (some b),enc x]).run P w=.ok (.tuple #[]) w'∧jj P kt enc ok w' b n (yz M x)∧w.grownBy w' (some b):=by
 obtain ⟨D,hD,hM⟩:=h;obtain ⟨l,hl⟩:=K.has x hx;obtain ⟨w',hrun,hown,ht'⟩:=hD.drop K.keyed ht hl ty;refine ⟨w',hrun,⟨_,hown,fun y hy ly hly z=>?_⟩,ht'.grown⟩;unfold yz
 by_cases e:y=x
 · subst e
   obtain rfl:ly=l:=by rw [hl] at hly;injection hly with h;exact h.symm
   rw [if_pos rfl,Maps.atKey_del_same]
 · rw [if_neg e,Maps.atKey_del_other (fun q:ly=l=>e (K.lit_inj hy hx hly (by rw [q];exact hl))),hM y hy ly hly]
end
section
variable {P:Program}
end
def yD (P:Program) (d:Nat) (t:TypeId) (cs:List Value):Prop:=∃L,P.keyLits d t cs=some L
section
variable {P:Program} {d:Nat} {t:TypeId}
end
section
variable {P:Program} {kt:TypeId} {α:Type} [DecidableEq α] {enc:α→Value} {ok:α→Prop}
theorem fi.equal (K:fi P kt enc ok) {m:Nat} (hm:m≤10000) (hk:P.keyTypeAt m kt=true) (hwide:(match P.underlying kt with|some (.array _ _)|some (.struct _)=>true|_=>false)=true) (x y:α) (hx:ok x) (hy:ok y) (w:World):
    (Op.equal kt (enc x) (enc y)).run P w=.ok (decide (x=y)) w:=by
 obtain ⟨lx,h1⟩:=K.has x hx;obtain ⟨ly,h2⟩:=K.has y hy;obtain ⟨r,hr,hi⟩:=run_equal_deep w hm hk hwide h1 h2;rw [hr];have:r=decide (x=y):=by
  rw [Bool.eq_iff_iff,hi,decide_eq_true_iff]
  constructor
  · intro e;subst e;exact K.lit_inj hx hy h1 h2
  · intro e;subst e;rw [h1] at h2;injection h2
 rw [this]
theorem fi.eql (K:fi P kt enc ok) {cx cy:Array Value} {m:Nat} (hm:m≤10000) (hk:P.keyTypeAt m kt=true) (hwide:(match P.underlying kt with|some (.array _ _)|some (.struct _)=>true|_=>false)=true) (x y:α) (hx:ok x) (hy:ok y) (ex:enc x=.agg cx) (ey:enc y=.agg cy) (w:World):
    (binOp .eql kt (.agg cx) (.agg cy)).run P w=.ok (.bool (decide (x=y))) w:=by
 have h:=K.equal hm hk hwide x y hx hy w;rw [ex,ey] at h
 rw [run_eql_struct,show Op.equalIn 10000 kt (.agg cx) (.agg cy)=Op.equal kt (.agg cx) (.agg cy) from rfl,h];rfl
theorem fi.neq (K:fi P kt enc ok) {cx cy:Array Value} {m:Nat} (hm:m≤10000) (hk:P.keyTypeAt m kt=true) (hwide:(match P.underlying kt with|some (.array _ _)|some (.struct _)=>true|_=>false)=true) (x y:α) (hx:ok x) (hy:ok y) (ex:enc x=.agg cx) (ey:enc y=.agg cy) (w:World):
    (binOp .neq kt (.agg cx) (.agg cy)).run P w=.ok (.bool (!decide (x=y))) w:=by
 have h:=K.equal hm hk hwide x y hx hy w;rw [ex,ey] at h
 rw [run_neq_struct,show Op.equalIn 10000 kt (.agg cx) (.agg cy)=Op.equal kt (.agg cx) (.agg cy) from rfl,h];rfl
end
theorem Bytes.toSf {w:World} {x:Option Addr} {n c:Nat} {z:List Int} (h:Bytes w x n c z):S.Bytes w x n c z:=⟨h.1,h.2,h.3,h.4,h.5⟩
theorem gg:(Tryz.prog.info? 23).map (·.size)=some 32:=by kernel_rfl
def la (F:Fr) (lw lb:Nat) (ws:List Wp) (body:List Int):List Int:=if lw≤64∧lb≤4112 then S.sumL (frameL F ws body) else List.replicate 32 0
theorem gm.below {W W':World} {F:Fr} {xw:Option Addr} {lw cw:Nat} {ws:List Wp} {xb:Option Addr} {lb cb:Nat} {body:List Int} (h:gm W F xw lw cw ws xb lb cb body) (hb:Below W.heap.size W W'):gm W' F xw lw cw ws xb lb cb body:=
 ⟨h.prev,h.mac,h.wraps,h.body_,h.hw.below hb,h.hb.below hb,h.inF,h.inW,h.inB⟩
theorem jb (F:Fr) (ws:List Wp) (body:List Int) (hp:F.prev.length=32) (hm:F.mac.length=32) (h:∀e∈ws,e.data.length=48):(frameL F ws body).length=79+54*ws.length+body.length:=by
 unfold frameL;simp only [List.length_append,b9 F ws hp h,hm];simp [be2];omega
section
variable (F:Fr) (xw:Option Addr) (lw cw:Nat) (ws:List Wp) (xb:Option Addr) (lb cb:Nat) (body:List Int) (w:World)
theorem vm (hF:gm w F xw lw cw ws xb lb cb body) (hKT:S.KTab w):
    Calls Tryz.prog 15 #[.agg F.cells.toArray] w fun e w'=>e=.returned (.agg (row .u8 (la F lw lb ws body)))∧Below w.heap.size w w':=by
 obtain ⟨q0,_⟩:=aL F hF.prev hF.mac;have hiF:(Tryz.prog.info? 43).map (·.size)=some F.cells.length:=by rw [q0];exact bw
 obtain ⟨Z,hZl,hZ⟩:∃Z:List Int,Z.length=32∧Z=List.replicate 32 0:=⟨_,rfl,rfl⟩
 have hD0:=(CellsAt.new w 43 F.cells).alloc (.cells (row .u8 Z) 23);have hr0:=aa.new (w.alloc (.cells F.cells.toArray 43)) .u8 23 Z;rw [World.size_alloc] at hr0
 have hB:Below w.heap.size w ((w.alloc (.cells F.cells.toArray 43)).alloc (.cells (row .u8 Z) 23)):=((Below.refl _ _).alloc (Nat.le_refl _) _).alloc (by simp) _;rw [hZ] at hD0 hr0 hB
 by_cases hs:lw≤64∧lb≤4112
 · have hfs:la F lw lb ws body=S.sumL (frameL F ws body):=by unfold la;rw [if_pos hs]
   have hfl:(S.sumL (frameL F ws body)).length=32:=S.sumL_length _;have HFR:ac (∀W,Below w.heap.size w W→Calls Tryz.prog 57 #[.agg F.cells.toArray] W fun e w'=>∃v,e=.returned (.tuple #[v,.int .i64 0])∧ao w' W.heap.size v (frameL F ws body)∧Below W.heap.size W w'):=⟨fun W hb=>nJ F xw lw cw ws xb lb cb body W hF.prev hF.mac hF.wraps (hF.hw.below hb) hF.body_ (hF.hb.below hb) hs.1 hs.2⟩
   have hlen:=jb F ws body hF.prev hF.mac hF.hw.ok;have h1:=hF.hw.len_eq;have h2:=hF.hb.len_eq;have HSM:ac (∀W x n c,Below w.heap.size w W→Bytes W x n c (frameL F ws body)→Calls Tryz.prog 59 #[.slice x n c] W fun e w'=>e=.returned (.agg (row .u8 (S.sumL (frameL F ws body))))∧Below W.heap.size W w'):=⟨fun W x n c hb hz=>S.sum_any x n c _ W hz.toSf (by have:=hz.len_eq;omega) (hKT.below hb)⟩
   clear hlen h1 h2;rw [hfs];clear hfs hF hKT q0;generalize S.sumL (frameL F ws body)=SM at hfl HSM ⊢
   generalize frameL F ws body=FL at HSM HFR
   go_enter Tryz.func15,Tryz.ntmps15;go_upto_region 1 with fail
   refine ae (p:=fun y=>Code.wp _ _ _ _ y) (fun W=>Below w.heap.size w W∧CellsAt W w.heap.size 43 F.cells∧aa W (w.heap.size+1) .u8 23 Z) ⟨hB,hD0,by rw [hZ];exact hr0⟩ ?_;clear hB hD0 hr0 hZ;rintro W ⟨hB,hD0,hr0⟩;have hfr:=HFR.out W hB;have rF:W.rangeAt w.heap.size 0 F.cells:=fun j v hv=>by rw [Nat.zero_add,hD0.cell];exact hv
   go_upto_region 2 with (first
    |(refine af rfl 43 _ rfl _ _ rfl F.cells rF Tryz.underlying43 rfl hiF ?_)
    |(go_at_call 57;refine hfr.mono ?_;rintro e w1 ⟨v1,rfl,ho1,hb1⟩;obtain ⟨x1,n1,c1,rfl,-⟩:=ho1.isSlice))
   have hB1:=hB.trans (hb1.mono hB.size);have hsum:=HSM.out w1 x1 n1 c1 hB1 ho1.bytes.2;have hr1:=hr0.below hb1 hr0.lt;clear hfr ho1 HSM HFR hD0 hr0 rF hB hb1 hiF
   go_wp2_with (first
    |(go_at_call 59;refine hsum.mono ?_;rintro e w2 ⟨rfl,hb2⟩;have hr2:=hr1.below hb2 hr1.lt)
    |(refine aj rfl 23 _ _ rfl _ rfl rfl hr2 (by rw [hfl];exact gg) (by rw [hfl,hZl]) ?_))
   refine bodyPost_ret (ak (Tryz.results15) _ rfl (hr2.setRow SM) Tryz.underlying23 gg hfl) rfl ⟨rfl,?_⟩;exact below_setRow (hB1.trans (hb2.mono hB1.size)) (by omega) _
 · have hfs:la F lw lb ws body=List.replicate 32 0:=by unfold la;rw [if_neg hs]
   have HFR:=fun W=>mj F xw lw cw xb lb cb W hF.prev hF.mac hF.wraps hF.body_ (by omega)
   rw [hfs];clear hF hKT q0 hfs;go_enter Tryz.func15,Tryz.ntmps15;go_upto_region 1 with fail
   refine ae (p:=fun y=>Code.wp _ _ _ _ y) (fun W=>Below w.heap.size w W∧CellsAt W w.heap.size 43 F.cells∧aa W (w.heap.size+1) .u8 23 Z) ⟨hB,hD0,by rw [hZ];exact hr0⟩ ?_;clear hB hD0 hr0;rintro W ⟨hB,hD0,hr0⟩;have hfr:=HFR W;have rF:W.rangeAt w.heap.size 0 F.cells:=fun j v hv=>by rw [Nat.zero_add,hD0.cell];exact hv
   clear HFR;clear hZ;go_upto_region 3 with (first
    |(refine af rfl 43 _ rfl _ _ rfl F.cells rF Tryz.underlying43 rfl hiF ?_)
    |(go_at_call 57;refine hfr.mono ?_;rintro e w1 ⟨rfl,hb1⟩))
   have hr1:=hr0.below hb1 hr0.lt;have hB1:=hB.trans (hb1.mono hB.size);clear hfr rF hD0 hr0 hB hb1 hiF
   go_wp2_with (first
    |(refine aj rfl 23 _ _ rfl _ rfl (k:=.u8) (l:=List.replicate 32 0) (by kernel_rfl) hr1 (by kernel_rfl) hZl ?_))
   refine bodyPost_ret (ak (Tryz.results15) _ rfl (hr1.setRow (List.replicate 32 0)) Tryz.underlying23 gg rfl) rfl ⟨rfl,?_⟩;exact below_setRow hB1 (by omega) _
theorem tI (hF:gm w F xw lw cw ws xb lb cb body):
    Calls Tryz.prog 16 #[.agg F.cells.toArray] w fun e w'=>e=.returned (.agg (row .u8 (la F lw lb ws body)))∧Below w.heap.size w w':=by
 obtain ⟨q0,_⟩:=aL F hF.prev hF.mac;have hiF:(Tryz.prog.info? 43).map (·.size)=some F.cells.length:=by rw [q0];exact bw
 obtain ⟨Z,hZl,hZ⟩:∃Z:List Int,Z.length=32∧Z=List.replicate 32 0:=⟨_,rfl,rfl⟩
 have hD0:=(CellsAt.new w 43 F.cells).alloc (.cells (row .u8 Z) 23);have hr0:=aa.new (w.alloc (.cells F.cells.toArray 43)) .u8 23 Z;rw [World.size_alloc] at hr0
 have hB:Below w.heap.size w ((w.alloc (.cells F.cells.toArray 43)).alloc (.cells (row .u8 Z) 23)):=((Below.refl _ _).alloc (Nat.le_refl _) _).alloc (by simp) _;rw [hZ] at hD0 hr0 hB
 by_cases hs:lw≤64∧lb≤4112
 · have hfs:la F lw lb ws body=S.sumL (frameL F ws body):=by unfold la;rw [if_pos hs]
   have hfl:(S.sumL (frameL F ws body)).length=32:=S.sumL_length _;have HFR:ac (∀W,Below w.heap.size w W→Calls Tryz.prog 60 #[.agg F.cells.toArray] W fun e w'=>∃v,e=.returned (.tuple #[v,.int .i64 0])∧ao w' W.heap.size v (frameL F ws body)∧Below W.heap.size W w'):=⟨fun W hb=>og F xw lw cw ws xb lb cb body W hF.prev hF.mac hF.wraps (hF.hw.below hb) hF.body_ (hF.hb.below hb) hs.1 hs.2⟩
   have hlen:=jb F ws body hF.prev hF.mac hF.hw.ok;have h1:=hF.hw.len_eq;have h2:=hF.hb.len_eq;have HSM:ac (∀W x n c,Below w.heap.size w W→Bytes W x n c (frameL F ws body)→Calls Tryz.prog 61 #[.slice x n c] W fun e w'=>e=.returned (.agg (row .u8 (S.sumL (frameL F ws body))))∧Below W.heap.size W w'):=⟨fun W x n c hb hz=>S.refSum_any x n c _ W hz.toSf (by have:=hz.len_eq;omega)⟩
   clear hlen h1 h2;rw [hfs];clear hfs hF q0;generalize S.sumL (frameL F ws body)=SM at hfl HSM ⊢
   generalize frameL F ws body=FL at HSM HFR
   go_enter Tryz.func16,Tryz.ntmps16;go_upto_region 1 with fail
   refine ae (p:=fun y=>Code.wp _ _ _ _ y) (fun W=>Below w.heap.size w W∧CellsAt W w.heap.size 43 F.cells∧aa W (w.heap.size+1) .u8 23 Z) ⟨hB,hD0,by rw [hZ];exact hr0⟩ ?_;clear hB hD0 hr0 hZ;rintro W ⟨hB,hD0,hr0⟩;have hfr:=HFR.out W hB;have rF:W.rangeAt w.heap.size 0 F.cells:=fun j v hv=>by rw [Nat.zero_add,hD0.cell];exact hv
   go_upto_region 2 with (first
    |(refine af rfl 43 _ rfl _ _ rfl F.cells rF Tryz.underlying43 rfl hiF ?_)
    |(go_at_call 60;refine hfr.mono ?_;rintro e w1 ⟨v1,rfl,ho1,hb1⟩;obtain ⟨x1,n1,c1,rfl,-⟩:=ho1.isSlice))
   have hB1:=hB.trans (hb1.mono hB.size);have hsum:=HSM.out w1 x1 n1 c1 hB1 ho1.bytes.2;have hr1:=hr0.below hb1 hr0.lt;clear hfr ho1 HSM HFR hD0 hr0 rF hB hb1 hiF
   go_wp2_with (first
    |(go_at_call 61;refine hsum.mono ?_;rintro e w2 ⟨rfl,hb2⟩;have hr2:=hr1.below hb2 hr1.lt)
    |(refine aj rfl 23 _ _ rfl _ rfl rfl hr2 (by rw [hfl];exact gg) (by rw [hfl,hZl]) ?_))
   refine bodyPost_ret (ak (Tryz.results16) _ rfl (hr2.setRow SM) Tryz.underlying23 gg hfl) rfl ⟨rfl,?_⟩;exact below_setRow (hB1.trans (hb2.mono hB1.size)) (by omega) _
 · have hfs:la F lw lb ws body=List.replicate 32 0:=by unfold la;rw [if_neg hs]
   have HFR:=fun W=>mF F xw lw cw xb lb cb W hF.prev hF.mac hF.wraps hF.body_ (by omega)
   rw [hfs];clear hF q0 hfs;go_enter Tryz.func16,Tryz.ntmps16;go_upto_region 1 with fail
   refine ae (p:=fun y=>Code.wp _ _ _ _ y) (fun W=>Below w.heap.size w W∧CellsAt W w.heap.size 43 F.cells∧aa W (w.heap.size+1) .u8 23 Z) ⟨hB,hD0,by rw [hZ];exact hr0⟩ ?_;clear hB hD0 hr0;rintro W ⟨hB,hD0,hr0⟩;have hfr:=HFR W;have rF:W.rangeAt w.heap.size 0 F.cells:=fun j v hv=>by rw [Nat.zero_add,hD0.cell];exact hv
   clear HFR;clear hZ;go_upto_region 3 with (first
    |(refine af rfl 43 _ rfl _ _ rfl F.cells rF Tryz.underlying43 rfl hiF ?_)
    |(go_at_call 60;refine hfr.mono ?_;rintro e w1 ⟨rfl,hb1⟩))
   have hr1:=hr0.below hb1 hr0.lt;have hB1:=hB.trans (hb1.mono hB.size);clear hfr rF hD0 hr0 hB hb1 hiF
   go_wp2_with (first
    |(refine aj rfl 23 _ _ rfl _ rfl (k:=.u8) (l:=List.replicate 32 0) (by kernel_rfl) hr1 (by kernel_rfl) hZl ?_))
   refine bodyPost_ret (ak (Tryz.results16) _ rfl (hr1.setRow (List.replicate 32 0)) Tryz.underlying23 gg rfl) rfl ⟨rfl,?_⟩;exact below_setRow hB1 (by omega) _
end
theorem pA (z:List Int) (s:Nat) (hz:∀v∈z,b8 v):∀v∈bI z s,b8 v:=by
 intro v hv;unfold bI at hv
 rcases List.mem_append.1 hv with h|h
 · rcases List.mem_append.1 h with h|h
   · unfold be2 at h
     simp only [List.mem_cons,List.not_mem_nil,or_false] at h
     unfold b8
     rcases h with rfl|rfl<;>omega
   · exact hz v h
 · have:=(List.mem_replicate.1 h).2
   subst this;exact ⟨by omega,by omega⟩
theorem tn {n:Int} {lw:Nat} {E:Ev} {own:Int} {m:Option (List Int)} (h:cZ n lw E own m=0):fV n=true∧lw≤64∧rightB E=true∧E.da=own∧E.ds=n∧own<8∧m≠none:=by
 unfold cZ at h
 split at h
 · rename_i h1
   split at h
   · rename_i h2
     split at h
     · rename_i h3
       simp only [Bool.and_eq_true,beq_iff_eq] at h2
       refine ⟨h1.1,h1.2,h2.1,h2.2.1,h2.2.2,h3,fun q=>?_⟩;rw [q] at h
       exact absurd h (by decide)
     · omega
   · omega
 · omega
theorem wY {n:Int} {lw:Nat} {E:Ev} {own:Int} {k:List Int} (h1:fV n=true) (h2:lw≤64) (h3:rightB E=true) (h4:E.da=own) (h5:E.ds=n) (h6:own<8):cZ n lw E own (some k)=0:=by
 unfold cZ;rw [if_pos ⟨h1,h2⟩,if_pos (by rw [h3,h4,h5];simp),if_pos h6]
theorem oo {seed:List Int} {n:Int} {lw:Nat} {E:Ev} {own:Int} {k:List Int} {F:Fr} {ws:List Wp} (hE:E.In) (h:cZ n lw E own (some k)=0) (ha:F.author=own) (hn:F.number=n) (hm:F.mac=ftagL seed F ws (cJ k F ws E)):
    checkE seed F lw ws 144 (cJ k F ws E)=0∧eV k F ws 144 (cJ k F ws E)=0∧ee k F 144 (cJ k F ws E)=E:=by
 obtain ⟨h1,h2,h3,h4,h5,h6,-⟩:=tn h;have hel:=iZ E hE.plen;have hpl:(bI (bq E) 128).length=128:=de _ _ (by rw [hel];omega);have hPi:∀v∈bI (bq E) 128,b8 v:=pA _ _ (qv E hE);have hP:openP k F 144 (cJ k F ws E)=bI (bq E) 128:=by
  unfold openP cJ;rw [show 144 - 16=128 from rfl,nh _ _ _ _ 128 hpl.symm];exact uj _ _ _ _ hPi
 have hu:=wO (bq E) 128 (by rw [hel];omega) (by rw [hel];omega) (by rw [hel];decide);have hU:et (bI (bq E) 128)=0∧unpB (bI (bq E) 128)=bq E:=by
  unfold et unpB;rw [if_pos hu.1,if_pos hu.1];exact ⟨rfl,hu.2⟩
 have he:=qX E hE;have hR:ec (bq E)=0∧revB (bq E)=E:=by
  unfold ec revB;rw [if_pos he.1,if_pos he.1];exact ⟨rfl,he.2⟩
 have hV:ee k F 144 (cJ k F ws E)=E:=by
  unfold ee;rw [hP,hU.2,hR.2]
 refine ⟨?_,?_,hV⟩
 · unfold checkE
   rw [ha,hn,if_pos ⟨h6,h1⟩,if_pos ⟨h2,by decide⟩,if_pos hm.symm]
 · unfold eV
   rw [if_neg (by decide),if_pos,hP,hU.1,if_pos rfl,hU.2,hR.1,if_pos rfl,hV,if_pos]
   · unfold fitsB
     rw [h3,ha,hn,h4,h5];simp
   · unfold cJ
     rw [show 144 - 16=128 from rfl,nh _ _ _ _ 128 hpl.symm,tT _ _ _ _ 128 hpl.symm]
theorem tM {k:List Int} {F:Fr} {ws:List Wp} {E:Ev} (hF:F.In) (hi:∀e∈ws,e.In) (hw:ws.length≤64) (hE:E.In):∀v∈cJ k F ws E,isB v:=
 u0 _ _ _ _ (j5 F ws hF hi hw) (pA _ _ (qv E hE))
end Go.Proofs.YtbdhfbglagdiaaaGreatDoor
