/- Fm7 Fm8 Ft2 -/
import Derived.Test.YtbdhfbglagdiaaaGreatDoorJ36
import Derived.Test.YtbdhfbglagdiaaaGreatDoorJ34
import Derived.Test.YtbdhfbglagdiaaaGreatDoorJ26
namespace Go.Proofs.YtbdhfbglagdiaaaGreatDoor
open Go.RowKit
set_option maxRecDepth 20000
set_option maxHeartbeats 8000000
set_option linter.unusedSimpArgs false
theorem il.less {W:World} {base base':Nat} {F:Fr} {lw:Nat} {ws:List Wp} {lb:Nat} {body:List Int} (h:il W base F lw ws lb body) {W':World} (hb:base'≤base) (hs:W.heap.size≤W'.heap.size) (hk:∀k,base≤k→k<W.heap.size→W'.heap[k]?=W.heap[k]?):il W' base' F lw ws lb body:=by
 obtain ⟨xw,cw,xb,cb,h⟩:=h.at_;exact ⟨xw,cw,xb,cb,fun w2 hq=>h w2 fun k h1 h2=>by rw [hq k (by omega) (by omega),hk k h1 h2]⟩
theorem il.far {W W':World} {base:Nat} {F:Fr} {lw:Nat} {ws:List Wp} {lb:Nat} {body:List Int} (h:il W base F lw ws lb body) (hb:Below W.heap.size W W'):il W' base F lw ws lb body:=h.less (Nat.le_refl _) hb.size (fun k _ h2=>hb.block k h2)
section
variable (base H:Nat) (own:Int) (seed:List Int) (b:Nat) (M:Int→Int→Option (List Int)) (v:Value) (L:List (Int×Int)) (w:World)
variable (n:Int) (xw:Option Addr) (lw cw:Nat) (ws:List Wp) (ea es:Int) (prev:List Int) (E:Ev)
theorem ru (p:Value) (Z:List Value):fM (((((((w.alloc (.cells #[p] 37)).alloc (.cells #[.int .u32 n] 24)).alloc (.cells (row .u8 prev) 23)).alloc (.cells (dotC ea es).toArray 26)).alloc (.cells #[.slice xw lw cw] 27)).alloc (.cells E.cells.toArray 33)).alloc (.cells Z.toArray 43)) w.heap.size (w.heap.size+1) (w.heap.size+1+1+1+1) (w.heap.size+1+1+1) (w.heap.size+1+1) (w.heap.size+1+1+1+1+1) p n xw lw cw ea es prev E:=by
 have a0:=CellsAt.new w 37 [p];have a1:=CellsAt.new (w.alloc (.cells #[p] 37)) 24 [.int .u32 n];have a2:=CellsAt.new ((w.alloc (.cells #[p] 37)).alloc (.cells #[.int .u32 n] 24)) 23 (prev.map (Value.int .u8));have a3:=CellsAt.new (((w.alloc (.cells #[p] 37)).alloc (.cells #[.int .u32 n] 24)).alloc (.cells (row .u8 prev) 23)) 26 (dotC ea es);have a4:=CellsAt.new ((((w.alloc (.cells #[p] 37)).alloc (.cells #[.int .u32 n] 24)).alloc (.cells (row .u8 prev) 23)).alloc (.cells (dotC ea es).toArray 26)) 27 [.slice xw lw cw];have a5:=CellsAt.new (((((w.alloc (.cells #[p] 37)).alloc (.cells #[.int .u32 n] 24)).alloc (.cells (row .u8 prev) 23)).alloc (.cells (dotC ea es).toArray 26)).alloc (.cells #[.slice xw lw cw] 27)) 33 E.cells;simp only [World.size_alloc] at a1 a2 a3 a4 a5
 exact ⟨((((((a0.alloc _).alloc _).alloc _).alloc _).alloc _).alloc _).cell 0,(((((a1.alloc _).alloc _).alloc _).alloc _).alloc _).cell 0,((a4.alloc _).alloc _).cell 0,(((a3.alloc _).alloc _).alloc _).wholeM,((((a2.alloc _).alloc _).alloc _).alloc _).wholeM,(a5.alloc _).wholeM⟩
def sn (w:World) (e:Ending) (w':World):Prop:=
 (ba n lw E own (M ea es)≠0∧e=.returned (.tuple #[.agg dM.cells.toArray,.int .i64 (ba n lw E own (M ea es))]))∨(ba n lw E own (M ea es)=0∧∃(F:Fr) (k:List Int),M ea es=some k∧e=.returned (.tuple #[.agg F.cells.toArray,.int .i64 0])∧il w' w.heap.size F lw ws 144 (bJ k F ws E)∧F.author=own∧F.number=n∧F.ea=ea∧F.es=es∧F.prev=prev∧F.mac=ftagL seed F ws (bJ k F ws E))
theorem oT (hR:aB w base H own seed b M v L) (hKT:S.KTab w) (hBT:BTab w) (hws:WrapsAt w xw lw cw ws) (hp:prev.length=32) (hE:E.In) (ho:okD ea es) (hown:0≤own∧own≤255):
    Calls Tryz.prog 7 #[.pointer (some ⟨H,0,none⟩),.int .u32 n,.agg (row .u8 prev),.agg (dotC ea es).toArray,.slice xw lw cw,.agg E.cells.toArray] w fun e w'=>sn own seed M n lw ws ea es prev E w e w'∧Below w.heap.size w w':=by
 obtain ⟨Z,hzv,hz1,hZ⟩:∃Z:List Value,(∀wx,(zeroValue 43).run Tryz.prog wx=.ok (.agg Z.toArray) wx)∧¬Z.toArray= #[]∧Z=dM.cells:=⟨dM.cells,fun wx=>by kernel_rfl,by decide,rfl⟩
 have hZl:(Tryz.prog.info? 43).map (·.size)=some Z.length:=by rw [hZ];kernel_rfl
 have h70:Z.length=70:=by rw [hZ];rfl
 have h1Z:∀v∈Z,v.oneCell'=true:=by rw [hZ];decide
 have hA:=ru w n xw lw cw ea es prev E (.pointer (some ⟨H,0,none⟩)) Z;have hO:=CellsAt.new ((((((w.alloc (.cells #[.pointer (some ⟨H,0,none⟩)] 37)).alloc (.cells #[.int .u32 n] 24)).alloc (.cells (row .u8 prev) 23)).alloc (.cells (dotC ea es).toArray 26)).alloc (.cells #[.slice xw lw cw] 27)).alloc (.cells E.cells.toArray 33)) 43 Z;simp only [World.size_alloc] at hO
 have hB:Below w.heap.size w (((((((w.alloc (.cells #[.pointer (some ⟨H,0,none⟩)] 37)).alloc (.cells #[.int .u32 n] 24)).alloc (.cells (row .u8 prev) 23)).alloc (.cells (dotC ea es).toArray 26)).alloc (.cells #[.slice xw lw cw] 27)).alloc (.cells E.cells.toArray 33)).alloc (.cells Z.toArray 43)):=(((((((Below.refl _ _).alloc (Nat.le_refl _) _).alloc (by simp) _).alloc (by simp;omega) _).alloc (by simp;omega) _).alloc (by simp;omega) _).alloc (by simp;omega) _).alloc (by simp;omega) _;have HST:ac (∀V b0 b1 b2 b3 b4 b5,Below w.heap.size w V→fM V b0 b1 b2 b3 b4 b5 (.pointer (some ⟨H,0,none⟩)) n xw lw cw ea es prev E→Calls Tryz.prog 22 #[.pointer (some ⟨b0,0,none⟩),.pointer (some ⟨b1,0,none⟩),.pointer (some ⟨b2,0,none⟩),.pointer (some ⟨b3,0,none⟩),.pointer (some ⟨b4,0,none⟩),.pointer (some ⟨b5,0,none⟩)] V fun e w'=>sK own seed M n lw ws ea es prev E V e w'∧Below V.heap.size V w'):=⟨fun V b0 b1 b2 b3 b4 b5 hb h=>mH base H own seed b M v L V b0 b1 b2 b3 b4 b5 n xw lw cw ws ea es prev E h (hR.far hb) (hKT.below hb) (hBT.below hb) (hws.below hb) hp hE ho hown⟩
 have hmf:=cC
 by_cases h0:ba n lw E own (M ea es)=0
 rotate_left
 · have HTR:ac (∀W b0 b1 b2 b3 b4 b5,Below w.heap.size w W→fM W b0 b1 b2 b3 b4 b5 (.pointer (some ⟨H,0,none⟩)) n xw lw cw ea es prev E→Calls Tryz.prog 21 #[.func (.func 22) #[] #[.pointer (some ⟨b0,0,none⟩),.pointer (some ⟨b1,0,none⟩),.pointer (some ⟨b2,0,none⟩),.pointer (some ⟨b3,0,none⟩),.pointer (some ⟨b4,0,none⟩),.pointer (some ⟨b5,0,none⟩)]] W fun e w'=>e=.returned (.tuple #[.agg Z.toArray,.int .i64 (ba n lw E own (M ea es))])∧Below W.heap.size W w'):=⟨fun W b0 b1 b2 b3 b4 b5 hbW h=>by
    rw [hZ];refine rB _ _ _ _ _ _ _ W (fun V hb _=>(HST.out V b0 b1 b2 b3 b4 b5 (hbW.trans (hb.mono hbW.size)) (h.far hb)).mono ?_);rintro e w' ⟨h1|h1,hb'⟩
    · exact ⟨h1.2,hb'⟩
    · exact absurd h1.1 h0⟩
   have HZ:=ac.mk hZ;have H0:=ac.mk h0;clear hZ h0 HST hR hKT hBT hws hp hE ho hown;go_enter Tryz.func7,Tryz.ntmps7;go_upto_region 1 with fail
   refine af (p:=fun y=>Code.wp _ _ _ _ y) (fun W=>Below w.heap.size w W∧fM W w.heap.size (w.heap.size+1) (w.heap.size+1+1+1+1) (w.heap.size+1+1+1) (w.heap.size+1+1) (w.heap.size+1+1+1+1+1) (.pointer (some ⟨H,0,none⟩)) n xw lw cw ea es prev E∧CellsAt W (w.heap.size+1+1+1+1+1+1) 43 Z) ⟨hB,hA,hO⟩ ?_;clear hB hA hO hzv hz1;rintro W ⟨hB,hA,hO⟩;have htr:=HTR.out W _ _ _ _ _ _ hB hA
   go_wp2_with (first
    |(go_at_call 21;refine htr.mono ?_;rintro e w1 ⟨rfl,hb1⟩;have hO1:=hO.farM hb1)
    |(refine aw rfl 43 _ _ rfl _ rfl rfl hO1 hZl rfl h1Z ?_))
   refine bodyPost_ret (aK (Tryz.results7) _ rfl rfl (hO1.setRow Z) Tryz.underlying43 rfl hZl) rfl ⟨Or.inl ⟨H0.out,by rw [HZ.out];rfl⟩,?_⟩;exact below_setRow (hB.trans (hb1.mono hB.size)) (by omega) _
 · have HTR:ac (∀W b0 b1 b2 b3 b4 b5,Below w.heap.size w W→fM W b0 b1 b2 b3 b4 b5 (.pointer (some ⟨H,0,none⟩)) n xw lw cw ea es prev E→Calls Tryz.prog 21 #[.func (.func 22) #[] #[.pointer (some ⟨b0,0,none⟩),.pointer (some ⟨b1,0,none⟩),.pointer (some ⟨b2,0,none⟩),.pointer (some ⟨b3,0,none⟩),.pointer (some ⟨b4,0,none⟩),.pointer (some ⟨b5,0,none⟩)]] W fun e w'=>∃(F:Fr) (k:List Int),M ea es=some k∧e=.returned (.tuple #[.agg F.cells.toArray,.int .i64 0])∧il w' W.heap.size F lw ws 144 (bJ k F ws E)∧(F.author=own∧F.number=n∧F.ea=ea∧F.es=es∧F.prev=prev∧F.mac=ftagL seed F ws (bJ k F ws E))∧Below W.heap.size W w'):=⟨fun W b0 b1 b2 b3 b4 b5 hbW h=>by
    refine (uw _ _ _ _ _ _ (fun cs w1=>∃(F:Fr) (k:List Int),cs=F.cells∧M ea es=some k∧il w1 (W.heap.size+2) F lw ws 144 (bJ k F ws E)∧(F.author=own∧F.number=n∧F.ea=ea∧F.es=es∧F.prev=prev∧F.mac=ftagL seed F ws (bJ k F ws E))) W (fun V hb hs=>(HST.out V b0 b1 b2 b3 b4 b5 (hbW.trans (hb.mono hbW.size)) (h.far hb)).mono ?_) ?_).mono ?_
    · rintro e w' ⟨h1|h1,hb'⟩
      · exact absurd h0 h1.1
      · obtain ⟨_,F,k,hk,he,hf,hrest⟩:=h1
        rw [hs] at hf
        exact ⟨F.cells,he,⟨F,k,rfl,hk,hf,hrest⟩,hb'⟩
    · rintro cs w' ⟨F,k,rfl,hk,hf,hrest⟩
      obtain ⟨x1,c1,x2,c2,hq⟩:=hf.at_;have hq:=hq w' (fun _ _ _=>rfl);refine ⟨(aH F hq.prev hq.mac).1,fun v hv=>?_⟩;simp only [Fr.cells,dotC,List.mem_append,List.mem_cons,List.not_mem_nil,or_false,List.mem_map,hq.wraps,hq.body_] at hv
      rcases hv with ((((rfl|rfl)|rfl|rfl)|⟨x,_,rfl⟩)|rfl|rfl)|⟨x,_,rfl⟩<;>rfl
    · rintro e w' ⟨cs,w1,he,⟨F,k,rfl,hk,hf,hrest⟩,hs1,hs2,hkk,hb'⟩
      exact ⟨F,k,hk,he,hf.less (by omega) (by omega) (fun j h1 h2=>hkk j (by omega) (by omega)),hrest,hb'⟩⟩
   have H0:=ac.mk h0;have HFC:ac (∀(F:Fr) (W:World) (bs:Nat) (body:List Int),il W bs F lw ws 144 body→F.cells.length=70∧∀v∈F.cells,v.oneCell'=true):=⟨fun F W bs body hf=>by
    obtain ⟨x1,c1,x2,c2,hq⟩:=hf.at_;have hq:=hq W (fun _ _ _=>rfl);refine ⟨(aH F hq.prev hq.mac).1,fun v hv=>?_⟩;simp only [Fr.cells,dotC,List.mem_append,List.mem_cons,List.not_mem_nil,or_false,List.mem_map,hq.wraps,hq.body_] at hv
    rcases hv with ((((rfl|rfl)|rfl|rfl)|⟨x,_,rfl⟩)|rfl|rfl)|⟨x,_,rfl⟩<;>rfl⟩
   clear hZ h0 HST hR hKT hBT hws hp hE ho hown;go_enter Tryz.func7,Tryz.ntmps7;go_upto_region 1 with fail
   refine af (p:=fun y=>Code.wp _ _ _ _ y) (fun W=>Below w.heap.size w W∧fM W w.heap.size (w.heap.size+1) (w.heap.size+1+1+1+1) (w.heap.size+1+1+1) (w.heap.size+1+1) (w.heap.size+1+1+1+1+1) (.pointer (some ⟨H,0,none⟩)) n xw lw cw ea es prev E∧CellsAt W (w.heap.size+1+1+1+1+1+1) 43 Z) ⟨hB,hA,hO⟩ ?_;clear hB hA hO hzv hz1;rintro W ⟨hB,hA,hO⟩;have htr:=HTR.out W _ _ _ _ _ _ hB hA;clear HTR;have hOl:=hO.lt
   go_wp2_with (first
    |(go_at_call 21;refine htr.mono ?_;rintro e w1 ⟨F,k,hk,rfl,hf,hrest,hb1⟩;have hO1:=hO.farM hb1;obtain ⟨hFl,h1F⟩:=HFC.out F w1 _ _ hf;have iF:(Tryz.prog.info? 43).map (·.size)=some F.cells.length:=(by rw [hFl,←h70];exact hZl);have HK:=ac.mk hk;have HRST:=ac.mk (And.intro hf hrest);clear htr hk hf hrest)
    |(refine aw rfl 43 _ _ rfl _ rfl rfl hO1 iF (by rw [h70,hFl]) h1F ?_))
   refine bodyPost_ret (aK (Tryz.results7) _ rfl rfl (hO1.setRow F.cells) Tryz.underlying43 rfl iF) rfl ⟨Or.inr ⟨H0.out,F,k,HK.out,rfl,?_,HRST.out.2⟩,?_⟩
   · exact HRST.out.1.less hB.size (by simp [World.setRow]) (fun j h1 h2=>setRow_other _ _ j _ (by omega))
   · exact below_setRow (hB.trans (hb1.mono hB.size)) (by omega) _
end
theorem uC (z:List Int):∀v∈S.sumL z,0≤v∧v≤255:=by
 unfold S.sumL S.joinL;have:∀(s:List Int) (k:Nat),∀v∈S.joinK s k,0≤v∧v≤255:=fun s k=>by
  induction k with
  |zero=>intro v hv;cases hv
  |succ k ih=>
   intro v hv
   rcases List.mem_append.1 hv with h|h
   · exact ih v h
   · simp only [S.bytes4,List.mem_cons,List.not_mem_nil,or_false] at h
     rcases h with rfl|rfl|rfl|rfl<;>omega
 exact this _ 8
theorem oS {P:Program} {o:Oper} {a:Act} {w:World} {K:Act→World→Prop} {Q:Exit→Act→World→Prop} (f:FuncId) (args:Array Value) (hrun:(execOp a.eval o).run P w=.ok (.enter f args) w)
    (hc:Calls P f args w fun e w'=>∃ch,e=.panicked ch∧Q (.panic ch) a w'):o.wp P a w K Q:=by
 unfold Oper.wp;rw [hrun,Oper.upon_enter];refine hc.mono fun e w'' hh=>?_
 obtain ⟨ch,rfl,hk⟩:=hh;exact hk
theorem pS (seed:List Int) (F:Fr) (ws:List Wp) (body:List Int):∀v∈ftagL seed F ws body,0≤v∧v≤255:=uC _
def checkE (seed:List Int) (F:Fr) (lw:Nat) (ws:List Wp) (lb:Nat) (body:List Int):Int:=
 if F.author<8∧fU F.number=true then (if lw≤64∧lb≤4112 then (if ftagL seed F ws body=F.mac then 0 else 4) else 2) else 2
section
variable (base H:Nat) (own:Int) (seed:List Int) (b:Nat) (M:Int→Int→Option (List Int)) (v:Value) (L:List (Int×Int)) (w:World)
variable (b0 b1:Nat) (F:Fr) (xw:Option Addr) (lw cw:Nat) (ws:List Wp) (xb:Option Addr) (lb cb:Nat) (body:List Int)
theorem mi (c0:w.cell? ⟨b0,0,none⟩=some (.pointer (some ⟨H,0,none⟩))) (r1:w.rangeAt b1 0 F.cells) (hR:aB w base H own seed b M v L) (hKT:S.KTab w) (hF:lg w F xw lw cw ws xb lb cb body) (hm:∀x∈F.mac,0≤x∧x≤255):
    Calls Tryz.prog 56 #[.pointer (some ⟨b0,0,none⟩),.pointer (some ⟨b1,0,none⟩)] w fun e w'=>((checkE seed F lw ws lb body≠0∧e=.panicked [eN (checkE seed F lw ws lb body)])∨(checkE seed F lw ws lb body=0∧e=.returned (.agg F.cells.toArray)))∧Below w.heap.size w w':=by
 obtain ⟨Z,hzv,hz1,hZ⟩:∃Z:List Value,(∀wx,(zeroValue 43).run Tryz.prog wx=.ok (.agg Z.toArray) wx)∧¬Z.toArray= #[]∧Z=dM.cells:=⟨dM.cells,fun wx=>by kernel_rfl,by decide,rfl⟩
 have hZl:Z.length=70:=by rw [hZ];rfl
 clear hZ;obtain ⟨f70,f0,f1,_,_,_,_,f38⟩:=aH F hF.prev hF.mac;have iF:(Tryz.prog.info? 43).map (·.size)=some F.cells.length:=by rw [f70];exact bU
 have h1F:∀v∈F.cells,v.oneCell'=true:=fun v hv=>by
  simp only [Fr.cells,dotC,List.mem_append,List.mem_cons,List.not_mem_nil,or_false,List.mem_map,hF.wraps,hF.body_] at hv
  rcases hv with ((((rfl|rfl)|rfl|rfl)|⟨x,_,rfl⟩)|rfl|rfl)|⟨x,_,rfl⟩<;>rfl
 have hb0:Below w.heap.size w (w.alloc (.cells Z.toArray 43)):=(Below.refl _ _).alloc (Nat.le_refl _) _;have hRS0:=CellsAt.new w 43 Z;have HS:ac (∀W,Below w.heap.size w W→W.cell? ⟨b0,0,none⟩=some (.pointer (some ⟨H,0,none⟩))∧W.rangeAt b1 0 F.cells∧W.cell? ⟨b1,0,none⟩=some (.int .u8 F.author)∧W.cell? ⟨b1,1,none⟩=some (.int .u32 F.number)):=⟨fun W hb=>by
  have r:=aN r1 hb;refine ⟨de c0 hb,r,?_,?_⟩
  · have:=r 0 _ f0;simpa using this
  · have:=r 1 _ f1;simpa using this⟩
 have HMC:ac (∀W,Below w.heap.size w W→Bytes W (some ⟨b1,38,none⟩) 32 32 F.mac):=⟨fun W hb=>by
  have r:=aN r1 hb;refine ⟨by rw [hF.mac],Nat.le_refl _,by omega,(fun h=>by cases h),.inr ⟨b1,38,rfl,fun j hj=>?_⟩⟩;have hj':j<F.mac.length:=by rw [hF.mac];exact hj
  have e:F.cells[38+j]?=some (.int .u8 F.mac[j]):=by
   have:=congrArg (fun l=>l[j]?) f38;simp only [List.getElem?_take_of_lt hj,List.getElem?_drop,List.getElem?_map,List.getElem?_eq_getElem hj',Option.map_some] at this
   exact this
  have:=r (38+j) _ e;rw [Nat.zero_add] at this
  rw [this,List.getElem?_eq_getElem hj'];rfl⟩
 have HR:=ac.mk (fun W (hb:Below w.heap.size w W)=>hR.far hb);have HKT:ac (∀W,Below w.heap.size w W→S.KTab W):=⟨fun W hb=>hKT.below hb⟩
 have HF:=ac.mk (fun W (hb:Below w.heap.size w W)=>hF.below hb);have HND:=ac.mk jt;have HNB:=ac.mk iI;have HMN:=ac.mk (lB F.number);have HCE:ac (checkE seed F lw ws lb body=if F.author<8∧fU F.number=true then (if lw≤64∧lb≤4112 then (if ftagL seed F ws body=F.mac then 0 else 4) else 2) else 2):=⟨rfl⟩
 have HMB:=ac.mk hm;generalize checkE seed F lw ws lb body=CE at HCE ⊢
 clear c0 r1 hR hKT hm f0 f1 f38;have uF:=Tryz.underlying43;go_enter Tryz.func56,Tryz.ntmps56;go_upto_region 1 with fail
 refine af (p:=fun y=>Code.wp _ _ _ _ y) (fun W=>Below w.heap.size w W∧CellsAt W w.heap.size 43 Z) ⟨hb0,hRS0⟩ ?_;clear hb0 hRS0 hzv hz1;rintro W ⟨hb,hRS⟩;obtain ⟨c0,rF,cA,cN⟩:=HS.out W hb;have hn1:=HND.out 1 W;go_upto_region 2 with (go_at_call 23;refine hn1.mono ?_;rintro e w1 ⟨⟨q1,rfl⟩,rfl⟩;clear hn1)
 have hmn:=HMN.out W
 by_cases ha:F.author<8
 rotate_left
 · have HE:ac (CE=2):=⟨by rw [HCE.out,if_neg (fun q=>ha q.1)]⟩
   have hn2:=HNB.out 2 W;generalize F.author=FA at cA ha
   go_wp2_with (first
    |(go_at_call 23;refine hn2.mono ?_;rintro e w1 ⟨rfl,rfl⟩))
   refine ak ?_;exact ⟨Or.inl ⟨by rw [HE.out];decide,by rw [HE.out]⟩,hb⟩
 by_cases hmay:fU F.number=true
 rotate_left
 · have hmf:fU F.number=false:=by simpa using hmay
   have HE:ac (CE=2):=⟨by rw [HCE.out,if_neg (fun q=>hmay q.2)]⟩
   rw [hmf] at hmn
   clear hmay hmf;have hn2:=HNB.out 2 W
   go_wp2_with (first
    |(go_at_call 24;refine hmn.mono ?_;rintro e w1 ⟨rfl,rfl⟩;clear hmn)
    |(go_at_call 23;refine hn2.mono ?_;rintro e w1 ⟨rfl,rfl⟩))
   refine ak ?_;exact ⟨Or.inl ⟨by rw [HE.out];decide,by rw [HE.out]⟩,hb⟩
 have HCE1:ac (CE=if lw≤64∧lb≤4112 then (if ftagL seed F ws body=F.mac then 0 else 4) else 2):=⟨by rw [HCE.out,if_pos ⟨ha,hmay⟩]⟩
 rw [hmay] at hmn
 clear hmay;have hn2:=HND.out 2 W;go_upto_region 3 with (first
  |(go_at_call 24;refine hmn.mono ?_;rintro e w1 ⟨rfl,rfl⟩;clear hmn)
  |(go_at_call 23;refine hn2.mono ?_;rintro e w1 ⟨⟨q2,rfl⟩,rfl⟩;clear hn2))
 clear ha
 by_cases hl:lw≤64∧lb≤4112
 rotate_left
 · have HE:ac (CE=2):=⟨by rw [HCE1.out,if_neg hl]⟩
   have hfr:=re F xw lw cw xb lb cb W hF.prev hF.mac hF.wraps hF.body_ (by omega);have HGB:=ac.mk (fun V=>lM (.slice none 0 0) 2 (by decide) V);clear hl
   go_wp2_with (first
    |(refine ae rfl 43 _ rfl _ _ rfl F.cells rF uF rfl iF ?_)
    |(go_at_call 57;refine hfr.mono ?_;rintro e w1 ⟨rfl,hb1⟩;have hg:=HGB.out w1;clear hfr)
    |(go_at_call 30;refine hg.mono ?_;rintro e w2 ⟨rfl,rfl⟩))
   refine ak ?_;exact ⟨Or.inl ⟨by rw [HE.out];decide,by rw [HE.out]⟩,hb.trans (hb1.mono hb.size)⟩
 have HCE2:ac (CE=if ftagL seed F ws body=F.mac then 0 else 4):=⟨by rw [HCE1.out,if_pos hl]⟩
 have hfr:=tx F xw lw cw ws xb lb cb body W hF.prev hF.mac hF.wraps (HF.out W hb).hw hF.body_ (HF.out W hb).hb hl.1 hl.2;have HGB:=ac.mk lk;have HTG:ac (∀V,Below w.heap.size w V→Calls Tryz.prog 36 #[.pointer (some ⟨H,0,none⟩),.agg F.cells.toArray] V fun e w'=>e=.returned (.agg (row .u8 (ftagL seed F ws body)))∧Below V.heap.size V w'):=⟨fun V hb=>pp base H own seed b M v L V (HR.out V hb) (HKT.out V hb) F xw lw cw ws xb lb cb body (HF.out V hb) hl.1 (by omega)⟩
 clear hl HCE HCE1;obtain ⟨ZK,hZKl,hZK⟩:∃Z:List Int,Z.length=32∧Z=List.replicate 32 0:=⟨_,rfl,rfl⟩
 have hzv:∀wx,(zeroValue 23).run Tryz.prog wx=.ok (.agg (row .u8 ZK)) wx:=fun wx=>by rw [hZK];kernel_rfl
 have hz1:¬(row .u8 ZK)= #[]:=by intro h;have:=congrArg Array.size h;rw [bc] at this;simp at this;rw [this] at hZKl;simp at hZKl
 have hTl:=dX seed F ws body;have HTI:=ac.mk (pS seed F ws body);generalize ftagL seed F ws body=TG at HCE2 HTG hTl HTI
 clear hZK;have HBB:ac (∀w1,Below W.heap.size W w1→Below w.heap.size w w1∧CellsAt w1 w.heap.size 43 Z):=⟨fun w1 h=>⟨hb.trans (h.mono hb.size),hRS.farM h⟩⟩
 go_upto_region 4 with (first
  |(refine ae rfl 43 _ rfl _ _ rfl F.cells rF uF rfl iF ?_)
  |(go_at_call 57;refine hfr.mono ?_;rintro e w1 ⟨v1,rfl,-,hb1⟩;have hg:=HGB.out v1 w1;clear hfr)
  |(go_at_call 30;refine hg.mono ?_;rintro e w2 ⟨rfl,rfl⟩;clear hg))
 refine af (p:=fun y=>Code.wp _ _ _ _ y) (fun V=>Below w.heap.size w V∧CellsAt V w.heap.size 43 Z) (HBB.out w1 hb1) ?_;clear hb1 HBB hb hRS c0 rF cA cN;clear w1 W;rintro W ⟨hb,hRS⟩;obtain ⟨c0,rF,-,-⟩:=HS.out W hb;have htg:=HTG.out W hb;go_upto_region 5 with (first
  |(refine ae rfl 43 _ rfl _ _ rfl F.cells rF uF rfl iF ?_)
  |(go_at_call 36;refine htg.mono ?_;rintro e w1 ⟨rfl,hb1⟩;have hk1:=aa.new w1 .u8 23 ZK;clear htg)
  |(refine ah rfl 23 _ _ rfl _ rfl rfl hk1 (by rw [hTl];exact ap) (by rw [hZKl,hTl]) ?_))
 have hb2:Below w1.heap.size w1 ((w1.alloc (.cells (row .u8 ZK) 23)).setRow w1.heap.size (row .u8 TG)):=below_setRow ((Below.refl _ _).alloc (Nat.le_refl _) _) (Nat.le_refl _) _;have hb12:=hb1.trans (hb2.mono hb1.size);refine af (p:=fun y=>Code.wp _ _ _ _ y) (fun V=>Below w.heap.size w V∧CellsAt V w.heap.size 43 Z∧aa V w1.heap.size .u8 23 TG) ⟨hb.trans (hb12.mono hb.size),hRS.farM hb12,hk1.setRow _⟩ ?_;clear hb12 hb2 hk1 hb1 c0 rF hb hRS hzv hz1 HTG;obtain ⟨g,hg⟩:∃q,w1.heap.size=q:=⟨_,rfl⟩
 rw [hg];clear hg;clear w1 W;rintro W ⟨hb,hRS,hTg⟩;have heq:=S.equal_any (some ⟨g,0,none⟩) 32 32 TG (some ⟨b1,38,none⟩) 32 32 F.mac W.drew ((hTg.below (Below.refl W.heap.size W).drew hTg.lt).bytes (by rw [hTl]) (by rw [hTl];omega)).toS (HMC.out W.drew hb.drew).toS HTI.out HMB.out;have HBW:ac (∀m,Below w.heap.size w (W.drew.drewN m)∧CellsAt (W.drew.drewN m) w.heap.size 43 Z):=⟨fun m=>⟨aD hb.drew m,hRS.congr (by rfl)⟩⟩
 refine au (fun _=>True) (fun _=>True) 99 (by kernel_rfl) ?_;have hT:=trivial;have hS:=trivial;refine ghA 0 _ hT hS ?_;simp only [zp];refine ghA 1 _ hT hS ?_;simp only [zp];refine ghA 2 _ hT hS ?_;simp only [zp];refine zm 3 fun K hK=>?_
 refine aC _ _ (by kernel_rfl) (heq.mono ?_);rintro e w2 ⟨rfl,m,rfl⟩;refine ⟨_,rfl,?_⟩
 by_cases hq:TG=F.mac
 rotate_left
 · have hqf:(TG==F.mac)=false:=by simpa using hq
   have HE:ac (CE=4):=⟨by rw [HCE2.out,if_neg hq]⟩
   rw [hqf];refine hK.out _ _ hT (fun _=>hS) ?_;clear hK K
   try simp only [zp]
   refine zm 4 fun K hK=>?_
   have hn:=HNB.out 4 (W.drew.drewN m);obtain ⟨hbm,-⟩:=HBW.out m;refine oS _ _ (by kernel_rfl) (hn.mono ?_);rintro e w3 ⟨rfl,rfl⟩;refine ⟨_,rfl,?_⟩;simp only [Exit.then];refine ak ?_;exact ⟨Or.inl ⟨by rw [HE.out];decide,by rw [HE.out]⟩,hbm⟩
 · have hqf:(TG==F.mac)=true:=by simpa using hq
   have HE:ac (CE=0):=⟨by rw [HCE2.out,if_pos hq]⟩
   rw [hqf];refine hK.out _ _ hT (fun _=>hS) ?_;clear hK K
   try simp only [zp]
   refine zm 4 fun K hK=>?_
   have hn:=HND.out 4 (W.drew.drewN m);obtain ⟨hbm,hRSm⟩:=HBW.out m;refine aC _ _ (by kernel_rfl) (hn.mono ?_);rintro e w3 ⟨⟨q4,rfl⟩,rfl⟩;refine ⟨_,rfl,?_⟩;refine hK.out _ _ hT (fun _=>hS) ?_;clear hK K
   try simp only [zp]
   refine az (by kernel_rfl) ?_ _;clear hT hS heq hn HBW hq hqf;refine af (p:=fun y=>Exit.then _ _ _ _ y) (fun V=>Below w.heap.size w V∧CellsAt V w.heap.size 43 Z) ⟨hbm,hRSm⟩ ?_;clear hbm hRSm hb hRS hTg;clear W;rintro V ⟨hb,hRS⟩;obtain ⟨-,rF,-,-⟩:=HS.out V hb
   go_wp2_with (first
    |(refine ae rfl 43 _ rfl _ _ rfl F.cells rF uF rfl iF ?_)
    |(refine aw rfl 43 _ _ rfl _ rfl rfl hRS iF (by rw [hZl,f70]) h1F ?_))
   refine bodyPost_ret (dy (Tryz.results56) _ rfl (hRS.setRow F.cells) Tryz.underlying43 rfl iF) rfl ⟨Or.inr ⟨HE.out,rfl⟩,below_setRow hb (Nat.le_refl _) _⟩
theorem tl (hR:aB w base H own seed b M v L) (hKT:S.KTab w) (hF:lg w F xw lw cw ws xb lb cb body) (hm:∀x∈F.mac,0≤x∧x≤255):
    Calls Tryz.prog 13 #[.pointer (some ⟨H,0,none⟩),.agg F.cells.toArray] w fun e w'=>e=.returned (.int .i64 (checkE seed F lw ws lb body))∧Below w.heap.size w w':=by
 obtain ⟨Z,hzv,hz1,hZ⟩:∃Z:List Value,(∀wx,(zeroValue 43).run Tryz.prog wx=.ok (.agg Z.toArray) wx)∧¬Z.toArray= #[]∧Z=dM.cells:=⟨dM.cells,fun wx=>by kernel_rfl,by decide,rfl⟩
 have h70:Z.length=70:=by rw [hZ];rfl
 have h1Z:∀v∈Z,v.oneCell'=true:=by rw [hZ];decide
 have f70:=(aH F hF.prev hF.mac).1;have h1F:∀v∈F.cells,v.oneCell'=true:=fun v hv=>by
  simp only [Fr.cells,dotC,List.mem_append,List.mem_cons,List.not_mem_nil,or_false,List.mem_map,hF.wraps,hF.body_] at hv
  rcases hv with ((((rfl|rfl)|rfl|rfl)|⟨x,_,rfl⟩)|rfl|rfl)|⟨x,_,rfl⟩<;>rfl
 have a0:=(CellsAt.new w 37 [.pointer (some ⟨H,0,none⟩)]).alloc (.cells F.cells.toArray 43);have a1:=CellsAt.new (w.alloc (.cells #[.pointer (some ⟨H,0,none⟩)] 37)) 43 F.cells;rw [World.size_alloc] at a1
 have hB:Below w.heap.size w ((w.alloc (.cells #[.pointer (some ⟨H,0,none⟩)] 37)).alloc (.cells F.cells.toArray 43)):=((Below.refl _ _).alloc (Nat.le_refl _) _).alloc (by simp) _;have HST:∀V,Below ((w.alloc (.cells #[.pointer (some ⟨H,0,none⟩)] 37)).alloc (.cells F.cells.toArray 43)).heap.size ((w.alloc (.cells #[.pointer (some ⟨H,0,none⟩)] 37)).alloc (.cells F.cells.toArray 43)) V→_:=fun V hb=>mi base H own seed b M v L V w.heap.size (w.heap.size+1) F xw lw cw ws xb lb cb body (de (a0.cell 0) hb) (aN a1.wholeM hb) (hR.far (hB.trans (hb.mono hB.size))) (hKT.below (hB.trans (hb.mono hB.size))) (hF.below (hB.trans (hb.mono hB.size))) hm
 have htr:Calls Tryz.prog 21 #[.func (.func 56) #[] #[.pointer (some ⟨w.heap.size,0,none⟩),.pointer (some ⟨w.heap.size+1,0,none⟩)]] ((w.alloc (.cells #[.pointer (some ⟨H,0,none⟩)] 37)).alloc (.cells F.cells.toArray 43)) fun e w'=>∃cs:List Value,e=.returned (.tuple #[.agg cs.toArray,.int .i64 (checkE seed F lw ws lb body)])∧(cs.length=70∧∀v∈cs,v.oneCell'=true)∧Below w.heap.size w w':=by
  by_cases h0:checkE seed F lw ws lb body=0
  · refine (uj _ _ (fun cs _=>cs=F.cells) _ (fun V hb _=>(HST V hb).mono ?_) ?_).mono ?_
    · rintro e w' ⟨h1|h1,hb'⟩
      · exact absurd h0 h1.1
      · exact ⟨F.cells,h1.2,rfl,hb'⟩
    · rintro cs w' rfl
      exact ⟨by rw [f70];rfl,h1F⟩
    · rintro e w' ⟨cs,w1,he,rfl,_,_,_,hb'⟩
      rw [h0];exact ⟨_,he,⟨f70,h1F⟩,hB.trans (hb'.mono hB.size)⟩
  · refine (rm _ _ (checkE seed F lw ws lb body) _ (fun V hb _=>(HST V hb).mono ?_)).mono ?_
    · rintro e w' ⟨h1|h1,hb'⟩
      · exact ⟨h1.2,hb'⟩
      · exact absurd h1.1 h0
    · rintro e w' ⟨he,hb'⟩
      rw [←hZ] at he
      exact ⟨Z,he,⟨h70,h1Z⟩,hB.trans (hb'.mono hB.size)⟩
 have hmf:=cC;have iF70:(Tryz.prog.info? 43).map (·.size)=some 70:=bU;clear hZ a0 a1 hB HST hR hKT hF hm f70 h1F;generalize checkE seed F lw ws lb body=CE at htr ⊢
 generalize F.cells=FC at htr ⊢
 go_enter Tryz.func13,Tryz.ntmps13
 go_wp2_with (first
  |(go_at_call 21;refine htr.mono ?_;rintro e w1 ⟨cs,rfl,⟨hcl,hc1⟩,hb1⟩;have hO1:=CellsAt.new w1 43 Z)
  |(refine aw rfl 43 _ _ rfl _ rfl rfl hO1 (by rw [hcl];exact iF70) (by rw [h70,hcl]) hc1 ?_))
 go_ret;exact ⟨rfl,below_setRow (hb1.alloc hb1.size _) hb1.size _⟩
end
section
variable (base O:Nat) (own:Int) (seed:List Int) (v:Value) (L:List Ep) (w:World)
variable (F:Fr) (xw:Option Addr) (lw cw:Nat) (ws:List Wp) (xb:Option Addr) (lb cb:Nat) (body:List Int)
end
end Go.Proofs.YtbdhfbglagdiaaaGreatDoor
