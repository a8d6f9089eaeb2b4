/- Wr4 Re1 Re2 Re3 -/
import Derived.Test.YtbdhfbglagdiaaaGreatDoorG03
import Derived.Test.YtbdhfbglagdiaaaGreatDoorG02
namespace Go.Proofs.YtbdhfbglagdiaaaGreatDoor
open Go.RowKit
set_option maxRecDepth 20000
set_option linter.unusedSimpArgs false
theorem cz.setRow {w:World} {g H base:Nat} (hb:base≤g) (w0:World) (hlt:w0.heap.size≤g) (h0:cz w0 w H base) (cs':Array Value):cz w0 (w.setRow g cs') H base:=
 ⟨below_setRow h0.below hb _,fun g' cs t fr h1 h2 h3=>by
  have hl:g'<w0.heap.size:=(Array.getElem?_eq_some_iff.1 h3).1;rw [setRow_other w g g' cs' (by omega)];exact h0.kept g' cs t fr h1 h2 h3⟩
def jL (e:Wp):List Int:=[e.too]++eR e.ea e.es++e.data
structure Fr where
 author:Int
 number:Int
 ea:Int
 es:Int
 prev:List Int
 wraps:Value
 body:Value
 mac:List Int
def Fr.cells (f:Fr):List Value:=[.int .u8 f.author,.int .u32 f.number]++dotC f.ea f.es++f.prev.map (Value.int .u8)++ [f.wraps,f.body]++f.mac.map (Value.int .u8)
def bP (ws:List Wp):List Int:=(ws.map jL).flatten
def aN (f:Fr) (ws:List Wp):List Int:=[69,83,f.author]++be4 f.number++eR f.ea f.es++f.prev++ [(ws.length:Int)]++bP ws
theorem oh (e:Wp) (h:e.data.length=48):(jL e).length=54:=by unfold jL;simp [bX,h]
theorem kq (ws:List Wp) (j:Nat) (hj:j<ws.length):bP (ws.take (j+1))=bP (ws.take j)++jL ws[j]:=by
 unfold bP;rw [List.take_succ_eq_append_getElem hj,List.map_append,List.flatten_append];simp only [List.map_cons,List.map_nil,List.flatten_cons,List.flatten_nil,List.append_nil]
theorem jY (ws:List Wp) (h:∀e∈ws,e.data.length=48):(bP ws).length=54*ws.length:=by
 induction ws with
 |nil=>rfl
 |cons e ws ih=>
  have:=ih (fun x hx=>h x (List.mem_cons_of_mem _ hx));unfold bP at this ⊢
  rw [List.map_cons,List.flatten_cons,List.length_append,oh e (h e (by simp)),this,List.length_cons];omega
structure WrapsAt (w:World) (x:Option Addr) (len cap:Nat) (ws:List Wp):Prop where
 len_eq:len=ws.length
 le:len≤cap
 top:cap≤9223372036854775807
 nil:x=none→cap=0
 ok:∀e∈ws,e.data.length=48
 at_:len=0∨∃b off,x=some ⟨b,off,none⟩∧∀j (hj:j<ws.length),w.rangeAt b (off+j*51) (ws[j]).cells
theorem bg {w w':World} {b o:Nat} {cs:List Value} (h:w.rangeAt b o cs) (hb:Below w.heap.size w w'):w'.rangeAt b o cs:=fun j v hv=>by
 have:=h j v hv;rw [hb.cell (p:=⟨b,o+j,none⟩) (block_lt_of_cell this)];exact this
theorem WrapsAt.below {w w':World} {x:Option Addr} {len cap:Nat} {ws:List Wp} (h:WrapsAt w x len cap ws) (hb:Below w.heap.size w w'):WrapsAt w' x len cap ws:=
 ⟨h.len_eq,h.le,h.top,h.nil,h.ok,by
  rcases h.at_ with h0|⟨b,off,hx,hc⟩
  · exact .inl h0
  · exact .inr ⟨b,off,hx,fun j hj=>bg (hc j hj) hb⟩⟩
theorem aL (f:Fr) (hp:f.prev.length=32) (hm:f.mac.length=32):f.cells.length=70∧f.cells[0]?=some (.int .u8 f.author)∧f.cells[1]?=some (.int .u32 f.number)∧(f.cells.drop 2).take 2=dotC f.ea f.es∧(f.cells.drop 4).take 32=f.prev.map (Value.int .u8)∧f.cells[36]?=some f.wraps∧f.cells[37]?=some f.body∧(f.cells.drop 38).take 32=f.mac.map (Value.int .u8):=by
 have e1:∀X:List Value,(([.int .u8 f.author,.int .u32 f.number]:List Value)++dotC f.ea f.es++X).drop 4=X:=fun X=>rfl
 have hP:(f.prev.map (Value.int .u8)).length=32:=by rw [List.length_map,hp]
 have hM:(f.mac.map (Value.int .u8)).length=32:=by rw [List.length_map,hm]
 have e0:f.cells=([.int .u8 f.author,.int .u32 f.number]:List Value)++dotC f.ea f.es++(f.prev.map (Value.int .u8)++([f.wraps,f.body]++f.mac.map (Value.int .u8))):=by unfold Fr.cells;simp only [List.append_assoc]
 have e36:f.cells.drop 36=[f.wraps,f.body]++f.mac.map (Value.int .u8):=by
  rw [show 36=4+32 from rfl,←List.drop_drop,e0,e1,List.drop_left' hP]
 refine ⟨by rw [e0];simp [dotC,hp,hm],by rw [e0];rfl,by rw [e0];rfl,by rw [e0];rfl,by rw [e0,e1,List.take_left' hP],?_,?_,?_⟩
 · have:=congrArg (fun l=>l[0]?) e36
   simpa using this
 · have:=congrArg (fun l=>l[1]?) e36
   simpa using this
 · rw [show 38=36+2 from rfl,←List.drop_drop,e36]
   exact List.take_of_length_le (by simp [hm])
theorem pQ:(Tryz.prog.info? 68).map (·.size)=some 51:=by kernel_rfl
set_option maxHeartbeats 4000000
theorem lj (z:List Int) (o j:Nat):(z.drop o)[j]?.getD 0=z[o+j]?.getD 0:=by rw [List.getElem?_drop]
def at1 (z:List Int) (o:Nat):Int:=z[o]?.getD 0
def at4 (z:List Int) (o:Nat):Int:=iW (at1 z o) (at1 z (o+1)) (at1 z (o+2)) (at1 z (o+3))
theorem CellsAt.took {w w':World} {R base g:Nat} {t:TypeId} {cs:List Value} (h:CellsAt w g t cs) (ht:aW w w' R base) (hne:g≠R):CellsAt w' g t cs:=by
 have hl:=h.lt;unfold CellsAt at h ⊢;rw [ht.kept g hl hne];exact h
theorem Rd.setCellO {w:World} {R base:Nat} {z:List Int} (h:Rd w R base z) (a:Addr) (v:Value) (h1:base≤a.block) (h2:R≠a.block):Rd (w.setCell a v) R base z:=by
 obtain ⟨x,n,c,hb,hy⟩:=h.has;refine ⟨h.ge,x,n,c,?_,fun wx hx=>hy wx (((Below.refl _ _).setCell h1 _).trans hx)⟩;unfold Box at hb ⊢
 rw [heap_setCell_other w a R v h2];exact hb
theorem aW.setCellO {w w':World} {R base:Nat} (h:aW w w' R base) (a:Addr) (v:Value) (h1:w.heap.size≤a.block) (h2:base≤a.block):aW w (w'.setCell a v) R base:=
 ⟨h.below.setCell h2 _,by have:=h.more;simpa [World.setCell] using this,fun g hg hne=>by rw [heap_setCell_other w' a g v (by omega)];exact h.kept g hg hne⟩
theorem Rd.setRowO {w:World} {R base g:Nat} {z:List Int} (h:Rd w R base z) (cs:Array Value) (h1:base≤g) (h2:R≠g):Rd (w.setRow g cs) R base z:=by
 obtain ⟨x,n,c,hb,hy⟩:=h.has;refine ⟨h.ge,x,n,c,?_,fun wx hx=>hy wx ((below_setRow (Below.refl _ _) h1 _).trans hx)⟩;unfold Box at hb ⊢
 rw [setRow_other w g R cs h2];exact hb
theorem aW.setRowO {w w':World} {R base g:Nat} (h:aW w w' R base) (cs:Array Value) (h1:w.heap.size≤g) (h2:base≤g):aW w (w'.setRow g cs) R base:=
 ⟨below_setRow h.below h2 _,by have:=h.more;simpa [World.setRow] using this,fun k hk hne=>by rw [setRow_other w' g k cs (by omega)];exact h.kept k hk hne⟩
theorem iQ (R base:Nat) (z:List Int) (o:Nat) (w:World) (hR:Rd w R base (z.drop o)):
    Calls Tryz.prog 135 #[.pointer (some ⟨R,0,none⟩)] w fun e w'=>
     (o+1≤z.length∧e=.returned (.int .u8 (at1 z o))∧Rd w' R base (z.drop (o+1))∧aW w w' R base)∨(z.length<o+1∧e=.panicked [dq]∧aW w w' R base):=by
 have ht:=eI R base (z.drop o) 1 w hR;have HL:ac ((z.drop o).length=z.length - o):=⟨List.length_drop⟩
 have HD:ac ((z.drop o).drop 1=z.drop (o+1)):=⟨by rw [List.drop_drop]⟩
 have HF:ac (∀(w':World) (x:Option Addr),Bytes w' x 1 1 ((z.drop o).take 1)→∃b off,x=some ⟨b,off,none⟩∧w'.cell? ⟨b,off,none⟩=some (.int .u8 (at1 z o))):=⟨fun w' x h=>by
  obtain ⟨b,off,hx,hc⟩:=fy h (by omega);have:=hc 0 (by omega);rw [lj] at this
  exact ⟨b,off,hx,this⟩⟩
 obtain ⟨A,hA⟩:∃q,at1 z o=q:=⟨_,rfl⟩
 rw [hA] at HF ⊢
 clear hA hR;go_enter Tryz.func135,Tryz.ntmps135
 by_cases hk:o+1≤z.length
 · go_wp2_with (go_at_call 141;refine ht.mono ?_;rintro e w1 (⟨hk1,x1,rfl,hy1,hR1,ht1⟩|⟨hk1,_⟩);rotate_left;(exfalso;have:=HL.out;omega);obtain ⟨b,off,rfl,hc⟩:=HF.out w1 x1 (hy1 w1 (Below.refl _ _)))
   go_ret;rw [HD.out] at hR1
   exact .inl ⟨hk,rfl,hR1,ht1⟩
 · go_wp2_with (go_at_call 141;refine ht.mono ?_;rintro e w1 (⟨hk1,_⟩|⟨hk1,rfl,ht1⟩);(exfalso;have:=HL.out;omega))
   exact al (.inr ⟨by omega,rfl,ht1⟩)
theorem pP (R base:Nat) (z:List Int) (o:Nat) (w:World) (hR:Rd w R base (z.drop o)) (hz:∀v∈z,b8 v):
    Calls Tryz.prog 134 #[.pointer (some ⟨R,0,none⟩)] w fun e w'=>
     (o+4≤z.length∧e=.returned (.int .u32 (at4 z o))∧Rd w' R base (z.drop (o+4))∧aW w w' R base)∨(z.length<o+4∧e=.panicked [dq]∧aW w w' R base):=by
 have ht:=eI R base (z.drop o) 4 w hR;have HL:ac ((z.drop o).length=z.length - o):=⟨List.length_drop⟩
 have HD:ac ((z.drop o).drop 4=z.drop (o+4)):=⟨by rw [List.drop_drop]⟩
 have ha:=dP hz o;have hb:=dP hz (o+1);have hc:=dP hz (o+2);have hd:=dP hz (o+3);have HV:ac (bits .or .u32 (bits .or .u32 (bits .or .u32 (z[o]?.getD 0*16777216) (z[o+1]?.getD 0*65536)) (z[o+2]?.getD 0*256)) (z[o+3]?.getD 0)=at4 z o):=⟨sC _ _ _ _ ha hb hc hd⟩
 have HF:ac (∀(w':World) (x:Option Addr),Bytes w' x 4 4 ((z.drop o).take 4)→∃b off,x=some ⟨b,off,none⟩∧∀j,j<4→w'.cell? ⟨b,off+j,none⟩=some (.int .u8 (z[o+j]?.getD 0))):=⟨fun w' x h=>by
  obtain ⟨b,off,hx,hc⟩:=fy h (by omega);refine ⟨b,off,hx,fun j hj=>?_⟩;have:=hc j hj;rw [lj] at this
  exact this⟩
 obtain ⟨V,hV⟩:∃q,at4 z o=q:=⟨_,rfl⟩
 rw [hV] at HV ⊢
 obtain ⟨A,hA⟩:∃q,z[o]?.getD 0=q:=⟨_,rfl⟩
 obtain ⟨B,hB⟩:∃q,z[o+1]?.getD 0=q:=⟨_,rfl⟩
 obtain ⟨C,hC⟩:∃q,z[o+2]?.getD 0=q:=⟨_,rfl⟩
 obtain ⟨D,hD⟩:∃q,z[o+3]?.getD 0=q:=⟨_,rfl⟩
 have HA:ac (z[o]?.getD 0=A∧z[o+1]?.getD 0=B∧z[o+2]?.getD 0=C∧z[o+3]?.getD 0=D):=⟨hA,hB,hC,hD⟩
 rw [hA,hB,hC,hD] at HV
 rw [hA] at ha
 rw [hB] at hb
 rw [hC] at hc
 rw [hD] at hd
 have e1:IntKind.u32.wrap A=A:=by rw [IntKind.wrap_u32];omega
 have e2:IntKind.u32.wrap B=B:=by rw [IntKind.wrap_u32];omega
 have e3:IntKind.u32.wrap C=C:=by rw [IntKind.wrap_u32];omega
 have e4:IntKind.u32.wrap D=D:=by rw [IntKind.wrap_u32];omega
 have e5:IntKind.u32.wrap (A*16777216)=A*16777216:=by rw [IntKind.wrap_u32];omega
 have e6:IntKind.u32.wrap (B*65536)=B*65536:=by rw [IntKind.wrap_u32];omega
 have e7:IntKind.u32.wrap (C*256)=C*256:=by rw [IntKind.wrap_u32];omega
 clear hA hB hC hD hV hR hz;go_enter Tryz.func134,Tryz.ntmps134
 by_cases hk:o+4≤z.length
 · go_upto_region 2 with (go_at_call 141;refine ht.mono ?_;rintro e w1 (⟨hk1,x1,rfl,hy1,hR1,ht1⟩|⟨hk1,_⟩);rotate_left;(exfalso;have:=HL.out;omega))
   obtain ⟨b,off,rfl,hc'⟩:=HF.out w1 x1 (hy1 w1 (Below.refl _ _));have c0:w1.cell? ⟨b,off,none⟩=some (.int .u8 A):=by have:=hc' 0 (by omega);simp only [Nat.add_zero] at this;rw [HA.out.1] at this;exact this
   have c1:w1.cell? ⟨b,off+1,none⟩=some (.int .u8 B):=by have:=hc' 1 (by omega);rw [HA.out.2.1] at this;exact this
   have c2:w1.cell? ⟨b,off+2,none⟩=some (.int .u8 C):=by have:=hc' 2 (by omega);rw [HA.out.2.2.1] at this;exact this
   have c3:w1.cell? ⟨b,off+3,none⟩=some (.int .u8 D):=by have:=hc' 3 (by omega);rw [HA.out.2.2.2] at this;exact this
   clear hc' hy1 ht;refine ag (fun w'=>w'.cell? ⟨b,off,none⟩=some (.int .u8 A)∧w'.cell? ⟨b,off+1,none⟩=some (.int .u8 B)∧w'.cell? ⟨b,off+2,none⟩=some (.int .u8 C)∧w'.cell? ⟨b,off+3,none⟩=some (.int .u8 D)) 22 (by kernel_rfl) ?_;have hS:w1.drew.cell? ⟨b,off,none⟩=some (.int .u8 A)∧w1.drew.cell? ⟨b,off+1,none⟩=some (.int .u8 B)∧w1.drew.cell? ⟨b,off+2,none⟩=some (.int .u8 C)∧w1.drew.cell? ⟨b,off+3,none⟩=some (.int .u8 D):=⟨c0,c1,c2,c3⟩
   refine gaA 0 _ hS ?_;simp only [zp];refine gaA 1 _ hS ?_;simp only [zp];refine grA 2 _ hS ?_;simp only [zp];refine gaA 3 _ hS ?_;simp only [zp];refine gaA 4 _ hS ?_;simp only [zp];refine gaA 5 _ hS ?_;simp only [zp];refine gaA 6 _ hS ?_;simp only [zp];refine grA 7 _ hS ?_;simp only [zp];refine gaA 8 _ hS ?_;simp only [zp];refine gaA 9 _ hS ?_;simp only [zp];refine gaA 10 _ hS ?_;simp only [zp];refine gaA 11 _ hS ?_;simp only [zp];refine gaA 12 _ hS ?_;simp only [zp];refine grA 13 _ hS ?_;simp only [zp];refine gaA 14 _ hS ?_;simp only [zp];refine gaA 15 _ hS ?_;simp only [zp];refine gaA 16 _ hS ?_;simp only [zp];refine gaA 17 _ hS ?_;simp only [zp];refine gaA 18 _ hS ?_;simp only [zp];refine grA 19 _ hS ?_;simp only [zp];refine gaA 20 _ hS ?_;simp only [zp];refine gaA 21 _ hS ?_;simp only [zp];refine zw 22 fun K hK=>?_
   go_simp;refine hK.out _ _ zn ?_;clear hK K;refine ah (by kernel_rfl) ?_ _;go_wp2;go_ret;rw [HD.out] at hR1
   refine .inl ⟨hk,?_,hR1.afar ((Below.refl _ _).drew),ht1.trans (aW.afar hR1.size ((Below.refl _ _).drew))⟩;rw [←HV.out]
   rfl
 · go_upto_region 2 with (go_at_call 141;refine ht.mono ?_;rintro e w1 (⟨hk1,_⟩|⟨hk1,rfl,ht1⟩);(exfalso;have:=HL.out;omega))
   exact al (.inr ⟨by omega,rfl,ht1⟩)
theorem tv (R base:Nat) (z:List Int) (o:Nat) (w:World) (hR:Rd w R base (z.drop o)):
    Calls Tryz.prog 136 #[.pointer (some ⟨R,0,none⟩)] w fun e w'=>
     ((o+1≤z.length∧at1 z o≤1)∧e=.returned (.bool (at1 z o==1))∧Rd w' R base (z.drop (o+1))∧aW w w' R base)∨(¬(o+1≤z.length∧at1 z o≤1)∧e=.panicked [dq]∧aW w w' R base):=by
 have h1:=iQ R base z o w hR;have hok:=fun wx=>iU wx
 have hbad:=fun wx=>ib wx
 obtain ⟨A,hA⟩:∃q,at1 z o=q:=⟨_,rfl⟩
 rw [hA] at h1 ⊢
 clear hA hR
 by_cases hk:o+1≤z.length
 · by_cases ha:A≤1
   · clear hbad
     go_enter Tryz.func136,Tryz.ntmps136
     go_wp2_with (first
      |(go_at_call 135;refine h1.mono ?_;rintro e w1 (⟨hk1,rfl,hR1,ht1⟩|⟨hk1,_⟩);rotate_left;(exfalso;omega))
      |(go_at_call 132;refine (hok _).mono ?_;rintro e w2 ⟨⟨r2,rfl⟩,rfl⟩))
     go_ret;exact .inl ⟨⟨hk,ha⟩,rfl,hR1,ht1⟩
   · have ha':decide (A≤1)=false:=by simp;omega
     clear hok;go_enter Tryz.func136,Tryz.ntmps136
     go_wp2_with (first
      |(go_at_call 135;refine h1.mono ?_;rintro e w1 (⟨hk1,rfl,hR1,ht1⟩|⟨hk1,_⟩);rotate_left;(exfalso;omega))
      |(go_at_call 132;refine (hbad _).mono ?_;rintro e w2 ⟨rfl,rfl⟩))
     exact al (.inr ⟨fun h=>by have:=h.2;omega,rfl,ht1⟩)
 · go_enter Tryz.func136,Tryz.ntmps136
   go_wp2_with (go_at_call 135;refine h1.mono ?_;rintro e w1 (⟨hk1,_⟩|⟨hk1,rfl,ht1⟩);(exfalso;omega))
   exact al (.inr ⟨fun h=>hk h.1,rfl,ht1⟩)
theorem CellsAt.frozen2 {w:World} {g:Nat} {t:TypeId} {cs:List Value} (h:CellsAt w g t cs) (j:Nat):w.frozen? ⟨g,j,none⟩=false:=frozen_of_row w g j _ t h
theorem CellsAt.set2 {w:World} {g:Nat} {t:TypeId} {cs:List Value} (h:CellsAt w g t cs) (j:Nat) (v:Value):CellsAt (w.setCell ⟨g,j,none⟩ v) g t (cs.set j v):=by
 unfold CellsAt at h ⊢
 rw [heap_setCell_same w g j _ t _ h];simp
theorem CellsAt.setOther2 {w:World} {g:Nat} {t:TypeId} {cs:List Value} (h:CellsAt w g t cs) (a:Addr) (v:Value) (hne:g≠a.block):CellsAt (w.setCell a v) g t cs:=by
 unfold CellsAt at h ⊢
 rw [heap_setCell_other w a g v hne];exact h
theorem CellsAt.setRowOther2 {w:World} {g g':Nat} {t:TypeId} {cs:List Value} (h:CellsAt w g t cs) (cs':Array Value) (hne:g≠g'):CellsAt (w.setRow g' cs') g t cs:=by
 unfold CellsAt at h ⊢;rw [setRow_other w g' g cs' hne];exact h
theorem CellsAt.whole2 {w:World} {g:Nat} {t:TypeId} {cs:List Value} (h:CellsAt w g t cs):w.rangeAt g 0 cs:=fun j v hv=>by rw [Nat.zero_add,h.cell];exact hv
theorem lf (a s:Int):∀v∈dotC a s,v.oneCell'=true:=by
 intro v hv;unfold dotC at hv
 simp only [List.mem_cons,List.not_mem_nil,or_false] at hv
 rcases hv with rfl|rfl<;>rfl
theorem sz (R base:Nat) (z:List Int) (o:Nat) (w:World) (hR:Rd w R base (z.drop o)) (hz:∀v∈z,b8 v):
    Calls Tryz.prog 133 #[.pointer (some ⟨R,0,none⟩)] w fun e w'=>
     (o+5≤z.length∧e=.returned (.agg (dotC (at1 z o) (at4 z (o+1))).toArray)∧Rd w' R base (z.drop (o+5))∧aW w w' R base)∨(z.length<o+5∧e=.panicked [dq]∧aW w w' R base):=by
 have hlt:=hR.lt;have hsz:=hR.size;have h1:=fun wx (h:Rd wx R base (z.drop o))=>iQ R base z o wx h
 have h4:=fun wx (h:Rd wx R base (z.drop (o+1)))=>pP R base z (o+1) wx h hz
 obtain ⟨A,hA⟩:∃q,at1 z o=q:=⟨_,rfl⟩
 rw [hA] at h1 ⊢
 obtain ⟨S,hS⟩:∃q,at4 z (o+1)=q:=⟨_,rfl⟩
 rw [hS] at h4 ⊢
 have hG0:=(CellsAt.new w 26 (dotC 0 0)).alloc (.cells (dotC 0 0).toArray 26);have hG1:CellsAt ((w.alloc (.cells (dotC 0 0).toArray 26)).alloc (.cells (dotC 0 0).toArray 26)) (w.heap.size+1) 26 (dotC 0 0):=by
  have:=CellsAt.new (w.alloc (.cells (dotC 0 0).toArray 26)) 26 (dotC 0 0);rw [World.size_alloc] at this
  exact this
 have hR0:=(hR.alloc (.cells (dotC 0 0).toArray 26)).alloc (.cells (dotC 0 0).toArray 26);have hT0:aW w ((w.alloc (.cells (dotC 0 0).toArray 26)).alloc (.cells (dotC 0 0).toArray 26)) R base:=(aW.alloc hsz _).trans (aW.alloc (by simp;omega) _);clear hA hS hR hz;go_enter Tryz.func133,Tryz.ntmps133;go_upto_region 2 with fail
 refine ae (p:=fun y=>Code.wp _ _ _ _ y) (fun W=>Rd W R base (z.drop o)∧aW w W R base∧CellsAt W w.heap.size 26 (dotC 0 0)∧CellsAt W (w.heap.size+1) 26 (dotC 0 0)) ⟨hR0,hT0,hG0,hG1⟩ ?_;clear hR0 hT0 hG0 hG1;rintro W ⟨hR0,hT0,hG0,hG1⟩;have h1W:=h1 W hR0
 by_cases hk1:o+1≤z.length
 · go_upto_region 3 with (go_at_call 135;refine h1W.mono ?_;rintro e w1 (⟨_,rfl,hR1,ht1⟩|⟨hx,_⟩);rotate_left;(exfalso;omega);have hH1:=hG1.took ht1 (by omega);have c0:=hH1.cell 0;have f0:=hH1.frozen2 0)
   have hH0:=hG0.took ht1 (by omega);refine ae (p:=fun y=>Code.wp _ _ _ _ y) (fun W2=>Rd W2 R base (z.drop (o+1))∧aW w W2 R base∧CellsAt W2 w.heap.size 26 (dotC 0 0)∧CellsAt W2 (w.heap.size+1) 26 (dotC A 0)) ⟨hR1.setCellO _ _ (by show base≤w.heap.size+1;omega) (by show R≠w.heap.size+1;omega),(hT0.trans ht1).setCellO _ _ (by show w.heap.size≤w.heap.size+1;omega) (by show base≤w.heap.size+1;omega),hH0.setOther2 _ _ (by show w.heap.size≠w.heap.size+1;omega),hH1.set2 0 _⟩ ?_;clear h1W h1 hR0 hT0 hG0 hG1 c0 f0 hH1 hH0 hR1 ht1;rintro W2 ⟨hR2,hT2,hG0,hG1⟩;have h4W:=h4 W2 hR2
   by_cases hk4:o+5≤z.length
   · go_upto_region 4 with (go_at_call 134;refine h4W.mono ?_;rintro e w3 (⟨_,rfl,hR3,ht3⟩|⟨hx,_⟩);rotate_left;(exfalso;omega);have hH1:=hG1.took ht3 (by omega);have c1:=hH1.cell 1;have f1:=hH1.frozen2 1)
     have hH0:=hG0.took ht3 (by omega);refine ae (p:=fun y=>Code.wp _ _ _ _ y) (fun W4=>Rd W4 R base (z.drop (o+5))∧aW w W4 R base∧CellsAt W4 w.heap.size 26 (dotC 0 0)∧CellsAt W4 (w.heap.size+1) 26 (dotC A S)) ⟨hR3.setCellO _ _ (by show base≤w.heap.size+1;omega) (by show R≠w.heap.size+1;omega),(hT2.trans ht3).setCellO _ _ (by show w.heap.size≤w.heap.size+1;omega) (by show base≤w.heap.size+1;omega),hH0.setOther2 _ _ (by show w.heap.size≠w.heap.size+1;omega),hH1.set2 1 _⟩ ?_;clear h4W h4 hR2 hT2 hG0 hG1 c1 f1 hH1 hH0 hR3 ht3;rintro W4 ⟨hR4,hT4,hG0,hG1⟩;have rE:=hG1.whole2
     go_wp2_with (first
      |(refine af rfl 26 _ rfl _ _ rfl (dotC A S) rE Tryz.underlying26 rfl aH ?_)
      |(refine aq rfl 26 _ _ rfl _ rfl rfl hG0 aH rfl (lf A S) ?_))
     refine bodyPost_ret (results_cell_row (Tryz.results133) _ _ _ _ _ (0,0) _ rfl (hG0.setRow (dotC A S)) Tryz.underlying26 rfl aH) rfl ?_;exact .inl ⟨hk4,rfl,hR4.setRowO _ (by omega) (by omega),hT4.setRowO _ (by omega) (by omega)⟩
   · go_upto_region 4 with (go_at_call 134;refine h4W.mono ?_;rintro e w3 (⟨hx,_⟩|⟨_,rfl,ht3⟩);(exfalso;omega))
     exact al (.inr ⟨by omega,rfl,hT2.trans ht3⟩)
 · go_upto_region 3 with (go_at_call 135;refine h1W.mono ?_;rintro e w1 (⟨hx,_⟩|⟨_,rfl,ht1⟩);(exfalso;omega))
   exact al (.inr ⟨by omega,rfl,hT0.trans ht1⟩)
set_option maxHeartbeats 8000000
def jg (z:List Int):List Int:=(List.range 8).map fun j=>at4 z (5+4*j)
def kR (z:List Int):Ev:=⟨at1 z 0,at4 z 1,jg z,at1 z 37,at1 z 38,at4 z 39,at1 z 43==1,at1 z 44,at1 z 45,at1 z 46⟩
def qJ (z:List Int):Prop:=58≤z.length∧at1 z 43≤1∧∀j,j<11→at1 z (47+j)=0
theorem fd (z:List Int):(jg z).length=8:=by simp [jg]
theorem nj (z:List Int) (j:Nat) (hj:j<8):(jg z)[j]?.getD 0=at4 z (5+4*j):=by
 unfold jg;rw [List.getElem?_map,List.getElem?_range hj];rfl
theorem qc (P:List Int) (hP:P.length=8) (j:Nat) (hj:j<8):(P.take j++List.replicate (8 - j) 0).set j (P[j]?.getD 0)=P.take (j+1)++List.replicate (8 - (j+1)) 0:=by
 have hl:(P.take j).length=j:=by rw [List.length_take];omega
 obtain ⟨m,hm⟩:∃m,8 - j=m+1:=⟨8 - j - 1,by omega⟩
 have hm2:8 - (j+1)=m:=by omega
 rw [hm,hm2];have:=br (P.take j) m (P[j]?.getD 0);rw [hl] at this
 rw [this,bG P j (by omega)]
def evZ:Ev:=⟨0,0,List.replicate 8 0,0,0,0,false,0,0,0⟩
theorem dy (e:Ev):e.cells=(dotC e.da e.ds++e.past.map (Value.int .u32))++([.int .u8 e.kind]++dotC e.pa e.ps++ [.bool e.right,.int .u8 e.char,.int .u8 e.who,.int .u8 e.role]):=rfl
theorem gU (e:Ev) (h:e.past.length=8):(dotC e.da e.ds++e.past.map (Value.int .u32)).length=10:=by simp [dotC,h]
theorem eO (e:Ev) (h:e.past.length=8):e.cells.length=17:=by rw [dy,List.length_append,gU e h];simp [dotC]
theorem lW (e:Ev) (h:e.past.length=8) (j:Nat) (hj:10≤j):e.cells[j]?=([.int .u8 e.kind]++dotC e.pa e.ps++ [.bool e.right,.int .u8 e.char,.int .u8 e.who,.int .u8 e.role]:List Value)[j - 10]?:=by rw [dy,List.getElem?_append_right (by rw [gU e h];exact hj),gU e h]
theorem lY (e:Ev) (h:e.past.length=8) (j:Nat) (hj:10≤j) (v:Value):e.cells.set j v=(dotC e.da e.ds++e.past.map (Value.int .u32))++([.int .u8 e.kind]++dotC e.pa e.ps++ [.bool e.right,.int .u8 e.char,.int .u8 e.who,.int .u8 e.role]:List Value).set (j - 10) v:=by rw [dy,List.set_append_right _ _ (by rw [gU e h];exact hj),gU e h]
theorem mz (e:Ev) (h:e.past.length=8) (j:Nat) (hj:j<8) (v:Int):e.cells.set (2+j) (.int .u32 v)=({e with past:=e.past.set j v}:Ev).cells:=by
 rw [dy,dy,List.set_append_left _ _ (by rw [gU e h];omega),List.set_append_right _ _ (by simp [dotC])]
 congr 2
 rw [List.map_set]
 congr 1
 simp [dotC]
theorem nG (e:Ev) (h:e.past.length=8) (a s:Int):e.cells.take 11++dotC a s++e.cells.drop (11+(dotC a s).length)=({e with pa:=a,ps:=s}:Ev).cells:=by
 have hp:=gU e h;have e1:e.cells.take 11=(dotC e.da e.ds++e.past.map (Value.int .u32))++ [.int .u8 e.kind]:=by
  rw [dy,show 11=10+1 from rfl,List.take_add,List.take_left' hp,List.drop_left' hp];rfl
 have e2:e.cells.drop (11+(dotC a s).length)=[.bool e.right,.int .u8 e.char,.int .u8 e.who,.int .u8 e.role]:=by
  rw [show 11+(dotC a s).length=10+3 from rfl,←List.drop_drop,dy,List.drop_left' hp];rfl
 rw [e1,e2,dy];simp only [List.append_assoc]
theorem pV (e:Ev) (h:e.past.length=8) (j:Nat) (hj:j<8):e.cells[2+j]?=some (.int .u32 (e.past[j]?.getD 0)):=by
 rw [dy,List.getElem?_append_left (by rw [gU e h];omega),List.getElem?_append_right (by simp [dotC])];have e1:2+j - (dotC e.da e.ds).length=j:=by simp [dotC]
 rw [e1,List.getElem?_map,List.getElem?_eq_getElem (by omega)];rfl
theorem dh (e:Ev):∀v∈e.cells,v.oneCell'=true:=by
 intro v hv;rw [dy] at hv
 simp only [dotC,List.mem_append,List.mem_cons,List.not_mem_nil,or_false,List.mem_map] at hv
 rcases hv with ((rfl|rfl)|⟨_,_,rfl⟩)|((rfl|(rfl|rfl))|(rfl|rfl|rfl|rfl))<;>rfl
theorem o0:(Tryz.prog.info? 33).map (·.size)=some 17:=by kernel_rfl
theorem qA (R base:Nat) (z:List Int) (w:World) (hR:Rd w R base z) (hz:∀v∈z,b8 v):
    Calls Tryz.prog 97 #[.pointer (some ⟨R,0,none⟩)] w fun e w'=>
     (qJ z∧e=.returned (.agg (kR z).cells.toArray)∧Rd w' R base (z.drop 58)∧aW w w' R base)∨(¬qJ z∧e=.panicked [dq]∧aW w w' R base):=by
 have hlt:=hR.lt;have hsz:=hR.size;have hd0:=fun wx (h:Rd wx R base (z.drop 0))=>sz R base z 0 wx h hz
 have hf:=fun (j:Nat) wx (h:Rd wx R base (z.drop (5+4*j)))=>pP R base z (5+4*j) wx h hz
 have ho37:=fun wx (h:Rd wx R base (z.drop 37))=>iQ R base z 37 wx h
 have hd38:=fun wx (h:Rd wx R base (z.drop 38))=>sz R base z 38 wx h hz
 have ht43:=fun wx (h:Rd wx R base (z.drop 43))=>tv R base z 43 wx h
 have ho44:=fun wx (h:Rd wx R base (z.drop 44))=>iQ R base z 44 wx h
 have ho45:=fun wx (h:Rd wx R base (z.drop 45))=>iQ R base z 45 wx h
 have ho46:=fun wx (h:Rd wx R base (z.drop 46))=>iQ R base z 46 wx h
 have hzr:=fun wx (h:Rd wx R base (z.drop 47))=>lX R base (z.drop 47) 11 wx h (by omega)
 have HEV:ac (kR z=⟨at1 z 0,at4 z 1,jg z,at1 z 37,at1 z 38,at4 z 39,at1 z 43==1,at1 z 44,at1 z 45,at1 z 46⟩):=⟨rfl⟩
 have HOK:ac (qJ z↔(58≤z.length∧at1 z 43≤1∧∀j,j<11→at1 z (47+j)=0)):=⟨Iff.rfl⟩
 have HPG:ac (∀j,j<8→(jg z)[j]?.getD 0=at4 z (5+4*j)):=⟨nj z⟩
 have hPL:=fd z;obtain ⟨EV,hEV⟩:∃q,kR z=q:=⟨_,rfl⟩
 obtain ⟨OK,hOK⟩:∃q,qJ z=q:=⟨_,rfl⟩
 rw [hEV] at HEV ⊢
 rw [hOK] at HOK ⊢
 obtain ⟨P,hP⟩:∃q,jg z=q:=⟨_,rfl⟩
 rw [hP] at HEV HPG hPL
 have HPS:ac (∀j,j<8→(P.take j++List.replicate (8 - j) 0).set j (P[j]?.getD 0)=P.take (j+1)++List.replicate (8 - (j+1)) 0):=⟨fun j hj=>qc P hPL j hj⟩
 have HPL:ac (∀j,j≤8→(P.take j++List.replicate (8 - j) 0).length=8):=⟨fun j hj=>by rw [List.length_append,List.length_take,List.length_replicate];omega⟩
 have HPL8:ac (P.length=8):=⟨hPL⟩
 obtain ⟨a0,ha0⟩:∃q,at1 z 0=q:=⟨_,rfl⟩
 obtain ⟨s0,hs0⟩:∃q,at4 z 1=q:=⟨_,rfl⟩
 obtain ⟨a1,ha1⟩:∃q,at1 z 37=q:=⟨_,rfl⟩
 obtain ⟨a2,ha2⟩:∃q,at1 z 38=q:=⟨_,rfl⟩
 obtain ⟨s2,hs2⟩:∃q,at4 z 39=q:=⟨_,rfl⟩
 obtain ⟨a3,ha3⟩:∃q,at1 z 43=q:=⟨_,rfl⟩
 obtain ⟨a4,ha4⟩:∃q,at1 z 44=q:=⟨_,rfl⟩
 obtain ⟨a5,ha5⟩:∃q,at1 z 45=q:=⟨_,rfl⟩
 obtain ⟨a6,ha6⟩:∃q,at1 z 46=q:=⟨_,rfl⟩
 have ed0:at4 z (0+1)=s0:=hs0;have ed38:at4 z (38+1)=s2:=hs2;rw [ha0,ed0] at hd0
 rw [ha2,ed38] at hd38
 rw [ha1] at ho37
 rw [ha3] at ht43
 rw [ha4] at ho44
 rw [ha5] at ho45
 rw [ha6] at ho46
 rw [ha0,hs0,ha1,ha2,hs2,ha3,ha4,ha5,ha6] at HEV
 rw [ha3] at HOK
 have hG0:=(CellsAt.new w 33 evZ.cells).alloc (.cells evZ.cells.toArray 33);have hG1:CellsAt ((w.alloc (.cells evZ.cells.toArray 33)).alloc (.cells evZ.cells.toArray 33)) (w.heap.size+1) 33 evZ.cells:=by
  have:=CellsAt.new (w.alloc (.cells evZ.cells.toArray 33)) 33 evZ.cells;rw [World.size_alloc] at this
  exact this
 have hR0:=(hR.alloc (.cells evZ.cells.toArray 33)).alloc (.cells evZ.cells.toArray 33);have hT0:aW w ((w.alloc (.cells evZ.cells.toArray 33)).alloc (.cells evZ.cells.toArray 33)) R base:=(aW.alloc hsz _).trans (aW.alloc (by simp;omega) _);have r1:base≤w.heap.size+1:=by omega
 have r2:R≠w.heap.size+1:=by omega
 have r3:R≠w.heap.size:=by omega
 clear ha0 hs0 ha1 ha2 hs2 ha3 ha4 ha5 ha6 ed0 ed38 hR hz hEV hOK hP;go_enter Tryz.func97,Tryz.ntmps97;go_upto_region 2 with fail
 refine ae (p:=fun y=>Code.wp _ _ _ _ y) (fun W=>Rd W R base (z.drop 0)∧aW w W R base∧CellsAt W w.heap.size 33 evZ.cells∧CellsAt W (w.heap.size+1) 33 evZ.cells) ⟨hR0,hT0,hG0,hG1⟩ ?_;clear hR0 hT0 hG0 hG1;rintro W ⟨hR0,hT0,hG0,hG1⟩;have h1W:=hd0 W hR0;clear hd0
 by_cases k0:5≤z.length
 rotate_left
 · go_upto_region 3 with (go_at_call 133;refine h1W.mono ?_;rintro e wB (⟨hx,_⟩|⟨_,rfl,htB⟩);(exfalso;omega))
   exact al (.inr ⟨fun h=>by have:=HOK.out.1 h;omega,rfl,hT0.trans htB⟩)
 go_upto_region 3 with (first
  |(go_at_call 133;refine h1W.mono ?_;rintro e w1 (⟨_,rfl,hR1,ht1⟩|⟨hx,_⟩);rotate_left;(exfalso;omega);have hH1:=hG1.took ht1 (by omega))
  |(refine js rfl 26 _ _ rfl _ 0 rfl rfl hH1 aH (by show 0+2≤17;omega) (lf a0 s0) ?_))
 have hH0:=hG0.took ht1 (by omega);refine ae (p:=fun y=>Code.wp _ _ _ _ y) (fun W=>Rd W R base (z.drop (5+4*0))∧aW w W R base∧CellsAt W w.heap.size 33 evZ.cells∧CellsAt W (w.heap.size+1) 33 (⟨a0,s0,List.replicate 8 0,0,0,0,false,0,0,0⟩:Ev).cells) ⟨hR1.setRowO _ r1 r2,(hT0.trans ht1).setRowO _ (by omega) r1,hH0.setRowOther2 _ (by omega),hH1.setRow _⟩ ?_;clear h1W hR0 hT0 hG0 hG1 hH1 hH0 hR1 ht1 W;rintro W ⟨hR0,hT0,hG0,hG1⟩
 go_wp2_with fail
 go_loopw [8] (fun q wr=>∃j:Nat,j≤8∧q=.int .i64 j∧5+4*j≤z.length∧Rd wr R base (z.drop (5+4*j))∧aW w wr R base∧CellsAt wr w.heap.size 33 evZ.cells∧CellsAt wr (w.heap.size+1) 33 (⟨a0,s0,P.take j++List.replicate (8 - j) 0,0,0,0,false,0,0,0⟩:Ev).cells) (fun q _=>8 - (intOf q).toNat)
 case atStart=>exact ⟨0,by omega,rfl,by omega,hR0,hT0,hG0,hG1⟩
 case round=>
  clear hR0 hT0 hG0 hG1 W;obtain ⟨j,hj,rfl,hzl,hR0,hT0,hG0,hG1⟩:=hrel
  by_cases hlt8:j<8
  · have h1W:=hf j wr hR0
    have hst:=HPS.out j hlt8;have hlen:=HPL.out j (by omega);rw [HPG.out j hlt8] at hst
    obtain ⟨V,hV⟩:∃q,at4 z (5+4*j)=q:=⟨_,rfl⟩
    rw [hV] at h1W hst
    have hj0:(0:Int)≤(j:Int):=by omega
    have hj8:(j:Int)<8:=by omega
    obtain ⟨Q,hQ⟩:∃q,P.take j++List.replicate (8 - j) 0=q:=⟨_,rfl⟩
    rw [hQ] at hst hlen hG1
    have HST:ac (Q.set j V=P.take (j+1)++List.replicate (8 - (j+1)) 0):=⟨hst⟩
    have HQL:ac (Q.length=8):=⟨hlen⟩
    clear hV hst hQ hlen
    by_cases k1:5+4*(j+1)≤z.length
    · go_wp2_with (go_at_call 134;refine h1W.mono ?_;rintro e w1 (⟨_,rfl,hR1,ht1⟩|⟨hx,_⟩);rotate_left;(exfalso;omega);have hH1:=hG1.took ht1 (by omega);have cj:=hH1.cell (2+j);rw [pV _ HQL.out j hlt8] at cj;have fj:=hH1.frozen2 (2+j))
      have hH0:=hG0.took ht1 (by omega);have hH2:=hH1.set2 (2+j) (.int .u32 V);rw [mz _ HQL.out j hlt8 V] at hH2
      have e5:5+4*j+4=5+4*(j+1):=by omega
      rw [e5] at hR1
      clear e5;go_roundw
      case rel=>exact ⟨j+1,by omega,by go_num,k1,hR1.setCellO _ _ r1 r2,(hT0.trans ht1).setCellO _ _ (by show w.heap.size≤w.heap.size+1;omega) r1,hH0.setOther2 _ _ (by show w.heap.size≠w.heap.size+1;omega),by rw [←HST.out];exact hH2⟩
      case measure=>simp [intOf];omega
    · go_wp2_with (go_at_call 134;refine h1W.mono ?_;rintro e wB (⟨hx,_⟩|⟨_,rfl,htB⟩);(exfalso;omega))
      exact al (.inr ⟨fun h=>by have:=(HOK.out.1 h).1;omega,rfl,hT0.trans htB⟩)
  · obtain rfl:j=8:=by omega
    have hP8:P.take 8++List.replicate (8 - 8) 0=P:=by rw [Nat.sub_self,List.replicate_zero,List.append_nil,List.take_of_length_le (by have:=HPL8.out;omega)]
    rw [hP8] at hG1
    clear hP8 HPS HPL HPG hf;obtain ⟨W,hWW⟩:∃q,wr=q:=⟨_,rfl⟩
    rw [hWW] at hR0 hT0 hG0 hG1 ⊢
    clear hWW;have h1W:=ho37 W hR0
    by_cases k9:38≤z.length
    rotate_left
    · go_upto_region 9 with (go_at_call 135;refine h1W.mono ?_;rintro e wB (⟨hx,_⟩|⟨_,rfl,htB⟩);(exfalso;omega))
      exact al (.inr ⟨fun h=>by have:=(HOK.out.1 h).1;omega,rfl,hT0.trans htB⟩)
    go_upto_region 9 with (go_at_call 135;refine h1W.mono ?_;rintro e w1 (⟨_,rfl,hR1,ht1⟩|⟨hx,_⟩);rotate_left;(exfalso;omega);have hH1:=hG1.took ht1 (by omega);have cj:=hH1.cell 10;rw [lW _ HPL8.out 10 (by decide)] at cj;have fj:=hH1.frozen2 10)
    have hH0:=hG0.took ht1 (by omega);have hH2:=hH1.set2 10 (.int .u8 a1);rw [lY _ HPL8.out 10 (by decide)] at hH2
    refine ae (p:=fun y=>Code.wp _ _ _ _ y) (fun W=>Rd W R base (z.drop 38)∧aW w W R base∧CellsAt W w.heap.size 33 evZ.cells∧CellsAt W (w.heap.size+1) 33 (⟨a0,s0,P,a1,0,0,false,0,0,0⟩:Ev).cells) ⟨hR1.setCellO _ _ r1 r2,(hT0.trans ht1).setCellO _ _ (by show w.heap.size≤w.heap.size+1;omega) r1,hH0.setOther2 _ _ (by show w.heap.size≠w.heap.size+1;omega),hH2⟩ ?_;clear h1W ho37 hR0 hT0 hG0 hG1 hH1 hH0 hH2 hR1 ht1 cj fj W;rintro W ⟨hR0,hT0,hG0,hG1⟩;have h1W:=hd38 W hR0
    by_cases k10:43≤z.length
    rotate_left
    · go_upto_region 10 with (go_at_call 133;refine h1W.mono ?_;rintro e wB (⟨hx,_⟩|⟨_,rfl,htB⟩);(exfalso;omega))
      exact al (.inr ⟨fun h=>by have:=(HOK.out.1 h).1;omega,rfl,hT0.trans htB⟩)
    go_upto_region 10 with (first
     |(go_at_call 133;refine h1W.mono ?_;rintro e w1 (⟨_,rfl,hR1,ht1⟩|⟨hx,_⟩);rotate_left;(exfalso;omega);have hH1:=hG1.took ht1 (by omega))
     |(refine js rfl 26 _ _ rfl _ 11 rfl rfl hH1 aH (by rw [eO _ HPL8.out];show 11+2≤17;omega) (lf a2 s2) ?_))
    have hH0:=hG0.took ht1 (by omega);have hH2:=hH1.setRow ((⟨a0,s0,P,a1,0,0,false,0,0,0⟩:Ev).cells.take 11++dotC a2 s2++(⟨a0,s0,P,a1,0,0,false,0,0,0⟩:Ev).cells.drop (11+(dotC a2 s2).length));have hH3:=hH2;rw [nG _ HPL8.out a2 s2] at hH3
    refine ae (p:=fun y=>Code.wp _ _ _ _ y) (fun W=>Rd W R base (z.drop 43)∧aW w W R base∧CellsAt W w.heap.size 33 evZ.cells∧CellsAt W (w.heap.size+1) 33 (⟨a0,s0,P,a1,a2,s2,false,0,0,0⟩:Ev).cells) ⟨hR1.setRowO _ r1 r2,(hT0.trans ht1).setRowO _ (by omega) r1,hH0.setRowOther2 _ (by omega),by first|exact hH3|(rw [nG _ HPL8.out a2 s2];exact hH3)⟩ ?_;clear h1W hd38 hR0 hT0 hG0 hG1 hH1 hH0 hH2 hH3 hR1 ht1 W;rintro W ⟨hR0,hT0,hG0,hG1⟩;have h1W:=ht43 W hR0
    by_cases k11:44≤z.length∧a3≤1
    rotate_left
    · go_upto_region 11 with (go_at_call 136;refine h1W.mono ?_;rintro e wB (⟨hx,_⟩|⟨_,rfl,htB⟩);(exact absurd hx k11))
      exact al (.inr ⟨fun h=>k11 ⟨by have:=(HOK.out.1 h).1;omega,(HOK.out.1 h).2.1⟩,rfl,hT0.trans htB⟩)
    go_upto_region 11 with (go_at_call 136;refine h1W.mono ?_;rintro e w1 (⟨_,rfl,hR1,ht1⟩|⟨hx,_⟩);rotate_left;(exact absurd k11 hx);have hH1:=hG1.took ht1 (by omega);have cj:=hH1.cell 13;rw [lW _ HPL8.out 13 (by decide)] at cj;have fj:=hH1.frozen2 13)
    have hH0:=hG0.took ht1 (by omega);have hH2:=hH1.set2 13 (.bool (a3==1));rw [lY _ HPL8.out 13 (by decide)] at hH2
    refine ae (p:=fun y=>Code.wp _ _ _ _ y) (fun W=>Rd W R base (z.drop 44)∧aW w W R base∧CellsAt W w.heap.size 33 evZ.cells∧CellsAt W (w.heap.size+1) 33 (⟨a0,s0,P,a1,a2,s2,a3==1,0,0,0⟩:Ev).cells) ⟨hR1.setCellO _ _ r1 r2,(hT0.trans ht1).setCellO _ _ (by show w.heap.size≤w.heap.size+1;omega) r1,hH0.setOther2 _ _ (by show w.heap.size≠w.heap.size+1;omega),hH2⟩ ?_;clear h1W ht43 hR0 hT0 hG0 hG1 hH1 hH0 hH2 hR1 ht1 cj fj W;rintro W ⟨hR0,hT0,hG0,hG1⟩;have h1W:=ho44 W hR0
    by_cases k12:45≤z.length
    rotate_left
    · go_upto_region 12 with (go_at_call 135;refine h1W.mono ?_;rintro e wB (⟨hx,_⟩|⟨_,rfl,htB⟩);(exfalso;omega))
      exact al (.inr ⟨fun h=>by have:=(HOK.out.1 h).1;omega,rfl,hT0.trans htB⟩)
    go_upto_region 12 with (go_at_call 135;refine h1W.mono ?_;rintro e w1 (⟨_,rfl,hR1,ht1⟩|⟨hx,_⟩);rotate_left;(exfalso;omega);have hH1:=hG1.took ht1 (by omega);have cj:=hH1.cell 14;rw [lW _ HPL8.out 14 (by decide)] at cj;have fj:=hH1.frozen2 14)
    have hH0:=hG0.took ht1 (by omega);have hH2:=hH1.set2 14 (.int .u8 a4);rw [lY _ HPL8.out 14 (by decide)] at hH2
    refine ae (p:=fun y=>Code.wp _ _ _ _ y) (fun W=>Rd W R base (z.drop 45)∧aW w W R base∧CellsAt W w.heap.size 33 evZ.cells∧CellsAt W (w.heap.size+1) 33 (⟨a0,s0,P,a1,a2,s2,a3==1,a4,0,0⟩:Ev).cells) ⟨hR1.setCellO _ _ r1 r2,(hT0.trans ht1).setCellO _ _ (by show w.heap.size≤w.heap.size+1;omega) r1,hH0.setOther2 _ _ (by show w.heap.size≠w.heap.size+1;omega),hH2⟩ ?_;clear h1W ho44 hR0 hT0 hG0 hG1 hH1 hH0 hH2 hR1 ht1 cj fj W;rintro W ⟨hR0,hT0,hG0,hG1⟩;have h1W:=ho45 W hR0
    by_cases k13:46≤z.length
    rotate_left
    · go_upto_region 13 with (go_at_call 135;refine h1W.mono ?_;rintro e wB (⟨hx,_⟩|⟨_,rfl,htB⟩);(exfalso;omega))
      exact al (.inr ⟨fun h=>by have:=(HOK.out.1 h).1;omega,rfl,hT0.trans htB⟩)
    go_upto_region 13 with (go_at_call 135;refine h1W.mono ?_;rintro e w1 (⟨_,rfl,hR1,ht1⟩|⟨hx,_⟩);rotate_left;(exfalso;omega);have hH1:=hG1.took ht1 (by omega);have cj:=hH1.cell 15;rw [lW _ HPL8.out 15 (by decide)] at cj;have fj:=hH1.frozen2 15)
    have hH0:=hG0.took ht1 (by omega);have hH2:=hH1.set2 15 (.int .u8 a5);rw [lY _ HPL8.out 15 (by decide)] at hH2
    refine ae (p:=fun y=>Code.wp _ _ _ _ y) (fun W=>Rd W R base (z.drop 46)∧aW w W R base∧CellsAt W w.heap.size 33 evZ.cells∧CellsAt W (w.heap.size+1) 33 (⟨a0,s0,P,a1,a2,s2,a3==1,a4,a5,0⟩:Ev).cells) ⟨hR1.setCellO _ _ r1 r2,(hT0.trans ht1).setCellO _ _ (by show w.heap.size≤w.heap.size+1;omega) r1,hH0.setOther2 _ _ (by show w.heap.size≠w.heap.size+1;omega),hH2⟩ ?_;clear h1W ho45 hR0 hT0 hG0 hG1 hH1 hH0 hH2 hR1 ht1 cj fj W;rintro W ⟨hR0,hT0,hG0,hG1⟩;have h1W:=ho46 W hR0
    by_cases k14:47≤z.length
    rotate_left
    · go_upto_region 14 with (go_at_call 135;refine h1W.mono ?_;rintro e wB (⟨hx,_⟩|⟨_,rfl,htB⟩);(exfalso;omega))
      exact al (.inr ⟨fun h=>by have:=(HOK.out.1 h).1;omega,rfl,hT0.trans htB⟩)
    go_upto_region 14 with (go_at_call 135;refine h1W.mono ?_;rintro e w1 (⟨_,rfl,hR1,ht1⟩|⟨hx,_⟩);rotate_left;(exfalso;omega);have hH1:=hG1.took ht1 (by omega);have cj:=hH1.cell 16;rw [lW _ HPL8.out 16 (by decide)] at cj;have fj:=hH1.frozen2 16)
    have hH0:=hG0.took ht1 (by omega);have hH2:=hH1.set2 16 (.int .u8 a6);rw [lY _ HPL8.out 16 (by decide)] at hH2
    refine ae (p:=fun y=>Code.wp _ _ _ _ y) (fun W=>Rd W R base (z.drop 47)∧aW w W R base∧CellsAt W w.heap.size 33 evZ.cells∧CellsAt W (w.heap.size+1) 33 (⟨a0,s0,P,a1,a2,s2,a3==1,a4,a5,a6⟩:Ev).cells) ⟨hR1.setCellO _ _ r1 r2,(hT0.trans ht1).setCellO _ _ (by show w.heap.size≤w.heap.size+1;omega) r1,hH0.setOther2 _ _ (by show w.heap.size≠w.heap.size+1;omega),hH2⟩ ?_;clear h1W ho46 hR0 hT0 hG0 hG1 hH1 hH0 hH2 hR1 ht1 cj fj W;rintro W ⟨hR0,hT0,hG0,hG1⟩;have h1W:=hzr W hR0
    by_cases kz:58≤z.length∧∀j,j<11→at1 z (47+j)=0
    · have hzc:11≤(z.drop 47).length∧∀j,j<11→(z.drop 47)[j]?.getD 0=0:=⟨by rw [List.length_drop];omega,fun j hj=>by rw [lj];exact kz.2 j hj⟩
      have HZ:ac (11≤(z.drop 47).length∧∀j,j<11→(z.drop 47)[j]?.getD 0=0):=⟨hzc⟩
      have HKZ:ac (58≤z.length∧∀j,j<11→at1 z (47+j)=0):=⟨kz⟩
      clear hzc kz;go_upto_region 15 with (go_at_call 137;refine h1W.mono ?_;rintro e w1 (⟨_,⟨r1',rfl⟩,hR1,ht1⟩|⟨hx,_⟩);rotate_left;(exact absurd HZ.out hx))
      have hH1:=hG1.took ht1 (by omega);have hH0:=hG0.took ht1 (by omega);rw [←HEV.out] at hH1
      have hT1:=hT0.trans ht1;have hel:EV.cells.length=17:=by rw [HEV.out];exact eO _ HPL8.out
      have hiE:(Tryz.prog.info? 33).map (·.size)=some EV.cells.length:=by rw [hel];exact o0
      have hlE:evZ.cells.length=EV.cells.length:=by rw [hel];rfl
      have h1E:=dh EV;rw [List.drop_drop] at hR1
      have rE:=hH1.whole2;clear h1W hzr hR0 hT0 hG0 hG1 ht1 hel
      go_wp2_with (first
       |(refine af rfl 33 _ rfl _ _ rfl EV.cells rE Tryz.underlying33 rfl hiE ?_)
       |(refine aq rfl 33 _ _ rfl _ rfl rfl hH0 hiE hlE h1E ?_))
      refine bodyPost_ret (results_cell_row (Tryz.results97) _ _ _ _ _ (0,0) _ rfl (hH0.setRow EV.cells) Tryz.underlying33 rfl (by rw [hiE];simp)) rfl ?_;exact .inl ⟨HOK.out.2 ⟨HKZ.out.1,k11.2,HKZ.out.2⟩,rfl,hR1.setRowO _ hsz r3,hT1.setRowO _ (Nat.le_refl _) hsz⟩
    · have hzc:¬(11≤(z.drop 47).length∧∀j,j<11→(z.drop 47)[j]?.getD 0=0):=fun h=>kz ⟨by have:=h.1;rw [List.length_drop] at this;omega,fun j hj=>by have:=h.2 j hj;rw [lj] at this;exact this⟩
      have HZ:ac (¬(11≤(z.drop 47).length∧∀j,j<11→(z.drop 47)[j]?.getD 0=0)):=⟨hzc⟩
      have HKZ:ac (¬(58≤z.length∧∀j,j<11→at1 z (47+j)=0)):=⟨kz⟩
      clear hzc kz;go_upto_region 15 with (go_at_call 137;refine h1W.mono ?_;rintro e wB (⟨hx,_⟩|⟨_,rfl,htB⟩);(exact absurd hx HZ.out))
      exact al (.inr ⟨fun h=>HKZ.out ⟨(HOK.out.1 h).1,(HOK.out.1 h).2.2⟩,rfl,hT0.trans htB⟩)
end Go.Proofs.YtbdhfbglagdiaaaGreatDoor
