/- Wo3 Ft1 -/
import Derived.Test.YtbdhfbglagdiaaaGreatDoorJ33
import Derived.Test.YtbdhfbglagdiaaaGreatDoorJ27
import Derived.Test.YtbdhfbglagdiaaaGreatDoorJ29
import Derived.Test.YtbdhfbglagdiaaaGreatDoorJ32
import Derived.Test.YtbdhfbglagdiaaaGreatDoorJ31
namespace Go.Proofs.YtbdhfbglagdiaaaGreatDoor
open Go.RowKit
set_option maxRecDepth 20000
set_option maxHeartbeats 8000000
set_option linter.unusedSimpArgs false
theorem kL (F:Fr) (xw:Option Addr) (lw cw:Nat) (ws:List Wp) (w:World) (hp:F.prev.length=32) (hm:F.mac.length=32) (hfw:F.wraps=.slice xw lw cw) (hws:WrapsAt w xw lw cw ws) (h1:lw≤64):
    Calls Tryz.prog 44 #[.agg F.cells.toArray] w fun e w'=>∃v,e=.returned v∧aq w' w.heap.size v (aP F ws)∧Below w.heap.size w w':=by
 have HP:ac (F.cells.length=70∧F.cells[0]?=some (.int .u8 F.author)∧F.cells[1]?=some (.int .u32 F.number)∧(F.cells.drop 2).take 2=dotC F.ea F.es∧(F.cells.drop 4).take 32=F.prev.map (Value.int .u8)∧F.cells[36]?=some F.wraps∧F.cells[37]?=some F.body∧(F.cells.drop 38).take 32=F.mac.map (Value.int .u8)):=⟨aH F hp hm⟩
 have HPL:ac (F.prev.length=32):=⟨hp⟩
 have HWS:ac (∀wx,Below w.heap.size w wx→WrapsAt wx xw lw cw ws):=⟨fun wx h=>hws.below h⟩
 have HFW:ac (F.wraps=.slice xw lw cw):=⟨hfw⟩
 have HLW:ac (lw=ws.length):=⟨hws.len_eq⟩
 have HOK:ac (∀e∈ws,e.data.length=48):=⟨hws.ok⟩
 have hcw:=hws.le;have htw:=hws.top;have hD0:=CellsAt.new w 43 F.cells;have hB0:Below w.heap.size w (w.alloc (.cells F.cells.toArray 43)):=(Below.refl _ _).alloc (Nat.le_refl _) _;have h1':¬(lw:Int)>64:=by omega
 have c36:=hD0.cell 36;rw [HP.out.2.2.2.2.2.1,HFW.out] at c36
 have uD:=Tryz.underlying26;have iD:=sizeDot;clear hfw hp hm hws;go_enter Tryz.func44,Tryz.ntmps44;go_upto_region 3 with fail
 refine af (p:=fun y=>Code.wp _ _ _ _ y) (fun W0=>Below w.heap.size w W0∧CellsAt W0 w.heap.size 43 F.cells) ⟨hB0,hD0⟩ ?_;clear hB0 hD0 c36;rintro W0 ⟨hB0,hD0⟩;have c0:W0.cell? ⟨w.heap.size,0,none⟩=some (.int .u8 F.author):=by rw [hD0.cell];exact HP.out.2.1
 have hO0:=(aq.newW W0 [69,83,F.author] (by simp)).lessG hB0.size;go_upto_region 4 with fail
 refine af (p:=fun y=>Code.wp _ _ _ _ y) (fun W1=>Below w.heap.size w W1∧CellsAt W1 w.heap.size 43 F.cells∧aq W1 w.heap.size (.slice (some ⟨W0.heap.size,0,none⟩) 3 3) [69,83,F.author]) ⟨hB0.alloc hB0.size _,hD0.alloc _,hO0⟩ ?_;obtain ⟨G0,hG0⟩:∃q,W0.heap.size=q:=⟨_,rfl⟩
 rw [hG0];clear c0 hO0 hB0 hD0 hG0;rintro W1 ⟨hB1,hD1,hO1⟩;have hl1:([69,83,F.author]:List Int).length≤1000:=by simp
 obtain ⟨L1,hL1⟩:∃q,([69,83,F.author]:List Int)=q:=⟨_,rfl⟩
 have HL1:ac (([69,83,F.author]:List Int)=L1):=⟨hL1⟩
 rw [hL1] at hO1 hl1
 have c1:W1.cell? ⟨w.heap.size,1,none⟩=some (.int .u32 F.number):=by rw [hD1.cell];exact HP.out.2.2.1
 have hf1:=gX F.number W1;have hfl:=dE F.number;obtain ⟨N4,hN4⟩:∃q,be4 F.number=q:=⟨_,rfl⟩
 have HN4:ac (be4 F.number=N4):=⟨hN4⟩
 rw [hN4] at hf1 hfl
 clear hL1 hN4;go_upto_region 5 with (first
  |(go_at_call 88;refine hf1.mono ?_;rintro e w2 ⟨v2,rfl,ho2,hb2⟩;obtain ⟨x2,n2,c2,rfl,hn2⟩:=ho2.isSlice;have hy2:=ho2.bytes.2;rw [hfl] at hn2;subst hn2;have hO2:=hO1.afarW hb2;have hB2:=hB1.trans (hb2.mono hB1.size))
  |(at_builtin;refine aF rfl _ _ rfl w.heap.size _ L1 rfl hO2 x2 4 c2 N4 rfl hy2 (by omega) hB2.size ?_;intro v3 w3 ho3 hg3))
 have hD3:=(hD1.afar hb2).grown hO2 hg3 (by decide);have hB3:Below w.heap.size w w3:=below_grown hB2 hO2 hg3 hB2.size;have hl3:(L1++N4).length≤1004:=by rw [List.length_append];omega
 obtain ⟨L3,hL3⟩:∃q,L1++N4=q:=⟨_,rfl⟩
 have HL3:ac (L1++N4=L3):=⟨hL3⟩
 rw [hL3] at ho3 hl3
 clear hL3 hg3 hO2 hB2 hy2 ho2 hb2 c1 hf1 hB1 hD1 hO1 hfl hl1;have kD:∀w',CellsAt w' w.heap.size 43 F.cells→w'.rangeAt w.heap.size 2 (dotC F.ea F.es):=fun w' h=>by
  have:=h.range 2 2;rw [HP.out.2.2.2.1] at this
  exact this
 have kP:∀w',CellsAt w' w.heap.size 43 F.cells→Bytes w' (some ⟨w.heap.size,4,none⟩) 32 32 F.prev:=fun w' h=>by
  have:=h.range 4 32;rw [HP.out.2.2.2.2.1] at this
  exact fe this HPL.out.symm (by rw [HPL.out];omega)
 have hdt:=fun wx=>gB F.ea F.es wx
 have hdl:=bI F.ea F.es;obtain ⟨DL,hDL⟩:∃q,ei F.ea F.es=q:=⟨_,rfl⟩
 have HDL:ac (ei F.ea F.es=DL):=⟨hDL⟩
 rw [hDL] at hdt hdl
 clear hDL;refine ag (fun w'=>w'.rangeAt w.heap.size 2 (dotC F.ea F.es)) 8 (by kernel_rfl) ?_;obtain ⟨D0,hD0⟩:∃q,w3.drew=q:=⟨_,rfl⟩
 have hb0:Below w3.heap.size w3 D0:=by rw [←hD0];exact (Below.refl _ _).drew
 rw [hD0];have hB4:=hB3.trans (hb0.mono hB3.size);have hD4:=hD3.afar hb0;have hO4:=ho3.afarW hb0;clear hD0 hb0 hB3 hD3 ho3;have hS:=kD _ hD4;refine gaA 0 _ hS ?_;simp only [zp];refine gaA 1 _ hS ?_;simp only [zp];refine zg 2 20 26 19 w.heap.size 2 (dotC F.ea F.es) hS (fun _ h=>h) uD iD ?_;simp only [zp];refine gaA 5 _ hS ?_;simp only [zp];refine gaA 6 _ hS ?_;simp only [zp];refine zw 3 fun K hK=>?_
 go_wp2_with (go_at_call 87;refine (hdt _).mono ?_;rintro e w5 ⟨v5,rfl,ho5,hb5⟩)
 obtain ⟨x5,n5,c5,rfl,hn5⟩:=ho5.isSlice;have hy5:=ho5.bytes.2;rw [hdl] at hn5
 subst hn5;have hO5:=hO4.afarW hb5;have hD5:=hD4.afar hb5;have hB5:=hB4.trans (hb5.mono hB4.size);clear hO4 hD4 hB4 hb5 ho5;replace hS:=kD _ hD5;refine hK.out _ _ (fun _=>hS) ?_;clear hK K;refine zw 4 fun K hK=>?_
 refine dV _ _ rfl w.heap.size _ L3 rfl hO5 x5 5 c5 DL rfl hy5 (by omega) hB5.size ?_;intro v6 w6 ho6 hg6;have hD6:=hD5.grown hO5 hg6 (by decide);have hB6:Below w.heap.size w w6:=below_grown hB5 hO5 hg6 hB5.size;replace hS:=kD _ hD6;clear hg6 hO5 hD5 hB5 hy5;refine hK.out _ _ (fun _=>hS) ?_;clear hK K;refine zw 7 fun K hK=>?_
 refine dV _ _ rfl w.heap.size _ (L3++DL) rfl ho6 (some ⟨w.heap.size,4,none⟩) 32 32 F.prev rfl (kP _ hD6) (by rw [List.length_append];omega) hB6.size ?_;intro v7 w7 ho7 hg7;have hD7:=hD6.grown ho6 hg7 (by decide);have hB7:Below w.heap.size w w7:=below_grown hB6 ho6 hg7 hB6.size;replace hS:=kD _ hD7;clear hg7 ho6 hD6 hB6;refine hK.out _ _ (fun _=>hS) ?_;clear hK K;refine zw 8 fun K hK=>?_
 go_simp;refine hK.out _ _ zn ?_;clear hK K;refine al (by kernel_rfl) ?_ _;have hl7:(L3++DL++F.prev).length≤1100:=by rw [List.length_append,List.length_append,HPL.out];omega
 obtain ⟨L7,hL7⟩:∃q,L3++DL++F.prev=q:=⟨_,rfl⟩
 have HL7:ac (L3++DL++F.prev=L7):=⟨hL7⟩
 rw [hL7] at ho7 hl7
 clear hL7 hS kD kP hdt;have c36:w7.cell? ⟨w.heap.size,36,none⟩=some (.slice xw lw cw):=by rw [hD7.cell,←HFW.out];exact HP.out.2.2.2.2.2.1
 have hwr:IntKind.u8.wrap (lw:Int)=(lw:Int):=by rw [IntKind.wrap_u8];omega
 have hO8:aq (w7.alloc (.cells (row .u8 [(lw:Int)]) 5)) w.heap.size v7 L7:=ho7.alloc _;have hD8:=hD7.alloc (.cells (row .u8 [(lw:Int)]) 5);have hB8:=hB7.alloc hB7.size (.cells (row .u8 [(lw:Int)]) 5);have hy8:=br w7 [(lw:Int)] (by simp);go_upto_region 7 with (at_builtin;refine aF rfl _ _ rfl w.heap.size _ L7 rfl hO8 (some ⟨w7.heap.size,0,none⟩) 1 1 [(lw:Int)] rfl hy8 (by omega) hB8.size ?_;intro v9 w9 ho9 hg9)
 have hD9:=hD8.grown hO8 hg9 (by decide);have hB9:Below w.heap.size w w9:=below_grown hB8 hO8 hg9 hB8.size;have hl9:(L7++ [(lw:Int)]).length≤1101:=by rw [List.length_append];simp;omega
 obtain ⟨L9,hL9⟩:∃q,L7++ [(lw:Int)]=q:=⟨_,rfl⟩
 have HL9:ac (L7++ [(lw:Int)]=L9):=⟨hL9⟩
 rw [hL9] at ho9 hl9
 clear hL9 hg9 hO8 hD8 hB8 hy8 hwr c36 hB7 hD7 ho7
 go_wp2_with fail
 go_loopw [3,4] (fun v q wr=>∃j:Nat,j≤lw∧q=.int .i64 j∧aq wr w.heap.size v (L9++bR (ws.take j))∧CellsAt wr w.heap.size 43 F.cells∧Below w.heap.size w wr) (fun _ q _=>lw - (intOf q).toNat)
 case atStart=>exact ⟨0,by omega,rfl,by simpa [bR] using ho9,hD9,hB9⟩
 case round=>
  clear ho9 hD9 hB9;obtain ⟨j,hj,rfl,hO1,hD1,hB1⟩:=hrel;obtain ⟨x1,n1,c1,hv1,hn1⟩:=hO1.isSlice;subst hv1;clear hn1;have hlen:(bR (ws.take j)).length≤54*64:=by
   rw [kf _ (fun e he=>HOK.out e (List.mem_of_mem_take he)),List.length_take];omega
  have c36:wr.cell? ⟨w.heap.size,36,none⟩=some (.slice xw lw cw):=by rw [hD1.cell,←HFW.out];exact HP.out.2.2.2.2.2.1
  by_cases hlt:j<lw
  · have hjw:j<ws.length:=by have:=HLW.out;omega
    obtain ⟨b,off,hx,hrg⟩:∃b off,xw=some ⟨b,off,none⟩∧∀j (hj:j<ws.length),wr.rangeAt b (off+j*51) (ws[j]).cells:=by
     rcases (HWS.out wr hB1).at_ with h0|h
     · omega
     · exact h
    subst hx;have hr:=hrg j hjw;have hts:=ky ws j hjw;have hok:=HOK.out ws[j] (List.getElem_mem hjw);obtain ⟨E,hE⟩:∃q,ws[j]=q:=⟨_,rfl⟩
    rw [hE] at hr hts hok
    have HTS:ac (L9++bR (ws.take j)++jF E=L9++bR (ws.take (j+1))):=⟨by rw [hts,List.append_assoc]⟩
    obtain ⟨q1,q2,q3,q4,q5⟩:=wp_parts E hok;have HQ:ac (E.cells[0]?=some (.int .u8 E.too)∧(E.cells.drop 1).take 2=dotC E.ea E.es∧(E.cells.drop 3).take 48=E.data.map (Value.int .u8)):=⟨q2,q3,q4⟩
    have HOKE:ac (E.data.length=48):=⟨hok⟩
    have hsW:=hB1.size;have hltF:=hD1.lt;have hl6:(L9++bR (ws.take j)).length≤1100000:=by rw [List.length_append];omega
    obtain ⟨A,hA⟩:∃q,L9++bR (ws.take j)=q:=⟨_,rfl⟩
    rw [hA] at hO1 HTS hl6
    have hZ0:CellsAt (wr.alloc (.cells dZ.toArray 68)) wr.heap.size 68 dZ:=CellsAt.new wr 68 dZ;have hj0:(0:Int)≤(j:Int):=by omega
    have hjl:(j:Int)<(lw:Int):=by omega
    have hiW:(Tryz.prog.info? 68).map (·.size)=some E.cells.length:=by rw [q1];exact jP
    have hzl:dZ.length=E.cells.length:=by rw [q1];rfl
    clear hrg hts hE hA q1 q2 q3 q4 hlen hjw hok;go_upto_region 11 with (first
     |(refine ae rfl 68 _ rfl _ _ rfl E.cells hr Tryz.underlying68 rfl hiW ?_)
     |(refine aw rfl 68 _ _ rfl _ rfl rfl hZ0 hiW hzl q5 ?_))
    have hD2:CellsAt ((wr.alloc (.cells dZ.toArray 68)).setRow wr.heap.size E.cells.toArray) w.heap.size 43 F.cells:=by
     have:=hD1.alloc (.cells dZ.toArray 68);unfold CellsAt at this ⊢
     rw [setRow_other _ _ _ _ (by omega)];exact this
    have hO2:aq ((wr.alloc (.cells dZ.toArray 68)).setRow wr.heap.size E.cells.toArray) w.heap.size (.slice x1 n1 c1) A:=by
     refine (hO1.alloc (.cells dZ.toArray 68)).keepT hZ0 (by decide) (fun g hg=>setRow_other _ _ _ _ hg)
    refine af (p:=fun y=>Code.wp _ _ _ _ y) (fun W1=>Below w.heap.size w W1∧aq W1 w.heap.size (.slice x1 n1 c1) A∧CellsAt W1 w.heap.size 43 F.cells∧CellsAt W1 wr.heap.size 68 E.cells) ⟨below_setRow (hB1.alloc hsW _) hsW _,hO2,hD2,hZ0.setRow _⟩ ?_;obtain ⟨G,hG⟩:∃q,wr.heap.size=q:=⟨_,rfl⟩
    rw [hG] at hsW hltF ⊢
    clear hZ0 hO2 hD2 hr hiW hzl q5 hG hO1 hD1 hB1 c36;rintro W1 ⟨hB1,hO1,hD1,hE1⟩;have kW:∀w',CellsAt w' G 68 E.cells→w'.cell? ⟨G,0,none⟩=some (.int .u8 E.too)∧w'.rangeAt G 1 (dotC E.ea E.es):=fun w' h=>by
     have:=h.range 1 2;rw [HQ.out.2.1] at this
     exact ⟨by rw [h.cell];exact HQ.out.1,this⟩
    have kP:∀w',CellsAt w' G 68 E.cells→Bytes w' (some ⟨G,3,none⟩) 48 48 E.data:=fun w' h=>by
     have:=h.range 3 48;rw [HQ.out.2.2] at this
     exact fe this HOKE.out.symm (by rw [HOKE.out];omega)
    have hdt:=fun wx=>gB E.ea E.es wx
    have hdl2:=bI E.ea E.es;have HWL:ac ([E.too]++ei E.ea E.es++E.data=jF E):=⟨rfl⟩
    obtain ⟨DL2,hDL2⟩:∃q,ei E.ea E.es=q:=⟨_,rfl⟩
    rw [hDL2] at hdt hdl2 HWL
    clear hDL2;refine ag (fun w'=>w'.cell? ⟨G,0,none⟩=some (.int .u8 E.too)∧w'.rangeAt G 1 (dotC E.ea E.es)) 12 (by kernel_rfl) ?_;obtain ⟨D0,hD0⟩:∃q,W1.drew=q:=⟨_,rfl⟩
    have hb0:Below W1.heap.size W1 D0:=by rw [←hD0];exact (Below.refl _ _).drew
    rw [hD0];have hB2:=hB1.trans (hb0.mono hB1.size);have hD2:=hD1.afar hb0;have hE2:=hE1.afar hb0;have hO2:=hO1.afarW hb0;clear hD0 hb0 hB1 hD1 hE1 hO1;have hS:=kW _ hE2;refine gaA 0 _ hS ?_;simp only [zp];refine gaA 1 _ hS ?_;simp only [zp];refine grA 2 _ hS ?_;simp only [zp];refine gaA 5 _ hS ?_;simp only [zp];refine zg 6 51 26 50 G 1 (dotC E.ea E.es) hS (fun _ h=>h.2) uD iD ?_;simp only [zp];refine gaA 9 _ hS ?_;simp only [zp];refine gaA 10 _ hS ?_;simp only [zp];refine zw 3 fun K hK=>?_
    go_simp;have hO3:=hO2.alloc (.cells (row .u8 [E.too]) 5);have hD3:=hD2.alloc (.cells (row .u8 [E.too]) 5);have hE3:=hE2.alloc (.cells (row .u8 [E.too]) 5);have hB3:=hB2.alloc hB2.size (.cells (row .u8 [E.too]) 5);have hy3:=br D0 [E.too] (by simp);replace hS:=kW _ hE3;refine hK.out _ _ (fun _=>hS) ?_;clear hK K;obtain ⟨G3,hG3⟩:∃q,D0.heap.size=q:=⟨_,rfl⟩
    obtain ⟨U3,hU3⟩:∃q,D0.alloc (.cells (row .u8 [E.too]) 5)=q:=⟨_,rfl⟩
    have hc3:D0.alloc (.cells #[.int .u8 E.too] 5)=U3:=hU3;rw [hU3] at hO3 hD3 hE3 hB3 hy3
    rw [hG3] at hy3
    rw [hc3,hG3];clear hU3 hc3 hG3 hO2 hD2 hE2 hB2;refine zw 4 fun K hK=>?_
    refine dV _ _ rfl w.heap.size _ A rfl hO3 (some ⟨G3,0,none⟩) 1 1 [E.too] rfl hy3 (by omega) hB3.size ?_;intro v4 w4 ho4 hg4;have hD4:=hD3.grown hO3 hg4 (by decide);have hE4:=hE3.grown hO3 hg4 (by decide);have hB4:Below w.heap.size w w4:=below_grown hB3 hO3 hg4 hB3.size;replace hS:=kW _ hE4;clear hg4 hO3 hD3 hB3 hE3 hy3;refine hK.out _ _ (fun _=>hS) ?_;clear hK K;refine zw 7 fun K hK=>?_
    go_wp2_with (go_at_call 87;refine (hdt _).mono ?_;rintro e w5 ⟨v5,rfl,ho5,hb5⟩)
    obtain ⟨x5,n5,c5,rfl,hn5⟩:=ho5.isSlice;have hy5:=ho5.bytes.2;rw [hdl2] at hn5
    subst hn5;have hO5:=ho4.afarW hb5;have hD5:=hD4.afar hb5;have hE5:=hE4.afar hb5;have hB5:=hB4.trans (hb5.mono hB4.size);clear ho4 hD4 hB4 hE4 hb5 ho5;replace hS:=kW _ hE5;refine hK.out _ _ (fun _=>hS) ?_;clear hK K;refine zw 8 fun K hK=>?_
    refine dV _ _ rfl w.heap.size _ (A++ [E.too]) rfl hO5 x5 5 c5 DL2 rfl hy5 (by rw [List.length_append];simp;omega) hB5.size ?_;intro v6 w6 ho6 hg6;have hD6:=hD5.grown hO5 hg6 (by decide);have hE6:=hE5.grown hO5 hg6 (by decide);have hB6:Below w.heap.size w w6:=below_grown hB5 hO5 hg6 hB5.size;replace hS:=kW _ hE6;clear hg6 hO5 hD5 hB5 hE5 hy5;refine hK.out _ _ (fun _=>hS) ?_;clear hK K;refine zw 11 fun K hK=>?_
    refine dV _ _ rfl w.heap.size _ (A++ [E.too]++DL2) rfl ho6 (some ⟨G,3,none⟩) 48 48 E.data rfl (kP _ hE6) (by rw [List.length_append,List.length_append];simp;omega) hB6.size ?_;intro v7 w7 ho7 hg7;have hD7:=hD6.grown ho6 hg7 (by decide);have hE7:=hE6.grown ho6 hg7 (by decide);have hB7:Below w.heap.size w w7:=below_grown hB6 ho6 hg7 hB6.size;replace hS:=kW _ hE7;clear hg7 ho6 hD6 hB6 hE6;refine hK.out _ _ (fun _=>hS) ?_;clear hK K;refine zw 12 fun K hK=>?_
    go_simp;refine hK.out _ _ zn ?_;clear hK K;refine al (by kernel_rfl) ?_ _;have ho8:aq w7 w.heap.size v7 (L9++bR (ws.take (j+1))):=by
     rw [←HTS.out,←HWL.out];simp only [List.append_assoc] at ho7 ⊢
     exact ho7
    clear ho7 hS hE7 kW kP;go_wp2;go_roundw
    case rel=>exact ⟨j+1,by omega,by go_num,ho8,hD7,hB7⟩
    case measure=>simp [intOf];omega
  · obtain rfl:j=lw:=by omega
    have HA:ac (ws.take j=ws):=⟨List.take_of_length_le (by have:=HLW.out;omega)⟩
    rw [HA.out] at hO1
    go_wp2;go_ret;refine ⟨_,rfl,?_,hB1⟩;rw [←HL9.out,←HL7.out,←HL3.out,←HL1.out,←HN4.out,←HDL.out,HLW.out] at hO1
    unfold aP;simp only [List.append_assoc] at hO1 ⊢
    exact hO1
section
variable (base O:Nat) (own:Int) (seed:List Int) (v:Value) (L:List Ep) (w:World)
theorem t9 (hR:bw w base O own seed v L) (F:Fr) (xw:Option Addr) (lw cw:Nat) (ws:List Wp) (xb:Option Addr) (lb cb:Nat) (body:List Int) (hF:lg w F xw lw cw ws xb lb cb body) (hl:lw≤64) (hlb:lb≤5000):
    Calls Tryz.prog 45 #[.pointer (some ⟨O,0,none⟩),.agg F.cells.toArray] w fun e w'=>e=.returned (.agg (row .u8 (ftagL seed F ws body)))∧Below w.heap.size w w':=by
 obtain ⟨f70,f0,_,_,_,_,f37,_⟩:=aH F hF.prev hF.mac;rw [hF.body_] at f37
 have iF:(Tryz.prog.info? 43).map (·.size)=some F.cells.length:=by rw [f70];exact bU
 obtain ⟨Z,hZl,hZ⟩:∃Z:List Int,Z.length=32∧Z=List.replicate 32 0:=⟨_,rfl,rfl⟩
 have hzv:∀wx,(zeroValue 23).run Tryz.prog wx=.ok (.agg (row .u8 Z)) wx:=fun wx=>by rw [hZ];kernel_rfl
 have hz1:¬(row .u8 Z)= #[]:=by intro h;have:=congrArg Array.size h;rw [bc] at this;simp at this;rw [this] at hZl;simp at hZl
 clear hZ;have hA0:=(CellsAt.new w 43 F.cells).alloc (.cells (row .u8 Z) 23);have hZ0:=aa.new (w.alloc (.cells F.cells.toArray 43)) .u8 23 Z;rw [World.size_alloc] at hZ0
 have hB0:Below w.heap.size w ((w.alloc (.cells F.cells.toArray 43)).alloc (.cells (row .u8 Z) 23)):=((Below.refl _ _).alloc (Nat.le_refl _) _).alloc (by simp) _;have HMK:ac (∀W,Below w.heap.size w W→Calls Tryz.prog 93 #[.pointer (some ⟨O,0,none⟩),.int .u8 F.author] W fun e w'=>e=.returned (.agg (row .u8 (gH seed F.author)))∧Below W.heap.size W w'):=⟨fun W hb=>qs O own seed v W F.author (hR.far hb).box hR.seed32⟩
 have HOP:ac (∀W,Below w.heap.size w W→Calls Tryz.prog 44 #[.agg F.cells.toArray] W fun e w'=>∃v,e=.returned v∧aq w' W.heap.size v (aP F ws)∧Below W.heap.size W w'):=⟨fun W hb=>kL F xw lw cw ws W hF.prev hF.mac hF.wraps (hF.hw.below hb) hl⟩
 have HBY:ac (∀W,Below w.heap.size w W→Bytes W xb lb cb body):=⟨fun W hb=>hF.hb.below hb⟩
 have hol:(aP F ws).length≤4000:=by
  rw [dj F ws hF.prev hF.hw.ok];have:=hF.hw.len_eq;omega
 have HBL:ac (body.length≤5000):=⟨by have:=hF.hb.len_eq;omega⟩
 have hML:(gH seed F.author).length=32:=aV _ _;have HHM:ac (∀W g x n c,Below w.heap.size w W→aa W g .u8 23 (gH seed F.author)→Bytes W x n c (aP F ws++body)→n≤100000→Calls Tryz.prog 94 #[.slice (some ⟨g,0,none⟩) 32 32,.slice x n c] W fun e w'=>e=.returned (.agg (row .u8 (ftagL seed F ws body)))∧Below W.heap.size W w'):=⟨fun W g x n c hb hk hby hn=>S.refHmac_any (some ⟨g,0,none⟩) 32 32 (gH seed F.author) x n c _ W (hk.bytes (by rw [hML]) (by rw [hML];omega)).toS (by omega) hby.toS (by omega)⟩
 have hTl:=dX seed F ws body;have HTL:ac (∀q,ftagL seed F ws body=q→q=ftagL seed F ws body):=⟨fun q h=>h.symm⟩
 obtain ⟨TG,hTG⟩:∃q,ftagL seed F ws body=q:=⟨_,rfl⟩
 rw [hTG] at HHM hTl ⊢
 obtain ⟨OL,hOL⟩:∃q,aP F ws=q:=⟨_,rfl⟩
 rw [hOL] at HOP HHM hol
 obtain ⟨MK,hMK⟩:∃q,gH seed F.author=q:=⟨_,rfl⟩
 rw [hMK] at HMK HHM hML
 have HF0:ac (∀W,CellsAt W w.heap.size 43 F.cells→W.cell? ⟨w.heap.size,0,none⟩=some (.int .u8 F.author)∧W.rangeAt w.heap.size 0 F.cells∧W.cell? ⟨w.heap.size,37,none⟩=some (.slice xb lb cb)):=⟨fun W h=>⟨(h.cell 0).trans f0,h.wholeM,(h.cell 37).trans f37⟩⟩
 generalize F.author=FA at HMK HF0
 generalize F.cells=FC at hA0 hZ0 hB0 HOP HF0 iF ⊢
 clear hTG hOL hMK hF hR f70 f0 f37 HTL;have uF:=Tryz.underlying43;go_enter Tryz.func45,Tryz.ntmps45;go_upto_region 1 with fail
 refine af (p:=fun y=>Code.wp _ _ _ _ y) (fun W=>Below w.heap.size w W∧CellsAt W w.heap.size 43 FC∧aa W (w.heap.size+1) .u8 23 Z) ⟨hB0,hA0,hZ0⟩ ?_;clear hB0 hA0 hZ0;rintro W ⟨hB,hA,hZ⟩;obtain ⟨c0,-,-⟩:=HF0.out W hA;have hmk:=HMK.out W hB;go_upto_region 2 with (first
  |(go_at_call 93;refine hmk.mono ?_;rintro e w1 ⟨rfl,hb1⟩;have hk1:=aa.new w1 .u8 23 Z;clear hmk)
  |(refine ah rfl 23 _ _ rfl _ rfl rfl hk1 (by rw [hML];exact ap) (by rw [hZl,hML]) ?_))
 have hb2:Below w1.heap.size w1 ((w1.alloc (.cells (row .u8 Z) 23)).setRow w1.heap.size (row .u8 MK)):=below_setRow ((Below.refl _ _).alloc (Nat.le_refl _) _) (Nat.le_refl _) _;have hB1:=hB.trans (hb1.mono hB.size);refine af (p:=fun y=>Code.wp _ _ _ _ y) (fun V=>Below w.heap.size w V∧CellsAt V w.heap.size 43 FC∧aa V (w.heap.size+1) .u8 23 Z∧aa V w1.heap.size .u8 23 MK) ⟨hB1.trans (hb2.mono hB1.size),(hA.farM hb1).farM hb2,(hZ.below hb1 hZ.lt).below hb2 (hZ.below hb1 hZ.lt).lt,hk1.setRow _⟩ ?_;have hwZ:=(hZ.below hb1 hZ.lt).lt;clear hb2 hB1 hk1 hb1 c0 hB hA hZ HMK hzv hz1;obtain ⟨g,hg⟩:∃q,w1.heap.size=q:=⟨_,rfl⟩
 rw [hg] at hwZ ⊢
 clear hg;clear w1 W;rintro W ⟨hB,hA,hZ,hK⟩;have hBd:=hB.drew;have hAd:=hA.congr (w':=W.drew) rfl;have hb0:Below W.heap.size W W.drew:=(Below.refl _ _).drew;have hZd:=hZ.below hb0 hZ.lt;have hKd:=hK.below hb0 hK.lt;refine au (fun w'=>w'.rangeAt w.heap.size 0 FC∧w'.cell? ⟨w.heap.size,37,none⟩=some (.slice xb lb cb)) (fun _=>True) 99 (by kernel_rfl) ?_;have hT:(fun w':World=>w'.rangeAt w.heap.size 0 FC∧w'.cell? ⟨w.heap.size,37,none⟩=some (.slice xb lb cb)) W.drew:=(HF0.out _ hAd).2;have hS:=trivial;refine ghA 0 _ hT hS ?_;simp only [zp];refine ghA 3 _ hT hS ?_;simp only [zp];refine ghA 4 _ hT hS ?_;simp only [zp];refine zh 1 11 43 3 w.heap.size 0 FC hT hS (fun _ h=>h.1) uF iF ?_;simp only [zp];refine zm 2 fun K hK=>?_
 refine aC _ _ (by kernel_rfl) ((HOP.out W.drew hBd).mono ?_);rintro e w2 ⟨v2,rfl,ho2,hb2⟩;refine ⟨_,rfl,?_⟩;have hB2:=hBd.trans (hb2.mono hBd.size);have hA2:=hAd.farM hb2;have hZ2:=hZd.below hb2 hZd.lt;have hK2:=hKd.below hb2 hKd.lt;replace hT:(fun w':World=>w'.rangeAt w.heap.size 0 FC∧w'.cell? ⟨w.heap.size,37,none⟩=some (.slice xb lb cb)) w2:=(HF0.out _ hA2).2;refine hK.out _ _ hT (fun _=>hS) ?_;clear hK K
 try simp only [zp]
 refine zm 5 fun K hK=>?_
 refine dV _ _ rfl W.drew.heap.size v2 OL rfl ho2 xb lb cb body rfl (HBY.out w2 hB2) (by omega) hb2.size ?_;intro v3 w3 ho3 hg3;have hb3:Below W.drew.heap.size W.drew w3:=hb2.grown hg3 hb2.size (fun k hk=>(lz ho2 k hk));have hB3:=hBd.trans (hb3.mono hBd.size);have hA3:=hAd.farM hb3;have hZ3:=hZd.below hb3 hZd.lt;have hK3:=hKd.below hb3 hKd.lt;obtain ⟨x3,n3,c3,rfl,hn3⟩:=ho3.isSlice;replace hT:(fun w':World=>w'.rangeAt w.heap.size 0 FC∧w'.cell? ⟨w.heap.size,37,none⟩=some (.slice xb lb cb)) w3:=(HF0.out _ hA3).2;have hhm:=HHM.out w3 g x3 n3 c3 hB3 hK3 ho3.bytes.2 (by rw [hn3,List.length_append];have:=HBL.out;omega);refine hK.out _ _ hT (fun _=>hS) ?_;clear hK K
 try simp only [zp]
 refine zm 6 fun K hK=>?_
 refine aC _ _ (by kernel_rfl) (hhm.mono ?_);rintro e w4 ⟨rfl,hb4⟩;refine ⟨_,rfl,?_⟩;have hB4:=hB3.trans (hb4.mono hB3.size);have hA4:=hA3.farM hb4;have hZ4:=hZ3.below hb4 hZ3.lt;replace hT:(fun w':World=>w'.rangeAt w.heap.size 0 FC∧w'.cell? ⟨w.heap.size,37,none⟩=some (.slice xb lb cb)) w4:=(HF0.out _ hA4).2;refine hK.out _ _ hT (fun _=>hS) ?_;clear hK K
 try simp only [zp]
 refine zm 7 fun K hK=>?_
 refine fH 23 _ _ rfl (w.heap.size+1) rfl rfl hZ4 (by rw [hTl];exact ap) (by rw [hZl,hTl]) ?_;have hA5:CellsAt (w4.setRow (w.heap.size+1) (row .u8 TG)) w.heap.size 43 FC:=hA4.setRowM _ (by omega);replace hT:(fun w':World=>w'.rangeAt w.heap.size 0 FC∧w'.cell? ⟨w.heap.size,37,none⟩=some (.slice xb lb cb)) (w4.setRow (w.heap.size+1) (row .u8 TG)):=(HF0.out _ hA5).2;refine hK.out _ _ hT (fun _=>hS) ?_;clear hK K
 try simp only [zp]
 refine az (by kernel_rfl) ?_ _;have HE:ac (aa (w4.setRow (w.heap.size+1) (row .u8 TG)) (w.heap.size+1) .u8 23 TG∧Below w.heap.size w (w4.setRow (w.heap.size+1) (row .u8 TG))):=⟨hZ4.setRow _,below_setRow hB4 (by omega) _⟩
 clear hT hS hA5 hA4 hZ4 hB4 hb4 hhm ho3 hA3 hZ3 hK3 hB3 hb3 hg3 ho2 hb2 hB2 hA2 hZ2 hK2 hBd hAd hb0 hZd hKd hB hA hZ hK;go_wp2;refine bodyPost_ret (aj (Tryz.results45) _ rfl HE.out.1 Tryz.underlying23 ap hTl) rfl ⟨rfl,HE.out.2⟩
end
end Go.Proofs.YtbdhfbglagdiaaaGreatDoor
