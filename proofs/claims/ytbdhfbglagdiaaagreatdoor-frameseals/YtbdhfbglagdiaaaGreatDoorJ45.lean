/- Cv6 -/
import Derived.Test.YtbdhfbglagdiaaaGreatDoorJ27
import Derived.Test.YtbdhfbglagdiaaaGreatDoorJ02
namespace Go.Proofs.YtbdhfbglagdiaaaGreatDoor
open Go.RowKit
set_option maxRecDepth 20000
set_option maxHeartbeats 32000000
set_option linter.unusedSimpArgs false
theorem vz:(Tryz.prog.info? 26).map (·.size)=some 2:=by kernel_rfl
theorem ui (a s:Int) (w:World):
    Calls Tryz.prog 83 #[.agg (dotC a s).toArray] w fun x w'=>x=.returned (.bool ((a==0)&&(s==0)))∧Below w.heap.size w w':=by
 have h0:=CellsAt.new w 26 (dotC a s);have hB:Below w.heap.size w (w.alloc (.cells (dotC a s).toArray 26)):=(Below.refl _ _).alloc (Nat.le_refl _) _;have c0:(w.alloc (.cells (dotC a s).toArray 26)).cell? ⟨w.heap.size,0,none⟩=some (.int .u8 a):=h0.cell 0;have c1:(w.alloc (.cells (dotC a s).toArray 26)).cell? ⟨w.heap.size,1,none⟩=some (.int .u32 s):=h0.cell 1;clear h0;obtain ⟨p,hp⟩:∃p,(a==0)=p:=⟨_,rfl⟩
 obtain ⟨q,hq⟩:∃q,(s==0)=q:=⟨_,rfl⟩
 rw [hp,hq];generalize dotC a s=DC at hB c0 c1 ⊢
 cases p<;>cases q
 all_goals
  go_enter Tryz.func83,Tryz.ntmps83;go_upto_region 1 with fail
  refine af (p:=fun y=>Code.wp _ _ _ _ y) (fun W=>Below w.heap.size w W∧W.cell? ⟨w.heap.size,0,none⟩=some (.int .u8 a)∧W.cell? ⟨w.heap.size,1,none⟩=some (.int .u32 s)) ⟨hB,c0,c1⟩ ?_;clear hB c0 c1;rintro W ⟨hB,c0,c1⟩;go_wp2;go_ret;exact ⟨rfl,hB⟩
theorem qT (e:Ev) (w:World) (hp:e.past.length=8) (ha:0≤e.da) (hs:0≤e.ds) (hs2:e.ds<4294967296) (hpa:0≤e.pa) (hps:0≤e.ps):
    Calls Tryz.prog 37 #[.agg e.cells.toArray] w fun x w'=>x=.returned (.bool (rightB e))∧Below w.heap.size w w':=by
 have h0:=CellsAt.new w 33 e.cells;have hB0:Below w.heap.size w (w.alloc (.cells e.cells.toArray 33)):=(Below.refl _ _).alloc (Nat.le_refl _) _;have HNN:ac (∀W,Calls Tryz.prog 83 #[.agg (dotC e.pa e.ps).toArray] W fun x w'=>x=.returned (.bool ((e.pa==0)&&(e.ps==0)))∧Below W.heap.size W w'):=⟨fun W=>ui e.pa e.ps W⟩
 have HCH:ac (∀W,Calls Tryz.prog 84 #[.agg (e.past.map (Value.int .u32)).toArray,.agg (dotC e.pa e.ps).toArray] W fun x w'=>x=.returned (.bool (hasB e.past e.pa e.ps))∧Below W.heap.size W w'):=⟨fun W=>wJ e.past e.pa e.ps W hp hpa hps⟩
 have HRB:ac (rightB e=((decide (e.da<8)&&(!(e.ds==0)&&(decide (e.ds≤1048576)&&((e.past[e.da.toNat]?.getD 0==e.ds - 1)&&dG e.past 8))))&&(if e.kind=1 then ((decide (1≤e.char)&&decide (e.char≤127))&&((((e.pa==0)&&(e.ps==0))&&e.right)||hasB e.past e.pa e.ps))&&((e.who==0)&&(e.role==0)) else if e.kind=2 then ((hasB e.past e.pa e.ps&&!e.right)&&(e.char==0))&&((e.who==0)&&(e.role==0)) else if e.kind=3 then ((decide (e.who<8)&&decide (1≤e.role))&&decide (e.role≤3))&&(((e.pa==0)&&(e.ps==0))&&(!e.right&&(e.char==0))) else if e.kind=4 then (decide (e.who<8)&&(e.role==0))&&(((e.pa==0)&&(e.ps==0))&&(!e.right&&(e.char==0))) else false))):=⟨rfl⟩
 have HF:ac (∀W,CellsAt W w.heap.size 33 e.cells→W.cell? ⟨w.heap.size,10,none⟩=some (.int .u8 e.kind)∧W.cell? ⟨w.heap.size,13,none⟩=some (.bool e.right)∧W.cell? ⟨w.heap.size,14,none⟩=some (.int .u8 e.char)∧W.cell? ⟨w.heap.size,15,none⟩=some (.int .u8 e.who)∧W.cell? ⟨w.heap.size,16,none⟩=some (.int .u8 e.role)∧W.rangeAt w.heap.size 11 (dotC e.pa e.ps)∧W.rangeAt w.heap.size 2 (e.past.map (Value.int .u32))):=⟨fun W h=>by
  obtain ⟨_,q2,q10,q11,q13,q14,q15,q16⟩:=f6 e hp;refine ⟨(h.cell 10).trans q10,(h.cell 13).trans q13,(h.cell 14).trans q14,(h.cell 15).trans q15,(h.cell 16).trans q16,?_,?_⟩
  · have:=h.range 11 2;rw [q11] at this;exact this
  · have:=h.range 2 8;rw [q2] at this;exact this⟩
 have HC01:ac (e.cells[0]?=some (.int .u8 e.da)∧e.cells[1]?=some (.int .u32 e.ds)):=⟨⟨rfl,rfl⟩⟩
 have HPA:ac (∀j,j<8→e.cells[2+j]?=some (.int .u32 (e.past[j]?.getD 0))):=⟨fun j hj=>mS e hp j hj⟩
 have iV:(Tryz.prog.info? 29).map (·.size)=some (e.past.map (Value.int .u32)).length:=by rw [List.length_map,hp];exact lp
 have iD:(Tryz.prog.info? 26).map (·.size)=some (dotC e.pa e.ps).length:=vz;have uD:=Tryz.underlying26;have uV:=Tryz.underlying29;generalize rightB e=RB at HRB ⊢
 generalize hasB e.past e.pa e.ps=hb at HCH HRB
 generalize ((e.pa==0)&&(e.ps==0))=nb at HNN HRB
 generalize dotC e.pa e.ps=DP at HCH HF iD HNN
 generalize e.past.map (Value.int .u32)=PV at HCH HF iV
 obtain ⟨dn,hDA⟩:=Int.eq_ofNat_of_zero_le ha;rw [hDA] at HRB HC01
 clear hDA ha hp hpa hps;generalize e.ds=DS at hs hs2 HRB HC01
 generalize e.past=PA at HRB HPA
 generalize e.cells=EC at h0 hB0 HC01 HF HPA ⊢
 generalize e.kind=KD at HF HRB
 generalize e.right=ri at HF HRB
 generalize e.char=CH at HF HRB
 generalize e.who=WO at HF HRB
 generalize e.role=RO at HF HRB
 rw [Int.toNat_natCast] at HRB
 by_cases k0:(dn:Int)<8
 rotate_left
 · have k0':(dn:Int)>7:=by omega
   have HR:ac (RB=false):=⟨by rw [HRB.out];simp [k0]⟩
   clear k0 hs hs2 HRB;go_enter Tryz.func37,Tryz.ntmps37;go_upto_region 1 with fail
   refine af (p:=fun y=>Code.wp _ _ _ _ y) (fun W=>Below w.heap.size w W∧CellsAt W w.heap.size 33 EC) ⟨hB0,h0⟩ ?_;clear hB0 h0;rintro W ⟨hB,hE⟩;have d0:W.cell? ⟨w.heap.size,0,none⟩=some (.int .u8 (dn:Int)):=(hE.cell 0).trans HC01.out.1;have d1:W.cell? ⟨w.heap.size,1,none⟩=some (.int .u32 DS):=(hE.cell 1).trans HC01.out.2;refine au (fun w'=>w'.cell? ⟨w.heap.size,0,none⟩=some (.int .u8 (dn:Int))∧w'.cell? ⟨w.heap.size,1,none⟩=some (.int .u32 DS)) (fun _=>True) 99 (by kernel_rfl) ?_;have hT:(fun w':World=>w'.cell? ⟨w.heap.size,0,none⟩=some (.int .u8 (dn:Int))∧w'.cell? ⟨w.heap.size,1,none⟩=some (.int .u32 DS)) W.drew:=⟨d0,d1⟩
   have hS:=trivial;refine ghA 0 _ hT hS ?_;simp only [zp];refine ghA 1 _ hT hS ?_;simp only [zp];refine ghA 2 _ hT hS ?_;simp only [zp];refine ghA 3 (.bool true) hT hS ?_;simp only [zp];refine ghA 4 _ hT hS ?_;simp only [zp];refine gs 5 hT hS ?_;simp only [zp];refine gs 6 hT hS ?_;simp only [zp];refine gs 7 hT hS ?_;simp only [zp];refine gs 8 hT hS ?_;simp only [zp];refine ghA 9 (.bool true) hT hS ?_;simp only [zp];refine ghA 10 _ hT hS ?_;simp only [zp];refine gs 11 hT hS ?_;simp only [zp];refine gs 12 hT hS ?_;simp only [zp];refine gs 13 hT hS ?_;simp only [zp];refine gs 14 hT hS ?_;simp only [zp];refine ghA 15 (.bool true) hT hS ?_;simp only [zp];refine ghA 16 _ hT hS ?_;simp only [zp];refine gs 17 hT hS ?_;simp only [zp];refine gs 18 hT hS ?_;simp only [zp];refine gs 19 hT hS ?_;simp only [zp];refine gs 20 hT hS ?_;simp only [zp];refine gs 21 hT hS ?_;simp only [zp];refine gs 22 hT hS ?_;simp only [zp];refine gs 23 hT hS ?_;simp only [zp];refine gs 24 hT hS ?_;simp only [zp];refine gs 25 hT hS ?_;simp only [zp];refine gs 26 hT hS ?_;simp only [zp];refine gs 27 hT hS ?_;simp only [zp];refine ghA 28 (.bool true) hT hS ?_;simp only [zp];refine az (by kernel_rfl) ?_ _;clear hT hS;clear d0 d1;go_wp2;go_ret;exact ⟨aA HR.out.symm,hB.drew⟩
 have k0':¬(dn:Int)>7:=by omega
 have hd8:dn<8:=by omega
 by_cases k1:DS=0
 · have k1':DS<1:=by omega
   have HR:ac (RB=false):=⟨by rw [HRB.out];simp [k1]⟩
   clear k1 hs hs2 HRB;go_enter Tryz.func37,Tryz.ntmps37;go_upto_region 1 with fail
   refine af (p:=fun y=>Code.wp _ _ _ _ y) (fun W=>Below w.heap.size w W∧CellsAt W w.heap.size 33 EC) ⟨hB0,h0⟩ ?_;clear hB0 h0;rintro W ⟨hB,hE⟩;have d0:W.cell? ⟨w.heap.size,0,none⟩=some (.int .u8 (dn:Int)):=(hE.cell 0).trans HC01.out.1;have d1:W.cell? ⟨w.heap.size,1,none⟩=some (.int .u32 DS):=(hE.cell 1).trans HC01.out.2;refine au (fun w'=>w'.cell? ⟨w.heap.size,0,none⟩=some (.int .u8 (dn:Int))∧w'.cell? ⟨w.heap.size,1,none⟩=some (.int .u32 DS)) (fun _=>True) 99 (by kernel_rfl) ?_;have hT:(fun w':World=>w'.cell? ⟨w.heap.size,0,none⟩=some (.int .u8 (dn:Int))∧w'.cell? ⟨w.heap.size,1,none⟩=some (.int .u32 DS)) W.drew:=⟨d0,d1⟩
   have hS:=trivial;refine ghA 0 _ hT hS ?_;simp only [zp];refine ghA 1 _ hT hS ?_;simp only [zp];refine ghA 2 _ hT hS ?_;simp only [zp];refine ghA 3 (.bool false) hT hS ?_;simp only [zp];refine ghA 4 _ hT hS ?_;simp only [zp];refine ghA 5 _ hT hS ?_;simp only [zp];refine ghA 6 _ hT hS ?_;simp only [zp];refine ghA 7 _ hT hS ?_;simp only [zp];refine ghA 8 (.bool true) hT hS ?_;simp only [zp];refine ghA 9 (.bool true) hT hS ?_;simp only [zp];refine ghA 10 _ hT hS ?_;simp only [zp];refine gs 11 hT hS ?_;simp only [zp];refine gs 12 hT hS ?_;simp only [zp];refine gs 13 hT hS ?_;simp only [zp];refine gs 14 hT hS ?_;simp only [zp];refine ghA 15 (.bool true) hT hS ?_;simp only [zp];refine ghA 16 _ hT hS ?_;simp only [zp];refine gs 17 hT hS ?_;simp only [zp];refine gs 18 hT hS ?_;simp only [zp];refine gs 19 hT hS ?_;simp only [zp];refine gs 20 hT hS ?_;simp only [zp];refine gs 21 hT hS ?_;simp only [zp];refine gs 22 hT hS ?_;simp only [zp];refine gs 23 hT hS ?_;simp only [zp];refine gs 24 hT hS ?_;simp only [zp];refine gs 25 hT hS ?_;simp only [zp];refine gs 26 hT hS ?_;simp only [zp];refine gs 27 hT hS ?_;simp only [zp];refine ghA 28 (.bool true) hT hS ?_;simp only [zp];refine az (by kernel_rfl) ?_ _;clear hT hS;clear d0 d1;go_wp2;go_ret;exact ⟨aA HR.out.symm,hB.drew⟩
 have k1':¬DS<1:=by omega
 by_cases k2:DS≤1048576
 rotate_left
 · have k2':DS>1048576:=by omega
   have HR:ac (RB=false):=⟨by rw [HRB.out];simp [k2]⟩
   clear k1 HRB;go_enter Tryz.func37,Tryz.ntmps37;go_upto_region 1 with fail
   refine af (p:=fun y=>Code.wp _ _ _ _ y) (fun W=>Below w.heap.size w W∧CellsAt W w.heap.size 33 EC) ⟨hB0,h0⟩ ?_;clear hB0 h0;rintro W ⟨hB,hE⟩;have d0:W.cell? ⟨w.heap.size,0,none⟩=some (.int .u8 (dn:Int)):=(hE.cell 0).trans HC01.out.1;have d1:W.cell? ⟨w.heap.size,1,none⟩=some (.int .u32 DS):=(hE.cell 1).trans HC01.out.2;refine au (fun w'=>w'.cell? ⟨w.heap.size,0,none⟩=some (.int .u8 (dn:Int))∧w'.cell? ⟨w.heap.size,1,none⟩=some (.int .u32 DS)) (fun _=>True) 99 (by kernel_rfl) ?_;have hT:(fun w':World=>w'.cell? ⟨w.heap.size,0,none⟩=some (.int .u8 (dn:Int))∧w'.cell? ⟨w.heap.size,1,none⟩=some (.int .u32 DS)) W.drew:=⟨d0,d1⟩
   have hS:=trivial;refine ghA 0 _ hT hS ?_;simp only [zp];refine ghA 1 _ hT hS ?_;simp only [zp];refine ghA 2 _ hT hS ?_;simp only [zp];refine ghA 3 (.bool false) hT hS ?_;simp only [zp];refine ghA 4 _ hT hS ?_;simp only [zp];refine ghA 5 _ hT hS ?_;simp only [zp];refine ghA 6 _ hT hS ?_;simp only [zp];refine ghA 7 _ hT hS ?_;simp only [zp];refine ghA 8 (.bool false) hT hS ?_;simp only [zp];refine ghA 9 (.bool false) hT hS ?_;simp only [zp];refine ghA 10 _ hT hS ?_;simp only [zp];refine ghA 11 _ hT hS ?_;simp only [zp];refine ghA 12 _ hT hS ?_;simp only [zp];refine ghA 13 _ hT hS ?_;simp only [zp];refine ghA 14 (.bool true) hT hS ?_;simp only [zp];refine ghA 15 (.bool true) hT hS ?_;simp only [zp];refine ghA 16 _ hT hS ?_;simp only [zp];refine gs 17 hT hS ?_;simp only [zp];refine gs 18 hT hS ?_;simp only [zp];refine gs 19 hT hS ?_;simp only [zp];refine gs 20 hT hS ?_;simp only [zp];refine gs 21 hT hS ?_;simp only [zp];refine gs 22 hT hS ?_;simp only [zp];refine gs 23 hT hS ?_;simp only [zp];refine gs 24 hT hS ?_;simp only [zp];refine gs 25 hT hS ?_;simp only [zp];refine gs 26 hT hS ?_;simp only [zp];refine gs 27 hT hS ?_;simp only [zp];refine ghA 28 (.bool true) hT hS ?_;simp only [zp];refine az (by kernel_rfl) ?_ _;clear hT hS;clear d0 d1;go_wp2;go_ret;exact ⟨aA HR.out.symm,hB.drew⟩
 have k2':¬DS>1048576:=by omega
 have ws:IntKind.u32.wrap (DS - 1)=DS - 1:=by rw [IntKind.wrap_u32];omega
 have cp:=HPA.out dn hd8;have HH0:ac (RB=(((PA[dn]?.getD 0==DS - 1)&&dG PA 8)&&(if KD=1 then ((decide (1≤CH)&&decide (CH≤127))&&((nb&&ri)||hb))&&((WO==0)&&(RO==0)) else if KD=2 then ((hb&&!ri)&&(CH==0))&&((WO==0)&&(RO==0)) else if KD=3 then ((decide (WO<8)&&decide (1≤RO))&&decide (RO≤3))&&(nb&&(!ri&&(CH==0))) else if KD=4 then (decide (WO<8)&&(RO==0))&&(nb&&(!ri&&(CH==0))) else false))):=⟨by rw [HRB.out];simp only [decide_eq_true k0,decide_eq_true k2,show (DS==0)=false by simpa using k1,Bool.not_false,Bool.true_and]⟩
 obtain ⟨PP,hPP⟩:∃q,PA[dn]?.getD 0=q:=⟨_,rfl⟩
 rw [hPP] at cp HH0
 clear hPP HRB
 by_cases k3:PP=DS - 1
 rotate_left
 · have k3':(PP==DS - 1)=false:=by simpa using k3
   have HR:ac (RB=false):=⟨by rw [HH0.out,k3'];simp⟩
   clear k3;go_enter Tryz.func37,Tryz.ntmps37;go_upto_region 1 with fail
   refine af (p:=fun y=>Code.wp _ _ _ _ y) (fun W=>Below w.heap.size w W∧CellsAt W w.heap.size 33 EC) ⟨hB0,h0⟩ ?_;clear hB0 h0;rintro W ⟨hB,hE⟩;have d0:W.cell? ⟨w.heap.size,0,none⟩=some (.int .u8 (dn:Int)):=(hE.cell 0).trans HC01.out.1;have d1:W.cell? ⟨w.heap.size,1,none⟩=some (.int .u32 DS):=(hE.cell 1).trans HC01.out.2;have cE:=(hE.cell (2+dn)).trans cp;refine au (fun w'=>w'.cell? ⟨w.heap.size,0,none⟩=some (.int .u8 (dn:Int))∧w'.cell? ⟨w.heap.size,1,none⟩=some (.int .u32 DS)∧w'.cell? ⟨w.heap.size,2+dn,none⟩=some (.int .u32 PP)) (fun _=>True) 99 (by kernel_rfl) ?_;have hT:(fun w':World=>w'.cell? ⟨w.heap.size,0,none⟩=some (.int .u8 (dn:Int))∧w'.cell? ⟨w.heap.size,1,none⟩=some (.int .u32 DS)∧w'.cell? ⟨w.heap.size,2+dn,none⟩=some (.int .u32 PP)) W.drew:=⟨d0,d1,cE⟩
   have hS:=trivial;refine ghA 0 _ hT hS ?_;simp only [zp];refine ghA 1 _ hT hS ?_;simp only [zp];refine ghA 2 _ hT hS ?_;simp only [zp];refine ghA 3 (.bool false) hT hS ?_;simp only [zp];refine ghA 4 _ hT hS ?_;simp only [zp];refine ghA 5 _ hT hS ?_;simp only [zp];refine ghA 6 _ hT hS ?_;simp only [zp];refine ghA 7 _ hT hS ?_;simp only [zp];refine ghA 8 (.bool false) hT hS ?_;simp only [zp];refine ghA 9 (.bool false) hT hS ?_;simp only [zp];refine ghA 10 _ hT hS ?_;simp only [zp];refine ghA 11 _ hT hS ?_;simp only [zp];refine ghA 12 _ hT hS ?_;simp only [zp];refine ghA 13 _ hT hS ?_;simp only [zp];refine ghA 14 (.bool false) hT hS ?_;simp only [zp];refine ghA 15 (.bool false) hT hS ?_;simp only [zp];refine ghA 16 _ hT hS ?_;simp only [zp];refine ghA 17 _ hT hS ?_;simp only [zp];refine ghA 18 _ hT hS ?_;simp only [zp];refine ghA 19 _ hT hS ?_;simp only [zp];refine ghA 20 _ hT hS ?_;simp only [zp];refine ghA 21 _ hT hS ?_;simp only [zp];refine ghA 22 _ hT hS ?_;simp only [zp];refine ghA 23 _ hT hS ?_;simp only [zp];refine ghA 24 _ hT hS ?_;simp only [zp];refine ghA 25 _ hT hS ?_;simp only [zp];refine ghA 26 _ hT hS ?_;simp only [zp];refine gh 27 (.bool true) hT hS ?_ ?_
   · intro wx hSw;go_split_ands;go_simp;simpa using k3'
   simp only [zp];refine ghA 28 (.bool true) hT hS ?_;simp only [zp];refine az (by kernel_rfl) ?_ _;clear hT hS;clear cE;clear d0 d1;go_wp2;go_ret;exact ⟨aA HR.out.symm,hB.drew⟩
 have k3':(PP==DS - 1)=true:=by simpa using k3
 rw [k3'] at HH0
 clear k3;go_enter Tryz.func37,Tryz.ntmps37;go_upto_region 1 with fail
 refine af (p:=fun y=>Code.wp _ _ _ _ y) (fun W=>Below w.heap.size w W∧CellsAt W w.heap.size 33 EC) ⟨hB0,h0⟩ ?_;clear hB0 h0;rintro W ⟨hB,hE⟩;have d0:W.cell? ⟨w.heap.size,0,none⟩=some (.int .u8 (dn:Int)):=(hE.cell 0).trans HC01.out.1;have d1:W.cell? ⟨w.heap.size,1,none⟩=some (.int .u32 DS):=(hE.cell 1).trans HC01.out.2;have cE:=(hE.cell (2+dn)).trans cp;refine au (fun w'=>w'.cell? ⟨w.heap.size,0,none⟩=some (.int .u8 (dn:Int))∧w'.cell? ⟨w.heap.size,1,none⟩=some (.int .u32 DS)∧w'.cell? ⟨w.heap.size,2+dn,none⟩=some (.int .u32 PP)) (fun _=>True) 99 (by kernel_rfl) ?_;have hT:(fun w':World=>w'.cell? ⟨w.heap.size,0,none⟩=some (.int .u8 (dn:Int))∧w'.cell? ⟨w.heap.size,1,none⟩=some (.int .u32 DS)∧w'.cell? ⟨w.heap.size,2+dn,none⟩=some (.int .u32 PP)) W.drew:=⟨d0,d1,cE⟩
 have hS:=trivial;refine ghA 0 _ hT hS ?_;simp only [zp];refine ghA 1 _ hT hS ?_;simp only [zp];refine ghA 2 _ hT hS ?_;simp only [zp];refine ghA 3 (.bool false) hT hS ?_;simp only [zp];refine ghA 4 _ hT hS ?_;simp only [zp];refine ghA 5 _ hT hS ?_;simp only [zp];refine ghA 6 _ hT hS ?_;simp only [zp];refine ghA 7 _ hT hS ?_;simp only [zp];refine ghA 8 (.bool false) hT hS ?_;simp only [zp];refine ghA 9 (.bool false) hT hS ?_;simp only [zp];refine ghA 10 _ hT hS ?_;simp only [zp];refine ghA 11 _ hT hS ?_;simp only [zp];refine ghA 12 _ hT hS ?_;simp only [zp];refine ghA 13 _ hT hS ?_;simp only [zp];refine ghA 14 (.bool false) hT hS ?_;simp only [zp];refine ghA 15 (.bool false) hT hS ?_;simp only [zp];refine ghA 16 _ hT hS ?_;simp only [zp];refine ghA 17 _ hT hS ?_;simp only [zp];refine ghA 18 _ hT hS ?_;simp only [zp];refine ghA 19 _ hT hS ?_;simp only [zp];refine ghA 20 _ hT hS ?_;simp only [zp];refine ghA 21 _ hT hS ?_;simp only [zp];refine ghA 22 _ hT hS ?_;simp only [zp];refine ghA 23 _ hT hS ?_;simp only [zp];refine ghA 24 _ hT hS ?_;simp only [zp];refine ghA 25 _ hT hS ?_;simp only [zp];refine ghA 26 _ hT hS ?_;simp only [zp];refine gh 27 (.bool false) hT hS ?_ ?_
 · intro wx hSw;go_split_ands;go_simp;simpa using k3'
 simp only [zp];refine ghA 28 (.bool false) hT hS ?_;simp only [zp];refine az (by kernel_rfl) ?_ _;clear hT hS;have HBD:=ac.mk (And.intro hB.drew (show CellsAt W.drew w.heap.size 33 EC from hE));clear d0 d1 cE hB hE k0 k0' hs hs2 k1 k1' k2 k2' k3' ws cp;refine af (p:=fun y=>Exit.then _ _ _ _ y) (fun W=>Below w.heap.size w W∧CellsAt W w.heap.size 33 EC) HBD.out ?_;clear HBD;clear W;rintro W ⟨hB,hE⟩
 go_wp2_with fail
 go_loopw [3] (fun q wr=>∃j:Nat,j≤8∧q=.int .i64 j∧(Below w.heap.size w wr∧CellsAt wr w.heap.size 33 EC)∧dG PA j=true) (fun q _=>8 - (intOf q).toNat)
 case atStart=>exact ⟨0,Nat.zero_le _,rfl,⟨hB,hE⟩,rfl⟩
 case round=>
  clear hB hE;obtain ⟨j,hj,rfl,⟨hB,hE⟩,hall⟩:=hrel;have HALL:=ac.mk hall;clear hall
  by_cases hj8:j<8
  · have hji:(j:Int)<8:=by omega
    have hj0:(0:Int)≤(j:Int):=by omega
    have cj:=(hE.cell (2+j)).trans (HPA.out j hj8);have hw1:IntKind.i64.wrap ((j:Int)+1)=(j:Int)+1:=by rw [IntKind.wrap_i64];omega
    have HPF:ac (¬PA[j]?.getD 0≤1048576→dG PA 8=false):=⟨fun h=>gC PA j hj8 h⟩
    have HPT:ac (PA[j]?.getD 0≤1048576→dG PA (j+1)=true):=⟨fun h=>by unfold dG;rw [HALL.out];simp [h]⟩
    generalize PA[j]?.getD 0=PJ at cj HPF HPT
    by_cases hgt:PJ>1048576
    · have HR:ac (RB=false):=⟨by rw [HH0.out,HPF.out (by omega)];simp⟩
      go_wp2;go_ret;exact ⟨aA HR.out.symm,hB⟩
    · go_wp2
      go_roundw
      case rel=>exact ⟨j+1,hj8,by push_cast;rfl,⟨hB,hE⟩,HPT.out (by omega)⟩
      case measure=>simp [intOf];omega
  · obtain rfl:j=8:=by omega
    have hji:¬((8:Nat):Int)<8:=by omega
    have HH:ac (RB=(if KD=1 then ((decide (1≤CH)&&decide (CH≤127))&&((nb&&ri)||hb))&&((WO==0)&&(RO==0)) else if KD=2 then ((hb&&!ri)&&(CH==0))&&((WO==0)&&(RO==0)) else if KD=3 then ((decide (WO<8)&&decide (1≤RO))&&decide (RO≤3))&&(nb&&(!ri&&(CH==0))) else if KD=4 then (decide (WO<8)&&(RO==0))&&(nb&&(!ri&&(CH==0))) else false)):=⟨by rw [HH0.out,HALL.out,Bool.true_and,Bool.true_and]⟩
    clear HH0 HALL HPA;clear W;obtain ⟨W,hW⟩:∃W,W=wr:=⟨_,rfl⟩
    subst hW;obtain ⟨c10,c13,c14,c15,c16,rD,rV⟩:=HF.out W hE;have hnn:=HNN.out W;have hh:=HCH.out W;have HB:ac (∀W w1,Below w.heap.size w W→Below W.heap.size W w1→Below w.heap.size w w1):=⟨fun W w1 h h2=>h.trans (h2.mono h.size)⟩
    by_cases g1:KD=1
    · subst g1
      replace HH:ac (RB=(((decide (1≤CH)&&decide (CH≤127))&&((nb&&ri)||hb))&&((WO==0)&&(RO==0)))):=⟨by rw [HH.out,if_pos rfl]⟩
      clear hh;cases nb
      · cases hb
        · have HR:ac (RB=false):=⟨by rw [HH.out];simp⟩
          go_wp2_with (first
           |(refine ae rfl 26 _ rfl w.heap.size 11 rfl DP rD uD rfl iD ?_)
           |(refine ao (by kernel_rfl) 26 _ rfl w.heap.size 11 rfl DP rD1 uD rfl iD ?_)
           |(refine ao (by kernel_rfl) 29 _ rfl w.heap.size 2 rfl PV rV1 uV rfl iV ?_)
           |(go_at_call 83;refine hnn.mono ?_;rintro e w1 ⟨rfl,hb1⟩;obtain ⟨c10,c13,c14,c15,c16,rD1,rV1⟩:=HF.out w1 (hE.farM hb1);have hh:=HCH.out w1;replace hB:=HB.out W w1 hB hb1;clear hnn)
           |(go_at_call 84;refine hh.mono ?_;rintro e w2 ⟨rfl,hb2⟩;obtain ⟨c10,c13,c14,c15,c16,rD2,rV2⟩:=HF.out w2 ((hE.farM hb1).farM hb2);replace hB:=HB.out _ w2 hB hb2;clear hh))
          go_ret;exact ⟨aA HR.out.symm,hB⟩
        · by_cases q1:1≤CH
          rotate_left
          · have q1b:¬CH≥1:=by omega
            have HR:ac (RB=false):=⟨by rw [HH.out];simp [q1]⟩
            go_wp2_with (first
             |(refine ae rfl 26 _ rfl w.heap.size 11 rfl DP rD uD rfl iD ?_)
             |(refine ao (by kernel_rfl) 26 _ rfl w.heap.size 11 rfl DP rD1 uD rfl iD ?_)
             |(refine ao (by kernel_rfl) 29 _ rfl w.heap.size 2 rfl PV rV1 uV rfl iV ?_)
             |(go_at_call 83;refine hnn.mono ?_;rintro e w1 ⟨rfl,hb1⟩;obtain ⟨c10,c13,c14,c15,c16,rD1,rV1⟩:=HF.out w1 (hE.farM hb1);have hh:=HCH.out w1;replace hB:=HB.out W w1 hB hb1;clear hnn)
             |(go_at_call 84;refine hh.mono ?_;rintro e w2 ⟨rfl,hb2⟩;obtain ⟨c10,c13,c14,c15,c16,rD2,rV2⟩:=HF.out w2 ((hE.farM hb1).farM hb2);replace hB:=HB.out _ w2 hB hb2;clear hh))
            go_ret;exact ⟨aA HR.out.symm,hB⟩
          by_cases q2:CH≤127
          rotate_left
          · skip
            have HR:ac (RB=false):=⟨by rw [HH.out];simp [q1,q2]⟩
            go_wp2_with (first
             |(refine ae rfl 26 _ rfl w.heap.size 11 rfl DP rD uD rfl iD ?_)
             |(refine ao (by kernel_rfl) 26 _ rfl w.heap.size 11 rfl DP rD1 uD rfl iD ?_)
             |(refine ao (by kernel_rfl) 29 _ rfl w.heap.size 2 rfl PV rV1 uV rfl iV ?_)
             |(go_at_call 83;refine hnn.mono ?_;rintro e w1 ⟨rfl,hb1⟩;obtain ⟨c10,c13,c14,c15,c16,rD1,rV1⟩:=HF.out w1 (hE.farM hb1);have hh:=HCH.out w1;replace hB:=HB.out W w1 hB hb1;clear hnn)
             |(go_at_call 84;refine hh.mono ?_;rintro e w2 ⟨rfl,hb2⟩;obtain ⟨c10,c13,c14,c15,c16,rD2,rV2⟩:=HF.out w2 ((hE.farM hb1).farM hb2);replace hB:=HB.out _ w2 hB hb2;clear hh))
            go_ret;exact ⟨aA HR.out.symm,hB⟩
          by_cases q3:(WO==0)=true
          rotate_left
          · have q3:(WO==0)=false:=by simpa using q3
            have HR:ac (RB=false):=⟨by rw [HH.out];simp [q1,q2,q3]⟩
            go_wp2_with (first
             |(refine ae rfl 26 _ rfl w.heap.size 11 rfl DP rD uD rfl iD ?_)
             |(refine ao (by kernel_rfl) 26 _ rfl w.heap.size 11 rfl DP rD1 uD rfl iD ?_)
             |(refine ao (by kernel_rfl) 29 _ rfl w.heap.size 2 rfl PV rV1 uV rfl iV ?_)
             |(go_at_call 83;refine hnn.mono ?_;rintro e w1 ⟨rfl,hb1⟩;obtain ⟨c10,c13,c14,c15,c16,rD1,rV1⟩:=HF.out w1 (hE.farM hb1);have hh:=HCH.out w1;replace hB:=HB.out W w1 hB hb1;clear hnn)
             |(go_at_call 84;refine hh.mono ?_;rintro e w2 ⟨rfl,hb2⟩;obtain ⟨c10,c13,c14,c15,c16,rD2,rV2⟩:=HF.out w2 ((hE.farM hb1).farM hb2);replace hB:=HB.out _ w2 hB hb2;clear hh))
            go_ret;exact ⟨aA HR.out.symm,hB⟩
          by_cases q4:(RO==0)=true
          rotate_left
          · have q4:(RO==0)=false:=by simpa using q4
            have HR:ac (RB=false):=⟨by rw [HH.out];simp [q1,q2,q3,q4]⟩
            go_wp2_with (first
             |(refine ae rfl 26 _ rfl w.heap.size 11 rfl DP rD uD rfl iD ?_)
             |(refine ao (by kernel_rfl) 26 _ rfl w.heap.size 11 rfl DP rD1 uD rfl iD ?_)
             |(refine ao (by kernel_rfl) 29 _ rfl w.heap.size 2 rfl PV rV1 uV rfl iV ?_)
             |(go_at_call 83;refine hnn.mono ?_;rintro e w1 ⟨rfl,hb1⟩;obtain ⟨c10,c13,c14,c15,c16,rD1,rV1⟩:=HF.out w1 (hE.farM hb1);have hh:=HCH.out w1;replace hB:=HB.out W w1 hB hb1;clear hnn)
             |(go_at_call 84;refine hh.mono ?_;rintro e w2 ⟨rfl,hb2⟩;obtain ⟨c10,c13,c14,c15,c16,rD2,rV2⟩:=HF.out w2 ((hE.farM hb1).farM hb2);replace hB:=HB.out _ w2 hB hb2;clear hh))
            go_ret;exact ⟨aA HR.out.symm,hB⟩
          have HR:ac (RB=true):=⟨by rw [HH.out];simp [q1,q2,q3,q4]⟩
          go_wp2_with (first
           |(refine ae rfl 26 _ rfl w.heap.size 11 rfl DP rD uD rfl iD ?_)
           |(refine ao (by kernel_rfl) 26 _ rfl w.heap.size 11 rfl DP rD1 uD rfl iD ?_)
           |(refine ao (by kernel_rfl) 29 _ rfl w.heap.size 2 rfl PV rV1 uV rfl iV ?_)
           |(go_at_call 83;refine hnn.mono ?_;rintro e w1 ⟨rfl,hb1⟩;obtain ⟨c10,c13,c14,c15,c16,rD1,rV1⟩:=HF.out w1 (hE.farM hb1);have hh:=HCH.out w1;replace hB:=HB.out W w1 hB hb1;clear hnn)
           |(go_at_call 84;refine hh.mono ?_;rintro e w2 ⟨rfl,hb2⟩;obtain ⟨c10,c13,c14,c15,c16,rD2,rV2⟩:=HF.out w2 ((hE.farM hb1).farM hb2);replace hB:=HB.out _ w2 hB hb2;clear hh))
          go_ret;exact ⟨aA HR.out.symm,hB⟩
      cases ri
      · cases hb
        · have HR:ac (RB=false):=⟨by rw [HH.out];simp⟩
          go_wp2_with (first
           |(refine ae rfl 26 _ rfl w.heap.size 11 rfl DP rD uD rfl iD ?_)
           |(refine ao (by kernel_rfl) 26 _ rfl w.heap.size 11 rfl DP rD1 uD rfl iD ?_)
           |(refine ao (by kernel_rfl) 29 _ rfl w.heap.size 2 rfl PV rV1 uV rfl iV ?_)
           |(go_at_call 83;refine hnn.mono ?_;rintro e w1 ⟨rfl,hb1⟩;obtain ⟨c10,c13,c14,c15,c16,rD1,rV1⟩:=HF.out w1 (hE.farM hb1);have hh:=HCH.out w1;replace hB:=HB.out W w1 hB hb1;clear hnn)
           |(go_at_call 84;refine hh.mono ?_;rintro e w2 ⟨rfl,hb2⟩;obtain ⟨c10,c13,c14,c15,c16,rD2,rV2⟩:=HF.out w2 ((hE.farM hb1).farM hb2);replace hB:=HB.out _ w2 hB hb2;clear hh))
          go_ret;exact ⟨aA HR.out.symm,hB⟩
        · by_cases q1:1≤CH
          rotate_left
          · have q1b:¬CH≥1:=by omega
            have HR:ac (RB=false):=⟨by rw [HH.out];simp [q1]⟩
            go_wp2_with (first
             |(refine ae rfl 26 _ rfl w.heap.size 11 rfl DP rD uD rfl iD ?_)
             |(refine ao (by kernel_rfl) 26 _ rfl w.heap.size 11 rfl DP rD1 uD rfl iD ?_)
             |(refine ao (by kernel_rfl) 29 _ rfl w.heap.size 2 rfl PV rV1 uV rfl iV ?_)
             |(go_at_call 83;refine hnn.mono ?_;rintro e w1 ⟨rfl,hb1⟩;obtain ⟨c10,c13,c14,c15,c16,rD1,rV1⟩:=HF.out w1 (hE.farM hb1);have hh:=HCH.out w1;replace hB:=HB.out W w1 hB hb1;clear hnn)
             |(go_at_call 84;refine hh.mono ?_;rintro e w2 ⟨rfl,hb2⟩;obtain ⟨c10,c13,c14,c15,c16,rD2,rV2⟩:=HF.out w2 ((hE.farM hb1).farM hb2);replace hB:=HB.out _ w2 hB hb2;clear hh))
            go_ret;exact ⟨aA HR.out.symm,hB⟩
          by_cases q2:CH≤127
          rotate_left
          · skip
            have HR:ac (RB=false):=⟨by rw [HH.out];simp [q1,q2]⟩
            go_wp2_with (first
             |(refine ae rfl 26 _ rfl w.heap.size 11 rfl DP rD uD rfl iD ?_)
             |(refine ao (by kernel_rfl) 26 _ rfl w.heap.size 11 rfl DP rD1 uD rfl iD ?_)
             |(refine ao (by kernel_rfl) 29 _ rfl w.heap.size 2 rfl PV rV1 uV rfl iV ?_)
             |(go_at_call 83;refine hnn.mono ?_;rintro e w1 ⟨rfl,hb1⟩;obtain ⟨c10,c13,c14,c15,c16,rD1,rV1⟩:=HF.out w1 (hE.farM hb1);have hh:=HCH.out w1;replace hB:=HB.out W w1 hB hb1;clear hnn)
             |(go_at_call 84;refine hh.mono ?_;rintro e w2 ⟨rfl,hb2⟩;obtain ⟨c10,c13,c14,c15,c16,rD2,rV2⟩:=HF.out w2 ((hE.farM hb1).farM hb2);replace hB:=HB.out _ w2 hB hb2;clear hh))
            go_ret;exact ⟨aA HR.out.symm,hB⟩
          by_cases q3:(WO==0)=true
          rotate_left
          · have q3:(WO==0)=false:=by simpa using q3
            have HR:ac (RB=false):=⟨by rw [HH.out];simp [q1,q2,q3]⟩
            go_wp2_with (first
             |(refine ae rfl 26 _ rfl w.heap.size 11 rfl DP rD uD rfl iD ?_)
             |(refine ao (by kernel_rfl) 26 _ rfl w.heap.size 11 rfl DP rD1 uD rfl iD ?_)
             |(refine ao (by kernel_rfl) 29 _ rfl w.heap.size 2 rfl PV rV1 uV rfl iV ?_)
             |(go_at_call 83;refine hnn.mono ?_;rintro e w1 ⟨rfl,hb1⟩;obtain ⟨c10,c13,c14,c15,c16,rD1,rV1⟩:=HF.out w1 (hE.farM hb1);have hh:=HCH.out w1;replace hB:=HB.out W w1 hB hb1;clear hnn)
             |(go_at_call 84;refine hh.mono ?_;rintro e w2 ⟨rfl,hb2⟩;obtain ⟨c10,c13,c14,c15,c16,rD2,rV2⟩:=HF.out w2 ((hE.farM hb1).farM hb2);replace hB:=HB.out _ w2 hB hb2;clear hh))
            go_ret;exact ⟨aA HR.out.symm,hB⟩
          by_cases q4:(RO==0)=true
          rotate_left
          · have q4:(RO==0)=false:=by simpa using q4
            have HR:ac (RB=false):=⟨by rw [HH.out];simp [q1,q2,q3,q4]⟩
            go_wp2_with (first
             |(refine ae rfl 26 _ rfl w.heap.size 11 rfl DP rD uD rfl iD ?_)
             |(refine ao (by kernel_rfl) 26 _ rfl w.heap.size 11 rfl DP rD1 uD rfl iD ?_)
             |(refine ao (by kernel_rfl) 29 _ rfl w.heap.size 2 rfl PV rV1 uV rfl iV ?_)
             |(go_at_call 83;refine hnn.mono ?_;rintro e w1 ⟨rfl,hb1⟩;obtain ⟨c10,c13,c14,c15,c16,rD1,rV1⟩:=HF.out w1 (hE.farM hb1);have hh:=HCH.out w1;replace hB:=HB.out W w1 hB hb1;clear hnn)
             |(go_at_call 84;refine hh.mono ?_;rintro e w2 ⟨rfl,hb2⟩;obtain ⟨c10,c13,c14,c15,c16,rD2,rV2⟩:=HF.out w2 ((hE.farM hb1).farM hb2);replace hB:=HB.out _ w2 hB hb2;clear hh))
            go_ret;exact ⟨aA HR.out.symm,hB⟩
          have HR:ac (RB=true):=⟨by rw [HH.out];simp [q1,q2,q3,q4]⟩
          go_wp2_with (first
           |(refine ae rfl 26 _ rfl w.heap.size 11 rfl DP rD uD rfl iD ?_)
           |(refine ao (by kernel_rfl) 26 _ rfl w.heap.size 11 rfl DP rD1 uD rfl iD ?_)
           |(refine ao (by kernel_rfl) 29 _ rfl w.heap.size 2 rfl PV rV1 uV rfl iV ?_)
           |(go_at_call 83;refine hnn.mono ?_;rintro e w1 ⟨rfl,hb1⟩;obtain ⟨c10,c13,c14,c15,c16,rD1,rV1⟩:=HF.out w1 (hE.farM hb1);have hh:=HCH.out w1;replace hB:=HB.out W w1 hB hb1;clear hnn)
           |(go_at_call 84;refine hh.mono ?_;rintro e w2 ⟨rfl,hb2⟩;obtain ⟨c10,c13,c14,c15,c16,rD2,rV2⟩:=HF.out w2 ((hE.farM hb1).farM hb2);replace hB:=HB.out _ w2 hB hb2;clear hh))
          go_ret;exact ⟨aA HR.out.symm,hB⟩
      by_cases q1:1≤CH
      rotate_left
      · have q1b:¬CH≥1:=by omega
        have HR:ac (RB=false):=⟨by rw [HH.out];simp [q1]⟩
        go_wp2_with (first
         |(refine ae rfl 26 _ rfl w.heap.size 11 rfl DP rD uD rfl iD ?_)
         |(go_at_call 83;refine hnn.mono ?_;rintro e w1 ⟨rfl,hb1⟩;obtain ⟨c10,c13,c14,c15,c16,rD1,rV1⟩:=HF.out w1 (hE.farM hb1);replace hB:=HB.out W w1 hB hb1;clear hnn))
        go_ret;exact ⟨aA HR.out.symm,hB⟩
      by_cases q2:CH≤127
      rotate_left
      · skip
        have HR:ac (RB=false):=⟨by rw [HH.out];simp [q1,q2]⟩
        go_wp2_with (first
         |(refine ae rfl 26 _ rfl w.heap.size 11 rfl DP rD uD rfl iD ?_)
         |(go_at_call 83;refine hnn.mono ?_;rintro e w1 ⟨rfl,hb1⟩;obtain ⟨c10,c13,c14,c15,c16,rD1,rV1⟩:=HF.out w1 (hE.farM hb1);replace hB:=HB.out W w1 hB hb1;clear hnn))
        go_ret;exact ⟨aA HR.out.symm,hB⟩
      by_cases q3:(WO==0)=true
      rotate_left
      · have q3:(WO==0)=false:=by simpa using q3
        have HR:ac (RB=false):=⟨by rw [HH.out];simp [q1,q2,q3]⟩
        go_wp2_with (first
         |(refine ae rfl 26 _ rfl w.heap.size 11 rfl DP rD uD rfl iD ?_)
         |(go_at_call 83;refine hnn.mono ?_;rintro e w1 ⟨rfl,hb1⟩;obtain ⟨c10,c13,c14,c15,c16,rD1,rV1⟩:=HF.out w1 (hE.farM hb1);replace hB:=HB.out W w1 hB hb1;clear hnn))
        go_ret;exact ⟨aA HR.out.symm,hB⟩
      by_cases q4:(RO==0)=true
      rotate_left
      · have q4:(RO==0)=false:=by simpa using q4
        have HR:ac (RB=false):=⟨by rw [HH.out];simp [q1,q2,q3,q4]⟩
        go_wp2_with (first
         |(refine ae rfl 26 _ rfl w.heap.size 11 rfl DP rD uD rfl iD ?_)
         |(go_at_call 83;refine hnn.mono ?_;rintro e w1 ⟨rfl,hb1⟩;obtain ⟨c10,c13,c14,c15,c16,rD1,rV1⟩:=HF.out w1 (hE.farM hb1);replace hB:=HB.out W w1 hB hb1;clear hnn))
        go_ret;exact ⟨aA HR.out.symm,hB⟩
      have HR:ac (RB=true):=⟨by rw [HH.out];simp [q1,q2,q3,q4]⟩
      go_wp2_with (first
       |(refine ae rfl 26 _ rfl w.heap.size 11 rfl DP rD uD rfl iD ?_)
       |(go_at_call 83;refine hnn.mono ?_;rintro e w1 ⟨rfl,hb1⟩;obtain ⟨c10,c13,c14,c15,c16,rD1,rV1⟩:=HF.out w1 (hE.farM hb1);replace hB:=HB.out W w1 hB hb1;clear hnn))
      go_ret;exact ⟨aA HR.out.symm,hB⟩
    have g1':(KD==1)=false:=by simpa using g1
    by_cases g2:KD=2
    · subst g2
      replace HH:ac (RB=(((hb&&!ri)&&(CH==0))&&((WO==0)&&(RO==0)))):=⟨by rw [HH.out,if_neg g1,if_pos rfl]⟩
      clear hnn;cases hb
      · have HR:ac (RB=false):=⟨by rw [HH.out];simp⟩
        go_wp2_with (first
         |(refine ae rfl 29 _ rfl w.heap.size 2 rfl PV rV uV rfl iV ?_)
         |(refine ae rfl 26 _ rfl w.heap.size 11 rfl DP rD uD rfl iD ?_)
         |(go_at_call 84;refine hh.mono ?_;rintro e w1 ⟨rfl,hb1⟩;obtain ⟨c10,c13,c14,c15,c16,rD1,rV1⟩:=HF.out w1 (hE.farM hb1);replace hB:=HB.out _ w1 hB hb1;clear hh))
        go_ret;exact ⟨aA HR.out.symm,hB⟩
      cases ri;rotate_left
      · have HR:ac (RB=false):=⟨by rw [HH.out];simp⟩
        go_wp2_with (first
         |(refine ae rfl 29 _ rfl w.heap.size 2 rfl PV rV uV rfl iV ?_)
         |(refine ae rfl 26 _ rfl w.heap.size 11 rfl DP rD uD rfl iD ?_)
         |(go_at_call 84;refine hh.mono ?_;rintro e w1 ⟨rfl,hb1⟩;obtain ⟨c10,c13,c14,c15,c16,rD1,rV1⟩:=HF.out w1 (hE.farM hb1);replace hB:=HB.out _ w1 hB hb1;clear hh))
        go_ret;exact ⟨aA HR.out.symm,hB⟩
      by_cases q1:(CH==0)=true
      rotate_left
      · have q1:(CH==0)=false:=by simpa using q1
        have HR:ac (RB=false):=⟨by rw [HH.out];simp [q1]⟩
        go_wp2_with (first
         |(refine ae rfl 29 _ rfl w.heap.size 2 rfl PV rV uV rfl iV ?_)
         |(refine ae rfl 26 _ rfl w.heap.size 11 rfl DP rD uD rfl iD ?_)
         |(go_at_call 84;refine hh.mono ?_;rintro e w1 ⟨rfl,hb1⟩;obtain ⟨c10,c13,c14,c15,c16,rD1,rV1⟩:=HF.out w1 (hE.farM hb1);replace hB:=HB.out _ w1 hB hb1;clear hh))
        go_ret;exact ⟨aA HR.out.symm,hB⟩
      by_cases q3:(WO==0)=true
      rotate_left
      · have q3:(WO==0)=false:=by simpa using q3
        have HR:ac (RB=false):=⟨by rw [HH.out];simp [q1,q3]⟩
        go_wp2_with (first
         |(refine ae rfl 29 _ rfl w.heap.size 2 rfl PV rV uV rfl iV ?_)
         |(refine ae rfl 26 _ rfl w.heap.size 11 rfl DP rD uD rfl iD ?_)
         |(go_at_call 84;refine hh.mono ?_;rintro e w1 ⟨rfl,hb1⟩;obtain ⟨c10,c13,c14,c15,c16,rD1,rV1⟩:=HF.out w1 (hE.farM hb1);replace hB:=HB.out _ w1 hB hb1;clear hh))
        go_ret;exact ⟨aA HR.out.symm,hB⟩
      by_cases q4:(RO==0)=true
      rotate_left
      · have q4:(RO==0)=false:=by simpa using q4
        have HR:ac (RB=false):=⟨by rw [HH.out];simp [q1,q3,q4]⟩
        go_wp2_with (first
         |(refine ae rfl 29 _ rfl w.heap.size 2 rfl PV rV uV rfl iV ?_)
         |(refine ae rfl 26 _ rfl w.heap.size 11 rfl DP rD uD rfl iD ?_)
         |(go_at_call 84;refine hh.mono ?_;rintro e w1 ⟨rfl,hb1⟩;obtain ⟨c10,c13,c14,c15,c16,rD1,rV1⟩:=HF.out w1 (hE.farM hb1);replace hB:=HB.out _ w1 hB hb1;clear hh))
        go_ret;exact ⟨aA HR.out.symm,hB⟩
      have HR:ac (RB=true):=⟨by rw [HH.out];simp [q1,q3,q4]⟩
      go_wp2_with (first
       |(refine ae rfl 29 _ rfl w.heap.size 2 rfl PV rV uV rfl iV ?_)
       |(refine ae rfl 26 _ rfl w.heap.size 11 rfl DP rD uD rfl iD ?_)
       |(go_at_call 84;refine hh.mono ?_;rintro e w1 ⟨rfl,hb1⟩;obtain ⟨c10,c13,c14,c15,c16,rD1,rV1⟩:=HF.out w1 (hE.farM hb1);replace hB:=HB.out _ w1 hB hb1;clear hh))
      go_ret;exact ⟨aA HR.out.symm,hB⟩
    have g2':(KD==2)=false:=by simpa using g2
    clear hh
    by_cases g3:KD=3
    · subst g3
      replace HH:ac (RB=(((decide (WO<8)&&decide (1≤RO))&&decide (RO≤3))&&(nb&&(!ri&&(CH==0))))):=⟨by rw [HH.out,if_neg g1,if_neg g2,if_pos rfl]⟩
      by_cases q1:WO<8
      rotate_left
      · skip
        have HR:ac (RB=false):=⟨by rw [HH.out];simp [q1]⟩
        go_wp2;go_ret;exact ⟨aA HR.out.symm,hB⟩
      by_cases q2:1≤RO
      rotate_left
      · have q2b:¬RO≥1:=by omega
        have HR:ac (RB=false):=⟨by rw [HH.out];simp [q1,q2]⟩
        go_wp2;go_ret;exact ⟨aA HR.out.symm,hB⟩
      by_cases q3:RO≤3
      rotate_left
      · skip
        have HR:ac (RB=false):=⟨by rw [HH.out];simp [q1,q2,q3]⟩
        go_wp2;go_ret;exact ⟨aA HR.out.symm,hB⟩
      cases nb
      · have HR:ac (RB=false):=⟨by rw [HH.out];simp⟩
        go_wp2_with (first
         |(refine ao (by kernel_rfl) 26 _ rfl w.heap.size 11 rfl DP rD uD rfl iD ?_)
         |(go_at_call 83;refine hnn.mono ?_;rintro e w1 ⟨rfl,hb1⟩;obtain ⟨c10,c13,c14,c15,c16,rD1,rV1⟩:=HF.out w1 (hE.farM hb1);replace hB:=HB.out W w1 hB hb1;clear hnn))
        go_ret;exact ⟨aA HR.out.symm,hB⟩
      cases ri;rotate_left
      · have HR:ac (RB=false):=⟨by rw [HH.out];simp⟩
        go_wp2_with (first
         |(refine ao (by kernel_rfl) 26 _ rfl w.heap.size 11 rfl DP rD uD rfl iD ?_)
         |(go_at_call 83;refine hnn.mono ?_;rintro e w1 ⟨rfl,hb1⟩;obtain ⟨c10,c13,c14,c15,c16,rD1,rV1⟩:=HF.out w1 (hE.farM hb1);replace hB:=HB.out W w1 hB hb1;clear hnn))
        go_ret;exact ⟨aA HR.out.symm,hB⟩
      by_cases q9:(CH==0)=true
      rotate_left
      · have q9:(CH==0)=false:=by simpa using q9
        have HR:ac (RB=false):=⟨by rw [HH.out];simp [q9]⟩
        go_wp2_with (first
         |(refine ao (by kernel_rfl) 26 _ rfl w.heap.size 11 rfl DP rD uD rfl iD ?_)
         |(go_at_call 83;refine hnn.mono ?_;rintro e w1 ⟨rfl,hb1⟩;obtain ⟨c10,c13,c14,c15,c16,rD1,rV1⟩:=HF.out w1 (hE.farM hb1);replace hB:=HB.out W w1 hB hb1;clear hnn))
        go_ret;exact ⟨aA HR.out.symm,hB⟩
      have HR:ac (RB=true):=⟨by rw [HH.out];simp [q1,q2,q3,q9]⟩
      go_wp2_with (first
       |(refine ao (by kernel_rfl) 26 _ rfl w.heap.size 11 rfl DP rD uD rfl iD ?_)
       |(go_at_call 83;refine hnn.mono ?_;rintro e w1 ⟨rfl,hb1⟩;obtain ⟨c10,c13,c14,c15,c16,rD1,rV1⟩:=HF.out w1 (hE.farM hb1);replace hB:=HB.out W w1 hB hb1;clear hnn))
      go_ret;exact ⟨aA HR.out.symm,hB⟩
    have g3':(KD==3)=false:=by simpa using g3
    by_cases g4:KD=4
    · subst g4
      replace HH:ac (RB=((decide (WO<8)&&(RO==0))&&(nb&&(!ri&&(CH==0))))):=⟨by rw [HH.out,if_neg g1,if_neg g2,if_neg g3,if_pos rfl]⟩
      by_cases q1:WO<8
      rotate_left
      · skip
        have HR:ac (RB=false):=⟨by rw [HH.out];simp [q1]⟩
        go_wp2;go_ret;exact ⟨aA HR.out.symm,hB⟩
      by_cases q2:(RO==0)=true
      rotate_left
      · have q2:(RO==0)=false:=by simpa using q2
        have HR:ac (RB=false):=⟨by rw [HH.out];simp [q1,q2]⟩
        go_wp2;go_ret;exact ⟨aA HR.out.symm,hB⟩
      cases nb
      · have HR:ac (RB=false):=⟨by rw [HH.out];simp⟩
        go_wp2_with (first
         |(refine ao (by kernel_rfl) 26 _ rfl w.heap.size 11 rfl DP rD uD rfl iD ?_)
         |(go_at_call 83;refine hnn.mono ?_;rintro e w1 ⟨rfl,hb1⟩;obtain ⟨c10,c13,c14,c15,c16,rD1,rV1⟩:=HF.out w1 (hE.farM hb1);replace hB:=HB.out W w1 hB hb1;clear hnn))
        go_ret;exact ⟨aA HR.out.symm,hB⟩
      cases ri;rotate_left
      · have HR:ac (RB=false):=⟨by rw [HH.out];simp⟩
        go_wp2_with (first
         |(refine ao (by kernel_rfl) 26 _ rfl w.heap.size 11 rfl DP rD uD rfl iD ?_)
         |(go_at_call 83;refine hnn.mono ?_;rintro e w1 ⟨rfl,hb1⟩;obtain ⟨c10,c13,c14,c15,c16,rD1,rV1⟩:=HF.out w1 (hE.farM hb1);replace hB:=HB.out W w1 hB hb1;clear hnn))
        go_ret;exact ⟨aA HR.out.symm,hB⟩
      by_cases q9:(CH==0)=true
      rotate_left
      · have q9:(CH==0)=false:=by simpa using q9
        have HR:ac (RB=false):=⟨by rw [HH.out];simp [q9]⟩
        go_wp2_with (first
         |(refine ao (by kernel_rfl) 26 _ rfl w.heap.size 11 rfl DP rD uD rfl iD ?_)
         |(go_at_call 83;refine hnn.mono ?_;rintro e w1 ⟨rfl,hb1⟩;obtain ⟨c10,c13,c14,c15,c16,rD1,rV1⟩:=HF.out w1 (hE.farM hb1);replace hB:=HB.out W w1 hB hb1;clear hnn))
        go_ret;exact ⟨aA HR.out.symm,hB⟩
      have HR:ac (RB=true):=⟨by rw [HH.out];simp [q1,q2,q9]⟩
      go_wp2_with (first
       |(refine ao (by kernel_rfl) 26 _ rfl w.heap.size 11 rfl DP rD uD rfl iD ?_)
       |(go_at_call 83;refine hnn.mono ?_;rintro e w1 ⟨rfl,hb1⟩;obtain ⟨c10,c13,c14,c15,c16,rD1,rV1⟩:=HF.out w1 (hE.farM hb1);replace hB:=HB.out W w1 hB hb1;clear hnn))
      go_ret;exact ⟨aA HR.out.symm,hB⟩
    have g4':(KD==4)=false:=by simpa using g4
    have HR:ac (RB=false):=⟨by rw [HH.out,if_neg g1,if_neg g2,if_neg g3,if_neg g4]⟩
    clear g1 g2 g3 g4 hnn HH;go_wp2;go_ret;exact ⟨aA HR.out.symm,hB⟩
end Go.Proofs.YtbdhfbglagdiaaaGreatDoor
