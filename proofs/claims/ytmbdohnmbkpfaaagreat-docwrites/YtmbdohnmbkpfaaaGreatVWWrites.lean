/- DocWritesW -/
import Derived.Test.YtmbdohnmbkpfaaaGreatV44
import Derived.Test.YtmbdohnmbkpfaaaGreatV50
import Derived.Test.YtmbdohnmbkpfaaaGreatV27
namespace Go.Proofs.YtmbdohnmbkpfaaaGreat
open Go.RowKit Go.Shelf
set_option maxRecDepth 20000
set_option linter.unusedSimpArgs false
theorem strOfNums_app (a b : List Int) : strOfNums a ++ strOfNums b = strOfNums (a ++ b) := by
 apply ByteArray.ext
 simp [strOfNums]
theorem Bytes.turnD {p : Nat → Prop} {w w' : World} {x : Option Addr} {len cap : Nat} {z : List Int} (h : Bytes w x len cap z) (ht : Turn p w w') (hp : ∀ a, x = some a → ¬ p a.block) : Bytes w' x len cap z :=
 ⟨h.len_eq, h.le, h.top, h.nil, by
  rcases h.at_ with h0 | ⟨b, off, hx, hc⟩
  · exact .inl h0
  · exact .inr ⟨b, off, hx, fun j hj => by
     have h1 := hc j hj
     exact (World.cell?_of_block (a := ⟨b, off + j, none⟩) (ht.block b (block_lt_of_cell h1) (hp _ hx))).trans h1⟩⟩
theorem OwnB.openD {w : World} {base : Nat} {v : Value} {z : List Int} (h : OwnB w base v z) : ∃ x c, v = .slice x z.length c ∧ Bytes w x z.length c z ∧ ∀ a, x = some a → base ≤ a.block ∧ a.block < w.heap.size := by
 obtain ⟨x, n, c, rfl, rfl⟩ := h.isSlice
 refine ⟨x, c, rfl, h.bytes.2, fun a ha => ?_⟩
 rcases h.2 with ⟨h1, _⟩ | ⟨g, cap, cur, h1, hb, hg, _⟩
 · injection h1 with h1; rw [ha] at h1; cases h1
 · injection h1 with h1; rw [ha] at h1; cases h1
   refine ⟨hb, ?_⟩
   exact (Array.getElem?_eq_some_iff.1 hg).1
structure WrI (w : World) (B : Nat) (Ec : List Value) (D : Nat) (tx : Option Addr) (tn tc : Nat) (z : List Int) (s : Ds) (K : List (Nat × List Value)) (W : World) : Prop where
 doc : ∃ p : Pl, p.D = D ∧ DocAt W B s p ∧ (∀ k, docP p k → B ≤ k) ∧ (∀ x ∈ K, ¬ docP p x.1) ∧ (∀ a, tx = some a → a.block < W.heap.size ∧ ¬ docP p a.block)
 good : GoodD s
 bytes : Bytes W tx tn tc z
 kept : ∀ x ∈ K, CellsAt W x.1 44 x.2
 below : Below w.heap.size w W
 edit : CellsAt W w.heap.size 56 Ec
 size : B ≤ W.heap.size
section
variable {w : World} {B : Nat} {Ec : List Value} {D : Nat} {tx : Option Addr} {tn tc : Nat} {z : List Int} {s : Ds} {K : List (Nat × List Value)} {W W' : World}
theorem WrI.far (h : WrI w B Ec D tx tn tc z s K W) (hb : Below W.heap.size W W') : WrI w B Ec D tx tn tc z s K W' := by
 obtain ⟨p, h1, h2, h3, h4, h5⟩ := h.doc
 exact ⟨⟨p, h1, h2.far hb, h3, h4, fun a ha => ⟨by have := (h5 a ha).1; have := hb.size; omega, (h5 a ha).2⟩⟩, h.good, h.bytes.below hb, fun x hx => (h.kept x hx).farM hb, h.below.trans (hb.mono h.below.size), h.edit.farM hb, Nat.le_trans h.size hb.size⟩
theorem WrI.store (h : WrI w B Ec D tx tn tc z s K W) (cs : List Value) : WrI w B Ec D tx tn tc z s ((W.heap.size, cs) :: K) ((W.alloc (.cells zC.toArray 44)).setRow W.heap.size cs.toArray) := by
 have hb := below_setRow ((Below.refl _ _).alloc (Nat.le_refl _) (.cells zC.toArray 44)) (Nat.le_refl W.heap.size) cs.toArray
 have hf := h.far hb
 obtain ⟨p, h1, h2, h3, h4, h5⟩ := h.doc
 obtain ⟨-, -, -, -, -, g6, g7⟩ := hf
 refine ⟨⟨p, h1, h2.far hb, h3, fun x hx => ?_, fun a ha => ⟨by have := (h5 a ha).1; have := hb.size; omega, (h5 a ha).2⟩⟩, h.good, h.bytes.below hb, fun x hx => ?_, h.below.trans (hb.mono h.below.size), g6, g7⟩
 · rcases List.mem_cons.1 hx with rfl | q
   · exact fun q => by have := h2.blockLt _ q; omega
   · exact h4 x q
 · rcases List.mem_cons.1 hx with rfl | q
   · exact (CellsAt.new W 44 zC).setRow cs
   · exact (h.kept x q).farM hb
theorem WrI.apply (hw : w.heap.size < B) (h : WrI w B Ec D tx tn tc z s K W) {e : Ev} (he : e.Ok) (hr : refD s e = 0) :
    Calls Tryz.prog 18 #[.pointer (some ⟨D, 0, none⟩), .agg e.cells.toArray] W fun r w' => r = .returned (.int .i64 0) ∧ WrI w B Ec D tx tn tc z (apS s e) K w' := by
 obtain ⟨p, rfl, h2, h3, h4, h5⟩ := h.doc
 refine (dApply_any B s p e W h2 h.good he h.size).mono ?_
 rintro r w' ⟨g1, p', g2, ht⟩
 rw [hr] at g1
 rw [show doS s e = apS s e from if_pos hr] at g2
 have hnew : ∀ k, k < W.heap.size → ¬ docP p k → ¬ docP p' k := fun k hk hn q => by
  rcases ht.own k q with r | r
  · exact hn r
  · omega
 have hbel := ht.turn.below h.size h3
 refine ⟨g1, ⟨p', ht.at_, g2, fun k q => ?_, fun x hx => hnew _ (h.kept x hx).lt (h4 x hx), fun a ha => ⟨?_, hnew _ (h5 a ha).1 (h5 a ha).2⟩⟩, h.good.ap he hr, h.bytes.turnD ht.turn (fun a ha => (h5 a ha).2), fun x hx => (h.kept x hx).congr (ht.turn.block _ (h.kept x hx).lt (h4 x hx)), h.below.trans (hbel.mono (Nat.le_of_lt hw)), h.edit.congr (hbel.block _ hw), Nat.le_trans h.size hbel.size⟩
 · rcases ht.own k q with r | r
   · exact h3 k r
   · have := h.size; omega
 · have := (h5 a ha).1; have := hbel.size; omega
theorem WrI.text (h : WrI w B Ec D tx tn tc z s K W) : Calls Tryz.prog 20 #[.pointer (some ⟨D, 0, none⟩)] W fun r w' => ∃ x c, r = .returned (.slice x (textN s.N).length c) ∧ Bytes w' x (textN s.N).length c (textN s.N) ∧ Below W.heap.size W w' := by
 obtain ⟨p, rfl, h2, -⟩ := h.doc
 refine (dText_any B s p W h2 h.good).mono ?_
 rintro r w' ⟨v, rfl, ho, hb⟩
 obtain ⟨x, c, rfl, hB, -⟩ := ho.openD
 exact ⟨x, c, rfl, hB, hb⟩
theorem WrI.force (h : WrI w B Ec D tx tn tc z s K W) {x : Int × Int} (hx : okDF x) (hm : x ∈ s.F) : Calls Tryz.prog 19 #[.pointer (some ⟨D, 0, none⟩), .agg (encF x).toArray] W fun r w' => r = .returned (.bool true) ∧ Below W.heap.size W w' := by
 obtain ⟨p, rfl, h2, -⟩ := h.doc
 have := dForce_any B s p x hx W h2 h.good
 rw [decide_eq_true hm] at this
 exact this
theorem WrI.write (h : WrI w B Ec D tx tn tc z s K W) {a i c : Int} (ha : 0 ≤ a) (hi : i ≤ 9223372036854775807) : Calls Tryz.prog 25 #[.pointer (some ⟨D, 0, none⟩), .int .u8 a, .int .i64 i, .int .u8 c] W fun r w' => r = .returned (.tuple #[.agg (tellW s a i c).1.cells.toArray, .int .i64 (tellW s a i c).2]) ∧ Below W.heap.size W w' := by
 obtain ⟨p, rfl, h2, -⟩ := h.doc
 exact dWrite_any B s p a i c W h2 h.good ha hi
theorem WrI.erase (h : WrI w B Ec D tx tn tc z s K W) {a i : Int} (ha : 0 ≤ a) : Calls Tryz.prog 26 #[.pointer (some ⟨D, 0, none⟩), .int .u8 a, .int .i64 i] W fun r w' => r = .returned (.tuple #[.agg (tellE s a i).1.cells.toArray, .int .i64 (tellE s a i).2]) ∧ Below W.heap.size W w' := by
 obtain ⟨p, rfl, h2, -⟩ := h.doc
 exact dErase_any B s p a i W h2 h.good ha
end
theorem text_few {s : Ds} (h : GoodD s) : (textN s.N).length ≤ 512 := by
 rw [text_len]
 have h1 : (wrN s.N).length ≤ (walkA s.N rootS).length := List.length_filter_le _ _
 rw [h.tree.len] at h1
 have := h.nlen
 have := h.llen
 omega
set_option maxHeartbeats 16000000 in
theorem dwrites_walk (x : Option Addr) (len cap : Nat) (L : List Ed) (X : Ed) (hX : X.Ok) (w : World) (hL : EdsAt w x len cap L) :
    Calls Tryz.prog 6 #[.slice x len cap, .agg X.cells.toArray] w fun r w' => r = .returned (.bool true) ∧ Below w.heap.size w w' := by
 have hB0 : Below w.heap.size w (w.alloc (.cells X.cells.toArray 56)) := (Below.refl _ _).alloc (Nat.le_refl _) _
 have hx0 := CellsAt.new w 56 X.cells
 have hpl := play10_any x len cap L (w.alloc (.cells X.cells.toArray 56)) (hL.below hB0)
 obtain ⟨K0, G0, hre⟩ := reach_play (L.take 50) (fun X hX => hL.ok X (List.mem_of_mem_take hX))
 obtain ⟨st, hst⟩ : ∃ q, playX (L.take 50) = q := ⟨_, rfl⟩
 rw [hst] at hre
 obtain ⟨B, hBB⟩ : ∃ q, (w.alloc (.cells X.cells.toArray 56)).heap.size = q := ⟨_, rfl⟩
 have hwB : w.heap.size < B := by rw [← hBB, World.size_alloc]; omega
 obtain ⟨E, hE⟩ : ∃ E, X.cells = E := ⟨_, rfl⟩
 have HPL : Veil (∀ v0 W, PlayX (w.alloc (.cells X.cells.toArray 56)) L v0 W → ∃ D Q, v0 = .tuple #[.pointer (some ⟨D, 0, none⟩), .pointer (some ⟨Q, 0, none⟩), .bool true] ∧ BothD B W st st D Q [] ∧ Below w.heap.size w W ∧ CellsAt W w.heap.size 56 E ∧ B ≤ W.heap.size) := ⟨fun v0 W ⟨D, Q, h1, h2, h3⟩ => by
  rw [hBB, hst] at h2
  exact ⟨D, Q, h1, h2, hB0.trans (h3.mono hB0.size), by rw [← hE]; exact hx0.congr (h3.block _ (by rw [World.size_alloc]; omega)), by rw [← hBB]; exact h3.size⟩⟩
 have HLV : Veil (∀ W, Calls Tryz.prog 12 #[] W fun e w' => e = .returned (.bool true) ∧ Below W.heap.size W w') := ⟨fun W => live10_any W⟩
 have HXC : Veil (∀ W, CellsAt W w.heap.size 56 E → W.cell? ⟨w.heap.size, 1, none⟩ = some (.int .u8 X.au) ∧ W.cell? ⟨w.heap.size, 3, none⟩ = some (.int .i64 X.i) ∧ W.cell? ⟨w.heap.size, 4, none⟩ = some (.int .u8 X.c)) := ⟨fun W hx => by
  rw [← hE] at hx
  exact ⟨(hx.cell 1).trans rfl, (hx.cell 3).trans rfl, (hx.cell 4).trans rfl⟩⟩
 have ha0 := hX.au.1
 have hi1 := hX.i.2
 obtain ⟨z, hz⟩ : ∃ q, textN st.N = q := ⟨_, rfl⟩
 obtain ⟨tn, htn⟩ : ∃ q, z.length = q := ⟨_, rfl⟩
 have ht5 : tn ≤ 512 := by rw [← htn, ← hz]; exact text_few hre.good.1
 have HTX : Veil (∀ W D Q, BothD B W st st D Q [] → Below w.heap.size w W → CellsAt W w.heap.size 56 E → B ≤ W.heap.size → Calls Tryz.prog 20 #[.pointer (some ⟨D, 0, none⟩)] W fun r w' => ∃ tx tc, r = .returned (.slice tx tn tc) ∧ WrI w B E D tx tn tc z st [] w') := ⟨fun W D Q ⟨p, q, e1, _, h⟩ hb hx hs => by
  subst e1
  refine (dText_any B st p W h.d h.g1).mono ?_
  rintro r w' ⟨v, rfl, ho, hb1⟩
  rw [hz] at ho
  obtain ⟨tx, tc, rfl, hby, hfr⟩ := ho.openD
  rw [htn] at hby ⊢
  exact ⟨tx, tc, rfl, ⟨⟨p, rfl, h.d.far hb1, h.a1, (fun x hx => by cases hx), fun a ha => ⟨(hfr a ha).2, fun r => by have := h.d.blockLt _ r; have := (hfr a ha).1; omega⟩⟩, h.g1, hby, (fun x hx => by cases hx), hb.trans (hb1.mono hb.size), hx.farM hb1, Nat.le_trans hs hb1.size⟩⟩⟩
 have HWR : Veil (∀ W D tx tc K, WrI w B E D tx tn tc z st K W → Calls Tryz.prog 25 #[.pointer (some ⟨D, 0, none⟩), .int .u8 X.au, .int .i64 X.i, .int .u8 X.c] W fun r w' => r = .returned (.tuple #[.agg (tellW st X.au X.i X.c).1.cells.toArray, .int .i64 (tellW st X.au X.i X.c).2]) ∧ Below W.heap.size W w') := ⟨fun W D tx tc K h => h.write ha0 hi1⟩
 obtain ⟨e1, F1, hg1, hp1, hc1⟩ := writes_w hre (au := X.au) (i := X.i) (c := X.c) ha0
 rw [hg1] at HWR
 generalize X.au = au at HXC HWR hc1 ha0
 generalize X.i = i at HXC HWR hc1 hi1
 generalize X.c = c at HXC HWR hc1
 have he1 := aev_len e1 hp1
 have h1E := aev_one e1
 have iE : (Tryz.prog.info? 44).map (·.size) = some e1.cells.length := by rw [he1]; kernel_rfl
 have iZ : (Tryz.prog.info? 44).map (·.size) = some zC.length := by show _ = some 17; kernel_rfl
 have uE := Tryz.underlying44
 have uD := Tryz.underlying40
 have hZ17 : zC.length = e1.cells.length := by rw [he1]; rfl
 have HTS : Veil (∀ W D tx tc s K zs, textN s.N = zs → WrI w B E D tx tn tc z s K W → Calls Tryz.prog 20 #[.pointer (some ⟨D, 0, none⟩)] W fun r w' => ∃ x c, r = .returned (.slice x zs.length c) ∧ Bytes w' x zs.length c zs ∧ Below W.heap.size W w') := ⟨fun W D tx tc s K zs hzs h => by subst hzs; exact h.text⟩
 have HE1 : Veil ((F1 ≠ 0 ∧ e1.cells = zC) ∨ (F1 = 0 ∧ WritesB st au i c e1)) := ⟨hc1.imp (fun ⟨a, b⟩ => ⟨a, by rw [b]; rfl⟩) id⟩
 have HDE : Veil ((e1.cells.drop 0).take 2 = encF e1.dot) := ⟨ev_dot e1 hp1⟩
 have HAP : Veil (WritesB st au i c e1 → ∀ D tx tc K W, WrI w B E D tx tn tc z st K W → Calls Tryz.prog 18 #[.pointer (some ⟨D, 0, none⟩), .agg e1.cells.toArray] W fun r w' => r = .returned (.int .i64 0) ∧ WrI w B E D tx tn tc z (apS st e1) K w') := ⟨fun hb D tx tc K W h => h.apply hwB hb.ok hb.ref⟩
 have HWB : Veil (WritesB st au i c e1 → okDF e1.dot ∧ e1.dot ∈ (apS st e1).F ∧ textN (apS st e1).N = z.take i.toNat ++ [c] ++ z.drop i.toNat ∧ 0 ≤ i ∧ i.toNat ≤ tn ∧ au < 8 ∧ (∃ K G, Reach (apS st e1) K G) ∧ 2 ≤ roleP (apS st e1).B au (apS st e1).S) := ⟨fun h => ⟨h.ok.dot, h.force, by rw [h.text, hz], h.at0, by have := h.atl; rw [hz, htn] at this; exact this, h.au8, h.reach, h.role⟩⟩
 clear hc1 hp1 hg1 he1
 generalize e1.cells = E1 at HWR h1E iE hZ17 HE1 HDE HAP
 have HAP' := HAP
 clear hE hX hL hB0 hx0 hBB hst hre
 have hwt : IntKind.i64.wrap ((tn : Int) + 1) = (tn : Int) + 1 := by rw [IntKind.wrap_i64]; omega
 go_enter Tryz.func6, Tryz.ntmps6
 go_upto_region 5 with (first
  | (go_at_call 11; refine hpl.mono ?_; rintro z W1 ⟨v0, rfl, hpr⟩; obtain ⟨D, Q, rfl, hD1, hb1, hx1, hs1⟩ := HPL.out v0 W1 hpr; have hlv := HLV.out W1; clear hpl hpr)
  | (go_at_call 12; refine hlv.mono ?_; rintro z W2 ⟨rfl, hb2⟩; have htx := HTX.out W2 D Q (hD1.far hb2) (hb1.trans (hb2.mono hb1.size)) (hx1.farM hb2) (Nat.le_trans hs1 hb2.size); clear hlv hb2 hD1 hb1 hx1 hs1)
  | (go_at_call 20; refine htx.mono ?_; rintro z W3 ⟨tx, tc, rfl, h3⟩; clear htx))
 obtain ⟨c1, c3, c4⟩ := HXC.out W3 h3.edit
 have hwr := HWR.out W3 D tx tc [] h3
 have H3 := Veil.mk h3
 clear h3 HWR HPL HLV HTX
 go_upto_region 6 with (first
  | (go_at_call 25; refine hwr.mono ?_; rintro z W4 ⟨rfl, hb4⟩; have hz4 := CellsAt.new W4 44 zC; unfold zC at hz4; clear hwr)
  | (refine wpList_stv (cs := E1) rfl 44 _ _ rfl W4.heap.size rfl rfl hz4 iE hZ17 h1E ?_))
 have h5 := (H3.out.far hb4).store E1
 unfold zC at h5
 refine forget (p := fun y => Code.wp _ _ _ _ y) (fun W => WrI w B E D tx tn tc z st [(W4.heap.size, E1)] W) h5 ?_
 generalize W4.heap.size = b1
 clear h5 hz4 hb4 c1 c3 c4 H3 W2 W3 W4
 rintro W5 h5
 have r5 := (h5.kept _ (List.mem_cons_self ..)).wholeM
 rcases HE1.out with ⟨hF, hEZ⟩ | ⟨rfl, hWB⟩
 · have hF1 : (F1 != 0) = true := by simpa using hF
   subst hEZ
   clear HE1 HAP HAP' HDE HWB
   go_upto_region 7 with fail
   have h5d := h5.far ((Below.refl _ _).drew : Below W5.heap.size W5 W5.drew)
   have htx := HTS.out _ _ _ _ _ _ _ hz h5d
   rw [htn] at htx
   have HCV : Veil (∀ W2 x c, Bytes W2 x tn c z → (convert 30 9 (.slice x tn c)).run Tryz.prog W2 = .ok (.string (strOfNums z)) W2) := ⟨fun W2 x c h => conv_bytes h⟩
   generalize strOfNums z = S0 at HCV
   have hcz := h5d.bytes
   unfold zC at iZ r5 h5d
   refine wp_region_gateT (fun W : World => W.rangeAt b1 0 [.int .u8 0, .int .u32 0, .int .u32 0, .int .u32 0, .int .u32 0, .int .u32 0, .int .u32 0, .int .u32 0, .int .u32 0, .int .u32 0, .int .u8 0, .int .u8 0, .int .u32 0, .bool false, .int .u8 0, .int .u8 0, .int .u8 0] ∧ (convert 30 9 (.slice tx tn tc)).run Tryz.prog W = .ok (.string S0) W) (fun _ => True) 99 (by kernel_rfl) ?_
   have hT : (fun W : World => W.rangeAt b1 0 [.int .u8 0, .int .u32 0, .int .u32 0, .int .u32 0, .int .u32 0, .int .u32 0, .int .u32 0, .int .u32 0, .int .u32 0, .int .u32 0, .int .u8 0, .int .u8 0, .int .u32 0, .bool false, .int .u8 0, .int .u8 0, .int .u8 0] ∧ (convert 30 9 (.slice tx tn tc)).run Tryz.prog W = .ok (.string S0) W) W5.drew := ⟨(h5d.kept _ (List.mem_cons_self ..)).wholeM, HCV.out _ _ _ h5d.bytes⟩
   have hS : (fun _ : World => True) W5.drew := trivial
   have HEQ : Veil (∀ wx : World, (binOp BinOp.eql 44 (.agg ([.int .u8 0, .int .u32 0, .int .u32 0, .int .u32 0, .int .u32 0, .int .u32 0, .int .u32 0, .int .u32 0, .int .u32 0, .int .u32 0, .int .u8 0, .int .u8 0, .int .u32 0, .bool false, .int .u8 0, .int .u8 0, .int .u8 0] : List Value).toArray) (.agg ([.int .u8 0, .int .u32 0, .int .u32 0, .int .u32 0, .int .u32 0, .int .u32 0, .int .u32 0, .int .u32 0, .int .u32 0, .int .u32 0, .int .u8 0, .int .u8 0, .int .u32 0, .bool false, .int .u8 0, .int .u8 0, .int .u8 0] : List Value).toArray)).run Tryz.prog wx = .ok (.bool true) wx) := ⟨fun _ => by kernel_rfl⟩
   refine gl 0 41 44 9 b1 0 [.int .u8 0,.int .u32 0,.int .u32 0,.int .u32 0,.int .u32 0,.int .u32 0,.int .u32 0,.int .u32 0,.int .u32 0,.int .u32 0,.int .u8 0,.int .u8 0,.int .u32 0,.bool false,.int .u8 0,.int .u8 0,.int .u8 0] (by kernel_rfl) (by kernel_rfl) (by kernel_rfl) (fun _ _ _ h => h) hT hS (by kernel_rfl) (fun _ h => h.1) uE rfl iZ ?_
   simp only [Act.put, gA, gS, gZ, sI, sZ, sS]
   refine ghA 1 _ hT hS ?_
   simp only [Act.put, gA, gS, gZ, sI, sZ, sS]
   refine wpAnyT_held (i := 2) (v := (.bool true)) rfl (by kernel_rfl) (by kernel_rfl) (by kernel_rfl) (fun _ _ _ h => h) (by kernel_rfl) hT (fun _ => hS) (by kernel_rfl) (fun wx h => exec_eqF rfl rfl rfl (by go_simp) (HEQ.out wx)) ?_
   simp only [Act.put, gA, gS, gZ, sI, sZ, sS]
   refine ghA 3 _ hT hS ?_
   simp only [Act.put, gA, gS, gZ, sI, sZ, sS]
   refine ghA 4 _ hT hS ?_
   simp only [Act.put, gA, gS, gZ, sI, sZ, sS]
   refine ghA 7 _ hT hS ?_
   simp only [Act.put, gA, gS, gZ, sI, sZ, sS]
   refine ghA 8 _ hT hS ?_
   simp only [Act.put, gA, gS, gZ, sI, sZ, sS]
   refine wpAnyT_one (i := 5) rfl (by kernel_rfl) (by kernel_rfl) (fun K hK => ?_)
   refine wpx_call _ _ (by kernel_rfl) (htx.mono ?_)
   rintro y W6 ⟨x6, y6, rfl, hb6, hw6⟩
   refine ⟨_, rfl, ?_⟩
   have h6 := h5d.far hw6
   replace hT : (fun W : World => W.rangeAt b1 0 [.int .u8 0, .int .u32 0, .int .u32 0, .int .u32 0, .int .u32 0, .int .u32 0, .int .u32 0, .int .u32 0, .int .u32 0, .int .u32 0, .int .u8 0, .int .u8 0, .int .u32 0, .bool false, .int .u8 0, .int .u8 0, .int .u8 0] ∧ (convert 30 9 (.slice tx tn tc)).run Tryz.prog W = .ok (.string S0) W) W6 := ⟨(h6.kept _ (List.mem_cons_self ..)).wholeM, HCV.out _ _ _ h6.bytes⟩
   replace hS : (fun _ : World => True) W6 := trivial
   clear htx h5d hw6
   refine hK.out _ _ hT (fun _ => hS) ?_
   clear hK K
   try simp only [Act.put, gA, gS, gZ, sI, sZ, sS]
   refine wpAnyT_more (T' := fun W : World => (W.rangeAt b1 0 [.int .u8 0, .int .u32 0, .int .u32 0, .int .u32 0, .int .u32 0, .int .u32 0, .int .u32 0, .int .u32 0, .int .u32 0, .int .u32 0, .int .u8 0, .int .u8 0, .int .u32 0, .bool false, .int .u8 0, .int .u8 0, .int .u8 0] ∧ (convert 30 9 (.slice tx tn tc)).run Tryz.prog W = .ok (.string S0) W) ∧ (convert 30 9 (.slice x6 tn y6)).run Tryz.prog W = .ok (.string S0) W) (fun _ h => h.1) _ _ _ _ ?_
   replace hT : (fun W : World => (W.rangeAt b1 0 [.int .u8 0, .int .u32 0, .int .u32 0, .int .u32 0, .int .u32 0, .int .u32 0, .int .u32 0, .int .u32 0, .int .u32 0, .int .u32 0, .int .u8 0, .int .u8 0, .int .u32 0, .bool false, .int .u8 0, .int .u8 0, .int .u8 0] ∧ (convert 30 9 (.slice tx tn tc)).run Tryz.prog W = .ok (.string S0) W) ∧ (convert 30 9 (.slice x6 tn y6)).run Tryz.prog W = .ok (.string S0) W) W6 := ⟨hT, HCV.out _ _ _ hb6⟩
   refine ghA 6 _ hT hS ?_
   simp only [Act.put, gA, gS, gZ, sI, sZ, sS]
   refine ghA 9 (.bool true) hT hS ?_
   simp only [Act.put, gA, gS, gZ, sI, sZ, sS]
   refine ghA 10 _ hT hS ?_
   simp only [Act.put, gA, gS, gZ, sI, sZ, sS]
   refine ghA 11 _ hT hS ?_
   simp only [Act.put, gA, gS, gZ, sI, sZ, sS]
   refine wpAnyT_done (by kernel_rfl) ?_ _
   have HQ := Veil.mk h6.below
   clear hT hS h6
   go_wp2
   go_ret
   exact ⟨rfl, HQ.out⟩
 · obtain ⟨hdk, hfo, htx1, hi0, hil, ha8, ⟨K1, G1, hre1⟩, hro⟩ := HWB.out hWB
   have hap := HAP.out hWB D tx tc _ W5 h5
   have hfew := text_few hre1.good.1
   clear HE1 HAP HAP' h5 HWB hWB
   obtain ⟨k, rfl⟩ := Int.eq_ofNat_of_zero_le hi0
   rw [Int.toNat_natCast] at htx1 hil
   have HDE' := HDE.out
   generalize e1.dot = dt at hdk hfo HDE'
   have HFO : Veil (∀ s W, dt ∈ s.F → WrI w B E D tx tn tc z s [(b1, E1)] W → Calls Tryz.prog 19 #[.pointer (some ⟨D, 0, none⟩), .agg (encF dt).toArray] W fun r w' => r = .returned (.bool true) ∧ Below W.heap.size W w') := ⟨fun s W hm h => h.force hdk hm⟩
   have hN1 := hre1.good.1
   generalize apS st e1 = s1 at hap hfo htx1 hre1 hro hfew hN1
   have HDR : Veil (∀ s W, WrI w B E D tx tn tc z s [(b1, E1)] W → W.rangeAt b1 0 (encF dt)) := ⟨fun s W h => by
    have := (h.kept _ (List.mem_cons_self ..)).range 0 2
    rw [HDE'] at this
    exact this⟩
   have iD : (Tryz.prog.info? 40).map (·.size) = some (encF dt).length := sizeDot
   have HFO' : Veil (∀ W, WrI w B E D tx tn tc z s1 [(b1, E1)] W → Calls Tryz.prog 19 #[.pointer (some ⟨D, 0, none⟩), .agg (encF dt).toArray] W fun r w' => r = .returned (.bool true) ∧ Below W.heap.size W w') := ⟨fun W h => HFO.out s1 W hfo h⟩
   generalize encF dt = DT at HDR iD HFO'
   clear HFO hfo hdk HDE HDE'
   go_upto_region 10 with (first
    | (refine wpList_ldv rfl 44 _ rfl b1 0 rfl E1 r5 uE rfl iE ?_)
    | (go_at_call 18; refine hap.mono ?_; rintro z W6 ⟨rfl, h6⟩; have r6 := HDR.out _ _ h6; have hfo := HFO'.out _ h6; clear hap)
    | (refine wpList_ldgv (by kernel_rfl) 40 _ rfl b1 0 rfl DT r6 uD rfl iD ?_)
    | (go_at_call 19; refine hfo.mono ?_; rintro z W7 ⟨rfl, hb7⟩; clear hfo))
   have h7 := h6.far hb7
   have hzl : (z.take k ++ [c] ++ z.drop k).length = tn + 1 := by rw [← htn] at hil ⊢; simp only [List.length_append, List.length_take, List.length_drop, List.length_singleton]; omega
   have HBK : Veil ((z.take k ++ [c] ++ z.drop k).take k ++ (z.take k ++ [c] ++ z.drop k).drop (k + 1) = z) := ⟨text_back (by rw [htn]; exact hil)⟩
   have hgk0 : (z.take k ++ [c] ++ z.drop k)[k]? = some c := by
    have hl : (z.take k).length = k := by rw [List.length_take, htn]; omega
    rw [List.append_assoc, List.getElem?_append_right (by omega), hl]; simp
   have hkl1 : k < (textN s1.N).length := by rw [htx1, hzl]; omega
   generalize z.take k ++ [c] ++ z.drop k = z1 at htx1 hzl HBK hgk0
   have htt := HTS.out _ _ _ _ _ _ _ htx1 h7
   rw [hzl] at htt
   have H7 := Veil.mk h7
   clear h6 h7 hb7 r6 r5 HFO' HDR W6
   go_upto_region 11 with (go_at_call 20; refine htt.mono ?_; rintro z W8 ⟨gx, gc, rfl, hy8, hb8⟩; clear htt)
   have h8 := (H7.out.far hb8).far ((Below.refl _ _).drew : Below W8.heap.size W8 W8.drew)
   have hy9 := hy8.below ((Below.refl _ _).drew : Below W8.heap.size W8 W8.drew)
   obtain ⟨c1, c3, c4⟩ := HXC.out _ h8.edit
   obtain ⟨g, rfl⟩ : ∃ g, gx = some g := by
    rcases hy9.at_ with h | ⟨b, off, hx, -⟩
    · omega
    · exact ⟨_, hx⟩
   obtain ⟨gb, go, hgo, hgc⟩ : ∃ gb go, g = ⟨gb, go, none⟩ ∧ W8.drew.cell? ⟨gb, go + k, none⟩ = some (.int .u8 c) := by
    rcases hy9.at_ with h | ⟨b, off, hx, hc⟩
    · omega
    · injection hx with hx
      refine ⟨b, off, hx, ?_⟩
      have := hc k (by omega)
      rw [hgk0] at this
      exact this
   subst hgo
   have cut1 : ∀ wx, (Instr.slice 30 (.slice (some ⟨gb, go, none⟩) (tn + 1) gc) none (some (.int .i64 (k : Int))) none).run Tryz.prog wx = .ok (.slice (subA (some ⟨gb, go, none⟩) gc 0) k gc) wx := fun wx => run_cut_h wx _ (tn + 1) gc k (by have := hy9.le; omega)
   have cut3 : ∀ wx, (Instr.slice 30 (.slice (some ⟨gb, go, none⟩) (tn + 1) gc) (some (.int .i64 ((k : Int) + 1))) none none).run Tryz.prog wx = .ok (.slice (subA (some ⟨gb, go, none⟩) gc (k + 1)) (tn - k) (gc - (k + 1))) wx := fun wx => by
    have := run_cut_l wx (some ⟨gb, go, none⟩) (tn + 1) gc (k + 1) (by omega)
    rw [show tn + 1 - (k + 1) = tn - k by omega] at this
    push_cast at this
    exact this
   have q1 := hy9.cut 0 k (by omega) (by omega)
   have q3 := hy9.cut (k + 1) (tn + 1) (by omega) (by omega)
   rw [List.drop_zero, Nat.sub_zero, Nat.sub_zero] at q1
   rw [List.take_of_length_le (by rw [List.length_drop, hzl]; omega), show tn + 1 - (k + 1) = tn - k by omega] at q3
   have v0 : (convert 30 9 (.slice tx tn tc)).run Tryz.prog W8.drew = .ok (.string (strOfNums z)) W8.drew := conv_bytes h8.bytes
   have v1 : (convert 30 9 (.slice (subA (some ⟨gb, go, none⟩) gc 0) k gc)).run Tryz.prog W8.drew = .ok (.string (strOfNums (z1.take k))) W8.drew := conv_bytes q1
   have v3 : (convert 30 9 (.slice (subA (some ⟨gb, go, none⟩) gc (k + 1)) (tn - k) (gc - (k + 1)))).run Tryz.prog W8.drew = .ok (.string (strOfNums (z1.drop (k + 1)))) W8.drew := conv_bytes q3
   have hss : strOfNums (z1.take k) ++ strOfNums (z1.drop (k + 1)) = strOfNums z := by rw [strOfNums_app, HBK.out]
   have HSZ : Veil (¬ 9223372036854775807 < (strOfNums (z1.take k)).size + (strOfNums (z1.drop (k + 1))).size) := ⟨by rw [strOfNums_size, strOfNums_size, List.length_take, List.length_drop, hzl]; omega⟩
   have HCV : Veil (∀ W2 x c, Bytes W2 x tn c z → (convert 30 9 (.slice x tn c)).run Tryz.prog W2 = .ok (.string (strOfNums z)) W2) := ⟨fun W2 x c h => conv_bytes h⟩
   generalize strOfNums z = S0 at HCV hss v0
   generalize strOfNums (z1.take k) = S1 at hss v1 HSZ
   generalize strOfNums (z1.drop (k + 1)) = S2 at hss v3 HSZ
   generalize subA (some ⟨gb, go, none⟩) gc 0 = a1 at cut1 v1
   generalize subA (some ⟨gb, go, none⟩) gc (k + 1) = a3 at cut3 v3
   generalize gc - (k + 1) = d3 at cut3 v3
   generalize tn - k = m3 at cut3 v3
   have HSS := Veil.mk hss
   have H8 := Veil.mk h8
   have hk0 : (0 : Int) ≤ (k : Int) := by omega
   have hwk : IntKind.i64.wrap ((k : Int) + 1) = (k : Int) + 1 := by rw [IntKind.wrap_i64]; omega
   have hcast : ((tn + 1 : Nat) : Int) = (tn : Int) + 1 := by push_cast; rfl
   obtain ⟨sn, hsn⟩ : ∃ q, tn + 1 = q := ⟨_, rfl⟩
   rw [hsn] at cut1 cut3 hcast ⊢
   have HSN : Veil ((sn : Int) = (tn : Int) + 1) := ⟨hcast⟩
   have hks : (k : Int) < (sn : Int) := by omega
   have hbe : ((sn : Int) == (tn : Int) + 1) = true := by simp; omega
   have hr1 := Veil.mk (writes_c hre1 (i := (k : Int)) ha0 ha8 (by omega) (by rw [Int.toNat_natCast]; exact hkl1) hro)
   clear q1 q3 hy8 hy9 h8 hss hcast hsn hgk0 hb8 H7 hi0 hil hzl hkl1 hro
   refine wp_region_gateT (fun W : World => W.cell? ⟨gb, go + k, none⟩ = some (.int .u8 c) ∧ W.cell? ⟨w.heap.size, 3, none⟩ = some (.int .i64 (k : Int)) ∧ W.cell? ⟨w.heap.size, 4, none⟩ = some (.int .u8 c) ∧ (convert 30 9 (.slice a1 k gc)).run Tryz.prog W = .ok (.string S1) W ∧ (convert 30 9 (.slice a3 m3 d3)).run Tryz.prog W = .ok (.string S2) W ∧ (convert 30 9 (.slice tx tn tc)).run Tryz.prog W = .ok (.string S0) W) (fun _ => True) 99 (by kernel_rfl) ?_
   have hT : (fun W : World => W.cell? ⟨gb, go + k, none⟩ = some (.int .u8 c) ∧ W.cell? ⟨w.heap.size, 3, none⟩ = some (.int .i64 (k : Int)) ∧ W.cell? ⟨w.heap.size, 4, none⟩ = some (.int .u8 c) ∧ (convert 30 9 (.slice a1 k gc)).run Tryz.prog W = .ok (.string S1) W ∧ (convert 30 9 (.slice a3 m3 d3)).run Tryz.prog W = .ok (.string S2) W ∧ (convert 30 9 (.slice tx tn tc)).run Tryz.prog W = .ok (.string S0) W) W8.drew := ⟨hgc, c3, c4, v1, v3, v0⟩
   have hS : (fun _ : World => True) W8.drew := trivial
   clear v0 v1 v3 hgc c1 c3 c4
   refine ghA 0 _ hT hS ?_
   simp only [Act.put, gA, gS, gZ, sI, sZ, sS]
   refine ghA 1 _ hT hS ?_
   simp only [Act.put, gA, gS, gZ, sI, sZ, sS]
   refine ghA 2 _ hT hS ?_
   simp only [Act.put, gA, gS, gZ, sI, sZ, sS]
   refine ghA 3 _ hT hS ?_
   simp only [Act.put, gA, gS, gZ, sI, sZ, sS]
   refine ghA 4 _ hT hS ?_
   simp only [Act.put, gA, gS, gZ, sI, sZ, sS]
   refine gh 5 (.bool false) hT hS ?_ ?_
   · intro wx hSw; go_split_ands; go_simp; exact HSN.out
   simp only [Act.put, gA, gS, gZ, sI, sZ, sS]
   refine ghA 6 _ hT hS ?_
   simp only [Act.put, gA, gS, gZ, sI, sZ, sS]
   refine ghA 7 _ hT hS ?_
   simp only [Act.put, gA, gS, gZ, sI, sZ, sS]
   refine ghA 8 _ hT hS ?_
   simp only [Act.put, gA, gS, gZ, sI, sZ, sS]
   refine ghA 9 _ hT hS ?_
   simp only [Act.put, gA, gS, gZ, sI, sZ, sS]
   refine ghA 10 _ hT hS ?_
   simp only [Act.put, gA, gS, gZ, sI, sZ, sS]
   refine ghA 11 _ hT hS ?_
   simp only [Act.put, gA, gS, gZ, sI, sZ, sS]
   refine ghA 12 _ hT hS ?_
   simp only [Act.put, gA, gS, gZ, sI, sZ, sS]
   refine ghA 13 _ hT hS ?_
   simp only [Act.put, gA, gS, gZ, sI, sZ, sS]
   refine ghA 14 (.bool false) hT hS ?_
   simp only [Act.put, gA, gS, gZ, sI, sZ, sS]
   refine ghA 15 _ hT hS ?_
   simp only [Act.put, gA, gS, gZ, sI, sZ, sS]
   refine ghA 16 _ hT hS ?_
   simp only [Act.put, gA, gS, gZ, sI, sZ, sS]
   refine ghA 17 _ hT hS ?_
   simp only [Act.put, gA, gS, gZ, sI, sZ, sS]
   refine ghA 18 _ hT hS ?_
   simp only [Act.put, gA, gS, gZ, sI, sZ, sS]
   refine ghA 19 _ hT hS ?_
   simp only [Act.put, gA, gS, gZ, sI, sZ, sS]
   refine ghA 20 _ hT hS ?_
   simp only [Act.put, gA, gS, gZ, sI, sZ, sS]
   refine ghA 21 _ hT hS ?_
   simp only [Act.put, gA, gS, gZ, sI, sZ, sS]
   refine ghA 22 _ hT hS ?_
   simp only [Act.put, gA, gS, gZ, sI, sZ, sS]
   refine ghA 23 _ hT hS ?_
   simp only [Act.put, gA, gS, gZ, sI, sZ, sS]
   refine ghA 24 _ hT hS ?_
   simp only [Act.put, gA, gS, gZ, sI, sZ, sS]
   refine ghA 25 _ hT hS ?_
   simp only [Act.put, gA, gS, gZ, sI, sZ, sS]
   refine ghA 26 _ hT hS ?_
   simp only [Act.put, gA, gS, gZ, sI, sZ, sS]
   refine ghA 27 _ hT hS ?_
   simp only [Act.put, gA, gS, gZ, sI, sZ, sS]
   refine gh 28 (.string S0) hT hS ?_ ?_
   · intro wx hSw; go_split_ands; go_simp; rw [if_neg HSZ.out, HSS.out]
   simp only [Act.put, gA, gS, gZ, sI, sZ, sS]
   refine ghA 29 _ hT hS ?_
   simp only [Act.put, gA, gS, gZ, sI, sZ, sS]
   refine ghA 30 _ hT hS ?_
   simp only [Act.put, gA, gS, gZ, sI, sZ, sS]
   refine ghA 31 (.bool false) hT hS ?_
   simp only [Act.put, gA, gS, gZ, sI, sZ, sS]
   refine ghA 32 _ hT hS ?_
   simp only [Act.put, gA, gS, gZ, sI, sZ, sS]
   refine wpAnyT_done (by kernel_rfl) ?_ _
   clear hT hS cut1 cut3
   obtain ⟨e2, F2, hg2, hp2, hc2⟩ := hr1.out
   obtain ⟨c1, c3, -⟩ := HXC.out _ H8.out.edit
   have her := H8.out.erase (a := au) (i := (k : Int)) ha0
   rw [hg2] at her
   have he2 := aev_len e2 hp2
   have h2E := aev_one e2
   have iE2 : (Tryz.prog.info? 44).map (·.size) = some e2.cells.length := by rw [he2]; kernel_rfl
   have hZ27 : zC.length = e2.cells.length := by rw [he2]; rfl
   have HA2 : Veil (WritesC s1 (k : Int).toNat e2 → (∀ W, WrI w B E D tx tn tc z s1 [(b1, E1)] W → True) ∧ ∀ K W, WrI w B E D tx tn tc z s1 K W → Calls Tryz.prog 18 #[.pointer (some ⟨D, 0, none⟩), .agg e2.cells.toArray] W fun r w' => r = .returned (.int .i64 0) ∧ WrI w B E D tx tn tc z (apS s1 e2) K w') := ⟨fun hb => ⟨fun _ _ => trivial, fun K W h => h.apply hwB hb.ok hb.ref⟩⟩
   have HT2 : Veil (WritesC s1 (k : Int).toNat e2 → textN (apS s1 e2).N = z) := ⟨fun hb => by rw [hb.text, Int.toNat_natCast, htx1]; exact HBK.out⟩
   have HC2 := Veil.mk hc2
   generalize e2.cells = E2 at her h2E iE2 hZ27 HA2
   clear hg2 hc2 hp2 he2 hr1
   go_upto_region 14 with (first
    | (go_at_call 26; refine her.mono ?_; rintro z W9 ⟨rfl, hb9⟩; have hz9 := CellsAt.new W9 44 zC; unfold zC at hz9; clear her)
    | (refine wpList_stv (cs := E2) rfl 44 _ _ rfl W9.heap.size rfl rfl hz9 iE2 hZ27 h2E ?_))
   have h10 := (H8.out.far hb9).store E2
   unfold zC at h10
   refine forget (p := fun y => Code.wp _ _ _ _ y) (fun W => WrI w B E D tx tn tc z s1 [(W9.heap.size, E2), (b1, E1)] W) h10 ?_
   generalize W9.heap.size = b2
   clear h10 hz9 hb9 c1 c3 H8 W8 W9
   rintro W10 h10
   rcases HC2.out with rfl | ⟨rfl, hWC⟩
   · clear HC2 HA2 HT2
     go_wp2
     have HQ := Veil.mk h10.below
     go_ret
     exact ⟨rfl, HQ.out⟩
   · have h10d := h10.far ((Below.refl _ _).drew : Below W10.heap.size W10 W10.drew)
     have hap := (HA2.out hWC).2 _ _ h10d
     have ht2 := HT2.out hWC
     clear HC2 HA2 HT2 hWC h10
     generalize apS s1 e2 = s2 at hap ht2
     have hgo := HTS
     go_upto_region 16 with fail
     refine wp_region_gateT (fun W : World => W.rangeAt b2 0 E2 ∧ (convert 30 9 (.slice tx tn tc)).run Tryz.prog W = .ok (.string S0) W) (fun _ => True) 99 (by kernel_rfl) ?_
     have hT : (fun W : World => W.rangeAt b2 0 E2 ∧ (convert 30 9 (.slice tx tn tc)).run Tryz.prog W = .ok (.string S0) W) W10.drew := ⟨(h10d.kept _ (List.mem_cons_self ..)).wholeM, HCV.out _ _ _ h10d.bytes⟩
     have hS : (fun _ : World => True) W10.drew := trivial
     refine ghA 0 _ hT hS ?_
     simp only [Act.put, gA, gS, gZ, sI, sZ, sS]
     refine ghA 1 _ hT hS ?_
     simp only [Act.put, gA, gS, gZ, sI, sZ, sS]
     refine ghA 2 _ hT hS ?_
     simp only [Act.put, gA, gS, gZ, sI, sZ, sS]
     refine ghA 3 _ hT hS ?_
     simp only [Act.put, gA, gS, gZ, sI, sZ, sS]
     refine gl 4 113 44 12 b2 0 E2 (by kernel_rfl) (by kernel_rfl) (by kernel_rfl) (fun _ _ _ h => h) hT hS (by kernel_rfl) (fun _ h => h.1) uE rfl iE2 ?_
     simp only [Act.put, gA, gS, gZ, sI, sZ, sS]
     refine wpAnyT_one (i := 5) rfl (by kernel_rfl) (by kernel_rfl) (fun K hK => ?_)
     refine wpx_call _ _ (by kernel_rfl) (hap.mono ?_)
     rintro y W11 ⟨rfl, h11⟩
     refine ⟨_, rfl, ?_⟩
     replace hT : (fun W : World => W.rangeAt b2 0 E2 ∧ (convert 30 9 (.slice tx tn tc)).run Tryz.prog W = .ok (.string S0) W) W11 := ⟨(h11.kept _ (List.mem_cons_self ..)).wholeM, HCV.out _ _ _ h11.bytes⟩
     replace hS : (fun _ : World => True) W11 := trivial
     have htt := hgo.out _ _ _ _ _ _ _ ht2 h11
     rw [htn] at htt
     clear hap h10d
     refine hK.out _ _ hT (fun _ => hS) ?_
     clear hK K
     try simp only [Act.put, gA, gS, gZ, sI, sZ, sS]
     refine ghA 6 _ hT hS ?_
     simp only [Act.put, gA, gS, gZ, sI, sZ, sS]
     refine ghA 7 _ hT hS ?_
     simp only [Act.put, gA, gS, gZ, sI, sZ, sS]
     refine ghA 8 _ hT hS ?_
     simp only [Act.put, gA, gS, gZ, sI, sZ, sS]
     refine ghA 9 _ hT hS ?_
     simp only [Act.put, gA, gS, gZ, sI, sZ, sS]
     refine ghA 12 _ hT hS ?_
     simp only [Act.put, gA, gS, gZ, sI, sZ, sS]
     refine ghA 13 _ hT hS ?_
     simp only [Act.put, gA, gS, gZ, sI, sZ, sS]
     refine wpAnyT_one (i := 10) rfl (by kernel_rfl) (by kernel_rfl) (fun K hK => ?_)
     refine wpx_call _ _ (by kernel_rfl) (htt.mono ?_)
     rintro y W12 ⟨x12, y12, rfl, hb12, hw12⟩
     refine ⟨_, rfl, ?_⟩
     have h12 := h11.far hw12
     replace hT : (fun W : World => W.rangeAt b2 0 E2 ∧ (convert 30 9 (.slice tx tn tc)).run Tryz.prog W = .ok (.string S0) W) W12 := ⟨(h12.kept _ (List.mem_cons_self ..)).wholeM, HCV.out _ _ _ h12.bytes⟩
     replace hS : (fun _ : World => True) W12 := trivial
     clear htt h11 hw12
     refine hK.out _ _ hT (fun _ => hS) ?_
     clear hK K
     try simp only [Act.put, gA, gS, gZ, sI, sZ, sS]
     refine wpAnyT_more (T' := fun W : World => (W.rangeAt b2 0 E2 ∧ (convert 30 9 (.slice tx tn tc)).run Tryz.prog W = .ok (.string S0) W) ∧ (convert 30 9 (.slice x12 tn y12)).run Tryz.prog W = .ok (.string S0) W) (fun _ h => h.1) _ _ _ _ ?_
     replace hT : (fun W : World => (W.rangeAt b2 0 E2 ∧ (convert 30 9 (.slice tx tn tc)).run Tryz.prog W = .ok (.string S0) W) ∧ (convert 30 9 (.slice x12 tn y12)).run Tryz.prog W = .ok (.string S0) W) W12 := ⟨hT, HCV.out _ _ _ hb12⟩
     refine ghA 11 _ hT hS ?_
     simp only [Act.put, gA, gS, gZ, sI, sZ, sS]
     refine ghA 14 (.bool true) hT hS ?_
     simp only [Act.put, gA, gS, gZ, sI, sZ, sS]
     refine ghA 15 _ hT hS ?_
     simp only [Act.put, gA, gS, gZ, sI, sZ, sS]
     refine ghA 16 _ hT hS ?_
     simp only [Act.put, gA, gS, gZ, sI, sZ, sS]
     refine wpAnyT_done (by kernel_rfl) ?_ _
     have HQ := Veil.mk h12.below
     clear hT hS h12
     go_wp2
     go_ret
     exact ⟨rfl, HQ.out⟩
end Go.Proofs.YtmbdohnmbkpfaaaGreat
