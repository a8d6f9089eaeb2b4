/- De3 -/
import Derived.Test.YtmbdohnmbkpfaaaGreatV31
import Derived.Test.YtmbdohnmbkpfaaaGreatV26
import Derived.Test.YtmbdohnmbkpfaaaGreatV32
import Derived.Test.YtmbdohnmbkpfaaaGreatV27
namespace Go.Proofs.YtmbdohnmbkpfaaaGreat
open Go.RowKit Go.Shelf
set_option maxRecDepth 20000
set_option linter.unusedSimpArgs false
theorem act1 {st : Ds} {K : List Ent} {e : Ev} (h : e.kind = 1) : actR K e = K ∧ actN st e = (if mayB st e 2 = true then insN st.N e.nd else st.N) ∧ actB st e = (mayB st e 2 && (refI st.N e.nd == 0)) := ⟨if_pos (.inl h), if_pos h, if_pos h⟩
theorem act2 {st : Ds} {K : List Ent} {e : Ev} (h : e.kind = 2) : actR K e = K ∧ actN st e = (if mayB st e 2 = true then delN st.N e.par else st.N) ∧ actB st e = (mayB st e 2 && (chrN st.N e.par).isSome) := ⟨if_pos (.inr h), (if_neg (by omega)).trans (if_pos h), (if_neg (by omega)).trans (if_pos h)⟩
theorem act3 {st : Ds} {K : List Ent} {e : Ev} (h1 : e.kind ≠ 1) (h2 : e.kind ≠ 2) : actR K e = addB K e ∧ actN st e = st.N := ⟨if_neg (by omega), (if_neg h1).trans (if_neg h2)⟩
theorem RDocAt.of {w : World} {base : Nat} {st st' : Ds} {p : Rp} (h : RDocAt w base st p) (hN : st'.N = st.N) (hS : st'.S = st.S) (hL : st'.L = st.L) : RDocAt w base st' p := by
 obtain ⟨N, B, S, L, F⟩ := st
 obtain ⟨N', B', S', L', F'⟩ := st'
 simp only at hN hS hL
 subst hN hS hL
 exact ⟨h.box, h.tree, h.book, h.evs, h.flags, h.apart1, h.apart2⟩
set_option maxHeartbeats 32000000 in
theorem rapply_any (base : Nat) (st : Ds) (p : Rp) (e : Ev) (w : World) (hD : RDocAt w base st p) (hG : GoodD st) (hR : GoodR st p.K p.G) (he : e.Ok) (hbase : base ≤ w.heap.size) :
    Calls Tryz.prog 31 #[.pointer (some ⟨p.D, 0, none⟩), .agg e.cells.toArray] w fun r w' => r = .returned (.int .i64 (refD st e)) ∧ ∃ p', RDocAt w' base (doS st e) p' ∧ GoodR (doS st e) p'.K p'.G ∧ RTo p p' w w' := by
 have hB0 : Below w.heap.size w (w.alloc (.cells e.cells.toArray 44)) := (Below.refl _ _).alloc (Nat.le_refl _) _
 have hx0 := CellsAt.new w 44 e.cells
 have he1 := aev_len e he.past
 have HONE : Veil (∀ u ∈ e.cells, u.oneCell' = true) := ⟨aev_one e⟩
 have iE : (Tryz.prog.info? 44).map (·.size) = some e.cells.length := by rw [he1]; kernel_rfl
 have iD : (Tryz.prog.info? 40).map (·.size) = some (dotC e.da e.ds).length := sizeDot
 have iQ : (Tryz.prog.info? 40).map (·.size) = some (dotC e.pa e.ps).length := sizeDot
 have iV : (Tryz.prog.info? 37).map (·.size) = some (st.S.map (Value.int .u32)).length := by rw [List.length_map, hG.slen]; kernel_rfl
 have iP : (Tryz.prog.info? 37).map (·.size) = some (e.past.map (Value.int .u32)).length := by rw [List.length_map, he.past]; kernel_rfl
 have uE := Tryz.underlying44
 have uD := Tryz.underlying40
 have uV := Tryz.underlying37
 have uS := Tryz.underlying31
 have hll := hG.llen
 have hnl := hG.nlen
 have hkl := hR.klen
 have HR : Veil (∀ W, Calls Tryz.prog 42 #[.agg e.cells.toArray] W fun x w' => x = .returned (.bool (rightB e)) ∧ Below W.heap.size W w') := ⟨fun W => rright_okA e W he⟩
 have HH : Veil (∀ W, Calls Tryz.prog 48 #[.agg (st.S.map (Value.int .u32)).toArray, .agg (dotC e.da e.ds).toArray] W fun x w' => x = .returned (.bool (hasB st.S e.da e.ds)) ∧ Below W.heap.size W w') := ⟨fun W => rhas_any st.S e.da e.ds W hG.slen he.dot.1.1 he.dot.2.1⟩
 have HRD : Veil (∀ W, Calls Tryz.prog 16 #[.agg (st.S.map (Value.int .u32)).toArray, .agg e.cells.toArray] W fun x w' => x = .returned (.bool (readyB st.S e)) ∧ Below W.heap.size W w') := ⟨fun W => rready_any st.S e W hG.slen (fun x hx => by have := hG.sval x hx; omega) he.past he.dot.1.1 he.dot.2.1 (by have := he.dot.2.2; omega) he.par.1.1 he.par.2.1⟩
 have HT : Veil (∀ W, CellsAt W w.heap.size 44 e.cells → W.rangeAt w.heap.size 0 e.cells ∧ W.rangeAt w.heap.size 0 (dotC e.da e.ds) ∧ W.rangeAt w.heap.size 2 (e.past.map (Value.int .u32)) ∧ W.rangeAt w.heap.size 11 (dotC e.pa e.ps) ∧ W.cell? ⟨w.heap.size, 13, none⟩ = some (.bool e.right) ∧ W.cell? ⟨w.heap.size, 14, none⟩ = some (.int .u8 e.char) ∧ W.cell? ⟨w.heap.size, 10, none⟩ = some (.int .u8 e.kind) ∧ W.cell? ⟨w.heap.size, 0, none⟩ = some (.int .u8 e.da)) := ⟨fun W hx => by
  have h1 := hx.range 0 2
  rw [(ev_parts e he.past).1] at h1
  have h2 := hx.range 2 8
  rw [(ev_parts e he.past).2.1] at h2
  have h3 := hx.range 11 2
  rw [(ev_parts e he.past).2.2.2.1] at h3
  exact ⟨hx.wholeM, h1, h2, h3, (hx.cell 13).trans (ev_parts e he.past).2.2.2.2.1, (hx.cell 14).trans (ev_parts e he.past).2.2.2.2.2.1, (hx.cell 10).trans (ev_parts e he.past).2.2.1, (hx.cell 0).trans rfl⟩⟩
 obtain ⟨x0, c0, hlv⟩ := hD.evs.isSlice
 rw [List.length_map] at hlv
 have HU : Veil (∀ W, RDocAt W base st p → W.rangeAt p.D 2 (st.S.map (Value.int .u32)) ∧ W.cell? ⟨p.D, 10, none⟩ = some (.pointer (some ⟨p.T, 0, none⟩)) ∧ W.cell? ⟨p.D, 11, none⟩ = some (.pointer (some ⟨p.H, 0, none⟩)) ∧ W.cell? ⟨p.D, 0, none⟩ = some (.slice x0 st.L.length c0)) := ⟨fun W h => ⟨h.cS hG.slen, h.cT hG.slen, h.cH hG.slen, by rw [← hlv]; exact h.cL hG.slen⟩⟩
 have HN : Veil (refD st e = if rightB e = false then 3 else if hasB st.S e.da e.ds = true then 5 else if readyB st.S e = false then 6 else if 512 ≤ st.L.length then 10 else 0) := ⟨rfl⟩
 have HNO : Veil (∀ W, Below w.heap.size w W → refD st e ≠ 0 → ∃ p', RDocAt W base (doS st e) p' ∧ GoodR (doS st e) p'.K p'.G ∧ RTo p p' w W) := ⟨fun W hb h => by
  have : doS st e = st := if_neg h
  rw [this]
  exact ⟨p, hD.far hb, hR, RTo.of_below hb⟩⟩
 have HYES : Veil (refD st e = 0 → ∀ W p', RDocAt W base { st with N := actN st e, L := st.L ++ [e], S := stepS st.S e.da } p' → p'.K = actR p.K e → p'.G = p.G ++ [actB st e] → RTo p p' w W → ∃ p', RDocAt W base (doS st e) p' ∧ GoodR (doS st e) p'.K p'.G ∧ RTo p p' w W) := ⟨fun h W p' h1 h2 h3 h4 => by
  have : doS st e = apS st e := if_pos h
  rw [this]
  exact ⟨p', h1.of rfl rfl rfl, by rw [h2, h3]; exact hR.ap hG he h, h4⟩⟩
 have HRO : Veil (∀ W, RDocAt W base st p → Calls Tryz.prog 23 #[.pointer (some ⟨p.H, 0, none⟩), .int .u8 e.da, .agg (e.past.map (Value.int .u32)).toArray] W fun r w' => r = .returned (.int .u8 (roleP p.K e.da e.past)) ∧ Below W.heap.size W w') := ⟨fun W h => rrole_any p.H p.K p.x p.bx p.c p.bc e.da e.past W h.book he.past (by omega) hR.good⟩
 have HMB : Veil (mayB st e 2 = decide (2 ≤ roleP p.K e.da e.past)) := ⟨hR.may e 2⟩
 have HIN : Veil (∀ W, RDocAt W base st p → base ≤ W.heap.size → Calls Tryz.prog 58 #[.pointer (some ⟨p.T, 0, none⟩), .agg (dotC e.da e.ds).toArray, .agg (dotC e.pa e.ps).toArray, .bool e.right, .int .u8 e.char] W fun r w' => r = .returned (.int .i64 (refI st.N e.nd)) ∧ ∃ p', RDocAt w' base { st with N := insN st.N e.nd } p' ∧ RTo p p' W w' ∧ p'.K = p.K ∧ p'.G = p.G ∧ w'.cell? ⟨p.D, 10, none⟩ = some (.pointer (some ⟨p.T, 0, none⟩))) := ⟨fun W h hb => (rinsT_any base p.T p.tv st.N e.nd (by omega) W hb h.tree).mono fun r w' ⟨h1, v', h2, h3⟩ => ⟨h1, _, (h.treeTo h2 h3).1, (h.treeTo h2 h3).2, rfl, rfl, (h.treeTo h2 h3).1.cT hG.slen⟩⟩
 have HDL : Veil (∀ W, RDocAt W base st p → Calls Tryz.prog 59 #[.pointer (some ⟨p.T, 0, none⟩), .agg (dotC e.pa e.ps).toArray] W fun r w' => r = .returned (.int .i64 (if (chrN st.N e.par).isSome = true then 0 else 7)) ∧ ∃ p', RDocAt w' base { st with N := delN st.N e.par } p' ∧ RTo p p' W w' ∧ p'.K = p.K ∧ p'.G = p.G ∧ w'.cell? ⟨p.D, 10, none⟩ = some (.pointer (some ⟨p.T, 0, none⟩))) := ⟨fun W h => (rdelT_any base p.T p.tv st.N e.par hG.tree.rooted.nodup W h.tree).mono fun r w' ⟨h1, h2, h3⟩ => ⟨h1, _, (h.treeTo h2 h3).1, (h.treeTo h2 h3).2, rfl, rfl, (h.treeTo h2 h3).1.cT hG.slen⟩⟩
 have HAD : Veil (∀ W, RDocAt W base st p → base ≤ W.heap.size → Calls Tryz.prog 24 #[.pointer (some ⟨p.H, 0, none⟩), .agg e.cells.toArray] W fun r w' => (∃ q, r = .returned q) ∧ ∃ p', RDocAt w' base st p' ∧ RTo p p' W w' ∧ p'.K = addB p.K e ∧ p'.G = p.G ∧ ∀ W2, RDocAt W2 base st p' → W2.cell? ⟨p.D, 11, none⟩ = some (.pointer (some ⟨p.H, 0, none⟩)) ∧ Calls Tryz.prog 60 #[.pointer (some ⟨p.H, 0, none⟩), .agg (dotC e.da e.ds).toArray] W2 fun r w' => r = .returned (.bool (cntB (addB p.K e) e.dot)) ∧ Below W2.heap.size W2 w') := ⟨fun W h hb => (raddO_any p.H p.K p.x p.bx p.c p.bc e W h.book he (by omega) hR.good hb).mono fun r w' ⟨h1, ⟨x', c', bx', bc', h2, h3⟩, h4⟩ => ⟨⟨_, h1⟩, _, (h.bookTo h2 h4 h3).1, (h.bookTo h2 h4 h3).2, rfl, rfl, fun W2 q => ⟨q.cH hG.slen, rcounts_any p.H (addB p.K e) x' bx' c' bc' e.da e.ds W2 q.book (by have : (addB p.K e).length ≤ p.K.length + 1 := (by unfold addB; split <;> simp); omega) (hR.good.add e he)⟩⟩⟩
 have HA1 : Veil (e.kind = 1 → actR p.K e = p.K ∧ actN st e = (if mayB st e 2 = true then insN st.N e.nd else st.N) ∧ actB st e = (mayB st e 2 && (refI st.N e.nd == 0))) := ⟨act1⟩
 have HA2 : Veil (e.kind = 2 → actR p.K e = p.K ∧ actN st e = (if mayB st e 2 = true then delN st.N e.par else st.N) ∧ actB st e = (mayB st e 2 && (chrN st.N e.par).isSome)) := ⟨act2⟩
 have HA3 : Veil (refD st e = 0 → e.kind ≠ 1 → e.kind ≠ 2 → actR p.K e = addB p.K e ∧ actN st e = st.N ∧ cntB (addB p.K e) e.dot = actB st e) := ⟨fun h h1 h2 => ⟨(act3 (st := st) h1 h2).1, (act3 (K := p.K) h1 h2).2, by rw [(hR.addK h (by omega)).1]; exact cntB_new (hR.lookK h)⟩⟩
 have HEV : Veil (∀ W p', RDocAt W base { st with N := actN st e } p' → base ≤ W.heap.size → st.L.length < 512 → ∃ x c W7 p8, (Builtin.append_ #[31, 31] 31 #[p'.lv, .slice (some ⟨W.heap.size, 0, none⟩) 1 1]).run Tryz.prog (W.alloc (.cells e.cells.toArray 44)) = .ok (.slice x (st.L.length + 1) c) W7 ∧ W7.cell? ⟨p'.D, 0, none⟩ = some p'.lv ∧ W7.frozen? ⟨p'.D, 0, none⟩ = false ∧ (∀ k, k < W.heap.size → p'.lv.ownBlock ≠ some k → W7.heap[k]? = W.heap[k]?) ∧
     RDocAt (W7.setCell ⟨p'.D, 0, none⟩ (.slice x (st.L.length + 1) c)) base { st with N := actN st e, L := st.L ++ [e] } p8 ∧ RTo p' p8 W (W7.setCell ⟨p'.D, 0, none⟩ (.slice x (st.L.length + 1) c)) ∧ p8.D = p'.D ∧ p8.fv = p'.fv ∧ p8.K = p'.K ∧ p8.G = p'.G) := ⟨fun W p' h hb hl => by
  obtain ⟨x, c, W7, a1, a2, a3, a4, a5, a6⟩ := h.evTo hG.slen hb (by show st.L.length ≤ 1000; omega) e he.past
  exact ⟨x, c, W7, _, a1, a2, a3, a4, a5, a6, rfl, rfl, rfl, rfl⟩⟩
 have HFL : Veil (∀ b, b = actB st e → ∀ W p', RDocAt W base { st with N := actN st e, L := st.L ++ [e] } p' → p'.G = p.G → base ≤ W.heap.size → ∃ x c W7 p8, (Builtin.append_ #[83, 83] 83 #[p'.fv, .slice (some ⟨W.heap.size, 0, none⟩) 1 1]).run Tryz.prog (W.alloc (.cells #[.bool b] 4)) = .ok (.slice x (p.G.length + 1) c) W7 ∧ W7.cell? ⟨p'.D, 1, none⟩ = some p'.fv ∧ W7.frozen? ⟨p'.D, 1, none⟩ = false ∧ (∀ k, k < W.heap.size → p'.fv.ownBlock ≠ some k → W7.heap[k]? = W.heap[k]?) ∧
     RDocAt (W7.setCell ⟨p'.D, 1, none⟩ (.slice x (p.G.length + 1) c)) base { st with N := actN st e, L := st.L ++ [e] } p8 ∧ RTo p' p8 W (W7.setCell ⟨p'.D, 1, none⟩ (.slice x (p.G.length + 1) c)) ∧ p8.D = p'.D ∧ p8.K = p'.K ∧ p8.G = p.G ++ [actB st e]) := ⟨fun b hb W p' h hg hw => by
  have hgl : p.G.length = st.L.length := by rw [hR.flags]; unfold flagsD; rw [List.length_map]
  obtain ⟨x, c, W7, a1, a2, a3, a4, a5, a6⟩ := h.flagTo hG.slen hw (by rw [hg]) (by omega) b
  rw [hg, hb] at a5 a6
  exact ⟨x, c, W7, _, a1, a2, a3, a4, a5, a6, rfl, rfl, rfl⟩⟩
 have HSE : Veil (rightB e = true → ∀ W p', RDocAt W base { st with N := actN st e, L := st.L ++ [e] } p' → W.cell? ⟨p'.D, 2 + e.da.toNat, none⟩ = some (.int .u32 (st.S[e.da.toNat]?.getD 0)) ∧ W.frozen? ⟨p'.D, 2 + e.da.toNat, none⟩ = false ∧ RDocAt (W.setCell ⟨p'.D, 2 + e.da.toNat, none⟩ (.int .u32 (st.S[e.da.toNat]?.getD 0 + 1))) base { st with N := actN st e, L := st.L ++ [e], S := stepS st.S e.da } p' ∧ RTo p' p' W (W.setCell ⟨p'.D, 2 + e.da.toNat, none⟩ (.int .u32 (st.S[e.da.toNat]?.getD 0 + 1)))) := ⟨fun hr W p' h => by
  have h8 := rightB_author hr
  have h0 := he.dot.1.1
  have h2 := h.seenTo hG.slen e.da.toNat (by omega) (st.S[e.da.toNat]?.getD 0 + 1)
  exact ⟨h.cSa hG.slen (by omega), h.box.frozen _, h2.1, h2.2⟩⟩
 have HSV : Veil (rightB e = true → ∃ a : Nat, a < 8 ∧ e.da = (a : Int) ∧ 0 ≤ st.S[a]?.getD 0 ∧ st.S[a]?.getD 0 ≤ 512) := ⟨fun hr => by
  have h8 := rightB_author hr
  have h0 := he.dot.1.1
  have hl : e.da.toNat < st.S.length := by rw [hG.slen]; omega
  refine ⟨e.da.toNat, by omega, by omega, ?_⟩
  rw [List.getElem?_eq_getElem hl]
  have := hG.sval _ (List.getElem_mem hl)
  simp only [Option.getD_some]
  omega⟩
 have HKD : Veil (rightB e = true → e.kind = 1 ∨ e.kind = 2 ∨ (e.kind ≠ 1 ∧ e.kind ≠ 2)) := ⟨fun _ => by omega⟩
 have HNE : Veil (¬ rdocP p w.heap.size) := ⟨fun q => by have := hD.blockLt _ q; omega⟩
 have HSL : Veil (st.S.length = 8) := ⟨hG.slen⟩
 have hD0 := hD.far hB0
 obtain ⟨E, hE⟩ : ∃ E, e.cells = E := ⟨_, rfl⟩
 rw [hE] at hB0 hx0 iE HR HT he1 HRD hD0 HAD HEV HONE
 rw [hE]
 obtain ⟨RN, hRN⟩ : ∃ q, refD st e = q := ⟨_, rfl⟩
 rw [hRN] at HN HNO HYES HA3 ⊢
 obtain ⟨RB, hRB⟩ : ∃ q, rightB e = q := ⟨_, rfl⟩
 rw [hRB] at HR HN HSE HSV HKD
 generalize hasB st.S e.da e.ds = HB at HH HN
 generalize readyB st.S e = RY at HRD HN
 obtain ⟨DV, hDV⟩ : ∃ q, dotC e.da e.ds = q := ⟨_, rfl⟩
 rw [hDV] at HH HT iD HIN HAD
 obtain ⟨QV, hQV⟩ : ∃ q, dotC e.pa e.ps = q := ⟨_, rfl⟩
 rw [hQV] at HT iQ HIN HDL
 obtain ⟨SV, hSV⟩ : ∃ q, st.S.map (Value.int .u32) = q := ⟨_, rfl⟩
 rw [hSV] at HH HRD HU iV
 obtain ⟨PV, hPV⟩ : ∃ q, e.past.map (Value.int .u32) = q := ⟨_, rfl⟩
 rw [hPV] at HT iP HRO
 obtain ⟨RO, hRO⟩ : ∃ q, roleP p.K e.da e.past = q := ⟨_, rfl⟩
 rw [hRO] at HRO HMB
 obtain ⟨KD, hKD⟩ : ∃ q, e.kind = q := ⟨_, rfl⟩
 rw [hKD] at HT HKD HA1 HA2 HA3
 obtain ⟨rt, hrt⟩ : ∃ q, e.right = q := ⟨_, rfl⟩
 rw [hrt] at HT HIN
 obtain ⟨ch, hch⟩ : ∃ q, e.char = q := ⟨_, rfl⟩
 rw [hch] at HT HIN
 obtain ⟨D, hDD⟩ : ∃ q, p.D = q := ⟨_, rfl⟩
 have HPD := Veil.mk hDD
 rw [hDD] at HU HAD HIN HDL ⊢
 obtain ⟨n, hn⟩ : ∃ q, st.L.length = q := ⟨_, rfl⟩
 rw [hn] at HU HN HEV hll
 generalize n + 1 = l1 at HEV
 generalize p.G.length + 1 = g1 at HFL
 clear hE hD hG hR hRN hDV hQV hSV hPV hRO hKD hrt hch hDD hn hlv hnl hkl
 go_enter Tryz.func31, Tryz.ntmps31
 go_upto_region 1 with fail
 refine forget (p := fun y => Code.wp _ _ _ _ y) (fun W => Below w.heap.size w W ∧ CellsAt W w.heap.size 44 E ∧ RDocAt W base st p) ⟨hB0, hx0, hD0⟩ ?_
 clear hB0 hx0 hD0
 rintro W ⟨hB, hx, hD⟩
 have hrE := hx.wholeM
 have hr := HR.out W
 cases RB
 · replace HN : Veil (RN = 3) := ⟨HN.out⟩
   clear he HSE HSV HKD
   go_wp2_with (first
    | (refine wpList_ldv rfl 44 _ rfl w.heap.size 0 rfl E hrE uE rfl iE ?_)
    | (go_at_call 42; refine hr.mono ?_; rintro x W1 ⟨rfl, hb1⟩))
   go_ret
   exact ⟨by rw [HN.out]; rfl, HNO.out _ (hB.trans (hb1.mono hB.size)) (by rw [HN.out]; decide)⟩
 replace HN : Veil (RN = if HB = true then 5 else if RY = false then 6 else if 512 ≤ n then 10 else 0) := ⟨HN.out⟩
 replace HSE := Veil.mk (HSE.out rfl)
 replace HKD := Veil.mk (HKD.out rfl)
 obtain ⟨a, ha8, hda, hs0, hs1⟩ := HSV.out rfl
 have HDA := Veil.mk hda
 rw [hda] at HT HRO
 rw [hda, Int.toNat_natCast] at HSE
 clear HSV
 go_upto_region 5 with (first
     | (refine wpList_ldv rfl 44 _ rfl w.heap.size 0 rfl E hrE uE rfl iE ?_)
     | (go_at_call 42; refine hr.mono ?_; rintro x W1 ⟨rfl, hb1⟩))
 have hB1 := hB.trans (hb1.mono hB.size)
 have hx1 := hx.farM hb1
 have hD1 := hD.far hb1
 clear hb1 hr hrE hB hx hD W he hda
 have H1 := Veil.mk (And.intro hB1 (And.intro hx1 hD1))
 have hb0 : Below W1.heap.size W1 W1.drew := (Below.refl _ _).drew
 have hT : (fun W : World => W.rangeAt w.heap.size 0 E ∧ W.rangeAt w.heap.size 0 DV ∧ W.rangeAt D 2 SV) W1.drew := ⟨(HT.out _ (hx1.farM hb0)).1, (HT.out _ (hx1.farM hb0)).2.1, (HU.out _ (hD1.far hb0)).1⟩
 have hS : (fun _ : World => True) W1.drew := trivial
 clear hB1 hx1 hD1
 refine wp_region_gateT (fun W : World => W.rangeAt w.heap.size 0 E ∧ W.rangeAt w.heap.size 0 DV ∧ W.rangeAt D 2 SV) (fun _ => True) 99 (by kernel_rfl) ?_
 refine ghA 0 _ hT hS ?_
 simp only [Act.put, gA, gS, gZ, sI, sZ, sS]
 refine ghA 1 _ hT hS ?_
 simp only [Act.put, gA, gS, gZ, sI, sZ, sS]
 refine ghA 2 _ hT hS ?_
 simp only [Act.put, gA, gS, gZ, sI, sZ, sS]
 refine gl 3 18 37 17 D 2 SV (by kernel_rfl) (by kernel_rfl) (by kernel_rfl) (fun _ _ _ h => h) hT hS (by kernel_rfl) (fun _ h => h.2.2) uV rfl iV ?_
 simp only [Act.put, gA, gS, gZ, sI, sZ, sS]
 refine ghA 4 _ hT hS ?_
 simp only [Act.put, gA, gS, gZ, sI, sZ, sS]
 refine gl 5 20 40 19 w.heap.size 0 DV (by kernel_rfl) (by kernel_rfl) (by kernel_rfl) (fun _ _ _ h => h) hT hS (by kernel_rfl) (fun _ h => h.2.1) uD rfl iD ?_
 simp only [Act.put, gA, gS, gZ, sI, sZ, sS]
 refine wpAnyT_one (i := 6) rfl (by kernel_rfl) (by kernel_rfl) (fun K hK => ?_)
 refine wpx_call _ _ (by kernel_rfl) ((HH.out _).mono ?_)
 rintro y W2 ⟨rfl, hb2⟩
 refine ⟨_, rfl, ?_⟩
 replace hb2 : Below W1.heap.size W1 W2 := hb0.trans hb2
 replace hT : (fun W : World => W.rangeAt w.heap.size 0 E ∧ W.rangeAt w.heap.size 0 DV ∧ W.rangeAt D 2 SV) W2 := ⟨(HT.out _ (H1.out.2.1.farM hb2)).1, (HT.out _ (H1.out.2.1.farM hb2)).2.1, (HU.out _ (H1.out.2.2.far hb2)).1⟩
 replace hS : (fun _ : World => True) W2 := trivial
 refine hK.out _ _ hT (fun _ => hS) ?_
 clear hK K
 try simp only [Act.put, gA, gS, gZ, sI, sZ, sS]
 refine ghA 7 _ hT hS ?_
 simp only [Act.put, gA, gS, gZ, sI, sZ, sS]
 refine wpAnyT_done (by kernel_rfl) ?_ _
 have H2 : Veil (Below w.heap.size w W2 ∧ CellsAt W2 w.heap.size 44 E ∧ RDocAt W2 base st p) := ⟨H1.out.1.trans (hb2.mono H1.out.1.size), H1.out.2.1.farM hb2, H1.out.2.2.far hb2⟩
 clear hT hS hb2 hb0 H1
 clear W1
 cases HB
 rotate_left
 · replace HN : Veil (RN = 5) := ⟨HN.out⟩
   go_wp2
   go_ret
   exact ⟨by rw [HN.out]; rfl, HNO.out _ H2.out.1 (by rw [HN.out]; decide)⟩
 replace HN : Veil (RN = if RY = false then 6 else if 512 ≤ n then 10 else 0) := ⟨HN.out⟩
 go_upto_region 7 with fail
 have hb0 : Below W2.heap.size W2 W2.drew := (Below.refl _ _).drew
 have hT : (fun W : World => W.rangeAt w.heap.size 0 E ∧ W.rangeAt w.heap.size 0 DV ∧ W.rangeAt D 2 SV) W2.drew := ⟨(HT.out _ (H2.out.2.1.farM hb0)).1, (HT.out _ (H2.out.2.1.farM hb0)).2.1, (HU.out _ (H2.out.2.2.far hb0)).1⟩
 have hS : (fun _ : World => True) W2.drew := trivial
 refine wp_region_gateT (fun W : World => W.rangeAt w.heap.size 0 E ∧ W.rangeAt w.heap.size 0 DV ∧ W.rangeAt D 2 SV) (fun _ => True) 99 (by kernel_rfl) ?_
 refine ghA 0 _ hT hS ?_
 simp only [Act.put, gA, gS, gZ, sI, sZ, sS]
 refine ghA 1 _ hT hS ?_
 simp only [Act.put, gA, gS, gZ, sI, sZ, sS]
 refine ghA 2 _ hT hS ?_
 simp only [Act.put, gA, gS, gZ, sI, sZ, sS]
 refine gl 3 26 37 25 D 2 SV (by kernel_rfl) (by kernel_rfl) (by kernel_rfl) (fun _ _ _ h => h) hT hS (by kernel_rfl) (fun _ h => h.2.2) uV rfl iV ?_
 simp only [Act.put, gA, gS, gZ, sI, sZ, sS]
 refine gl 4 27 44 3 w.heap.size 0 E (by kernel_rfl) (by kernel_rfl) (by kernel_rfl) (fun _ _ _ h => h) hT hS (by kernel_rfl) (fun _ h => h.1) uE rfl iE ?_
 simp only [Act.put, gA, gS, gZ, sI, sZ, sS]
 refine wpAnyT_one (i := 5) rfl (by kernel_rfl) (by kernel_rfl) (fun K hK => ?_)
 refine wpx_call _ _ (by kernel_rfl) ((HRD.out _).mono ?_)
 rintro y W3 ⟨rfl, hb3⟩
 refine ⟨_, rfl, ?_⟩
 replace hb3 : Below W2.heap.size W2 W3 := hb0.trans hb3
 replace hT : (fun W : World => W.rangeAt w.heap.size 0 E ∧ W.rangeAt w.heap.size 0 DV ∧ W.rangeAt D 2 SV) W3 := ⟨(HT.out _ (H2.out.2.1.farM hb3)).1, (HT.out _ (H2.out.2.1.farM hb3)).2.1, (HU.out _ (H2.out.2.2.far hb3)).1⟩
 replace hS : (fun _ : World => True) W3 := trivial
 refine hK.out _ _ hT (fun _ => hS) ?_
 clear hK K
 try simp only [Act.put, gA, gS, gZ, sI, sZ, sS]
 refine ghA 6 _ hT hS ?_
 simp only [Act.put, gA, gS, gZ, sI, sZ, sS]
 refine ghA 7 _ hT hS ?_
 simp only [Act.put, gA, gS, gZ, sI, sZ, sS]
 refine wpAnyT_done (by kernel_rfl) ?_ _
 have H3 : Veil (Below w.heap.size w W3 ∧ CellsAt W3 w.heap.size 44 E ∧ RDocAt W3 base st p) := ⟨H2.out.1.trans (hb3.mono H2.out.1.size), H2.out.2.1.farM hb3, H2.out.2.2.far hb3⟩
 clear hT hS hb3 hb0 H2
 clear W2
 cases RY
 · replace HN : Veil (RN = 6) := ⟨HN.out⟩
   go_wp2
   go_ret
   exact ⟨by rw [HN.out]; rfl, HNO.out _ H3.out.1 (by rw [HN.out]; decide)⟩
 replace HN : Veil (RN = if 512 ≤ n then 10 else 0) := ⟨HN.out⟩
 obtain ⟨-, -, -, cl0⟩ := HU.out W3 H3.out.2.2
 by_cases hl : 512 ≤ n
 · replace HN : Veil (RN = 10) := ⟨by rw [HN.out, if_pos hl]⟩
   have hli : (512 : Int) ≤ (n : Int) := by omega
   go_wp2
   go_ret
   exact ⟨by rw [HN.out]; rfl, HNO.out _ H3.out.1 (by rw [HN.out]; decide)⟩
 have hRN0 : RN = 0 := by rw [HN.out, if_neg hl]
 subst hRN0
 replace HYES := Veil.mk (HYES.out rfl)
 replace HA3 := Veil.mk (HA3.out rfl)
 have hli : ¬ (512 : Int) ≤ (n : Int) := by omega
 have hn5 : n < 512 := by omega
 replace HEV := Veil.mk (fun W p' h hb => HEV.out W p' h hb hn5)
 go_upto_region 12 with fail
 clear cl0 HN HNO HH HRD HR hl hli hn5 hll
 have hb0 : Below W3.heap.size W3 W3.drew := (Below.refl _ _).drew
 have hT : (fun W : World => W.cell? ⟨D, 11, none⟩ = some (.pointer (some ⟨p.H, 0, none⟩)) ∧ W.cell? ⟨w.heap.size, 0, none⟩ = some (.int .u8 (a : Int)) ∧ W.rangeAt w.heap.size 2 PV) W3.drew := ⟨(HU.out _ (H3.out.2.2.far hb0)).2.2.1, (HT.out _ (H3.out.2.1.farM hb0)).2.2.2.2.2.2.2, (HT.out _ (H3.out.2.1.farM hb0)).2.2.1⟩
 have hS : (fun _ : World => True) W3.drew := trivial
 refine wp_region_gateT (fun W : World => W.cell? ⟨D, 11, none⟩ = some (.pointer (some ⟨p.H, 0, none⟩)) ∧ W.cell? ⟨w.heap.size, 0, none⟩ = some (.int .u8 (a : Int)) ∧ W.rangeAt w.heap.size 2 PV) (fun _ => True) 99 (by kernel_rfl) ?_
 refine ghA 0 _ hT hS ?_
 simp only [Act.put, gA, gS, gZ, sI, sZ, sS]
 refine ghA 1 _ hT hS ?_
 simp only [Act.put, gA, gS, gZ, sI, sZ, sS]
 refine ghA 2 _ hT hS ?_
 simp only [Act.put, gA, gS, gZ, sI, sZ, sS]
 refine ghA 3 _ hT hS ?_
 simp only [Act.put, gA, gS, gZ, sI, sZ, sS]
 refine ghA 4 _ hT hS ?_
 simp only [Act.put, gA, gS, gZ, sI, sZ, sS]
 refine ghA 5 _ hT hS ?_
 simp only [Act.put, gA, gS, gZ, sI, sZ, sS]
 refine ghA 6 _ hT hS ?_
 simp only [Act.put, gA, gS, gZ, sI, sZ, sS]
 refine ghA 7 _ hT hS ?_
 simp only [Act.put, gA, gS, gZ, sI, sZ, sS]
 refine gl 8 45 37 44 w.heap.size 2 PV (by kernel_rfl) (by kernel_rfl) (by kernel_rfl) (fun _ _ _ h => h) hT hS (by kernel_rfl) (fun _ h => h.2.2) uV rfl iP ?_
 simp only [Act.put, gA, gS, gZ, sI, sZ, sS]
 refine wpAnyT_one (i := 9) rfl (by kernel_rfl) (by kernel_rfl) (fun K hK => ?_)
 refine wpx_call _ _ (by kernel_rfl) ((HRO.out _ (H3.out.2.2.far hb0)).mono ?_)
 rintro y W4 ⟨rfl, hb4⟩
 refine ⟨_, rfl, ?_⟩
 replace hb4 : Below W3.heap.size W3 W4 := hb0.trans hb4
 replace hT : (fun W : World => W.cell? ⟨D, 11, none⟩ = some (.pointer (some ⟨p.H, 0, none⟩)) ∧ W.cell? ⟨w.heap.size, 0, none⟩ = some (.int .u8 (a : Int)) ∧ W.rangeAt w.heap.size 2 PV) W4 := ⟨(HU.out _ (H3.out.2.2.far hb4)).2.2.1, (HT.out _ (H3.out.2.1.farM hb4)).2.2.2.2.2.2.2, (HT.out _ (H3.out.2.1.farM hb4)).2.2.1⟩
 replace hS : (fun _ : World => True) W4 := trivial
 refine hK.out _ _ hT (fun _ => hS) ?_
 clear hK K
 try simp only [Act.put, gA, gS, gZ, sI, sZ, sS]
 refine ghA 10 _ hT hS ?_
 simp only [Act.put, gA, gS, gZ, sI, sZ, sS]
 refine ghA 11 _ hT hS ?_
 simp only [Act.put, gA, gS, gZ, sI, sZ, sS]
 refine wpAnyT_done (by kernel_rfl) ?_ _
 have H4 : Veil (Below w.heap.size w W4 ∧ CellsAt W4 w.heap.size 44 E ∧ RDocAt W4 base st p) := ⟨H3.out.1.trans (hb4.mono H3.out.1.size), H3.out.2.1.farM hb4, H3.out.2.2.far hb4⟩
 clear hT hS hb4 hb0 H3 HRO
 clear W3
 have ck := (HT.out _ H4.out.2.1).2.2.2.2.2.2.1
 have hbW := Nat.le_trans hbase H4.out.1.size
 have HBR : (KD = 1 ∧ 2 ≤ RO) ∨ (KD = 1 ∧ ¬ 2 ≤ RO) ∨ (KD = 2 ∧ 2 ≤ RO) ∨ (KD = 2 ∧ ¬ 2 ≤ RO) ∨ (KD ≠ 1 ∧ KD ≠ 2) := by clear HKD; omega
 rcases HBR with ⟨rfl, h2⟩ | ⟨rfl, h2⟩ | ⟨rfl, h2⟩ | ⟨rfl, h2⟩ | ⟨hk1, hk2⟩
 case' inl =>
  obtain ⟨ar, an, ab⟩ := HA1.out rfl
  have h2b : decide (2 ≤ RO) = true := by simpa using h2
  rw [HMB.out, h2b] at an ab
  rw [if_pos rfl] at an
  rw [Bool.true_and] at ab
  have HAR := Veil.mk ar
  have HAN := Veil.mk an
  have hcl := HIN.out
  generalize refI st.N e.nd = RI at hcl ab
  have HFB := Veil.mk (HFL.out _ ab.symm)
  have HCL := Veil.mk hcl
  clear HA1 HA2 HA3 HIN HDL HMB HKD HFL HAD ar an ab hcl
  go_upto_region 18 with fail
  have hb0 : Below W4.heap.size W4 W4.drew := (Below.refl _ _).drew
  have hT : (fun W : World => W.cell? ⟨D, 10, none⟩ = some (.pointer (some ⟨p.T, 0, none⟩)) ∧ W.rangeAt w.heap.size 0 DV ∧ W.rangeAt w.heap.size 11 QV ∧ W.cell? ⟨w.heap.size, 13, none⟩ = some (.bool rt) ∧ W.cell? ⟨w.heap.size, 14, none⟩ = some (.int .u8 ch)) W4.drew := ⟨(HU.out _ (H4.out.2.2.far hb0)).2.1, (HT.out _ (H4.out.2.1.farM hb0)).2.1, (HT.out _ (H4.out.2.1.farM hb0)).2.2.2.1, (HT.out _ (H4.out.2.1.farM hb0)).2.2.2.2.1, (HT.out _ (H4.out.2.1.farM hb0)).2.2.2.2.2.1⟩
  have hS : (fun _ : World => True) W4.drew := trivial
  refine wp_region_gateT (fun W : World => W.cell? ⟨D, 10, none⟩ = some (.pointer (some ⟨p.T, 0, none⟩)) ∧ W.rangeAt w.heap.size 0 DV ∧ W.rangeAt w.heap.size 11 QV ∧ W.cell? ⟨w.heap.size, 13, none⟩ = some (.bool rt) ∧ W.cell? ⟨w.heap.size, 14, none⟩ = some (.int .u8 ch)) (fun _ => True) 99 (by kernel_rfl) ?_
  refine ghA 0 _ hT hS ?_
  simp only [Act.put, gA, gS, gZ, sI, sZ, sS]
  refine ghA 1 _ hT hS ?_
  simp only [Act.put, gA, gS, gZ, sI, sZ, sS]
  refine ghA 2 _ hT hS ?_
  simp only [Act.put, gA, gS, gZ, sI, sZ, sS]
  refine ghA 3 _ hT hS ?_
  simp only [Act.put, gA, gS, gZ, sI, sZ, sS]
  refine ghA 4 _ hT hS ?_
  simp only [Act.put, gA, gS, gZ, sI, sZ, sS]
  refine gl 5 71 40 70 w.heap.size 0 DV (by kernel_rfl) (by kernel_rfl) (by kernel_rfl) (fun _ _ _ h => h) hT hS (by kernel_rfl) (fun _ h => h.2.1) uD rfl iD ?_
  simp only [Act.put, gA, gS, gZ, sI, sZ, sS]
  refine ghA 6 _ hT hS ?_
  simp only [Act.put, gA, gS, gZ, sI, sZ, sS]
  refine gl 7 73 40 72 w.heap.size 11 QV (by kernel_rfl) (by kernel_rfl) (by kernel_rfl) (fun _ _ _ h => h) hT hS (by kernel_rfl) (fun _ h => h.2.2.1) uD rfl iQ ?_
  simp only [Act.put, gA, gS, gZ, sI, sZ, sS]
  refine ghA 8 _ hT hS ?_
  simp only [Act.put, gA, gS, gZ, sI, sZ, sS]
  refine ghA 9 _ hT hS ?_
  simp only [Act.put, gA, gS, gZ, sI, sZ, sS]
  refine ghA 10 _ hT hS ?_
  simp only [Act.put, gA, gS, gZ, sI, sZ, sS]
  refine ghA 11 _ hT hS ?_
  simp only [Act.put, gA, gS, gZ, sI, sZ, sS]
  refine wpAnyT_one (i := 12) rfl (by kernel_rfl) (by kernel_rfl) (fun K hK => ?_)
  refine wpx_call _ _ (by kernel_rfl) ((HCL.out _ (H4.out.2.2.far hb0) hbW).mono ?_)
  rintro y W6 ⟨rfl, p5, hD5, ht5, hK5, hG5, hcT⟩
  refine ⟨_, rfl, ?_⟩
  have hx5 : CellsAt W6 w.heap.size 44 E := (H4.out.2.1.farM hb0).congr (ht5.turn.block _ (H4.out.2.1.farM hb0).lt HNE.out)
  have H6 : Veil (∃ p5, RDocAt W6 base { st with N := actN st e } p5 ∧ CellsAt W6 w.heap.size 44 E ∧ w.heap.size ≤ W6.heap.size ∧ RTo p p5 w W6 ∧ p5.K = actR p.K e ∧ p5.G = p.G ∧ ¬ rdocP p5 w.heap.size) := ⟨p5, hD5.of HAN.out rfl rfl, hx5, Nat.le_trans H4.out.1.size ht5.turn.size, (RTo.of_below (H4.out.1.trans (hb0.mono H4.out.1.size))).trans ht5, by rw [HAR.out]; exact hK5, hG5, fun q => (ht5.own _ q).elim HNE.out (fun r => absurd r (Nat.not_le.2 (H4.out.2.1.farM hb0).lt))⟩
  replace hT : (fun W : World => W.cell? ⟨D, 10, none⟩ = some (.pointer (some ⟨p.T, 0, none⟩)) ∧ W.rangeAt w.heap.size 0 DV ∧ W.rangeAt w.heap.size 11 QV ∧ W.cell? ⟨w.heap.size, 13, none⟩ = some (.bool rt) ∧ W.cell? ⟨w.heap.size, 14, none⟩ = some (.int .u8 ch)) W6 := ⟨hcT, (HT.out _ hx5).2.1, (HT.out _ hx5).2.2.2.1, (HT.out _ hx5).2.2.2.2.1, (HT.out _ hx5).2.2.2.2.2.1⟩
  replace hS : (fun _ : World => True) W6 := trivial
  clear hD5 ht5 hK5 hG5 hx5 hb0 H4 HCL HAR HAN hcT
  clear p5
  refine hK.out _ _ hT (fun _ => hS) ?_
  clear hK K
  try simp only [Act.put, gA, gS, gZ, sI, sZ, sS]
  refine ghA 13 _ hT hS ?_
  simp only [Act.put, gA, gS, gZ, sI, sZ, sS]
  refine ghA 14 _ hT hS ?_
  simp only [Act.put, gA, gS, gZ, sI, sZ, sS]
  refine wpAnyT_done (by kernel_rfl) ?_ _
  clear hT hS ck hbW
  clear W4
  go_upto_region 22 with fail
  generalize (RI == 0) = AB at HFB ⊢
 case' inr.inl =>
  obtain ⟨ar, an, ab⟩ := HA1.out rfl
  have h2b : decide (2 ≤ RO) = false := by simpa using h2
  rw [HMB.out, h2b] at an ab
  rw [if_neg (by decide)] at an
  rw [Bool.false_and] at ab
  have HFB := Veil.mk (HFL.out _ ab.symm)
  rename World => W6
  have H6 : Veil (∃ p5, RDocAt W6 base { st with N := actN st e } p5 ∧ CellsAt W6 w.heap.size 44 E ∧ w.heap.size ≤ W6.heap.size ∧ RTo p p5 w W6 ∧ p5.K = actR p.K e ∧ p5.G = p.G ∧ ¬ rdocP p5 w.heap.size) := ⟨p, H4.out.2.2.of an rfl rfl, H4.out.2.1, H4.out.1.size, RTo.of_below H4.out.1, ar.symm, rfl, HNE.out⟩
  clear HA1 HA2 HA3 HIN HDL HMB HKD HFL HAD ar an ab H4 hbW
  go_upto_region 22 with fail
  clear ck
 case' inr.inr.inl =>
  obtain ⟨ar, an, ab⟩ := HA2.out rfl
  have h2b : decide (2 ≤ RO) = true := by simpa using h2
  rw [HMB.out, h2b] at an ab
  rw [if_pos rfl] at an
  rw [Bool.true_and] at ab
  have HAR := Veil.mk ar
  have HAN := Veil.mk an
  have hcl := HDL.out
  obtain ⟨eN, heN⟩ : ∃ q : Int, (if (chrN st.N e.par).isSome = true then (0 : Int) else 7) = q := ⟨_, rfl⟩
  rw [heN] at hcl
  have hcs : (eN == 0) = (chrN st.N e.par).isSome := by rw [← heN]; cases (chrN st.N e.par).isSome <;> rfl
  rw [← hcs] at ab
  clear heN hcs
  have HFB := Veil.mk (HFL.out _ ab.symm)
  have HCL := Veil.mk hcl
  clear HA1 HA2 HA3 HIN HDL HMB HKD HFL HAD ar an ab hcl
  go_upto_region 21 with fail
  have hb0 : Below W4.heap.size W4 W4.drew := (Below.refl _ _).drew
  have hT : (fun W : World => W.cell? ⟨D, 10, none⟩ = some (.pointer (some ⟨p.T, 0, none⟩)) ∧ W.rangeAt w.heap.size 11 QV) W4.drew := ⟨(HU.out _ (H4.out.2.2.far hb0)).2.1, (HT.out _ (H4.out.2.1.farM hb0)).2.2.2.1⟩
  have hS : (fun _ : World => True) W4.drew := trivial
  refine wp_region_gateT (fun W : World => W.cell? ⟨D, 10, none⟩ = some (.pointer (some ⟨p.T, 0, none⟩)) ∧ W.rangeAt w.heap.size 11 QV) (fun _ => True) 99 (by kernel_rfl) ?_
  refine ghA 0 _ hT hS ?_
  simp only [Act.put, gA, gS, gZ, sI, sZ, sS]
  refine ghA 1 _ hT hS ?_
  simp only [Act.put, gA, gS, gZ, sI, sZ, sS]
  refine ghA 2 _ hT hS ?_
  simp only [Act.put, gA, gS, gZ, sI, sZ, sS]
  refine ghA 3 _ hT hS ?_
  simp only [Act.put, gA, gS, gZ, sI, sZ, sS]
  refine ghA 4 _ hT hS ?_
  simp only [Act.put, gA, gS, gZ, sI, sZ, sS]
  refine gl 5 88 40 87 w.heap.size 11 QV (by kernel_rfl) (by kernel_rfl) (by kernel_rfl) (fun _ _ _ h => h) hT hS (by kernel_rfl) (fun _ h => h.2) uD rfl iQ ?_
  simp only [Act.put, gA, gS, gZ, sI, sZ, sS]
  refine wpAnyT_one (i := 6) rfl (by kernel_rfl) (by kernel_rfl) (fun K hK => ?_)
  refine wpx_call _ _ (by kernel_rfl) ((HCL.out _ (H4.out.2.2.far hb0)).mono ?_)
  rintro y W6 ⟨rfl, p5, hD5, ht5, hK5, hG5, hcT⟩
  refine ⟨_, rfl, ?_⟩
  have hx5 : CellsAt W6 w.heap.size 44 E := (H4.out.2.1.farM hb0).congr (ht5.turn.block _ (H4.out.2.1.farM hb0).lt HNE.out)
  have H6 : Veil (∃ p5, RDocAt W6 base { st with N := actN st e } p5 ∧ CellsAt W6 w.heap.size 44 E ∧ w.heap.size ≤ W6.heap.size ∧ RTo p p5 w W6 ∧ p5.K = actR p.K e ∧ p5.G = p.G ∧ ¬ rdocP p5 w.heap.size) := ⟨p5, hD5.of HAN.out rfl rfl, hx5, Nat.le_trans H4.out.1.size ht5.turn.size, (RTo.of_below (H4.out.1.trans (hb0.mono H4.out.1.size))).trans ht5, by rw [HAR.out]; exact hK5, hG5, fun q => (ht5.own _ q).elim HNE.out (fun r => absurd r (Nat.not_le.2 (H4.out.2.1.farM hb0).lt))⟩
  replace hT : (fun W : World => W.cell? ⟨D, 10, none⟩ = some (.pointer (some ⟨p.T, 0, none⟩)) ∧ W.rangeAt w.heap.size 11 QV) W6 := ⟨hcT, (HT.out _ hx5).2.2.2.1⟩
  replace hS : (fun _ : World => True) W6 := trivial
  clear hD5 ht5 hK5 hG5 hx5 hb0 H4 HCL HAR HAN hcT
  clear p5
  refine hK.out _ _ hT (fun _ => hS) ?_
  clear hK K
  try simp only [Act.put, gA, gS, gZ, sI, sZ, sS]
  refine ghA 7 _ hT hS ?_
  simp only [Act.put, gA, gS, gZ, sI, sZ, sS]
  refine ghA 8 _ hT hS ?_
  simp only [Act.put, gA, gS, gZ, sI, sZ, sS]
  refine wpAnyT_done (by kernel_rfl) ?_ _
  clear hT hS ck hbW
  clear W4
  go_upto_region 22 with fail
  generalize (eN == 0) = AB at HFB ⊢
 case' inr.inr.inr.inl =>
  obtain ⟨ar, an, ab⟩ := HA2.out rfl
  have h2b : decide (2 ≤ RO) = false := by simpa using h2
  rw [HMB.out, h2b] at an ab
  rw [if_neg (by decide)] at an
  rw [Bool.false_and] at ab
  have HFB := Veil.mk (HFL.out _ ab.symm)
  rename World => W6
  have H6 : Veil (∃ p5, RDocAt W6 base { st with N := actN st e } p5 ∧ CellsAt W6 w.heap.size 44 E ∧ w.heap.size ≤ W6.heap.size ∧ RTo p p5 w W6 ∧ p5.K = actR p.K e ∧ p5.G = p.G ∧ ¬ rdocP p5 w.heap.size) := ⟨p, H4.out.2.2.of an rfl rfl, H4.out.2.1, H4.out.1.size, RTo.of_below H4.out.1, ar.symm, rfl, HNE.out⟩
  clear HA1 HA2 HA3 HIN HDL HMB HKD HFL HAD ar an ab H4 hbW
  go_upto_region 22 with fail
  clear ck
 case' inr.inr.inr.inr =>
  have hk1b : (KD == 1) = false := by simpa using hk1
  have hk2b : (KD == 2) = false := by simpa using hk2
  obtain ⟨ar, an, ab⟩ := HA3.out hk1 hk2
  have HAR := Veil.mk ar
  have HAN := Veil.mk an
  have HFB := Veil.mk (HFL.out _ ab)
  generalize hcb : cntB (addB p.K e) e.dot = CB at HAD HFB
  clear HA1 HA2 HA3 HIN HDL HMB HKD HFL hcb hk1 hk2 ar an ab
  go_upto_region 14 with fail
  have hb0 : Below W4.heap.size W4 W4.drew := (Below.refl _ _).drew
  have hT : (fun W : World => W.cell? ⟨D, 11, none⟩ = some (.pointer (some ⟨p.H, 0, none⟩)) ∧ W.rangeAt w.heap.size 0 E) W4.drew := ⟨(HU.out _ (H4.out.2.2.far hb0)).2.2.1, (HT.out _ (H4.out.2.1.farM hb0)).1⟩
  have hS : (fun _ : World => True) W4.drew := trivial
  refine wp_region_gateT (fun W : World => W.cell? ⟨D, 11, none⟩ = some (.pointer (some ⟨p.H, 0, none⟩)) ∧ W.rangeAt w.heap.size 0 E) (fun _ => True) 99 (by kernel_rfl) ?_
  refine ghA 0 _ hT hS ?_
  simp only [Act.put, gA, gS, gZ, sI, sZ, sS]
  refine ghA 1 _ hT hS ?_
  simp only [Act.put, gA, gS, gZ, sI, sZ, sS]
  refine ghA 2 _ hT hS ?_
  simp only [Act.put, gA, gS, gZ, sI, sZ, sS]
  refine ghA 3 _ hT hS ?_
  simp only [Act.put, gA, gS, gZ, sI, sZ, sS]
  refine gl 4 54 44 3 w.heap.size 0 E (by kernel_rfl) (by kernel_rfl) (by kernel_rfl) (fun _ _ _ h => h) hT hS (by kernel_rfl) (fun _ h => h.2) uE rfl iE ?_
  simp only [Act.put, gA, gS, gZ, sI, sZ, sS]
  refine wpAnyT_one (i := 5) rfl (by kernel_rfl) (by kernel_rfl) (fun K hK => ?_)
  refine wpx_call _ _ (by kernel_rfl) ((HAD.out _ (H4.out.2.2.far hb0) hbW).mono ?_)
  rintro y W5 ⟨⟨q5, rfl⟩, p5, hD5, ht5, hK5, hG5, hcn5⟩
  refine ⟨_, rfl, ?_⟩
  have hx5 : CellsAt W5 w.heap.size 44 E := (H4.out.2.1.farM hb0).congr (ht5.turn.block _ (H4.out.2.1.farM hb0).lt HNE.out)
  have H5 : Veil (RDocAt W5 base st p5 ∧ CellsAt W5 w.heap.size 44 E ∧ w.heap.size ≤ W5.heap.size ∧ RTo p p5 w W5 ∧ p5.K = addB p.K e ∧ p5.G = p.G ∧ ¬ rdocP p5 w.heap.size) := ⟨hD5, hx5, Nat.le_trans H4.out.1.size ht5.turn.size, (RTo.of_below (H4.out.1.trans (hb0.mono H4.out.1.size))).trans ht5, hK5, hG5, fun q => (ht5.own _ q).elim HNE.out (fun r => absurd r (Nat.not_le.2 (H4.out.2.1.farM hb0).lt))⟩
  have HCN := Veil.mk hcn5
  replace hT : (fun W : World => W.cell? ⟨D, 11, none⟩ = some (.pointer (some ⟨p.H, 0, none⟩)) ∧ W.rangeAt w.heap.size 0 E) W5 := ⟨(hcn5 _ hD5).1, (HT.out _ hx5).1⟩
  replace hS : (fun _ : World => True) W5 := trivial
  clear hcn5 hD5 ht5 hK5 hG5 hx5 hb0 H4 HAD
  refine hK.out _ _ hT (fun _ => hS) ?_
  clear hK K
  try simp only [Act.put, gA, gS, gZ, sI, sZ, sS]
  refine wpAnyT_done (by kernel_rfl) ?_ _
  clear hT hS ck hbW
  clear W4
  go_upto_region 15 with fail
  have hb0 : Below W5.heap.size W5 W5.drew := (Below.refl _ _).drew
  have hT : (fun W : World => W.cell? ⟨D, 11, none⟩ = some (.pointer (some ⟨p.H, 0, none⟩)) ∧ W.rangeAt w.heap.size 0 DV) W5.drew := ⟨(HCN.out _ (H5.out.1.far hb0)).1, (HT.out _ (H5.out.2.1.farM hb0)).2.1⟩
  have hS : (fun _ : World => True) W5.drew := trivial
  refine wp_region_gateT (fun W : World => W.cell? ⟨D, 11, none⟩ = some (.pointer (some ⟨p.H, 0, none⟩)) ∧ W.rangeAt w.heap.size 0 DV) (fun _ => True) 99 (by kernel_rfl) ?_
  refine ghA 0 _ hT hS ?_
  simp only [Act.put, gA, gS, gZ, sI, sZ, sS]
  refine ghA 1 _ hT hS ?_
  simp only [Act.put, gA, gS, gZ, sI, sZ, sS]
  refine ghA 2 _ hT hS ?_
  simp only [Act.put, gA, gS, gZ, sI, sZ, sS]
  refine ghA 3 _ hT hS ?_
  simp only [Act.put, gA, gS, gZ, sI, sZ, sS]
  refine ghA 4 _ hT hS ?_
  simp only [Act.put, gA, gS, gZ, sI, sZ, sS]
  refine gl 5 61 40 60 w.heap.size 0 DV (by kernel_rfl) (by kernel_rfl) (by kernel_rfl) (fun _ _ _ h => h) hT hS (by kernel_rfl) (fun _ h => h.2) uD rfl iD ?_
  simp only [Act.put, gA, gS, gZ, sI, sZ, sS]
  refine wpAnyT_one (i := 6) rfl (by kernel_rfl) (by kernel_rfl) (fun K hK => ?_)
  refine wpx_call _ _ (by kernel_rfl) ((HCN.out _ (H5.out.1.far hb0)).2.mono ?_)
  rintro y W6 ⟨rfl, hb6⟩
  refine ⟨_, rfl, ?_⟩
  replace hb6 : Below W5.heap.size W5 W6 := hb0.trans hb6
  replace hT : (fun W : World => W.cell? ⟨D, 11, none⟩ = some (.pointer (some ⟨p.H, 0, none⟩)) ∧ W.rangeAt w.heap.size 0 DV) W6 := ⟨(HCN.out _ (H5.out.1.far hb6)).1, (HT.out _ (H5.out.2.1.farM hb6)).2.1⟩
  replace hS : (fun _ : World => True) W6 := trivial
  have H6 : Veil (∃ p5, RDocAt W6 base { st with N := actN st e } p5 ∧ CellsAt W6 w.heap.size 44 E ∧ w.heap.size ≤ W6.heap.size ∧ RTo p p5 w W6 ∧ p5.K = actR p.K e ∧ p5.G = p.G ∧ ¬ rdocP p5 w.heap.size) := ⟨p5, (H5.out.1.far hb6).of HAN.out rfl rfl, H5.out.2.1.farM hb6, Nat.le_trans H5.out.2.2.1 hb6.size, H5.out.2.2.2.1.trans (RTo.of_below hb6), by rw [HAR.out]; exact H5.out.2.2.2.2.1, H5.out.2.2.2.2.2⟩
  clear hb6 hb0 H5 HCN HAR HAN
  clear p5
  refine hK.out _ _ hT (fun _ => hS) ?_
  clear hK K
  try simp only [Act.put, gA, gS, gZ, sI, sZ, sS]
  refine ghA 7 _ hT hS ?_
  simp only [Act.put, gA, gS, gZ, sI, sZ, sS]
  refine wpAnyT_done (by kernel_rfl) ?_ _
  clear hT hS
  clear W5
  go_upto_region 22 with fail
 all_goals
  obtain ⟨p5, h6⟩ := H6.out
  have H7 := Veil.mk h6
  clear h6 H6
  have hb0 : Below W6.heap.size W6 W6.drew := (Below.refl _ _).drew
  have hP5 : p5.D = D := H7.out.2.2.2.1.at_.trans HPD.out
  have hs6 : base ≤ W6.heap.size := Nat.le_trans hbase H7.out.2.2.1
  obtain ⟨x, c, W7, p8, hrun, hc70, hf70, hblk, hD8, ht8, hp8, hp8f, hp8k, hp8g⟩ := HEV.out W6.drew p5 (H7.out.1.far hb0) hs6
  have hv6 : W6.drew.cell? ⟨D, 0, none⟩ = some p5.lv := by have := (H7.out.1.far hb0).cL HSL.out; rw [hP5] at this; exact this
  have hneD : w.heap.size ≠ p5.D := fun q => H7.out.2.2.2.2.2.2 (.inl q)
  have hneV : p5.lv.ownBlock ≠ some w.heap.size := fun q => H7.out.2.2.2.2.2.2 (.inr (.inr (.inr (.inl q))))
  have hneF : p5.fv.ownBlock ≠ some w.heap.size := fun q => H7.out.2.2.2.2.2.2 (.inr (.inr (.inr (.inr q))))
  have hx6 : CellsAt W6.drew w.heap.size 44 E := H7.out.2.1.farM hb0
  have hx7 : CellsAt W7 w.heap.size 44 E := hx6.congr (hblk _ hx6.lt hneV)
  have hx8 : CellsAt (W7.setCell ⟨p5.D, 0, none⟩ (.slice x l1 c)) w.heap.size 44 E := hx7.congr (Below.heap_setCell _ _ _ _ hneD)
  obtain ⟨x9, c9, W9, pA, hrun9, hc91, hf91, hblk9, hD10, ht10, hpA, hpAk, hpAg⟩ := HFB.out _ _ hD8 (hp8g.trans H7.out.2.2.2.2.2.1) (Nat.le_trans hs6 ht8.turn.size)
  have h8f := hD8.cF HSL.out
  have hx9 : CellsAt W9 w.heap.size 44 E := hx8.congr (hblk9 _ hx8.lt (by rw [hp8f]; exact hneF))
  have hx10 : CellsAt (W9.setCell ⟨p5.D, 1, none⟩ (.slice x9 g1 c9)) w.heap.size 44 E := hx9.congr (Below.heap_setCell _ _ _ _ hneD)
  obtain ⟨hc2, hf2, hD11, ht11⟩ := HSE.out _ _ hD10
  have hda0 := (HT.out _ hx10).2.2.2.2.2.2.2
  have HFIN : Veil _ := ⟨HYES.out _ _ (by rw [HDA.out]; exact hD11) (hpAk.trans (hp8k.trans H7.out.2.2.2.2.1)) hpAg (H7.out.2.2.2.1.trans ((RTo.of_below hb0).trans (ht8.trans (ht10.trans ht11))))⟩
  have hA5 : pA.D = D := hpA.trans (hp8.trans hP5)
  have h85 : p8.D = D := hp8.trans hP5
  simp only [hP5, hA5, h85, hp8f] at hc70 hf70 hc91 hf91 h8f hc2 hf2 HFIN hrun9 hda0
  have hca : (W6.drew.alloc (.cells E.toArray 44)).cell? ⟨D, 0, none⟩ = some p5.lv := by
   have := ((H7.out.1.far hb0).far ((Below.refl _ _).alloc (Nat.le_refl _) (.cells E.toArray 44))).cL HSL.out
   rw [hP5] at this; exact this
  have hra := (hx6.alloc (.cells E.toArray 44)).wholeM
  have hr6 := hx6.wholeM
  have hr7 := hx7.wholeM
  obtain ⟨x0, c0, hv0⟩ := H7.out.1.evs.isSlice
  obtain ⟨x1, c1, hv1⟩ := H7.out.1.flags.isSlice
  rw [hv0] at hv6 hca hc70 hrun
  rw [hv1] at hc91 h8f hrun9
  generalize (List.map Ev.cells _).length = l0 at hv6 hca hc70 hrun
  generalize (List.map _ p5.G).length = g0 at hc91 h8f hrun9
  generalize st.S[a]?.getD 0 = sv at hs0 hs1 hc2 HFIN
  have hws : IntKind.u32.wrap (sv + 1) = sv + 1 := by rw [IntKind.wrap_u32]; omega
  have ha0 : (0 : Int) ≤ (a : Int) := by omega
  have ha9 : (a : Int) < 8 := by omega
  have hta : ((a : Int)).toNat = a := Int.toNat_natCast a
  clear hblk hblk9 hD8 ht8 hneD hneV hneF hx6 hx7 hx8 hx9 hx10 hD10 ht10 hD11 ht11 hb0 H7 HSE HEV HFB hv0 hv1 HYES HT HU hs0 hs1 hP5 hs6 hA5 h85 hp8 hp8f hp8k hp8g hpA hpAk hpAg
  refine wp_region_gate (fun w' : World => w'.cell? ⟨D, 0, none⟩ = some (.slice x0 l0 c0) ∧ w'.rangeAt w.heap.size 0 E) 10 (by kernel_rfl) ?_
  have hS : (fun w' : World => w'.cell? ⟨D, 0, none⟩ = some (.slice x0 l0 c0) ∧ w'.rangeAt w.heap.size 0 E) W6.drew := ⟨hv6, hr6⟩
  refine gaA 0 _ hS ?_
  simp only [Act.put, gA, gS, gZ, sI, sZ, sS]
  refine gaA 1 _ hS ?_
  simp only [Act.put, gA, gS, gZ, sI, sZ, sS]
  refine gaA 2 _ hS ?_
  simp only [Act.put, gA, gS, gZ, sI, sZ, sS]
  refine gaA 3 _ hS ?_
  simp only [Act.put, gA, gS, gZ, sI, sZ, sS]
  refine grA 4 _ hS ?_
  simp only [Act.put, gA, gS, gZ, sI, sZ, sS]
  refine wpAnyG_load (i := 5) (dst := some 96) (ty := 44) (x := .tmp 3) (b := w.heap.size) (o := (0)) (cs := E) (by kernel_rfl) (by kernel_rfl) (by kernel_rfl) (by kernel_rfl) (by kernel_rfl) (fun _ _ _ h => h) (by kernel_rfl) (by kernel_rfl) (by kernel_rfl) hS (by kernel_rfl) (fun _ h => h.2) uE rfl iE ?_
  simp only [Act.put, gA, gS, gZ, sI, sZ, sS]
  refine wpAnyG_one (i := 6) rfl (by kernel_rfl) (by kernel_rfl) (fun K hK => ?_)
  refine wp_bs1 31 44 _ rfl E rfl uS infoE17D (by decide) (by decide) he1 ?_
  replace hS : (fun w' : World => w'.cell? ⟨D, 0, none⟩ = some (.slice x0 l0 c0) ∧ w'.rangeAt w.heap.size 0 E) (W6.drew.alloc (.cells E.toArray 44)) := ⟨hca, hra⟩
  refine hK.out _ _ (fun _ => hS) ?_
  clear hK K
  try simp only [Act.put, gA, gS, gZ, sI, sZ, sS]
  refine wpAnyG_one (i := 7) rfl (by kernel_rfl) (by kernel_rfl) (fun K hK => ?_)
  refine wpx_app _ _ 31 31 rfl _ _ _ W7 rfl rfl hrun ?_
  replace hS : (fun w' : World => w'.cell? ⟨D, 0, none⟩ = some (.slice x0 l0 c0) ∧ w'.rangeAt w.heap.size 0 E) W7 := ⟨hc70, hr7⟩
  refine hK.out _ _ (fun _ => hS) ?_
  clear hK K
  try simp only [Act.put, gA, gS, gZ, sI, sZ, sS]
  refine gaA 8 _ hS ?_
  simp only [Act.put, gA, gS, gZ, sI, sZ, sS]
  refine gaA 9 _ hS ?_
  simp only [Act.put, gA, gS, gZ, sI, sZ, sS]
  refine wpAnyG_one (i := 10) rfl (by kernel_rfl) (by kernel_rfl) (fun K hK => ?_)
  clear hv6 hca hr6 hra hr7 hrun
  go_simp
  refine hK.out _ _ (fun h => absurd (show true = false from h) (by decide)) ?_
  clear hK K
  try simp only [Act.put, gA, gS, gZ, sI, sZ, sS]
  refine wpAnyG_done (by kernel_rfl) ?_ _
  clear hS hc70 hf70
  generalize W7.setCell ⟨D, 0, none⟩ (.slice x l1 c) = W8 at hrun9 h8f ⊢
  clear W7
  go_upto_region 23 with fail
  go_upto_region 24 with (at_builtin; refine wpList_appx rfl _ _ 83 83 rfl _ _ _ W9 rfl rfl hrun9 ?_)
  clear hc91 hf91 hrun9 h8f
  generalize W9.setCell ⟨D, 1, none⟩ (.slice x9 g1 c9) = W10 at hc2 hf2 hda0 HFIN ⊢
  refine wp_region_gate (fun w' : World => w'.cell? ⟨w.heap.size, 0, none⟩ = some (.int .u8 (a : Int)) ∧ w'.cell? ⟨D, 2 + a, none⟩ = some (.int .u32 sv)) 12 (by kernel_rfl) ?_
  have hS : (fun w' : World => w'.cell? ⟨w.heap.size, 0, none⟩ = some (.int .u8 (a : Int)) ∧ w'.cell? ⟨D, 2 + a, none⟩ = some (.int .u32 sv)) W10.drew := ⟨hda0, hc2⟩
  refine gaA 0 _ hS ?_
  simp only [Act.put, gA, gS, gZ, sI, sZ, sS]
  refine gaA 1 _ hS ?_
  simp only [Act.put, gA, gS, gZ, sI, sZ, sS]
  refine gaA 2 _ hS ?_
  simp only [Act.put, gA, gS, gZ, sI, sZ, sS]
  refine grA 3 _ hS ?_
  simp only [Act.put, gA, gS, gZ, sI, sZ, sS]
  refine gaA 4 _ hS ?_
  simp only [Act.put, gA, gS, gZ, sI, sZ, sS]
  refine gaA 5 _ hS ?_
  simp only [Act.put, gA, gS, gZ, sI, sZ, sS]
  refine gaA 6 _ hS ?_
  simp only [Act.put, gA, gS, gZ, sI, sZ, sS]
  refine grA 7 _ hS ?_
  simp only [Act.put, gA, gS, gZ, sI, sZ, sS]
  refine gaA 8 _ hS ?_
  simp only [Act.put, gA, gS, gZ, sI, sZ, sS]
  refine gaA 9 _ hS ?_
  simp only [Act.put, gA, gS, gZ, sI, sZ, sS]
  refine gaA 10 _ hS ?_
  simp only [Act.put, gA, gS, gZ, sI, sZ, sS]
  refine gaA 11 _ hS ?_
  simp only [Act.put, gA, gS, gZ, sI, sZ, sS]
  refine wpAnyG_one (i := 12) rfl (by kernel_rfl) (by kernel_rfl) (fun K hK => ?_)
  go_simp
  refine hK.out _ _ (fun h => absurd (show true = false from h) (by decide)) ?_
  clear hK K
  try simp only [Act.put, gA, gS, gZ, sI, sZ, sS]
  refine wpAnyG_done (by kernel_rfl) ?_ _
  clear hS hc2 hf2 hda0
  go_wp2
  go_ret
  obtain ⟨q, h1, h2, h3⟩ := HFIN.out
  exact ⟨rfl, q, h1.far (Below.refl _ _).drew, h2, h3.trans (RTo.of_below (Below.refl _ _).drew)⟩
end Go.Proofs.YtmbdohnmbkpfaaaGreat
