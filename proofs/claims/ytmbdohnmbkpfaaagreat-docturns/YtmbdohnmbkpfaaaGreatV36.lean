/- Fr8 Fr9 Dc8 -/
import Derived.Test.YtmbdohnmbkpfaaaGreatV35
import Derived.Test.YtmbdohnmbkpfaaaGreatV32
namespace Go.Proofs.YtmbdohnmbkpfaaaGreat
open Go.RowKit Go.Shelf
set_option maxRecDepth 20000
set_option linter.unusedSimpArgs false
structure Wk (N : List Nd) (w W : World) (b0 : Nat) (u p : Value) (M : List (Int × Int)) : Prop where
 own : OwnI W b0 124 6 p (M.map (cF N))
 turn : Turn (fun k => u.ownBlock = some k) w W
 blk : ∀ k, p.ownBlock = some k → u.ownBlock = some k ∨ w.heap.size ≤ k
theorem Wk.far {N : List Nd} {w W W' : World} {b0 : Nat} {u p : Value} {M : List (Int × Int)} (h : Wk N w W b0 u p M) (hb : Below W.heap.size W W') : Wk N w W' b0 u p M := ⟨h.own.far hb, h.turn.trans (Turn.of_below hb), h.blk⟩
theorem Wk.trans {N : List Nd} {w W W' : World} {b0 : Nat} {u p q : Value} {M M' : List (Int × Int)} (h : Wk N w W b0 u p M) (h' : Wk N W W' b0 p q M') : Wk N w W' b0 u q M' where
 own := h'.own
 turn := ⟨h'.turn.os.trans h.turn.os, h'.turn.tape.trans h.turn.tape, h'.turn.output.trans h.turn.output, Nat.le_trans h.turn.size h'.turn.size, fun k hk hn => by
  rw [h'.turn.block k (Nat.lt_of_lt_of_le hk h.turn.size) (fun e => by rcases h.blk k e with q | q; exact hn q; omega), h.turn.block k hk hn]⟩
 blk := fun k hk => by
  rcases h'.blk k hk with q | q
  · exact h.blk k q
  · exact .inr (Nat.le_trans h.turn.size q)
theorem Wk.keep {N : List Nd} {w W : World} {b0 : Nat} {u p : Value} {M : List (Int × Int)} (h : Wk N w W b0 u p M) {k : Nat} (hk : k < w.heap.size) (hn : u.ownBlock ≠ some k) : W.heap[k]? = w.heap[k]? := h.turn.block k hk hn
set_option maxHeartbeats 16000000 in
theorem rwalk_any (base R : Nat) (v : Value) (N : List Nd) (hN : Rooted N) (s : (Int × Int) × Bool) : ∀ (L : List (Int × Int)) (u lv : Value) (b0 : Nat) (w : World), RefT w base R v N → OwnI w b0 124 6 u (L.map (cF N)) → OwnI w 0 124 6 lv ((kids N s).map (cF N)) → (∀ k, u.ownBlock = some k → lv.ownBlock ≠ some k ∧ ¬ refP R v k) → b0 ≤ w.heap.size → (L ++ walkA N s).length ≤ 100000 →
    Calls Tryz.prog 112 #[.pointer (some ⟨R, 0, none⟩), u, lv] w fun e w' => ∃ u', e = .returned u' ∧ Wk N w w' b0 u u' (L ++ walkA N s) := by
 refine walk_ind hN (C := fun s => ∀ (L : List (Int × Int)) (u lv : Value) (b0 : Nat) (w : World), RefT w base R v N → OwnI w b0 124 6 u (L.map (cF N)) → OwnI w 0 124 6 lv ((kids N s).map (cF N)) → (∀ k, u.ownBlock = some k → lv.ownBlock ≠ some k ∧ ¬ refP R v k) → b0 ≤ w.heap.size → (L ++ walkA N s).length ≤ 100000 →
  Calls Tryz.prog 112 #[.pointer (some ⟨R, 0, none⟩), u, lv] w fun e w' => ∃ u', e = .returned u' ∧ Wk N w w' b0 u u' (L ++ walkA N s)) (fun s ih => ?_) s
 intro L u lv b0 w hT hu hl hap hb0 hlen
 obtain ⟨K, hK⟩ : ∃ q, kids N s = q := ⟨_, rfl⟩
 have HWA := Veil.mk (walkA_blocks hN s)
 rw [hK] at hl HWA ih
 have HKI : Veil (∀ x ∈ K, ∃ m ∈ N, m.id = x) := ⟨fun x hx => by rw [← hK] at hx; obtain ⟨m, h1, _, h2⟩ := mem_kids.1 hx; exact ⟨m, h1, h2⟩⟩
 have IH := Veil.mk ih
 have HKD : Veil (∀ (x : Int × Int) (b : Bool) (W : World), RefT W base R v N → Calls Tryz.prog 111 #[.pointer (some ⟨R, 0, none⟩), .agg (encF x).toArray, .bool b] W fun e w' => ∃ u, e = .returned u ∧ OwnI w' W.heap.size 124 6 u ((kids N (x, b)).map (cF N)) ∧ Below W.heap.size W w') := ⟨fun x b W h => rkids_any base R v N (x, b) hN.nodup W h⟩
 have HS0 : Veil (∀ W b u p M, Wk N w W b u p M → u.ownBlock = (u : Value).ownBlock) := ⟨fun _ _ _ _ _ _ => rfl⟩
 clear HS0
 have HKEEP : Veil (∀ W p M, Wk N w W b0 u p M → RefT W base R v N ∧ OwnI W 0 124 6 lv (K.map (cF N)) ∧ (∀ k, p.ownBlock = some k → lv.ownBlock ≠ some k ∧ ¬ refP R v k) ∧ b0 ≤ W.heap.size) := ⟨fun W p M h => by
  refine ⟨hT.congr fun k hk => h.keep (hT.blockLt k hk) (fun e => (hap k e).2 hk), hl.congr fun g hg => h.keep (hl.blockLt g hg).1 (fun e => (hap g e).1 hg), fun k hk => ?_, Nat.le_trans hb0 h.turn.size⟩
  rcases h.blk k hk with q | q
  · exact hap k q
  · exact ⟨fun e => by have := (hl.blockLt k e).1; omega, fun e => by have := hT.blockLt k e; omega⟩⟩
 have HW0 : Veil (Wk N w w b0 u u L) := ⟨hu, Turn.of_below (Below.refl _ _), fun k hk => .inl hk⟩
 obtain ⟨lx, lc, hlv⟩ := hl.isSlice
 rw [List.length_map] at hlv
 obtain ⟨kl, hkl⟩ : ∃ q, K.length = q := ⟨_, rfl⟩
 rw [hkl] at hlv
 have HKL := Veil.mk hkl
 have HLEN := Veil.mk hlen
 have hkle : kl ≤ 1000000 := by
  rw [← hkl, ← hK]
  have h1 : (kids N s).length ≤ (walkA N s).length := by
   rw [walkA_blocks hN, List.length_flatMap]
   generalize kids N s = q
   induction q with
   | nil => simp
   | cons a q ih => rw [List.map_cons, List.sum_cons, List.length_cons]; have : 1 ≤ (blockN N a).length := by unfold blockN; simp; omega
                    omega
  rw [List.length_append] at hlen; omega
 have uD := Tryz.underlying40
 have uN := Tryz.underlying124
 have uS := Tryz.underlying120
 have iD : ∀ x : Int × Int, (Tryz.prog.info? 40).map (·.size) = some (encF x).length := fun x => sizeDot
 have ID := Veil.mk iD
 clear hT hu hap hb0 hlen hl hK hkl ih iD
 subst hlv
 obtain ⟨WA, hWA⟩ : ∃ q, walkA N s = q := ⟨_, rfl⟩
 rw [hWA] at HWA HLEN ⊢
 clear hWA
 go_enter Tryz.func112, Tryz.ntmps112
 go_wp2_with fail
 go_loopw [1, 7] (fun p q wr => ∃ i : Nat, q = .int .i64 (i : Nat) ∧ i ≤ kl ∧ Wk N w wr b0 u p (L ++ (K.take i).flatMap (blockN N))) (fun _ q _ => kl - (intOf q).toNat)
 case atStart => exact ⟨0, rfl, Nat.zero_le _, by rw [List.take_zero, List.flatMap_nil, List.append_nil]; exact HW0.out⟩
 case round =>
  obtain ⟨i, rfl, hi, hW⟩ := hrel
  obtain ⟨ox, oc, hp⟩ := hW.own.isSlice
  obtain ⟨on, hon⟩ : ∃ q, ((L ++ (K.take i).flatMap (blockN N)).map (cF N)).length = q := ⟨_, rfl⟩
  rw [hon] at hp
  subst hp
  clear hon
  have HW := Veil.mk hW
  clear hW
  by_cases hlt : i < kl
  · have hli : (i : Int) < (kl : Int) := by omega
    have hli0 : (0 : Int) ≤ (i : Int) := by omega
    have hki : i < K.length := by rw [HKL.out]; exact hlt
    have hww : IntKind.i64.wrap ((i : Int) + 1) = (i : Int) + 1 := by rw [IntKind.wrap_i64]; omega
    have HT1 : Veil (K.take (i + 1) = K.take i ++ [K[i]]) := ⟨List.take_succ_eq_append_getElem hki⟩
    have HKX : Veil (K = K.take i ++ K[i] :: K.drop (i + 1)) := ⟨by rw [← List.drop_eq_getElem_cons hki, List.take_append_drop]⟩
    have HID : Veil ((ndOf N K[i]).id = K[i]) := ⟨ndOf_id (HKI.out _ (List.getElem_mem hki))⟩
    have HIF := Veil.mk (IH.out K[i] (List.getElem_mem hki))
    have HRG : Veil (∀ W p M, Wk N w W b0 u p M → ∃ g, lx = some ⟨g, 0, none⟩ ∧ W.rangeAt g (i * 6) (cF N K[i]) ∧ W.rangeAt g (i * 6) (encF K[i])) := ⟨fun W p M h => by
     obtain ⟨g, hg, -, hr⟩ := (HKEEP.out W p M h).2.1.at_ i (by rw [List.length_map]; exact hki)
     rw [List.getElem_map] at hr
     refine ⟨g, hg, hr, fun q uu hu => hr q uu ?_⟩
     have hq : q < 2 := by have := (List.getElem?_eq_some_iff.1 hu).1; exact this
     unfold cF ndC
     rw [List.append_assoc, List.append_assoc, List.getElem?_append_left (by exact hq), HID.out]
     exact hu⟩
    generalize K[i] = x at HT1 HKX HID HIF HRG
    clear hki
    have HLB : Veil (L.length + ((K.take i).flatMap (blockN N)).length + (walkA N (x, false)).length + 1 + (walkA N (x, true)).length ≤ 100000) := ⟨by
     have h1 := HLEN.out
     rw [HWA.out] at h1
     have h2 : (K.flatMap (blockN N)).length = ((K.take i).flatMap (blockN N)).length + (blockN N x).length + ((K.drop (i + 1)).flatMap (blockN N)).length := by
      conv => lhs; rw [HKX.out]
      rw [List.flatMap_append, List.flatMap_cons, List.length_append, List.length_append]; omega
     have h3 : (blockN N x).length = (walkA N (x, false)).length + 1 + (walkA N (x, true)).length := by unfold blockN; simp only [List.length_append, List.length_singleton]
     rw [List.length_append] at h1
     omega⟩
    have HEQ : Veil (L ++ (K.take i).flatMap (blockN N) ++ walkA N (x, false) ++ [x] ++ walkA N (x, true) = L ++ (K.take (i + 1)).flatMap (blockN N)) := ⟨by rw [HT1.out, List.flatMap_append, List.flatMap_cons, List.flatMap_nil]; simp [blockN, List.append_assoc]⟩
    obtain ⟨A, hA⟩ : ∃ q, L ++ (K.take i).flatMap (blockN N) = q := ⟨_, rfl⟩
    have HAL : Veil (A.length + (walkA N (x, false)).length + 1 + (walkA N (x, true)).length ≤ 100000) := ⟨by rw [← hA, List.length_append]; exact HLB.out⟩
    rw [hA] at HW HEQ
    have HSUB : Veil (∀ (b : Bool) (M : List (Int × Int)) (p : Value) (W0 W1 : World) (u1 : Value), Wk N w W0 b0 u p M → OwnI W1 W0.heap.size 124 6 u1 ((kids N (x, b)).map (cF N)) → Below W0.heap.size W0 W1 → (M ++ walkA N (x, b)).length ≤ 100000 → Calls Tryz.prog 112 #[.pointer (some ⟨R, 0, none⟩), p, u1] W1 fun e w' => ∃ u2, e = .returned u2 ∧ Veil (Wk N w w' b0 u u2 (M ++ walkA N (x, b)))) := ⟨fun b M p W0 W1 u1 h ho hb hle => by
     have h1 := h.far hb
     obtain ⟨k1, _, k3, k4⟩ := HKEEP.out W1 p M h1
     refine (HIF.out b M p u1 b0 W1 k1 h1.own (ho.less (Nat.zero_le _)) (fun k hk => ⟨fun e => ?_, (k3 k hk).2⟩) k4 hle).mono ?_
     · have q1 := (ho.blockLt k e).2.1
       have q2 := (h.own.blockLt k hk).1
       omega
     · rintro e w' ⟨u2, rfl, h2⟩
       exact ⟨u2, rfl, ⟨h1.trans h2⟩⟩⟩
    clear hA HT1 HKX HIF HLB HLEN IH HKI
    obtain ⟨g, rfl, -, rD⟩ := HRG.out wr _ _ HW.out
    have hkd := HKD.out x false wr (HKEEP.out wr _ _ HW.out).1
    have iX := ID.out x
    obtain ⟨DX, hDX⟩ : ∃ q, encF x = q := ⟨_, rfl⟩
    have HKD2 : Veil (∀ (W : World), RefT W base R v N → Calls Tryz.prog 111 #[.pointer (some ⟨R, 0, none⟩), .agg DX.toArray, .bool true] W fun e w' => ∃ u, e = .returned u ∧ OwnI w' W.heap.size 124 6 u ((kids N (x, true)).map (cF N)) ∧ Below W.heap.size W w') := ⟨fun W h => by rw [← hDX]; exact HKD.out x true W h⟩
    rw [hDX] at hkd iX rD HRG
    clear hDX HKD
    go_upto_region 5 with (first
     | (refine wpList_ldv rfl 40 (.tmp 20) rfl g (i * 6) rfl DX rD uD rfl iX ?_)
     | (go_at_call 111; refine hkd.mono ?_; rintro z W1 ⟨u1, rfl, ho1, hb1⟩; have hwk := HSUB.out false A (.slice ox on oc) wr W1 u1 HW.out ho1 hb1 (by rw [List.length_append]; have := HAL.out; omega); clear hkd ho1 hb1 rD)
     | (go_at_call 112; refine hwk.mono ?_; rintro z W2 ⟨u2, rfl, HW2⟩; clear hwk))
    obtain ⟨g2, hg2, rX2, -⟩ := HRG.out W2 _ _ HW2.out
    obtain rfl : g = g2 := by injection hg2 with q; injection q
    clear hg2
    obtain ⟨px, pc, hp2⟩ := HW2.out.own.isSlice
    obtain ⟨pn, hpn⟩ : ∃ q, ((A ++ walkA N (x, false)).map (cF N)).length = q := ⟨_, rfl⟩
    rw [hpn] at hp2
    obtain ⟨x3, c3, W3, hrun3, ho3, ht3, hf3⟩ := HW2.out.own.push 120 uS infoN6 rfl (by decide) (cF N x) (cF_len N x) (cF_one N x) (by rw [List.length_map, List.length_append]; have := HAL.out; omega) (by decide) (HKEEP.out W2 _ _ HW2.out).2.2.2
    rw [hpn] at hrun3 ho3 hf3
    obtain ⟨l3, hl3⟩ : ∃ q, pn + 1 = q := ⟨_, rfl⟩
    rw [hl3] at hrun3 ho3 hf3
    have HW3 : Veil (Wk N w W3 b0 u (.slice x3 l3 c3) (A ++ walkA N (x, false) ++ [x])) := ⟨HW2.out.trans ⟨by rw [List.map_append, List.map_cons, List.map_nil]; exact ho3, ht3, hf3⟩⟩
    have iF : (Tryz.prog.info? 124).map (·.size) = some (cF N x).length := sizeN6 _
    have HF6 : Veil ((cF N x).length = 6) := ⟨cF_len N x⟩
    generalize cF N x = X at rX2 hrun3 iF HF6
    clear hpn hl3 ho3 ht3 hf3
    subst hp2
    go_upto_region 6 with (first
     | (refine wpList_ldv rfl 124 (.tmp 27) rfl g (i * 6) rfl X rX2 uN rfl iF ?_)
     | (refine wpList_bs1 rfl 120 124 _ rfl X rfl uS infoN6 (by decide) (by decide) HF6.out ?_)
     | (refine wpList_appx rfl _ _ _ _ rfl _ _ _ W3 rfl rfl hrun3 ?_))
    clear rX2 hrun3 iF HF6 HW2
    obtain ⟨g2, hg2, -, rD⟩ := HRG.out W3 _ _ HW3.out
    obtain rfl : g = g2 := by injection hg2 with q; injection q
    clear hg2
    have hkd := HKD2.out W3 (HKEEP.out W3 _ _ HW3.out).1
    go_wp2_with (first
     | (refine wpList_ldv rfl 40 (.tmp 37) rfl g (i * 6) rfl DX rD uD rfl iX ?_)
     | (go_at_call 111; refine hkd.mono ?_; rintro z W4 ⟨u4, rfl, ho4, hb4⟩; have hwk := HSUB.out true _ (.slice x3 l3 c3) W3 W4 u4 HW3.out ho4 hb4 (by rw [List.length_append, List.length_append, List.length_append]; have := HAL.out; simp only [List.length_singleton]; omega); clear hkd ho4 hb4 rD)
     | (go_at_call 112; refine hwk.mono ?_; rintro z W5 ⟨u5, rfl, HW5⟩; clear hwk))
    go_roundw
    case rel =>
     have h5 := HW5.out
     rw [HEQ.out] at h5
     refine ⟨i + 1, ?_, hlt, h5⟩
     push_cast; rfl
    case measure => simp [intOf]; omega
  · obtain rfl : i = kl := by omega
    have hli : ¬ (i : Int) < (i : Int) := by omega
    have HE : Veil (Wk N w wr b0 u (.slice ox on oc) (L ++ WA)) := ⟨by have := HW.out; rw [List.take_of_length_le (by rw [HKL.out]; omega), ← HWA.out] at this; exact this⟩
    clear HW HKEEP HW0
    go_wp2
    go_ret
    exact ⟨_, rfl, HE.out⟩
set_option maxHeartbeats 4000000 in
theorem rall_any (base R : Nat) (v : Value) (N : List Nd) (hN : TreeOk N) (hlen : N.length ≤ 1000) (w : World) (hT : RefT w base R v N) :
    Calls Tryz.prog 90 #[.pointer (some ⟨R, 0, none⟩)] w fun e w' => ∃ x c, e = .returned (.slice x N.length c) ∧ OwnI w' w.heap.size 124 6 (.slice x N.length c) ((walkA N rootS).map (cF N)) ∧ Below w.heap.size w w' := by
 have hk : Calls Tryz.prog 111 #[.pointer (some ⟨R, 0, none⟩), .agg #[.int .u8 0, .int .u32 0], .bool true] w fun e w' => ∃ u, e = .returned u ∧ OwnI w' w.heap.size 124 6 u ((kids N rootS).map (cF N)) ∧ Below w.heap.size w w' := rkids_any base R v N rootS hN.rooted.nodup w hT
 have HW : Veil (∀ u1 W1, OwnI W1 w.heap.size 124 6 u1 ((kids N rootS).map (cF N)) → Below w.heap.size w W1 → Calls Tryz.prog 112 #[.pointer (some ⟨R, 0, none⟩), .slice none 0 0, u1] W1 fun e w' => ∃ x c, e = .returned (.slice x N.length c) ∧ Veil (OwnI w' w.heap.size 124 6 (.slice x N.length c) ((walkA N rootS).map (cF N)) ∧ Below w.heap.size w w')) := ⟨fun u1 W1 ho hb => by
  refine (rwalk_any base R v N hN.rooted rootS [] (.slice none 0 0) u1 w.heap.size W1 (hT.far hb) (OwnI.nil _ _ _ _) (ho.less (Nat.zero_le _)) (fun k hk => by cases hk) hb.size (by rw [List.nil_append, hN.len]; omega)).mono ?_
  rintro e w' ⟨u', rfl, h⟩
  rw [List.nil_append] at h
  obtain ⟨x, c, rfl⟩ := h.own.isSlice
  rw [List.length_map, hN.len] at h ⊢
  exact ⟨x, c, rfl, ⟨h.own, hb.trans ⟨h.turn.os, h.turn.tape, h.turn.output, h.turn.size, fun k hk => h.turn.block k (Nat.lt_of_lt_of_le hk hb.size) (fun q => by cases q)⟩⟩⟩⟩
 generalize N.length = n at HW ⊢
 clear hT hlen hN
 go_enter Tryz.func90, Tryz.ntmps90
 go_wp2_with (first
  | (go_at_call 111; refine hk.mono ?_; rintro z W1 ⟨u1, rfl, ho1, hb1⟩; have hwk := HW.out u1 W1 ho1 hb1; clear hk ho1 hb1)
  | (go_at_call 112; refine hwk.mono ?_; rintro z W2 ⟨x2, c2, rfl, HQ⟩; clear hwk))
 go_ret
 exact ⟨_, _, rfl, HQ.out⟩
theorem cF_id {N : List Nd} {x : Int × Int} (h : ∃ n ∈ N, n.id = x) {W : World} {g o : Nat} (hr : W.rangeAt g o (cF N x)) : W.rangeAt g o (encF x) := fun q uu hu => hr q uu (by
 have hq : q < 2 := (List.getElem?_eq_some_iff.1 hu).1
 unfold cF ndC
 rw [List.append_assoc, List.append_assoc, List.getElem?_append_left (by exact hq), ndOf_id h]
 exact hu)
theorem cF_chr {N : List Nd} {x : Int × Int} {W : World} {g o : Nat} (hr : W.rangeAt g o (cF N x)) : W.cell? ⟨g, o + 5, none⟩ = some (.int .u8 (chr0 N x)) := by
 rw [← ndOf_chr]
 exact hr 5 _ rfl
theorem take_filter {α : Type} (p : α → Bool) (M : List α) (i : Nat) (hi : i < M.length) : (M.take (i + 1)).filter p = (M.take i).filter p ++ (if p M[i] = true then [M[i]] else []) := by rw [List.take_succ_eq_append_getElem hi, filter_snoc]
set_option maxHeartbeats 8000000 in
theorem rtext_any (base R : Nat) (v : Value) (N : List Nd) (hN : TreeOk N) (hlen : N.length ≤ 1000) (w : World) (hT : RefT w base R v N) :
    Calls Tryz.prog 68 #[.pointer (some ⟨R, 0, none⟩)] w fun e w' => ∃ v, e = .returned v ∧ OwnB w' w.heap.size v (textN N) ∧ Below w.heap.size w w' := by
 have hal := rall_any base R v N hN hlen w hT
 have HTX := Veil.mk (text_map N)
 have HWR : Veil (wrN N = (walkA N rootS).filter (writB N)) := ⟨rfl⟩
 obtain ⟨M, hM⟩ : ∃ q, walkA N rootS = q := ⟨_, rfl⟩
 have HML : Veil (M.length = N.length) := ⟨by rw [← hM]; exact hN.len⟩
 rw [hM] at hal HWR
 obtain ⟨TX, hTX⟩ : ∃ q, textN N = q := ⟨_, rfl⟩
 rw [hTX] at HTX ⊢
 obtain ⟨n, hn⟩ : ∃ q, N.length = q := ⟨_, rfl⟩
 rw [hn] at hal HML hlen
 have uS := Tryz.underlying30
 clear hT hN hM hn hTX
 go_enter Tryz.func68, Tryz.ntmps68
 go_wp2_with (first
  | (go_at_call 90; refine hal.mono ?_; rintro z W1 ⟨x1, c1, rfl, ho1, hb1⟩; clear hal))
 have HO1 := Veil.mk ho1
 have HB1 := Veil.mk hb1
 clear ho1 hb1
 go_loopw [3, 5] (fun p q wr => ∃ i : Nat, q = .int .i64 (i : Nat) ∧ i ≤ n ∧ OwnI wr W1.heap.size 5 1 p (((M.take i).filter (writB N)).map (chrC N)) ∧ Below W1.heap.size W1 wr) (fun _ q _ => n - (intOf q).toNat)
 case atStart => exact ⟨0, rfl, Nat.zero_le _, by rw [List.take_zero]; exact OwnI.nil _ _ _ _, Below.refl _ _⟩
 case round =>
  obtain ⟨i, rfl, hi, hO, hB⟩ := hrel
  obtain ⟨px, pc, hp⟩ := hO.isSlice
  obtain ⟨pn, hpn⟩ : ∃ q, (((M.take i).filter (writB N)).map (chrC N)).length = q := ⟨_, rfl⟩
  rw [hpn] at hp
  have HPN := Veil.mk hpn
  clear hpn
  subst hp
  by_cases hlt : i < n
  · have hli : (i : Int) < (n : Int) := by omega
    have hli0 : (0 : Int) ≤ (i : Int) := by omega
    have hki : i < M.length := by rw [HML.out]; exact hlt
    have hww : IntKind.i64.wrap ((i : Int) + 1) = (i : Int) + 1 := by rw [IntKind.wrap_i64]; omega
    obtain ⟨g, rfl, -, hr⟩ := (HO1.out.far hB).at_ i (by rw [List.length_map]; exact hki)
    rw [List.getElem_map] at hr
    have c5 := cF_chr hr
    have HT1 := Veil.mk (take_filter (writB N) M i hki)
    have HWB : Veil (writB N M[i] = decide (chr0 N M[i] ≠ 0)) := ⟨rfl⟩
    have HCC : Veil (chrC N M[i] = [.int .u8 (chr0 N M[i])]) := ⟨rfl⟩
    generalize M[i] = x at HT1 HWB HCC c5
    generalize chr0 N x = CH at HWB HCC c5
    clear hr hki
    by_cases hc : CH = 0
    · subst hc
      have HE : Veil (OwnI wr W1.heap.size 5 1 (.slice px pn pc) (((M.take (i + 1)).filter (writB N)).map (chrC N)) ∧ Below W1.heap.size W1 wr) := ⟨by rw [HT1.out, HWB.out]; simp only [ne_eq, not_true, decide_false, Bool.false_eq_true, if_false, List.append_nil]; exact hO, hB⟩
      clear hO hB HT1
      go_wp2_with fail
      go_roundw
      case rel =>
       obtain ⟨e1, e2⟩ := HE.out
       refine ⟨i + 1, ?_, hlt, e1, e2⟩
       push_cast; rfl
      case measure => simp [intOf]; omega
    · have hcb : (CH == 0) = false := by simpa using hc
      have hcn : (CH != 0) = true := by simpa using hc
      have hPL : (((M.take i).filter (writB N)).map (chrC N)).length ≤ 1000000 := by
       rw [List.length_map]; have := List.length_filter_le (writB N) (M.take i); rw [List.length_take] at this; omega
      obtain ⟨x3, c3, W3, hrun3, ho3, ht3, hf3⟩ := hO.push 30 uS infoU8f rfl (by decide) [.int .u8 CH] rfl (by intro u hu; rw [List.mem_singleton.1 hu]; rfl) hPL (by decide) hB.size
      rw [HPN.out] at hrun3 ho3
      obtain ⟨l3, hl3⟩ : ∃ q, pn + 1 = q := ⟨_, rfl⟩
      rw [hl3] at hrun3 ho3
      replace hrun3 : (Builtin.append_ #[30, 30] 30 #[.slice px pn pc, .slice (some ⟨wr.heap.size, 0, none⟩) 1 1]).run Tryz.prog (wr.alloc (.cells #[.int .u8 CH] 5)) = .ok (.slice x3 l3 c3) W3 := hrun3
      have HE : Veil (OwnI W3 W1.heap.size 5 1 (.slice x3 l3 c3) (((M.take (i + 1)).filter (writB N)).map (chrC N)) ∧ Below W1.heap.size W1 W3) := ⟨by
       rw [HT1.out, HWB.out]
       have hd : decide (CH ≠ 0) = true := by simpa using hc
       rw [hd]
       simp only [if_true, List.map_append, List.map_cons, List.map_nil, HCC.out]
       exact ho3, hB.trans (below_turn ht3 (fun k hk => (hO.blockLt k hk).2.1) hB.size)⟩
      clear hl3 ho3 ht3 hf3 hO hB HT1 hc hPL
      go_upto_region 7 with fail
      go_wp2_with (refine wpList_appx rfl _ _ _ _ rfl _ _ _ W3 rfl rfl hrun3 ?_)
      go_roundw
      case rel =>
       obtain ⟨e1, e2⟩ := HE.out
       refine ⟨i + 1, ?_, hlt, e1, e2⟩
       push_cast; rfl
      case measure => simp [intOf]; omega
  · obtain rfl : i = n := by omega
    have hli : ¬ (i : Int) < (i : Int) := by omega
    have HE : Veil (OwnB wr w.heap.size (.slice px pn pc) TX ∧ Below w.heap.size w wr) := ⟨by
     rw [List.take_of_length_le (by rw [HML.out]; omega), ← HWR.out, HTX.out] at hO
     exact (hO.less HB1.out.size).toB, HB1.out.trans (hB.mono HB1.out.size)⟩
    clear hO hB
    go_wp2
    go_ret
    exact ⟨_, rfl, HE.out⟩
set_option maxHeartbeats 8000000 in
theorem dApply_any (base : Nat) (st : Ds) (p : Pl) (e : Ev) (w : World) (hD : DocAt w base st p) (hG : GoodD st) (he : e.Ok) (hbase : base ≤ w.heap.size) :
    Calls Tryz.prog 18 #[.pointer (some ⟨p.D, 0, none⟩), .agg e.cells.toArray] w fun r w' => r = .returned (.int .i64 (refD st e)) ∧ ∃ p', DocAt w' base (doS st e) p' ∧ DocTo p p' w w' := by
 have hB0 : Below w.heap.size w (w.alloc (.cells e.cells.toArray 44)) := (Below.refl _ _).alloc (Nat.le_refl _) _
 have hx0 := CellsAt.new w 44 e.cells
 have he1 := aev_len e he.past
 have iE : (Tryz.prog.info? 44).map (·.size) = some e.cells.length := by rw [he1]; kernel_rfl
 have uE := Tryz.underlying44
 have HRF : Veil (∀ W, DocAt W base st p → Calls Tryz.prog 44 #[.pointer (some ⟨p.D, 0, none⟩), .agg e.cells.toArray] W fun r w' => r = .returned (.int .i64 (refD st e)) ∧ Below W.heap.size W w') := ⟨fun W h => drefuse_any base st p e W h hG he⟩
 have HAP : Veil (refD st e = 0 → ∀ W, DocAt W base st p → base ≤ W.heap.size → Calls Tryz.prog 45 #[.pointer (some ⟨p.D, 0, none⟩), .agg e.cells.toArray] W fun r w' => (∃ q, r = .returned q) ∧ ∃ p', DocAt w' base (apS st e) p' ∧ DocTo p p' W w') := ⟨fun h0 W h hb => dapply_any base st p e W h hG he h0 hb⟩
 have HDO : Veil (doS st e = if refD st e = 0 then apS st e else st) := ⟨rfl⟩
 have HNE : Veil (¬ docP p w.heap.size) := ⟨fun q => by have := hD.blockLt _ q; omega⟩
 have hD0 := hD.far hB0
 obtain ⟨E, hE⟩ : ∃ E, e.cells = E := ⟨_, rfl⟩
 rw [hE] at hB0 hx0 iE he1 hD0 HRF HAP
 rw [hE]
 obtain ⟨D, hDD⟩ : ∃ q, p.D = q := ⟨_, rfl⟩
 rw [hDD] at HRF HAP ⊢
 generalize refD st e = RN at HRF HAP HDO ⊢
 generalize doS st e = DS at HDO ⊢
 clear he hE hG hD hDD
 go_enter Tryz.func18, Tryz.ntmps18
 go_upto_region 3 with fail
 refine forget (p := fun y => Code.wp _ _ _ _ y) (fun W => Below w.heap.size w W ∧ CellsAt W w.heap.size 44 E ∧ DocAt W base st p) ⟨hB0, hx0, hD0⟩ ?_
 clear hB0 hx0 hD0
 rintro W ⟨hB, hx, hD⟩
 have hb0 : Below W.heap.size W W.drew := (Below.refl _ _).drew
 have hT : (fun W : World => W.rangeAt w.heap.size 0 E) W.drew := (hx.farM hb0).wholeM
 have hS : (fun _ : World => True) W.drew := trivial
 refine wp_region_gateT (fun W : World => W.rangeAt w.heap.size 0 E) (fun _ => True) 99 (by kernel_rfl) ?_
 refine ghA 0 _ hT hS ?_
 simp only [Act.put, gA, gS, gZ, sI, sZ, sS]
 refine ghA 1 _ hT hS ?_
 simp only [Act.put, gA, gS, gZ, sI, sZ, sS]
 refine ghA 2 _ hT hS ?_
 simp only [Act.put, gA, gS, gZ, sI, sZ, sS]
 refine gl 3 11 44 3 w.heap.size 0 E (by kernel_rfl) (by kernel_rfl) (by kernel_rfl) (fun _ _ _ h => h) hT hS (by kernel_rfl) (fun _ h => h) uE rfl iE ?_
 simp only [Act.put, gA, gS, gZ, sI, sZ, sS]
 refine wpAnyT_one (i := 4) rfl (by kernel_rfl) (by kernel_rfl) (fun K hK => ?_)
 refine wpx_call _ _ (by kernel_rfl) ((HRF.out _ (hD.far hb0)).mono ?_)
 rintro y W2 ⟨rfl, hb2⟩
 refine ⟨_, rfl, ?_⟩
 replace hb2 : Below W.heap.size W W2 := hb0.trans hb2
 have H2 : Veil (Below w.heap.size w W2 ∧ CellsAt W2 w.heap.size 44 E ∧ DocAt W2 base st p) := ⟨hB.trans (hb2.mono hB.size), hx.farM hb2, hD.far hb2⟩
 replace hT : (fun W : World => W.rangeAt w.heap.size 0 E) W2 := H2.out.2.1.wholeM
 replace hS : (fun _ : World => True) W2 := trivial
 clear hb2 hb0 hB hx hD HRF
 refine hK.out _ _ hT (fun _ => hS) ?_
 clear hK K
 try simp only [Act.put, gA, gS, gZ, sI, sZ, sS]
 refine ghA 5 _ hT hS ?_
 simp only [Act.put, gA, gS, gZ, sI, sZ, sS]
 refine wpAnyT_done (by kernel_rfl) ?_ _
 clear hT hS
 clear W
 by_cases h0 : RN = 0
 · have hb0 : Below W2.heap.size W2 W2.drew := (Below.refl _ _).drew
   have hap := HAP.out h0 W2.drew (H2.out.2.2.far hb0) (Nat.le_trans hbase H2.out.1.size)
   replace HDO : Veil (DS = apS st e) := ⟨by rw [HDO.out, if_pos h0]⟩
   subst h0
   have hT : (fun W : World => W.rangeAt w.heap.size 0 E) W2.drew := (H2.out.2.1.farM hb0).wholeM
   have hS : (fun _ : World => True) W2.drew := trivial
   go_upto_region 6 with fail
   refine wp_region_gateT (fun W : World => W.rangeAt w.heap.size 0 E) (fun _ => True) 99 (by kernel_rfl) ?_
   refine ghA 0 _ hT hS ?_
   simp only [Act.put, gA, gS, gZ, sI, sZ, sS]
   refine ghA 1 _ hT hS ?_
   simp only [Act.put, gA, gS, gZ, sI, sZ, sS]
   refine ghA 2 _ hT hS ?_
   simp only [Act.put, gA, gS, gZ, sI, sZ, sS]
   refine gl 3 19 44 3 w.heap.size 0 E (by kernel_rfl) (by kernel_rfl) (by kernel_rfl) (fun _ _ _ h => h) hT hS (by kernel_rfl) (fun _ h => h) uE rfl iE ?_
   simp only [Act.put, gA, gS, gZ, sI, sZ, sS]
   refine wpAnyT_one (i := 4) rfl (by kernel_rfl) (by kernel_rfl) (fun K hK => ?_)
   refine wpx_call _ _ (by kernel_rfl) (hap.mono ?_)
   rintro y W3 ⟨⟨q, rfl⟩, p3, hD3, ht3⟩
   refine ⟨_, rfl, ?_⟩
   replace hT : (fun W : World => W.rangeAt w.heap.size 0 E) W3 := (H2.out.2.1.congr (ht3.turn.block _ H2.out.2.1.lt HNE.out)).wholeM
   replace hS : (fun _ : World => True) W3 := trivial
   have HF := Veil.mk (And.intro hD3 ((DocTo.of_below H2.out.1).trans ((DocTo.of_below hb0).trans ht3)))
   clear hD3 ht3 hap hb0
   refine hK.out _ _ hT (fun _ => hS) ?_
   clear hK K
   try simp only [Act.put, gA, gS, gZ, sI, sZ, sS]
   refine wpAnyT_done (by kernel_rfl) ?_ _
   clear hT hS
   go_wp2
   go_ret
   exact ⟨rfl, p3, by rw [HDO.out]; exact HF.out.1, HF.out.2⟩
 · have h0b : (RN == 0) = false := by simpa using h0
   replace HDO : Veil (DS = st) := ⟨by rw [HDO.out, if_neg h0]⟩
   go_wp2
   go_ret
   exact ⟨rfl, p, by rw [HDO.out]; exact H2.out.2.2, DocTo.of_below H2.out.1⟩
set_option maxHeartbeats 4000000 in
theorem dText_any (base : Nat) (st : Ds) (p : Pl) (w : World) (hD : DocAt w base st p) (hG : GoodD st) :
    Calls Tryz.prog 20 #[.pointer (some ⟨p.D, 0, none⟩)] w fun r w' => ∃ v, r = .returned v ∧ OwnB w' w.heap.size v (textN st.N) ∧ Below w.heap.size w w' := by
 have ht := textB_any base p.R p.bc p.bn st.N p.V hG.tree (by have := hG.nlen; have := hG.llen; omega) w hD.tree
 have c0 := hD.cR hG.slen
 generalize p.R = R at ht c0
 generalize p.D = D at c0 ⊢
 clear hD hG
 go_enter Tryz.func20, Tryz.ntmps20
 go_wp2_with (go_at_call 46; refine ht.mono ?_; rintro y W1 ⟨v, rfl, ho, hb⟩)
 go_ret
 exact ⟨v, rfl, ho, hb⟩
end Go.Proofs.YtmbdohnmbkpfaaaGreat
