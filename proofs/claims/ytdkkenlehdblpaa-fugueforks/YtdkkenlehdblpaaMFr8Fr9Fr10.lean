/- fugue, the reference: walk, all. fugue, the reference: all, Order, Text. fugue, the reference: At. -/
import Derived.Test.YtdkkenlehdblpaaMFr6Fr7
namespace Go.Proofs.Ytdkkenlehdblpaa
open Go.RowKit Go.Shelf
set_option maxRecDepth 20000
set_option linter.unusedSimpArgs false
/-- The nodes M lie in p, behind what was in u. -/
structure Wk (N : List Nd) (w W : World) (b0 : Nat) (u p : Value) (M : List (Int × Int)) : Prop where
  own : OwnI W b0 85 6 p (M.map (cF N))
  turn : Turn (fun k => u.ownBlock = some k) w W
  blk : ∀ k, p.ownBlock = some k → u.ownBlock = some k ∨ w.heap.size ≤ k
theorem Wk.far {N : List Nd} {w W W' : World} {b0 : Nat} {u p : Value} {M : List (Int × Int)} (h : Wk N w W b0 u p M) (hb : Below W.heap.size W W') : Wk N w W' b0 u p M := ⟨h.own.far hb, h.turn.trans (Turn.of_below hb), h.blk⟩
theorem Wk.trans {N : List Nd} {w W W' : World} {b0 : Nat} {u p q : Value} {M M' : List (Int × Int)} (h : Wk N w W b0 u p M) (h' : Wk N W W' b0 p q M') : Wk N w W' b0 u q M' where
  own := h'.own
  turn := ⟨h'.turn.os.trans h.turn.os, h'.turn.tape.trans h.turn.tape, h'.turn.output.trans h.turn.output, Nat.le_trans h.turn.size h'.turn.size, fun k hk hn => by
    rw [h'.turn.block k (Nat.lt_of_lt_of_le hk h.turn.size) (fun e => by rcases h.blk k e with q | q; exact hn q; omega), h.turn.block k hk hn]⟩
  blk := fun k hk => by
    rcases h'.blk k hk with q | q
    · exact h.blk k q
    · exact .inr (Nat.le_trans h.turn.size q)
theorem Wk.keep {N : List Nd} {w W : World} {b0 : Nat} {u p : Value} {M : List (Int × Int)} (h : Wk N w W b0 u p M) {k : Nat} (hk : k < w.heap.size) (hn : u.ownBlock ≠ some k) : W.heap[k]? = w.heap[k]? := h.turn.block k hk hn
set_option maxHeartbeats 16000000 in
theorem rwalk_any (base R : Nat) (v : Value) (N : List Nd) (hN : Rooted N) (s : (Int × Int) × Bool) : ∀ (L : List (Int × Int)) (u lv : Value) (b0 : Nat) (w : World), RefT w base R v N → OwnI w b0 85 6 u (L.map (cF N)) → OwnI w 0 85 6 lv ((kids N s).map (cF N)) → (∀ k, u.ownBlock = some k → lv.ownBlock ≠ some k ∧ ¬ refP R v k) → b0 ≤ w.heap.size → (L ++ walkA N s).length ≤ 100000 →
    Calls Try.prog 58 #[.pointer (some ⟨R, 0, none⟩), u, lv] w fun e w' => ∃ u', e = .returned u' ∧ Wk N w w' b0 u u' (L ++ walkA N s) := by
  refine walk_ind hN (C := fun s => ∀ (L : List (Int × Int)) (u lv : Value) (b0 : Nat) (w : World), RefT w base R v N → OwnI w b0 85 6 u (L.map (cF N)) → OwnI w 0 85 6 lv ((kids N s).map (cF N)) → (∀ k, u.ownBlock = some k → lv.ownBlock ≠ some k ∧ ¬ refP R v k) → b0 ≤ w.heap.size → (L ++ walkA N s).length ≤ 100000 →
    Calls Try.prog 58 #[.pointer (some ⟨R, 0, none⟩), u, lv] w fun e w' => ∃ u', e = .returned u' ∧ Wk N w w' b0 u u' (L ++ walkA N s)) (fun s ih => ?_) s
  intro L u lv b0 w hT hu hl hap hb0 hlen
  obtain ⟨K, hK⟩ : ∃ q, kids N s = q := ⟨_, rfl⟩
  have HWA := Veil.mk (walkA_blocks hN s)
  rw [hK] at hl HWA ih
  have HKI : Veil (∀ x ∈ K, ∃ m ∈ N, m.id = x) := ⟨fun x hx => by rw [← hK] at hx; obtain ⟨m, h1, _, h2⟩ := mem_kids.1 hx; exact ⟨m, h1, h2⟩⟩
  have IH := Veil.mk ih
  have HKD : Veil (∀ (x : Int × Int) (b : Bool) (W : World), RefT W base R v N → Calls Try.prog 47 #[.pointer (some ⟨R, 0, none⟩), .agg (encF x).toArray, .bool b] W fun e w' => ∃ u, e = .returned u ∧ OwnI w' W.heap.size 85 6 u ((kids N (x, b)).map (cF N)) ∧ Below W.heap.size W w') := ⟨fun x b W h => rkids_any base R v N (x, b) hN.nodup W h⟩
  have HS0 : Veil (∀ W b u p M, Wk N w W b u p M → u.ownBlock = (u : Value).ownBlock) := ⟨fun _ _ _ _ _ _ => rfl⟩
  clear HS0
  have HKEEP : Veil (∀ W p M, Wk N w W b0 u p M → RefT W base R v N ∧ OwnI W 0 85 6 lv (K.map (cF N)) ∧ (∀ k, p.ownBlock = some k → lv.ownBlock ≠ some k ∧ ¬ refP R v k) ∧ b0 ≤ W.heap.size) := ⟨fun W p M h => by
    refine ⟨hT.congr fun k hk => h.keep (hT.blockLt k hk) (fun e => (hap k e).2 hk), hl.congr fun g hg => h.keep (hl.blockLt g hg).1 (fun e => (hap g e).1 hg), fun k hk => ?_, Nat.le_trans hb0 h.turn.size⟩
    rcases h.blk k hk with q | q
    · exact hap k q
    · exact ⟨fun e => by have := (hl.blockLt k e).1; omega, fun e => by have := hT.blockLt k e; omega⟩⟩
  have HW0 : Veil (Wk N w w b0 u u L) := ⟨hu, Turn.of_below (Below.refl _ _), fun k hk => .inl hk⟩
  obtain ⟨lx, lc, hlv⟩ := hl.isSlice
  rw [List.length_map] at hlv
  obtain ⟨kl, hkl⟩ : ∃ q, K.length = q := ⟨_, rfl⟩
  rw [hkl] at hlv
  have HKL := Veil.mk hkl
  have HLEN := Veil.mk hlen
  have hkle : kl ≤ 1000000 := by
    rw [← hkl, ← hK]
    have h1 : (kids N s).length ≤ (walkA N s).length := by
      rw [walkA_blocks hN, List.length_flatMap]
      generalize kids N s = q
      induction q with
      | nil => simp
      | cons a q ih => rw [List.map_cons, List.sum_cons, List.length_cons]; have : 1 ≤ (blockN N a).length := by unfold blockN; simp; omega
                       omega
    rw [List.length_append] at hlen; omega
  have uD := Try.underlying32
  have uN := Try.underlying85
  have uS := Try.underlying80
  have iD : ∀ x : Int × Int, (Try.prog.info? 32).map (·.size) = some (encF x).length := fun x => sizeDot
  have ID := Veil.mk iD
  clear hT hu hap hb0 hlen hl hK hkl ih iD
  subst hlv
  obtain ⟨WA, hWA⟩ : ∃ q, walkA N s = q := ⟨_, rfl⟩
  rw [hWA] at HWA HLEN ⊢
  clear hWA
  go_enter Try.func58, Try.ntmps58
  go_wp2_with fail
  go_loopw [1, 7] (fun p q wr => ∃ i : Nat, q = .int .i64 (i : Nat) ∧ i ≤ kl ∧ Wk N w wr b0 u p (L ++ (K.take i).flatMap (blockN N))) (fun _ q _ => kl - (intOf q).toNat)
  case atStart => exact ⟨0, rfl, Nat.zero_le _, by rw [List.take_zero, List.flatMap_nil, List.append_nil]; exact HW0.out⟩
  case round =>
    obtain ⟨i, rfl, hi, hW⟩ := hrel
    obtain ⟨ox, oc, hp⟩ := hW.own.isSlice
    obtain ⟨on, hon⟩ : ∃ q, ((L ++ (K.take i).flatMap (blockN N)).map (cF N)).length = q := ⟨_, rfl⟩
    rw [hon] at hp
    subst hp
    clear hon
    have HW := Veil.mk hW
    clear hW
    by_cases hlt : i < kl
    · have hli : (i : Int) < (kl : Int) := by omega
      have hli0 : (0 : Int) ≤ (i : Int) := by omega
      have hki : i < K.length := by rw [HKL.out]; exact hlt
      have hww : IntKind.i64.wrap ((i : Int) + 1) = (i : Int) + 1 := by rw [IntKind.wrap_i64]; omega
      have HT1 : Veil (K.take (i + 1) = K.take i ++ [K[i]]) := ⟨List.take_succ_eq_append_getElem hki⟩
      have HKX : Veil (K = K.take i ++ K[i] :: K.drop (i + 1)) := ⟨by rw [← List.drop_eq_getElem_cons hki, List.take_append_drop]⟩
      have HID : Veil ((ndOf N K[i]).id = K[i]) := ⟨ndOf_id (HKI.out _ (List.getElem_mem hki))⟩
      have HIF := Veil.mk (IH.out K[i] (List.getElem_mem hki))
      have HRG : Veil (∀ W p M, Wk N w W b0 u p M → ∃ g, lx = some ⟨g, 0, none⟩ ∧ W.rangeAt g (i * 6) (cF N K[i]) ∧ W.rangeAt g (i * 6) (encF K[i])) := ⟨fun W p M h => by
        obtain ⟨g, hg, -, hr⟩ := (HKEEP.out W p M h).2.1.at_ i (by rw [List.length_map]; exact hki)
        rw [List.getElem_map] at hr
        refine ⟨g, hg, hr, fun q uu hu => hr q uu ?_⟩
        have hq : q < 2 := by have := (List.getElem?_eq_some_iff.1 hu).1; exact this
        unfold cF ndC
        rw [List.append_assoc, List.append_assoc, List.getElem?_append_left (by exact hq), HID.out]
        exact hu⟩
      generalize K[i] = x at HT1 HKX HID HIF HRG
      clear hki
      have HLB : Veil (L.length + ((K.take i).flatMap (blockN N)).length + (walkA N (x, false)).length + 1 + (walkA N (x, true)).length ≤ 100000) := ⟨by
        have h1 := HLEN.out
        rw [HWA.out] at h1
        have h2 : (K.flatMap (blockN N)).length = ((K.take i).flatMap (blockN N)).length + (blockN N x).length + ((K.drop (i + 1)).flatMap (blockN N)).length := by
          conv => lhs; rw [HKX.out]
          rw [List.flatMap_append, List.flatMap_cons, List.length_append, List.length_append]; omega
        have h3 : (blockN N x).length = (walkA N (x, false)).length + 1 + (walkA N (x, true)).length := by unfold blockN; simp only [List.length_append, List.length_singleton]
        rw [List.length_append] at h1
        omega⟩
      have HEQ : Veil (L ++ (K.take i).flatMap (blockN N) ++ walkA N (x, false) ++ [x] ++ walkA N (x, true) = L ++ (K.take (i + 1)).flatMap (blockN N)) := ⟨by rw [HT1.out, List.flatMap_append, List.flatMap_cons, List.flatMap_nil]; simp [blockN, List.append_assoc]⟩
      obtain ⟨A, hA⟩ : ∃ q, L ++ (K.take i).flatMap (blockN N) = q := ⟨_, rfl⟩
      have HAL : Veil (A.length + (walkA N (x, false)).length + 1 + (walkA N (x, true)).length ≤ 100000) := ⟨by rw [← hA, List.length_append]; exact HLB.out⟩
      rw [hA] at HW HEQ
      have HSUB : Veil (∀ (b : Bool) (M : List (Int × Int)) (p : Value) (W0 W1 : World) (u1 : Value), Wk N w W0 b0 u p M → OwnI W1 W0.heap.size 85 6 u1 ((kids N (x, b)).map (cF N)) → Below W0.heap.size W0 W1 → (M ++ walkA N (x, b)).length ≤ 100000 → Calls Try.prog 58 #[.pointer (some ⟨R, 0, none⟩), p, u1] W1 fun e w' => ∃ u2, e = .returned u2 ∧ Veil (Wk N w w' b0 u u2 (M ++ walkA N (x, b)))) := ⟨fun b M p W0 W1 u1 h ho hb hle => by
        have h1 := h.far hb
        obtain ⟨k1, _, k3, k4⟩ := HKEEP.out W1 p M h1
        refine (HIF.out b M p u1 b0 W1 k1 h1.own (ho.less (Nat.zero_le _)) (fun k hk => ⟨fun e => ?_, (k3 k hk).2⟩) k4 hle).mono ?_
        · have q1 := (ho.blockLt k e).2.1
          have q2 := (h.own.blockLt k hk).1
          omega
        · rintro e w' ⟨u2, rfl, h2⟩
          exact ⟨u2, rfl, ⟨h1.trans h2⟩⟩⟩
      clear hA HT1 HKX HIF HLB HLEN IH HKI
      obtain ⟨g, rfl, -, rD⟩ := HRG.out wr _ _ HW.out
      have hkd := HKD.out x false wr (HKEEP.out wr _ _ HW.out).1
      have iX := ID.out x
      obtain ⟨DX, hDX⟩ : ∃ q, encF x = q := ⟨_, rfl⟩
      have HKD2 : Veil (∀ (W : World), RefT W base R v N → Calls Try.prog 47 #[.pointer (some ⟨R, 0, none⟩), .agg DX.toArray, .bool true] W fun e w' => ∃ u, e = .returned u ∧ OwnI w' W.heap.size 85 6 u ((kids N (x, true)).map (cF N)) ∧ Below W.heap.size W w') := ⟨fun W h => by rw [← hDX]; exact HKD.out x true W h⟩
      rw [hDX] at hkd iX rD HRG
      clear hDX HKD
      go_upto_region 5 with (first
        | (refine wpList_ldv rfl 32 (.tmp 20) rfl g (i * 6) rfl DX rD uD rfl iX ?_)
        | (go_at_call 47; refine hkd.mono ?_; rintro z W1 ⟨u1, rfl, ho1, hb1⟩; have hwk := HSUB.out false A (.slice ox on oc) wr W1 u1 HW.out ho1 hb1 (by rw [List.length_append]; have := HAL.out; omega); clear hkd ho1 hb1 rD)
        | (go_at_call 58; refine hwk.mono ?_; rintro z W2 ⟨u2, rfl, HW2⟩; clear hwk))
      obtain ⟨g2, hg2, rX2, -⟩ := HRG.out W2 _ _ HW2.out
      obtain rfl : g = g2 := by injection hg2 with q; injection q
      clear hg2
      obtain ⟨px, pc, hp2⟩ := HW2.out.own.isSlice
      obtain ⟨pn, hpn⟩ : ∃ q, ((A ++ walkA N (x, false)).map (cF N)).length = q := ⟨_, rfl⟩
      rw [hpn] at hp2
      obtain ⟨x3, c3, W3, hrun3, ho3, ht3, hf3⟩ := HW2.out.own.push 80 uS infoN6 rfl (by decide) (cF N x) (cF_len N x) (cF_one N x) (by rw [List.length_map, List.length_append]; have := HAL.out; omega) (by decide) (HKEEP.out W2 _ _ HW2.out).2.2.2
      rw [hpn] at hrun3 ho3 hf3
      obtain ⟨l3, hl3⟩ : ∃ q, pn + 1 = q := ⟨_, rfl⟩
      rw [hl3] at hrun3 ho3 hf3
      have HW3 : Veil (Wk N w W3 b0 u (.slice x3 l3 c3) (A ++ walkA N (x, false) ++ [x])) := ⟨HW2.out.trans ⟨by rw [List.map_append, List.map_cons, List.map_nil]; exact ho3, ht3, hf3⟩⟩
      have iF : (Try.prog.info? 85).map (·.size) = some (cF N x).length := sizeN6 _
      have HF6 : Veil ((cF N x).length = 6) := ⟨cF_len N x⟩
      generalize cF N x = X at rX2 hrun3 iF HF6
      clear hpn hl3 ho3 ht3 hf3
      subst hp2
      go_upto_region 6 with (first
        | (refine wpList_ldv rfl 85 (.tmp 27) rfl g (i * 6) rfl X rX2 uN rfl iF ?_)
        | (refine wpList_bs1 rfl 80 85 _ rfl X rfl uS infoN6 (by decide) (by decide) HF6.out ?_)
        | (refine wpList_appx rfl _ _ _ _ rfl _ _ _ W3 rfl rfl hrun3 ?_))
      clear rX2 hrun3 iF HF6 HW2
      obtain ⟨g2, hg2, -, rD⟩ := HRG.out W3 _ _ HW3.out
      obtain rfl : g = g2 := by injection hg2 with q; injection q
      clear hg2
      have hkd := HKD2.out W3 (HKEEP.out W3 _ _ HW3.out).1
      go_wp2_with (first
        | (refine wpList_ldv rfl 32 (.tmp 37) rfl g (i * 6) rfl DX rD uD rfl iX ?_)
        | (go_at_call 47; refine hkd.mono ?_; rintro z W4 ⟨u4, rfl, ho4, hb4⟩; have hwk := HSUB.out true _ (.slice x3 l3 c3) W3 W4 u4 HW3.out ho4 hb4 (by rw [List.length_append, List.length_append, List.length_append]; have := HAL.out; simp only [List.length_singleton]; omega); clear hkd ho4 hb4 rD)
        | (go_at_call 58; refine hwk.mono ?_; rintro z W5 ⟨u5, rfl, HW5⟩; clear hwk))
      go_roundw
      case rel =>
        have h5 := HW5.out
        rw [HEQ.out] at h5
        refine ⟨i + 1, ?_, hlt, h5⟩
        push_cast; rfl
      case measure => simp [intOf]; omega
    · obtain rfl : i = kl := by omega
      have hli : ¬ (i : Int) < (i : Int) := by omega
      have HE : Veil (Wk N w wr b0 u (.slice ox on oc) (L ++ WA)) := ⟨by have := HW.out; rw [List.take_of_length_le (by rw [HKL.out]; omega), ← HWA.out] at this; exact this⟩
      clear HW HKEEP HW0
      go_wp2
      go_ret
      exact ⟨_, rfl, HE.out⟩
end Go.Proofs.Ytdkkenlehdblpaa

namespace Go.Proofs.Ytdkkenlehdblpaa
open Go.RowKit Go.Shelf
set_option maxRecDepth 20000
set_option linter.unusedSimpArgs false
set_option maxHeartbeats 4000000 in
theorem rall_any (base R : Nat) (v : Value) (N : List Nd) (hN : TreeOk N) (hlen : N.length ≤ 1000) (w : World) (hT : RefT w base R v N) :
    Calls Try.prog 46 #[.pointer (some ⟨R, 0, none⟩)] w fun e w' => ∃ x c, e = .returned (.slice x N.length c) ∧ OwnI w' w.heap.size 85 6 (.slice x N.length c) ((walkA N rootS).map (cF N)) ∧ Below w.heap.size w w' := by
  have hk : Calls Try.prog 47 #[.pointer (some ⟨R, 0, none⟩), .agg #[.int .u8 0, .int .u32 0], .bool true] w fun e w' => ∃ u, e = .returned u ∧ OwnI w' w.heap.size 85 6 u ((kids N rootS).map (cF N)) ∧ Below w.heap.size w w' := rkids_any base R v N rootS hN.rooted.nodup w hT
  have HW : Veil (∀ u1 W1, OwnI W1 w.heap.size 85 6 u1 ((kids N rootS).map (cF N)) → Below w.heap.size w W1 → Calls Try.prog 58 #[.pointer (some ⟨R, 0, none⟩), .slice none 0 0, u1] W1 fun e w' => ∃ x c, e = .returned (.slice x N.length c) ∧ Veil (OwnI w' w.heap.size 85 6 (.slice x N.length c) ((walkA N rootS).map (cF N)) ∧ Below w.heap.size w w')) := ⟨fun u1 W1 ho hb => by
    refine (rwalk_any base R v N hN.rooted rootS [] (.slice none 0 0) u1 w.heap.size W1 (hT.far hb) (OwnI.nil _ _ _ _) (ho.less (Nat.zero_le _)) (fun k hk => by cases hk) hb.size (by rw [List.nil_append, hN.len]; omega)).mono ?_
    rintro e w' ⟨u', rfl, h⟩
    rw [List.nil_append] at h
    obtain ⟨x, c, rfl⟩ := h.own.isSlice
    rw [List.length_map, hN.len] at h ⊢
    exact ⟨x, c, rfl, ⟨h.own, hb.trans ⟨h.turn.os, h.turn.tape, h.turn.output, h.turn.size, fun k hk => h.turn.block k (Nat.lt_of_lt_of_le hk hb.size) (fun q => by cases q)⟩⟩⟩⟩
  generalize N.length = n at HW ⊢
  clear hT hlen hN
  go_enter Try.func46, Try.ntmps46
  go_wp2_with (first
    | (go_at_call 47; refine hk.mono ?_; rintro z W1 ⟨u1, rfl, ho1, hb1⟩; have hwk := HW.out u1 W1 ho1 hb1; clear hk ho1 hb1)
    | (go_at_call 58; refine hwk.mono ?_; rintro z W2 ⟨x2, c2, rfl, HQ⟩; clear hwk))
  go_ret
  exact ⟨_, _, rfl, HQ.out⟩
theorem cF_id {N : List Nd} {x : Int × Int} (h : ∃ n ∈ N, n.id = x) {W : World} {g o : Nat} (hr : W.rangeAt g o (cF N x)) : W.rangeAt g o (encF x) := fun q uu hu => hr q uu (by
  have hq : q < 2 := (List.getElem?_eq_some_iff.1 hu).1
  unfold cF ndC
  rw [List.append_assoc, List.append_assoc, List.getElem?_append_left (by exact hq), ndOf_id h]
  exact hu)
theorem cF_chr {N : List Nd} {x : Int × Int} {W : World} {g o : Nat} (hr : W.rangeAt g o (cF N x)) : W.cell? ⟨g, o + 5, none⟩ = some (.int .u8 (chr0 N x)) := by
  rw [← ndOf_chr]
  exact hr 5 _ rfl
set_option maxHeartbeats 8000000 in
theorem rorder_any (base R : Nat) (v : Value) (N : List Nd) (hN : TreeOk N) (hlen : N.length ≤ 1000) (w : World) (hT : RefT w base R v N) :
    Calls Try.prog 32 #[.pointer (some ⟨R, 0, none⟩)] w fun e w' => ∃ v, e = .returned v ∧ OwnI w' w.heap.size 32 2 v ((walkA N rootS).map encF) ∧ Below w.heap.size w w' := by
  have hal := rall_any base R v N hN hlen w hT
  obtain ⟨M, hM⟩ : ∃ q, walkA N rootS = q := ⟨_, rfl⟩
  have HML : Veil (M.length = N.length) := ⟨by rw [← hM]; exact hN.len⟩
  have HMI : Veil (∀ x ∈ M, ∃ m ∈ N, m.id = x) := ⟨fun x hx => by rw [← hM] at hx; exact mem_walk hN.rooted rootS x hx⟩
  rw [hM] at hal ⊢
  obtain ⟨n, hn⟩ : ∃ q, N.length = q := ⟨_, rfl⟩
  rw [hn] at hal HML hlen
  have uD := Try.underlying32
  have uS := Try.underlying46
  clear hT hN hM hn
  go_enter Try.func32, Try.ntmps32
  go_wp2_with (first
    | (go_at_call 46; refine hal.mono ?_; rintro z W1 ⟨x1, c1, rfl, ho1, hb1⟩; clear hal))
  have HO1 := Veil.mk ho1
  have HB1 := Veil.mk hb1
  clear ho1 hb1
  go_loopw [3, 5] (fun p q wr => ∃ i : Nat, q = .int .i64 (i : Nat) ∧ i ≤ n ∧ OwnI wr W1.heap.size 32 2 p ((M.take i).map encF) ∧ Below W1.heap.size W1 wr) (fun _ q _ => n - (intOf q).toNat)
  case atStart => exact ⟨0, rfl, Nat.zero_le _, by rw [List.take_zero]; exact OwnI.nil _ _ _ _, Below.refl _ _⟩
  case round =>
    obtain ⟨i, rfl, hi, hO, hB⟩ := hrel
    obtain ⟨px, pc, hp⟩ := hO.isSlice
    obtain ⟨pn, hpn⟩ : ∃ q, ((M.take i).map encF).length = q := ⟨_, rfl⟩
    rw [hpn] at hp
    have HPN := Veil.mk hpn
    clear hpn
    subst hp
    by_cases hlt : i < n
    · have hli : (i : Int) < (n : Int) := by omega
      have hli0 : (0 : Int) ≤ (i : Int) := by omega
      have hki : i < M.length := by rw [HML.out]; exact hlt
      have hww : IntKind.i64.wrap ((i : Int) + 1) = (i : Int) + 1 := by rw [IntKind.wrap_i64]; omega
      obtain ⟨g, rfl, -, hr⟩ := (HO1.out.far hB).at_ i (by rw [List.length_map]; exact hki)
      rw [List.getElem_map] at hr
      replace hr := cF_id (HMI.out _ (List.getElem_mem hki)) hr
      have HT1 : Veil (M.take (i + 1) = M.take i ++ [M[i]]) := ⟨List.take_succ_eq_append_getElem hki⟩
      obtain ⟨x3, c3, W3, hrun3, ho3, ht3, hf3⟩ := hO.push 46 uS infoD2 rfl (by decide) (encF M[i]) rfl (encF_one _) (by rw [List.length_map, List.length_take]; omega) (by decide) hB.size
      rw [HPN.out] at hrun3 ho3
      obtain ⟨l3, hl3⟩ : ∃ q, pn + 1 = q := ⟨_, rfl⟩
      rw [hl3] at hrun3 ho3
      have HE : Veil (OwnI W3 W1.heap.size 32 2 (.slice x3 l3 c3) ((M.take (i + 1)).map encF) ∧ Below W1.heap.size W1 W3) := ⟨by rw [HT1.out, List.map_append, List.map_cons, List.map_nil]; exact ho3, hB.trans (below_turn ht3 (fun k hk => (hO.blockLt k hk).2.1) hB.size)⟩
      have iX : (Try.prog.info? 32).map (·.size) = some (encF M[i]).length := sizeDot
      have HF2 : Veil ((encF M[i]).length = 2) := ⟨rfl⟩
      generalize encF M[i] = DX at hr hrun3 iX HF2
      clear hl3 ho3 ht3 hf3 hO hB HT1 hki
      go_wp2_with (first
        | (refine wpList_ldv rfl 32 (.tmp 18) rfl g (i * 6) rfl DX hr uD rfl iX ?_)
        | (refine wpList_bs1 rfl 46 32 _ rfl DX rfl uS infoD2 (by decide) (by decide) HF2.out ?_)
        | (refine wpList_appx rfl _ _ _ _ rfl _ _ _ W3 rfl rfl hrun3 ?_))
      go_roundw
      case rel =>
        obtain ⟨e1, e2⟩ := HE.out
        refine ⟨i + 1, ?_, hlt, e1, e2⟩
        push_cast; rfl
      case measure => simp [intOf]; omega
    · obtain rfl : i = n := by omega
      have hli : ¬ (i : Int) < (i : Int) := by omega
      have HE : Veil (OwnI wr w.heap.size 32 2 (.slice px pn pc) (M.map encF) ∧ Below w.heap.size w wr) := ⟨by rw [List.take_of_length_le (by rw [HML.out]; omega)] at hO; exact hO.less HB1.out.size, HB1.out.trans (hB.mono HB1.out.size)⟩
      clear hO hB
      go_wp2
      go_ret
      exact ⟨_, rfl, HE.out⟩
theorem take_filter {α : Type} (p : α → Bool) (M : List α) (i : Nat) (hi : i < M.length) : (M.take (i + 1)).filter p = (M.take i).filter p ++ (if p M[i] = true then [M[i]] else []) := by rw [List.take_succ_eq_append_getElem hi, filter_snoc]
set_option maxHeartbeats 8000000 in
theorem rtext_any (base R : Nat) (v : Value) (N : List Nd) (hN : TreeOk N) (hlen : N.length ≤ 1000) (w : World) (hT : RefT w base R v N) :
    Calls Try.prog 31 #[.pointer (some ⟨R, 0, none⟩)] w fun e w' => ∃ v, e = .returned v ∧ OwnB w' w.heap.size v (textN N) ∧ Below w.heap.size w w' := by
  have hal := rall_any base R v N hN hlen w hT
  have HTX := Veil.mk (text_map N)
  have HWR : Veil (wrN N = (walkA N rootS).filter (writB N)) := ⟨rfl⟩
  obtain ⟨M, hM⟩ : ∃ q, walkA N rootS = q := ⟨_, rfl⟩
  have HML : Veil (M.length = N.length) := ⟨by rw [← hM]; exact hN.len⟩
  rw [hM] at hal HWR
  obtain ⟨TX, hTX⟩ : ∃ q, textN N = q := ⟨_, rfl⟩
  rw [hTX] at HTX ⊢
  obtain ⟨n, hn⟩ : ∃ q, N.length = q := ⟨_, rfl⟩
  rw [hn] at hal HML hlen
  have uS := Try.underlying35
  clear hT hN hM hn hTX
  go_enter Try.func31, Try.ntmps31
  go_wp2_with (first
    | (go_at_call 46; refine hal.mono ?_; rintro z W1 ⟨x1, c1, rfl, ho1, hb1⟩; clear hal))
  have HO1 := Veil.mk ho1
  have HB1 := Veil.mk hb1
  clear ho1 hb1
  go_loopw [3, 5] (fun p q wr => ∃ i : Nat, q = .int .i64 (i : Nat) ∧ i ≤ n ∧ OwnI wr W1.heap.size 5 1 p (((M.take i).filter (writB N)).map (chrC N)) ∧ Below W1.heap.size W1 wr) (fun _ q _ => n - (intOf q).toNat)
  case atStart => exact ⟨0, rfl, Nat.zero_le _, by rw [List.take_zero]; exact OwnI.nil _ _ _ _, Below.refl _ _⟩
  case round =>
    obtain ⟨i, rfl, hi, hO, hB⟩ := hrel
    obtain ⟨px, pc, hp⟩ := hO.isSlice
    obtain ⟨pn, hpn⟩ : ∃ q, (((M.take i).filter (writB N)).map (chrC N)).length = q := ⟨_, rfl⟩
    rw [hpn] at hp
    have HPN := Veil.mk hpn
    clear hpn
    subst hp
    by_cases hlt : i < n
    · have hli : (i : Int) < (n : Int) := by omega
      have hli0 : (0 : Int) ≤ (i : Int) := by omega
      have hki : i < M.length := by rw [HML.out]; exact hlt
      have hww : IntKind.i64.wrap ((i : Int) + 1) = (i : Int) + 1 := by rw [IntKind.wrap_i64]; omega
      obtain ⟨g, rfl, -, hr⟩ := (HO1.out.far hB).at_ i (by rw [List.length_map]; exact hki)
      rw [List.getElem_map] at hr
      have c5 := cF_chr hr
      have HT1 := Veil.mk (take_filter (writB N) M i hki)
      have HWB : Veil (writB N M[i] = decide (chr0 N M[i] ≠ 0)) := ⟨rfl⟩
      have HCC : Veil (chrC N M[i] = [.int .u8 (chr0 N M[i])]) := ⟨rfl⟩
      generalize M[i] = x at HT1 HWB HCC c5
      generalize chr0 N x = CH at HWB HCC c5
      clear hr hki
      by_cases hc : CH = 0
      · subst hc
        have HE : Veil (OwnI wr W1.heap.size 5 1 (.slice px pn pc) (((M.take (i + 1)).filter (writB N)).map (chrC N)) ∧ Below W1.heap.size W1 wr) := ⟨by rw [HT1.out, HWB.out]; simp only [ne_eq, not_true, decide_false, Bool.false_eq_true, if_false, List.append_nil]; exact hO, hB⟩
        clear hO hB HT1
        go_wp2_with fail
        go_roundw
        case rel =>
          obtain ⟨e1, e2⟩ := HE.out
          refine ⟨i + 1, ?_, hlt, e1, e2⟩
          push_cast; rfl
        case measure => simp [intOf]; omega
      · have hcb : (CH == 0) = false := by simpa using hc
        have hcn : (CH != 0) = true := by simpa using hc
        have hPL : (((M.take i).filter (writB N)).map (chrC N)).length ≤ 1000000 := by
          rw [List.length_map]; have := List.length_filter_le (writB N) (M.take i); rw [List.length_take] at this; omega
        obtain ⟨x3, c3, W3, hrun3, ho3, ht3, hf3⟩ := hO.push 35 uS infoU8f rfl (by decide) [.int .u8 CH] rfl (by intro u hu; rw [List.mem_singleton.1 hu]; rfl) hPL (by decide) hB.size
        rw [HPN.out] at hrun3 ho3
        obtain ⟨l3, hl3⟩ : ∃ q, pn + 1 = q := ⟨_, rfl⟩
        rw [hl3] at hrun3 ho3
        replace hrun3 : (Builtin.append_ #[35, 35] 35 #[.slice px pn pc, .slice (some ⟨wr.heap.size, 0, none⟩) 1 1]).run Try.prog (wr.alloc (.cells #[.int .u8 CH] 5)) = .ok (.slice x3 l3 c3) W3 := hrun3
        have HE : Veil (OwnI W3 W1.heap.size 5 1 (.slice x3 l3 c3) (((M.take (i + 1)).filter (writB N)).map (chrC N)) ∧ Below W1.heap.size W1 W3) := ⟨by
          rw [HT1.out, HWB.out]
          have hd : decide (CH ≠ 0) = true := by simpa using hc
          rw [hd]
          simp only [if_true, List.map_append, List.map_cons, List.map_nil, HCC.out]
          exact ho3, hB.trans (below_turn ht3 (fun k hk => (hO.blockLt k hk).2.1) hB.size)⟩
        clear hl3 ho3 ht3 hf3 hO hB HT1 hc hPL
        go_upto_region 7 with fail
        go_wp2_with (refine wpList_appx rfl _ _ _ _ rfl _ _ _ W3 rfl rfl hrun3 ?_)
        go_roundw
        case rel =>
          obtain ⟨e1, e2⟩ := HE.out
          refine ⟨i + 1, ?_, hlt, e1, e2⟩
          push_cast; rfl
        case measure => simp [intOf]; omega
    · obtain rfl : i = n := by omega
      have hli : ¬ (i : Int) < (i : Int) := by omega
      have HE : Veil (OwnB wr w.heap.size (.slice px pn pc) TX ∧ Below w.heap.size w wr) := ⟨by
        rw [List.take_of_length_le (by rw [HML.out]; omega), ← HWR.out, HTX.out] at hO
        exact (hO.less HB1.out.size).toB, HB1.out.trans (hB.mono HB1.out.size)⟩
      clear hO hB
      go_wp2
      go_ret
      exact ⟨_, rfl, HE.out⟩
end Go.Proofs.Ytdkkenlehdblpaa

namespace Go.Proofs.Ytdkkenlehdblpaa
open Go.RowKit Go.Shelf
set_option maxRecDepth 20000
set_option linter.unusedSimpArgs false
theorem atN_hit (N : List Nd) (k : Nat) (hk : k < (walkA N rootS).length) (h : writB N (walkA N rootS)[k] = true) (i : Int) (hi : i = ((((walkA N rootS).take k).filter (writB N)).length : Nat)) : atN N i = some (walkA N rootS)[k] := by
  have h1 : wrN N = ((walkA N rootS).take k).filter (writB N) ++ (walkA N rootS)[k] :: ((walkA N rootS).drop (k + 1)).filter (writB N) := by
    unfold wrN
    conv => lhs; rw [← List.take_append_drop k (walkA N rootS), List.drop_eq_getElem_cons hk]
    rw [List.filter_append, List.filter_cons_of_pos h]
  unfold atN
  rw [if_neg (by omega), h1, hi, Int.toNat_natCast, List.getElem?_append_right (Nat.le_refl _)]
  simp
theorem atN_miss (N : List Nd) (i : Int) (h : i < 0 ∨ (((walkA N rootS).filter (writB N)).length : Int) ≤ i) : atN N i = none := by
  unfold atN
  split
  · rfl
  · rw [List.getElem?_eq_none]
    unfold wrN
    omega
set_option maxHeartbeats 8000000 in
theorem rat2_any (base R : Nat) (v : Value) (N : List Nd) (hN : TreeOk N) (hlen : N.length ≤ 1000) (i : Int) (w : World) (hT : RefT w base R v N) :
    Calls Try.prog 29 #[.pointer (some ⟨R, 0, none⟩), .int .i64 i] w fun e w' => e = .returned (.tuple #[.agg (encF (atD (atN N i))).toArray, .int .i64 (atE (atN N i))]) ∧ Below w.heap.size w w' := by
  have hB : Below w.heap.size w (w.alloc (.cells #[.int .u8 0, .int .u32 0] 32)) := (Below.refl _ _).alloc (Nat.le_refl _) _
  have hc := CellsAt.new w 32 [.int .u8 0, .int .u32 0]
  have hal := rall_any base R v N hN hlen _ (hT.far hB)
  have HIT : Veil (∀ (k : Nat) (hk : k < (walkA N rootS).length), writB N (walkA N rootS)[k] = true → i = ((((walkA N rootS).take k).filter (writB N)).length : Nat) → atN N i = some (walkA N rootS)[k]) := ⟨fun k hk h hi => atN_hit N k hk h i hi⟩
  have HMISS : Veil ((i < 0 ∨ (((walkA N rootS).filter (writB N)).length : Int) ≤ i) → atN N i = none) := ⟨atN_miss N i⟩
  have HMI0 : Veil (∀ x ∈ walkA N rootS, ∃ m ∈ N, m.id = x) := ⟨fun x hx => mem_walk hN.rooted rootS x hx⟩
  have HML0 : Veil ((walkA N rootS).length = N.length) := ⟨hN.len⟩
  generalize walkA N rootS = M at hal HIT HMISS HMI0 HML0
  generalize atN N i = AN at HIT HMISS ⊢
  obtain ⟨n, hn⟩ : ∃ q, N.length = q := ⟨_, rfl⟩
  rw [hn] at hal HML0 hlen
  have uD := Try.underlying32
  have iZ : (Try.prog.info? 32).map (·.size) = some [Value.int .u8 0, Value.int .u32 0].length := sizeDot
  have hz1 : ∀ v ∈ [Value.int .u8 0, Value.int .u32 0], v.oneCell' = true := encF_one (0, 0)
  have HC0 : Veil (∀ W, Below (w.alloc (.cells #[.int .u8 0, .int .u32 0] 32)).heap.size (w.alloc (.cells #[.int .u8 0, .int .u32 0] 32)) W → Below w.heap.size w W ∧ CellsAt W w.heap.size 32 [.int .u8 0, .int .u32 0]) := ⟨fun W hb => ⟨hB.trans (hb.mono hB.size), hc.farM hb⟩⟩
  have HSZ : Veil ((w.alloc (.cells #[.int .u8 0, .int .u32 0] 32)).heap.size = w.heap.size + 1) := ⟨World.size_alloc _ _⟩
  clear hT hN hn hB hc
  go_enter Try.func29, Try.ntmps29
  go_wp2_with (first
    | (go_at_call 46; refine hal.mono ?_; rintro z W1 ⟨x1, c1, rfl, ho1, hb1⟩; clear hal))
  have HO1 := Veil.mk ho1
  have HQ1 := Veil.mk (HC0.out W1 hb1)
  clear ho1 hb1 HC0
  go_loopw [7, 8] (fun p q wr => ∃ k : Nat, q = .int .i64 (k : Nat) ∧ k ≤ n ∧ p = .int .i64 (((M.take k).filter (writB N)).length : Nat) ∧ (i < 0 ∨ (((M.take k).filter (writB N)).length : Int) ≤ i) ∧ Below W1.heap.size W1 wr) (fun _ q _ => n - (intOf q).toNat)
  case atStart => exact ⟨0, rfl, Nat.zero_le _, by rw [List.take_zero]; rfl, by rw [List.take_zero]; simp; omega, Below.refl _ _⟩
  case round =>
    obtain ⟨k, rfl, hk, rfl, hno, hB⟩ := hrel
    have HFL : Veil (((M.take k).filter (writB N)).length ≤ 1000) := ⟨by have := List.length_filter_le (writB N) (M.take k); rw [List.length_take] at this; omega⟩
    obtain ⟨fl, hfl⟩ : ∃ q, ((M.take k).filter (writB N)).length = q := ⟨_, rfl⟩
    rw [hfl] at hno HFL ⊢
    have HFE := Veil.mk hfl
    clear hfl
    by_cases hlt : k < n
    · have hli : (k : Int) < (n : Int) := by omega
      have hli0 : (0 : Int) ≤ (k : Int) := by omega
      have hki : k < M.length := by rw [HML0.out]; exact hlt
      have hww : IntKind.i64.wrap ((k : Int) + 1) = (k : Int) + 1 := by rw [IntKind.wrap_i64]; omega
      have hwf : IntKind.i64.wrap ((fl : Int) + 1) = (fl : Int) + 1 := by rw [IntKind.wrap_i64]; have := HFL.out; omega
      obtain ⟨g, rfl, -, hr⟩ := (HO1.out.far hB).at_ k (by rw [List.length_map]; exact hki)
      rw [List.getElem_map] at hr
      have c5 := cF_chr hr
      have hrd := cF_id (HMI0.out _ (List.getElem_mem hki)) hr
      have HT1 := Veil.mk (take_filter (writB N) M k hki)
      have HWB : Veil (writB N M[k] = decide (chr0 N M[k] ≠ 0)) := ⟨rfl⟩
      have HH := Veil.mk (HIT.out k hki)
      generalize M[k] = x at HT1 HWB HH c5 hrd
      generalize chr0 N x = CH at HWB c5
      clear hr hki
      by_cases hc : CH = 0
      · subst hc
        have HE : Veil (((M.take (k + 1)).filter (writB N)).length = fl) := ⟨by rw [HT1.out, HWB.out]; simp only [ne_eq, not_true, decide_false, Bool.false_eq_true, if_false, List.append_nil]; exact HFE.out⟩
        have HB := Veil.mk hB
        have HNO := Veil.mk hno
        clear hB HT1 HH hno
        go_wp2_with fail
        go_roundw
        case rel =>
          refine ⟨k + 1, ?_, hlt, ?_, ?_, HB.out⟩
          · push_cast; rfl
          · rw [HE.out]
          · rw [HE.out]; exact HNO.out
        case measure => simp [intOf]; omega
      · have hcb : (CH == 0) = false := by simpa using hc
        have hwt : writB N x = true := by rw [HWB.out]; simpa using hc
        by_cases he : (fl : Int) = i
        · have HA : Veil (AN = some x) := ⟨HH.out hwt (by rw [HFE.out]; exact he.symm)⟩
          have heb : ((fl : Int) == i) = true := by simpa using he
          obtain ⟨xa, xb⟩ := x
          simp only [encF, dotC] at hrd
          have iX : (Try.prog.info? 32).map (·.size) = some [Value.int .u8 xa, Value.int .u32 xb].length := sizeDot
          have hx1 : ∀ v ∈ [Value.int .u8 xa, Value.int .u32 xb], v.oneCell' = true := encF_one (xa, xb)
          have hc2 := HQ1.out.2.farM hB
          have HEND : Veil (CellsAt (wr.setRow w.heap.size #[.int .u8 xa, .int .u32 xb]) w.heap.size 32 [.int .u8 xa, .int .u32 xb] ∧ Below w.heap.size w (wr.setRow w.heap.size #[.int .u8 xa, .int .u32 xb])) := ⟨hc2.setRow [.int .u8 xa, .int .u32 xb], below_setRowN (HQ1.out.1.trans (hB.mono HQ1.out.1.size)) (Nat.le_refl _) _⟩
          have HHE := Veil.mk he
          clear HT1 HH hwt he hno hB HWB hc
          go_upto_region 10 with fail
          go_wp2_with (first
            | (refine wpList_ldv rfl 32 (.tmp 32) rfl g (k * 6) rfl [.int .u8 xa, .int .u32 xb] hrd uD rfl iX ?_)
            | (refine wpList_stv rfl 32 (.tmp 4) _ rfl w.heap.size rfl (cs := [.int .u8 xa, .int .u32 xb]) rfl hc2 iX rfl hx1 ?_))
          refine bodyPost_ret (results_ct (Try.results29) _ rfl rfl HEND.out.1 uD rfl iX) rfl ⟨by rw [HA.out]; rfl, HEND.out.2⟩
        · have heb : ((fl : Int) == i) = false := by simpa using he
          have HE : Veil (((M.take (k + 1)).filter (writB N)).length = fl + 1) := ⟨by rw [HT1.out, hwt]; simp only [if_true, List.length_append, List.length_singleton]; rw [HFE.out]⟩
          have HB := Veil.mk hB
          have HNO : Veil (i < 0 ∨ ((fl + 1 : Nat) : Int) ≤ i) := ⟨by omega⟩
          clear hB HT1 HH hno hwt he HWB hc
          go_wp2_with fail
          go_roundw
          case rel =>
            refine ⟨k + 1, ?_, hlt, ?_, ?_, HB.out⟩
            · push_cast; rfl
            · rw [HE.out]; push_cast; rfl
            · rw [HE.out]; exact HNO.out
          case measure => simp [intOf]; omega
    · obtain rfl : k = n := by omega
      have hli : ¬ (k : Int) < (k : Int) := by omega
      have HA : Veil (AN = none) := ⟨HMISS.out (by have := HFE.out; rw [List.take_of_length_le (by rw [HML0.out]; omega)] at this; rw [this]; exact hno)⟩
      have hc2 := HQ1.out.2.farM hB
      have HEND : Veil (CellsAt (wr.setRow w.heap.size #[.int .u8 0, .int .u32 0]) w.heap.size 32 [.int .u8 0, .int .u32 0] ∧ Below w.heap.size w (wr.setRow w.heap.size #[.int .u8 0, .int .u32 0])) := ⟨hc2.setRow [.int .u8 0, .int .u32 0], below_setRowN (HQ1.out.1.trans (hB.mono HQ1.out.1.size)) (Nat.le_refl _) _⟩
      clear hno hB
      go_wp2_with (refine wpList_stv rfl 32 (.tmp 4) _ rfl w.heap.size rfl (cs := [.int .u8 0, .int .u32 0]) rfl hc2 iZ rfl hz1 ?_)
      refine bodyPost_ret (results_ct (Try.results29) _ rfl rfl HEND.out.1 uD rfl iZ) rfl ⟨by rw [HA.out]; rfl, HEND.out.2⟩
end Go.Proofs.Ytdkkenlehdblpaa
