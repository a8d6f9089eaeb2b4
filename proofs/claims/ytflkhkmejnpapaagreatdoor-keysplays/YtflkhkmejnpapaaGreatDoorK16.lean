/- Ky1 Own Mac1 Mac2 Mac3 Mac4 -/
import Derived.Test.YtflkhkmejnpapaaGreatDoorK15
import Derived.Test.YtflkhkmejnpapaaGreatDoorK03
import Derived.Maps.AppendAt
import Derived.Laws.AppendOwnNone
import Derived.RangeFuncBox
import Derived.Deep.RegionWith
namespace Go.Proofs.YtflkhkmejnpapaaGreatDoor
open Go.RowKit
set_option maxRecDepth 20000
set_option linter.unusedSimpArgs false
def bE4 (n : Int) : List Int := [n / 16777216 % 256, n / 65536 % 256, n / 256 % 256, n % 256]
set_option maxHeartbeats 2000000 in
theorem kjoined_any (g n : Nat) (ps : List Part) (w : World) (h : PartsAt w g ps) (hn : n = ps.length) (hn1 : n ≤ 1000) (hs : sumN ps ≤ 1000000) :
    Calls Tryz.prog 45 #[.slice (some ⟨g, 0, none⟩) n n] w fun e w' => ∃ v, e = .returned v ∧ OwnB w' w.heap.size v (allZ ps) ∧ Below w.heap.size w w' := by
 have HP : Veil (PartsAt w g ps) := ⟨h⟩
 have HN : Veil (n = ps.length) := ⟨hn⟩
 have HS : Veil (∀ j, (allZ (ps.take j)).length ≤ 1000000) := ⟨fun j => by have := allZ_le ps j; unfold sumN at hs; omega⟩
 have HTK : Veil (ps.take n = ps) := ⟨List.take_of_length_le (by omega)⟩
 clear h hn hs
 go_enter Tryz.func45, Tryz.ntmps45
 go_wp2_with fail
 go_loopw [3, 8] (fun v jv wr => ∃ i : Nat, i ≤ n ∧ jv = .int .i64 i ∧ OwnB wr w.heap.size v (allZ (ps.take i)) ∧ Below w.heap.size w wr) (fun _ jv _ => n - (intOf jv).toNat)
 case atStart => exact ⟨0, by omega, rfl, OwnB.nil _ _, Below.refl _ _⟩
 case round =>
  obtain ⟨i, hi, rfl, ho, hB⟩ := hrel
  by_cases hlt : i < n
  · have hl := HN.out
    have hc := (HP.out.below hB).cell i (by omega)
    have hb := (HP.out.below hB).has i (by omega)
    have ht := allZ_take ps i (by omega)
    have hs1 := HS.out (i + 1)
    rw [ht, List.length_append] at hs1
    have hzl := hb.len_eq
    have HT : Veil (allZ (ps.take (i + 1)) = allZ (ps.take i) ++ (ps[i]'(by omega)).z) := ⟨ht⟩
    obtain ⟨p, hp⟩ : ∃ q, ps[i]'(by omega) = q := ⟨_, rfl⟩
    rw [hp] at hc HT hzl hs1 hb
    obtain ⟨px, pl, pc, pz⟩ := p
    simp only [Part.val] at hc
    simp only at hzl HT hs1 hb
    obtain ⟨A, hA⟩ : ∃ q, allZ (ps.take i) = q := ⟨_, rfl⟩
    rw [hA] at HT hs1 ho
    have hlen : A.length + pl ≤ 4000000 := by omega
    have hj0 : (0 : Int) ≤ (i : Int) := by omega
    have hjn : (i : Int) < (n : Int) := by omega
    clear hl ht hzl hp hA hs1
    go_wp2_with (at_builtin; refine wpList_app rfl _ _ rfl w.heap.size _ A rfl ho px pl pc pz rfl hb hlen hB.size ?_; intro v3 w3 ho3 hg3)
    go_roundw
    case rel => exact ⟨i + 1, by omega, by go_num, by rw [HT.out]; exact ho3, below_grown hB ho hg3 hB.size⟩
    case measure => simp [intOf]; omega
  · obtain rfl : i = n := by omega
    rw [HTK.out] at ho
    go_wp2
    go_ret
    exact ⟨_, rfl, ho, hB⟩
set_option maxHeartbeats 1000000 in
theorem kfour_any (n : Int) (w : World) :
    Calls Tryz.prog 51 #[.int .u32 n] w fun e w' => e = .returned (.slice (some ⟨w.heap.size, 0, none⟩) 4 4) ∧ w' = w.alloc (.cells (row .u8 (bE4 n)) 5) := by
 have e1 : IntKind.u8.wrap (n / 16777216) = n / 16777216 % 256 := by simp [IntKind.wrap, IntKind.bits, IntKind.signed]
 have e2 : IntKind.u8.wrap (n / 65536) = n / 65536 % 256 := by simp [IntKind.wrap, IntKind.bits, IntKind.signed]
 have e3 : IntKind.u8.wrap (n / 256) = n / 256 % 256 := by simp [IntKind.wrap, IntKind.bits, IntKind.signed]
 have e4 : IntKind.u8.wrap n = n % 256 := by simp [IntKind.wrap, IntKind.bits, IntKind.signed]
 go_enter Tryz.func51, Tryz.ntmps51
 go_wp2
 go_ret
 exact ⟨rfl, rfl⟩
end Go.Proofs.YtflkhkmejnpapaaGreatDoor
namespace Go.Proofs.YtflkhkmejnpapaaGreatDoor.S
open Go.RowKit
def lenOf : Value → Nat | .slice _ n _ => n | _ => 0
def OwnB (w : World) (base : Nat) (v : Value) (z : List Int) : Prop := w.ownsRow base 5 1 v z.length (z.map (Value.int .u8))
theorem OwnB.cast {w : World} {base n : Nat} {v : Value} {z : List Int} {xs : List Value} (h : w.ownsRow base 5 1 v n xs) (hn : n = z.length) (hx : xs = z.map (Value.int .u8)) : OwnB w base v z := by
 subst hn hx; exact h
theorem wpList_app {w : World} {ops : Array Oper} {rest : List Oper} {o : Oper} {a : Act} {Q : Exit → Act → World → Prop} (hgd : o.guard = none) (s x : Operand)
    (ho : o.op = .call { callee := .builtin .append, args := #[s, x], argTypes := #[74, 74] }) (base : Nat) (v : Value) (zs : List Int) (hs : a.eval s = v) (hown : OwnB w base v zs)
    (y : Option Addr) (len cap : Nat) (z : List Int) (hx : a.eval x = .slice y len cap) (hb : Bytes w y len cap z) (hln : zs.length + len ≤ 4000000) (hbase : base ≤ w.heap.size)
    (h : ∀ v' w', OwnB w' base v' (zs ++ z) → w.grownBy w' v.ownBlock → wpList Tryz.prog ops Q rest (a.put o.dst v') w') : wpList Tryz.prog ops Q (o :: rest) a w := by
 obtain ⟨i0, hi, hz0, hz1, hz2⟩ := info_parts infoU8
 have hzl := hb.len_eq
 have hcase : ∀ ad : Addr, y = some ad → (∀ j u, (z.map (Value.int .u8))[j]? = some u → w.cell? (ad.add j) = some u) → wpList Tryz.prog ops Q (o :: rest) a w := fun ad hy hsrc => by
  subst hy
  refine wpList_append_own w hgd s x 74 ho base 5 i0 (.int .u8 0) 1 1 Tryz.underlying74 hi hz0 hz1 hz2 rfl (by decide) v zs.length (zs.map (Value.int .u8)) hs hown ad len cap (z.map (Value.int .u8)) hx (by simp [hzl]) hsrc (by simp [Value.oneCell']) (by simp [maxLen]; omega) (by omega) hbase ?_
  intro v' w' h1 h2 _
  exact h v' w' (OwnB.cast h1 (by simp [hzl]) (by simp)) h2
 rcases hb.at_ with h0 | ⟨b, off, hy, hc⟩
 · have hz0' : z = [] := List.length_eq_zero_iff.1 (by omega)
   cases y with
   | none =>
    have hc0 := hb.nil rfl
    subst h0 hc0 hz0'
    refine wpList_append_own_none hgd s x 74 ho base 5 i0 1 Tryz.underlying74 hi v zs.length (zs.map (Value.int .u8)) hs hown hx ?_
    exact h v w (by rw [List.append_nil]; exact hown) ⟨rfl, rfl, rfl, Nat.le_refl _, fun _ _ _ => rfl⟩
   | some ad => exact hcase ad rfl (fun j u hu => by subst hz0'; simp at hu)
 · exact hcase _ hy (fun j u hu => by
    have hj : j < len := by have := (List.getElem?_eq_some_iff.1 hu).1; simpa [hzl] using this
    rw [Addr.add_mid', hc j hj, ← hu, List.getElem?_map, List.getElem?_eq_getElem (by omega)]; rfl)
theorem wpList_app1 {w : World} {ops : Array Oper} {rest : List Oper} {o : Oper} {a : Act} {Q : Exit → Act → World → Prop} (hgd : o.guard = none) (s x : Operand)
    (ho : o.op = .call { callee := .builtin .append, args := #[s, x], argTypes := #[74, 74] }) (base : Nat) (v : Value) (zs : List Int) (hs : a.eval s = v) (c : Int) (hown : OwnB (w.alloc (.cells #[.int .u8 c] 5)) base v zs)
    (hx : a.eval x = .slice (some ⟨w.heap.size, 0, none⟩) 1 1) (hln : zs.length ≤ 4000000) (hbase : base ≤ w.heap.size)
    (h : ∀ v' w', OwnB w' base v' (zs ++ [c]) → (w.alloc (.cells #[.int .u8 c] 5)).grownBy w' v.ownBlock → wpList Tryz.prog ops Q rest (a.put o.dst v') w') : wpList Tryz.prog ops Q (o :: rest) a (w.alloc (.cells #[.int .u8 c] 5)) := by
 obtain ⟨i0, hi, hz0, hz1, hz2⟩ := info_parts infoU8
 refine wpList_append_own (w.alloc (.cells #[.int .u8 c] 5)) hgd s x 74 ho base 5 i0 (.int .u8 0) 1 1 Tryz.underlying74 hi hz0 hz1 hz2 rfl (by decide) v zs.length (zs.map (Value.int .u8)) hs hown ⟨w.heap.size, 0, none⟩ 1 1 [.int .u8 c] hx rfl (cell_one_new _ _ _) (by simp [Value.oneCell']) (by simp [maxLen]; omega) (by omega) (by simp; omega) ?_
 intro v' w' h1 h2 _
 exact h v' w' (OwnB.cast h1 (by simp) (by simp)) h2
theorem OwnB.nil (w : World) (base : Nat) : OwnB w base (.slice none 0 0) [] := World.ownsRow_nil w base 5 1
theorem OwnB.alloc {w : World} {base : Nat} {v : Value} {z : List Int} (h : OwnB w base v z) (o : Obj) : OwnB (w.alloc o) base v z := World.ownsRow.alloc h o
theorem OwnB.slice {w : World} {base : Nat} {v : Value} {z : List Int} (h : OwnB w base v z) (hz : 0 < z.length) : ∃ g cap, v = .slice (some ⟨g, 0, none⟩) z.length cap ∧ base ≤ g := by
 rcases h.2 with ⟨_, h0⟩ | ⟨g, cap, cur, rfl, hb, _⟩
 · omega
 · exact ⟨g, cap, rfl, hb⟩
theorem below_grown {base : Nat} {w0 w w' : World} {v : Value} {z : List Int} (hb : Below base w0 w) (hown : OwnB w base v z) (hg : w.grownBy w' v.ownBlock) (hbase : base ≤ w.heap.size) : Below base w0 w' :=
 hb.grown hg hbase (fun k hk => by
  rcases hown.2 with ⟨rfl, _⟩ | ⟨g, cap, cur, rfl, hb, _⟩
  · cases hk
  · simp [Value.ownBlock] at hk; omega)
theorem Holds.bytes {w : World} {g : Nat} {t : TypeId} {l : List Int} {n : Nat} (h : Holds w g .u8 t l) (hn : n = l.length) (hl : l.length ≤ 4000000) : Bytes w (some ⟨g, 0, none⟩) n n l := by
 subst hn
 exact ⟨rfl, Nat.le_refl _, by omega, (fun h => by cases h), .inr ⟨g, 0, rfl, fun j hj => by rw [Nat.zero_add]; exact h.cell j hj⟩⟩
theorem OwnB.bytes {w : World} {base : Nat} {x : Option Addr} {n cap : Nat} {z : List Int} (h : OwnB w base (.slice x n cap) z) : n = z.length ∧ Bytes w x n cap z := by
 rcases h.2 with ⟨h1, h0⟩ | ⟨g, cap', cur, h1, _, hg, hc, hm, hs, ht⟩
 · have hz : z = [] := List.length_eq_zero_iff.1 h0
   cases h1
   subst hz
   exact ⟨rfl, bytes_nil w⟩
 · cases h1
   refine ⟨rfl, rfl, hc, by simpa [maxLen] using hm, (fun h => by cases h), .inr ⟨g, 0, rfl, fun j hj => ?_⟩⟩
   rw [Nat.zero_add, cell_of_row w g j _ _ _ hg, ← Array.getElem?_toList]
   have e : (cur.toList.take (z.length * 1))[j]? = (z.map (Value.int .u8))[j]? := by rw [ht]
   rw [Nat.mul_one, List.getElem?_take_of_lt hj, List.getElem?_map, List.getElem?_eq_getElem hj] at e
   rw [e, List.getElem?_eq_getElem hj]; rfl
theorem OwnB.isSlice {w : World} {base : Nat} {v : Value} {z : List Int} (h : OwnB w base v z) : ∃ x n c, v = .slice x n c ∧ n = z.length := by
 rcases h.2 with ⟨rfl, h0⟩ | ⟨g, cap, cur, rfl, _⟩
 · exact ⟨none, 0, 0, rfl, h0.symm⟩
 · exact ⟨_, _, _, rfl, rfl⟩
set_option maxRecDepth 20000
def Box (w : World) (H : Nat) (t : TypeId) (v : Value) : Prop := w.heap[H]? = some (.cells #[v] t (0, 0))
theorem Box.cell {w : World} {H : Nat} {t : TypeId} {v : Value} (h : Box w H t v) : w.cell? ⟨H, 0, none⟩ = some v := (cell_of_row w H 0 _ t _ h).trans rfl
theorem Box.frozen {w : World} {H : Nat} {t : TypeId} {v : Value} (h : Box w H t v) : w.frozen? ⟨H, 0, none⟩ = false := frozen_of_row w H 0 _ t h
theorem Box.lt {w : World} {H : Nat} {t : TypeId} {v : Value} (h : Box w H t v) : H < w.heap.size := (Array.getElem?_eq_some_iff.1 h).1
theorem Box.set {w : World} {H : Nat} {t : TypeId} {v : Value} (h : Box w H t v) (v' : Value) : Box (w.setCell ⟨H, 0, none⟩ v') H t v' := by
 unfold Box at h ⊢
 rw [heap_setCell_same w H 0 _ t _ h]; rfl
theorem OwnB.ne_box {w : World} {base H : Nat} {t : TypeId} {v u : Value} {z : List Int} (h : OwnB w base v z) (hb : Box w H t u) (ht : t ≠ 5) : v.ownBlock = none ∨ v.ownBlock ≠ some H := by
 rcases h.2 with ⟨rfl, _⟩ | ⟨g, cap, cur, rfl, _, hg, _⟩
 · exact .inl rfl
 · refine .inr fun e => ?_
   simp [Value.ownBlock] at e
   subst e
   unfold Box at hb
   rw [hg] at hb
   simp at hb
   exact ht hb.2.symm
theorem Box.grown {w w' : World} {base H : Nat} {t : TypeId} {v u : Value} {z : List Int} (hb : Box w H t u) (h : OwnB w base v z) (hg : w.grownBy w' v.ownBlock) (ht : t ≠ 5) : Box w' H t u := by
 have hl := hb.lt
 have hne := h.ne_box hb ht
 unfold Box at hb ⊢
 rw [hg.block H hl (fun e => by rcases hne with h0 | h0 <;> rw [← e] at h0 <;> simp at h0)]
 exact hb
theorem OwnB.setBox {w : World} {base H : Nat} {t : TypeId} {v u : Value} {z : List Int} (h : OwnB w base v z) (hb : Box w H t u) (ht : t ≠ 5) (u' : Value) : OwnB (w.setCell ⟨H, 0, none⟩ u') base v z := by
 have hne := h.ne_box hb ht
 exact World.ownsRow.kept h (row := some H) ⟨rfl, rfl, rfl, by simp [World.setCell], fun k _ hk => heap_setCell_other w _ k _ (fun e => hk (by rw [e]))⟩ hne
theorem take_any (H base : Nat) (v : Value) (zs : List Int) (x : Option Addr) (len cap : Nat) (z : List Int) (w : World) (hbox : Box w H 143 v) (hown : OwnB w base v zs) (hb : Bytes w x len cap z) (hln : zs.length + len ≤ 4000000) (hH : base ≤ H) :
    Calls Tryz.prog 90 #[.pointer (some ⟨H, 0, none⟩), .slice x len cap] w fun e w' => (∃ r, e = .returned r) ∧ ∃ v', Box w' H 143 v' ∧ OwnB w' base v' (zs ++ z) ∧ Below base w w' := by
 have hbase : base ≤ w.heap.size := by have := hbox.lt; omega
 have hc := hbox.cell
 go_enter Tryz.func90, Tryz.ntmps90
 go_wp2_with (at_builtin; refine wpList_app rfl _ _ rfl base _ zs rfl hown x len cap z rfl hb hln hbase ?_; intro v1 w1 ho1 hg1; have hb1 := hbox.grown hown hg1 (by decide); have hc1 := hb1.cell; have hf1 := hb1.frozen; obtain ⟨x1, n1, c1, hv1, hn1⟩ := ho1.isSlice; subst hv1; clear hn1)
 go_end0
 exact ⟨⟨_, rfl⟩, _, hb1.set _, ho1.setBox hb1 (by decide) _, (below_grown (Below.refl _ _) hown hg1 hbase).setCell hH _⟩
theorem hashSum_any (H base : Nat) (v : Value) (z : List Int) (w : World) (hbox : Box w H 143 v) (hown : OwnB w base v z) (hbytes : ∀ x n c, v = .slice x n c → Bytes w x n c z) (hln : z.length ≤ 1000000) (hk : KTab w) :
    Calls Tryz.prog 91 #[.pointer (some ⟨H, 0, none⟩)] w fun e w' => e = .returned (.agg (row .u8 (sumL z))) ∧ Below w.heap.size w w' := by
 obtain ⟨x1, n1, c1, hv1, hn1⟩ := hown.isSlice
 subst hv1
 have hln : n1 ≤ 1000000 := by omega
 clear hn1
 have hy := hbytes _ _ _ rfl
 have hc : ∀ o, (w.alloc o).cell? ⟨H, 0, none⟩ = some (.slice x1 n1 c1) := fun o => (cell_of_row _ H 0 _ _ (0, 0) ((Below.heap_alloc w o H hbox.lt).trans hbox)).trans rfl
 have hN := Holds.new w .u8 23 (List.replicate 32 0)
 have hs : ∀ wx, Below w.heap.size w wx → Calls Tryz.prog 88 #[.slice x1 n1 c1] wx fun e w' => e = .returned (.agg (row .u8 (sumL z))) ∧ Below wx.heap.size wx w' := fun wx hx => sum_any x1 n1 c1 z wx (hy.below hx) hln (hk.below hx)
 have hdl := sumL_length z
 obtain ⟨D, hD⟩ : ∃ D, sumL z = D := ⟨_, rfl⟩
 rw [hD] at hs hdl ⊢
 clear hD hy hbytes
 go_enter Tryz.func91, Tryz.ntmps91
 go_wp2_with (first
  | (go_at_call 88; refine (hs _ ((Below.refl _ _).alloc (Nat.le_refl _) _)).mono ?_; rintro e w1 ⟨rfl, hb1⟩; have hN1 := hN.below hb1 (by simp))
  | (refine wpList_st rfl 23 _ _ rfl _ rfl rfl hN1 (by rw [hdl]; exact sizeKey) (by simp [hdl]) ?_))
 refine bodyPost_ret (results_holds (Tryz.results91) _ rfl (hN1.setRow _) Tryz.underlying23 sizeKey hdl) rfl ⟨rfl, ?_⟩
 exact below_setRow (((Below.refl _ _).alloc (Nat.le_refl _) _).trans (hb1.mono (by simp))) (Nat.le_refl _) _
theorem sizeFk : (Tryz.prog.info? 105).map (·.size) = some 64 := by kernel_rfl
def mapK (f : Int → Int) (k : List Int) (j : Nat) : List Int := (k.take j).map f ++ k.drop j
theorem mapK_length (f : Int → Int) (k : List Int) (j : Nat) : (mapK f k j).length = k.length := by simp [mapK]; omega
theorem mapK_get (f : Int → Int) (k : List Int) (j : Nat) (h : j < k.length) : (mapK f k j)[j]?.getD 0 = k[j]?.getD 0 := by
 unfold mapK
 rw [List.getElem?_append_right (by simp; omega)]
 simp only [List.length_map, List.length_take, List.getElem?_drop]
 rw [show j + (j - min j k.length) = j by omega]
theorem mapK_set (f : Int → Int) (k : List Int) (j : Nat) (h : j < k.length) : (mapK f k j).set j (f (k[j]?.getD 0)) = mapK f k (j + 1) := by
 unfold mapK
 rw [List.drop_eq_getElem_cons h, List.set_append_right _ _ (by simp; omega), List.take_succ_eq_append_getElem h, List.getElem?_eq_getElem h]
 simp only [List.length_map, List.length_take, Option.getD_some, List.map_append, List.map_cons, List.map_nil, List.append_assoc, List.cons_append, List.nil_append]
 rw [show j - min j k.length = 0 by omega]
 rfl
def turnL (t : Int) (k : List Int) : List Int := k.map fun c => bits .xor .u8 c t
theorem turnL_length (t : Int) (k : List Int) : (turnL t k).length = k.length := by simp [turnL]
theorem begin_any (k : List Int) (t : Int) (w : World) (hk : k.length = 64) :
    Calls Tryz.prog 92 #[.agg (row .u8 k), .int .u8 t] w fun e w' => ∃ H v, e = .returned (.pointer (some ⟨H, 0, none⟩)) ∧ w.heap.size ≤ H ∧ Box w' H 143 v ∧ OwnB w' w.heap.size v (turnL t k) ∧ Below w.heap.size w w' := by
 go_enter Tryz.func92, Tryz.ntmps92
 go_wp2
 go_loopw [7] (fun i wr => ∃ j : Nat, j ≤ 64 ∧ i = .int .i64 j ∧ Below w.heap.size w wr ∧ Holds wr w.heap.size .u8 105 (mapK (fun c => bits .xor .u8 c t) k j)) (fun i _ => 64 - (intOf i).toNat)
 case atStart => exact ⟨0, by omega, rfl, (Below.refl _ _).alloc (Nat.le_refl _) _, Holds.new w .u8 105 k⟩
 case round =>
  obtain ⟨j, hj, rfl, hB, hH⟩ := hrel
  by_cases hlt : j < 64
  · have c1 := hH.cell j (by rw [mapK_length]; omega)
    rw [mapK_get _ _ _ (by omega)] at c1
    have f1 := hH.frozen j
    have hst := mapK_set (fun c => bits .xor .u8 c t) k j (by omega)
    obtain ⟨V, hV⟩ : ∃ V, k[j]?.getD 0 = V := ⟨_, rfl⟩
    rw [hV] at c1 hst
    have HST : Hid ((mapK (fun c => bits .xor .u8 c t) k j).set j (bits .xor .u8 V t) = mapK (fun c => bits .xor .u8 c t) k (j + 1)) := hst
    clear hst hV
    go_wp2
    go_roundw
    case rel => exact ⟨j + 1, by omega, by go_num, hB.setCell (Nat.le_refl _) _, by rw [← HST.out]; exact hH.set j _⟩
    case measure => simp [intOf]; omega
  · obtain rfl : j = 64 := by omega
    have hm : mapK (fun c => bits .xor .u8 c t) k 64 = turnL t k := by
     unfold mapK turnL; rw [List.take_of_length_le (by omega), List.drop_of_length_le (by omega), List.append_nil]
    rw [hm] at hH
    have hl : (turnL t k).length = 64 := by rw [turnL_length, hk]
    have hy := hH.bytes (n := 64) hl.symm (by omega)
    have hB5 : Below wr.heap.size wr (wr.alloc (.cells #[.slice none 0 0] 143)).drew := ((Below.refl _ _).alloc (Nat.le_refl _) _).drew
    have tk := take_any wr.heap.size w.heap.size (.slice none 0 0) [] (some ⟨w.heap.size, 0, none⟩) 64 64 (turnL t k) (wr.alloc (.cells #[.slice none 0 0] 143)).drew (World.alloc_heap_new wr _) (OwnB.nil _ _) (hy.below hB5) (by simp) hB.size
    have hBw : Below w.heap.size w (wr.alloc (.cells #[.slice none 0 0] 143)).drew := (hB.alloc hB.size _).drew
    have hsz := hB.size
    go_upto_region 7 with fail
    go_region_with (go_at_call 90; refine tk.mono ?_; rintro e w4 ⟨⟨r, rfl⟩, v4, hb4, ho4, hB4⟩)
    go_wp2
    go_ret
    exact ⟨_, v4, rfl, hsz, hb4, ho4, hBw.trans hB4⟩
theorem inner_any (k : List Int) (w : World) (hk : k.length = 64) :
    Calls Tryz.prog 70 #[.agg (row .u8 k)] w fun e w' => ∃ H v, e = .returned (.pointer (some ⟨H, 0, none⟩)) ∧ w.heap.size < H ∧ Box w' H 143 v ∧ OwnB w' (w.heap.size + 1) v (turnL 54 k) ∧ Below w.heap.size w w' := by
 have h0 : Holds (w.alloc (.cells (row .u8 k) 105)) w.heap.size .u8 105 k := Holds.new w .u8 105 k
 go_enter Tryz.func70, Tryz.ntmps70
 go_wp2_with (first
  | (refine wpList_ld rfl 105 _ rfl _ rfl h0 Tryz.underlying105 sizeFk hk ?_)
  | (go_at_call 92; refine (begin_any k 54 _ hk).mono ?_; rintro e w1 ⟨H, v, rfl, h1, h2, h3, h4⟩))
 go_ret
 exact ⟨H, v, rfl, by simp at h1; omega, h2, by simpa using h3, ((Below.refl _ _).alloc (Nat.le_refl _) _).trans (h4.mono (by simp))⟩
theorem outer_any (k : List Int) (w : World) (hk : k.length = 64) :
    Calls Tryz.prog 71 #[.agg (row .u8 k)] w fun e w' => ∃ H v, e = .returned (.pointer (some ⟨H, 0, none⟩)) ∧ w.heap.size < H ∧ Box w' H 143 v ∧ OwnB w' (w.heap.size + 1) v (turnL 92 k) ∧ Below w.heap.size w w' := by
 have h0 : Holds (w.alloc (.cells (row .u8 k) 105)) w.heap.size .u8 105 k := Holds.new w .u8 105 k
 go_enter Tryz.func71, Tryz.ntmps71
 go_wp2_with (first
  | (refine wpList_ld rfl 105 _ rfl _ rfl h0 Tryz.underlying105 sizeFk hk ?_)
  | (go_at_call 92; refine (begin_any k 92 _ hk).mono ?_; rintro e w1 ⟨H, v, rfl, h1, h2, h3, h4⟩))
 go_ret
 exact ⟨H, v, rfl, by simp at h1; omega, h2, by simpa using h3, ((Below.refl _ _).alloc (Nat.le_refl _) _).trans (h4.mono (by simp))⟩
structure Part where
 x : Option Addr
 len : Nat
 cap : Nat
 z : List Int
def PartsAt (w : World) (base pb : Nat) (ps : List Part) : Prop :=
 ∀ w', Below base w w' → ∀ j (hj : j < ps.length), w'.cell? ⟨pb, j, none⟩ = some (.slice ps[j].x ps[j].len ps[j].cap) ∧ Bytes w' ps[j].x ps[j].len ps[j].cap ps[j].z
def allOf (ps : List Part) : List Int := ps.flatMap (·.z)
theorem allOf_snoc (ps : List Part) (k : Nat) (h : k < ps.length) : allOf (ps.take (k + 1)) = allOf (ps.take k) ++ ps[k].z := by
 unfold allOf
 rw [List.take_succ_eq_append_getElem h, List.flatMap_append]
 simp
theorem each_any (H base pb n cap : Nat) (v : Value) (zs : List Int) (ps : List Part) (w : World) (hbox : Box w H 143 v) (hown : OwnB w base v zs) (hH : base ≤ H) (hps : PartsAt w base pb ps) (hn : n = ps.length) (hn2 : n ≤ 1000)
    (hlen : ∀ k, k ≤ ps.length → zs.length + (allOf (ps.take k)).length ≤ 1000000) (hlen2 : ∀ p ∈ ps, p.len ≤ 1000000) :
    Calls Tryz.prog 89 #[.func (.func 90) #[.pointer (some ⟨H, 0, none⟩)] #[], .slice (some ⟨pb, 0, none⟩) n cap] w fun e w' => (∃ r, e = .returned r) ∧ ∃ v', Box w' H 143 v' ∧ OwnB w' base v' (zs ++ allOf ps) ∧ Below base w w' := by
 have HN : Hid (n = ps.length) := hn
 clear hn
 go_enter Tryz.func89, Tryz.ntmps89
 go_wp2_with fail
 go_loopw [8] (fun i wr => ∃ k : Nat, k ≤ n ∧ i = .int .i64 k ∧ Below base w wr ∧ ∃ v, Box wr H 143 v ∧ OwnB wr base v (zs ++ allOf (ps.take k))) (fun i _ => n - (intOf i).toNat)
 case atStart => exact ⟨0, by omega, rfl, Below.refl _ _, v, hbox, by simpa [allOf] using hown⟩
 case round =>
  obtain ⟨k, hk, rfl, hB, v1, hb1, ho1⟩ := hrel
  by_cases hlt : k < n
  · have hkp : k < ps.length := by have := HN.out; omega
    obtain ⟨hc, hy⟩ := hps wr hB k hkp
    have hl1 := hlen k (by omega)
    have hl2 := hlen2 ps[k] (List.getElem_mem hkp)
    have tk := take_any H base v1 (zs ++ allOf (ps.take k)) ps[k].x ps[k].len ps[k].cap ps[k].z wr hb1 ho1 hy (by rw [List.length_append]; omega) hH
    have hsn := allOf_snoc ps k hkp
    rw [List.append_assoc, ← hsn] at tk
    obtain ⟨X, hX⟩ : ∃ X, ps[k].x = X := ⟨_, rfl⟩
    obtain ⟨L, hL⟩ : ∃ X, ps[k].len = X := ⟨_, rfl⟩
    obtain ⟨C, hC⟩ : ∃ X, ps[k].cap = X := ⟨_, rfl⟩
    rw [hX, hL, hC] at hc tk
    clear hX hL hC hsn hl1 hl2 hy hlen hlen2
    go_wp2_with (go_at_call 90; refine tk.mono ?_; rintro e w2 ⟨⟨r, rfl⟩, v2, hb2, ho2, hB2⟩)
    go_roundw
    case rel =>
     first
      | exact ⟨k + 1, by omega, by go_num, hB.trans hB2, v2, hb2, ho2⟩
      | ((repeat apply Exists.intro); exact ⟨⟨k + 1, by omega, by go_num, hB.trans hB2, v2, hb2, ho2⟩, rfl⟩)
    case measure => simp [intOf]; omega
  · obtain rfl : k = n := by omega
    go_wp2
    go_end0
    rw [List.take_of_length_le (by have := HN.out; omega)] at ho1
    exact ⟨⟨_, rfl⟩, v1, hb1, ho1, hB⟩
def fillL (k : List Int) : List Int := (if 64 < k.length then sumL k else k) ++ List.replicate (64 - (if 64 < k.length then sumL k else k).length) 0
theorem fillL_length (k : List Int) : (fillL k).length = 64 := by
 unfold fillL
 by_cases h : 64 < k.length
 · rw [if_pos h, List.length_append, sumL_length, List.length_replicate]
 · rw [if_neg h, List.length_append, List.length_replicate]; omega
set_option linter.unusedSimpArgs false
structure VeilM (p : Prop) : Prop where
 out : p
set_option maxHeartbeats 1000000 in
theorem fill_any (x : Option Addr) (len cap : Nat) (z : List Int) (w : World) (hb : Bytes w x len cap z) (hln : len ≤ 1000000) (hk : KTab w) :
    Calls Tryz.prog 68 #[.slice x len cap] w fun e w' => e = .returned (.agg (row .u8 (fillL z))) ∧ Below w.heap.size w w' := by
 have hz := hb.len_eq
 have hfl := fillL_length z
 by_cases h64 : 64 < len
 · have hs : ∀ wx, Below w.heap.size w wx → Calls Tryz.prog 88 #[.slice x len cap] wx fun e w' => e = .returned (.agg (row .u8 (sumL z))) ∧ Below wx.heap.size wx w' := fun wx hx => sum_any x len cap z wx (hb.below hx) hln (hk.below hx)
   have hdl := sumL_length z
   have hff : fillL z = sumL z ++ List.replicate (64 - (sumL z).length) 0 := by unfold fillL; rw [if_pos (by omega)]
   obtain ⟨D, hD⟩ : ∃ D, sumL z = D := ⟨_, rfl⟩
   obtain ⟨FL, hFL⟩ : ∃ D, fillL z = D := ⟨_, rfl⟩
   rw [hD] at hs hdl hff
   rw [hFL] at hff hfl
   have HF : VeilM (FL = D ++ List.replicate (64 - D.length) 0) := ⟨hff⟩
   have HFL : VeilM (fillL z = FL) := ⟨hFL⟩
   clear hff hFL hD hz
   have h64i : (64 : Int) < (len : Int) := by omega
   go_enter Tryz.func68, Tryz.ntmps68
   go_upto_region 1 with fail
   refine forget (p := fun y => Code.wp _ _ _ _ y) (fun W0 => Below w.heap.size w W0 ∧ W0.heap.size = w.heap.size + 1 ∧ Holds W0 w.heap.size .u8 105 (List.replicate 64 0)) ⟨(Below.refl _ _).alloc (Nat.le_refl _) _, by simp, Holds.new w .u8 105 (List.replicate 64 0)⟩ ?_
   rintro W0 ⟨hB0, hs0, hR0⟩
   go_upto_region 4 with (first
    | (go_at_call 88; refine (hs _ hB0).mono ?_; rintro e w1 ⟨rfl, hb1⟩; have hN1 := Holds.new w1 .u8 23 (List.replicate 32 0))
    | (refine wpList_st rfl 23 _ _ rfl _ rfl rfl hN1 (by rw [hdl]; exact sizeKey) (by simp [hdl]) ?_))
   have hsz1 := hb1.size
   refine forget (p := fun y => Code.wp _ _ _ _ y) (fun W1 => Below w.heap.size w W1 ∧ w.heap.size + 1 ≤ W1.heap.size ∧ Holds W1 w.heap.size .u8 105 (List.replicate 64 0) ∧ Bytes W1 (some ⟨w1.heap.size, 0, none⟩) 32 32 D) ⟨below_setRow ((hB0.trans (hb1.mono hB0.size)).alloc (by omega) _) (by omega) _, by simp; omega, ((hR0.below hb1 (by omega)).alloc _).setRowOther _ (by omega), (hN1.setRow D).bytes hdl.symm (by omega)⟩ ?_
   clear hN1 hB0 hs0 hR0 hb1 hs hk hb
   rintro W1 ⟨hB1, hs1, hR1, hY1⟩
   have hK0 := Holds.new W1 .u8 105 (List.replicate 64 0)
   go_upto_region 5 with fail
   refine forget (p := fun y => Code.wp _ _ _ _ y) (fun W3 => Below w.heap.size w W3 ∧ Holds W3 w.heap.size .u8 105 (List.replicate 64 0) ∧ Holds W3 W1.heap.size .u8 105 (List.replicate 64 0) ∧ Bytes W3 (some ⟨w1.heap.size, 0, none⟩) 32 32 D) ⟨hB1.alloc hB1.size _, hR1.alloc _, hK0, hY1.below ((Below.refl _ _).alloc (Nat.le_refl _) _)⟩ ?_
   have hgK := hB1.size
   clear hB1 hR1 hK0 hY1
   rintro W3 ⟨hB1, hR1, hK0, hY1⟩
   have hcp := run_copy_bytes W3 W1.heap.size 64 (some ⟨w1.heap.size, 0, none⟩) 32 32 D hY1 hK0 (by omega)
   rw [← HF.out] at hcp
   go_upto_region 6 with fail
   refine forget (p := fun y => Code.wp _ _ _ _ y) (fun W2 => Below w.heap.size w W2 ∧ Holds W2 w.heap.size .u8 105 (List.replicate 64 0) ∧ Holds W2 W1.heap.size .u8 105 FL) ⟨below_setRow hB1 hgK _, hR1.setRowOther _ (by omega), hK0.setRow _⟩ ?_
   clear hcp hK0 hB1 hR1 hY1
   rintro W2 ⟨hB2, hR2, hK2⟩
   go_wp2_with (first
    | (refine wpList_ld rfl 105 _ rfl _ rfl hK2 Tryz.underlying105 sizeFk hfl ?_)
    | (refine wpList_st rfl 105 _ _ rfl _ rfl rfl hR2 (by rw [hfl]; exact sizeFk) (by simp [hfl]) ?_))
   refine bodyPost_ret (results_holds (Tryz.results68) _ rfl (hR2.setRow _) Tryz.underlying105 sizeFk hfl) rfl ⟨by rw [HFL.out], ?_⟩
   exact below_setRow hB2 (Nat.le_refl _) _
 · have hff : fillL z = z ++ List.replicate (64 - z.length) 0 := by unfold fillL; rw [if_neg (by omega)]
   obtain ⟨FL, hFL⟩ : ∃ D, fillL z = D := ⟨_, rfl⟩
   rw [hFL] at hff hfl
   have HF : VeilM (FL = z ++ List.replicate (64 - z.length) 0) := ⟨hff⟩
   have HFL : VeilM (fillL z = FL) := ⟨hFL⟩
   clear hff hFL hz hk
   have h64i : ¬ ((64 : Int) < (len : Int)) := by omega
   have hl64 : len ≤ 64 := by omega
   go_enter Tryz.func68, Tryz.ntmps68
   go_upto_region 4 with fail
   refine forget (p := fun y => Code.wp _ _ _ _ y) (fun W1 => Below w.heap.size w W1 ∧ w.heap.size + 1 ≤ W1.heap.size ∧ Holds W1 w.heap.size .u8 105 (List.replicate 64 0) ∧ Bytes W1 x len cap z) ⟨(Below.refl _ _).alloc (Nat.le_refl _) _, by simp, Holds.new w .u8 105 (List.replicate 64 0), hb.below ((Below.refl _ _).alloc (Nat.le_refl _) _)⟩ ?_
   clear hb
   rintro W1 ⟨hB1, hs1, hR1, hY1⟩
   have hK0 := Holds.new W1 .u8 105 (List.replicate 64 0)
   go_upto_region 5 with fail
   refine forget (p := fun y => Code.wp _ _ _ _ y) (fun W3 => Below w.heap.size w W3 ∧ Holds W3 w.heap.size .u8 105 (List.replicate 64 0) ∧ Holds W3 W1.heap.size .u8 105 (List.replicate 64 0) ∧ Bytes W3 x len cap z) ⟨hB1.alloc hB1.size _, hR1.alloc _, hK0, hY1.below ((Below.refl _ _).alloc (Nat.le_refl _) _)⟩ ?_
   have hgK := hB1.size
   clear hB1 hR1 hK0 hY1
   rintro W3 ⟨hB1, hR1, hK0, hY1⟩
   have hcp := run_copy_bytes W3 W1.heap.size 64 x len cap z hY1 hK0 hl64
   rw [← HF.out] at hcp
   go_upto_region 6 with fail
   refine forget (p := fun y => Code.wp _ _ _ _ y) (fun W2 => Below w.heap.size w W2 ∧ Holds W2 w.heap.size .u8 105 (List.replicate 64 0) ∧ Holds W2 W1.heap.size .u8 105 FL) ⟨below_setRow hB1 hgK _, hR1.setRowOther _ (by omega), hK0.setRow _⟩ ?_
   clear hcp hK0 hB1 hR1 hY1
   rintro W2 ⟨hB2, hR2, hK2⟩
   go_wp2_with (first
    | (refine wpList_ld rfl 105 _ rfl _ rfl hK2 Tryz.underlying105 sizeFk hfl ?_)
    | (refine wpList_st rfl 105 _ _ rfl _ rfl rfl hR2 (by rw [hfl]; exact sizeFk) (by simp [hfl]) ?_))
   refine bodyPost_ret (results_holds (Tryz.results68) _ rfl (hR2.setRow _) Tryz.underlying105 sizeFk hfl) rfl ⟨by rw [HFL.out], ?_⟩
   exact below_setRow hB2 (Nat.le_refl _) _
end Go.Proofs.YtflkhkmejnpapaaGreatDoor.S
