/- Bc -/
import Derived.Test.YthjkcfpdkhghpaaH11
import Derived.Test.YthjkcfpdkhghpaaH07
import Derived.Test.YthjkcfpdkhghpaaH05
namespace Go.Proofs.Ythjkcfpdkhghpaa
open Go.RowKit Go.Shelf
attribute [local go_sem] Oper.semAt_some
set_option maxRecDepth 20000
set_option linter.unusedSimpArgs false
theorem wpR_region {P : Program} {Q : Exit → Act → World → Prop} {n l id : Nat} {lst : List Oper} {a : Act} {w : World} (hL : ¬ LetsOut Q) (hd : (lst.all fun o => match o.op with | .defer _ => false | _ => true) = true) (h : wpList P lst.toArray Q lst a w) : (Code.region id lst.toArray false).wpIn (Fence.wide.inRound l) n P Q a w :=
  wpIn_region_lit (wpR_list hL _ _ _ (fun o ho c e => by have := (List.all_eq_true.1 hd) o ho; rw [e] at this; cases this) h)
theorem SeqT.later {α : Type} {n : Nat} {P : Program} {gf : Nat} {lb : Array Value} {encs : α → Array Value} {Own Wr : Nat → Prop} {Post Postx : List α → World → Prop} {ok : α → Prop} {N : Nat} {w w' : World} (h : SeqT n P gf lb encs Own Wr Post Postx ok N w) (hb : Below w.heap.size w w') : SeqT n P gf lb encs Own Wr Post Postx ok N w' :=
  fun l T J Jx W hW => h l T J Jx W (hb.trans (hW.mono hb.size))
theorem notOut_then {K : Act → World → Prop} {Q : Exit → Act → World → Prop} (h : ¬ LetsOut Q) : ¬ LetsOut (Exit.then K Q) := fun ⟨a, w, q⟩ => h ⟨a, w, q⟩
theorem notOut_false : ¬ LetsOut (fun _ _ _ => False) := fun ⟨_, _, q⟩ => q
theorem infoE17x : (Try.prog.info? 38).map (fun i => (i.zero, i.size, i.bytes)) = some (some (.agg #[.int .u8 0, .int .u32 0, .int .u32 0, .int .u32 0, .int .u32 0, .int .u32 0, .int .u32 0, .int .u32 0, .int .u32 0, .int .u32 0, .int .u8 0, .int .u8 0, .int .u32 0, .bool false, .int .u8 0, .int .u8 0, .int .u8 0]), 17, 56) := by kernel_rfl
set_option maxHeartbeats 2000000 in
theorem appE_any {α : Type} (enc : α → List Value) (ok : α → Prop) (henc : ∀ x, ok x → (enc x).length = 17 ∧ ∀ u ∈ enc x, u.oneCell' = true) (gf : Nat) (lb : Array Value) (eg : ∀ args w, (callFunc gf args).run Try.prog w = .ok (.enter gf args) w) (Own Wr : Nat → Prop) (Post : List α → World → Prop) (N : Nat) (hN : N ≤ 100000) (w : World) (hseq : ∀ n, SeqT n Try.prog gf lb (fun x => #[.agg (enc x).toArray]) Own Wr Post (fun _ _ => True) ok N w) (hOwn : ∀ k, Own k → k < w.heap.size) (hPost : ∀ xs A B, Post xs A → StaysT Own A B → Post xs B) :
    Calls Try.prog 30 #[.slice none 0 0, .func (.func gf) #[] lb] w fun e w' => ∃ v xs, e = .returned v ∧ OwnI w' (w.heap.size + 1) 38 17 v (xs.map enc) ∧ (∀ x ∈ xs, ok x) ∧ Post xs w' ∧ Turn Wr w w' := by
  refine (callsIn_wide (n := 9)).1 ?_
  refine callsIn_of_wp_marks Try.func30 rfl trivial ?_ rfl
  simp only [Try.ntmps30, List.size_toArray, List.length_cons, List.length_nil, Nat.reduceAdd, Nat.reduceSub, Array.replicate_succ, Array.replicate_zero, List.push_toArray, List.append_toArray, List.nil_append, List.cons_append]
  gi_wp2
  have hc0 := CellsAt.new w 22 [.slice none 0 0]
  obtain ⟨I, HI⟩ : ∃ I : (Nat → Prop) → List α → World → Prop, Veil (∀ T pre W, I T pre W ↔ ∃ v, (∀ k, T k ↔ (k = w.heap.size ∨ v.ownBlock = some k)) ∧ CellsAt W w.heap.size 22 [v] ∧ OwnI W (w.heap.size + 1) 38 17 v (pre.map enc) ∧ pre.length ≤ N ∧ ∀ x ∈ pre, ok x) := ⟨_, ⟨fun _ _ _ => Iff.rfl⟩⟩
  refine wpIn_rangeT (by omega) rfl eg ((hseq _).later ((Below.refl _ _).alloc (Nat.le_refl _) _)) (fun _ => rfl) hPost (fun _ _ _ h _ => h) (fun k => k = w.heap.size) (fun k hk => ⟨fun q => by have := hOwn k q; omega, by simp [hk]⟩) (fun k hk => by have := hOwn k hk; simp; omega)
    I (fun _ _ _ _ => False) ?stays (fun _ _ _ _ _ h _ => h) ?zero ?round ?done ?stop
  case stays =>
    intro T s A B hi hs
    obtain ⟨v, hT, hc, ho, hl, hk⟩ := (HI.out _ _ _).1 hi
    exact (HI.out _ _ _).2 ⟨v, hT, hc.congr (hs.block _ (.inl ((hT _).2 (.inl rfl)))), ho.congr (fun g hg => hs.block g (.inl ((hT g).2 (.inr hg)))), hl, hk⟩
  case zero => exact (HI.out _ _ _).2 ⟨.slice none 0 0, fun k => by simp [Value.ownBlock], hc0, OwnI.nil _ _ _ _, Nat.zero_le _, by simp⟩
  case round =>
    intro l r T pre x W hi hok hlen hTl hT0 hlr
    obtain ⟨v, hT, hc, ho, hl, hk⟩ := (HI.out _ _ _).1 hi
    rw [World.size_alloc] at hT0
    obtain ⟨he1, he2⟩ := henc x hok
    have HE : Veil (∃ E, enc x = E) := ⟨_, rfl⟩
    obtain ⟨E, hE⟩ : ∃ E, enc x = E := ⟨_, rfl⟩
    rw [hE] at he1 he2
    have HEQ := Veil.mk hE
    have hlw : l < W.heap.size := (Array.getElem?_eq_some_iff.1 hlr).1
    have hc1 := CellsAt.new W 38 [.int .u8 0, .int .u32 0, .int .u32 0, .int .u32 0, .int .u32 0, .int .u32 0, .int .u32 0, .int .u32 0, .int .u32 0, .int .u32 0, .int .u8 0, .int .u8 0, .int .u32 0, .bool false, .int .u8 0, .int .u8 0, .int .u8 0]
    have iE : (Try.prog.info? 38).map (·.size) = some E.length := by rw [he1]; kernel_rfl
    have hBx : CellsAt ((W.alloc (.cells #[.int .u8 0, .int .u32 0, .int .u32 0, .int .u32 0, .int .u32 0, .int .u32 0, .int .u32 0, .int .u32 0, .int .u32 0, .int .u32 0, .int .u8 0, .int .u8 0, .int .u32 0, .bool false, .int .u8 0, .int .u8 0, .int .u8 0] 38)).setRow W.heap.size E.toArray) W.heap.size 38 E := hc1.setRow E
    have hc2 : CellsAt ((W.alloc (.cells #[.int .u8 0, .int .u32 0, .int .u32 0, .int .u32 0, .int .u32 0, .int .u32 0, .int .u32 0, .int .u32 0, .int .u32 0, .int .u32 0, .int .u8 0, .int .u8 0, .int .u32 0, .bool false, .int .u8 0, .int .u8 0, .int .u8 0] 38)).setRow W.heap.size E.toArray) w.heap.size 22 [v] := (hc.alloc _).setRowM _ (by have := hc.lt; omega)
    have ho2 : OwnI ((W.alloc (.cells #[.int .u8 0, .int .u32 0, .int .u32 0, .int .u32 0, .int .u32 0, .int .u32 0, .int .u32 0, .int .u32 0, .int .u32 0, .int .u32 0, .int .u8 0, .int .u8 0, .int .u32 0, .bool false, .int .u8 0, .int .u8 0, .int .u8 0] 38)).setRow W.heap.size E.toArray) (w.heap.size + 1) 38 17 v (pre.map enc) := ho.congr (fun g hg => by rw [setRow_other _ _ _ _ (by have := (ho.blockLt g hg).1; omega)]; exact Below.heap_alloc W _ g (ho.blockLt g hg).1)
    have hTu : Turn T W ((W.alloc (.cells #[.int .u8 0, .int .u32 0, .int .u32 0, .int .u32 0, .int .u32 0, .int .u32 0, .int .u32 0, .int .u32 0, .int .u32 0, .int .u32 0, .int .u8 0, .int .u8 0, .int .u32 0, .bool false, .int .u8 0, .int .u8 0, .int .u8 0] 38)).setRow W.heap.size E.toArray) := by
      refine ⟨rfl, rfl, rfl, by simp [World.setRow, World.putObj], fun k hk' _ => ?_⟩
      rw [setRow_other _ _ _ _ (by omega)]; exact Below.heap_alloc W _ k hk'
    rw [hE] 
    refine wpR_region (notOut_then notOut_false) (by kernel_rfl) ?_
    go_wp2_with (refine wpList_stv rfl 38 _ _ rfl W.heap.size rfl rfl hc1 iE (by rw [he1]; rfl) he2 ?_)
    refine ⟨hTu, ?_⟩
    generalize (W.alloc (.cells #[.int .u8 0, .int .u32 0, .int .u32 0, .int .u32 0, .int .u32 0, .int .u32 0, .int .u32 0, .int .u32 0, .int .u32 0, .int .u32 0, .int .u8 0, .int .u8 0, .int .u32 0, .bool false, .int .u8 0, .int .u8 0, .int .u8 0] 38)).setRow W.heap.size E.toArray = W1 at hBx hc2 ho2 hTu ⊢
    have hle := hTu.size
    have hnel : w.heap.size ≠ l := fun e => by have h2 : W.heap[l]? = _ := e ▸ hc; rw [hlr] at h2; cases h2
    have hBx2 : CellsAt (W1.putObj l (.loop { r with state := .busy })) W.heap.size 38 E := hBx.congr (World.putObj_heap_other (by omega))
    have hc3 : CellsAt (W1.putObj l (.loop { r with state := .busy })) w.heap.size 22 [v] := hc2.congr (World.putObj_heap_other hnel)
    have ho3 : OwnI (W1.putObj l (.loop { r with state := .busy })) (w.heap.size + 1) 38 17 v (pre.map enc) := ho2.congr (fun g hg => World.putObj_heap_other (fun e => by
      obtain ⟨_, _, cur, h2⟩ := ho.blockLt g hg
      rw [e, hlr] at h2; cases h2))
    have hz2 : W.heap.size < (W1.putObj l (.loop { r with state := .busy })).heap.size := hBx2.lt
    generalize W1.putObj l (.loop { r with state := .busy }) = W2 at hBx2 hc3 ho3 hz2 ⊢
    have HO := Veil.mk ho3
    have HT := Veil.mk hT
    have HK : Veil (T w.heap.size ∧ ∀ g, v.ownBlock = some g → T g ∧ g < W2.heap.size) := ⟨(hT _).2 (.inl rfl), fun g hg => ⟨(hT _).2 (.inr hg), (ho3.blockLt g hg).1⟩⟩
    have HB : Veil (w.heap.size < W.heap.size) := ⟨hc.lt⟩
    obtain ⟨sx, sc, hv⟩ := ho3.isSlice
    obtain ⟨sn, hsn⟩ : ∃ q, (pre.map enc).length = q := ⟨_, rfl⟩
    rw [hsn] at hv
    have cV : W2.cell? ⟨w.heap.size, 0, none⟩ = some v := hc3.cell 0
    clear hBx hc2 ho2 ho hc hT hc1 hi hT0 hTl hlr hTu hc0 hE hle hnel hl ho3
    subst hv
    have hrB := hBx2.wholeM
    have uE := Try.underlying38
    have uS := Try.underlying22
    have hal : Below W2.heap.size W2 (W2.alloc (.cells E.toArray 38)) := (Below.refl _ _).alloc (Nat.le_refl _) _
    obtain ⟨v2, W4, hrun, ho4, hg4, hb4⟩ := (HO.out.far hal).app (P := Try.prog) 22 22 uS infoE17x rfl (by decide) E he1 he2 W2.heap.size (CellsAt.new W2 38 E).wholeM (by rw [List.length_map]; omega) (by decide) (by rw [World.size_alloc]; have := HB.out; omega)
    have hc4 : CellsAt W4 w.heap.size 22 [.slice sx sn sc] := (hc3.alloc (.cells E.toArray 38)).congr (hg4.block _ (by rw [World.size_alloc]; have := hc3.lt; omega) (fun e => by have := (HO.out.blockLt _ e.symm).2.1; omega))
    have hcs : CellsAt (W4.setCell ⟨w.heap.size, 0, none⟩ v2) w.heap.size 22 [v2] := hc4.set 0 v2
    have c4 : W4.cell? ⟨w.heap.size, 0, none⟩ = some (.slice sx sn sc) := hc4.cell 0
    have f4 := hc4.frozen 0
    have HEND : Veil (I (fun k => k = w.heap.size ∨ v2.ownBlock = some k) (pre ++ [x]) (W4.setCell ⟨w.heap.size, 0, none⟩ v2) ∧ MovesT T W2 (fun k => k = w.heap.size ∨ v2.ownBlock = some k) (W4.setCell ⟨w.heap.size, 0, none⟩ v2)) := by
      have hsz : (W4.setCell ⟨w.heap.size, 0, none⟩ v2).heap.size = W4.heap.size := by simp [World.setCell]
      have hsa := hg4.size
      rw [World.size_alloc] at hsa
      refine ⟨(HI.out _ _ _).2 ⟨v2, fun k => Iff.rfl, hcs, ?_, by simp; omega, fun y hy => ?_⟩, ?_, fun k hk' => ?_⟩
      · rw [List.map_append, List.map_cons, List.map_nil, HEQ.out]
        exact ho4.congr (fun g hg => Below.heap_setCell _ _ _ _ (fun e => by have := (ho4.blockLt g hg).2.1; simp at e; omega))
      · rcases List.mem_append.1 hy with h | h
        · exact hk y h
        · rw [List.mem_singleton.1 h]; exact hok
      · exact ((Turn.of_below hal).trans (Turn.of_grown hg4 (fun k e => (HK.out.2 k e).1))).trans (Turn.of_setCell _ HK.out.1 _)
      · rw [hsz]
        rcases hk' with rfl | e
        · exact ⟨.inl HK.out.1, by have := HB.out; omega⟩
        · rcases hb4 with q | q
          · rw [q] at e
            exact ⟨.inl (HK.out.2 k e).1, by have := (HK.out.2 k e).2; omega⟩
          · have h2 := (ho4.blockLt _ q).1
            rw [q] at e
            obtain rfl := Option.some.inj e
            rw [World.size_alloc] at h2 ⊢
            exact ⟨.inr (by omega), h2⟩
    obtain ⟨s2x, s2c, hv2⟩ := ho4.isSlice
    rw [List.length_append, hsn] at hv2
    clear hb4 hcs ho4 hg4 hc4
    subst hv2
    simp only [Act.put]
    refine wpIn_block (wpR_region (fun ⟨_, _, q⟩ => q) (by kernel_rfl) ?_)
    go_wp2_with (first
      | (refine wpList_ldv rfl 38 _ rfl W.heap.size 0 rfl E hrB uE rfl iE ?_)
      | (refine wpList_bs1 rfl 22 38 _ rfl E rfl uS (infoE17x) (by decide) (by decide) he1 ?_)
      | (refine wpList_appx rfl _ _ _ _ rfl _ _ _ W4 rfl rfl hrun ?_))
    exact ⟨_, HEND.out.1, HEND.out.2⟩
  case done =>
    intro D xs T W hD hP hi hdef ht hTD
    obtain ⟨v, hT, hc, ho, hl, hk⟩ := (HI.out _ _ _).1 hi
    have cV : W.cell? ⟨w.heap.size, 0, none⟩ = some v := hc.cell 0
    rw [World.size_alloc] at hD
    have HEND : Veil (OwnI (W.putObj D (.deferred none)) (w.heap.size + 1) 38 17 v (xs.map enc) ∧ (∀ x ∈ xs, ok x) ∧ Post xs (W.putObj D (.deferred none)) ∧ Turn Wr w (W.putObj D (.deferred none))) := by
      refine ⟨ho.congr (fun g hg => World.putObj_heap_other (fun e => hTD ((hT D).2 (.inr (e ▸ hg))))), hk, hPost _ _ _ hP (StaysT.put _ (fun q => by have := hOwn _ q; omega)), ht.os, ht.tape, ht.output, ?_, fun k hk' hn => ?_⟩
      · have := ht.size
        rw [World.size_alloc] at this
        simp [World.putObj]; omega
      · rw [World.putObj_heap_other (by omega), ht.block k (by rw [World.size_alloc]; omega) (fun q => by rcases q with q | q; omega; exact hn q)]
        exact Below.heap_alloc w _ k hk'
    obtain ⟨sx, sc, hv⟩ := ho.isSlice
    clear ho hT hi hc ht hl hk hP hTD hc0
    generalize (xs.map enc).length = sn at hv
    subst hv
    gi_wp2
    refine ⟨by simp, .inl ⟨_, _, rfl, run_takeDeferred hdef, ?_⟩⟩
    exact ⟨_, results_tmp (t := 4) rfl _ _ _, .slice sx sn sc, xs, rfl, HEND.out⟩
  case stop => intro D c xs T W hD _ h; exact h.elim
theorem colE_any {α : Type} (enc : α → List Value) (ok : α → Prop) (henc : ∀ x, ok x → (enc x).length = 17 ∧ ∀ u ∈ enc x, u.oneCell' = true) (gf : Nat) (lb : Array Value) (eg : ∀ args w, (callFunc gf args).run Try.prog w = .ok (.enter gf args) w) (Own Wr : Nat → Prop) (Post : List α → World → Prop) (N : Nat) (hN : N ≤ 100000) (w : World) (hseq : ∀ n, SeqT n Try.prog gf lb (fun x => #[.agg (enc x).toArray]) Own Wr Post (fun _ _ => True) ok N w) (hOwn : ∀ k, Own k → k < w.heap.size) (hPost : ∀ xs A B, Post xs A → StaysT Own A B → Post xs B) :
    Calls Try.prog 18 #[.func (.func gf) #[] lb] w fun e w' => ∃ v xs, e = .returned v ∧ OwnI w' (w.heap.size + 1) 38 17 v (xs.map enc) ∧ (∀ x ∈ xs, ok x) ∧ Post xs w' ∧ Turn Wr w w' := by
  have h := appE_any enc ok henc gf lb eg Own Wr Post N hN w hseq hOwn hPost
  clear hseq hPost henc eg
  go_enter Try.func18, Try.ntmps18
  go_wp2_with (go_at_call 30; refine h.mono ?_; rintro e W1 ⟨v, xs, rfl, h1, h2⟩)
  go_ret
  exact ⟨v, xs, rfl, h1, h2⟩
theorem infoD2x : (Try.prog.info? 32).map (fun i => (i.zero, i.size, i.bytes)) = some (some (.agg #[.int .u8 0, .int .u32 0]), 2, 8) := by kernel_rfl
set_option maxHeartbeats 2000000 in
theorem appD_any {α : Type} (enc : α → List Value) (ok : α → Prop) (henc : ∀ x, ok x → (enc x).length = 2 ∧ ∀ u ∈ enc x, u.oneCell' = true) (gf : Nat) (lb : Array Value) (eg : ∀ args w, (callFunc gf args).run Try.prog w = .ok (.enter gf args) w) (Own Wr : Nat → Prop) (Post : List α → World → Prop) (N : Nat) (hN : N ≤ 100000) (w : World) (hseq : ∀ n, SeqT n Try.prog gf lb (fun x => #[.agg (enc x).toArray]) Own Wr Post (fun _ _ => True) ok N w) (hOwn : ∀ k, Own k → k < w.heap.size) (hPost : ∀ xs A B, Post xs A → StaysT Own A B → Post xs B) :
    Calls Try.prog 61 #[.slice none 0 0, .func (.func gf) #[] lb] w fun e w' => ∃ v xs, e = .returned v ∧ OwnI w' (w.heap.size + 1) 32 2 v (xs.map enc) ∧ (∀ x ∈ xs, ok x) ∧ Post xs w' ∧ Turn Wr w w' := by
  refine (callsIn_wide (n := 9)).1 ?_
  refine callsIn_of_wp_marks Try.func61 rfl trivial ?_ rfl
  simp only [Try.ntmps61, List.size_toArray, List.length_cons, List.length_nil, Nat.reduceAdd, Nat.reduceSub, Array.replicate_succ, Array.replicate_zero, List.push_toArray, List.append_toArray, List.nil_append, List.cons_append]
  gi_wp2
  have hc0 := CellsAt.new w 83 [.slice none 0 0]
  obtain ⟨I, HI⟩ : ∃ I : (Nat → Prop) → List α → World → Prop, Veil (∀ T pre W, I T pre W ↔ ∃ v, (∀ k, T k ↔ (k = w.heap.size ∨ v.ownBlock = some k)) ∧ CellsAt W w.heap.size 83 [v] ∧ OwnI W (w.heap.size + 1) 32 2 v (pre.map enc) ∧ pre.length ≤ N ∧ ∀ x ∈ pre, ok x) := ⟨_, ⟨fun _ _ _ => Iff.rfl⟩⟩
  refine wpIn_rangeT (by omega) rfl eg ((hseq _).later ((Below.refl _ _).alloc (Nat.le_refl _) _)) (fun _ => rfl) hPost (fun _ _ _ h _ => h) (fun k => k = w.heap.size) (fun k hk => ⟨fun q => by have := hOwn k q; omega, by simp [hk]⟩) (fun k hk => by have := hOwn k hk; simp; omega)
    I (fun _ _ _ _ => False) ?stays (fun _ _ _ _ _ h _ => h) ?zero ?round ?done ?stop
  case stays =>
    intro T s A B hi hs
    obtain ⟨v, hT, hc, ho, hl, hk⟩ := (HI.out _ _ _).1 hi
    exact (HI.out _ _ _).2 ⟨v, hT, hc.congr (hs.block _ (.inl ((hT _).2 (.inl rfl)))), ho.congr (fun g hg => hs.block g (.inl ((hT g).2 (.inr hg)))), hl, hk⟩
  case zero => exact (HI.out _ _ _).2 ⟨.slice none 0 0, fun k => by simp [Value.ownBlock], hc0, OwnI.nil _ _ _ _, Nat.zero_le _, by simp⟩
  case round =>
    intro l r T pre x W hi hok hlen hTl hT0 hlr
    obtain ⟨v, hT, hc, ho, hl, hk⟩ := (HI.out _ _ _).1 hi
    rw [World.size_alloc] at hT0
    obtain ⟨he1, he2⟩ := henc x hok
    have HE : Veil (∃ E, enc x = E) := ⟨_, rfl⟩
    obtain ⟨E, hE⟩ : ∃ E, enc x = E := ⟨_, rfl⟩
    rw [hE] at he1 he2
    have HEQ := Veil.mk hE
    have hlw : l < W.heap.size := (Array.getElem?_eq_some_iff.1 hlr).1
    have hc1 := CellsAt.new W 32 [.int .u8 0, .int .u32 0]
    have iE : (Try.prog.info? 32).map (·.size) = some E.length := by rw [he1]; kernel_rfl
    have hBx : CellsAt ((W.alloc (.cells #[.int .u8 0, .int .u32 0] 32)).setRow W.heap.size E.toArray) W.heap.size 32 E := hc1.setRow E
    have hc2 : CellsAt ((W.alloc (.cells #[.int .u8 0, .int .u32 0] 32)).setRow W.heap.size E.toArray) w.heap.size 83 [v] := (hc.alloc _).setRowM _ (by have := hc.lt; omega)
    have ho2 : OwnI ((W.alloc (.cells #[.int .u8 0, .int .u32 0] 32)).setRow W.heap.size E.toArray) (w.heap.size + 1) 32 2 v (pre.map enc) := ho.congr (fun g hg => by rw [setRow_other _ _ _ _ (by have := (ho.blockLt g hg).1; omega)]; exact Below.heap_alloc W _ g (ho.blockLt g hg).1)
    have hTu : Turn T W ((W.alloc (.cells #[.int .u8 0, .int .u32 0] 32)).setRow W.heap.size E.toArray) := by
      refine ⟨rfl, rfl, rfl, by simp [World.setRow, World.putObj], fun k hk' _ => ?_⟩
      rw [setRow_other _ _ _ _ (by omega)]; exact Below.heap_alloc W _ k hk'
    rw [hE] 
    refine wpR_region (notOut_then notOut_false) (by kernel_rfl) ?_
    go_wp2_with (refine wpList_stv rfl 32 _ _ rfl W.heap.size rfl rfl hc1 iE (by rw [he1]; rfl) he2 ?_)
    refine ⟨hTu, ?_⟩
    generalize (W.alloc (.cells #[.int .u8 0, .int .u32 0] 32)).setRow W.heap.size E.toArray = W1 at hBx hc2 ho2 hTu ⊢
    have hle := hTu.size
    have hnel : w.heap.size ≠ l := fun e => by have h2 : W.heap[l]? = _ := e ▸ hc; rw [hlr] at h2; cases h2
    have hBx2 : CellsAt (W1.putObj l (.loop { r with state := .busy })) W.heap.size 32 E := hBx.congr (World.putObj_heap_other (by omega))
    have hc3 : CellsAt (W1.putObj l (.loop { r with state := .busy })) w.heap.size 83 [v] := hc2.congr (World.putObj_heap_other hnel)
    have ho3 : OwnI (W1.putObj l (.loop { r with state := .busy })) (w.heap.size + 1) 32 2 v (pre.map enc) := ho2.congr (fun g hg => World.putObj_heap_other (fun e => by
      obtain ⟨_, _, cur, h2⟩ := ho.blockLt g hg
      rw [e, hlr] at h2; cases h2))
    have hz2 : W.heap.size < (W1.putObj l (.loop { r with state := .busy })).heap.size := hBx2.lt
    generalize W1.putObj l (.loop { r with state := .busy }) = W2 at hBx2 hc3 ho3 hz2 ⊢
    have HO := Veil.mk ho3
    have HT := Veil.mk hT
    have HK : Veil (T w.heap.size ∧ ∀ g, v.ownBlock = some g → T g ∧ g < W2.heap.size) := ⟨(hT _).2 (.inl rfl), fun g hg => ⟨(hT _).2 (.inr hg), (ho3.blockLt g hg).1⟩⟩
    have HB : Veil (w.heap.size < W.heap.size) := ⟨hc.lt⟩
    obtain ⟨sx, sc, hv⟩ := ho3.isSlice
    obtain ⟨sn, hsn⟩ : ∃ q, (pre.map enc).length = q := ⟨_, rfl⟩
    rw [hsn] at hv
    have cV : W2.cell? ⟨w.heap.size, 0, none⟩ = some v := hc3.cell 0
    clear hBx hc2 ho2 ho hc hT hc1 hi hT0 hTl hlr hTu hc0 hE hle hnel hl ho3
    subst hv
    have hrB := hBx2.wholeM
    have uE := Try.underlying32
    have uS := Try.underlying83
    have hal : Below W2.heap.size W2 (W2.alloc (.cells E.toArray 32)) := (Below.refl _ _).alloc (Nat.le_refl _) _
    obtain ⟨v2, W4, hrun, ho4, hg4, hb4⟩ := (HO.out.far hal).app (P := Try.prog) 83 83 uS infoD2x rfl (by decide) E he1 he2 W2.heap.size (CellsAt.new W2 32 E).wholeM (by rw [List.length_map]; omega) (by decide) (by rw [World.size_alloc]; have := HB.out; omega)
    have hc4 : CellsAt W4 w.heap.size 83 [.slice sx sn sc] := (hc3.alloc (.cells E.toArray 32)).congr (hg4.block _ (by rw [World.size_alloc]; have := hc3.lt; omega) (fun e => by have := (HO.out.blockLt _ e.symm).2.1; omega))
    have hcs : CellsAt (W4.setCell ⟨w.heap.size, 0, none⟩ v2) w.heap.size 83 [v2] := hc4.set 0 v2
    have c4 : W4.cell? ⟨w.heap.size, 0, none⟩ = some (.slice sx sn sc) := hc4.cell 0
    have f4 := hc4.frozen 0
    have HEND : Veil (I (fun k => k = w.heap.size ∨ v2.ownBlock = some k) (pre ++ [x]) (W4.setCell ⟨w.heap.size, 0, none⟩ v2) ∧ MovesT T W2 (fun k => k = w.heap.size ∨ v2.ownBlock = some k) (W4.setCell ⟨w.heap.size, 0, none⟩ v2)) := by
      have hsz : (W4.setCell ⟨w.heap.size, 0, none⟩ v2).heap.size = W4.heap.size := by simp [World.setCell]
      have hsa := hg4.size
      rw [World.size_alloc] at hsa
      refine ⟨(HI.out _ _ _).2 ⟨v2, fun k => Iff.rfl, hcs, ?_, by simp; omega, fun y hy => ?_⟩, ?_, fun k hk' => ?_⟩
      · rw [List.map_append, List.map_cons, List.map_nil, HEQ.out]
        exact ho4.congr (fun g hg => Below.heap_setCell _ _ _ _ (fun e => by have := (ho4.blockLt g hg).2.1; simp at e; omega))
      · rcases List.mem_append.1 hy with h | h
        · exact hk y h
        · rw [List.mem_singleton.1 h]; exact hok
      · exact ((Turn.of_below hal).trans (Turn.of_grown hg4 (fun k e => (HK.out.2 k e).1))).trans (Turn.of_setCell _ HK.out.1 _)
      · rw [hsz]
        rcases hk' with rfl | e
        · exact ⟨.inl HK.out.1, by have := HB.out; omega⟩
        · rcases hb4 with q | q
          · rw [q] at e
            exact ⟨.inl (HK.out.2 k e).1, by have := (HK.out.2 k e).2; omega⟩
          · have h2 := (ho4.blockLt _ q).1
            rw [q] at e
            obtain rfl := Option.some.inj e
            rw [World.size_alloc] at h2 ⊢
            exact ⟨.inr (by omega), h2⟩
    obtain ⟨s2x, s2c, hv2⟩ := ho4.isSlice
    rw [List.length_append, hsn] at hv2
    clear hb4 hcs ho4 hg4 hc4
    subst hv2
    simp only [Act.put]
    refine wpIn_block (wpR_region (fun ⟨_, _, q⟩ => q) (by kernel_rfl) ?_)
    go_wp2_with (first
      | (refine wpList_ldv rfl 32 _ rfl W.heap.size 0 rfl E hrB uE rfl iE ?_)
      | (refine wpList_bs1 rfl 83 32 _ rfl E rfl uS (infoD2x) (by decide) (by decide) he1 ?_)
      | (refine wpList_appx rfl _ _ _ _ rfl _ _ _ W4 rfl rfl hrun ?_))
    exact ⟨_, HEND.out.1, HEND.out.2⟩
  case done =>
    intro D xs T W hD hP hi hdef ht hTD
    obtain ⟨v, hT, hc, ho, hl, hk⟩ := (HI.out _ _ _).1 hi
    have cV : W.cell? ⟨w.heap.size, 0, none⟩ = some v := hc.cell 0
    rw [World.size_alloc] at hD
    have HEND : Veil (OwnI (W.putObj D (.deferred none)) (w.heap.size + 1) 32 2 v (xs.map enc) ∧ (∀ x ∈ xs, ok x) ∧ Post xs (W.putObj D (.deferred none)) ∧ Turn Wr w (W.putObj D (.deferred none))) := by
      refine ⟨ho.congr (fun g hg => World.putObj_heap_other (fun e => hTD ((hT D).2 (.inr (e ▸ hg))))), hk, hPost _ _ _ hP (StaysT.put _ (fun q => by have := hOwn _ q; omega)), ht.os, ht.tape, ht.output, ?_, fun k hk' hn => ?_⟩
      · have := ht.size
        rw [World.size_alloc] at this
        simp [World.putObj]; omega
      · rw [World.putObj_heap_other (by omega), ht.block k (by rw [World.size_alloc]; omega) (fun q => by rcases q with q | q; omega; exact hn q)]
        exact Below.heap_alloc w _ k hk'
    obtain ⟨sx, sc, hv⟩ := ho.isSlice
    clear ho hT hi hc ht hl hk hP hTD hc0
    generalize (xs.map enc).length = sn at hv
    subst hv
    gi_wp2
    refine ⟨by simp, .inl ⟨_, _, rfl, run_takeDeferred hdef, ?_⟩⟩
    exact ⟨_, results_tmp (t := 4) rfl _ _ _, .slice sx sn sc, xs, rfl, HEND.out⟩
  case stop => intro D c xs T W hD _ h; exact h.elim
theorem colD_any {α : Type} (enc : α → List Value) (ok : α → Prop) (henc : ∀ x, ok x → (enc x).length = 2 ∧ ∀ u ∈ enc x, u.oneCell' = true) (gf : Nat) (lb : Array Value) (eg : ∀ args w, (callFunc gf args).run Try.prog w = .ok (.enter gf args) w) (Own Wr : Nat → Prop) (Post : List α → World → Prop) (N : Nat) (hN : N ≤ 100000) (w : World) (hseq : ∀ n, SeqT n Try.prog gf lb (fun x => #[.agg (enc x).toArray]) Own Wr Post (fun _ _ => True) ok N w) (hOwn : ∀ k, Own k → k < w.heap.size) (hPost : ∀ xs A B, Post xs A → StaysT Own A B → Post xs B) :
    Calls Try.prog 57 #[.func (.func gf) #[] lb] w fun e w' => ∃ v xs, e = .returned v ∧ OwnI w' (w.heap.size + 1) 32 2 v (xs.map enc) ∧ (∀ x ∈ xs, ok x) ∧ Post xs w' ∧ Turn Wr w w' := by
  have h := appD_any enc ok henc gf lb eg Own Wr Post N hN w hseq hOwn hPost
  clear hseq hPost henc eg
  go_enter Try.func57, Try.ntmps57
  go_wp2_with (go_at_call 61; refine h.mono ?_; rintro e W1 ⟨v, xs, rfl, h1, h2⟩)
  go_ret
  exact ⟨v, xs, rfl, h1, h2⟩
end Go.Proofs.Ythjkcfpdkhghpaa
