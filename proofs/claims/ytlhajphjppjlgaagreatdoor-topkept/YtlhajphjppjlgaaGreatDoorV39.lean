/- Hs Ftp Ftl -/
import Derived.Test.YtlhajphjppjlgaaGreatDoorT04
import Derived.Test.YtlhajphjppjlgaaGreatDoorT08
import Derived.Test.YtlhajphjppjlgaaGreatDoorT05
import Derived.Test.YtlhajphjppjlgaaGreatDoorV38
import Derived.Test.YtlhajphjppjlgaaGreatDoorV37
import Derived.Test.YtlhajphjppjlgaaGreatDoorT27
import Derived.Test.YtlhajphjppjlgaaGreatDoorT26
namespace Go.Proofs.YtlhajphjppjlgaaGreatDoor
open Go.RowKit
set_option maxRecDepth 20000
set_option linter.unusedSimpArgs false
theorem Bytes.toSf {w : World} {x : Option Addr} {n c : Nat} {z : List Int} (h : Bytes w x n c z) : S.Bytes w x n c z := ⟨h.1, h.2, h.3, h.4, h.5⟩
theorem zeroKeyH (w : World) : (zeroValue 23).run Tryz.prog w = .ok (.agg (row .u8 (List.replicate 32 0))) w := by kernel_rfl
theorem sizeKeyH : (Tryz.prog.info? 23).map (·.size) = some 32 := by kernel_rfl
theorem sumL_inH (z : List Int) : isB8 (S.sumL z) := by
  unfold S.sumL S.joinL
  have : ∀ (s : List Int) (k : Nat), isB8 (S.joinK s k) := fun s k => by
    induction k with
    | zero => intro v hv; cases hv
    | succ k ih =>
      intro v hv
      rcases List.mem_append.1 hv with h | h
      · exact ih v h
      · simp only [S.bytes4, List.mem_cons, List.not_mem_nil, or_false] at h
        rcases h with rfl | rfl | rfl | rfl <;> omega
  exact this _ 8
def fsum (F : Fr) (lw lb : Nat) (ws : List Wp) (body : List Int) : List Int := if lw ≤ 64 ∧ lb ≤ 4112 then S.sumL (frameL F ws body) else List.replicate 32 0
theorem FrIn.below {W W' : World} {F : Fr} {xw : Option Addr} {lw cw : Nat} {ws : List Wp} {xb : Option Addr} {lb cb : Nat} {body : List Int} (h : FrIn W F xw lw cw ws xb lb cb body) (hb : Below W.heap.size W W') : FrIn W' F xw lw cw ws xb lb cb body :=
  ⟨h.prev, h.mac, h.wraps, h.body_, h.hw.below hb, h.hb.below hb, h.inF, h.inW, h.inB⟩
theorem frameL_length (F : Fr) (ws : List Wp) (body : List Int) (hp : F.prev.length = 32) (hm : F.mac.length = 32) (h : ∀ e ∈ ws, e.data.length = 48) : (frameL F ws body).length = 79 + 54 * ws.length + body.length := by
  unfold frameL
  simp only [List.length_append, openL_length F ws hp h, hm]
  simp [be2]; omega
section
variable (F : Fr) (xw : Option Addr) (lw cw : Nat) (ws : List Wp) (xb : Option Addr) (lb cb : Nat) (body : List Int) (w : World)
set_option maxHeartbeats 4000000 in
theorem fSum_any (hF : FrIn w F xw lw cw ws xb lb cb body) (hKT : S.KTab w) :
    Calls Tryz.prog 11 #[.agg F.cells.toArray] w fun e w' => e = .returned (.agg (row .u8 (fsum F lw lb ws body))) ∧ Below w.heap.size w w' := by
  obtain ⟨q0, _⟩ := fr_parts F hF.prev hF.mac
  have hiF : (Tryz.prog.info? 32).map (·.size) = some F.cells.length := by rw [q0]; exact sizeFrame
  obtain ⟨Z, hZl, hZ⟩ : ∃ Z : List Int, Z.length = 32 ∧ Z = List.replicate 32 0 := ⟨_, rfl, rfl⟩
  have hD0 := (CellsAt.new w 32 F.cells).alloc (.cells (row .u8 Z) 23)
  have hr0 := Holds.new (w.alloc (.cells F.cells.toArray 32)) .u8 23 Z
  rw [World.size_alloc] at hr0
  have hB : Below w.heap.size w ((w.alloc (.cells F.cells.toArray 32)).alloc (.cells (row .u8 Z) 23)) := ((Below.refl _ _).alloc (Nat.le_refl _) _).alloc (by simp) _
  rw [hZ] at hD0 hr0 hB
  by_cases hs : lw ≤ 64 ∧ lb ≤ 4112
  · have hfs : fsum F lw lb ws body = S.sumL (frameL F ws body) := by unfold fsum; rw [if_pos hs]
    have hfl : (S.sumL (frameL F ws body)).length = 32 := S.sumL_length _
    have HFR : Veil (∀ W, Below w.heap.size w W → Calls Tryz.prog 14 #[.agg F.cells.toArray] W fun e w' => ∃ v, e = .returned (.tuple #[v, .int .i64 0]) ∧ OwnB w' W.heap.size v (frameL F ws body) ∧ Below W.heap.size W w') := ⟨fun W hb => Frame_any F xw lw cw ws xb lb cb body W hF.prev hF.mac hF.wraps (hF.hw.below hb) hF.body_ (hF.hb.below hb) hs.1 hs.2⟩
    have hlen := frameL_length F ws body hF.prev hF.mac hF.hw.ok
    have h1 := hF.hw.len_eq
    have h2 := hF.hb.len_eq
    have HSM : Veil (∀ W x n c, Below w.heap.size w W → Bytes W x n c (frameL F ws body) → Calls Tryz.prog 32 #[.slice x n c] W fun e w' => e = .returned (.agg (row .u8 (S.sumL (frameL F ws body)))) ∧ Below W.heap.size W w') := ⟨fun W x n c hb hz => S.sum_any x n c _ W hz.toSf (by have := hz.len_eq; omega) (hKT.below hb)⟩
    clear hlen h1 h2
    rw [hfs]
    clear hfs hF hKT q0
    generalize S.sumL (frameL F ws body) = SM at hfl HSM ⊢
    generalize frameL F ws body = FL at HSM HFR
    go_enter Tryz.func11, Tryz.ntmps11
    go_upto_region 1 with fail
    refine forget (p := fun y => Code.wp _ _ _ _ y) (fun W => Below w.heap.size w W ∧ CellsAt W w.heap.size 32 F.cells ∧ Holds W (w.heap.size + 1) .u8 23 Z) ⟨hB, hD0, by rw [hZ]; exact hr0⟩ ?_
    clear hB hD0 hr0 hZ
    rintro W ⟨hB, hD0, hr0⟩
    have hfr := HFR.out W hB
    have rF : W.rangeAt w.heap.size 0 F.cells := fun j v hv => by rw [Nat.zero_add, hD0.cell]; exact hv
    go_upto_region 2 with (first
      | (refine wpList_ldv rfl 32 _ rfl _ _ rfl F.cells rF Tryz.underlying32 rfl hiF ?_)
      | (go_at_call 14; refine hfr.mono ?_; rintro e w1 ⟨v1, rfl, ho1, hb1⟩; obtain ⟨x1, n1, c1, rfl, -⟩ := ho1.isSlice))
    have hB1 := hB.trans (hb1.mono hB.size)
    have hsum := HSM.out w1 x1 n1 c1 hB1 ho1.bytes.2
    have hr1 := hr0.below hb1 hr0.lt
    clear hfr ho1 HSM HFR hD0 hr0 rF hB hb1 hiF
    go_wp2_with (first
      | (go_at_call 32; refine hsum.mono ?_; rintro e w2 ⟨rfl, hb2⟩; have hr2 := hr1.below hb2 hr1.lt)
      | (refine wpList_st rfl 23 _ _ rfl _ rfl rfl hr2 (by rw [hfl]; exact sizeKeyH) (by rw [hfl, hZl]) ?_))
    refine bodyPost_ret (results_holds (Tryz.results11) _ rfl (hr2.setRow SM) Tryz.underlying23 sizeKeyH hfl) rfl ⟨rfl, ?_⟩
    exact below_setRow (hB1.trans (hb2.mono hB1.size)) (by omega) _
  · have hfs : fsum F lw lb ws body = List.replicate 32 0 := by unfold fsum; rw [if_neg hs]
    have HFR := fun W => Frame_long F xw lw cw xb lb cb W hF.prev hF.mac hF.wraps hF.body_ (by omega)
    rw [hfs]
    clear hF hKT q0 hfs
    go_enter Tryz.func11, Tryz.ntmps11
    go_upto_region 1 with fail
    refine forget (p := fun y => Code.wp _ _ _ _ y) (fun W => Below w.heap.size w W ∧ CellsAt W w.heap.size 32 F.cells ∧ Holds W (w.heap.size + 1) .u8 23 Z) ⟨hB, hD0, by rw [hZ]; exact hr0⟩ ?_
    clear hB hD0 hr0
    rintro W ⟨hB, hD0, hr0⟩
    have hfr := HFR W
    have rF : W.rangeAt w.heap.size 0 F.cells := fun j v hv => by rw [Nat.zero_add, hD0.cell]; exact hv
    clear HFR
    clear hZ
    go_upto_region 3 with (first
      | (refine wpList_ldv rfl 32 _ rfl _ _ rfl F.cells rF Tryz.underlying32 rfl hiF ?_)
      | (go_at_call 14; refine hfr.mono ?_; rintro e w1 ⟨rfl, hb1⟩))
    have hr1 := hr0.below hb1 hr0.lt
    have hB1 := hB.trans (hb1.mono hB.size)
    clear hfr rF hD0 hr0 hB hb1 hiF
    go_wp2_with (first
      | (refine wpList_st rfl 23 _ _ rfl _ rfl (k := .u8) (l := List.replicate 32 0) (by kernel_rfl) hr1 (by kernel_rfl) hZl ?_))
    refine bodyPost_ret (results_holds (Tryz.results11) _ rfl (hr1.setRow (List.replicate 32 0)) Tryz.underlying23 sizeKeyH rfl) rfl ⟨rfl, ?_⟩
    exact below_setRow hB1 (by omega) _
end
theorem wraps_nilT (W : World) : WrapsAt W none 0 0 [] := ⟨rfl, by omega, by omega, fun _ => rfl, by simp, .inl rfl⟩
def tF (own n : Int) (prev : List Int) : Fr := ⟨own, n, 0, 0, prev, .slice none 0 0, .slice none 0 0, []⟩
def tBody (k : List Int) (own n : Int) (prev : List Int) (E : Ev) : List Int := sbodyL k (tF own n prev) [] E
def tMac (seed k : List Int) (own n : Int) (prev : List Int) (E : Ev) : List Int := ftagL seed (tF own n prev) [] (tBody k own n prev E)
def tG (seed k : List Int) (own n : Int) (prev : List Int) (E : Ev) : Fr := ⟨own, n, 0, 0, prev, .slice none 0 0, .slice none 0 0, tMac seed k own n prev E⟩
def tFrm (seed k : List Int) (own n : Int) (prev : List Int) (E : Ev) : List Int := frameL (tG seed k own n prev E) [] (tBody k own n prev E)
def tSum (seed k : List Int) (own n : Int) (prev : List Int) (E : Ev) : List Int := S.sumL (tFrm seed k own n prev E)
structure TFr (W : World) (seed k : List Int) (own n : Int) (prev : List Int) (E : Ev) (F : Fr) : Prop where
  frin : ∃ xw cw xb cb, FrIn W F xw 0 cw [] xb 144 cb (tBody k own n prev E)
  author : F.author = own
  number : F.number = n
  ea : F.ea = 0
  es : F.es = 0
  prv : F.prev = prev
  mac : F.mac = tMac seed k own n prev E
theorem TFr.below {W V : World} {seed k : List Int} {own n : Int} {prev : List Int} {E : Ev} {F : Fr} (h : TFr W seed k own n prev E F) (hb : Below W.heap.size W V) : TFr V seed k own n prev E F := by
  obtain ⟨xw, cw, xb, cb, hF⟩ := h.frin
  exact ⟨⟨xw, cw, xb, cb, hF.below hb⟩, h.author, h.number, h.ea, h.es, h.prv, h.mac⟩
theorem openL_t {F G : Fr} (h1 : F.author = G.author) (h2 : F.number = G.number) (h3 : F.ea = G.ea) (h4 : F.es = G.es) (h5 : F.prev = G.prev) (ws : List Wp) : openL F ws = openL G ws := by
  unfold openL
  rw [h1, h2, h3, h4, h5]
theorem sbodyL_t {F : Fr} {k : List Int} {own n : Int} {prev : List Int} {E : Ev} (h1 : F.author = own) (h2 : F.number = n) (h3 : F.ea = 0) (h4 : F.es = 0) (h5 : F.prev = prev) : sbodyL k F [] E = tBody k own n prev E := by
  unfold tBody sbodyL
  rw [openL_t (F := F) (G := tF own n prev) h1 h2 h3 h4 h5, h1, h2]
  rfl
theorem TFr.fsum {W : World} {seed k : List Int} {own n : Int} {prev : List Int} {E : Ev} {F : Fr} (h : TFr W seed k own n prev E F) : fsum F 0 144 [] (tBody k own n prev E) = tSum seed k own n prev E := by
  unfold Go.Proofs.YtlhajphjppjlgaaGreatDoor.fsum tSum tFrm frameL
  rw [if_pos ⟨by omega, by omega⟩, openL_t (F := F) (G := tG seed k own n prev E) h.author h.number h.ea h.es h.prv, h.mac]
  rfl
theorem TFr.Sum {V : World} {seed k : List Int} {own n : Int} {prev : List Int} {E : Ev} {F : Fr} (h : TFr V seed k own n prev E F) (hKT : S.KTab V) :
    Calls Tryz.prog 11 #[.agg F.cells.toArray] V fun e w'' => e = .returned (.agg (row .u8 (tSum seed k own n prev E))) ∧ Below V.heap.size V w'' := by
  obtain ⟨xw, cw, xb, cb, hF⟩ := h.frin
  have := fSum_any F xw 0 cw [] xb 144 cb _ V hF hKT
  rw [h.fsum] at this
  exact this
theorem tSum_length (seed k : List Int) (own n : Int) (prev : List Int) (E : Ev) : (tSum seed k own n prev E).length = 32 := S.sumL_length _
theorem TFr.cells {W : World} {seed k : List Int} {own n : Int} {prev : List Int} {E : Ev} {F : Fr} (h : TFr W seed k own n prev E F) : F.cells.length = 70 ∧ (∀ v ∈ F.cells, v.oneCell' = true) ∧ ∃ xb cb, F.cells[37]? = some (.slice xb 144 cb) := by
  obtain ⟨xw, cw, xb, cb, hF⟩ := h.frin
  obtain ⟨f70, _, _, _, _, _, f37, _⟩ := fr_parts F hF.prev hF.mac
  rw [hF.body_] at f37
  refine ⟨f70, fun v hv => ?_, xb, cb, f37⟩
  simp only [Fr.cells, dotC, List.mem_append, List.mem_cons, List.not_mem_nil, or_false, List.mem_map, hF.wraps, hF.body_] at hv
  rcases hv with ((((rfl | rfl) | rfl | rfl) | ⟨x, _, rfl⟩) | rfl | rfl) | ⟨x, _, rfl⟩ <;> rfl
structure TFrO (W : World) (base : Nat) (seed k : List Int) (own n : Int) (prev : List Int) (E : Ev) (F : Fr) : Prop where
  at_ : ∃ xw cw xb cb, ∀ V : World, (∀ j, base ≤ j → j < W.heap.size → V.heap[j]? = W.heap[j]?) → FrIn V F xw 0 cw [] xb 144 cb (tBody k own n prev E)
  author : F.author = own
  number : F.number = n
  ea : F.ea = 0
  es : F.es = 0
  prv : F.prev = prev
  mac : F.mac = tMac seed k own n prev E
theorem TFrO.toT {W : World} {base : Nat} {seed k : List Int} {own n : Int} {prev : List Int} {E : Ev} {F : Fr} (h : TFrO W base seed k own n prev E F) : TFr W seed k own n prev E F := by
  obtain ⟨xw, cw, xb, cb, hF⟩ := h.at_
  exact ⟨⟨xw, cw, xb, cb, hF W (fun _ _ _ => rfl)⟩, h.author, h.number, h.ea, h.es, h.prv, h.mac⟩
theorem TFrO.keep {W V : World} {base base' : Nat} {seed k : List Int} {own n : Int} {prev : List Int} {E : Ev} {F : Fr} (h : TFrO W base seed k own n prev E F) (hsz : W.heap.size ≤ V.heap.size) (hbb : base' ≤ base) (hk : ∀ j, base ≤ j → j < W.heap.size → V.heap[j]? = W.heap[j]?) : TFrO V base' seed k own n prev E F := by
  obtain ⟨xw, cw, xb, cb, hF⟩ := h.at_
  exact ⟨⟨xw, cw, xb, cb, fun V' hV => hF V' (fun j h1 h2 => (hV j (by omega) (by omega)).trans (hk j h1 h2))⟩, h.author, h.number, h.ea, h.es, h.prv, h.mac⟩
theorem TFrO.below {W V : World} {base : Nat} {seed k : List Int} {own n : Int} {prev : List Int} {E : Ev} {F : Fr} (h : TFrO W base seed k own n prev E F) (hb : Below W.heap.size W V) : TFrO V base seed k own n prev E F := h.keep hb.size (Nat.le_refl _) (fun j _ h2 => hb.block j h2)
theorem tsealO_any (base H : Nat) (own : Int) (seed : List Int) (b : Nat) (M : Int → Int → Option (List Int)) (v : Value) (L : List (Int × Int)) (W : World) (n : Int) (prev : List Int) (E : Ev) (k : List Int)
    (hR : RingAt W base H own seed b M v L) (hKT : S.KTab W) (hBT : BTab W) (hp : prev.length = 32) (hpi : ∀ x ∈ prev, in8 x) (hE : E.In) (hown : 0 ≤ own ∧ own < 8) (hM : M 0 0 = some k) (hn : mayB n = true) (hn32 : in32 n) (hr : rightB E = true) (hda : E.da = own) (hds : E.ds = n) :
    Calls Tryz.prog 24 #[.pointer (some ⟨H, 0, none⟩), .int .u32 n, .agg (row .u8 prev), .agg (dotC 0 0).toArray, .slice none 0 0, .agg E.cells.toArray] W fun e w' => ∃ F : Fr, e = .returned (.tuple #[.agg F.cells.toArray, .int .i64 0]) ∧ TFrO w' W.heap.size seed k own n prev E F ∧ Below W.heap.size W w' := by
  refine (Seal_any base H own seed b M v L W n none 0 0 [] 0 0 prev E hR hKT hBT (wraps_nilT W) hp hE ⟨⟨by omega, by omega⟩, by omega, by omega⟩ ⟨hown.1, by omega⟩).mono ?_
  have h0 : sealE n 0 E own (M 0 0) = 0 := by rw [hM]; exact seal_of hn (by omega) hr hda hds hown.2
  rintro e w' ⟨hs | hs, hb'⟩
  · exact absurd h0 hs.1
  · obtain ⟨_, F, k', hk, he, hf, fa, fn, fea, fes, fp, fm⟩ := hs
    rw [hM] at hk
    obtain rfl := Option.some.inj hk
    obtain ⟨xw, cw, xb, cb, hq⟩ := hf.at_
    have hIn : F.In := ⟨by rw [fa]; exact ⟨hown.1, by omega⟩, by rw [fn]; exact hn32, by rw [fea]; exact ⟨by decide, by decide⟩, by rw [fes]; exact ⟨by decide, by decide⟩, fun x hx => by rw [fp] at hx; exact hpi x hx, fun x hx => by rw [fm] at hx; exact ftagL_in _ _ _ _ x hx⟩
    have hsb := sbodyL_t (k := k) (E := E) fa fn fea fes fp
    have hbi := sbodyL_in (k := k) (ws := []) hIn (by simp) (by decide) hE
    rw [hsb] at hq hbi fm
    refine ⟨F, he, ⟨⟨xw, cw, xb, cb, fun V hV => ⟨(hq V hV).prev, (hq V hV).mac, (hq V hV).wraps, (hq V hV).body_, (hq V hV).hw, (hq V hV).hb, hIn, by simp, hbi⟩⟩, fa, fn, fea, fes, fp, ?_⟩, hb'⟩
    rw [fm]
    unfold tMac ftagL
    rw [openL_t (F := F) (G := tF own n prev) fa fn fea fes fp, fa]
    rfl
def evT0 (n o : Nat) : Ev := ⟨0, (n : Int), [0, 0, 0, 0, 0, 0, 0, 0], 3, 0, 0, false, 0, (o : Int), 1⟩
def evT (n o : Nat) : Ev := ⟨0, (n : Int), [(n : Int) - 1, 0, 0, 0, 0, 0, 0, 0], 3, 0, 0, false, 0, (o : Int), 1⟩
theorem evT_right (n o : Nat) (h1 : 1 ≤ n) (h2 : n ≤ 256) (ho : o < 8) : rightB (evT n o) = true := by
  have e1 : (n : Int) ≤ 1048576 := by omega
  have e2 : ¬ n = 0 := by omega
  have e3 : (n : Int) - 1 ≤ 1048576 := by omega
  have e4 : (o : Int) < 8 := by omega
  unfold rightB rightDotB rightKB noTextB evT
  simp [pastTo, e1, e2, e3, e4]
theorem evT_in (n o : Nat) (h1 : 1 ≤ n) (h2 : n ≤ 256) (ho : o < 8) : (evT n o).In :=
  ⟨show in8 0 from ⟨by decide, by decide⟩, ⟨by show (0 : Int) ≤ (n : Int); omega, by show (n : Int) ≤ 4294967295; omega⟩, rfl, fun x hx => by
    have : x ∈ ([(n : Int) - 1, 0, 0, 0, 0, 0, 0, 0] : List Int) := hx
    simp only [List.mem_cons, List.not_mem_nil, or_false, or_self] at this
    rcases this with rfl | rfl
    · exact ⟨by omega, by omega⟩
    · exact ⟨by decide, by decide⟩, show in8 3 from ⟨by decide, by decide⟩, show in8 0 from ⟨by decide, by decide⟩, show in32 0 from ⟨by decide, by decide⟩, show in8 0 from ⟨by decide, by decide⟩, ⟨by show (0 : Int) ≤ (o : Int); omega, by show (o : Int) ≤ 255; omega⟩, show in8 1 from ⟨by decide, by decide⟩⟩
set_option maxHeartbeats 16000000 in
theorem told_any (base H b : Nat) (v : Value) (seed k : List Int) (hk : newM 0 seed 0 0 = some k) (n : Nat) (hn1 : 1 ≤ n) (hn2 : n ≤ 256) (prev : List Int) (hp : prev.length = 32) (hpi : ∀ x ∈ prev, in8 x) (m : Nat) (hm : m ≤ 255) (w : World) (hR : RingAt w base H 0 seed b (newM 0 seed) v (newD 0)) (hKT : S.KTab w) (hBT : BTab w) :
    Calls Tryz.prog 6 #[.pointer (some ⟨H, 0, none⟩), .int .u32 (n : Int), .agg (prev.map (Value.int .u8)).toArray, .int .u8 (m : Int)] w fun e w' => ∃ F : Fr, e = .returned (.tuple #[.agg F.cells.toArray, .bool true]) ∧ TFrO w' w.heap.size seed k 0 (n : Int) prev (evT n (m % 8)) F ∧ Below w.heap.size w w' := by
  obtain ⟨Z, hzv, hzv1, hZ⟩ : ∃ Z : List Value, (∀ wx, (zeroValue 32).run Tryz.prog wx = .ok (.agg Z.toArray) wx) ∧ ¬ Z.toArray = #[] ∧ Z.length = 70 := ⟨frZ1.cells, fun wx => by kernel_rfl, by decide, rfl⟩
  obtain ⟨EZ, hzE, hz1, hZ17⟩ : ∃ Z : List Value, (∀ wx, (zeroValue 76).run Tryz.prog wx = .ok (.agg Z.toArray) wx) ∧ ¬ Z.toArray = #[] ∧ Z.length = 17 := ⟨evZ.cells, fun wx => by kernel_rfl, by decide, rfl⟩
  have hA := (CellsAt.new w 23 (prev.map (Value.int .u8))).alloc (.cells Z.toArray 32)
  have hO := CellsAt.new (w.alloc (.cells (prev.map (Value.int .u8)).toArray 23)) 32 Z
  rw [World.size_alloc] at hO
  have hb0 : Below w.heap.size w ((w.alloc (.cells (prev.map (Value.int .u8)).toArray 23)).alloc (.cells Z.toArray 32)) := ((Below.refl _ _).alloc (Nat.le_refl _) _).alloc (by simp) _
  obtain ⟨o, ho⟩ : ∃ o, m % 8 = o := ⟨_, rfl⟩
  have ho8 : o < 8 := by omega
  have hrem : (m : Int).tmod 8 = (o : Int) := by rw [Int.tmod_eq_emod_of_nonneg (by omega), ← ho]; rfl
  rw [ho]
  have hmay : mayB (n : Int) = true := by unfold mayB; simp; omega
  have HOW : Veil (∀ W, Below w.heap.size w W → Calls Tryz.prog 23 #[.pointer (some ⟨H, 0, none⟩)] W fun e w' => e = .returned (.int .u8 0) ∧ Below W.heap.size W w') := ⟨fun W hb => (rOwn_any base H 0 seed b (newM 0 seed) v (newD 0) W (hR.far hb)).mono fun e w' ⟨he, hw⟩ => ⟨he, by rw [hw]; exact Below.refl _ _⟩⟩
  have HSL : Veil (∀ W, Below w.heap.size w W → Calls Tryz.prog 24 #[.pointer (some ⟨H, 0, none⟩), .int .u32 (n : Int), .agg (prev.map (Value.int .u8)).toArray, .agg (dotC 0 0).toArray, .slice none 0 0, .agg (evT n o).cells.toArray] W fun e w' => ∃ F : Fr, e = .returned (.tuple #[.agg F.cells.toArray, .int .i64 0]) ∧ TFrO w' W.heap.size seed k 0 (n : Int) prev (evT n o) F ∧ F.cells.length = 70 ∧ (∀ v ∈ F.cells, v.oneCell' = true) ∧ Below W.heap.size W w') := ⟨fun W hb => (tsealO_any base H 0 seed b (newM 0 seed) v (newD 0) W (n : Int) prev (evT n o) k (hR.far hb) (hKT.below hb) (hBT.below hb) hp hpi (evT_in n o hn1 hn2 ho8) ⟨by omega, by omega⟩ hk hmay ⟨by omega, by omega⟩ (evT_right n o hn1 hn2 ho8) rfl rfl).mono fun e w' ⟨F, he, hT, hb'⟩ => ⟨F, he, hT, hT.toT.cells.1, hT.toT.cells.2.1, hb'⟩⟩
  have HB0 : Veil (∀ wx, (Instr.build 28 #[]).run Tryz.prog wx = .ok (.agg (dotC 0 0).toArray) wx) := ⟨fun wx => run_build wx _ _ _ (by kernel_rfl)⟩
  have HB1 : Veil (∀ wx, (Instr.build 28 #[(0, .int .u8 0), (1, .int .u32 (n : Int))]).run Tryz.prog wx = .ok (.agg (dotC 0 (n : Int)).toArray) wx) := ⟨fun wx => run_build wx _ _ _ (by kernel_rfl)⟩
  have HB2 : Veil (∀ wx, (Instr.build 76 #[(0, .agg (dotC 0 (n : Int)).toArray), (2, .int .u8 3), (6, .int .u8 (o : Int)), (7, .int .u8 1)]).run Tryz.prog wx = .ok (.agg (evT0 n o).cells.toArray) wx) := ⟨fun wx => run_build wx _ _ _ (by kernel_rfl)⟩
  have HS2 : Veil ((evT0 n o).cells.set 2 (.int .u32 ((n : Int) - 1)) = (evT n o).cells) := ⟨rfl⟩
  have h1E0 := ev_one (evT0 n o)
  have iE0 : (Tryz.prog.info? 76).map (·.size) = some (evT0 n o).cells.length := sizeEvZ (evT0 n o) rfl
  have iE : (Tryz.prog.info? 76).map (·.size) = some (evT n o).cells.length := sizeEvZ (evT n o) rfl
  have hE17 : (evT0 n o).cells.length = 17 := rfl
  have hc2 : (evT0 n o).cells[2]? = some (.int .u32 0) := rfl
  have wn1 : IntKind.u32.wrap ((n : Int) - 1) = (n : Int) - 1 := by rw [IntKind.wrap_u32]; omega
  have iP : (Tryz.prog.info? 23).map (·.size) = some (prev.map (Value.int .u8)).length := by rw [List.length_map, hp]; exact sizeKeyH
  have iZ : (Tryz.prog.info? 32).map (·.size) = some 70 := sizeFrame
  have uK := Tryz.underlying23
  have uF := Tryz.underlying32
  have uE := Tryz.underlying76
  have hm0 : (0 : Int) ≤ (m : Int) := by omega
  clear hR hKT hBT hp hpi hk hm hmay ho hn1 hn2
  generalize hPV : prev.map (Value.int .u8) = PV at hA hO hb0 HSL iP ⊢
  clear hPV
  generalize (evT n o).cells = EC at HSL HS2 iE
  generalize (evT0 n o).cells = EC0 at HB2 HS2 h1E0 iE0 hE17 hc2
  go_enter Tryz.func6, Tryz.ntmps6
  go_upto_region 1 with fail
  refine forget (p := fun y => Code.wp _ _ _ _ y) (fun W => Below w.heap.size w W ∧ CellsAt W w.heap.size 23 PV ∧ CellsAt W (w.heap.size + 1) 32 Z) ⟨hb0, hA, hO⟩ ?_
  clear hb0 hA hO
  rintro W ⟨hb, hA, hO⟩
  have how := HOW.out W hb
  go_upto_region 2 with (first
    | (go_at_call 23; refine how.mono ?_; rintro e w1 ⟨rfl, hb1⟩; have hE1 := CellsAt.new w1 76 EZ; clear how)
    | (refine wpList_bldx rfl 28 _ rfl #[(0, .int .u8 0), (1, .int .u32 (n : Int))] (by first | rfl | kernel_rfl) _ (HB1.out _) ?_)
    | (refine wpList_bldx rfl 76 _ rfl #[(0, .agg (dotC 0 (n : Int)).toArray), (2, .int .u8 3), (6, .int .u8 (o : Int)), (7, .int .u8 1)] (by first | rfl | kernel_rfl) _ (HB2.out _) ?_)
    | (refine wpList_stv rfl 76 _ _ rfl _ rfl rfl hE1 iE0 (by rw [hZ17, hE17]) h1E0 ?_))
  have hb2 : Below w1.heap.size w1 ((w1.alloc (.cells EZ.toArray 76)).setRow w1.heap.size EC0.toArray) := below_setRow ((Below.refl _ _).alloc (Nat.le_refl _) _) (Nat.le_refl _) _
  have hb12 := hb1.trans (hb2.mono hb1.size)
  have hs1 := hb1.size
  have hOlt := hO.lt
  refine forget (p := fun y => Code.wp _ _ _ _ y) (fun V => Below w.heap.size w V ∧ CellsAt V w.heap.size 23 PV ∧ CellsAt V (w.heap.size + 1) 32 Z ∧ CellsAt V w1.heap.size 76 EC0) ⟨hb.trans (hb12.mono hb.size), hA.farM hb12, hO.farM hb12, hE1.setRow EC0⟩ ?_
  clear hb hA hO hb1 hb2 hb12 hE1 HB1 HB2
  obtain ⟨G, hG⟩ : ∃ q, w1.heap.size = q := ⟨_, rfl⟩
  have hGl : w.heap.size + 2 ≤ G := by omega
  rw [hG]
  clear hG hs1 hOlt
  clear w1 W
  rintro W ⟨hb, hA, hO, hE⟩
  have how := HOW.out W hb
  have HEF : Veil (∀ V, Below W.heap.size W V → V.cell? ⟨G, 2, none⟩ = some (.int .u32 0) ∧ V.frozen? ⟨G, 2, none⟩ = false) := ⟨fun V h => ⟨((hE.farM h).cell 2).trans hc2, (hE.farM h).frozen 2⟩⟩
  go_upto_region 3 with (first
    | (go_at_call 23; refine how.mono ?_; rintro e w1 ⟨rfl, hb1⟩; obtain ⟨c2, fz2⟩ := HEF.out w1 hb1; clear how))
  have hE3 := (hE.farM hb1).set 2 (.int .u32 ((n : Int) - 1))
  rw [HS2.out] at hE3
  have hB1 := hb.trans (hb1.mono hb.size)
  refine forget (p := fun y => Code.wp _ _ _ _ y) (fun V => Below w.heap.size w V ∧ CellsAt V w.heap.size 23 PV ∧ CellsAt V (w.heap.size + 1) 32 Z ∧ CellsAt V G 76 EC) ⟨hB1.setCell (p := ⟨G, 2, none⟩) (by show w.heap.size ≤ G; omega) _, (hA.farM hb1).setOther2 _ _ (by show w.heap.size ≠ G; omega), (hO.farM hb1).setOther2 _ _ (by show w.heap.size + 1 ≠ G; omega), hE3⟩ ?_
  clear hb hA hO hE hb1 hE3 hB1 HEF c2 fz2
  clear w1 W
  rintro W ⟨hb, hA, hO, hE⟩
  have hsl := HSL.out W hb
  have rP := hA.wholeM
  have rE := hE.wholeM
  go_upto_region 4 with (first
    | (refine wpList_ldv rfl 23 _ rfl _ _ rfl PV rP uK rfl iP ?_)
    | (refine wpList_bldx rfl 28 #[] rfl #[] (by first | rfl | kernel_rfl) _ (HB0.out _) ?_)
    | (refine wpList_ldv rfl 76 _ rfl _ _ rfl EC rE uE rfl iE ?_)
    | (go_at_call 24; refine hsl.mono ?_; rintro e w2 ⟨F, rfl, hT, hFl, h1F, hb2⟩; have hG2 := CellsAt.new w2 32 Z; have iF : (Tryz.prog.info? 32).map (·.size) = some F.cells.length := (by rw [hFl]; exact sizeFrame); have HT := Veil.mk hT; clear hsl hT)
    | (refine wpList_stv rfl 32 _ _ rfl _ rfl rfl hG2 iF (by rw [hZ, hFl]) h1F ?_))
  have hb3 : Below w2.heap.size w2 ((w2.alloc (.cells Z.toArray 32)).setRow w2.heap.size F.cells.toArray) := below_setRow ((Below.refl _ _).alloc (Nat.le_refl _) _) (Nat.le_refl _) _
  have hb23 := hb2.trans (hb3.mono hb2.size)
  have hs2 := hb2.size
  have hlO := hO.lt
  have hWs : w.heap.size + 2 ≤ W.heap.size := by omega
  refine forget (p := fun y => Code.wp _ _ _ _ y) (fun V => Below w.heap.size w V ∧ CellsAt V (w.heap.size + 1) 32 Z ∧ CellsAt V w2.heap.size 32 F.cells ∧ Below w2.heap.size w2 V) ⟨hb.trans (hb23.mono hb.size), hO.farM hb23, hG2.setRow _, hb3⟩ ?_
  clear hb hA hO hE rP rE hb2 hb3 hb23 hG2
  obtain ⟨G2, hG2⟩ : ∃ q, w2.heap.size = q := ⟨_, rfl⟩
  have hGG : w.heap.size + 2 ≤ G2 := by omega
  rw [hG2]
  have HG2 := Veil.mk hG2
  clear hG2 hs2 hlO
  have HT2 : Veil (∀ V, Below w2.heap.size w2 V → TFrO (V.setRow (w.heap.size + 1) F.cells.toArray) w.heap.size seed k 0 (n : Int) prev (evT n o) F) := ⟨fun V hV => (HT.out.below hV).keep (by simp [World.setRow]) (by omega) (fun j h1 h2 => setRow_other _ _ _ _ (by omega))⟩
  clear HT
  rintro V ⟨hb, hO, hG, hb2⟩
  have rG := hG.wholeM
  have HTV := Veil.mk (HT2.out V (by rw [HG2.out]; exact hb2))
  have hO1 := hO
  clear HT2 hb2
  go_wp2_with (first
    | (refine wpList_ldv rfl 32 _ rfl _ _ rfl F.cells rG uF rfl iF ?_)
    | (refine wpList_stv rfl 32 _ _ rfl _ rfl rfl hO1 iF (by rw [hZ, hFl]) h1F ?_))
  refine bodyPost_ret (results_ct (Tryz.results6) _ rfl rfl (hO1.setRow F.cells) Tryz.underlying32 rfl iF) rfl ⟨F, rfl, HTV.out, ?_⟩
  exact below_setRow hb (by omega) _
end Go.Proofs.YtlhajphjppjlgaaGreatDoor
