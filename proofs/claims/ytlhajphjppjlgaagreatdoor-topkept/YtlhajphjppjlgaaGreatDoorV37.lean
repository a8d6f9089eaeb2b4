/- Fm7 Fm8 Rd6 Fm9 Fm10 Fq Wo1 Wo3 Wo4 RefPad RefLeaf RefStepB RefSum -/
import Derived.Test.YtlhajphjppjlgaaGreatDoorV36
import Derived.Test.YtlhajphjppjlgaaGreatDoorT05
import Derived.Test.YtlhajphjppjlgaaGreatDoorT03
import Derived.Test.YtlhajphjppjlgaaGreatDoorT04
import Derived.Test.YtlhajphjppjlgaaGreatDoorT30
import Derived.Test.YtlhajphjppjlgaaGreatDoorT21
import Derived.Test.YtlhajphjppjlgaaGreatDoorT07
import Derived.Deep.RegionHeldLaw
import Derived.Deep.DeepCutAuto
import Derived.Deep.CutBlock
import Derived.Test.YtlhajphjppjlgaaGreatDoorT08
import Derived.Deep.RegionWith
namespace Go.Proofs.YtlhajphjppjlgaaGreatDoor
open Go.RowKit
set_option maxRecDepth 20000
set_option linter.unusedSimpArgs false
theorem FrOwn.less {W : World} {base base' : Nat} {F : Fr} {lw : Nat} {ws : List Wp} {lb : Nat} {body : List Int} (h : FrOwn W base F lw ws lb body) {W' : World} (hb : base' ≤ base) (hs : W.heap.size ≤ W'.heap.size) (hk : ∀ k, base ≤ k → k < W.heap.size → W'.heap[k]? = W.heap[k]?) : FrOwn W' base' F lw ws lb body := by
  obtain ⟨xw, cw, xb, cb, h⟩ := h.at_
  exact ⟨xw, cw, xb, cb, fun w2 hq => h w2 fun k h1 h2 => by rw [hq k (by omega) (by omega), hk k h1 h2]⟩
theorem FrOwn.far {W W' : World} {base : Nat} {F : Fr} {lw : Nat} {ws : List Wp} {lb : Nat} {body : List Int} (h : FrOwn W base F lw ws lb body) (hb : Below W.heap.size W W') : FrOwn W' base F lw ws lb body := h.less (Nat.le_refl _) hb.size (fun k _ h2 => hb.block k h2)
section
variable (base H : Nat) (own : Int) (seed : List Int) (b : Nat) (M : Int → Int → Option (List Int)) (v : Value) (L : List (Int × Int)) (w : World)
variable (n : Int) (xw : Option Addr) (lw cw : Nat) (ws : List Wp) (ea es : Int) (prev : List Int) (E : Ev)
theorem seal_boxes (p : Value) (Z : List Value) : SealAt (((((((w.alloc (.cells #[p] 24)).alloc (.cells #[.int .u32 n] 26)).alloc (.cells (row .u8 prev) 23)).alloc (.cells (dotC ea es).toArray 28)).alloc (.cells #[.slice xw lw cw] 29)).alloc (.cells E.cells.toArray 76)).alloc (.cells Z.toArray 32)) w.heap.size (w.heap.size + 1) (w.heap.size + 1 + 1 + 1 + 1) (w.heap.size + 1 + 1 + 1) (w.heap.size + 1 + 1) (w.heap.size + 1 + 1 + 1 + 1 + 1) p n xw lw cw ea es prev E := by
  have a0 := CellsAt.new w 24 [p]
  have a1 := CellsAt.new (w.alloc (.cells #[p] 24)) 26 [.int .u32 n]
  have a2 := CellsAt.new ((w.alloc (.cells #[p] 24)).alloc (.cells #[.int .u32 n] 26)) 23 (prev.map (Value.int .u8))
  have a3 := CellsAt.new (((w.alloc (.cells #[p] 24)).alloc (.cells #[.int .u32 n] 26)).alloc (.cells (row .u8 prev) 23)) 28 (dotC ea es)
  have a4 := CellsAt.new ((((w.alloc (.cells #[p] 24)).alloc (.cells #[.int .u32 n] 26)).alloc (.cells (row .u8 prev) 23)).alloc (.cells (dotC ea es).toArray 28)) 29 [.slice xw lw cw]
  have a5 := CellsAt.new (((((w.alloc (.cells #[p] 24)).alloc (.cells #[.int .u32 n] 26)).alloc (.cells (row .u8 prev) 23)).alloc (.cells (dotC ea es).toArray 28)).alloc (.cells #[.slice xw lw cw] 29)) 76 E.cells
  simp only [World.size_alloc] at a1 a2 a3 a4 a5
  exact ⟨((((((a0.alloc _).alloc _).alloc _).alloc _).alloc _).alloc _).cell 0, (((((a1.alloc _).alloc _).alloc _).alloc _).alloc _).cell 0, ((a4.alloc _).alloc _).cell 0, (((a3.alloc _).alloc _).alloc _).wholeM, ((((a2.alloc _).alloc _).alloc _).alloc _).wholeM, (a5.alloc _).wholeM⟩
def sealOut (w : World) (e : Ending) (w' : World) : Prop :=
  (sealE n lw E own (M ea es) ≠ 0 ∧ e = .returned (.tuple #[.agg frZ1.cells.toArray, .int .i64 (sealE n lw E own (M ea es))])) ∨ (sealE n lw E own (M ea es) = 0 ∧ ∃ (F : Fr) (k : List Int), M ea es = some k ∧ e = .returned (.tuple #[.agg F.cells.toArray, .int .i64 0]) ∧ FrOwn w' w.heap.size F lw ws 144 (sbodyL k F ws E) ∧ F.author = own ∧ F.number = n ∧ F.ea = ea ∧ F.es = es ∧ F.prev = prev ∧ F.mac = ftagL seed F ws (sbodyL k F ws E))
set_option maxHeartbeats 8000000 in
theorem Seal_any (hR : RingAt w base H own seed b M v L) (hKT : S.KTab w) (hBT : BTab w) (hws : WrapsAt w xw lw cw ws) (hp : prev.length = 32) (hE : E.In) (ho : okD ea es) (hown : 0 ≤ own ∧ own ≤ 255) :
    Calls Tryz.prog 24 #[.pointer (some ⟨H, 0, none⟩), .int .u32 n, .agg (row .u8 prev), .agg (dotC ea es).toArray, .slice xw lw cw, .agg E.cells.toArray] w fun e w' => sealOut own seed M n lw ws ea es prev E w e w' ∧ Below w.heap.size w w' := by
  obtain ⟨Z, hzv, hz1, hZ⟩ : ∃ Z : List Value, (∀ wx, (zeroValue 32).run Tryz.prog wx = .ok (.agg Z.toArray) wx) ∧ ¬ Z.toArray = #[] ∧ Z = frZ1.cells := ⟨frZ1.cells, fun wx => by kernel_rfl, by decide, rfl⟩
  have hZl : (Tryz.prog.info? 32).map (·.size) = some Z.length := by rw [hZ]; kernel_rfl
  have h70 : Z.length = 70 := by rw [hZ]; rfl
  have h1Z : ∀ v ∈ Z, v.oneCell' = true := by rw [hZ]; decide
  have hA := seal_boxes w n xw lw cw ea es prev E (.pointer (some ⟨H, 0, none⟩)) Z
  have hO := CellsAt.new ((((((w.alloc (.cells #[.pointer (some ⟨H, 0, none⟩)] 24)).alloc (.cells #[.int .u32 n] 26)).alloc (.cells (row .u8 prev) 23)).alloc (.cells (dotC ea es).toArray 28)).alloc (.cells #[.slice xw lw cw] 29)).alloc (.cells E.cells.toArray 76)) 32 Z
  simp only [World.size_alloc] at hO
  have hB : Below w.heap.size w (((((((w.alloc (.cells #[.pointer (some ⟨H, 0, none⟩)] 24)).alloc (.cells #[.int .u32 n] 26)).alloc (.cells (row .u8 prev) 23)).alloc (.cells (dotC ea es).toArray 28)).alloc (.cells #[.slice xw lw cw] 29)).alloc (.cells E.cells.toArray 76)).alloc (.cells Z.toArray 32)) := (((((((Below.refl _ _).alloc (Nat.le_refl _) _).alloc (by simp) _).alloc (by simp; omega) _).alloc (by simp; omega) _).alloc (by simp; omega) _).alloc (by simp; omega) _).alloc (by simp; omega) _
  have HST : Veil (∀ V b0 b1 b2 b3 b4 b5, Below w.heap.size w V → SealAt V b0 b1 b2 b3 b4 b5 (.pointer (some ⟨H, 0, none⟩)) n xw lw cw ea es prev E → Calls Tryz.prog 52 #[.pointer (some ⟨b0, 0, none⟩), .pointer (some ⟨b1, 0, none⟩), .pointer (some ⟨b2, 0, none⟩), .pointer (some ⟨b3, 0, none⟩), .pointer (some ⟨b4, 0, none⟩), .pointer (some ⟨b5, 0, none⟩)] V fun e w' => sealEnd own seed M n lw ws ea es prev E V e w' ∧ Below V.heap.size V w') := ⟨fun V b0 b1 b2 b3 b4 b5 hb h => sealSteps_any base H own seed b M v L V b0 b1 b2 b3 b4 b5 n xw lw cw ws ea es prev E h (hR.far hb) (hKT.below hb) (hBT.below hb) (hws.below hb) hp hE ho hown⟩
  have hmf := make_func
  by_cases h0 : sealE n lw E own (M ea es) = 0
  rotate_left
  · have HTR : Veil (∀ W b0 b1 b2 b3 b4 b5, Below w.heap.size w W → SealAt W b0 b1 b2 b3 b4 b5 (.pointer (some ⟨H, 0, none⟩)) n xw lw cw ea es prev E → Calls Tryz.prog 43 #[.func (.func 52) #[] #[.pointer (some ⟨b0, 0, none⟩), .pointer (some ⟨b1, 0, none⟩), .pointer (some ⟨b2, 0, none⟩), .pointer (some ⟨b3, 0, none⟩), .pointer (some ⟨b4, 0, none⟩), .pointer (some ⟨b5, 0, none⟩)]] W fun e w' => e = .returned (.tuple #[.agg Z.toArray, .int .i64 (sealE n lw E own (M ea es))]) ∧ Below W.heap.size W w') := ⟨fun W b0 b1 b2 b3 b4 b5 hbW h => by
      rw [hZ]
      refine triedS_bad _ _ _ _ _ _ _ W (fun V hb _ => (HST.out V b0 b1 b2 b3 b4 b5 (hbW.trans (hb.mono hbW.size)) (h.far hb)).mono ?_)
      rintro e w' ⟨h1 | h1, hb'⟩
      · exact ⟨h1.2, hb'⟩
      · exact absurd h1.1 h0⟩
    have HZ := Veil.mk hZ
    have H0 := Veil.mk h0
    clear hZ h0 HST hR hKT hBT hws hp hE ho hown
    go_enter Tryz.func24, Tryz.ntmps24
    go_upto_region 1 with fail
    refine forget (p := fun y => Code.wp _ _ _ _ y) (fun W => Below w.heap.size w W ∧ SealAt W w.heap.size (w.heap.size + 1) (w.heap.size + 1 + 1 + 1 + 1) (w.heap.size + 1 + 1 + 1) (w.heap.size + 1 + 1) (w.heap.size + 1 + 1 + 1 + 1 + 1) (.pointer (some ⟨H, 0, none⟩)) n xw lw cw ea es prev E ∧ CellsAt W (w.heap.size + 1 + 1 + 1 + 1 + 1 + 1) 32 Z) ⟨hB, hA, hO⟩ ?_
    clear hB hA hO hzv hz1
    rintro W ⟨hB, hA, hO⟩
    have htr := HTR.out W _ _ _ _ _ _ hB hA
    go_wp2_with (first
      | (go_at_call 43; refine htr.mono ?_; rintro e w1 ⟨rfl, hb1⟩; have hO1 := hO.farM hb1)
      | (refine wpList_stv rfl 32 _ _ rfl _ rfl rfl hO1 hZl rfl h1Z ?_))
    refine bodyPost_ret (results_ct (Tryz.results24) _ rfl rfl (hO1.setRow Z) Tryz.underlying32 rfl hZl) rfl ⟨Or.inl ⟨H0.out, by rw [HZ.out]; rfl⟩, ?_⟩
    exact below_setRow (hB.trans (hb1.mono hB.size)) (by omega) _
  · have HTR : Veil (∀ W b0 b1 b2 b3 b4 b5, Below w.heap.size w W → SealAt W b0 b1 b2 b3 b4 b5 (.pointer (some ⟨H, 0, none⟩)) n xw lw cw ea es prev E → Calls Tryz.prog 43 #[.func (.func 52) #[] #[.pointer (some ⟨b0, 0, none⟩), .pointer (some ⟨b1, 0, none⟩), .pointer (some ⟨b2, 0, none⟩), .pointer (some ⟨b3, 0, none⟩), .pointer (some ⟨b4, 0, none⟩), .pointer (some ⟨b5, 0, none⟩)]] W fun e w' => ∃ (F : Fr) (k : List Int), M ea es = some k ∧ e = .returned (.tuple #[.agg F.cells.toArray, .int .i64 0]) ∧ FrOwn w' W.heap.size F lw ws 144 (sbodyL k F ws E) ∧ (F.author = own ∧ F.number = n ∧ F.ea = ea ∧ F.es = es ∧ F.prev = prev ∧ F.mac = ftagL seed F ws (sbodyL k F ws E)) ∧ Below W.heap.size W w') := ⟨fun W b0 b1 b2 b3 b4 b5 hbW h => by
      refine (triedS_ok _ _ _ _ _ _ (fun cs w1 => ∃ (F : Fr) (k : List Int), cs = F.cells ∧ M ea es = some k ∧ FrOwn w1 (W.heap.size + 2) F lw ws 144 (sbodyL k F ws E) ∧ (F.author = own ∧ F.number = n ∧ F.ea = ea ∧ F.es = es ∧ F.prev = prev ∧ F.mac = ftagL seed F ws (sbodyL k F ws E))) W (fun V hb hs => (HST.out V b0 b1 b2 b3 b4 b5 (hbW.trans (hb.mono hbW.size)) (h.far hb)).mono ?_) ?_).mono ?_
      · rintro e w' ⟨h1 | h1, hb'⟩
        · exact absurd h0 h1.1
        · obtain ⟨_, F, k, hk, he, hf, hrest⟩ := h1
          rw [hs] at hf
          exact ⟨F.cells, he, ⟨F, k, rfl, hk, hf, hrest⟩, hb'⟩
      · rintro cs w' ⟨F, k, rfl, hk, hf, hrest⟩
        obtain ⟨x1, c1, x2, c2, hq⟩ := hf.at_
        have hq := hq w' (fun _ _ _ => rfl)
        refine ⟨(fr_parts F hq.prev hq.mac).1, fun v hv => ?_⟩
        simp only [Fr.cells, dotC, List.mem_append, List.mem_cons, List.not_mem_nil, or_false, List.mem_map, hq.wraps, hq.body_] at hv
        rcases hv with ((((rfl | rfl) | rfl | rfl) | ⟨x, _, rfl⟩) | rfl | rfl) | ⟨x, _, rfl⟩ <;> rfl
      · rintro e w' ⟨cs, w1, he, ⟨F, k, rfl, hk, hf, hrest⟩, hs1, hs2, hkk, hb'⟩
        exact ⟨F, k, hk, he, hf.less (by omega) (by omega) (fun j h1 h2 => hkk j (by omega) (by omega)), hrest, hb'⟩⟩
    have H0 := Veil.mk h0
    have HFC : Veil (∀ (F : Fr) (W : World) (bs : Nat) (body : List Int), FrOwn W bs F lw ws 144 body → F.cells.length = 70 ∧ ∀ v ∈ F.cells, v.oneCell' = true) := ⟨fun F W bs body hf => by
      obtain ⟨x1, c1, x2, c2, hq⟩ := hf.at_
      have hq := hq W (fun _ _ _ => rfl)
      refine ⟨(fr_parts F hq.prev hq.mac).1, fun v hv => ?_⟩
      simp only [Fr.cells, dotC, List.mem_append, List.mem_cons, List.not_mem_nil, or_false, List.mem_map, hq.wraps, hq.body_] at hv
      rcases hv with ((((rfl | rfl) | rfl | rfl) | ⟨x, _, rfl⟩) | rfl | rfl) | ⟨x, _, rfl⟩ <;> rfl⟩
    clear hZ h0 HST hR hKT hBT hws hp hE ho hown
    go_enter Tryz.func24, Tryz.ntmps24
    go_upto_region 1 with fail
    refine forget (p := fun y => Code.wp _ _ _ _ y) (fun W => Below w.heap.size w W ∧ SealAt W w.heap.size (w.heap.size + 1) (w.heap.size + 1 + 1 + 1 + 1) (w.heap.size + 1 + 1 + 1) (w.heap.size + 1 + 1) (w.heap.size + 1 + 1 + 1 + 1 + 1) (.pointer (some ⟨H, 0, none⟩)) n xw lw cw ea es prev E ∧ CellsAt W (w.heap.size + 1 + 1 + 1 + 1 + 1 + 1) 32 Z) ⟨hB, hA, hO⟩ ?_
    clear hB hA hO hzv hz1
    rintro W ⟨hB, hA, hO⟩
    have htr := HTR.out W _ _ _ _ _ _ hB hA
    clear HTR
    have hOl := hO.lt
    go_wp2_with (first
      | (go_at_call 43; refine htr.mono ?_; rintro e w1 ⟨F, k, hk, rfl, hf, hrest, hb1⟩; have hO1 := hO.farM hb1; obtain ⟨hFl, h1F⟩ := HFC.out F w1 _ _ hf; have iF : (Tryz.prog.info? 32).map (·.size) = some F.cells.length := (by rw [hFl, ← h70]; exact hZl); have HK := Veil.mk hk; have HRST := Veil.mk (And.intro hf hrest); clear htr hk hf hrest)
      | (refine wpList_stv rfl 32 _ _ rfl _ rfl rfl hO1 iF (by rw [h70, hFl]) h1F ?_))
    refine bodyPost_ret (results_ct (Tryz.results24) _ rfl rfl (hO1.setRow F.cells) Tryz.underlying32 rfl iF) rfl ⟨Or.inr ⟨H0.out, F, k, HK.out, rfl, ?_, HRST.out.2⟩, ?_⟩
    · exact HRST.out.1.less hB.size (by simp [World.setRow]) (fun j h1 h2 => setRow_other _ _ j _ (by omega))
    · exact below_setRow (hB.trans (hb1.mono hB.size)) (by omega) _
end
theorem sumL_inF (z : List Int) : ∀ v ∈ S.sumL z, 0 ≤ v ∧ v ≤ 255 := by
  unfold S.sumL S.joinL
  have : ∀ (s : List Int) (k : Nat), ∀ v ∈ S.joinK s k, 0 ≤ v ∧ v ≤ 255 := fun s k => by
    induction k with
    | zero => intro v hv; cases hv
    | succ k ih =>
      intro v hv
      rcases List.mem_append.1 hv with h | h
      · exact ih v h
      · simp only [S.bytes4, List.mem_cons, List.not_mem_nil, or_false] at h
        rcases h with rfl | rfl | rfl | rfl <;> omega
  exact this _ 8
theorem ftagL_in (seed : List Int) (F : Fr) (ws : List Wp) (body : List Int) : ∀ v ∈ ftagL seed F ws body, 0 ≤ v ∧ v ≤ 255 := sumL_inF _
section
variable (base H : Nat) (own : Int) (seed : List Int) (b : Nat) (M : Int → Int → Option (List Int)) (v : Value) (L : List (Int × Int)) (w : World)
variable (b0 b1 : Nat) (F : Fr) (xw : Option Addr) (lw cw : Nat) (ws : List Wp) (xb : Option Addr) (lb cb : Nat) (body : List Int)
end
theorem be4_in9 (n : Int) : ∀ v ∈ be4 n, b8 v := fun v hv => by
  unfold be4 at hv
  simp only [List.mem_cons, List.not_mem_nil, or_false] at hv
  rcases hv with rfl | rfl | rfl | rfl <;> constructor <;> omega
theorem openL_in9 (F : Fr) (ws : List Wp) (hF : F.In) (hi : ∀ e ∈ ws, e.In) (hw : ws.length ≤ 64) : ∀ v ∈ openL F ws, isB v := by
  intro v hv
  unfold openL dotL at hv
  simp only [List.mem_append, List.mem_cons, List.not_mem_nil, or_false] at hv
  rcases hv with ((((((rfl | rfl | rfl) | h1) | (rfl | h1)) | h1) | rfl) | h1)
  · exact ⟨by decide, by decide⟩
  · exact ⟨by decide, by decide⟩
  · exact hF.author
  · exact be4_in9 _ v h1
  · exact hF.ea
  · exact be4_in9 _ v h1
  · exact hF.prev v h1
  · exact ⟨by omega, by omega⟩
  · unfold wrapsL at h1
    obtain ⟨c, hc, hvc⟩ := List.mem_flatten.1 h1
    obtain ⟨e, he, rfl⟩ := List.mem_map.1 hc
    have h := hi e he
    unfold wrapL dotL at hvc
    simp only [List.mem_append, List.mem_cons, List.not_mem_nil, or_false] at hvc
    rcases hvc with (rfl | (rfl | h1)) | h1
    · exact h.too
    · exact h.ea
    · exact be4_in9 _ v h1
    · exact h.data v h1
section
variable (base H : Nat) (own : Int) (seed : List Int) (b : Nat) (M : Int → Int → Option (List Int)) (v : Value) (L : List (Int × Int)) (w : World)
variable (b0 b1 : Nat) (F : Fr) (xw : Option Addr) (lw cw : Nat) (ws : List Wp) (xb : Option Addr) (lb cb : Nat) (body : List Int)
end
theorem padL_in9 (z : List Int) (s : Nat) (hz : ∀ v ∈ z, b8 v) : ∀ v ∈ padL z s, b8 v := by
  intro v hv
  unfold padL at hv
  rcases List.mem_append.1 hv with h | h
  · rcases List.mem_append.1 h with h | h
    · unfold be2 at h
      simp only [List.mem_cons, List.not_mem_nil, or_false] at h
      unfold b8
      rcases h with rfl | rfl <;> omega
    · exact hz v h
  · have := (List.mem_replicate.1 h).2
    subst this
    exact ⟨by omega, by omega⟩
theorem seal_of {n : Int} {lw : Nat} {E : Ev} {own : Int} {k : List Int} (h1 : mayB n = true) (h2 : lw ≤ 64) (h3 : rightB E = true) (h4 : E.da = own) (h5 : E.ds = n) (h6 : own < 8) : sealE n lw E own (some k) = 0 := by
  unfold sealE
  rw [if_pos ⟨h1, h2⟩, if_pos (by rw [h3, h4, h5]; simp), if_pos h6]
theorem sbodyL_in {k : List Int} {F : Fr} {ws : List Wp} {E : Ev} (hF : F.In) (hi : ∀ e ∈ ws, e.In) (hw : ws.length ≤ 64) (hE : E.In) : ∀ v ∈ sbodyL k F ws E, isB v :=
  sealL_in _ _ _ _ (openL_in9 F ws hF hi hw) (padL_in9 _ _ (event_in E hE))
end Go.Proofs.YtlhajphjppjlgaaGreatDoor
namespace Go.Proofs.YtlhajphjppjlgaaGreatDoor.S
open Go.RowKit
set_option maxRecDepth 20000
def OwnW (w : World) (base : Nat) (v : Value) (l : List Int) : Prop := w.ownsRow base 26 1 v l.length (l.map (Value.int .u32))
theorem OwnW.cast {w : World} {base n : Nat} {v : Value} {z : List Int} {xs : List Value} (h : w.ownsRow base 26 1 v n xs) (hn : n = z.length) (hx : xs = z.map (Value.int .u32)) : OwnW w base v z := by
  subst hn hx; exact h
theorem OwnW.nil (w : World) (base : Nat) : OwnW w base (.slice none 0 0) [] := World.ownsRow_nil w base 26 1
theorem OwnW.alloc {w : World} {base : Nat} {v : Value} {z : List Int} (h : OwnW w base v z) (o : Obj) : OwnW (w.alloc o) base v z := World.ownsRow.alloc h o
theorem OwnW.drewN {w : World} {base : Nat} {v : Value} {z : List Int} (h : OwnW w base v z) (n : Nat) : OwnW (w.drewN n) base v z := by
  induction n with
  | zero => exact h
  | succ n ih => exact World.ownsRow.drew ih
theorem OwnW.slice {w : World} {base : Nat} {v : Value} {z : List Int} (h : OwnW w base v z) (hz : 0 < z.length) : ∃ g cap, v = .slice (some ⟨g, 0, none⟩) z.length cap ∧ base ≤ g ∧ cap ≤ 9223372036854775807 ∧ z.length ≤ cap ∧ ∀ j, j < z.length → w.cell? ⟨g, j, none⟩ = some (.int .u32 (z[j]?.getD 0)) := by
  rcases h.2 with ⟨_, h0⟩ | ⟨g, cap, cur, rfl, hb, hg, hc, hm, hs, ht⟩
  · omega
  · refine ⟨g, cap, rfl, hb, by simpa [maxLen] using hm, hc, fun j hj => ?_⟩
    rw [cell_of_row w g j _ _ _ hg, ← Array.getElem?_toList]
    have e : (cur.toList.take (z.length * 1))[j]? = (z.map (Value.int .u32))[j]? := by rw [ht]
    rw [Nat.mul_one, List.getElem?_take_of_lt hj, List.getElem?_map, List.getElem?_eq_getElem hj] at e
    rw [e, List.getElem?_eq_getElem hj]; rfl
set_option linter.unusedSimpArgs false
structure VeilR (p : Prop) : Prop where
  out : p
theorem Bytes.other {w w' : World} {g n c : Nat} {z : List Int} (h : Bytes w (some ⟨g, 0, none⟩) n c z) (hh : w'.heap[g]? = w.heap[g]?) : Bytes w' (some ⟨g, 0, none⟩) n c z := by
  refine ⟨h.len_eq, h.le, h.top, h.nil, ?_⟩
  rcases h.at_ with h0 | ⟨b, off, hx, hc⟩
  · exact .inl h0
  · cases hx
    exact .inr ⟨g, 0, rfl, fun j hj => (World.cell?_of_block (a := ⟨g, 0 + j, none⟩) hh).trans (hc j hj)⟩
end Go.Proofs.YtlhajphjppjlgaaGreatDoor.S
