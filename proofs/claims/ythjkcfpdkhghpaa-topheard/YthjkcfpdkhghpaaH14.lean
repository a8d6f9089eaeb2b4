/- Bf3 -/
import Derived.Shelf.SlSortCmp.NoneTotal
import Derived.Test.YthjkcfpdkhghpaaH09
import Derived.Test.YthjkcfpdkhghpaaH13
namespace Go.Proofs.Ythjkcfpdkhghpaa
open Go.RowKit Go.Shelf
set_option maxRecDepth 20000
set_option linter.unusedSimpArgs false
theorem cmpDot_any (x y : Int × Int) (w : World) : Calls Try.prog 37 #[.agg (dotC x.1 x.2).toArray, .agg (dotC y.1 y.2).toArray] w fun e w' => e = .returned (.int .i64 (cmpD x y)) ∧ ∃ q os', w' = Go.Sort.grow (w.drewN q) os' := by
  obtain ⟨x1, x2⟩ := x
  obtain ⟨y1, y2⟩ := y
  have h1 := fun W => cmpB_any x1 y1 W
  have h2 := fun W => cmpU_any x2 y2 W
  have HC : Veil (cmpD (x1, x2) (y1, y2) = if x1 = y1 then cmpI x2 y2 else cmpI x1 y1) := ⟨rfl⟩
  have HG : Veil (∃ q os', (w.alloc (.cells #[.int .u8 x1, .int .u32 x2] 32)).alloc (.cells #[.int .u8 y1, .int .u32 y2] 32) = Go.Sort.grow (w.drewN q) os') := ⟨0, _, by rw [Go.Sort.alloc_eq_grow, Go.Sort.alloc_eq_grow, Go.Sort.grow_grow]; rfl⟩
  generalize cmpD (x1, x2) (y1, y2) = R at HC ⊢
  generalize cmpI x1 y1 = R1 at HC h1
  generalize cmpI x2 y2 = R2 at HC h2
  simp only [dotC]
  by_cases hq : x1 = y1
  · have HR : Veil (R = R2) := ⟨by rw [HC.out, if_pos hq]⟩
    subst hq
    go_enter Try.func37, Try.ntmps37
    go_wp2_with (go_at_call 48; refine (h2 _).mono ?_; rintro e w' ⟨rfl, rfl⟩)
    go_ret
    exact ⟨by rw [HR.out]; rfl, HG.out⟩
  · have HR : Veil (R = R1) := ⟨by rw [HC.out, if_neg hq]⟩
    go_enter Try.func37, Try.ntmps37
    go_wp2_with (go_at_call 47; refine (h1 _).mono ?_; rintro e w' ⟨rfl, rfl⟩)
    go_ret
    exact ⟨by rw [HR.out]; rfl, HG.out⟩
theorem ltOf_D (x y : Int × Int) : ltOf cmpD x y = ltD x y := by
  obtain ⟨x1, x2⟩ := x
  obtain ⟨y1, y2⟩ := y
  unfold ltOf cmpD cmpI ltD
  by_cases h : x1 = y1
  · subst h
    by_cases h1 : x2 < y2
    · simp [h1]
    · by_cases h2 : y2 < x2 <;> simp [h1, h2]
  · by_cases h1 : x1 < y1
    · simp [h, h1]
    · have h2 : y1 < x1 := by omega
      simp [h, h1, h2]
theorem swoD : Go.Sort.SWO (ltOf cmpD) where
  irrefl x := by rw [ltOf_D, ltD_irrefl]
  trans x y z h1 h2 := by rw [ltOf_D] at *; exact ltD_trans h1 h2
  ntrans x y z h1 h2 := by
    rw [ltOf_D] at *
    unfold ltD at *
    simp only [Bool.or_eq_false_iff, Bool.and_eq_false_iff, decide_eq_false_iff_not] at *
    omega
theorem flatK_eq (enc : Int × Int → List Value) (hk : ∀ x, (enc x).length = 2) (d : Array (Int × Int)) : Go.Sort.flatK enc 2 d = (d.toList.map enc).flatten.toArray := by
  have hl : (d.toList.map enc).flatten.length = d.size * 2 := by
    rw [flat_len _ (fun c hc => by obtain ⟨x, _, rfl⟩ := List.mem_map.1 hc; exact hk x)]; simp
  apply Array.ext
  · simp [hl]
  · intro t h1 h2
    simp at h1
    have hj : t / 2 < (d.toList.map enc).length := by simp; omega
    have e := flat_get (d.toList.map enc) (fun c hc => by obtain ⟨x, _, rfl⟩ := List.mem_map.1 hc; exact hk x) (t / 2) hj
    have hm : t % 2 < 2 := Nat.mod_lt _ (by decide)
    have e2 : (((d.toList.map enc).flatten.drop (t / 2 * 2)).take 2)[t % 2]? = ((d.toList.map enc)[t / 2])[t % 2]? := by rw [e]
    rw [List.getElem?_take_of_lt hm, List.getElem?_drop, show t / 2 * 2 + t % 2 = t by omega] at e2
    have hd : t / 2 < d.size := by omega
    simp only [Go.Sort.flatK, Array.getElem_map, Array.getElem_range, List.getElem_toArray]
    rw [getElem!_pos d (t / 2) hd, getElem!_pos _ (t % 2) (by rw [hk]; exact hm)]
    rw [List.getElem?_eq_getElem (by rw [hl]; omega)] at e2
    simp only [List.getElem_map, Array.getElem_toList] at e2
    rw [List.getElem?_eq_getElem (by rw [hk]; exact hm)] at e2
    exact (Option.some.inj e2).symm
theorem perm_sorted_eq {A M : List (Int × Int)} (hp : A.Perm M) (hA : A.Pairwise (fun x y => ltD y x = false)) (hM : M.Pairwise (fun x y => ltD x y = true)) : A = M := by
  refine List.Perm.eq_of_pairwise (le := fun x y => ltD y x = false) (fun a b _ _ h1 h2 => ?_) hA (hM.imp fun h => ltD_asymm h) hp
  by_cases e : a = b
  · exact e
  · rcases ltD_total e with q | q
    · rw [q] at h2; cases h2
    · rw [q] at h1; cases h1
def encD (x : Int × Int) : List Value := dotC x.1 x.2
theorem sortD_any (base : Nat) (v : Value) (ds M : List (Int × Int)) (w : World) (ho : OwnI w base 32 2 v (ds.map encD)) (hp : ds.Perm M) (hM : M.Pairwise (fun x y => ltD x y = true)) (hl : ds.length ≤ 100000) :
    Calls Try.prog 58 #[v, .func (.func 37) #[] #[]] w fun e w' => e = .returned (.tuple #[]) ∧ OwnI w' base 32 2 v (M.map encD) ∧ Turn (fun k => v.ownBlock = some k) w w' := by
  have hlen : M.length = ds.length := hp.length_eq.symm
  obtain ⟨⟨hxl, hx⟩, heach⟩ := ho
  rw [List.length_map] at hx hxl
  rcases hx with ⟨rfl, h0⟩ | ⟨g, cap, cur, rfl, hb, hg, hcap, hmx, hcs, htk⟩
  · have hds : ds = [] := List.length_eq_zero_iff.1 h0
    have hMe : M = [] := List.length_eq_zero_iff.1 (by omega)
    subst hds hMe
    have hcon := AnyF.slices_SortFunc_none { sortD with } none 0 (.func (.func 37) #[] #[]) w
    change Calls Try.prog 58 _ _ _ at hcon
    refine hcon.mono ?_
    rintro e w' ⟨rfl, rfl⟩
    exact ⟨rfl, OwnI.nil _ _ _ _, Turn.refl _ _⟩
  · have eg : ∀ args w, (callFunc 37 args).run Try.prog w = .ok (.enter 37 args) w := enters_of Try.func37 (by kernel_rfl) rfl
    have hek : ∀ x : Int × Int, (encD x).length = 2 := fun _ => rfl
    have hH : Go.Sort.HoldsK encD 2 w g 0 ds.toArray := by
      unfold Go.Sort.HoldsK
      rw [flatK_eq encD hek]
      intro j hj
      simp only [List.size_toArray] at hj
      refine ⟨?_, by simp [World.frozen?, hg]⟩
      rw [cell_of_row w g _ _ _ _ hg, ← Array.getElem?_toList, Nat.zero_add]
      have h1 : (cur.toList.take (ds.length * 2))[j]? = (ds.map encD).flatten[j]? := by rw [htk]
      rw [List.getElem?_take_of_lt (by rw [← hxl]; exact hj)] at h1
      rw [h1, List.getElem?_eq_getElem hj]
      simp
      rw [List.getElem?_eq_getElem hj]
      rfl
    have hcon := AnyQ.slices_SortFunc sortD 2 Try.isAgg32 Try.sizeOf32 encD hek (fun x u hu => by simp [encD, dotC] at hu; rcases hu with rfl | rfl <;> rfl) cmpD swoD 37 #[] g 0 cap ds.toArray w eg (fun _ _ _ _ x y => cmpDot_any x y _) hH (Array.getElem?_eq_some_iff.1 hg).1 (by simp; omega)
    change Calls Try.prog 58 _ _ _ at hcon
    rw [List.size_toArray] at hcon
    refine hcon.mono ?_
    rintro e w' ⟨rfl, d', n, os, hpp, hss, rfl⟩
    have hsz : d'.size = ds.length := by have := hpp.1; simpa using this
    have hd' : d'.toList.Perm ds := by
      have := hpp.2.2
      rw [← hsz] at this
      simp only [hsz, Array.toList_extract, List.extract_eq_take_drop, Nat.sub_zero, List.drop_zero, List.take_length] at this
      rw [List.take_of_length_le (by simp [hsz])] at this
      exact this
    have hso : d'.toList.Pairwise (fun x y => ltD y x = false) := by
      rw [List.pairwise_iff_getElem]
      intro i j hi hj hij
      have := hss i j (Nat.zero_le _) hij (by simp at hj; omega)
      rw [ltOf_D] at this
      rw [getElem!_pos d' i (by simpa using hi), getElem!_pos d' j (by simpa using hj)] at this
      simpa using this
    have hMd := perm_sorted_eq (hd'.trans hp) hso hM
    have hheap : (sortWorldK encD 2 w g 0 n d' os).heap[g]? = some (.cells (Go.Sort.putCells id 0 (Go.Sort.flatK encD 2 d') cur) 32 (0, 0)) := by
      unfold sortWorldK
      have hgl : g < w.heap.size := (Array.getElem?_eq_some_iff.1 hg).1
      rw [Go.Sort.heap_grow_old _ _ (by simpa [Go.Sort.putRowK, Go.Sort.putRow, Go.Sort.mapBlock, Go.Sort.ahead] using hgl)]
      simp [Go.Sort.putRowK, Go.Sort.putRow, Go.Sort.mapBlock, Go.Sort.ahead, Array.getElem?_modify, hg, Go.Sort.onCells]
    refine ⟨rfl, ⟨⟨by rw [List.length_map, hlen, ← hxl, flat_len _ (fun c hc => by obtain ⟨x, _, rfl⟩ := List.mem_map.1 hc; exact hek x), List.length_map, hlen, hxl], .inr ⟨g, cap, _, by rw [List.length_map, hlen], hb, hheap, by rw [List.length_map, hlen]; exact hcap, hmx, by simp [Go.Sort.putCells, hcs], ?_⟩⟩, fun c hc => by obtain ⟨x, _, rfl⟩ := List.mem_map.1 hc; exact hek x⟩, ?_⟩
    · rw [flatK_eq encD hek, hMd, List.length_map]
      have hfl : (M.map encD).flatten.length = M.length * 2 := by rw [flat_len _ (fun c hc => by obtain ⟨x, _, rfl⟩ := List.mem_map.1 hc; exact hek x), List.length_map]
      apply List.ext_getElem?
      intro j
      by_cases hj : j < M.length * 2
      · rw [List.getElem?_take_of_lt hj, Array.getElem?_toList]
        have : j < cur.size := by rw [hcs]; have := Nat.mul_le_mul_right 2 hcap; omega
        simp [Go.Sort.putCells, hfl, hj, this]
      · rw [List.getElem?_take_eq_none (by omega), List.getElem?_eq_none (by omega)]
    · refine ⟨rfl, rfl, rfl, by simp [sortWorldK, Go.Sort.putRowK, Go.Sort.putRow, Go.Sort.mapBlock, Go.Sort.ahead], fun k hk hne => ?_⟩
      have hgk : g ≠ k := fun e => hne (by rw [e]; rfl)
      unfold sortWorldK
      rw [Go.Sort.heap_grow_old _ _ (by simpa [Go.Sort.putRowK, Go.Sort.putRow, Go.Sort.mapBlock, Go.Sort.ahead] using hk)]
      simp [Go.Sort.putRowK, Go.Sort.putRow, Go.Sort.mapBlock, Go.Sort.ahead, Array.getElem?_modify, hgk]
end Go.Proofs.Ythjkcfpdkhghpaa
